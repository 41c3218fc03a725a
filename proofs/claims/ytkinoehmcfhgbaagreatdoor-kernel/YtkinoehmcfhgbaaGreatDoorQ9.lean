/- A part of the proof. -/
import Derived.Test.YtkinoehmcfhgbaaGreatDoorQ5
set_option linter.unusedVariables false
set_option linter.unusedSimpArgs false
namespace Go.Proofs.YtkinoehmcfhgbaaGreatDoor.Av
open Go.RowKit
variable {toks:List (List UInt8×Nat)} {len:Nat}
def flat3 (l:List (Int×Int×Int)):List Value:=l.flatMap fun x=>[.int .i64 x.1,.int .i64 x.2.1,.int .i64 x.2.2]
theorem zjp (toks:List (List UInt8×Nat)) (len:Nat):cells3 toks++[.int .i64 0,.int .i64 (len:Int),.int .i64 0]=flat3 (T3 toks len):=by
 unfold T3 flat3 cells3;rw[List.flatMap_append,List.flatMap_map];rfl
theorem zhz (l:List (Int×Int×Int)):∀(j:Nat),j<l.length→(flat3 l)[j*3]?=some (.int .i64 (kd l j))∧(flat3 l)[j*3+1]?=some (.int .i64 (plc l j))∧(flat3 l)[j*3+2]?=some (.int .i64 (vlu l j)):=by
 induction l with
 | nil=>intro j h;simp at h
 | cons a r ih =>
  intro j h;cases j with
  | zero=>simp[flat3,kd,plc,vlu]
  | succ j =>
   simp only[List.length_cons] at h;have:=ih j (by omega);have e1:(j+1)*3=j*3+1+1+1:=by omega
   rw[e1];simpa [flat3,kd,plc,vlu] using this
theorem zlN {w:World} {base:Nat} {v:Value} {T:List (Int×Int×Int)} (h0:0<T.length) (h:w.ownsRow base 216 3 v T.length (flat3 T)) :
 ∃g cap,v=.slice (some ⟨g,0,none⟩) T.length cap∧base≤g∧g<w.heap.size∧T.length≤cap∧cap≤maxLen∧∀j,j<T.length→w.cell? ⟨g,j*3,none⟩=some (.int .i64 (kd T j))∧w.cell? ⟨g,j*3+1,none⟩=some (.int .i64 (plc T j))∧w.cell? ⟨g,j*3+2,none⟩=some (.int .i64 (vlu T j)):=by
 rcases h.2 with⟨_,h2⟩|⟨g,cap,cur,hv,hg,hh,h3,h4,h5,h6⟩
 ·omega
 ·have hlt:g<w.heap.size:=by
   rcases Nat.lt_or_ge g w.heap.size with h|h
   ·exact h
   ·rw[Array.getElem?_eq_none h] at hh;cases hh
  refine⟨g,cap,hv,hg,hlt,h3,h4,fun j hj=>?_⟩;have key:∀(o:Nat) (u:Value),o<T.length*3→(flat3 T)[o]?=some u→w.cell? ⟨g,o,none⟩=some u:=by
   intro o u ho hu;have:(cur.toList.take (T.length*3))[o]?=some u:=by rw[h6];exact hu
   rw[List.getElem?_take,if_pos ho] at this;simp[World.cell?,hh];simpa using this
  obtain⟨a1,a2,a3⟩:=zhz T j hj;exact⟨key _ _ (by omega) a1,key _ _ (by omega) a2,key _ _ (by omega) a3⟩
def σ0:PSt:={pos:=0,d:=0,e:=0,pl:=0}
theorem zlO {w:World} {g cap:Nat} {T:List (Int×Int×Int)} (hg:g<w.heap.size) (hc:T.length≤cap) (hm:cap≤maxLen)
 (hT:∀j,j<T.length→w.cell? ⟨g,j*3,none⟩=some (.int .i64 (kd T j))∧w.cell? ⟨g,j*3+1,none⟩=some (.int .i64 (plc T j))∧w.cell? ⟨g,j*3+2,none⟩=some (.int .i64 (vlu T j))) :
 At (w.alloc (.cells #[.slice (some ⟨g,0,none⟩) T.length cap,.int .i64 0,.int .i64 0,.int .i64 0,.int .i64 0] 148)) w.heap.size g cap T σ0:=by
 refine⟨by rw[asize];omega,by rw[asize];omega,by omega,hc,hm,by simp,by simp[σ0],by simp[σ0],by simp[σ0],by simp[σ0],fun o=>by simp,fun j hj=>?_⟩;obtain⟨a1,a2,a3⟩:=hT j hj;exact⟨(afar _ _ _ _ hg).trans a1,(afar _ _ _ _ hg).trans a2,(afar _ _ _ _ hg).trans a3⟩
theorem zd6 {fn:Func} {tmps:Array Value} {w:World} {k i j:Nat} {t:TypeId} {a:Addr} {v x y:Value} (hf:fn.results=#[.cell k t,.tmp i,.tmp j]) (ht:tmps.getD k undef=.pointer (some a)) (hx:tmps.getD i undef=x) (hy:tmps.getD j undef=y) (hl:(loadVar t a).run Tryz.prog w=.ok v w):(results fn tmps).run Tryz.prog w=.ok (.tuple #[v,x,y]) w:=by
 have ht':(tmps[k]?.getD undef)=.pointer (some a):=by simpa using ht
 have hx':(tmps[i]?.getD undef)=x:=by simpa using hx
 have hy':(tmps[j]?.getD undef)=y:=by simpa using hy
 simp[results,hf,ht',hx',hy',hl,asAddr]
theorem post3 {fn:Func} {R:Ending→World→Prop} {tmps:Array Value} {X:World} {B k i j n:Nat} {t:TypeId} {d:TypeDesc} {x y:Value} (cs:List Value) (hf:fn.results=#[.cell k t,.tmp i,.tmp j]) (ht:tmps.getD k undef=.pointer (some ⟨B,0,none⟩)) (hx:tmps.getD i undef=x) (hy:tmps.getD j undef=y)
 (hu:Tryz.prog.underlying t=some d) (hd:d.isRow=true) (hi:(Tryz.prog.info? t).map (·.size)=some n) (hr:Row X B n) (hl:cs.length=n)
 (hR:R (.returned (.tuple #[.agg cs.toArray,x,y])) (X.setCells B 0 cs)):bodyPost Tryz.prog fn R .ret ⟨tmps,[]⟩ (X.setCells B 0 cs) :=
 bodyPost_ret (zd6 hf ht hx hy (run_loadVar_mid _ B 0 t cs d (World.rangeAt_setCells_same X B 0 cs (by rw[hl];exact hr.there 0 n (by omega))) hu hd (by rw[hl];exact hi))) rfl hR
theorem zero15:(([.int .i64 0,.slice none 0 0,.int .i64 0,.int .i64 0,.int .i64 0,.int .i64 0,.int .i64 0,.slice none 0 0,.int .i64 0,.slice none 0 0,.int .i64 0,.int .i64 0,.int .i64 0,.int .i64 0,.int .i64 0]:List Value).all (·.oneCell'))=true:=rfl
theorem row15 (w:World):Row (w.alloc (.cells zZf 101)) w.heap.size 15:=Row.new w _ _ (List.all_eq_true.1 zero15)
theorem zai {a:World} {B:Nat} (hB:a.heap.size≤B):∀(vs:List Value) (o:Nat) (w:World),Below a.heap.size a w→Below a.heap.size a (w.setCells B o vs)
 | [],_,_,h=>h
 | v::r,o,w,h=>by
  rw[World.setCells];exact zai hB r (o+1) _ (h.setCell (p:=⟨B,o,none⟩) hB v)
theorem Row.below {w w':World} {B n:Nat} (h:Row w B n) (k:Below w.heap.size w w') (hB:B<w.heap.size):Row w' B n:=by
 obtain⟨cs,a1,a2,a3,a4⟩:=h;exact⟨cs,fun j v hv=>(k.cell (p:=⟨B,0+j,none⟩) hB).trans (a1 j v hv),a2,a3,fun o=>(k.frozen (p:=⟨B,o,none⟩) hB).trans (a4 o)⟩
theorem Row.kpOld {b B n:Nat} {w w':World} (h:Row w B n) (k:Kp b w w') (h1:B≠b) (h2:B<w.heap.size):Row w' B n:=by
 obtain⟨cs,a1,a2,a3,a4⟩:=h;exact⟨cs,fun j v hv=>(k.cell (p:=⟨B,0+j,none⟩) h2 h1).trans (a1 j v hv),a2,a3,fun o=>(k.frozen (p:=⟨B,o,none⟩) h2 h1).trans (a4 o)⟩
theorem PrR.same {k:Nat} {P:Nat→Prop} {w w':World} {v:Value} {σ':PSt} (h:PrR toks k P w v σ') (hs:Same P w w'):PrR toks k P w' v σ':=by
 obtain⟨p,c,q,y,k1,k2,k3,h1,h2,h3,h4,h5,h6,h7,⟨g,n,m,ys,g1,g2,g3⟩,h9⟩:=h;exact⟨p,c,q,y,k1,k2,k3,h1,h2,h3,h4,h5,h6,h7.same hs,⟨g,n,m,ys,g1,g2.same hs,g3.same hs⟩,h9.same hs⟩
theorem PrR.mono {k:Nat} {P P':Nat→Prop} {w:World} {v:Value} {σ':PSt} (h:PrR toks k P w v σ') (hs:∀g,P g→g<w.heap.size→P' g):PrR toks k P' w v σ':=by
 obtain⟨p,c,q,y,k1,k2,k3,h1,h2,h3,h4,h5,h6,h7,⟨g,n,m,ys,g1,g2,g3⟩,h9⟩:=h;exact⟨p,c,q,y,k1,k2,k3,h1,h2,h3,h4,h5,h6,h7.mono hs,⟨g,n,m,ys,g1,g2.mono hs,g3.mono hs⟩,h9.mono hs⟩
theorem zbR {w:World} {B:Nat} {a b:List Value} (h:w.rangeAt B 0 a) (k:w.rangeAt B 0 b) (hl:a.length=b.length):a=b:=by
 have:=zdC h k (by omega);rw[←hl,List.drop_zero,List.take_of_length_le (Nat.le_refl _)] at this;exact this
def ParseEnd (toks:List (List UInt8×Nat)) (w:World) (r:Int×Int) (e:Ending) (w':World):Prop:=∃cs:Array Value,e=.returned (.tuple #[.agg cs,.int .i64 r.1,.int .i64 r.2])∧cs.size=15∧cs.all (·.oneCell')=true∧Below w.heap.size w w'∧(r.1=0→PrR toks 0 (fun g=>w.heap.size≤g) w' (.agg cs) σ0)
def answer (s:ByteArray):Int×Int:=if s.size≤300 then want s else (1,0)
end Go.Proofs.YtkinoehmcfhgbaaGreatDoor.Av
namespace Go.Proofs.YtkinoehmcfhgbaaGreatDoor.Vl
open Go.RowKit
open Av (vr Fm Rd Tg sAt Cm Rc zab tokAt answer Row Row.new trm zar zb6)
def strV (l:List UInt8):Value:=.string ⟨l.toArray⟩
theorem zaF (a b:List UInt8):(⟨a.toArray⟩:ByteArray)++⟨b.toArray⟩=⟨(a++b).toArray⟩:=by
 rw[ByteArray.ext_iff,ByteArray.data_append];simp
theorem zcB (w:World) (b o p:Nat) (u:Value) (h:p≠o):(w.setCell ⟨b,p,none⟩ u).cell? ⟨b,o,none⟩=w.cell? ⟨b,o,none⟩:=Av.zab _ _ _ _ _ h
def tol (l:List UInt8):Bool:=decide (4000<l.length)
theorem zkS (l:List UInt8) (ys:List Sym) (h:l=sbs ys):tol l=!(decide (bl ys≤4000)):=by
 rw[h];unfold tol bl;by_cases h:(sbs ys).length≤4000
 ·rw[decide_eq_true h,decide_eq_false (by omega)];rfl
 ·rw[decide_eq_false h,decide_eq_true (by omega)];rfl
def Sh (a:ByteArray):Prop:=a.size≤100000000
theorem zd7 {P:Program} (w:World) (a b:ByteArray) (ha:Sh a) (hb:Sh b):(Op.stringOp .add a b).run P w=.ok (.string (a++b)) w :=
 run_string_add_sum w a b (by unfold Sh at ha hb;omega)
theorem zlB {l:List UInt8} (h:l.length≤100000000):Sh ⟨l.toArray⟩:=by simpa [Sh,ByteArray.size] using h
theorem zbS {a b:ByteArray} (h:a.size+b.size≤100000000):Sh (a++b):=by unfold Sh;rw[ByteArray.size_append'];exact h
def Prg (toks:List (List UInt8×Nat)) (p:Fm) (c:Cm) (q:Fm):Prop:=∃k1 k2 k3,Rd toks .form 1 p k1∧Rc toks true (k1+1) c k2∧Rd toks .form (k2+1) q k3∧k3≤toks.length
theorem zcU {s:ByteArray} (h:(answer s).1=0):s.size≤300:=by
 unfold answer at h;by_cases hs:s.size≤300
 ·exact hs
 ·rw[if_neg hs] at h;cases h
def oV (s:RS):List Value:=[.int .i64 (kn s),.int .i64 s.x1,.int .i64 s.x2,.int .i64 s.x3,.int .i64 s.x4,.int .i64 s.n]
def r0:RS:={x1:=0,x2:=0,x3:=0,x4:=0,n:=0,e:=-1}
def dAns (s:ByteArray) (x1 x2 x3 x4 fuel:Int) (c:Cm):RS×Int×Int :=
 if (answer s).1≠0 then (r0,(answer s).1,(answer s).2) else if gds x1 x2 x3 x4=false then (r0,4,0) else if fuel<0∨10000<fuel then (r0,5,0) else (ex fuel c {x1:=x1,x2:=x2,x3:=x3,x4:=x4,n:=0,e:=-1},0,0)
theorem Tryz.infoOut:(Tryz.prog.info? 41).map (·.size)=some 6:=by kernel_rfl
theorem zero6:(([.int .i64 0,.int .i64 0,.int .i64 0,.int .i64 0,.int .i64 0,.int .i64 0]:List Value).all (·.oneCell'))=true:=rfl
theorem row6 (w:World):Row (w.alloc (.cells zZg 41)) w.heap.size 6:=Row.new w _ _ (List.all_eq_true.1 zero6)
theorem zge (w:World) (u v:Obj):Below w.heap.size w ((w.alloc u).alloc v):=(zaa w _).alloc (by simp) _
theorem zjq {w w2:World} {x1 x2 x3 x4:Int} {o:Obj} {t:TypeId} (hb:Below ((w.alloc (.cells #[.int .i64 x1,.int .i64 x2,.int .i64 x3,.int .i64 x4] t)).alloc o).heap.size ((w.alloc (.cells #[.int .i64 x1,.int .i64 x2,.int .i64 x3,.int .i64 x4] t)).alloc o) w2) :
 w2.cell? ⟨w.heap.size,0,none⟩=some (.int .i64 x1)∧w2.cell? ⟨w.heap.size,1,none⟩=some (.int .i64 x2)∧w2.cell? ⟨w.heap.size,2,none⟩=some (.int .i64 x3)∧w2.cell? ⟨w.heap.size,3,none⟩=some (.int .i64 x4) :=
 ⟨(hb.cell (p:=⟨w.heap.size,0,none⟩) (by simp;omega)).trans (by simp),(hb.cell (p:=⟨w.heap.size,1,none⟩) (by simp;omega)).trans (by simp),(hb.cell (p:=⟨w.heap.size,2,none⟩) (by simp;omega)).trans (by simp),(hb.cell (p:=⟨w.heap.size,3,none⟩) (by simp;omega)).trans (by simp)⟩
def one (p:Fm) (c:Cm) (q:Fm):List Sym:=(5,0,0,0)::(fsy p++wpc c (fsy q))
def cAns (s:ByteArray) (p:Fm) (c:Cm) (q:Fm):List (List UInt8)×Int×Int :=
 if (answer s).1≠0 then ([],(answer s).1,(answer s).2) else if fit c (fsy q)=true∧bl (one p c q)≤4000 then (sbs (one p c q)::(cls c (fsy q)).map sbs,0,0) else ([],6,0)
theorem Tryz.infoStr:(Tryz.prog.info? 9).map (fun i=>(i.zero,i.size,i.bytes))=some (some (.string ⟨#[]⟩),1,16):=by kernel_rfl
theorem zba {w:World} {b b':Nat} {e:TypeId} {size:Nat} {v:Value} {n:Nat} {xs:List Value} (h:w.ownsRow b e size v n xs) (hb:b'≤b):w.ownsRow b' e size v n xs:=by
 obtain⟨h1,h2⟩:=h;refine⟨h1,?_⟩;rcases h2 with h2|⟨g,cap,cur,hv,hg,r⟩
 ·exact Or.inl h2
 ·exact Or.inr ⟨g,cap,cur,hv,Nat.le_trans hb hg,r⟩
end Go.Proofs.YtkinoehmcfhgbaaGreatDoor.Vl
