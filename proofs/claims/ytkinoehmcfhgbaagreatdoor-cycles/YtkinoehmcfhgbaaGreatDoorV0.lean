/- A part of the proof. -/
import Derived.Test.YtkinoehmcfhgbaaGreatDoorAb
import Derived.Test.YtkinoehmcfhgbaaGreatDoorRows
import Derived.WalkSpells
import Derived.WalkLawsBesides
import Derived.Lib.Strings
import Derived.BigQuiet
import Derived.Deep.RegionHeld3
set_option linter.unusedVariables false
set_option linter.unusedSimpArgs false
set_option maxRecDepth 100000
set_option maxHeartbeats 1000000
namespace Go.Proofs.YtkinoehmcfhgbaaGreatDoor.Vl
open Go.RowKit
theorem zaB {k:IntKind} {a b:Int} (h:a=b):Ending.returned (.int k a)=.returned (.int k b):=by rw[h]
theorem zaI {a b:Bool} (h:a=b):Ending.returned (.bool a)=.returned (.bool b):=by rw[h]
theorem zat (a:UInt8) (n:Nat) (h:n<256):((a.toNat:Int)==(n:Int))=(a==UInt8.ofNat n):=by
 rw[Bool.eq_iff_iff,beq_iff_eq,beq_iff_eq]
 constructor
 ·intro h1;have h2:a.toNat=n:=by omega
  apply UInt8.toNat_inj.1
  rw[h2];simp;omega
 ·intro h1;subst h1;simp;omega
def rest (s:ByteArray) (k:Nat):List UInt8:=s.data.toList.drop k
theorem zag (s:ByteArray) (k:Nat) (h:k<s.size):rest s k=s[k]::rest s (k+1):=by
 unfold rest;rw[List.drop_eq_getElem_cons (by simpa using h)];rfl
theorem zbh (s:ByteArray) (k:Nat) (h:s.size≤k):rest s k=[]:=by
 unfold rest;rw[List.drop_eq_nil_iff];simpa using h
theorem zax (s:ByteArray) (k:Nat):(rest s k).length=s.size-k:=by
 unfold rest;rw[List.length_drop];simp
theorem zbu (s:ByteArray) (k n:Nat):(rest s k).drop n=rest s (k+n):=by
 unfold rest;rw[List.drop_drop]
theorem za5 (s:ByteArray) (k e:Nat):(s.extract k e).data.toList=(rest s k).take (e-k):=by
 unfold rest;rw[Lib.extract_data]
theorem zgr (s:ByteArray) (k e:Nat):s.extract k e=⟨((rest s k).take (e-k)).toArray⟩:=by
 apply Go.WideShapes.bytes_inj;rw[za5]
def dgo (m:Int):List UInt8→Int→Int
 | [],v=>v
 | c::r,v=>if (c.toNat:Int)<48∨57<(c.toNat:Int) then -1 else if m<v*10+((c.toNat:Int)-48) then -1 else dgo m r (v*10+((c.toNat:Int)-48))
def dg (m:Int) (l:List UInt8):Int:=match l with
 | []=>-1
 | c::r=>if c==48&&!r.isEmpty then -1 else dgo m (c::r) 0
theorem zc1 (c:UInt8) (r:List UInt8) (m:Int):dg m (c::r)=if c==48&&!r.isEmpty then -1 else dgo m (c::r) 0:=rfl
theorem zbq (m:Int) (hm:0≤m):∀(l:List UInt8) (v:Int),0≤v→v≤m→-1≤dgo m l v∧dgo m l v≤m
 | [],v,h0,h1=>by simp only[dgo];omega
 | c::r,v,h0,h1=>by
  simp only[dgo];split
  ·omega
  ·split
   ·omega
   ·exact zbq m hm r _ (by omega) (by omega)
theorem zbC (m:Int) (hm:0≤m) (l:List UInt8):-1≤dg m l∧dg m l≤m:=by
 unfold dg;split
 ·omega
 ·split
  ·omega
  ·exact zbq m hm _ _ (by omega) hm
def isd (c:UInt8):Bool:=decide (48≤(c.toNat:Int))&&decide ((c.toNat:Int)≤57)
def dlen:List UInt8→Nat
 | []=>0
 | c::r=>if isd c then dlen r+1 else 0
theorem zeR:∀l:List UInt8,dlen l≤l.length
 | []=>Nat.le_refl _
 | c::r=>by
  simp only[dlen,List.length_cons];have:=zeR r;split<;>omega
def sgd (l:List UInt8):Nat:=if l.headD 0==45 then 1 else 0
def bnd (l:List UInt8):Option (Int×Nat) :=
 if dg 999999 ((l.drop (sgd l)).take (dlen (l.drop (sgd l))))<0∨(sgd l=1∧dg 999999 ((l.drop (sgd l)).take (dlen (l.drop (sgd l))))=0) then none
 else some (if sgd l=1 then -dg 999999 ((l.drop (sgd l)).take (dlen (l.drop (sgd l)))) else dg 999999 ((l.drop (sgd l)).take (dlen (l.drop (sgd l)))),sgd l+dlen (l.drop (sgd l)))
theorem zfD {l:List UInt8} {n:Int} {k:Nat} (h:bnd l=some (n,k)):-999999≤n∧n≤999999∧k≤l.length:=by
 unfold bnd at h;split at h
 ·cases h
 ·rename_i hc
  have h1:=zbC 999999 (by omega) ((l.drop (sgd l)).take (dlen (l.drop (sgd l))));have h2:=zeR (l.drop (sgd l));have h3:sgd l≤l.length:=by unfold sgd;cases l<;>simp;split<;>omega
  rw[List.length_drop] at h2;cases h
  refine⟨?_,?_,by omega⟩
  ·split<;>omega
  ·split<;>omega
def plc (c:Int):Int:=if c==48 then 0 else if c==97||c==98||c==99||c==100 then c-97+1 else -1
theorem zfE (c:Int):-1≤plc c∧plc c≤4:=by
 unfold plc;split
 ·omega
 ·split
  ·rename_i h;simp at h;omega
  ·omega
def plu (c:UInt8):Int:=plc (c.toNat:Int)
abbrev Atm:=Int×Int×Int
def atm:List UInt8→Option (Atm×Nat)
 | a::b::c::d::e::r =>
  if r.isEmpty||!(b==45)||!([d,e]==[60,61]) then none else
  match bnd r with
  | none=>none
  | some (n,k)=>if decide (plu a<0)||decide (plu c<0)||(plu a==plu c)||!((r.getD k 0)==46) then none else some ((plu a,plu c,n),6+k)
 | _=>none
theorem zdM {l:List UInt8} {a:Atm} {k:Nat} (h:atm l=some (a,k)):0≤a.1∧a.1≤4∧0≤a.2.1∧a.2.1≤4∧a.1≠a.2.1∧-999999≤a.2.2∧a.2.2≤999999∧6≤k∧k≤l.length∧0≤plu (l.headD 0):=by
 match l,h with
 | x::b::c::d::e::r,h =>
  simp only[atm] at h;split at h
  ·cases h
  ·cases hb:bnd r with
   | none=>rw[hb] at h;cases h
   | some q =>
    obtain⟨n,j⟩:=q;rw[hb] at h;simp only at h;split at h
    ·cases h
    ·rename_i hc
     have h1:=zfD hb;have h2:=zfE (x.toNat:Int);have h3:=zfE (c.toNat:Int);simp only[Bool.or_eq_true,decide_eq_true_eq,Bool.not_eq_true',beq_eq_false_iff_ne,beq_iff_eq,not_or,ne_eq,Decidable.not_not] at hc;obtain⟨⟨⟨c1,c2⟩,c3⟩,c4⟩:=hc;have hj:j<r.length:=by
      rcases Nat.lt_or_ge j r.length with hj|hj
      ·exact hj
      ·rw[List.getD_eq_getElem?_getD,List.getElem?_eq_none hj] at c4;exact absurd c4 (by decide)
     cases h
     unfold plu at *;refine⟨by dsimp only;omega,h2.2,by dsimp only;omega,h3.2,c3,h1.1,h1.2.1,by omega,by simp only[List.length_cons];omega,?_⟩;simp only[List.headD_cons];omega
def tbl (g x y:Int):Int :=
 if g==38 then (if x==0||y==0 then 0 else if x==1&&y==1 then 1 else 2)
 else if g==124 then (if x==1||y==1 then 1 else if x==0&&y==0 then 0 else 2)
 else (if x==0||y==1 then 1 else if x==1&&y==0 then 0 else 2)
theorem zbL {fn:Func} {tmps:Array Value} {w:World} {k i j:Nat} {t:TypeId} {a:Addr} {v x y:Value} (hf:fn.results=#[.cell k t,.tmp i,.tmp j]) (ht:tmps.getD k undef=.pointer (some a)) (hx:tmps.getD i undef=x) (hy:tmps.getD j undef=y) (hl:(loadVar t a).run Tryz.prog w=.ok v w):(results fn tmps).run Tryz.prog w=.ok (.tuple #[v,x,y]) w:=by
 have ht':(tmps[k]?.getD undef)=.pointer (some a):=by simpa using ht
 have hx':(tmps[i]?.getD undef)=x:=by simpa using hx
 have hy':(tmps[j]?.getD undef)=y:=by simpa using hy
 simp[results,hf,ht',hx',hy',hl,asAddr]
theorem zfF (w:World) (cs:List Value) (t:TypeId):(w.alloc (.cells cs.toArray t)).rangeAt w.heap.size 0 cs:=by
 intro j v hv;rw[World.cell?_alloc_at _ _ _ _ rfl];simpa using hv
theorem zaa (w:World) (o:Obj):Below w.heap.size w (w.alloc o):=(Below.refl _ w).alloc (Nat.le_refl _) o
def cell3 (a:Atm):List Value:=[.int .i64 a.1,.int .i64 a.2.1,.int .i64 a.2.2]
def cells3 (l:List Atm):List Value:=l.flatMap cell3
theorem zco:∀(l:List Atm) (j:Nat) (a:Atm),l[j]?=some a→(cells3 l)[j*3]?=some (.int .i64 a.1)∧(cells3 l)[j*3+1]?=some (.int .i64 a.2.1)∧(cells3 l)[j*3+2]?=some (.int .i64 a.2.2)
 | [],j,a,h=>by simp at h
 | x::r,0,a,h=>by simp at h;subst h;simp[cells3,cell3]
 | x::r,j+1,a,h=>by
  have:=zco r j a (by simpa using h);have e1:(j+1)*3=j*3+3:=by omega
  simp only[cells3,List.flatMap_cons] at *;rw[e1];refine⟨?_,?_,?_⟩
  ·rw[List.getElem?_append_right (by simp[cell3])];simpa [cell3] using this.1
  ·rw[List.getElem?_append_right (by simp[cell3])];simpa [cell3,Nat.add_assoc] using this.2.1
  ·rw[List.getElem?_append_right (by simp[cell3])];simpa [cell3,Nat.add_assoc] using this.2.2
def Atms (w:World) (v:Value) (ls:List Atm):Prop :=
 (v=.slice none 0 0∧ls=[])∨∃b cap,v=.slice (some ⟨b,0,none⟩) ls.length cap∧ls.length≤cap∧cap≤maxLen∧b<w.heap.size∧∀j a,ls[j]?=some a→w.cell? ⟨b,j*3,none⟩=some (.int .i64 a.1)∧w.cell? ⟨b,j*3+1,none⟩=some (.int .i64 a.2.1)∧w.cell? ⟨b,j*3+2,none⟩=some (.int .i64 a.2.2)
theorem Atms.below {w w':World} {v:Value} {ls:List Atm} (h:Atms w v ls) (hb:Below w.heap.size w w'):Atms w' v ls:=by
 rcases h with h|⟨b,cap,h1,h2,h3,h4,h5⟩
 ·exact Or.inl h
 ·exact Or.inr ⟨b,cap,h1,h2,h3,Nat.lt_of_lt_of_le h4 hb.size,fun j t ht=>⟨(hb.cell (p:=⟨b,j*3,none⟩) h4).trans (h5 j t ht).1,(hb.cell (p:=⟨b,j*3+1,none⟩) h4).trans (h5 j t ht).2.1,(hb.cell (p:=⟨b,j*3+2,none⟩) h4).trans (h5 j t ht).2.2⟩⟩
def nmb:List Atm→Atm→Int→Int
 | [],_,_=>-1
 | x::r,a,i=>if x=a then i else nmb r a (i+1)
abbrev Sym:=Int×Atm
def mk (c:Int):Int:=if c==116 then 0 else if c==102 then 1 else if c==33 then 2 else if c==38 then 3 else if c==124 then 4 else if c==62 then 5 else -1
def sym:List UInt8→Option (Sym×Nat)
 | []=>none
 | c::r=>if 0≤mk (c.toNat:Int) then some ((mk (c.toNat:Int),0,0,0),1) else (atm (c::r)).map fun q=>((6,q.1),q.2)
def prt (k:Int):Int:=if k==2 then 1 else if k==3||k==4||k==5 then 2 else 0
theorem zaD (k:Int):0≤prt k∧prt k≤2:=by
 unfold prt;split
 ·omega
 ·split<;>omega
def prs:Nat→Int→List UInt8→Option (List Sym)
 | _,m,[]=>if m=0 then some [] else none
 | 0,_,_::_=>none
 | f+1,m,c::r=>if m=0 then none else match sym (c::r) with
  | none=>none
  | some (y,k)=>(prs f (m+prt y.1-1) ((c::r).drop k)).map (y::·)
theorem zbz {l:List UInt8} {y:Sym} {k:Nat} (h:sym l=some (y,k)):1≤k∧k≤l.length:=by
 match l,h with
 | c::r,h =>
  simp only[sym] at h;split at h
  ·cases h;simp
  ·cases ha:atm (c::r) with
   | none=>rw[ha] at h;cases h
   | some q =>
    rw[ha] at h;cases h
    have:=zdM (a:=q.1) (k:=q.2) ha;omega
theorem zg9:∀(f g:Nat) (m:Int) (l:List UInt8),l.length≤f→l.length≤g→prs f m l=prs g m l
 | f,g,m,[],_,_=>by cases f<;>cases g<;>rfl
 | 0,_,_,_::_,h,_=>by simp at h
 | _,0,_,_::_,_,h=>by simp at h
 | f+1,g+1,m,c::r,h1,h2=>by
  simp only[prs];split
  ·rfl
  ·cases hs:sym (c::r) with
   | none=>rfl
   | some q =>
    obtain⟨y,k⟩:=q;have hf:=zbz hs;simp only;rw[zg9 f g _ ((c::r).drop k) (by rw[List.length_drop];simp at h1 ⊢;omega) (by rw[List.length_drop];simp at h2 ⊢;omega)]
def prsA (m:Int) (l:List UInt8):Option (List Sym):=prs l.length m l
theorem zc2 (m:Int):prsA m []=if m=0 then some [] else none:=rfl
theorem zdN (c:UInt8) (r:List UInt8):prsA 0 (c::r)=none:=by unfold prsA;simp[prs]
theorem zdO (m:Int) (c:UInt8) (r:List UInt8) (h:sym (c::r)=none):prsA m (c::r)=none:=by
 unfold prsA;simp only[List.length_cons,prs,h];split<;>rfl
theorem zcp (m:Int) (c:UInt8) (r:List UInt8) (y:Sym) (k:Nat) (hm:m≠0) (h:sym (c::r)=some (y,k)):prsA m (c::r)=(prsA (m+prt y.1-1) ((c::r).drop k)).map (y::·):=by
 have hf:=zbz h;unfold prsA;rw[show(c::r).length=r.length+1 from rfl,prs,if_neg hm,h];simp only;rw[zg9 r.length _ _ ((c::r).drop k) (by rw[List.length_drop];simp;omega) (Nat.le_refl _)]
def addA (l:List Atm) (y:Sym):List Atm:=if y.1=6 then (if nmb l y.2 0<0 then l++[y.2] else l) else l
def uqs (ds:List Sym):List Atm:=ds.foldl addA []
theorem zha (ds:List Sym) (y:Sym):uqs (ds++[y])=addA (uqs ds) y:=by unfold uqs;rw[List.foldl_append];rfl
def pars (s:ByteArray):Option (List Sym):=if 4000<s.size then none else prsA 1 s.data.toList
theorem zaf {w:World} {base n:Nat} {e:TypeId} {sz:Nat} {v:Value} {xs:List Value} (h:w.ownsRow base e sz v n xs):∀k,v.ownBlock=some k→base≤k:=fun k hk=>(h.lt k hk).1
theorem zad {w w':World} {base n:Nat} {e:TypeId} {sz:Nat} {v:Value} {xs:List Value} (h:w.ownsRow base e sz v n xs) (hb:Below w.heap.size w w'):w'.ownsRow base e sz v n xs :=
 h.kept (row:=none) ⟨hb.os,hb.tape,hb.output,hb.size,fun k hk _=>hb.block k hk⟩ (by cases v.ownBlock<;>simp)
theorem za8 (w:World) (B:Nat) (hB:B=w.heap.size) (a b c:Value) (t:TypeId):∀j u,[a,b,c][j]?=some u→(w.alloc (.cells #[a,b,c] t)).cell? ((⟨B,0,none⟩:Addr).add j)=some u:=by
 subst hB;intro j u h
 match j,h with
 | 0,h=>simp at h;subst h;simp[Addr.add]
 | 1,h=>simp at h;subst h;simp[Addr.add]
 | 2,h=>simp at h;subst h;simp[Addr.add]
theorem zgs (x y z:Int):∀u∈[Value.int .i64 x,.int .i64 y,.int .i64 z],u.oneCell'=true:=by
 intro u hu;simp at hu;rcases hu with rfl|rfl|rfl<;>rfl
theorem zbY (l:List Atm) (a:Atm):cells3 (l++[a])=cells3 l++[.int .i64 a.1,.int .i64 a.2.1,.int .i64 a.2.2]:=by simp[cells3,cell3]
def sgk (q:Int):Int:=if q==3 then 38 else if q==4 then 124 else 62
def wst (ls:List Atm) (bs:List Int) (y:Sym) (st:List Int):List Int :=
 if y.1=0 then 1::st else if y.1=1 then 0::st else if y.1=6 then bs.getD (nmb ls y.2 0).toNat 0::st
 else if y.1=2 then (match st with|x::r=>(if x<2 then 1-x else x)::r|[]=>[])
 else match st with|x::z::r=>tbl (sgk y.1) x z::r|_=>[]
def wrun (ls:List Atm) (bs:List Int) (ys:List Sym):List Int:=ys.foldr (wst ls bs) []
theorem zfG (ls:List Atm) (bs:List Int) (y:Sym) (r:List Sym):wrun ls bs (y::r)=wst ls bs y (wrun ls bs r):=rfl
def Pos (s:ByteArray):Nat→Int→List Sym→List Nat→Prop
 | k,m,[],ps=>ps=[]∧k=s.size∧m=0
 | k,m,y::r,ps=>∃j ps',ps=k::ps'∧k<s.size∧m≠0∧sym (rest s k)=some (y,j)∧Pos s (k+j) (m+prt y.1-1) r ps'
theorem zcq (s:ByteArray):∀(ys:List Sym) (k:Nat) (m:Int),k≤s.size→prsA m (rest s k)=some ys→∃ps,Pos s k m ys ps:=by
 intro ys
 induction ys with
 | nil =>
  intro k m hk h;by_cases hlt:k<s.size
  ·exfalso
   rw[zag s k hlt] at h;by_cases hm:m=0
   ·subst hm;rw[zdN] at h;cases h
   ·cases hs:sym (s[k]::rest s (k+1)) with
    | none=>rw[zdO _ _ _ hs] at h;cases h
    | some q =>
     rw[zcp m _ _ q.1 q.2 hm hs] at h;cases hq:prsA (m+prt q.1.1-1) ((s[k]::rest s (k+1)).drop q.2)<;>rw[hq] at h<;>cases h
  ·rw[zbh s k (by omega),zc2] at h;split at h
   ·exact⟨[],rfl,by omega,by assumption⟩
   ·cases h
 | cons y r ih =>
  intro k m hk h;by_cases hlt:k<s.size
  ·rw[zag s k hlt] at h;by_cases hm:m=0
   ·subst hm;rw[zdN] at h;cases h
   ·cases hs:sym (s[k]::rest s (k+1)) with
    | none=>rw[zdO _ _ _ hs] at h;cases h
    | some q =>
     obtain⟨z,j⟩:=q;have hf:=zbz hs;rw[zcp m _ _ z j hm hs,←zag s k hlt,zbu] at h;cases hq:prsA (m+prt z.1-1) (rest s (k+j)) with
     | none=>rw[hq] at h;cases h
     | some r' =>
      rw[hq] at h;cases h
      have hl:(s[k]::rest s (k+1)).length=s.size-k:=by rw[←zag s k hlt,zax]
      obtain⟨ps',hps⟩:=ih (k+j) _ (by omega) hq;exact⟨k::ps',j,ps',rfl,hlt,hm,by rw[zag s k hlt];exact hs,hps⟩
  ·rw[zbh s k (by omega),zc2] at h;split at h<;>cases h
theorem zhb {s:ByteArray} {k:Nat} {y:Sym} {j:Nat} (hk:k<s.size) (h:sym (rest s k)=some (y,j)) :
 (0≤mk (s[k].toNat:Int)∧y=(mk (s[k].toNat:Int),0,0,0)∧j=1)∨(¬0≤mk (s[k].toNat:Int)∧∃a,y=(6,a)∧atm (rest s k)=some (a,j)):=by
 rw[zag s k hk] at h;simp only[sym] at h;split at h
 ·rename_i hm
  cases h;exact Or.inl ⟨hm,rfl,rfl⟩
 ·rename_i hm
  rw[←zag s k hk] at h;cases ha:atm (rest s k) with
  | none=>rw[ha] at h;cases h
  | some q=>rw[ha] at h;cases h;exact Or.inr ⟨hm,q.1,rfl,rfl⟩
theorem zmB (c:Int):-1≤mk c∧mk c≤5:=by
 unfold mk;repeat' split
 all_goals omega
theorem zbe {s:ByteArray} {k:Nat} {y:Sym} {j:Nat} (hk:k<s.size) (h:sym (rest s k)=some (y,j)):0≤y.1∧y.1≤6:=by
 rcases zhb hk h with⟨h0,rfl,_⟩|⟨_,a,rfl,_⟩
 ·have:=zmB (s[k].toNat:Int);dsimp only;omega
 ·dsimp only;omega
def iv (x:Int):Value:=.int .i64 x
def IntsR (w:World) (v:Value) (bs:List Int):Prop :=
 (v=.slice none 0 0∧bs=[])∨∃b cap,v=.slice (some ⟨b,0,none⟩) bs.length cap∧bs.length≤cap∧cap≤maxLen∧b<w.heap.size∧∀j x,bs[j]?=some x→w.cell? ⟨b,j,none⟩=some (iv x)
theorem IntsR.below {w w':World} {v:Value} {ls:List Int} (h:IntsR w v ls) (hb:Below w.heap.size w w'):IntsR w' v ls:=by
 rcases h with h|⟨b,cap,h1,h2,h3,h4,h5⟩
 ·exact Or.inl h
 ·exact Or.inr ⟨b,cap,h1,h2,h3,Nat.lt_of_lt_of_le h4 hb.size,fun j t ht=>(hb.cell (p:=⟨b,j,none⟩) h4).trans (h5 j t ht)⟩
theorem zav {w:World} {base n:Nat} {e:TypeId} {v:Value} {xs:List Value} (h:w.ownsRow base e 1 v n xs) (hn:0<n) :
 ∃g cap,v=.slice (some ⟨g,0,none⟩) n cap∧base≤g∧g<w.heap.size∧n≤cap∧cap≤maxLen∧(∀j u,xs[j]?=some u→w.cell? ⟨g,j,none⟩=some u)∧∀o,w.frozen? ⟨g,o,none⟩=false:=by
 rcases h.2 with⟨h1,h2⟩|⟨g,cap,cur,hv,hg,hh,h3,h4,h5,h6⟩
 ·omega
 ·have hlt:g<w.heap.size:=by
   rcases Nat.lt_or_ge g w.heap.size with h|h
   ·exact h
   ·rw[Array.getElem?_eq_none h] at hh;cases hh
  refine⟨g,cap,hv,hg,hlt,h3,h4,fun j u hu=>?_,fun o=>by simp[World.frozen?,hh]⟩;rw[←h6,List.getElem?_take] at hu;split at hu
  ·have:cur[j]?=some u:=by simpa using hu
   simp[World.cell?,hh,this]
  ·cases hu
theorem zc3 {w:World} {base n g cap:Nat} {e:TypeId} {xs:List Value} (h:w.ownsRow base e 1 (.slice (some ⟨g,0,none⟩) n cap) n xs) (m:Nat) (hm:m≤n):w.ownsRow base e 1 (.slice (some ⟨g,0,none⟩) m cap) m (xs.take m):=by
 refine⟨by rw[List.length_take,h.1];omega,?_⟩;rcases h.2 with⟨h1,h2⟩|⟨g',cap',cur,hv,hg,hh,h3,h4,h5,h6⟩
 ·cases h1
 ·cases hv
  exact Or.inr ⟨g,cap,cur,rfl,hg,hh,by omega,h4,h5,by rw[←h6,List.take_take];congr 1;omega⟩
theorem zjM {w:World} {base n g cap:Nat} {e:TypeId} {xs:List Value} (h:w.ownsRow base e 1 (.slice (some ⟨g,0,none⟩) n cap) n xs) (j:Nat) (u:Value):(w.setCell ⟨g,j,none⟩ u).ownsRow base e 1 (.slice (some ⟨g,0,none⟩) n cap) n (xs.set j u):=by
 refine⟨by rw[List.length_set,h.1],?_⟩;rcases h.2 with⟨h1,h2⟩|⟨g',cap',cur,hv,hg,hh,h3,h4,h5,h6⟩
 ·cases h1
 ·cases hv
  refine Or.inr ⟨g,cap,cur.setIfInBounds j u,rfl,hg,heap_setCell_same w g j cur e u hh,h3,h4,by simpa using h5,?_⟩;rw[←h6];simp[List.take_set]
theorem zle {w:World} {base:Nat} {v:Value} {ls:List Int} (h:w.ownsRow base 3 1 v ls.length (ls.map iv)):IntsR w v ls:=by
 by_cases hn:0<ls.length
 ·obtain⟨g,cap,rfl,_,h2,h3,h4,h5,_⟩:=zav h hn;exact Or.inr ⟨g,cap,rfl,h3,h4,h2,fun j x hx=>h5 j _ (by rw[List.getElem?_map,hx];rfl)⟩
 ·have hl:ls=[]:=List.length_eq_zero_iff.1 (by omega);subst hl;rcases h.2 with⟨h1,h2⟩|⟨g,cap,cur,hv,hg,hh,h3,h4,h5,h6⟩
  ·exact Or.inl ⟨h1,rfl⟩
  ·have hlt:g<w.heap.size:=by
    rcases Nat.lt_or_ge g w.heap.size with h|h
    ·exact h
    ·rw[Array.getElem?_eq_none h] at hh;cases hh
   exact Or.inr ⟨g,cap,hv,h3,h4,hlt,fun j x hx=>by simp at hx⟩
theorem Tryz.infoInt:(Tryz.prog.info? 3).map (fun i=>(i.zero,i.size,i.bytes))=some (some (.int .i64 0),1,8):=by kernel_rfl
theorem zbl (w:World) (B:Nat) (hB:B=w.heap.size) (a:Value) (t:TypeId):∀j u,[a][j]?=some u→(w.alloc (.cells #[a] t)).cell? ((⟨B,0,none⟩:Addr).add j)=some u:=by
 subst hB;intro j u h
 match j,h with
 | 0,h=>simp at h;subst h;simp[Addr.add]
theorem znD (c:Int) (h:0≤mk c):plc c<0:=by
 unfold mk at h;unfold plc
 repeat' split at h
 all_goals first|omega|(simp_all;done)
theorem zaN {w:World} {base n:Nat} {e:TypeId} {v:Value} {xs:List Value} (h:w.ownsRow base e 1 v n xs):∃q c,v=.slice q n c:=by
 rcases h.2 with⟨h1,h2⟩|⟨g,cap,cur,hv,_⟩
 ·subst h2;exact⟨none,0,h1⟩
 ·exact⟨_,_,hv⟩
def gd (x:Int):Bool:=decide (-1000000000≤x)&&decide (x≤1000000000)
def gds (x1 x2 x3 x4:Int):Bool:=gd x1&&(gd x2&&(gd x3&&gd x4))
def stV (x1 x2 x3 x4:Int):Value:=.agg #[.int .i64 x1,.int .i64 x2,.int .i64 x3,.int .i64 x4]
theorem zdP (x:Int) (w:World) :
 Calls Tryz.prog 71 #[.int .i64 x] w fun e w'=>e=.returned (.bool (gd x))∧w=w':=by
 go_enter Tryz.func71,Tryz.ntmps71;go_wp2
 all_goals go_ret
 all_goals refine⟨zaI ?_,rfl⟩
 all_goals (unfold gd;simp_all)
 all_goals omega
def At4 (x1 x2 x3 x4:Int) (i:Value):Prop:=i=.int .i64 0∨(i=.int .i64 1∧gd x1=true)∨(i=.int .i64 2∧gd x1=true∧gd x2=true)∨(i=.int .i64 3∧gd x1=true∧gd x2=true∧gd x3=true)∨(i=.int .i64 4∧gd x1=true∧gd x2=true∧gd x3=true∧gd x4=true)
theorem znE (x1 x2 x3 x4:Int) (w:World):Sem.run Tryz.prog (Instr.index 36 (.agg #[.int .i64 x1,.int .i64 x2,.int .i64 x3,.int .i64 x4]) (.int .i64 0)) w=.ok (.int .i64 x1) w:=by kernel_rfl
theorem znF (x1 x2 x3 x4:Int) (w:World):Sem.run Tryz.prog (Instr.index 36 (.agg #[.int .i64 x1,.int .i64 x2,.int .i64 x3,.int .i64 x4]) (.int .i64 1)) w=.ok (.int .i64 x2) w:=by kernel_rfl
theorem znG (x1 x2 x3 x4:Int) (w:World):Sem.run Tryz.prog (Instr.index 36 (.agg #[.int .i64 x1,.int .i64 x2,.int .i64 x3,.int .i64 x4]) (.int .i64 2)) w=.ok (.int .i64 x3) w:=by kernel_rfl
theorem znH (x1 x2 x3 x4:Int) (w:World):Sem.run Tryz.prog (Instr.index 36 (.agg #[.int .i64 x1,.int .i64 x2,.int .i64 x3,.int .i64 x4]) (.int .i64 3)) w=.ok (.int .i64 x4) w:=by kernel_rfl
theorem zfH (x1 x2 x3 x4:Int) (w:World) :
 Calls Tryz.prog 43 #[stV x1 x2 x3 x4] w fun e w'=>e=.returned (.bool (gds x1 x2 x3 x4))∧Below w.heap.size w w':=by
 unfold stV;generalize hG:gds x1 x2 x3 x4=G;have HG:Hid (gds x1 x2 x3 x4=G):=hG;clear hG;have CR:Hid (∀x b w,gd x=b→Calls Tryz.prog 71 #[.int .i64 x] w fun e w'=>e=.returned (.bool b)∧w=w'):=fun x b w h=>by rw[←h];exact zdP x w
 have ix0:=znE x1 x2 x3 x4;have ix1:=znF x1 x2 x3 x4;have ix2:=znG x1 x2 x3 x4;have ix3:=znH x1 x2 x3 x4;go_enter Tryz.func43,Tryz.ntmps43;go_wp2_with fail
 go_loop [6] (fun i=>At4 x1 x2 x3 x4 i) (fun i=>4-(intOf i).toNat)
 case atStart=>exact Or.inl rfl
 case round =>
  rcases hrel with rfl|⟨rfl,h1⟩|⟨rfl,h1,h2⟩|⟨rfl,h1,h2,h3⟩|⟨rfl,h1,h2,h3,h4⟩
  ·cases hx:gd x1 with
   | false =>
    go_wp2_with (go_at_call 71;refine(CR.out x1 false _ hx).mono ?_;rintro e w' ⟨rfl,rfl⟩)
    go_ret;exact⟨zaI (by rw[←HG.out];simp[gds,hx]),zaa _ _⟩
   | true =>
    go_wp2_with (go_at_call 71;refine(CR.out x1 true _ hx).mono ?_;rintro e w' ⟨rfl,rfl⟩)
    go_round
    case rel=>exact Or.inr (Or.inl ⟨rfl,hx⟩)
    case measure=>simp[intOf]
  ·cases hx:gd x2 with
   | false =>
    go_wp2_with (go_at_call 71;refine(CR.out x2 false _ hx).mono ?_;rintro e w' ⟨rfl,rfl⟩)
    go_ret;exact⟨zaI (by rw[←HG.out];simp[gds,hx]),zaa _ _⟩
   | true =>
    go_wp2_with (go_at_call 71;refine(CR.out x2 true _ hx).mono ?_;rintro e w' ⟨rfl,rfl⟩)
    go_round
    case rel=>exact Or.inr (Or.inr (Or.inl ⟨rfl,h1,hx⟩))
    case measure=>simp[intOf]
  ·cases hx:gd x3 with
   | false =>
    go_wp2_with (go_at_call 71;refine(CR.out x3 false _ hx).mono ?_;rintro e w' ⟨rfl,rfl⟩)
    go_ret;exact⟨zaI (by rw[←HG.out];simp[gds,hx]),zaa _ _⟩
   | true =>
    go_wp2_with (go_at_call 71;refine(CR.out x3 true _ hx).mono ?_;rintro e w' ⟨rfl,rfl⟩)
    go_round
    case rel=>exact Or.inr (Or.inr (Or.inr (Or.inl ⟨rfl,h1,h2,hx⟩)))
    case measure=>simp[intOf]
  ·cases hx:gd x4 with
   | false =>
    go_wp2_with (go_at_call 71;refine(CR.out x4 false _ hx).mono ?_;rintro e w' ⟨rfl,rfl⟩)
    go_ret;exact⟨zaI (by rw[←HG.out];simp[gds,hx]),zaa _ _⟩
   | true =>
    go_wp2_with (go_at_call 71;refine(CR.out x4 true _ hx).mono ?_;rintro e w' ⟨rfl,rfl⟩)
    go_round
    case rel=>exact Or.inr (Or.inr (Or.inr (Or.inr ⟨rfl,h1,h2,h3,hx⟩)))
    case measure=>simp[intOf]
  ·go_wp2_with fail;go_ret;exact⟨zaI (by rw[←HG.out];simp[gds,h1,h2,h3,h4]),zaa _ _⟩
def xv (x1 x2 x3 x4:Int) (i:Int):Int:=if i=0 then 0 else if i=1 then x1 else if i=2 then x2 else if i=3 then x3 else x4
def hld (x1 x2 x3 x4:Int) (a:Atm):Bool:=decide (xv x1 x2 x3 x4 a.1-xv x1 x2 x3 x4 a.2.1≤a.2.2)
def bi (b:Bool):Int:=if b then 1 else 0
def bys (x1 x2 x3 x4:Int) (U:List Atm):List Int:=U.map fun a=>bi (hld x1 x2 x3 x4 a)
def val (x1 x2 x3 x4:Int) (ys:List Sym):Bool:=(wrun (uqs ys) (bys x1 x2 x3 x4 (uqs ys)) ys).headD 0==1
theorem zbM {x1 x2 x3 x4:Int} (h:gds x1 x2 x3 x4=true) (i:Int):-1000000000≤xv x1 x2 x3 x4 i∧xv x1 x2 x3 x4 i≤1000000000:=by
 simp only[gds,gd,Bool.and_eq_true,decide_eq_true_eq] at h;unfold xv
 repeat' split
 all_goals omega
theorem zcC:∀(l:List Atm) (a:Atm) (i:Int),(nmb l a i=-1∧a∉l)∨(a∈l∧i≤nmb l a i∧nmb l a i<i+l.length)
 | [],a,i=>Or.inl ⟨rfl,by simp⟩
 | x::r,a,i=>by
  simp only[nmb];split
  ·rename_i h;subst h;exact Or.inr ⟨by simp,by omega,by simp;omega⟩
  ·rename_i h
   rcases zcC r a (i+1) with⟨h1,h2⟩|⟨h1,h2,h3⟩
   ·exact Or.inl ⟨h1,by simp[h2];exact fun e=>h e.symm⟩
   ·exact Or.inr ⟨by simp[h1],by omega,by simp only[List.length_cons];omega⟩
theorem zlf (l:List Atm) (y:Sym):∀a∈l,a∈addA l y:=by
 intro a ha;unfold addA;repeat' split
 all_goals simp[ha]
theorem zcr:∀(ds:List Sym) (l:List Atm),(∀a∈l,a∈ds.foldl addA l)∧∀y∈ds,y.1=6→y.2∈ds.foldl addA l
 | [],l=>⟨fun a h=>h,fun y h=>by simp at h⟩
 | d::r,l=>by
  have ih:=zcr r (addA l d);refine⟨fun a h=>ih.1 a (zlf l d a h),fun y hy h6=>?_⟩;rcases List.mem_cons.1 hy with rfl|hy
  ·apply ih.1
   unfold addA;rw[if_pos h6];split
   ·simp
   ·rename_i h
    rcases zcC l y.2 0 with⟨h1,_⟩|⟨h1,_⟩
    ·omega
    ·exact h1
  ·exact ih.2 y hy h6
theorem znI (ys:List Sym):∀y∈ys,y.1=6→0≤nmb (uqs ys) y.2 0∧nmb (uqs ys) y.2 0<(uqs ys).length:=by
 intro y hy h6;have hm:y.2∈uqs ys:=(zcr ys []).2 y hy h6;rcases zcC (uqs ys) y.2 0 with⟨_,h2⟩|⟨_,h2,h3⟩
 ·exact absurd hm h2
 ·omega
theorem zdQ:∀(ds:List Sym) (l:List Atm),(ds.foldl addA l).length≤l.length+ds.length
 | [],l=>by simp
 | d::r,l=>by
  have ih:=zdQ r (addA l d);have:(addA l d).length≤l.length+1:=by
   unfold addA
   repeat' split
   all_goals simp
  simp only[List.foldl_cons,List.length_cons];omega
theorem zfI (p:Atm→Prop):∀(ds:List Sym) (l:List Atm),(∀a∈l,p a)→(∀y∈ds,y.1=6→p y.2)→∀a∈ds.foldl addA l,p a
 | [],l,h,_=>h
 | d::r,l,h,hd=>by
  refine zfI p r (addA l d) ?_ (fun y hy=>hd y (by simp[hy]));intro a ha;unfold addA at ha;split at ha
  ·rename_i h6
   split at ha
   ·rcases List.mem_append.1 ha with ha|ha
    ·exact h a ha
    ·rw[List.mem_singleton] at ha;subst ha;exact hd d (by simp) h6
   ·exact h a ha
  ·exact h a ha
def okA (a:Atm):Prop:=0≤a.1∧a.1≤4∧0≤a.2.1∧a.2.1≤4∧-999999≤a.2.2∧a.2.2≤999999
theorem zhc {s:ByteArray}:∀(ys:List Sym) (k:Nat) (m:Int) (ps:List Nat),Pos s k m ys ps→∀y∈ys,y.1=6→okA y.2
 | [],k,m,ps,h=>by intro y hy;cases hy
 | y::r,k,m,ps,h=>by
  obtain⟨j,ps',rfl,hk,hm0,hs,hp⟩:=h;intro z hz h6;rcases List.mem_cons.1 hz with rfl|hz
  ·rcases zhb hk hs with⟨h0,rfl,_⟩|⟨_,a,rfl,ha⟩
   ·have:=zmB (s[k].toNat:Int);dsimp only at h6;omega
   ·have:=zdM ha;unfold okA;dsimp only;omega
  ·exact zhc r _ _ ps' hp z hz h6
theorem zcD {s:ByteArray}:∀(ys:List Sym) (k:Nat) (m:Int) (ps:List Nat),Pos s k m ys ps→k+ys.length≤s.size
 | [],k,m,ps,h=>by obtain⟨_,h,_⟩:=h;simp;omega
 | y::r,k,m,ps,h=>by
  obtain⟨j,ps',rfl,hk,hm0,hs,hp⟩:=h;have:=zcD r _ _ ps' hp;have:=zbz hs;simp only[List.length_cons];omega
theorem zaz {s:ByteArray} {ys:List Sym} (h:pars s=some ys):s.size≤4000∧prsA 1 (rest s 0)=some ys∧(uqs ys).length≤4000∧∀a∈uqs ys,okA a:=by
 unfold pars at h;split at h
 ·cases h
 ·rename_i hs
  have hp:prsA 1 (rest s 0)=some ys:=h;obtain⟨ps,hps⟩:=zcq s ys 0 1 (Nat.zero_le _) hp;have h1:=zcD ys 0 1 ps hps;have h2:=zdQ ys [];refine⟨by omega,hp,by unfold uqs;simp at h2;omega,zfI okA ys [] (by simp) (zhc ys 0 1 ps hps)⟩
theorem zbf {w:World} {v:Value} {ls:List Atm} (h:Atms w v ls):∃q c,v=.slice q ls.length c:=by
 rcases h with⟨h1,h2⟩|⟨b,cap,hv,_⟩
 ·subst h2;exact⟨none,0,h1⟩
 ·exact⟨_,_,hv⟩
def bval (x1 x2 x3 x4:Int) (y:Sym) (t u:Bool):Bool :=
 if y.1=0 then true else if y.1=2 then !t else if y.1=3 then t&&u else if y.1=4 then t||u else if y.1=5 then !t||u else if y.1=6 then hld x1 x2 x3 x4 y.2 else false
def bst (x1 x2 x3 x4:Int) (y:Sym) (st:List Bool):List Bool:=bval x1 x2 x3 x4 y (st.headD false) (st.tail.headD false)::st.drop (prt y.1).toNat
def brun (x1 x2 x3 x4:Int) (ys:List Sym):List Bool:=ys.foldr (bst x1 x2 x3 x4) []
theorem zbA (x1 x2 x3 x4:Int) (y:Sym) (r:List Sym):brun x1 x2 x3 x4 (y::r)=bst x1 x2 x3 x4 y (brun x1 x2 x3 x4 r):=rfl
theorem zc4 {s:ByteArray} (x1 x2 x3 x4:Int):∀(ys:List Sym) (k:Nat) (m:Int) (ps:List Nat),Pos s k m ys ps→0≤m→((brun x1 x2 x3 x4 ys).length:Int)=m
 | [],k,m,ps,h,_=>by obtain⟨_,_,rfl⟩:=h;rfl
 | y::r,k,m,ps,h,hm=>by
  obtain⟨j,ps',rfl,hk,hm0,hs,hp⟩:=h;have hpr:=zaD y.1;have ih:=zc4 x1 x2 x3 x4 r (k+j) _ ps' hp (by omega);rw[zbA];unfold bst;rw[List.length_cons,List.length_drop];omega
theorem zmC {s:ByteArray} (x1 x2 x3 x4:Int):∀(ys:List Sym) (k:Nat) (m:Int) (ps:List Nat),Pos s k m ys ps→0≤m→∀n,n<ys.length →
 ∃y,ys[n]?=some y∧0≤y.1∧y.1≤6∧(y.1=6→okA y.2)∧prt y.1≤(brun x1 x2 x3 x4 (ys.drop (n+1))).length
 | [],k,m,ps,h,_=>by intro n hn;simp at hn
 | y::r,k,m,ps,h,hm=>by
  have hok:=zhc (y::r) k m ps h;obtain⟨j,ps',rfl,hk,hm0,hs,hp⟩:=h;have hpr:=zaD y.1;intro n hn;cases n with
  | zero =>
   have:=zc4 x1 x2 x3 x4 r (k+j) _ ps' hp (by omega);have hr:=zbe hk hs;exact⟨y,rfl,hr.1,hr.2,hok y (by simp),by simp only[Nat.zero_add,List.drop_succ_cons,List.drop_zero];omega⟩
  | succ n =>
   obtain⟨z,h1,h2,h3,h4,h5⟩:=zmC x1 x2 x3 x4 r (k+j) _ ps' hp (by omega) n (by simpa using hn);exact⟨z,by simpa using h1,h2,h3,h4,by simpa using h5⟩
theorem zhK (a b:Bool):tbl 38 (bi a) (bi b)=bi (a&&b):=by cases a<;>cases b<;>rfl
theorem zjN (a b:Bool):tbl 124 (bi a) (bi b)=bi (a||b):=by cases a<;>cases b<;>rfl
theorem zhL (a b:Bool):tbl 62 (bi a) (bi b)=bi (!a||b):=by cases a<;>cases b<;>rfl
theorem znJ (a:Bool):(if bi a<2 then 1-bi a else bi a)=bi (!a):=by cases a<;>rfl
theorem zmD (x1 x2 x3 x4:Int) (ls:List Atm) (bs:List Int) (y:Sym) (st:List Bool) (h0:0≤y.1) (h6:y.1≤6) (hd:prt y.1≤st.length)
 (ha:y.1=6→bs.getD (nmb ls y.2 0).toNat 0=bi (hld x1 x2 x3 x4 y.2)):wst ls bs y (st.map bi)=(bst x1 x2 x3 x4 y st).map bi:=by
 obtain⟨q,a⟩:=y;dsimp only at *;have hq:q=0∨q=1∨q=6∨q=2∨q=3∨q=4∨q=5:=by omega
 rcases hq with rfl|rfl|rfl|rfl|rfl|rfl|rfl
 ·rfl
 ·rfl
 ·show bs.getD (nmb ls a 0).toNat 0::st.map bi=bi (hld x1 x2 x3 x4 a)::st.map bi
  rw[ha rfl]
 ·match st,hd with
  | [],h=>exact absurd h (by decide)
  | x::r,_ =>
   show(if bi x<2 then 1-bi x else bi x)::r.map bi=bi (!x)::r.map bi
   rw[znJ]
 ·match st,hd with
  | [],h=>exact absurd h (by decide)
  | [x],h=>simp[prt] at h
  | x::z::r,_ =>
   show tbl 38 (bi x) (bi z)::r.map bi=bi (x&&z)::r.map bi
   rw[zhK]
 ·match st,hd with
  | [],h=>exact absurd h (by decide)
  | [x],h=>simp[prt] at h
  | x::z::r,_ =>
   show tbl 124 (bi x) (bi z)::r.map bi=bi (x||z)::r.map bi
   rw[zjN]
 ·match st,hd with
  | [],h=>exact absurd h (by decide)
  | [x],h=>simp[prt] at h
  | x::z::r,_ =>
   show tbl 62 (bi x) (bi z)::r.map bi=bi (!x||z)::r.map bi
   rw[zhL]
theorem zfJ {s:ByteArray} (x1 x2 x3 x4:Int) (ls:List Atm) (bs:List Int):∀(ys:List Sym) (k:Nat) (m:Int) (ps:List Nat),Pos s k m ys ps→0≤m →
 (∀y∈ys,y.1=6→bs.getD (nmb ls y.2 0).toNat 0=bi (hld x1 x2 x3 x4 y.2))→wrun ls bs ys=(brun x1 x2 x3 x4 ys).map bi
 | [],k,m,ps,h,_,_=>rfl
 | y::r,k,m,ps,h,hm,ha=>by
  obtain⟨j,ps',rfl,hk,hm0,hs,hp⟩:=h;have hpr:=zaD y.1;have hr:=zbe hk hs;have hl:=zc4 x1 x2 x3 x4 r (k+j) _ ps' hp (by omega);rw[zfG,zbA,zfJ x1 x2 x3 x4 ls bs r (k+j) _ ps' hp (by omega) (fun z hz=>ha z (by simp[hz]))];exact zmD x1 x2 x3 x4 ls bs y _ hr.1 hr.2 (by omega) (ha y (by simp))
theorem zcE:∀(l:List Atm) (a:Atm) (i:Int),a∈l→l[(nmb l a i-i).toNat]?=some a
 | [],a,i,h=>by cases h
 | x::r,a,i,h=>by
  simp only[nmb];split
  ·rename_i e;subst e;simp
  ·rename_i e
   have ha:a∈r:=by
    rcases List.mem_cons.1 h with h|h
    ·exact absurd h.symm e
    ·exact h
   have ih:=zcE r a (i+1) ha;rcases zcC r a (i+1) with⟨_,h2⟩|⟨_,h2,h3⟩
   ·exact absurd ha h2
   ·have e2:(nmb r a (i+1)-i).toNat=(nmb r a (i+1)-(i+1)).toNat+1:=by omega
    rw[e2,List.getElem?_cons_succ];exact ih
theorem zhd {s:ByteArray} {ys:List Sym} (x1 x2 x3 x4:Int) (h:pars s=some ys):∃b,brun x1 x2 x3 x4 ys=[b]∧val x1 x2 x3 x4 ys=b:=by
 obtain⟨hs,hp,_,_⟩:=zaz h;obtain⟨ps,hps⟩:=zcq s ys 0 1 (Nat.zero_le _) hp;have hl:=zc4 x1 x2 x3 x4 ys 0 1 ps hps (by omega);have hw:=zfJ x1 x2 x3 x4 (uqs ys) (bys x1 x2 x3 x4 (uqs ys)) ys 0 1 ps hps (by omega) (fun y hy h6=>by
  have hm:y.2∈uqs ys:=(zcr ys []).2 y hy h6;have hg:=zcE (uqs ys) y.2 0 hm;rw[Int.sub_zero] at hg;unfold bys;rw[List.getD_eq_getElem?_getD,List.getElem?_map,hg];rfl)
 match hb:brun x1 x2 x3 x4 ys,hl with
 | [],h=>simp at h
 | [b],_ =>
  refine⟨b,rfl,?_⟩;unfold val;rw[hw,hb];cases b<;>rfl
 | x::z::r,h=>simp at h;omega
end Go.Proofs.YtkinoehmcfhgbaaGreatDoor.Vl
