/- A part of the proof. -/
import Derived.Test.YtkinoehmcfhgbaaGreatDoorF1
import Derived.Lib.AppendZeros
import Derived.Laws.AppendOwnNone
set_option linter.unusedVariables false
set_option linter.unusedSimpArgs false
set_option maxRecDepth 100000
set_option maxHeartbeats 2000000
namespace Go.Proofs.YtkinoehmcfhgbaaGreatDoor.Av
open Go.RowKit
def Row (w:World) (B n:Nat):Prop:=∃cs:List Value,w.rangeAt B 0 cs∧cs.length=n∧(∀v∈cs,v.oneCell'=true)∧∀o,w.frozen? ⟨B,o,none⟩=false
theorem Row.kp {b B n:Nat} {w w':World} (h:Row w B n) (k:Kp b w w') (h1:b<B) (h2:B<w.heap.size):Row w' B n:=by
 obtain⟨cs,a1,a2,a3,a4⟩:=h;exact⟨cs,fun j v hv=>(kfar k h1 h2 _).trans (a1 j v hv),a2,a3,fun o=>(k.frozen (p:=⟨B,o,none⟩) h2 (by show B≠b;omega)).trans (a4 o)⟩
theorem Row.other {B n:Nat} {w:World} (h:Row w B n) (k o:Nat) (u:Value) (h1:k≠B):Row (w.setCell ⟨k,o,none⟩ u) B n:=by
 obtain⟨cs,a1,a2,a3,a4⟩:=h;exact⟨cs,fun j v hv=>(sfar w k o B _ u h1).trans (a1 j v hv),a2,a3,fun o'=>by rw[World.frozen?_setCell];exact a4 o'⟩
theorem Row.alloc {w:World} {B n:Nat} (h:Row w B n) (hB:B<w.heap.size) (o:Obj):Row (w.alloc o) B n:=by
 obtain⟨cs,a1,a2,a3,a4⟩:=h;exact⟨cs,fun j v hv=>(afar w o B _ hB).trans (a1 j v hv),a2,a3,fun j=>((zaa w o).frozen (p:=⟨B,j,none⟩) hB).trans (a4 j)⟩
theorem Row.new (w:World) (a:Array Value) (t:TypeId) (h1:∀v∈a.toList,v.oneCell'=true):Row (w.alloc (.cells a t)) w.heap.size a.size:=by
 refine⟨a.toList,fun j v hv=>?_,by simp,h1,fun o=>by simp⟩;rw[World.cell?_alloc_at _ _ _ _ rfl];simpa using hv
theorem Row.set {w:World} {B n:Nat} (h:Row w B n) (j:Nat) (u:Value) (hj:j<n) (hu:u.oneCell'=true):Row (w.setCell ⟨B,j,none⟩ u) B n:=by
 obtain⟨cs,a1,a2,a3,a4⟩:=h;refine⟨cs.set j u,fun i v hv=>?_,by simp[a2],fun v hv=>?_,fun o=>by rw[World.frozen?_setCell];exact a4 o⟩
 ·by_cases e:j=i
  ·subst e;rw[List.getElem?_set_self (by omega)] at hv;cases hv
   have:=a1 j _ (List.getElem?_eq_getElem (by omega));rw[Nat.zero_add] at this ⊢;exact World.cell?_setCell_same _ _ _ this
  ·rw[List.getElem?_set_ne e] at hv;rw[Nat.zero_add,zab _ _ _ _ _ e];have:=a1 i v hv
   rwa [Nat.zero_add] at this
 ·rcases List.mem_or_eq_of_mem_set hv with h|h
  ·exact a3 v h
  ·rw[h];exact hu
theorem Row.there {w:World} {B n:Nat} (h:Row w B n) (o m:Nat) (hm:o+m≤n):w.there B o m:=fun j hj=>by
 obtain⟨cs,a1,a2,a3,a4⟩:=h;refine⟨?_,a4 _⟩;have:=a1 (o+j) _ (List.getElem?_eq_getElem (by omega));rw[Nat.zero_add] at this;rw[this];rfl
theorem Row.cell {w:World} {B n:Nat} (h:Row w B n) (j:Nat) (hj:j<n):(∃u,w.cell? ⟨B,j,none⟩=some u)∧w.frozen? ⟨B,j,none⟩=false:=by
 obtain⟨cs,a1,a2,a3,a4⟩:=h;have:=a1 j _ (List.getElem?_eq_getElem (by omega));rw[Nat.zero_add] at this;exact⟨⟨_,this⟩,a4 _⟩
theorem Row.cells {B n:Nat}:∀(vs:List Value) (o:Nat) (w:World),Row w B n→o+vs.length≤n→(∀v∈vs,v.oneCell'=true)→Row (w.setCells B o vs) B n
 | [],_,_,h,_,_=>h
 | v::r,o,w,h,hl,h1=>by
  rw[World.setCells];simp only[List.length_cons] at hl;exact Row.cells r (o+1) _ (h.set o v (by omega) (h1 v List.mem_cons_self)) (by omega) (fun u hu=>h1 u (List.mem_cons_of_mem _ hu))
theorem Row.far {B n k:Nat} (hk:k≠B):∀(vs:List Value) (o:Nat) (w:World),Row w B n→Row (w.setCells k o vs) B n
 | [],_,_,h=>h
 | v::r,o,w,h=>by
  rw[World.setCells];exact Row.far hk r (o+1) _ (h.other k o v hk)
theorem At.cells {b tb cap B:Nat} {T:List (Int×Int×Int)} {σ:PSt} (h1:b<B) (h2:tb<B):∀(vs:List Value) (o:Nat) (w:World),At w b tb cap T σ→At (w.setCells B o vs) b tb cap T σ
 | [],_,_,h=>h
 | v::r,o,w,h=>by
  rw[World.setCells];exact At.cells h1 h2 r (o+1) _ (h.other B o v h1 h2)
theorem Kp.cells {b B:Nat} {w0:World} (h1:w0.heap.size≤B):∀(vs:List Value) (o:Nat) (w:World),Kp b w0 w→Kp b w0 (w.setCells B o vs)
 | [],_,_,h=>h
 | v::r,o,w,h=>by
  rw[World.setCells];exact Kp.cells h1 r (o+1) _ (h.fresh B o v h1)
theorem za8 (B:Nat):∀(vs:List Value) (o:Nat) (w:World),(w.setCells B o vs).heap.size=w.heap.size
 | [],_,_=>rfl
 | v::r,o,w=>by
  rw[World.setCells,za8 B r (o+1) _,ssize]
theorem postN {fn:Func} {R:Ending→World→Prop} {tmps:Array Value} {X:World} {B k n:Nat} {t:TypeId} {d:TypeDesc} (cs:List Value) (hf:fn.results=#[.cell k t]) (ht:tmps.getD k undef=.pointer (some ⟨B,0,none⟩))
 (hu:Tryz.prog.underlying t=some d) (hd:d.isRow=true) (hi:(Tryz.prog.info? t).map (·.size)=some n) (hx:Row X B n) (hl:cs.length=n)
 (hR:R (.returned (.agg cs.toArray)) (X.setCells B 0 cs)):bodyPost Tryz.prog fn R .ret ⟨tmps,[]⟩ (X.setCells B 0 cs) :=
 bodyPost_ret (zaw hf ht (run_loadVar_mid _ B 0 t cs d (World.rangeAt_setCells_same X B 0 cs (by rw[hl];exact hx.there 0 n (by omega))) hu hd (by rw[hl];exact hi))) rfl hR
theorem Tryz.infoCmd:(Tryz.prog.info? 228).map (·.size)=some 20:=by kernel_rfl
theorem Tryz.infoPrg:(Tryz.prog.info? 101).map (·.size)=some 15:=by kernel_rfl
theorem Tryz.infoFrm:(Tryz.prog.info? 98).map (·.size)=some 7:=by kernel_rfl
theorem one7 (k:Int) (p:Option Addr) (n c:Nat) (r a1 a2 a3 a4:Int):(#[Value.int .i64 k,.slice p n c,.int .i64 r,.int .i64 a1,.int .i64 a2,.int .i64 a3,.int .i64 a4]:Array Value).all (·.oneCell')=true :=
 all_oneCell_toArray (cs:=[Value.int .i64 k,.slice p n c,.int .i64 r,.int .i64 a1,.int .i64 a2,.int .i64 a3,.int .i64 a4]) (by intro v hv;simp at hv;rcases hv with rfl|rfl|rfl|rfl|rfl|rfl|rfl<;>rfl)
theorem zbe {a:Array Value} (h:a.all (·.oneCell')=true):∀v∈a.toList,v.oneCell'=true:=fun v hv=>(Array.all_eq_true_iff_forall_mem.1 h) v (by simpa using hv)
end Go.Proofs.YtkinoehmcfhgbaaGreatDoor.Av
namespace Go.Proofs.YtkinoehmcfhgbaaGreatDoor.Vl
open Go.RowKit
open Av (zaw)
def syV (y:Sym):Value:=.agg #[.int .i64 y.1,.int .i64 y.2.1,.int .i64 y.2.2.1,.int .i64 y.2.2.2]
theorem Tryz.infoSym:(Tryz.prog.info? 136).map (fun i=>(i.zero,i.size,i.bytes))=some (some (.agg zZa),4,32):=by kernel_rfl
theorem Tryz.sizeSym:(Tryz.prog.info? 136).map (·.size)=some 4:=by kernel_rfl
theorem zdz {fn:Func} {R:Ending→World→Prop} {tmps:Array Value} {w:World} {k:Nat} (a b c d:Int) (hf:fn.results=#[.cell k 136]) (ht:tmps.getD k undef=.pointer (some ⟨w.heap.size,0,none⟩))
 (hR:R (.returned (.agg #[.int .i64 a,.int .i64 b,.int .i64 c,.int .i64 d])) (w.alloc (.cells #[.int .i64 a,.int .i64 b,.int .i64 c,.int .i64 d] 136))):bodyPost Tryz.prog fn R .ret ⟨tmps,[]⟩ (w.alloc (.cells #[.int .i64 a,.int .i64 b,.int .i64 c,.int .i64 d] 136)) :=
 bodyPost_ret (zaw hf ht (run_loadVar_mid _ w.heap.size 0 136 [.int .i64 a,.int .i64 b,.int .i64 c,.int .i64 d] _ (zfm w [.int .i64 a,.int .i64 b,.int .i64 c,.int .i64 d] 136) Tryz.underlying136 rfl Tryz.sizeSym)) rfl hR
theorem zbM (u v n:Int) (w:World) :
 Calls Tryz.prog 247 #[.int .i64 u,.int .i64 v,.int .i64 n] w fun e w'=>e=.returned (syV (aty u v n))∧Below w.heap.size w w':=by
 by_cases huv:u=v
 ·have huv':(u != v)=false:=by simp[huv]
  by_cases hn:0≤n
  ·have HS:Hid (aty u v n=(0,0,0,0)):=by show _=_;unfold aty;rw[if_pos huv,if_pos hn]
   clear huv;go_enter Tryz.func247,Tryz.ntmps247;go_wp2;exact zdz 0 0 0 0 Tryz.results247 rfl ⟨by rw[HS.out];rfl,zaa _ _⟩
  ·have HS:Hid (aty u v n=(1,0,0,0)):=by show _=_;unfold aty;rw[if_pos huv,if_neg hn]
   clear huv;go_enter Tryz.func247,Tryz.ntmps247;go_wp2;exact zdz 1 0 0 0 Tryz.results247 rfl ⟨by rw[HS.out];rfl,zaa _ _⟩
 ·have huv':(u != v)=true:=by simp[huv]
  have HS:Hid (aty u v n=(6,u,v,n)):=by show _=_;unfold aty;rw[if_neg huv]
  clear huv;go_enter Tryz.func247,Tryz.ntmps247;go_wp2;exact zdz 6 u v n Tryz.results247 rfl ⟨by rw[HS.out];rfl,zaa _ _⟩
theorem zbf (x:Int) (w:World) (h:-1≤x∧x≤3):Calls Tryz.prog 182 #[.int .i64 x] w fun e w'=>e=.returned (.int .i64 (x+1))∧w=w':=by
 obtain⟨h1,h2⟩:=h;go_enter Tryz.func182,Tryz.ntmps182;go_wp2;go_ret;exact⟨rfl,rfl⟩
theorem zbN (a b:Int) (w:World) (h:-1≤a∧a≤3):Calls Tryz.prog 211 #[.agg #[.int .i64 a,.int .i64 b]] w fun e w'=>e=.returned (.int .i64 (a+1))∧Below w.heap.size w w':=by
 have C:Hid (∀w,Calls Tryz.prog 182 #[.int .i64 a] w fun e w'=>e=.returned (.int .i64 (a+1))∧w=w'):=fun w=>zbf a w h
 by_cases ha:a=-1
 ·subst ha;go_enter Tryz.func211,Tryz.ntmps211;go_wp2;go_ret;exact⟨rfl,zaa _ _⟩
 ·have ha':(a==-1)=false:=by simp[ha]
  clear ha h;go_enter Tryz.func211,Tryz.ntmps211;go_wp2_with fail;refine(C.out _).mono ?_;rintro e w1 ⟨rfl,rfl⟩;go_wp2_with fail;go_ret;exact⟨rfl,zaa _ _⟩
def cell4 (y:Sym):List Value:=[.int .i64 y.1,.int .i64 y.2.1,.int .i64 y.2.2.1,.int .i64 y.2.2.2]
def cells4 (l:List Sym):List Value:=l.flatMap cell4
def CondR (w:World) (v:Value) (ys:List Sym):Prop:=(v=.slice none 0 0∧ys=[])∨∃b cap,v=.slice (some ⟨b,0,none⟩) ys.length cap∧ys.length≤cap∧cap≤maxLen∧b<w.heap.size∧w.rangeAt b 0 (cells4 ys)∧∃cur fr,w.heap[b]?=some (.cells cur 136 fr)
theorem CondR.below {w w':World} {v:Value} {ys:List Sym} (h:CondR w v ys) (hb:Below w.heap.size w w'):CondR w' v ys:=by
 rcases h with h|⟨b,cap,h1,h2,h3,h4,h5,cur,fr,h6⟩
 ·exact Or.inl h
 ·exact Or.inr ⟨b,cap,h1,h2,h3,Nat.lt_of_lt_of_le h4 hb.size,fun j u hu=>(hb.cell (p:=⟨b,0+j,none⟩) h4).trans (h5 j u hu),cur,fr,(hb.block b h4).trans h6⟩
theorem zfp (w:World) (y:Sym):CondR (w.alloc (.cells #[.int .i64 y.1,.int .i64 y.2.1,.int .i64 y.2.2.1,.int .i64 y.2.2.2] 136)) (.slice (some ⟨w.heap.size,0,none⟩) 1 1) [y] :=
 Or.inr ⟨w.heap.size,1,rfl,Nat.le_refl _,by decide,by simp,zfm w [.int .i64 y.1,.int .i64 y.2.1,.int .i64 y.2.2.1,.int .i64 y.2.2.2] 136,_,_,heap_alloc_new w _⟩
def Tw4 (w w':World) (B:Nat) (a1 a2 b1 b2:Int):Prop:=Below w.heap.size w w'∧B+1<w'.heap.size∧w'.cell? ⟨B,0,none⟩=some (.int .i64 a1)∧w'.cell? ⟨B,1,none⟩=some (.int .i64 a2)∧w'.cell? ⟨B+1,0,none⟩=some (.int .i64 b1)∧w'.cell? ⟨B+1,1,none⟩=some (.int .i64 b2)
theorem Tw4.on {w X X':World} {B:Nat} {a1 a2 b1 b2:Int} (h:Tw4 w X B a1 a2 b1 b2) (hb:Below X.heap.size X X'):Tw4 w X' B a1 a2 b1 b2:=by
 obtain⟨h0,h1,h2,h3,h4,h5⟩:=h;have hB:B<X.heap.size:=by omega
 exact⟨h0.trans (hb.mono h0.size),Nat.lt_of_lt_of_le h1 hb.size,(hb.cell (p:=⟨B,0,none⟩) hB).trans h2,(hb.cell (p:=⟨B,1,none⟩) hB).trans h3,(hb.cell (p:=⟨B+1,0,none⟩) h1).trans h4,(hb.cell (p:=⟨B+1,1,none⟩) h1).trans h5⟩
theorem zbO (a1 a2 b1 b2:Int) (w:World) (ha:tOk (a1,a2)) (hb:-1≤b1∧b1≤3∧-1000≤b2∧b2≤999) :
 Calls Tryz.prog 215 #[.agg #[.int .i64 a1,.int .i64 a2],.agg #[.int .i64 b1,.int .i64 b2]] w fun e w'=>∃v,e=.returned v∧CondR w' v [aty (a1+1) (b1+1) (b2-a2)]∧Below w.heap.size w w':=by
 obtain⟨h1,h2,h3,h4⟩:=ha;obtain⟨g1,g2,g3,g4⟩:=hb;dsimp only at h1 h2 h3 h4;have CA:Hid (∀w,Calls Tryz.prog 211 #[.agg #[.int .i64 a1,.int .i64 a2]] w fun e w'=>e=.returned (.int .i64 (a1+1))∧Below w.heap.size w w'):=fun w=>zbN a1 a2 w ⟨h1,h2⟩
 have CB:Hid (∀w,Calls Tryz.prog 211 #[.agg #[.int .i64 b1,.int .i64 b2]] w fun e w'=>e=.returned (.int .i64 (b1+1))∧Below w.heap.size w w'):=fun w=>zbN b1 b2 w ⟨g1,g2⟩
 have CS:Hid (∀w,Calls Tryz.prog 247 #[.int .i64 (a1+1),.int .i64 (b1+1),.int .i64 (b2-a2)] w fun e w'=>e=.returned (syV (aty (a1+1) (b1+1) (b2-a2)))∧Below w.heap.size w w'):=fun w=>zbM _ _ _ w
 have hv1:IntKind.i64.wrap (b2-a2)=b2-a2:=by rw[IntKind.wrap_i64];omega
 generalize aty (a1+1) (b1+1) (b2-a2)=Y at *;unfold syV at CS;go_enter Tryz.func215,Tryz.ntmps215;go_wp2_with fail;have bb0:Below w.heap.size w ((w.alloc (.cells #[.int .i64 a1,.int .i64 a2] 96)).alloc (.cells #[.int .i64 b1,.int .i64 b2] 96)):=(zaa w _).alloc (by simp) _;generalize hW:((w.alloc (.cells #[.int .i64 a1,.int .i64 a2] 96)).alloc (.cells #[.int .i64 b1,.int .i64 b2] 96))=W at *;have s0:w.heap.size+1<W.heap.size:=by rw[←hW];simp
 have c0:W.cell? ⟨w.heap.size,0,none⟩=some (.int .i64 a1):=by rw[←hW];simp
 have c1:W.cell? ⟨w.heap.size,1,none⟩=some (.int .i64 a2):=by rw[←hW];simp
 have d0:W.cell? ⟨w.heap.size+1,0,none⟩=some (.int .i64 b1):=by rw[←hW];simp
 have d1:W.cell? ⟨w.heap.size+1,1,none⟩=some (.int .i64 b2):=by rw[←hW];simp
 have bb1:Below w.heap.size w W.drew:=bb0.drew;have T0:Tw4 w W.drew w.heap.size a1 a2 b1 b2:=⟨bb1,s0,c0,c1,d0,d1⟩;clear hW;go_region_held3 (fun w'=>Below w.heap.size w w'∧w.heap.size+1<w'.heap.size∧w'.cell? ⟨w.heap.size,0,none⟩=some (.int .i64 a1)∧w'.cell? ⟨w.heap.size,1,none⟩=some (.int .i64 a2)∧w'.cell? ⟨w.heap.size+1,0,none⟩=some (.int .i64 b1)∧w'.cell? ⟨w.heap.size+1,1,none⟩=some (.int .i64 b2)) (first|(refine⟨?_,?_,?_,?_,?_,?_⟩<;>assumption)|exact((‹Tw4 w _ w.heap.size a1 a2 b1 b2›).on (zaa _ _))) (first|(go_at_call 247;refine(CS.out _).mono ?_;rintro e w4 ⟨rfl,hb4⟩;have T3:=T2.on hb4;obtain⟨t0,t1,t2,t3,t4,t5⟩:=id T3)|(go_at_call 211;first|(have hh:=T1;refine(CB.out _).mono ?_;rintro e w3 ⟨rfl,hb3⟩;have T2:=T1.on hb3;clear hh;obtain⟨t0,t1,t2,t3,t4,t5⟩:=id T2)|(refine(CA.out _).mono ?_;rintro e w3 ⟨rfl,hb3⟩;have T1:=T0.on hb3;obtain⟨t0,t1,t2,t3,t4,t5⟩:=id T1)));go_wp2_with fail;go_ret;refine⟨_,rfl,zfp w4 Y,t0.alloc (by have:=t0.size;omega) _⟩
theorem zfq (a1 a2 b1 b2:Int) (w:World) (ha:tOk (a1,a2)) (hb:tOk (b1,b2)) :
 Calls Tryz.prog 214 #[.agg #[.int .i64 a1,.int .i64 a2],.agg #[.int .i64 b1,.int .i64 b2]] w fun e w'=>∃v,e=.returned v∧CondR w' v [aty (a1+1) (b1+1) (b2-a2-1)]∧Below w.heap.size w w':=by
 obtain⟨g1,g2,g3,g4⟩:=hb;dsimp only at g1 g2 g3 g4;have CA:Hid (∀w,Calls Tryz.prog 215 #[.agg #[.int .i64 a1,.int .i64 a2],.agg #[.int .i64 b1,.int .i64 (b2-1)]] w fun e w'=>∃v,e=.returned v∧CondR w' v [aty (a1+1) (b1+1) (b2-a2-1)]∧Below w.heap.size w w'):=fun w=>by
  have:=zbO a1 a2 b1 (b2-1) w ha ⟨g1,g2,by omega,by omega⟩
  rwa [show b2-1-a2=b2-a2-1 by omega] at this
 clear ha;generalize aty (a1+1) (b1+1) (b2-a2-1)=Y at *;go_enter Tryz.func214,Tryz.ntmps214;go_wp2_with fail;refine(CA.out _).mono ?_;rintro e w1 ⟨v,rfl,hc,hb⟩;go_wp2_with fail;go_ret;exact⟨_,rfl,hc,((zaa w _).alloc (by simp) _).trans (hb.mono (by simp;omega))⟩
theorem zcc (B b:Nat) (p:Value) (bs:List Value) (w:World) (h:Lib.BuilderAt 130 5 B b p bs w) (hp:p=.pointer none∨p=.pointer (some ⟨b,0,none⟩)) :
 Calls Tryz.prog 96 #[.pointer (some ⟨b,0,none⟩)] w fun e w'=>e=.returned (.tuple #[])∧Lib.BuilderAt 130 5 B b (.pointer (some ⟨b,0,none⟩)) bs w'∧Below B w w':=by
 have c0:=h.cell0;have f0:=h.frozen0;have hlt:=h.lt;have HB:Hid _:=h;have hsh:=h.shape;obtain⟨jT,hjT⟩:∃j,Tryz.prog.info? 130=some j:=Option.isSome_iff_exists.1 (by kernel_rfl)
 have hjs:jT.size≠0:=by
  have:(Tryz.prog.info? 130).map (·.size)=some 2:=by kernel_rfl
  rw[hjT] at this;have h2:jT.size=2:=Option.some.inj this;omega
 have q1:(convert 128 275 (.pointer (some ⟨b,0,none⟩))).run Tryz.prog w=.ok (.pointer (some ⟨b,0,none⟩)) w:=Lib.run_to_unsafe w ⟨b,0,none⟩ Tryz.underlying128 Tryz.underlying275 hjT hjs hsh (show 0<2 by decide);have q2:(convert 275 128 (.pointer (some ⟨b,0,none⟩))).run Tryz.prog w=.ok (.pointer (some ⟨b,0,none⟩)) w:=Lib.run_from_unsafe w ⟨b,0,none⟩ Tryz.underlying275 Tryz.underlying128 hjT hsh (by kernel_rfl);have q3:(binOp .neq 128 (.pointer (some ⟨b,0,none⟩)) (.pointer (some ⟨b,0,none⟩))).run Tryz.prog w=.ok (.bool false) w:=Lib.run_neq_ptr_same w ⟨b,0,none⟩ Tryz.underlying128 hjT;have q4:(callFunc 143 #[.pointer (some ⟨b,0,none⟩)]).run Tryz.prog w=.ok (.value (.pointer (some ⟨b,0,none⟩))) w:=by
  rw[run_callFunc_extern Tryz.func143 (by kernel_rfl) (by kernel_rfl) (by kernel_rfl) (e:=Extern.AbiNoEscape.same) (by kernel_rfl),Lib.run_noEscape]
  rfl
 clear hsh hjs;rcases hp with rfl|rfl
 ·clear h;go_enter Tryz.func96,Tryz.ntmps96;go_wp2_with fail
  go_end0
  exact⟨rfl,Lib.BuilderAt.used HB.out _,(Below.refl _ _).setCell (p:=⟨b,0,none⟩) HB.out.1 _⟩
 ·clear h;go_enter Tryz.func96,Tryz.ntmps96;go_wp2_with fail
  go_end0
  exact⟨rfl,HB.out,Below.refl _ _⟩
theorem Tryz.infoByte:(Tryz.prog.info? 5).map (fun i=>(i.zero,i.size,i.bytes))=some (some (.int .u8 0),1,1):=by kernel_rfl
theorem zdA (B b:Nat) (bs:List Value) (s:ByteArray) (w:World) (h:Lib.IsBuilder 130 5 B b bs w) (hlen:bs.length+s.size≤100000000) (hBw:B≤w.heap.size) :
 Calls Tryz.prog 59 #[.pointer (some ⟨b,0,none⟩),.string s] w fun e w'=>e=.returned (.tuple #[.int .i64 s.size,.nilIface])∧Lib.BuilderAt 130 5 B b (.pointer (some ⟨b,0,none⟩)) (bs++Lib.strCells s) w'∧Below B w w':=by
 obtain⟨i0,hi,hz0,hz1,hz2⟩:=info_parts Tryz.infoByte;have C1:Hid (Calls Tryz.prog 96 #[.pointer (some ⟨b,0,none⟩)] w fun e w'=>e=.returned (.tuple #[])∧Lib.BuilderAt 130 5 B b (.pointer (some ⟨b,0,none⟩)) bs w'∧Below B w w'):=by
  rcases h with h|h
  ·exact zcc B b _ bs w h (Or.inl rfl)
  ·exact zcc B b _ bs w h (Or.inr rfl)
 clear h;go_enter Tryz.func59,Tryz.ntmps59;go_wp2_with fail;refine Calls.mono C1.out ?_;rintro e w1 ⟨rfl,⟨hB,v,hb,hown,hne⟩,hb1⟩;have c1:=Lib.cell_of_heap hb 1;simp at c1;have hlt:b<w1.heap.size:=by
  rcases Nat.lt_or_ge b w1.heap.size with h|h
  ·exact h
  ·rw[Array.getElem?_eq_none h] at hb;cases hb
 have hs1:=hb1.size;have HH:Hid _:=hb;clear hb;obtain⟨va,vn,vc,rfl⟩:∃a n c,v=.slice a n c:=by
  rcases hown.2 with⟨rfl,_⟩|⟨g,cap,cur,rfl,_⟩
  ·exact⟨_,_,_,rfl⟩
  ·exact⟨_,_,_,rfl⟩
 go_wp2_with (at_builtin;refine Lib.wpList_append_own_string _ rfl _ _ 122 9 rfl B 5 i0 Tryz.underlying122 Tryz.underlying9 hi hz0 hz1 hz2 _ _ _ rfl hown s rfl (by unfold maxLen;omega) (by omega) (by omega) ?_)
 intro v' w2 hown2 hgrow _;have hbk:w2.heap[b]?=some (.cells #[.pointer (some ⟨b,0,none⟩),.slice va vn vc] 130 (0,0)):=(hgrow.block b hlt (fun e=>hne e.symm)).trans HH.out;have f1:=Lib.frozen_of_heap hbk 1;have c1':=Lib.cell_of_heap hbk 1;simp at c1';have hlt2:b<w2.heap.size:=Nat.lt_of_lt_of_le hlt hgrow.size;have HBA:Hid (Lib.BuilderAt 130 5 B b (.pointer (some ⟨b,0,none⟩)) (bs++Lib.strCells s) (w2.setCell ⟨b,1,none⟩ v')):=Lib.BuilderAt.put hB hbk (by rw[List.length_append,Lib.strCells_length];exact hown2) (by decide);have HB2:Hid (Below B w w2):=hb1.grown hgrow (by omega) (fun j hj=>zae hown j hj);obtain⟨va',vn',vc',rfl⟩:∃a n c,v'=.slice a n c:=by
  rcases hown2.2 with⟨rfl,_⟩|⟨g,cap,cur,rfl,_⟩
  ·exact⟨_,_,_,rfl⟩
  ·exact⟨_,_,_,rfl⟩
 clear hown hgrow hown2 hbk HH c1;go_wp2_with fail
 go_ret2
 exact⟨rfl,HBA.out,HB2.out.setCell (p:=⟨b,1,none⟩) hB _⟩
theorem zkq (n:Nat) (w:World) (hn:n≤100000) :
 Calls Tryz.prog 216 #[.slice none 0 0,.int .i64 (n:Int)] w fun e w'=>∃v,e=.returned v∧w'.ownsRow w.heap.size 136 4 v 0 []∧Below w.heap.size w w':=by
 obtain⟨i0,hi,hz0,hz1,hz2⟩:=info_parts Tryz.infoSym;have hn0:¬(n:Int)<0:=by omega
 by_cases h0:0<n
 ·have hp:(0:Int)<(n:Int):=by omega
  have hr:=Lib.run_append_nil_zeros (P:=Tryz.prog) w 75 3 75 136 i0 _ .i64 .i64 Tryz.underlying75 Tryz.underlying3 hi hz0 n h0 (by omega) (by omega) (by rw[hz2];omega);have hcg:=grownCap_ge w n 0 136;have hcm:=grownCap_le_maxLen w n 0 136 (by unfold maxLen;omega);generalize grownCap w n 0 136=cap at *;go_enter Tryz.func216,Tryz.ntmps216;go_wp2_with (at_builtin;refine Lib.wpList_append_run _ rfl _ _ _ _ rfl _ _ rfl rfl _ _ hr ?_);go_wp2_with fail;go_ret;refine⟨_,rfl,⟨rfl,Or.inr ⟨w.heap.size,cap,_,rfl,Nat.le_refl _,heap_alloc_new w _,Nat.zero_le _,hcm,?_,rfl⟩⟩,(zaa w _).drew⟩;rw[Array.size_append,size_zeroCells,size_zeroCells];simp;omega
 ·have hn1:n=0:=by omega
  subst hn1;go_enter Tryz.func216,Tryz.ntmps216;go_wp2;go_ret;exact⟨_,rfl,World.ownsRow_nil _ _ _ _,Below.refl _ _⟩
def PartsR (w:World) (v:Value) (yss:List (List Sym)):Prop:=(v=.slice none 0 0∧yss=[])∨∃(p cap:Nat) (vs:List Value),v=.slice (some ⟨p,0,none⟩) yss.length cap∧yss.length≤cap∧cap≤maxLen∧p<w.heap.size∧vs.length=yss.length∧(∀(j:Nat) (x:Value),vs[j]?=some x→w.cell? ⟨p,j,none⟩=some x)∧∀(j:Nat) (x:Value) (ys:List Sym),vs[j]?=some x→yss[j]?=some ys→CondR w x ys
theorem PartsR.below {w w':World} {v:Value} {yss:List (List Sym)} (h:PartsR w v yss) (hb:Below w.heap.size w w'):PartsR w' v yss:=by
 rcases h with h|⟨p,cap,vs,h1,h2,h3,h4,h5,h6,h7⟩
 ·exact Or.inl h
 ·exact Or.inr ⟨p,cap,vs,h1,h2,h3,Nat.lt_of_lt_of_le h4 hb.size,h5,fun j x hx=>(hb.cell (p:=⟨p,j,none⟩) h4).trans (h6 j x hx),fun j x ys hx hy=>(h7 j x ys hx hy).below hb⟩
theorem CondR.shape {w:World} {v:Value} {ys:List Sym} (h:CondR w v ys):∃a cap,v=.slice a ys.length cap:=by
 rcases h with⟨rfl,rfl⟩|⟨b,cap,h1,_⟩
 ·exact⟨none,0,rfl⟩
 ·exact⟨_,_,h1⟩
theorem zcp:∀l:List Sym,(cells4 l).length=l.length*4
 | []=>rfl
 | x::r=>by simp only[cells4,List.flatMap_cons,List.length_append,List.length_cons];have:=zcp r;unfold cells4 at this;rw[this];simp[cell4];omega
theorem zd4 (a b:List Sym):cells4 (a++b)=cells4 a++cells4 b:=by unfold cells4;rw[List.flatMap_append]
theorem zhd (l:List Sym):∀u∈cells4 l,u.oneCell'=true:=by
 intro u hu;unfold cells4 at hu;obtain⟨y,_,hy⟩:=List.mem_flatMap.1 hu;simp[cell4] at hy;rcases hy with rfl|rfl|rfl|rfl<;>rfl
theorem zgF {w:World} {base:Nat} {v:Value} {ys:List Sym} (h:w.ownsRow base 136 4 v ys.length (cells4 ys)):CondR w v ys:=by
 rcases h.2 with⟨h1,h2⟩|⟨g,cap,cur,hv,hg,hh,h3,h4,h5,h6⟩
 ·exact Or.inl ⟨h1,List.length_eq_zero_iff.1 h2⟩
 ·have hlt:g<w.heap.size:=by
   rcases Nat.lt_or_ge g w.heap.size with h|h
   ·exact h
   ·rw[Array.getElem?_eq_none h] at hh;cases hh
  refine Or.inr ⟨g,cap,hv,h3,h4,hlt,fun j u hu=>?_,_,_,hh⟩;rw[←h6,List.getElem?_take] at hu;split at hu
  ·have:cur[j]?=some u:=by simpa using hu
   simp[World.cell?,hh,this]
  ·cases hu
theorem zfr (yss:List (List Sym)) {k:Nat} {ys:List Sym} (h:yss[k]?=some ys):(yss.take (k+1)).flatten=(yss.take k).flatten++ys:=by
 have hk:k<yss.length:=by
  rcases Nat.lt_or_ge k yss.length with h'|h'
  ·exact h'
  ·rw[List.getElem?_eq_none h'] at h;cases h
 rw[List.take_add_one,List.flatten_append,h];simp
theorem zf4 (yss:List (List Sym)) (k:Nat):(yss.take k).flatten.length≤yss.flatten.length:=by
 conv=>rhs;rw[←List.take_append_drop k yss,List.flatten_append,List.length_append]
 omega
theorem zd5 (v:Value) (yss:List (List Sym)) (w:World) (h:PartsR w v yss) (hl:yss.flatten.length≤100000) (hm:yss.length≤1000) :
 Calls Tryz.prog 142 #[v] w fun e w'=>∃v',e=.returned v'∧CondR w' v' yss.flatten∧Below w.heap.size w w':=by
 obtain⟨i0,hi,hz0,hz1,hz2⟩:=info_parts Tryz.infoSym;have CG:Hid (∀w,Calls Tryz.prog 216 #[.slice none 0 0,.int .i64 (yss.flatten.length:Int)] w fun e w'=>∃v,e=.returned v∧w'.ownsRow w.heap.size 136 4 v 0 []∧Below w.heap.size w w'):=fun w=>zkq _ w hl
 obtain⟨pa,cap,rfl⟩:∃pa cap,v=.slice pa yss.length cap:=by
  rcases h with⟨rfl,rfl⟩|⟨p,cap,vs,rfl,_⟩
  ·exact⟨none,0,rfl⟩
  ·exact⟨_,_,rfl⟩
 have HP:Hid (PartsR w (.slice pa yss.length cap) yss):=h;have HFL:Hid (yss.take yss.length=yss):=List.take_length;clear h;go_enter Tryz.func142,Tryz.ntmps142;go_wp2_with fail
 go_loopw [3,11] (fun sz iv wr=>∃k:Nat,iv=.int .i64 (k:Int)∧k≤yss.length∧sz=.int .i64 ((yss.take k).flatten.length:Int)∧Below w.heap.size w wr) (fun _ iv _=>yss.length-(intOf iv).toNat)
 case atStart=>exact⟨0,rfl,Nat.zero_le _,rfl,Below.refl _ _⟩
 case round =>
  obtain⟨k,rfl,hk,rfl,hbr⟩:=hrel;have hfl:=zf4 yss k;by_cases hlt:k<yss.length
  ·have hlt':(k:Int)<(yss.length:Int):=by omega
   obtain⟨ys,hys⟩:∃ys,yss[k]?=some ys:=⟨_,List.getElem?_eq_getElem hlt⟩
   have hft:=zfr yss hys;have hfl2:=zf4 yss (k+1);rcases HP.out with⟨_,h0⟩|⟨p,cap',vs,hv,h2,h3,h4,h5,h6,h7⟩
   ·rw[h0] at hlt;simp at hlt
   cases hv
   obtain⟨x,hx⟩:∃x,vs[k]?=some x:=⟨_,List.getElem?_eq_getElem (by omega)⟩
   obtain⟨xa,xc,rfl⟩:=(h7 k x ys hx hys).shape;have z:=(hbr.cell (p:=⟨p,k,none⟩) h4).trans (h6 k _ hx);have hsum:(yss.take (k+1)).flatten.length=(yss.take k).flatten.length+ys.length:=by rw[hft,List.length_append]
   have HSU:Hid ((yss.take (k+1)).flatten.length=(yss.take k).flatten.length+ys.length):=hsum;have hb2:(yss.take k).flatten.length+ys.length≤100000:=by omega
   clear hft hfl2 h6 h7 hx hys hsum;generalize (yss.take k).flatten.length=S at *;go_wp2_with fail
   go_roundw
   case rel=>exact⟨k+1,by go_num,by omega,by rw[HSU.out];go_num,hbr⟩
   case measure=>simp[intOf];omega
  ·have hke:k=yss.length:=by omega
   subst hke;have hlt':¬(yss.length:Int)<(yss.length:Int):=by omega
   rw[HFL.out];obtain⟨W1,hW1⟩:∃W1,W1=wr:=⟨_,rfl⟩
   subst hW1;generalize hSS:yss.flatten.length=S at *;have HSS:Hid (yss.flatten.length=S):=hSS;clear hSS hfl;go_wp2_with fail;refine(CG.out _).mono ?_;rintro e w2 ⟨nv,rfl,hown0,hb2⟩;have HB2:Hid (Below w.heap.size w w2):=hbr.trans (hb2.mono hbr.size);have hs12:=hb2.size;have hww:=hbr.size;clear hb2 hbr;go_wp2_with fail
   go_loopw [6,27] (fun lv iv wr=>∃k:Nat,iv=.int .i64 (k:Int)∧k≤yss.length∧wr.ownsRow W1.heap.size 136 4 lv (yss.take k).flatten.length (cells4 (yss.take k).flatten)∧Below w.heap.size w wr∧W1.heap.size≤wr.heap.size) (fun _ iv _=>yss.length-(intOf iv).toNat)
   case atStart=>exact⟨0,rfl,Nat.zero_le _,hown0,HB2.out,hs12⟩
   case round =>
    obtain⟨k,rfl,hk,hown,hbr,hsr⟩:=hrel;by_cases hlt2:k<yss.length
    ·have hlt3:(k:Int)<(yss.length:Int):=by omega
     obtain⟨ys,hys⟩:∃ys,yss[k]?=some ys:=⟨_,List.getElem?_eq_getElem hlt2⟩
     have hft:=zfr yss hys;have hfl2:=zf4 yss (k+1);rw[HSS.out,hft,List.length_append] at hfl2;rcases HP.out with⟨_,h0⟩|⟨p,cap',vs,hv,h2,h3,h4,h5,h6,h7⟩
     ·rw[h0] at hlt2;simp at hlt2
     cases hv
     obtain⟨x,hx⟩:∃x,vs[k]?=some x:=⟨_,List.getElem?_eq_getElem (by omega)⟩
     have z:=(hbr.cell (p:=⟨p,k,none⟩) h4).trans (h6 k _ hx);have hcx:=h7 k x ys hx hys;have HFT:Hid ((yss.take (k+1)).flatten=(yss.take k).flatten++ys):=hft;clear hft h6 h7 hx hys hown0;generalize hTK:(yss.take k).flatten=TK at *;rcases hcx with⟨rfl,rfl⟩|⟨b,xc,rfl,q2,q3,q4,q5,_⟩
     ·go_wp2_with (at_builtin;refine wpList_append_own_none rfl _ _ 75 rfl W1.heap.size 136 i0 4 Tryz.underlying75 hi _ _ _ rfl hown rfl ?_)
      go_wp2_with fail
      go_roundw
      case rel=>exact⟨k+1,by go_num,by omega,by rw[HFT.out,List.append_nil];exact hown,hbr,hsr⟩
      case measure=>simp[intOf];omega
     ·have hnews:∀j u,(cells4 ys)[j]?=some u→wr.cell? ((⟨b,0,none⟩:Addr).add j)=some u:=fun j u hu=>by
       rw[Addr.add_mid];exact(hbr.cell (p:=⟨b,0+j,none⟩) q4).trans (q5 j u hu)
      go_wp2_with (at_builtin;refine wpList_append_own _ rfl _ _ 75 rfl W1.heap.size 136 i0 (.agg zZa) 4 32 Tryz.underlying75 hi hz0 hz1 hz2 rfl (by decide) _ _ _ rfl hown ⟨b,0,none⟩ ys.length xc (cells4 ys) rfl (zcp ys) hnews (zhd ys) (by unfold maxLen;omega) (by omega) hsr ?_)
      intro v' w3 hown3 hgrow _;have hb3:=hbr.grown hgrow hbr.size (fun j hj=>by have:=zae hown j hj;omega);have hs3:=hgrow.size;clear hown hgrow hnews;go_wp2_with fail
      go_roundw
      case rel=>exact⟨k+1,by go_num,by omega,by rw[HFT.out,zd4,List.length_append];exact hown3,hb3,by omega⟩
      case measure=>simp[intOf];omega
    ·have hke:k=yss.length:=by omega
     subst hke;have hlt3:¬(yss.length:Int)<(yss.length:Int):=by omega
     rw[HFL.out] at hown;go_wp2_with fail;go_ret;exact⟨_,rfl,zgF hown,hbr⟩
open Av (Fm Cm)
structure RS where
 x1:Int
 x2:Int
 x3:Int
 x4:Int
 n:Int
 e:Int
def RS.ev (s:RS) (f:Fm):Bool:=Vl.ev s.x1 s.x2 s.x3 s.x4 f
def RS.tv (s:RS) (t:Int×Int):Int:=Vl.tv s.x1 s.x2 s.x3 s.x4 t
def RS.set (s:RS) (x v:Int):RS:=if x=0 then {s with x1:=v} else if x=1 then {s with x2:=v} else if x=2 then {s with x3:=v} else {s with x4:=v}
def stp (fuel:Int) (s:RS):RS:=if s.n=fuel then {s with e:=1} else {s with n:=s.n+1}
def asgn (fuel:Int) (x:Int) (t:Int×Int) (s:RS):RS :=
 if s.n=fuel then {s with e:=1} else if gd (s.tv t) then {s.set x (s.tv t) with n:=s.n+1} else {s with e:=2}
def whl (fuel:Int) (f:Fm) (body:RS→RS):Nat→RS→RS
 | 0,s=>s
 | m+1,s=>if 0≤(stp fuel s).e then stp fuel s else if (stp fuel s).ev f then (if 0≤(body (stp fuel s)).e then body (stp fuel s) else whl fuel f body m (body (stp fuel s))) else stp fuel s
def ex (fuel:Int):Cm→RS→RS
 | .skip,s=>stp fuel s
 | .asg x t,s=>asgn fuel x t s
 | .ite f a b,s=>if 0≤(stp fuel s).e then stp fuel s else if (stp fuel s).ev f then ex fuel a (stp fuel s) else ex fuel b (stp fuel s)
 | .loop f g a,s=>whl fuel f (ex fuel a) (fuel.toNat+1) s
 | .seq a b,s=>if 0≤(ex fuel a s).e then ex fuel a s else ex fuel b (ex fuel a s)
def Inv (fuel:Int) (s:RS):Prop:=0≤s.n∧s.n≤fuel∧gds s.x1 s.x2 s.x3 s.x4=true∧-1≤s.e∧s.e≤2
theorem zbt {fuel:Int} {s:RS} (h:Inv fuel s):Inv fuel (stp fuel s)∧s.n≤(stp fuel s).n∧((stp fuel s).e<0→(stp fuel s).n=s.n+1):=by
 obtain⟨h1,h2,h3,h4,h5⟩:=h;unfold stp;split
 ·exact⟨⟨h1,h2,h3,by dsimp only;decide,by dsimp only;decide⟩,Int.le_refl _,fun h=>by dsimp only at h;omega⟩
 ·exact⟨⟨by dsimp only;omega,by dsimp only;omega,h3,h4,h5⟩,by dsimp only;omega,fun _=>rfl⟩
theorem zlH {s:RS} {x v:Int} (h:gds s.x1 s.x2 s.x3 s.x4=true) (hv:gd v=true):gds (s.set x v).x1 (s.set x v).x2 (s.set x v).x3 (s.set x v).x4=true:=by
 unfold gds at *;simp only[Bool.and_eq_true] at *;obtain⟨a,b,c,d⟩:=h;unfold RS.set;split
 ·exact⟨hv,b,c,d⟩
 ·split
  ·exact⟨a,hv,c,d⟩
  ·split
   ·exact⟨a,b,hv,d⟩
   ·exact⟨a,b,c,hv⟩
theorem zkr (s:RS) (x v:Int):(s.set x v).n=s.n∧(s.set x v).e=s.e:=by
 unfold RS.set;split
 ·exact⟨rfl,rfl⟩
 ·split
  ·exact⟨rfl,rfl⟩
  ·split<;>exact⟨rfl,rfl⟩
theorem zks {fuel:Int} {s:RS} (h:Inv fuel s) (x:Int) (t:Int×Int):Inv fuel (asgn fuel x t s)∧s.n≤(asgn fuel x t s).n:=by
 obtain⟨h1,h2,h3,h4,h5⟩:=h;have hs:=zkr s x (s.tv t);unfold asgn;split
 ·exact⟨⟨h1,h2,h3,by dsimp only;decide,by dsimp only;decide⟩,Int.le_refl _⟩
 ·split
  ·rename_i hv
   exact⟨⟨by dsimp only;omega,by dsimp only;omega,zlH h3 hv,by dsimp only;omega,by dsimp only;omega⟩,by dsimp only;omega⟩
  ·exact⟨⟨h1,h2,h3,by dsimp only;decide,by dsimp only;decide⟩,Int.le_refl _⟩
theorem zja {fuel:Int} {f:Fm} {body:RS→RS} (hb:∀s,Inv fuel s→Inv fuel (body s)∧s.n≤(body s).n):∀(m:Nat) (s:RS),Inv fuel s→Inv fuel (whl fuel f body m s)∧s.n≤(whl fuel f body m s).n
 | 0,s,h=>⟨h,Int.le_refl _⟩
 | m+1,s,h=>by
  have h1:=zbt h;have h2:=hb _ h1.1;simp only[whl];split
  ·exact⟨h1.1,h1.2.1⟩
  ·split
   ·split
    ·exact⟨h2.1,by omega⟩
    ·have h3:=zja (f:=f) hb m _ h2.1;exact⟨h3.1,by omega⟩
   ·exact⟨h1.1,h1.2.1⟩
theorem zdB {fuel:Int}:∀(c:Cm) (s:RS),Inv fuel s→Inv fuel (ex fuel c s)∧s.n≤(ex fuel c s).n
 | .skip,s,h=>⟨(zbt h).1,(zbt h).2.1⟩
 | .asg x t,s,h=>zks h x t
 | .ite f a b,s,h=>by
  have h1:=zbt h;have h2:=zdB a _ h1.1;have h3:=zdB b _ h1.1;simp only[ex];split
  ·exact⟨h1.1,h1.2.1⟩
  ·split
   ·exact⟨h2.1,by omega⟩
   ·exact⟨h3.1,by omega⟩
 | .loop f g a,s,h=>zja (fun s hs=>zdB a s hs) _ s h
 | .seq a b,s,h=>by
  have h1:=zdB a s h;have h2:=zdB b _ h1.1;simp only[ex];split
  ·exact h1
  ·exact⟨h2.1,by omega⟩
theorem zgG {fuel:Int} {f:Fm} {body:RS→RS} (hb:∀s,Inv fuel s→Inv fuel (body s)∧s.n≤(body s).n):∀(m k:Nat) (s:RS),Inv fuel s→fuel-s.n<m→fuel-s.n<k→whl fuel f body m s=whl fuel f body k s
 | 0,k,s,h,hm,hk=>by have:=h.2.1;omega
 | m+1,0,s,h,hm,hk=>by have:=h.2.1;omega
 | m+1,k+1,s,h,hm,hk=>by
  have h1:=zbt h;have h2:=hb _ h1.1;simp only[whl];split
  ·rfl
  ·rename_i hs
   have h3:=h1.2.2 (by omega);split
   ·split
    ·rfl
    ·exact zgG hb m k _ h2.1 (by omega) (by omega)
   ·rfl
theorem zkt {fuel:Int} {f:Fm} {body:RS→RS} (hb:∀s,Inv fuel s→Inv fuel (body s)∧s.n≤(body s).n) (s:RS) (h:Inv fuel s):whl fuel f body (fuel.toNat+1) s =
 if 0≤(stp fuel s).e then stp fuel s else if (stp fuel s).ev f then (if 0≤(body (stp fuel s)).e then body (stp fuel s) else whl fuel f body (fuel.toNat+1) (body (stp fuel s))) else stp fuel s:=by
 have h1:=zbt h;have h2:=hb _ h1.1;have hn:=h.1;have hn2:=h.2.1;rw[whl];split
 ·rfl
 ·rename_i hs
  have h3:=h1.2.2 (by omega);split
  ·split
   ·rfl
   ·exact zgG hb fuel.toNat (fuel.toNat+1) _ h2.1 (by omega) (by omega)
  ·rfl
def kn (s:RS):Int:=if s.e<0 then 0 else s.e
end Go.Proofs.YtkinoehmcfhgbaaGreatDoor.Vl
namespace Go.Proofs.YtkinoehmcfhgbaaGreatDoor.Av
open Go.RowKit
variable {toks:List (List UInt8×Nat)} {len:Nat}
theorem zku {b B o:Nat} {w w':World} {L:List Value} (h:w.rangeAt B o L) (k:Kp b w w') (h1:b<B) (h2:B<w.heap.size):w'.rangeAt B o L:=fun j v hv=>(k.cell (p:=⟨B,o+j,none⟩) h2 (by show B≠b;omega)).trans (h j v hv)
theorem zmG {B:Nat} {w:World} (o:Nat) (u:Value) (h:∃v,w.cell? ⟨B,o,none⟩=some v):(w.setCell ⟨B,o,none⟩ u).rangeAt B o [u]:=fun j v hv=>by
 match j,hv with
 | 0,hv=>cases hv;exact zal _ _ _ h
 | j+1,hv=>simp at hv
theorem zdC {B:Nat} {w:World} {x:Value} {r:List Value} (h:w.rangeAt B 0 (x::r)):w.rangeAt B 0 [x]:=fun j v hv=>by
 match j,hv with
 | 0,hv=>exact h 0 v hv
 | j+1,hv=>simp at hv
theorem zcz {B o:Nat} {w:World} {cs L:List Value} (h:w.rangeAt B 0 cs) (k:w.rangeAt B o L) (hl:o+L.length≤cs.length) (j:Nat) (hj:j<L.length):cs[o+j]?=L[j]?:=by
 have h1:=h (o+j) cs[o+j] (List.getElem?_eq_getElem (by omega));have h2:=k j L[j] (List.getElem?_eq_getElem hj);rw[Nat.zero_add] at h1;rw[List.getElem?_eq_getElem (by omega),List.getElem?_eq_getElem hj,←h1,←h2]
theorem zdD {B o:Nat} {w:World} {cs L:List Value} (h:w.rangeAt B 0 cs) (k:w.rangeAt B o L) (hl:o+L.length≤cs.length):(cs.drop o).take L.length=L:=by
 apply List.ext_getElem?
 intro j;by_cases hj:j<L.length
 ·rw[List.getElem?_take,if_pos hj,List.getElem?_drop];exact zcz h k hl j hj
 ·rw[List.getElem?_take,if_neg hj,List.getElem?_eq_none (by omega)]
def PrR (toks:List (List UInt8×Nat)) (k:Nat) (P:Nat→Prop) (w':World) (v:Value) (σ':PSt):Prop:=∃p c q y k1 k2 k3,v=.agg (List.toArray y)∧y.length=15∧Rd toks .form (k+1) p k1∧Rc toks true (k1+1) c k2∧Rd toks .form (k2+1) q k3∧k3≤toks.length ∧
 IsF w' P p ((y.drop 0).take 7)∧(∃g n m ys,y[7]?=some (.slice (some ⟨g,0,none⟩) n m)∧Lst w' P g n m ys∧IsC w' P c ys)∧IsF w' P q ((y.drop 8).take 7)
variable {toks:List (List UInt8×Nat)} {len:Nat}
theorem zkv (l:List (Value×Nat)):∀(A:Array Value),(l.foldl (fun(cs:Array Value) (x:Value×Nat)=>cs.setIfInBounds x.snd x.fst) A).size=A.size:=by
 induction l with
 | nil=>intro A;rfl
 | cons a r ih=>intro A;rw[List.foldl_cons,ih,Array.size_setIfInBounds]
theorem zgH:∀(l:List Value) (k:Nat) (A:Array Value),k+l.length=A.size→(∀j v,k≤j→l[j-k]?=some v→((l.zipIdx k).foldl (fun(cs:Array Value) (x:Value×Nat)=>cs.setIfInBounds x.snd x.fst) A)[j]?=some v)∧∀j,j<k→((l.zipIdx k).foldl (fun(cs:Array Value) (x:Value×Nat)=>cs.setIfInBounds x.snd x.fst) A)[j]?=A[j]?
 | [],k,A,h=>⟨fun j v h1 h2=>by simp at h2,fun j h1=>rfl⟩
 | x::r,k,A,h=>by
  simp only[List.length_cons] at h;have ih:=zgH r (k+1) (A.setIfInBounds k x) (by rw[Array.size_setIfInBounds];omega);rw[List.zipIdx_cons,List.foldl_cons];refine⟨fun j v h1 h2=>?_,fun j h1=>?_⟩
  ·by_cases e:j=k
   ·subst e;rw[Nat.sub_self] at h2;cases h2
    rw[ih.2 j (by omega),Array.getElem?_setIfInBounds_self_of_lt (by omega)]
   ·refine ih.1 j v (by omega) ?_;have e2:j-k=(j-(k+1))+1:=by omega
    rw[e2] at h2;simpa using h2
  ·rw[ih.2 j (by omega),Array.getElem?_setIfInBounds_ne (by omega)]
theorem bld20 (cs:Array Value) (h:cs.size=20):Array.foldl (fun(cs:Array Value) (x:Value×Nat)=>cs.setIfInBounds x.snd x.fst) zZc cs.zipIdx 0 20=cs:=by
 have hz:cs.zipIdx.size=20:=by simp[h]
 rw[←hz,←Array.foldl_toList,Array.toList_zipIdx];have hp:=(zgH cs.toList 0 zZc (by simp[h])).1;apply Array.ext_getElem?;intro j;by_cases hj:j<cs.size
 ·have e:cs[j]?=some cs[j]:=Array.getElem?_eq_getElem hj;rw[e];exact hp j _ (Nat.zero_le _) (by rw[Nat.sub_zero,Array.getElem?_toList];exact e)
 ·have hl:=zkv cs.toList.zipIdx zZc;rw[Array.getElem?_eq_none (xs:=cs) (by omega),Array.getElem?_eq_none];rw[hl];show 20≤j
  omega
def want (s:ByteArray):Int×Int:=runM s.size (tokAt 0 (rest s 0)) st0 0
end Go.Proofs.YtkinoehmcfhgbaaGreatDoor.Av
