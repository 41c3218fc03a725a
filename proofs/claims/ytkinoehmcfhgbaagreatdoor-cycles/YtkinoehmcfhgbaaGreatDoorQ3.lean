/- A part of the proof. -/
import Derived.Test.YtkinoehmcfhgbaaGreatDoorF1
set_option linter.unusedVariables false
set_option linter.unusedSimpArgs false
set_option maxRecDepth 100000
set_option maxHeartbeats 1000000
namespace Go.Proofs.YtkinoehmcfhgbaaGreatDoor.Av
open Go.RowKit
variable {toks:List (List UInt8×Nat)} {len:Nat}
def Seven (w:World) (B:Nat) (c0 c1 c2 c3 c4 c5 c6:Value):Prop:=(w.cell? ⟨B,0,none⟩=some c0∧w.cell? ⟨B,1,none⟩=some c1∧w.cell? ⟨B,2,none⟩=some c2∧w.cell? ⟨B,3,none⟩=some c3∧w.cell? ⟨B,4,none⟩=some c4∧w.cell? ⟨B,5,none⟩=some c5∧w.cell? ⟨B,6,none⟩=some c6)∧∀o,w.frozen? ⟨B,o,none⟩=false
theorem Seven.kp {b B:Nat} {w w':World} {c0 c1 c2 c3 c4 c5 c6:Value} (h:Seven w B c0 c1 c2 c3 c4 c5 c6) (k:Kp b w w') (h1:b<B) (h2:B<w.heap.size):Seven w' B c0 c1 c2 c3 c4 c5 c6:=by
 obtain⟨⟨a0,a1,a2,a3,a4,a5,a6⟩,hf⟩:=h;have e:=kfar k h1 h2;exact⟨⟨(e _).trans a0,(e _).trans a1,(e _).trans a2,(e _).trans a3,(e _).trans a4,(e _).trans a5,(e _).trans a6⟩,fun o=>(k.frozen (p:=⟨B,o,none⟩) h2 (by show B≠b;omega)).trans (hf o)⟩
theorem Seven.other {B k o:Nat} {w:World} {u c0 c1 c2 c3 c4 c5 c6:Value} (h:Seven w B c0 c1 c2 c3 c4 c5 c6) (h1:k≠B):Seven (w.setCell ⟨k,o,none⟩ u) B c0 c1 c2 c3 c4 c5 c6:=by
 obtain⟨⟨a0,a1,a2,a3,a4,a5,a6⟩,hf⟩:=h;have e:=fun j=>sfar w k o B j u h1
 exact⟨⟨(e _).trans a0,(e _).trans a1,(e _).trans a2,(e _).trans a3,(e _).trans a4,(e _).trans a5,(e _).trans a6⟩,fun o'=>by rw[World.frozen?_setCell];exact hf o'⟩
theorem Seven.new (w:World) (c0 c1 c2 c3 c4 c5 c6:Value) (t:TypeId):Seven (w.alloc (.cells #[c0,c1,c2,c3,c4,c5,c6] t)) w.heap.size c0 c1 c2 c3 c4 c5 c6:=by
 refine⟨⟨by simp,by simp,by simp,by simp,by simp,by simp,by simp⟩,fun o=>by simp⟩
theorem Seven.some {w:World} {B:Nat} {c0 c1 c2 c3 c4 c5 c6:Value} (h:Seven w B c0 c1 c2 c3 c4 c5 c6):∀j,j<7→∃u,w.cell? ⟨B,j,none⟩=Option.some u:=by
 obtain⟨⟨a0,a1,a2,a3,a4,a5,a6⟩,hf⟩:=h;intro j hj
 match j,hj with
 | 0,_=>exact⟨_,a0⟩
 | 1,_=>exact⟨_,a1⟩
 | 2,_=>exact⟨_,a2⟩
 | 3,_=>exact⟨_,a3⟩
 | 4,_=>exact⟨_,a4⟩
 | 5,_=>exact⟨_,a5⟩
 | 6,_=>exact⟨_,a6⟩
theorem Seven.alloc {w:World} {B:Nat} {c0 c1 c2 c3 c4 c5 c6:Value} (h:Seven w B c0 c1 c2 c3 c4 c5 c6) (hB:B<w.heap.size) (o:Obj):Seven (w.alloc o) B c0 c1 c2 c3 c4 c5 c6:=by
 obtain⟨⟨a0,a1,a2,a3,a4,a5,a6⟩,hf⟩:=h;have e:=fun j=>afar w o B j hB
 exact⟨⟨(e _).trans a0,(e _).trans a1,(e _).trans a2,(e _).trans a3,(e _).trans a4,(e _).trans a5,(e _).trans a6⟩,fun j=>((zaa w o).frozen (p:=⟨B,j,none⟩) hB).trans (hf j)⟩
theorem Seven.put {X:World} {B:Nat} {o0 o1 o2 o3 o4 o5 o6:Value} (h:Seven X B o0 o1 o2 o3 o4 o5 o6) (c0 c1 c2 c3 c4 c5 c6:Value):Seven (((((((X.setCell ⟨B,0,none⟩ c0).setCell ⟨B,1,none⟩ c1).setCell ⟨B,2,none⟩ c2).setCell ⟨B,3,none⟩ c3).setCell ⟨B,4,none⟩ c4).setCell ⟨B,5,none⟩ c5).setCell ⟨B,6,none⟩ c6) B c0 c1 c2 c3 c4 c5 c6:=by
 have hx:=h.some;refine⟨⟨by rw[zab _ _ _ _ _ (by omega),zab _ _ _ _ _ (by omega),zab _ _ _ _ _ (by omega),zab _ _ _ _ _ (by omega),zab _ _ _ _ _ (by omega),zab _ _ _ _ _ (by omega)];exact zal _ _ _ (by exact hx 0 (by omega)),by rw[zab _ _ _ _ _ (by omega),zab _ _ _ _ _ (by omega),zab _ _ _ _ _ (by omega),zab _ _ _ _ _ (by omega),zab _ _ _ _ _ (by omega)];exact zal _ _ _ (by rw[zab _ _ _ _ _ (by omega)];exact hx 1 (by omega)),by rw[zab _ _ _ _ _ (by omega),zab _ _ _ _ _ (by omega),zab _ _ _ _ _ (by omega),zab _ _ _ _ _ (by omega)];exact zal _ _ _ (by rw[zab _ _ _ _ _ (by omega),zab _ _ _ _ _ (by omega)];exact hx 2 (by omega)),by rw[zab _ _ _ _ _ (by omega),zab _ _ _ _ _ (by omega),zab _ _ _ _ _ (by omega)];exact zal _ _ _ (by rw[zab _ _ _ _ _ (by omega),zab _ _ _ _ _ (by omega),zab _ _ _ _ _ (by omega)];exact hx 3 (by omega)),by rw[zab _ _ _ _ _ (by omega),zab _ _ _ _ _ (by omega)];exact zal _ _ _ (by rw[zab _ _ _ _ _ (by omega),zab _ _ _ _ _ (by omega),zab _ _ _ _ _ (by omega),zab _ _ _ _ _ (by omega)];exact hx 4 (by omega)),by rw[zab _ _ _ _ _ (by omega)];exact zal _ _ _ (by rw[zab _ _ _ _ _ (by omega),zab _ _ _ _ _ (by omega),zab _ _ _ _ _ (by omega),zab _ _ _ _ _ (by omega),zab _ _ _ _ _ (by omega)];exact hx 5 (by omega)),by exact zal _ _ _ (by rw[zab _ _ _ _ _ (by omega),zab _ _ _ _ _ (by omega),zab _ _ _ _ _ (by omega),zab _ _ _ _ _ (by omega),zab _ _ _ _ _ (by omega),zab _ _ _ _ _ (by omega)];exact hx 6 (by omega))⟩,fun o=>?_⟩;rw[World.frozen?_setCell,World.frozen?_setCell,World.frozen?_setCell,World.frozen?_setCell,World.frozen?_setCell,World.frozen?_setCell,World.frozen?_setCell];exact h.2 o
theorem Seven.far7 {X:World} {B B':Nat} {o0 o1 o2 o3 o4 o5 o6:Value} (h:Seven X B' o0 o1 o2 o3 o4 o5 o6) (hne:B≠B') (c0 c1 c2 c3 c4 c5 c6:Value):Seven (((((((X.setCell ⟨B,0,none⟩ c0).setCell ⟨B,1,none⟩ c1).setCell ⟨B,2,none⟩ c2).setCell ⟨B,3,none⟩ c3).setCell ⟨B,4,none⟩ c4).setCell ⟨B,5,none⟩ c5).setCell ⟨B,6,none⟩ c6) B' o0 o1 o2 o3 o4 o5 o6 :=
 ((((((h.other hne).other hne).other hne).other hne).other hne).other hne).other hne
theorem same7 {P:Nat→Prop} {B:Nat} (h:¬P B) (X:World) (c0 c1 c2 c3 c4 c5 c6:Value):Same P X (((((((X.setCell ⟨B,0,none⟩ c0).setCell ⟨B,1,none⟩ c1).setCell ⟨B,2,none⟩ c2).setCell ⟨B,3,none⟩ c3).setCell ⟨B,4,none⟩ c4).setCell ⟨B,5,none⟩ c5).setCell ⟨B,6,none⟩ c6) :=
 (((((((za4 P _ B 0 c0 h).trans (za4 P _ B 1 c1 h)).trans (za4 P _ B 2 c2 h)).trans (za4 P _ B 3 c3 h)).trans (za4 P _ B 4 c4 h)).trans (za4 P _ B 5 c5 h)).trans (za4 P _ B 6 c6 h))
def Row (w:World) (B n:Nat):Prop:=∃cs:List Value,w.rangeAt B 0 cs∧cs.length=n∧(∀v∈cs,v.oneCell'=true)∧∀o,w.frozen? ⟨B,o,none⟩=false
theorem Row.kp {b B n:Nat} {w w':World} (h:Row w B n) (k:Kp b w w') (h1:b<B) (h2:B<w.heap.size):Row w' B n:=by
 obtain⟨cs,a1,a2,a3,a4⟩:=h;exact⟨cs,fun j v hv=>(kfar k h1 h2 _).trans (a1 j v hv),a2,a3,fun o=>(k.frozen (p:=⟨B,o,none⟩) h2 (by show B≠b;omega)).trans (a4 o)⟩
theorem Row.other {B n:Nat} {w:World} (h:Row w B n) (k o:Nat) (u:Value) (h1:k≠B):Row (w.setCell ⟨k,o,none⟩ u) B n:=by
 obtain⟨cs,a1,a2,a3,a4⟩:=h;exact⟨cs,fun j v hv=>(sfar w k o B _ u h1).trans (a1 j v hv),a2,a3,fun o'=>by rw[World.frozen?_setCell];exact a4 o'⟩
theorem Row.alloc {w:World} {B n:Nat} (h:Row w B n) (hB:B<w.heap.size) (o:Obj):Row (w.alloc o) B n:=by
 obtain⟨cs,a1,a2,a3,a4⟩:=h;exact⟨cs,fun j v hv=>(afar w o B _ hB).trans (a1 j v hv),a2,a3,fun j=>((zaa w o).frozen (p:=⟨B,j,none⟩) hB).trans (a4 j)⟩
theorem Row.new (w:World) (a:Array Value) (t:TypeId) (h1:∀v∈a.toList,v.oneCell'=true):Row (w.alloc (.cells a t)) w.heap.size a.size:=by
 refine⟨a.toList,fun j v hv=>?_,by simp,h1,fun o=>by simp⟩;rw[World.cell?_alloc_at _ _ _ _ rfl];simpa using hv
theorem Row.set {w:World} {B n:Nat} (h:Row w B n) (j:Nat) (u:Value) (hj:j<n) (hu:u.oneCell'=true):Row (w.setCell ⟨B,j,none⟩ u) B n:=by
 obtain⟨cs,a1,a2,a3,a4⟩:=h;refine⟨cs.set j u,fun i v hv=>?_,by simp[a2],fun v hv=>?_,fun o=>by rw[World.frozen?_setCell];exact a4 o⟩
 ·by_cases e:j=i
  ·subst e;rw[List.getElem?_set_self (by omega)] at hv;cases hv
   have:=a1 j _ (List.getElem?_eq_getElem (by omega));rw[Nat.zero_add] at this ⊢;exact World.cell?_setCell_same _ _ _ this
  ·rw[List.getElem?_set_ne e] at hv;rw[Nat.zero_add,zab _ _ _ _ _ e];have:=a1 i v hv
   rwa [Nat.zero_add] at this
 ·rcases List.mem_or_eq_of_mem_set hv with h|h
  ·exact a3 v h
  ·rw[h];exact hu
theorem Row.there {w:World} {B n:Nat} (h:Row w B n) (o m:Nat) (hm:o+m≤n):w.there B o m:=fun j hj=>by
 obtain⟨cs,a1,a2,a3,a4⟩:=h;refine⟨?_,a4 _⟩;have:=a1 (o+j) _ (List.getElem?_eq_getElem (by omega));rw[Nat.zero_add] at this;rw[this];rfl
theorem Row.cell {w:World} {B n:Nat} (h:Row w B n) (j:Nat) (hj:j<n):(∃u,w.cell? ⟨B,j,none⟩=some u)∧w.frozen? ⟨B,j,none⟩=false:=by
 obtain⟨cs,a1,a2,a3,a4⟩:=h;have:=a1 j _ (List.getElem?_eq_getElem (by omega));rw[Nat.zero_add] at this;exact⟨⟨_,this⟩,a4 _⟩
theorem Row.cells {B n:Nat}:∀(vs:List Value) (o:Nat) (w:World),Row w B n→o+vs.length≤n→(∀v∈vs,v.oneCell'=true)→Row (w.setCells B o vs) B n
 | [],_,_,h,_,_=>h
 | v::r,o,w,h,hl,h1=>by
  rw[World.setCells];simp only[List.length_cons] at hl;exact Row.cells r (o+1) _ (h.set o v (by omega) (h1 v List.mem_cons_self)) (by omega) (fun u hu=>h1 u (List.mem_cons_of_mem _ hu))
theorem Row.far {B n k:Nat} (hk:k≠B):∀(vs:List Value) (o:Nat) (w:World),Row w B n→Row (w.setCells k o vs) B n
 | [],_,_,h=>h
 | v::r,o,w,h=>by
  rw[World.setCells];exact Row.far hk r (o+1) _ (h.other k o v hk)
theorem At.cells {b tb cap B:Nat} {T:List (Int×Int×Int)} {σ:PSt} (h1:b<B) (h2:tb<B):∀(vs:List Value) (o:Nat) (w:World),At w b tb cap T σ→At (w.setCells B o vs) b tb cap T σ
 | [],_,_,h=>h
 | v::r,o,w,h=>by
  rw[World.setCells];exact At.cells h1 h2 r (o+1) _ (h.other B o v h1 h2)
theorem Kp.cells {b B:Nat} {w0:World} (h1:w0.heap.size≤B):∀(vs:List Value) (o:Nat) (w:World),Kp b w0 w→Kp b w0 (w.setCells B o vs)
 | [],_,_,h=>h
 | v::r,o,w,h=>by
  rw[World.setCells];exact Kp.cells h1 r (o+1) _ (h.fresh B o v h1)
theorem zbc (B:Nat):∀(vs:List Value) (o:Nat) (w:World),(w.setCells B o vs).heap.size=w.heap.size
 | [],_,_=>rfl
 | v::r,o,w=>by
  rw[World.setCells,zbc B r (o+1) _,ssize]
theorem postN {fn:Func} {R:Ending→World→Prop} {tmps:Array Value} {X:World} {B k n:Nat} {t:TypeId} {d:TypeDesc} (cs:List Value) (hf:fn.results=#[.cell k t]) (ht:tmps.getD k undef=.pointer (some ⟨B,0,none⟩))
 (hu:Tryz.prog.underlying t=some d) (hd:d.isRow=true) (hi:(Tryz.prog.info? t).map (·.size)=some n) (hx:Row X B n) (hl:cs.length=n)
 (hR:R (.returned (.agg cs.toArray)) (X.setCells B 0 cs)):bodyPost Tryz.prog fn R .ret ⟨tmps,[]⟩ (X.setCells B 0 cs) :=
 bodyPost_ret (zaw hf ht (run_loadVar_mid _ B 0 t cs d (World.rangeAt_setCells_same X B 0 cs (by rw[hl];exact hx.there 0 n (by omega))) hu hd (by rw[hl];exact hi))) rfl hR
theorem Tryz.infoCmd:(Tryz.prog.info? 228).map (·.size)=some 20:=by kernel_rfl
theorem Tryz.infoPrg:(Tryz.prog.info? 101).map (·.size)=some 15:=by kernel_rfl
theorem Tryz.infoFrm:(Tryz.prog.info? 98).map (·.size)=some 7:=by kernel_rfl
theorem one7 (k:Int) (p:Option Addr) (n c:Nat) (r a1 a2 a3 a4:Int):(#[Value.int .i64 k,.slice p n c,.int .i64 r,.int .i64 a1,.int .i64 a2,.int .i64 a3,.int .i64 a4]:Array Value).all (·.oneCell')=true :=
 all_oneCell_toArray (cs:=[Value.int .i64 k,.slice p n c,.int .i64 r,.int .i64 a1,.int .i64 a2,.int .i64 a3,.int .i64 a4]) (by intro v hv;simp at hv;rcases hv with rfl|rfl|rfl|rfl|rfl|rfl|rfl<;>rfl)
theorem zbj {a:Array Value} (h:a.all (·.oneCell')=true):∀v∈a.toList,v.oneCell'=true:=fun v hv=>(Array.all_eq_true_iff_forall_mem.1 h) v (by simpa using hv)
variable {toks:List (List UInt8×Nat)} {len:Nat}
theorem zk0 {b B o:Nat} {w w':World} {L:List Value} (h:w.rangeAt B o L) (k:Kp b w w') (h1:b<B) (h2:B<w.heap.size):w'.rangeAt B o L:=fun j v hv=>(k.cell (p:=⟨B,o+j,none⟩) h2 (by show B≠b;omega)).trans (h j v hv)
theorem znt {B:Nat} {w:World} (o:Nat) (u:Value) (h:∃v,w.cell? ⟨B,o,none⟩=some v):(w.setCell ⟨B,o,none⟩ u).rangeAt B o [u]:=fun j v hv=>by
 match j,hv with
 | 0,hv=>cases hv;exact zal _ _ _ h
 | j+1,hv=>simp at hv
theorem zdG {B:Nat} {w:World} {x:Value} {r:List Value} (h:w.rangeAt B 0 (x::r)):w.rangeAt B 0 [x]:=fun j v hv=>by
 match j,hv with
 | 0,hv=>exact h 0 v hv
 | j+1,hv=>simp at hv
theorem zcM {B o:Nat} {w:World} {cs L:List Value} (h:w.rangeAt B 0 cs) (k:w.rangeAt B o L) (hl:o+L.length≤cs.length) (j:Nat) (hj:j<L.length):cs[o+j]?=L[j]?:=by
 have h1:=h (o+j) cs[o+j] (List.getElem?_eq_getElem (by omega));have h2:=k j L[j] (List.getElem?_eq_getElem hj);rw[Nat.zero_add] at h1;rw[List.getElem?_eq_getElem (by omega),List.getElem?_eq_getElem hj,←h1,←h2]
theorem zdH {B o:Nat} {w:World} {cs L:List Value} (h:w.rangeAt B 0 cs) (k:w.rangeAt B o L) (hl:o+L.length≤cs.length):(cs.drop o).take L.length=L:=by
 apply List.ext_getElem?
 intro j;by_cases hj:j<L.length
 ·rw[List.getElem?_take,if_pos hj,List.getElem?_drop];exact zcM h k hl j hj
 ·rw[List.getElem?_take,if_neg hj,List.getElem?_eq_none (by omega)]
def PrR (toks:List (List UInt8×Nat)) (k:Nat) (P:Nat→Prop) (w':World) (v:Value) (σ':PSt):Prop:=∃p c q y k1 k2 k3,v=.agg (List.toArray y)∧y.length=15∧Rd toks .form (k+1) p k1∧Rc toks true (k1+1) c k2∧Rd toks .form (k2+1) q k3∧k3≤toks.length ∧
 IsF w' P p ((y.drop 0).take 7)∧(∃g n m ys,y[7]?=some (.slice (some ⟨g,0,none⟩) n m)∧Lst w' P g n m ys∧IsC w' P c ys)∧IsF w' P q ((y.drop 8).take 7)
variable {toks:List (List UInt8×Nat)} {len:Nat}
theorem zk1 (l:List (Value×Nat)):∀(A:Array Value),(l.foldl (fun(cs:Array Value) (x:Value×Nat)=>cs.setIfInBounds x.snd x.fst) A).size=A.size:=by
 induction l with
 | nil=>intro A;rfl
 | cons a r ih=>intro A;rw[List.foldl_cons,ih,Array.size_setIfInBounds]
theorem zg6:∀(l:List Value) (k:Nat) (A:Array Value),k+l.length=A.size→(∀j v,k≤j→l[j-k]?=some v→((l.zipIdx k).foldl (fun(cs:Array Value) (x:Value×Nat)=>cs.setIfInBounds x.snd x.fst) A)[j]?=some v)∧∀j,j<k→((l.zipIdx k).foldl (fun(cs:Array Value) (x:Value×Nat)=>cs.setIfInBounds x.snd x.fst) A)[j]?=A[j]?
 | [],k,A,h=>⟨fun j v h1 h2=>by simp at h2,fun j h1=>rfl⟩
 | x::r,k,A,h=>by
  simp only[List.length_cons] at h;have ih:=zg6 r (k+1) (A.setIfInBounds k x) (by rw[Array.size_setIfInBounds];omega);rw[List.zipIdx_cons,List.foldl_cons];refine⟨fun j v h1 h2=>?_,fun j h1=>?_⟩
  ·by_cases e:j=k
   ·subst e;rw[Nat.sub_self] at h2;cases h2
    rw[ih.2 j (by omega),Array.getElem?_setIfInBounds_self_of_lt (by omega)]
   ·refine ih.1 j v (by omega) ?_;have e2:j-k=(j-(k+1))+1:=by omega
    rw[e2] at h2;simpa using h2
  ·rw[ih.2 j (by omega),Array.getElem?_setIfInBounds_ne (by omega)]
theorem bld20 (cs:Array Value) (h:cs.size=20):Array.foldl (fun(cs:Array Value) (x:Value×Nat)=>cs.setIfInBounds x.snd x.fst) zZc cs.zipIdx 0 20=cs:=by
 have hz:cs.zipIdx.size=20:=by simp[h]
 rw[←hz,←Array.foldl_toList,Array.toList_zipIdx];have hp:=(zg6 cs.toList 0 zZc (by simp[h])).1;apply Array.ext_getElem?;intro j;by_cases hj:j<cs.size
 ·have e:cs[j]?=some cs[j]:=Array.getElem?_eq_getElem hj;rw[e];exact hp j _ (Nat.zero_le _) (by rw[Nat.sub_zero,Array.getElem?_toList];exact e)
 ·have hl:=zk1 cs.toList.zipIdx zZc;rw[Array.getElem?_eq_none (xs:=cs) (by omega),Array.getElem?_eq_none];rw[hl];show 20≤j
  omega
def want (s:ByteArray):Int×Int:=runM s.size (tokAt 0 (rest s 0)) st0 0
variable {toks:List (List UInt8×Nat)} {len:Nat}
def flat3 (l:List (Int×Int×Int)):List Value:=l.flatMap fun x=>[.int .i64 x.1,.int .i64 x.2.1,.int .i64 x.2.2]
theorem zk2 (toks:List (List UInt8×Nat)) (len:Nat):cells3 toks++[.int .i64 0,.int .i64 (len:Int),.int .i64 0]=flat3 (T3 toks len):=by
 unfold T3 flat3 cells3;rw[List.flatMap_append,List.flatMap_map];rfl
theorem zjA (l:List (Int×Int×Int)):∀(j:Nat),j<l.length→(flat3 l)[j*3]?=some (.int .i64 (kd l j))∧(flat3 l)[j*3+1]?=some (.int .i64 (plc l j))∧(flat3 l)[j*3+2]?=some (.int .i64 (vlu l j)):=by
 induction l with
 | nil=>intro j h;simp at h
 | cons a r ih =>
  intro j h;cases j with
  | zero=>simp[flat3,kd,plc,vlu]
  | succ j =>
   simp only[List.length_cons] at h;have:=ih j (by omega);have e1:(j+1)*3=j*3+1+1+1:=by omega
   rw[e1];simpa [flat3,kd,plc,vlu] using this
theorem znu {w:World} {base:Nat} {v:Value} {T:List (Int×Int×Int)} (h0:0<T.length) (h:w.ownsRow base 216 3 v T.length (flat3 T)) :
 ∃g cap,v=.slice (some ⟨g,0,none⟩) T.length cap∧base≤g∧g<w.heap.size∧T.length≤cap∧cap≤maxLen∧∀j,j<T.length→w.cell? ⟨g,j*3,none⟩=some (.int .i64 (kd T j))∧w.cell? ⟨g,j*3+1,none⟩=some (.int .i64 (plc T j))∧w.cell? ⟨g,j*3+2,none⟩=some (.int .i64 (vlu T j)):=by
 rcases h.2 with⟨_,h2⟩|⟨g,cap,cur,hv,hg,hh,h3,h4,h5,h6⟩
 ·omega
 ·have hlt:g<w.heap.size:=by
   rcases Nat.lt_or_ge g w.heap.size with h|h
   ·exact h
   ·rw[Array.getElem?_eq_none h] at hh;cases hh
  refine⟨g,cap,hv,hg,hlt,h3,h4,fun j hj=>?_⟩;have key:∀(o:Nat) (u:Value),o<T.length*3→(flat3 T)[o]?=some u→w.cell? ⟨g,o,none⟩=some u:=by
   intro o u ho hu;have:(cur.toList.take (T.length*3))[o]?=some u:=by rw[h6];exact hu
   rw[List.getElem?_take,if_pos ho] at this;simp[World.cell?,hh];simpa using this
  obtain⟨a1,a2,a3⟩:=zjA T j hj;exact⟨key _ _ (by omega) a1,key _ _ (by omega) a2,key _ _ (by omega) a3⟩
def σ0:PSt:={pos:=0,d:=0,e:=0,pl:=0}
theorem znv {w:World} {g cap:Nat} {T:List (Int×Int×Int)} (hg:g<w.heap.size) (hc:T.length≤cap) (hm:cap≤maxLen)
 (hT:∀j,j<T.length→w.cell? ⟨g,j*3,none⟩=some (.int .i64 (kd T j))∧w.cell? ⟨g,j*3+1,none⟩=some (.int .i64 (plc T j))∧w.cell? ⟨g,j*3+2,none⟩=some (.int .i64 (vlu T j))) :
 At (w.alloc (.cells #[.slice (some ⟨g,0,none⟩) T.length cap,.int .i64 0,.int .i64 0,.int .i64 0,.int .i64 0] 148)) w.heap.size g cap T σ0:=by
 refine⟨by rw[asize];omega,by rw[asize];omega,by omega,hc,hm,by simp,by simp[σ0],by simp[σ0],by simp[σ0],by simp[σ0],fun o=>by simp,fun j hj=>?_⟩;obtain⟨a1,a2,a3⟩:=hT j hj;exact⟨(afar _ _ _ _ hg).trans a1,(afar _ _ _ _ hg).trans a2,(afar _ _ _ _ hg).trans a3⟩
theorem zeL {fn:Func} {tmps:Array Value} {w:World} {k i j:Nat} {t:TypeId} {a:Addr} {v x y:Value} (hf:fn.results=#[.cell k t,.tmp i,.tmp j]) (ht:tmps.getD k undef=.pointer (some a)) (hx:tmps.getD i undef=x) (hy:tmps.getD j undef=y) (hl:(loadVar t a).run Tryz.prog w=.ok v w):(results fn tmps).run Tryz.prog w=.ok (.tuple #[v,x,y]) w:=by
 have ht':(tmps[k]?.getD undef)=.pointer (some a):=by simpa using ht
 have hx':(tmps[i]?.getD undef)=x:=by simpa using hx
 have hy':(tmps[j]?.getD undef)=y:=by simpa using hy
 simp[results,hf,ht',hx',hy',hl,asAddr]
theorem post3 {fn:Func} {R:Ending→World→Prop} {tmps:Array Value} {X:World} {B k i j n:Nat} {t:TypeId} {d:TypeDesc} {x y:Value} (cs:List Value) (hf:fn.results=#[.cell k t,.tmp i,.tmp j]) (ht:tmps.getD k undef=.pointer (some ⟨B,0,none⟩)) (hx:tmps.getD i undef=x) (hy:tmps.getD j undef=y)
 (hu:Tryz.prog.underlying t=some d) (hd:d.isRow=true) (hi:(Tryz.prog.info? t).map (·.size)=some n) (hr:Row X B n) (hl:cs.length=n)
 (hR:R (.returned (.tuple #[.agg cs.toArray,x,y])) (X.setCells B 0 cs)):bodyPost Tryz.prog fn R .ret ⟨tmps,[]⟩ (X.setCells B 0 cs) :=
 bodyPost_ret (zeL hf ht hx hy (run_loadVar_mid _ B 0 t cs d (World.rangeAt_setCells_same X B 0 cs (by rw[hl];exact hr.there 0 n (by omega))) hu hd (by rw[hl];exact hi))) rfl hR
theorem zero15:(([.int .i64 0,.slice none 0 0,.int .i64 0,.int .i64 0,.int .i64 0,.int .i64 0,.int .i64 0,.slice none 0 0,.int .i64 0,.slice none 0 0,.int .i64 0,.int .i64 0,.int .i64 0,.int .i64 0,.int .i64 0]:List Value).all (·.oneCell'))=true:=rfl
theorem row15 (w:World):Row (w.alloc (.cells zZf 101)) w.heap.size 15:=Row.new w _ _ (List.all_eq_true.1 zero15)
theorem zaj {a:World} {B:Nat} (hB:a.heap.size≤B):∀(vs:List Value) (o:Nat) (w:World),Below a.heap.size a w→Below a.heap.size a (w.setCells B o vs)
 | [],_,_,h=>h
 | v::r,o,w,h=>by
  rw[World.setCells];exact zaj hB r (o+1) _ (h.setCell (p:=⟨B,o,none⟩) hB v)
theorem Row.below {w w':World} {B n:Nat} (h:Row w B n) (k:Below w.heap.size w w') (hB:B<w.heap.size):Row w' B n:=by
 obtain⟨cs,a1,a2,a3,a4⟩:=h;exact⟨cs,fun j v hv=>(k.cell (p:=⟨B,0+j,none⟩) hB).trans (a1 j v hv),a2,a3,fun o=>(k.frozen (p:=⟨B,o,none⟩) hB).trans (a4 o)⟩
theorem Row.kpOld {b B n:Nat} {w w':World} (h:Row w B n) (k:Kp b w w') (h1:B≠b) (h2:B<w.heap.size):Row w' B n:=by
 obtain⟨cs,a1,a2,a3,a4⟩:=h;exact⟨cs,fun j v hv=>(k.cell (p:=⟨B,0+j,none⟩) h2 h1).trans (a1 j v hv),a2,a3,fun o=>(k.frozen (p:=⟨B,o,none⟩) h2 h1).trans (a4 o)⟩
theorem PrR.same {k:Nat} {P:Nat→Prop} {w w':World} {v:Value} {σ':PSt} (h:PrR toks k P w v σ') (hs:Same P w w'):PrR toks k P w' v σ':=by
 obtain⟨p,c,q,y,k1,k2,k3,h1,h2,h3,h4,h5,h6,h7,⟨g,n,m,ys,g1,g2,g3⟩,h9⟩:=h;exact⟨p,c,q,y,k1,k2,k3,h1,h2,h3,h4,h5,h6,h7.same hs,⟨g,n,m,ys,g1,g2.same hs,g3.same hs⟩,h9.same hs⟩
theorem PrR.mono {k:Nat} {P P':Nat→Prop} {w:World} {v:Value} {σ':PSt} (h:PrR toks k P w v σ') (hs:∀g,P g→g<w.heap.size→P' g):PrR toks k P' w v σ':=by
 obtain⟨p,c,q,y,k1,k2,k3,h1,h2,h3,h4,h5,h6,h7,⟨g,n,m,ys,g1,g2,g3⟩,h9⟩:=h;exact⟨p,c,q,y,k1,k2,k3,h1,h2,h3,h4,h5,h6,h7.mono hs,⟨g,n,m,ys,g1,g2.mono hs,g3.mono hs⟩,h9.mono hs⟩
theorem zcn {w:World} {B:Nat} {a b:List Value} (h:w.rangeAt B 0 a) (k:w.rangeAt B 0 b) (hl:a.length=b.length):a=b:=by
 have:=zdH h k (by omega);rw[←hl,List.drop_zero,List.take_of_length_le (Nat.le_refl _)] at this;exact this
def ParseEnd (toks:List (List UInt8×Nat)) (w:World) (r:Int×Int) (e:Ending) (w':World):Prop:=∃cs:Array Value,e=.returned (.tuple #[.agg cs,.int .i64 r.1,.int .i64 r.2])∧cs.size=15∧cs.all (·.oneCell')=true∧Below w.heap.size w w'∧(r.1=0→PrR toks 0 (fun g=>w.heap.size≤g) w' (.agg cs) σ0)
def answer (s:ByteArray):Int×Int:=if s.size≤300 then want s else (1,0)
end Go.Proofs.YtkinoehmcfhgbaaGreatDoor.Av
namespace Go.Proofs.YtkinoehmcfhgbaaGreatDoor.Vl
open Go.RowKit
open Av (vr Fm Rd Tg sAt Cm Rc zab tokAt answer Row Row.new trm zas zch)
def strV (l:List UInt8):Value:=.string ⟨l.toArray⟩
theorem zaq (a b:List UInt8):(⟨a.toArray⟩:ByteArray)++⟨b.toArray⟩=⟨(a++b).toArray⟩:=by
 rw[ByteArray.ext_iff,ByteArray.data_append];simp
theorem zcZ (w:World) (b o p:Nat) (u:Value) (h:p≠o):(w.setCell ⟨b,p,none⟩ u).cell? ⟨b,o,none⟩=w.cell? ⟨b,o,none⟩:=Av.zab _ _ _ _ _ h
def tol (l:List UInt8):Bool:=decide (4000<l.length)
theorem zmu (l:List UInt8) (ys:List Sym) (h:l=sbs ys):tol l=!(decide (bl ys≤4000)):=by
 rw[h];unfold tol bl;by_cases h:(sbs ys).length≤4000
 ·rw[decide_eq_true h,decide_eq_false (by omega)];rfl
 ·rw[decide_eq_false h,decide_eq_true (by omega)];rfl
def Sh (a:ByteArray):Prop:=a.size≤100000000
theorem zc0 {P:Program} (w:World) (a b:ByteArray) (ha:Sh a) (hb:Sh b):(Op.stringOp .add a b).run P w=.ok (.string (a++b)) w :=
 run_string_add_sum w a b (by unfold Sh at ha hb;omega)
theorem zk3 {l:List UInt8} (h:l.length≤100000000):Sh ⟨l.toArray⟩:=by simpa [Sh,ByteArray.size] using h
theorem za1 {a b:ByteArray} (h:a.size+b.size≤100000000):Sh (a++b):=by unfold Sh;rw[ByteArray.size_append'];exact h
def Prg (toks:List (List UInt8×Nat)) (p:Fm) (c:Cm) (q:Fm):Prop:=∃k1 k2 k3,Rd toks .form 1 p k1∧Rc toks true (k1+1) c k2∧Rd toks .form (k2+1) q k3∧k3≤toks.length
theorem zdI {s:ByteArray} (h:(answer s).1=0):s.size≤300:=by
 unfold answer at h;by_cases hs:s.size≤300
 ·exact hs
 ·rw[if_neg hs] at h;cases h
def oV (s:RS):List Value:=[.int .i64 (kn s),.int .i64 s.x1,.int .i64 s.x2,.int .i64 s.x3,.int .i64 s.x4,.int .i64 s.n]
def r0:RS:={x1:=0,x2:=0,x3:=0,x4:=0,n:=0,e:=-1}
def dAns (s:ByteArray) (x1 x2 x3 x4 fuel:Int) (c:Cm):RS×Int×Int :=
 if (answer s).1≠0 then (r0,(answer s).1,(answer s).2) else if gds x1 x2 x3 x4=false then (r0,4,0) else if fuel<0∨10000<fuel then (r0,5,0) else (ex fuel c {x1:=x1,x2:=x2,x3:=x3,x4:=x4,n:=0,e:=-1},0,0)
theorem Tryz.infoOut:(Tryz.prog.info? 41).map (·.size)=some 6:=by kernel_rfl
theorem zero6:(([.int .i64 0,.int .i64 0,.int .i64 0,.int .i64 0,.int .i64 0,.int .i64 0]:List Value).all (·.oneCell'))=true:=rfl
theorem row6 (w:World):Row (w.alloc (.cells zZh 41)) w.heap.size 6:=Row.new w _ _ (List.all_eq_true.1 zero6)
theorem zg7 (w:World) (u v:Obj):Below w.heap.size w ((w.alloc u).alloc v):=(zaa w _).alloc (by simp) _
theorem zk4 {w w2:World} {x1 x2 x3 x4:Int} {o:Obj} {t:TypeId} (hb:Below ((w.alloc (.cells #[.int .i64 x1,.int .i64 x2,.int .i64 x3,.int .i64 x4] t)).alloc o).heap.size ((w.alloc (.cells #[.int .i64 x1,.int .i64 x2,.int .i64 x3,.int .i64 x4] t)).alloc o) w2) :
 w2.cell? ⟨w.heap.size,0,none⟩=some (.int .i64 x1)∧w2.cell? ⟨w.heap.size,1,none⟩=some (.int .i64 x2)∧w2.cell? ⟨w.heap.size,2,none⟩=some (.int .i64 x3)∧w2.cell? ⟨w.heap.size,3,none⟩=some (.int .i64 x4) :=
 ⟨(hb.cell (p:=⟨w.heap.size,0,none⟩) (by simp;omega)).trans (by simp),(hb.cell (p:=⟨w.heap.size,1,none⟩) (by simp;omega)).trans (by simp),(hb.cell (p:=⟨w.heap.size,2,none⟩) (by simp;omega)).trans (by simp),(hb.cell (p:=⟨w.heap.size,3,none⟩) (by simp;omega)).trans (by simp)⟩
def one (p:Fm) (c:Cm) (q:Fm):List Sym:=(5,0,0,0)::(fsy p++wpc c (fsy q))
def cAns (s:ByteArray) (p:Fm) (c:Cm) (q:Fm):List (List UInt8)×Int×Int :=
 if (answer s).1≠0 then ([],(answer s).1,(answer s).2) else if fit c (fsy q)=true∧bl (one p c q)≤4000 then (sbs (one p c q)::(cls c (fsy q)).map sbs,0,0) else ([],6,0)
theorem Tryz.infoStr:(Tryz.prog.info? 9).map (fun i=>(i.zero,i.size,i.bytes))=some (some (.string ⟨#[]⟩),1,16):=by kernel_rfl
theorem zbk {w:World} {b b':Nat} {e:TypeId} {size:Nat} {v:Value} {n:Nat} {xs:List Value} (h:w.ownsRow b e size v n xs) (hb:b'≤b):w.ownsRow b' e size v n xs:=by
 obtain⟨h1,h2⟩:=h;refine⟨h1,?_⟩;rcases h2 with h2|⟨g,cap,cur,hv,hg,r⟩
 ·exact Or.inl h2
 ·exact Or.inr ⟨g,cap,cur,hv,Nat.le_trans hb hg,r⟩
theorem zgm (k:Int) (w:World) (h0:0≤k) (h4:k≤4) :
 Calls Tryz.prog 28 #[.int .i64 k] w fun e w'=>e=.returned (strV [lt k])∧w=w':=by
 have hv:k=0∨k=1∨k=2∨k=3∨k=4:=by omega
 rcases hv with rfl|rfl|rfl|rfl|rfl
 all_goals
  go_enter Tryz.func28,Tryz.ntmps28;go_wp2;go_ret;exact⟨rfl,rfl⟩
theorem kconv1 (w:World) (x:Int):Sem.run Tryz.prog (convert 122 9 (.slice (some ⟨w.heap.size,0,none⟩) 1 1)) (w.alloc (.cells #[.int .u8 x] 5))=.ok (strV [UInt8.ofNat x.toNat]) (w.alloc (.cells #[.int .u8 x] 5)) :=
 run_convert_bytes_arg _ 122 5 Tryz.underlying122 Tryz.underlying5 w.heap.size 0 1 1 [x] rfl (fun i hi=>by
  have:i=0:=by omega
  subst this;rw[World.cell?_alloc_at _ _ _ _ rfl];rfl) 9 Tryz.underlying9
theorem zbd (a b:List UInt8):Value.string ((⟨a.toArray⟩:ByteArray)++⟨b.toArray⟩)=strV (a++b):=by rw[zaq];rfl
theorem zmv (m:Nat) (h:m<10):UInt8.ofNat ((48:Int)+(m:Int)).toNat=UInt8.ofNat (48+m):=by congr 1
theorem zeM (m:Nat) (h:m<10):(48:UInt8)+UInt8.ofNat m=UInt8.ofNat (48+m):=by
 have:m=0∨m=1∨m=2∨m=3∨m=4∨m=5∨m=6∨m=7∨m=8∨m=9:=by omega
 rcases this with rfl|rfl|rfl|rfl|rfl|rfl|rfl|rfl|rfl|rfl<;>rfl
theorem zcN (n:Nat) (w:World) (hn:n≤999999) :
 Calls Tryz.prog 29 #[.int .i64 (n:Int)] w fun e w'=>e=.returned (strV (Lib.decDigits n))∧Below w.heap.size w w':=by
 have h0:¬(n:Int)<0:=by omega
 have hln:=zbQ 5 n (by omega);go_enter Tryz.func29,Tryz.ntmps29;go_wp2
 go_loopw [0,3] (fun i v wr=>∃(m:Nat) (l:List UInt8),m≤n∧i=.int .i64 (m:Int)∧v=strV l∧Lib.decDigits n=Lib.decDigits m++l∧Below w.heap.size w wr) (fun i _ _=>(intOf i).toNat)
 case atStart=>exact⟨n,[],Nat.le_refl _,rfl,rfl,by simp,Below.refl _ _⟩
 case round =>
  obtain⟨m,l,hm,rfl,rfl,hq,hb⟩:=hrel;have hll:l.length≤6:=by rw[hq] at hln;simp at hln;omega
  have Q:Hid (Lib.decDigits n=Lib.decDigits m++l):=hq;clear hq;have hbs:=hb.size;by_cases hlt:(9:Int)<(m:Int)
  ·have E:Hid (Lib.decDigits m=Lib.decDigits (m/10)++[UInt8.ofNat (48+m%10)]):=by
    show _=_
    rw[Lib.decDigits,dif_neg (by omega)]
   go_wp2;rw[kconv1];unfold strV;go_wp2
   go_roundw
   case rel =>
    refine⟨m/10,UInt8.ofNat (48+m%10)::l,by omega,by go_num,?_,by rw[Q.out,E.out];simp,hb.alloc (by omega) _⟩
    first|(rw[zeM _ (by omega)];exact zbd [_] l)|(rw[←zeM _ (by omega)];exact zbd [_] l)
   case measure=>simp[intOf];omega
  ·have E:Hid (Lib.decDigits m=[UInt8.ofNat (48+m)]):=by
    show _=_
    rw[Lib.decDigits,dif_pos (by omega)]
   go_wp2;rw[kconv1];unfold strV;go_wp2;go_ret;refine⟨?_,hb.alloc (by omega) _⟩;rw[Q.out,E.out]
   first|(rw[zeM _ (by omega)];exact congrArg _ (zbd [_] l))|(rw[zmv _ (by omega)];exact congrArg _ (zbd [_] l))|exact congrArg _ (zbd [_] l)
theorem zfw (n:Int) (w:World) (h0:-999999≤n) (h1:n≤999999) :
 Calls Tryz.prog 29 #[.int .i64 n] w fun e w'=>e=.returned (strV (Lib.itoa n))∧Below w.heap.size w w':=by
 by_cases hn:n<0
 ·have HI:Hid (Lib.itoa n=45::Lib.decDigits n.natAbs):=by show _=_;unfold Lib.itoa;rw[if_pos hn]
  have hln:=zbQ 5 n.natAbs (by omega);have C:Hid (Calls Tryz.prog 29 #[.int .i64 (-n)] w fun e w'=>e=.returned (strV (Lib.decDigits n.natAbs))∧Below w.heap.size w w'):=by
   have:=zcN n.natAbs w (by omega);have e:((n.natAbs:Nat):Int)=-n:=by omega
   rw[e] at this;exact this
  generalize Lib.decDigits n.natAbs=D at *;go_enter Tryz.func29,Tryz.ntmps29;go_wp2_with fail;refine C.out.mono ?_;unfold strV;rintro e w1 ⟨rfl,hb⟩;go_wp2;go_ret;refine⟨?_,hb⟩;rw[HI.out];exact congrArg _ (zbd [45] D)
 ·have HI:Hid (Lib.itoa n=Lib.decDigits n.toNat):=by show _=_;unfold Lib.itoa;rw[if_neg hn]
  have:=zcN n.toNat w (by omega);have e:((n.toNat:Nat):Int)=n:=by omega
  rw[e] at this;rw[HI.out];exact this
end Go.Proofs.YtkinoehmcfhgbaaGreatDoor.Vl
