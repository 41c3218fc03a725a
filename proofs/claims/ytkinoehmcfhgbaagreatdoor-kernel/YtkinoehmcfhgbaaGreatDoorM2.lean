/- A part of the proof. -/
import Derived.Test.YtkinoehmcfhgbaaGreatDoorM1
set_option linter.unusedVariables false
set_option linter.unusedSimpArgs false
set_option maxRecDepth 100000
set_option maxHeartbeats 2000000
namespace Go.Proofs.YtkinoehmcfhgbaaGreatDoor.Vl
open Go.RowKit
open Av (Fm Cm Kp zab)
structure PR (w:World) (rb:Nat) (fuel:Int) (s:RS):Prop where
 hb:rb<w.heap.size
 c0:w.cell? ⟨rb,0,none⟩=some (.int .i64 fuel)
 c1:w.cell? ⟨rb,1,none⟩=some (.int .i64 (kn s))
 c2:w.cell? ⟨rb,2,none⟩=some (.int .i64 s.x1)
 c3:w.cell? ⟨rb,3,none⟩=some (.int .i64 s.x2)
 c4:w.cell? ⟨rb,4,none⟩=some (.int .i64 s.x3)
 c5:w.cell? ⟨rb,5,none⟩=some (.int .i64 s.x4)
 c6:w.cell? ⟨rb,6,none⟩=some (.int .i64 s.n)
 f:∀o,w.frozen? ⟨rb,o,none⟩=false
theorem PR.below {w w':World} {rb:Nat} {fuel:Int} {s:RS} (h:PR w rb fuel s) (k:Below w.heap.size w w'):PR w' rb fuel s :=
 have c:∀o,w'.cell? ⟨rb,o,none⟩=w.cell? ⟨rb,o,none⟩:=fun o=>k.cell (p:=⟨rb,o,none⟩) h.hb
 ⟨Nat.lt_of_lt_of_le h.hb k.size,(c 0).trans h.c0,(c 1).trans h.c1,(c 2).trans h.c2,(c 3).trans h.c3,(c 4).trans h.c4,(c 5).trans h.c5,(c 6).trans h.c6,fun o=>(k.frozen (p:=⟨rb,o,none⟩) h.hb).trans (h.f o)⟩
theorem PR.drewN {w:World} {rb:Nat} {fuel:Int} {s:RS} (h:PR w rb fuel s) (n:Nat):PR (w.drewN n) rb fuel s:=h.below (below_drewN (Below.refl _ _) n)
theorem PR.drew {w:World} {rb:Nat} {fuel:Int} {s:RS} (h:PR w rb fuel s):PR w.drew rb fuel s:=h.below (Below.refl _ _).drew
theorem PR.alloc {w:World} {rb:Nat} {fuel:Int} {s:RS} (h:PR w rb fuel s) (o:Obj):PR (w.alloc o) rb fuel s:=h.below (zaa w o)
theorem zj3 {b:Nat} (w:World) (a:Addr) (u:Value) (h:∀o,w.frozen? ⟨b,o,none⟩=false):∀o,(w.setCell a u).frozen? ⟨b,o,none⟩=false:=fun o=>by
 rw[World.frozen?_setCell];exact h o
theorem ziK (w:World) (a:Addr) (u:Value):(w.setCell a u).heap.size=w.heap.size:=by simp[World.setCell]
theorem PR.put {w:World} {rb:Nat} {fuel:Int} {s s':RS} (h:PR w rb fuel s) (j:Nat) (v:Int) (h0:j≠0)
 (h1:(if j=1 then v else kn s)=kn s') (h2:(if j=2 then v else s.x1)=s'.x1) (h3:(if j=3 then v else s.x2)=s'.x2) (h4:(if j=4 then v else s.x3)=s'.x3) (h5:(if j=5 then v else s.x4)=s'.x4) (h6:(if j=6 then v else s.n)=s'.n) :
 PR (w.setCell ⟨rb,j,none⟩ (.int .i64 v)) rb fuel s':=by
 have key:∀(o:Nat) (x y:Int),w.cell? ⟨rb,o,none⟩=some (.int .i64 x)→(if j=o then v else x)=y→(w.setCell ⟨rb,j,none⟩ (.int .i64 v)).cell? ⟨rb,o,none⟩=some (.int .i64 y):=fun o x y hc e=>by
  by_cases hj:j=o
  ·subst hj;rw[if_pos rfl] at e;subst e;exact World.cell?_setCell_same _ _ _ hc
  ·rw[if_neg hj] at e;subst e;rw[zab _ _ _ _ _ hj];exact hc
 exact⟨by rw[ziK];exact h.hb,by rw[zab _ _ _ _ _ h0];exact h.c0,key 1 _ _ h.c1 h1,key 2 _ _ h.c2 h2,key 3 _ _ h.c3 h3,key 4 _ _ h.c4 h4,key 5 _ _ h.c5 h5,key 6 _ _ h.c6 h6,zj3 _ _ _ h.f⟩
def hfu (fuel:Int) (s:RS):RS:=if s.n=fuel then {s with e:=1} else s
theorem zdk (w:World) (rb:Nat) (fuel:Int) (s:RS) (h:PR w rb fuel s) (hn:s.n≤fuel) :
 Calls Tryz.prog 228 #[.pointer (some ⟨rb,0,none⟩)] w fun e w'=>e=.returned (.bool (!(s.n==fuel)))∧PR w' rb fuel (hfu fuel s)∧Kp rb w w':=by
 have H:Hid (PR w rb fuel s):=h;have c0:=h.c0;have c1:=h.c1;have c6:=h.c6;have f1:=h.f 1;cases he:(s.n==fuel)
 ·have hne:s.n≠fuel:=by simpa using he
  have hlt:decide (s.n<fuel)=true:=by simp;omega
  have HS:Hid (hfu fuel s=s):=by show _=_;unfold hfu;rw[if_neg hne]
  clear h he;generalize hN:s.n=N at *;generalize kn s=K at *;go_enter Tryz.func228,Tryz.ntmps228;go_wp2
  go_quiet (fail)
  go_wp2;go_ret;refine⟨rfl,?_,?_⟩
  ·rw[HS.out];exact H.out.drewN _
  ·exact(Kp.refl _ _).drewN _
 ·have hne:s.n=fuel:=by simpa using he
  have hlt:decide (s.n<fuel)=false:=by simp;omega
  have HS:Hid (hfu fuel s={s with e:=1}):=by show _=_;unfold hfu;rw[if_pos hne]
  clear h he;generalize hN:s.n=N at *;generalize hK:kn s=K at *;go_enter Tryz.func228,Tryz.ntmps228;go_wp2
  go_quiet (fail)
  go_wp2;go_ret;refine⟨rfl,?_,?_⟩
  ·rw[HS.out];exact(H.out.drewN _).put 1 1 (by decide) rfl rfl rfl rfl rfl hN
  ·exact((Kp.refl _ _).drewN _).setCell (Or.inl rfl) _
theorem zmI {fuel:Int} {s:RS} (he:s.e<0):decide ((stp fuel s).e<0)=!(s.n==fuel):=by
 unfold stp;by_cases h:s.n=fuel
 ·rw[if_pos h];simp[h]
 ·rw[if_neg h];simp[h,he]
theorem zcK (w:World) (rb:Nat) (fuel:Int) (s:RS) (h:PR w rb fuel s) (hn:0≤s.n∧s.n≤fuel) (hf:fuel≤10000) (hs:s.e<0) :
 Calls Tryz.prog 163 #[.pointer (some ⟨rb,0,none⟩)] w fun e w'=>e=.returned (.bool (decide ((stp fuel s).e<0)))∧PR w' rb fuel (stp fuel s)∧Kp rb w w':=by
 rw[zmI hs];have C:=zdk w rb fuel s h hn.2;cases he:(s.n==fuel)
 ·have hne:s.n≠fuel:=by simpa using he
  rw[he,show hfu fuel s=s by unfold hfu;rw[if_neg hne]] at C;have HC:Hid _:=C;have HS:Hid (stp fuel s={s with n:=s.n+1}):=by show _=_;unfold stp;rw[if_neg hne]
  have hn':s.n≤10000:=by omega
  clear h C he;go_enter Tryz.func163,Tryz.ntmps163;go_wp2_with fail;refine Calls.mono HC.out ?_;rintro e w1 ⟨rfl,hA,hK⟩;have c6:=hA.c6;have f6:=hA.f 6;have HA:Hid (PR w1 rb fuel s):=hA;clear hA;generalize hN:s.n=N at *;go_wp2_with fail;go_ret;refine⟨rfl,?_,?_⟩
  ·rw[HS.out];exact HA.out.put 6 (N+1) (by decide) rfl rfl rfl rfl rfl (if_pos rfl)
  ·exact hK.setCell (Or.inl rfl) _
 ·have hne:s.n=fuel:=by simpa using he
  have e2:hfu fuel s=stp fuel s:=by unfold hfu stp;rw[if_pos hne,if_pos hne]
  rw[he,e2] at C;have HC:Hid _:=C;clear h C he e2;generalize stp fuel s=S at *;go_enter Tryz.func163,Tryz.ntmps163;go_wp2_with fail;refine Calls.mono HC.out ?_;rintro e w1 ⟨rfl,hA,hK⟩;go_wp2_with fail;go_ret;exact⟨rfl,hA,hK⟩
theorem zmf (s:RS) (x v:Int):kn (s.set x v)=kn s:=by unfold kn;rw[(zkj s x v).2]
theorem zj4 (fuel:Int) (x:Int) (t:Int×Int) (s:RS):(s.n=fuel∧asgn fuel x t s={s with e:=1})∨(s.n≠fuel∧gd (s.tv t)=false∧asgn fuel x t s={s with e:=2})∨(s.n≠fuel∧gd (s.tv t)=true∧asgn fuel x t s=stp fuel (s.set x (s.tv t))):=by
 unfold asgn;by_cases h:s.n=fuel
 ·exact Or.inl ⟨h,if_pos h⟩
 ·cases hg:gd (s.tv t)
  ·exact Or.inr (Or.inl ⟨h,rfl,by rw[if_neg h];rfl⟩)
  ·refine Or.inr (Or.inr ⟨h,rfl,?_⟩);rw[if_neg h,if_pos rfl];unfold stp;rw[(zkj s x (s.tv t)).1,if_neg h]
theorem zg4 (w:World) (rb:Nat) (fuel:Int) (s:RS) (x t1 t2:Int) (h:PR w rb fuel s) (hi:Inv fuel s) (hf:fuel≤10000) (hs:s.e<0) (hx:0≤x∧x≤3) (ht:tOk (t1,t2)) :
 Calls Tryz.prog 160 #[.pointer (some ⟨rb,0,none⟩),.int .i64 x,.agg #[.int .i64 t1,.int .i64 t2]] w fun e w'=>e=.returned (.bool (decide ((asgn fuel x (t1,t2) s).e<0)))∧PR w' rb fuel (asgn fuel x (t1,t2) s)∧Kp rb w w':=by
 have C:=zdk (w.alloc (.cells #[.int .i64 t1,.int .i64 t2] 96)) rb fuel s (h.alloc _) hi.2.1;have KW:Hid (Kp rb w (w.alloc (.cells #[.int .i64 t1,.int .i64 t2] 96))):=(Kp.refl _ _).alloc _;have hrb:=h.hb;have CV:Hid (∀w,Calls Tryz.prog 74 #[.agg #[.int .i64 t1,.int .i64 t2],.agg #[.int .i64 s.x1,.int .i64 s.x2,.int .i64 s.x3,.int .i64 s.x4]] w fun e w'=>e=.returned (.int .i64 (s.tv (t1,t2)))∧Below w.heap.size w w'):=fun w=>zbJ t1 t2 _ _ _ _ w ht hi.2.2.1
 have CR:Hid (∀w,Calls Tryz.prog 71 #[.int .i64 (s.tv (t1,t2))] w fun e w'=>e=.returned (.bool (gd (s.tv (t1,t2))))∧w=w'):=fun w=>zdu _ w
 rcases zj4 fuel x (t1,t2) s with⟨h1,e1⟩|⟨h1,h2,e1⟩|⟨h1,h2,e1⟩
 ·rw[e1];rw[show(s.n==fuel)=true by simp[h1],show hfu fuel s={s with e:=1} by unfold hfu;rw[if_pos h1]] at C;have HC:Hid _:=C;clear h hi C CV CR e1;go_enter Tryz.func160,Tryz.ntmps160;go_wp2_with fail;refine Calls.mono HC.out ?_;rintro e w1 ⟨rfl,hA,hK⟩;go_wp2_with fail;go_ret;exact⟨rfl,hA,KW.out.trans hK⟩
 all_goals
  rw[show(s.n==fuel)=false by simp[h1],show hfu fuel s=s by unfold hfu;rw[if_neg h1]] at C;rw[h2] at CR;have HC:Hid _:=C
 ·rw[e1];clear h hi C e1 h2;generalize s.tv (t1,t2)=T at *;go_enter Tryz.func160,Tryz.ntmps160;go_wp2_with fail;refine Calls.mono HC.out ?_;rintro e w1 ⟨rfl,hA,hK⟩;have HA:Hid (PR w1 rb fuel s):=hA;have HK1:Hid (Kp rb w w1):=KW.out.trans hK;have z1:w1.cell? ⟨w.heap.size,0,none⟩=some (.int .i64 t1):=(hK.cell (p:=⟨w.heap.size,0,none⟩) (by simp) (by show w.heap.size≠rb;omega)).trans (by simp);have z2:w1.cell? ⟨w.heap.size,1,none⟩=some (.int .i64 t2):=(hK.cell (p:=⟨w.heap.size,1,none⟩) (by simp) (by show w.heap.size≠rb;omega)).trans (by simp);have c2:=hA.c2;have c3:=hA.c3;have c4:=hA.c4;have c5:=hA.c5;clear hA hK;go_wp2_with fail;go_region_with (first|(go_at_call 74;refine(CV.out _).mono ?_;rintro e w2 ⟨rfl,hb2⟩))
  all_goals
   have A2:=HA.out.drew.below hb2;have HK2:Hid (Kp rb w w2):=HK1.out.drew.trans (Kp.of_below hb2);have c1':=A2.c1;have f1':=A2.f 1;have HA2:Hid (PR w2 rb fuel s):=A2;clear A2 hb2;go_wp2_with fail;refine(CR.out _).mono ?_;rintro e w3 ⟨rfl,rfl⟩;go_wp2_with fail;go_ret;exact⟨rfl,HA2.out.put 1 2 (by decide) rfl rfl rfl rfl rfl rfl,HK2.out.setCell (Or.inl rfl) _⟩
 ·have hss:=zkj s x (s.tv (t1,t2));have hks:=zmf s x (s.tv (t1,t2));have CS:Hid (∀w,PR w rb fuel (s.set x (s.tv (t1,t2)))→Calls Tryz.prog 163 #[.pointer (some ⟨rb,0,none⟩)] w fun e w'=>e=.returned (.bool (decide ((stp fuel (s.set x (s.tv (t1,t2)))).e<0)))∧PR w' rb fuel (stp fuel (s.set x (s.tv (t1,t2))))∧Kp rb w w'):=fun w hp=>zcK w rb fuel _ hp (by rw[hss.1];exact⟨hi.1,hi.2.1⟩) hf (by rw[hss.2];exact hs)
  have HP:Hid (∀w,PR w rb fuel s→PR (w.setCell ⟨rb,(2+x).toNat,none⟩ (.int .i64 (s.tv (t1,t2)))) rb fuel (s.set x (s.tv (t1,t2)))):=fun w hp=>by
   have hxx:x=0∨x=1∨x=2∨x=3:=by omega
   rcases hxx with rfl|rfl|rfl|rfl
   ·exact hp.put 2 _ (by decide) hks.symm rfl rfl rfl rfl rfl
   ·exact hp.put 3 _ (by decide) hks.symm rfl rfl rfl rfl rfl
   ·exact hp.put 4 _ (by decide) hks.symm rfl rfl rfl rfl rfl
   ·exact hp.put 5 _ (by decide) hks.symm rfl rfl rfl rfl rfl
  rw[e1];clear h hi C e1 h2 hss hks;generalize stp fuel (s.set x (s.tv (t1,t2)))=SS at *;generalize s.set x (s.tv (t1,t2))=S1 at *;generalize s.tv (t1,t2)=T at *;have hxx:x=0∨x=1∨x=2∨x=3:=by omega
  clear hx;rcases hxx with rfl|rfl|rfl|rfl
  all_goals
   go_enter Tryz.func160,Tryz.ntmps160;go_wp2_with fail;refine Calls.mono HC.out ?_;rintro e w1 ⟨rfl,hA,hK⟩;have HA:Hid (PR w1 rb fuel s):=hA;have HK1:Hid (Kp rb w w1):=KW.out.trans hK;have z1:w1.cell? ⟨w.heap.size,0,none⟩=some (.int .i64 t1):=(hK.cell (p:=⟨w.heap.size,0,none⟩) (by simp) (by show w.heap.size≠rb;omega)).trans (by simp);have z2:w1.cell? ⟨w.heap.size,1,none⟩=some (.int .i64 t2):=(hK.cell (p:=⟨w.heap.size,1,none⟩) (by simp) (by show w.heap.size≠rb;omega)).trans (by simp);have c2:=hA.c2;have c3:=hA.c3;have c4:=hA.c4;have c5:=hA.c5;clear hA hK;go_wp2_with fail;go_region_with (first|(go_at_call 74;refine(CV.out _).mono ?_;rintro e w2 ⟨rfl,hb2⟩))
   all_goals
    have A2:=HA.out.drew.below hb2;have HK2:Hid (Kp rb w w2):=HK1.out.drew.trans (Kp.of_below hb2);have c2':=A2.c2;have c3':=A2.c3;have c4':=A2.c4;have c5':=A2.c5;have hfz:=A2.f;have HP2:=HP.out _ A2;clear A2 hb2;go_wp2_with fail;refine(CR.out _).mono ?_;rintro e w3 ⟨rfl,rfl⟩;go_wp2_with fail;refine(CS.out _ HP2).mono ?_;rintro e w4 ⟨rfl,A4,K4⟩;go_wp2_with fail;go_ret;exact⟨rfl,A4,(HK2.out.setCell (Or.inl rfl) _).trans K4⟩
open Av (Fm Cm Kp zab IsF IsC Lst Same fv Rc sAt vr zb6 trm zar)
def csz:Cm→Nat
 | .skip=>1
 | .asg _ _=>1
 | .ite _ a b=>1+csz a+csz b
 | .loop _ _ a=>1+csz a
 | .seq a b=>1+csz a+csz b
def cOk:Cm→Prop
 | .skip=>True
 | .asg x t=>0≤x∧x≤3∧tOk t
 | .ite f a b=>fOk f∧cOk a∧cOk b
 | .loop f g a=>fOk f∧cOk a
 | .seq a b=>cOk a∧cOk b
theorem zmg {toks:List (List UInt8×Nat)} {t:Bool} {k k':Nat} {c:Cm} (h:Rc toks t k c k'):cOk c:=by
 induction h with
 | skip _=>trivial
 | @asg k hv =>
  have h1:=zar toks (k+2);have h2:=zb6 (sAt toks k);exact⟨hv,by omega,by refine⟨?_,?_,?_,?_⟩<;>dsimp only<;>omega⟩
 | ite _ h1 _ _ h2 h3=>exact⟨zbP h1 (fun g h=>by cases h),h2,h3⟩
 | loop _ h1 _ _ h3=>exact⟨zbP h1 (fun g h=>by cases h),h3⟩
 | one _ _ h=>exact h
 | seq _ _ _ h1 h2=>exact⟨h1,h2⟩
def ComM (P:Nat→Prop) (rb:Nat) (fuel:Int) (n:Nat):Prop:=∀(c:Cm) (w:World) (s:RS) (g o:Nat) (y:List Value),csz c≤n→cOk c→IsC w P c [y]→P g→g<w.heap.size→w.rangeAt g o y→PR w rb fuel s→Inv fuel s→s.e<0 →
 Calls Tryz.prog 111 #[.pointer (some ⟨rb,0,none⟩),.pointer (some ⟨g,o,none⟩)] w fun e w'=>e=.returned (.bool (decide ((ex fuel c s).e<0)))∧PR w' rb fuel (ex fuel c s)∧Kp rb w w'
def ComsM (P:Nat→Prop) (rb:Nat) (fuel:Int) (n:Nat):Prop:=∀(c:Cm) (w:World) (s:RS) (g k m:Nat) (ys:List (List Value)),csz c≤n→cOk c→Lst w P g k m ys→IsC w P c ys→PR w rb fuel s→Inv fuel s→s.e<0 →
 Calls Tryz.prog 72 #[.pointer (some ⟨rb,0,none⟩),.slice (some ⟨g,0,none⟩) k m] w fun e w'=>e=.returned (.bool (decide ((ex fuel c s).e<0)))∧PR w' rb fuel (ex fuel c s)∧Kp rb w w'
theorem zao {w:World} {g o:Nat} {y:List Value} (h:w.rangeAt g o y) {j:Nat} {v:Value} (hv:y[j]?=some v):w.cell? ⟨g,o+j,none⟩=some v:=h j v hv
theorem zaA {w:World} {g o j:Nat} {y:List Value} {k:Int} {p:Option Addr} {n m:Nat} {r a1 a2 a3 a4:Int} (h:w.rangeAt g o y) (e:(y.drop j).take 7=fv k p n m r a1 a2 a3 a4):w.cell? ⟨g,o+j,none⟩=some (.int .i64 k)∧w.cell? ⟨g,o+(j+1),none⟩=some (.slice p n m)∧w.cell? ⟨g,o+(j+2),none⟩=some (.int .i64 r)∧w.cell? ⟨g,o+(j+3),none⟩=some (.int .i64 a1)∧w.cell? ⟨g,o+(j+4),none⟩=some (.int .i64 a2)∧w.cell? ⟨g,o+(j+5),none⟩=some (.int .i64 a3)∧w.cell? ⟨g,o+(j+6),none⟩=some (.int .i64 a4):=by
 have key:∀i v,i<7→(fv k p n m r a1 a2 a3 a4)[i]?=some v→y[j+i]?=some v:=by
  intro i v hi hv;rw[←e,List.getElem?_take,if_pos hi,List.getElem?_drop] at hv;exact hv
 exact⟨h (j+0) _ (key 0 _ (by decide) rfl),h (j+1) _ (key 1 _ (by decide) rfl),h (j+2) _ (key 2 _ (by decide) rfl),h (j+3) _ (key 3 _ (by decide) rfl),h (j+4) _ (key 4 _ (by decide) rfl),h (j+5) _ (key 5 _ (by decide) rfl),h (j+6) _ (key 6 _ (by decide) rfl)⟩
theorem za7 {b B o:Nat} {w w':World} {L:List Value} (h:w.rangeAt B o L) (k:Kp b w w') (h1:B≠b) (h2:B<w.heap.size):w'.rangeAt B o L:=fun j v hv=>(k.cell (p:=⟨B,o+j,none⟩) h2 h1).trans (h j v hv)
theorem zaW {B o:Nat} {w w':World} {L:List Value} (h:w.rangeAt B o L) (k:Below w.heap.size w w') (h2:B<w.heap.size):w'.rangeAt B o L:=fun j v hv=>(k.cell (p:=⟨B,o+j,none⟩) h2).trans (h j v hv)
theorem zaX {w:World} {g o:Nat} {L:List Value} (h:w.rangeAt g o L):w.drew.rangeAt g o L:=(World.rangeAt_drew _ _ _ _).2 h
theorem zg5 (P:Nat→Prop) (rb:Nat) (fuel:Int) (n:Nat) (hP:¬P rb) (hfu:fuel≤10000) (IH:ComsM P rb fuel n) (f:Fm) (a b:Cm) (w:World) (s:RS) (g o:Nat) (y:List Value) (ha:csz a≤n) (hb:csz b≤n) (ho:cOk (.ite f a b))
 (hc:IsC w P (.ite f a b) [y]) (hPg:P g) (hg:g<w.heap.size) (hr:w.rangeAt g o y) (hp:PR w rb fuel s) (hi:Inv fuel s) (he:s.e<0) :
 Calls Tryz.prog 161 #[.pointer (some ⟨rb,0,none⟩),.pointer (some ⟨g,o,none⟩)] w fun e w'=>e=.returned (.bool (decide ((ex fuel (.ite f a b) s).e<0)))∧PR w' rb fuel (ex fuel (.ite f a b) s)∧Kp rb w w':=by
 have hne:g≠rb:=by intro e;subst e;exact hP hPg
 obtain⟨y',ey,hl,h0,hf,⟨g1,n1,c1,ys1,h1,L1,I1⟩,⟨g2,n2,c2,ys2,h2,L2,I2⟩⟩:=hc;cases ey
 obtain⟨of,oa,ob⟩:=ho;obtain⟨fk,fp,fn,fm,fr,fa1,fa2,fa3,fa4,ef⟩:=hf.shape;rw[ef] at hf;have CSt:=zcK w rb fuel s hp ⟨hi.1,hi.2.1⟩ hfu he;have hE:ex fuel (.ite f a b) s=if 0≤(stp fuel s).e then stp fuel s else if (stp fuel s).ev f then ex fuel a (stp fuel s) else ex fuel b (stp fuel s):=rfl
 by_cases hst:(stp fuel s).e<0
 ·rw[if_neg (by omega)] at hE;have hi1:=(zbs hi).1;rw[decide_eq_true hst] at CSt;have HC:Hid _:=CSt;have CH:Hid (∀X,Same P w X→Calls Tryz.prog 45 #[.agg #[.int .i64 fk,.slice fp fn fm,.int .i64 fr,.int .i64 fa1,.int .i64 fa2,.int .i64 fa3,.int .i64 fa4],.agg #[.int .i64 (stp fuel s).x1,.int .i64 (stp fuel s).x2,.int .i64 (stp fuel s).x3,.int .i64 (stp fuel s).x4]] X fun e w'=>e=.returned (.bool ((stp fuel s).ev f))∧Below X.heap.size X w'):=fun X hX=>zaV hi1.2.2.1 f _ X (hf.same hX) of
  cases hv:(stp fuel s).ev f
  ·rw[hv] at hE CH;rw[if_neg (by decide)] at hE;have CB:Hid (∀X,Same P w X→PR X rb fuel (stp fuel s)→Calls Tryz.prog 72 #[.pointer (some ⟨rb,0,none⟩),.slice (some ⟨g2,0,none⟩) n2 c2] X fun e w'=>e=.returned (.bool (decide ((ex fuel (.ite f a b) s).e<0)))∧PR w' rb fuel (ex fuel (.ite f a b) s)∧Kp rb X w'):=fun X hX hpX=>by
    rw[hE];exact IH b X (stp fuel s) g2 n2 c2 ys2 hb ob (L2.same hX) (I2.same hX) hpX hi1 hst
   have HR:Hid (w.rangeAt g o y):=hr;have HF:Hid ((y.drop 4).take 7=fv fk fp fn fm fr fa1 fa2 fa3 fa4):=ef;have HB:Hid (y[19]?=some (.slice (some ⟨g2,0,none⟩) n2 c2)):=h2;clear hr ef h1 h2 h0 L1 L2 I1 I2 hf hp hi hi1 of oa ob CSt hE hv IH hl;generalize ex fuel (.ite f a b) s=R at *;generalize stp fuel s=s1 at *;go_enter Tryz.func161,Tryz.ntmps161;go_wp2_with fail;refine Calls.mono HC.out ?_;rintro e w1 ⟨rfl,hA1,hK1⟩;have r1:=za7 HR.out hK1 hne hg;obtain⟨z0,z1,z2,z3,z4,z5,z6⟩:=zaA r1 HF.out;have d0:=hA1.c2;have d1:=hA1.c3;have d2:=hA1.c4;have d3:=hA1.c5;have HA1:Hid (PR w1 rb fuel s1):=hA1;have HK1:Hid (Kp rb w w1):=hK1;have HR1:Hid (w1.rangeAt g o y):=r1;have hg1:g<w1.heap.size:=by have:=hK1.size;omega
   clear hA1 hK1 r1;go_wp2_with fail;go_region_with (first|(go_at_call 45;refine(CH.out _ (HK1.out.drew.same hP)).mono ?_;rintro e w2 ⟨rfl,hb2⟩))
   all_goals
    have A2:=HA1.out.drew.below hb2;have K2:=HK1.out.drew.trans (Kp.of_below hb2);have r2:=zaW (zaX HR1.out) hb2 hg1;have z8:=zao r2 HB.out;have HA2:Hid (PR w2 rb fuel s1):=A2;have HK2:Hid (Kp rb w w2):=K2;clear A2 K2 r2;go_wp2_with fail;refine(CB.out _ (HK2.out.same hP) HA2.out).mono ?_;rintro e w3 ⟨rfl,A3,K3⟩;go_wp2_with fail;go_ret;exact⟨rfl,A3,HK2.out.trans K3⟩
  ·rw[hv] at hE CH;rw[if_pos rfl] at hE;have CB:Hid (∀X,Same P w X→PR X rb fuel (stp fuel s)→Calls Tryz.prog 72 #[.pointer (some ⟨rb,0,none⟩),.slice (some ⟨g1,0,none⟩) n1 c1] X fun e w'=>e=.returned (.bool (decide ((ex fuel (.ite f a b) s).e<0)))∧PR w' rb fuel (ex fuel (.ite f a b) s)∧Kp rb X w'):=fun X hX hpX=>by
    rw[hE];exact IH a X (stp fuel s) g1 n1 c1 ys1 ha oa (L1.same hX) (I1.same hX) hpX hi1 hst
   have HR:Hid (w.rangeAt g o y):=hr;have HF:Hid ((y.drop 4).take 7=fv fk fp fn fm fr fa1 fa2 fa3 fa4):=ef;have HB:Hid (y[18]?=some (.slice (some ⟨g1,0,none⟩) n1 c1)):=h1;clear hr ef h1 h2 h0 L1 L2 I1 I2 hf hp hi hi1 of oa ob CSt hE hv IH hl;generalize ex fuel (.ite f a b) s=R at *;generalize stp fuel s=s1 at *;go_enter Tryz.func161,Tryz.ntmps161;go_wp2_with fail;refine Calls.mono HC.out ?_;rintro e w1 ⟨rfl,hA1,hK1⟩;have r1:=za7 HR.out hK1 hne hg;obtain⟨z0,z1,z2,z3,z4,z5,z6⟩:=zaA r1 HF.out;have d0:=hA1.c2;have d1:=hA1.c3;have d2:=hA1.c4;have d3:=hA1.c5;have HA1:Hid (PR w1 rb fuel s1):=hA1;have HK1:Hid (Kp rb w w1):=hK1;have HR1:Hid (w1.rangeAt g o y):=r1;have hg1:g<w1.heap.size:=by have:=hK1.size;omega
   clear hA1 hK1 r1;go_wp2_with fail;go_region_with (first|(go_at_call 45;refine(CH.out _ (HK1.out.drew.same hP)).mono ?_;rintro e w2 ⟨rfl,hb2⟩))
   all_goals
    have A2:=HA1.out.drew.below hb2;have K2:=HK1.out.drew.trans (Kp.of_below hb2);have r2:=zaW (zaX HR1.out) hb2 hg1;have z8:=zao r2 HB.out;have HA2:Hid (PR w2 rb fuel s1):=A2;have HK2:Hid (Kp rb w w2):=K2;clear A2 K2 r2;go_wp2_with fail;refine(CB.out _ (HK2.out.same hP) HA2.out).mono ?_;rintro e w3 ⟨rfl,A3,K3⟩;go_wp2_with fail;go_ret;exact⟨rfl,A3,HK2.out.trans K3⟩
 ·rw[if_pos (by omega)] at hE;rw[hE];rw[decide_eq_false hst] at CSt ⊢;have HC:Hid _:=CSt;clear hr ef h1 h2 h0 L1 L2 I1 I2 hf hp hi of oa ob CSt hE IH hl;generalize stp fuel s=s1 at *;go_enter Tryz.func161,Tryz.ntmps161;go_wp2_with fail;refine Calls.mono HC.out ?_;rintro e w1 ⟨rfl,hA1,hK1⟩;go_wp2_with fail;go_ret;exact⟨rfl,hA1,hK1⟩
theorem zg6 (P:Nat→Prop) (rb:Nat) (fuel:Int) (n:Nat) (hP:¬P rb) (hfu:fuel≤10000) (IH:ComsM P rb fuel n) (f d:Fm) (a:Cm) (w:World) (s:RS) (g o:Nat) (y:List Value) (ha:csz a≤n) (ho:cOk (.loop f d a))
 (hc:IsC w P (.loop f d a) [y]) (hPg:P g) (hg:g<w.heap.size) (hr:w.rangeAt g o y) (hp:PR w rb fuel s) (hi:Inv fuel s) (he:s.e<0) :
 Calls Tryz.prog 162 #[.pointer (some ⟨rb,0,none⟩),.pointer (some ⟨g,o,none⟩)] w fun e w'=>e=.returned (.bool (decide ((ex fuel (.loop f d a) s).e<0)))∧PR w' rb fuel (ex fuel (.loop f d a) s)∧Kp rb w w':=by
 have hne:g≠rb:=by intro e;subst e;exact hP hPg
 obtain⟨y',ey,hl,h0,hf,_,⟨g1,n1,c1,ys1,h1,L1,I1⟩⟩:=hc;cases ey
 obtain⟨of,oa⟩:=ho;obtain⟨fk,fp,fn,fm,fr,fa1,fa2,fa3,fa4,ef⟩:=hf.shape;rw[ef] at hf;have CSt:Hid (∀X s2,PR X rb fuel s2→Inv fuel s2→s2.e<0→Calls Tryz.prog 163 #[.pointer (some ⟨rb,0,none⟩)] X fun e w'=>e=.returned (.bool (decide ((stp fuel s2).e<0)))∧PR w' rb fuel (stp fuel s2)∧Kp rb X w'):=fun X s2 hp hi he=>zcK X rb fuel s2 hp ⟨hi.1,hi.2.1⟩ hfu he
 have CH:Hid (∀X s2,Same P w X→Inv fuel s2→Calls Tryz.prog 45 #[.agg #[.int .i64 fk,.slice fp fn fm,.int .i64 fr,.int .i64 fa1,.int .i64 fa2,.int .i64 fa3,.int .i64 fa4],.agg #[.int .i64 s2.x1,.int .i64 s2.x2,.int .i64 s2.x3,.int .i64 s2.x4]] X fun e w'=>e=.returned (.bool (s2.ev f))∧Below X.heap.size X w'):=fun X s2 hX hi2=>zaV hi2.2.2.1 f _ X (hf.same hX) of
 have CB:Hid (∀X s2,Same P w X→PR X rb fuel s2→Inv fuel s2→s2.e<0→Calls Tryz.prog 72 #[.pointer (some ⟨rb,0,none⟩),.slice (some ⟨g1,0,none⟩) n1 c1] X fun e w'=>e=.returned (.bool (decide ((ex fuel a s2).e<0)))∧PR w' rb fuel (ex fuel a s2)∧Kp rb X w'):=fun X s2 hX hpX hi2 he2=>IH a X s2 g1 n1 c1 ys1 ha oa (L1.same hX) (I1.same hX) hpX hi2 he2
 have HR0:Hid (w.rangeAt g o y):=hr;have HF:Hid ((y.drop 4).take 7=fv fk fp fn fm fr fa1 fa2 fa3 fa4):=ef;have HB:Hid (y[18]?=some (.slice (some ⟨g1,0,none⟩) n1 c1)):=h1;have hbd:Hid (∀s,Inv fuel s→Inv fuel (ex fuel a s)∧s.n≤(ex fuel a s).n):=fun s h=>zdA a s h
 have HI:Hid (Inv fuel s):=hi;have HE:Hid (ex fuel (.loop f d a) s=whl fuel f (ex fuel a) (fuel.toNat+1) s):=rfl;have HP0:Hid (PR w rb fuel s):=hp;clear hr ef h1 h0 L1 I1 hf hp hi of oa IH hl;generalize ex fuel (.loop f d a) s=R at *;go_enter Tryz.func162,Tryz.ntmps162;go_wp2_with fail
 go_loopg [] (fuel-s.n).toNat (fun gm wr=>∃(s2:RS),gm=(fuel-s2.n).toNat∧s2.e<0∧Hid (Inv fuel s2)∧Hid (R=whl fuel f (ex fuel a) (fuel.toNat+1) s2)∧PR wr rb fuel s2∧Kp rb w wr)
 case atStart=>exact⟨s,rfl,he,HI,HE,HP0.out,Kp.refl _ _⟩
 case round =>
  obtain⟨s2,hgm,he2,HI2,HR2,hA,hK⟩:=hrel;have hst:=zkl (f:=f) hbd.out s2 HI2.out;have HW:Hid (R=if 0≤(stp fuel s2).e then stp fuel s2 else if (stp fuel s2).ev f then (if 0≤(ex fuel a (stp fuel s2)).e then ex fuel a (stp fuel s2) else whl fuel f (ex fuel a) (fuel.toNat+1) (ex fuel a (stp fuel s2))) else stp fuel s2):=by
   show _=_
   rw[HR2.out,hst]
  have hi1:=zbs HI2.out;have hin:=HI2.out.2.1;have HI3:Hid (Inv fuel (stp fuel s2)):=hi1.1;have hC2:=CSt.out wr s2 hA HI2.out he2;have HKR:Hid (Kp rb w wr):=hK;clear hst HR2 HE hA hK;by_cases he1:(stp fuel s2).e<0
  ·have hn1:=hi1.2.2 he1;rw[decide_eq_true he1] at hC2;have HC2:Hid _:=hC2;clear hi1 hC2;have hCH:=fun X hX=>CH.out X (stp fuel s2) hX HI3.out
   cases hv:(stp fuel s2).ev f
   ·have HR:Hid (R=stp fuel s2):=by show _=_;rw[HW.out,if_neg (by omega),hv];rfl
    rw[hv] at hCH;have HCH:Hid _:=hCH;clear hCH HW hv;generalize stp fuel s2=s3 at *;go_wp2_with fail;refine Calls.mono HC2.out ?_;rintro e w2 ⟨rfl,A2,K2⟩;have HA2:Hid (PR w2 rb fuel s3):=A2;have HK2:Hid (Kp rb w w2):=HKR.out.trans K2;have HR1:Hid (w2.rangeAt g o y):=za7 HR0.out HK2.out hne hg;have hg1:g<w2.heap.size:=by have:=HK2.out.size;omega
    have d0:=A2.c2;have d1:=A2.c3;have d2:=A2.c4;have d3:=A2.c5;obtain⟨z0,z1,z2,z3,z4,z5,z6⟩:=zaA HR1.out HF.out;clear A2 K2;go_wp2_with fail;go_region_with (first|(go_at_call 45;refine Calls.mono (HCH.out _ (HK2.out.drew.same hP)) ?_;rintro e w4 ⟨rfl,hb4⟩))
    all_goals
     have HA4:Hid (PR w4 rb fuel s3):=HA2.out.drew.below hb4;have HK4:Hid (Kp rb w w4):=HK2.out.drew.trans (Kp.of_below hb4);have z8:=zao (zaW (zaX HR1.out) hb4 hg1) HB.out;clear hb4
    all_goals
     go_wp2_with fail;go_ret;exact⟨by rw[HR.out,decide_eq_true he1];rfl,by rw[HR.out];exact HA4.out,HK4.out⟩
   ·have HR:Hid (R=if 0≤(ex fuel a (stp fuel s2)).e then ex fuel a (stp fuel s2) else whl fuel f (ex fuel a) (fuel.toNat+1) (ex fuel a (stp fuel s2))):=by show _=_;rw[HW.out,if_neg (by omega),hv];rfl
    rw[hv] at hCH;have HCH:Hid _:=hCH;have hb4:=hbd.out _ HI3.out;have HI4:Hid (Inv fuel (ex fuel a (stp fuel s2))):=hb4.1;have hn4:=hb4.2;have hn5:=hb4.1.2.1;have hCB:=fun X hX hp=>CB.out X (stp fuel s2) hX hp HI3.out he1
    clear hCH HW hv hb4;by_cases he4:(ex fuel a (stp fuel s2)).e<0
    ·rw[decide_eq_true he4] at hCB;have HCB:Hid _:=hCB;clear hCB;generalize ex fuel a (stp fuel s2)=s4 at *;generalize stp fuel s2=s3 at *;go_wp2_with fail;refine Calls.mono HC2.out ?_;rintro e w2 ⟨rfl,A2,K2⟩;have HA2:Hid (PR w2 rb fuel s3):=A2;have HK2:Hid (Kp rb w w2):=HKR.out.trans K2;have HR1:Hid (w2.rangeAt g o y):=za7 HR0.out HK2.out hne hg;have hg1:g<w2.heap.size:=by have:=HK2.out.size;omega
     have d0:=A2.c2;have d1:=A2.c3;have d2:=A2.c4;have d3:=A2.c5;obtain⟨z0,z1,z2,z3,z4,z5,z6⟩:=zaA HR1.out HF.out;clear A2 K2;go_wp2_with fail;go_region_with (first|(go_at_call 45;refine Calls.mono (HCH.out _ (HK2.out.drew.same hP)) ?_;rintro e w4 ⟨rfl,hb4⟩))
     all_goals
      have HA4:Hid (PR w4 rb fuel s3):=HA2.out.drew.below hb4;have HK4:Hid (Kp rb w w4):=HK2.out.drew.trans (Kp.of_below hb4);have z8:=zao (zaW (zaX HR1.out) hb4 hg1) HB.out;clear hb4
     all_goals
      go_wp2_with fail;refine Calls.mono (HCB.out _ (HK4.out.same hP) HA4.out) ?_;rintro e w5 ⟨rfl,A5,K5⟩;go_wp2_with fail
      go_roundg (fuel-s4.n).toNat
      case rel=>exact⟨s4,rfl,he4,HI4,by show R=_;rw[HR.out,if_neg (by omega)],A5,HK4.out.trans K5⟩
      case measure=>rw[hgm];omega
    ·rw[decide_eq_false he4] at hCB;have HCB:Hid _:=hCB;have HRR:Hid (R=ex fuel a (stp fuel s2)):=by show _=_;rw[HR.out,if_pos (by omega)]
     clear hCB HR;generalize ex fuel a (stp fuel s2)=s4 at *;generalize stp fuel s2=s3 at *;go_wp2_with fail;refine Calls.mono HC2.out ?_;rintro e w2 ⟨rfl,A2,K2⟩;have HA2:Hid (PR w2 rb fuel s3):=A2;have HK2:Hid (Kp rb w w2):=HKR.out.trans K2;have HR1:Hid (w2.rangeAt g o y):=za7 HR0.out HK2.out hne hg;have hg1:g<w2.heap.size:=by have:=HK2.out.size;omega
     have d0:=A2.c2;have d1:=A2.c3;have d2:=A2.c4;have d3:=A2.c5;obtain⟨z0,z1,z2,z3,z4,z5,z6⟩:=zaA HR1.out HF.out;clear A2 K2;go_wp2_with fail;go_region_with (first|(go_at_call 45;refine Calls.mono (HCH.out _ (HK2.out.drew.same hP)) ?_;rintro e w4 ⟨rfl,hb4⟩))
     all_goals
      have HA4:Hid (PR w4 rb fuel s3):=HA2.out.drew.below hb4;have HK4:Hid (Kp rb w w4):=HK2.out.drew.trans (Kp.of_below hb4);have z8:=zao (zaW (zaX HR1.out) hb4 hg1) HB.out;clear hb4
     all_goals
      go_wp2_with fail;refine Calls.mono (HCB.out _ (HK4.out.same hP) HA4.out) ?_;rintro e w5 ⟨rfl,A5,K5⟩;go_wp2_with fail;go_ret;exact⟨by rw[HRR.out,decide_eq_false (by omega)];rfl,by rw[HRR.out];exact A5,HK4.out.trans K5⟩
  ·have HR:Hid (R=stp fuel s2):=by show _=_;rw[HW.out,if_pos (by omega)]
   rw[decide_eq_false he1] at hC2;have HC2:Hid _:=hC2;clear hC2 HW hi1;generalize stp fuel s2=s3 at *;go_wp2_with fail;refine Calls.mono HC2.out ?_;rintro e w2 ⟨rfl,A2,K2⟩;go_wp2_with fail;go_ret;exact⟨by rw[HR.out,decide_eq_false (by omega)];rfl,by rw[HR.out];exact A2,HKR.out.trans K2⟩
theorem zfc (P:Nat→Prop) (rb:Nat) (fuel:Int) (n:Nat) (hP:¬P rb) (hfu:fuel≤10000) (IH:0<n→ComsM P rb fuel (n-1)):ComM P rb fuel n:=by
 intro c w s g o y hsz ho hc hPg hg hr hp hi he;cases c with
 | skip =>
  obtain⟨y',ey,hl,h0⟩:=hc;cases ey
  have z0:=zao hr h0;have CSt:=zcK w rb fuel s hp ⟨hi.1,hi.2.1⟩ hfu he;have HC:Hid _:=CSt;have e1:ex fuel .skip s=stp fuel s:=rfl;rw[e1];rw[Nat.add_zero] at z0;clear hr hl h0 hp hi CSt;generalize stp fuel s=s1 at *;go_enter Tryz.func111,Tryz.ntmps111;go_wp2_with fail;refine Calls.mono HC.out ?_;rintro e w1 ⟨rfl,hA1,hK1⟩;go_wp2_with fail;go_ret;exact⟨rfl,hA1,hK1⟩
 | asg x t =>
  obtain⟨t1,t2⟩:=t;obtain⟨y',ey,hl,h0,h1,h2,h3⟩:=hc;cases ey
  have z0:=zao hr h0;rw[Nat.add_zero] at z0;have z1:=zao hr h1;have z2:=zao hr h2;have z3:=zao hr h3;dsimp only at z2 z3;have e1:ex fuel (.asg x (t1,t2)) s=asgn fuel x (t1,t2) s:=rfl;rw[e1];have HC:Hid (∀X,PR X rb fuel s→Calls Tryz.prog 160 #[.pointer (some ⟨rb,0,none⟩),.int .i64 x,.agg #[.int .i64 t1,.int .i64 t2]] X fun e w'=>e=.returned (.bool (decide ((asgn fuel x (t1,t2) s).e<0)))∧PR w' rb fuel (asgn fuel x (t1,t2) s)∧Kp rb X w'):=fun X hX=>zg4 X rb fuel s x t1 t2 hX hi hfu he ⟨ho.1,ho.2.1⟩ ho.2.2
  have HP0:Hid (PR w rb fuel s):=hp;clear hr hl h0 h1 h2 h3 hp hi;generalize asgn fuel x (t1,t2) s=s1 at *;go_enter Tryz.func111,Tryz.ntmps111;go_wp2_with fail;go_region_with (first|(go_at_call 160;refine(HC.out _ HP0.out.drew).mono ?_;rintro e w1 ⟨rfl,hA1,hK1⟩))
  all_goals
   go_wp2_with fail;go_ret;exact⟨rfl,hA1,(Kp.refl _ _).drew.trans hK1⟩
 | ite f a b =>
  have hs:csz (.ite f a b)=1+csz a+csz b:=rfl;have C:=zg5 P rb fuel (n-1) hP hfu (IH (by omega)) f a b w s g o y (by omega) (by omega) ho hc hPg hg hr hp hi he;have HC:Hid _:=C;obtain⟨y',ey,hl,h0,_⟩:=hc;cases ey
  have z0:=zao hr h0;rw[Nat.add_zero] at z0;clear hr hl h0 hp hi C IH ho hs hsz;generalize ex fuel (.ite f a b) s=s1 at *;go_enter Tryz.func111,Tryz.ntmps111;go_wp2_with fail;refine Calls.mono HC.out ?_;rintro e w1 ⟨rfl,hA1,hK1⟩;go_wp2_with fail;go_ret;exact⟨rfl,hA1,hK1⟩
 | loop f d a =>
  have hs:csz (.loop f d a)=1+csz a:=rfl;have C:=zg6 P rb fuel (n-1) hP hfu (IH (by omega)) f d a w s g o y (by omega) ho hc hPg hg hr hp hi he
  have HC:Hid _:=C;obtain⟨y',ey,hl,h0,_⟩:=hc;cases ey
  have z0:=zao hr h0;rw[Nat.add_zero] at z0;clear hr hl h0 hp hi C IH ho hs hsz;generalize ex fuel (.loop f d a) s=s1 at *;go_enter Tryz.func111,Tryz.ntmps111;go_wp2_with fail;refine Calls.mono HC.out ?_;rintro e w1 ⟨rfl,hA1,hK1⟩;go_wp2_with fail;go_ret;exact⟨rfl,hA1,hK1⟩
 | seq a b =>
  obtain⟨y',ys,ey,h1,h2⟩:=hc;cases ey
  exact absurd h2 (by intro h;cases b<;>simp[IsC] at h)
theorem zdl {P:Nat→Prop} {w:World} {c:Cm} {ys:List (List Value)} (h:IsC w P c ys) (ho:cOk c) (fuel:Int) (s:RS):∃y r c1,ys=y::r∧IsC w P c1 [y]∧csz c1≤csz c∧cOk c1 ∧
 ((r=[]∧ex fuel c s=ex fuel c1 s)∨∃d,IsC w P d r∧csz d≤csz c∧cOk d∧ex fuel c s=if 0≤(ex fuel c1 s).e then ex fuel c1 s else ex fuel d (ex fuel c1 s)):=by
 cases c with
 | seq a b =>
  obtain⟨y,r,e,h1,h2⟩:=h;exact⟨y,r,a,e,h1,by show csz a≤1+csz a+csz b;omega,ho.1,Or.inr ⟨b,h2,by show csz b≤1+csz a+csz b;omega,ho.2,rfl⟩⟩
 | skip=>obtain⟨y,e,h1⟩:=h;exact⟨y,[],.skip,e,⟨y,rfl,h1⟩,Nat.le_refl _,ho,Or.inl ⟨rfl,rfl⟩⟩
 | asg x t=>obtain⟨y,e,h1⟩:=h;exact⟨y,[],(.asg x t),e,⟨y,rfl,h1⟩,Nat.le_refl _,ho,Or.inl ⟨rfl,rfl⟩⟩
 | ite f a b=>obtain⟨y,e,h1⟩:=h;exact⟨y,[],(.ite f a b),e,⟨y,rfl,h1⟩,Nat.le_refl _,ho,Or.inl ⟨rfl,rfl⟩⟩
 | loop f d a=>obtain⟨y,e,h1⟩:=h;exact⟨y,[],(.loop f d a),e,⟨y,rfl,h1⟩,Nat.le_refl _,ho,Or.inl ⟨rfl,rfl⟩⟩
theorem zfd:∀(ys:List (List Value)) (i:Nat),(∀y∈ys,y.length=20)→ys.flatten.drop (i*20)=(ys.drop i).flatten
 | [],i,_=>by simp
 | y::r,0,_=>by simp
 | y::r,i+1,h=>by
  have hy:=h y List.mem_cons_self;have ih:=zfd r i (fun z hz=>h z (List.mem_cons_of_mem _ hz));rw[List.flatten_cons,List.drop_succ_cons,←ih];have e:(i+1)*20=y.length+i*20:=by omega
  rw[e,List.drop_append];simp
theorem zg7 {w:World} {g o:Nat} {L:List Value} (h:w.rangeAt g o L) (k:Nat):w.rangeAt g (o+k) (L.drop k):=fun j v hv=>by
 rw[List.getElem?_drop] at hv;rw[Nat.add_assoc];exact h (k+j) v hv
theorem ziL {w:World} {g o:Nat} {a b:List Value} (h:w.rangeAt g o (a++b)):w.rangeAt g o a:=fun j v hv=>h j v (by
 have hj:j<a.length:=by
  rcases Nat.lt_or_ge j a.length with h|h
  ·exact h
  ·rw[List.getElem?_eq_none h] at hv;cases hv
 rw[List.getElem?_append_left hj];exact hv)
theorem zmh {w:World} {P:Nat→Prop} {g k m:Nat} {ys:List (List Value)} (h:Lst w P g k m ys) {i:Nat} {y:List Value} {r:List (List Value)} (hd:ys.drop i=y::r):w.rangeAt g (i*20) y:=by
 obtain⟨h1,h2,h3,h4,h5,h6,h7⟩:=h;have:=zg7 h6 (i*20);rw[zfd ys i h7,hd,List.flatten_cons,Nat.zero_add] at this;exact ziL this
theorem zdY (P:Nat→Prop) (rb:Nat) (fuel:Int) (n:Nat) (hP:¬P rb) (IH:ComM P rb fuel n):ComsM P rb fuel n:=by
 intro c w s g k m ys hsz ho hL hc hp hi he;have hk:ys.length=k:=hL.2.2.1;have hkm:k≤m:=hL.2.2.2.1;have hmm:m≤maxLen:=hL.2.2.2.2.1;have hPg:=hL.1;have hg:=hL.2.1;have HL:Hid (Lst w P g k m ys):=hL;have HC:Hid (ComM P rb fuel n):=IH;have HI:Hid (Inv fuel s):=hi;have HIC:Hid (IsC w P c ys):=hc;have HP0:Hid (PR w rb fuel s):=hp;have HO:Hid (cOk c):=ho;have HK:Hid (ys.length=k):=hk;have HSZ:Hid (csz c≤n):=hsz;have hm63:m≤9223372036854775807:=by unfold maxLen at hmm;omega
 have hne:ys≠[]:=by
  obtain⟨y,r,c1,e,_⟩:=zdl hc ho fuel s;rw[e];simp
 have hk0:0<k:=by rw[←hk];exact List.length_pos_iff.2 hne
 have HR:Hid (ex fuel c s=ex fuel c s):=rfl;clear hL hc hp hi ho hk hne IH hsz;generalize hR:ex fuel c s=R at *;have HE:Hid (ex fuel c s=R):=hR;clear hR HR;go_enter Tryz.func72,Tryz.ntmps72;go_wp2_with fail
 go_loopg [8] (k-0) (fun gm ivar wr=>∃(i:Nat) (c2:Cm) (s2:RS),ivar=.int .i64 (i:Int)∧gm=k-i∧i≤k∧PR wr rb fuel s2∧Kp rb w wr∧Hid (Inv fuel s2)∧s2.e<0∧Hid ((i=k∧R=s2)∨(i<k∧IsC w P c2 (ys.drop i)∧cOk c2∧csz c2≤n∧R=ex fuel c2 s2)))
 case atStart=>exact⟨0,c,s,rfl,rfl,Nat.zero_le _,HP0.out,Kp.refl _ _,HI,he,Or.inr ⟨hk0,HIC.out,HO.out,HSZ.out,HE.out.symm⟩⟩
 case round =>
  obtain⟨i,c2,s2,rfl,hgm,hik,hA,hKr,HI2,he2,hw⟩:=hrel;have HA:Hid (PR wr rb fuel s2):=hA;have HKR:Hid (Kp rb w wr):=hKr;clear hA hKr;rcases hw.out with⟨rfl,hRs⟩|⟨hlt,hI2,ho2,hz2,hRx⟩
  ·clear hw;go_wp2_with fail;go_ret;exact⟨by rw[hRs,decide_eq_true he2];rfl,by rw[hRs];exact HA.out,HKR.out⟩
  ·clear hw;obtain⟨y,r,c1,ed,g1,g2,g3,g4⟩:=zdl hI2 ho2 fuel s2;have hra:=zmh HL.out ed;have hrl:r.length=k-(i+1):=by
    have:=congrArg List.length ed;rw[List.length_drop,HK.out,List.length_cons] at this;omega
   have hdr:ys.drop (i+1)=r:=by rw[←List.drop_drop,ed];rfl
   have hK2:=HKR.out;have hgr:g<wr.heap.size:=by have:=hK2.size;omega
   have hneg:g≠rb:=by intro e;subst e;exact hP hPg
   have hCm:=HC.out c1 wr s2 g (i*20) y (by omega) g3 (g1.same (hK2.same hP)) hPg hgr (za7 hra hK2 hneg hg) HA.out HI2.out he2;have HI3:Hid (Inv fuel (ex fuel c1 s2)):=(zdA c1 s2 HI2.out).1;have H4:Hid ((r=[]∧ex fuel c2 s2=ex fuel c1 s2)∨∃d,IsC w P d r∧csz d≤csz c2∧cOk d∧ex fuel c2 s2=if 0≤(ex fuel c1 s2).e then ex fuel c1 s2 else ex fuel d (ex fuel c1 s2)):=g4;have HRX:Hid (R=ex fuel c2 s2):=hRx;have HZ2:Hid (csz c2≤n):=hz2;have HRL:Hid (r.length=k-(i+1)):=hrl;have HDR:Hid (ys.drop (i+1)=r):=hdr;clear g1 g2 g3 g4 hra hRx hI2 ho2 hz2 ed hrl hdr hK2;by_cases he3:(ex fuel c1 s2).e<0
   ·rw[decide_eq_true he3] at hCm;have HCm:Hid _:=hCm;clear hCm;have HN:Hid (∃c3,(i+1=k∧R=ex fuel c1 s2)∨(i+1<k∧IsC w P c3 (ys.drop (i+1))∧cOk c3∧csz c3≤n∧R=ex fuel c3 (ex fuel c1 s2))):=by
     rcases H4.out with⟨e1,e2⟩|⟨d,d1,d2,d3,d4⟩
     ·refine⟨.skip,Or.inl ⟨?_,HRX.out.trans e2⟩⟩;have:=HRL.out;rw[e1] at this;simp at this;omega
     ·refine⟨d,Or.inr ⟨?_,by rw[HDR.out];exact d1,d3,by have:=HZ2.out;omega,?_⟩⟩
      ·have hl:r≠[]:=by
        obtain⟨y,r',c1,e,_⟩:=zdl d1 d3 fuel s2;rw[e];simp
       have:=List.length_pos_iff.2 hl;have:=HRL.out;omega
      ·rw[HRX.out,d4,if_neg (by omega)]
    clear H4 HRX HZ2 HRL HDR;generalize ex fuel c1 s2=s3 at *;go_wp2_with fail;refine Calls.mono HCm.out ?_;rintro e w2 ⟨rfl,A2,K2⟩;go_wp2_with fail
    go_roundg (k-(i+1))
    case rel =>
     obtain⟨c3,h3⟩:=HN.out;exact⟨i+1,c3,s3,rfl,rfl,by omega,A2,HKR.out.trans K2,HI3,he3,h3⟩
    case measure=>rw[hgm];omega
   ·rw[decide_eq_false he3] at hCm;have HCm:Hid _:=hCm;have HRR:Hid (R=ex fuel c1 s2):=by
     show _=_
     rcases H4.out with⟨e1,e2⟩|⟨d,d1,d2,d3,d4⟩
     ·exact HRX.out.trans e2
     ·rw[HRX.out,d4,if_pos (by omega)]
    clear hCm H4 HRX;generalize ex fuel c1 s2=s3 at *;go_wp2_with fail;refine Calls.mono HCm.out ?_;rintro e w2 ⟨rfl,A2,K2⟩;go_wp2_with fail;go_ret;exact⟨by rw[HRR.out,decide_eq_false (by omega)];rfl,by rw[HRR.out];exact A2,HKR.out.trans K2⟩
theorem zmi (P:Nat→Prop) (rb:Nat) (fuel:Int) (hP:¬P rb) (hfu:fuel≤10000) (n:Nat):ComsM P rb fuel n:=by
 induction n with
 | zero=>exact zdY P rb fuel 0 hP (zfc P rb fuel 0 hP hfu (fun h=>absurd h (Nat.lt_irrefl 0)))
 | succ n ih=>exact zdY P rb fuel (n+1) hP (zfc P rb fuel (n+1) hP hfu (fun _=>ih))
end Go.Proofs.YtkinoehmcfhgbaaGreatDoor.Vl
