/- A part of the proof. -/
import Derived.Test.YtkinoehmcfhgbaaGreatDoorH23
set_option linter.unusedVariables false
set_option linter.unusedSimpArgs false
set_option maxRecDepth 100000
set_option maxHeartbeats 4000000
namespace Go.Proofs.YtkinoehmcfhgbaaGreatDoor.Vl
open Go.RowKit
open Av (Fm Cm Rc IsF IsC Lst Same fv)
def pb (ys:List Sym):List Sym:=if tol (sbs ys) then [] else ys
def pw:Cm→List Sym→List Sym
 | .skip,q=>pb q
 | .asg x t,q=>pb (q.map (rpl (x+1) (t.1+1) t.2))
 | .ite f a b,q=>pb ((4,0,0,0)::(3,0,0,0)::(fsy f++(pw a q++((3,0,0,0)::(2,0,0,0)::(fsy f++pw b q)))))
 | .loop f g a,q=>pb (fsy g)
 | .seq a b,q=>pw a (pw b q)
def pcm:Cm→List Sym→List Sym
 | .skip,q=>q
 | .asg x t,q=>q.map (rpl (x+1) (t.1+1) t.2)
 | .ite f a b,q=>(4,0,0,0)::(3,0,0,0)::(fsy f++(pw a q++((3,0,0,0)::(2,0,0,0)::(fsy f++pw b q))))
 | .loop f g a,q=>fsy g
 | .seq a b,q=>pw a (pw b q)
def pag (f g:Fm) (a:Cm):List Sym:=(5,0,0,0)::(3,0,0,0)::(fsy g++(fsy f++pw a (fsy g)))
def pt:Cm→List Sym→Bool
 | .skip,q=>tol (sbs q)
 | .asg x t,q=>tol (sbs (pcm (.asg x t) q))
 | .ite f a b,q=>(pt b q||pt a q)||tol (sbs (pcm (.ite f a b) q))
 | .loop f g a,q=>((pt a (fsy g)||tol (sbs (leav f g q)))||tol (sbs (pag f g a)))||tol (sbs (fsy g))
 | .seq a b,q=>pt b q||pt a (pw b q)
def pct:Cm→List Sym→Bool
 | .ite f a b,q=>pt b q||pt a q
 | .loop f g a,q=>(pt a (fsy g)||tol (sbs (leav f g q)))||tol (sbs (pag f g a))
 | _,_=>false
def pL:Cm→List Sym→List (List Sym)
 | .ite f a b,q=>pL b q++pL a q
 | .loop f g a,q=>(pL a (fsy g)++[pb (leav f g q)])++[pb (pag f g a)]
 | .seq a b,q=>pL b q++pL a (pw b q)
 | _,_=>[]
def one1:Cm→Prop
 | .seq _ _=>False
 | _=>True
theorem zkB {c:Cm} (h:one1 c) (q:List Sym):pw c q=pb (pcm c q):=by
 cases c with
 | seq a b=>exact h.elim
 | _=>rfl
theorem zlM {c:Cm} (h:one1 c) (q:List Sym):pt c q=(pct c q||tol (sbs (pcm c q))):=by
 cases c with
 | seq a b=>exact h.elim
 | skip=>exact(Bool.false_or _).symm
 | asg x t=>exact(Bool.false_or _).symm
 | _=>rfl
theorem zdN {ys:List Sym} (h:bl ys≤4000):pb ys=ys:=by
 unfold pb tol;rw[decide_eq_false (by unfold bl at h;omega)]
 rfl
theorem zf8 (ys:List Sym):tol (sbs ys)=!(decide (bl ys≤4000)):=zkZ _ ys rfl
theorem zjo (ys:List Sym):bl (pb ys)≤4000:=by
 unfold pb;by_cases h:4000<(sbs ys).length
 ·rw[show tol (sbs ys)=true from decide_eq_true h,if_pos rfl];exact Nat.zero_le _
 ·rw[show tol (sbs ys)=false from decide_eq_false h,if_neg (by decide)];unfold bl;omega
theorem zlN:∀(c:Cm) (q:List Sym),bl (pw c q)≤4000
 | .skip,q=>zjo _
 | .asg x t,q=>zjo _
 | .ite f a b,q=>zjo _
 | .loop f g a,q=>zjo _
 | .seq a b,q=>zlN a _
theorem zbm:∀(c:Cm) (q:List Sym),pt c q=!(fit c q)∧(fit c q=true→pw c q=wpc c q∧pL c q=(cls c q).reverse)
 | .skip,q=>⟨zf8 q,fun h=>⟨zdN (of_decide_eq_true h),rfl⟩⟩
 | .asg x t,q=>⟨zf8 _,fun h=>⟨zdN (of_decide_eq_true h),rfl⟩⟩
 | .ite f a b,q=>by
  obtain⟨a1,a2⟩:=zbm a q;obtain⟨b1,b2⟩:=zbm b q;cases ha:fit a q
  ·rw[ha] at a1;simp only[pt,fit,a1,ha,Bool.not_false,Bool.or_true,Bool.true_or,Bool.false_and,true_and];intro h;cases h
  ·cases hb:fit b q
   ·rw[hb] at b1;simp only[pt,fit,b1,hb,Bool.not_false,Bool.or_true,Bool.true_or,Bool.false_and,Bool.and_false,true_and];intro h;cases h
   ·obtain⟨wa,la⟩:=a2 ha;obtain⟨wb,lb⟩:=b2 hb;have e:pcm (.ite f a b) q=wpc (.ite f a b) q:=by simp only[pcm,wpc,wa,wb]
    rw[zkB (c:=.ite f a b) trivial,e];simp only[pt,fit,pL,cls,a1,b1,ha,hb,e,la,lb,zf8,Bool.not_true,Bool.or_false,Bool.false_or,Bool.true_and,List.reverse_append,true_and,and_true];exact fun h=>zdN (of_decide_eq_true h)
 | .loop f g a,q=>by
  obtain⟨a1,a2⟩:=zbm a (fsy g);cases ha:fit a (fsy g)
  ·rw[ha] at a1;simp only[pt,fit,a1,ha,Bool.not_false,Bool.or_true,Bool.true_or,Bool.false_and,true_and];intro h;cases h
  ·obtain⟨wa,la⟩:=a2 ha;have e:pag f g a=again f g a:=by simp only[pag,again,wa]
   rw[ha] at a1;refine⟨?_,fun h=>?_⟩
   ·simp only[pt,fit,a1,ha,e,zf8,Bool.not_true,Bool.false_or,Bool.true_and,Bool.not_and];cases decide (bl (leav f g q)≤4000)<;>cases decide (bl (again f g a)≤4000)<;>rfl
   ·simp only[fit,Bool.and_eq_true] at h;obtain⟨_,h1,h2,h3⟩:=h;refine⟨zdN (of_decide_eq_true h3),?_⟩;simp only[pL,cls,la,e,zdN (of_decide_eq_true h1),zdN (of_decide_eq_true h2),List.reverse_cons]
 | .seq a b,q=>by
  obtain⟨b1,b2⟩:=zbm b q;cases hb:fit b q
  ·rw[hb] at b1;simp only[pt,fit,b1,hb,Bool.not_false,Bool.or_true,Bool.true_or,Bool.false_and,true_and];intro h;cases h
  ·obtain⟨wb,lb⟩:=b2 hb;obtain⟨a1,a2⟩:=zbm a (wpc b q);rw[hb] at b1;refine⟨?_,fun h=>?_⟩
   ·simp only[pt,fit,b1,hb,wb,a1,Bool.not_true,Bool.false_or,Bool.true_and]
   ·simp only[fit,Bool.and_eq_true] at h;obtain⟨wa,la⟩:=a2 h.2;simp only[pw,wpc,pL,cls,wb,wa,la,lb,List.reverse_append,and_self]
def nas:Cm→Nat
 | .skip=>0
 | .asg _ _=>1
 | .ite _ a b=>nas a+nas b
 | .loop _ _ a=>nas a
 | .seq a b=>nas a+nas b
def kOk:Cm→Prop
 | .loop _ g a=>fOk g∧kOk a
 | .ite _ a b=>kOk a∧kOk b
 | .seq a b=>kOk a∧kOk b
 | _=>True
theorem Gd.pb {K:Int} {ys:List Sym} (h:Gd K ys):Gd K (pb ys):=by
 unfold Vl.pb;split
 ·exact Gd.nil
 ·exact h
theorem zcO:∀(c:Cm) (q:List Sym) (K:Int),cOk c→kOk c→1999≤K→K+999*(nas c:Int)≤999999→Gd K q→Gd (K+999*(nas c:Int)) (pw c q)
 | .skip,q,K,_,_,_,hK,h=>(h.mono (by simp[nas])).pb
 | .asg x t,q,K,ho,_,_,hK,h=>by
  obtain⟨x0,x3,t1,t2,t3,t4⟩:=ho;exact((zht (by omega) (by omega) ⟨by omega,by omega⟩ (by simp only[nas] at hK;omega) h).mono (by simp[nas])).pb
 | .ite f a b,q,K,ho,hk,h1,hK,h=>by
  simp only[nas] at hK ⊢;have ga:=(zcO a q K ho.2.1 hk.1 h1 (by omega) h).mono (L:=K+999*((nas a+nas b:Nat):Int)) (by omega);have gb:=(zcO b q K ho.2.2 hk.2 h1 (by omega) h).mono (L:=K+999*((nas a+nas b:Nat):Int)) (by omega);have gf:Gd (K+999*((nas a+nas b:Nat):Int)) (fsy f):=(zaF f ho.1).mono (by omega);exact(Gd.mark (by omega) (by omega) (Gd.mark (by omega) (by omega) (gf.app (ga.app (Gd.mark (by omega) (by omega) (Gd.mark (by omega) (by omega) (gf.app gb))))))).pb
 | .loop f g a,q,K,ho,hk,h1,hK,h=>((zaF g hk.1).mono (by omega)).pb
 | .seq a b,q,K,ho,hk,h1,hK,h=>by
  simp only[nas] at hK ⊢;have gb:=zcO b q K ho.2 hk.2 h1 (by omega) h;exact(zcO a _ _ ho.1 hk.1 (by omega) (by omega) gb).mono (by omega)
structure AsF (w w':World) (g o:Nat) (x t1 t2:Int):Prop where
 b:Below w.heap.size w w'
 h1:w'.cell? ⟨g,o+1,none⟩=some (.int .i64 x)
 h2:w'.cell? ⟨g,o+2,none⟩=some (.int .i64 t1)
 h3:w'.cell? ⟨g,o+3,none⟩=some (.int .i64 t2)
theorem AsF.on {w w' w'':World} {g o:Nat} {x t1 t2:Int} (h:AsF w w' g o x t1 t2) (hg:g<w.heap.size) (hb:Below w'.heap.size w' w''):AsF w w'' g o x t1 t2:=by
 have hl:g<w'.heap.size:=Nat.lt_of_lt_of_le hg h.b.size;exact⟨h.b.trans (hb.mono h.b.size),(hb.cell (p:=⟨g,o+1,none⟩) hl).trans h.h1,(hb.cell (p:=⟨g,o+2,none⟩) hl).trans h.h2,(hb.cell (p:=⟨g,o+3,none⟩) hl).trans h.h3⟩
theorem zjp (wb:Nat) (v:Value) (w:World) (g o:Nat) (z0:w.cell? ⟨g,o,none⟩=some (.int .i64 0)) :
 Calls Tryz.prog 140 #[.pointer (some ⟨wb,0,none⟩),.pointer (some ⟨g,o,none⟩),v] w fun e w'=>e=.returned v∧w=w':=by
 go_enter Tryz.func140,Tryz.ntmps140;go_wp2_with fail;go_ret;exact⟨rfl,rfl⟩
theorem zkR (wb:Nat) (v:Value) (q:List Sym) (x t1 t2:Int) (w:World) (g o:Nat) (hx:0≤x∧x≤3) (ht:tOk (t1,t2)) (hg:g<w.heap.size) (z0:w.cell? ⟨g,o,none⟩=some (.int .i64 1)) (z1:w.cell? ⟨g,o+1,none⟩=some (.int .i64 x)) (z2:w.cell? ⟨g,o+2,none⟩=some (.int .i64 t1)) (z3:w.cell? ⟨g,o+3,none⟩=some (.int .i64 t2))
 (hc:CondR w v q) (hy:∀y∈q,-999999≤y.2.2.2∧y.2.2.2≤999999) (hl:q.length≤100000) :
 Calls Tryz.prog 140 #[.pointer (some ⟨wb,0,none⟩),.pointer (some ⟨g,o,none⟩),v] w fun e w'=>∃v',e=.returned v'∧CondR w' v' (q.map (rpl (x+1) (t1+1) t2))∧Below w.heap.size w w':=by
 obtain⟨k1,k2,k3,k4⟩:=ht;have CV:Hid (∀X,Calls Tryz.prog 182 #[.int .i64 x] X fun e w'=>e=.returned (.int .i64 (x+1))∧X=w'):=fun X=>zbf x X (by omega)
 have CO:Hid (∀X,Calls Tryz.prog 211 #[.agg #[.int .i64 t1,.int .i64 t2]] X fun e w'=>e=.returned (.int .i64 (t1+1))∧Below X.heap.size X w'):=fun X=>zbN t1 t2 X ⟨by dsimp only at *;omega,by dsimp only at *;omega⟩
 have CR:Hid (∀X,CondR X v q→Calls Tryz.prog 210 #[v,.int .i64 (x+1),.int .i64 (t1+1),.int .i64 t2] X fun e w'=>∃v',e=.returned v'∧CondR w' v' (q.map (rpl (x+1) (t1+1) t2))∧Below X.heap.size X w'):=fun X hX=>zfY v q (x+1) (t1+1) t2 X hX hy ⟨by dsimp only at *;omega,by dsimp only at *;omega⟩ hl
 have HC:Hid (CondR w v q):=hc;have T0:AsF w w.drew g o x t1 t2:=⟨(Below.refl _ _).drew,z1,z2,z3⟩;obtain⟨pa,cap,rfl⟩:=hc.shape;clear hc hy hx k1 k2 k3 k4;generalize hQ:q.map (rpl (x+1) (t1+1) t2)=Q at *;generalize x+1=X1 at *;generalize t1+1=T1 at *;obtain⟨s0,s1,s2,s3⟩:=id T0;go_enter Tryz.func140,Tryz.ntmps140;go_wp2_with fail;go_region_held3 (fun w'=>Below w.heap.size w w'∧w'.cell? ⟨g,o+1,none⟩=some (.int .i64 x)∧w'.cell? ⟨g,o+2,none⟩=some (.int .i64 t1)∧w'.cell? ⟨g,o+3,none⟩=some (.int .i64 t2)) (refine⟨?_,?_,?_,?_⟩<;>assumption) (first
  | (go_at_call 182;refine Calls.mono (CV.out _) ?_;rintro e w1 ⟨rfl,rfl⟩)
  | (go_at_call 211;refine Calls.mono (CO.out _) ?_;rintro e w2 ⟨rfl,hb2⟩;have TT:=T0.on hg hb2;obtain⟨t0,t1,t2,t3⟩:=id TT)
  | (go_at_call 210;refine Calls.mono (CR.out _ (HC.out.below TT.b)) ?_;rintro e w3 ⟨v3,rfl,hc3,hb3⟩;have TU:=TT.on hg hb3;obtain⟨u0,u1,u2,u3⟩:=id TU))
 all_goals
  go_wp2_with fail;go_ret;exact⟨_,rfl,hc3,u0⟩
theorem zay (w:World) (v1 v2:Value) (a b:List Sym) (t:TypeId) (h1:CondR w v1 a) (h2:CondR w v2 b):PartsR (w.alloc (.cells #[v1,v2] t)) (.slice (some ⟨w.heap.size,0,none⟩) 2 2) [a,b]:=by
 refine Or.inr ⟨w.heap.size,2,[v1,v2],rfl,Nat.le_refl _,by decide,by simp,rfl,fun j x hx=>?_,fun j x ys hx hy=>?_⟩
 ·rw[World.cell?_alloc_at _ _ _ _ rfl];simpa using hx
 ·match j,hx,hy with
  | 0,hx,hy=>cases hx;cases hy;exact h1.below (zaa _ _)
  | 1,hx,hy=>cases hx;cases hy;exact h2.below (zaa _ _)
  | j+2,hx,_=>simp at hx
theorem zcP (w:World) (v1:Value) (a:List Sym) (t:TypeId) (h1:CondR w v1 a):PartsR (w.alloc (.cells #[v1] t)) (.slice (some ⟨w.heap.size,0,none⟩) 1 1) [a]:=by
 refine Or.inr ⟨w.heap.size,1,[v1],rfl,Nat.le_refl _,by decide,by simp,rfl,fun j x hx=>?_,fun j x ys hx hy=>?_⟩
 ·rw[World.cell?_alloc_at _ _ _ _ rfl];simpa using hx
 ·match j,hx,hy with
  | 0,hx,hy=>cases hx;cases hy;exact h1.below (zaa _ _)
  | j+1,hx,_=>simp at hx
theorem zaT (kind:Int) (v:Value) (yss:List (List Sym)) (w:World) (h:PartsR w v yss) (hl:yss.flatten.length≤90000) (hm:yss.length≤100) :
 Calls Tryz.prog 94 #[.int .i64 kind,v] w fun e w'=>∃v',e=.returned v'∧CondR w' v' ((kind,0,0,0)::yss.flatten)∧Below w.heap.size w w':=by
 obtain⟨pa,n,cap,rfl⟩:∃pa n cap,v=.slice pa n cap:=by
  rcases h with⟨rfl,rfl⟩|⟨p,cap,vs,rfl,_⟩
  ·exact⟨none,0,0,rfl⟩
  ·exact⟨_,_,_,rfl⟩
 have hw:CondR (w.alloc (.cells #[.int .i64 kind,.int .i64 0,.int .i64 0,.int .i64 0] 136)) (.slice (some ⟨w.heap.size,0,none⟩) 1 1) [(kind,0,0,0)]:=zfp w (kind,0,0,0);have hp:=h.below (zaa w (.cells #[.int .i64 kind,.int .i64 0,.int .i64 0,.int .i64 0] 136));have C1:Hid (Calls Tryz.prog 142 #[.slice pa n cap] (w.alloc (.cells #[.int .i64 kind,.int .i64 0,.int .i64 0,.int .i64 0] 136)) fun e w'=>∃v',e=.returned v'∧CondR w' v' yss.flatten∧Below (w.alloc (.cells #[.int .i64 kind,.int .i64 0,.int .i64 0,.int .i64 0] 136)).heap.size (w.alloc (.cells #[.int .i64 kind,.int .i64 0,.int .i64 0,.int .i64 0] 136)) w'):=zd5 _ yss _ hp (by omega) (by omega);have C2:Hid (∀X v1 v2,PartsR X (.slice (some ⟨v1,0,none⟩) 2 v2) [[(kind,0,0,0)],yss.flatten]→Calls Tryz.prog 142 #[.slice (some ⟨v1,0,none⟩) 2 v2] X fun e w'=>∃v',e=.returned v'∧CondR w' v' ((kind,0,0,0)::yss.flatten)∧Below X.heap.size X w'):=fun X v1 v2 hX=>by
  have:=zd5 _ [[(kind,0,0,0)],yss.flatten] X hX (by simp only[List.flatten_cons,List.flatten_nil,List.append_nil,List.length_append,List.length_cons,List.length_nil];omega) (by simp);simpa only[List.flatten_cons,List.flatten_nil,List.append_nil,List.cons_append,List.nil_append] using this
 have HW:Hid _:=hw;clear h hp hw;generalize yss.flatten=Z at *;go_enter Tryz.func94,Tryz.ntmps94;go_wp2_with fail;refine Calls.mono C1.out ?_;rintro e w1 ⟨v1,rfl,hc1,hb1⟩;have hw1:CondR w1 (.slice (some ⟨w.heap.size,0,none⟩) 1 1) [(kind,0,0,0)]:=CondR.below HW.out hb1;have hB1:Below w.heap.size w w1:=(zaa w _).trans (hb1.mono (by simp));have HP2:=zay w1 (.slice (some ⟨w.heap.size,0,none⟩) 1 1) v1 [(kind,0,0,0)] Z 75 hw1 hc1;obtain⟨xa,xc,rfl⟩:=hc1.shape;have HPP:Hid _:=HP2;have HB1:Hid (Below w.heap.size w w1):=hB1;clear hw1 hb1 hB1 HW hc1 HP2;go_wp2_with fail;refine Calls.mono (C2.out _ _ _ HPP.out) ?_;rintro e w2 ⟨v2,rfl,hc2,hb2⟩;go_wp2_with fail;go_ret;exact⟨_,rfl,hc2,(HB1.out.alloc HB1.out.size _).trans (hb2.mono (by have:=HB1.out.size;simp;omega))⟩
def TwF (w w':World) (B:Nat) (a1 a2 b1 b2:Int):Prop:=Below w.heap.size w w'∧B<w'.heap.size∧w'.cell? ⟨B,3,none⟩=some (.int .i64 a1)∧w'.cell? ⟨B,4,none⟩=some (.int .i64 a2)∧w'.cell? ⟨B,5,none⟩=some (.int .i64 b1)∧w'.cell? ⟨B,6,none⟩=some (.int .i64 b2)
theorem TwF.on {w X X':World} {B:Nat} {a1 a2 b1 b2:Int} (h:TwF w X B a1 a2 b1 b2) (hb:Below X.heap.size X X'):TwF w X' B a1 a2 b1 b2:=by
 obtain⟨h0,h1,h2,h3,h4,h5⟩:=h;exact⟨h0.trans (hb.mono h0.size),Nat.lt_of_lt_of_le h1 hb.size,(hb.cell (p:=⟨B,3,none⟩) h1).trans h2,(hb.cell (p:=⟨B,4,none⟩) h1).trans h3,(hb.cell (p:=⟨B,5,none⟩) h1).trans h4,(hb.cell (p:=⟨B,6,none⟩) h1).trans h5⟩
theorem zdI (k:Int) (p:Option Addr) (n c:Nat) (r a1 a2 b1 b2:Int) (w:World) (hr:0≤r∧r≤4) (ha:tOk (a1,a2)) (hb:tOk (b1,b2)) :
 Calls Tryz.prog 141 #[.agg #[.int .i64 k,.slice p n c,.int .i64 r,.int .i64 a1,.int .i64 a2,.int .i64 b1,.int .i64 b2]] w fun e w'=>∃v,e=.returned v∧CondR w' v (cms r (a1,a2) (b1,b2))∧Below w.heap.size w w':=by
 have BL:Hid (∀w,Calls Tryz.prog 214 #[.agg #[.int .i64 a1,.int .i64 a2],.agg #[.int .i64 b1,.int .i64 b2]] w fun e w'=>∃v,e=.returned v∧CondR w' v [aty (a1+1) (b1+1) (b2-a2-1)]∧Below w.heap.size w w'):=fun w=>zfq a1 a2 b1 b2 w ha hb
 have BG:Hid (∀w,Calls Tryz.prog 214 #[.agg #[.int .i64 b1,.int .i64 b2],.agg #[.int .i64 a1,.int .i64 a2]] w fun e w'=>∃v,e=.returned v∧CondR w' v [aty (b1+1) (a1+1) (a2-b2-1)]∧Below w.heap.size w w'):=fun w=>zfq b1 b2 a1 a2 w hb ha
 have AL:Hid (∀w,Calls Tryz.prog 215 #[.agg #[.int .i64 a1,.int .i64 a2],.agg #[.int .i64 b1,.int .i64 b2]] w fun e w'=>∃v,e=.returned v∧CondR w' v [aty (a1+1) (b1+1) (b2-a2)]∧Below w.heap.size w w'):=fun w=>zbO a1 a2 b1 b2 w ha ⟨hb.1,hb.2.1,by have:=hb.2.2.1;dsimp only at this;omega,hb.2.2.2⟩
 have AG:Hid (∀w,Calls Tryz.prog 215 #[.agg #[.int .i64 b1,.int .i64 b2],.agg #[.int .i64 a1,.int .i64 a2]] w fun e w'=>∃v,e=.returned v∧CondR w' v [aty (b1+1) (a1+1) (a2-b2)]∧Below w.heap.size w w'):=fun w=>zbO b1 b2 a1 a2 w hb ⟨ha.1,ha.2.1,by have:=ha.2.2.1;dsimp only at this;omega,ha.2.2.2⟩
 clear ha hb;have hrr:r=0∨r=1∨r=3∨r=4∨r=2:=by omega
 clear hr;rcases hrr with rfl|rfl|rfl|rfl|rfl
 ·go_enter Tryz.func141,Tryz.ntmps141;go_wp2_with fail;refine(BL.out _).mono ?_;rintro e w1 ⟨v,rfl,hc,hb1⟩;go_wp2_with fail;go_ret;exact⟨_,rfl,hc,(zaa w _).trans (hb1.mono (by simp))⟩
 ·go_enter Tryz.func141,Tryz.ntmps141;go_wp2_with fail;refine(AL.out _).mono ?_;rintro e w1 ⟨v,rfl,hc,hb1⟩;go_wp2_with fail;go_ret;exact⟨_,rfl,hc,(zaa w _).trans (hb1.mono (by simp))⟩
 ·go_enter Tryz.func141,Tryz.ntmps141;go_wp2_with fail;refine(BG.out _).mono ?_;rintro e w1 ⟨v,rfl,hc,hb1⟩;go_wp2_with fail;go_ret;exact⟨_,rfl,hc,(zaa w _).trans (hb1.mono (by simp))⟩
 ·go_enter Tryz.func141,Tryz.ntmps141;go_wp2_with fail;refine(AG.out _).mono ?_;rintro e w1 ⟨v,rfl,hc,hb1⟩;go_wp2_with fail;go_ret;exact⟨_,rfl,hc,(zaa w _).trans (hb1.mono (by simp))⟩
 ·have CO:Hid (∀X g m,PartsR X (.slice (some ⟨g,0,none⟩) 2 m) [[aty (a1+1) (b1+1) (b2-a2)],[aty (b1+1) (a1+1) (a2-b2)]]→Calls Tryz.prog 94 #[.int .i64 3,.slice (some ⟨g,0,none⟩) 2 m] X fun e w'=>∃v',e=.returned v'∧CondR w' v' (cms 2 (a1,a2) (b1,b2))∧Below X.heap.size X w'):=fun X g m hX=>zaT 3 _ _ X hX (by simp) (by simp)
  generalize cms 2 (a1,a2) (b1,b2)=CM at *;generalize aty (a1+1) (b1+1) (b2-a2)=Y1 at *;generalize aty (b1+1) (a1+1) (a2-b2)=Y2 at *;go_enter Tryz.func141,Tryz.ntmps141;go_wp2_with fail;have bb0:Below w.heap.size w (w.alloc (.cells #[.int .i64 k,.slice p n c,.int .i64 2,.int .i64 a1,.int .i64 a2,.int .i64 b1,.int .i64 b2] 98)):=zaa w _;generalize hW:(w.alloc (.cells #[.int .i64 k,.slice p n c,.int .i64 2,.int .i64 a1,.int .i64 a2,.int .i64 b1,.int .i64 b2] 98))=W at *;have s0:w.heap.size<W.heap.size:=by rw[←hW];simp
  have c3:W.cell? ⟨w.heap.size,3,none⟩=some (.int .i64 a1):=by rw[←hW];simp
  have c4:W.cell? ⟨w.heap.size,4,none⟩=some (.int .i64 a2):=by rw[←hW];simp
  have c5:W.cell? ⟨w.heap.size,5,none⟩=some (.int .i64 b1):=by rw[←hW];simp
  have c6:W.cell? ⟨w.heap.size,6,none⟩=some (.int .i64 b2):=by rw[←hW];simp
  have bb1:Below w.heap.size w W.drew:=bb0.drew;have T0:TwF w W.drew w.heap.size a1 a2 b1 b2:=⟨bb1,s0,c3,c4,c5,c6⟩;clear hW;go_region_held3 (fun w'=>Below w.heap.size w w'∧w.heap.size<w'.heap.size∧w'.cell? ⟨w.heap.size,3,none⟩=some (.int .i64 a1)∧w'.cell? ⟨w.heap.size,4,none⟩=some (.int .i64 a2)∧w'.cell? ⟨w.heap.size,5,none⟩=some (.int .i64 b1)∧w'.cell? ⟨w.heap.size,6,none⟩=some (.int .i64 b2)) (first|(refine⟨?_,?_,?_,?_,?_,?_⟩<;>assumption)|exact(T2.on (zaa _ _))) (first|(go_at_call 94;refine Calls.mono (CO.out _ _ _ (zay _ _ _ [Y1] [Y2] 75 hc1' hc2)) ?_;rintro e w4 ⟨v4,rfl,hc4,hb4⟩;have T3:=(T2.on (zaa _ _)).on hb4;obtain⟨t0,t1,t2,t3,t4,t5⟩:=id T3)|(go_at_call 215;first|(have hh:=T1;refine(AG.out _).mono ?_;rintro e w3 ⟨v2,rfl,hc2,hb3⟩;obtain⟨xa2,xc2,rfl⟩:=hc2.shape;have T2:=T1.on hb3;have hc1':=hc1.below hb3;clear hh;obtain⟨t0,t1,t2,t3,t4,t5⟩:=id T2)|(refine(AL.out _).mono ?_;rintro e w3 ⟨v1,rfl,hc1,hb3⟩;obtain⟨xa1,xc1,rfl⟩:=hc1.shape;have T1:=T0.on hb3;obtain⟨t0,t1,t2,t3,t4,t5⟩:=id T1)));go_wp2_with fail;go_ret;exact⟨_,rfl,hc4,t0⟩
open Av (Fm IsF fv Same zac)
def TwP (w w':World) (B:Nat) (g c:Nat) (k:Int) (p:Option Addr) (n m:Nat) (r a1 a2 a3 a4:Int) (k':Int) (p':Option Addr) (n' m':Nat) (r' b1 b2 b3 b4:Int):Prop:=Below w.heap.size w w'∧B<w'.heap.size∧w'.cell? ⟨B,1,none⟩=some (.slice (some ⟨g,0,none⟩) 2 c)∧g<w'.heap.size∧w'.cell? ⟨g,0,none⟩=some (.int .i64 k)∧w'.cell? ⟨g,1,none⟩=some (.slice p n m)∧w'.cell? ⟨g,2,none⟩=some (.int .i64 r)∧w'.cell? ⟨g,3,none⟩=some (.int .i64 a1)∧w'.cell? ⟨g,4,none⟩=some (.int .i64 a2)∧w'.cell? ⟨g,5,none⟩=some (.int .i64 a3)∧w'.cell? ⟨g,6,none⟩=some (.int .i64 a4)∧w'.cell? ⟨g,7,none⟩=some (.int .i64 k')∧w'.cell? ⟨g,8,none⟩=some (.slice p' n' m')∧w'.cell? ⟨g,9,none⟩=some (.int .i64 r')∧w'.cell? ⟨g,10,none⟩=some (.int .i64 b1)∧w'.cell? ⟨g,11,none⟩=some (.int .i64 b2)∧w'.cell? ⟨g,12,none⟩=some (.int .i64 b3)∧w'.cell? ⟨g,13,none⟩=some (.int .i64 b4)
theorem TwP.on {w X X':World} {B g c:Nat} {k:Int} {p:Option Addr} {n m:Nat} {r a1 a2 a3 a4:Int} {k':Int} {p':Option Addr} {n' m':Nat} {r' b1 b2 b3 b4:Int} (h:TwP w X B g c k p n m r a1 a2 a3 a4 k' p' n' m' r' b1 b2 b3 b4) (hb:Below X.heap.size X X'):TwP w X' B g c k p n m r a1 a2 a3 a4 k' p' n' m' r' b1 b2 b3 b4:=by
 obtain⟨h0,h1,h2,h3,h4,h5,h6,h7,h8,h9,h10,h11,h12,h13,h14,h15,h16,h17⟩:=h;exact⟨h0.trans (hb.mono h0.size),Nat.lt_of_lt_of_le h1 hb.size,(hb.cell (p:=⟨B,1,none⟩) h1).trans h2,Nat.lt_of_lt_of_le h3 hb.size,(hb.cell (p:=⟨g,0,none⟩) h3).trans h4,(hb.cell (p:=⟨g,1,none⟩) h3).trans h5,(hb.cell (p:=⟨g,2,none⟩) h3).trans h6,(hb.cell (p:=⟨g,3,none⟩) h3).trans h7,(hb.cell (p:=⟨g,4,none⟩) h3).trans h8,(hb.cell (p:=⟨g,5,none⟩) h3).trans h9,(hb.cell (p:=⟨g,6,none⟩) h3).trans h10,(hb.cell (p:=⟨g,7,none⟩) h3).trans h11,(hb.cell (p:=⟨g,8,none⟩) h3).trans h12,(hb.cell (p:=⟨g,9,none⟩) h3).trans h13,(hb.cell (p:=⟨g,10,none⟩) h3).trans h14,(hb.cell (p:=⟨g,11,none⟩) h3).trans h15,(hb.cell (p:=⟨g,12,none⟩) h3).trans h16,(hb.cell (p:=⟨g,13,none⟩) h3).trans h17⟩
theorem zhn (w:World):PartsR w (.slice none 0 0) []:=Or.inl ⟨rfl,rfl⟩
theorem zeL (k:Int) (hk:k=0∨k=1) (p:Option Addr) (n m:Nat) (r a1 a2 a3 a4:Int) (w:World) :
 Calls Tryz.prog 92 #[.agg #[.int .i64 k,.slice p n m,.int .i64 r,.int .i64 a1,.int .i64 a2,.int .i64 a3,.int .i64 a4]] w fun e w'=>∃v,e=.returned v∧CondR w' v [(k,0,0,0)]∧Below w.heap.size w w':=by
 have CO:Hid (∀X,Calls Tryz.prog 94 #[.int .i64 k,.slice none 0 0] X fun e w'=>∃v',e=.returned v'∧CondR w' v' [(k,0,0,0)]∧Below X.heap.size X w'):=fun X=>zaT k _ [] X (zhn X) (by simp) (by simp)
 rcases hk with rfl|rfl
 all_goals
  go_enter Tryz.func92,Tryz.ntmps92;go_wp2_with fail;refine(CO.out _).mono ?_;rintro e w1 ⟨v,rfl,hc,hb1⟩;go_wp2_with fail;go_ret;exact⟨_,rfl,hc,(zaa w _).trans (hb1.mono (by simp))⟩
theorem zjq (p:Option Addr) (n m:Nat) (r a1 a2 a3 a4:Int) (w:World) (hr:0≤r∧r≤4) (ha:tOk (a1,a2)) (hb:tOk (a3,a4)) :
 Calls Tryz.prog 92 #[.agg #[.int .i64 2,.slice p n m,.int .i64 r,.int .i64 a1,.int .i64 a2,.int .i64 a3,.int .i64 a4]] w fun e w'=>∃v,e=.returned v∧CondR w' v (cms r (a1,a2) (a3,a4))∧Below w.heap.size w w':=by
 have CO:Hid (∀X,Calls Tryz.prog 141 #[.agg #[.int .i64 2,.slice p n m,.int .i64 r,.int .i64 a1,.int .i64 a2,.int .i64 a3,.int .i64 a4]] X fun e w'=>∃v',e=.returned v'∧CondR w' v' (cms r (a1,a2) (a3,a4))∧Below X.heap.size X w'):=fun X=>zdI 2 p n m r a1 a2 a3 a4 X hr ha hb
 clear hr ha hb;generalize cms r (a1,a2) (a3,a4)=CM at *;go_enter Tryz.func92,Tryz.ntmps92;go_wp2_with fail;refine(CO.out _).mono ?_;rintro e w1 ⟨v,rfl,hc,hb1⟩;go_wp2_with fail;go_ret;exact⟨_,rfl,hc,(zaa w _).trans (hb1.mono (by simp))⟩
theorem zkS (g c:Nat) (fr e1 e2 e3 e4:Int) (k:Int) (p:Option Addr) (n m:Nat) (r a1 a2 a3 a4:Int) (Y:List Sym) (w:World) (hgs:g<w.heap.size) (hc:1≤c∧c≤maxLen) (hu0:w.cell? ⟨g,0,none⟩=some (.int .i64 k)) (hu1:w.cell? ⟨g,1,none⟩=some (.slice p n m)) (hu2:w.cell? ⟨g,2,none⟩=some (.int .i64 r)) (hu3:w.cell? ⟨g,3,none⟩=some (.int .i64 a1)) (hu4:w.cell? ⟨g,4,none⟩=some (.int .i64 a2)) (hu5:w.cell? ⟨g,5,none⟩=some (.int .i64 a3)) (hu6:w.cell? ⟨g,6,none⟩=some (.int .i64 a4)) (hY:Y.length≤80000) (C1:∀X,Below w.heap.size w X→Calls Tryz.prog 92 #[.agg #[.int .i64 k,.slice p n m,.int .i64 r,.int .i64 a1,.int .i64 a2,.int .i64 a3,.int .i64 a4]] X fun e w'=>∃v,e=.returned v∧CondR w' v Y∧Below X.heap.size X w') :
 Calls Tryz.prog 92 #[.agg #[.int .i64 3,.slice (some ⟨g,0,none⟩) 1 c,.int .i64 fr,.int .i64 e1,.int .i64 e2,.int .i64 e3,.int .i64 e4]] w fun e w'=>∃v,e=.returned v∧CondR w' v ((2,0,0,0)::Y)∧Below w.heap.size w w':=by
 have HC1:Hid _:=C1;have CO:Hid (∀X g m,PartsR X (.slice (some ⟨g,0,none⟩) 1 m) [Y]→Calls Tryz.prog 94 #[.int .i64 2,.slice (some ⟨g,0,none⟩) 1 m] X fun e w'=>∃v',e=.returned v'∧CondR w' v' ((2,0,0,0)::Y)∧Below X.heap.size X w'):=fun X g m hX=>by
  have:=zaT 2 _ _ X hX (by simp;omega) (by simp);simpa only[List.flatten_cons,List.flatten_nil,List.append_nil] using this
 clear C1;obtain⟨hc1,hc2⟩:=hc;have hne:¬g=w.heap.size:=by omega
 have hne':¬w.heap.size=g:=by omega
 have hb0:=zaa w (.cells #[.int .i64 3,.slice (some ⟨g,0,none⟩) 1 c,.int .i64 fr,.int .i64 e1,.int .i64 e2,.int .i64 e3,.int .i64 e4] 98);have C1:Hid _:=HC1.out _ hb0;go_enter Tryz.func92,Tryz.ntmps92;go_wp2_with fail;refine Calls.mono C1.out ?_;rintro e w1 ⟨v,rfl,hv,hb1⟩;have hB1:Below w.heap.size w w1:=hb0.trans (hb1.mono (by simp));obtain⟨xa,xc,rfl⟩:=hv.shape;have HPP:Hid _:=zcP w1 _ Y 75 hv;clear hb1 C1 HC1;go_wp2_with fail;refine Calls.mono (CO.out _ _ _ HPP.out) ?_;rintro e w2 ⟨v2,rfl,hc2,hb2⟩;go_wp2_with fail;go_ret;exact⟨_,rfl,hc2,(hB1.alloc hB1.size _).trans (hb2.mono (by have:=hB1.size;simp;omega))⟩
theorem zjr (g c:Nat) (fr e1 e2 e3 e4:Int) (k:Int) (p:Option Addr) (n m:Nat) (r a1 a2 a3 a4:Int) (k':Int) (p':Option Addr) (n' m':Nat) (r' b1 b2 b3 b4:Int) (Y Z:List Sym) (w:World) (hgs:g<w.heap.size) (hc:2≤c∧c≤maxLen) (hu0:w.cell? ⟨g,0,none⟩=some (.int .i64 k)) (hu1:w.cell? ⟨g,1,none⟩=some (.slice p n m)) (hu2:w.cell? ⟨g,2,none⟩=some (.int .i64 r)) (hu3:w.cell? ⟨g,3,none⟩=some (.int .i64 a1)) (hu4:w.cell? ⟨g,4,none⟩=some (.int .i64 a2)) (hu5:w.cell? ⟨g,5,none⟩=some (.int .i64 a3)) (hu6:w.cell? ⟨g,6,none⟩=some (.int .i64 a4)) (hv0:w.cell? ⟨g,7,none⟩=some (.int .i64 k')) (hv1:w.cell? ⟨g,8,none⟩=some (.slice p' n' m')) (hv2:w.cell? ⟨g,9,none⟩=some (.int .i64 r')) (hv3:w.cell? ⟨g,10,none⟩=some (.int .i64 b1)) (hv4:w.cell? ⟨g,11,none⟩=some (.int .i64 b2)) (hv5:w.cell? ⟨g,12,none⟩=some (.int .i64 b3)) (hv6:w.cell? ⟨g,13,none⟩=some (.int .i64 b4)) (hY:Y.length+Z.length≤80000) (C1:∀X,Below w.heap.size w X→Calls Tryz.prog 92 #[.agg #[.int .i64 k,.slice p n m,.int .i64 r,.int .i64 a1,.int .i64 a2,.int .i64 a3,.int .i64 a4]] X fun e w'=>∃v,e=.returned v∧CondR w' v Y∧Below X.heap.size X w') (C2:∀X,Below w.heap.size w X→Calls Tryz.prog 92 #[.agg #[.int .i64 k',.slice p' n' m',.int .i64 r',.int .i64 b1,.int .i64 b2,.int .i64 b3,.int .i64 b4]] X fun e w'=>∃v,e=.returned v∧CondR w' v Z∧Below X.heap.size X w') :
 Calls Tryz.prog 92 #[.agg #[.int .i64 4,.slice (some ⟨g,0,none⟩) 2 c,.int .i64 fr,.int .i64 e1,.int .i64 e2,.int .i64 e3,.int .i64 e4]] w fun e w'=>∃v,e=.returned v∧CondR w' v ((3,0,0,0)::(Y++Z))∧Below w.heap.size w w':=by
 have HC1:Hid _:=C1;have HC2:Hid _:=C2;have CO:Hid (∀X g m,PartsR X (.slice (some ⟨g,0,none⟩) 2 m) [Y,Z]→Calls Tryz.prog 94 #[.int .i64 3,.slice (some ⟨g,0,none⟩) 2 m] X fun e w'=>∃v',e=.returned v'∧CondR w' v' ((3,0,0,0)::(Y++Z))∧Below X.heap.size X w'):=fun X g m hX=>by
  have:=zaT 3 _ _ X hX (by simp only[List.flatten_cons,List.flatten_nil,List.append_nil,List.length_append];omega) (by simp);simpa only[List.flatten_cons,List.flatten_nil,List.append_nil] using this
 clear C1 C2;obtain⟨hc1,hc2⟩:=hc;generalize (3,0,0,0)::(Y++Z)=R at *;have hne:¬g=w.heap.size:=by omega
 have hne':¬w.heap.size=g:=by omega
 go_enter Tryz.func92,Tryz.ntmps92;go_wp2_with fail;have bb0:Below w.heap.size w (w.alloc (.cells #[.int .i64 4,.slice (some ⟨g,0,none⟩) 2 c,.int .i64 fr,.int .i64 e1,.int .i64 e2,.int .i64 e3,.int .i64 e4] 98)):=zaa w _;generalize hW:(w.alloc (.cells #[.int .i64 4,.slice (some ⟨g,0,none⟩) 2 c,.int .i64 fr,.int .i64 e1,.int .i64 e2,.int .i64 e3,.int .i64 e4] 98))=W at *;have s0:w.heap.size<W.heap.size:=by rw[←hW];simp
 have s1:g<W.heap.size:=by omega
 have c1:W.cell? ⟨w.heap.size,1,none⟩=some (.slice (some ⟨g,0,none⟩) 2 c):=by rw[←hW];simp
 have z0:W.cell? ⟨g,0,none⟩=some (.int .i64 k):=(bb0.cell (p:=⟨g,0,none⟩) hgs).trans hu0;have z1:W.cell? ⟨g,1,none⟩=some (.slice p n m):=(bb0.cell (p:=⟨g,1,none⟩) hgs).trans hu1;have z2:W.cell? ⟨g,2,none⟩=some (.int .i64 r):=(bb0.cell (p:=⟨g,2,none⟩) hgs).trans hu2;have z3:W.cell? ⟨g,3,none⟩=some (.int .i64 a1):=(bb0.cell (p:=⟨g,3,none⟩) hgs).trans hu3;have z4:W.cell? ⟨g,4,none⟩=some (.int .i64 a2):=(bb0.cell (p:=⟨g,4,none⟩) hgs).trans hu4;have z5:W.cell? ⟨g,5,none⟩=some (.int .i64 a3):=(bb0.cell (p:=⟨g,5,none⟩) hgs).trans hu5;have z6:W.cell? ⟨g,6,none⟩=some (.int .i64 a4):=(bb0.cell (p:=⟨g,6,none⟩) hgs).trans hu6;have z7:W.cell? ⟨g,7,none⟩=some (.int .i64 k'):=(bb0.cell (p:=⟨g,7,none⟩) hgs).trans hv0;have z8:W.cell? ⟨g,8,none⟩=some (.slice p' n' m'):=(bb0.cell (p:=⟨g,8,none⟩) hgs).trans hv1;have z9:W.cell? ⟨g,9,none⟩=some (.int .i64 r'):=(bb0.cell (p:=⟨g,9,none⟩) hgs).trans hv2;have z10:W.cell? ⟨g,10,none⟩=some (.int .i64 b1):=(bb0.cell (p:=⟨g,10,none⟩) hgs).trans hv3;have z11:W.cell? ⟨g,11,none⟩=some (.int .i64 b2):=(bb0.cell (p:=⟨g,11,none⟩) hgs).trans hv4;have z12:W.cell? ⟨g,12,none⟩=some (.int .i64 b3):=(bb0.cell (p:=⟨g,12,none⟩) hgs).trans hv5;have z13:W.cell? ⟨g,13,none⟩=some (.int .i64 b4):=(bb0.cell (p:=⟨g,13,none⟩) hgs).trans hv6;have bb1:Below w.heap.size w W.drew:=bb0.drew;have T0:TwP w W.drew w.heap.size g c k p n m r a1 a2 a3 a4 k' p' n' m' r' b1 b2 b3 b4:=⟨bb1,s0,c1,s1,z0,z1,z2,z3,z4,z5,z6,z7,z8,z9,z10,z11,z12,z13⟩;clear hW hu0 hu1 hu2 hu3 hu4 hu5 hu6 hv0 hv1 hv2 hv3 hv4 hv5 hv6;go_region_held3 (fun w'=>Below w.heap.size w w'∧w.heap.size<w'.heap.size∧w'.cell? ⟨w.heap.size,1,none⟩=some (.slice (some ⟨g,0,none⟩) 2 c)∧g<w'.heap.size∧w'.cell? ⟨g,0,none⟩=some (.int .i64 k)∧w'.cell? ⟨g,1,none⟩=some (.slice p n m)∧w'.cell? ⟨g,2,none⟩=some (.int .i64 r)∧w'.cell? ⟨g,3,none⟩=some (.int .i64 a1)∧w'.cell? ⟨g,4,none⟩=some (.int .i64 a2)∧w'.cell? ⟨g,5,none⟩=some (.int .i64 a3)∧w'.cell? ⟨g,6,none⟩=some (.int .i64 a4)∧w'.cell? ⟨g,7,none⟩=some (.int .i64 k')∧w'.cell? ⟨g,8,none⟩=some (.slice p' n' m')∧w'.cell? ⟨g,9,none⟩=some (.int .i64 r')∧w'.cell? ⟨g,10,none⟩=some (.int .i64 b1)∧w'.cell? ⟨g,11,none⟩=some (.int .i64 b2)∧w'.cell? ⟨g,12,none⟩=some (.int .i64 b3)∧w'.cell? ⟨g,13,none⟩=some (.int .i64 b4)) (first|(refine⟨?_,?_,?_,?_,?_,?_,?_,?_,?_,?_,?_,?_,?_,?_,?_,?_,?_,?_⟩<;>assumption)|exact(T2.on (zaa _ _))) (first|(go_at_call 94;refine Calls.mono (CO.out _ _ _ (zay _ _ _ Y Z 75 hc1' hc2')) ?_;rintro e w4 ⟨v4,rfl,hc4,hb4⟩;have T3:=(T2.on (zaa _ _)).on hb4;obtain⟨t0,t1,t2,t3,t4,t5,t6,t7,t8,t9,t10,t11,t12,t13,t14,t15,t16,t17⟩:=id T3)|(go_at_call 92;first|(have hh:=T1;refine Calls.mono (HC2.out _ T1.1) ?_;rintro e w3 ⟨v2,rfl,hc2',hb3⟩;obtain⟨xa2,xc2,rfl⟩:=hc2'.shape;have T2:=T1.on hb3;have hc1':=hc1''.below hb3;clear hh;obtain⟨t0,t1,t2,t3,t4,t5,t6,t7,t8,t9,t10,t11,t12,t13,t14,t15,t16,t17⟩:=id T2)|(refine Calls.mono (HC1.out _ T0.1) ?_;rintro e w3 ⟨v1,rfl,hc1'',hb3⟩;obtain⟨xa1,xc1,rfl⟩:=hc1''.shape;have T1:=T0.on hb3;obtain⟨t0,t1,t2,t3,t4,t5,t6,t7,t8,t9,t10,t11,t12,t13,t14,t15,t16,t17⟩:=id T1)));go_wp2_with fail;go_ret;exact⟨_,rfl,hc4,t0⟩
theorem zkT (g c:Nat) (fr e1 e2 e3 e4:Int) (k:Int) (p:Option Addr) (n m:Nat) (r a1 a2 a3 a4:Int) (k':Int) (p':Option Addr) (n' m':Nat) (r' b1 b2 b3 b4:Int) (Y Z:List Sym) (w:World) (hgs:g<w.heap.size) (hc:2≤c∧c≤maxLen) (hu0:w.cell? ⟨g,0,none⟩=some (.int .i64 k)) (hu1:w.cell? ⟨g,1,none⟩=some (.slice p n m)) (hu2:w.cell? ⟨g,2,none⟩=some (.int .i64 r)) (hu3:w.cell? ⟨g,3,none⟩=some (.int .i64 a1)) (hu4:w.cell? ⟨g,4,none⟩=some (.int .i64 a2)) (hu5:w.cell? ⟨g,5,none⟩=some (.int .i64 a3)) (hu6:w.cell? ⟨g,6,none⟩=some (.int .i64 a4)) (hv0:w.cell? ⟨g,7,none⟩=some (.int .i64 k')) (hv1:w.cell? ⟨g,8,none⟩=some (.slice p' n' m')) (hv2:w.cell? ⟨g,9,none⟩=some (.int .i64 r')) (hv3:w.cell? ⟨g,10,none⟩=some (.int .i64 b1)) (hv4:w.cell? ⟨g,11,none⟩=some (.int .i64 b2)) (hv5:w.cell? ⟨g,12,none⟩=some (.int .i64 b3)) (hv6:w.cell? ⟨g,13,none⟩=some (.int .i64 b4)) (hY:Y.length+Z.length≤80000) (C1:∀X,Below w.heap.size w X→Calls Tryz.prog 92 #[.agg #[.int .i64 k,.slice p n m,.int .i64 r,.int .i64 a1,.int .i64 a2,.int .i64 a3,.int .i64 a4]] X fun e w'=>∃v,e=.returned v∧CondR w' v Y∧Below X.heap.size X w') (C2:∀X,Below w.heap.size w X→Calls Tryz.prog 92 #[.agg #[.int .i64 k',.slice p' n' m',.int .i64 r',.int .i64 b1,.int .i64 b2,.int .i64 b3,.int .i64 b4]] X fun e w'=>∃v,e=.returned v∧CondR w' v Z∧Below X.heap.size X w') :
 Calls Tryz.prog 92 #[.agg #[.int .i64 5,.slice (some ⟨g,0,none⟩) 2 c,.int .i64 fr,.int .i64 e1,.int .i64 e2,.int .i64 e3,.int .i64 e4]] w fun e w'=>∃v,e=.returned v∧CondR w' v ((4,0,0,0)::(Y++Z))∧Below w.heap.size w w':=by
 have HC1:Hid _:=C1;have HC2:Hid _:=C2;have CO:Hid (∀X g m,PartsR X (.slice (some ⟨g,0,none⟩) 2 m) [Y,Z]→Calls Tryz.prog 94 #[.int .i64 4,.slice (some ⟨g,0,none⟩) 2 m] X fun e w'=>∃v',e=.returned v'∧CondR w' v' ((4,0,0,0)::(Y++Z))∧Below X.heap.size X w'):=fun X g m hX=>by
  have:=zaT 4 _ _ X hX (by simp only[List.flatten_cons,List.flatten_nil,List.append_nil,List.length_append];omega) (by simp);simpa only[List.flatten_cons,List.flatten_nil,List.append_nil] using this
 clear C1 C2;obtain⟨hc1,hc2⟩:=hc;generalize (4,0,0,0)::(Y++Z)=R at *;have hne:¬g=w.heap.size:=by omega
 have hne':¬w.heap.size=g:=by omega
 go_enter Tryz.func92,Tryz.ntmps92;go_wp2_with fail;have bb0:Below w.heap.size w (w.alloc (.cells #[.int .i64 5,.slice (some ⟨g,0,none⟩) 2 c,.int .i64 fr,.int .i64 e1,.int .i64 e2,.int .i64 e3,.int .i64 e4] 98)):=zaa w _;generalize hW:(w.alloc (.cells #[.int .i64 5,.slice (some ⟨g,0,none⟩) 2 c,.int .i64 fr,.int .i64 e1,.int .i64 e2,.int .i64 e3,.int .i64 e4] 98))=W at *;have s0:w.heap.size<W.heap.size:=by rw[←hW];simp
 have s1:g<W.heap.size:=by omega
 have c1:W.cell? ⟨w.heap.size,1,none⟩=some (.slice (some ⟨g,0,none⟩) 2 c):=by rw[←hW];simp
 have z0:W.cell? ⟨g,0,none⟩=some (.int .i64 k):=(bb0.cell (p:=⟨g,0,none⟩) hgs).trans hu0;have z1:W.cell? ⟨g,1,none⟩=some (.slice p n m):=(bb0.cell (p:=⟨g,1,none⟩) hgs).trans hu1;have z2:W.cell? ⟨g,2,none⟩=some (.int .i64 r):=(bb0.cell (p:=⟨g,2,none⟩) hgs).trans hu2;have z3:W.cell? ⟨g,3,none⟩=some (.int .i64 a1):=(bb0.cell (p:=⟨g,3,none⟩) hgs).trans hu3;have z4:W.cell? ⟨g,4,none⟩=some (.int .i64 a2):=(bb0.cell (p:=⟨g,4,none⟩) hgs).trans hu4;have z5:W.cell? ⟨g,5,none⟩=some (.int .i64 a3):=(bb0.cell (p:=⟨g,5,none⟩) hgs).trans hu5;have z6:W.cell? ⟨g,6,none⟩=some (.int .i64 a4):=(bb0.cell (p:=⟨g,6,none⟩) hgs).trans hu6;have z7:W.cell? ⟨g,7,none⟩=some (.int .i64 k'):=(bb0.cell (p:=⟨g,7,none⟩) hgs).trans hv0;have z8:W.cell? ⟨g,8,none⟩=some (.slice p' n' m'):=(bb0.cell (p:=⟨g,8,none⟩) hgs).trans hv1;have z9:W.cell? ⟨g,9,none⟩=some (.int .i64 r'):=(bb0.cell (p:=⟨g,9,none⟩) hgs).trans hv2;have z10:W.cell? ⟨g,10,none⟩=some (.int .i64 b1):=(bb0.cell (p:=⟨g,10,none⟩) hgs).trans hv3;have z11:W.cell? ⟨g,11,none⟩=some (.int .i64 b2):=(bb0.cell (p:=⟨g,11,none⟩) hgs).trans hv4;have z12:W.cell? ⟨g,12,none⟩=some (.int .i64 b3):=(bb0.cell (p:=⟨g,12,none⟩) hgs).trans hv5;have z13:W.cell? ⟨g,13,none⟩=some (.int .i64 b4):=(bb0.cell (p:=⟨g,13,none⟩) hgs).trans hv6;have bb1:Below w.heap.size w W.drew:=bb0.drew;have T0:TwP w W.drew w.heap.size g c k p n m r a1 a2 a3 a4 k' p' n' m' r' b1 b2 b3 b4:=⟨bb1,s0,c1,s1,z0,z1,z2,z3,z4,z5,z6,z7,z8,z9,z10,z11,z12,z13⟩;clear hW hu0 hu1 hu2 hu3 hu4 hu5 hu6 hv0 hv1 hv2 hv3 hv4 hv5 hv6;go_region_held3 (fun w'=>Below w.heap.size w w'∧w.heap.size<w'.heap.size∧w'.cell? ⟨w.heap.size,1,none⟩=some (.slice (some ⟨g,0,none⟩) 2 c)∧g<w'.heap.size∧w'.cell? ⟨g,0,none⟩=some (.int .i64 k)∧w'.cell? ⟨g,1,none⟩=some (.slice p n m)∧w'.cell? ⟨g,2,none⟩=some (.int .i64 r)∧w'.cell? ⟨g,3,none⟩=some (.int .i64 a1)∧w'.cell? ⟨g,4,none⟩=some (.int .i64 a2)∧w'.cell? ⟨g,5,none⟩=some (.int .i64 a3)∧w'.cell? ⟨g,6,none⟩=some (.int .i64 a4)∧w'.cell? ⟨g,7,none⟩=some (.int .i64 k')∧w'.cell? ⟨g,8,none⟩=some (.slice p' n' m')∧w'.cell? ⟨g,9,none⟩=some (.int .i64 r')∧w'.cell? ⟨g,10,none⟩=some (.int .i64 b1)∧w'.cell? ⟨g,11,none⟩=some (.int .i64 b2)∧w'.cell? ⟨g,12,none⟩=some (.int .i64 b3)∧w'.cell? ⟨g,13,none⟩=some (.int .i64 b4)) (first|(refine⟨?_,?_,?_,?_,?_,?_,?_,?_,?_,?_,?_,?_,?_,?_,?_,?_,?_,?_⟩<;>assumption)|exact(T2.on (zaa _ _))) (first|(go_at_call 94;refine Calls.mono (CO.out _ _ _ (zay _ _ _ Y Z 75 hc1' hc2')) ?_;rintro e w4 ⟨v4,rfl,hc4,hb4⟩;have T3:=(T2.on (zaa _ _)).on hb4;obtain⟨t0,t1,t2,t3,t4,t5,t6,t7,t8,t9,t10,t11,t12,t13,t14,t15,t16,t17⟩:=id T3)|(go_at_call 92;first|(have hh:=T1;refine Calls.mono (HC2.out _ T1.1) ?_;rintro e w3 ⟨v2,rfl,hc2',hb3⟩;obtain⟨xa2,xc2,rfl⟩:=hc2'.shape;have T2:=T1.on hb3;have hc1':=hc1''.below hb3;clear hh;obtain⟨t0,t1,t2,t3,t4,t5,t6,t7,t8,t9,t10,t11,t12,t13,t14,t15,t16,t17⟩:=id T2)|(refine Calls.mono (HC1.out _ T0.1) ?_;rintro e w3 ⟨v1,rfl,hc1'',hb3⟩;obtain⟨xa1,xc1,rfl⟩:=hc1''.shape;have T1:=T0.on hb3;obtain⟨t0,t1,t2,t3,t4,t5,t6,t7,t8,t9,t10,t11,t12,t13,t14,t15,t16,t17⟩:=id T1)));go_wp2_with fail;go_ret;exact⟨_,rfl,hc4,t0⟩
theorem zaI {P:Nat→Prop}:∀(f:Fm) (cs:List Value) (w:World),IsF w P f cs→fOk f→(fsy f).length≤50000 →
 Calls Tryz.prog 92 #[.agg cs.toArray] w fun e w'=>∃v,e=.returned v∧CondR w' v (fsy f)∧Below w.heap.size w w'
 | .tt,cs,w,⟨p,n,c,r,a1,a2,a3,a4,e⟩,_,_=>by subst e;exact zeL 0 (Or.inl rfl) p n c r a1 a2 a3 a4 w
 | .ff,cs,w,⟨p,n,c,r,a1,a2,a3,a4,e⟩,_,_=>by subst e;exact zeL 1 (Or.inr rfl) p n c r a1 a2 a3 a4 w
 | .cmp r a b,cs,w,⟨p,n,c,e⟩,ho,_=>by subst e;exact zjq p n c r a.1 a.2 b.1 b.2 w ⟨ho.1,ho.2.1⟩ ho.2.2.1 ho.2.2.2
 | .no f,cs,w,⟨g,c,r,a1,a2,a3,a4,u,e,h1,h2,h3,h4,h5,h6⟩,ho,hl=>by
  subst e;obtain⟨k,p,n,m,r',b1,b2,b3,b4,eu⟩:=h6.shape;subst eu;obtain⟨z0,z1,z2,z3,z4,z5,z6⟩:=range7 h5;have hl':(fsy f).length+1≤50000:=hl;exact zkS g c r a1 a2 a3 a4 k p n m r' b1 b2 b3 b4 (fsy f) w h2 ⟨h3,h4⟩ z0 z1 z2 z3 z4 z5 z6 (by omega) (fun X hX=>zaI f _ X (h6.same (zac hX)) ho (by omega))
 | .and f h,cs,w,⟨g,c,r,a1,a2,a3,a4,u1,u2,e,h1,h2,h3,h4,h5,h6,h7,h8⟩,ho,hl=>by
  subst e;obtain⟨k,p,n,m,r',b1,b2,b3,b4,eu⟩:=h7.shape;subst eu;obtain⟨k',p',n',m',r'',d1,d2,d3,d4,eu⟩:=h8.shape;subst eu;obtain⟨z0,z1,z2,z3,z4,z5,z6⟩:=range7 h5;obtain⟨y0,y1,y2,y3,y4,y5,y6⟩:=range7 h6;have hl':(fsy f++fsy h).length+1≤50000:=hl;rw[List.length_append] at hl';exact zjr g c r a1 a2 a3 a4 k p n m r' b1 b2 b3 b4 k' p' n' m' r'' d1 d2 d3 d4 (fsy f) (fsy h) w h2 ⟨h3,h4⟩ z0 z1 z2 z3 z4 z5 z6 y0 y1 y2 y3 y4 y5 y6 (by omega) (fun X hX=>zaI f _ X (h7.same (zac hX)) ho.1 (by omega)) (fun X hX=>zaI h _ X (h8.same (zac hX)) ho.2 (by omega))
 | .or f h,cs,w,⟨g,c,r,a1,a2,a3,a4,u1,u2,e,h1,h2,h3,h4,h5,h6,h7,h8⟩,ho,hl=>by
  subst e;obtain⟨k,p,n,m,r',b1,b2,b3,b4,eu⟩:=h7.shape;subst eu;obtain⟨k',p',n',m',r'',d1,d2,d3,d4,eu⟩:=h8.shape;subst eu;obtain⟨z0,z1,z2,z3,z4,z5,z6⟩:=range7 h5;obtain⟨y0,y1,y2,y3,y4,y5,y6⟩:=range7 h6;have hl':(fsy f++fsy h).length+1≤50000:=hl;rw[List.length_append] at hl';exact zkT g c r a1 a2 a3 a4 k p n m r' b1 b2 b3 b4 k' p' n' m' r'' d1 d2 d3 d4 (fsy f) (fsy h) w h2 ⟨h3,h4⟩ z0 z1 z2 z3 z4 z5 z6 y0 y1 y2 y3 y4 y5 y6 (by omega) (fun X hX=>zaI f _ X (h7.same (zac hX)) ho.1 (by omega)) (fun X hX=>zaI h _ X (h8.same (zac hX)) ho.2 (by omega))
end Go.Proofs.YtkinoehmcfhgbaaGreatDoor.Vl
