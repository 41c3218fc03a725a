/- A part of the proof. -/
import Derived.Test.YtkinoehmcfhgbaaGreatDoorQ9
import Derived.Test.YtkinoehmcfhgbaaGreatDoorM2
set_option linter.unusedVariables false
set_option linter.unusedSimpArgs false
set_option maxRecDepth 100000
set_option maxHeartbeats 2000000
namespace Go.Proofs.YtkinoehmcfhgbaaGreatDoor.Av
open Go.RowKit
variable {toks:List (List UInt8×Nat)}
theorem Rd.det {t:Tg} {k k1:Nat} {f:Fm} (h:Rd toks t k f k1):∀{g:Fm} {k2:Nat},Rd toks t k g k2→f=g∧k1=k2:=by
 induction h with
 | tru e =>
  intro g k2 h2;cases h2 with
  | tru _=>exact⟨rfl,rfl⟩
  | fls e'=>rw[e] at e';exact absurd e' (by decide)
  | no e' _=>rw[e] at e';exact absurd e' (by decide)
  | par e' _=>rw[e] at e';exact absurd e' (by decide)
  | cmp e1 e2 e3 e4=>exact absurd e e1
 | fls e =>
  intro g k2 h2;cases h2 with
  | tru e'=>rw[e] at e';exact absurd e' (by decide)
  | fls e'=>exact⟨rfl,rfl⟩
  | no e' _=>rw[e] at e';exact absurd e' (by decide)
  | par e' _=>rw[e] at e';exact absurd e' (by decide)
  | cmp e1 e2 e3 e4=>exact absurd e e2
 | no e _ ih =>
  intro g k2 h2;cases h2 with
  | tru e'=>rw[e] at e';exact absurd e' (by decide)
  | fls e'=>rw[e] at e';exact absurd e' (by decide)
  | no e' h'=>obtain⟨rfl,rfl⟩:=ih h';exact⟨rfl,rfl⟩
  | par e' _=>rw[e] at e';exact absurd e' (by decide)
  | cmp e1 e2 e3 e4=>exact absurd e e3
 | par e _ ih =>
  intro g k2 h2;cases h2 with
  | tru e'=>rw[e] at e';exact absurd e' (by decide)
  | fls e'=>rw[e] at e';exact absurd e' (by decide)
  | no e' h'=>rw[e] at e';exact absurd e' (by decide)
  | par e' h'=>obtain⟨rfl,rfl⟩:=ih h';exact⟨rfl,rfl⟩
  | cmp e1 e2 e3 e4=>exact absurd e e4
 | cmp d1 d2 d3 d4 =>
  intro g k2 h2;cases h2 with
  | tru e'=>exact absurd e' d1
  | fls e'=>exact absurd e' d2
  | no e' h'=>exact absurd e' d3
  | par e' h'=>exact absurd e' d4
  | cmp e1 e2 e3 e4=>exact⟨rfl,rfl⟩
 | part _ _ i1 i2 =>
  intro g k2 h2;cases h2 with
  | part a b =>
   obtain⟨rfl,rfl⟩:=i1 a;exact i2 b
 | partS e _ _ i1 i2 =>
  intro g k2 h2;cases h2 with
  | partS e' a b =>
   obtain⟨rfl,rfl⟩:=i1 a;exact i2 b
  | partE e'=>exact absurd e e'
 | partE e =>
  intro g k2 h2;cases h2 with
  | partS e' a b=>exact absurd e' e
  | partE e'=>exact⟨rfl,rfl⟩
 | form _ _ i1 i2 =>
  intro g k2 h2;cases h2 with
  | form a b =>
   obtain⟨rfl,rfl⟩:=i1 a;exact i2 b
 | formS e _ _ i1 i2 =>
  intro g k2 h2;cases h2 with
  | formS e' a b =>
   obtain⟨rfl,rfl⟩:=i1 a;exact i2 b
  | formE e'=>exact absurd e e'
 | formE e =>
  intro g k2 h2;cases h2 with
  | formS e' a b=>exact absurd e' e
  | formE e'=>exact⟨rfl,rfl⟩
theorem ziT:¬0≤vr [115,107,105,112]:=by decide
theorem zmq:¬0≤vr [105,102]:=by decide
theorem zgA:¬0≤vr [119,104,105,108,101]:=by decide
theorem Rc.det {t:Bool} {k k1:Nat} {c:Cm} (h:Rc toks t k c k1):∀{d:Cm} {k2:Nat},Rc toks t k d k2→c=d∧k1=k2:=by
 induction h with
 | skip e =>
  intro d k2 h2;cases h2 with
  | skip _=>exact⟨rfl,rfl⟩
  | asg e'=>rw[e] at e';exact absurd e' ziT
  | ite e' _ _ _=>rw[e] at e';exact absurd e' (by decide)
  | loop e' _ _ _=>rw[e] at e';exact absurd e' (by decide)
 | asg e =>
  intro d k2 h2;cases h2 with
  | skip e'=>rw[e'] at e;exact absurd e ziT
  | asg e'=>exact⟨rfl,rfl⟩
  | ite e' _ _ _=>rw[e'] at e;exact absurd e zmq
  | loop e' _ _ _=>rw[e'] at e;exact absurd e zgA
 | ite e r1 _ _ i1 i2 =>
  intro d k2 h2;cases h2 with
  | skip e'=>rw[e] at e';exact absurd e' (by decide)
  | asg e'=>rw[e] at e';exact absurd e' zmq
  | ite e' a b c =>
   obtain⟨rfl,rfl⟩:=r1.det a;obtain⟨rfl,rfl⟩:=i1 b;obtain⟨rfl,rfl⟩:=i2 c;exact⟨rfl,rfl⟩
  | loop e' _ _ _=>rw[e] at e';exact absurd e' (by decide)
 | loop e r1 r2 _ i1 =>
  intro d k2 h2;cases h2 with
  | skip e'=>rw[e] at e';exact absurd e' (by decide)
  | asg e'=>rw[e] at e';exact absurd e' zgA
  | ite e' a b c=>rw[e] at e';exact absurd e' (by decide)
  | loop e' a b c =>
   obtain⟨rfl,rfl⟩:=r1.det a;obtain⟨rfl,rfl⟩:=r2.det b;obtain⟨rfl,rfl⟩:=i1 c;exact⟨rfl,rfl⟩
 | one _ e i1 =>
  intro d k2 h2;cases h2 with
  | one a e'=>exact i1 a
  | seq a e' b=>obtain⟨rfl,rfl⟩:=i1 a;exact absurd e' e
 | seq _ e _ i1 i2 =>
  intro d k2 h2;cases h2 with
  | one a e'=>obtain⟨rfl,rfl⟩:=i1 a;exact absurd e e'
  | seq a e' b =>
   obtain⟨rfl,rfl⟩:=i1 a;obtain⟨rfl,rfl⟩:=i2 b;exact⟨rfl,rfl⟩
theorem Rd.cmpE {k k1 k2:Nat} {r a1 a2 b1 b2:Int} (h1:sAt toks k≠[116,114,117,101]) (h2:sAt toks k≠[102,97,108,115,101]) (h3:sAt toks k≠[110,111,116]) (h4:sAt toks k≠[40])
 (e1:trm toks k=(a1,a2,k1)) (e2:rel (sAt toks k1)=r) (e3:trm toks (k1+1)=(b1,b2,k2)):Rd toks .fac k (.cmp r (a1,a2) (b1,b2)) k2:=by
 have h:=Rd.cmp (toks:=toks) h1 h2 h3 h4;rw[e1] at h;dsimp only at h;rw[e2,e3] at h;exact h
theorem Rc.asgE {k k2:Nat} {x a1 a2:Int} (h:0≤x) (e:vr (sAt toks k)=x) (e2:trm toks (k+2)=(a1,a2,k2)):Rc toks false k (.asg x (a1,a2)) k2:=by
 have h':=Rc.asg (toks:=toks) (k:=k) (by rw[e];exact h);rw[e,e2] at h';exact h'
end Go.Proofs.YtkinoehmcfhgbaaGreatDoor.Av
namespace Go.Proofs.YtkinoehmcfhgbaaGreatDoor.Vl
open Go.RowKit
open Av (vr Fm Rd Tg sAt Cm Rc Kp zab want tokAt answer postN post3 zai Row Row.new Row.kpOld Row.far Row.cells row15 Same zac IsF IsC Lst PrR zbS zbe ParseEnd fv zaw)
theorem PR.new (w:World) (fuel x1 x2 x3 x4:Int) (t:TypeId):PR (w.alloc (.cells #[.int .i64 fuel,.int .i64 0,.int .i64 x1,.int .i64 x2,.int .i64 x3,.int .i64 x4,.int .i64 0] t)) w.heap.size fuel {x1:=x1,x2:=x2,x3:=x3,x4:=x4,n:=0,e:=-1}:=by
 refine⟨by simp,?_,?_,?_,?_,?_,?_,?_,fun o=>by simp⟩
 all_goals (rw[World.cell?_alloc_at _ _ _ _ rfl];rfl)
theorem zmr (s:RS):(Value.agg (oV s).toArray)=.agg #[.int .i64 (kn s),.int .i64 s.x1,.int .i64 s.x2,.int .i64 s.x3,.int .i64 s.x4,.int .i64 s.n]:=rfl
theorem zkd {P:Nat→Prop} (c:Cm) (g k m:Nat) (ys:List (List Value)) (x1 x2 x3 x4 fuel:Int) (w:World) (hL:Lst w P g k m ys) (hI:IsC w P c ys) (ho:cOk c) (hg:gds x1 x2 x3 x4=true) (hf:0≤fuel∧fuel≤10000) :
 Calls Tryz.prog 44 #[.slice (some ⟨g,0,none⟩) k m,.agg #[.int .i64 x1,.int .i64 x2,.int .i64 x3,.int .i64 x4],.int .i64 fuel] w fun e w'=>e=.returned (.agg (oV (ex fuel c {x1:=x1,x2:=x2,x3:=x3,x4:=x4,n:=0,e:=-1})).toArray)∧Below w.heap.size w w':=by
 have hin:Inv fuel {x1:=x1,x2:=x2,x3:=x3,x4:=x4,n:=0,e:=-1}:=⟨by dsimp only;omega,by dsimp only;omega,hg,by dsimp only;omega,by dsimp only;omega⟩;have CA:Hid (∀X rb,Below w.heap.size w X→w.heap.size≤rb→PR X rb fuel {x1:=x1,x2:=x2,x3:=x3,x4:=x4,n:=0,e:=-1}→Calls Tryz.prog 72 #[.pointer (some ⟨rb,0,none⟩),.slice (some ⟨g,0,none⟩) k m] X fun e w'=>e=.returned (.bool (decide ((ex fuel c {x1:=x1,x2:=x2,x3:=x3,x4:=x4,n:=0,e:=-1}).e<0)))∧PR w' rb fuel (ex fuel c {x1:=x1,x2:=x2,x3:=x3,x4:=x4,n:=0,e:=-1})∧Kp rb X w'):=fun X rb hs hrb hp =>
  zmp (fun g=>g<w.heap.size) rb fuel (by omega) hf.2 (csz c) c X _ g k m ys (Nat.le_refl _) ho ((hL.mono (fun g _ h=>h)).same (zac hs)) ((hI.mono (fun g _ h=>h)).same (zac hs)) hp hin (by show(-1:Int)<0;decide)
 rw[zmr];clear hL hI hin hg;generalize ex fuel c {x1:=x1,x2:=x2,x3:=x3,x4:=x4,n:=0,e:=-1}=E at *;have HR0:Hid (Row ((w.alloc (.cells #[.int .i64 x1,.int .i64 x2,.int .i64 x3,.int .i64 x4] 36)).alloc (.cells zZg 41)) (w.heap.size+1) 6):=by
  have:=row6 (w.alloc (.cells #[.int .i64 x1,.int .i64 x2,.int .i64 x3,.int .i64 x4] 36));rw[show(w.alloc (.cells #[.int .i64 x1,.int .i64 x2,.int .i64 x3,.int .i64 x4] 36)).heap.size=w.heap.size+1 by simp] at this;exact this
 have HW:Hid (Below w.heap.size w (((w.alloc (.cells #[.int .i64 x1,.int .i64 x2,.int .i64 x3,.int .i64 x4] 36)).alloc (.cells zZg 41)).alloc (.cells #[.int .i64 fuel,.int .i64 0,.int .i64 x1,.int .i64 x2,.int .i64 x3,.int .i64 x4,.int .i64 0] 151))∧Row (((w.alloc (.cells #[.int .i64 x1,.int .i64 x2,.int .i64 x3,.int .i64 x4] 36)).alloc (.cells zZg 41)).alloc (.cells #[.int .i64 fuel,.int .i64 0,.int .i64 x1,.int .i64 x2,.int .i64 x3,.int .i64 x4,.int .i64 0] 151)) (w.heap.size+1) 6∧PR (((w.alloc (.cells #[.int .i64 x1,.int .i64 x2,.int .i64 x3,.int .i64 x4] 36)).alloc (.cells zZg 41)).alloc (.cells #[.int .i64 fuel,.int .i64 0,.int .i64 x1,.int .i64 x2,.int .i64 x3,.int .i64 x4,.int .i64 0] 151)) (w.heap.size+1+1) fuel {x1:=x1,x2:=x2,x3:=x3,x4:=x4,n:=0,e:=-1}):=by
  refine⟨((zaa w _).alloc (by simp) _).alloc (by simp;omega) _,HR0.out.alloc (by simp) _,?_⟩;have:=PR.new ((w.alloc (.cells #[.int .i64 x1,.int .i64 x2,.int .i64 x3,.int .i64 x4] 36)).alloc (.cells zZg 41)) fuel x1 x2 x3 x4 151;rw[show((w.alloc (.cells #[.int .i64 x1,.int .i64 x2,.int .i64 x3,.int .i64 x4] 36)).alloc (.cells zZg 41)).heap.size=w.heap.size+1+1 by simp] at this;exact this
 go_enter Tryz.func44,Tryz.ntmps44;go_wp2_with fail;generalize (((w.alloc (.cells #[.int .i64 x1,.int .i64 x2,.int .i64 x3,.int .i64 x4] 36)).alloc (.cells zZg 41)).alloc (.cells #[.int .i64 fuel,.int .i64 0,.int .i64 x1,.int .i64 x2,.int .i64 x3,.int .i64 x4,.int .i64 0] 151))=W1 at *;obtain⟨hB1,hR1,hP1⟩:=HW.out;refine(CA.out _ _ hB1 (by omega) hP1).mono ?_;rintro e w4 ⟨rfl,A4,K4⟩;have hs1:w.heap.size+1+1<W1.heap.size:=hP1.hb;have HB4:Hid (Below w.heap.size w w4):=Kp.below hB1 K4 (by omega);have HR4:Hid (Row w4 (w.heap.size+1) 6):=hR1.kpOld K4 (by omega) (by omega);have c1:=A4.c1;have c2:=A4.c2;have c3:=A4.c3;have c4:=A4.c4;have c5:=A4.c5;have c6:=A4.c6;have hs4:w.heap.size+1+1<w4.heap.size:=A4.hb;clear A4 K4 hB1 hR1 hP1 HW HR0 CA;obtain⟨⟨u0,z0⟩,f0⟩:=HR4.out.cell 0 (by omega);obtain⟨⟨u1,z1⟩,f1⟩:=HR4.out.cell 1 (by omega);obtain⟨⟨u2,z2⟩,f2⟩:=HR4.out.cell 2 (by omega);obtain⟨⟨u3,z3⟩,f3⟩:=HR4.out.cell 3 (by omega);obtain⟨⟨u4,z4⟩,f4⟩:=HR4.out.cell 4 (by omega);obtain⟨⟨u5,z5⟩,f5⟩:=HR4.out.cell 5 (by omega);generalize hK:kn E=K at *;go_wp2_with fail;exact postN (X:=w4) (B:=w.heap.size+1) [.int .i64 K,.int .i64 E.x1,.int .i64 E.x2,.int .i64 E.x3,.int .i64 E.x4,.int .i64 E.n] Tryz.results44 rfl Tryz.underlying41 rfl Tryz.infoOut HR4.out rfl ⟨by rw[hK],zai (by omega) _ _ _ HB4.out⟩
open Av (vr Fm Rd Tg sAt Cm Rc Kp zab want tokAt answer postN post3 zai Row Row.new Row.kpOld Row.far Row.cells row15 Same zac IsF IsC Lst PrR zbS zbe ParseEnd fv zaw σ0)
def FAt (X:World) (P:Nat→Prop) (B o:Nat) (f:Fm):Prop:=∃(k:Int) (a:Option Addr) (n m:Nat) (r a1 a2 a3 a4:Int),IsF X P f (fv k a n m r a1 a2 a3 a4)∧X.cell? ⟨B,o,none⟩=some (.int .i64 k)∧X.cell? ⟨B,o+1,none⟩=some (.slice a n m)∧X.cell? ⟨B,o+2,none⟩=some (.int .i64 r)∧X.cell? ⟨B,o+3,none⟩=some (.int .i64 a1)∧X.cell? ⟨B,o+4,none⟩=some (.int .i64 a2)∧X.cell? ⟨B,o+5,none⟩=some (.int .i64 a3)∧X.cell? ⟨B,o+6,none⟩=some (.int .i64 a4)
def Lies (toks:List (List UInt8×Nat)) (X:World) (P:Nat→Prop) (B:Nat):Prop:=∃p c q,Prg toks p c q∧cOk c∧fOk p∧fOk q∧(∃g n m ys,X.cell? ⟨B,7,none⟩=some (.slice (some ⟨g,0,none⟩) n m)∧Lst X P g n m ys∧IsC X P c ys)∧FAt X P B 0 p∧FAt X P B 8 q
theorem zlB {toks:List (List UInt8×Nat)} {P:Nat→Prop} {w1 X:World} {cs:Array Value} {B:Nat} (h:PrR toks 0 P w1 (.agg cs) σ0) (hb:Below w1.heap.size w1 X) (hr:X.rangeAt B 0 cs.toList):Lies toks X P B:=by
 obtain⟨p,c,q,y,k1,k2,k3,hv,hl,r1,r2,r3,hk,hp,⟨g,n,m,ys,h7,hL,hI⟩,hq⟩:=h;have ey:cs.toList=y:=by
  have:cs=y.toArray:=by injection hv
  rw[this]
 rw[ey] at hr;have sm:Same P w1 X:=zac hb;refine⟨p,c,q,⟨k1,k2,k3,r1,r2,r3,hk⟩,zmn r2,zbQ r1 (fun g h=>by cases h),zbQ r3 (fun g h=>by cases h),⟨g,n,m,ys,?_,hL.same sm,hI.same sm⟩,?_,?_⟩
 ·have:=hr 7 _ h7
  rwa [Nat.zero_add] at this
 ·obtain⟨k,a,n,m,r,a1,a2,a3,a4,e⟩:=hp.shape;have:=zaC hr e;simp only[Nat.zero_add] at this;rw[e] at hp;exact⟨k,a,n,m,r,a1,a2,a3,a4,hp.same sm,this⟩
 ·obtain⟨k,a,n,m,r,a1,a2,a3,a4,e⟩:=hq.shape;have:=zaC hr e;simp only[Nat.zero_add] at this;rw[e] at hq;exact⟨k,a,n,m,r,a1,a2,a3,a4,hq.same sm,this⟩
theorem Lies.on {toks:List (List UInt8×Nat)} {X Y:World} {P:Nat→Prop} {B:Nat} (h:Lies toks X P B) (hb:Below X.heap.size X Y) (hB:B<X.heap.size):Lies toks Y P B:=by
 obtain⟨p,c,q,h1,h2,h3,h4,⟨g,n,m,ys,h7,hL,hI⟩,⟨k,a,n',m',r,a1,a2,a3,a4,f0,f1,f2,f3,f4,f5,f6,f7⟩,⟨k',a',n'',m'',r',b1,b2,b3,b4,g0,g1,g2,g3,g4,g5,g6,g7⟩⟩:=h;have sm:Same P X Y:=zac hb;have cc:∀o,Y.cell? ⟨B,o,none⟩=X.cell? ⟨B,o,none⟩:=fun o=>hb.cell (p:=⟨B,o,none⟩) hB
 exact⟨p,c,q,h1,h2,h3,h4,⟨g,n,m,ys,(cc _).trans h7,hL.same sm,hI.same sm⟩,⟨k,a,n',m',r,a1,a2,a3,a4,f0.same sm,(cc _).trans f1,(cc _).trans f2,(cc _).trans f3,(cc _).trans f4,(cc _).trans f5,(cc _).trans f6,(cc _).trans f7⟩,⟨k',a',n'',m'',r',b1,b2,b3,b4,g0.same sm,(cc _).trans g1,(cc _).trans g2,(cc _).trans g3,(cc _).trans g4,(cc _).trans g5,(cc _).trans g6,(cc _).trans g7⟩⟩
theorem Prg.det {toks:List (List UInt8×Nat)} {p q p' q':Fm} {c c':Cm} (h:Prg toks p c q) (h':Prg toks p' c' q'):p=p'∧c=c'∧q=q':=by
 obtain⟨k1,k2,k3,r1,r2,r3,_⟩:=h;obtain⟨j1,j2,j3,s1,s2,s3,_⟩:=h';obtain⟨rfl,rfl⟩:=r1.det s1;obtain⟨rfl,rfl⟩:=r2.det s2;obtain⟨rfl,rfl⟩:=r3.det s3;exact⟨rfl,rfl,rfl⟩
def pck (c n:Int):Int:=(if c<0 then -(c+1) else c).tmod n
theorem zaA (c n:Int) (hn:0<n):0≤pck c n∧pck c n<n:=by
 unfold pck;split
 ·exact⟨Int.tmod_nonneg _ (by omega),Int.tmod_lt_of_pos _ hn⟩
 ·exact⟨Int.tmod_nonneg _ (by omega),Int.tmod_lt_of_pos _ hn⟩
theorem zez (c n:Int) (h0:-9223372036854775808≤c) (h1:c≤9223372036854775807) (hn:0<n) (w:World) :
 Calls Tryz.prog 26 #[.int .i64 c,.int .i64 n] w fun e w'=>e=.returned (.int .i64 (pck c n))∧w=w':=by
 have hn0:(n==0)=false:=beq_eq_false_iff_ne.2 (by omega);have hr:=zaA c n hn;by_cases hc:c<0
 ·have w1:IntKind.i64.wrap (c+1)=c+1:=IntWalk.i64_in _ (by omega);have w2:IntKind.i64.wrap (-(c+1))=-(c+1):=IntWalk.i64_in _ (by omega);have HP:Hid (pck c n=-(c+1).tmod n):=by show _=_;unfold pck;rw[if_pos hc,Int.neg_tmod]
  have HNN:Hid (0<n):=hn;clear hr;go_enter Tryz.func26,Tryz.ntmps26;go_wp2;go_ret;exact⟨by rw[HP.out];rfl,rfl⟩
 ·have HP:Hid (pck c n=c%n):=by show _=_;unfold pck;rw[if_neg hc,Int.tmod_eq_emod_of_nonneg (by omega)]
  clear hr;go_enter Tryz.func26,Tryz.ntmps26;go_wp2;go_ret;exact⟨by rw[HP.out];rfl,rfl⟩
theorem loadS (X:World) (B:Nat) (c0 c1 c2 c3:Value) (h0:X.cell? ⟨B,0,none⟩=some c0) (h1:X.cell? ⟨B,1,none⟩=some c1) (h2:X.cell? ⟨B,2,none⟩=some c2) (h3:X.cell? ⟨B,3,none⟩=some c3):(loadVar 36 ⟨B,0,none⟩).run Tryz.prog X=.ok (.agg #[c0,c1,c2,c3]) X :=
 run_loadVar_mid _ _ 0 36 [c0,c1,c2,c3] _ (by
  intro j v hv
  match j,hv with
  | 0,hv=>cases hv;exact h0
  | 1,hv=>cases hv;exact h1
  | 2,hv=>cases hv;exact h2
  | 3,hv=>cases hv;exact h3) Tryz.underlying36 rfl (by kernel_rfl)
theorem zd2 {fn:Func} {tmps:Array Value} {w:World} {k:Nat} {t:TypeId} {a:Addr} {v:Value} (hf:fn.results=#[.cell k t]) (ht:tmps.getD k undef=.pointer (some a)) (hl:(loadVar t a).run Tryz.prog w=.ok v w):(results fn tmps).run Tryz.prog w=.ok v w:=by
 have ht':(tmps[k]?.getD undef)=.pointer (some a):=by simpa using ht
 simp[results,hf,ht',hl,asAddr]
theorem zms {z0 z1 z2 z3:Int} (h0:-1000000000≤z0∧z0≤1000000000) (h1:-1000000000≤z1∧z1≤1000000000) (h2:-1000000000≤z2∧z2≤1000000000) (h3:-1000000000≤z3∧z3≤1000000000):gds z0 z1 z2 z3=true:=by
 simp only[gds,gd,Bool.and_eq_true,decide_eq_true_eq];omega
theorem ziU (x1 x2 x3 x4:Int) (hx:∀x∈[x1,x2,x3,x4],-9223372036854775808≤x∧x≤9223372036854775807) (w:World) :
 Calls Tryz.prog 18 #[.agg #[.int .i64 x1,.int .i64 x2,.int .i64 x3,.int .i64 x4]] w fun e w'=>∃y1 y2 y3 y4,e=.returned (.agg #[.int .i64 y1,.int .i64 y2,.int .i64 y3,.int .i64 y4])∧gds y1 y2 y3 y4=true∧Below w.heap.size w w':=by
 have CP:Hid (∀(c n:Int) (w:World),-9223372036854775808≤c→c≤9223372036854775807→0<n→Calls Tryz.prog 26 #[.int .i64 c,.int .i64 n] w fun e w'=>e=.returned (.int .i64 (pck c n))∧w=w'):=fun c n w a b d=>zez c n a b d w
 have b1:=hx x1 (by simp);have b2:=hx x2 (by simp);have b3:=hx x3 (by simp);have b4:=hx x4 (by simp);have HX:Hid _:=hx;clear hx;go_enter Tryz.func18,Tryz.ntmps18;go_wp2_with fail;have hW:Below w.heap.size w (((w.alloc (.cells #[.int .i64 x1,.int .i64 x2,.int .i64 x3,.int .i64 x4] 36)).alloc (.cells zZa 36)).alloc (.cells zZa 36)):=((zaa w _).alloc (by simp) _).alloc (by simp;omega) _;have hS0:(((w.alloc (.cells #[.int .i64 x1,.int .i64 x2,.int .i64 x3,.int .i64 x4] 36)).alloc (.cells zZa 36)).alloc (.cells zZa 36)).heap[w.heap.size]?=some (.cells #[.int .i64 x1,.int .i64 x2,.int .i64 x3,.int .i64 x4] 36 (0,0)):=(Below.heap_alloc _ _ _ (by simp;omega)).trans ((Below.heap_alloc _ _ _ (by simp)).trans (heap_alloc_new _ _));have hS1:(((w.alloc (.cells #[.int .i64 x1,.int .i64 x2,.int .i64 x3,.int .i64 x4] 36)).alloc (.cells zZa 36)).alloc (.cells zZa 36)).heap[w.heap.size+1]?=some (.cells zZa 36 (0,0)):=(Below.heap_alloc _ _ _ (by simp)).trans (by have:=heap_alloc_new (w.alloc (.cells #[.int .i64 x1,.int .i64 x2,.int .i64 x3,.int .i64 x4] 36)) (.cells zZa 36);rwa [World.size_alloc] at this);have hS2:(((w.alloc (.cells #[.int .i64 x1,.int .i64 x2,.int .i64 x3,.int .i64 x4] 36)).alloc (.cells zZa 36)).alloc (.cells zZa 36)).heap[w.heap.size+2]?=some (.cells zZa 36 (0,0)):=by have:=heap_alloc_new ((w.alloc (.cells #[.int .i64 x1,.int .i64 x2,.int .i64 x3,.int .i64 x4] 36)).alloc (.cells zZa 36)) (.cells zZa 36);rwa [World.size_alloc,World.size_alloc] at this
 generalize (((w.alloc (.cells #[.int .i64 x1,.int .i64 x2,.int .i64 x3,.int .i64 x4] 36)).alloc (.cells zZa 36)).alloc (.cells zZa 36))=W0 at *;have HS:Hid _:=(⟨hS0,hS1,hS2,hW⟩:_∧_∧_∧_);clear hS0 hS1 hS2 hW
 go_loopw [4] (fun s4 wr=>∃(i:Nat) (z0 z1 z2 z3:Int),s4=.int .i64 (i:Int)∧i≤4∧(-1000000000≤z0∧z0≤1000000000)∧(-1000000000≤z1∧z1≤1000000000)∧(-1000000000≤z2∧z2≤1000000000)∧(-1000000000≤z3∧z3≤1000000000)∧wr.heap[w.heap.size]?=some (.cells #[.int .i64 x1,.int .i64 x2,.int .i64 x3,.int .i64 x4] 36 (0,0))∧wr.heap[w.heap.size+1]?=some (.cells zZa 36 (0,0))∧wr.heap[w.heap.size+2]?=some (.cells #[.int .i64 z0,.int .i64 z1,.int .i64 z2,.int .i64 z3] 36 (0,0))∧Below w.heap.size w wr) (fun s4 _=>4-(intOf s4).toNat)
 case atStart=>exact⟨0,0,0,0,0,rfl,by omega,by omega,by omega,by omega,by omega,HS.out.1,HS.out.2.1,HS.out.2.2.1,HS.out.2.2.2⟩
 case round =>
  obtain⟨i,z0,z1,z2,z3,rfl,hi,g0,g1,g2,g3,hA,hR,hO,hb⟩:=hrel;have HA:Hid _:=hA;have HR:Hid _:=hR;have HO:Hid _:=hO;have HB:Hid (Below w.heap.size w wr):=hb;have fO:∀j,wr.frozen? ⟨w.heap.size+2,j,none⟩=false:=fun j=>Lib.frozen_of_heap hO j
  have fR:∀j,wr.frozen? ⟨w.heap.size+1,j,none⟩=false:=fun j=>Lib.frozen_of_heap hR j
  by_cases hlt:i<4
  ·have hc:i=0∨i=1∨i=2∨i=3:=by omega
   rcases hc with rfl|rfl|rfl|rfl
   ·have a0:wr.cell? ⟨w.heap.size,0,none⟩=some (.int .i64 x1):=by have:=Lib.cell_of_heap hA 0;simpa using this
    have o0:wr.cell? ⟨w.heap.size+2,0,none⟩=some (.int .i64 z0):=by have:=Lib.cell_of_heap hO 0;simpa using this
    have f0:=fO 0;have p1:=zaA x1 20 (by omega);have p2:=zaA x1 2000000001 (by omega);have C1:Hid _:=fun(X:World)=>CP.out x1 20 X b1.1 b1.2 (by omega)
    have C2:Hid _:=fun(X:World)=>CP.out x1 2000000001 X b1.1 b1.2 (by omega)
    have hne:¬w.heap.size=w.heap.size+2:=by omega
    have HO1:Hid ((wr.setCell ⟨w.heap.size+2,0,none⟩ (.int .i64 (pck x1 20-6))).heap[w.heap.size+2]?=some (.cells #[.int .i64 (pck x1 20-6),.int .i64 z1,.int .i64 z2,.int .i64 z3] 36 (0,0))):=heap_setCell_same wr (w.heap.size+2) 0 _ _ _ hO;have HB1:Hid (Below w.heap.size w (wr.setCell ⟨w.heap.size+2,0,none⟩ (.int .i64 (pck x1 20-6)))):=hb.setCell (p:=⟨w.heap.size+2,0,none⟩) (by dsimp only;omega) _;have HA1:Hid ((wr.setCell ⟨w.heap.size+2,0,none⟩ (.int .i64 (pck x1 20-6))).heap[w.heap.size]?=some (.cells #[.int .i64 x1,.int .i64 x2,.int .i64 x3,.int .i64 x4] 36 (0,0))):=(Below.heap_setCell wr ⟨w.heap.size+2,0,none⟩ _ _ (by dsimp only;omega)).trans hA;have HR1:Hid ((wr.setCell ⟨w.heap.size+2,0,none⟩ (.int .i64 (pck x1 20-6))).heap[w.heap.size+1]?=some (.cells zZa 36 (0,0))):=(Below.heap_setCell wr ⟨w.heap.size+2,0,none⟩ _ _ (by dsimp only;omega)).trans hR;have hr1:(wr.setCell ⟨w.heap.size+2,0,none⟩ (.int .i64 (pck x1 20-6))).cell? ⟨w.heap.size,0,none⟩=some (.int .i64 x1):=by have:=Lib.cell_of_heap HA1.out 0;simpa using this
    clear hA hR hO fO fR hb;generalize pck x1 20=P1 at *;generalize pck x1 2000000001=P2 at *;by_cases hbig:1000000<x1∨x1 < -1000000
    ·go_wp2_with (first
      | (go_at_call_of 26 (Value.int IntKind.i64 20);refine(C1.out _).mono ?_;rintro e w' ⟨rfl,rfl⟩)
      | (go_at_call_of 26 (Value.int IntKind.i64 2000000001);refine(C2.out _).mono ?_;rintro e w' ⟨rfl,rfl⟩))
     all_goals exact⟨⟨1,(P2-1000000000),z1,z2,z3,rfl,by omega,by omega,g1,g2,g3,(Below.heap_setCell _ ⟨w.heap.size+2,0,none⟩ _ _ (by dsimp only;omega)).trans HA1.out,(Below.heap_setCell _ ⟨w.heap.size+2,0,none⟩ _ _ (by dsimp only;omega)).trans HR1.out,heap_setCell_same _ (w.heap.size+2) 0 _ _ _ HO1.out,HB1.out.setCell (p:=⟨w.heap.size+2,0,none⟩) (by dsimp only;omega) _⟩,by simp[intOf]⟩
    ·go_wp2_with (first
      | (go_at_call_of 26 (Value.int IntKind.i64 20);refine(C1.out _).mono ?_;rintro e w' ⟨rfl,rfl⟩))
     all_goals exact⟨⟨1,(P1-6),z1,z2,z3,rfl,by omega,by omega,g1,g2,g3,HA1.out,HR1.out,HO1.out,HB1.out⟩,by simp[intOf]⟩
   ·have a0:wr.cell? ⟨w.heap.size,1,none⟩=some (.int .i64 x2):=by have:=Lib.cell_of_heap hA 1;simpa using this
    have o0:wr.cell? ⟨w.heap.size+2,1,none⟩=some (.int .i64 z1):=by have:=Lib.cell_of_heap hO 1;simpa using this
    have f0:=fO 1;have p1:=zaA x2 20 (by omega);have p2:=zaA x2 2000000001 (by omega);have C1:Hid _:=fun(X:World)=>CP.out x2 20 X b2.1 b2.2 (by omega)
    have C2:Hid _:=fun(X:World)=>CP.out x2 2000000001 X b2.1 b2.2 (by omega)
    have hne:¬w.heap.size=w.heap.size+2:=by omega
    have HO1:Hid ((wr.setCell ⟨w.heap.size+2,1,none⟩ (.int .i64 (pck x2 20-6))).heap[w.heap.size+2]?=some (.cells #[.int .i64 z0,.int .i64 (pck x2 20-6),.int .i64 z2,.int .i64 z3] 36 (0,0))):=heap_setCell_same wr (w.heap.size+2) 1 _ _ _ hO;have HB1:Hid (Below w.heap.size w (wr.setCell ⟨w.heap.size+2,1,none⟩ (.int .i64 (pck x2 20-6)))):=hb.setCell (p:=⟨w.heap.size+2,1,none⟩) (by dsimp only;omega) _;have HA1:Hid ((wr.setCell ⟨w.heap.size+2,1,none⟩ (.int .i64 (pck x2 20-6))).heap[w.heap.size]?=some (.cells #[.int .i64 x1,.int .i64 x2,.int .i64 x3,.int .i64 x4] 36 (0,0))):=(Below.heap_setCell wr ⟨w.heap.size+2,1,none⟩ _ _ (by dsimp only;omega)).trans hA;have HR1:Hid ((wr.setCell ⟨w.heap.size+2,1,none⟩ (.int .i64 (pck x2 20-6))).heap[w.heap.size+1]?=some (.cells zZa 36 (0,0))):=(Below.heap_setCell wr ⟨w.heap.size+2,1,none⟩ _ _ (by dsimp only;omega)).trans hR;have hr1:(wr.setCell ⟨w.heap.size+2,1,none⟩ (.int .i64 (pck x2 20-6))).cell? ⟨w.heap.size,1,none⟩=some (.int .i64 x2):=by have:=Lib.cell_of_heap HA1.out 1;simpa using this
    clear hA hR hO fO fR hb;generalize pck x2 20=P1 at *;generalize pck x2 2000000001=P2 at *;by_cases hbig:1000000<x2∨x2 < -1000000
    ·go_wp2_with (first
      | (go_at_call_of 26 (Value.int IntKind.i64 20);refine(C1.out _).mono ?_;rintro e w' ⟨rfl,rfl⟩)
      | (go_at_call_of 26 (Value.int IntKind.i64 2000000001);refine(C2.out _).mono ?_;rintro e w' ⟨rfl,rfl⟩))
     all_goals exact⟨⟨2,z0,(P2-1000000000),z2,z3,rfl,by omega,g0,by omega,g2,g3,(Below.heap_setCell _ ⟨w.heap.size+2,1,none⟩ _ _ (by dsimp only;omega)).trans HA1.out,(Below.heap_setCell _ ⟨w.heap.size+2,1,none⟩ _ _ (by dsimp only;omega)).trans HR1.out,heap_setCell_same _ (w.heap.size+2) 1 _ _ _ HO1.out,HB1.out.setCell (p:=⟨w.heap.size+2,1,none⟩) (by dsimp only;omega) _⟩,by simp[intOf]⟩
    ·go_wp2_with (first
      | (go_at_call_of 26 (Value.int IntKind.i64 20);refine(C1.out _).mono ?_;rintro e w' ⟨rfl,rfl⟩))
     all_goals exact⟨⟨2,z0,(P1-6),z2,z3,rfl,by omega,g0,by omega,g2,g3,HA1.out,HR1.out,HO1.out,HB1.out⟩,by simp[intOf]⟩
   ·have a0:wr.cell? ⟨w.heap.size,2,none⟩=some (.int .i64 x3):=by have:=Lib.cell_of_heap hA 2;simpa using this
    have o0:wr.cell? ⟨w.heap.size+2,2,none⟩=some (.int .i64 z2):=by have:=Lib.cell_of_heap hO 2;simpa using this
    have f0:=fO 2;have p1:=zaA x3 20 (by omega);have p2:=zaA x3 2000000001 (by omega);have C1:Hid _:=fun(X:World)=>CP.out x3 20 X b3.1 b3.2 (by omega)
    have C2:Hid _:=fun(X:World)=>CP.out x3 2000000001 X b3.1 b3.2 (by omega)
    have hne:¬w.heap.size=w.heap.size+2:=by omega
    have HO1:Hid ((wr.setCell ⟨w.heap.size+2,2,none⟩ (.int .i64 (pck x3 20-6))).heap[w.heap.size+2]?=some (.cells #[.int .i64 z0,.int .i64 z1,.int .i64 (pck x3 20-6),.int .i64 z3] 36 (0,0))):=heap_setCell_same wr (w.heap.size+2) 2 _ _ _ hO;have HB1:Hid (Below w.heap.size w (wr.setCell ⟨w.heap.size+2,2,none⟩ (.int .i64 (pck x3 20-6)))):=hb.setCell (p:=⟨w.heap.size+2,2,none⟩) (by dsimp only;omega) _;have HA1:Hid ((wr.setCell ⟨w.heap.size+2,2,none⟩ (.int .i64 (pck x3 20-6))).heap[w.heap.size]?=some (.cells #[.int .i64 x1,.int .i64 x2,.int .i64 x3,.int .i64 x4] 36 (0,0))):=(Below.heap_setCell wr ⟨w.heap.size+2,2,none⟩ _ _ (by dsimp only;omega)).trans hA;have HR1:Hid ((wr.setCell ⟨w.heap.size+2,2,none⟩ (.int .i64 (pck x3 20-6))).heap[w.heap.size+1]?=some (.cells zZa 36 (0,0))):=(Below.heap_setCell wr ⟨w.heap.size+2,2,none⟩ _ _ (by dsimp only;omega)).trans hR;have hr1:(wr.setCell ⟨w.heap.size+2,2,none⟩ (.int .i64 (pck x3 20-6))).cell? ⟨w.heap.size,2,none⟩=some (.int .i64 x3):=by have:=Lib.cell_of_heap HA1.out 2;simpa using this
    clear hA hR hO fO fR hb;generalize pck x3 20=P1 at *;generalize pck x3 2000000001=P2 at *;by_cases hbig:1000000<x3∨x3 < -1000000
    ·go_wp2_with (first
      | (go_at_call_of 26 (Value.int IntKind.i64 20);refine(C1.out _).mono ?_;rintro e w' ⟨rfl,rfl⟩)
      | (go_at_call_of 26 (Value.int IntKind.i64 2000000001);refine(C2.out _).mono ?_;rintro e w' ⟨rfl,rfl⟩))
     all_goals exact⟨⟨3,z0,z1,(P2-1000000000),z3,rfl,by omega,g0,g1,by omega,g3,(Below.heap_setCell _ ⟨w.heap.size+2,2,none⟩ _ _ (by dsimp only;omega)).trans HA1.out,(Below.heap_setCell _ ⟨w.heap.size+2,2,none⟩ _ _ (by dsimp only;omega)).trans HR1.out,heap_setCell_same _ (w.heap.size+2) 2 _ _ _ HO1.out,HB1.out.setCell (p:=⟨w.heap.size+2,2,none⟩) (by dsimp only;omega) _⟩,by simp[intOf]⟩
    ·go_wp2_with (first
      | (go_at_call_of 26 (Value.int IntKind.i64 20);refine(C1.out _).mono ?_;rintro e w' ⟨rfl,rfl⟩))
     all_goals exact⟨⟨3,z0,z1,(P1-6),z3,rfl,by omega,g0,g1,by omega,g3,HA1.out,HR1.out,HO1.out,HB1.out⟩,by simp[intOf]⟩
   ·have a0:wr.cell? ⟨w.heap.size,3,none⟩=some (.int .i64 x4):=by have:=Lib.cell_of_heap hA 3;simpa using this
    have o0:wr.cell? ⟨w.heap.size+2,3,none⟩=some (.int .i64 z3):=by have:=Lib.cell_of_heap hO 3;simpa using this
    have f0:=fO 3;have p1:=zaA x4 20 (by omega);have p2:=zaA x4 2000000001 (by omega);have C1:Hid _:=fun(X:World)=>CP.out x4 20 X b4.1 b4.2 (by omega)
    have C2:Hid _:=fun(X:World)=>CP.out x4 2000000001 X b4.1 b4.2 (by omega)
    have hne:¬w.heap.size=w.heap.size+2:=by omega
    have HO1:Hid ((wr.setCell ⟨w.heap.size+2,3,none⟩ (.int .i64 (pck x4 20-6))).heap[w.heap.size+2]?=some (.cells #[.int .i64 z0,.int .i64 z1,.int .i64 z2,.int .i64 (pck x4 20-6)] 36 (0,0))):=heap_setCell_same wr (w.heap.size+2) 3 _ _ _ hO;have HB1:Hid (Below w.heap.size w (wr.setCell ⟨w.heap.size+2,3,none⟩ (.int .i64 (pck x4 20-6)))):=hb.setCell (p:=⟨w.heap.size+2,3,none⟩) (by dsimp only;omega) _;have HA1:Hid ((wr.setCell ⟨w.heap.size+2,3,none⟩ (.int .i64 (pck x4 20-6))).heap[w.heap.size]?=some (.cells #[.int .i64 x1,.int .i64 x2,.int .i64 x3,.int .i64 x4] 36 (0,0))):=(Below.heap_setCell wr ⟨w.heap.size+2,3,none⟩ _ _ (by dsimp only;omega)).trans hA;have HR1:Hid ((wr.setCell ⟨w.heap.size+2,3,none⟩ (.int .i64 (pck x4 20-6))).heap[w.heap.size+1]?=some (.cells zZa 36 (0,0))):=(Below.heap_setCell wr ⟨w.heap.size+2,3,none⟩ _ _ (by dsimp only;omega)).trans hR;have hr1:(wr.setCell ⟨w.heap.size+2,3,none⟩ (.int .i64 (pck x4 20-6))).cell? ⟨w.heap.size,3,none⟩=some (.int .i64 x4):=by have:=Lib.cell_of_heap HA1.out 3;simpa using this
    clear hA hR hO fO fR hb;generalize pck x4 20=P1 at *;generalize pck x4 2000000001=P2 at *;by_cases hbig:1000000<x4∨x4 < -1000000
    ·go_wp2_with (first
      | (go_at_call_of 26 (Value.int IntKind.i64 20);refine(C1.out _).mono ?_;rintro e w' ⟨rfl,rfl⟩)
      | (go_at_call_of 26 (Value.int IntKind.i64 2000000001);refine(C2.out _).mono ?_;rintro e w' ⟨rfl,rfl⟩))
     all_goals exact⟨⟨4,z0,z1,z2,(P2-1000000000),rfl,by omega,g0,g1,g2,by omega,(Below.heap_setCell _ ⟨w.heap.size+2,3,none⟩ _ _ (by dsimp only;omega)).trans HA1.out,(Below.heap_setCell _ ⟨w.heap.size+2,3,none⟩ _ _ (by dsimp only;omega)).trans HR1.out,heap_setCell_same _ (w.heap.size+2) 3 _ _ _ HO1.out,HB1.out.setCell (p:=⟨w.heap.size+2,3,none⟩) (by dsimp only;omega) _⟩,by simp[intOf]⟩
    ·go_wp2_with (first
      | (go_at_call_of 26 (Value.int IntKind.i64 20);refine(C1.out _).mono ?_;rintro e w' ⟨rfl,rfl⟩))
     all_goals exact⟨⟨4,z0,z1,z2,(P1-6),rfl,by omega,g0,g1,g2,by omega,HA1.out,HR1.out,HO1.out,HB1.out⟩,by simp[intOf]⟩
  ·have hie:i=4:=by omega
   subst hie;have o0:wr.cell? ⟨w.heap.size+2,0,none⟩=some (.int .i64 z0):=by have:=Lib.cell_of_heap hO 0;simpa using this
   have o1:wr.cell? ⟨w.heap.size+2,1,none⟩=some (.int .i64 z1):=by have:=Lib.cell_of_heap hO 1;simpa using this
   have o2:wr.cell? ⟨w.heap.size+2,2,none⟩=some (.int .i64 z2):=by have:=Lib.cell_of_heap hO 2;simpa using this
   have o3:wr.cell? ⟨w.heap.size+2,3,none⟩=some (.int .i64 z3):=by have:=Lib.cell_of_heap hO 3;simpa using this
   have r0:wr.cell? ⟨w.heap.size+1,0,none⟩=some (.int .i64 0):=by have:=Lib.cell_of_heap hR 0;simpa using this
   have r1:wr.cell? ⟨w.heap.size+1,1,none⟩=some (.int .i64 0):=by have:=Lib.cell_of_heap hR 1;simpa using this
   have r2:wr.cell? ⟨w.heap.size+1,2,none⟩=some (.int .i64 0):=by have:=Lib.cell_of_heap hR 2;simpa using this
   have r3:wr.cell? ⟨w.heap.size+1,3,none⟩=some (.int .i64 0):=by have:=Lib.cell_of_heap hR 3;simpa using this
   have q0:=fR 0;have q1:=fR 1;have q2:=fR 2;have q3:=fR 3;clear hA hR hO fO fR;go_wp2_with fail;have hF:((((wr.setCell ⟨w.heap.size+1,0,none⟩ (.int .i64 z0)).setCell ⟨w.heap.size+1,1,none⟩ (.int .i64 z1)).setCell ⟨w.heap.size+1,2,none⟩ (.int .i64 z2)).setCell ⟨w.heap.size+1,3,none⟩ (.int .i64 z3)).heap[w.heap.size+1]?=some (.cells #[.int .i64 z0,.int .i64 z1,.int .i64 z2,.int .i64 z3] 36 (0,0)):=heap_setCell_same _ (w.heap.size+1) 3 _ _ _ (heap_setCell_same _ (w.heap.size+1) 2 _ _ _ (heap_setCell_same _ (w.heap.size+1) 1 _ _ _ (heap_setCell_same wr (w.heap.size+1) 0 _ _ _ HR.out)));refine bodyPost_ret (zd2 rfl rfl (loadS _ (w.heap.size+1) (.int .i64 z0) (.int .i64 z1) (.int .i64 z2) (.int .i64 z3) (by have:=Lib.cell_of_heap hF 0;simpa using this) (by have:=Lib.cell_of_heap hF 1;simpa using this) (by have:=Lib.cell_of_heap hF 2;simpa using this) (by have:=Lib.cell_of_heap hF 3;simpa using this))) rfl ⟨z0,z1,z2,z3,rfl,zms g0 g1 g2 g3,?_⟩;exact(((HB.out.setCell (p:=⟨w.heap.size+1,0,none⟩) (by dsimp only;omega) _).setCell (p:=⟨w.heap.size+1,1,none⟩) (by dsimp only;omega) _).setCell (p:=⟨w.heap.size+1,2,none⟩) (by dsimp only;omega) _).setCell (p:=⟨w.heap.size+1,3,none⟩) (by dsimp only;omega) _
end Go.Proofs.YtkinoehmcfhgbaaGreatDoor.Vl
