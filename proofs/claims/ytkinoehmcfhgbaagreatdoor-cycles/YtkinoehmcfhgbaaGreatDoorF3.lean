/- A part of the proof. -/
import Derived.Test.YtkinoehmcfhgbaaGreatDoorM2
import Derived.Test.YtkinoehmcfhgbaaGreatDoorC3
set_option linter.unusedVariables false
set_option linter.unusedSimpArgs false
set_option maxRecDepth 100000
set_option maxHeartbeats 4000000
namespace Go.Proofs.YtkinoehmcfhgbaaGreatDoor.Av
open Go.RowKit
variable {toks:List (List UInt8×Nat)}
theorem Rd.det {t:Tg} {k k1:Nat} {f:Fm} (h:Rd toks t k f k1):∀{g:Fm} {k2:Nat},Rd toks t k g k2→f=g∧k1=k2:=by
 induction h with
 | tru e =>
  intro g k2 h2;cases h2 with
  | tru _=>exact⟨rfl,rfl⟩
  | fls e'=>rw[e] at e';exact absurd e' (by decide)
  | no e' _=>rw[e] at e';exact absurd e' (by decide)
  | par e' _=>rw[e] at e';exact absurd e' (by decide)
  | cmp e1 e2 e3 e4=>exact absurd e e1
 | fls e =>
  intro g k2 h2;cases h2 with
  | tru e'=>rw[e] at e';exact absurd e' (by decide)
  | fls e'=>exact⟨rfl,rfl⟩
  | no e' _=>rw[e] at e';exact absurd e' (by decide)
  | par e' _=>rw[e] at e';exact absurd e' (by decide)
  | cmp e1 e2 e3 e4=>exact absurd e e2
 | no e _ ih =>
  intro g k2 h2;cases h2 with
  | tru e'=>rw[e] at e';exact absurd e' (by decide)
  | fls e'=>rw[e] at e';exact absurd e' (by decide)
  | no e' h'=>obtain⟨rfl,rfl⟩:=ih h';exact⟨rfl,rfl⟩
  | par e' _=>rw[e] at e';exact absurd e' (by decide)
  | cmp e1 e2 e3 e4=>exact absurd e e3
 | par e _ ih =>
  intro g k2 h2;cases h2 with
  | tru e'=>rw[e] at e';exact absurd e' (by decide)
  | fls e'=>rw[e] at e';exact absurd e' (by decide)
  | no e' h'=>rw[e] at e';exact absurd e' (by decide)
  | par e' h'=>obtain⟨rfl,rfl⟩:=ih h';exact⟨rfl,rfl⟩
  | cmp e1 e2 e3 e4=>exact absurd e e4
 | cmp d1 d2 d3 d4 =>
  intro g k2 h2;cases h2 with
  | tru e'=>exact absurd e' d1
  | fls e'=>exact absurd e' d2
  | no e' h'=>exact absurd e' d3
  | par e' h'=>exact absurd e' d4
  | cmp e1 e2 e3 e4=>exact⟨rfl,rfl⟩
 | part _ _ i1 i2 =>
  intro g k2 h2;cases h2 with
  | part a b =>
   obtain⟨rfl,rfl⟩:=i1 a;exact i2 b
 | partS e _ _ i1 i2 =>
  intro g k2 h2;cases h2 with
  | partS e' a b =>
   obtain⟨rfl,rfl⟩:=i1 a;exact i2 b
  | partE e'=>exact absurd e e'
 | partE e =>
  intro g k2 h2;cases h2 with
  | partS e' a b=>exact absurd e' e
  | partE e'=>exact⟨rfl,rfl⟩
 | form _ _ i1 i2 =>
  intro g k2 h2;cases h2 with
  | form a b =>
   obtain⟨rfl,rfl⟩:=i1 a;exact i2 b
 | formS e _ _ i1 i2 =>
  intro g k2 h2;cases h2 with
  | formS e' a b =>
   obtain⟨rfl,rfl⟩:=i1 a;exact i2 b
  | formE e'=>exact absurd e e'
 | formE e =>
  intro g k2 h2;cases h2 with
  | formS e' a b=>exact absurd e' e
  | formE e'=>exact⟨rfl,rfl⟩
theorem zju:¬0≤vr [115,107,105,112]:=by decide
theorem znq:¬0≤vr [105,102]:=by decide
theorem zg3:¬0≤vr [119,104,105,108,101]:=by decide
theorem Rc.det {t:Bool} {k k1:Nat} {c:Cm} (h:Rc toks t k c k1):∀{d:Cm} {k2:Nat},Rc toks t k d k2→c=d∧k1=k2:=by
 induction h with
 | skip e =>
  intro d k2 h2;cases h2 with
  | skip _=>exact⟨rfl,rfl⟩
  | asg e'=>rw[e] at e';exact absurd e' zju
  | ite e' _ _ _=>rw[e] at e';exact absurd e' (by decide)
  | loop e' _ _ _=>rw[e] at e';exact absurd e' (by decide)
 | asg e =>
  intro d k2 h2;cases h2 with
  | skip e'=>rw[e'] at e;exact absurd e zju
  | asg e'=>exact⟨rfl,rfl⟩
  | ite e' _ _ _=>rw[e'] at e;exact absurd e znq
  | loop e' _ _ _=>rw[e'] at e;exact absurd e zg3
 | ite e r1 _ _ i1 i2 =>
  intro d k2 h2;cases h2 with
  | skip e'=>rw[e] at e';exact absurd e' (by decide)
  | asg e'=>rw[e] at e';exact absurd e' znq
  | ite e' a b c =>
   obtain⟨rfl,rfl⟩:=r1.det a;obtain⟨rfl,rfl⟩:=i1 b;obtain⟨rfl,rfl⟩:=i2 c;exact⟨rfl,rfl⟩
  | loop e' _ _ _=>rw[e] at e';exact absurd e' (by decide)
 | loop e r1 r2 _ i1 =>
  intro d k2 h2;cases h2 with
  | skip e'=>rw[e] at e';exact absurd e' (by decide)
  | asg e'=>rw[e] at e';exact absurd e' zg3
  | ite e' a b c=>rw[e] at e';exact absurd e' (by decide)
  | loop e' a b c =>
   obtain⟨rfl,rfl⟩:=r1.det a;obtain⟨rfl,rfl⟩:=r2.det b;obtain⟨rfl,rfl⟩:=i1 c;exact⟨rfl,rfl⟩
 | one _ e i1 =>
  intro d k2 h2;cases h2 with
  | one a e'=>exact i1 a
  | seq a e' b=>obtain⟨rfl,rfl⟩:=i1 a;exact absurd e' e
 | seq _ e _ i1 i2 =>
  intro d k2 h2;cases h2 with
  | one a e'=>obtain⟨rfl,rfl⟩:=i1 a;exact absurd e e'
  | seq a e' b =>
   obtain⟨rfl,rfl⟩:=i1 a;obtain⟨rfl,rfl⟩:=i2 b;exact⟨rfl,rfl⟩
theorem Rd.cmpE {k k1 k2:Nat} {r a1 a2 b1 b2:Int} (h1:sAt toks k≠[116,114,117,101]) (h2:sAt toks k≠[102,97,108,115,101]) (h3:sAt toks k≠[110,111,116]) (h4:sAt toks k≠[40])
 (e1:trm toks k=(a1,a2,k1)) (e2:rel (sAt toks k1)=r) (e3:trm toks (k1+1)=(b1,b2,k2)):Rd toks .fac k (.cmp r (a1,a2) (b1,b2)) k2:=by
 have h:=Rd.cmp (toks:=toks) h1 h2 h3 h4;rw[e1] at h;dsimp only at h;rw[e2,e3] at h;exact h
theorem Rc.asgE {k k2:Nat} {x a1 a2:Int} (h:0≤x) (e:vr (sAt toks k)=x) (e2:trm toks (k+2)=(a1,a2,k2)):Rc toks false k (.asg x (a1,a2)) k2:=by
 have h':=Rc.asg (toks:=toks) (k:=k) (by rw[e];exact h);rw[e,e2] at h';exact h'
end Go.Proofs.YtkinoehmcfhgbaaGreatDoor.Av
namespace Go.Proofs.YtkinoehmcfhgbaaGreatDoor.Vl
open Go.RowKit
open Av (vr Fm Rd Tg sAt Cm Rc Kp zab want tokAt answer postN post3 zaj Row Row.new Row.kpOld Row.far Row.cells row15 Same zac IsF IsC Lst PrR zcn zbj ParseEnd fv zaw)
theorem PR.new (w:World) (fuel x1 x2 x3 x4:Int) (t:TypeId):PR (w.alloc (.cells #[.int .i64 fuel,.int .i64 0,.int .i64 x1,.int .i64 x2,.int .i64 x3,.int .i64 x4,.int .i64 0] t)) w.heap.size fuel {x1:=x1,x2:=x2,x3:=x3,x4:=x4,n:=0,e:=-1}:=by
 refine⟨by simp,?_,?_,?_,?_,?_,?_,?_,fun o=>by simp⟩
 all_goals (rw[World.cell?_alloc_at _ _ _ _ rfl];rfl)
theorem znr (s:RS):(Value.agg (oV s).toArray)=.agg #[.int .i64 (kn s),.int .i64 s.x1,.int .i64 s.x2,.int .i64 s.x3,.int .i64 s.x4,.int .i64 s.n]:=rfl
theorem zkW {P:Nat→Prop} (c:Cm) (g k m:Nat) (ys:List (List Value)) (x1 x2 x3 x4 fuel:Int) (w:World) (hL:Lst w P g k m ys) (hI:IsC w P c ys) (ho:cOk c) (hg:gds x1 x2 x3 x4=true) (hf:0≤fuel∧fuel≤10000) :
 Calls Tryz.prog 44 #[.slice (some ⟨g,0,none⟩) k m,.agg #[.int .i64 x1,.int .i64 x2,.int .i64 x3,.int .i64 x4],.int .i64 fuel] w fun e w'=>e=.returned (.agg (oV (ex fuel c {x1:=x1,x2:=x2,x3:=x3,x4:=x4,n:=0,e:=-1})).toArray)∧Below w.heap.size w w':=by
 have hin:Inv fuel {x1:=x1,x2:=x2,x3:=x3,x4:=x4,n:=0,e:=-1}:=⟨by dsimp only;omega,by dsimp only;omega,hg,by dsimp only;omega,by dsimp only;omega⟩;have CA:Hid (∀X rb,Below w.heap.size w X→w.heap.size≤rb→PR X rb fuel {x1:=x1,x2:=x2,x3:=x3,x4:=x4,n:=0,e:=-1}→Calls Tryz.prog 72 #[.pointer (some ⟨rb,0,none⟩),.slice (some ⟨g,0,none⟩) k m] X fun e w'=>e=.returned (.bool (decide ((ex fuel c {x1:=x1,x2:=x2,x3:=x3,x4:=x4,n:=0,e:=-1}).e<0)))∧PR w' rb fuel (ex fuel c {x1:=x1,x2:=x2,x3:=x3,x4:=x4,n:=0,e:=-1})∧Kp rb X w'):=fun X rb hs hrb hp =>
  znp (fun g=>g<w.heap.size) rb fuel (by omega) hf.2 (csz c) c X _ g k m ys (Nat.le_refl _) ho ((hL.mono (fun g _ h=>h)).same (zac hs)) ((hI.mono (fun g _ h=>h)).same (zac hs)) hp hin (by show(-1:Int)<0;decide)
 rw[znr];clear hL hI hin hg;generalize ex fuel c {x1:=x1,x2:=x2,x3:=x3,x4:=x4,n:=0,e:=-1}=E at *;have HR0:Hid (Row ((w.alloc (.cells #[.int .i64 x1,.int .i64 x2,.int .i64 x3,.int .i64 x4] 36)).alloc (.cells zZh 41)) (w.heap.size+1) 6):=by
  have:=row6 (w.alloc (.cells #[.int .i64 x1,.int .i64 x2,.int .i64 x3,.int .i64 x4] 36));rw[show(w.alloc (.cells #[.int .i64 x1,.int .i64 x2,.int .i64 x3,.int .i64 x4] 36)).heap.size=w.heap.size+1 by simp] at this;exact this
 have HW:Hid (Below w.heap.size w (((w.alloc (.cells #[.int .i64 x1,.int .i64 x2,.int .i64 x3,.int .i64 x4] 36)).alloc (.cells zZh 41)).alloc (.cells #[.int .i64 fuel,.int .i64 0,.int .i64 x1,.int .i64 x2,.int .i64 x3,.int .i64 x4,.int .i64 0] 151))∧Row (((w.alloc (.cells #[.int .i64 x1,.int .i64 x2,.int .i64 x3,.int .i64 x4] 36)).alloc (.cells zZh 41)).alloc (.cells #[.int .i64 fuel,.int .i64 0,.int .i64 x1,.int .i64 x2,.int .i64 x3,.int .i64 x4,.int .i64 0] 151)) (w.heap.size+1) 6∧PR (((w.alloc (.cells #[.int .i64 x1,.int .i64 x2,.int .i64 x3,.int .i64 x4] 36)).alloc (.cells zZh 41)).alloc (.cells #[.int .i64 fuel,.int .i64 0,.int .i64 x1,.int .i64 x2,.int .i64 x3,.int .i64 x4,.int .i64 0] 151)) (w.heap.size+1+1) fuel {x1:=x1,x2:=x2,x3:=x3,x4:=x4,n:=0,e:=-1}):=by
  refine⟨((zaa w _).alloc (by simp) _).alloc (by simp;omega) _,HR0.out.alloc (by simp) _,?_⟩;have:=PR.new ((w.alloc (.cells #[.int .i64 x1,.int .i64 x2,.int .i64 x3,.int .i64 x4] 36)).alloc (.cells zZh 41)) fuel x1 x2 x3 x4 151;rw[show((w.alloc (.cells #[.int .i64 x1,.int .i64 x2,.int .i64 x3,.int .i64 x4] 36)).alloc (.cells zZh 41)).heap.size=w.heap.size+1+1 by simp] at this;exact this
 go_enter Tryz.func44,Tryz.ntmps44;go_wp2_with fail;generalize (((w.alloc (.cells #[.int .i64 x1,.int .i64 x2,.int .i64 x3,.int .i64 x4] 36)).alloc (.cells zZh 41)).alloc (.cells #[.int .i64 fuel,.int .i64 0,.int .i64 x1,.int .i64 x2,.int .i64 x3,.int .i64 x4,.int .i64 0] 151))=W1 at *;obtain⟨hB1,hR1,hP1⟩:=HW.out;refine(CA.out _ _ hB1 (by omega) hP1).mono ?_;rintro e w4 ⟨rfl,A4,K4⟩;have hs1:w.heap.size+1+1<W1.heap.size:=hP1.hb;have HB4:Hid (Below w.heap.size w w4):=Kp.below hB1 K4 (by omega);have HR4:Hid (Row w4 (w.heap.size+1) 6):=hR1.kpOld K4 (by omega) (by omega);have c1:=A4.c1;have c2:=A4.c2;have c3:=A4.c3;have c4:=A4.c4;have c5:=A4.c5;have c6:=A4.c6;have hs4:w.heap.size+1+1<w4.heap.size:=A4.hb;clear A4 K4 hB1 hR1 hP1 HW HR0 CA;obtain⟨⟨u0,z0⟩,f0⟩:=HR4.out.cell 0 (by omega);obtain⟨⟨u1,z1⟩,f1⟩:=HR4.out.cell 1 (by omega);obtain⟨⟨u2,z2⟩,f2⟩:=HR4.out.cell 2 (by omega);obtain⟨⟨u3,z3⟩,f3⟩:=HR4.out.cell 3 (by omega);obtain⟨⟨u4,z4⟩,f4⟩:=HR4.out.cell 4 (by omega);obtain⟨⟨u5,z5⟩,f5⟩:=HR4.out.cell 5 (by omega);generalize hK:kn E=K at *;go_wp2_with fail;exact postN (X:=w4) (B:=w.heap.size+1) [.int .i64 K,.int .i64 E.x1,.int .i64 E.x2,.int .i64 E.x3,.int .i64 E.x4,.int .i64 E.n] Tryz.results44 rfl Tryz.underlying41 rfl Tryz.infoOut HR4.out rfl ⟨by rw[hK],zaj (by omega) _ _ _ HB4.out⟩
open Av (vr Fm Rd Tg sAt Cm Rc Kp zab want tokAt answer postN post3 zaj Row Row.new Row.kpOld Row.far Row.cells row15 Same zac IsF IsC Lst PrR zcn zbj ParseEnd fv zaw σ0)
def FAt (X:World) (P:Nat→Prop) (B o:Nat) (f:Fm):Prop:=∃(k:Int) (a:Option Addr) (n m:Nat) (r a1 a2 a3 a4:Int),IsF X P f (fv k a n m r a1 a2 a3 a4)∧X.cell? ⟨B,o,none⟩=some (.int .i64 k)∧X.cell? ⟨B,o+1,none⟩=some (.slice a n m)∧X.cell? ⟨B,o+2,none⟩=some (.int .i64 r)∧X.cell? ⟨B,o+3,none⟩=some (.int .i64 a1)∧X.cell? ⟨B,o+4,none⟩=some (.int .i64 a2)∧X.cell? ⟨B,o+5,none⟩=some (.int .i64 a3)∧X.cell? ⟨B,o+6,none⟩=some (.int .i64 a4)
def Lies (toks:List (List UInt8×Nat)) (X:World) (P:Nat→Prop) (B:Nat):Prop:=∃p c q,Prg toks p c q∧cOk c∧fOk p∧fOk q∧(∃g n m ys,X.cell? ⟨B,7,none⟩=some (.slice (some ⟨g,0,none⟩) n m)∧Lst X P g n m ys∧IsC X P c ys)∧FAt X P B 0 p∧FAt X P B 8 q
theorem zmq {toks:List (List UInt8×Nat)} {P:Nat→Prop} {w1 X:World} {cs:Array Value} {B:Nat} (h:PrR toks 0 P w1 (.agg cs) σ0) (hb:Below w1.heap.size w1 X) (hr:X.rangeAt B 0 cs.toList):Lies toks X P B:=by
 obtain⟨p,c,q,y,k1,k2,k3,hv,hl,r1,r2,r3,hk,hp,⟨g,n,m,ys,h7,hL,hI⟩,hq⟩:=h;have ey:cs.toList=y:=by
  have:cs=y.toArray:=by injection hv
  rw[this]
 rw[ey] at hr;have sm:Same P w1 X:=zac hb;refine⟨p,c,q,⟨k1,k2,k3,r1,r2,r3,hk⟩,znn r2,zb6 r1 (fun g h=>by cases h),zb6 r3 (fun g h=>by cases h),⟨g,n,m,ys,?_,hL.same sm,hI.same sm⟩,?_,?_⟩
 ·have:=hr 7 _ h7
  rwa [Nat.zero_add] at this
 ·obtain⟨k,a,n,m,r,a1,a2,a3,a4,e⟩:=hp.shape;have:=zaC hr e;simp only[Nat.zero_add] at this;rw[e] at hp;exact⟨k,a,n,m,r,a1,a2,a3,a4,hp.same sm,this⟩
 ·obtain⟨k,a,n,m,r,a1,a2,a3,a4,e⟩:=hq.shape;have:=zaC hr e;simp only[Nat.zero_add] at this;rw[e] at hq;exact⟨k,a,n,m,r,a1,a2,a3,a4,hq.same sm,this⟩
theorem Lies.on {toks:List (List UInt8×Nat)} {X Y:World} {P:Nat→Prop} {B:Nat} (h:Lies toks X P B) (hb:Below X.heap.size X Y) (hB:B<X.heap.size):Lies toks Y P B:=by
 obtain⟨p,c,q,h1,h2,h3,h4,⟨g,n,m,ys,h7,hL,hI⟩,⟨k,a,n',m',r,a1,a2,a3,a4,f0,f1,f2,f3,f4,f5,f6,f7⟩,⟨k',a',n'',m'',r',b1,b2,b3,b4,g0,g1,g2,g3,g4,g5,g6,g7⟩⟩:=h;have sm:Same P X Y:=zac hb;have cc:∀o,Y.cell? ⟨B,o,none⟩=X.cell? ⟨B,o,none⟩:=fun o=>hb.cell (p:=⟨B,o,none⟩) hB
 exact⟨p,c,q,h1,h2,h3,h4,⟨g,n,m,ys,(cc _).trans h7,hL.same sm,hI.same sm⟩,⟨k,a,n',m',r,a1,a2,a3,a4,f0.same sm,(cc _).trans f1,(cc _).trans f2,(cc _).trans f3,(cc _).trans f4,(cc _).trans f5,(cc _).trans f6,(cc _).trans f7⟩,⟨k',a',n'',m'',r',b1,b2,b3,b4,g0.same sm,(cc _).trans g1,(cc _).trans g2,(cc _).trans g3,(cc _).trans g4,(cc _).trans g5,(cc _).trans g6,(cc _).trans g7⟩⟩
theorem Prg.det {toks:List (List UInt8×Nat)} {p q p' q':Fm} {c c':Cm} (h:Prg toks p c q) (h':Prg toks p' c' q'):p=p'∧c=c'∧q=q':=by
 obtain⟨k1,k2,k3,r1,r2,r3,_⟩:=h;obtain⟨j1,j2,j3,s1,s2,s3,_⟩:=h';obtain⟨rfl,rfl⟩:=r1.det s1;obtain⟨rfl,rfl⟩:=r2.det s2;obtain⟨rfl,rfl⟩:=r3.det s3;exact⟨rfl,rfl,rfl⟩
def pck (c n:Int):Int:=(if c<0 then -(c+1) else c).tmod n
theorem zcm (c n:Int) (hn:0<n):0≤pck c n∧pck c n<n:=by
 unfold pck;split
 ·exact⟨Int.tmod_nonneg _ (by omega),Int.tmod_lt_of_pos _ hn⟩
 ·exact⟨Int.tmod_nonneg _ (by omega),Int.tmod_lt_of_pos _ hn⟩
theorem zkX (c n:Int) (h0:-9223372036854775808≤c) (h1:c≤9223372036854775807) (hn:0<n) (w:World) :
 Calls Tryz.prog 26 #[.int .i64 c,.int .i64 n] w fun e w'=>e=.returned (.int .i64 (pck c n))∧w=w':=by
 have hn0:(n==0)=false:=beq_eq_false_iff_ne.2 (by omega);have hr:=zcm c n hn;by_cases hc:c<0
 ·have w1:IntKind.i64.wrap (c+1)=c+1:=IntWalk.i64_in _ (by omega);have w2:IntKind.i64.wrap (-(c+1))=-(c+1):=IntWalk.i64_in _ (by omega);have HP:Hid (pck c n=-(c+1).tmod n):=by show _=_;unfold pck;rw[if_pos hc,Int.neg_tmod]
  have HNN:Hid (0<n):=hn;clear hr;go_enter Tryz.func26,Tryz.ntmps26;go_wp2;go_ret;exact⟨by rw[HP.out];rfl,rfl⟩
 ·have HP:Hid (pck c n=c%n):=by show _=_;unfold pck;rw[if_neg hc,Int.tmod_eq_emod_of_nonneg (by omega)]
  clear hr;go_enter Tryz.func26,Tryz.ntmps26;go_wp2;go_ret;exact⟨by rw[HP.out];rfl,rfl⟩
theorem loadS (X:World) (B:Nat) (c0 c1 c2 c3:Value) (h0:X.cell? ⟨B,0,none⟩=some c0) (h1:X.cell? ⟨B,1,none⟩=some c1) (h2:X.cell? ⟨B,2,none⟩=some c2) (h3:X.cell? ⟨B,3,none⟩=some c3):(loadVar 36 ⟨B,0,none⟩).run Tryz.prog X=.ok (.agg #[c0,c1,c2,c3]) X :=
 run_loadVar_mid _ _ 0 36 [c0,c1,c2,c3] _ (by
  intro j v hv
  match j,hv with
  | 0,hv=>cases hv;exact h0
  | 1,hv=>cases hv;exact h1
  | 2,hv=>cases hv;exact h2
  | 3,hv=>cases hv;exact h3) Tryz.underlying36 rfl (by kernel_rfl)
theorem zhE {fn:Func} {tmps:Array Value} {w:World} {k:Nat} {t:TypeId} {a:Addr} {v:Value} (hf:fn.results=#[.cell k t]) (ht:tmps.getD k undef=.pointer (some a)) (hl:(loadVar t a).run Tryz.prog w=.ok v w):(results fn tmps).run Tryz.prog w=.ok v w:=by
 have ht':(tmps[k]?.getD undef)=.pointer (some a):=by simpa using ht
 simp[results,hf,ht',hl,asAddr]
attribute [local go_sem high] zc0
theorem Tryz.infoEdg:(Tryz.prog.info? 63).map (fun i=>(i.zero,i.size,i.bytes))=some (some (.agg zZd),3,24):=by kernel_rfl
def RawE (w:World) (q:Option Addr) (n:Nat):Prop:=∀j,j<n→∃b o x y z,q=some ⟨b,o,none⟩∧b<w.heap.size∧w.cell? ⟨b,o+j*3,none⟩=some (.int .i64 x)∧w.cell? ⟨b,o+j*3+1,none⟩=some (.int .i64 y)∧w.cell? ⟨b,o+j*3+2,none⟩=some (.int .i64 z) ∧
 ∀u∈[x,y,z],-9223372036854775808≤u∧u≤9223372036854775807
theorem zjv {w:World} {base:Nat} {v:Value} {ls:List Atm} (h:w.ownsRow base 63 3 v ls.length (cells3 ls)):Atms w v ls:=by
 rcases h.2 with⟨h1,h2⟩|⟨g,cap,cur,hv,hg,hh,h3,h4,h5,h6⟩
 ·exact Or.inl ⟨h1,by cases ls<;>simp_all⟩
 ·have hlt:g<w.heap.size:=by
   rcases Nat.lt_or_ge g w.heap.size with h|h
   ·exact h
   ·rw[Array.getElem?_eq_none h] at hh;cases hh
  refine Or.inr ⟨g,cap,hv,h3,h4,hlt,fun j a ha=>?_⟩;have hj:j<ls.length:=by
   rcases Nat.lt_or_ge j ls.length with h|h
   ·exact h
   ·rw[List.getElem?_eq_none h] at ha;cases ha
  have hc:=zco ls j a ha;have e:∀i u,(cells3 ls)[i]?=some u→w.cell? ⟨g,i,none⟩=some u:=by
   intro i u hu;rw[←h6,List.getElem?_take] at hu;split at hu
   ·have:cur[i]?=some u:=by simpa using hu
    simp[World.cell?,hh,this]
   ·cases hu
  exact⟨e _ _ hc.1,e _ _ hc.2.1,e _ _ hc.2.2⟩
def PkR (c n:Int):Prop:=(-9223372036854775808≤c∧c≤9223372036854775807)∧0<n
def LtR (k:Int):Prop:=0≤k∧k≤4
structure CyI (w W1:World) (n:Nat) (s4 s5 s6:Value) (X:World) (es:List Atm):Prop where
 ok:∀a∈es,okE a
 ten:es.length≤10
 le:es.length≤n
 i:s6=.int .i64 (es.length:Int)
 tx:s4=strV (sbs (cyS es.reverse))
 own:X.ownsRow W1.heap.size 63 3 s5 es.length (cells3 es)
 below:Below W1.heap.size W1 X
theorem zkY (q:Option Addr) (n cp:Nat) (w:World) (hgl:Gl w) (hn:n≤maxLen) (hr:RawE w q n)
 (K0:Hid (∀w,Gl w→Calls Tryz.prog 24 #[] w fun e w'=>e=.returned (.bool true)∧Below w.heap.size w w'))
 (CPV:Hid (∀es:List Atm,(∀a∈es,okE a)→es.length≤10→∃V m1 m2 m3 m4:Int,(lst es=true→V=0)∧(lst es=false→V=1∧∀X,Gl X→Calls Tryz.prog 22 #[.string ⟨(sbs (cyS es.reverse)).toArray⟩,.agg #[.int .i64 m1,.int .i64 m2,.int .i64 m3,.int .i64 m4]] X fun e w'=>e=.returned (.tuple #[.bool true,.int .i64 0])∧Below X.heap.size X w') ∧
  ∀X,Gl X→Calls Tryz.prog 27 #[.string ⟨(33::sbs (cyS es.reverse)).toArray⟩,.int .i64 20000] X fun e w'=>∃pa pn pc,e=.returned (.tuple #[.agg #[.int .i64 V,.int .i64 0,.int .i64 m1,.int .i64 m2,.int .i64 m3,.int .i64 m4,.slice pa pn pc],.int .i64 0])∧Below X.heap.size X w')) :
 Calls Tryz.prog 8 #[.slice q n cp] w fun e w'=>e=.returned (.bool true)∧Below w.heap.size w w':=by
 obtain⟨i0,hi,hz0,hz1,hz2⟩:=info_parts Tryz.infoEdg;have HR:Hid (RawE w q n):=hr;have HN:Hid (n≤maxLen):=hn;have HGL:Hid (∀X,Below w.heap.size w X→Gl X):=fun X hX=>hgl.on hX
 clear hr hn;go_enter Tryz.func8,Tryz.ntmps8;go_wp2_with fail;refine Calls.mono (K0.out _ hgl) ?_;rintro e W1 ⟨rfl,hb1⟩;have HB1:Hid (Below w.heap.size w W1):=hb1;clear hb1 hgl K0;go_wp2_with fail
 go_loopw [4,5,6] (fun s4 s5 s6 wr=>∃es,CyI w W1 n s4 s5 s6 wr es) (fun _ _ s6 _=>n-(intOf s6).toNat)
 case atStart=>exact⟨[],fun a h=>absurd h (by simp),by decide,by simp,rfl,rfl,World.ownsRow_nil _ _ _ _,Below.refl _ _⟩
 case round =>
  obtain⟨es,hok,h10,hle,rfl,rfl,hown,hbel⟩:=hrel;have HOK:Hid (∀a∈es,okE a):=hok;clear hok;by_cases hnn:es.length<n∧es.length<10
  ·obtain⟨hnl,h9⟩:=hnn;have hnl':(es.length:Int)<(n:Int):=by omega
   ·have h9':(es.length:Int)<10:=by omega
    obtain⟨b,o,x,y,z,rfl,hb,hx,hy,hz,hrng⟩:=HR.out _ hnl;have hbW:b<W1.heap.size:=Nat.lt_of_lt_of_le hb HB1.out.size;have cx:=((hbel.cell (p:=⟨b,o+es.length*3,none⟩) hbW).trans (HB1.out.cell (p:=⟨b,o+es.length*3,none⟩) hb)).trans hx;have cy:=((hbel.cell (p:=⟨b,o+es.length*3+1,none⟩) hbW).trans (HB1.out.cell (p:=⟨b,o+es.length*3+1,none⟩) hb)).trans hy;have cz:=((hbel.cell (p:=⟨b,o+es.length*3+2,none⟩) hbW).trans (HB1.out.cell (p:=⟨b,o+es.length*3+2,none⟩) hb)).trans hz;obtain⟨u0,u4⟩:=zcm x 5 (by decide);obtain⟨v0,v3⟩:=zcm y 4 (by decide);obtain⟨n0,n20⟩:=zcm z 21 (by decide);have rx:PkR x 5:=⟨hrng x (by simp),by decide⟩;have ry:PkR y 4:=⟨hrng y (by simp),by decide⟩;have rz:PkR z 21:=⟨hrng z (by simp),by decide⟩;have CPK:Hid (∀c n,PkR c n→∀X,Calls Tryz.prog 26 #[.int .i64 c,.int .i64 n] X fun e w'=>e=.returned (.int .i64 (pck c n))∧X=w'):=fun c n h X=>zkX c n h.1.1 h.1.2 h.2 X
    clear hx hy hz hrng;have hw1:IntKind.i64.wrap (pck z 21-10)=pck z 21-10:=by rw[IntKind.wrap_i64];omega
    have hbwr:b<wr.heap.size:=Nat.lt_of_lt_of_le hbW hbel.size;have hbn:¬b=wr.heap.size:=by omega
    have zx:∀o1:Obj,(wr.alloc o1).drew.cell? ⟨b,o+es.length*3,none⟩=some (.int .i64 x):=fun o1=>(World.cell?_alloc_past _ _ _ hbwr).trans cx
    have zz:∀o1:Obj,(wr.alloc o1).drew.cell? ⟨b,o+es.length*3+2,none⟩=some (.int .i64 z):=fun o1=>(World.cell?_alloc_past _ _ _ hbwr).trans cz
    go_wp2_with fail;go_region_held3 (fun X=>X.cell? ⟨b,o+es.length*3,none⟩=some (.int .i64 x)∧X.cell? ⟨b,o+es.length*3+2,none⟩=some (.int .i64 z)) (first|exact⟨cx,cz⟩|exact⟨zx _,zz _⟩|exact⟨(cso3 hbn).trans (zx _),(cso3 hbn).trans (zz _)⟩|go_keep) (first|(go_at_call 26;refine(CPK.out _ _ ?_ _).mono ?_;(first|exact rx|exact rz);rintro e w' ⟨rfl,rfl⟩))
    all_goals
     have hnw:(wr.alloc (.cells #[.int .i64 (pck x 5),.int .i64 0,.int .i64 (pck z 21-10)] 63)).drew.heap[wr.heap.size]?=some (.cells #[.int .i64 (pck x 5),.int .i64 0,.int .i64 (pck z 21-10)] 63):=heap_alloc_new wr _;have hbe:Below wr.heap.size wr (wr.alloc (.cells #[.int .i64 (pck x 5),.int .i64 0,.int .i64 (pck z 21-10)] 63)).drew:=(zaa wr _).drew;have hyy:=(hbe.cell (p:=⟨b,o+es.length*3+1,none⟩) hbwr).trans cy;have hsz:wr.heap.size<(wr.alloc (.cells #[.int .i64 (pck x 5),.int .i64 0,.int .i64 (pck z 21-10)] 63)).drew.heap.size:=by show _<(wr.alloc _).heap.size;simp
     generalize (wr.alloc (.cells #[.int .i64 (pck x 5),.int .i64 0,.int .i64 (pck z 21-10)] 63)).drew=X1 at *;clear zx zz cx cy cz rx rz hw1;generalize pck x 5=U at *;have hNr:-10≤pck z 21-10∧pck z 21-10≤10:=by omega
     generalize pck z 21-10=N at *;have HX1:Hid (Blk X1 wr.heap.size 63 [.int .i64 U,.int .i64 0,.int .i64 N]):=hnw;clear hnw;have e0:=HX1.out.cell (i:=0) rfl;have e1:=HX1.out.cell (i:=1) rfl;have f1:=HX1.out.free 1;have st0:∀u,(X1.setCell ⟨wr.heap.size,1,none⟩ u).drew.cell? ⟨wr.heap.size,0,none⟩=some (.int .i64 U):=fun u=>(HX1.out.set 1 u).cell (i:=0) rfl
     have st1:∀u,(X1.setCell ⟨wr.heap.size,1,none⟩ u).drew.cell? ⟨b,o+es.length*3+1,none⟩=some (.int .i64 y):=fun u=>(World.cell?_of_block (a:=⟨b,o+es.length*3+1,none⟩) (Below.heap_setCell X1 ⟨wr.heap.size,1,none⟩ u b hbn)).trans hyy
     have w1:IntKind.i64.wrap (U+1)=U+1:=by rw[IntKind.wrap_i64];omega
     have w2:IntKind.i64.wrap (U+1+pck y 4)=U+1+pck y 4:=by rw[IntKind.wrap_i64];omega
     have w3:(U+1+pck y 4).tmod 5=(U+1+pck y 4)%5:=Int.tmod_eq_emod_of_nonneg (by omega);have w4:IntKind.i64.wrap ((U+1+pck y 4)%5)=(U+1+pck y 4)%5:=by rw[IntKind.wrap_i64];omega
     go_wp2_with fail;go_region_held3 (fun X=>X.cell? ⟨wr.heap.size,0,none⟩=some (.int .i64 U)∧X.cell? ⟨b,o+es.length*3+1,none⟩=some (.int .i64 y)) (first|exact⟨e0,hyy⟩|exact⟨st0 _,st1 _⟩) (first|(go_at_call 26;refine(CPK.out _ _ ?_ _).mono ?_;(exact ry);rintro e w' ⟨rfl,rfl⟩));have hbe2:Below wr.heap.size wr (X1.setCell ⟨wr.heap.size,1,none⟩ (.int .i64 ((U+1+pck y 4)%5))).drew:=(hbe.setCell (p:=⟨wr.heap.size,1,none⟩) (Nat.le_refl _) _).drew;have HX2:Hid (Blk (X1.setCell ⟨wr.heap.size,1,none⟩ (.int .i64 ((U+1+pck y 4)%5))).drew wr.heap.size 63 [.int .i64 U,.int .i64 ((U+1+pck y 4)%5),.int .i64 N]):=HX1.out.set 1 _;generalize (X1.setCell ⟨wr.heap.size,1,none⟩ (.int .i64 ((U+1+pck y 4)%5))).drew=X2 at *;clear e0 e1 f1 st0 st1 w1 w2 w3 w4 HX1 hbe hyy hsz ry CPK hbn hbwr;have hV:U≠(U+1+pck y 4)%5∧0≤(U+1+pck y 4)%5∧(U+1+pck y 4)%5≤4:=by omega
     generalize (U+1+pck y 4)%5=V at *;have HO2:Hid (X2.ownsRow W1.heap.size 63 3 u5 es.length (cells3 es)):=zad hown hbe2;have HOB:Hid (∀k,u5.ownBlock=some k→W1.heap.size≤k∧k<wr.heap.size):=fun k hk=>hown.lt k hk
     have HB2:Hid (Below W1.heap.size W1 X2):=hbel.trans (hbe2.mono hbel.size);have HLT:Hid (wr.heap.size<X2.heap.size):=HX2.out.lt;have g0:=HX2.out.cell (i:=0) rfl;have g1:=HX2.out.cell (i:=1) rfl;have g2:=HX2.out.cell (i:=2) rfl;have hln:es.length≤10:=h10;clear hown hbel hbe2;go_wp2_with (at_builtin;refine wpList_append_own _ rfl _ _ 61 rfl W1.heap.size 63 i0 (.agg zZd) 3 24 Tryz.underlying61 hi hz0 hz1 hz2 rfl (by decide) _ _ _ rfl (HO2.out.alloc _) ⟨X2.heap.size,0,none⟩ 1 1 [.int .i64 U,.int .i64 V,.int .i64 N] rfl rfl (za8 _ _ rfl _ _ _ _) (zgs _ _ _) (by unfold maxLen;omega) (by omega) (by have:=HB2.out.size;simp;omega) ?_);intro v' X3 hown3 hgrow _;have HB3:Hid (Below W1.heap.size W1 X3):=(HB2.out.alloc HB2.out.size _).grown hgrow (by have:=HB2.out.size;simp;omega) (fun k hk=>(HOB.out k hk).1);have hX3:Blk X3 wr.heap.size 63 [.int .i64 U,.int .i64 V,.int .i64 N]:=(hgrow.block wr.heap.size (by have:=HLT.out;simp;omega) (fun e=>by have:=(HOB.out _ e.symm).2;omega)).trans ((Below.heap_alloc X2 _ wr.heap.size HLT.out).trans HX2.out);have HO3:Hid (X3.ownsRow W1.heap.size 63 3 v' (es++[(U,V,N)]).length (cells3 (es++[(U,V,N)]))):=by show World.ownsRow _ _ _ _ _ _ _;rw[zbY,List.length_append];exact hown3
     clear hown3 hgrow HO2 HOB HB2 HLT g0 g1 g2 HX2;have T0:Tw3 X3 X3 wr.heap.size U V N:=⟨Below.refl _ _,hX3.lt,hX3.cell (i:=0) rfl,hX3.cell (i:=1) rfl,hX3.cell (i:=2) rfl⟩;clear hX3;have CL:Hid (∀k,LtR k→∀X,Calls Tryz.prog 28 #[.int .i64 k] X fun e w'=>e=.returned (.string ⟨#[lt k]⟩)∧X=w'):=fun k h X=>zgm k X h.1 h.2
     have rU:LtR U:=⟨u0,by omega⟩;have rV:LtR V:=⟨hV.2.1,hV.2.2⟩;have CD:Hid (∀X,Calls Tryz.prog 29 #[.int .i64 N] X fun e w'=>e=.returned (.string ⟨(Lib.itoa N).toArray⟩)∧Below X.heap.size X w'):=fun X=>zfw N X (by omega) (by omega)
     have hDl:(Lib.itoa N).length≤5:=zek (by omega) (by omega);have HOK2:Hid (∀a∈es++[(U,V,N)],okE a):=fun a ha=>by
      rcases List.mem_append.1 ha with h|h
      ·exact HOK.out a h
      ·rw[List.mem_singleton.1 h];exact⟨u0,by dsimp only;omega,hV.2.1,hV.2.2,hV.1,by dsimp only;omega,by dsimp only;omega⟩
     have HTX:Hid (sbs (cyS (es++[(U,V,N)]).reverse)=38::(sbs (cyS es.reverse)++(lt U::45::lt V::60::61::(Lib.itoa N++[46])))):=by
      show _=_
      rw[List.reverse_append,List.reverse_singleton,List.singleton_append];exact ze8 (U,V,N) es.reverse
     have hTl:(sbs (cyS es.reverse)).length≤200:=by
      have:=zdi es.reverse (fun a ha=>HOK.out a (List.mem_reverse.1 ha));rw[List.length_reverse] at this;omega
     clear hV v0 v3 n0 n20 u0 u4 hNr;generalize sbs (cyS es.reverse)=TX at *;generalize Lib.itoa N=D at *;unfold strV;have hTz:(⟨TX.toArray⟩:ByteArray).size=TX.length:=by simp[ByteArray.size]
     have hDz:(⟨D.toArray⟩:ByteArray).size=D.length:=by simp[ByteArray.size]
     have q1:Sh ⟨#[38]⟩:=by unfold Sh;show 1≤100000000;omega
     have q2:Sh ⟨TX.toArray⟩:=zk3 (by omega);have q3:Sh ((⟨#[38]⟩:ByteArray)++⟨TX.toArray⟩):=za1 (by rw[hTz];show 1+TX.length≤100000000;omega);have q4:Sh ⟨#[lt U]⟩:=by unfold Sh;show 1≤100000000;omega
     have q5:Sh ((⟨#[38]⟩:ByteArray)++⟨TX.toArray⟩++⟨#[lt U]⟩):=za1 (by rw[ByteArray.size_append',hTz];show 1+TX.length+1≤100000000;omega);have q6:Sh ⟨#[45]⟩:=by unfold Sh;show 1≤100000000;omega
     have q7:Sh ((⟨#[38]⟩:ByteArray)++⟨TX.toArray⟩++⟨#[lt U]⟩++⟨#[45]⟩):=za1 (by rw[ByteArray.size_append',ByteArray.size_append',hTz];show 1+TX.length+1+1≤100000000;omega);have q8:Sh ⟨#[lt V]⟩:=by unfold Sh;show 1≤100000000;omega
     have q9:Sh ((⟨#[38]⟩:ByteArray)++⟨TX.toArray⟩++⟨#[lt U]⟩++⟨#[45]⟩++⟨#[lt V]⟩):=za1 (by rw[ByteArray.size_append',ByteArray.size_append',ByteArray.size_append',hTz];show 1+TX.length+1+1+1≤100000000;omega);have q10:Sh ⟨#[60,61]⟩:=by unfold Sh;show 2≤100000000;omega
     have q11:Sh ((⟨#[38]⟩:ByteArray)++⟨TX.toArray⟩++⟨#[lt U]⟩++⟨#[45]⟩++⟨#[lt V]⟩++⟨#[60,61]⟩):=za1 (by rw[ByteArray.size_append',ByteArray.size_append',ByteArray.size_append',ByteArray.size_append',hTz];show 1+TX.length+1+1+1+2≤100000000;omega);have q12:Sh ⟨D.toArray⟩:=zk3 (by omega);have q13:Sh ((⟨#[38]⟩:ByteArray)++⟨TX.toArray⟩++⟨#[lt U]⟩++⟨#[45]⟩++⟨#[lt V]⟩++⟨#[60,61]⟩++⟨D.toArray⟩):=za1 (by rw[ByteArray.size_append',ByteArray.size_append',ByteArray.size_append',ByteArray.size_append',ByteArray.size_append',hTz,hDz];show 1+TX.length+1+1+1+2+D.length≤100000000;omega);have q14:Sh ⟨#[46]⟩:=by unfold Sh;show 1≤100000000;omega
     have HSTR:Hid ((⟨#[38]⟩:ByteArray)++⟨TX.toArray⟩++⟨#[lt U]⟩++⟨#[45]⟩++⟨#[lt V]⟩++⟨#[60,61]⟩++⟨D.toArray⟩++⟨#[46]⟩=⟨(38::(TX++(lt U::45::lt V::60::61::(D++[46])))).toArray⟩):=by
      show _=_
      have e1:(⟨#[38]⟩:ByteArray)++⟨TX.toArray⟩=⟨([38]++TX).toArray⟩:=zaq [38] TX;have e2:(⟨([38]++TX).toArray⟩:ByteArray)++⟨#[lt U]⟩=⟨([38]++TX++[lt U]).toArray⟩:=zaq ([38]++TX) [lt U];have e3:(⟨([38]++TX++[lt U]).toArray⟩:ByteArray)++⟨#[45]⟩=⟨([38]++TX++[lt U]++[45]).toArray⟩:=zaq _ [45];have e4:(⟨([38]++TX++[lt U]++[45]).toArray⟩:ByteArray)++⟨#[lt V]⟩=⟨([38]++TX++[lt U]++[45]++[lt V]).toArray⟩:=zaq _ [lt V];have e5:(⟨([38]++TX++[lt U]++[45]++[lt V]).toArray⟩:ByteArray)++⟨#[60,61]⟩=⟨([38]++TX++[lt U]++[45]++[lt V]++[60,61]).toArray⟩:=zaq _ [60,61];have e6:(⟨([38]++TX++[lt U]++[45]++[lt V]++[60,61]).toArray⟩:ByteArray)++⟨D.toArray⟩=⟨([38]++TX++[lt U]++[45]++[lt V]++[60,61]++D).toArray⟩:=zaq _ D;have e7:(⟨([38]++TX++[lt U]++[45]++[lt V]++[60,61]++D).toArray⟩:ByteArray)++⟨#[46]⟩=⟨([38]++TX++[lt U]++[45]++[lt V]++[60,61]++D++[46]).toArray⟩:=zaq _ [46];rw[e1,e2,e3,e4,e5,e6,e7];simp
     clear hTz hDz hTl hDl;obtain⟨t0,t1,t2,t3,t4⟩:=id T0;have hw9:IntKind.i64.wrap ((es.length:Int)+1)=(es.length:Int)+1:=by rw[IntKind.wrap_i64];omega
     go_wp2_with fail;go_region_held3 (fun X=>Below X3.heap.size X3 X∧wr.heap.size<X.heap.size∧X.cell? ⟨wr.heap.size,0,none⟩=some (.int .i64 U)∧X.cell? ⟨wr.heap.size,1,none⟩=some (.int .i64 V)∧X.cell? ⟨wr.heap.size,2,none⟩=some (.int .i64 N)) (first|exact T0|exact T0.on (Below.refl _ _).drew|(refine⟨?_,?_,?_,?_,?_⟩<;>assumption)) (first|(go_at_call 28;refine(CL.out _ ?_ _).mono ?_;(first|exact rU|exact rV);rintro e w' ⟨rfl,rfl⟩)|(go_at_call 29;refine(CD.out _).mono ?_;rintro e X4 ⟨rfl,hb4⟩;have T1:=(T0.on (Below.refl _ _).drew).on hb4;obtain⟨t0,t1,t2,t3,t4⟩:=id T1));have HB4:Hid (Below W1.heap.size W1 X4):=HB3.out.trans (t0.mono HB3.out.size);have HO4:Hid (X4.ownsRow W1.heap.size 63 3 v' (es++[(U,V,N)]).length (cells3 (es++[(U,V,N)]))):=zad HO3.out t0;rw[HSTR.out];clear HO3 HB3 q1 q2 q3 q4 q5 q6 q7 q8 q9 q10 q11 q12 q13 q14 HSTR t0 t1 t2 t3 t4 hb4 T0 T1;go_wp2_with fail;exact⟨⟨es++[(U,V,N)],HOK2.out,by simp;omega,by simp;omega,by rw[List.length_append];go_num,by rw[HTX.out];rfl,HO4.out,HB4.out⟩,by simp[intOf];omega⟩
  ·have hex:(¬(es.length:Int)<(n:Int))∨((es.length:Int)<(n:Int)∧¬(es.length:Int)<10):=by omega
   obtain⟨V,m1,m2,m3,m4,hvt,hvf,hpv⟩:=CPV.out es HOK.out h10;have CPr:Hid (∀X,Gl X→Calls Tryz.prog 27 #[.string ⟨(33::sbs (cyS es.reverse)).toArray⟩,.int .i64 20000] X fun e w'=>∃pa pn pc,e=.returned (.tuple #[.agg #[.int .i64 V,.int .i64 0,.int .i64 m1,.int .i64 m2,.int .i64 m3,.int .i64 m4,.slice pa pn pc],.int .i64 0])∧Below X.heap.size X w'):=hpv;have HVT:Hid (lst es=true→V=0):=hvt;have HVF:Hid (lst es=false→V=1∧∀X,Gl X→Calls Tryz.prog 22 #[.string ⟨(sbs (cyS es.reverse)).toArray⟩,.agg #[.int .i64 m1,.int .i64 m2,.int .i64 m3,.int .i64 m4]] X fun e w'=>e=.returned (.tuple #[.bool true,.int .i64 0])∧Below X.heap.size X w'):=hvf;have CLS:Hid (∀X,Atms X u5 es→Calls Tryz.prog 30 #[u5] X fun e w'=>e=.returned (.bool (lst es))∧Below X.heap.size X w'):=fun X hX=>ziy es HOK.out h10 u5 X hX
   have HAT:Hid (Atms wr u5 es):=zjv hown;have hTl:(sbs (cyS es.reverse)).length≤200:=by
    have:=zdi es.reverse (fun a ha=>HOK.out a (List.mem_reverse.1 ha));rw[List.length_reverse] at this;omega
   have HBL:Hid (Below w.heap.size w wr):=HB1.out.trans (hbel.mono HB1.out.size);clear hpv hvt hvf hown hbel HOK h10 hnn HR HN CPV hle;generalize sbs (cyS es.reverse)=TX at *;generalize lst es=LS at *;have q1:Sh ⟨#[33]⟩:=by unfold Sh;show 1≤100000000;omega
   have q2:Sh ⟨TX.toArray⟩:=zk3 (by omega);have HST:Hid ((⟨#[33]⟩:ByteArray)++⟨TX.toArray⟩=⟨(33::TX).toArray⟩):=zaq [33] TX;clear hTl;unfold strV;rcases hex with h1|⟨h1,h2⟩
   all_goals
    go_wp2_with fail;rw[HST.out];refine Calls.mono (CPr.out _ (HGL.out _ HBL.out)) ?_;rintro e w2 ⟨pa,pn,pc,rfl,hb2⟩;have HB2:Hid (Below w.heap.size w (w2.alloc (.cells #[.int .i64 V,.int .i64 0,.int .i64 m1,.int .i64 m2,.int .i64 m3,.int .i64 m4,.slice pa pn pc] 51))):=(HBL.out.trans (hb2.mono HBL.out.size)).alloc (by have:=HBL.out.size;have:=hb2.size;omega) _;have HAT2:Hid (Atms (w2.alloc (.cells #[.int .i64 V,.int .i64 0,.int .i64 m1,.int .i64 m2,.int .i64 m3,.int .i64 m4,.slice pa pn pc] 51)) u5 es):=(HAT.out.below hb2).below (zaa _ _);have HA2:Hid (Blk (w2.alloc (.cells #[.int .i64 V,.int .i64 0,.int .i64 m1,.int .i64 m2,.int .i64 m3,.int .i64 m4,.slice pa pn pc] 51)) w2.heap.size 51 [.int .i64 V,.int .i64 0,.int .i64 m1,.int .i64 m2,.int .i64 m3,.int .i64 m4,.slice pa pn pc]):=heap_alloc_new w2 _;clear hb2 HBL HAT CPr;go_wp2_with fail;generalize (w2.alloc (.cells #[.int .i64 V,.int .i64 0,.int .i64 m1,.int .i64 m2,.int .i64 m3,.int .i64 m4,.slice pa pn pc] 51))=X2 at *;refine Calls.mono (CLS.out _ HAT2.out) ?_;rintro e w3 ⟨rfl,hb3⟩;have HB3:Hid (Below w.heap.size w w3):=HB2.out.trans (hb3.mono HB2.out.size);have hA3:=HA2.out.below hb3;have a0:=hA3.cell (i:=0) rfl;have a2:=hA3.cell (i:=2) rfl;have a3:=hA3.cell (i:=3) rfl;have a4:=hA3.cell (i:=4) rfl;have a5:=hA3.cell (i:=5) rfl;have al:=hA3.lt;have HA3:Hid (Blk w3 w2.heap.size 51 [.int .i64 V,.int .i64 0,.int .i64 m1,.int .i64 m2,.int .i64 m3,.int .i64 m4,.slice pa pn pc]):=hA3;clear hb3 hA3 HA2 HB2 HAT2 CLS;cases LS with
    | true =>
     have hV:=HVT.out rfl;subst hV;go_wp2_with fail;go_ret;exact⟨rfl,HB3.out⟩
    | false =>
     obtain⟨hV,hcv⟩:=HVF.out rfl;subst hV;have CV:Hid _:=hcv;clear hcv;go_wp2_with fail;refine Calls.mono (CV.out _ (HGL.out _ HB3.out)) ?_;rintro e w4 ⟨rfl,hb4⟩;have HB4:Hid (Below w.heap.size w w4):=HB3.out.trans (hb4.mono HB3.out.size);have b0:=(HA3.out.below hb4).cell (i:=0) rfl;clear hb4 a0 a2 a3 a4 a5;go_wp2_with fail;go_ret;exact⟨rfl,HB4.out⟩
inductive Wp (E:Eg):Nat→Nat→List Nat→List Nat→Int→Prop
 | nil (i:Nat):Wp E i i [] [i] 0
 | cons {k i j t:Nat} {n s:Int} {ks ns:List Nat}:E k i j n→Wp E j t ks ns s→Wp E i t (k::ks) (i::ns) (n+s)
theorem Wp.len {E:Eg} {i j:Nat} {p ns:List Nat} {s:Int} (w:Wp E i j p ns s):ns.length=p.length+1:=by
 induction w with
 | nil i=>rfl
 | cons e _ ih=>simp[ih]
theorem Wp.mono {E F:Eg} (h:∀k i j n,E k i j n→F k i j n) {i j:Nat} {p ns:List Nat} {s:Int} (w:Wp E i j p ns s):Wp F i j p ns s:=by
 induction w with
 | nil i=>exact .nil i
 | cons e _ ih=>exact .cons (h _ _ _ _ e) ih
theorem Wp.join {E:Eg} {i l r j num:Nat} {q o ns ms:List Nat} {x y n:Int} (w:Wp E i l q ns x) (e:E num l r n) (v:Wp E r j o ms y):Wp E i j (q++num::o) (ns++ms) (x+n+y):=by
 induction w with
 | nil i=>rw[Int.zero_add];exact .cons e v
 | @cons k i t l n' s ks ns e' w ih =>
  have:=Wp.cons e' (ih e);rw[show n'+s+n+y=n'+(s+n+y) by omega];exact this
theorem Wp.wk {E:Eg} {i j:Nat} {p ns:List Nat} {s:Int} (w:Wp E i j p ns s):Wk E i j p s:=by
 induction w with
 | nil i=>exact .nil i
 | cons e _ ih=>exact .cons e ih
theorem Wp.cut {E:Eg} {i j:Nat} {p ns:List Nat} {s:Int} (w:Wp E i j p ns s):∀z∈ns,∃p1 p2 s1 s2,Wk E i z p1 s1∧Wk E z j p2 s2∧s=s1+s2:=by
 induction w with
 | nil i=>intro z hz;rw[List.mem_singleton] at hz;subst hz;exact⟨[],[],0,0,.nil z,.nil z,rfl⟩
 | @cons k i j t n s ks ns e w ih =>
  intro z hz;rcases List.mem_cons.1 hz with rfl|hz
  ·exact⟨[],k::ks,0,n+s,.nil z,.cons e w.wk,by omega⟩
  ·obtain⟨p1,p2,s1,s2,h1,h2,h3⟩:=ih z hz;exact⟨k::p1,p2,n+s1,s2,.cons e h1,h2,by omega⟩
def BSim (E:Eg) (b:Bd):Prop:=∀i j m p,b i j=some (m,p)→∃ns,Wp E i j p ns m∧ns.Nodup
theorem zmr:BSim (fun _ _ _ _=>False) bno:=by
 intro i j m p h;unfold bno at h;split at h
 ·rename_i e;subst e;injection h with h;injection h with h1 h2;subst h1 h2;exact⟨[i],.nil i,by simp⟩
 ·cases h
theorem zjw {b:Bd} {l r:Nat} {n:Int} {num i j:Nat} {m:Int} {p:List Nat} (h:bwith b l r n num i j=some (m,p)):b i j=some (m,p)∨∃x y q o,b i l=some (x,q)∧b r j=some (y,o)∧m=x+n+y∧p=q++num::o∧∀m' q',b i j=some (m',q')→¬m'≤x+n+y:=by
 unfold bwith at h;split at h
 ·rename_i x q y o h1 h2
  split at h
  ·rename_i m' o' h3
   split at h
   ·injection h with h;injection h with e1 e2;subst e1 e2;exact Or.inl h3
   ·rename_i hn
    injection h with h;injection h with e1 e2;subst e1 e2
    exact Or.inr ⟨x,y,q,o,h1,h2,rfl,rfl,fun m'' q'' e=>by rw[h3] at e;injection e with e;injection e with e1 e2;subst e1;exact hn⟩
  ·rename_i h3
   injection h with h;injection h with e1 e2;subst e1 e2
   exact Or.inr ⟨x,y,q,o,h1,h2,rfl,rfl,fun m'' q'' e=>by rw[h3] at e;cases e⟩
 ·exact Or.inl h
theorem zjx {E:Eg} {b:Bd} (h:BOk E b) (hs:BSim E b) (num l r:Nat) (n:Int) (hc:∀m p,b r l=some (m,p)→0≤m+n):BSim (addE E num l r n) (bwith b l r n num):=by
 have mono:∀k i j m,E k i j m→addE E num l r n k i j m:=fun k i j m e=>Or.inl e
 intro i j m p e;rcases zjw e with e|⟨x,y,q,o,h1,h2,rfl,rfl,hnew⟩
 ·obtain⟨ns,w,d⟩:=hs i j m p e;exact⟨ns,w.mono mono,d⟩
 ·obtain⟨ns,w1,d1⟩:=hs _ _ _ _ h1;obtain⟨ms,w2,d2⟩:=hs _ _ _ _ h2;refine⟨ns++ms,(w1.mono mono).join (Or.inr ⟨rfl,rfl,rfl,rfl⟩) (w2.mono mono),List.nodup_append.2 ⟨d1,d2,fun z hz z' hz' e=>?_⟩⟩;subst e;obtain⟨p1,p2,s1,s2,a1,a2,a3⟩:=w1.cut z hz;obtain⟨p3,p4,t1,t2,c1,c2,c3⟩:=w2.cut z hz';obtain⟨m',q',f1,f2⟩:=h.least _ _ _ _ (a1.app c2);obtain⟨m'',q'',g1,g2⟩:=h.least _ _ _ _ (c1.app a2);have:=hc _ _ g1;exact hnew m' q' f1 (by omega)
theorem Wp.in5 {E:Eg} (hE:∀k i j n,E k i j n→i<5∧j<5) {i j:Nat} {p ns:List Nat} {s:Int} (w:Wp E i j p ns s):j<5→∀x∈ns,x<5:=by
 induction w with
 | nil i=>intro hj x hx;rw[List.mem_singleton] at hx;subst hx;exact hj
 | cons e _ ih =>
  intro hj x hx;rcases List.mem_cons.1 hx with rfl|hx
  ·exact(hE _ _ _ _ e).1
  ·exact ih hj x hx
theorem zg4 {E:Eg} {b:Bd} (hs:BSim E b) (hE:∀k i j n,E k i j n→i<5∧j<5) {i j:Nat} {m:Int} {p:List Nat} (hj:j<5) (h:b i j=some (m,p)):p.length≤4:=by
 obtain⟨ns,w,d⟩:=hs i j m p h;have h1:=zdt 5 ns d (w.in5 hE hj);have h2:=w.len;omega
end Go.Proofs.YtkinoehmcfhgbaaGreatDoor.Vl
