/- A part of the proof. -/
import Derived.Test.YtkinoehmcfhgbaaGreatDoorH18
set_option linter.unusedVariables false
set_option linter.unusedSimpArgs false
set_option maxRecDepth 100000
set_option maxHeartbeats 12000000
namespace Go.Proofs.YtkinoehmcfhgbaaGreatDoor.Vl
open Go.RowKit
theorem zeP (us:List Atm) (g:List Pt) (k:Nat) (A:Nat→Int) (b:Bd):sch us g k 0 A b=(eUnk,0):=by cases k<;>rfl
theorem zgP {us:List Atm} {g:List Pt} {k s:Nat} {A:Nat→Int} {b:Bd} (h1:(gtr (lok us A b) 0 g).headD 0≠1) (h2:(gtr (lok us A b) 0 g).headD 0≠2) {num:Nat} {t:Int} (hn:(pick0 g (gtr (lok us A b) 0 g)).2.2.1.toNat=num) (ht:(pick0 g (gtr (lok us A b) 0 g)).2.2.2=t) :
 sch us g (k+1) (s+1) A b=splR num t (sch us g k s (setN A num t) (bwa b (us.getD num (0,0,0)) t num)) (sch us g k (sch us g k s (setN A num t) (bwa b (us.getD num (0,0,0)) t num)).2 (setN A num (tnot t)) (bwa b (us.getD num (0,0,0)) (tnot t) num)):=by
 have hst:=zaM (us:=us) (g:=g) (fin:=finF us g) (two:=twoF) k s A b;rw[if_neg h1,if_neg h2,hn,ht] at hst;exact hst
theorem zcV (w0 w:World) (D:PD) (us:List Atm) (g:List Pt) (n:Nat) (A:Nat→Int) (ats parts:List Int) (cs:List Value) (h:PvS w0 w D us g 0 n A ats parts) :
 Calls Tryz.prog 88 #[.pointer (some ⟨D.pb,0,none⟩),.agg cs.toArray] w (SrR w0 D us g (n+2*0) A eUnk 0 w):=by
 obtain⟨W1,hW1⟩:∃W1,(w.alloc (.cells cs.toArray 192)).alloc (.cells zZb 186)=W1:=⟨_,rfl⟩
 have hb1:Below w.heap.size w W1:=by rw[←hW1];exact(zaa w _).alloc (by simp) _
 have hrs1:Blk W1 (w.heap.size+1) 186 (enC 0 [] z9 (0,0,0,0)):=by
  rw[←hW1];have:=heap_alloc_new (w.alloc (.cells cs.toArray 192)) (.cells zZb 186);rw[World.size_alloc] at this;exact this
 have hP1:=h.below hb1;obtain⟨c0,c1,c2,c3,c4,c5,c6⟩:=hP1.cells;have hR:=hrs1.row (zaj _ _ _ _);rw[zah 0 [] (0,0,0,0) rfl] at hR;have hcl:=zah 2 [] (0,0,0,0) (ws:=z9) rfl;have hcz:(enC 2 [] z9 (0,0,0,0)).toArray.size=15:=by rw[List.size_toArray];exact hcl
 have hone:=all_oneCell_toArray (zaj 2 [] z9 (0,0,0,0));have hiB:(Tryz.prog.info? 186).map (·.size)=some (enC 2 [] z9 (0,0,0,0)).toArray.size:=by rw[hcz];exact Tryz.infoEnd
 have hth:W1.there (w.heap.size+1) 0 (enC 2 [] z9 (0,0,0,0)).toArray.size:=by rw[hcz];exact hR.there 0 15 (by omega)
 have hb7:Below w.heap.size W1 (W1.setCells (w.heap.size+1) 0 (enC 2 [] z9 (0,0,0,0))):=zad (by omega) _ 0 W1 W1 (Below.refl _ _);have HP7:Hid _:=h.far hP1 hb7;have HF7:Hid (FrX D.M w (W1.setCells (w.heap.size+1) 0 (enC 2 [] z9 (0,0,0,0)))):=FrX.far (FrX.of_below hb1) hb7;have HR:Hid (Av.Row W1 (w.heap.size+1) 15):=hR;clear h hP1 hb1 hR hb7 hrs1;go_enter Tryz.func88,Tryz.ntmps88;go_wp2_with (refine wpList_store_mid rfl 186 (.tmp 4) (.tmp 10) rfl (w.heap.size+1) 0 (enC 2 [] z9 (0,0,0,0)).toArray rfl rfl ?_ hiB hone ?_;(exact hth));exact Av.postN (enC 2 [] z9 (0,0,0,0)) rfl rfl Tryz.underlying186 rfl Tryz.infoEnd HR.out hcl ⟨z9,n,A,ats,parts,rfl,zgx,by simp[eUnk],HP7.out,Nat.le_refl _,fun _=>rfl,HF7.out⟩
theorem zfx (w0:World) (D:PD) (us:List Atm) (g:List Pt) (k:Nat) (hC:SrC w0 D us g k) (hsx:SX us g) (hgt:Gt w0) (w:World) (s n:Nat) (A:Nat→Int) (ats parts:List Int) (B:Bd) (cs:List Value) (hs:s≤k) (h:PvS w0 w D us g (s+1) n A ats parts) (hcs:BdC w cs B) (hSI:SI us A B) (hn:n+2*(s+1)≤100000) :
 Calls Tryz.prog 88 #[.pointer (some ⟨D.pb,0,none⟩),.agg cs.toArray] w (SrR w0 D us g (n+2*(s+1)) A (sch us g (k+1) (s+1) A B).1 (sch us g (k+1) (s+1) A B).2 w):=by
 have hus5:=hsx.us5;obtain⟨W1,hW1⟩:∃W1,(w.alloc (.cells cs.toArray 192)).alloc (.cells zZb 186)=W1:=⟨_,rfl⟩
 have hb1:Below w.heap.size w W1:=by rw[←hW1];exact(zaa w _).alloc (by simp) _
 have hkb1:Blk W1 w.heap.size 192 cs:=by rw[←hW1];exact(Below.heap_alloc _ _ _ (by simp)).trans (heap_alloc_new w _)
 have hrs1:Blk W1 (w.heap.size+1) 186 (enC 0 [] z9 (0,0,0,0)):=by
  rw[←hW1];have:=heap_alloc_new (w.alloc (.cells cs.toArray 192)) (.cells zZb 186);rw[World.size_alloc] at this;exact this
 have hP1:=h.below hb1;have hB1:BdAt W1 w.heap.size 0 B:=(hcs.below hb1).to hkb1.lt hkb1.range;have hmlt:=h.mlt;have hwM:w.heap.size∉D.M:=fun e=>by have:=hmlt _ e;omega
 have hwM1:w.heap.size+1∉D.M:=fun e=>by have:=hmlt _ e;omega
 have hpl:=hmlt _ D.mp;have hsub:∀m∈[D.pb],m∈D.M:=fun m hm=>by rw[List.mem_singleton.1 hm];exact D.mp
 have hP2:=hP1.setS s;have hf2:=zap W1 D.pb 3 (.int .i64 (s:Int));have hB2:BdAt (W1.setCell ⟨D.pb,3,none⟩ (.int .i64 (s:Int))) w.heap.size 0 B:=hB1.fr hf2 (hP1.noi.sub hsub) (fun e=>hwM (hsub _ e));have hrs2:Blk (W1.setCell ⟨D.pb,3,none⟩ (.int .i64 (s:Int))) (w.heap.size+1) 186 (enC 0 [] z9 (0,0,0,0)):=hrs1.fr hf2 (fun e=>hwM1 (hsub _ e));have hF2:FrX D.M w (W1.setCell ⟨D.pb,3,none⟩ (.int .i64 (s:Int))):=(FrX.of_below hb1).trans (hf2.sub hsub);have CL:Hid _:=zjg w0 _ D us g s n A ats parts w.heap.size B hP2 hB2 hwM hsx.ok (by omega) hsx.gl hsx.gw hSI.t3;obtain⟨c0,c1,c2,c3,c4,c5,c6⟩:=hP1.cells;have hfz:=hP1.box.free 3;have HN2:Hid (NoI (W1.setCell ⟨D.pb,3,none⟩ (.int .i64 (s:Int))) D.M):=hP2.noi;have HB2:Hid _:=hB2;have HR2:Hid (Blk (W1.setCell ⟨D.pb,3,none⟩ (.int .i64 (s:Int))) (w.heap.size+1) 186 (enC 0 [] z9 (0,0,0,0))):=hrs2;have HF2:Hid _:=hF2;have HP:Hid _:=h;have HWM:Hid _:=hwM;have HWM1:Hid _:=hwM1;have hsub1:IntKind.i64.wrap (((s+1:Nat):Int)-1)=(s:Int):=by rw[show((s+1:Nat):Int)-1=(s:Int) by omega];exact IntWalk.i64_in _ (by omega)
 have hsn:(((s+1:Nat):Int)==0)=false:=by rw[beq_eq_false_iff_ne];omega
 have HCC:Hid _:=hC;have HSX:Hid _:=hsx;have HSI:Hid _:=hSI;have HGT:Hid _:=hgt;have h3:=zf9 (zcT (us:=us) B hSI.t3) hsx.gw 0;have hg0:=hsx.g0;have hg0':(0:Int)<(g.length:Int):=by omega
 clear h hP1 hP2 hf2 hB1 hB2 hrs1 hrs2 hF2 hkb1 hwM hwM1 hC hsx hSI hgt hcs hsub;go_enter Tryz.func88,Tryz.ntmps88;go_wp2_with fail;refine Calls.mono CL.out ?_;rintro e w3 ⟨rfl,hP3,hfr3⟩;have hB3:BdAt w3 w.heap.size 0 B:=BdAt.fr HB2.out hfr3 HN2.out HWM.out;have hrs3:=Blk.fr HR2.out hfr3 HWM1.out;have hF3:FrX D.M w w3:=FrX.trans HF2.out hfr3;have hsz3:=hrs3.lt;obtain⟨d0,d1,d2,d3,d4,d5,d6⟩:=hP3.cells;have hq0:=hP3.pcell (i:=0) hg0;by_cases e1:(gtr (lok us A B) 0 g).getD 0 0=1
 ·rw[e1] at hq0;have HE:Hid (sch us g (k+1) (s+1) A B=(⟨1,[],fun _=>false,bmd B⟩,s)):=by
   show _=_
   have:=zaM (us:=us) (g:=g) (fin:=finF us g) (two:=twoF) k s A B;rw[if_pos (by rw[zaq];exact e1)] at this;exact this
  have CS:Hid _:=ziB w3 w.heap.size B hB3 (fun j hj=>by have:=zcf HSX.out.ok HSI.out j;omega);clear e1 h3 c0 c1 c2 c3 c4 c5 c6 hfz hfr3 hB3;go_wp2_with fail;refine Calls.mono CS.out ?_;rintro e w4 ⟨rfl,hb4⟩;have hrsY:=hrs3.below hb4;have hP4:=hP3.below hb4;have hF4:FrX D.M w w4:=hF3.trans (FrX.of_below hb4);clear hP3 hrs3 hF3;generalize bmd B=m at *;obtain⟨m1,m2,m3,m4⟩:=m;dsimp only;have hR:=Blk.row hrsY (zaj _ _ _ _);rw[zah 0 [] (0,0,0,0) rfl] at hR;have hcl:(enC 1 [] z9 (m1,m2,m3,m4)).length=15:=zah _ _ _ (rfl:z9.length=9);have hcz:(enC 1 [] z9 (m1,m2,m3,m4)).toArray.size=15:=by rw[List.size_toArray];exact hcl
  have hone:=all_oneCell_toArray (zaj 1 [] z9 (m1,m2,m3,m4));have hiB:(Tryz.prog.info? 186).map (·.size)=some (enC 1 [] z9 (m1,m2,m3,m4)).toArray.size:=by rw[hcz];exact Tryz.infoEnd
  have hth:w4.there (w.heap.size+1) 0 (enC 1 [] z9 (m1,m2,m3,m4)).toArray.size:=by rw[hcz];exact hR.there 0 15 (by omega)
  have hb7:Below w.heap.size w4 (w4.setCells (w.heap.size+1) 0 (enC 1 [] z9 (m1,m2,m3,m4))):=zad (by omega) _ 0 w4 w4 (Below.refl _ _);have HP7:Hid _:=HP.out.far hP4 hb7;have HF7:Hid (FrX D.M w (w4.setCells (w.heap.size+1) 0 (enC 1 [] z9 (m1,m2,m3,m4)))):=FrX.far hF4 hb7;have HR:Hid (Av.Row w4 (w.heap.size+1) 15):=hR;have HCL:Hid ((enC 1 [] z9 (m1,m2,m3,m4)).length=15):=hcl;clear hb7 hR hcl hrsY;go_wp2_with (refine wpList_store_mid rfl 186 (.tmp 4) (.tmp 29) rfl (w.heap.size+1) 0 (enC 1 [] z9 (m1,m2,m3,m4)).toArray rfl rfl ?_ hiB hone ?_;(exact hth));exact Av.postN (enC 1 [] z9 (m1,m2,m3,m4)) rfl rfl Tryz.underlying186 rfl Tryz.infoEnd HR.out HCL.out (by rw[HE.out];exact⟨z9,n,A,_,_,rfl,zgx,by simp,HP7.out,by omega,fun _=>rfl,HF7.out⟩)
 ·by_cases e2:(gtr (lok us A B) 0 g).getD 0 0=2
  ·rw[e2] at hq0;have HE:Hid (sch us g (k+1) (s+1) A B=(finF us g A B,s)):=by
    show _=_
    have:=zaM (us:=us) (g:=g) (fin:=finF us g) (two:=twoF) k s A B;rw[if_neg (by rw[zaq];exact e1),if_pos (by rw[zaq];exact e2)] at this;exact this
   have CF:Hid _:=zgI w0 w3 D us g s n A (lok us A B) (gtr (lok us A B) 0 g) w.heap.size B hP3 hB3 HSX.out.ok hus5 (zcT B HSI.out.t3) HSX.out.gl hg0 HSX.out.gw (SI.by4 HSI.out HSX.out.ok) (SI.byx HSI.out HSX.out.ok) (Gt.on HGT.out hP3.h0);clear e1 e2 h3 c0 c1 c2 c3 c4 c5 c6 hfz hfr3 hB3;go_wp2_with fail;refine Calls.mono CF.out ?_;rintro e w4 ⟨ws,rfl,hSR,hpl4,hb4⟩;have hrsY:=hrs3.below hb4;have hP4:=hP3.below hb4;have hF4:FrX D.M w w4:=hF3.trans (FrX.of_below hb4);clear hP3 hrs3 hF3;change SetR ws (finF us g A B).nd at hSR;change (finF us g A B).pf.length≤400010 at hpl4;change _;rw[show enC 0 (fnl us A (lok us A B) B (rsn (wts us A (lok us A B) B (gtr (lok us A B) 0 g) 0 g) g g.length).2 us.length).1 ws (0,0,0,0)=enC (finF us g A B).v (finF us g A B).pf ws (finF us g A B).md from rfl];have HSR:Hid _:=hSR;generalize finF us g A B=EE at *;have hR:=Blk.row hrsY (zaj _ _ _ _);rw[zah 0 [] (0,0,0,0) rfl] at hR;have hcl:(enC EE.v EE.pf ws EE.md).length=15:=zah _ _ _ hSR.len;have hcz:(enC EE.v EE.pf ws EE.md).toArray.size=15:=by rw[List.size_toArray];exact hcl
   have hone:=all_oneCell_toArray (zaj EE.v EE.pf ws EE.md);have hiB:(Tryz.prog.info? 186).map (·.size)=some (enC EE.v EE.pf ws EE.md).toArray.size:=by rw[hcz];exact Tryz.infoEnd
   have hth:w4.there (w.heap.size+1) 0 (enC EE.v EE.pf ws EE.md).toArray.size:=by rw[hcz];exact hR.there 0 15 (by omega)
   have hb7:Below w.heap.size w4 (w4.setCells (w.heap.size+1) 0 (enC EE.v EE.pf ws EE.md)):=zad (by omega) _ 0 w4 w4 (Below.refl _ _);have HP7:Hid _:=HP.out.far hP4 hb7;have HF7:Hid (FrX D.M w (w4.setCells (w.heap.size+1) 0 (enC EE.v EE.pf ws EE.md))):=FrX.far hF4 hb7;have HR:Hid (Av.Row w4 (w.heap.size+1) 15):=hR;have HCL:Hid ((enC EE.v EE.pf ws EE.md).length=15):=hcl;clear hb7 hR hcl hrsY;go_wp2_with (refine wpList_store_mid rfl 186 (.tmp 4) (.tmp 33) rfl (w.heap.size+1) 0 (enC EE.v EE.pf ws EE.md).toArray rfl rfl ?_ hiB hone ?_;(exact hth));exact Av.postN (enC EE.v EE.pf ws EE.md) rfl rfl Tryz.underlying186 rfl Tryz.infoEnd HR.out HCL.out (by rw[HE.out];exact⟨ws,n,A,_,_,rfl,HSR.out,hpl4,HP7.out,by omega,fun _=>rfl,HF7.out⟩)
  ·have h0:(gtr (lok us A B) 0 g).headD 0=0:=by
    rw[zaq];rcases h3 with h|h|h
    ·exact h
    ·exact absurd h e1
    ·exact absurd h e2
   obtain⟨num,a1,a2,a3,a4,_⟩:=zeI HSX.out.gw (zcT B HSI.out.t3) h0 (by intro e;rw[e] at hg0;simp at hg0);have hA0:A num=0:=by
    have a4':=a4;rw[zcS A B a2] at a4';by_cases e:A num=0
    ·exact e
    ·rw[if_pos e] at a4';exact absurd a4' e
   have HE:Hid _:=zgP (us:=us) (g:=g) (k:=k) (s:=s) (A:=A) (b:=B) (by rw[zaq];exact e1) (by rw[zaq];exact e2) (num:=num) (t:=(pick0 g (gtr (lok us A B) 0 g)).2.2.2) (by omega) rfl;have CP:Hid _:=zer w0 w3 D us g s n A (lok us A B) (gtr (lok us A B) 0 g) hP3 HSX.out.gl hg0 HSX.out.gw;rw[zaq] at h0;rw[h0] at hq0;generalize hPK:pick0 g (gtr (lok us A B) 0 g)=x at *;obtain⟨y1,y2,y3,t⟩:=x;dsimp only at a1 a3 HE;subst a1;have CS:Hid (∀X,Below w3.heap.size w3 X→_):=fun X hX=>zka w0 X D us g s n k A (lok us A B) (gtr (lok us A B) 0 g) w.heap.size B y1 y2 num t HCC.out hs (hP3.below hX) (hB3.below hX) HWM.out HSX.out HSI.out a2 a4 hA0 a3 (by omega) HGT.out
   generalize splR num t (sch us g k s (setN A num t) (bwa B (us.getD num (0,0,0)) t num)) (sch us g k (sch us g k s (setN A num t) (bwa B (us.getD num (0,0,0)) t num)).2 (setN A num (tnot t)) (bwa B (us.getD num (0,0,0)) (tnot t) num))=RR at *;obtain⟨EE,se⟩:=RR;dsimp only at CS;have HRS:Hid _:=hrs3;have HF3:Hid _:=hF3;clear e1 e2 h3 c0 c1 c2 c3 c4 c5 c6 hfz hfr3 hB3 hPK h0 hP3 hrs3 hF3 hA0 a4;go_wp2_with (go_at_call 132;refine Calls.mono CP.out ?_;rintro e w4 ⟨rfl,hb4⟩;(simp only[ptA]));refine Calls.mono (CS.out _ hb4) ?_;rintro e w5 ⟨ws,n',A',ats',parts',rfl,hSR,hpl5,hP5,hnn,hAA,hfr5⟩;have hrsY:=Blk.fr (Blk.below HRS.out hb4) hfr5 HWM1.out;have hF5:FrX D.M w w5:=(FrX.trans HF3.out (FrX.of_below hb4)).trans hfr5;have HSR:Hid _:=hSR;have hR:=Blk.row hrsY (zaj _ _ _ _);rw[zah 0 [] (0,0,0,0) rfl] at hR;have hcl:(enC EE.v EE.pf ws EE.md).length=15:=zah _ _ _ hSR.len;have hcz:(enC EE.v EE.pf ws EE.md).toArray.size=15:=by rw[List.size_toArray];exact hcl
   have hone:=all_oneCell_toArray (zaj EE.v EE.pf ws EE.md);have hiB:(Tryz.prog.info? 186).map (·.size)=some (enC EE.v EE.pf ws EE.md).toArray.size:=by rw[hcz];exact Tryz.infoEnd
   have hth:w5.there (w.heap.size+1) 0 (enC EE.v EE.pf ws EE.md).toArray.size:=by rw[hcz];exact hR.there 0 15 (by omega)
   have hb7:Below w.heap.size w5 (w5.setCells (w.heap.size+1) 0 (enC EE.v EE.pf ws EE.md)):=zad (by omega) _ 0 w5 w5 (Below.refl _ _);have HP7:Hid _:=HP.out.far hP5 hb7;have HF7:Hid (FrX D.M w (w5.setCells (w.heap.size+1) 0 (enC EE.v EE.pf ws EE.md))):=FrX.far hF5 hb7;have HR:Hid (Av.Row w5 (w.heap.size+1) 15):=hR;have HCL:Hid ((enC EE.v EE.pf ws EE.md).length=15):=hcl;clear hb7 hR hcl hrsY;go_wp2_with (refine wpList_store_mid rfl 186 (.tmp 4) (.tmp 37) rfl (w.heap.size+1) 0 (enC EE.v EE.pf ws EE.md).toArray rfl rfl ?_ hiB hone ?_;(exact hth));exact Av.postN (enC EE.v EE.pf ws EE.md) rfl rfl Tryz.underlying186 rfl Tryz.infoEnd HR.out HCL.out (by rw[HE.out];exact⟨ws,n',A',ats',parts',rfl,HSR.out,hpl5,HP7.out,by omega,hAA,HF7.out⟩)
theorem zdQ (w0:World) (D:PD) (us:List Atm) (g:List Pt) (hsx:SX us g) (hgt:Gt w0):∀k,SrC w0 D us g k
 | 0=>fun w s n A ats parts B cs hs h hcs hSI hn=>by
  obtain rfl:s=0:=by omega
  rw[zeP];exact zcV w0 w D us g n A ats parts cs h
 | k+1=>fun w s n A ats parts B cs hs h hcs hSI hn=>by
  cases s with
  | zero =>
   rw[zeP];exact zcV w0 w D us g n A ats parts cs h
  | succ s=>exact zfx w0 D us g k (zdQ w0 D us g hsx hgt k) hsx hgt w s n A ats parts B cs (by omega) h hcs hSI hn
def CdS (w:World) (v:Value) (l:List Sym):Prop:=(l=[]∧∃p c,v=.slice p 0 c)∨∃b o cap,v=.slice (some ⟨b,o,none⟩) l.length cap∧0<l.length∧l.length≤cap∧b<w.heap.size∧∀(j:Nat) (y:Sym),l[j]?=some y→w.cell? ⟨b,o+j*4,none⟩=some (.int .i64 y.1)∧w.cell? ⟨b,o+j*4+1,none⟩=some (.int .i64 y.2.1)∧w.cell? ⟨b,o+j*4+2,none⟩=some (.int .i64 y.2.2.1)∧w.cell? ⟨b,o+j*4+3,none⟩=some (.int .i64 y.2.2.2)
theorem CdS.shape {w:World} {v:Value} {l:List Sym} (h:CdS w v l):∃p c,v=.slice p l.length c:=by
 rcases h with⟨rfl,p,c,rfl⟩|⟨b,o,cap,rfl,_⟩
 ·exact⟨p,c,rfl⟩
 ·exact⟨_,_,rfl⟩
structure GS (w0 w:World) (B:Nat) (G:List Pt) (v:Value):Prop where
 b0:Below w0.heap.size w0 w
 hB:w0.heap.size≤B
 box:Blk w B 177 [v]
 own:w.ownsRow (B+1) 252 4 v G.length (cellsG G)
theorem GS.below {w0 w w':World} {B:Nat} {G:List Pt} {v:Value} (h:GS w0 w B G v) (hb:Below w.heap.size w w'):GS w0 w' B G v :=
 ⟨h.b0.trans (hb.mono h.b0.size),h.hB,h.box.below hb,zaf h.own hb⟩
theorem GS.shape {w0 w:World} {B:Nat} {G:List Pt} {v:Value} (h:GS w0 w B G v):∃p c,v=.slice p G.length c:=by
 rcases h.own.2 with⟨h1,h2⟩|⟨g,cap,cur,hv,_⟩
 ·exact⟨none,0,by rw[h1,h2]⟩
 ·exact⟨_,_,hv⟩
theorem zcE (us:List Atm):∀(k:Nat) (l:List Sym) (w:Int) (p:Nat),(gad us k l w p).1.length+(gad us k l w p).2.length≤l.length
 | 0,l,w,p=>by simp[gad]
 | k+1,[],w,p=>by simp[gad]
 | k+1,y::r,w,p=>by
  unfold gad;split
  ·have:=zcE us k r (tnot w) p;simp only[List.length_cons];omega
  ·split
   ·simp;omega
   ·split
    ·have h1:=zcE us k r (if y.1=5 then tnot w else w) (p+1);generalize gad us k r (if y.1=5 then tnot w else w) (p+1)=G1 at *;have h2:=zcE us k G1.2 w (p+1+G1.1.length);generalize gad us k G1.2 w (p+1+G1.1.length)=G2 at *;simp only[List.length_cons,List.length_append];omega
    ·simp;omega
def lenOf:Value→Nat|.slice _ n _=>n|_=>0
theorem Tryz.infoPart:(Tryz.prog.info? 252).map (fun i=>(i.zero,i.size,i.bytes))=some (some (.agg zZh),4,32):=by kernel_rfl
theorem zeQ {w:World} {base n sz:Nat} {e:TypeId} {v:Value} {xs:List Value} (h:w.ownsRow base e sz v n xs) {g:Nat} (hv:v.ownBlock=some g) {i:Nat} (hi:i<xs.length) (u:Value):(w.setCell ⟨g,i,none⟩ u).ownsRow base e sz v n (xs.set i u):=by
 obtain⟨h0,h1|⟨g',cap',cur,hv',hb,hh,h3,h4,h5,h6⟩⟩:=h
 ·rw[h1.1] at hv;cases hv
 ·have eg:g'=g:=by rw[hv'] at hv;injection hv
  subst eg;refine⟨by rw[List.length_set];exact h0,Or.inr ⟨g',cap',cur.setIfInBounds i u,hv',hb,heap_setCell_same w g' i cur e u hh,h3,h4,by rw[Array.size_setIfInBounds];exact h5,?_⟩⟩;rw[Array.toList_setIfInBounds,List.take_set,h6]
theorem zbz {w:World} {base n sz:Nat} {e:TypeId} {v:Value} {xs:List Value} (h:w.ownsRow base e sz v n xs) (hn:0<n) :
 ∃g cap,v=.slice (some ⟨g,0,none⟩) n cap∧base≤g∧g<w.heap.size∧n≤cap∧cap≤maxLen∧(∀j u,xs[j]?=some u→w.cell? ⟨g,j,none⟩=some u)∧∀o,w.frozen? ⟨g,o,none⟩=false:=by
 rcases h.2 with⟨h1,h2⟩|⟨g,cap,cur,hv,hg,hh,h3,h4,h5,h6⟩
 ·omega
 ·have hlt:g<w.heap.size:=(Array.getElem?_eq_some_iff.1 hh).1;refine⟨g,cap,hv,hg,hlt,h3,h4,fun j u hu=>?_,fun o=>by simp[World.frozen?,hh]⟩;rw[←h6,List.getElem?_take] at hu;split at hu
  ·have:cur[j]?=some u:=by simpa using hu
   simp[World.cell?,hh,this]
  ·cases hu
theorem zgQ (g:List Pt) (p:Nat) (x y:Pt) (o:Nat) (u:Value) (hx:g[p]?=some x) (h:cellsG [y]=(cellsG [x]).set o u) (ho:o<4):(cellsG g).set (p*4+o) u=cellsG (g.set p y):=by
 induction g generalizing p with
 | nil=>simp at hx
 | cons z r ih =>
  cases p with
  | zero =>
   obtain rfl:z=x:=by simpa using hx
   have e:cellsG (z::r)=cellsG [z]++cellsG r:=zaP [z] r;have e2:cellsG (y::r)=cellsG [y]++cellsG r:=zaP [y] r;rw[List.set_cons_zero,e,e2,h,Nat.zero_mul,Nat.zero_add,List.set_append_left _ _ (by rw[za5];simpa using ho)]
  | succ p =>
   have e:cellsG (z::r)=cellsG [z]++cellsG r:=zaP [z] r;have e2:cellsG (z::r.set p y)=cellsG [z]++cellsG (r.set p y):=zaP [z] _;rw[List.set_cons_succ,e,e2,List.set_append_right _ _ (by rw[za5];simp;omega),za5,←ih p (by simpa using hx)]
   congr 2
   simp;omega
theorem GS.set {w0 w:World} {B:Nat} {G:List Pt} {v:Value} {g:Nat} (h:GS w0 w B G v) (hv:v.ownBlock=some g) {p:Nat} {x y:Pt} (o:Nat) (u:Value) (hx:G[p]?=some x) (hy:cellsG [y]=(cellsG [x]).set o u) (ho:o<4) :
 GS w0 (w.setCell ⟨g,p*4+o,none⟩ u) B (G.set p y) v:=by
 have hpl:=(List.getElem?_eq_some_iff.1 hx).1;have hgB:B+1≤g:=zae h.own g hv;refine⟨h.b0.setCell (p:=⟨g,p*4+o,none⟩) (by have:=h.hB;show w0.heap.size≤g;omega) _,h.hB,h.box.other _ _ (by omega),?_⟩;have:=zeQ h.own hv (i:=p*4+o) (by rw[za5];omega) u;rw[zgQ G p x y o u hx hy ho] at this;rw[List.length_set];exact this
theorem GS.put {w0 w w3:World} {B:Nat} {G:List Pt} {v v':Value} {x:Pt} (h:GS w0 w B G v) (hg:w.grownBy w3 v.ownBlock) (hn:w3.ownsRow (B+1) 252 4 v' (G.length+1) (cellsG G++cellsG [x])):GS w0 (w3.setCell ⟨B,0,none⟩ v') B (G++[x]) v':=by
 have hob:=zae h.own;have hne:some B≠v.ownBlock:=fun e=>by have:=hob B e.symm;omega
 have hbx:Blk w3 B 177 [v]:=(hg.block B h.box.lt hne).trans h.box;refine⟨(h.b0.grown hg h.b0.size (fun k e=>by have:=hob k e;have:=h.hB;omega)).setCell (p:=⟨B,0,none⟩) h.hB _,h.hB,hbx.set 0 v',?_⟩;rw[zaP,List.length_append];exact ownsRow_setCell_below hn (by show B<B+1;omega) _
end Go.Proofs.YtkinoehmcfhgbaaGreatDoor.Vl
