/- A part of the proof. -/
import Derived.Test.YtkinoehmcfhgbaaGreatDoorN8
set_option linter.unusedVariables false
set_option linter.unusedSimpArgs false
set_option maxRecDepth 100000
set_option maxHeartbeats 4000000
namespace Go.Proofs.YtkinoehmcfhgbaaGreatDoor.Vl
open Go.RowKit
open Av (Fm Cm Rc IsF IsC Lst Same fv)
theorem WkAt.cond {w0 w w':World} {wb:Nat} {tl:Bool} {L:List (List Sym)} {v:Value} {q:List Sym} (h:WkAt w0 w wb tl L) (hc:CondR w v q) (hf:FrS wb w w'):CondR w' v q:=by
 obtain⟨tv,_,hh,_⟩:=h.hv;exact hc.fr hf hh (fun k hk=>(h.lb k hk).2.2)
theorem WkAt.old {w0 w:World} {wb:Nat} {tl:Bool} {L:List (List Sym)} {g o:Nat} {u:Value} (h:WkAt w0 w wb tl L) (hg:g<w0.heap.size) (hc:w0.cell? ⟨g,o,none⟩=some u):w.cell? ⟨g,o,none⟩=some u:=(h.b0.cell (p:=⟨g,o,none⟩) hg).trans hc
theorem zkp (w0:World) (wb:Nat) (v:Value) (w:World) (g o:Nat) (tl tl1 tl2:Bool) (L L1 L2:List (List Sym)) (F Q1 Q2:List Sym) (g1 n1 c1 g2 n2 c2:Nat) (k:Int) (p:Option Addr) (n m:Nat) (r a1 a2 a3 a4:Int)
 (hg:g<w0.heap.size) (hA:WkAt w0 w wb tl L) (hF:F.length≤30000) (hQ1:Q1.length≤4000) (hQ2:Q2.length≤4000)
 (z4:w0.cell? ⟨g,o+4,none⟩=some (.int .i64 k)) (z5:w0.cell? ⟨g,o+5,none⟩=some (.slice p n m)) (z6:w0.cell? ⟨g,o+6,none⟩=some (.int .i64 r)) (z7:w0.cell? ⟨g,o+7,none⟩=some (.int .i64 a1)) (z8:w0.cell? ⟨g,o+8,none⟩=some (.int .i64 a2)) (z9:w0.cell? ⟨g,o+9,none⟩=some (.int .i64 a3)) (z10:w0.cell? ⟨g,o+10,none⟩=some (.int .i64 a4))
 (z18:w0.cell? ⟨g,o+18,none⟩=some (.slice (some ⟨g1,0,none⟩) n1 c1)) (z19:w0.cell? ⟨g,o+19,none⟩=some (.slice (some ⟨g2,0,none⟩) n2 c2))
 (C2:Calls Tryz.prog 91 #[.pointer (some ⟨wb,0,none⟩),.slice (some ⟨g2,0,none⟩) n2 c2,v] w fun e w'=>∃v',e=.returned v'∧CondR w' v' Q2∧WkAt w0 w' wb tl2 L2∧FrS wb w w')
 (C1:∀X,WkAt w0 X wb tl2 L2→FrS wb w X→Calls Tryz.prog 91 #[.pointer (some ⟨wb,0,none⟩),.slice (some ⟨g1,0,none⟩) n1 c1,v] X fun e w'=>∃v',e=.returned v'∧CondR w' v' Q1∧WkAt w0 w' wb tl1 L1∧FrS wb X w')
 (CF:∀X,Below w0.heap.size w0 X→Calls Tryz.prog 92 #[.agg #[.int .i64 k,.slice p n m,.int .i64 r,.int .i64 a1,.int .i64 a2,.int .i64 a3,.int .i64 a4]] X fun e w'=>∃v,e=.returned v∧CondR w' v F∧Below X.heap.size X w') :
 Calls Tryz.prog 212 #[.pointer (some ⟨wb,0,none⟩),.pointer (some ⟨g,o,none⟩),v] w fun e w'=>∃v',e=.returned v'∧CondR w' v' ((4,0,0,0)::(3,0,0,0)::(F++(Q1++((3,0,0,0)::(2,0,0,0)::(F++Q2)))))∧WkAt w0 w' wb tl1 L1∧FrS wb w w':=by
 have H2:Hid _:=C2;have H1:Hid _:=C1;have HF:Hid _:=CF;have HE:Hid (((4:Int),(0:Int),(0:Int),(0:Int))::(3,0,0,0)::(F++(Q1++((3,0,0,0)::(2,0,0,0)::(F++Q2))))=(4,0,0,0)::[(3,0,0,0)::[F,Q1].flatten,(3,0,0,0)::[(2,0,0,0)::[F].flatten,Q2].flatten].flatten):=by
  show _=_
  simp only[List.flatten_cons,List.flatten_nil,List.append_nil,List.cons_append,List.append_assoc]
 have y19:=hA.old hg z19;have y18:=hA.old hg z18;clear C1 C2 CF;go_enter Tryz.func212,Tryz.ntmps212;go_wp2_with fail;refine Calls.mono H2.out ?_;rintro e w1 ⟨v1,rfl,hc1,hA1,hF1⟩;obtain⟨pa1,pc1,rfl⟩:=hc1.shape;have x18:=hA1.old hg z18;go_wp2_with fail;refine Calls.mono (H1.out _ hA1 hF1) ?_;rintro e w2 ⟨v2,rfl,hc2,hA2,hF2⟩;obtain⟨pa2,pc2,rfl⟩:=hc2.shape;have hc1b:=hA1.cond hc1 hF2;have x4:=hA2.old hg z4;have x5:=hA2.old hg z5;have x6:=hA2.old hg z6;have x7:=hA2.old hg z7;have x8:=hA2.old hg z8;have x9:=hA2.old hg z9;have x10:=hA2.old hg z10;go_wp2_with fail;refine Calls.mono (HF.out _ hA2.b0) ?_;rintro e w3 ⟨v3,rfl,hc3,hb3⟩;obtain⟨pa3,pc3,rfl⟩:=hc3.shape;go_wp2_with fail;refine Calls.mono (zaS 3 _ _ _ (zax w3 _ _ F Q1 75 hc3 (hc2.below hb3)) (by simp only[List.flatten_cons,List.flatten_nil,List.append_nil,List.length_append,List.length_cons];omega) (by simp)) ?_;rintro e w4 ⟨v4,rfl,hc4,hb4⟩;obtain⟨R4,E4⟩:∃R:List Sym,Hid (R=(3,0,0,0)::[F,Q1].flatten):=⟨_,rfl⟩
 rw[←E4.out] at hc4;have l4:R4.length≤34001:=by rw[E4.out];simp only[List.flatten_cons,List.flatten_nil,List.append_nil,List.length_append,List.length_cons];omega
 have b34:=(zaa w3 (.cells #[.slice pa3 F.length pc3,.slice pa2 Q1.length pc2] 75)).trans (hb4.mono (by simp));obtain⟨pa4,pc4,rfl⟩:=hc4.shape;go_wp2_with fail;refine Calls.mono (zaS 2 _ _ _ (zcO w4 _ F 75 (hc3.below b34)) (by simp only[List.flatten_cons,List.flatten_nil,List.append_nil,List.length_append,List.length_cons];omega) (by simp)) ?_;rintro e w5 ⟨v5,rfl,hc5,hb5⟩;obtain⟨R5,E5⟩:∃R:List Sym,Hid (R=(2,0,0,0)::[F].flatten):=⟨_,rfl⟩
 rw[←E5.out] at hc5;have l5:R5.length≤30001:=by rw[E5.out];simp only[List.flatten_cons,List.flatten_nil,List.append_nil,List.length_append,List.length_cons];omega
 have b45:=(zaa w4 (.cells #[.slice pa3 F.length pc3] 75)).trans (hb5.mono (by simp));obtain⟨pa5,pc5,rfl⟩:=hc5.shape;have hc1d:=((hc1b.below hb3).below b34).below b45;go_wp2_with fail;refine Calls.mono (zaS 3 _ _ _ (zax w5 _ _ R5 Q2 75 hc5 hc1d) (by simp only[List.flatten_cons,List.flatten_nil,List.append_nil,List.length_append,List.length_cons];omega) (by simp)) ?_;rintro e w6 ⟨v6,rfl,hc6,hb6⟩;obtain⟨R6,E6⟩:∃R:List Sym,Hid (R=(3,0,0,0)::[R5,Q2].flatten):=⟨_,rfl⟩
 rw[←E6.out] at hc6;have l6:R6.length≤34002:=by rw[E6.out];simp only[List.flatten_cons,List.flatten_nil,List.append_nil,List.length_append,List.length_cons];omega
 have b56:=(zaa w5 (.cells #[.slice pa5 R5.length pc5,.slice pa1 Q2.length pc1] 75)).trans (hb6.mono (by simp));obtain⟨pa6,pc6,rfl⟩:=hc6.shape;have hc4d:=(hc4.below b45).below b56;go_wp2_with fail;refine Calls.mono (zaS 4 _ _ _ (zax w6 _ _ R4 R6 75 hc4d hc6) (by simp only[List.flatten_cons,List.flatten_nil,List.append_nil,List.length_append,List.length_cons];omega) (by simp)) ?_;rintro e w7 ⟨v7,rfl,hc7,hb7⟩;have b67:Below w6.heap.size w6 w7:=(zaa w6 _).trans (hb7.mono (by simp));go_wp2_with fail;go_ret;refine⟨_,rfl,?_,((((hA2.below hb3).below b34).below b45).below b56).below b67,(hF1.trans hF2).trans ((FrS.of_below hb3).trans ((FrS.of_below b34).trans ((FrS.of_below b45).trans ((FrS.of_below b56).trans (FrS.of_below b67)))))⟩;rw[HE.out,←E4.out,←E5.out,←E6.out];exact hc7
theorem zmA (w0:World) (wb:Nat) (v:Value) (w:World) (g o:Nat) (tl tl1:Bool) (L L1:List (List Sym)) (F G q Q1 LV AG:List Sym) (g1 n1 c1:Nat) (k:Int) (p:Option Addr) (n m:Nat) (r a1 a2 a3 a4:Int) (k':Int) (p':Option Addr) (n' m':Nat) (r' b1 b2 b3 b4:Int)
 (eLV:LV=(5,0,0,0)::(3,0,0,0)::(G++((2,0,0,0)::(F++q)))) (eAG:AG=(5,0,0,0)::(3,0,0,0)::(G++(F++Q1)))
 (hg:g<w0.heap.size) (hA:WkAt w0 w wb tl L) (hc:CondR w v q) (hF:F.length≤20000) (hG:G.length≤20000) (hq:q.length≤20000) (hQ1:Q1.length≤4000) (hgt:Gt w0) (hL1:L1.length+1≤1000)
 (gLV:∀y∈LV,Good y) (bLV:bl LV≤1000000) (gAG:∀y∈AG,Good y) (bAG:bl AG≤1000000)
 (z4:w0.cell? ⟨g,o+4,none⟩=some (.int .i64 k)) (z5:w0.cell? ⟨g,o+5,none⟩=some (.slice p n m)) (z6:w0.cell? ⟨g,o+6,none⟩=some (.int .i64 r)) (z7:w0.cell? ⟨g,o+7,none⟩=some (.int .i64 a1)) (z8:w0.cell? ⟨g,o+8,none⟩=some (.int .i64 a2)) (z9:w0.cell? ⟨g,o+9,none⟩=some (.int .i64 a3)) (z10:w0.cell? ⟨g,o+10,none⟩=some (.int .i64 a4)) (z11:w0.cell? ⟨g,o+11,none⟩=some (.int .i64 k')) (z12:w0.cell? ⟨g,o+12,none⟩=some (.slice p' n' m')) (z13:w0.cell? ⟨g,o+13,none⟩=some (.int .i64 r')) (z14:w0.cell? ⟨g,o+14,none⟩=some (.int .i64 b1)) (z15:w0.cell? ⟨g,o+15,none⟩=some (.int .i64 b2)) (z16:w0.cell? ⟨g,o+16,none⟩=some (.int .i64 b3)) (z17:w0.cell? ⟨g,o+17,none⟩=some (.int .i64 b4))
 (z18:w0.cell? ⟨g,o+18,none⟩=some (.slice (some ⟨g1,0,none⟩) n1 c1))
 (CF:∀X,Below w0.heap.size w0 X→Calls Tryz.prog 92 #[.agg #[.int .i64 k,.slice p n m,.int .i64 r,.int .i64 a1,.int .i64 a2,.int .i64 a3,.int .i64 a4]] X fun e w'=>∃v,e=.returned v∧CondR w' v F∧Below X.heap.size X w')
 (CG:∀X,Below w0.heap.size w0 X→Calls Tryz.prog 92 #[.agg #[.int .i64 k',.slice p' n' m',.int .i64 r',.int .i64 b1,.int .i64 b2,.int .i64 b3,.int .i64 b4]] X fun e w'=>∃v,e=.returned v∧CondR w' v G∧Below X.heap.size X w')
 (C1:∀X u,CondR X u G→WkAt w0 X wb tl L→Calls Tryz.prog 91 #[.pointer (some ⟨wb,0,none⟩),.slice (some ⟨g1,0,none⟩) n1 c1,u] X fun e w'=>∃v',e=.returned v'∧CondR w' v' Q1∧WkAt w0 w' wb tl1 L1∧FrS wb X w') :
 Calls Tryz.prog 213 #[.pointer (some ⟨wb,0,none⟩),.pointer (some ⟨g,o,none⟩),v] w fun e w'=>∃v',e=.returned v'∧CondR w' v' G∧WkAt w0 w' wb ((tl1||tol (sbs LV))||tol (sbs AG)) ((L1++[pb LV])++[pb AG])∧FrS wb w w':=by
 have HF:Hid _:=CF;have HG:Hid _:=CG;have H1:Hid _:=C1;have HEL:Hid (LV=(5,0,0,0)::[(3,0,0,0)::[G,(2,0,0,0)::[F].flatten].flatten,q].flatten):=by
  show _=_
  rw[eLV];simp only[List.flatten_cons,List.flatten_nil,List.append_nil,List.cons_append,List.append_assoc]
 have HEA:Hid (AG=(5,0,0,0)::[(3,0,0,0)::[G,F].flatten,Q1].flatten):=by
  show _=_
  rw[eAG];simp only[List.flatten_cons,List.flatten_nil,List.append_nil,List.cons_append,List.append_assoc]
 have lLV:LV.length≤1000000:=by rw[eLV];simp only[List.length_append,List.length_cons];omega
 have lAG:AG.length≤1000000:=by rw[eAG];simp only[List.length_append,List.length_cons];omega
 have KL:Hid ((∀y∈LV,Good y)∧bl LV≤1000000∧LV.length≤1000000):=⟨gLV,bLV,lLV⟩;have KA:Hid ((∀y∈AG,Good y)∧bl AG≤1000000∧AG.length≤1000000):=⟨gAG,bAG,lAG⟩;have LM:Hid (∀X,Below w0.heap.size w0 X→X.cell? ⟨g,o+4,none⟩=some (.int .i64 k)∧X.cell? ⟨g,o+5,none⟩=some (.slice p n m)∧X.cell? ⟨g,o+6,none⟩=some (.int .i64 r)∧X.cell? ⟨g,o+7,none⟩=some (.int .i64 a1)∧X.cell? ⟨g,o+8,none⟩=some (.int .i64 a2)∧X.cell? ⟨g,o+9,none⟩=some (.int .i64 a3)∧X.cell? ⟨g,o+10,none⟩=some (.int .i64 a4)∧X.cell? ⟨g,o+11,none⟩=some (.int .i64 k')∧X.cell? ⟨g,o+12,none⟩=some (.slice p' n' m')∧X.cell? ⟨g,o+13,none⟩=some (.int .i64 r')∧X.cell? ⟨g,o+14,none⟩=some (.int .i64 b1)∧X.cell? ⟨g,o+15,none⟩=some (.int .i64 b2)∧X.cell? ⟨g,o+16,none⟩=some (.int .i64 b3)∧X.cell? ⟨g,o+17,none⟩=some (.int .i64 b4)):=fun X hX=>⟨(hX.cell (p:=⟨g,o+4,none⟩) hg).trans z4,(hX.cell (p:=⟨g,o+5,none⟩) hg).trans z5,(hX.cell (p:=⟨g,o+6,none⟩) hg).trans z6,(hX.cell (p:=⟨g,o+7,none⟩) hg).trans z7,(hX.cell (p:=⟨g,o+8,none⟩) hg).trans z8,(hX.cell (p:=⟨g,o+9,none⟩) hg).trans z9,(hX.cell (p:=⟨g,o+10,none⟩) hg).trans z10,(hX.cell (p:=⟨g,o+11,none⟩) hg).trans z11,(hX.cell (p:=⟨g,o+12,none⟩) hg).trans z12,(hX.cell (p:=⟨g,o+13,none⟩) hg).trans z13,(hX.cell (p:=⟨g,o+14,none⟩) hg).trans z14,(hX.cell (p:=⟨g,o+15,none⟩) hg).trans z15,(hX.cell (p:=⟨g,o+16,none⟩) hg).trans z16,(hX.cell (p:=⟨g,o+17,none⟩) hg).trans z17⟩
 have B0:Below w0.heap.size w0 w.drew:=hA.b0.drew;clear CF CG C1 eLV eAG gLV bLV gAG bAG lLV lAG z4 z5 z6 z7 z8 z9 z10 z11 z12 z13 z14 z15 z16 z17;go_enter Tryz.func213,Tryz.ntmps213;go_wp2_with fail;go_region_held3 (fun w'=>w'.cell? ⟨g,o+4,none⟩=some (.int .i64 k)∧w'.cell? ⟨g,o+5,none⟩=some (.slice p n m)∧w'.cell? ⟨g,o+6,none⟩=some (.int .i64 r)∧w'.cell? ⟨g,o+7,none⟩=some (.int .i64 a1)∧w'.cell? ⟨g,o+8,none⟩=some (.int .i64 a2)∧w'.cell? ⟨g,o+9,none⟩=some (.int .i64 a3)∧w'.cell? ⟨g,o+10,none⟩=some (.int .i64 a4)∧w'.cell? ⟨g,o+11,none⟩=some (.int .i64 k')∧w'.cell? ⟨g,o+12,none⟩=some (.slice p' n' m')∧w'.cell? ⟨g,o+13,none⟩=some (.int .i64 r')∧w'.cell? ⟨g,o+14,none⟩=some (.int .i64 b1)∧w'.cell? ⟨g,o+15,none⟩=some (.int .i64 b2)∧w'.cell? ⟨g,o+16,none⟩=some (.int .i64 b3)∧w'.cell? ⟨g,o+17,none⟩=some (.int .i64 b4)) ((refine LM.out _ ?_;assumption)) (first
  | (go_at_call 92;first
   | (have hh:=B1;refine Calls.mono (HG.out _ B1) ?_;rintro e w2 ⟨v2,rfl,hc2,hb2⟩;obtain⟨pa2,pc2,rfl⟩:=hc2.shape;have B2:=B1.trans (hb2.mono B1.size);clear hh)
   | (refine Calls.mono (HF.out _ B0) ?_;rintro e w1 ⟨v1,rfl,hc1,hb1⟩;obtain⟨pa1,pc1,rfl⟩:=hc1.shape;have B1:=B0.trans (hb1.mono B0.size))))
 have bw2:Below w.heap.size w w2:=(Below.refl _ _).drew.trans (hb1.trans (hb2.mono hb1.size));have hA2:=hA.below bw2;have hc2q:=hc.below bw2;have hc2f:=hc1.below hb2;have x18:=hA2.old hg z18;go_wp2_with fail;refine Calls.mono (H1.out _ _ hc2 hA2) ?_;rintro e w3 ⟨v3,rfl,hc3,hA3,hF3⟩;obtain⟨pa3,pc3,rfl⟩:=hc3.shape;have q3:=hA2.cond hc2q hF3;have f3:=hA2.cond hc2f hF3;have g3:=hA2.cond hc2 hF3;go_wp2_with fail;refine Calls.mono (zaS 2 _ _ _ (zcO w3 _ F 75 f3) (by simp only[List.flatten_cons,List.flatten_nil,List.append_nil,List.length_append,List.length_cons];omega) (by simp)) ?_;rintro e w4 ⟨v4,rfl,hc4,hb4⟩;have b34:=(zaa w3 (.cells #[.slice pa1 F.length pc1] 75)).trans (hb4.mono (by simp));obtain⟨R4,E4⟩:∃R:List Sym,Hid (R=(2,0,0,0)::[F].flatten):=⟨_,rfl⟩
 rw[←E4.out] at hc4;have l4:R4.length≤20001:=by rw[E4.out];simp only[List.flatten_cons,List.flatten_nil,List.append_nil,List.length_append,List.length_cons];omega
 obtain⟨pa4,pc4,rfl⟩:=hc4.shape;go_wp2_with fail;refine Calls.mono (zaS 3 _ _ _ (zax w4 _ _ G R4 75 (g3.below b34) hc4) (by simp only[List.flatten_cons,List.flatten_nil,List.append_nil,List.length_append,List.length_cons];omega) (by simp)) ?_;rintro e w5 ⟨v5,rfl,hc5,hb5⟩;have b45:=(zaa w4 (.cells #[.slice pa2 G.length pc2,.slice pa4 R4.length pc4] 75)).trans (hb5.mono (by simp));obtain⟨R5,E5⟩:∃R:List Sym,Hid (R=(3,0,0,0)::[G,R4].flatten):=⟨_,rfl⟩
 rw[←E5.out] at hc5;have l5:R5.length≤40002:=by rw[E5.out];simp only[List.flatten_cons,List.flatten_nil,List.append_nil,List.length_append,List.length_cons];omega
 obtain⟨pa5,pc5,rfl⟩:=hc5.shape;have b35:=b34.trans (b45.mono b34.size);have q5:=q3.below b35;obtain⟨qa,qc,rfl⟩:=q5.shape;go_wp2_with fail;refine Calls.mono (zaS 5 _ _ _ (zax w5 _ _ R5 q 75 hc5 q5) (by simp only[List.flatten_cons,List.flatten_nil,List.append_nil,List.length_append,List.length_cons];omega) (by simp)) ?_;rintro e w6 ⟨v6,rfl,hc6,hb6⟩;have b56:=(zaa w5 (.cells #[.slice pa5 R5.length pc5,.slice qa q.length qc] 75)).trans (hb6.mono (by simp));rw[E5.out,E4.out,←HEL.out] at hc6;have b36:=b35.trans (b56.mono b35.size);have hA6:=hA3.below b36;obtain⟨pa6,pc6,rfl⟩:=hc6.shape;go_wp2_with fail;refine Calls.mono (zdj _ LV hA6 hc6 KL.out.1 KL.out.2.1 KL.out.2.2 hgt (by omega)) ?_;rintro e w7 ⟨rfl,hA7,hF7⟩;have f7:=hA6.cond (f3.below b36) hF7;have g7:=hA6.cond (g3.below b36) hF7;have h7:=hA6.cond (hc3.below b36) hF7;go_wp2_with fail;refine Calls.mono (zaS 3 _ _ _ (zax w7 _ _ G F 75 g7 f7) (by simp only[List.flatten_cons,List.flatten_nil,List.append_nil,List.length_append,List.length_cons];omega) (by simp)) ?_;rintro e w8 ⟨v8,rfl,hc8,hb8⟩;have b78:=(zaa w7 (.cells #[.slice pa2 G.length pc2,.slice pa1 F.length pc1] 75)).trans (hb8.mono (by simp));obtain⟨R8,E8⟩:∃R:List Sym,Hid (R=(3,0,0,0)::[G,F].flatten):=⟨_,rfl⟩
 rw[←E8.out] at hc8;have l8:R8.length≤40002:=by rw[E8.out];simp only[List.flatten_cons,List.flatten_nil,List.append_nil,List.length_append,List.length_cons];omega
 obtain⟨pa8,pc8,rfl⟩:=hc8.shape;go_wp2_with fail;refine Calls.mono (zaS 5 _ _ _ (zax w8 _ _ R8 Q1 75 hc8 (h7.below b78)) (by simp only[List.flatten_cons,List.flatten_nil,List.append_nil,List.length_append,List.length_cons];omega) (by simp)) ?_;rintro e w9 ⟨v9,rfl,hc9,hb9⟩;have b89:=(zaa w8 (.cells #[.slice pa8 R8.length pc8,.slice pa3 Q1.length pc3] 75)).trans (hb9.mono (by simp));rw[E8.out,←HEA.out] at hc9;have b79:=b78.trans (b89.mono b78.size);have hA9:=hA7.below b79;obtain⟨pa9,pc9,rfl⟩:=hc9.shape;go_wp2_with fail;refine Calls.mono (zdj _ AG hA9 hc9 KA.out.1 KA.out.2.1 KA.out.2.2 hgt (by rw[List.length_append];exact hL1)) ?_;rintro e w10 ⟨rfl,hA10,hF10⟩;have g10:=hA9.cond (g7.below b79) hF10;go_wp2_with fail;go_ret;exact⟨_,rfl,g10,hA10,(FrS.of_below bw2).trans (hF3.trans ((FrS.of_below b36).trans (hF7.trans ((FrS.of_below b79).trans hF10))))⟩
def sOk:Cm→Prop
 | .ite f a b=>(fsy f).length≤20000∧sOk a∧sOk b
 | .loop f g a=>(fsy f).length≤20000∧(fsy g).length≤20000∧sOk a
 | .seq a b=>sOk a∧sOk b
 | _=>True
def nlo:Cm→Nat
 | .ite _ a b=>nlo a+nlo b
 | .loop _ _ a=>nlo a+1
 | .seq a b=>nlo a+nlo b
 | _=>0
theorem zbG:∀(c:Cm) (q:List Sym),(pL c q).length=2*nlo c
 | .skip,_=>rfl
 | .asg _ _,_=>rfl
 | .ite f a b,q=>by
  have h1:=zbG a q;have h2:=zbG b q;simp only[pL,nlo,List.length_append];omega
 | .loop f g a,q=>by
  have h1:=zbG a (fsy g);simp only[pL,nlo,List.length_append,List.length_cons,List.length_nil];omega
 | .seq a b,q=>by
  have h1:=zbG a (pw b q);have h2:=zbG b q;simp only[pL,nlo,List.length_append];omega
theorem zdF {c:Cm} {q:List Sym} {K:Int} (h:Gd K (pw c q)):(pw c q).length≤4000:=Nat.le_trans (za1 h).1 (zlF c q)
structure CPre (w0 w:World) (wb:Nat) (tl:Bool) (L:List (List Sym)) (v:Value) (q:List Sym) (K:Int) (c:Cm):Prop where
 ok:cOk c
 kk:kOk c
 sk:sOk c
 hA:WkAt w0 w wb tl L
 hc:CondR w v q
 gq:Gd K q
 k1:1999≤K
 k2:K+999*(nas c:Int)≤999999
 lq:q.length≤20000
 lL:L.length+2*nlo c≤1000
def ComsW (w0:World) (P:Nat→Prop) (wb:Nat) (n:Nat):Prop:=∀(c:Cm) (w:World) (v:Value) (q:List Sym) (tl:Bool) (L:List (List Sym)) (K:Int) (g k m:Nat) (ys:List (List Value)),csz c≤n→Lst w0 P g k m ys→IsC w0 P c ys→CPre w0 w wb tl L v q K c →
 Calls Tryz.prog 91 #[.pointer (some ⟨wb,0,none⟩),.slice (some ⟨g,0,none⟩) k m,v] w fun e w'=>∃v',e=.returned v'∧CondR w' v' (pw c q)∧WkAt w0 w' wb (tl||pt c q) (L++pL c q)∧FrS wb w w'
def ComW (w0:World) (P:Nat→Prop) (wb:Nat) (n:Nat):Prop:=∀(c:Cm) (w:World) (v:Value) (q:List Sym) (tl:Bool) (L:List (List Sym)) (K:Int) (g o:Nat) (y:List Value),csz c≤n→IsC w0 P c [y]→g<w0.heap.size→w0.rangeAt g o y→CPre w0 w wb tl L v q K c →
 Calls Tryz.prog 140 #[.pointer (some ⟨wb,0,none⟩),.pointer (some ⟨g,o,none⟩),v] w fun e w'=>∃v',e=.returned v'∧CondR w' v' (pcm c q)∧WkAt w0 w' wb (tl||pct c q) (L++pL c q)∧FrS wb w w'
theorem zeE {K:Int} {ys:List Sym} (h:Gd K ys):∀y∈ys,Good y:=fun y hy=>(h y hy).1
theorem zhc (w0:World) (P:Nat→Prop) (wb n:Nat) (IH:ComsW w0 P wb n) (f:Fm) (a b:Cm) (w:World) (v:Value) (q:List Sym) (tl:Bool) (L:List (List Sym)) (K:Int) (g o:Nat) (y:List Value) (ha:csz a≤n) (hb:csz b≤n) (hc:IsC w0 P (.ite f a b) [y]) (hg:g<w0.heap.size) (hr:w0.rangeAt g o y) (hp:CPre w0 w wb tl L v q K (.ite f a b)) :
 Calls Tryz.prog 212 #[.pointer (some ⟨wb,0,none⟩),.pointer (some ⟨g,o,none⟩),v] w fun e w'=>∃v',e=.returned v'∧CondR w' v' (pcm (.ite f a b) q)∧WkAt w0 w' wb (tl||pct (.ite f a b) q) (L++pL (.ite f a b) q)∧FrS wb w w':=by
 obtain⟨y',ey,hl,h0,hf,⟨g1,n1,c1,ys1,e1,l1,i1⟩,⟨g2,n2,c2,ys2,e2,l2,i2⟩⟩:=hc;cases ey
 obtain⟨k,p,m1,m2,r,a1,a2,a3,a4,ef⟩:=hf.shape;obtain⟨z4,z5,z6,z7,z8,z9,z10⟩:=zaA hr ef;have z18:=zao hr e1;have z19:=zao hr e2;obtain⟨o1,o2,o3⟩:=hp.ok;obtain⟨d1,d2⟩:=hp.kk;obtain⟨s1,s2,s3⟩:=hp.sk;have k2:=hp.k2;have lL:=hp.lL;have k1:=hp.k1;simp only[nas] at k2;simp only[nlo] at lL;have pl:=zbG b q;have ga:=zcN a q K o2 d1 k1 (by omega) hp.gq;have gb:=zcN b q K o3 d2 k1 (by omega) hp.gq;rw[ef] at hf;have C:=zkp w0 wb v w g o tl ((tl||pt b q)||pt a q) (tl||pt b q) L ((L++pL b q)++pL a q) (L++pL b q) (fsy f) (pw a q) (pw b q) g1 n1 c1 g2 n2 c2 k p m1 m2 r a1 a2 a3 a4 hg hp.hA (by omega) (zdF ga) (zdF gb) z4 z5 z6 z7 z8 z9 z10 z18 z19
  (IH b w v q tl L K g2 n2 c2 ys2 hb l2 i2 ⟨o3,d2,s3,hp.hA,hp.hc,hp.gq,k1,by omega,hp.lq,by omega⟩)
  (fun X hX hF=>IH a X v q (tl||pt b q) (L++pL b q) K g1 n1 c1 ys1 ha l1 i1 ⟨o2,d1,s2,hX,hp.hA.cond hp.hc hF,hp.gq,k1,by omega,hp.lq,by rw[List.length_append];omega⟩)
  (fun X hX=>zaG f _ X (hf.same (Av.zac hX)) o1 (by omega))
 rw[show(tl||pct (.ite f a b) q)=(tl||pt b q||pt a q) from (Bool.or_assoc _ _ _).symm,show L++pL (.ite f a b) q=(L++pL b q)++pL a q from (List.append_assoc _ _ _).symm];exact C
theorem zkq (w0:World) (P:Nat→Prop) (wb n:Nat) (hgt:Gt w0) (IH:ComsW w0 P wb n) (f d:Fm) (a:Cm) (w:World) (v:Value) (q:List Sym) (tl:Bool) (L:List (List Sym)) (K:Int) (g o:Nat) (y:List Value) (ha:csz a≤n) (hc:IsC w0 P (.loop f d a) [y]) (hg:g<w0.heap.size) (hr:w0.rangeAt g o y) (hp:CPre w0 w wb tl L v q K (.loop f d a)) :
 Calls Tryz.prog 213 #[.pointer (some ⟨wb,0,none⟩),.pointer (some ⟨g,o,none⟩),v] w fun e w'=>∃v',e=.returned v'∧CondR w' v' (pcm (.loop f d a) q)∧WkAt w0 w' wb (tl||pct (.loop f d a) q) (L++pL (.loop f d a) q)∧FrS wb w w':=by
 obtain⟨y',ey,hl,h0,hf,hd,⟨g1,n1,c1,ys1,e1,l1,i1⟩⟩:=hc;cases ey
 obtain⟨k,p,m1,m2,r,a1,a2,a3,a4,ef⟩:=hf.shape;obtain⟨k',p',m1',m2',r',b1,b2,b3,b4,ed⟩:=hd.shape;obtain⟨z4,z5,z6,z7,z8,z9,z10⟩:=zaA hr ef;obtain⟨z11,z12,z13,z14,z15,z16,z17⟩:=zaA hr ed;have z18:=zao hr e1;obtain⟨o1,o2⟩:=hp.ok;obtain⟨d1,d2⟩:=hp.kk;obtain⟨s1,s2,s3⟩:=hp.sk;have k2:=hp.k2;have lL:=hp.lL;have k1:=hp.k1;have lq:=hp.lq;simp only[nas] at k2;simp only[nlo] at lL;have pl:=zbG a (fsy d);have gf:Gd K (fsy f):=(zaC f o1).mono k1;have gd:Gd K (fsy d):=(zaC d d1).mono k1;have ga:=zcN a (fsy d) K o2 d2 k1 (by omega) gd;have la:=zdF ga;have gLV:Gd K (leav f d q):=Gd.mark (by omega) (by omega) (Gd.mark (by omega) (by omega) (gd.app (Gd.mark (by omega) (by omega) (gf.app hp.gq))));have gAG:Gd (K+999*(nas a:Int)) (pag f d a):=Gd.mark (by omega) (by omega) (Gd.mark (by omega) (by omega) ((gd.mono (by omega)).app ((gf.mono (by omega)).app ga)));have lLV:(leav f d q).length≤70000:=by simp only[leav,List.length_append,List.length_cons];omega
 have lAG:(pag f d a).length≤70000:=by simp only[pag,List.length_append,List.length_cons];omega
 have bLV:=(za1 gLV).2;have bAG:=(za1 gAG).2;rw[ef] at hf;rw[ed] at hd;have C:=zmA w0 wb v w g o tl (tl||pt a (fsy d)) L (L++pL a (fsy d)) (fsy f) (fsy d) q (pw a (fsy d)) (leav f d q) (pag f d a) g1 n1 c1 k p m1 m2 r a1 a2 a3 a4 k' p' m1' m2' r' b1 b2 b3 b4 rfl rfl hg hp.hA hp.hc s1 s2 lq la hgt (by rw[List.length_append];omega) (zeE gLV) (by omega) (zeE gAG) (by omega) z4 z5 z6 z7 z8 z9 z10 z11 z12 z13 z14 z15 z16 z17 z18
  (fun X hX=>zaG f _ X (hf.same (Av.zac hX)) o1 (by omega))
  (fun X hX=>zaG d _ X (hd.same (Av.zac hX)) d1 (by omega))
  (fun X u hu hX=>IH a X u (fsy d) tl L K g1 n1 c1 ys1 ha l1 i1 ⟨o2,d2,s3,hX,hu,gd,k1,by omega,s2,by omega⟩)
 have et:(tl||pct (.loop f d a) q)=(((tl||pt a (fsy d))||tol (sbs (leav f d q)))||tol (sbs (pag f d a))):=by simp only[pct,Bool.or_assoc]
 have eL:L++pL (.loop f d a) q=((L++pL a (fsy d))++[pb (leav f d q)])++[pb (pag f d a)]:=by simp only[pL,List.append_assoc]
 rw[et,eL];exact C
theorem zmB (wb:Nat) (v:Value) (w:World) (g o:Nat) (T:Value→World→Prop) (z0:w.cell? ⟨g,o,none⟩=some (.int .i64 2))
 (C:Calls Tryz.prog 212 #[.pointer (some ⟨wb,0,none⟩),.pointer (some ⟨g,o,none⟩),v] w fun e w'=>∃v',e=.returned v'∧T v' w') :
 Calls Tryz.prog 140 #[.pointer (some ⟨wb,0,none⟩),.pointer (some ⟨g,o,none⟩),v] w fun e w'=>∃v',e=.returned v'∧T v' w':=by
 have HC:Hid _:=C;clear C;go_enter Tryz.func140,Tryz.ntmps140;go_wp2_with fail;refine Calls.mono HC.out ?_;rintro e w1 ⟨u,rfl,h1⟩;go_wp2_with fail;go_ret;exact⟨_,rfl,h1⟩
theorem zi5 (wb:Nat) (v:Value) (w:World) (g o:Nat) (T:Value→World→Prop) (z0:w.cell? ⟨g,o,none⟩=some (.int .i64 3))
 (C:Calls Tryz.prog 213 #[.pointer (some ⟨wb,0,none⟩),.pointer (some ⟨g,o,none⟩),v] w fun e w'=>∃v',e=.returned v'∧T v' w') :
 Calls Tryz.prog 140 #[.pointer (some ⟨wb,0,none⟩),.pointer (some ⟨g,o,none⟩),v] w fun e w'=>∃v',e=.returned v'∧T v' w':=by
 have HC:Hid _:=C;clear C;go_enter Tryz.func140,Tryz.ntmps140;go_wp2_with fail;refine Calls.mono HC.out ?_;rintro e w1 ⟨u,rfl,h1⟩;go_wp2_with fail;go_ret;exact⟨_,rfl,h1⟩
theorem zi6 (w0:World) (P:Nat→Prop) (wb n:Nat) (hgt:Gt w0) (IH:0<n→ComsW w0 P wb (n-1)):ComW w0 P wb n:=by
 intro c w v q tl L K g o y hsz hc hg hr hp;cases c with
 | skip =>
  obtain⟨y',ey,hl,h0⟩:=hc;cases ey
  have z0:=hp.hA.old hg (zao hr h0);rw[Nat.add_zero] at z0;refine Calls.mono (zji wb v w g o z0) ?_;rintro e w' ⟨rfl,rfl⟩;exact⟨_,rfl,hp.hc,by simpa [pct,pL] using hp.hA,FrS.refl _ _⟩
 | asg x t =>
  obtain⟨t1,t2⟩:=t;obtain⟨y',ey,hl,h0,h1,h2,h3⟩:=hc;cases ey
  have z0:=hp.hA.old hg (zao hr h0);rw[Nat.add_zero] at z0;have z1:=hp.hA.old hg (zao hr h1);have z2:=hp.hA.old hg (zao hr h2);have z3:=hp.hA.old hg (zao hr h3);obtain⟨x0,x3,ht⟩:=hp.ok;have k2:=hp.k2;have k1:=hp.k1;refine Calls.mono (zkK wb v q x t1 t2 w g o ⟨x0,x3⟩ ht (Nat.lt_of_lt_of_le hg hp.hA.b0.size) z0 z1 z2 z3 hp.hc (fun y hy=>?_) (by have:=hp.lq;omega)) ?_
  ·obtain⟨gy,hy6⟩:=hp.gq y hy;by_cases h6:y.1=6
   ·have:=hy6 h6;omega
   ·rw[gy.2.2.1 h6];exact⟨by decide,by decide⟩
  ·rintro e w' ⟨v',rfl,hc',hb'⟩;exact⟨_,rfl,hc',by simpa [pct,pL] using hp.hA.below hb',FrS.of_below hb'⟩
 | ite f a b =>
  have hs:csz (.ite f a b)=1+csz a+csz b:=rfl;have C:=zhc w0 P wb (n-1) (IH (by omega)) f a b w v q tl L K g o y (by omega) (by omega) hc hg hr hp;obtain⟨y',ey,hl,h0,_⟩:=hc;cases ey
  have z0:=hp.hA.old hg (zao hr h0);rw[Nat.add_zero] at z0;exact zmB wb v w g o (fun v' w'=>_∧_) z0 C
 | loop f d a =>
  have hs:csz (.loop f d a)=1+csz a:=rfl;have C:=zkq w0 P wb (n-1) hgt (IH (by omega)) f d a w v q tl L K g o y (by omega) hc hg hr hp;obtain⟨y',ey,hl,h0,_⟩:=hc;cases ey
  have z0:=hp.hA.old hg (zao hr h0);rw[Nat.add_zero] at z0;exact zi5 wb v w g o (fun v' w'=>_∧_) z0 C
 | seq a b =>
  obtain⟨y',ys,ey,h1,h2⟩:=hc;cases ey
  exact absurd h2 (by intro h;cases b<;>simp[IsC] at h)
open Go.RowKit Go.Shelf
attribute [local go_sem] Oper.semAt_some
theorem zcp {F:Fence} {n:Nat} {P:Program} {ops:Array Oper} {rest:List Oper} {op:Oper} {a:Act} {w:World} {Q:Exit→Act→World→Prop} (hgd:op.guard=none) (ty:TypeId) (x:Operand) (ho:op.op=.load ty x)
 (b o:Nat) (hx:a.eval x=.pointer (some ⟨b,o,none⟩)) (cs:List Value) (d:TypeDesc) (hc:w.rangeAt b o cs)
 (hu:P.underlying ty=some d) (hd:d.isRow=true) (hi:(P.info? ty).map (·.size)=some cs.length)
 (h:wpListIn F n P ops Q rest (a.put op.dst (.agg cs.toArray)) w):wpListIn F n P ops Q (op::rest) a w:=by
 refine wpListIn_plain hgd fun K hK'=>?_
 unfold Oper.wpIn;refine⟨?_,?_⟩
 ·simp[Oper.about,ho]
 ·rw[Oper.semAt_plain F _ _ (by rw[ho];intro c hc';cases hc')];unfold execOp;simp only[ho,hx,Sem.run_bind,Sem.run_pure,Result.andThen_ok,run_loadAt_mid w b o ty cs d hc hu hd hi];exact hK' _ _ h
theorem Tryz.infoCmdN:(Tryz.prog.info? 228).map (·.size)=some 20:=by kernel_rfl
def encC (x:Nat×List Value):Array Value:=#[.int .i64 (x.1:Int),.agg x.2.toArray]
def cameC (ys:List (List Value)) (k:Nat):List (Nat×List Value):=((List.range (ys.length-k)).map fun i=>(ys.length-1-i,ys[ys.length-1-i]?.getD []))
theorem zfn (ys:List (List Value)):cameC ys ys.length=[]:=by simp[cameC]
theorem zd3 (ys:List (List Value)) (k:Nat) (hk:k<ys.length) (y:List Value) (hy:ys[k]?=some y):cameC ys k=cameC ys (k+1)++[(k,y)]:=by
 unfold cameC;rw[show ys.length-k=(ys.length-(k+1))+1 by omega,List.range_succ,List.map_append]
 congr 1
 simp only[List.map_cons,List.map_nil];have e:ys.length-1-(ys.length-(k+1))=k:=by omega
 rw[e,hy];rfl
theorem za4 (ys:List (List Value)) (k:Nat):(cameC ys k).length=ys.length-k:=by simp[cameC]
def NxC (ys:List (List Value)) (pre:List (Nat×List Value)) (x:Nat×List Value):Prop:=pre=cameC ys (x.1+1)∧x.1<ys.length∧ys[x.1]?=some x.2
def KpC (n0 Bs:Nat) (W W':World):Prop:=(∀b o,b<n0→W'.cell? ⟨b,o,none⟩=W.cell? ⟨b,o,none⟩)∧W'.cell? ⟨Bs,0,none⟩=W.cell? ⟨Bs,0,none⟩
theorem KpC.refl (n0 Bs:Nat) (W:World):KpC n0 Bs W W:=⟨fun _ _ _=>rfl,rfl⟩
theorem KpC.trans {n0 Bs:Nat} {A B C:World} (h:KpC n0 Bs A B) (k:KpC n0 Bs B C):KpC n0 Bs A C:=⟨fun b o hb=>(k.1 b o hb).trans (h.1 b o hb),k.2.trans h.2⟩
theorem zi7 (n:Nat) (hn:1≤n) (l Bs n0 b cap:Nat) (ys:List (List Value)) (hlen:ys.length≤4000) (hb:b<n0) (J:List (Nat×List Value)→World→Prop)
 (hY:∀pre x W,J pre W→NxC ys pre x→YieldAt Fence.wide (n-1) Tryz.prog l (encC x) W fun e W'=>e=.returned (.bool true)∧J (pre++[x]) W'∧KpC n0 Bs W W')
 (W:World) (hB0:W.cell? ⟨Bs,0,none⟩=some (.slice (some ⟨b,0,none⟩) ys.length cap))
 (hc:∀(j:Nat) (y:List Value),ys[j]?=some y→W.rangeAt b (j*20) y∧y.length=20) (h0:J [] W) :
 CallsIn Fence.wide n Tryz.prog 209 #[.func (.yield l) #[] #[],.pointer (some ⟨Bs,0,none⟩)] W fun e W'=>(∃v,e=.returned v)∧∃xs,xs=cameC ys 0∧J xs W':=by
 have HC:Hid _:=hc;have HBS:Hid _:=hB0;clear hc;refine callsIn_of_wp Tryz.func209 rfl trivial ?_ rfl;simp only[Tryz.ntmps209,List.size_toArray,List.length_cons,List.length_nil,Nat.reduceAdd,Nat.reduceSub,Array.replicate_succ,Array.replicate_zero,List.push_toArray,List.append_toArray,List.nil_append,List.cons_append]
 gi_wp2
 gi_loopw [3] (fun i wr=>∃k:Nat,k≤ys.length∧i=.int .i64 ((k:Int)-1)∧J (cameC ys k) wr∧KpC n0 Bs W wr)
  (fun i _=>((intOf i)+1).toNat)
 case atStart=>exact⟨ys.length,Nat.le_refl _,rfl,by rw[zfn];exact h0,KpC.refl _ _ _⟩
 case round =>
  obtain⟨k,hk,rfl,hJs,hnx⟩:=hrel;rcases Nat.eq_zero_or_pos k with rfl|hpos
  ·gi_wp2
   go_end0
   exact⟨⟨_,rfl⟩,_,rfl,hJs⟩
  ·obtain⟨k,rfl⟩:∃k',k=k'+1:=⟨k-1,by omega⟩
   obtain⟨y,hy⟩:∃y,ys[k]?=some y:=⟨_,List.getElem?_eq_getElem (by omega)⟩
   obtain⟨fn,tmps,assign,body,hyy,hR⟩:=hY _ (k,y) wr hJs ⟨rfl,by dsimp only;omega,hy⟩;unfold encC at hyy;dsimp only at hyy;obtain⟨z0,hy20⟩:=HC.out k _ hy;have hi1:Hid ((Tryz.prog.info? 228).map (·.size)=some y.length):=by show _=_;rw[hy20];exact Tryz.infoCmdN
   have HQ0:Hid (wr.rangeAt b (k*20) y):=fun j v hv=>(hnx.1 b _ hb).trans (z0 j v hv)
   have hB1:=hnx.2.trans HBS.out;have hkI:((k+1:Nat):Int)-1=(k:Int):=by omega
   have hkl:(k:Int)<(ys.length:Int):=by omega
   have HS:Hid (cameC ys k=cameC ys (k+1)++[(k,y)]):=zd3 ys k (by omega) _ hy;clear z0 hy hB0 hy20
   gi_wp2_with (refine zcp rfl 228 (.tmp 15) rfl b (k*20) rfl y _ HQ0.out Tryz.underlying228 rfl hi1.out ?_)
   refine hR.mono ?_;rintro e W3 ⟨rfl,hJ3,hk3⟩
   gi_wp2
   go_roundw
   case rel=>exact⟨k,by omega,by go_num,by rw[HS.out];exact hJ3,hnx.trans hk3⟩
   case measure=>simp[intOf]
def sq:List Cm→List Sym→List Sym
 | [],q=>q
 | a::r,q=>pw a (sq r q)
def sT:List Cm→List Sym→Bool
 | [],_=>false
 | a::r,q=>sT r q||pt a (sq r q)
def sL:List Cm→List Sym→List (List Sym)
 | [],_=>[]
 | a::r,q=>sL r q++pL a (sq r q)
def sN:List Cm→Nat
 | []=>0
 | a::r=>nas a+sN r
def sO:List Cm→Nat
 | []=>0
 | a::r=>nlo a+sO r
def Lc (w:World) (P:Nat→Prop):List Cm→List (List Value)→Prop
 | [],[]=>True
 | a::r,y::ys=>IsC w P a [y]∧Lc w P r ys
 | _,_=>False
theorem Lc.len {w:World} {P:Nat→Prop}:∀{cl:List Cm} {ys:List (List Value)},Lc w P cl ys→cl.length=ys.length
 | [],[],_=>rfl
 | a::r,y::ys,h=>congrArg (·+1) (Lc.len h.2)
 | [],_::_,h=>h.elim
 | _::_,[],h=>h.elim
structure EachOk (n:Nat) (cl:List Cm):Prop where
 z:∀a∈cl,csz a≤n
 o:∀a∈cl,cOk a
 k:∀a∈cl,kOk a
 s:∀a∈cl,sOk a
theorem EachOk.one {n:Nat} {c:Cm} (h1:csz c≤n) (h2:cOk c) (h3:kOk c) (h4:sOk c):EachOk n [c] :=
 ⟨fun a ha=>by rw[List.mem_singleton.1 ha];exact h1,fun a ha=>by rw[List.mem_singleton.1 ha];exact h2,fun a ha=>by rw[List.mem_singleton.1 ha];exact h3,fun a ha=>by rw[List.mem_singleton.1 ha];exact h4⟩
theorem EachOk.cons {n:Nat} {c:Cm} {cl:List Cm} (h1:csz c≤n) (h2:cOk c) (h3:kOk c) (h4:sOk c) (h:EachOk n cl):EachOk n (c::cl) :=
 ⟨fun a ha=>(List.mem_cons.1 ha).elim (fun e=>e ▸ h1) (h.z a),fun a ha=>(List.mem_cons.1 ha).elim (fun e=>e ▸ h2) (h.o a),fun a ha=>(List.mem_cons.1 ha).elim (fun e=>e ▸ h3) (h.k a),fun a ha=>(List.mem_cons.1 ha).elim (fun e=>e ▸ h4) (h.s a)⟩
theorem zbt {w:World} {P:Nat→Prop} {c:Cm} {ys:List (List Value)} (h:IsC w P c ys) (h1:one1 c):∃y,ys=[y]:=by
 cases c with
 | seq a b=>exact h1.elim
 | skip=>obtain⟨y,e,_⟩:=h;exact⟨y,e⟩
 | asg x t=>obtain⟨y,e,_⟩:=h;exact⟨y,e⟩
 | ite f a b=>obtain⟨y,e,_⟩:=h;exact⟨y,e⟩
 | loop f g a=>obtain⟨y,e,_⟩:=h;exact⟨y,e⟩
theorem zgG {w:World} {P:Nat→Prop} {n:Nat}:∀(c:Cm) (ys:List (List Value)),IsC w P c ys→csz c≤n→cOk c→kOk c→sOk c →
 ∃cl,Lc w P cl ys∧EachOk n cl∧sN cl=nas c∧sO cl=nlo c∧∀q,sq cl q=pw c q∧sT cl q=pt c q∧sL cl q=pL c q
 | .seq a b,ys,h,hz,ho,hk,hs=>by
  obtain⟨y,ys',rfl,ha,hb⟩:=h;have e:csz (.seq a b)=1+csz a+csz b:=rfl;obtain⟨cl,l1,l2,l3,l4,l5⟩:=zgG (n:=n) b ys' hb (by omega) ho.2 hk.2 hs.2;refine⟨a::cl,⟨ha,l1⟩,l2.cons (by omega) ho.1 hk.1 hs.1,by simp only[sN,nas,l3],by simp only[sO,nlo,l4],fun q=>?_⟩;obtain⟨e1,e2,e3⟩:=l5 q;exact⟨by simp only[sq,pw,e1],by simp only[sT,pt,e1,e2],by simp only[sL,pL,e1,e3]⟩
 | .skip,ys,h,hz,ho,hk,hs=>by
  obtain⟨y,rfl⟩:=zbt h trivial;exact⟨[.skip],⟨h,trivial⟩,.one hz ho hk hs,rfl,rfl,fun q=>⟨rfl,rfl,rfl⟩⟩
 | .asg x t,ys,h,hz,ho,hk,hs=>by
  obtain⟨y,rfl⟩:=zbt h trivial;exact⟨[.asg x t],⟨h,trivial⟩,.one hz ho hk hs,rfl,rfl,fun q=>⟨rfl,rfl,rfl⟩⟩
 | .ite f a b,ys,h,hz,ho,hk,hs=>by
  obtain⟨y,rfl⟩:=zbt h trivial;exact⟨[.ite f a b],⟨h,trivial⟩,.one hz ho hk hs,rfl,rfl,fun q=>⟨rfl,by simp only[sT,sq,Bool.false_or],by simp only[sL,sq,List.nil_append]⟩⟩
 | .loop f g a,ys,h,hz,ho,hk,hs=>by
  obtain⟨y,rfl⟩:=zbt h trivial;exact⟨[.loop f g a],⟨h,trivial⟩,.one hz ho hk hs,rfl,rfl,fun q=>⟨rfl,by simp only[sT,sq,Bool.false_or],by simp only[sL,sq,List.nil_append]⟩⟩
theorem zkH:∀(cl:List Cm) (q:List Sym),(sL cl q).length=2*sO cl
 | [],_=>rfl
 | a::r,q=>by
  have h1:=zkH r q;have h2:=zbG a (sq r q);simp only[sL,sO,List.length_append];omega
theorem zmC {n:Nat} {q:List Sym} {K:Int} (h1:1999≤K) (hq:Gd K q):∀(cl:List Cm),EachOk n cl→K+999*(sN cl:Int)≤999999→Gd (K+999*(sN cl:Int)) (sq cl q)
 | [],_,_=>by simpa [sN,sq] using hq
 | a::r,ho,hK=>by
  simp only[sN] at hK ⊢;have hr:EachOk n r:=⟨fun b hb=>ho.z b (.tail _ hb),fun b hb=>ho.o b (.tail _ hb),fun b hb=>ho.k b (.tail _ hb),fun b hb=>ho.s b (.tail _ hb)⟩;have ih:=zmC h1 hq r hr (by omega);exact(zcN a _ _ (ho.o a (.head _)) (ho.k a (.head _)) (by omega) (by omega) ih).mono (by omega)
theorem zmD {q:List Sym} (hq:q.length≤20000):∀(cl:List Cm) (K:Int),Gd K (sq cl q)→(sq cl q).length≤20000
 | [],_,_=>hq
 | a::r,K,h=>Nat.le_trans (zdF (K:=K) h) (by omega)
attribute [local go_sem] Oper.semAt_some
theorem zkr (n:Nat) (a:Option Addr) (len cap:Nat) (w:World) :
 CallsIn Fence.wide n Tryz.prog 138 #[.slice a len cap] w fun e w'=>e=.returned (.func (.func 209) #[] #[.pointer (some ⟨w.heap.size,0,none⟩)])∧w'=w.alloc (.cells #[.slice a len cap] 99):=by
 refine callsIn_of_wp Tryz.func138 rfl trivial ?_ rfl;simp only[Tryz.ntmps138,List.size_toArray,List.length_cons,List.length_nil,Nat.reduceAdd,Nat.reduceSub,Array.replicate_succ,Array.replicate_zero,List.push_toArray,List.append_toArray,List.nil_append,List.cons_append]
 gi_wp2
 go_ret;exact⟨rfl,rfl⟩
theorem zi8 {ys:List (List Value)} (h20:∀y∈ys,y.length=20):∀(j:Nat) (y:List Value),ys[j]?=some y→∀i v,y[i]?=some v→ys.flatten[j*20+i]?=some v:=by
 induction ys with
 | nil=>intro j y h;simp at h
 | cons x r ih =>
  intro j y h i v hv;have hx:=h20 x (.head _);have hi:i<20:=by
   have:=(List.getElem?_eq_some_iff.1 hv).1;have:=h20 y (List.mem_of_getElem? h);omega
  cases j with
  | zero =>
   cases h
   rw[List.flatten_cons,List.getElem?_append_left (by omega),Nat.zero_mul,Nat.zero_add];exact hv
  | succ j =>
   rw[List.flatten_cons,List.getElem?_append_right (by omega),show(j+1)*20+i-x.length=j*20+i by omega];exact ih (fun z hz=>h20 z (.tail _ hz)) j y (by simpa using h) i v hv
theorem zhd (n:Nat) (hn:1≤n) (Bs n0 b cap:Nat) (ys:List (List Value)) (hlen:ys.length≤4000) (w:World) (hBs:Bs<w.heap.size) (hn0:n0≤w.heap.size) (hb:b<n0) (h20:∀y∈ys,y.length=20) (hc:w.cell? ⟨Bs,0,none⟩=some (.slice (some ⟨b,0,none⟩) ys.length cap)) (hr:w.rangeAt b 0 ys.flatten) :
 Runs n Tryz.prog 209 #[.pointer (some ⟨Bs,0,none⟩)] encC (KpC n0 Bs) (NxC ys) (fun xs=>xs=cameC ys 0) w:=fun l J W hW hY h0=>by
 have hc':=(hW.cell (p:=⟨Bs,0,none⟩) hBs).trans hc;refine zi7 n hn l Bs n0 b cap ys hlen hb J hY W hc' (fun j y hy=>⟨fun i v hv=>?_,h20 y (List.mem_of_getElem? hy)⟩) h0;have:=hr (j*20+i) v (zi8 h20 j y hy i v hv);rw[Nat.zero_add] at this;exact(hW.cell (p:=⟨b,j*20+i,none⟩) (Nat.lt_of_lt_of_le hb hn0)).trans this
theorem FrS.keeps {wb:Nat} {W W':World} {cs:Array Value} {t:TypeId} {f:Nat×Nat} (B:Nat) (h:FrS wb W W') (hw:W.heap[wb]?=some (.cells cs t f)) (hl:∀k,LB W wb k→∃cur fr,W.heap[k]?=some (.cells cur 75 fr)):KeepsFrom B W W':=by
 refine⟨h.1,fun k o _ hk ho=>?_⟩;have hlt:k<W.heap.size:=(Array.getElem?_eq_some_iff.1 hk).1;refine(h.2 (Array.getElem?_eq_some_iff.1 hw).1 k hlt (fun e=>?_) (fun e=>?_)).trans hk
 ·subst e;rw[hk] at hw;cases hw;cases ho
 ·obtain⟨cur,fr,e⟩:=hl k e;rw[hk] at e;cases e;cases ho
end Go.Proofs.YtkinoehmcfhgbaaGreatDoor.Vl
