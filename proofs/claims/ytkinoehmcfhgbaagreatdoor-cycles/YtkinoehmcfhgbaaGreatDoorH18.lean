/- A part of the proof. -/
import Derived.Test.YtkinoehmcfhgbaaGreatDoorZ5
import Derived.Deep.CutBlock
import Derived.Deep.DeepCutAuto
set_option linter.unusedVariables false
set_option linter.unusedSimpArgs false
set_option maxRecDepth 100000
set_option maxHeartbeats 12000000
namespace Go.Proofs.YtkinoehmcfhgbaaGreatDoor.Vl
open Go.RowKit
theorem list9 {l:List Nat} (h:l.length=9):∃x0 x1 x2 x3 x4 x5 x6 x7 x8,l=[x0,x1,x2,x3,x4,x5,x6,x7,x8]:=by
 match l,h with
 | [x0,x1,x2,x3,x4,x5,x6,x7,x8],_=>exact⟨x0,x1,x2,x3,x4,x5,x6,x7,x8,rfl⟩
theorem zjE {ow:List Nat} (h:ow.length=9) (X:World):(Instr.build 186 #[(0,.int .i64 0),(2,.agg (ow.map uw).toArray)]).run Tryz.prog X=.ok (.agg (enC 0 [] ow (0,0,0,0)).toArray) X:=by
 obtain⟨x0,x1,x2,x3,x4,x5,x6,x7,x8,rfl⟩:=list9 h;exact run_build X _ _ _ (by kernel_rfl)
theorem zgp {us:List Atm} {g:List Pt} {fin:(Nat→Int)→Bd→En} {two:Nat→Int→En→En→En}:∀(k s:Nat) (A:Nat→Int) (b:Bd),(srch us g fin two k s A b).2≤s
 | 0,s,A,b=>Nat.le_refl _
 | k+1,0,A,b=>Nat.le_refl _
 | k+1,s+1,A,b=>by
  rw[zaO];split
  ·exact Nat.le_succ _
  ·split
   ·exact Nat.le_succ _
   ·dsimp only;have h1:=zgp (us:=us) (g:=g) (fin:=fin) (two:=two) k s (setN A (pick0 g (gtr (lok us A b) 0 g)).2.2.1.toNat (pick0 g (gtr (lok us A b) 0 g)).2.2.2) (bwa b (us.getD (pick0 g (gtr (lok us A b) 0 g)).2.2.1.toNat (0,0,0)) (pick0 g (gtr (lok us A b) 0 g)).2.2.2 (pick0 g (gtr (lok us A b) 0 g)).2.2.1.toNat);generalize srch us g fin two k s (setN A (pick0 g (gtr (lok us A b) 0 g)).2.2.1.toNat (pick0 g (gtr (lok us A b) 0 g)).2.2.2) (bwa b (us.getD (pick0 g (gtr (lok us A b) 0 g)).2.2.1.toNat (0,0,0)) (pick0 g (gtr (lok us A b) 0 g)).2.2.2 (pick0 g (gtr (lok us A b) 0 g)).2.2.1.toNat)=H at *;split
    ·omega
    ·have h2:=zgp (us:=us) (g:=g) (fin:=fin) (two:=two) k H.2 (setN A (pick0 g (gtr (lok us A b) 0 g)).2.2.1.toNat (tnot (pick0 g (gtr (lok us A b) 0 g)).2.2.2)) (bwa b (us.getD (pick0 g (gtr (lok us A b) 0 g)).2.2.1.toNat (0,0,0)) (tnot (pick0 g (gtr (lok us A b) 0 g)).2.2.2) (pick0 g (gtr (lok us A b) 0 g)).2.2.1.toNat);split
     ·omega
     ·show _≤s+1
      dsimp only;omega
def splR (n:Nat) (w:Int) (H O:En×Nat):En×Nat:=if H.1.v≠0∨H.1.nd n=false then H else if O.1.v≠0∨O.1.nd n=false then O else (twoF n w H.1 O.1,O.2)
structure SpS (w0 w wc:World) (D:PD) (us:List Atm) (g:List Pt) (m:Nat) (A:Nat→Int) (EH EO:En) (so eb1 eb2:Nat) (ws ws2:List Nat) (y1 y2:Int) (num:Nat) (t:Int):Prop where
 en2:Blk wc eb2 186 (enC EO.v EO.pf ws2 EO.md)
 set2:SetR ws2 EO.nd
 pf2:EO.pf.length≤400010
 pv:∃n2 A2 ats2 parts2,PvS w0 wc D us g so n2 A2 ats2 parts2∧n2+2*so≤m∧(EO.v=0→A2=A)
 fr:FrX D.M w wc
 pt:Blk wc w.heap.size 252 [.int .i64 y1,.int .i64 y2,.int .i64 (num:Int),.int .i8 t]
 rs:Blk wc (w.heap.size+1) 186 (enC 0 [] z9 (0,0,0,0))
 en1:Blk wc eb1 186 (enC EH.v EH.pf ws EH.md)
theorem SpS.of {w0 w Z:World} {D:PD} {us:List Atm} {g:List Pt} {s n m:Nat} {A A0:Nat→Int} {ats parts:List Int} {EH EO:En} {so eb1 eb:Nat} {ws ws2:List Nat} {y1 y2:Int} {num:Nat} {t:Int} (h:PvS w0 w D us g s n A0 ats parts) {n2:Nat} {A2:Nat→Int} {ats2 parts2:List Int} (hP:PvS w0 Z D us g so n2 A2 ats2 parts2) (hn:n2+2*so≤m) (hA:EO.v=0→A2=A) (hF:FrX D.M w Z)
 (pt:Blk Z w.heap.size 252 [.int .i64 y1,.int .i64 y2,.int .i64 (num:Int),.int .i8 t]) (rs:Blk Z (w.heap.size+1) 186 (enC 0 [] z9 (0,0,0,0))) (en1:Blk Z eb1 186 (enC EH.v EH.pf ws EH.md)) (hz:Blk Z eb 186 (enC 0 [] z9 (0,0,0,0))) (he:w.heap.size+2≤eb) (he1:eb1≠eb) (hSR:SetR ws2 EO.nd) (hpf:EO.pf.length≤400010) :
 SpS w0 w (Z.setCells eb 0 (enC EO.v EO.pf ws2 EO.md)) D us g m A EH EO so eb1 eb ws ws2 y1 y2 num t:=by
 have hb:Below w.heap.size Z (Z.setCells eb 0 (enC EO.v EO.pf ws2 EO.md)):=zae (by omega) _ 0 Z Z (Below.refl _ _);exact⟨hz.setAll (by rw[zah _ _ _ hSR.len,zah 0 [] (0,0,0,0) rfl]),hSR,hpf,⟨n2,A2,ats2,parts2,h.far hP hb,hn,hA⟩,hF.far hb,Blk.otherAll (by omega) _ 0 Z pt,Blk.otherAll (by omega) _ 0 Z rs,Blk.otherAll he1 _ 0 Z en1⟩
theorem zld (w0 w:World) (D:PD) (us:List Atm) (g:List Pt) (s n k:Nat) (A:Nat→Int) (ats parts:List Int) (kb:Nat) (B:Bd) (y1 y2:Int) (num:Nat) (t:Int) (hC:SrC w0 D us g k) (hs:s≤k) (h:PvS w0 w D us g s n A ats parts) (hB:BdAt w kb 0 B) (hkb:kb∉D.M) (hsx:SX us g) (hSI:SI us A B) (hnum:num<us.length) (hop:(lok us A B).getD num 0=0) (hA0:A num=0) (ht:t=1∨t=2) (hn:n+2+2*s≤100000) (hgt:Gt w0) :
 Calls Tryz.prog 131 #[.pointer (some ⟨D.pb,0,none⟩),.agg #[.int .i64 y1,.int .i64 y2,.int .i64 (num:Int),.int .i8 t],.pointer (some ⟨kb,0,none⟩)] w (SrR w0 D us g (n+2+2*s) A (splR num t (sch us g k s (setN A num t) (bwa B (us.getD num (0,0,0)) t num)) (sch us g k (sch us g k s (setN A num t) (bwa B (us.getD num (0,0,0)) t num)).2 (setN A num (tnot t)) (bwa B (us.getD num (0,0,0)) (tnot t) num))).1
  (splR num t (sch us g k s (setN A num t) (bwa B (us.getD num (0,0,0)) t num)) (sch us g k (sch us g k s (setN A num t) (bwa B (us.getD num (0,0,0)) t num)).2 (setN A num (tnot t)) (bwa B (us.getD num (0,0,0)) (tnot t) num))).2 w):=by
 have hus5:=hsx.us5;obtain⟨W1,hW1⟩:∃W1,(w.alloc (.cells #[.int .i64 y1,.int .i64 y2,.int .i64 (num:Int),.int .i8 t] 252)).alloc (.cells zZa 186)=W1:=⟨_,rfl⟩
 have hb1:Below w.heap.size w W1:=by rw[←hW1];exact(zaa w _).alloc (by simp) _
 have hpt1:Blk W1 w.heap.size 252 [.int .i64 y1,.int .i64 y2,.int .i64 (num:Int),.int .i8 t]:=by rw[←hW1];exact(Below.heap_alloc _ _ _ (by simp)).trans (heap_alloc_new w _)
 have hrs1:Blk W1 (w.heap.size+1) 186 (enC 0 [] z9 (0,0,0,0)):=by
  rw[←hW1];have:=heap_alloc_new (w.alloc (.cells #[.int .i64 y1,.int .i64 y2,.int .i64 (num:Int),.int .i8 t] 252)) (.cells zZa 186);rw[World.size_alloc] at this;exact this
 have hP1:=h.below hb1;have hmlt:=h.mlt;have hwM:w.heap.size∉D.M:=fun e=>by have:=hmlt _ e;omega
 have hwM1:w.heap.size+1∉D.M:=fun e=>by have:=hmlt _ e;omega
 have ht3:T3 t:=by rcases ht with rfl|rfl;exact Or.inr (Or.inl rfl);exact Or.inr (Or.inr rfl)
 have ht':tnot t=1∨tnot t=2:=by rcases ht with rfl|rfl;exact Or.inr rfl;exact Or.inl rfl
 have CA1:Hid _:=zeV w0 W1 D us g s n k A ats parts kb B num t hC hs hP1 (hB.below hb1) hkb hsx hSI hnum hop hA0 ht (by omega);have CA2:Hid (∀X s' n' ats' parts',s'≤k→PvS w0 X D us g s' n' A ats' parts'→BdAt X kb 0 B→n'+1+2*s'≤100000→Calls Tryz.prog 189 #[.pointer (some ⟨D.pb,0,none⟩),.int .i64 (num:Int),.int .i8 (tnot t),.pointer (some ⟨kb,0,none⟩)] X (SrR w0 D us g (n'+1+2*s') A (sch us g k s' (setN A num (tnot t)) (bwa B (us.getD num (0,0,0)) (tnot t) num)).1 (sch us g k s' (setN A num (tnot t)) (bwa B (us.getD num (0,0,0)) (tnot t) num)).2 X)):=fun X s' n' ats' parts' h1 h2 h3 h4=>zeV w0 X D us g s' n' k A ats' parts' kb B num (tnot t) hC h1 h2 h3 hkb hsx hSI hnum hop hA0 ht' h4
 have hle:=zgp (us:=us) (g:=g) (fin:=finF us g) (two:=twoF) k s (setN A num t) (bwa B (us.getD num (0,0,0)) t num);generalize hRH:sch us g k s (setN A num t) (bwa B (us.getD num (0,0,0)) t num)=RH at *;change (sch us g k s (setN A num t) (bwa B (us.getD num (0,0,0)) t num)).2≤s at hle;rw[hRH] at hle;obtain⟨EH,sh⟩:=RH;dsimp only at hle CA1 ⊢;have CN:Hid (∀X,Calls Tryz.prog 167 #[.int .i8 t] X fun e w'=>e=.returned (.int .i8 (tnot t))∧X=w'):=fun X=>zbI t ht3 X
 have HGT:Hid (∀X,Below w0.heap.size w0 X→Gt X):=fun X hX=>hgt.on hX
 have HP:Hid _:=h;have HB1:Hid (BdAt W1 kb 0 B):=hB.below hb1;have HKB:Hid _:=hkb;have HWM:Hid _:=hwM;have HWM1:Hid _:=hwM1;have HML:Hid _:=hmlt;have HNI:Hid (NoI W1 D.M):=hP1.noi;have HF1:Hid (FrX D.M w W1):=FrX.of_below hb1;have p2:W1.cell? ⟨w.heap.size,2,none⟩=some (.int .i64 (num:Int)):=hpt1.cell rfl;have p3:W1.cell? ⟨w.heap.size,3,none⟩=some (.int .i8 t):=hpt1.cell rfl;clear hC hB hkb hsx hSI hop hA0 hRH hwM hwM1 hmlt h hgt hP1;go_enter Tryz.func131,Tryz.ntmps131;go_wp2_with fail;refine Calls.mono CA1.out ?_;rintro e w2 ⟨ws,n',A',ats',parts',rfl,hSR,hpl,hP2,hnn,hAA,hfr2⟩;have hF2:FrX D.M w w2:=HF1.out.trans hfr2;have hpt2:=hpt1.fr hfr2 HWM.out;have hrs2:=hrs1.fr hfr2 HWM1.out;have hw2:=hF2.size;have hwl:=hrs2.lt;have hcl:=zah EH.v EH.pf EH.md hSR.len;have hone:=all_oneCell_toArray (zai EH.v EH.pf ws EH.md);have hcz:(enC EH.v EH.pf ws EH.md).toArray.size=15:=by rw[List.size_toArray];exact hcl
 have hiB:(Tryz.prog.info? 186).map (·.size)=some (enC EH.v EH.pf ws EH.md).toArray.size:=by rw[hcz];exact Tryz.infoEnd
 have hnb:Blk (w2.alloc (.cells zZa 186)) w2.heap.size 186 (enC 0 [] z9 (0,0,0,0)):=heap_alloc_new w2 _;have hth:(w2.alloc (.cells zZa 186)).there w2.heap.size 0 (enC EH.v EH.pf ws EH.md).toArray.size:=by
  rw[hcz];exact(hnb.row (zai _ _ _ _)).there 0 15 (by rw[zah 0 [] (0,0,0,0) rfl];omega)
 obtain⟨W3,hW3⟩:∃W3,(w2.alloc (.cells zZa 186)).setCells w2.heap.size 0 (enC EH.v EH.pf ws EH.md)=W3:=⟨_,rfl⟩
 have h23:Below w2.heap.size w2 W3:=by rw[←hW3];exact zaL w2 w2.heap.size _ 0 _ (zaa w2 _) (Nat.le_refl _)
 have hen3:Blk W3 w2.heap.size 186 (enC EH.v EH.pf ws EH.md):=by rw[←hW3];exact hnb.setAll (by rw[hcl,zah 0 [] (0,0,0,0) rfl])
 have hP3:=hP2.below h23;have hF3:FrX D.M w W3:=hF2.trans (FrX.of_below h23);have hpt3:=hpt2.below h23;have hrs3:=hrs2.below h23;have hB3:BdAt W3 kb 0 B:=(BdAt.fr HB1.out hfr2 HNI.out HKB.out).below h23;have v3:W3.cell? ⟨w2.heap.size,0,none⟩=some (.int .i64 EH.v):=hen3.cell rfl;have p23:W3.cell? ⟨w.heap.size,2,none⟩=some (.int .i64 (num:Int)):=hpt3.cell rfl;have p33:W3.cell? ⟨w.heap.size,3,none⟩=some (.int .i8 t):=hpt3.cell rfl;have CH1:Hid _:=zgt W3 w2.heap.size 2 num ws EH.nd hSR hen3.enSet (by omega);have HSR:Hid _:=hSR;clear hnb hP2 hfr2 hpt2 hrs2 h23 hF2;by_cases hv:EH.v=0
 ·have hvb:(EH.v != 0)=false:=by simpa using hv
  have HV:Hid (EH.v=0):=hv;have hAA':=hAA hv;clear hv;by_cases hnd:EH.nd num=false
  ·have HRR:Hid (∀O,splR num t (EH,sh) O=(EH,sh)):=fun O=>by unfold splR;exact if_pos (Or.inr hnd)
   rw[hnd] at CH1;clear hnd;have q2:=hen3.range;have hR6:=hrs3.row (zai 0 [] z9 (0,0,0,0));rw[zah 0 [] (0,0,0,0) rfl] at hR6;have hzz:(enC EH.v EH.pf ws EH.md).toArray.size=15:=by rw[List.size_toArray];exact hcl
   have hiBB:(Tryz.prog.info? 186).map (·.size)=some (enC EH.v EH.pf ws EH.md).toArray.size:=by rw[hzz];exact Tryz.infoEnd
   have hiAA:(Tryz.prog.info? 186).map (·.size)=some (enC EH.v EH.pf ws EH.md).length:=by rw[hcl];exact Tryz.infoEnd
   have hth6:W3.there (w.heap.size+1) 0 (enC EH.v EH.pf ws EH.md).toArray.size:=by rw[hzz];exact hR6.there 0 15 (by omega)
   have hb7:Below w.heap.size W3 (W3.setCells (w.heap.size+1) 0 (enC EH.v EH.pf ws EH.md)):=zae (by omega) (enC EH.v EH.pf ws EH.md) 0 W3 W3 (Below.refl _ _);have HP7:Hid _:=HP.out.far hP3 hb7;have HF7:Hid (FrX D.M w (W3.setCells (w.heap.size+1) 0 (enC EH.v EH.pf ws EH.md))):=FrX.far hF3 hb7;have HR:Hid (Av.Row W3 (w.heap.size+1) 15):=hR6;have hon1:=all_oneCell_toArray (zai EH.v EH.pf ws EH.md);have HLN:Hid ((enC EH.v EH.pf ws EH.md).length=15):=hcl;clear hP3 hen3 hrs3 hF3 hSR;clear hR6 hb7;go_wp2_with (first
    | (refine wpList_store_mid rfl 186 (.tmp 7) (.tmp 16) rfl w2.heap.size 0 (enC EH.v EH.pf ws EH.md).toArray rfl rfl ?_ hiB hone ?_;(exact hth);(rw[show(enC EH.v EH.pf ws EH.md).toArray.toList=(enC EH.v EH.pf ws EH.md) by simp,hW3]))|(go_at_call 184;refine Calls.mono CH1.out ?_;rintro e w9 ⟨rfl,rfl⟩)|(refine wpList_load_mid rfl 186 (.tmp 7) rfl w2.heap.size 0 rfl (enC EH.v EH.pf ws EH.md) _ ?_ Tryz.underlying186 rfl hiAA ?_;(exact q2))
    | (refine wpList_store_mid rfl 186 (.tmp 6) (.tmp 27) rfl (w.heap.size+1) 0 (enC EH.v EH.pf ws EH.md).toArray rfl rfl ?_ hiBB hon1 ?_;(exact hth6)))
   exact Av.postN (enC EH.v EH.pf ws EH.md) rfl rfl Tryz.underlying186 rfl Tryz.infoEnd HR.out HLN.out (by rw[HRR.out];exact⟨ws,n',A',ats',parts',rfl,HSR.out,hpl,HP7.out,by omega,hAA,HF7.out⟩)
  ·have hnd':EH.nd num=true:=by simpa using hnd
   rw[hnd'] at CH1;rw[hAA'] at hP3;have CA3:Hid (∀X,Below W3.heap.size W3 X→_):=fun X hX=>CA2.out X sh n' ats' parts' (by omega) (hP3.below hX) (hB3.below hX) (by omega)
   have HRR:Hid (∀O,splR num t (EH,sh) O=if O.1.v≠0∨O.1.nd num=false then O else (twoF num t EH O.1,O.2)):=fun O=>by unfold splR;exact if_neg (by rintro(h|h);exact h HV.out;exact hnd h)
   generalize sch us g k sh (setN A num (tnot t)) (bwa B (us.getD num (0,0,0)) (tnot t) num)=OO at *;obtain⟨EO,so⟩:=OO;dsimp only at CA3;have HN3:Hid (NoI W3 D.M):=hP3.noi;have HPT3:Hid _:=hpt3;have HRS3:Hid _:=hrs3;have HEN3:Hid _:=hen3;have HF3:Hid _:=hF3;clear hP3 hpt3 hrs3 hen3 hF3 hSR hnd;go_wp2_with (first|(refine wpList_store_mid rfl 186 (.tmp 7) (.tmp 16) rfl w2.heap.size 0 (enC EH.v EH.pf ws EH.md).toArray rfl rfl ?_ hiB hone ?_;(exact hth);(rw[show(enC EH.v EH.pf ws EH.md).toArray.toList=(enC EH.v EH.pf ws EH.md) by simp,hW3]))|(go_at_call 184;refine Calls.mono CH1.out ?_;rintro e w9 ⟨rfl,rfl⟩));have hmx:Tryz.prog.follows .mixedOrders=true:=by kernel_rfl
   have hw23:=Blk.lt HEN3.out;have hptl:=Blk.lt HPT3.out;have hrsl:=Blk.lt HRS3.out;have HPTL:Hid (w.heap.size<W3.heap.size):=hptl;have hbA:Below W3.heap.size W3 (W3.drew.alloc (.cells zZa 186)):=(Below.refl W3.heap.size W3).drew.trans ((zaa W3.drew _).mono (Nat.le_refl _));have HPTB:Hid (∀X,Below W3.heap.size W3 X→Blk X w.heap.size 252 [.int .i64 y1,.int .i64 y2,.int .i64 (num:Int),.int .i8 t]):=fun X hX=>Blk.below HPT3.out hX
   have HRSB:Hid (∀X,Below W3.heap.size W3 X→Blk X (w.heap.size+1) 186 (enC 0 [] z9 (0,0,0,0))):=fun X hX=>Blk.below HRS3.out hX
   have HENB:Hid (∀X,Below W3.heap.size W3 X→Blk X w2.heap.size 186 (enC EH.v EH.pf ws EH.md)):=fun X hX=>Blk.below HEN3.out hX
   have HW2M:Hid (w2.heap.size∉D.M):=fun e=>by have:=HML.out _ e;omega
   have HW3M:Hid (W3.heap.size∉D.M):=fun e=>by have:=HML.out _ e;omega
   have HZA:Hid (Blk (W3.drew.alloc (.cells zZa 186)) W3.heap.size 186 (enC 0 [] z9 (0,0,0,0))):=heap_alloc_new W3.drew _
   go_cut [8] from 28 to 35 (fun s8 wc=>∃(eb2:Nat) (ws2:List Nat),s8=.pointer (some ⟨eb2,0,none⟩)∧SpS w0 w wc D us g (n+2+2*s) A EH EO so w2.heap.size eb2 ws ws2 y1 y2 num t)
   case first =>
    refine wp_region_held_drew (S:=(fun X=>X.cell? ⟨w.heap.size,2,none⟩=some (.int .i64 (num:Int))∧X.cell? ⟨w.heap.size,3,none⟩=some (.int .i8 t))) hmx ⟨p23,p33⟩ (fun hS=>?_);refine wpAnyH_take (i:=0) (v:=.pointer (some ⟨D.pb,0,none⟩)) rfl (by kernel_rfl) (by kernel_rfl) (by kernel_rfl) (fun _ _ _ h=>h) (Or.inl ⟨by rfl,?t0⟩) hS ?_
    case t0=>rintro X ⟨h2,h3⟩;go_simp
    refine wpAnyH_take (i:=1) (v:=.pointer (some ⟨w.heap.size,2,none⟩)) rfl (by kernel_rfl) (by kernel_rfl) (by kernel_rfl) (fun _ _ _ h=>h) (Or.inl ⟨by rfl,?t1⟩) hS ?_
    case t1=>rintro X ⟨h2,h3⟩;go_simp
    refine wpAnyH_take (i:=2) (v:=.int .i64 (num:Int)) rfl (by kernel_rfl) (by kernel_rfl) (by kernel_rfl) (fun _ _ _ h=>h) (Or.inl ⟨by rfl,?t2⟩) hS ?_
    case t2=>rintro X ⟨h2,h3⟩;go_simp
    refine wpAnyH_take (i:=3) (v:=.pointer (some ⟨w.heap.size,3,none⟩)) rfl (by kernel_rfl) (by kernel_rfl) (by kernel_rfl) (fun _ _ _ h=>h) (Or.inl ⟨by rfl,?t3⟩) hS ?_
    case t3=>rintro X ⟨h2,h3⟩;go_simp
    refine wpAnyH_take (i:=4) (v:=.int .i8 t) rfl (by kernel_rfl) (by kernel_rfl) (by kernel_rfl) (fun _ _ _ h=>h) (Or.inl ⟨by rfl,?t4⟩) hS ?_
    case t4=>rintro X ⟨h2,h3⟩;go_simp
    refine wpAnyH_take (i:=6) (v:=.pointer (some ⟨kb,0,none⟩)) rfl (by kernel_rfl) (by kernel_rfl) (by kernel_rfl) (fun _ _ _ h=>h) (Or.inl ⟨by rfl,?t6⟩) hS ?_
    case t6=>rintro X ⟨h2,h3⟩;go_simp
    refine wpAnyH_ready (rs:=[5,8]) (by kernel_rfl) (by simp) (AllReadyH.cons rfl ?oa (AllReadyH.cons rfl ?ob AllReadyH.nil))
    case oa =>
     intro K hK;rw[if_pos (by rfl)]
     go_simp
     refine Calls.mono (CN.out _) ?_;rintro e w9 ⟨rfl,rfl⟩;refine hK.out _ _ hS (fun hS=>?_);clear hK K;refine wpAnyH_ready (rs:=[7,8]) (by kernel_rfl) (by simp) (AllReadyH.cons rfl ?oc (AllReadyH.cons rfl ?od AllReadyH.nil))
     case oc =>
      intro K hK;rw[if_pos (by rfl)]
      go_simp
      refine Calls.mono (CA3.out W3.drew (Below.refl W3.heap.size W3).drew) ?_;rintro e w5 ⟨ws2,n2,A2,ats2,parts2,rfl,hSR2,hpl2,hP5,hnn2,hAA2,hfr5⟩;have hpt5:=Blk.fr (HPTB.out W3.drew (Below.refl W3.heap.size W3).drew) hfr5 HWM.out;have hrs5:=Blk.fr (HRSB.out W3.drew (Below.refl W3.heap.size W3).drew) hfr5 HWM1.out;have hen5:=Blk.fr (HENB.out W3.drew (Below.refl W3.heap.size W3).drew) hfr5 HW2M.out;have hF5:FrX D.M w w5:=(HF3.out.trans (FrX.of_below (Below.refl W3.heap.size W3).drew)).trans hfr5;have hs5:=hF5.size;have hw25:=hen5.lt;have hcl2:=zah EO.v EO.pf EO.md hSR2.len;have hone2:=all_oneCell_toArray (zai EO.v EO.pf ws2 EO.md);have hcz2:(enC EO.v EO.pf ws2 EO.md).toArray.size=15:=by rw[List.size_toArray];exact hcl2
      have hiB2:(Tryz.prog.info? 186).map (·.size)=some (enC EO.v EO.pf ws2 EO.md).toArray.size:=by rw[hcz2];exact Tryz.infoEnd
      refine hK.out _ _ ⟨hpt5.cell rfl,hpt5.cell rfl⟩ (fun hS=>?_);clear hK K;refine wpAnyH_ready (rs:=[8]) (by kernel_rfl) (by simp) (AllReadyH.cons rfl ?oe AllReadyH.nil)
      case oe =>
       intro K hK;rw[if_pos (by rfl)]
       go_simp
       refine hK.out _ _ ⟨(World.cell?_alloc_lt _ _ _ hpt5.lt).trans hS.1,(World.cell?_alloc_lt _ _ _ hpt5.lt).trans hS.2⟩ (fun hS=>?_);clear hK K;refine wpAnyH_ready (rs:=[9]) (by kernel_rfl) (by simp) (AllReadyH.cons rfl ?o9 AllReadyH.nil)
       case o9 =>
        intro K hK;rw[if_pos (by rfl)];have hz9:Blk (w5.alloc (.cells zZa 186)) w5.heap.size 186 (enC 0 [] z9 (0,0,0,0)):=heap_alloc_new w5 _;have hth9:((w5.alloc (.cells zZa 186))).there w5.heap.size 0 (enC EO.v EO.pf ws2 EO.md).toArray.size:=by rw[hcz2];exact(hz9.row (zai _ _ _ _)).there 0 15 (by rw[zah 0 [] (0,0,0,0) rfl];omega)
        refine wp_store_mid 186 (.tmp 8) (.tmp 35) rfl (w5.heap.size) 0 (enC EO.v EO.pf ws2 EO.md).toArray rfl rfl hth9 hiB2 hone2 ?_;rw[show(enC EO.v EO.pf ws2 EO.md).toArray.toList=(enC EO.v EO.pf ws2 EO.md) by simp];have HSP:Hid _:=SpS.of (m:=n+2+2*s) HP.out (hP5.below (zaa w5 _)) (by omega) hAA2 (hF5.trans (FrX.of_below (zaa w5 _))) (hpt5.below (zaa w5 _)) (hrs5.below (zaa w5 _)) (hen5.below (zaa w5 _)) hz9 (by omega) (by omega) hSR2 hpl2;refine hK.out _ _ ⟨Blk.cell (i:=2) HSP.out.pt rfl,Blk.cell (i:=3) HSP.out.pt rfl⟩ (fun hS=>?_);clear hK K;refine wpAnyH_done (by kernel_rfl) ?_ _;go_wp2_with fail
        go_meet
        case rel=>exact⟨_,ws2,rfl,HSP.out⟩
     case od =>
      intro K hK;rw[if_pos (by rfl)]
      go_simp
      refine hK.out _ _ ⟨(World.cell?_alloc_lt _ _ _ (by dsimp only;exact HPTL.out)).trans hS.1,(World.cell?_alloc_lt _ _ _ (by dsimp only;exact HPTL.out)).trans hS.2⟩ (fun hS=>?_);clear hK K;refine wpAnyH_ready (rs:=[7]) (by kernel_rfl) (by simp) (AllReadyH.cons rfl ?of AllReadyH.nil)
      case of =>
       intro K hK;rw[if_pos (by rfl)]
       go_simp
       refine Calls.mono (CA3.out (W3.drew.alloc (.cells zZa 186)) hbA) ?_;rintro e w5 ⟨ws2,n2,A2,ats2,parts2,rfl,hSR2,hpl2,hP5,hnn2,hAA2,hfr5⟩;have hpt5:=Blk.fr (HPTB.out (W3.drew.alloc (.cells zZa 186)) hbA) hfr5 HWM.out;have hrs5:=Blk.fr (HRSB.out (W3.drew.alloc (.cells zZa 186)) hbA) hfr5 HWM1.out;have hen5:=Blk.fr (HENB.out (W3.drew.alloc (.cells zZa 186)) hbA) hfr5 HW2M.out;have hF5:FrX D.M w w5:=(HF3.out.trans (FrX.of_below hbA)).trans hfr5;have hs5:=hF5.size;have hw25:=hen5.lt;have hcl2:=zah EO.v EO.pf EO.md hSR2.len;have hone2:=all_oneCell_toArray (zai EO.v EO.pf ws2 EO.md);have hcz2:(enC EO.v EO.pf ws2 EO.md).toArray.size=15:=by rw[List.size_toArray];exact hcl2
       have hiB2:(Tryz.prog.info? 186).map (·.size)=some (enC EO.v EO.pf ws2 EO.md).toArray.size:=by rw[hcz2];exact Tryz.infoEnd
       refine hK.out _ _ ⟨hpt5.cell rfl,hpt5.cell rfl⟩ (fun hS=>?_);clear hK K;refine wpAnyH_ready (rs:=[9]) (by kernel_rfl) (by simp) (AllReadyH.cons rfl ?o9 AllReadyH.nil)
       case o9 =>
        intro K hK;rw[if_pos (by rfl)];have hz9:Blk w5 W3.heap.size 186 (enC 0 [] z9 (0,0,0,0)):=Blk.fr HZA.out hfr5 HW3M.out;have hth9:(w5).there W3.heap.size 0 (enC EO.v EO.pf ws2 EO.md).toArray.size:=by rw[hcz2];exact(hz9.row (zai _ _ _ _)).there 0 15 (by rw[zah 0 [] (0,0,0,0) rfl];omega)
        refine wp_store_mid 186 (.tmp 8) (.tmp 35) rfl (W3.heap.size) 0 (enC EO.v EO.pf ws2 EO.md).toArray rfl rfl hth9 hiB2 hone2 ?_;rw[show(enC EO.v EO.pf ws2 EO.md).toArray.toList=(enC EO.v EO.pf ws2 EO.md) by simp];have HSP:Hid _:=SpS.of (m:=n+2+2*s) HP.out hP5 (by omega) hAA2 hF5 hpt5 hrs5 hen5 hz9 (by omega) (by omega) hSR2 hpl2;refine hK.out _ _ ⟨Blk.cell (i:=2) HSP.out.pt rfl,Blk.cell (i:=3) HSP.out.pt rfl⟩ (fun hS=>?_);clear hK K;refine wpAnyH_done (by kernel_rfl) ?_ _;go_wp2_with fail
        go_meet
        case rel=>exact⟨_,ws2,rfl,HSP.out⟩
    case ob =>
     intro K hK;rw[if_pos (by rfl)]
     go_simp
     refine hK.out _ _ ⟨(World.cell?_alloc_lt _ _ _ (by dsimp only;exact HPTL.out)).trans hS.1,(World.cell?_alloc_lt _ _ _ (by dsimp only;exact HPTL.out)).trans hS.2⟩ (fun hS=>?_);clear hK K;refine wpAnyH_ready (rs:=[5]) (by kernel_rfl) (by simp) (AllReadyH.cons rfl ?og AllReadyH.nil)
     case og =>
      intro K hK;rw[if_pos (by rfl)]
      go_simp
      refine Calls.mono (CN.out _) ?_;rintro e w9 ⟨rfl,rfl⟩;refine hK.out _ _ hS (fun hS=>?_);clear hK K;refine wpAnyH_ready (rs:=[7]) (by kernel_rfl) (by simp) (AllReadyH.cons rfl ?oh AllReadyH.nil)
      case oh =>
       intro K hK;rw[if_pos (by rfl)]
       go_simp
       refine Calls.mono (CA3.out (W3.drew.alloc (.cells zZa 186)) hbA) ?_;rintro e w5 ⟨ws2,n2,A2,ats2,parts2,rfl,hSR2,hpl2,hP5,hnn2,hAA2,hfr5⟩;have hpt5:=Blk.fr (HPTB.out (W3.drew.alloc (.cells zZa 186)) hbA) hfr5 HWM.out;have hrs5:=Blk.fr (HRSB.out (W3.drew.alloc (.cells zZa 186)) hbA) hfr5 HWM1.out;have hen5:=Blk.fr (HENB.out (W3.drew.alloc (.cells zZa 186)) hbA) hfr5 HW2M.out;have hF5:FrX D.M w w5:=(HF3.out.trans (FrX.of_below hbA)).trans hfr5;have hs5:=hF5.size;have hw25:=hen5.lt;have hcl2:=zah EO.v EO.pf EO.md hSR2.len;have hone2:=all_oneCell_toArray (zai EO.v EO.pf ws2 EO.md);have hcz2:(enC EO.v EO.pf ws2 EO.md).toArray.size=15:=by rw[List.size_toArray];exact hcl2
       have hiB2:(Tryz.prog.info? 186).map (·.size)=some (enC EO.v EO.pf ws2 EO.md).toArray.size:=by rw[hcz2];exact Tryz.infoEnd
       refine hK.out _ _ ⟨hpt5.cell rfl,hpt5.cell rfl⟩ (fun hS=>?_);clear hK K;refine wpAnyH_ready (rs:=[9]) (by kernel_rfl) (by simp) (AllReadyH.cons rfl ?o9 AllReadyH.nil)
       case o9 =>
        intro K hK;rw[if_pos (by rfl)];have hz9:Blk w5 W3.heap.size 186 (enC 0 [] z9 (0,0,0,0)):=Blk.fr HZA.out hfr5 HW3M.out;have hth9:(w5).there W3.heap.size 0 (enC EO.v EO.pf ws2 EO.md).toArray.size:=by rw[hcz2];exact(hz9.row (zai _ _ _ _)).there 0 15 (by rw[zah 0 [] (0,0,0,0) rfl];omega)
        refine wp_store_mid 186 (.tmp 8) (.tmp 35) rfl (W3.heap.size) 0 (enC EO.v EO.pf ws2 EO.md).toArray rfl rfl hth9 hiB2 hone2 ?_;rw[show(enC EO.v EO.pf ws2 EO.md).toArray.toList=(enC EO.v EO.pf ws2 EO.md) by simp];have HSP:Hid _:=SpS.of (m:=n+2+2*s) HP.out hP5 (by omega) hAA2 hF5 hpt5 hrs5 hen5 hz9 (by omega) (by omega) hSR2 hpl2;refine hK.out _ _ ⟨Blk.cell (i:=2) HSP.out.pt rfl,Blk.cell (i:=3) HSP.out.pt rfl⟩ (fun hS=>?_);clear hK K;refine wpAnyH_done (by kernel_rfl) ?_ _;go_wp2_with fail
        go_meet
        case rel=>exact⟨_,ws2,rfl,HSP.out⟩
   case rest =>
    obtain⟨eb2,ws2,rfl,hSp⟩:=hcut;obtain⟨n2,A2,ats2,parts2,hP5,hnn2,hAA2⟩:=hSp.pv;have v5:wc.cell? ⟨eb2,0,none⟩=some (.int .i64 EO.v):=hSp.en2.cell rfl;have p25:wc.cell? ⟨w.heap.size,2,none⟩=some (.int .i64 (num:Int)):=hSp.pt.cell rfl;have p35:wc.cell? ⟨w.heap.size,3,none⟩=some (.int .i8 t):=hSp.pt.cell rfl;have hcl2:=zah EO.v EO.pf EO.md hSp.set2.len;have CH2:Hid _:=zgt wc eb2 2 num ws2 EO.nd hSp.set2 hSp.en2.enSet (by omega);have HSP:Hid _:=hSp;have hrs5:=hSp.rs;have hen5:=hSp.en2;have hF5:=hSp.fr;have hrl5:=hrs5.lt;clear hSp p23 p33 v3 CH1 CA3 hth hW3;by_cases hvo:EO.v=0
    ·have hvob:(EO.v != 0)=false:=by simpa using hvo
     have HVO:Hid (EO.v=0):=hvo;have hAA2':=hAA2 hvo;clear hvo;by_cases hno:EO.nd num=false
     ·have HR2:Hid (splR num t (EH,sh) (EO,so)=(EO,so)):=by show _=_;rw[HRR.out];exact if_pos (Or.inr hno)
      rw[hno] at CH2;clear hno;have q2:=hen5.range;have hR6:=hrs5.row (zai 0 [] z9 (0,0,0,0));rw[zah 0 [] (0,0,0,0) rfl] at hR6;have hzz:(enC EO.v EO.pf ws2 EO.md).toArray.size=15:=by rw[List.size_toArray];exact hcl2
      have hiBB:(Tryz.prog.info? 186).map (·.size)=some (enC EO.v EO.pf ws2 EO.md).toArray.size:=by rw[hzz];exact Tryz.infoEnd
      have hiAA:(Tryz.prog.info? 186).map (·.size)=some (enC EO.v EO.pf ws2 EO.md).length:=by rw[hcl2];exact Tryz.infoEnd
      have hth6:wc.there (w.heap.size+1) 0 (enC EO.v EO.pf ws2 EO.md).toArray.size:=by rw[hzz];exact hR6.there 0 15 (by omega)
      have hb7:Below w.heap.size wc (wc.setCells (w.heap.size+1) 0 (enC EO.v EO.pf ws2 EO.md)):=zae (by omega) (enC EO.v EO.pf ws2 EO.md) 0 wc wc (Below.refl _ _);have HP7:Hid _:=HP.out.far hP5 hb7;have HF7:Hid (FrX D.M w (wc.setCells (w.heap.size+1) 0 (enC EO.v EO.pf ws2 EO.md))):=FrX.far hF5 hb7;have HR:Hid (Av.Row wc (w.heap.size+1) 15):=hR6;have hon1:=all_oneCell_toArray (zai EO.v EO.pf ws2 EO.md);have HLN:Hid ((enC EO.v EO.pf ws2 EO.md).length=15):=hcl2;clear hP5 hen5 hrs5 hF5;clear hR6 hb7;go_wp2_with (first
       | (go_at_call 184;refine Calls.mono CH2.out ?_;rintro e w9 ⟨rfl,rfl⟩)|(refine wpList_load_mid rfl 186 (.tmp 8) rfl eb2 0 rfl (enC EO.v EO.pf ws2 EO.md) _ ?_ Tryz.underlying186 rfl hiAA ?_;(exact q2))
       | (refine wpList_store_mid rfl 186 (.tmp 6) (.tmp 46) rfl (w.heap.size+1) 0 (enC EO.v EO.pf ws2 EO.md).toArray rfl rfl ?_ hiBB hon1 ?_;(exact hth6)))
      exact Av.postN (enC EO.v EO.pf ws2 EO.md) rfl rfl Tryz.underlying186 rfl Tryz.infoEnd HR.out HLN.out (by rw[HR2.out];exact⟨ws2,n2,A2,ats2,parts2,rfl,HSP.out.set2,HSP.out.pf2,HP7.out,hnn2,hAA2,HF7.out⟩)
     ·have hno':EO.nd num=true:=by simpa using hno
      rw[hno'] at CH2;have HR2:Hid (splR num t (EH,sh) (EO,so)=(twoF num t EH EO,so)):=by show _=_;rw[HRR.out];exact if_neg (by rintro(h|h);exact h HVO.out;exact hno h)
      have hSRo:=HSR.out.or HSP.out.set2;have q1:wc.rangeAt w2.heap.size 2 (ws.map uw):=fun j v hv=>by
       obtain⟨x,hx1,hx2⟩:=Option.map_eq_some_iff.1 (by rw[List.getElem?_map] at hv;exact hv);rw[←hx2];exact HSP.out.en1.cell (zlQ _ _ _ hx1)
      have q2:wc.rangeAt eb2 2 (ws2.map uw):=fun j v hv=>by
       obtain⟨x,hx1,hx2⟩:=Option.map_eq_some_iff.1 (by rw[List.getElem?_map] at hv;exact hv);rw[←hx2];exact HSP.out.en2.cell (zlQ _ _ _ hx1)
      have hi1:(Tryz.prog.info? 184).map (·.size)=some (ws.map uw).length:=by rw[List.length_map,HSR.out.len];exact Tryz.infoSet
      have hi2:(Tryz.prog.info? 184).map (·.size)=some (ws2.map uw).length:=by rw[List.length_map,HSP.out.set2.len];exact Tryz.infoSet
      have CW:Hid _:=zgn wc ws ws2 HSR.out.len HSP.out.set2.len HSR.out.lt HSP.out.set2.lt;have hbs:=zjE (ow:=(owk ws ws2 9)) hSRo.len;have hclw:=zah 0 [] (0,0,0,0) hSRo.len;have honw:=all_oneCell_toArray (zai 0 [] (owk ws ws2 9) (0,0,0,0));have hczw:(enC 0 [] (owk ws ws2 9) (0,0,0,0)).toArray.size=15:=by rw[List.size_toArray];exact hclw
      have hiw:(Tryz.prog.info? 186).map (·.size)=some (enC 0 [] (owk ws ws2 9) (0,0,0,0)).toArray.size:=by rw[hczw];exact Tryz.infoEnd
      have HSO:Hid _:=hSRo;have HCLW:Hid _:=hclw;clear hno hno' hSRo hclw;generalize (owk ws ws2 9)=ow at *;go_wp2_with (first
       | (go_at_call 184;refine Calls.mono CH2.out ?_;rintro e w9 ⟨rfl,rfl⟩)|(refine wpList_load_mid rfl 184 (.tmp 47) rfl w2.heap.size 2 rfl (ws.map uw) _ ?_ Tryz.underlying184 rfl hi1 ?_;(exact q1))
       | (refine wpList_load_mid rfl 184 (.tmp 49) rfl eb2 2 rfl (ws2.map uw) _ ?_ Tryz.underlying184 rfl hi2 ?_;(exact q2)))
      refine Calls.mono CW.out ?_;rintro e w7 ⟨rfl,hb7⟩;obtain⟨x0,x1,x2,x3,x4,x5,x6,x7,x8,hxo⟩:=list9 HSO.out.len;have HXO:Hid (ow=[x0,x1,x2,x3,x4,x5,x6,x7,x8]):=hxo;rw[show(ow.map uw).toArray=#[.int .u64 ((x0:Nat):Int),.int .u64 ((x1:Nat):Int),.int .u64 ((x2:Nat):Int),.int .u64 ((x3:Nat):Int),.int .u64 ((x4:Nat):Int),.int .u64 ((x5:Nat):Int),.int .u64 ((x6:Nat):Int),.int .u64 ((x7:Nat):Int),.int .u64 ((x8:Nat):Int)] by rw[hxo];rfl];clear hxo hbs;have h78:Below w7.heap.size w7 (w7.alloc (.cells #[.int .i64 0,.string ⟨#[]⟩,.int .u64 ((x0:Nat):Int),.int .u64 ((x1:Nat):Int),.int .u64 ((x2:Nat):Int),.int .u64 ((x3:Nat):Int),.int .u64 ((x4:Nat):Int),.int .u64 ((x5:Nat):Int),.int .u64 ((x6:Nat):Int),.int .u64 ((x7:Nat):Int),.int .u64 ((x8:Nat):Int),.int .i64 0,.int .i64 0,.int .i64 0,.int .i64 0] 186)):=zaa w7 _;have hen8:Blk (w7.alloc (.cells #[.int .i64 0,.string ⟨#[]⟩,.int .u64 ((x0:Nat):Int),.int .u64 ((x1:Nat):Int),.int .u64 ((x2:Nat):Int),.int .u64 ((x3:Nat):Int),.int .u64 ((x4:Nat):Int),.int .u64 ((x5:Nat):Int),.int .u64 ((x6:Nat):Int),.int .u64 ((x7:Nat):Int),.int .u64 ((x8:Nat):Int),.int .i64 0,.int .i64 0,.int .i64 0,.int .i64 0] 186)) w7.heap.size 186 (enC 0 [] ow (0,0,0,0)):=by rw[HXO.out];exact heap_alloc_new w7 _
      have h5W:Below wc.heap.size wc (w7.alloc (.cells #[.int .i64 0,.string ⟨#[]⟩,.int .u64 ((x0:Nat):Int),.int .u64 ((x1:Nat):Int),.int .u64 ((x2:Nat):Int),.int .u64 ((x3:Nat):Int),.int .u64 ((x4:Nat):Int),.int .u64 ((x5:Nat):Int),.int .u64 ((x6:Nat):Int),.int .u64 ((x7:Nat):Int),.int .u64 ((x8:Nat):Int),.int .i64 0,.int .i64 0,.int .i64 0,.int .i64 0] 186)):=hb7.trans (h78.mono hb7.size);have hP8:=hP5.below h5W;have hrs8:=hrs5.below h5W;have hb7s:=hb7.size;have s1:∀x,(w7.alloc x).cell? ⟨w2.heap.size,1,none⟩=some (.string ⟨EH.pf.toArray⟩):=fun x=>Blk.cell (i:=1) ((HSP.out.en1.below hb7).below (zaa w7 x)) rfl
      have s2:∀x,(w7.alloc x).cell? ⟨eb2,1,none⟩=some (.string ⟨EO.pf.toArray⟩):=fun x=>Blk.cell (i:=1) ((HSP.out.en2.below hb7).below (zaa w7 x)) rfl
      have s3:∀x,(w7.alloc x).cell? ⟨w.heap.size,2,none⟩=some (.int .i64 (num:Int)):=fun x=>Blk.cell (i:=2) ((HSP.out.pt.below hb7).below (zaa w7 x)) rfl
      have s4:∀x,(w7.alloc x).cell? ⟨w.heap.size,3,none⟩=some (.int .i8 t):=fun x=>Blk.cell (i:=3) ((HSP.out.pt.below hb7).below (zaa w7 x)) rfl
      clear h78 hb7 q1 q2 CH2 v5 p25 p35;rcases ht with rfl|rfl
      ·have CSp:Hid _:=zbo num EH.pf EO.pf (w7.alloc (.cells #[.int .i64 0,.string ⟨#[]⟩,.int .u64 ((x0:Nat):Int),.int .u64 ((x1:Nat):Int),.int .u64 ((x2:Nat):Int),.int .u64 ((x3:Nat):Int),.int .u64 ((x4:Nat):Int),.int .u64 ((x5:Nat):Int),.int .u64 ((x6:Nat):Int),.int .u64 ((x7:Nat):Int),.int .u64 ((x8:Nat):Int),.int .i64 0,.int .i64 0,.int .i64 0,.int .i64 0] 186)) (by omega) (by have:=HSP.out.pf2;omega) (by have:=HSP.out.pf2;omega) (HGT.out (w7.alloc (.cells #[.int .i64 0,.string ⟨#[]⟩,.int .u64 ((x0:Nat):Int),.int .u64 ((x1:Nat):Int),.int .u64 ((x2:Nat):Int),.int .u64 ((x3:Nat):Int),.int .u64 ((x4:Nat):Int),.int .u64 ((x5:Nat):Int),.int .u64 ((x6:Nat):Int),.int .u64 ((x7:Nat):Int),.int .u64 ((x8:Nat):Int),.int .i64 0,.int .i64 0,.int .i64 0,.int .i64 0] 186)) hP8.h0);have hlt3:(spt num EH.pf EO.pf).length≤400010:=by have:=zfR num EH.pf EO.pf (by omega);have:=HSP.out.pf2;omega
       have HLT3:Hid _:=hlt3;have hcl3:=zah 0 (spt num EH.pf EO.pf) (0,0,0,0) HSO.out.len;have hon3:=all_oneCell_toArray (zai 0 (spt num EH.pf EO.pf) ow (0,0,0,0));have hcz3:(enC 0 (spt num EH.pf EO.pf) ow (0,0,0,0)).toArray.size=15:=by rw[List.size_toArray];exact hcl3
       have hiA3:(Tryz.prog.info? 186).map (·.size)=some (enC 0 (spt num EH.pf EO.pf) ow (0,0,0,0)).length:=by rw[hcl3];exact Tryz.infoEnd
       have hiB3:(Tryz.prog.info? 186).map (·.size)=some (enC 0 (spt num EH.pf EO.pf) ow (0,0,0,0)).toArray.size:=by rw[hcz3];exact Tryz.infoEnd
       have HCL3:Hid ((enC 0 (spt num EH.pf EO.pf) ow (0,0,0,0)).length=15):=hcl3;have HW9:Hid (∀w9,Below (w7.alloc (.cells #[.int .i64 0,.string ⟨#[]⟩,.int .u64 ((x0:Nat):Int),.int .u64 ((x1:Nat):Int),.int .u64 ((x2:Nat):Int),.int .u64 ((x3:Nat):Int),.int .u64 ((x4:Nat):Int),.int .u64 ((x5:Nat):Int),.int .u64 ((x6:Nat):Int),.int .u64 ((x7:Nat):Int),.int .u64 ((x8:Nat):Int),.int .i64 0,.int .i64 0,.int .i64 0,.int .i64 0] 186)).heap.size (w7.alloc (.cells #[.int .i64 0,.string ⟨#[]⟩,.int .u64 ((x0:Nat):Int),.int .u64 ((x1:Nat):Int),.int .u64 ((x2:Nat):Int),.int .u64 ((x3:Nat):Int),.int .u64 ((x4:Nat):Int),.int .u64 ((x5:Nat):Int),.int .u64 ((x6:Nat):Int),.int .u64 ((x7:Nat):Int),.int .u64 ((x8:Nat):Int),.int .i64 0,.int .i64 0,.int .i64 0,.int .i64 0] 186)) w9→(w9.setCell ⟨w7.heap.size,1,none⟩ (.string ⟨(spt num EH.pf EO.pf).toArray⟩)).rangeAt w7.heap.size 0 (enC 0 (spt num EH.pf EO.pf) ow (0,0,0,0))∧Av.Row (w9.setCell ⟨w7.heap.size,1,none⟩ (.string ⟨(spt num EH.pf EO.pf).toArray⟩)) (w.heap.size+1) 15∧PvS w0 ((w9.setCell ⟨w7.heap.size,1,none⟩ (.string ⟨(spt num EH.pf EO.pf).toArray⟩)).setCells (w.heap.size+1) 0 (enC 0 (spt num EH.pf EO.pf) ow (0,0,0,0))) D us g so n2 A2 ats2 parts2∧FrX D.M w ((w9.setCell ⟨w7.heap.size,1,none⟩ (.string ⟨(spt num EH.pf EO.pf).toArray⟩)).setCells (w.heap.size+1) 0 (enC 0 (spt num EH.pf EO.pf) ow (0,0,0,0)))):=fun w9 h9=>by
        have e1:Blk (w9.setCell ⟨w7.heap.size,1,none⟩ (.string ⟨(spt num EH.pf EO.pf).toArray⟩)) w7.heap.size 186 (enC 0 (spt num EH.pf EO.pf) ow (0,0,0,0)):=by
         have:=(Blk.below hen8 h9).set 1 (.string ⟨(spt num EH.pf EO.pf).toArray⟩);rw[zel] at this;exact this
        have e2:Blk (w9.setCell ⟨w7.heap.size,1,none⟩ (.string ⟨(spt num EH.pf EO.pf).toArray⟩)) (w.heap.size+1) 186 (enC 0 [] z9 (0,0,0,0)):=(Blk.below hrs8 h9).other _ _ (by omega);have e3:Below w.heap.size wc (w9.setCell ⟨w7.heap.size,1,none⟩ (.string ⟨(spt num EH.pf EO.pf).toArray⟩)):=((h5W.trans (h9.mono h5W.size)).mono (by omega)).setCell (p:=⟨w7.heap.size,1,none⟩) (by dsimp only;omega) _;have e4:Below w.heap.size wc ((w9.setCell ⟨w7.heap.size,1,none⟩ (.string ⟨(spt num EH.pf EO.pf).toArray⟩)).setCells (w.heap.size+1) 0 (enC 0 (spt num EH.pf EO.pf) ow (0,0,0,0))):=zae (by omega) _ 0 wc _ e3;have e5:=e2.row (zai _ _ _ _);rw[zah 0 [] (0,0,0,0) rfl] at e5;exact⟨e1.range,e5,HP.out.far hP5 e4,FrX.far hF5 e4⟩
       have HFB:Hid (∀w9,Below (w7.alloc (.cells #[.int .i64 0,.string ⟨#[]⟩,.int .u64 ((x0:Nat):Int),.int .u64 ((x1:Nat):Int),.int .u64 ((x2:Nat):Int),.int .u64 ((x3:Nat):Int),.int .u64 ((x4:Nat):Int),.int .u64 ((x5:Nat):Int),.int .u64 ((x6:Nat):Int),.int .u64 ((x7:Nat):Int),.int .u64 ((x8:Nat):Int),.int .i64 0,.int .i64 0,.int .i64 0,.int .i64 0] 186)).heap.size (w7.alloc (.cells #[.int .i64 0,.string ⟨#[]⟩,.int .u64 ((x0:Nat):Int),.int .u64 ((x1:Nat):Int),.int .u64 ((x2:Nat):Int),.int .u64 ((x3:Nat):Int),.int .u64 ((x4:Nat):Int),.int .u64 ((x5:Nat):Int),.int .u64 ((x6:Nat):Int),.int .u64 ((x7:Nat):Int),.int .u64 ((x8:Nat):Int),.int .i64 0,.int .i64 0,.int .i64 0,.int .i64 0] 186)) w9→w9.cell? ⟨w7.heap.size,1,none⟩=some (.string ⟨#[]⟩)∧w9.frozen? ⟨w7.heap.size,1,none⟩=false):=fun w9 h9=>⟨Blk.cell (i:=1) (Blk.below hen8 h9) rfl,Blk.free (Blk.below hen8 h9) 1⟩
       clear hen8 hrs8 h5W hP8 hP5 hF5 hen5 hrs5 hlt3 hcl3;go_wp2_with (first
        | (go_at_call 188;refine Calls.mono CSp.out ?_;rintro e w9 ⟨rfl,hb9⟩;obtain⟨g1,g2⟩:=HFB.out w9 hb9;obtain⟨k1,k2,k3,k4⟩:=HW9.out w9 hb9;have HK2:Hid _:=k2;have HK3:Hid _:=k3;have HK4:Hid _:=k4;have hth10:=(show Av.Row (w9.setCell ⟨w7.heap.size,1,none⟩ (.string ⟨(spt num EH.pf EO.pf).toArray⟩)) (w.heap.size+1) 15 from k2).there 0 15 (by omega);rw[←hcz3] at hth10;clear k2 k3 k4)
        | (refine wpList_load_mid rfl 186 (.tmp 9) rfl w7.heap.size 0 rfl (enC 0 (spt num EH.pf EO.pf) ow (0,0,0,0)) _ ?_ Tryz.underlying186 rfl hiA3 ?_;(exact k1))
        | (refine wpList_store_mid rfl 186 (.tmp 6) (.tmp 72) rfl (w.heap.size+1) 0 (enC 0 (spt num EH.pf EO.pf) ow (0,0,0,0)).toArray rfl rfl ?_ hiB3 hon3 ?_;(exact hth10)))
       exact Av.postN (enC 0 (spt num EH.pf EO.pf) ow (0,0,0,0)) rfl rfl Tryz.underlying186 rfl Tryz.infoEnd HK2.out HCL3.out (by rw[HR2.out];exact⟨ow,n2,A2,ats2,parts2,rfl,HSO.out,HLT3.out,HK3.out,hnn2,fun _=>hAA2',HK4.out⟩)
      ·have CSp:Hid _:=zbo num EO.pf EH.pf (w7.alloc (.cells #[.int .i64 0,.string ⟨#[]⟩,.int .u64 ((x0:Nat):Int),.int .u64 ((x1:Nat):Int),.int .u64 ((x2:Nat):Int),.int .u64 ((x3:Nat):Int),.int .u64 ((x4:Nat):Int),.int .u64 ((x5:Nat):Int),.int .u64 ((x6:Nat):Int),.int .u64 ((x7:Nat):Int),.int .u64 ((x8:Nat):Int),.int .i64 0,.int .i64 0,.int .i64 0,.int .i64 0] 186)) (by omega) (by have:=HSP.out.pf2;omega) (by have:=HSP.out.pf2;omega) (HGT.out (w7.alloc (.cells #[.int .i64 0,.string ⟨#[]⟩,.int .u64 ((x0:Nat):Int),.int .u64 ((x1:Nat):Int),.int .u64 ((x2:Nat):Int),.int .u64 ((x3:Nat):Int),.int .u64 ((x4:Nat):Int),.int .u64 ((x5:Nat):Int),.int .u64 ((x6:Nat):Int),.int .u64 ((x7:Nat):Int),.int .u64 ((x8:Nat):Int),.int .i64 0,.int .i64 0,.int .i64 0,.int .i64 0] 186)) hP8.h0);have hlt3:(spt num EO.pf EH.pf).length≤400010:=by have:=zfR num EO.pf EH.pf (by omega);have:=HSP.out.pf2;omega
       have HLT3:Hid _:=hlt3;have hcl3:=zah 0 (spt num EO.pf EH.pf) (0,0,0,0) HSO.out.len;have hon3:=all_oneCell_toArray (zai 0 (spt num EO.pf EH.pf) ow (0,0,0,0));have hcz3:(enC 0 (spt num EO.pf EH.pf) ow (0,0,0,0)).toArray.size=15:=by rw[List.size_toArray];exact hcl3
       have hiA3:(Tryz.prog.info? 186).map (·.size)=some (enC 0 (spt num EO.pf EH.pf) ow (0,0,0,0)).length:=by rw[hcl3];exact Tryz.infoEnd
       have hiB3:(Tryz.prog.info? 186).map (·.size)=some (enC 0 (spt num EO.pf EH.pf) ow (0,0,0,0)).toArray.size:=by rw[hcz3];exact Tryz.infoEnd
       have HCL3:Hid ((enC 0 (spt num EO.pf EH.pf) ow (0,0,0,0)).length=15):=hcl3;have HW9:Hid (∀w9,Below (w7.alloc (.cells #[.int .i64 0,.string ⟨#[]⟩,.int .u64 ((x0:Nat):Int),.int .u64 ((x1:Nat):Int),.int .u64 ((x2:Nat):Int),.int .u64 ((x3:Nat):Int),.int .u64 ((x4:Nat):Int),.int .u64 ((x5:Nat):Int),.int .u64 ((x6:Nat):Int),.int .u64 ((x7:Nat):Int),.int .u64 ((x8:Nat):Int),.int .i64 0,.int .i64 0,.int .i64 0,.int .i64 0] 186)).heap.size (w7.alloc (.cells #[.int .i64 0,.string ⟨#[]⟩,.int .u64 ((x0:Nat):Int),.int .u64 ((x1:Nat):Int),.int .u64 ((x2:Nat):Int),.int .u64 ((x3:Nat):Int),.int .u64 ((x4:Nat):Int),.int .u64 ((x5:Nat):Int),.int .u64 ((x6:Nat):Int),.int .u64 ((x7:Nat):Int),.int .u64 ((x8:Nat):Int),.int .i64 0,.int .i64 0,.int .i64 0,.int .i64 0] 186)) w9→(w9.setCell ⟨w7.heap.size,1,none⟩ (.string ⟨(spt num EO.pf EH.pf).toArray⟩)).rangeAt w7.heap.size 0 (enC 0 (spt num EO.pf EH.pf) ow (0,0,0,0))∧Av.Row (w9.setCell ⟨w7.heap.size,1,none⟩ (.string ⟨(spt num EO.pf EH.pf).toArray⟩)) (w.heap.size+1) 15∧PvS w0 ((w9.setCell ⟨w7.heap.size,1,none⟩ (.string ⟨(spt num EO.pf EH.pf).toArray⟩)).setCells (w.heap.size+1) 0 (enC 0 (spt num EO.pf EH.pf) ow (0,0,0,0))) D us g so n2 A2 ats2 parts2∧FrX D.M w ((w9.setCell ⟨w7.heap.size,1,none⟩ (.string ⟨(spt num EO.pf EH.pf).toArray⟩)).setCells (w.heap.size+1) 0 (enC 0 (spt num EO.pf EH.pf) ow (0,0,0,0)))):=fun w9 h9=>by
        have e1:Blk (w9.setCell ⟨w7.heap.size,1,none⟩ (.string ⟨(spt num EO.pf EH.pf).toArray⟩)) w7.heap.size 186 (enC 0 (spt num EO.pf EH.pf) ow (0,0,0,0)):=by
         have:=(Blk.below hen8 h9).set 1 (.string ⟨(spt num EO.pf EH.pf).toArray⟩);rw[zel] at this;exact this
        have e2:Blk (w9.setCell ⟨w7.heap.size,1,none⟩ (.string ⟨(spt num EO.pf EH.pf).toArray⟩)) (w.heap.size+1) 186 (enC 0 [] z9 (0,0,0,0)):=(Blk.below hrs8 h9).other _ _ (by omega);have e3:Below w.heap.size wc (w9.setCell ⟨w7.heap.size,1,none⟩ (.string ⟨(spt num EO.pf EH.pf).toArray⟩)):=((h5W.trans (h9.mono h5W.size)).mono (by omega)).setCell (p:=⟨w7.heap.size,1,none⟩) (by dsimp only;omega) _;have e4:Below w.heap.size wc ((w9.setCell ⟨w7.heap.size,1,none⟩ (.string ⟨(spt num EO.pf EH.pf).toArray⟩)).setCells (w.heap.size+1) 0 (enC 0 (spt num EO.pf EH.pf) ow (0,0,0,0))):=zae (by omega) _ 0 wc _ e3;have e5:=e2.row (zai _ _ _ _);rw[zah 0 [] (0,0,0,0) rfl] at e5;exact⟨e1.range,e5,HP.out.far hP5 e4,FrX.far hF5 e4⟩
       have HFB:Hid (∀w9,Below (w7.alloc (.cells #[.int .i64 0,.string ⟨#[]⟩,.int .u64 ((x0:Nat):Int),.int .u64 ((x1:Nat):Int),.int .u64 ((x2:Nat):Int),.int .u64 ((x3:Nat):Int),.int .u64 ((x4:Nat):Int),.int .u64 ((x5:Nat):Int),.int .u64 ((x6:Nat):Int),.int .u64 ((x7:Nat):Int),.int .u64 ((x8:Nat):Int),.int .i64 0,.int .i64 0,.int .i64 0,.int .i64 0] 186)).heap.size (w7.alloc (.cells #[.int .i64 0,.string ⟨#[]⟩,.int .u64 ((x0:Nat):Int),.int .u64 ((x1:Nat):Int),.int .u64 ((x2:Nat):Int),.int .u64 ((x3:Nat):Int),.int .u64 ((x4:Nat):Int),.int .u64 ((x5:Nat):Int),.int .u64 ((x6:Nat):Int),.int .u64 ((x7:Nat):Int),.int .u64 ((x8:Nat):Int),.int .i64 0,.int .i64 0,.int .i64 0,.int .i64 0] 186)) w9→w9.cell? ⟨w7.heap.size,1,none⟩=some (.string ⟨#[]⟩)∧w9.frozen? ⟨w7.heap.size,1,none⟩=false):=fun w9 h9=>⟨Blk.cell (i:=1) (Blk.below hen8 h9) rfl,Blk.free (Blk.below hen8 h9) 1⟩
       clear hen8 hrs8 h5W hP8 hP5 hF5 hen5 hrs5 hlt3 hcl3;go_wp2_with (first
        | (go_at_call 188;refine Calls.mono CSp.out ?_;rintro e w9 ⟨rfl,hb9⟩;obtain⟨g1,g2⟩:=HFB.out w9 hb9;obtain⟨k1,k2,k3,k4⟩:=HW9.out w9 hb9;have HK2:Hid _:=k2;have HK3:Hid _:=k3;have HK4:Hid _:=k4;have hth10:=(show Av.Row (w9.setCell ⟨w7.heap.size,1,none⟩ (.string ⟨(spt num EO.pf EH.pf).toArray⟩)) (w.heap.size+1) 15 from k2).there 0 15 (by omega);rw[←hcz3] at hth10;clear k2 k3 k4)
        | (refine wpList_load_mid rfl 186 (.tmp 9) rfl w7.heap.size 0 rfl (enC 0 (spt num EO.pf EH.pf) ow (0,0,0,0)) _ ?_ Tryz.underlying186 rfl hiA3 ?_;(exact k1))
        | (refine wpList_store_mid rfl 186 (.tmp 6) (.tmp 72) rfl (w.heap.size+1) 0 (enC 0 (spt num EO.pf EH.pf) ow (0,0,0,0)).toArray rfl rfl ?_ hiB3 hon3 ?_;(exact hth10)))
       exact Av.postN (enC 0 (spt num EO.pf EH.pf) ow (0,0,0,0)) rfl rfl Tryz.underlying186 rfl Tryz.infoEnd HK2.out HCL3.out (by rw[HR2.out];exact⟨ow,n2,A2,ats2,parts2,rfl,HSO.out,HLT3.out,HK3.out,hnn2,fun _=>hAA2',HK4.out⟩)
    ·have hvob:(EO.v != 0)=true:=by simpa using hvo
     have HR2:Hid (splR num t (EH,sh) (EO,so)=(EO,so)):=by show _=_;rw[HRR.out];exact if_pos (Or.inl hvo)
     clear hvo;have q2:=hen5.range;have hR6:=hrs5.row (zai 0 [] z9 (0,0,0,0));rw[zah 0 [] (0,0,0,0) rfl] at hR6;have hzz:(enC EO.v EO.pf ws2 EO.md).toArray.size=15:=by rw[List.size_toArray];exact hcl2
     have hiBB:(Tryz.prog.info? 186).map (·.size)=some (enC EO.v EO.pf ws2 EO.md).toArray.size:=by rw[hzz];exact Tryz.infoEnd
     have hiAA:(Tryz.prog.info? 186).map (·.size)=some (enC EO.v EO.pf ws2 EO.md).length:=by rw[hcl2];exact Tryz.infoEnd
     have hth6:wc.there (w.heap.size+1) 0 (enC EO.v EO.pf ws2 EO.md).toArray.size:=by rw[hzz];exact hR6.there 0 15 (by omega)
     have hb7:Below w.heap.size wc (wc.setCells (w.heap.size+1) 0 (enC EO.v EO.pf ws2 EO.md)):=zae (by omega) (enC EO.v EO.pf ws2 EO.md) 0 wc wc (Below.refl _ _);have HP7:Hid _:=HP.out.far hP5 hb7;have HF7:Hid (FrX D.M w (wc.setCells (w.heap.size+1) 0 (enC EO.v EO.pf ws2 EO.md))):=FrX.far hF5 hb7;have HR:Hid (Av.Row wc (w.heap.size+1) 15):=hR6;have hon1:=all_oneCell_toArray (zai EO.v EO.pf ws2 EO.md);have HLN:Hid ((enC EO.v EO.pf ws2 EO.md).length=15):=hcl2;clear hP5 hen5 hrs5 hF5;clear hR6 hb7;go_wp2_with (first
      | (go_at_call 184;refine Calls.mono CH2.out ?_;rintro e w9 ⟨rfl,rfl⟩)|(refine wpList_load_mid rfl 186 (.tmp 8) rfl eb2 0 rfl (enC EO.v EO.pf ws2 EO.md) _ ?_ Tryz.underlying186 rfl hiAA ?_;(exact q2))
      | (refine wpList_store_mid rfl 186 (.tmp 6) (.tmp 46) rfl (w.heap.size+1) 0 (enC EO.v EO.pf ws2 EO.md).toArray rfl rfl ?_ hiBB hon1 ?_;(exact hth6)))
     exact Av.postN (enC EO.v EO.pf ws2 EO.md) rfl rfl Tryz.underlying186 rfl Tryz.infoEnd HR.out HLN.out (by rw[HR2.out];exact⟨ws2,n2,A2,ats2,parts2,rfl,HSP.out.set2,HSP.out.pf2,HP7.out,hnn2,hAA2,HF7.out⟩)
 ·have hvb:(EH.v != 0)=true:=by simpa using hv
  have HRR:Hid (∀O,splR num t (EH,sh) O=(EH,sh)):=fun O=>by unfold splR;exact if_pos (Or.inl hv)
  clear hv;have q2:=hen3.range;have hR6:=hrs3.row (zai 0 [] z9 (0,0,0,0));rw[zah 0 [] (0,0,0,0) rfl] at hR6;have hzz:(enC EH.v EH.pf ws EH.md).toArray.size=15:=by rw[List.size_toArray];exact hcl
  have hiBB:(Tryz.prog.info? 186).map (·.size)=some (enC EH.v EH.pf ws EH.md).toArray.size:=by rw[hzz];exact Tryz.infoEnd
  have hiAA:(Tryz.prog.info? 186).map (·.size)=some (enC EH.v EH.pf ws EH.md).length:=by rw[hcl];exact Tryz.infoEnd
  have hth6:W3.there (w.heap.size+1) 0 (enC EH.v EH.pf ws EH.md).toArray.size:=by rw[hzz];exact hR6.there 0 15 (by omega)
  have hb7:Below w.heap.size W3 (W3.setCells (w.heap.size+1) 0 (enC EH.v EH.pf ws EH.md)):=zae (by omega) (enC EH.v EH.pf ws EH.md) 0 W3 W3 (Below.refl _ _);have HP7:Hid _:=HP.out.far hP3 hb7;have HF7:Hid (FrX D.M w (W3.setCells (w.heap.size+1) 0 (enC EH.v EH.pf ws EH.md))):=FrX.far hF3 hb7;have HR:Hid (Av.Row W3 (w.heap.size+1) 15):=hR6;have hon1:=all_oneCell_toArray (zai EH.v EH.pf ws EH.md);have HLN:Hid ((enC EH.v EH.pf ws EH.md).length=15):=hcl;clear hP3 hen3 hrs3 hF3 hSR;clear hR6 hb7;go_wp2_with (first
   | (refine wpList_store_mid rfl 186 (.tmp 7) (.tmp 16) rfl w2.heap.size 0 (enC EH.v EH.pf ws EH.md).toArray rfl rfl ?_ hiB hone ?_;(exact hth);(rw[show(enC EH.v EH.pf ws EH.md).toArray.toList=(enC EH.v EH.pf ws EH.md) by simp,hW3]))|(go_at_call 184;refine Calls.mono CH1.out ?_;rintro e w9 ⟨rfl,rfl⟩)|(refine wpList_load_mid rfl 186 (.tmp 7) rfl w2.heap.size 0 rfl (enC EH.v EH.pf ws EH.md) _ ?_ Tryz.underlying186 rfl hiAA ?_;(exact q2))
   | (refine wpList_store_mid rfl 186 (.tmp 6) (.tmp 27) rfl (w.heap.size+1) 0 (enC EH.v EH.pf ws EH.md).toArray rfl rfl ?_ hiBB hon1 ?_;(exact hth6)))
  exact Av.postN (enC EH.v EH.pf ws EH.md) rfl rfl Tryz.underlying186 rfl Tryz.infoEnd HR.out HLN.out (by rw[HRR.out];exact⟨ws,n',A',ats',parts',rfl,HSR.out,hpl,HP7.out,by omega,hAA,HF7.out⟩)
end Go.Proofs.YtkinoehmcfhgbaaGreatDoor.Vl
