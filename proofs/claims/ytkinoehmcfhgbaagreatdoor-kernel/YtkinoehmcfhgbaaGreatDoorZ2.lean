/- A part of the proof. -/
import Derived.Test.YtkinoehmcfhgbaaGreatDoorV22
import Derived.Test.YtkinoehmcfhgbaaGreatDoorF3
set_option linter.unusedVariables false
set_option linter.unusedSimpArgs false
set_option maxRecDepth 100000
set_option maxHeartbeats 2000000
namespace Go.Proofs.YtkinoehmcfhgbaaGreatDoor.Vl
open Go.RowKit
def gfo (B:Bd) (l k:Nat):Int:=(List.range k).foldl (fun least j=>if bkn (B l j)=true then min least (bmo (B l j)) else least) 0
theorem zjT (B:Bd) (l k:Nat):gfo B l (k+1)=if bkn (B l k)=true then min (gfo B l k) (bmo (B l k)) else gfo B l k:=by
 unfold gfo;rw[List.range_succ,List.foldl_append]
 rfl
theorem zjU (B:Bd) (l:Nat):gfo B l 5=bgr B l:=by
 unfold gfo bgr
 congr 1
 funext least j
 cases B l j with
 | none=>rfl
 | some x=>obtain⟨m,p⟩:=x;rfl
def rwc (B:Bd) (l:Nat) (v0 v1 v2 v3 v4:Value):List Value :=
 [.bool (bkn (B l 0)),.int .i64 (bmo (B l 0)),v0,.bool (bkn (B l 1)),.int .i64 (bmo (B l 1)),v1,.bool (bkn (B l 2)),.int .i64 (bmo (B l 2)),v2,.bool (bkn (B l 3)),.int .i64 (bmo (B l 3)),v3,.bool (bkn (B l 4)),.int .i64 (bmo (B l 4)),v4]
def Slc (v:Value):Prop:=∃a n c,v=.slice a n c
theorem IntsR.slc {w:World} {v:Value} {ls:List Int} (h:IntsR w v ls):Slc v:=by
 rcases h with⟨h,_⟩|⟨b,cap,h,_⟩<;>exact⟨_,_,_,h⟩
theorem BdAt.row {w:World} {b:Nat} {B:Bd} (h:BdAt w b 0 B) (l:Nat) (hl:l<5):∃v0 v1 v2 v3 v4,(Slc v0∧Slc v1∧Slc v2∧Slc v3∧Slc v4)∧w.rangeAt b (l*15) (rwc B l v0 v1 v2 v3 v4):=by
 obtain⟨a0,b0,v0,c0,d0⟩:=h.2 l 0 hl (by omega);obtain⟨a1,b1,v1,c1,d1⟩:=h.2 l 1 hl (by omega);obtain⟨a2,b2,v2,c2,d2⟩:=h.2 l 2 hl (by omega);obtain⟨a3,b3,v3,c3,d3⟩:=h.2 l 3 hl (by omega);obtain⟨a4,b4,v4,c4,d4⟩:=h.2 l 4 hl (by omega);rw[Nat.zero_add] at a0 b0 c0 a1 b1 c1 a2 b2 c2 a3 b3 c3 a4 b4 c4;refine⟨v0,v1,v2,v3,v4,⟨d0.slc,d1.slc,d2.slc,d3.slc,d4.slc⟩,?_⟩;intro j v hv
 match j,hv with
 | 0,hv=>cases hv;exact a0
 | 1,hv=>cases hv;exact b0
 | 2,hv=>cases hv;exact c0
 | 3,hv=>cases hv;exact a1
 | 4,hv=>cases hv;exact b1
 | 5,hv=>cases hv;exact c1
 | 6,hv=>cases hv;exact a2
 | 7,hv=>cases hv;exact b2
 | 8,hv=>cases hv;exact c2
 | 9,hv=>cases hv;exact a3
 | 10,hv=>cases hv;exact b3
 | 11,hv=>cases hv;exact c3
 | 12,hv=>cases hv;exact a4
 | 13,hv=>cases hv;exact b4
 | 14,hv=>cases hv;exact c4
 | (n+15),hv=>simp[rwc] at hv
theorem Tryz.infoRow5:(Tryz.prog.info? 190).map (·.size)=some 15:=by kernel_rfl
theorem idxRow (X:World) (cs:List Value) (k:Nat) (hk:k<5):(Instr.index 190 (.agg cs.toArray) (.int .i64 (k:Int))).run Tryz.prog X=.ok (.agg (cs.toArray.extract (k*3) (k*3+3))) X:=by
 have h5:(k:Int)<5:=by omega
 simp[Instr.index,run_underlying Tryz.underlying190,asIntOf,part,go_sem,h5];intro h;omega
theorem zll (B:Bd) (l:Nat) (v0 v1 v2 v3 v4:Value) (hv:Slc v0∧Slc v1∧Slc v2∧Slc v3∧Slc v4) (k:Nat) (hk:k<5):∃v,Slc v∧∀X,(Instr.index 190 (.agg (rwc B l v0 v1 v2 v3 v4).toArray) (.int .i64 (k:Int))).run Tryz.prog X=.ok (.agg #[.bool (bkn (B l k)),.int .i64 (bmo (B l k)),v]) X:=by
 have hk5:k=0∨k=1∨k=2∨k=3∨k=4:=by omega
 rcases hk5 with rfl|rfl|rfl|rfl|rfl
 ·exact⟨v0,hv.1,fun X=>idxRow X _ 0 (by omega)⟩
 ·exact⟨v1,hv.2.1,fun X=>idxRow X _ 1 (by omega)⟩
 ·exact⟨v2,hv.2.2.1,fun X=>idxRow X _ 2 (by omega)⟩
 ·exact⟨v3,hv.2.2.2.1,fun X=>idxRow X _ 3 (by omega)⟩
 ·exact⟨v4,hv.2.2.2.2,fun X=>idxRow X _ 4 (by omega)⟩
theorem ze4 (w:World) (b:Nat) (B:Bd) (l:Nat) (h:BdAt w b 0 B) (hl:l<5) :
 Calls Tryz.prog 181 #[.pointer (some ⟨b,0,none⟩),.int .i64 l] w fun e w'=>e=.returned (.int .i64 (bgr B l))∧Below w.heap.size w w':=by
 obtain⟨v0,v1,v2,v3,v4,hsl,hr⟩:=h.row l hl;clear h;have l5:(l:Int)<5:=by omega
 rw[←zjU];have hi:=Tryz.infoRow5;have HX:Hid (∀k:Nat,k<5→∃v,Slc v∧∀X,(Instr.index 190 (.agg (rwc B l v0 v1 v2 v3 v4).toArray) (.int .i64 (k:Int))).run Tryz.prog X=.ok (.agg #[.bool (bkn (B l k)),.int .i64 (bmo (B l k)),v]) X):=fun k hk=>zll B l v0 v1 v2 v3 v4 hsl k hk
 clear hsl;go_enter Tryz.func181,Tryz.ntmps181;go_wp2_with (refine wpList_load_mid rfl 190 (.tmp 11) rfl b (l*15) rfl (rwc B l v0 v1 v2 v3 v4) _ ?_ Tryz.underlying190 rfl hi ?_;(exact hr))
 go_loopw [5,13] (fun s5 s13 wr=>∃k:Nat,s13=.int .i64 (k:Int)∧s5=.int .i64 (gfo B l k)∧k≤5∧Below w.heap.size w wr) (fun _ i _=>5-(intOf i).toNat)
 case atStart=>exact⟨0,rfl,rfl,by omega,Below.refl _ _⟩
 case round =>
  obtain⟨k,rfl,rfl,hk,hB⟩:=hrel;have hs:=zjT B l k;by_cases hlt:k<5
  ·have hlt':(k:Int)<5:=by omega
   have hx:=HX.out k hlt;obtain⟨v,⟨sa,sn,sc,rfl⟩,hx⟩:=hx;have hw1:IntKind.i64.wrap ((k:Int)+1)=(k:Int)+1:=by rw[IntKind.wrap_i64];omega
   have hS:Hid (gfo B l (k+1)=if bkn (B l k)=true then min (gfo B l k) (bmo (B l k)) else gfo B l k):=hs;clear hs;generalize bkn (B l k)=K at *;generalize bmo (B l k)=M at *;generalize gfo B l k=G at *;cases K with
   | true =>
    go_wp2
    go_roundw
    case rel=>exact⟨k+1,by go_num,by rw[hS.out];rfl,by omega,hB.alloc (by have:=hB.size;omega) _⟩
    case measure=>simp[intOf];omega
   | false =>
    go_wp2
    go_roundw
    case rel=>exact⟨k+1,by go_num,by rw[hS.out];rfl,by omega,hB.alloc (by have:=hB.size;omega) _⟩
    case measure=>simp[intOf];omega
  ·have hlt':¬(k:Int)<5:=by omega
   have hk5:k=5:=by omega
   subst hk5;go_wp2;go_ret;exact⟨rfl,hB⟩
def sof (B:Bd) (k j:Nat):Int:=if j<k then bgr B (j+1)-bgr B 0 else 0
theorem ziB (w:World) (b:Nat) (B:Bd) (h:BdAt w b 0 B) (hbig:∀j,j<5→-1000000000≤bgr B j∧bgr B j≤0) :
 Calls Tryz.prog 129 #[.pointer (some ⟨b,0,none⟩)] w fun e w'=>e=.returned (.agg #[.int .i64 (bmd B).1,.int .i64 (bmd B).2.1,.int .i64 (bmd B).2.2.1,.int .i64 (bmd B).2.2.2])∧Below w.heap.size w w':=by
 have CG:Hid (∀(l:Nat) X,l<5→Below w.heap.size w X→Calls Tryz.prog 181 #[.pointer (some ⟨b,0,none⟩),.int .i64 l] X fun e w'=>e=.returned (.int .i64 (bgr B l))∧Below X.heap.size X w'):=fun l X hl hX=>ze4 X b B l (h.below hX) hl
 have CV:Hid (∀(x:Nat) X,x<4→Calls Tryz.prog 182 #[.int .i64 (x:Int)] X fun e w'=>e=.returned (.int .i64 ((x+1:Nat):Int))∧X=w'):=fun x X hx=>by
  have:=zbe (x:Int) X (by omega);rw[show((x+1:Nat):Int)=(x:Int)+1 by omega];exact this
 have HBG:Hid _:=hbig;clear h hbig;have hW:Below w.heap.size w ((w.alloc (.cells zZa 36)).alloc (.cells zZa 36)):=(zaa w _).alloc (by simp) _;have hS0:((w.alloc (.cells zZa 36)).alloc (.cells zZa 36)).heap[w.heap.size]?=some (.cells zZa 36 (0,0)):=(Below.heap_alloc _ _ _ (by simp)).trans (heap_alloc_new _ _);have hS1:((w.alloc (.cells zZa 36)).alloc (.cells zZa 36)).heap[w.heap.size+1]?=some (.cells zZa 36 (0,0)):=by have:=heap_alloc_new (w.alloc (.cells zZa 36)) (.cells zZa 36);rwa [World.size_alloc] at this
 have hSz:w.heap.size+1<((w.alloc (.cells zZa 36)).alloc (.cells zZa 36)).heap.size:=by simp
 go_enter Tryz.func129,Tryz.ntmps129;go_wp2_with fail;generalize ((w.alloc (.cells zZa 36)).alloc (.cells zZa 36))=W0 at *
 go_at_call 181
 refine Calls.mono (CG.out 0 _ (by omega) hW) ?_;rintro e w1 ⟨rfl,hb1⟩;have hS0':w1.heap[w.heap.size]?=some (.cells zZa 36 (0,0)):=(hb1.block _ (by omega)).trans hS0;have hS1':w1.heap[w.heap.size+1]?=some (.cells zZa 36 (0,0)):=(hb1.block _ (by omega)).trans hS1;have HS:Hid _:=(⟨hS0',hS1',hW.trans (hb1.mono hW.size)⟩:_∧_∧_);clear hS0 hS1 hS0' hS1' hb1 hW hSz;go_wp2_with fail
 go_loopw [8] (fun s8 wr=>∃(k:Nat),s8=.int .i64 (k:Int)∧k≤4∧wr.heap[w.heap.size]?=some (.cells zZa 36 (0,0))∧wr.heap[w.heap.size+1]?=some (.cells #[.int .i64 (sof B k 0),.int .i64 (sof B k 1),.int .i64 (sof B k 2),.int .i64 (sof B k 3)] 36 (0,0))∧Below w.heap.size w wr) (fun s8 _=>4-(intOf s8).toNat)
 case atStart=>exact⟨0,rfl,by omega,HS.out.1,HS.out.2.1,HS.out.2.2⟩
 case round =>
  clear HS;obtain⟨k,rfl,hk,hR,hO,hb⟩:=hrel;by_cases hlt:k<4
  ·have hlt':(k:Int)<4:=by omega
   have hsz:w.heap.size+1<wr.heap.size:=by
    rcases Nat.lt_or_ge (w.heap.size+1) wr.heap.size with h|h
    ·exact h
    ·rw[Array.getElem?_eq_none h] at hO;cases hO
   have hC:∃z:Int,wr.cell? ⟨w.heap.size+1,k,none⟩=some (.int .i64 z):=by
    have hc:k=0∨k=1∨k=2∨k=3:=by omega
    rcases hc with rfl|rfl|rfl|rfl
    ·exact⟨_,Lib.cell_of_heap hO 0⟩
    ·exact⟨_,Lib.cell_of_heap hO 1⟩
    ·exact⟨_,Lib.cell_of_heap hO 2⟩
    ·exact⟨_,Lib.cell_of_heap hO 3⟩
   obtain⟨z,hz⟩:=hC;have fz:wr.frozen? ⟨w.heap.size+1,k,none⟩=false:=Lib.frozen_of_heap hO k;have g0:=HBG.out 0 (by omega);have g1:=HBG.out (k+1) (by omega);have HE:Hid (sof B (k+1) k=bgr B (k+1)-bgr B 0):=by show _=_;unfold sof;rw[if_pos (by omega)]
   have HO:Hid _:=hO;have HR:Hid _:=hR;clear hO hR;have hws:IntKind.i64.wrap (bgr B (k+1)-bgr B 0)=bgr B (k+1)-bgr B 0:=by rw[IntKind.wrap_i64];omega
   have hw1:IntKind.i64.wrap ((k:Int)+1)=(k:Int)+1:=by rw[IntKind.wrap_i64];omega
   go_wp2_with fail
   go_at_call 182
   refine Calls.mono (CV.out k _ (by omega)) ?_;rintro e w2 ⟨rfl,rfl⟩;go_wp2_with fail
   go_at_call 181
   refine Calls.mono (CG.out (k+1) _ (by omega) hb) ?_;rintro e w2 ⟨rfl,hb2⟩;have hz2:=(hb2.cell (p:=⟨w.heap.size+1,k,none⟩) hsz).trans hz;have hO2:=(hb2.block _ hsz).trans HO.out;have hR2:=(hb2.block _ (by omega:w.heap.size<wr.heap.size)).trans HR.out;have fz2:w2.frozen? ⟨w.heap.size+1,k,none⟩=false:=Lib.frozen_of_heap hO2 k;have HB2:Hid _:=hb.trans (hb2.mono hb.size);have HO2:Hid _:=hO2;have HR2:Hid _:=hR2;clear HO HR hz hO2 hR2 hb2 hb;go_wp2_with fail;refine⟨⟨k+1,rfl,by omega,(Below.heap_setCell _ ⟨w.heap.size+1,k,none⟩ _ _ (by dsimp only;omega)).trans HR2.out,?_,HB2.out.setCell (p:=⟨w.heap.size+1,k,none⟩) (by dsimp only;omega) _⟩,by simp[intOf];omega⟩;have hh:=heap_setCell_same w2 (w.heap.size+1) k _ _ (.int .i64 (bgr B (k+1)-bgr B 0)) HO2.out;rw[hh];have hc:k=0∨k=1∨k=2∨k=3:=by omega
   rcases hc with rfl|rfl|rfl|rfl<;>rfl
  ·have hk4:k=4:=by omega
   subst hk4;have HB:Hid (Below w.heap.size w wr):=hb;have fR:∀j,wr.frozen? ⟨w.heap.size,j,none⟩=false:=fun j=>Lib.frozen_of_heap hR j
   have o0:wr.cell? ⟨w.heap.size+1,0,none⟩=some (.int .i64 (sof B 4 0)):=Lib.cell_of_heap hO 0;have o1:wr.cell? ⟨w.heap.size+1,1,none⟩=some (.int .i64 (sof B 4 1)):=Lib.cell_of_heap hO 1;have o2:wr.cell? ⟨w.heap.size+1,2,none⟩=some (.int .i64 (sof B 4 2)):=Lib.cell_of_heap hO 2;have o3:wr.cell? ⟨w.heap.size+1,3,none⟩=some (.int .i64 (sof B 4 3)):=Lib.cell_of_heap hO 3;have r0:wr.cell? ⟨w.heap.size,0,none⟩=some (.int .i64 0):=Lib.cell_of_heap hR 0;have r1:wr.cell? ⟨w.heap.size,1,none⟩=some (.int .i64 0):=Lib.cell_of_heap hR 1;have r2:wr.cell? ⟨w.heap.size,2,none⟩=some (.int .i64 0):=Lib.cell_of_heap hR 2;have r3:wr.cell? ⟨w.heap.size,3,none⟩=some (.int .i64 0):=Lib.cell_of_heap hR 3;have q0:=fR 0;have q1:=fR 1;have q2:=fR 2;have q3:=fR 3;have HR:Hid _:=hR;have EM:Hid (sof B 4 0=(bmd B).1∧sof B 4 1=(bmd B).2.1∧sof B 4 2=(bmd B).2.2.1∧sof B 4 3=(bmd B).2.2.2):=⟨rfl,rfl,rfl,rfl⟩;clear hR hO fR hb;generalize sof B 4 0=z0 at *;generalize sof B 4 1=z1 at *;generalize sof B 4 2=z2 at *;generalize sof B 4 3=z3 at *;go_wp2_with fail;have hF:((((wr.setCell ⟨w.heap.size,0,none⟩ (.int .i64 z0)).setCell ⟨w.heap.size,1,none⟩ (.int .i64 z1)).setCell ⟨w.heap.size,2,none⟩ (.int .i64 z2)).setCell ⟨w.heap.size,3,none⟩ (.int .i64 z3)).heap[w.heap.size]?=some (.cells #[.int .i64 z0,.int .i64 z1,.int .i64 z2,.int .i64 z3] 36 (0,0)):=heap_setCell_same _ w.heap.size 3 _ _ _ (heap_setCell_same _ w.heap.size 2 _ _ _ (heap_setCell_same _ w.heap.size 1 _ _ _ (heap_setCell_same _ w.heap.size 0 _ _ _ HR.out)));refine bodyPost_ret (zdZ rfl rfl (loadS _ w.heap.size (.int .i64 z0) (.int .i64 z1) (.int .i64 z2) (.int .i64 z3) (Lib.cell_of_heap hF 0) (Lib.cell_of_heap hF 1) (Lib.cell_of_heap hF 2) (Lib.cell_of_heap hF 3))) rfl ⟨by rw[EM.out.1,EM.out.2.1,EM.out.2.2.1,EM.out.2.2.2],?_⟩;exact(((HB.out.setCell (p:=⟨w.heap.size,0,none⟩) (by dsimp only;omega) _).setCell (p:=⟨w.heap.size,1,none⟩) (by dsimp only;omega) _).setCell (p:=⟨w.heap.size,2,none⟩) (by dsimp only;omega) _).setCell (p:=⟨w.heap.size,3,none⟩) (by dsimp only;omega) _
theorem ziC (n:Nat) (w:World) (hn:n≤100000) :
 Calls Tryz.prog 284 #[.slice none 0 0,.int .i64 (n:Int)] w fun e w'=>∃v,e=.returned v∧w'.ownsRow w.heap.size 3 1 v 0 []∧Below w.heap.size w w':=by
 obtain⟨i0,hi,hz0,hz1,hz2⟩:=info_parts Tryz.infoInt;have hn0:¬(n:Int)<0:=by omega
 by_cases h0:0<n
 ·have hp:(0:Int)<(n:Int):=by omega
  have hr:=Lib.run_append_nil_zeros (P:=Tryz.prog) w 167 3 167 3 i0 _ .i64 .i64 Tryz.underlying167 Tryz.underlying3 hi hz0 n h0 (by omega) (by omega) (by rw[hz2];omega);have hcg:=grownCap_ge w n 0 3;have hcm:=grownCap_le_maxLen w n 0 3 (by unfold maxLen;omega);generalize grownCap w n 0 3=cap at *;go_enter Tryz.func284,Tryz.ntmps284;go_wp2_with (at_builtin;refine Lib.wpList_append_run _ rfl _ _ _ _ rfl _ _ rfl rfl _ _ hr ?_);go_wp2_with fail;go_ret;refine⟨_,rfl,⟨rfl,Or.inr ⟨w.heap.size,cap,_,rfl,Nat.le_refl _,heap_alloc_new w _,Nat.zero_le _,hcm,?_,rfl⟩⟩,(zaa w _).drew⟩;rw[Array.size_append,size_zeroCells,size_zeroCells];simp;omega
 ·have hn1:n=0:=by omega
  subst hn1;go_enter Tryz.func284,Tryz.ntmps284;go_wp2;go_ret;exact⟨_,rfl,World.ownsRow_nil _ _ _ _,Below.refl _ _⟩
def CatR (w w':World) (v:Value) (ys:List Int):Prop:=w'.ownsRow w.heap.size 3 1 v ys.length (ys.map iv)
def IPartsR (w:World) (v:Value) (yss:List (List Int)):Prop:=(v=.slice none 0 0∧yss=[])∨∃(p cap:Nat) (vs:List Value),v=.slice (some ⟨p,0,none⟩) yss.length cap∧yss.length≤cap∧cap≤maxLen∧p<w.heap.size∧vs.length=yss.length∧(∀(j:Nat) (x:Value),vs[j]?=some x→w.cell? ⟨p,j,none⟩=some x)∧∀(j:Nat) (x:Value) (ys:List Int),vs[j]?=some x→yss[j]?=some ys→IntsR w x ys
theorem IntsR.shape {w:World} {v:Value} {ys:List Int} (h:IntsR w v ys):∃a cap,v=.slice a ys.length cap:=by
 rcases h with⟨rfl,rfl⟩|⟨b,cap,h1,_⟩
 ·exact⟨none,0,rfl⟩
 ·exact⟨_,_,h1⟩
theorem zdX (yss:List (List Int)) {k:Nat} {ys:List Int} (h:yss[k]?=some ys):(yss.take (k+1)).flatten=(yss.take k).flatten++ys:=by
 have hk:k<yss.length:=by
  rcases Nat.lt_or_ge k yss.length with h'|h'
  ·exact h'
  ·rw[List.getElem?_eq_none h'] at h;cases h
 rw[List.take_add_one,List.flatten_append,h];simp
theorem zes (yss:List (List Int)) (k:Nat):(yss.take k).flatten.length≤yss.flatten.length:=by
 conv=>rhs;rw[←List.take_append_drop k yss,List.flatten_append,List.length_append]
 omega
theorem zfR (v:Value) (yss:List (List Int)) (w:World) (h:IPartsR w v yss) (hl:yss.flatten.length≤100000) (hm:yss.length≤1000) :
 Calls Tryz.prog 267 #[v] w fun e w'=>∃v',e=.returned v'∧CatR w w' v' yss.flatten∧Below w.heap.size w w':=by
 obtain⟨i0,hi,hz0,hz1,hz2⟩:=info_parts Tryz.infoInt;have CG:Hid (∀w,Calls Tryz.prog 284 #[.slice none 0 0,.int .i64 (yss.flatten.length:Int)] w fun e w'=>∃v,e=.returned v∧w'.ownsRow w.heap.size 3 1 v 0 []∧Below w.heap.size w w'):=fun w=>ziC _ w hl
 obtain⟨pa,cap,rfl⟩:∃pa cap,v=.slice pa yss.length cap:=by
  rcases h with⟨rfl,rfl⟩|⟨p,cap,vs,rfl,_⟩
  ·exact⟨none,0,rfl⟩
  ·exact⟨_,_,rfl⟩
 have HP:Hid (IPartsR w (.slice pa yss.length cap) yss):=h;have HFL:Hid (yss.take yss.length=yss):=List.take_length;clear h;go_enter Tryz.func267,Tryz.ntmps267;go_wp2_with fail
 go_loopw [3,11] (fun sz ix wr=>∃k:Nat,ix=.int .i64 (k:Int)∧k≤yss.length∧sz=.int .i64 ((yss.take k).flatten.length:Int)∧Below w.heap.size w wr) (fun _ ix _=>yss.length-(intOf ix).toNat)
 case atStart=>exact⟨0,rfl,Nat.zero_le _,rfl,Below.refl _ _⟩
 case round =>
  obtain⟨k,rfl,hk,rfl,hbr⟩:=hrel;have hfl:=zes yss k;by_cases hlt:k<yss.length
  ·have hlt':(k:Int)<(yss.length:Int):=by omega
   obtain⟨ys,hys⟩:∃ys,yss[k]?=some ys:=⟨_,List.getElem?_eq_getElem hlt⟩
   have hft:=zdX yss hys;have hfl2:=zes yss (k+1);rcases HP.out with⟨_,h0⟩|⟨p,cap',vs,hv,h2,h3,h4,h5,h6,h7⟩
   ·rw[h0] at hlt;simp at hlt
   cases hv
   obtain⟨x,hx⟩:∃x,vs[k]?=some x:=⟨_,List.getElem?_eq_getElem (by omega)⟩
   obtain⟨xa,xc,rfl⟩:=(h7 k x ys hx hys).shape;have z:=(hbr.cell (p:=⟨p,k,none⟩) h4).trans (h6 k _ hx);have hsum:(yss.take (k+1)).flatten.length=(yss.take k).flatten.length+ys.length:=by rw[hft,List.length_append]
   have HSU:Hid ((yss.take (k+1)).flatten.length=(yss.take k).flatten.length+ys.length):=hsum;have hb2:(yss.take k).flatten.length+ys.length≤100000:=by omega
   clear hft hfl2 h6 h7 hx hys hsum;generalize (yss.take k).flatten.length=S at *;go_wp2_with fail
   go_roundw
   case rel=>exact⟨k+1,by go_num,by omega,by rw[HSU.out];go_num,hbr⟩
   case measure=>simp[intOf];omega
  ·have hke:k=yss.length:=by omega
   subst hke;have hlt':¬(yss.length:Int)<(yss.length:Int):=by omega
   rw[HFL.out];obtain⟨W1,hW1⟩:∃W1,W1=wr:=⟨_,rfl⟩
   subst hW1;generalize hSS:yss.flatten.length=S at *;have HSS:Hid (yss.flatten.length=S):=hSS;clear hSS hfl;go_wp2_with fail;refine(CG.out _).mono ?_;rintro e w2 ⟨nv,rfl,hown0,hb2⟩;have HB2:Hid (Below w.heap.size w w2):=hbr.trans (hb2.mono hbr.size);have hs12:=hb2.size;have hww:=hbr.size;clear hb2 hbr;go_wp2_with fail
   go_loopw [6,27] (fun lv ix wr=>∃k:Nat,ix=.int .i64 (k:Int)∧k≤yss.length∧wr.ownsRow W1.heap.size 3 1 lv (yss.take k).flatten.length ((yss.take k).flatten.map iv)∧Below w.heap.size w wr∧W1.heap.size≤wr.heap.size) (fun _ ix _=>yss.length-(intOf ix).toNat)
   case atStart=>exact⟨0,rfl,Nat.zero_le _,hown0,HB2.out,hs12⟩
   case round =>
    obtain⟨k,rfl,hk,hown,hbr,hsr⟩:=hrel;by_cases hlt2:k<yss.length
    ·have hlt3:(k:Int)<(yss.length:Int):=by omega
     obtain⟨ys,hys⟩:∃ys,yss[k]?=some ys:=⟨_,List.getElem?_eq_getElem hlt2⟩
     have hft:=zdX yss hys;have hfl2:=zes yss (k+1);rw[HSS.out,hft,List.length_append] at hfl2;rcases HP.out with⟨_,h0⟩|⟨p,cap',vs,hv,h2,h3,h4,h5,h6,h7⟩
     ·rw[h0] at hlt2;simp at hlt2
     cases hv
     obtain⟨x,hx⟩:∃x,vs[k]?=some x:=⟨_,List.getElem?_eq_getElem (by omega)⟩
     have z:=(hbr.cell (p:=⟨p,k,none⟩) h4).trans (h6 k _ hx);have hcx:=h7 k x ys hx hys;have HFT:Hid ((yss.take (k+1)).flatten=(yss.take k).flatten++ys):=hft;clear hft h6 h7 hx hys hown0;generalize hTK:(yss.take k).flatten=TK at *;rcases hcx with⟨rfl,rfl⟩|⟨b,xc,rfl,q2,q3,q4,q5⟩
     ·go_wp2_with (at_builtin;refine wpList_append_own_none rfl _ _ 167 rfl W1.heap.size 3 i0 1 Tryz.underlying167 hi _ _ _ rfl hown rfl ?_)
      go_wp2_with fail
      go_roundw
      case rel=>exact⟨k+1,by go_num,by omega,by rw[HFT.out,List.append_nil];exact hown,hbr,hsr⟩
      case measure=>simp[intOf];omega
     ·have hnews:∀j u,(ys.map iv)[j]?=some u→wr.cell? ((⟨b,0,none⟩:Addr).add j)=some u:=fun j u hu=>by
       rw[Addr.add_mid];obtain⟨x,hx1,hx2⟩:=Option.map_eq_some_iff.1 (by rw[List.getElem?_map] at hu;exact hu);rw[←hx2,Nat.zero_add];exact(hbr.cell (p:=⟨b,j,none⟩) q4).trans (q5 j x hx1)
      go_wp2_with (at_builtin;refine wpList_append_own _ rfl _ _ 167 rfl W1.heap.size 3 i0 (.int .i64 0) 1 8 Tryz.underlying167 hi hz0 hz1 hz2 rfl (by decide) _ _ _ rfl hown ⟨b,0,none⟩ ys.length xc (ys.map iv) rfl (by rw[List.length_map,Nat.mul_one]) hnews (fun u hu=>by obtain⟨x,_,rfl⟩:=List.mem_map.1 hu;rfl) (by unfold maxLen;omega) (by omega) hsr ?_)
      intro v' w3 hown3 hgrow _;have hb3:=hbr.grown hgrow hbr.size (fun j hj=>by have:=zae hown j hj;omega);have hs3:=hgrow.size;clear hown hgrow hnews;go_wp2_with fail
      go_roundw
      case rel=>exact⟨k+1,by go_num,by omega,by rw[HFT.out,List.map_append,List.length_append];exact hown3,hb3,by omega⟩
      case measure=>simp[intOf];omega
    ·have hke:k=yss.length:=by omega
     subst hke;have hlt3:¬(yss.length:Int)<(yss.length:Int):=by omega
     rw[HFL.out] at hown;go_wp2_with fail;go_ret;refine⟨_,rfl,?_,hbr⟩;unfold CatR;exact zba hown (by omega)
structure BdC (w:World) (cs:List Value) (B:Bd):Prop where
 len:cs.length=75
 at_:∀i j,i<5→j<5→cs[i*15+j*3]?=some (.bool (bkn (B i j)))∧cs[i*15+j*3+1]?=some (.int .i64 (bmo (B i j)))∧∃v,cs[i*15+j*3+2]?=some v∧IntsR w v (bby (B i j))
theorem BdC.below {w w':World} {cs:List Value} {B:Bd} (h:BdC w cs B) (hb:Below w.heap.size w w'):BdC w' cs B :=
 ⟨h.len,fun i j hi hj=>by
  obtain⟨h1,h2,v,h3,h4⟩:=h.at_ i j hi hj;exact⟨h1,h2,v,h3,h4.below hb⟩⟩
theorem BdC.to {w:World} {cs:List Value} {B:Bd} {b:Nat} (h:BdC w cs B) (hb:b<w.heap.size) (hr:w.rangeAt b 0 cs):BdAt w b 0 B :=
 ⟨hb,fun i j hi hj=>by
  obtain⟨h1,h2,v,h3,h4⟩:=h.at_ i j hi hj;have k1:=hr _ _ h1;have k2:=hr _ _ h2;have k3:=hr _ _ h3;simp only[Nat.zero_add] at k1 k2 k3 ⊢;exact⟨k1,k2,v,k3,h4⟩⟩
theorem BdC.one {w:World} {cs:List Value} {B:Bd} (h:BdC w cs B):∀v∈cs,v.oneCell'=true:=by
 intro v hv;obtain⟨k,hk,rfl⟩:=List.mem_iff_getElem.1 hv;rw[h.len] at hk;obtain⟨h1,h2,u,h3,h4⟩:=h.at_ (k/15) (k%15/3) (by omega) (by omega);have hk':cs[k]?=some cs[k]:=List.getElem?_eq_getElem _;have hc:k=k/15*15+k%15/3*3∨k=k/15*15+k%15/3*3+1∨k=k/15*15+k%15/3*3+2:=by omega
 rcases hc with e|e|e
 ·rw[←e,hk'] at h1;rw[Option.some.inj h1];rfl
 ·rw[←e,hk'] at h2;rw[Option.some.inj h2];rfl
 ·rw[←e,hk'] at h3;rw[Option.some.inj h3];rcases h4 with⟨e4,_⟩|⟨g,cap,e4,_⟩<;>rw[e4]<;>rfl
theorem BdAt.cells {w:World} {b:Nat} {B:Bd} (h:BdAt w b 0 B):∃cs,BdC w cs B∧w.rangeAt b 0 cs:=by
 have hex:∀k,k<75→∃v,w.cell? ⟨b,k,none⟩=some v:=fun k hk=>by
  obtain⟨h1,h2,u,h3,h4⟩:=h.2 (k/15) (k%15/3) (by omega) (by omega);simp only[Nat.zero_add] at h1 h2 h3;have hc:k=k/15*15+k%15/3*3∨k=k/15*15+k%15/3*3+1∨k=k/15*15+k%15/3*3+2:=by omega
  rcases hc with e|e|e
  ·rw[←e] at h1;exact⟨_,h1⟩
  ·rw[←e] at h2;exact⟨_,h2⟩
  ·rw[←e] at h3;exact⟨_,h3⟩
 have hget:∀k,k<75→((List.range 75).map fun k=>(w.cell? ⟨b,k,none⟩).getD undef)[k]?=w.cell? ⟨b,k,none⟩:=fun k hk=>by
  obtain⟨v,hv⟩:=hex k hk;rw[List.getElem?_map,List.getElem?_range hk,hv];simp[hv]
 refine⟨(List.range 75).map fun k=>(w.cell? ⟨b,k,none⟩).getD undef,⟨by simp,fun i j hi hj=>?_⟩,fun k v hv=>?_⟩
 ·obtain⟨h1,h2,u,h3,h4⟩:=h.2 i j hi hj;simp only[Nat.zero_add] at h1 h2 h3;rw[hget _ (by omega),hget _ (by omega),hget _ (by omega)];exact⟨h1,h2,u,h3,h4⟩
 ·have hk:k<75:=by
   have:=(List.getElem?_eq_some_iff.1 hv).1;simpa using this
  rw[hget k hk] at hv;rw[Nat.zero_add];exact hv
theorem Tryz.infoBds:(Tryz.prog.info? 192).map (·.size)=some 75:=by kernel_rfl
theorem ze5:Tryz.zeroCells192.size=75:=by kernel_rfl
theorem zjV:(Tryz.zeroCells192.all (·.oneCell'))=true:=by kernel_rfl
theorem zrow (X:World):Av.Row (X.alloc (.cells Tryz.zeroCells192 192)) X.heap.size 75:=by
 have h:=Av.Row.new X Tryz.zeroCells192 192 (fun v hv=>by
  have:=Array.all_eq_true_iff_forall_mem.1 zjV v (by simpa using hv);exact this)
 rw[ze5] at h;exact h
def bmix (B:Bd) (l r:Nat) (c:Int) (n k:Nat):Bd:=fun i j=>if i*5+j<k then bwith B l r c n i j else B i j
def Nb (m:Nat) (v:Value):Prop:=∀g o n c,v=.slice (some ⟨g,o,none⟩) n c→g≠m∧g+1≠m
structure BdN (m:Nat) (w:World) (cs:List Value) (B:Bd):Prop where
 len:cs.length=75
 at_:∀i j,i<5→j<5→cs[i*15+j*3]?=some (.bool (bkn (B i j)))∧cs[i*15+j*3+1]?=some (.int .i64 (bmo (B i j)))∧∃v,cs[i*15+j*3+2]?=some v∧IntsR w v (bby (B i j))∧Nb m v
theorem BdN.to {m:Nat} {w:World} {cs:List Value} {B:Bd} (h:BdN m w cs B):BdC w cs B:=⟨h.len,fun i j hi hj=>by
 obtain⟨h1,h2,v,h3,h4,_⟩:=h.at_ i j hi hj;exact⟨h1,h2,v,h3,h4⟩⟩
theorem BdC.nb {w:World} {cs:List Value} {B:Bd} (h:BdC w cs B) (m:Nat) (hm:w.heap.size+1≤m):BdN m w cs B:=⟨h.len,fun i j hi hj=>by
 obtain⟨h1,h2,v,h3,h4⟩:=h.at_ i j hi hj;refine⟨h1,h2,v,h3,h4,fun g o n c e=>?_⟩;rcases h4 with⟨e4,_⟩|⟨g',cap,e4,_,_,h5,_⟩
 ·rw[e4] at e;cases e
 ·rw[e4] at e;cases e;exact⟨by omega,by omega⟩⟩
structure WiS (w:World) (B:Bd) (l r:Nat) (c:Int) (n k:Nat) (X:World):Prop where
 below:Below w.heap.size w X
 size:w.heap.size+2<X.heap.size
 a0:X.cell? ⟨w.heap.size,0,none⟩=some (.int .i64 l)
 a1:X.cell? ⟨w.heap.size,1,none⟩=some (.int .i64 r)
 a2:X.cell? ⟨w.heap.size,2,none⟩=some (.int .i64 c)
 row1:Av.Row X (w.heap.size+1) 75
 row2:Av.Row X (w.heap.size+2) 75
 more:∃cs,BdN (w.heap.size+2) X cs (bmix B l r c n k)∧X.rangeAt (w.heap.size+2) 0 cs
theorem ze6 {X X':World} {b n:Nat} (h:Av.Row X b n) (hb:Below X.heap.size X X') (hs:b<X.heap.size):Av.Row X' b n:=by
 obtain⟨cs,h1,h2,h3,h4⟩:=h;refine⟨cs,fun j v hv=>(hb.cell (p:=⟨b,0+j,none⟩) hs).trans (h1 j v hv),h2,h3,fun o=>?_⟩;rw[←h4 o];unfold World.frozen?;rw[hb.block b hs]
theorem WiS.on {w X X':World} {B:Bd} {l r n k:Nat} {c:Int} (h:WiS w B l r c n k X) (hb:Below X.heap.size X X'):WiS w B l r c n k X':=by
 have hs:=h.size;refine⟨h.below.trans (hb.mono h.below.size),Nat.lt_of_lt_of_le h.size hb.size,(hb.cell (p:=⟨w.heap.size,0,none⟩) (by dsimp only;omega)).trans h.a0,(hb.cell (p:=⟨w.heap.size,1,none⟩) (by dsimp only;omega)).trans h.a1,(hb.cell (p:=⟨w.heap.size,2,none⟩) (by dsimp only;omega)).trans h.a2,ze6 h.row1 hb (by omega),ze6 h.row2 hb (by omega),?_⟩;obtain⟨cs,h1,h2⟩:=h.more;refine⟨cs,⟨h1.len,fun i j hi hj=>?_⟩,fun j v hv=>(hb.cell (p:=⟨w.heap.size+2,0+j,none⟩) (by dsimp only;omega)).trans (h2 j v hv)⟩;obtain⟨e1,e2,v,e3,e4,e5⟩:=h1.at_ i j hi hj;exact⟨e1,e2,v,e3,e4.below hb,e5⟩
theorem ziD {B:Bd} {l r n:Nat} {c:Int} {i j:Nat} (hj:j<5) (h:bwith B l r c n i j=B i j):∀i' j',j'<5→bmix B l r c n (i*5+j+1) i' j'=bmix B l r c n (i*5+j) i' j':=fun i' j' hj'=>by
 unfold bmix;by_cases e:i'*5+j'=i*5+j
 ·have e1:i'=i:=by omega
  have e2:j'=j:=by omega
  subst e1 e2;rw[if_pos (by omega),if_neg (by omega),h]
 ·by_cases e3:i'*5+j'<i*5+j
  ·rw[if_pos (by omega),if_pos e3]
  ·rw[if_neg (by omega),if_neg e3]
theorem zgY {B:Bd} {l r n:Nat} {c:Int} {i j:Nat} (hj:j<5):∀i' j',j'<5→¬(i'=i∧j'=j)→bmix B l r c n (i*5+j+1) i' j'=bmix B l r c n (i*5+j) i' j':=fun i' j' hj' hne=>by
 unfold bmix;have e:¬i'*5+j'=i*5+j:=fun e=>hne ⟨by omega,by omega⟩
 by_cases e3:i'*5+j'<i*5+j
 ·rw[if_pos (by omega),if_pos e3]
 ·rw[if_neg (by omega),if_neg e3]
theorem WiS.skip {w X:World} {B:Bd} {l r n i j:Nat} {c:Int} (h:WiS w B l r c n (i*5+j) X) (hj:j<5) (e:bwith B l r c n i j=B i j):WiS w B l r c n (i*5+j+1) X:=by
 refine⟨h.below,h.size,h.a0,h.a1,h.a2,h.row1,h.row2,?_⟩;obtain⟨cs,h1,h2⟩:=h.more;refine⟨cs,⟨h1.len,fun i' j' hi' hj'=>?_⟩,h2⟩;rw[ziD hj e i' j' hj'];exact h1.at_ i' j' hi' hj'
theorem IntsR.set {X:World} {v:Value} {ls:List Int} {m:Nat} (h:IntsR X v ls) (hn:Nb m v) (o:Nat) (u:Value):IntsR (X.setCell ⟨m,o,none⟩ u) v ls:=by
 rcases h with h|⟨b,cap,h1,h2,h3,h4,h5⟩
 ·exact Or.inl h
 ·refine Or.inr ⟨b,cap,h1,h2,h3,by rw[World.size_setCell];exact h4,fun j x hx=>?_⟩;rw[World.cell?_setCell_other _ _ _ _ (fun e=>by injection e with e1 _ _;exact(hn b 0 _ cap h1).1 e1.symm)];exact h5 j x hx
theorem IntsR.sets {X:World} {v:Value} {ls:List Int} {m:Nat} (h:IntsR X v ls) (hn:∀g o n c,v=.slice (some ⟨g,o,none⟩) n c→g≠m) (vs:List Value) (o:Nat):IntsR (X.setCells m o vs) v ls:=by
 rcases h with h|⟨b,cap,h1,h2,h3,h4,h5⟩
 ·exact Or.inl h
 ·refine Or.inr ⟨b,cap,h1,h2,h3,by rw[Av.za8];exact h4,fun j x hx=>?_⟩;rw[World.cell?_setCells_out _ _ _ _ _ (fun e=>absurd e (hn b 0 _ cap h1))];exact h5 j x hx
theorem so3 {X:World} {b m o0 o1 o2 k:Nat} {u0 u1 u2:Value} (h:¬b=m):(((X.setCell ⟨m,o0,none⟩ u0).setCell ⟨m,o1,none⟩ u1).setCell ⟨m,o2,none⟩ u2).cell? ⟨b,k,none⟩=X.cell? ⟨b,k,none⟩:=by
 rw[World.cell?_setCell_other _ _ _ _ (fun e=>by injection e with e1 _ _;exact h e1.symm),World.cell?_setCell_other _ _ _ _ (fun e=>by injection e with e1 _ _;exact h e1.symm),World.cell?_setCell_other _ _ _ _ (fun e=>by injection e with e1 _ _;exact h e1.symm)]
theorem zbp {X:World} {b o:Nat} {cs:List Value} (h:X.rangeAt b 0 cs) (ho:o<cs.length) (u:Value):(X.setCell ⟨b,o,none⟩ u).rangeAt b 0 (cs.set o u):=fun k v hv=>by
 rw[Nat.zero_add];by_cases e:o=k
 ·subst e;rw[List.getElem?_set,if_pos rfl,if_pos ho] at hv;cases hv
  have hc:=h o _ (List.getElem?_eq_getElem ho);rw[Nat.zero_add] at hc;exact World.cell?_setCell_same _ _ _ (by rw[hc])
 ·rw[List.getElem?_set,if_neg e] at hv;rw[World.cell?_setCell_other _ _ _ _ (fun e2=>by injection e2 with _ e3 _;exact e e3)];have:=h k v hv
  rwa [Nat.zero_add] at this
theorem zet {cs:List Value} {o k:Nat} {u0 u1 u2:Value} (h:k≠o∧k≠o+1∧k≠o+2):(((cs.set o u0).set (o+1) u1).set (o+2) u2)[k]?=cs[k]?:=by
 rw[List.getElem?_set,if_neg (by omega),List.getElem?_set,if_neg (by omega),List.getElem?_set,if_neg (by omega)]
theorem WiS.put {w X:World} {B:Bd} {l r n i j:Nat} {c m:Int} {p:List Nat} {v:Value} (h:WiS w B l r c n (i*5+j) X) (hi:i<5) (hj:j<5) (e:bwith B l r c n i j=some (m,p)) (hv:IntsR X v (p.map fun(x:Nat)=>(x:Int))) (hn:Nb (w.heap.size+2) v) :
 WiS w B l r c n (i*5+j+1) (((X.setCell ⟨w.heap.size+2,i*15+j*3,none⟩ (.bool true)).setCell ⟨w.heap.size+2,i*15+j*3+1,none⟩ (.int .i64 m)).setCell ⟨w.heap.size+2,i*15+j*3+2,none⟩ v):=by
 have hv1:v.oneCell'=true:=by rcases hv with⟨e4,_⟩|⟨g,cap,e4,_⟩<;>rw[e4]<;>rfl
 have co:∀(Y:World) (o:Nat) (u:Value) (k:Nat),(Y.setCell ⟨w.heap.size+2,o,none⟩ u).cell? ⟨w.heap.size,k,none⟩=Y.cell? ⟨w.heap.size,k,none⟩:=fun Y o u k=>World.cell?_setCell_other _ _ _ _ (fun e=>by injection e with e1 _ _;omega)
 refine⟨((h.below.setCell (p:=⟨w.heap.size+2,i*15+j*3,none⟩) (by dsimp only;omega) _).setCell (p:=⟨w.heap.size+2,i*15+j*3+1,none⟩) (by dsimp only;omega) _).setCell (p:=⟨w.heap.size+2,i*15+j*3+2,none⟩) (by dsimp only;omega) _,by rw[World.size_setCell,World.size_setCell,World.size_setCell];exact h.size,by rw[co,co,co];exact h.a0,by rw[co,co,co];exact h.a1,by rw[co,co,co];exact h.a2,((h.row1.other _ _ _ (by omega)).other _ _ _ (by omega)).other _ _ _ (by omega),((h.row2.set _ _ (by omega) rfl).set _ _ (by omega) rfl).set _ _ (by omega) hv1,?_⟩;obtain⟨cs,h1,h2⟩:=h.more;have hl:=h1.len;refine⟨((cs.set (i*15+j*3) (.bool true)).set (i*15+j*3+1) (.int .i64 m)).set (i*15+j*3+2) v,⟨by simp[hl],fun i' j' hi' hj'=>?_⟩,zbp (zbp (zbp h2 (by omega) _) (by simp;omega) _) (by simp;omega) _⟩;have set3:∀{u:Value} {ls:List Int},IntsR X u ls→Nb (w.heap.size+2) u→IntsR (((X.setCell ⟨w.heap.size+2,i*15+j*3,none⟩ (.bool true)).setCell ⟨w.heap.size+2,i*15+j*3+1,none⟩ (.int .i64 m)).setCell ⟨w.heap.size+2,i*15+j*3+2,none⟩ v) u ls:=fun a b=>((a.set b _ _).set b _ _).set b _ _
 by_cases hc:i'=i∧j'=j
 ·obtain⟨rfl,rfl⟩:=hc;have hb:bmix B l r c n (i'*5+j'+1) i' j'=some (m,p):=by unfold bmix;rw[if_pos (by omega),e]
  rw[hb];refine⟨?_,?_,v,?_,set3 hv hn,hn⟩
  ·rw[List.getElem?_set,if_neg (by omega),List.getElem?_set,if_neg (by omega),List.getElem?_set,if_pos rfl,if_pos (by omega)];rfl
  ·rw[List.getElem?_set,if_neg (by omega),List.getElem?_set,if_pos rfl,if_pos (by simp;omega)];rfl
  ·rw[List.getElem?_set,if_pos rfl,if_pos (by simp;omega)]
 ·rw[zgY hj i' j' hj' hc];obtain⟨e1,e2,u,e3,e4,e5⟩:=h1.at_ i' j' hi' hj';have hne:¬(i'*5+j'=i*5+j):=fun e=>hc ⟨by omega,by omega⟩
  refine⟨by rw[zet (by omega)];exact e1,by rw[zet (by omega)];exact e2,u,by rw[zet (by omega)];exact e3,set3 e4 e5,e5⟩
theorem zlm (i j:Nat) (hi:i<5) (hj:j<5):Tryz.zeroCells192.toList[i*15+j*3]?=some (.bool false)∧Tryz.zeroCells192.toList[i*15+j*3+1]?=some (.int .i64 0)∧Tryz.zeroCells192.toList[i*15+j*3+2]?=some (.slice none 0 0):=by
 have hi':i=0∨i=1∨i=2∨i=3∨i=4:=by omega
 have hj':j=0∨j=1∨j=2∨j=3∨j=4:=by omega
 rcases hi' with rfl|rfl|rfl|rfl|rfl<;>rcases hj' with rfl|rfl|rfl|rfl|rfl<;>exact⟨by kernel_rfl,by kernel_rfl,by kernel_rfl⟩
structure NoS (w:World) (k:Nat) (X:World):Prop where
 below:Below w.heap.size w X
 size:w.heap.size+1<X.heap.size
 row1:Av.Row X w.heap.size 75
 row2:Av.Row X (w.heap.size+1) 75
 more:∃cs:List Value,cs.length=75∧(∀i j,i<5→j<5→cs[i*15+j*3]?=some (.bool (decide (i=j∧i<k)))∧cs[i*15+j*3+1]?=some (.int .i64 0)∧cs[i*15+j*3+2]?=some (.slice none 0 0))∧X.rangeAt (w.heap.size+1) 0 cs
theorem zjW (w:World):NoS w 0 ((w.alloc (.cells Tryz.zeroCells192 192)).alloc (.cells Tryz.zeroCells192 192)):=by
 have b1:=zaa w (.cells Tryz.zeroCells192 192);have r1:=zrow w;have s1:(w.alloc (.cells Tryz.zeroCells192 192)).heap.size=w.heap.size+1:=by simp
 generalize w.alloc (.cells Tryz.zeroCells192 192)=W1 at *;have b2:=zaa W1 (.cells Tryz.zeroCells192 192);have r2:=zrow W1;rw[s1] at r2;refine⟨b1.trans (b2.mono b1.size),by rw[World.size_alloc];omega,ze6 r1 b2 (by omega),r2,Tryz.zeroCells192.toList,by rw[Array.length_toList];exact ze5,fun i j hi hj=>?_,fun k v hv=>?_⟩
 ·obtain⟨h1,h2,h3⟩:=zlm i j hi hj;exact⟨by rw[h1,decide_eq_false (by omega)],h2,h3⟩
 ·rw[World.cell?_alloc_at _ _ _ _ s1.symm,Nat.zero_add];simpa using hv
theorem NoS.put {w X:World} {k:Nat} (h:NoS w k X) (hk:k<5):NoS w (k+1) (X.setCell ⟨w.heap.size+1,k*15+k*3,none⟩ (.bool true)):=by
 obtain⟨cs,h1,h2,h3⟩:=h.more;refine⟨h.below.setCell (p:=⟨w.heap.size+1,k*15+k*3,none⟩) (by dsimp only;omega) _,by rw[World.size_setCell];exact h.size,h.row1.other _ _ _ (by omega),h.row2.set _ _ (by omega) rfl,cs.set (k*15+k*3) (.bool true),by rw[List.length_set,h1],fun i j hi hj=>?_,zbp h3 (by omega) _⟩;obtain⟨e1,e2,e3⟩:=h2 i j hi hj;refine⟨?_,by rw[List.getElem?_set,if_neg (by omega)];exact e2,by rw[List.getElem?_set,if_neg (by omega)];exact e3⟩;by_cases hc:i=k∧j=k
 ·obtain⟨rfl,rfl⟩:=hc;rw[List.getElem?_set,if_pos rfl,if_pos (by omega),decide_eq_true (by omega)]
 ·rw[List.getElem?_set,if_neg (by omega),e1]
  congr 2
  rw[decide_eq_decide];omega
theorem ze7 (w:World) :
 Calls Tryz.prog 89 #[] w fun e w'=>∃cs,e=.returned (.agg cs.toArray)∧BdC w' cs bno∧Below w.heap.size w w':=by
 have HI:Hid _:=zjW w;go_enter Tryz.func89,Tryz.ntmps89;go_wp2_with fail;generalize ((w.alloc (.cells Tryz.zeroCells192 192)).alloc (.cells Tryz.zeroCells192 192))=W0 at *
 go_loopw [3] (fun s3 wr=>∃k:Nat,s3=.int .i64 (k:Int)∧k≤5∧NoS w k wr) (fun s3 _=>5-(intOf s3).toNat)
 case atStart=>exact⟨0,rfl,by omega,HI.out⟩
 case round =>
  clear HI;obtain⟨k,rfl,hk,hS⟩:=hrel;by_cases hlt:k<5
  ·have hlt':(k:Int)<5:=by omega
   obtain⟨⟨u,hu⟩,hf⟩:=hS.row2.cell (k*15+k*3) (by omega);have HP:Hid _:=hS.put hlt;clear hS;go_wp2_with fail;exact⟨⟨k+1,rfl,by omega,HP.out⟩,by simp[intOf];omega⟩
  ·have hk5:k=5:=by omega
   subst hk5;have hlt':¬(((5:Nat):Int)<5):=by omega
   obtain⟨cs,hcl,q1,q2⟩:=hS.more;have hiA:(Tryz.prog.info? 192).map (·.size)=some cs.length:=by rw[hcl];exact Tryz.infoBds
   have hcz:cs.toArray.size=75:=by simp[hcl]
   have hiB:(Tryz.prog.info? 192).map (·.size)=some cs.toArray.size:=by rw[hcz];exact Tryz.infoBds
   have hB:∀X,BdC X cs bno:=fun X=>⟨hcl,fun i j hi hj=>by
    obtain⟨e1,e2,e3⟩:=q1 i j hi hj;unfold bno;by_cases e:i=j
    ·rw[if_pos e];exact⟨by rw[e1,decide_eq_true ⟨e,hi⟩];rfl,e2,_,e3,Or.inl ⟨rfl,rfl⟩⟩
    ·rw[if_neg e];exact⟨by rw[e1,decide_eq_false (fun h=>e h.1)];rfl,e2,_,e3,Or.inl ⟨rfl,rfl⟩⟩⟩
   have honeB:=all_oneCell_toArray (hB w).one;have hth:wr.there w.heap.size 0 cs.toArray.size:=by rw[hcz];exact hS.row1.there 0 75 (by omega)
   have HF:Hid (Below w.heap.size w (wr.setCells w.heap.size 0 cs)):=Av.zai (a:=w) (by omega) cs 0 wr hS.below;have HB:Hid _:=hB;have HR1:Hid (Av.Row wr w.heap.size 75):=hS.row1;clear hS q1 hcz hB;go_wp2_with (first|(refine wpList_load_mid rfl 192 (.tmp 1) rfl (w.heap.size+1) 0 rfl cs _ ?_ Tryz.underlying192 rfl hiA ?_;(exact q2))|(refine wpList_store_mid rfl 192 (.tmp 0) (.tmp 12) rfl w.heap.size 0 cs.toArray rfl rfl ?_ hiB honeB ?_;(exact hth)));exact Av.postN cs rfl rfl Tryz.underlying192 rfl Tryz.infoBds HR1.out hcl ⟨cs,rfl,HB.out _,HF.out⟩
end Go.Proofs.YtkinoehmcfhgbaaGreatDoor.Vl
