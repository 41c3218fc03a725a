/- A part of the proof. -/
import Derived.Test.YtkinoehmcfhgbaaGreatDoorH3
set_option linter.unusedVariables false
set_option linter.unusedSimpArgs false
set_option maxRecDepth 100000
set_option maxHeartbeats 8000000
namespace Go.Proofs.YtkinoehmcfhgbaaGreatDoor.Vl
open Go.RowKit
def ptA (x:Pt):Value:=.agg #[.int .i64 x.1,.int .i64 x.2.1,.int .i64 x.2.2.1,.int .i8 x.2.2.2]
theorem Tryz.infoRole:(Tryz.prog.info? 314).map (fun i=>(i.zero,i.size,i.bytes))=some (some (.int .i8 0),1,1):=by kernel_rfl
structure PkS (w0 w X:World) (D:PD) (us:List Atm) (g:List Pt) (s n:Nat) (A:Nat→Int) (ats parts:List Int) (rb cb:Nat) (ro:List Int) (c:Pt):Prop where
 bel:Below w.heap.size w X
 res:Blk X w.heap.size 252 [.int .i64 0,.int .i64 0,.int .i64 0,.int .i8 0]
 rol:Blk X rb 314 (ro.map tv8)
 rl:ro.length=g.length
 cho:Blk X cb 252 [.int .i64 c.1,.int .i64 c.2.1,.int .i64 c.2.2.1,.int .i8 c.2.2.2]
 r1:w.heap.size<rb
 r2:rb<cb
theorem PkS.below {w0 w X Y:World} {D:PD} {us:List Atm} {g:List Pt} {s n:Nat} {A:Nat→Int} {ats parts:List Int} {rb cb:Nat} {ro:List Int} {c:Pt} (h:PkS w0 w X D us g s n A ats parts rb cb ro c) (hb:Below X.heap.size X Y):PkS w0 w Y D us g s n A ats parts rb cb ro c :=
 ⟨h.bel.trans (hb.mono h.bel.size),h.res.below hb,h.rol.below hb,h.rl,h.cho.below hb,h.r1,h.r2⟩
theorem PkS.setR {w0 w X:World} {D:PD} {us:List Atm} {g:List Pt} {s n:Nat} {A:Nat→Int} {ats parts:List Int} {rb cb:Nat} {ro:List Int} {c:Pt} (h:PkS w0 w X D us g s n A ats parts rb cb ro c) (i:Nat) (v:Int):PkS w0 w (X.setCell ⟨rb,i,none⟩ (.int .i8 v)) D us g s n A ats parts rb cb (ro.set i v) c:=by
 have h1:=h.r1;have h2:=h.r2;refine⟨h.bel.setCell (p:=⟨rb,i,none⟩) (by dsimp only;omega) _,h.res.other _ _ (by omega),?_,by rw[List.length_set];exact h.rl,h.cho.other _ _ (by omega),h1,h2⟩;have:=h.rol.set i (.int .i8 v);rw[List.map_set];exact this
theorem load4p (X:World) (B:Nat) (c0 c1 c2 c3:Value) (h0:X.cell? ⟨B,0,none⟩=some c0) (h1:X.cell? ⟨B,1,none⟩=some c1) (h2:X.cell? ⟨B,2,none⟩=some c2) (h3:X.cell? ⟨B,3,none⟩=some c3):(loadVar 252 ⟨B,0,none⟩).run Tryz.prog X=.ok (.agg #[c0,c1,c2,c3]) X :=
 run_loadVar_mid _ _ 0 252 [c0,c1,c2,c3] _ (by
  intro j v hv
  match j,hv with
  | 0,hv=>cases hv;exact h0
  | 1,hv=>cases hv;exact h1
  | 2,hv=>cases hv;exact h2
  | 3,hv=>cases hv;exact h3) Tryz.underlying252 rfl Tryz.sizeVSym
theorem Blk.set4 {X:World} {b:Nat} {ty:TypeId} {a0 a1 a2 a3:Value} (h:Blk X b ty [a0,a1,a2,a3]) (v0 v1 v2 v3:Value):Blk ((((X.setCell ⟨b,0,none⟩ v0).setCell ⟨b,1,none⟩ v1).setCell ⟨b,2,none⟩ v2).setCell ⟨b,3,none⟩ v3) b ty [v0,v1,v2,v3]:=(((h.set 0 v0).set 1 v1).set 2 v2).set 3 v3
theorem Blk.other4 {X:World} {b b':Nat} {ty:TypeId} {cs:List Value} (h:Blk X b' ty cs) (hne:b'≠b) (v0 v1 v2 v3:Value):Blk ((((X.setCell ⟨b,0,none⟩ v0).setCell ⟨b,1,none⟩ v1).setCell ⟨b,2,none⟩ v2).setCell ⟨b,3,none⟩ v3) b' ty cs:=(((h.other 0 v0 hne).other 1 v1 hne).other 2 v2 hne).other 3 v3 hne
theorem ziA {w X:World} {b:Nat} (h:Below w.heap.size w X) (hb:w.heap.size≤b) (v0 v1 v2 v3:Value):Below w.heap.size w ((((X.setCell ⟨b,0,none⟩ v0).setCell ⟨b,1,none⟩ v1).setCell ⟨b,2,none⟩ v2).setCell ⟨b,3,none⟩ v3):=(((h.setCell (p:=⟨b,0,none⟩) hb v0).setCell (p:=⟨b,1,none⟩) hb v1).setCell (p:=⟨b,2,none⟩) hb v2).setCell (p:=⟨b,3,none⟩) hb v3
theorem PkS.setC {w0 w X:World} {D:PD} {us:List Atm} {g:List Pt} {s n:Nat} {A:Nat→Int} {ats parts:List Int} {rb cb:Nat} {ro:List Int} {c:Pt} (h:PkS w0 w X D us g s n A ats parts rb cb ro c) (x:Pt):PkS w0 w ((((X.setCell ⟨cb,0,none⟩ (.int .i64 x.1)).setCell ⟨cb,1,none⟩ (.int .i64 x.2.1)).setCell ⟨cb,2,none⟩ (.int .i64 x.2.2.1)).setCell ⟨cb,3,none⟩ (.int .i8 x.2.2.2)) D us g s n A ats parts rb cb ro x:=by
 have h1:=h.r1;have h2:=h.r2;exact⟨ziA h.bel (by omega) _ _ _ _,h.res.other4 (by omega) _ _ _ _,h.rol.other4 (by omega) _ _ _ _,h.rl,h.cho.set4 _ _ _ _,h1,h2⟩
theorem PkS.rcell {w0 w X:World} {D:PD} {us:List Atm} {g:List Pt} {s n:Nat} {A:Nat→Int} {ats parts:List Int} {rb cb:Nat} {ro:List Int} {c:Pt} (h:PkS w0 w X D us g s n A ats parts rb cb ro c) {i:Nat} (hi:i<g.length):X.cell? ⟨rb,i,none⟩=some (.int .i8 (ro.getD i 0)):=by
 refine h.rol.cell ?_;rw[List.getElem?_map,List.getD_eq_getElem?_getD,List.getElem?_eq_getElem (by rw[h.rl];exact hi)]
 rfl
theorem zer (w0 w:World) (D:PD) (us:List Atm) (g:List Pt) (s n:Nat) (A:Nat→Int) (ats parts:List Int) (h:PvS w0 w D us g s n A ats parts) (hgl:g.length≤8000) (hg0:0<g.length) (hGW:GW us.length g) :
 Calls Tryz.prog 132 #[.pointer (some ⟨D.pb,0,none⟩)] w fun e w'=>e=.returned (ptA (pick0 g parts))∧Below w.heap.size w w':=by
 obtain⟨i0,hi,hz0,hz1,hz2⟩:=info_parts Tryz.infoRole;have HP:Hid (PvS w0 w D us g s n A ats parts):=h;have HGW:Hid _:=hGW;obtain⟨pb,mb,tb,qb,gb,kk,qa,ca,cg⟩:=D;have h1:PvS w0 (w.alloc (.cells zZh 252)) ⟨pb,mb,tb,qb,gb,kk,qa,ca,cg⟩ us g s n A ats parts:=h.below (zaa w _);obtain⟨c0,c1,c2,c3,c4,c5,c6⟩:=h1.cells;dsimp only at *;have hsz1:(w.alloc (.cells zZh 252)).heap.size=w.heap.size+1:=by simp
 clear h hGW h1;go_enter Tryz.func132,Tryz.ntmps132;go_wp2_with (at_make;refine wpList_make_full _ rfl _ _ 313 rfl w.heap.size 314 i0 (.int .i8 0) 1 Tryz.underlying313 hi hz0 hz1 .i64 .i64 _ _ g.length rfl rfl rfl rfl (by rw[hz2];omega) (by unfold maxLen;omega) (by simp) ?_);intro w3 hown hgrow;have hbk:Blk w3 (w.heap.size+1) 314 ((List.replicate g.length (0:Int)).map tv8):=by
  have h:=hown;rw[toList_madeCells_one] at h;have h2:=zbT h;rw[List.map_replicate];exact h2
 have hb3:Below w.heap.size w w3:=(zaa w _).trans (((Below.refl _ (w.alloc (.cells zZh 252))).grown hgrow (Nat.le_refl _) (by intro k h;cases h)).mono (by simp));have hrs:Blk w3 w.heap.size 252 [.int .i64 0,.int .i64 0,.int .i64 0,.int .i8 0]:=(hgrow.block w.heap.size (by simp) (by intro e;cases e)).trans (heap_alloc_new w _);have hf0:=hbk.free 0;have hc0:w3.cell? ⟨w.heap.size+1,0,none⟩=some (.int .i8 0):=hbk.cell (by rw[List.getElem?_map,List.getElem?_replicate,if_pos hg0];rfl);have HX:Hid (∀X,Below w.heap.size w X→PvS w0 X ⟨pb,mb,tb,qb,gb,kk,qa,ca,cg⟩ us g s n A ats parts):=fun X hX=>HP.out.below hX
 obtain⟨d0,d1,d2,d3,d4,d5,d6⟩:=(HX.out w3 hb3).cells;dsimp only at d0 d1 d2 d3 d4 d5 d6;have hb4:Below w.heap.size w ((w3.setCell ⟨w.heap.size+1,0,none⟩ (.int .i8 2)).alloc (.cells zZh 252)):=(hb3.setCell (p:=⟨w.heap.size+1,0,none⟩) (by dsimp only;omega) _).alloc (by rw[World.size_setCell];exact hb3.size) _;obtain⟨f0,f1,f2,f3,f4,f5,f6⟩:=(HX.out _ hb4).cells;dsimp only at f0 f1 f2 f3 f4 f5 f6;have hrl:=hbk.lt;have HI:Hid (PkS w0 w ((w3.setCell ⟨w.heap.size+1,0,none⟩ (.int .i8 2)).alloc (.cells zZh 252)) ⟨pb,mb,tb,qb,gb,kk,qa,ca,cg⟩ us g s n A ats parts (w.heap.size+1) w3.heap.size ((List.replicate g.length (0:Int)).set 0 2) (0,0,0,0)):=by
  have hal:=zaa (w3.setCell ⟨w.heap.size+1,0,none⟩ (.int .i8 2)) (.cells zZh 252);have hnw:=heap_alloc_new (w3.setCell ⟨w.heap.size+1,0,none⟩ (.int .i8 2)) (.cells zZh 252);rw[World.size_setCell] at hnw;refine⟨hb4,(hrs.other _ _ (by omega)).below hal,?_,by simp,hnw,by omega,hrl⟩;have h:=(hbk.set 0 (.int .i8 2)).below hal;rw[List.map_set];exact h
 have hz3:(w3.setCell ⟨w.heap.size+1,0,none⟩ (.int .i8 2)).heap.size=w3.heap.size:=World.size_setCell _ _ _;clear hown hgrow hbk hrs hb3 hb4;have hg0':(0:Int)<(g.length:Int):=by omega
 have hpc:pb≠w.heap.size+1:=by have:=HP.out.box.lt;dsimp only at this;omega
 go_wp2_with fail;generalize ((w3.setCell ⟨w.heap.size+1,0,none⟩ (.int .i8 2)).alloc (.cells zZh 252))=W0 at *;clear hz3 hf0 hc0 d0 d1 d2 d3 d4 d5 d6 hsz1 c0 c1 c2 c3 c4 c5 c6;generalize w3.heap.size=cb at *;clear w3
 go_loopw [5,6,7,8,22] (fun s5 s6 s7 s8 s22 wr=>∃(k:Nat) (ro:List Int) (c:Pt) (f:Bool),s22=.int .i64 (k:Int)∧s5=.bool f∧k≤g.length∧PkS w0 w wr ⟨pb,mb,tb,qb,gb,kk,qa,ca,cg⟩ us g s n A ats parts (w.heap.size+1) cb ro c∧pick0 g parts=spk parts k (g.drop k) ro c f) (fun _ _ _ _ s22 _=>g.length-(intOf s22).toNat)
 case atStart=>exact⟨0,_,_,false,rfl,rfl,Nat.zero_le _,HI.out,rfl⟩
 case round =>
  clear HI f0 f1 f2 f3 f4 f5 f6;obtain⟨k,ro,c,f,rfl,rfl,hk,hS,hpk⟩:=hrel;by_cases hlt:k<g.length
  ·obtain⟨⟨y1,y2,y3,y4⟩,hy⟩:∃y,g[k]?=some y:=⟨_,List.getElem?_eq_getElem hlt⟩
   have hdr:g.drop k=(y1,y2,y3,y4)::g.drop (k+1):=by
    rw[List.drop_eq_getElem_cons hlt]
    congr 1
    rw[List.getElem?_eq_getElem hlt] at hy;exact Option.some.inj hy
   have hPW:=HGW.out k _ hy;rw[hdr] at hpk;have hPv:=HX.out wr hS.bel;obtain⟨z0,z1,z2,z3⟩:=hPv.gol.2 k _ hy;obtain⟨d0,d1,d2,d3,d4,d5,d6⟩:=hPv.cells;have hq:=hPv.pcell hlt;dsimp only at z0 z1 z2 z3 d0 d1 d2 d3 d4 d5 d6 hq;have hr:=hS.rcell hlt;have hBl:=zaa wr (.cells #[.int .i64 y1,.int .i64 y2,.int .i64 y3,.int .i8 y4] 252);have HSA:Hid _:=hS.below hBl;have hPa:=hPv.below hBl;obtain⟨m0,m1,m2,m3,m4,m5,m6⟩:=hPa.cells;have hqa:=hPa.pcell hlt;have hra:=HSA.out.rcell hlt;dsimp only at m0 m1 m2 m3 m4 m5 m6 hqa;have HPA:Hid _:=hPa;have hkl:(k:Int)<(g.length:Int):=by omega
   have HPK:Hid (pick0 g parts=spk parts k ((y1,y2,y3,y4)::g.drop (k+1)) ro c f):=hpk;have hgne:¬gb=wr.heap.size:=by have:=hPv.gol.1;dsimp only at this;omega
   have HWL:Hid (w.heap.size<wr.heap.size):=hS.res.lt;have HCL:Hid (cb<wr.heap.size):=hS.cho.lt;have HRL:Hid (w.heap.size+1<wr.heap.size):=hS.rol.lt;have hrne:¬w.heap.size+1=wr.heap.size:=by have:=HRL.out;omega
   have hrne2:¬wr.heap.size=w.heap.size+1:=fun e=>hrne e.symm
   clear hPv hS hpk hdr hy hPa;by_cases hP0:parts.getD k 0≠0
   ·have HN:Hid (pick0 g parts=spk parts (k+1) (g.drop (k+1)) ro c f):=by show _=_;rw[HPK.out,spk,if_pos (Or.inl hP0)]
    have hpne:(parts.getD k 0 != 0)=true:=by simpa using hP0
    generalize parts.getD k 0=P0 at *;go_wp2_with fail
    go_roundw
    case rel=>exact⟨k+1,ro,c,f,by go_num,rfl,by omega,HSA.out,HN.out⟩
    case measure=>simp[intOf];omega
   ·have hP0':parts.getD k 0=0:=by omega
    rw[hP0'] at hq hqa;by_cases hR0:ro.getD k 0=0
    ·have HN:Hid (pick0 g parts=spk parts (k+1) (g.drop (k+1)) ro c f):=by show _=_;rw[HPK.out,spk,if_pos (Or.inr hR0)]
     rw[hR0] at hr hra;clear hP0' hR0 hP0;go_wp2_with fail
     go_roundw
     case rel=>exact⟨k+1,ro,c,f,by go_num,rfl,by omega,HSA.out,HN.out⟩
     case measure=>simp[intOf];omega
    ·have hno:¬(parts.getD k 0≠0∨ro.getD k 0=0):=fun h=>by rcases h with h|h;exact hP0 h;exact hR0 h
     have HPK2:Hid _:=HPK.out.trans (by rw[spk,if_neg hno]);have hk5:y1=0∨y1=1∨y1=2∨y1=3∨y1=4:=by have:=hPW.k0;have:=hPW.k4;dsimp only at *;omega
     have hrn:(ro.getD k 0==0)=false:=by simpa using hR0
     rcases hk5 with rfl|rfl|rfl|rfl|rfl
     ·have HN:Hid (pick0 g parts=spk parts (k+1) (g.drop (k+1)) ro c f):=HPK2.out;generalize ro.getD k 0=R at *;clear hP0' hno hP0;go_wp2_with fail
      go_roundw
      case rel=>exact⟨k+1,ro,c,f,by go_num,rfl,by omega,HSA.out,HN.out⟩
      case measure=>simp[intOf];omega
     ·have HN:Hid (pick0 g parts=spk parts (k+1) (g.drop (k+1)) ro c f):=HPK2.out;generalize ro.getD k 0=R at *;clear hP0' hno hP0;go_wp2_with fail
      go_roundw
      case rel=>exact⟨k+1,ro,c,f,by go_num,rfl,by omega,HSA.out,HN.out⟩
      case measure=>simp[intOf];omega
     ·obtain⟨sx,es,hs1,hs2⟩:=hPW.two (Or.inl rfl);dsimp only at es;subst es;have HN:Hid (pick0 g parts=spk parts (k+1) (g.drop (k+1)) ((ro.set (k+1) (ro.getD k 0)).set sx (ro.getD k 0)) c f):=HPK2.out;have HS2:Hid _:=(HSA.out.setR (k+1) (ro.getD k 0)).setR sx (ro.getD k 0);have hra1:=HSA.out.rcell (i:=k+1) (by omega);have hra2:=HSA.out.rcell (i:=sx) hs2;have hfa1:=HSA.out.rol.free (k+1);have hfa2:=HSA.out.rol.free sx;have hsk:¬k+1=sx:=by omega
      have hsk2:¬sx=k+1:=by omega
      have hk1:(k:Int)+1<(g.length:Int):=by omega
      have hk1':IntKind.i64.wrap ((k:Int)+1)=((k+1:Nat):Int):=by rw[show(k:Int)+1=((k+1:Nat):Int) by omega];exact IntWalk.i64_in _ (by omega)
      have hk2:((k+1:Nat):Int)<(g.length:Int):=by omega
      have hs3:(sx:Int)<(g.length:Int):=by omega
      have hkk1:k+1<g.length:=by omega
      generalize ro.getD k 0=R at *;generalize ro.getD (k+1) 0=R1 at *;generalize ro.getD sx 0=R2 at *;clear hP0' hno hP0;go_wp2_with fail;go_region
      all_goals
       go_wp2_with fail
       go_roundw
       case rel=>exact⟨k+1,_,c,f,by go_num,rfl,by omega,HS2.out.below (Below.refl _ _).drew,HN.out⟩
       case measure=>simp[intOf];omega
     ·obtain⟨sx,es,hs1,hs2⟩:=hPW.two (Or.inr rfl);dsimp only at es;subst es;have hra1:=HSA.out.rcell (i:=k+1) (by omega);have hra2:=HSA.out.rcell (i:=sx) hs2;have hfa1:=HSA.out.rol.free (k+1);have hfa2:=HSA.out.rol.free sx;have hqa1:=HPA.out.pcell (i:=k+1) (by omega);have hqa2:=HPA.out.pcell (i:=sx) hs2;dsimp only at hqa1 hqa2;have hsk:¬k+1=sx:=by omega
      have hsk2:¬sx=k+1:=by omega
      have hk1:(k:Int)+1<(g.length:Int):=by omega
      have hk1':IntKind.i64.wrap ((k:Int)+1)=((k+1:Nat):Int):=by rw[show(k:Int)+1=((k+1:Nat):Int) by omega];exact IntWalk.i64_in _ (by omega)
      have hk2:((k+1:Nat):Int)<(g.length:Int):=by omega
      have hs3:(sx:Int)<(g.length:Int):=by omega
      have hkk1:k+1<g.length:=by omega
      have HSR:Hid (∀v,PkS w0 w (((wr.alloc (.cells #[.int .i64 3,.int .i64 (sx:Int),.int .i64 y3,.int .i8 y4] 252)).setCell ⟨w.heap.size+1,k+1,none⟩ (.int .i8 v)).setCell ⟨w.heap.size+1,sx,none⟩ (.int .i8 v)) ⟨pb,mb,tb,qb,gb,kk,qa,ca,cg⟩ us g s n A ats parts (w.heap.size+1) cb ((ro.set (k+1) v).set sx v) c):=fun v=>(HSA.out.setR (k+1) v).setR sx v
      by_cases hF1:parts.getD (k+1) 0=2
      ·have HN:Hid (pick0 g parts=spk parts (k+1) (g.drop (k+1)) ((ro.set (k+1) (ro.getD k 0)).set sx (ro.getD k 0)) c f):=by
        have h:=HPK2.out;simp only[show ¬((3:Int)=2) by decide,if_false,if_true] at h;rw[if_pos (Or.inl hF1)] at h;exact h
       rw[hF1] at hqa1;have HS2:Hid _:=HSR.out (ro.getD k 0);generalize ro.getD k 0=R at *;generalize ro.getD (k+1) 0=R1 at *;generalize ro.getD sx 0=R2 at *;generalize parts.getD sx 0=Q2 at *;clear hP0' hno hP0 hF1 HPK2 HSR;go_wp2_with fail
       go_quiet (fail)
       go_wp2_with fail;go_region
       all_goals
        go_wp2_with fail
        go_roundw
        case rel=>exact⟨k+1,_,c,f,by go_num,rfl,by omega,((HSA.out.below (below_drewN (Below.refl _ _) _)).setR (k+1) _).setR sx _,HN.out⟩
        case measure=>simp[intOf];omega
      ·have hF1':(parts.getD (k+1) 0==2)=false:=by simpa using hF1
       by_cases hF2:parts.getD sx 0=2
       ·have HN:Hid (pick0 g parts=spk parts (k+1) (g.drop (k+1)) ((ro.set (k+1) (ro.getD k 0)).set sx (ro.getD k 0)) c f):=by
         have h:=HPK2.out;simp only[show ¬((3:Int)=2) by decide,if_false,if_true] at h;rw[if_pos (show parts.getD (k+1) 0=2∨parts.getD ((sx:Nat):Int).toNat 0=2 from Or.inr hF2)] at h;exact h
        rw[hF2] at hqa2;have HS2:Hid _:=HSR.out (ro.getD k 0);generalize ro.getD k 0=R at *;generalize ro.getD (k+1) 0=R1 at *;generalize ro.getD sx 0=R2 at *;generalize parts.getD (k+1) 0=Q1 at *;clear hP0' hno hP0 hF1 hF2 HPK2 HSR;go_wp2_with fail
        go_quiet (fail)
        go_wp2_with fail;go_region
        all_goals
         go_wp2_with fail
         go_roundw
         case rel=>exact⟨k+1,_,c,f,by go_num,rfl,by omega,((HSA.out.below (below_drewN (Below.refl _ _) _)).setR (k+1) _).setR sx _,HN.out⟩
         case measure=>simp[intOf];omega
       ·have hF2':(parts.getD sx 0==2)=false:=by simpa using hF2
        have HN:Hid (pick0 g parts=spk parts (k+1) (g.drop (k+1)) ((ro.set (k+1) 1).set sx 1) c f):=by
         have h:=HPK2.out;simp only[show ¬((3:Int)=2) by decide,if_false,if_true] at h;rw[if_neg (show ¬(parts.getD (k+1) 0=2∨parts.getD ((sx:Nat):Int).toNat 0=2) from fun h=>by rcases h with h|h;exact hF1 h;exact hF2 h)] at h;exact h
        have HS2:Hid _:=HSR.out 1;generalize ro.getD k 0=R at *;generalize ro.getD (k+1) 0=R1 at *;generalize ro.getD sx 0=R2 at *;generalize parts.getD (k+1) 0=Q1 at *;generalize parts.getD sx 0=Q2 at *;clear hP0' hno hP0 hF1 hF2 HPK2 HSR;go_wp2_with fail
        go_quiet (fail)
        go_wp2_with fail;go_region
        all_goals
         go_wp2_with fail
         go_roundw
         case rel=>exact⟨k+1,_,c,f,by go_num,rfl,by omega,((HSA.out.below (below_drewN (Below.refl _ _) _)).setR (k+1) _).setR sx _,HN.out⟩
         case measure=>simp[intOf];omega
     ·generalize hRR:ro.getD k 0=R at *;have HPK3:Hid (pick0 g parts=if R=2 then (4,y2,y3,y4) else if f then spk parts (k+1) (g.drop (k+1)) ro c f else spk parts (k+1) (g.drop (k+1)) ro (4,y2,y3,y4) true):=by
       have h:=HPK2.out;simp only[show ¬((4:Int)=2) by decide,show ¬((4:Int)=3) by decide,if_false,if_true] at h;exact h
      clear hP0' hno hP0 HPK2 hRR;by_cases hR2:R=2
      ·subst hR2;have HE:Hid (pick0 g parts=(4,y2,y3,y4)):=by show _=_;rw[HPK3.out,if_pos rfl]
       have rs0:=HSA.out.res.cell (i:=0) rfl;have rs1:=HSA.out.res.cell (i:=1) rfl;have rs2:=HSA.out.res.cell (i:=2) rfl;have rs3:=HSA.out.res.cell (i:=3) rfl;have rf0:=HSA.out.res.free 0;have rf1:=HSA.out.res.free 1;have rf2:=HSA.out.res.free 2;have rf3:=HSA.out.res.free 3;have hwne:¬w.heap.size=wr.heap.size:=by have:=HSA.out.bel.size;have:=HWL.out;omega
       have HB4:Hid _:=HSA.out.res.set4 (.int .i64 4) (.int .i64 y2) (.int .i64 y3) (.int .i8 y4);have HW4:Hid _:=ziA HSA.out.bel (Nat.le_refl _) (.int .i64 4) (.int .i64 y2) (.int .i64 y3) (.int .i8 y4);go_wp2_with fail;exact bodyPost_ret (zcg rfl rfl (load4p _ w.heap.size _ _ _ _ (Blk.cell (i:=0) HB4.out rfl) (Blk.cell (i:=1) HB4.out rfl) (Blk.cell (i:=2) HB4.out rfl) (Blk.cell (i:=3) HB4.out rfl))) rfl ⟨by rw[HE.out];rfl,HW4.out⟩
      ·have hR2':(R==2)=false:=by simpa using hR2
       cases f with
       | true =>
        have HN:Hid (pick0 g parts=spk parts (k+1) (g.drop (k+1)) ro c true):=by show _=_;rw[HPK3.out,if_neg hR2];rfl
        go_wp2_with fail
        go_roundw
        case rel=>exact⟨k+1,ro,c,true,by go_num,rfl,by omega,HSA.out,HN.out⟩
        case measure=>simp[intOf];omega
       | false =>
        have HN:Hid (pick0 g parts=spk parts (k+1) (g.drop (k+1)) ro (4,y2,y3,y4) true):=by show _=_;rw[HPK3.out,if_neg hR2];rfl
        have rs0:=HSA.out.cho.cell (i:=0) rfl;have rs1:=HSA.out.cho.cell (i:=1) rfl;have rs2:=HSA.out.cho.cell (i:=2) rfl;have rs3:=HSA.out.cho.cell (i:=3) rfl;have rf0:=HSA.out.cho.free 0;have rf1:=HSA.out.cho.free 1;have rf2:=HSA.out.cho.free 2;have rf3:=HSA.out.cho.free 3;have hcne:¬cb=wr.heap.size:=by have:=HCL.out;omega
        have HC4:Hid _:=HSA.out.setC (4,y2,y3,y4);go_wp2_with fail
        go_roundw
        case rel=>exact⟨k+1,ro,(4,y2,y3,y4),true,by go_num,rfl,by omega,HC4.out,HN.out⟩
        case measure=>simp[intOf];omega
  ·have hke:k=g.length:=by omega
   subst hke;obtain⟨x1,x2,x3,x4⟩:=c;have HE:Hid (pick0 g parts=(x1,x2,x3,x4)):=by show _=_;rw[hpk,List.drop_length,spk]
   have hlt':¬((g.length:Nat):Int)<(g.length:Int):=by omega
   have ch0:=hS.cho.cell (i:=0) rfl;have ch1:=hS.cho.cell (i:=1) rfl;have ch2:=hS.cho.cell (i:=2) rfl;have ch3:=hS.cho.cell (i:=3) rfl;have rs0:=hS.res.cell (i:=0) rfl;have rs1:=hS.res.cell (i:=1) rfl;have rs2:=hS.res.cell (i:=2) rfl;have rs3:=hS.res.cell (i:=3) rfl;have rf0:=hS.res.free 0;have rf1:=hS.res.free 1;have rf2:=hS.res.free 2;have rf3:=hS.res.free 3;dsimp only at ch0 ch1 ch2 ch3;have HB4:Hid _:=hS.res.set4 (.int .i64 x1) (.int .i64 x2) (.int .i64 x3) (.int .i8 x4);have HW4:Hid _:=ziA hS.bel (Nat.le_refl _) (.int .i64 x1) (.int .i64 x2) (.int .i64 x3) (.int .i8 x4);clear hS hpk hlt;go_wp2_with fail;exact bodyPost_ret (zcg rfl rfl (load4p _ w.heap.size _ _ _ _ (Blk.cell (i:=0) HB4.out rfl) (Blk.cell (i:=1) HB4.out rfl) (Blk.cell (i:=2) HB4.out rfl) (Blk.cell (i:=3) HB4.out rfl))) rfl ⟨by rw[HE.out];rfl,HW4.out⟩
end Go.Proofs.YtkinoehmcfhgbaaGreatDoor.Vl
