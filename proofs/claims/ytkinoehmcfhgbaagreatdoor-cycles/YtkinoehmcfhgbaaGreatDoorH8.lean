/- A part of the proof. -/
import Derived.Test.YtkinoehmcfhgbaaGreatDoorH13
set_option linter.unusedVariables false
set_option linter.unusedSimpArgs false
set_option maxRecDepth 100000
set_option maxHeartbeats 8000000
namespace Go.Proofs.YtkinoehmcfhgbaaGreatDoor.Vl
open Go.RowKit
def ptA (x:Pt):Value:=.agg #[.int .i64 x.1,.int .i64 x.2.1,.int .i64 x.2.2.1,.int .i8 x.2.2.2]
theorem Tryz.infoRole:(Tryz.prog.info? 314).map (fun i=>(i.zero,i.size,i.bytes))=some (some (.int .i8 0),1,1):=by kernel_rfl
structure PkS (w0 w X:World) (D:PD) (us:List Atm) (g:List Pt) (s n:Nat) (A:Nat→Int) (ats parts:List Int) (rb cb:Nat) (ro:List Int) (c:Pt):Prop where
 bel:Below w.heap.size w X
 res:Blk X w.heap.size 252 [.int .i64 0,.int .i64 0,.int .i64 0,.int .i8 0]
 rol:Blk X rb 314 (ro.map tv8)
 rl:ro.length=g.length
 cho:Blk X cb 252 [.int .i64 c.1,.int .i64 c.2.1,.int .i64 c.2.2.1,.int .i8 c.2.2.2]
 r1:w.heap.size<rb
 r2:rb<cb
theorem PkS.below {w0 w X Y:World} {D:PD} {us:List Atm} {g:List Pt} {s n:Nat} {A:Nat→Int} {ats parts:List Int} {rb cb:Nat} {ro:List Int} {c:Pt} (h:PkS w0 w X D us g s n A ats parts rb cb ro c) (hb:Below X.heap.size X Y):PkS w0 w Y D us g s n A ats parts rb cb ro c :=
 ⟨h.bel.trans (hb.mono h.bel.size),h.res.below hb,h.rol.below hb,h.rl,h.cho.below hb,h.r1,h.r2⟩
theorem PkS.setR {w0 w X:World} {D:PD} {us:List Atm} {g:List Pt} {s n:Nat} {A:Nat→Int} {ats parts:List Int} {rb cb:Nat} {ro:List Int} {c:Pt} (h:PkS w0 w X D us g s n A ats parts rb cb ro c) (i:Nat) (v:Int):PkS w0 w (X.setCell ⟨rb,i,none⟩ (.int .i8 v)) D us g s n A ats parts rb cb (ro.set i v) c:=by
 have h1:=h.r1;have h2:=h.r2;refine⟨h.bel.setCell (p:=⟨rb,i,none⟩) (by dsimp only;omega) _,h.res.other _ _ (by omega),?_,by rw[List.length_set];exact h.rl,h.cho.other _ _ (by omega),h1,h2⟩;have:=h.rol.set i (.int .i8 v);rw[List.map_set];exact this
theorem load4p (X:World) (B:Nat) (c0 c1 c2 c3:Value) (h0:X.cell? ⟨B,0,none⟩=some c0) (h1:X.cell? ⟨B,1,none⟩=some c1) (h2:X.cell? ⟨B,2,none⟩=some c2) (h3:X.cell? ⟨B,3,none⟩=some c3):(loadVar 252 ⟨B,0,none⟩).run Tryz.prog X=.ok (.agg #[c0,c1,c2,c3]) X :=
 run_loadVar_mid _ _ 0 252 [c0,c1,c2,c3] _ (by
  intro j v hv
  match j,hv with
  | 0,hv=>cases hv;exact h0
  | 1,hv=>cases hv;exact h1
  | 2,hv=>cases hv;exact h2
  | 3,hv=>cases hv;exact h3) Tryz.underlying252 rfl Tryz.sizeVSym
theorem Blk.set4 {X:World} {b:Nat} {ty:TypeId} {a0 a1 a2 a3:Value} (h:Blk X b ty [a0,a1,a2,a3]) (v0 v1 v2 v3:Value):Blk ((((X.setCell ⟨b,0,none⟩ v0).setCell ⟨b,1,none⟩ v1).setCell ⟨b,2,none⟩ v2).setCell ⟨b,3,none⟩ v3) b ty [v0,v1,v2,v3]:=(((h.set 0 v0).set 1 v1).set 2 v2).set 3 v3
theorem Blk.other4 {X:World} {b b':Nat} {ty:TypeId} {cs:List Value} (h:Blk X b' ty cs) (hne:b'≠b) (v0 v1 v2 v3:Value):Blk ((((X.setCell ⟨b,0,none⟩ v0).setCell ⟨b,1,none⟩ v1).setCell ⟨b,2,none⟩ v2).setCell ⟨b,3,none⟩ v3) b' ty cs:=(((h.other 0 v0 hne).other 1 v1 hne).other 2 v2 hne).other 3 v3 hne
theorem zjg {w X:World} {b:Nat} (h:Below w.heap.size w X) (hb:w.heap.size≤b) (v0 v1 v2 v3:Value):Below w.heap.size w ((((X.setCell ⟨b,0,none⟩ v0).setCell ⟨b,1,none⟩ v1).setCell ⟨b,2,none⟩ v2).setCell ⟨b,3,none⟩ v3):=(((h.setCell (p:=⟨b,0,none⟩) hb v0).setCell (p:=⟨b,1,none⟩) hb v1).setCell (p:=⟨b,2,none⟩) hb v2).setCell (p:=⟨b,3,none⟩) hb v3
theorem PkS.setC {w0 w X:World} {D:PD} {us:List Atm} {g:List Pt} {s n:Nat} {A:Nat→Int} {ats parts:List Int} {rb cb:Nat} {ro:List Int} {c:Pt} (h:PkS w0 w X D us g s n A ats parts rb cb ro c) (x:Pt):PkS w0 w ((((X.setCell ⟨cb,0,none⟩ (.int .i64 x.1)).setCell ⟨cb,1,none⟩ (.int .i64 x.2.1)).setCell ⟨cb,2,none⟩ (.int .i64 x.2.2.1)).setCell ⟨cb,3,none⟩ (.int .i8 x.2.2.2)) D us g s n A ats parts rb cb ro x:=by
 have h1:=h.r1;have h2:=h.r2;exact⟨zjg h.bel (by omega) _ _ _ _,h.res.other4 (by omega) _ _ _ _,h.rol.other4 (by omega) _ _ _ _,h.rl,h.cho.set4 _ _ _ _,h1,h2⟩
theorem PkS.rcell {w0 w X:World} {D:PD} {us:List Atm} {g:List Pt} {s n:Nat} {A:Nat→Int} {ats parts:List Int} {rb cb:Nat} {ro:List Int} {c:Pt} (h:PkS w0 w X D us g s n A ats parts rb cb ro c) {i:Nat} (hi:i<g.length):X.cell? ⟨rb,i,none⟩=some (.int .i8 (ro.getD i 0)):=by
 refine h.rol.cell ?_;rw[List.getElem?_map,List.getD_eq_getElem?_getD,List.getElem?_eq_getElem (by rw[h.rl];exact hi)]
 rfl
theorem zeG (w0 w:World) (D:PD) (us:List Atm) (g:List Pt) (s n:Nat) (A:Nat→Int) (ats parts:List Int) (h:PvS w0 w D us g s n A ats parts) (hgl:g.length≤8000) (hg0:0<g.length) (hGW:GW us.length g) :
 Calls Tryz.prog 132 #[.pointer (some ⟨D.pb,0,none⟩)] w fun e w'=>e=.returned (ptA (pick0 g parts))∧Below w.heap.size w w':=by
 obtain⟨i0,hi,hz0,hz1,hz2⟩:=info_parts Tryz.infoRole;have HP:Hid (PvS w0 w D us g s n A ats parts):=h;have HGW:Hid _:=hGW;obtain⟨pb,mb,tb,qb,gb,kk,qa,ca,cg⟩:=D;have h1:PvS w0 (w.alloc (.cells zZg 252)) ⟨pb,mb,tb,qb,gb,kk,qa,ca,cg⟩ us g s n A ats parts:=h.below (zaa w _);obtain⟨c0,c1,c2,c3,c4,c5,c6⟩:=h1.cells;dsimp only at *;have hsz1:(w.alloc (.cells zZg 252)).heap.size=w.heap.size+1:=by simp
 clear h hGW h1;go_enter Tryz.func132,Tryz.ntmps132;go_wp2_with (at_make;refine wpList_make_full _ rfl _ _ 313 rfl w.heap.size 314 i0 (.int .i8 0) 1 Tryz.underlying313 hi hz0 hz1 .i64 .i64 _ _ g.length rfl rfl rfl rfl (by rw[hz2];omega) (by unfold maxLen;omega) (by simp) ?_);intro w3 hown hgrow;have hbk:Blk w3 (w.heap.size+1) 314 ((List.replicate g.length (0:Int)).map tv8):=by
  have h:=hown;rw[toList_madeCells_one] at h;have h2:=zcb h;rw[List.map_replicate];exact h2
 have hb3:Below w.heap.size w w3:=(zaa w _).trans (((Below.refl _ (w.alloc (.cells zZg 252))).grown hgrow (Nat.le_refl _) (by intro k h;cases h)).mono (by simp));have hrs:Blk w3 w.heap.size 252 [.int .i64 0,.int .i64 0,.int .i64 0,.int .i8 0]:=(hgrow.block w.heap.size (by simp) (by intro e;cases e)).trans (heap_alloc_new w _);have hf0:=hbk.free 0;have hc0:w3.cell? ⟨w.heap.size+1,0,none⟩=some (.int .i8 0):=hbk.cell (by rw[List.getElem?_map,List.getElem?_replicate,if_pos hg0];rfl);have HX:Hid (∀X,Below w.heap.size w X→PvS w0 X ⟨pb,mb,tb,qb,gb,kk,qa,ca,cg⟩ us g s n A ats parts):=fun X hX=>HP.out.below hX
 obtain⟨d0,d1,d2,d3,d4,d5,d6⟩:=(HX.out w3 hb3).cells;dsimp only at d0 d1 d2 d3 d4 d5 d6;have hb4:Below w.heap.size w ((w3.setCell ⟨w.heap.size+1,0,none⟩ (.int .i8 2)).alloc (.cells zZg 252)):=(hb3.setCell (p:=⟨w.heap.size+1,0,none⟩) (by dsimp only;omega) _).alloc (by rw[World.size_setCell];exact hb3.size) _;obtain⟨f0,f1,f2,f3,f4,f5,f6⟩:=(HX.out _ hb4).cells;dsimp only at f0 f1 f2 f3 f4 f5 f6;have hrl:=hbk.lt;have HI:Hid (PkS w0 w ((w3.setCell ⟨w.heap.size+1,0,none⟩ (.int .i8 2)).alloc (.cells zZg 252)) ⟨pb,mb,tb,qb,gb,kk,qa,ca,cg⟩ us g s n A ats parts (w.heap.size+1) w3.heap.size ((List.replicate g.length (0:Int)).set 0 2) (0,0,0,0)):=by
  have hal:=zaa (w3.setCell ⟨w.heap.size+1,0,none⟩ (.int .i8 2)) (.cells zZg 252);have hnw:=heap_alloc_new (w3.setCell ⟨w.heap.size+1,0,none⟩ (.int .i8 2)) (.cells zZg 252);rw[World.size_setCell] at hnw;refine⟨hb4,(hrs.other _ _ (by omega)).below hal,?_,by simp,hnw,by omega,hrl⟩;have h:=(hbk.set 0 (.int .i8 2)).below hal;rw[List.map_set];exact h
 have hz3:(w3.setCell ⟨w.heap.size+1,0,none⟩ (.int .i8 2)).heap.size=w3.heap.size:=World.size_setCell _ _ _;clear hown hgrow hbk hrs hb3 hb4;have hg0':(0:Int)<(g.length:Int):=by omega
 have hpc:pb≠w.heap.size+1:=by have:=HP.out.box.lt;dsimp only at this;omega
 go_wp2_with fail;generalize ((w3.setCell ⟨w.heap.size+1,0,none⟩ (.int .i8 2)).alloc (.cells zZg 252))=W0 at *;clear hz3 hf0 hc0 d0 d1 d2 d3 d4 d5 d6 hsz1 c0 c1 c2 c3 c4 c5 c6;generalize w3.heap.size=cb at *;clear w3
 go_loopw [5,6,7,8,22] (fun s5 s6 s7 s8 s22 wr=>∃(k:Nat) (ro:List Int) (c:Pt) (f:Bool),s22=.int .i64 (k:Int)∧s5=.bool f∧k≤g.length∧PkS w0 w wr ⟨pb,mb,tb,qb,gb,kk,qa,ca,cg⟩ us g s n A ats parts (w.heap.size+1) cb ro c∧pick0 g parts=spk parts k (g.drop k) ro c f) (fun _ _ _ _ s22 _=>g.length-(intOf s22).toNat)
 case atStart=>exact⟨0,_,_,false,rfl,rfl,Nat.zero_le _,HI.out,rfl⟩
 case round =>
  clear HI f0 f1 f2 f3 f4 f5 f6;obtain⟨k,ro,c,f,rfl,rfl,hk,hS,hpk⟩:=hrel;by_cases hlt:k<g.length
  ·obtain⟨⟨y1,y2,y3,y4⟩,hy⟩:∃y,g[k]?=some y:=⟨_,List.getElem?_eq_getElem hlt⟩
   have hdr:g.drop k=(y1,y2,y3,y4)::g.drop (k+1):=by
    rw[List.drop_eq_getElem_cons hlt]
    congr 1
    rw[List.getElem?_eq_getElem hlt] at hy;exact Option.some.inj hy
   have hPW:=HGW.out k _ hy;rw[hdr] at hpk;have hPv:=HX.out wr hS.bel;obtain⟨z0,z1,z2,z3⟩:=hPv.gol.2 k _ hy;obtain⟨d0,d1,d2,d3,d4,d5,d6⟩:=hPv.cells;have hq:=hPv.pcell hlt;dsimp only at z0 z1 z2 z3 d0 d1 d2 d3 d4 d5 d6 hq;have hr:=hS.rcell hlt;have hBl:=zaa wr (.cells #[.int .i64 y1,.int .i64 y2,.int .i64 y3,.int .i8 y4] 252);have HSA:Hid _:=hS.below hBl;have hPa:=hPv.below hBl;obtain⟨m0,m1,m2,m3,m4,m5,m6⟩:=hPa.cells;have hqa:=hPa.pcell hlt;have hra:=HSA.out.rcell hlt;dsimp only at m0 m1 m2 m3 m4 m5 m6 hqa;have HPA:Hid _:=hPa;have hkl:(k:Int)<(g.length:Int):=by omega
   have HPK:Hid (pick0 g parts=spk parts k ((y1,y2,y3,y4)::g.drop (k+1)) ro c f):=hpk;have hgne:¬gb=wr.heap.size:=by have:=hPv.gol.1;dsimp only at this;omega
   have HWL:Hid (w.heap.size<wr.heap.size):=hS.res.lt;have HCL:Hid (cb<wr.heap.size):=hS.cho.lt;have HRL:Hid (w.heap.size+1<wr.heap.size):=hS.rol.lt;have hrne:¬w.heap.size+1=wr.heap.size:=by have:=HRL.out;omega
   have hrne2:¬wr.heap.size=w.heap.size+1:=fun e=>hrne e.symm
   clear hPv hS hpk hdr hy hPa;by_cases hP0:parts.getD k 0≠0
   ·have HN:Hid (pick0 g parts=spk parts (k+1) (g.drop (k+1)) ro c f):=by show _=_;rw[HPK.out,spk,if_pos (Or.inl hP0)]
    have hpne:(parts.getD k 0 != 0)=true:=by simpa using hP0
    generalize parts.getD k 0=P0 at *;go_wp2_with fail
    go_roundw
    case rel=>exact⟨k+1,ro,c,f,by go_num,rfl,by omega,HSA.out,HN.out⟩
    case measure=>simp[intOf];omega
   ·have hP0':parts.getD k 0=0:=by omega
    rw[hP0'] at hq hqa;by_cases hR0:ro.getD k 0=0
    ·have HN:Hid (pick0 g parts=spk parts (k+1) (g.drop (k+1)) ro c f):=by show _=_;rw[HPK.out,spk,if_pos (Or.inr hR0)]
     rw[hR0] at hr hra;clear hP0' hR0 hP0;go_wp2_with fail
     go_roundw
     case rel=>exact⟨k+1,ro,c,f,by go_num,rfl,by omega,HSA.out,HN.out⟩
     case measure=>simp[intOf];omega
    ·have hno:¬(parts.getD k 0≠0∨ro.getD k 0=0):=fun h=>by rcases h with h|h;exact hP0 h;exact hR0 h
     have HPK2:Hid _:=HPK.out.trans (by rw[spk,if_neg hno]);have hk5:y1=0∨y1=1∨y1=2∨y1=3∨y1=4:=by have:=hPW.k0;have:=hPW.k4;dsimp only at *;omega
     have hrn:(ro.getD k 0==0)=false:=by simpa using hR0
     rcases hk5 with rfl|rfl|rfl|rfl|rfl
     ·have HN:Hid (pick0 g parts=spk parts (k+1) (g.drop (k+1)) ro c f):=HPK2.out;generalize ro.getD k 0=R at *;clear hP0' hno hP0;go_wp2_with fail
      go_roundw
      case rel=>exact⟨k+1,ro,c,f,by go_num,rfl,by omega,HSA.out,HN.out⟩
      case measure=>simp[intOf];omega
     ·have HN:Hid (pick0 g parts=spk parts (k+1) (g.drop (k+1)) ro c f):=HPK2.out;generalize ro.getD k 0=R at *;clear hP0' hno hP0;go_wp2_with fail
      go_roundw
      case rel=>exact⟨k+1,ro,c,f,by go_num,rfl,by omega,HSA.out,HN.out⟩
      case measure=>simp[intOf];omega
     ·obtain⟨sx,es,hs1,hs2⟩:=hPW.two (Or.inl rfl);dsimp only at es;subst es;have HN:Hid (pick0 g parts=spk parts (k+1) (g.drop (k+1)) ((ro.set (k+1) (ro.getD k 0)).set sx (ro.getD k 0)) c f):=HPK2.out;have HS2:Hid _:=(HSA.out.setR (k+1) (ro.getD k 0)).setR sx (ro.getD k 0);have hra1:=HSA.out.rcell (i:=k+1) (by omega);have hra2:=HSA.out.rcell (i:=sx) hs2;have hfa1:=HSA.out.rol.free (k+1);have hfa2:=HSA.out.rol.free sx;have hsk:¬k+1=sx:=by omega
      have hsk2:¬sx=k+1:=by omega
      have hk1:(k:Int)+1<(g.length:Int):=by omega
      have hk1':IntKind.i64.wrap ((k:Int)+1)=((k+1:Nat):Int):=by rw[show(k:Int)+1=((k+1:Nat):Int) by omega];exact IntWalk.i64_in _ (by omega)
      have hk2:((k+1:Nat):Int)<(g.length:Int):=by omega
      have hs3:(sx:Int)<(g.length:Int):=by omega
      have hkk1:k+1<g.length:=by omega
      generalize ro.getD k 0=R at *;generalize ro.getD (k+1) 0=R1 at *;generalize ro.getD sx 0=R2 at *;clear hP0' hno hP0;go_wp2_with fail;go_region
      all_goals
       go_wp2_with fail
       go_roundw
       case rel=>exact⟨k+1,_,c,f,by go_num,rfl,by omega,HS2.out.below (Below.refl _ _).drew,HN.out⟩
       case measure=>simp[intOf];omega
     ·obtain⟨sx,es,hs1,hs2⟩:=hPW.two (Or.inr rfl);dsimp only at es;subst es;have hra1:=HSA.out.rcell (i:=k+1) (by omega);have hra2:=HSA.out.rcell (i:=sx) hs2;have hfa1:=HSA.out.rol.free (k+1);have hfa2:=HSA.out.rol.free sx;have hqa1:=HPA.out.pcell (i:=k+1) (by omega);have hqa2:=HPA.out.pcell (i:=sx) hs2;dsimp only at hqa1 hqa2;have hsk:¬k+1=sx:=by omega
      have hsk2:¬sx=k+1:=by omega
      have hk1:(k:Int)+1<(g.length:Int):=by omega
      have hk1':IntKind.i64.wrap ((k:Int)+1)=((k+1:Nat):Int):=by rw[show(k:Int)+1=((k+1:Nat):Int) by omega];exact IntWalk.i64_in _ (by omega)
      have hk2:((k+1:Nat):Int)<(g.length:Int):=by omega
      have hs3:(sx:Int)<(g.length:Int):=by omega
      have hkk1:k+1<g.length:=by omega
      have HSR:Hid (∀v,PkS w0 w (((wr.alloc (.cells #[.int .i64 3,.int .i64 (sx:Int),.int .i64 y3,.int .i8 y4] 252)).setCell ⟨w.heap.size+1,k+1,none⟩ (.int .i8 v)).setCell ⟨w.heap.size+1,sx,none⟩ (.int .i8 v)) ⟨pb,mb,tb,qb,gb,kk,qa,ca,cg⟩ us g s n A ats parts (w.heap.size+1) cb ((ro.set (k+1) v).set sx v) c):=fun v=>(HSA.out.setR (k+1) v).setR sx v
      by_cases hF1:parts.getD (k+1) 0=2
      ·have HN:Hid (pick0 g parts=spk parts (k+1) (g.drop (k+1)) ((ro.set (k+1) (ro.getD k 0)).set sx (ro.getD k 0)) c f):=by
        have h:=HPK2.out;simp only[show ¬((3:Int)=2) by decide,if_false,if_true] at h;rw[if_pos (Or.inl hF1)] at h;exact h
       rw[hF1] at hqa1;have HS2:Hid _:=HSR.out (ro.getD k 0);generalize ro.getD k 0=R at *;generalize ro.getD (k+1) 0=R1 at *;generalize ro.getD sx 0=R2 at *;generalize parts.getD sx 0=Q2 at *;clear hP0' hno hP0 hF1 HPK2 HSR;go_wp2_with fail
       go_quiet (fail)
       go_wp2_with fail;go_region
       all_goals
        go_wp2_with fail
        go_roundw
        case rel=>exact⟨k+1,_,c,f,by go_num,rfl,by omega,((HSA.out.below (below_drewN (Below.refl _ _) _)).setR (k+1) _).setR sx _,HN.out⟩
        case measure=>simp[intOf];omega
      ·have hF1':(parts.getD (k+1) 0==2)=false:=by simpa using hF1
       by_cases hF2:parts.getD sx 0=2
       ·have HN:Hid (pick0 g parts=spk parts (k+1) (g.drop (k+1)) ((ro.set (k+1) (ro.getD k 0)).set sx (ro.getD k 0)) c f):=by
         have h:=HPK2.out;simp only[show ¬((3:Int)=2) by decide,if_false,if_true] at h;rw[if_pos (show parts.getD (k+1) 0=2∨parts.getD ((sx:Nat):Int).toNat 0=2 from Or.inr hF2)] at h;exact h
        rw[hF2] at hqa2;have HS2:Hid _:=HSR.out (ro.getD k 0);generalize ro.getD k 0=R at *;generalize ro.getD (k+1) 0=R1 at *;generalize ro.getD sx 0=R2 at *;generalize parts.getD (k+1) 0=Q1 at *;clear hP0' hno hP0 hF1 hF2 HPK2 HSR;go_wp2_with fail
        go_quiet (fail)
        go_wp2_with fail;go_region
        all_goals
         go_wp2_with fail
         go_roundw
         case rel=>exact⟨k+1,_,c,f,by go_num,rfl,by omega,((HSA.out.below (below_drewN (Below.refl _ _) _)).setR (k+1) _).setR sx _,HN.out⟩
         case measure=>simp[intOf];omega
       ·have hF2':(parts.getD sx 0==2)=false:=by simpa using hF2
        have HN:Hid (pick0 g parts=spk parts (k+1) (g.drop (k+1)) ((ro.set (k+1) 1).set sx 1) c f):=by
         have h:=HPK2.out;simp only[show ¬((3:Int)=2) by decide,if_false,if_true] at h;rw[if_neg (show ¬(parts.getD (k+1) 0=2∨parts.getD ((sx:Nat):Int).toNat 0=2) from fun h=>by rcases h with h|h;exact hF1 h;exact hF2 h)] at h;exact h
        have HS2:Hid _:=HSR.out 1;generalize ro.getD k 0=R at *;generalize ro.getD (k+1) 0=R1 at *;generalize ro.getD sx 0=R2 at *;generalize parts.getD (k+1) 0=Q1 at *;generalize parts.getD sx 0=Q2 at *;clear hP0' hno hP0 hF1 hF2 HPK2 HSR;go_wp2_with fail
        go_quiet (fail)
        go_wp2_with fail;go_region
        all_goals
         go_wp2_with fail
         go_roundw
         case rel=>exact⟨k+1,_,c,f,by go_num,rfl,by omega,((HSA.out.below (below_drewN (Below.refl _ _) _)).setR (k+1) _).setR sx _,HN.out⟩
         case measure=>simp[intOf];omega
     ·generalize hRR:ro.getD k 0=R at *;have HPK3:Hid (pick0 g parts=if R=2 then (4,y2,y3,y4) else if f then spk parts (k+1) (g.drop (k+1)) ro c f else spk parts (k+1) (g.drop (k+1)) ro (4,y2,y3,y4) true):=by
       have h:=HPK2.out;simp only[show ¬((4:Int)=2) by decide,show ¬((4:Int)=3) by decide,if_false,if_true] at h;exact h
      clear hP0' hno hP0 HPK2 hRR;by_cases hR2:R=2
      ·subst hR2;have HE:Hid (pick0 g parts=(4,y2,y3,y4)):=by show _=_;rw[HPK3.out,if_pos rfl]
       have rs0:=HSA.out.res.cell (i:=0) rfl;have rs1:=HSA.out.res.cell (i:=1) rfl;have rs2:=HSA.out.res.cell (i:=2) rfl;have rs3:=HSA.out.res.cell (i:=3) rfl;have rf0:=HSA.out.res.free 0;have rf1:=HSA.out.res.free 1;have rf2:=HSA.out.res.free 2;have rf3:=HSA.out.res.free 3;have hwne:¬w.heap.size=wr.heap.size:=by have:=HSA.out.bel.size;have:=HWL.out;omega
       have HB4:Hid _:=HSA.out.res.set4 (.int .i64 4) (.int .i64 y2) (.int .i64 y3) (.int .i8 y4);have HW4:Hid _:=zjg HSA.out.bel (Nat.le_refl _) (.int .i64 4) (.int .i64 y2) (.int .i64 y3) (.int .i8 y4);go_wp2_with fail;exact bodyPost_ret (zcv rfl rfl (load4p _ w.heap.size _ _ _ _ (Blk.cell (i:=0) HB4.out rfl) (Blk.cell (i:=1) HB4.out rfl) (Blk.cell (i:=2) HB4.out rfl) (Blk.cell (i:=3) HB4.out rfl))) rfl ⟨by rw[HE.out];rfl,HW4.out⟩
      ·have hR2':(R==2)=false:=by simpa using hR2
       cases f with
       | true =>
        have HN:Hid (pick0 g parts=spk parts (k+1) (g.drop (k+1)) ro c true):=by show _=_;rw[HPK3.out,if_neg hR2];rfl
        go_wp2_with fail
        go_roundw
        case rel=>exact⟨k+1,ro,c,true,by go_num,rfl,by omega,HSA.out,HN.out⟩
        case measure=>simp[intOf];omega
       | false =>
        have HN:Hid (pick0 g parts=spk parts (k+1) (g.drop (k+1)) ro (4,y2,y3,y4) true):=by show _=_;rw[HPK3.out,if_neg hR2];rfl
        have rs0:=HSA.out.cho.cell (i:=0) rfl;have rs1:=HSA.out.cho.cell (i:=1) rfl;have rs2:=HSA.out.cho.cell (i:=2) rfl;have rs3:=HSA.out.cho.cell (i:=3) rfl;have rf0:=HSA.out.cho.free 0;have rf1:=HSA.out.cho.free 1;have rf2:=HSA.out.cho.free 2;have rf3:=HSA.out.cho.free 3;have hcne:¬cb=wr.heap.size:=by have:=HCL.out;omega
        have HC4:Hid _:=HSA.out.setC (4,y2,y3,y4);go_wp2_with fail
        go_roundw
        case rel=>exact⟨k+1,ro,(4,y2,y3,y4),true,by go_num,rfl,by omega,HC4.out,HN.out⟩
        case measure=>simp[intOf];omega
  ·have hke:k=g.length:=by omega
   subst hke;obtain⟨x1,x2,x3,x4⟩:=c;have HE:Hid (pick0 g parts=(x1,x2,x3,x4)):=by show _=_;rw[hpk,List.drop_length,spk]
   have hlt':¬((g.length:Nat):Int)<(g.length:Int):=by omega
   have ch0:=hS.cho.cell (i:=0) rfl;have ch1:=hS.cho.cell (i:=1) rfl;have ch2:=hS.cho.cell (i:=2) rfl;have ch3:=hS.cho.cell (i:=3) rfl;have rs0:=hS.res.cell (i:=0) rfl;have rs1:=hS.res.cell (i:=1) rfl;have rs2:=hS.res.cell (i:=2) rfl;have rs3:=hS.res.cell (i:=3) rfl;have rf0:=hS.res.free 0;have rf1:=hS.res.free 1;have rf2:=hS.res.free 2;have rf3:=hS.res.free 3;dsimp only at ch0 ch1 ch2 ch3;have HB4:Hid _:=hS.res.set4 (.int .i64 x1) (.int .i64 x2) (.int .i64 x3) (.int .i8 x4);have HW4:Hid _:=zjg hS.bel (Nat.le_refl _) (.int .i64 x1) (.int .i64 x2) (.int .i64 x3) (.int .i8 x4);clear hS hpk hlt;go_wp2_with fail;exact bodyPost_ret (zcv rfl rfl (load4p _ w.heap.size _ _ _ _ (Blk.cell (i:=0) HB4.out rfl) (Blk.cell (i:=1) HB4.out rfl) (Blk.cell (i:=2) HB4.out rfl) (Blk.cell (i:=3) HB4.out rfl))) rfl ⟨by rw[HE.out];rfl,HW4.out⟩
def gfo (B:Bd) (l k:Nat):Int:=(List.range k).foldl (fun least j=>if bkn (B l j)=true then min least (bmo (B l j)) else least) 0
theorem zkL (B:Bd) (l k:Nat):gfo B l (k+1)=if bkn (B l k)=true then min (gfo B l k) (bmo (B l k)) else gfo B l k:=by
 unfold gfo;rw[List.range_succ,List.foldl_append]
 rfl
theorem zkM (B:Bd) (l:Nat):gfo B l 5=bgr B l:=by
 unfold gfo bgr
 congr 1
 funext least j
 cases B l j with
 | none=>rfl
 | some x=>obtain⟨m,p⟩:=x;rfl
def rwc (B:Bd) (l:Nat) (v0 v1 v2 v3 v4:Value):List Value :=
 [.bool (bkn (B l 0)),.int .i64 (bmo (B l 0)),v0,.bool (bkn (B l 1)),.int .i64 (bmo (B l 1)),v1,.bool (bkn (B l 2)),.int .i64 (bmo (B l 2)),v2,.bool (bkn (B l 3)),.int .i64 (bmo (B l 3)),v3,.bool (bkn (B l 4)),.int .i64 (bmo (B l 4)),v4]
def Slc (v:Value):Prop:=∃a n c,v=.slice a n c
theorem IntsR.slc {w:World} {v:Value} {ls:List Int} (h:IntsR w v ls):Slc v:=by
 rcases h with⟨h,_⟩|⟨b,cap,h,_⟩<;>exact⟨_,_,_,h⟩
theorem BdAt.row {w:World} {b:Nat} {B:Bd} (h:BdAt w b 0 B) (l:Nat) (hl:l<5):∃v0 v1 v2 v3 v4,(Slc v0∧Slc v1∧Slc v2∧Slc v3∧Slc v4)∧w.rangeAt b (l*15) (rwc B l v0 v1 v2 v3 v4):=by
 obtain⟨a0,b0,v0,c0,d0⟩:=h.2 l 0 hl (by omega);obtain⟨a1,b1,v1,c1,d1⟩:=h.2 l 1 hl (by omega);obtain⟨a2,b2,v2,c2,d2⟩:=h.2 l 2 hl (by omega);obtain⟨a3,b3,v3,c3,d3⟩:=h.2 l 3 hl (by omega);obtain⟨a4,b4,v4,c4,d4⟩:=h.2 l 4 hl (by omega);rw[Nat.zero_add] at a0 b0 c0 a1 b1 c1 a2 b2 c2 a3 b3 c3 a4 b4 c4;refine⟨v0,v1,v2,v3,v4,⟨d0.slc,d1.slc,d2.slc,d3.slc,d4.slc⟩,?_⟩;intro j v hv
 match j,hv with
 | 0,hv=>cases hv;exact a0
 | 1,hv=>cases hv;exact b0
 | 2,hv=>cases hv;exact c0
 | 3,hv=>cases hv;exact a1
 | 4,hv=>cases hv;exact b1
 | 5,hv=>cases hv;exact c1
 | 6,hv=>cases hv;exact a2
 | 7,hv=>cases hv;exact b2
 | 8,hv=>cases hv;exact c2
 | 9,hv=>cases hv;exact a3
 | 10,hv=>cases hv;exact b3
 | 11,hv=>cases hv;exact c3
 | 12,hv=>cases hv;exact a4
 | 13,hv=>cases hv;exact b4
 | 14,hv=>cases hv;exact c4
 | (n+15),hv=>simp[rwc] at hv
theorem Tryz.infoRow5:(Tryz.prog.info? 190).map (·.size)=some 15:=by kernel_rfl
theorem idxRow (X:World) (cs:List Value) (k:Nat) (hk:k<5):(Instr.index 190 (.agg cs.toArray) (.int .i64 (k:Int))).run Tryz.prog X=.ok (.agg (cs.toArray.extract (k*3) (k*3+3))) X:=by
 have h5:(k:Int)<5:=by omega
 simp[Instr.index,run_underlying Tryz.underlying190,asIntOf,part,go_sem,h5];intro h;omega
theorem zmf (B:Bd) (l:Nat) (v0 v1 v2 v3 v4:Value) (hv:Slc v0∧Slc v1∧Slc v2∧Slc v3∧Slc v4) (k:Nat) (hk:k<5):∃v,Slc v∧∀X,(Instr.index 190 (.agg (rwc B l v0 v1 v2 v3 v4).toArray) (.int .i64 (k:Int))).run Tryz.prog X=.ok (.agg #[.bool (bkn (B l k)),.int .i64 (bmo (B l k)),v]) X:=by
 have hk5:k=0∨k=1∨k=2∨k=3∨k=4:=by omega
 rcases hk5 with rfl|rfl|rfl|rfl|rfl
 ·exact⟨v0,hv.1,fun X=>idxRow X _ 0 (by omega)⟩
 ·exact⟨v1,hv.2.1,fun X=>idxRow X _ 1 (by omega)⟩
 ·exact⟨v2,hv.2.2.1,fun X=>idxRow X _ 2 (by omega)⟩
 ·exact⟨v3,hv.2.2.2.1,fun X=>idxRow X _ 3 (by omega)⟩
 ·exact⟨v4,hv.2.2.2.2,fun X=>idxRow X _ 4 (by omega)⟩
theorem zfm (w:World) (b:Nat) (B:Bd) (l:Nat) (h:BdAt w b 0 B) (hl:l<5) :
 Calls Tryz.prog 181 #[.pointer (some ⟨b,0,none⟩),.int .i64 l] w fun e w'=>e=.returned (.int .i64 (bgr B l))∧Below w.heap.size w w':=by
 obtain⟨v0,v1,v2,v3,v4,hsl,hr⟩:=h.row l hl;clear h;have l5:(l:Int)<5:=by omega
 rw[←zkM];have hi:=Tryz.infoRow5;have HX:Hid (∀k:Nat,k<5→∃v,Slc v∧∀X,(Instr.index 190 (.agg (rwc B l v0 v1 v2 v3 v4).toArray) (.int .i64 (k:Int))).run Tryz.prog X=.ok (.agg #[.bool (bkn (B l k)),.int .i64 (bmo (B l k)),v]) X):=fun k hk=>zmf B l v0 v1 v2 v3 v4 hsl k hk
 clear hsl;go_enter Tryz.func181,Tryz.ntmps181;go_wp2_with (refine wpList_load_mid rfl 190 (.tmp 11) rfl b (l*15) rfl (rwc B l v0 v1 v2 v3 v4) _ ?_ Tryz.underlying190 rfl hi ?_;(exact hr))
 go_loopw [5,13] (fun s5 s13 wr=>∃k:Nat,s13=.int .i64 (k:Int)∧s5=.int .i64 (gfo B l k)∧k≤5∧Below w.heap.size w wr) (fun _ i _=>5-(intOf i).toNat)
 case atStart=>exact⟨0,rfl,rfl,by omega,Below.refl _ _⟩
 case round =>
  obtain⟨k,rfl,rfl,hk,hB⟩:=hrel;have hs:=zkL B l k;by_cases hlt:k<5
  ·have hlt':(k:Int)<5:=by omega
   have hx:=HX.out k hlt;obtain⟨v,⟨sa,sn,sc,rfl⟩,hx⟩:=hx;have hw1:IntKind.i64.wrap ((k:Int)+1)=(k:Int)+1:=by rw[IntKind.wrap_i64];omega
   have hS:Hid (gfo B l (k+1)=if bkn (B l k)=true then min (gfo B l k) (bmo (B l k)) else gfo B l k):=hs;clear hs;generalize bkn (B l k)=K at *;generalize bmo (B l k)=M at *;generalize gfo B l k=G at *;cases K with
   | true =>
    go_wp2
    go_roundw
    case rel=>exact⟨k+1,by go_num,by rw[hS.out];rfl,by omega,hB.alloc (by have:=hB.size;omega) _⟩
    case measure=>simp[intOf];omega
   | false =>
    go_wp2
    go_roundw
    case rel=>exact⟨k+1,by go_num,by rw[hS.out];rfl,by omega,hB.alloc (by have:=hB.size;omega) _⟩
    case measure=>simp[intOf];omega
  ·have hlt':¬(k:Int)<5:=by omega
   have hk5:k=5:=by omega
   subst hk5;go_wp2;go_ret;exact⟨rfl,hB⟩
def sof (B:Bd) (k j:Nat):Int:=if j<k then bgr B (j+1)-bgr B 0 else 0
theorem zjh (w:World) (b:Nat) (B:Bd) (h:BdAt w b 0 B) (hbig:∀j,j<5→-1000000000≤bgr B j∧bgr B j≤0) :
 Calls Tryz.prog 129 #[.pointer (some ⟨b,0,none⟩)] w fun e w'=>e=.returned (.agg #[.int .i64 (bmd B).1,.int .i64 (bmd B).2.1,.int .i64 (bmd B).2.2.1,.int .i64 (bmd B).2.2.2])∧Below w.heap.size w w':=by
 have CG:Hid (∀(l:Nat) X,l<5→Below w.heap.size w X→Calls Tryz.prog 181 #[.pointer (some ⟨b,0,none⟩),.int .i64 l] X fun e w'=>e=.returned (.int .i64 (bgr B l))∧Below X.heap.size X w'):=fun l X hl hX=>zfm X b B l (h.below hX) hl
 have CV:Hid (∀(x:Nat) X,x<4→Calls Tryz.prog 182 #[.int .i64 (x:Int)] X fun e w'=>e=.returned (.int .i64 ((x+1:Nat):Int))∧X=w'):=fun x X hx=>by
  have:=zbi (x:Int) X (by omega);rw[show((x+1:Nat):Int)=(x:Int)+1 by omega];exact this
 have HBG:Hid _:=hbig;clear h hbig;have hW:Below w.heap.size w ((w.alloc (.cells zZb 36)).alloc (.cells zZb 36)):=(zaa w _).alloc (by simp) _;have hS0:((w.alloc (.cells zZb 36)).alloc (.cells zZb 36)).heap[w.heap.size]?=some (.cells zZb 36 (0,0)):=(Below.heap_alloc _ _ _ (by simp)).trans (heap_alloc_new _ _);have hS1:((w.alloc (.cells zZb 36)).alloc (.cells zZb 36)).heap[w.heap.size+1]?=some (.cells zZb 36 (0,0)):=by have:=heap_alloc_new (w.alloc (.cells zZb 36)) (.cells zZb 36);rwa [World.size_alloc] at this
 have hSz:w.heap.size+1<((w.alloc (.cells zZb 36)).alloc (.cells zZb 36)).heap.size:=by simp
 go_enter Tryz.func129,Tryz.ntmps129;go_wp2_with fail;generalize ((w.alloc (.cells zZb 36)).alloc (.cells zZb 36))=W0 at *
 go_at_call 181
 refine Calls.mono (CG.out 0 _ (by omega) hW) ?_;rintro e w1 ⟨rfl,hb1⟩;have hS0':w1.heap[w.heap.size]?=some (.cells zZb 36 (0,0)):=(hb1.block _ (by omega)).trans hS0;have hS1':w1.heap[w.heap.size+1]?=some (.cells zZb 36 (0,0)):=(hb1.block _ (by omega)).trans hS1;have HS:Hid _:=(⟨hS0',hS1',hW.trans (hb1.mono hW.size)⟩:_∧_∧_);clear hS0 hS1 hS0' hS1' hb1 hW hSz;go_wp2_with fail
 go_loopw [8] (fun s8 wr=>∃(k:Nat),s8=.int .i64 (k:Int)∧k≤4∧wr.heap[w.heap.size]?=some (.cells zZb 36 (0,0))∧wr.heap[w.heap.size+1]?=some (.cells #[.int .i64 (sof B k 0),.int .i64 (sof B k 1),.int .i64 (sof B k 2),.int .i64 (sof B k 3)] 36 (0,0))∧Below w.heap.size w wr) (fun s8 _=>4-(intOf s8).toNat)
 case atStart=>exact⟨0,rfl,by omega,HS.out.1,HS.out.2.1,HS.out.2.2⟩
 case round =>
  clear HS;obtain⟨k,rfl,hk,hR,hO,hb⟩:=hrel;by_cases hlt:k<4
  ·have hlt':(k:Int)<4:=by omega
   have hsz:w.heap.size+1<wr.heap.size:=by
    rcases Nat.lt_or_ge (w.heap.size+1) wr.heap.size with h|h
    ·exact h
    ·rw[Array.getElem?_eq_none h] at hO;cases hO
   have hC:∃z:Int,wr.cell? ⟨w.heap.size+1,k,none⟩=some (.int .i64 z):=by
    have hc:k=0∨k=1∨k=2∨k=3:=by omega
    rcases hc with rfl|rfl|rfl|rfl
    ·exact⟨_,Lib.cell_of_heap hO 0⟩
    ·exact⟨_,Lib.cell_of_heap hO 1⟩
    ·exact⟨_,Lib.cell_of_heap hO 2⟩
    ·exact⟨_,Lib.cell_of_heap hO 3⟩
   obtain⟨z,hz⟩:=hC;have fz:wr.frozen? ⟨w.heap.size+1,k,none⟩=false:=Lib.frozen_of_heap hO k;have g0:=HBG.out 0 (by omega);have g1:=HBG.out (k+1) (by omega);have HE:Hid (sof B (k+1) k=bgr B (k+1)-bgr B 0):=by show _=_;unfold sof;rw[if_pos (by omega)]
   have HO:Hid _:=hO;have HR:Hid _:=hR;clear hO hR;have hws:IntKind.i64.wrap (bgr B (k+1)-bgr B 0)=bgr B (k+1)-bgr B 0:=by rw[IntKind.wrap_i64];omega
   have hw1:IntKind.i64.wrap ((k:Int)+1)=(k:Int)+1:=by rw[IntKind.wrap_i64];omega
   go_wp2_with fail
   go_at_call 182
   refine Calls.mono (CV.out k _ (by omega)) ?_;rintro e w2 ⟨rfl,rfl⟩;go_wp2_with fail
   go_at_call 181
   refine Calls.mono (CG.out (k+1) _ (by omega) hb) ?_;rintro e w2 ⟨rfl,hb2⟩;have hz2:=(hb2.cell (p:=⟨w.heap.size+1,k,none⟩) hsz).trans hz;have hO2:=(hb2.block _ hsz).trans HO.out;have hR2:=(hb2.block _ (by omega:w.heap.size<wr.heap.size)).trans HR.out;have fz2:w2.frozen? ⟨w.heap.size+1,k,none⟩=false:=Lib.frozen_of_heap hO2 k;have HB2:Hid _:=hb.trans (hb2.mono hb.size);have HO2:Hid _:=hO2;have HR2:Hid _:=hR2;clear HO HR hz hO2 hR2 hb2 hb;go_wp2_with fail;refine⟨⟨k+1,rfl,by omega,(Below.heap_setCell _ ⟨w.heap.size+1,k,none⟩ _ _ (by dsimp only;omega)).trans HR2.out,?_,HB2.out.setCell (p:=⟨w.heap.size+1,k,none⟩) (by dsimp only;omega) _⟩,by simp[intOf];omega⟩;have hh:=heap_setCell_same w2 (w.heap.size+1) k _ _ (.int .i64 (bgr B (k+1)-bgr B 0)) HO2.out;rw[hh];have hc:k=0∨k=1∨k=2∨k=3:=by omega
   rcases hc with rfl|rfl|rfl|rfl<;>rfl
  ·have hk4:k=4:=by omega
   subst hk4;have HB:Hid (Below w.heap.size w wr):=hb;have fR:∀j,wr.frozen? ⟨w.heap.size,j,none⟩=false:=fun j=>Lib.frozen_of_heap hR j
   have o0:wr.cell? ⟨w.heap.size+1,0,none⟩=some (.int .i64 (sof B 4 0)):=Lib.cell_of_heap hO 0;have o1:wr.cell? ⟨w.heap.size+1,1,none⟩=some (.int .i64 (sof B 4 1)):=Lib.cell_of_heap hO 1;have o2:wr.cell? ⟨w.heap.size+1,2,none⟩=some (.int .i64 (sof B 4 2)):=Lib.cell_of_heap hO 2;have o3:wr.cell? ⟨w.heap.size+1,3,none⟩=some (.int .i64 (sof B 4 3)):=Lib.cell_of_heap hO 3;have r0:wr.cell? ⟨w.heap.size,0,none⟩=some (.int .i64 0):=Lib.cell_of_heap hR 0;have r1:wr.cell? ⟨w.heap.size,1,none⟩=some (.int .i64 0):=Lib.cell_of_heap hR 1;have r2:wr.cell? ⟨w.heap.size,2,none⟩=some (.int .i64 0):=Lib.cell_of_heap hR 2;have r3:wr.cell? ⟨w.heap.size,3,none⟩=some (.int .i64 0):=Lib.cell_of_heap hR 3;have q0:=fR 0;have q1:=fR 1;have q2:=fR 2;have q3:=fR 3;have HR:Hid _:=hR;have EM:Hid (sof B 4 0=(bmd B).1∧sof B 4 1=(bmd B).2.1∧sof B 4 2=(bmd B).2.2.1∧sof B 4 3=(bmd B).2.2.2):=⟨rfl,rfl,rfl,rfl⟩;clear hR hO fR hb;generalize sof B 4 0=z0 at *;generalize sof B 4 1=z1 at *;generalize sof B 4 2=z2 at *;generalize sof B 4 3=z3 at *;go_wp2_with fail;have hF:((((wr.setCell ⟨w.heap.size,0,none⟩ (.int .i64 z0)).setCell ⟨w.heap.size,1,none⟩ (.int .i64 z1)).setCell ⟨w.heap.size,2,none⟩ (.int .i64 z2)).setCell ⟨w.heap.size,3,none⟩ (.int .i64 z3)).heap[w.heap.size]?=some (.cells #[.int .i64 z0,.int .i64 z1,.int .i64 z2,.int .i64 z3] 36 (0,0)):=heap_setCell_same _ w.heap.size 3 _ _ _ (heap_setCell_same _ w.heap.size 2 _ _ _ (heap_setCell_same _ w.heap.size 1 _ _ _ (heap_setCell_same _ w.heap.size 0 _ _ _ HR.out)));refine bodyPost_ret (zhE rfl rfl (loadS _ w.heap.size (.int .i64 z0) (.int .i64 z1) (.int .i64 z2) (.int .i64 z3) (Lib.cell_of_heap hF 0) (Lib.cell_of_heap hF 1) (Lib.cell_of_heap hF 2) (Lib.cell_of_heap hF 3))) rfl ⟨by rw[EM.out.1,EM.out.2.1,EM.out.2.2.1,EM.out.2.2.2],?_⟩;exact(((HB.out.setCell (p:=⟨w.heap.size,0,none⟩) (by dsimp only;omega) _).setCell (p:=⟨w.heap.size,1,none⟩) (by dsimp only;omega) _).setCell (p:=⟨w.heap.size,2,none⟩) (by dsimp only;omega) _).setCell (p:=⟨w.heap.size,3,none⟩) (by dsimp only;omega) _
theorem zji (n:Nat) (w:World) (hn:n≤100000) :
 Calls Tryz.prog 284 #[.slice none 0 0,.int .i64 (n:Int)] w fun e w'=>∃v,e=.returned v∧w'.ownsRow w.heap.size 3 1 v 0 []∧Below w.heap.size w w':=by
 obtain⟨i0,hi,hz0,hz1,hz2⟩:=info_parts Tryz.infoInt;have hn0:¬(n:Int)<0:=by omega
 by_cases h0:0<n
 ·have hp:(0:Int)<(n:Int):=by omega
  have hr:=Lib.run_append_nil_zeros (P:=Tryz.prog) w 167 3 167 3 i0 _ .i64 .i64 Tryz.underlying167 Tryz.underlying3 hi hz0 n h0 (by omega) (by omega) (by rw[hz2];omega);have hcg:=grownCap_ge w n 0 3;have hcm:=grownCap_le_maxLen w n 0 3 (by unfold maxLen;omega);generalize grownCap w n 0 3=cap at *;go_enter Tryz.func284,Tryz.ntmps284;go_wp2_with (at_builtin;refine Lib.wpList_append_run _ rfl _ _ _ _ rfl _ _ rfl rfl _ _ hr ?_);go_wp2_with fail;go_ret;refine⟨_,rfl,⟨rfl,Or.inr ⟨w.heap.size,cap,_,rfl,Nat.le_refl _,heap_alloc_new w _,Nat.zero_le _,hcm,?_,rfl⟩⟩,(zaa w _).drew⟩;rw[Array.size_append,size_zeroCells,size_zeroCells];simp;omega
 ·have hn1:n=0:=by omega
  subst hn1;go_enter Tryz.func284,Tryz.ntmps284;go_wp2;go_ret;exact⟨_,rfl,World.ownsRow_nil _ _ _ _,Below.refl _ _⟩
def CatR (w w':World) (v:Value) (ys:List Int):Prop:=w'.ownsRow w.heap.size 3 1 v ys.length (ys.map iv)
def IPartsR (w:World) (v:Value) (yss:List (List Int)):Prop:=(v=.slice none 0 0∧yss=[])∨∃(p cap:Nat) (vs:List Value),v=.slice (some ⟨p,0,none⟩) yss.length cap∧yss.length≤cap∧cap≤maxLen∧p<w.heap.size∧vs.length=yss.length∧(∀(j:Nat) (x:Value),vs[j]?=some x→w.cell? ⟨p,j,none⟩=some x)∧∀(j:Nat) (x:Value) (ys:List Int),vs[j]?=some x→yss[j]?=some ys→IntsR w x ys
theorem IntsR.shape {w:World} {v:Value} {ys:List Int} (h:IntsR w v ys):∃a cap,v=.slice a ys.length cap:=by
 rcases h with⟨rfl,rfl⟩|⟨b,cap,h1,_⟩
 ·exact⟨none,0,rfl⟩
 ·exact⟨_,_,h1⟩
theorem zd9 (yss:List (List Int)) {k:Nat} {ys:List Int} (h:yss[k]?=some ys):(yss.take (k+1)).flatten=(yss.take k).flatten++ys:=by
 have hk:k<yss.length:=by
  rcases Nat.lt_or_ge k yss.length with h'|h'
  ·exact h'
  ·rw[List.getElem?_eq_none h'] at h;cases h
 rw[List.take_add_one,List.flatten_append,h];simp
theorem zeH (yss:List (List Int)) (k:Nat):(yss.take k).flatten.length≤yss.flatten.length:=by
 conv=>rhs;rw[←List.take_append_drop k yss,List.flatten_append,List.length_append]
 omega
theorem zgh (v:Value) (yss:List (List Int)) (w:World) (h:IPartsR w v yss) (hl:yss.flatten.length≤100000) (hm:yss.length≤1000) :
 Calls Tryz.prog 267 #[v] w fun e w'=>∃v',e=.returned v'∧CatR w w' v' yss.flatten∧Below w.heap.size w w':=by
 obtain⟨i0,hi,hz0,hz1,hz2⟩:=info_parts Tryz.infoInt;have CG:Hid (∀w,Calls Tryz.prog 284 #[.slice none 0 0,.int .i64 (yss.flatten.length:Int)] w fun e w'=>∃v,e=.returned v∧w'.ownsRow w.heap.size 3 1 v 0 []∧Below w.heap.size w w'):=fun w=>zji _ w hl
 obtain⟨pa,cap,rfl⟩:∃pa cap,v=.slice pa yss.length cap:=by
  rcases h with⟨rfl,rfl⟩|⟨p,cap,vs,rfl,_⟩
  ·exact⟨none,0,rfl⟩
  ·exact⟨_,_,rfl⟩
 have HP:Hid (IPartsR w (.slice pa yss.length cap) yss):=h;have HFL:Hid (yss.take yss.length=yss):=List.take_length;clear h;go_enter Tryz.func267,Tryz.ntmps267;go_wp2_with fail
 go_loopw [3,11] (fun sz ix wr=>∃k:Nat,ix=.int .i64 (k:Int)∧k≤yss.length∧sz=.int .i64 ((yss.take k).flatten.length:Int)∧Below w.heap.size w wr) (fun _ ix _=>yss.length-(intOf ix).toNat)
 case atStart=>exact⟨0,rfl,Nat.zero_le _,rfl,Below.refl _ _⟩
 case round =>
  obtain⟨k,rfl,hk,rfl,hbr⟩:=hrel;have hfl:=zeH yss k;by_cases hlt:k<yss.length
  ·have hlt':(k:Int)<(yss.length:Int):=by omega
   obtain⟨ys,hys⟩:∃ys,yss[k]?=some ys:=⟨_,List.getElem?_eq_getElem hlt⟩
   have hft:=zd9 yss hys;have hfl2:=zeH yss (k+1);rcases HP.out with⟨_,h0⟩|⟨p,cap',vs,hv,h2,h3,h4,h5,h6,h7⟩
   ·rw[h0] at hlt;simp at hlt
   cases hv
   obtain⟨x,hx⟩:∃x,vs[k]?=some x:=⟨_,List.getElem?_eq_getElem (by omega)⟩
   obtain⟨xa,xc,rfl⟩:=(h7 k x ys hx hys).shape;have z:=(hbr.cell (p:=⟨p,k,none⟩) h4).trans (h6 k _ hx);have hsum:(yss.take (k+1)).flatten.length=(yss.take k).flatten.length+ys.length:=by rw[hft,List.length_append]
   have HSU:Hid ((yss.take (k+1)).flatten.length=(yss.take k).flatten.length+ys.length):=hsum;have hb2:(yss.take k).flatten.length+ys.length≤100000:=by omega
   clear hft hfl2 h6 h7 hx hys hsum;generalize (yss.take k).flatten.length=S at *;go_wp2_with fail
   go_roundw
   case rel=>exact⟨k+1,by go_num,by omega,by rw[HSU.out];go_num,hbr⟩
   case measure=>simp[intOf];omega
  ·have hke:k=yss.length:=by omega
   subst hke;have hlt':¬(yss.length:Int)<(yss.length:Int):=by omega
   rw[HFL.out];obtain⟨W1,hW1⟩:∃W1,W1=wr:=⟨_,rfl⟩
   subst hW1;generalize hSS:yss.flatten.length=S at *;have HSS:Hid (yss.flatten.length=S):=hSS;clear hSS hfl;go_wp2_with fail;refine(CG.out _).mono ?_;rintro e w2 ⟨nv,rfl,hown0,hb2⟩;have HB2:Hid (Below w.heap.size w w2):=hbr.trans (hb2.mono hbr.size);have hs12:=hb2.size;have hww:=hbr.size;clear hb2 hbr;go_wp2_with fail
   go_loopw [6,27] (fun lv ix wr=>∃k:Nat,ix=.int .i64 (k:Int)∧k≤yss.length∧wr.ownsRow W1.heap.size 3 1 lv (yss.take k).flatten.length ((yss.take k).flatten.map iv)∧Below w.heap.size w wr∧W1.heap.size≤wr.heap.size) (fun _ ix _=>yss.length-(intOf ix).toNat)
   case atStart=>exact⟨0,rfl,Nat.zero_le _,hown0,HB2.out,hs12⟩
   case round =>
    obtain⟨k,rfl,hk,hown,hbr,hsr⟩:=hrel;by_cases hlt2:k<yss.length
    ·have hlt3:(k:Int)<(yss.length:Int):=by omega
     obtain⟨ys,hys⟩:∃ys,yss[k]?=some ys:=⟨_,List.getElem?_eq_getElem hlt2⟩
     have hft:=zd9 yss hys;have hfl2:=zeH yss (k+1);rw[HSS.out,hft,List.length_append] at hfl2;rcases HP.out with⟨_,h0⟩|⟨p,cap',vs,hv,h2,h3,h4,h5,h6,h7⟩
     ·rw[h0] at hlt2;simp at hlt2
     cases hv
     obtain⟨x,hx⟩:∃x,vs[k]?=some x:=⟨_,List.getElem?_eq_getElem (by omega)⟩
     have z:=(hbr.cell (p:=⟨p,k,none⟩) h4).trans (h6 k _ hx);have hcx:=h7 k x ys hx hys;have HFT:Hid ((yss.take (k+1)).flatten=(yss.take k).flatten++ys):=hft;clear hft h6 h7 hx hys hown0;generalize hTK:(yss.take k).flatten=TK at *;rcases hcx with⟨rfl,rfl⟩|⟨b,xc,rfl,q2,q3,q4,q5⟩
     ·go_wp2_with (at_builtin;refine wpList_append_own_none rfl _ _ 167 rfl W1.heap.size 3 i0 1 Tryz.underlying167 hi _ _ _ rfl hown rfl ?_)
      go_wp2_with fail
      go_roundw
      case rel=>exact⟨k+1,by go_num,by omega,by rw[HFT.out,List.append_nil];exact hown,hbr,hsr⟩
      case measure=>simp[intOf];omega
     ·have hnews:∀j u,(ys.map iv)[j]?=some u→wr.cell? ((⟨b,0,none⟩:Addr).add j)=some u:=fun j u hu=>by
       rw[Addr.add_mid];obtain⟨x,hx1,hx2⟩:=Option.map_eq_some_iff.1 (by rw[List.getElem?_map] at hu;exact hu);rw[←hx2,Nat.zero_add];exact(hbr.cell (p:=⟨b,j,none⟩) q4).trans (q5 j x hx1)
      go_wp2_with (at_builtin;refine wpList_append_own _ rfl _ _ 167 rfl W1.heap.size 3 i0 (.int .i64 0) 1 8 Tryz.underlying167 hi hz0 hz1 hz2 rfl (by decide) _ _ _ rfl hown ⟨b,0,none⟩ ys.length xc (ys.map iv) rfl (by rw[List.length_map,Nat.mul_one]) hnews (fun u hu=>by obtain⟨x,_,rfl⟩:=List.mem_map.1 hu;rfl) (by unfold maxLen;omega) (by omega) hsr ?_)
      intro v' w3 hown3 hgrow _;have hb3:=hbr.grown hgrow hbr.size (fun j hj=>by have:=zaf hown j hj;omega);have hs3:=hgrow.size;clear hown hgrow hnews;go_wp2_with fail
      go_roundw
      case rel=>exact⟨k+1,by go_num,by omega,by rw[HFT.out,List.map_append,List.length_append];exact hown3,hb3,by omega⟩
      case measure=>simp[intOf];omega
    ·have hke:k=yss.length:=by omega
     subst hke;have hlt3:¬(yss.length:Int)<(yss.length:Int):=by omega
     rw[HFL.out] at hown;go_wp2_with fail;go_ret;refine⟨_,rfl,?_,hbr⟩;unfold CatR;exact zbk hown (by omega)
end Go.Proofs.YtkinoehmcfhgbaaGreatDoor.Vl
