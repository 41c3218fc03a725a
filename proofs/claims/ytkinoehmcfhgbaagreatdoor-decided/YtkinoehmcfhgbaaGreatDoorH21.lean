/- A part of the proof. -/
import Derived.Test.YtkinoehmcfhgbaaGreatDoorH2
set_option linter.unusedVariables false
set_option linter.unusedSimpArgs false
set_option maxRecDepth 100000
set_option maxHeartbeats 12000000
namespace Go.Proofs.YtkinoehmcfhgbaaGreatDoor.Vl
open Go.RowKit
theorem Tryz.infoTru:(Tryz.prog.info? 159).map (fun i=>(i.zero,i.size,i.bytes))=some (some (.int .i8 0),1,1):=by kernel_rfl
structure PvI (w0 w:World) (pb kb mb:Nat):Prop where
 h0:Below w0.heap.size w0 w
 hp:w0.heap.size≤pb
 hm:w0.heap.size≤mb
 hk:w0.heap.size≤kb
 hpm:pb≠mb
 hkp:kb≠pb
 hkm:kb≠mb
 kl:kb<w.heap.size
 box:∃v1 v2 s v5 v6,Blk w pb 180 [.pointer (some ⟨kb,0,none⟩),v1,v2,.int .i64 s,.map (some mb),v5,v6]
 nm:∃n f,NM w mb n f
theorem zh7 {s:ByteArray} {ys:List Sym} (hp:pars s=some ys) (w0 w:World) (pb kb mb:Nat) (lv:Value) (bu:Nat) (hI:PvI w0 w pb kb mb) (hs:Syms w0.heap.size w0 lv ys) (hcp:∀b cap,lv=.slice (some ⟨b,0,none⟩) ys.length cap→ys.length≤cap) (hbu:bu≤20000) :
 Calls Tryz.prog 87 #[.pointer (some ⟨pb,0,none⟩),lv,.int .i64 (bu:Int)] w fun e w'=>e=.returned (.tuple #[])∧∃tb qb gb qa ca cg ats parts,PvS w0 w' ⟨pb,mb,tb,qb,gb,kb,qa,ca,cg⟩ (uqs ys) (gad (uqs ys) ys.length ys 2 0).1 bu 0 (fun _=>0) ats parts∧FrX [pb,mb] w w'∧w.heap.size≤tb∧w.heap.size≤qb:=by
 have hyl:=zgy hp;have hul:=zex hp;have hwf:=zfW hp;have hin:=@zde ys;have hgl:=zfe (uqs ys) ys.length ys 2 0;obtain⟨i0,hi,hz0,hz1,hz2⟩:=info_parts Tryz.infoTru;have hsw:Syms w.heap.size w lv ys:=(hs.below hI.h0).more hI.h0.size;have CA:Hid (Calls Tryz.prog 85 #[lv] w fun e w'=>∃u,e=.returned u∧w'.ownsRow w.heap.size 134 3 u (uqs ys).length (cells3 (uqs ys))∧Below w.heap.size w w'):=zdV lv ys w hsw hyl;have hpos:=zfd hwf (by decide);have HCD:Hid (∀X,Below w0.heap.size w0 X→CdS X lv ys):=fun X hX=>by
  obtain⟨b,cap,e1,e2,e3⟩:=hs;refine Or.inr ⟨b,0,cap,e1,hpos,?_,Nat.lt_of_lt_of_le e2 hX.size,fun j y hy=>?_⟩
  ·exact hcp _ _ e1
  ·obtain⟨z0,z1,z2,z3⟩:=e3 j y hy;rw[Nat.zero_add];exact⟨(hX.cell (p:=⟨b,j*4,none⟩) e2).trans z0,(hX.cell (p:=⟨b,j*4+1,none⟩) e2).trans z1,(hX.cell (p:=⟨b,j*4+2,none⟩) e2).trans z2,(hX.cell (p:=⟨b,j*4+3,none⟩) e2).trans z3⟩
 have HGO:Hid (∀X qa ca,Below w0.heap.size w0 X→Atms X (.slice qa (uqs ys).length ca) (uqs ys)→Calls Tryz.prog 127 #[lv,.slice qa (uqs ys).length ca] X fun e w'=>∃gb cg,e=.returned (.slice (some ⟨gb,0,none⟩) (gad (uqs ys) ys.length ys 2 0).1.length cg)∧X.heap.size≤gb∧(gad (uqs ys) ys.length ys 2 0).1.length≤cg∧Gol w' gb (gad (uqs ys) ys.length ys 2 0).1∧Below X.heap.size X w'):=fun X qa ca hX hA=>zg4 X (uqs ys) qa ca lv ys hA (by omega) (HCD.out X hX) hwf hin (by omega)
 have hglen:(gad (uqs ys) ys.length ys 2 0).1.length≤8000:=by omega
 generalize (gad (uqs ys) ys.length ys 2 0).1=g at *;generalize uqs ys=us at *;obtain⟨v1,v2,s0,v5,v6,hbox⟩:=hI.box;obtain⟨n0,f0,hnm⟩:=hI.nm;have hpl:=hbox.lt;have hml:=hnm.lt;have hpm:=hI.hpm;have h00:=hI.h0;have hhp:=hI.hp;have hhm:=hI.hm;have hlv:∃lb lc,lv=.slice (some ⟨lb,0,none⟩) ys.length lc:=by obtain⟨b,cap,e,_⟩:=hs;exact⟨b,cap,e⟩
 obtain⟨lb,lc,rfl⟩:=hlv;clear hsw hs hin hwf hgl hI HCD hp;go_enter Tryz.func87,Tryz.ntmps87;go_wp2_with fail;refine Calls.mono CA.out ?_;rintro e w1 ⟨u,rfl,hown,hb1⟩;have hat1:Atms w1 u us:=zc3 hown;obtain⟨qa,ca,rfl⟩:=zbF hat1;have hqb:∀q,qa=some ⟨q,0,none⟩→w.heap.size≤q:=fun q e=>zae hown q (by rw[e];rfl)
 have hbx1:=hbox.below hb1;have hnm1:=hnm.fr (M:=[]) (FrX.of_below hb1) List.not_mem_nil;have hs1:=hb1.size;have hbx2:=hbx1.set 1 (.slice qa us.length ca);have hf2:=zaq w1 pb 1 (.slice qa us.length ca);have hnm2:=hnm1.fr hf2 (by simp;exact fun e=>hpm e.symm);have hat2:Atms (w1.setCell ⟨pb,1,none⟩ (.slice qa us.length ca)) (.slice qa us.length ca) us:=by
  rcases hat1 with h1|⟨q,c,h1,h2,h3,h4,h5⟩
  ·exact Or.inl h1
  ·have hq:=hqb q (by injection h1);have ec:∀o,(w1.setCell ⟨pb,1,none⟩ (.slice qa us.length ca)).cell? ⟨q,o,none⟩=w1.cell? ⟨q,o,none⟩:=fun o=>hf2.cell o h4 (by simp;omega)
   exact Or.inr ⟨q,c,h1,h2,h3,Nat.lt_of_lt_of_le h4 hf2.size,fun j a ha=>⟨(ec _).trans (h5 j a ha).1,(ec _).trans (h5 j a ha).2.1,(ec _).trans (h5 j a ha).2.2⟩⟩
 have hb02:Below w0.heap.size w0 (w1.setCell ⟨pb,1,none⟩ (.slice qa us.length ca)):=(h00.trans (hb1.mono h00.size)).setCell (p:=⟨pb,1,none⟩) hhp _;have CG:Hid _:=HGO.out _ qa ca hb02 hat2;have x0:w1.cell? ⟨pb,1,none⟩=some v1:=hbx1.cell rfl;have x1:=hbx1.free 1;have x2:(w1.setCell ⟨pb,1,none⟩ (.slice qa us.length ca)).cell? ⟨pb,1,none⟩=some (.slice qa us.length ca):=hbx2.cell rfl;have hF2:FrX [pb,mb] w (w1.setCell ⟨pb,1,none⟩ (.slice qa us.length ca)):=(FrX.of_below hb1).trans (hf2.sub (by simp));clear hat1 hown hbx1 hnm1 hf2 hbox hnm;go_wp2_with fail;refine Calls.mono CG.out ?_;rintro e w3 ⟨gb,cg,rfl,hgb,hgc,hgol,hb3⟩;rw[World.size_setCell] at hgb;generalize w1.setCell ⟨pb,1,none⟩ (.slice qa us.length ca)=W2 at *;have hs3:=hb3.size;have hsW:=hF2.size;have hbx3:=hbx2.below hb3;have hnm3:=hnm2.fr (M:=[]) (FrX.of_below hb3) List.not_mem_nil;have hat3:=hat2.below hb3;have hbx4:=(hbx3.set 2 (.slice (some ⟨gb,0,none⟩) g.length cg)).set 3 (.int .i64 (bu:Int));have hf4:FrX [pb] w3 ((w3.setCell ⟨pb,2,none⟩ (.slice (some ⟨gb,0,none⟩) g.length cg)).setCell ⟨pb,3,none⟩ (.int .i64 (bu:Int))):=(zaq w3 pb 2 _).trans (zaq _ pb 3 _);have hnm4:=hnm3.fr hf4 (by simp;exact fun e=>hpm e.symm);have y0:w3.cell? ⟨pb,2,none⟩=some v2:=hbx3.cell rfl;have y1:=hbx3.free 2;have y2:w3.cell? ⟨pb,3,none⟩=some (.int .i64 s0):=hbx3.cell rfl;have y3:=hbx3.free 3;have y4:w3.cell? ⟨pb,4,none⟩=some (.map (some mb)):=hbx3.cell rfl;obtain⟨w5,hclr,hnm5,hg5⟩:=NM.clear hnm4 0;have hf5:FrX [mb] ((w3.setCell ⟨pb,2,none⟩ (.slice (some ⟨gb,0,none⟩) g.length cg)).setCell ⟨pb,3,none⟩ (.int .i64 (bu:Int))) w5:=FrX.of_grown hg5 (by simp);have hbx5:=hbx4.fr hf5 (by simp[hpm]);have hF35:FrX [pb,mb] w3 w5:=(hf4.sub (by simp)).trans (hf5.sub (by simp));have hF5:FrX [pb,mb] w w5:=(hF2.trans (FrX.of_below hb3)).trans hF35;have hs5:=hF35.size;have hgl3:=hgol.1;have hgol5:=hgol.fr hF35 (by simp;omega);have hat5:Atms w5 (.slice qa us.length ca) us:=by
  rcases hat3 with h1|⟨q,c,h1,h2,h3,h4,h5⟩
  ·exact Or.inl h1
  ·have hq:=hqb q (by injection h1);have ec:∀o,w5.cell? ⟨q,o,none⟩=w3.cell? ⟨q,o,none⟩:=fun o=>hF35.cell o h4 (by simp;omega)
   exact Or.inr ⟨q,c,h1,h2,h3,Nat.lt_of_lt_of_le h4 hF35.size,fun j a ha=>⟨(ec _).trans (h5 j a ha).1,(ec _).trans (h5 j a ha).2.1,(ec _).trans (h5 j a ha).2.2⟩⟩
 have z1:w5.cell? ⟨pb,1,none⟩=some (.slice qa us.length ca):=hbx5.cell rfl;clear hat2 hat3 hgol hbx2 hbx3 hbx4 hnm2 hnm3 hnm4 hf4 hf5 hb3 hg5 hF35 hb1;go_wp2_with (at_make;refine wpList_make_full _ rfl _ _ 178 rfl w5.heap.size 159 i0 (.int .i8 0) 1 Tryz.underlying178 hi hz0 hz1 .i64 .i64 _ _ us.length rfl rfl rfl rfl (by rw[hz2];omega) (by unfold maxLen;omega) (Nat.le_refl _) ?_);intro w6 hown6 hgrow6;have hbk6:Blk w6 w5.heap.size 159 ((List.replicate us.length (0:Int)).map tv8):=by
  have h:=hown6;rw[toList_madeCells_one] at h;have h2:=zbU h;rw[List.map_replicate];exact h2
 have h56:Below w5.heap.size w5 w6:=(Below.refl _ w5).grown hgrow6 (Nat.le_refl _) (by intro k h;cases h);have hbx6:=hbx5.below h56;have hl6:=hbk6.lt;have hbx7:=hbx6.set 5 (.slice (some ⟨w5.heap.size,0,none⟩) us.length us.length);have u0:w6.cell? ⟨pb,5,none⟩=some v5:=hbx6.cell rfl;have u1:=hbx6.free 5;have hf7:=zaq w6 pb 5 (.slice (some ⟨w5.heap.size,0,none⟩) us.length us.length);have u2:(w6.setCell ⟨pb,5,none⟩ (.slice (some ⟨w5.heap.size,0,none⟩) us.length us.length)).cell? ⟨pb,2,none⟩=some (.slice (some ⟨gb,0,none⟩) g.length cg):=hbx7.cell rfl;have hbk7:=hbk6.fr hf7 (by simp;omega);have hF57:FrX [pb] w5 (w6.setCell ⟨pb,5,none⟩ (.slice (some ⟨w5.heap.size,0,none⟩) us.length us.length)):=(FrX.of_below h56).trans hf7;have hsz7:(w6.setCell ⟨pb,5,none⟩ (.slice (some ⟨w5.heap.size,0,none⟩) us.length us.length)).heap.size=w6.heap.size:=World.size_setCell _ _ _;clear hown6 hgrow6 hbx5 hbx6 hbk6 hf7;go_wp2_with (at_make;refine wpList_make_full _ rfl _ _ 178 rfl w6.heap.size 159 i0 (.int .i8 0) 1 Tryz.underlying178 hi hz0 hz1 .i64 .i64 _ _ g.length rfl rfl rfl rfl (by rw[hz2];omega) (by unfold maxLen;omega) (by first|exact Nat.le_refl _|(rw[hsz7];exact Nat.le_refl _)) ?_);intro w8 hown8 hgrow8;generalize w6.setCell ⟨pb,5,none⟩ (.slice (some ⟨w5.heap.size,0,none⟩) us.length us.length)=W7 at *;have hbk8:Blk w8 w6.heap.size 159 ((List.replicate g.length (0:Int)).map tv8):=by
  have h:=hown8;rw[toList_madeCells_one] at h;have h2:=zbU (by first|exact h|(rw[hsz7] at h;exact h));rw[List.map_replicate]
  first
   | exact h2
   | (rw[hsz7] at h2;exact h2)
 have h78:Below W7.heap.size W7 w8:=(Below.refl _ W7).grown hgrow8 (Nat.le_refl _) (by intro k h;cases h);have hbx8:=hbx7.below h78;have hbx9:=hbx8.set 6 (.slice (some ⟨w6.heap.size,0,none⟩) g.length g.length);have t0:w8.cell? ⟨pb,6,none⟩=some v6:=hbx8.cell rfl;have t1:=hbx8.free 6;have hf9:=zaq w8 pb 6 (.slice (some ⟨w6.heap.size,0,none⟩) g.length g.length);have hF59:FrX [pb] w5 (w8.setCell ⟨pb,6,none⟩ (.slice (some ⟨w6.heap.size,0,none⟩) g.length g.length)):=(hF57.trans (FrX.of_below h78)).trans hf9;have hF9:FrX [pb,mb] w (w8.setCell ⟨pb,6,none⟩ (.slice (some ⟨w6.heap.size,0,none⟩) g.length g.length)):=hF5.trans (hF59.sub (by simp));have hbk7':=(hbk7.below h78).fr hf9 (by simp;omega);have hbk9:=hbk8.fr hf9 (by simp;omega);have hgl5:=hgol5.1;have HPV:Hid (PvS w0 (w8.setCell ⟨pb,6,none⟩ (.slice (some ⟨w6.heap.size,0,none⟩) g.length g.length)) ⟨pb,mb,w5.heap.size,w6.heap.size,gb,kb,qa,ca,cg⟩ us g bu 0 (fun _=>0) (List.replicate us.length 0) (List.replicate g.length 0)):=by
  refine⟨hF9.below h00 (by intro m hm;simp at hm;rcases hm with rfl|rfl;exact hhp;exact hhm),?_,?_,hbx9,?_,hgol5.fr hF59 (by simp;omega),?_,hgc,hnm5.fr hF59 (by simp;exact fun e=>hpm e.symm),hbk7',by simp,hbk9,by simp⟩
  ·intro m hm;simp only[PD.M,List.mem_cons,List.not_mem_nil,or_false] at hm;have:=h00.size;rcases hm with rfl|rfl|rfl|rfl<;>omega
  ·simp only[PD.M,List.nodup_cons,List.mem_cons,List.not_mem_nil,or_false,not_or,List.nodup_nil,and_true,not_false_eq_true];omega
  ·rcases hat5 with h1|⟨q,c,h1,h2,h3,h4,h5⟩
   ·exact Or.inl h1
   ·have hq:=hqb q (by injection h1);have ec:∀o,(w8.setCell ⟨pb,6,none⟩ (.slice (some ⟨w6.heap.size,0,none⟩) g.length g.length)).cell? ⟨q,o,none⟩=w5.cell? ⟨q,o,none⟩:=fun o=>hF59.cell o h4 (by simp;omega)
    exact Or.inr ⟨q,c,h1,h2,h3,Nat.lt_of_lt_of_le h4 hF59.size,fun j a ha=>⟨(ec _).trans (h5 j a ha).1,(ec _).trans (h5 j a ha).2.1,(ec _).trans (h5 j a ha).2.2⟩⟩
  ·simp only[PD.M,List.mem_cons,List.not_mem_nil,or_false];omega
 have HF9:Hid _:=hF9;clear hbk7' hbk9 hF59 hF9 hbx8 hbx9 hf9 hown8 hgrow8 hbk8 hbk7 hbx7 hat5 hgol5;go_wp2_with fail
 go_end0
 exact⟨rfl,_,_,_,_,_,_,_,_,HPV.out,HF9.out,by omega,by omega⟩
def prE (ys:List Sym) (bu:Nat):En:=(sch (uqs ys) (gad (uqs ys) ys.length ys 2 0).1 bu bu (fun _=>0) bno).1
def prA (ys:List Sym) (bu:Nat):Int×(Int×Int×Int×Int)×List (List UInt8) :=
 if (prE ys bu).v=1 then (1,(prE ys bu).md,[]) else if (prE ys bu).v=0∧cfm ys (prE ys bu).pf=true then (0,(0,0,0,0),[(prE ys bu).pf]) else (2,(0,0,0,0),[])
def ansV (v:Int) (m:Int×Int×Int×Int) (pv:Value):Value:=.agg #[.int .i64 v,.int .i64 0,.int .i64 m.1,.int .i64 m.2.1,.int .i64 m.2.2.1,.int .i64 m.2.2.2,pv]
theorem Tryz.infoAns:(Tryz.prog.info? 51).map (·.size)=some 7:=by kernel_rfl
theorem SX.pars {s:ByteArray} {ys:List Sym} (h:pars s=some ys):SX (uqs ys) (gad (uqs ys) ys.length ys 2 0).1:=by
 have P:=PC.pars h;exact⟨P.ok,by have:=zex h;omega,P.gl,P.tr.pos,P.gw⟩
theorem zh8 {s:ByteArray} {ys:List Sym} (hp:pars s=some ys) (w0 w:World) (pb kb mb km:Nat) (lv vW0 vA0:Value) (l0:List UInt8) (n0:Nat) (f0:Atm→Int) (bu:Nat) (hI:PvI w0 w pb kb mb) (hkn:KnAt w kb vW0 vA0 l0 km) (ham:AM w km n0 f0) (hk0:w0.heap.size≤km) (hkk:kb≠km) (hkp:km≠pb) (hkm:km≠mb) (hs:Syms w0.heap.size w0 lv ys) (hcp:∀b cap,lv=.slice (some ⟨b,0,none⟩) ys.length cap→ys.length≤cap) (hbu:bu≤20000) (hgl:Gl w0) (hgt:Gt w0) :
 Calls Tryz.prog 56 #[.pointer (some ⟨pb,0,none⟩),lv,.int .i64 (bu:Int)] w fun e w'=>∃pv,e=.returned (ansV (prA ys bu).1 (prA ys bu).2.1 pv)∧w'.ownsRow w0.heap.size 9 1 pv (prA ys bu).2.2.length ((prA ys bu).2.2.map strV)∧Below w0.heap.size w0 w':=by
 have hb1:=zaa w (.cells zZe 51);have hI1:PvI w0 (w.alloc (.cells zZe 51)) pb kb mb:=by
  obtain⟨v1,v2,s0,v5,v6,hbox⟩:=hI.box;obtain⟨n,f,hnm⟩:=hI.nm;exact⟨hI.h0.trans (hb1.mono hI.h0.size),hI.hp,hI.hm,hI.hk,hI.hpm,hI.hkp,hI.hkm,Nat.lt_of_lt_of_le hI.kl hb1.size,⟨v1,v2,s0,v5,v6,hbox.below hb1⟩,⟨n,f,hnm.fr (M:=[]) (FrX.of_below hb1) List.not_mem_nil⟩⟩
 have hrs1:Blk (w.alloc (.cells zZe 51)) w.heap.size 51 [.int .i64 0,.int .i64 0,.int .i64 0,.int .i64 0,.int .i64 0,.int .i64 0,.slice none 0 0]:=heap_alloc_new w _;have CB:Hid _:=zh7 hp w0 _ pb kb mb lv bu hI1 hs hcp hbu;have CC:Hid (∀X vW1 vA1 l1 n1 f1 P,Below w0.heap.size w0 X→KnAt X kb vW1 vA1 l1 km→AM X km n1 f1→P.length≤maxLen→Calls Tryz.prog 53 #[.pointer (some ⟨kb,0,none⟩),lv,.string ⟨P.toArray⟩] X fun e w'=>e=.returned (.bool (cfm ys P))∧FrK kb km X w'):=fun X vW1 vA1 l1 n1 f1 P h0 h1 h2 h3=>(zct hp w0 X kb km vW1 vA1 lv l1 P n1 f1 hgl h0 hI.hk hk0 hkk h1 h2 hs h3).mono fun e w' ⟨a,b,_⟩=>⟨a,b⟩
 have hsx:=SX.pars hp;have HSC:Hid (∀D,SrC w0 D (uqs ys) (gad (uqs ys) ys.length ys 2 0).1 bu):=fun D=>zdS w0 D _ _ hsx hgt bu
 have HSI:Hid (SI (uqs ys) (fun _=>0) bno):=SI.start _;have HE:Hid (sch (uqs ys) (gad (uqs ys) ys.length ys 2 0).1 bu bu (fun _=>0) bno=(prE ys bu,(sch (uqs ys) (gad (uqs ys) ys.length ys 2 0).1 bu bu (fun _=>0) bno).2)):=rfl;have HPA:Hid (prA ys bu=if (prE ys bu).v=1 then (1,(prE ys bu).md,[]) else if (prE ys bu).v=0∧cfm ys (prE ys bu).pf=true then (0,(0,0,0,0),[(prE ys bu).pf]) else (2,(0,0,0,0),[])):=rfl;generalize prA ys bu=PA at *;generalize prE ys bu=E at *;generalize (gad (uqs ys) ys.length ys 2 0).1=g at *;generalize uqs ys=us at *;have hpl:pb<w.heap.size:=by obtain⟨_,_,_,_,_,hb⟩:=hI.box;exact hb.lt
 have hml:mb<w.heap.size:=by obtain⟨_,_,hb⟩:=hI.nm;exact hb.lt
 have hkl:=hI.kl;have hkml:=ham.lt;have hhp:=hI.hp;have hhm:=hI.hm;have hhk:=hI.hk;have h00:=hI.h0;have h00s:=h00.size;have hkp':=hI.hkp;have hkm':=hI.hkm;have hlv:∃lb lc,lv=.slice (some ⟨lb,0,none⟩) ys.length lc:=by obtain⟨b,cap,e,_⟩:=hs;exact⟨b,cap,e⟩
 obtain⟨lb,lc,rfl⟩:=hlv;have HKN:Hid _:=hkn;have HAM:Hid _:=ham;have HB1:Hid _:=hb1;have HR1:Hid _:=hrs1;clear hI hI1 hs hcp hsx hkn ham hrs1 hgl hgt;go_enter Tryz.func56,Tryz.ntmps56;go_wp2_with fail;refine Calls.mono CB.out ?_;rintro e w2 ⟨rfl,tb,qb,gb,qa,ca,cg,ats,parts,hP2,hf2,htb,hqb⟩;rw[World.size_alloc] at htb hqb;have CN:Hid _:=zfc w2;go_wp2_with (go_at_call 89;refine Calls.mono CN.out ?_;rintro e w3 ⟨cs,rfl,hcs,hb3⟩);have CS:=HSC.out ⟨pb,mb,tb,qb,gb,kb,qa,ca,cg⟩ w3 bu 0 (fun _=>0) ats parts bno cs (Nat.le_refl _) (hP2.below hb3) hcs HSI.out (by omega);rw[HE.out] at CS;dsimp only at CS;refine Calls.mono CS ?_;clear CS;rintro e w4 ⟨ws,n',A',ats',parts',rfl,hSR,hpf,hP4,_,_,hfr4⟩;dsimp only at hfr4 ⊢;have hMn:∀m,m<w.heap.size→m≠pb→m≠mb→m∉PD.M ⟨pb,mb,tb,qb,gb,kb,qa,ca,cg⟩:=fun m h1 h2 h3 h4=>by
  simp only[PD.M,List.mem_cons,List.not_mem_nil,or_false] at h4;omega
 have hF14:∀m,m<w.heap.size+1→m≠pb→m≠mb→m∉PD.M ⟨pb,mb,tb,qb,gb,kb,qa,ca,cg⟩→w4.heap[m]?=(w.alloc (.cells zZe 51)).heap[m]?:=fun m h1 h2 h3 h4=>by
  have hm1:m<(w.alloc (.cells zZe 51)).heap.size:=by simp;omega
  have e1:=hf2.block m hm1 (by simp[h2,h3]);have hm2:m<w2.heap.size:=Nat.lt_of_lt_of_le hm1 hf2.size;have e2:=hb3.block m hm2;exact((hfr4.block m (Nat.lt_of_lt_of_le hm2 hb3.size) h4).trans e2).trans e1
 have htql:tb≠w.heap.size∧qb≠w.heap.size:=⟨by omega,by omega⟩;have hrs4:Blk w4 w.heap.size 51 [.int .i64 0,.int .i64 0,.int .i64 0,.int .i64 0,.int .i64 0,.int .i64 0,.slice none 0 0]:=(hF14 w.heap.size (by omega) (by omega) (by omega) (by simp only[PD.M,List.mem_cons,List.not_mem_nil,or_false];omega)).trans HR1.out;have hkn4:KnAt w4 kb vW0 vA0 l0 km:=(hF14 kb (by omega) hkp' hkm' (hMn _ hkl hkp' hkm')).trans (KnAt.below HKN.out HB1.out);have ham4:AM w4 km n0 f0:=by
  obtain⟨Dw,⟨es,clock,hbb,r⟩,q2,q3⟩:=AM.below HAM.out HB1.out;exact⟨Dw,⟨es,clock,(hF14 km (by omega) hkp hkm (hMn _ hkml hkp hkm)).trans hbb,r⟩,q2,q3⟩
 clear hF14 hMn hf2 hP2 hb3 hcs hfr4 htql CN CB HSC HSI HE;have hrl4:=hrs4.lt;have hcl:=zah E.v E.pf E.md hSR.len;have hone:=all_oneCell_toArray (zaj E.v E.pf ws E.md);have hcz:(enC E.v E.pf ws E.md).toArray.size=15:=by rw[List.size_toArray];exact hcl
 have hiB:(Tryz.prog.info? 186).map (·.size)=some (enC E.v E.pf ws E.md).toArray.size:=by rw[hcz];exact Tryz.infoEnd
 have hnb:Blk (w4.alloc (.cells zZb 186)) w4.heap.size 186 (enC 0 [] z9 (0,0,0,0)):=heap_alloc_new w4 _;have hth:(w4.alloc (.cells zZb 186)).there w4.heap.size 0 (enC E.v E.pf ws E.md).toArray.size:=by
  rw[hcz];exact(hnb.row (zaj _ _ _ _)).there 0 15 (by rw[zah 0 [] (0,0,0,0) rfl];omega)
 obtain⟨W5,hW5⟩:∃W5,(w4.alloc (.cells zZb 186)).setCells w4.heap.size 0 (enC E.v E.pf ws E.md)=W5:=⟨_,rfl⟩
 have h45:Below w4.heap.size w4 W5:=by rw[←hW5];exact zaN w4 w4.heap.size _ 0 _ (zaa w4 _) (Nat.le_refl _)
 have hen5:Blk W5 w4.heap.size 186 (enC E.v E.pf ws E.md):=by rw[←hW5];exact hnb.setAll (by rw[hcl,zah 0 [] (0,0,0,0) rfl])
 have hP5:=hP4.below h45;have hrs5:=hrs4.below h45;have hkn5:KnAt W5 kb vW0 vA0 l0 km:=hkn4.below h45;have ham5:=ham4.below h45;have h05:=hP5.h0;obtain⟨g0,g1,g2,g3,g4,g5,g6⟩:=hP5.cells;dsimp only at g0;have hv0:W5.cell? ⟨w4.heap.size,0,none⟩=some (.int .i64 E.v):=hen5.cell rfl;have hs0:W5.cell? ⟨w4.heap.size,1,none⟩=some (.string ⟨E.pf.toArray⟩):=hen5.cell rfl;have hw45:=h45.size;have hel:=hen5.lt;clear hnb hP4 hP5 hrs4 hkn4 ham4 h45 hcl g1 g2 g3 g4 g5 g6;by_cases hv1:E.v=1
 ·have hvb:(E.v==1)=true:=by simpa using hv1
  have HA:Hid (PA=(1,E.md,[])):=by show _=_;rw[HPA.out,if_pos hv1]
  clear hv1;have hq:W5.rangeAt w4.heap.size 11 [.int .i64 E.md.1,.int .i64 E.md.2.1,.int .i64 E.md.2.2.1,.int .i64 E.md.2.2.2]:=fun j v hv=>by
   refine hen5.cell ?_;obtain⟨x0,x1,x2,x3,x4,x5,x6,x7,x8,hxo⟩:=list9 hSR.len;rw[hxo]
   match j,hv with
   | 0,hv=>cases hv;rfl
   | 1,hv=>cases hv;rfl
   | 2,hv=>cases hv;rfl
   | 3,hv=>cases hv;rfl
  have n0':W5.cell? ⟨w4.heap.size,11,none⟩=some (.int .i64 E.md.1):=hq 0 _ rfl;have n1':W5.cell? ⟨w4.heap.size,12,none⟩=some (.int .i64 E.md.2.1):=hq 1 _ rfl;have n2':W5.cell? ⟨w4.heap.size,13,none⟩=some (.int .i64 E.md.2.2.1):=hq 2 _ rfl;have n3':W5.cell? ⟨w4.heap.size,14,none⟩=some (.int .i64 E.md.2.2.2):=hq 3 _ rfl;have hrsY:=hrs5;have r0:W5.cell? ⟨w.heap.size,0,none⟩=some (.int .i64 0):=Blk.cell (i:=0) hrsY rfl;have r1:W5.cell? ⟨w.heap.size,1,none⟩=some (.int .i64 0):=Blk.cell (i:=1) hrsY rfl;have r2:W5.cell? ⟨w.heap.size,2,none⟩=some (.int .i64 0):=Blk.cell (i:=2) hrsY rfl;have r3:W5.cell? ⟨w.heap.size,3,none⟩=some (.int .i64 0):=Blk.cell (i:=3) hrsY rfl;have r4:W5.cell? ⟨w.heap.size,4,none⟩=some (.int .i64 0):=Blk.cell (i:=4) hrsY rfl;have r5:W5.cell? ⟨w.heap.size,5,none⟩=some (.int .i64 0):=Blk.cell (i:=5) hrsY rfl;have r6:W5.cell? ⟨w.heap.size,6,none⟩=some (.slice none 0 0):=Blk.cell (i:=6) hrsY rfl;have hR7:=Blk.row hrsY (by intro v hv;simp at hv;rcases hv with rfl|rfl<;>rfl);have HRR:Hid (Av.Row W5 w.heap.size 7):=hR7;clear hen5 hrs5 hrsY hR7 hkn5 ham5 hq;have hon1:(#[.int .i64 1,.int .i64 0,.int .i64 E.md.1,.int .i64 E.md.2.1,.int .i64 E.md.2.2.1,.int .i64 E.md.2.2.2,.slice none 0 0]:Array Value).all (·.oneCell')=true:=by simp[Value.oneCell']
  obtain⟨ce,HCE⟩:∃ce:List Value,Hid (ce=[.int .i64 1,.int .i64 0,.int .i64 E.md.1,.int .i64 E.md.2.1,.int .i64 E.md.2.2.1,.int .i64 E.md.2.2.2,.slice none 0 0]):=⟨_,rfl⟩
  have HF:Hid (Below w0.heap.size w0 (W5.setCells w.heap.size 0 ce)):=zad (by omega) _ 0 w0 W5 h05;go_wp2_with (first|(refine wpList_store_mid rfl 186 (.tmp 7) (.tmp 14) rfl w4.heap.size 0 (enC E.v E.pf ws E.md).toArray rfl rfl ?_ hiB hone ?_;(exact hth);(rw[show(enC E.v E.pf ws E.md).toArray.toList=(enC E.v E.pf ws E.md) by simp,hW5]))|(refine wpList_store_mid rfl 51 (.tmp 6) (.tmp 21) rfl w.heap.size 0 #[.int .i64 1,.int .i64 0,.int .i64 E.md.1,.int .i64 E.md.2.1,.int .i64 E.md.2.2.1,.int .i64 E.md.2.2.2,.slice none 0 0] rfl rfl ?_ Tryz.infoAns hon1 ?_;(exact HRR.out.there 0 7 (by omega));(rw[show(#[.int .i64 1,.int .i64 0,.int .i64 E.md.1,.int .i64 E.md.2.1,.int .i64 E.md.2.2.1,.int .i64 E.md.2.2.2,.slice none 0 0]:Array Value).toList=ce from HCE.out.symm])));exact Av.postN ce rfl rfl Tryz.underlying51 rfl Tryz.infoAns HRR.out (by rw[HCE.out];rfl) (by rw[HA.out];exact⟨_,by rw[HCE.out];rfl,World.ownsRow_nil _ _ _ _,HF.out⟩)
 ·have hvb:(E.v==1)=false:=by simpa using hv1
  have hon2:(#[.int .i64 2,.int .i64 0,.int .i64 0,.int .i64 0,.int .i64 0,.int .i64 0,.slice none 0 0]:Array Value).all (·.oneCell')=true:=by simp[Value.oneCell']
  by_cases hvz:E.v=0
  ·have CCf:Hid _:=CC.out W5.drew vW0 vA0 l0 n0 f0 E.pf h05.drew (hkn5.below (Below.refl _ _).drew) (ham5.below (Below.refl _ _).drew) (by unfold maxLen;omega);have hvzb:(E.v==0)=true:=by simpa using hvz
   have HAA:Hid (PA=if cfm ys E.pf=true then (0,(0,0,0,0),[E.pf]) else (2,(0,0,0,0),[])):=by
    show _=_
    rw[HPA.out,if_neg hv1];by_cases hc:cfm ys E.pf=true
    ·rw[if_pos ⟨hvz,hc⟩,if_pos hc]
    ·rw[if_neg (fun h=>hc h.2),if_neg hc]
   have HRS5:Hid _:=hrs5;have HEN5:Hid _:=hen5;have H05:Hid _:=h05;clear hv1 hvz hkn5 ham5 hrs5 hen5 h05;generalize cfm ys E.pf=cf at *;go_wp2_with (refine wpList_store_mid rfl 186 (.tmp 7) (.tmp 14) rfl w4.heap.size 0 (enC E.v E.pf ws E.md).toArray rfl rfl ?_ hiB hone ?_;(exact hth);(rw[show(enC E.v E.pf ws E.md).toArray.toList=(enC E.v E.pf ws E.md) by simp,hW5]));have hkne:¬pb=kb:=fun e=>hkp' e.symm
   go_region_held3 (fun X=>X.cell? ⟨w4.heap.size,0,none⟩=some (.int .i64 E.v)∧X.cell? ⟨w4.heap.size,1,none⟩=some (.string ⟨E.pf.toArray⟩)∧X.cell? ⟨pb,0,none⟩=some (.pointer (some ⟨kb,0,none⟩))) (first|exact⟨hv0,hs0,g0⟩|exact⟨y1,y2,y3⟩) (first|(go_at_call 53;refine Calls.mono CCf.out ?_;rintro e w6 ⟨rfl,hfk⟩;have y1:=(World.cell?_of_block (a:=⟨w4.heap.size,0,none⟩) (hfk.block w4.heap.size hel (by omega) (by omega))).trans hv0;have y2:=(World.cell?_of_block (a:=⟨w4.heap.size,1,none⟩) (hfk.block w4.heap.size hel (by omega) (by omega))).trans hs0;have y3:=(World.cell?_of_block (a:=⟨pb,0,none⟩) (hfk.block pb (by show pb<W5.heap.size;omega) (by omega) (by omega))).trans g0))
   have h06:Below w0.heap.size w0 w6:=FrK.below hfk (Below.drew H05.out) hhk hk0;have hrs6:Blk w6 w.heap.size 51 [.int .i64 0,.int .i64 0,.int .i64 0,.int .i64 0,.int .i64 0,.int .i64 0,.slice none 0 0]:=(hfk.block w.heap.size (by show w.heap.size<W5.heap.size;omega) (by omega) (by omega)).trans HRS5.out;have h06s:=h06.size;have hrl6:=hrs6.lt;cases cf with
   | true =>
    have HA:Hid (PA=(0,(0,0,0,0),[E.pf])):=HAA.out;have hrsY:=hrs6.below (zaa w6 (.cells #[.string ⟨E.pf.toArray⟩] 9));have r0:(w6.alloc (.cells #[.string ⟨E.pf.toArray⟩] 9)).cell? ⟨w.heap.size,0,none⟩=some (.int .i64 0):=Blk.cell (i:=0) hrsY rfl;have r1:(w6.alloc (.cells #[.string ⟨E.pf.toArray⟩] 9)).cell? ⟨w.heap.size,1,none⟩=some (.int .i64 0):=Blk.cell (i:=1) hrsY rfl;have r2:(w6.alloc (.cells #[.string ⟨E.pf.toArray⟩] 9)).cell? ⟨w.heap.size,2,none⟩=some (.int .i64 0):=Blk.cell (i:=2) hrsY rfl;have r3:(w6.alloc (.cells #[.string ⟨E.pf.toArray⟩] 9)).cell? ⟨w.heap.size,3,none⟩=some (.int .i64 0):=Blk.cell (i:=3) hrsY rfl;have r4:(w6.alloc (.cells #[.string ⟨E.pf.toArray⟩] 9)).cell? ⟨w.heap.size,4,none⟩=some (.int .i64 0):=Blk.cell (i:=4) hrsY rfl;have r5:(w6.alloc (.cells #[.string ⟨E.pf.toArray⟩] 9)).cell? ⟨w.heap.size,5,none⟩=some (.int .i64 0):=Blk.cell (i:=5) hrsY rfl;have r6:(w6.alloc (.cells #[.string ⟨E.pf.toArray⟩] 9)).cell? ⟨w.heap.size,6,none⟩=some (.slice none 0 0):=Blk.cell (i:=6) hrsY rfl;have hR7:=Blk.row hrsY (by intro v hv;simp at hv;rcases hv with rfl|rfl<;>rfl);have HRR:Hid (Av.Row (w6.alloc (.cells #[.string ⟨E.pf.toArray⟩] 9)) w.heap.size 7):=hR7;obtain⟨ce,HCE⟩:∃ce:List Value,Hid (ce=[.int .i64 0,.int .i64 0,.int .i64 0,.int .i64 0,.int .i64 0,.int .i64 0,.slice (some ⟨w6.heap.size,0,none⟩) 1 1]):=⟨_,rfl⟩
    have HF:Hid (Below w0.heap.size w0 ((w6.alloc (.cells #[.string ⟨E.pf.toArray⟩] 9)).setCells w.heap.size 0 ce)):=zad (by omega) _ 0 w0 _ (h06.alloc h06s _);have HOW:Hid (((w6.alloc (.cells #[.string ⟨E.pf.toArray⟩] 9)).setCells w.heap.size 0 ce).ownsRow w0.heap.size 9 1 (.slice (some ⟨w6.heap.size,0,none⟩) 1 1) 1 [strV E.pf]):=⟨rfl,Or.inr ⟨w6.heap.size,1,#[strV E.pf],rfl,h06s,Blk.otherAll (cs:=[strV E.pf]) (by omega) ce 0 _ (heap_alloc_new w6 _),Nat.le_refl _,by decide,by simp,rfl⟩⟩;have hon0:(#[.int .i64 0,.int .i64 0,.int .i64 0,.int .i64 0,.int .i64 0,.int .i64 0,.slice (some ⟨w6.heap.size,0,none⟩) 1 1]:Array Value).all (·.oneCell')=true:=by simp[Value.oneCell']
    clear hrs6 hrsY hR7;go_wp2_with (refine wpList_store_mid rfl 51 (.tmp 6) (.tmp 39) rfl w.heap.size 0 #[.int .i64 0,.int .i64 0,.int .i64 0,.int .i64 0,.int .i64 0,.int .i64 0,.slice (some ⟨w6.heap.size,0,none⟩) 1 1] rfl rfl ?_ Tryz.infoAns hon0 ?_;(exact HRR.out.there 0 7 (by omega));(rw[show(#[.int .i64 0,.int .i64 0,.int .i64 0,.int .i64 0,.int .i64 0,.int .i64 0,.slice (some ⟨w6.heap.size,0,none⟩) 1 1]:Array Value).toList=ce from HCE.out.symm]));exact Av.postN ce rfl rfl Tryz.underlying51 rfl Tryz.infoAns HRR.out (by rw[HCE.out];rfl) (by rw[HA.out];exact⟨_,by rw[HCE.out];rfl,HOW.out,HF.out⟩)
   | false =>
    have HA:Hid (PA=(2,(0,0,0,0),[])):=HAA.out;have hrsY:=hrs6;have r0:w6.cell? ⟨w.heap.size,0,none⟩=some (.int .i64 0):=Blk.cell (i:=0) hrsY rfl;have r1:w6.cell? ⟨w.heap.size,1,none⟩=some (.int .i64 0):=Blk.cell (i:=1) hrsY rfl;have r2:w6.cell? ⟨w.heap.size,2,none⟩=some (.int .i64 0):=Blk.cell (i:=2) hrsY rfl;have r3:w6.cell? ⟨w.heap.size,3,none⟩=some (.int .i64 0):=Blk.cell (i:=3) hrsY rfl;have r4:w6.cell? ⟨w.heap.size,4,none⟩=some (.int .i64 0):=Blk.cell (i:=4) hrsY rfl;have r5:w6.cell? ⟨w.heap.size,5,none⟩=some (.int .i64 0):=Blk.cell (i:=5) hrsY rfl;have r6:w6.cell? ⟨w.heap.size,6,none⟩=some (.slice none 0 0):=Blk.cell (i:=6) hrsY rfl;have hR7:=Blk.row hrsY (by intro v hv;simp at hv;rcases hv with rfl|rfl<;>rfl);have HRR:Hid (Av.Row w6 w.heap.size 7):=hR7;obtain⟨ce,HCE⟩:∃ce:List Value,Hid (ce=[.int .i64 2,.int .i64 0,.int .i64 0,.int .i64 0,.int .i64 0,.int .i64 0,.slice none 0 0]):=⟨_,rfl⟩
    have HF:Hid (Below w0.heap.size w0 (w6.setCells w.heap.size 0 ce)):=zad (by omega) _ 0 w0 _ h06;clear hrs6 hrsY hR7;go_wp2_with (refine wpList_store_mid rfl 51 (.tmp 6) (.tmp 40) rfl w.heap.size 0 #[.int .i64 2,.int .i64 0,.int .i64 0,.int .i64 0,.int .i64 0,.int .i64 0,.slice none 0 0] rfl rfl ?_ Tryz.infoAns hon2 ?_;(exact HRR.out.there 0 7 (by omega));(rw[show(#[.int .i64 2,.int .i64 0,.int .i64 0,.int .i64 0,.int .i64 0,.int .i64 0,.slice none 0 0]:Array Value).toList=ce from HCE.out.symm]));exact Av.postN ce rfl rfl Tryz.underlying51 rfl Tryz.infoAns HRR.out (by rw[HCE.out];rfl) (by rw[HA.out];exact⟨_,by rw[HCE.out];rfl,World.ownsRow_nil _ _ _ _,HF.out⟩)
  ·have hvzb:(E.v==0)=false:=by simpa using hvz
   have HA:Hid (PA=(2,(0,0,0,0),[])):=by show _=_;rw[HPA.out,if_neg hv1,if_neg (fun h=>hvz h.1)]
   clear hv1 hvz;go_wp2_with (refine wpList_store_mid rfl 186 (.tmp 7) (.tmp 14) rfl w4.heap.size 0 (enC E.v E.pf ws E.md).toArray rfl rfl ?_ hiB hone ?_;(exact hth);(rw[show(enC E.v E.pf ws E.md).toArray.toList=(enC E.v E.pf ws E.md) by simp,hW5]))
   go_quiet (fail)
   have hrsY:Blk (W5.drewN nq) w.heap.size 51 [.int .i64 0,.int .i64 0,.int .i64 0,.int .i64 0,.int .i64 0,.int .i64 0,.slice none 0 0]:=hrs5.below (below_drewN (Below.refl _ _) _);have r0:(W5.drewN nq).cell? ⟨w.heap.size,0,none⟩=some (.int .i64 0):=Blk.cell (i:=0) hrsY rfl;have r1:(W5.drewN nq).cell? ⟨w.heap.size,1,none⟩=some (.int .i64 0):=Blk.cell (i:=1) hrsY rfl;have r2:(W5.drewN nq).cell? ⟨w.heap.size,2,none⟩=some (.int .i64 0):=Blk.cell (i:=2) hrsY rfl;have r3:(W5.drewN nq).cell? ⟨w.heap.size,3,none⟩=some (.int .i64 0):=Blk.cell (i:=3) hrsY rfl;have r4:(W5.drewN nq).cell? ⟨w.heap.size,4,none⟩=some (.int .i64 0):=Blk.cell (i:=4) hrsY rfl;have r5:(W5.drewN nq).cell? ⟨w.heap.size,5,none⟩=some (.int .i64 0):=Blk.cell (i:=5) hrsY rfl;have r6:(W5.drewN nq).cell? ⟨w.heap.size,6,none⟩=some (.slice none 0 0):=Blk.cell (i:=6) hrsY rfl;have hR7:=Blk.row hrsY (by intro v hv;simp at hv;rcases hv with rfl|rfl<;>rfl);have HRR:Hid (Av.Row (W5.drewN nq) w.heap.size 7):=hR7;obtain⟨ce,HCE⟩:∃ce:List Value,Hid (ce=[.int .i64 2,.int .i64 0,.int .i64 0,.int .i64 0,.int .i64 0,.int .i64 0,.slice none 0 0]):=⟨_,rfl⟩
   have HF:Hid (Below w0.heap.size w0 ((W5.drewN nq).setCells w.heap.size 0 ce)):=zad (by omega) _ 0 w0 _ (below_drewN h05 _);clear hrs5 hrsY hR7;go_wp2_with (refine wpList_store_mid rfl 51 (.tmp 6) (.tmp 40) rfl w.heap.size 0 #[.int .i64 2,.int .i64 0,.int .i64 0,.int .i64 0,.int .i64 0,.int .i64 0,.slice none 0 0] rfl rfl ?_ Tryz.infoAns hon2 ?_;(exact HRR.out.there 0 7 (by omega));(rw[show(#[.int .i64 2,.int .i64 0,.int .i64 0,.int .i64 0,.int .i64 0,.int .i64 0,.slice none 0 0]:Array Value).toList=ce from HCE.out.symm]));exact Av.postN ce rfl rfl Tryz.underlying51 rfl Tryz.infoAns HRR.out (by rw[HCE.out];rfl) (by rw[HA.out];exact⟨_,by rw[HCE.out];rfl,World.ownsRow_nil _ _ _ _,HF.out⟩)
theorem zeX {f g:Atm→Int}:∀ys:List Sym,(∀y∈ys,y.1=6→f y.2=g y.2)→trun f ys=trun g ys
 | [],_=>rfl
 | y::r,h=>by
  rw[zaM,zaM,zeX r (fun z hz=>h z (List.mem_cons_of_mem _ hz))];unfold tst
  congr 1
  unfold tval
  repeat' split
  all_goals first|rfl|(rename_i h6;exact h y List.mem_cons_self h6)
theorem zla {x1 x2 x3 x4:Int} {a:Atm} (ha:okA a):tof (hld x1 x2 x3 x4 a)=tat (bsx (x1,x2,x3,x4)) a:=by
 obtain⟨o1,o2,o3,o4,_,_⟩:=ha;have e:∀i:Int,0≤i→i≤4→xv x1 x2 x3 x4 i=bsx (x1,x2,x3,x4) i:=fun i h0 h4=>by
  have:i=0∨i=1∨i=2∨i=3∨i=4:=by omega
  rcases this with rfl|rfl|rfl|rfl|rfl<;>rfl
 unfold hld tat;rw[e _ o1 o2,e _ o3 o4]
theorem zc2 {s:ByteArray} {ys:List Sym} (hp:pars s=some ys) (x1 x2 x3 x4:Int):val x1 x2 x3 x4 ys=((trun (tat (bsx (x1,x2,x3,x4))) ys).headD 0==1):=by
 obtain⟨t,_,h2,h3⟩:=zcI x1 x2 x3 x4 hp;have hok:=(zaB hp).2.2.2;have e:=zeX (f:=fun a=>tof (hld x1 x2 x3 x4 a)) (g:=tat (bsx (x1,x2,x3,x4))) ys (fun y hy h6=>zla (hok _ (zde y hy h6)));rw[h3,←e,h2]
 rfl
theorem zlb {s:ByteArray} {ys:List Sym} (hp:pars s=some ys) {P:List UInt8} (h:cfm ys P=true) (x1 x2 x3 x4:Int):val x1 x2 x3 x4 ys=true:=by
 unfold cfm at h;rw[Bool.and_eq_true] at h;have hc:=of_decide_eq_true h.2;rw[zc2 hp,zc1 (x:=bsx (x1,x2,x3,x4)) _ _ _ _ (fun a=>Or.inl rfl) hc]
 rfl
theorem zgq:∀i,ncn (fun _=>0) i=i
 | 0=>rfl
 | i+1=>by rw[zcE,zgq i];rfl
theorem zeY {s:ByteArray} {ys:List Sym} (hp:pars s=some ys) (bu:Nat) :
 ((prA ys bu).1=1∧(prA ys bu).2.2=[]∧val (prA ys bu).2.1.1 (prA ys bu).2.1.2.1 (prA ys bu).2.1.2.2.1 (prA ys bu).2.1.2.2.2 ys=false∧gds (prA ys bu).2.1.1 (prA ys bu).2.1.2.1 (prA ys bu).2.1.2.2.1 (prA ys bu).2.1.2.2.2=true) ∨
 ((prA ys bu).1=0∧(prA ys bu).2.1=(0,0,0,0)∧∃pf,(prA ys bu).2.2=[pf]∧cfm ys pf=true)∨((prA ys bu).1=2∧(prA ys bu).2.1=(0,0,0,0)∧(prA ys bu).2.2=[]):=by
 unfold prA;by_cases h1:(prE ys bu).v=1
 ·rw[if_pos h1];refine Or.inl ⟨rfl,rfl,?_,?_⟩
  ·have h:=(zbX (PC.pars hp) zde bu bu (fun _=>0) bno (SI.start _) h1).1;dsimp only;rw[zc2 hp];have e:(prE ys bu).md=((prE ys bu).md.1,(prE ys bu).md.2.1,(prE ys bu).md.2.2.1,(prE ys bu).md.2.2.2):=rfl;rw[←e];unfold prE;rw[h]
   rfl
  ·obtain⟨A',b',hSI,hmd⟩:=(zbX (PC.pars hp) zde bu bu (fun _=>0) bno (SI.start _) h1).2;have hb:=zk5 (PC.pars hp).ok hSI;have hmd':(prE ys bu).md=bmd b':=hmd;dsimp only;rw[hmd'];unfold gds gd;obtain⟨⟨a1,a2⟩,⟨a3,a4⟩,⟨a5,a6⟩,a7,a8⟩:=hb;simp;omega
 ·rw[if_neg h1];by_cases h2:(prE ys bu).v=0∧cfm ys (prE ys bu).pf=true
  ·rw[if_pos h2];exact Or.inr (Or.inl ⟨rfl,rfl,_,rfl,h2.2⟩)
  ·rw[if_neg h2];exact Or.inr (Or.inr ⟨rfl,rfl,rfl⟩)
theorem zlc {s:ByteArray} {ys:List Sym} (hp:pars s=some ys) (hf:(uqs ys).length≤12):(prA ys 20000).1≠2:=by
 have hn:=zgq (uqs ys).length;have hpow:2^((uqs ys).length+1)≤2^13:=Nat.pow_le_pow_right (by decide) (by omega);have hpow2:2^(uqs ys).length≤2^12:=Nat.pow_le_pow_right (by decide) hf;have h:=zfB (PC.pars hp) (by omega) 20000 20000 (fun _=>0) bno (SI.start _) (by rw[hn];omega) (by rw[hn];omega);rw[hn] at h;have hv:(prE ys 20000).v≠2:=h.1;have hl:(prE ys 20000).v=0→(prE ys 20000).pf.length+7≤28*2^(uqs ys).length:=h.2.2;have h3:(prE ys 20000).v=0∨(prE ys 20000).v=1∨(prE ys 20000).v=2:=by
  have key:∀(k s':Nat) (A:Nat→Int) (b:Bd),(sch (uqs ys) (gad (uqs ys) ys.length ys 2 0).1 k s' A b).1.v=0∨(sch (uqs ys) (gad (uqs ys) ys.length ys 2 0).1 k s' A b).1.v=1∨(sch (uqs ys) (gad (uqs ys) ys.length ys 2 0).1 k s' A b).1.v=2:=by
   intro k
   induction k with
   | zero=>intro s' A b;exact Or.inr (Or.inr rfl)
   | succ k ih =>
    intro s' A b;cases s' with
    | zero=>exact Or.inr (Or.inr rfl)
    | succ s' =>
     have hst:=zaD (us:=uqs ys) (g:=(gad (uqs ys) ys.length ys 2 0).1) (fin:=finF (uqs ys) (gad (uqs ys) ys.length ys 2 0).1) (two:=twoF) k s' A b;change sch (uqs ys) (gad (uqs ys) ys.length ys 2 0).1 (k+1) (s'+1) A b=_ at hst;rw[hst];split
     ·exact Or.inr (Or.inl rfl)
     ·split
      ·exact Or.inl rfl
      ·dsimp only;split
       ·exact ih _ _ _
       ·split
        ·exact ih _ _ _
        ·exact Or.inl rfl
  exact key _ _ _ _
 unfold prA;by_cases h1:(prE ys 20000).v=1
 ·rw[if_pos h1];show(1:Int)≠2;decide
 ·rw[if_neg h1];have h0:(prE ys 20000).v=0:=by
   rcases h3 with h|h|h
   ·exact h
   ·exact absurd h h1
   ·exact absurd h hv
  have hlen:=hl h0;have hle:(prE ys 20000).pf.length≤200000:=by omega
  have hc:cfm ys (prE ys 20000).pf=true:=by
   unfold cfm;rw[Bool.and_eq_true];refine⟨decide_eq_true hle,decide_eq_true ?_⟩;have:=zfz (PC.pars hp) 20000 20000 (fun _=>0) bno (SI.start _) h0 hle (fun _=>0) ((prE ys 20000).pf.length+1) [] (fun _=>Or.inl rfl) (by show((prE ys 20000).pf++[]).length<_;rw[List.append_nil];omega) (fun j _ _=>rfl) (fun j _ hj=>absurd rfl hj);change chk (uqs ys) ys ((prE ys 20000).pf.length+1) (fun _=>0) ((prE ys 20000).pf++[])=some [] at this;rw[List.append_nil] at this;exact this
  rw[if_pos ⟨h0,hc⟩];show(0:Int)≠2
  decide
theorem zh9 {s:ByteArray} {ys:List Sym} (hp:pars s=some ys) (hf:(uqs ys).length≤12) (hv:∀x1 x2 x3 x4,val x1 x2 x3 x4 ys=true):(prA ys 20000).1=0∧(prA ys 20000).2.1=(0,0,0,0)∧∃pf,(prA ys 20000).2.2=[pf]∧cfm ys pf=true:=by
 rcases zeY hp 20000 with⟨_,_,h,_⟩|h|⟨h,_⟩
 ·rw[hv] at h;cases h
 ·exact h
 ·exact absurd h (zlc hp hf)
structure PNew (w w':World) (kb km mb pb:Nat):Prop where
 bel:Below w.heap.size w w'
 o1:w.heap.size≤km
 o2:km<kb
 o3:kb<mb
 o4:mb<pb
 kn:KnAt w' kb (.slice none 0 0) (.slice none 0 0) [] km
 am:AM w' km 0 (fun _=>0)
 nm:NM w' mb 0 (fun _=>0)
 box:Blk w' pb 180 [.pointer (some ⟨kb,0,none⟩),.slice none 0 0,.slice none 0 0,.int .i64 0,.map (some mb),.slice none 0 0,.slice none 0 0]
theorem zjH (w:World) :
 Calls Tryz.prog 55 #[] w fun e w'=>∃kb km mb pb,e=.returned (.pointer (some ⟨pb,0,none⟩))∧PNew w w' kb km mb pb:=by
 have CN:Hid (Calls Tryz.prog 52 #[] w fun e w'=>e=.returned (.pointer (some ⟨w.heap.size+1,0,none⟩))∧KnAt w' (w.heap.size+1) (.slice none 0 0) (.slice none 0 0) [] w.heap.size∧AM w' w.heap.size 0 (fun _=>0)∧Below w.heap.size w w'):=zhH w;have hmm:=@run_makeMap Tryz.prog;go_enter Tryz.func55,Tryz.ntmps55;go_wp2_with fail;refine Calls.mono CN.out ?_;rintro e w1 ⟨rfl,hk1,ha1,hb1⟩;have hkl:=hk1.lt;have b2:=zaa w1 (.map #[] 0);have b3:Below (w1.alloc (.map #[] 0)).heap.size (w1.alloc (.map #[] 0)) ((w1.alloc (.map #[] 0)).alloc (.cells #[.pointer (some ⟨w.heap.size+1,0,none⟩),.slice none 0 0,.slice none 0 0,.int .i64 0,.map (some w1.heap.size),.slice none 0 0,.slice none 0 0] 180)):=zaa _ _;have b23:=b2.trans (b3.mono b2.size);have hnew:=heap_alloc_new (w1.alloc (.map #[] 0)) (.cells #[.pointer (some ⟨w.heap.size+1,0,none⟩),.slice none 0 0,.slice none 0 0,.int .i64 0,.map (some w1.heap.size),.slice none 0 0,.slice none 0 0] 180);rw[World.size_alloc] at hnew;have HN:Hid (PNew w ((w1.alloc (.map #[] 0)).alloc (.cells #[.pointer (some ⟨w.heap.size+1,0,none⟩),.slice none 0 0,.slice none 0 0,.int .i64 0,.map (some w1.heap.size),.slice none 0 0,.slice none 0 0] 180)) (w.heap.size+1) w.heap.size w1.heap.size (w1.heap.size+1)):=⟨hb1.trans (b23.mono hb1.size),Nat.le_refl _,by omega,by omega,by omega,hk1.below b23,ha1.below b23,(NM.made w1).fr (M:=[]) (FrX.of_below b3) List.not_mem_nil,hnew⟩;clear hk1 ha1 hb1 b2 b3 b23 hnew;go_wp2_with fail;go_ret;exact⟨_,_,_,_,by simp,HN.out⟩
end Go.Proofs.YtkinoehmcfhgbaaGreatDoor.Vl
