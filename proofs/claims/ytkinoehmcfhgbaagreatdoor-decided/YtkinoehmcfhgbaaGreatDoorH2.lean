/- A part of the proof. -/
import Derived.Test.YtkinoehmcfhgbaaGreatDoorH19
import Derived.Deep.AppendLies
set_option linter.unusedVariables false
set_option linter.unusedSimpArgs false
set_option maxRecDepth 100000
set_option maxHeartbeats 16000000
namespace Go.Proofs.YtkinoehmcfhgbaaGreatDoor.Vl
open Go.RowKit
def AddC (w0:World) (us:List Atm) (qa:Option Addr) (ca:Nat) (k:Nat):Prop :=
 ∀(w:World) (B:Nat) (G:List Pt) (v lv:Value) (l:List Sym) (t m:Int),GS w0 w B G v→CdS w0 lv l→WF m l→0<m→l.length≤k→(∀y∈l,y.1=6→y.2∈us)→t=1∨t=2→G.length+l.length≤8000 →
  Calls Tryz.prog 178 #[.pointer (some ⟨B,0,none⟩),lv,.slice qa us.length ca,.int .i8 t] w fun e w'=>∃rv v',e=.returned rv∧CdS w0 rv (gad us k l t G.length).2∧GS w0 w' B (G++(gad us k l t G.length).1) v'
theorem zlv (us:List Atm) {k:Nat} {y:Sym} {r:List Sym} (t:Int) (p:Nat) (hy:y.1=2):gad us (k+1) (y::r) t p=gad us k r (tnot t) p:=by simp only[gad,if_pos hy]
theorem zj5 {w:World} {b o cap:Nat} {y:Sym} {r:List Sym} (hc:r.length+1≤cap) (hb:b<w.heap.size) (hcs:∀(j:Nat) (z:Sym),(y::r)[j]?=some z→w.cell? ⟨b,o+j*4,none⟩=some (.int .i64 z.1)∧w.cell? ⟨b,o+j*4+1,none⟩=some (.int .i64 z.2.1)∧w.cell? ⟨b,o+j*4+2,none⟩=some (.int .i64 z.2.2.1)∧w.cell? ⟨b,o+j*4+3,none⟩=some (.int .i64 z.2.2.2)) :
 CdS w (.slice (some ⟨b,o+4,none⟩) r.length (cap-1)) r:=by
 by_cases hr:r=[]
 ·subst hr;exact Or.inl ⟨rfl,_,_,rfl⟩
 ·refine Or.inr ⟨b,o+4,cap-1,rfl,List.length_pos_iff.2 hr,by omega,hb,fun j z hz=>?_⟩;have:=hcs (j+1) z (by simpa using hz);rw[show o+(j+1)*4=o+4+j*4 by omega] at this;exact this
theorem zfd {m:Int} {l:List Sym} (h:WF m l) (hm:0<m):0<l.length:=by
 cases l with
 | nil=>have:m=0:=h;omega
 | cons y r=>simp
theorem zj6 (w0:World) (us:List Atm) (qa:Option Addr) (ca:Nat) (hat:Atms w0 (.slice qa us.length ca) us) (hus:us.length≤4000) (k:Nat) (IH:∀k',k'<k→AddC w0 us qa ca k'):AddC w0 us qa ca k:=by
 intro w B G v lv l t m hG hl hwf hm hk hu ht hsz;have HG:Hid (GS w0 w B G v):=hG;obtain⟨vp,vc,rfl⟩:=hG.shape;have HAT:Hid _:=hat;have HIH:Hid _:=IH;have HU:Hid _:=hu;have HWF:Hid _:=hwf;have HL:Hid (CdS w0 lv l):=hl;have hlp:=zfd hwf hm;obtain⟨lp,lc,rfl⟩:=hl.shape;have CN:Hid (∀t w,t=1∨t=2→Calls Tryz.prog 167 #[.int .i8 t] w fun e w'=>e=.returned (.int .i8 (tnot t))∧w=w'):=fun t w h=>zbB t (by rcases h with rfl|rfl;exact Or.inr (Or.inl rfl);exact Or.inr (Or.inr rfl)) w
 clear hG hat IH hu hwf hl;go_enter Tryz.func178,Tryz.ntmps178;go_wp2_with fail
 go_loopw [1,3] (fun s1 s3 wr=>∃(n:Nat) (l':List Sym) (t':Int),s3=.int .i8 t'∧(t'=1∨t'=2)∧CdS w0 s1 l'∧n+l'.length=l.length∧WF m l'∧(∀y∈l',y∈l)∧gad us k l t G.length=gad us (k-n) l' t' G.length∧Below w.heap.size w wr) (fun s1 _ _=>lenOf s1)
 case atStart=>exact⟨0,l,t,rfl,ht,HL.out,by omega,HWF.out,fun y h=>h,rfl,Below.refl _ _⟩
 case round =>
  obtain⟨n,l',t',rfl,ht',hl',hn',hwf',hin,hgad,hbr⟩:=hrel;have hp':=zfd hwf' hm;cases l' with
  | nil=>simp at hp'
  | cons y r =>
   rcases hl' with⟨e,_⟩|⟨b,o,cap,rfl,_,hcap,hb,hcs⟩
   ·cases e
   ·obtain⟨y1,a1,a2,a3⟩:=y;obtain⟨z0,z1,z2,z3⟩:=hcs 0 _ rfl;rw[Nat.zero_mul,Nat.add_zero] at z0 z1 z2 z3;dsimp only at z0 z1 z2 z3;have HCS:Hid _:=hcs;have hG0:Below w0.heap.size w0 wr:=HG.out.b0.trans (hbr.mono HG.out.b0.size);have c0:=(hG0.cell (p:=⟨b,o,none⟩) hb).trans z0;have c1:=(hG0.cell (p:=⟨b,o+1,none⟩) hb).trans z1;have c2:=(hG0.cell (p:=⟨b,o+2,none⟩) hb).trans z2;have c3:=(hG0.cell (p:=⟨b,o+3,none⟩) hb).trans z3;have HGAD:Hid _:=hgad;have HWF2:Hid _:=hwf';have HIN:Hid _:=hin;have HTL:Hid (CdS w0 (.slice (some ⟨b,o+4,none⟩) r.length (cap-1)) r):=zj5 (by simpa using hcap) hb hcs;have HG0:Hid (Below w0.heap.size w0 wr):=hG0;have hcap':r.length+1≤cap:=by simpa using hcap
    have hN:n+(r.length+1)=l.length:=by simpa using hn'
    rw[List.length_cons];have hL0:(0:Int)<((r.length+1:Nat):Int):=by omega
    have hL1:(1:Int)≤((r.length+1:Nat):Int):=by omega
    have HLR:Hid (r.length+1-1=r.length):=by show _=_;omega
    have hLz:1≤r.length+1:=by omega
    have hLp:0<r.length+1:=by omega
    clear z0 z1 z2 z3 hcs hgad hwf' hin hG0 hcap hp' hn';generalize r.length+1=L at *;by_cases e2:y1=2
    ·subst e2;have CN1:Hid (∀w,Calls Tryz.prog 167 #[.int .i8 t'] w fun e w'=>e=.returned (.int .i8 (tnot t'))∧w=w'):=fun w=>CN.out t' w ht'
     obtain⟨_,_,_,hwr⟩:=HWF2.out;have HWR:Hid (WF m r):=by
      have e:m+prt 2-1=m:=by show m+1-1=m;omega
      rw[e] at hwr;exact hwr
     have hrp:=zfd HWR.out hm;have hLr:=HLR.out;have hc1:cap≠1:=by omega
     have HGN:Hid (gad us k l t G.length=gad us (k-(n+1)) r (tnot t') G.length):=by
      show _=_
      rw[HGAD.out,show k-n=(k-(n+1))+1 by omega,zlv us t' G.length rfl]
     have HMS:Hid (L-1<L):=by show _<_;omega
     have HNN:Hid (n+1+r.length=l.length):=by show _=_;omega
     have HIR:Hid (∀y∈r,y∈l):=fun y hy=>HIN.out y (List.mem_cons_of_mem _ hy)
     have HT2:Hid (tnot t'=1∨tnot t'=2):=by rcases ht' with rfl|rfl;exact Or.inr rfl;exact Or.inl rfl
     have HTL2:Hid (CdS w0 (.slice (some ⟨b,o+4,none⟩) (L-1) (cap-1)) r):=by
      have h:=HTL.out;rw[←hLr] at h;exact h
     clear hwr hLr hrp;go_wp2_with fail;go_region_held3 (fun _=>True) (trivial) (first|(go_at_call 167;refine(CN1.out _).mono ?_;rintro e w' ⟨rfl,rfl⟩));go_wp2_with fail
     go_roundw
     case rel=>exact⟨n+1,r,tnot t',rfl,HT2.out,HTL2.out,HNN.out,HWR.out,HIR.out,HGN.out,hbr.drew⟩
     case measure=>exact HMS.out
    ·have hG1:GS w0 wr B G (.slice vp G.length vc):=HG.out.below hbr;have cB:=hG1.box.cell (i:=0) rfl;have fB:=hG1.box.free 0;have hbne:¬b=wr.heap.size:=by have:=HG0.out.size;omega
     have hbw:b<wr.heap.size:=by have:=HG0.out.size;omega
     have d0:∀x,(wr.alloc x).cell? ⟨b,o,none⟩=some (.int .i64 y1):=fun x=>((zaa wr x).cell (p:=⟨b,o,none⟩) hbw).trans c0
     have d1:∀x,(wr.alloc x).cell? ⟨b,o+1,none⟩=some (.int .i64 a1):=fun x=>((zaa wr x).cell (p:=⟨b,o+1,none⟩) hbw).trans c1
     have d2:∀x,(wr.alloc x).cell? ⟨b,o+2,none⟩=some (.int .i64 a2):=fun x=>((zaa wr x).cell (p:=⟨b,o+2,none⟩) hbw).trans c2
     have d3:∀x,(wr.alloc x).cell? ⟨b,o+3,none⟩=some (.int .i64 a3):=fun x=>((zaa wr x).cell (p:=⟨b,o+3,none⟩) hbw).trans c3
     have hz9:¬wr.heap.size=b:=fun e=>hbne e.symm
     have HTL2:Hid (CdS w0 (.slice (some ⟨b,o+4,none⟩) (L-1) (cap-1)) r):=by
      have h:=HTL.out;rw[←HLR.out] at h;exact h
     have HTL1:Hid (cap=1→CdS w0 (.slice (some ⟨b,o,none⟩) 0 0) r):=fun e=>by
      have:r.length=0:=by have:=HLR.out;omega
      exact Or.inl ⟨List.length_eq_zero_iff.1 this,_,_,rfl⟩
     go_upto_region 3 with fail
     go_cut [9,10] from 13 to 27 (fun s9 s10 wc=>s9=.pointer (some ⟨wr.heap.size,0,none⟩)∧CdS w0 s10 r∧wc=(wr.alloc (.cells #[.int .i64 y1,.int .i64 a1,.int .i64 a2,.int .i64 a3] 136)).drew)
     case first =>
      by_cases hc1:cap=1
      ·subst hc1;go_region;go_wp2_with fail
       go_meet
       case rel=>exact⟨rfl,HTL1.out trivial,rfl⟩
      ·go_region
       go_wp2_with fail
       go_meet
       case rel=>exact⟨rfl,HTL2.out,rfl⟩
     case rest =>
      obtain⟨rfl,hrv,rfl⟩:=hcut;obtain⟨rp,rc,rfl⟩:=hrv.shape;have HRV:Hid _:=hrv;have hb3:Below wr.heap.size wr (wr.alloc (.cells #[.int .i64 y1,.int .i64 a1,.int .i64 a2,.int .i64 a3] 136)).drew:=(zaa wr _).drew;have hG3:=hG1.below hb3;have q0:(wr.alloc (.cells #[.int .i64 y1,.int .i64 a1,.int .i64 a2,.int .i64 a3] 136)).drew.cell? ⟨wr.heap.size,0,none⟩=some (.int .i64 y1):=by simp
      have q1:(wr.alloc (.cells #[.int .i64 y1,.int .i64 a1,.int .i64 a2,.int .i64 a3] 136)).drew.cell? ⟨wr.heap.size,1,none⟩=some (.int .i64 a1):=by simp
      have q2:(wr.alloc (.cells #[.int .i64 y1,.int .i64 a1,.int .i64 a2,.int .i64 a3] 136)).drew.cell? ⟨wr.heap.size,2,none⟩=some (.int .i64 a2):=by simp
      have q3:(wr.alloc (.cells #[.int .i64 y1,.int .i64 a1,.int .i64 a2,.int .i64 a3] 136)).drew.cell? ⟨wr.heap.size,3,none⟩=some (.int .i64 a3):=by simp
      have hS:wr.heap.size<(wr.alloc (.cells #[.int .i64 y1,.int .i64 a1,.int .i64 a2,.int .i64 a3] 136)).drew.heap.size:=by simp
      have hSB:B<wr.heap.size:=hG1.box.lt;have hSO:∀g,(Value.slice vp G.length vc).ownBlock=some g→g<wr.heap.size:=fun g hg=>by
       rcases hG1.own.2 with⟨e,_⟩|⟨g',cap',cur,hv,_,hh,_⟩
       ·rw[e] at hg;cases hg
       ·rw[hv] at hg;injection hg with hg
        subst hg;exact(Array.getElem?_eq_some_iff.1 hh).1
      generalize (wr.alloc (.cells #[.int .i64 y1,.int .i64 a1,.int .i64 a2,.int .i64 a3] 136)).drew=W3 at *;have HB3:Hid _:=hb3;generalize wr.heap.size=S9 at *;have HG3:Hid (GS w0 W3 B G (.slice vp G.length vc)):=hG3;have cB3:=hG3.box.cell (i:=0) rfl;have fB3:=hG3.box.free 0;clear d0 d1 d2 d3 c0 c1 c2 c3 hG1 cB fB hbne hbw hz9 hb3 hG3 hrv hbr;have hyr:0≤y1∧y1≤6:=⟨HWF2.out.2.1,HWF2.out.2.2.1⟩;have CK:Hid (∀X,Calls Tryz.prog 235 #[.int .i64 y1,.int .i8 t'] X fun e w'=>e=.returned (.int .i64 (kof y1 t'))∧X=w'):=fun X=>zhc y1 t' hyr e2 ht' X
      generalize hKO:kof y1 t'=KO at *;have HKO:Hid (kof y1 t'=KO):=hKO;clear hKO;obtain⟨i0,hi,hz0,hz1,hz2⟩:=info_parts Tryz.infoPart;have h63:G.length+1≤maxLen:=by unfold maxLen;omega
      have hby:(G.length+1)*32≤140737488355328:=by omega
      have hBsz:B+1≤W3.heap.size:=HG3.out.box.lt;have hBsz2:B+1≤((W3.alloc (.cells #[.int .i64 KO,.int .i64 0,.int .i64 0,.int .i8 0] 252)).drew).heap.size:=by simp;omega
      have hsz2:((W3.alloc (.cells #[.int .i64 KO,.int .i64 0,.int .i64 0,.int .i8 0] 252)).drew).heap.size=W3.heap.size+1:=by simp
      have hbl3:Below W3.heap.size W3 ((W3.alloc (.cells #[.int .i64 KO,.int .i64 0,.int .i64 0,.int .i8 0] 252)).drew):=(zaa W3 _).drew;have HG4:Hid (GS w0 ((W3.alloc (.cells #[.int .i64 KO,.int .i64 0,.int .i64 0,.int .i8 0] 252)).drew) B G (.slice vp G.length vc)):=HG3.out.below hbl3;have HN4:Hid (∀j u,[Value.int .i64 KO,.int .i64 0,.int .i64 0,.int .i8 0][j]?=some u→((W3.alloc (.cells #[.int .i64 KO,.int .i64 0,.int .i64 0,.int .i8 0] 252)).drew).cell? ((⟨W3.heap.size,0,none⟩:Addr).add j)=some u):=zgz W3 _ rfl _ _ _ _ _;have HO4:Hid (∀u∈[Value.int .i64 KO,.int .i64 0,.int .i64 0,.int .i8 0],u.oneCell'=true):=fun u hu=>by simp at hu;rcases hu with rfl|rfl|rfl<;>rfl
      have HQ4:Hid (∀o v,W3.cell? ⟨S9,o,none⟩=some v→((W3.alloc (.cells #[.int .i64 KO,.int .i64 0,.int .i64 0,.int .i8 0] 252)).drew).cell? ⟨S9,o,none⟩=some v):=fun o v h=>(hbl3.cell (p:=⟨S9,o,none⟩) hS).trans h
      have HC4:Hid (((W3.alloc (.cells #[.int .i64 KO,.int .i64 0,.int .i64 0,.int .i8 0] 252)).drew).cell? ⟨B,0,none⟩=some (.slice vp G.length vc)):=HG4.out.box.cell (i:=0) rfl;have HF4:Hid (((W3.alloc (.cells #[.int .i64 KO,.int .i64 0,.int .i64 0,.int .i8 0] 252)).drew).frozen? ⟨B,0,none⟩=false):=HG4.out.box.free 0;have HNE:Hid (some B≠(Value.slice vp G.length vc).ownBlock):=fun e=>by have:=zae HG4.out.own B e.symm;omega
      have HBL:Hid (B<((W3.alloc (.cells #[.int .i64 KO,.int .i64 0,.int .i64 0,.int .i8 0] 252)).drew).heap.size):=HG4.out.box.lt;have cB4:∀x,(W3.alloc x).cell? ⟨B,0,none⟩=some (.slice vp G.length vc):=fun x=>((zaa W3 x).cell (p:=⟨B,0,none⟩) HG3.out.box.lt).trans cB3
      clear hbl3
      go_upto_region 5 with fail
      go_cut [] from 31 to 42 (fun wc=>∃g cp,GS w0 wc B (G++[(KO,0,0,0)]) (.slice (some ⟨g,0,none⟩) (G.length+1) cp)∧g≠S9∧wc.cell? ⟨S9,0,none⟩=some (.int .i64 y1)∧wc.cell? ⟨S9,1,none⟩=some (.int .i64 a1)∧wc.cell? ⟨S9,2,none⟩=some (.int .i64 a2)∧wc.cell? ⟨S9,3,none⟩=some (.int .i64 a3)∧S9<wc.heap.size)
      case first =>
       go_region_law (first
        | (refine step_append_lies _ (by rfl) _ _ 177 (by rfl) (B+1) 252 i0 (.agg zZh) 4 32 Tryz.underlying177 hi hz0 hz1 hz2 (by rfl) (by decide) (.slice vp G.length vc) G.length (cellsG G) (by rfl) HG4.out.own ⟨W3.heap.size,0,none⟩ 1 1 [.int .i64 KO,.int .i64 0,.int .i64 0,.int .i8 0] (by rfl) (by rfl) HN4.out HO4.out (by decide) h63 hby hBsz2 (W3.heap.size+1) hsz2 ?_;intro g cp w3 hown3 hgrow3 hat3 hlt3;have hk3:=hgrow3.block B HBL.out HNE.out;have s4:w3.cell? ⟨B,0,none⟩=some (.slice vp G.length vc):=(World.cell?_of_block (a:=⟨B,0,none⟩) hk3).trans HC4.out;have fz3:w3.frozen? ⟨B,0,none⟩=false:=(World.frozen?_of_block (a:=⟨B,0,none⟩) hk3).trans HF4.out)
        | (go_simp;go_at_call 235;refine Calls.mono (CK.out _) ?_;rintro e w1 ⟨rfl,rfl⟩;go_wp2_with fail))
       all_goals
        go_wp2_with fail
        go_meet
        case rel =>
         have hgS:g≠S9:=by
          rcases hat3 with h|h
          ·have:=hSO g h;omega
          ·omega
         have hno:some S9≠(Value.slice vp G.length vc).ownBlock:=fun e=>by have:=hSO S9 e.symm;omega
         have hq:∀o v,W3.cell? ⟨S9,o,none⟩=some v→(w3.setCell ⟨B,0,none⟩ (.slice (some ⟨g,0,none⟩) (G.length+1) cp)).cell? ⟨S9,o,none⟩=some v:=fun o v h=>(World.cell?_of_block (Below.heap_setCell w3 ⟨B,0,none⟩ _ S9 (by dsimp only;omega))).trans ((World.cell?_of_block (a:=⟨S9,o,none⟩) (hgrow3.block S9 (by rw[hsz2];omega) hno)).trans (HQ4.out o v h))
         exact⟨g,cp,HG4.out.put hgrow3 hown3,hgS,hq _ _ q0,hq _ _ q1,hq _ _ q2,hq _ _ q3,by rw[World.size_setCell];have:=hgrow3.size;rw[hsz2] at this;omega⟩
      case rest =>
       clear q0 q1 q2 q3 cB3 fB3 cB4 HN4 HO4 HQ4 HG4 hsz2 hBsz2 HC4 HF4 HNE HBL;obtain⟨g,cp,hG5,hgS,x0,x1,x2,x3,hS5⟩:=hcut;have HG5:Hid _:=hG5;have cB5:=hG5.box.cell (i:=0) rfl;have fB5:=hG5.box.free 0;have hgB:B+1≤g:=zae hG5.own g rfl;obtain⟨g',cp',hv',_,hgw,hgc,_,hgcell,hgf⟩:=zbA hG5.own (by simp);have eg:g=g':=by injection hv' with h1 h2 h3;injection h1 with h1;injection h1 with h1
       subst eg;have HGC:Hid _:=hgcell;have HK1:Hid (∃kk,k-n=kk+1∧kk<k∧r.length≤kk):=⟨k-n-1,by omega,by omega,by have:=HLR.out;omega⟩;have e2':(y1==2)=false:=by simpa using e2
       clear hG5 hgcell;have hxG:(G++[((KO,0,0,0):Pt)])[G.length]?=some (KO,0,0,0):=by simp
       obtain⟨v0,v1,v2,v3⟩:=za6 _ _ _ hxG;have k1:=HGC.out _ _ v1;have k2:=HGC.out _ _ v2;have k3:=HGC.out _ _ v3;have hpl:(G.length:Int)<((G.length+1:Nat):Int):=by omega
       have hpl2:(G.length:Int)<(G.length:Int)+1:=by omega
       have HXG:Hid _:=hxG;clear v0 v1 v2 v3 hxG;by_cases e6:y1=6
       ·subst e6;have CI:Hid (∀X,Below w0.heap.size w0 X→Calls Tryz.prog 173 #[.slice qa us.length ca,.agg #[.int .i64 a1,.int .i64 a2,.int .i64 a3]] X fun e w'=>e=.returned (.int .i64 (nmb us (a1,a2,a3) 0))∧Below X.heap.size X w'):=fun X h=>zeZ _ us a1 a2 a3 X (Atms.below HAT.out h) hus
        generalize hNN:nmb us (a1,a2,a3) 0=NN at *;have HNN2:Hid (nmb us (a1,a2,a3) 0=NN):=hNN;clear hNN;have hb5d:Below w0.heap.size w0 wc.drew:=HG5.out.b0.drew;have hBS:B≠S9:=by omega
        have hBg:B≠g:=by omega
        have hgc:∀w6,Below wc.drew.heap.size wc.drew w6→w6.cell? ⟨B,0,none⟩=some (.slice (some ⟨g,0,none⟩) (G.length+1) cp)∧w6.cell? ⟨S9,1,none⟩=some (.int .i64 a1)∧w6.cell? ⟨S9,2,none⟩=some (.int .i64 a2)∧w6.cell? ⟨S9,3,none⟩=some (.int .i64 a3)∧w6.cell? ⟨g,G.length*4+2,none⟩=some (.int .i64 0)∧w6.cell? ⟨g,G.length*4+3,none⟩=some (.int .i8 0)∧(∀o,w6.frozen? ⟨g,o,none⟩=false)∧GS w0 w6 B (G++[(KO,0,0,0)]) (.slice (some ⟨g,0,none⟩) (G.length+1) cp):=fun w6 h6 =>
         ⟨(h6.cell (p:=⟨B,0,none⟩) HG5.out.box.lt).trans cB5,(h6.cell (p:=⟨S9,1,none⟩) hS5).trans x1,(h6.cell (p:=⟨S9,2,none⟩) hS5).trans x2,(h6.cell (p:=⟨S9,3,none⟩) hS5).trans x3,(h6.cell (p:=⟨g,_,none⟩) hgw).trans k2,(h6.cell (p:=⟨g,_,none⟩) hgw).trans k3,fun o=>(World.frozen?_of_block (a:=⟨g,o,none⟩) (h6.block g hgw)).trans (hgf o),HG5.out.below ((Below.refl _ wc).drew.trans h6)⟩
        have HGX:Hid _:=hgc;clear hgc;go_wp2_with fail;go_region_held3 (fun X=>X.cell? ⟨B,0,none⟩=some (.slice (some ⟨g,0,none⟩) (G.length+1) cp)∧X.cell? ⟨S9,1,none⟩=some (.int .i64 a1)∧X.cell? ⟨S9,2,none⟩=some (.int .i64 a2)∧X.cell? ⟨S9,3,none⟩=some (.int .i64 a3)) (first|exact⟨cB5,x1,x2,x3⟩|exact⟨z1,z2,z3,z4⟩|exact⟨(World.cell?_of_block (Below.heap_setCell w6 ⟨g,G.length*4+2,none⟩ _ B hBg)).trans z1,(World.cell?_of_block (Below.heap_setCell w6 ⟨g,G.length*4+2,none⟩ _ S9 (fun e=>hgS e.symm))).trans z2,(World.cell?_of_block (Below.heap_setCell w6 ⟨g,G.length*4+2,none⟩ _ S9 (fun e=>hgS e.symm))).trans z3,(World.cell?_of_block (Below.heap_setCell w6 ⟨g,G.length*4+2,none⟩ _ S9 (fun e=>hgS e.symm))).trans z4⟩) (first|(go_at_call 173;refine(CI.out _ hb5d).mono ?_;rintro e w6 ⟨rfl,hb6⟩;obtain⟨z1,z2,z3,z4,z5,z6,z7,z8⟩:=HGX.out w6 hb6;have z7':=z7 (G.length*4+2)));have hBg':¬g=B:=fun e=>hBg e.symm
        have m1:(w6.setCell ⟨g,G.length*4+2,none⟩ (.int .i64 NN)).cell? ⟨B,0,none⟩=some (.slice (some ⟨g,0,none⟩) (G.length+1) cp):=(World.cell?_of_block (Below.heap_setCell w6 ⟨g,G.length*4+2,none⟩ _ B hBg)).trans z1;have m2:(w6.setCell ⟨g,G.length*4+2,none⟩ (.int .i64 NN)).cell? ⟨g,G.length*4+3,none⟩=some (.int .i8 0):=(zcC w6 g _ _ _ (by omega)).trans z6;have m3:(w6.setCell ⟨g,G.length*4+2,none⟩ (.int .i64 NN)).frozen? ⟨g,G.length*4+3,none⟩=false:=by rw[World.frozen?_setCell];exact z7 _
        have hset:∀x y:Pt,(G++[x]).set G.length y=G++[y]:=fun x y=>by simp
        have HG7:Hid (GS w0 ((w6.setCell ⟨g,G.length*4+2,none⟩ (.int .i64 NN)).setCell ⟨g,G.length*4+3,none⟩ (.int .i8 t')) B (G++[(KO,0,NN,t')]) (.slice (some ⟨g,0,none⟩) (G.length+1) cp)):=by
         have h1:=z8.set (g:=g) (y:=(KO,0,NN,0)) rfl 2 (.int .i64 NN) HXG.out rfl (by decide);rw[hset] at h1;have h2:=h1.set (g:=g) (p:=G.length) (x:=(KO,0,NN,0)) (y:=(KO,0,NN,t')) rfl 3 (.int .i8 t') (by simp) rfl (by decide);rw[hset] at h2;exact h2
        have HE:Hid ((gad us k l t G.length).2=r∧(gad us k l t G.length).1=[(KO,0,NN,t')]):=by
         obtain⟨kk,ek,_⟩:=HK1.out;have e:gad us (kk+1) ((6,a1,a2,a3)::r) t' G.length=([(4,0,nmb us (a1,a2,a3) 0,t')],r):=by simp only[gad,if_neg e2,if_true]
         have e4:KO=4:=HKO.out.symm;show _∧_
         rw[HGAD.out,ek,e,HNN2.out,e4];exact⟨rfl,rfl⟩
        clear z2 z3 z4 z5 z6 z7 z8 z1 z7' hset x1 x2 x3 k1 k2 k3 hgf cB5;go_wp2_with fail;go_ret;exact⟨_,_,rfl,by rw[HE.out.1];exact HRV.out,by rw[HE.out.2];exact HG7.out⟩
       ·by_cases e3:y1=3∨y1=4∨y1=5
        ·have hyr2:r.length≤8000:=by have:=HLR.out;omega
         obtain⟨kk,ek,hkk,hrk⟩:=HK1.out;have hprt:prt y1=2:=by rcases e3 with h|h|h<;>(rw[h];rfl)
         have HWR:Hid (WF (m+1) r):=by
          have h:=HWF2.out.2.2.2;show WF (m+1) r
          rw[hprt,show m+2-1=m+1 by omega] at h;exact h
         have ht1:(if y1=5 then tnot t' else t')=1∨(if y1=5 then tnot t' else t')=2:=by
          split
          ·rcases ht' with rfl|rfl;exact Or.inr rfl;exact Or.inl rfl
          ·exact ht'
         have hur:∀y∈r,y.1=6→y.2∈us:=fun y hy=>HU.out y (HIN.out y (List.mem_cons_of_mem _ hy))
         obtain⟨j1,j2,j3,j4,_⟩:=zb6 us (fun _=>0) (fun _=>Or.inl rfl) [] (fun a _=>by simp) kk r (if y1=5 then tnot t' else t') (G.length+1) (m+1) ht1 HWR.out (by omega) hrk hur;have gs1:=zcF us kk r (if y1=5 then tnot t' else t') (G.length+1);have C1:Hid (∀X v,GS w0 X B (G++[(KO,0,0,0)]) v→Calls Tryz.prog 178 #[.pointer (some ⟨B,0,none⟩),.slice rp r.length rc,.slice qa us.length ca,.int .i8 (if y1=5 then tnot t' else t')] X fun e w'=>∃rv v',e=.returned rv∧CdS w0 rv (gad us kk r (if y1=5 then tnot t' else t') (G.length+1)).2∧GS w0 w' B (G++[(KO,0,0,0)]++(gad us kk r (if y1=5 then tnot t' else t') (G.length+1)).1) v'):=fun X v hX=>by
          have h:=HIH.out kk hkk X B (G++[(KO,0,0,0)]) v _ r (if y1=5 then tnot t' else t') (m+1) hX HRV.out HWR.out (by omega) hrk hur ht1 (by rw[List.length_append];show G.length+1+r.length≤8000;have:=HLR.out;omega);rw[List.length_append,show G.length+[((KO,0,0,0):Pt)].length=G.length+1 from rfl] at h;exact h
         have HE:Hid (gad us k l t G.length=((KO,((G.length+1+(gad us kk r (if y1=5 then tnot t' else t') (G.length+1)).1.length:Nat):Int),0,0)::((gad us kk r (if y1=5 then tnot t' else t') (G.length+1)).1++(gad us kk (gad us kk r (if y1=5 then tnot t' else t') (G.length+1)).2 t' (G.length+1+(gad us kk r (if y1=5 then tnot t' else t') (G.length+1)).1.length)).1),(gad us kk (gad us kk r (if y1=5 then tnot t' else t') (G.length+1)).2 t' (G.length+1+(gad us kk r (if y1=5 then tnot t' else t') (G.length+1)).1.length)).2)):=by
          show _=_
          rw[HGAD.out,ek,←HKO.out];simp only[gad,if_neg e2,if_neg e6,if_pos e3]
         generalize gad us kk r (if y1=5 then tnot t' else t') (G.length+1)=G1 at *;have C2:Hid (∀X v rv p,GS w0 X B (G++p::G1.1) v→CdS w0 rv G1.2→Calls Tryz.prog 178 #[.pointer (some ⟨B,0,none⟩),rv,.slice qa us.length ca,.int .i8 t'] X fun e w'=>∃rv v',e=.returned rv∧CdS w0 rv (gad us kk G1.2 t' (G.length+1+G1.1.length)).2∧GS w0 w' B (G++p::G1.1++(gad us kk G1.2 t' (G.length+1+G1.1.length)).1) v'):=fun X v rv p hX hrv=>by
          have h:=HIH.out kk hkk X B (G++p::G1.1) v rv G1.2 t' m hX hrv (by rw[show m=m+1-1 by omega];exact j1) hm (by omega) (fun y hy=>hur y (j3 y hy)) ht' (by rw[List.length_append,List.length_cons];have:=HLR.out;omega);rw[show(G++p::G1.1).length=G.length+1+G1.1.length by rw[List.length_append,List.length_cons];omega] at h;exact h
         have hG1l:G1.1.length≤8000:=by omega
         generalize hTF:(if y1=5 then tnot t' else t')=TF at *;have HTF:Hid _:=hTF;clear hTF ht1 j1 j2 j3 j4 gs1 hur;rcases e3 with rfl|rfl|rfl
         ·have eTF:TF=t':=HTF.out.symm;subst eTF;go_wp2_with fail;refine Calls.mono (C1.out _ _ HG5.out) ?_;rintro e w6 ⟨rv1,v1,rfl,hrv1,hG6⟩;obtain⟨rp1,rc1,rfl⟩:=hrv1.shape;have HRV1:Hid _:=hrv1;obtain⟨g6,cp6,hv6,_,hgw6,hgc6,_,hgcell6,hgf6⟩:=zbA hG6.own (by simp;omega);have hgB6:B+1≤g6:=zae hG6.own g6 (by rw[hv6];rfl);have hl6:(G++[((KO,0,0,0):Pt)]++G1.1).length=G.length+1+G1.1.length:=by simp[List.length_append];omega
          rw[hl6] at hv6;subst hv6;have cB6:=hG6.box.cell (i:=0) rfl;have hx6:(G++[((KO,0,0,0):Pt)]++G1.1)[G.length]?=some (KO,0,0,0):=by simp
          have k6:=hgcell6 _ _ (za6 _ _ _ hx6).2.1;have f6:=hgf6 (G.length*4+1);have HG7:Hid (GS w0 (w6.setCell ⟨g6,G.length*4+1,none⟩ (.int .i64 ((G.length+1+G1.1.length:Nat):Int))) B (G++(KO,((G.length+1+G1.1.length:Nat):Int),0,0)::G1.1) (.slice (some ⟨g6,0,none⟩) (G.length+1+G1.1.length) cp6)):=by
           have h1:=hG6.set (g:=g6) (y:=(KO,((G.length+1+G1.1.length:Nat):Int),0,0)) rfl 1 (.int .i64 ((G.length+1+G1.1.length:Nat):Int)) hx6 rfl (by decide);have e:(G++[((KO,0,0,0):Pt)]++G1.1).set G.length (KO,((G.length+1+G1.1.length:Nat):Int),0,0)=G++(KO,((G.length+1+G1.1.length:Nat):Int),0,0)::G1.1:=by simp
           rw[e] at h1;exact h1
          have hp6:(G.length:Int)<((G.length+1+G1.1.length:Nat):Int):=by omega
          have hBg6:¬B=g6:=by omega
          have hgB6':¬g6=B:=by omega
          have hM6:G.length<G.length+1+G1.1.length:=by omega
          clear hG6 hgcell6 hgf6 hx6 hl6 hrv1 cB5 x0 x1 x2 x3 k1 k2 k3 hgf fB5;generalize hM:G.length+1+G1.1.length=M at *;have HM:Hid (G.length+1+G1.1.length=M):=hM;clear hM;go_wp2_with fail;go_region;go_wp2_with fail;refine Calls.mono (C2.out _ _ _ _ (HG7.out.below (Below.refl _ _).drew) HRV1.out) ?_;rintro e w8 ⟨rv2,v2,rfl,hrv2,hG8⟩;obtain⟨rp2,rc2,rfl⟩:=hrv2.shape;have HRV2:Hid _:=hrv2;have HG8:Hid _:=hG8;clear hrv2 hG8;go_wp2_with fail;go_ret;have eA:∀(p:Pt) (X:List Pt),G++p::(G1.1++X)=G++p::G1.1++X:=fun p X=>by simp
          first
           | exact⟨_,_,rfl,by rw[HE.out];exact HRV2.out,by rw[HE.out];dsimp only;rw[eA];exact HG8.out⟩
           | exact⟨_,rfl,by rw[HE.out];exact HRV2.out,_,by rw[HE.out];dsimp only;rw[eA];exact HG8.out⟩
         ·have eTF:TF=t':=HTF.out.symm;subst eTF;go_wp2_with fail;refine Calls.mono (C1.out _ _ HG5.out) ?_;rintro e w6 ⟨rv1,v1,rfl,hrv1,hG6⟩;obtain⟨rp1,rc1,rfl⟩:=hrv1.shape;have HRV1:Hid _:=hrv1;obtain⟨g6,cp6,hv6,_,hgw6,hgc6,_,hgcell6,hgf6⟩:=zbA hG6.own (by simp;omega);have hgB6:B+1≤g6:=zae hG6.own g6 (by rw[hv6];rfl);have hl6:(G++[((KO,0,0,0):Pt)]++G1.1).length=G.length+1+G1.1.length:=by simp[List.length_append];omega
          rw[hl6] at hv6;subst hv6;have cB6:=hG6.box.cell (i:=0) rfl;have hx6:(G++[((KO,0,0,0):Pt)]++G1.1)[G.length]?=some (KO,0,0,0):=by simp
          have k6:=hgcell6 _ _ (za6 _ _ _ hx6).2.1;have f6:=hgf6 (G.length*4+1);have HG7:Hid (GS w0 (w6.setCell ⟨g6,G.length*4+1,none⟩ (.int .i64 ((G.length+1+G1.1.length:Nat):Int))) B (G++(KO,((G.length+1+G1.1.length:Nat):Int),0,0)::G1.1) (.slice (some ⟨g6,0,none⟩) (G.length+1+G1.1.length) cp6)):=by
           have h1:=hG6.set (g:=g6) (y:=(KO,((G.length+1+G1.1.length:Nat):Int),0,0)) rfl 1 (.int .i64 ((G.length+1+G1.1.length:Nat):Int)) hx6 rfl (by decide);have e:(G++[((KO,0,0,0):Pt)]++G1.1).set G.length (KO,((G.length+1+G1.1.length:Nat):Int),0,0)=G++(KO,((G.length+1+G1.1.length:Nat):Int),0,0)::G1.1:=by simp
           rw[e] at h1;exact h1
          have hp6:(G.length:Int)<((G.length+1+G1.1.length:Nat):Int):=by omega
          have hBg6:¬B=g6:=by omega
          have hgB6':¬g6=B:=by omega
          have hM6:G.length<G.length+1+G1.1.length:=by omega
          clear hG6 hgcell6 hgf6 hx6 hl6 hrv1 cB5 x0 x1 x2 x3 k1 k2 k3 hgf fB5;generalize hM:G.length+1+G1.1.length=M at *;have HM:Hid (G.length+1+G1.1.length=M):=hM;clear hM;go_wp2_with fail;go_region;go_wp2_with fail;refine Calls.mono (C2.out _ _ _ _ (HG7.out.below (Below.refl _ _).drew) HRV1.out) ?_;rintro e w8 ⟨rv2,v2,rfl,hrv2,hG8⟩;obtain⟨rp2,rc2,rfl⟩:=hrv2.shape;have HRV2:Hid _:=hrv2;have HG8:Hid _:=hG8;clear hrv2 hG8;go_wp2_with fail;go_ret;have eA:∀(p:Pt) (X:List Pt),G++p::(G1.1++X)=G++p::G1.1++X:=fun p X=>by simp
          first
           | exact⟨_,_,rfl,by rw[HE.out];exact HRV2.out,by rw[HE.out];dsimp only;rw[eA];exact HG8.out⟩
           | exact⟨_,rfl,by rw[HE.out];exact HRV2.out,_,by rw[HE.out];dsimp only;rw[eA];exact HG8.out⟩
         ·have eTF:tnot t'=TF:=HTF.out;have CN1:Hid (∀w,Calls Tryz.prog 167 #[.int .i8 t'] w fun e w'=>e=.returned (.int .i8 TF)∧w=w'):=fun w=>by have h:=CN.out t' w ht';rw[eTF] at h;exact h
          clear eTF;go_wp2_with (first|(go_at_call 167;refine(CN1.out _).mono ?_;rintro e w' ⟨rfl,rfl⟩));refine Calls.mono (C1.out _ _ HG5.out) ?_;rintro e w6 ⟨rv1,v1,rfl,hrv1,hG6⟩;obtain⟨rp1,rc1,rfl⟩:=hrv1.shape;have HRV1:Hid _:=hrv1;obtain⟨g6,cp6,hv6,_,hgw6,hgc6,_,hgcell6,hgf6⟩:=zbA hG6.own (by simp;omega);have hgB6:B+1≤g6:=zae hG6.own g6 (by rw[hv6];rfl);have hl6:(G++[((KO,0,0,0):Pt)]++G1.1).length=G.length+1+G1.1.length:=by simp[List.length_append];omega
          rw[hl6] at hv6;subst hv6;have cB6:=hG6.box.cell (i:=0) rfl;have hx6:(G++[((KO,0,0,0):Pt)]++G1.1)[G.length]?=some (KO,0,0,0):=by simp
          have k6:=hgcell6 _ _ (za6 _ _ _ hx6).2.1;have f6:=hgf6 (G.length*4+1);have HG7:Hid (GS w0 (w6.setCell ⟨g6,G.length*4+1,none⟩ (.int .i64 ((G.length+1+G1.1.length:Nat):Int))) B (G++(KO,((G.length+1+G1.1.length:Nat):Int),0,0)::G1.1) (.slice (some ⟨g6,0,none⟩) (G.length+1+G1.1.length) cp6)):=by
           have h1:=hG6.set (g:=g6) (y:=(KO,((G.length+1+G1.1.length:Nat):Int),0,0)) rfl 1 (.int .i64 ((G.length+1+G1.1.length:Nat):Int)) hx6 rfl (by decide);have e:(G++[((KO,0,0,0):Pt)]++G1.1).set G.length (KO,((G.length+1+G1.1.length:Nat):Int),0,0)=G++(KO,((G.length+1+G1.1.length:Nat):Int),0,0)::G1.1:=by simp
           rw[e] at h1;exact h1
          have hp6:(G.length:Int)<((G.length+1+G1.1.length:Nat):Int):=by omega
          have hBg6:¬B=g6:=by omega
          have hgB6':¬g6=B:=by omega
          have hM6:G.length<G.length+1+G1.1.length:=by omega
          clear hG6 hgcell6 hgf6 hx6 hl6 hrv1 cB5 x0 x1 x2 x3 k1 k2 k3 hgf fB5;generalize hM:G.length+1+G1.1.length=M at *;have HM:Hid (G.length+1+G1.1.length=M):=hM;clear hM;go_wp2_with fail;go_region;go_wp2_with fail;refine Calls.mono (C2.out _ _ _ _ (HG7.out.below (Below.refl _ _).drew) HRV1.out) ?_;rintro e w8 ⟨rv2,v2,rfl,hrv2,hG8⟩;obtain⟨rp2,rc2,rfl⟩:=hrv2.shape;have HRV2:Hid _:=hrv2;have HG8:Hid _:=hG8;clear hrv2 hG8;go_wp2_with fail;go_ret;have eA:∀(p:Pt) (X:List Pt),G++p::(G1.1++X)=G++p::G1.1++X:=fun p X=>by simp
          first
           | exact⟨_,_,rfl,by rw[HE.out];exact HRV2.out,by rw[HE.out];dsimp only;rw[eA];exact HG8.out⟩
           | exact⟨_,rfl,by rw[HE.out];exact HRV2.out,_,by rw[HE.out];dsimp only;rw[eA];exact HG8.out⟩
        ·have hy01:y1=0∨y1=1:=by omega
         have HE:Hid ((gad us k l t G.length).2=r∧(gad us k l t G.length).1=[(KO,0,0,0)]):=by
          obtain⟨kk,ek,_⟩:=HK1.out;have e:gad us (kk+1) ((y1,a1,a2,a3)::r) t' G.length=([(kof y1 t',0,0,0)],r):=by simp only[gad,if_neg e2,if_neg e6,if_neg e3]
          show _∧_
          rw[HGAD.out,ek,e,HKO.out];exact⟨rfl,rfl⟩
         rcases hy01 with rfl|rfl
         all_goals
          go_wp2_with fail;go_ret;exact⟨_,rfl,by rw[HE.out.1];exact HRV.out,_,by rw[HE.out.2];exact HG5.out⟩
theorem zj7 (w0:World) (us:List Atm) (qa:Option Addr) (ca:Nat) (hat:Atms w0 (.slice qa us.length ca) us) (hus:us.length≤4000) (k:Nat):AddC w0 us qa ca k:=by
 induction k using Nat.strongRecOn with
 | ind k ih=>exact zj6 w0 us qa ca hat hus k ih
theorem zg4 (w:World) (us:List Atm) (qa:Option Addr) (ca:Nat) (lv:Value) (ys:List Sym) (hat:Atms w (.slice qa us.length ca) us) (hus:us.length≤4000) (hl:CdS w lv ys) (hwf:WF 1 ys) (hu:∀y∈ys,y.1=6→y.2∈us) (hn:ys.length≤8000) :
 Calls Tryz.prog 127 #[lv,.slice qa us.length ca] w fun e w'=>∃gb cg,e=.returned (.slice (some ⟨gb,0,none⟩) (gad us ys.length ys 2 0).1.length cg)∧w.heap.size≤gb∧(gad us ys.length ys 2 0).1.length≤cg∧Gol w' gb (gad us ys.length ys 2 0).1∧Below w.heap.size w w':=by
 have hG:GS w (w.alloc (.cells #[.slice none 0 0] 177)) w.heap.size [] (.slice none 0 0):=⟨zaa w _,Nat.le_refl _,heap_alloc_new w _,World.ownsRow_nil _ _ _ _⟩;have CA:Hid (Calls Tryz.prog 178 #[.pointer (some ⟨w.heap.size,0,none⟩),lv,.slice qa us.length ca,.int .i8 2] (w.alloc (.cells #[.slice none 0 0] 177)) fun e w'=>∃rv v',e=.returned rv∧CdS w rv (gad us ys.length ys 2 0).2∧GS w w' w.heap.size ([]++(gad us ys.length ys 2 0).1) v'):=zj7 w us qa ca hat hus ys.length _ _ [] _ lv ys 2 1 hG hl hwf (by omega) (Nat.le_refl _) hu (Or.inr rfl) (by simpa using hn);obtain⟨_,_,_,hne,_⟩:=zb6 us (fun _=>0) (fun _=>Or.inl rfl) [] (fun a _=>by simp) ys.length ys 2 0 1 (Or.inr rfl) hwf (by omega) (Nat.le_refl _) hu;obtain⟨lp,lc,rfl⟩:=hl.shape;have HNE:Hid _:=hne;clear hG hl hwf hu hat hne;generalize gad us ys.length ys 2 0=GG at *;go_enter Tryz.func127,Tryz.ntmps127;go_wp2_with fail;refine Calls.mono CA.out ?_;rintro e w1 ⟨rv,v,rfl,hrv,hG1⟩;rw[List.nil_append] at hG1;have cB:=hG1.box.cell (i:=0) rfl;obtain⟨gb,cg,rfl,h1,h2,h3,h4⟩:=zk3 hG1.own HNE.out;have HB:Hid (Below w.heap.size w w1):=hG1.b0;have H4:Hid _:=h4;clear hG1 h4;go_wp2_with fail;go_ret;exact⟨gb,cg,rfl,by omega,h2,H4.out,HB.out⟩
theorem zkN {s:ByteArray}:∀(ys:List Sym) (k:Nat) (m:Int) (ps:List Nat),0≤m→Pos s k m ys ps→WF m ys
 | [],k,m,ps,_,h=>by obtain⟨_,_,rfl⟩:=h;rfl
 | y::r,k,m,ps,hm,h=>by
  obtain⟨j,ps',rfl,hk,hm0,hs,hp⟩:=h;have hr:=zcm hk hs;have hpr:=zaZ y.1;exact⟨by omega,hr.1,hr.2,zkN r (k+j) _ ps' (by omega) hp⟩
theorem zfW {s:ByteArray} {ys:List Sym} (h:pars s=some ys):WF 1 ys:=by
 obtain⟨_,hprs,_,_⟩:=zaB h;obtain⟨ps,hps⟩:=zcy s ys 0 1 (Nat.zero_le _) hprs;exact zkN ys 0 1 ps (by decide) hps
theorem zlw (n:Int):1≤(Lib.itoa n).length:=by
 unfold Lib.itoa;split
 ·simp
 ·exact List.length_pos_iff.2 (zbC _).1
theorem ziL {l:List UInt8} {q:Atm} {k:Nat} (h:atm l=some (q,k)):7≤k:=by
 obtain⟨a,c,n,tail,hf,_,ht⟩:=zgt h;have h1:=congrArg List.length hf.1;have h2:=congrArg List.length ht;have h3:=zlw n;simp only[List.length_cons,List.length_append,List.length_drop] at h1 h2;omega
def ats6 (ys:List Sym):Nat:=ys.countP fun y=>y.1==6
theorem ziM {s:ByteArray}:∀(ys:List Sym) (k:Nat) (m:Int) (ps:List Nat),Pos s k m ys ps→k+7*ats6 ys≤s.size
 | [],k,m,ps,h=>by obtain⟨_,h,_⟩:=h;simp[ats6];omega
 | y::r,k,m,ps,h=>by
  obtain⟨j,ps',rfl,hk,hm0,hs,hp⟩:=h;have ih:=ziM r (k+j) _ ps' hp;have e:ats6 (y::r)=ats6 r+if y.1=6 then 1 else 0:=by
   unfold ats6;rw[List.countP_cons];by_cases h6:y.1=6<;>simp[h6]
  rw[e];by_cases h6:y.1=6
  ·rw[if_pos h6];have hj:7≤j:=by
    cases hl:rest s k with
    | nil=>rw[hl] at hs;cases hs
    | cons c q =>
     rw[hl] at hs;simp only[sym] at hs;split at hs
     ·injection hs with hs
      injection hs with h1 h2
      rw[←h1] at h6;have:=zlG (c.toNat:Int);dsimp only at h6;omega
     ·obtain⟨q',h1,h2⟩:=Option.map_eq_some_iff.1 hs;injection h2 with h2 h3
      have:=ziL (q:=q'.1) (k:=q'.2) h1;omega
   omega
  ·rw[if_neg h6];omega
theorem ziN:∀(ds:List Sym) (l:List Atm),(ds.foldl addA l).length≤l.length+ats6 ds
 | [],l=>by simp[ats6]
 | y::r,l=>by
  have ih:=ziN r (addA l y);have e:ats6 (y::r)=ats6 r+if y.1=6 then 1 else 0:=by
   unfold ats6;rw[List.countP_cons];by_cases h6:y.1=6<;>simp[h6]
  rw[List.foldl_cons,e];have h2:(addA l y).length≤l.length+if y.1=6 then 1 else 0:=by
   unfold addA;split
   ·split<;>simp
   ·simp
  omega
theorem zex {s:ByteArray} {ys:List Sym} (h:pars s=some ys):(uqs ys).length≤571:=by
 obtain⟨hs4,hprs,_,_⟩:=zaB h;obtain⟨ps,hps⟩:=zcy s ys 0 1 (Nat.zero_le _) hprs;have h1:=ziM ys 0 1 ps hps;have h2:=ziN ys [];unfold uqs;simp only[List.length_nil] at h2;omega
theorem zgy {s:ByteArray} {ys:List Sym} (h:pars s=some ys):ys.length≤4000:=by
 obtain⟨hs4,hprs,_,_⟩:=zaB h;obtain⟨ps,hps⟩:=zcy s ys 0 1 (Nat.zero_le _) hprs;have:=zco ys 0 1 ps hps;omega
theorem zde {ys:List Sym}:∀y∈ys,y.1=6→y.2∈uqs ys:=by
 intro y hy h6;have h:=zmF ys y hy h6;rcases zcn (uqs ys) y.2 0 with⟨h1,_⟩|⟨h1,_⟩
 ·omega
 ·exact h1
theorem zfe (us:List Atm):∀(k:Nat) (l:List Sym) (w:Int) (p:Nat),(gad us k l w p).1.length+(gad us k l w p).2.length≤l.length
 | 0,l,w,p=>by simp[gad]
 | k+1,[],w,p=>by simp[gad]
 | k+1,y::r,w,p=>by
  unfold gad;split
  ·have:=zfe us k r (tnot w) p;simp only[List.length_cons];omega
  ·split
   ·simp;omega
   ·split
    ·have h1:=zfe us k r (if y.1=5 then tnot w else w) (p+1);have h2:=zfe us k (gad us k r (if y.1=5 then tnot w else w) (p+1)).2 w (p+1+(gad us k r (if y.1=5 then tnot w else w) (p+1)).1.length);simp only[List.length_cons,List.length_append];omega
    ·simp;omega
theorem PC.pars {s:ByteArray} {ys:List Sym} (h:pars s=some ys):PC (uqs ys) ys (gad (uqs ys) ys.length ys 2 0).1:=by
 have hl:=zgy h;have hg:=zfe (uqs ys) ys.length ys 2 0;exact PC.of (zjc ys) (by have:=zex h;omega) (zaB h).2.2.2 (zfW h) (Nat.le_refl _) zde (by omega)
end Go.Proofs.YtkinoehmcfhgbaaGreatDoor.Vl
