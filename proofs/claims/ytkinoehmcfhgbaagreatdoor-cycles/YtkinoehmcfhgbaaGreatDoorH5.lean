/- A part of the proof. -/
import Derived.Test.YtkinoehmcfhgbaaGreatDoorH13
set_option linter.unusedVariables false
set_option linter.unusedSimpArgs false
set_option maxRecDepth 100000
set_option maxHeartbeats 8000000
namespace Go.Proofs.YtkinoehmcfhgbaaGreatDoor.Vl
open Go.RowKit Go.Shelf
attribute [local go_sem] Oper.semAt_some
structure TrI (w:World) (gb qb tb cg:Nat) (us:Nat) (g:List Pt) (F:List Int) (pre:List (Nat×Pt)) (W:World):Prop where
 fr:FrX [qb] w W
 b0:Blk W w.heap.size 178 [.slice (some ⟨qb,0,none⟩) g.length g.length]
 b1:Blk W (w.heap.size+1) 178 [.slice (some ⟨tb,0,none⟩) us us]
 b2:Blk W (w.heap.size+1+1) 177 [.slice (some ⟨gb,0,none⟩) g.length cg]
 pts:∃(k:Nat) (P:List Int),k≤g.length∧pre=cameG g k∧P.length=g.length∧Blk W qb 159 (P.map tv8)∧∀j,k≤j→P.getD j 0=F.getD j 0
theorem FrX.ownF {M:List Nat} {w X Y:World} {row:Option Nat} (h:FrX M w X) (hg:X.grownBy Y row) (hr:∀r,row=some r→w.heap.size≤r):FrX M w Y :=
 ⟨hg.os.trans h.os,hg.tape.trans h.tape,hg.output.trans h.output,Nat.le_trans h.size hg.size,fun k hk hM=>(hg.block k (Nat.lt_of_lt_of_le hk h.size) (fun e=>by have:=hr k e.symm;omega)).trans (h.block k hk hM)⟩
theorem Blk.ownF {X Y:World} {row:Option Nat} {b:Nat} {ty:TypeId} {cs:List Value} (h:Blk X b ty cs) (hg:X.grownBy Y row) (hr:∀r,row=some r→∃o:Obj,X.heap[r]?=some o∧o.isCells=false):Blk Y b ty cs:=(grownBy_keeps_cells hg hr h rfl).trans h
theorem zlP {w W0:World} {gb qb tb cg us:Nat} {g:List Pt} {F:List Int} (hz:w.heap.size≤W0.heap.size):OwnFrom W0.heap.size (TrI w gb qb tb cg us g F):=by
 intro s X Y row hs hg hr;have hr2:∀r,row=some r→∃o:Obj,X.heap[r]?=some o∧o.isCells=false:=fun r e=>(hr r e).2
 obtain⟨k,P,h1,h2,h3,h4,h5⟩:=hs.pts;exact⟨hs.fr.ownF hg (fun r e=>by have:=(hr r e).1;omega),hs.b0.ownF hg hr2,hs.b1.ownF hg hr2,hs.b2.ownF hg hr2,k,P,h1,h2,h3,h4.ownF hg hr2,h5⟩
theorem zak (W:World) (b k:Nat) (v:Value) (b' o:Nat) (h:b'≠b):(W.setCell ⟨b,k,none⟩ v).drew.cell? ⟨b',o,none⟩=W.cell? ⟨b',o,none⟩:=World.cell?_of_block (Below.heap_setCell W ⟨b,k,none⟩ v b' h)
theorem zaK (W:World) (b k:Nat) (v:Value) (o:Nat) (h:k≠o):(W.setCell ⟨b,k,none⟩ v).drew.cell? ⟨b,o,none⟩=W.cell? ⟨b,o,none⟩:=zcZ W b o k v h
theorem zfP {w W W1:World} {gb qb tb cg us B k:Nat} {g:List Pt} {F P1:List Int} {pre:List (Nat×Pt)} {y:Pt} (h:TrI w gb qb tb cg us g F pre W) (hp:pre=cameG g (k+1)) (hk:k<g.length) (hy:g[k]?=some y) (hq:qb<w.heap.size) (hg:gb<w.heap.size) (hne:gb≠qb)
 (hF:FrX [qb] W W1) (hB:Blk W1 qb 159 (P1.map tv8)) (hl:P1.length=g.length) (hj:∀j,k+1≤j→P1.getD j 0=F.getD j 0) {v:Int} (hv:v=F.getD k 0) :
 KeepsFrom B W (W1.setCell ⟨qb,k,none⟩ (.int .i8 v))∧KpG gb (w.heap.size+1+1) W (W1.setCell ⟨qb,k,none⟩ (.int .i8 v))∧TrI w gb qb tb cg us g F (pre++[(k,y)]) (W1.setCell ⟨qb,k,none⟩ (.int .i8 v)):=by
 have hF2:FrX [qb] W (W1.setCell ⟨qb,k,none⟩ (.int .i8 v)):=hF.trans (zap W1 qb k _);have hqW:qb<W.heap.size:=Nat.lt_of_lt_of_le hq h.fr.size;have b0l:=h.b0.lt;have b1l:=h.b1.lt;have b2l:=h.b2.lt;refine⟨⟨hF2.size,fun j o hj1 hj2 ho=>?_⟩,⟨fun o=>hF2.cell o (Nat.lt_of_lt_of_le hg h.fr.size) (by simp[hne]),hF2.cell 0 b2l (by simp;omega)⟩,⟨h.fr.trans hF2,h.b0.fr hF2 (by simp;omega),h.b1.fr hF2 (by simp;omega),h.b2.fr hF2 (by simp;omega),k,P1.set k v,by omega,?_,by rw[List.length_set];exact hl,?_,fun j hjk=>?_⟩⟩
 ·have hlt:j<W.heap.size:=(Array.getElem?_eq_some_iff.1 hj2).1;refine(hF2.block j hlt ?_).trans hj2;intro e;obtain rfl:=List.mem_singleton.1 e;obtain⟨_,P,_,_,_,hb,_⟩:=h.pts;have hb':W.heap[j]?=some (.cells (P.map tv8).toArray 159):=hb;rw[hj2] at hb';cases hb'
  cases ho
 ·rw[hp];exact(zbG g k hk y hy).symm
 ·have:=hB.set k (.int .i8 v);rw[List.map_set];exact this
 ·rw[List.getD_eq_getElem?_getD,List.getElem?_set];split
  ·rename_i e
   subst e;rw[if_pos (by omega),Option.getD_some,hv]
  ·rw[←List.getD_eq_getElem?_getD];exact hj j (by omega)
theorem zh7 (w:World) (gb qb tb cg:Nat) (us:List Atm) (g:List Pt) (ats parts:List Int) (hgl:g.length≤8000) (hGW:GW us.length g) (hol:Gol w gb g) (hne:gb≠qb) (hqt:qb≠tb) (hP:Blk w qb 159 (parts.map tv8)) (hpl:parts.length=g.length) (hT:Blk w tb 159 (ats.map tv8)) (hal:ats.length=us.length) (h3:∀t∈ats,T3 t) :
 CallsIn Fence.wide 9 Tryz.prog 180 #[.slice (some ⟨gb,0,none⟩) g.length cg,.slice (some ⟨qb,0,none⟩) g.length g.length,.slice (some ⟨tb,0,none⟩) us.length us.length] w fun e w'=>e=.returned (.tuple #[])∧Blk w' qb 159 ((gtr ats 0 g).map tv8)∧FrX [qb] w w':=by
 refine callsIn_of_wp_marks Tryz.func180 rfl trivial ?_ rfl;simp only[Tryz.ntmps180,List.size_toArray,List.length_cons,List.length_nil,Nat.reduceAdd,Nat.reduceSub,Array.replicate_succ,Array.replicate_zero,List.push_toArray,List.append_toArray,List.nil_append,List.cons_append]
 gi_wp2_with (refine⟨trivial,?_⟩;gi_at_call 237;refine(zgH _ _ _ _ _).mono ?_;rintro e w' ⟨rfl,rfl⟩)
 obtain⟨W0,hW0⟩:∃W0,((w.alloc (.cells #[.slice (some ⟨qb,0,none⟩) g.length g.length] 178)).alloc (.cells #[.slice (some ⟨tb,0,none⟩) us.length us.length] 178)).alloc (.cells #[.slice (some ⟨gb,0,none⟩) g.length cg] 177)=W0:=⟨_,rfl⟩
 have hz:W0.heap.size=w.heap.size+3:=by rw[←hW0];simp
 have hB0:Below w.heap.size w W0:=by rw[←hW0];exact((zaa w _).alloc (by simp) _).alloc (by simp<;>omega) _
 have D0:Blk W0 w.heap.size 178 [.slice (some ⟨qb,0,none⟩) g.length g.length]:=by
  rw[←hW0];exact(Below.heap_alloc _ _ _ (by simp<;>omega)).trans ((Below.heap_alloc _ _ _ (by simp)).trans (heap_alloc_new w _))
 have D1:Blk W0 (w.heap.size+1) 178 [.slice (some ⟨tb,0,none⟩) us.length us.length]:=by
  rw[←hW0];have:=heap_alloc_new (w.alloc (.cells #[.slice (some ⟨qb,0,none⟩) g.length g.length] 178)) (.cells #[.slice (some ⟨tb,0,none⟩) us.length us.length] 178);rw[World.size_alloc] at this;exact(Below.heap_alloc _ _ _ (by simp)).trans this
 have D2:Blk W0 (w.heap.size+1+1) 177 [.slice (some ⟨gb,0,none⟩) g.length cg]:=by
  rw[←hW0];have:=heap_alloc_new ((w.alloc (.cells #[.slice (some ⟨qb,0,none⟩) g.length g.length] 178)).alloc (.cells #[.slice (some ⟨tb,0,none⟩) us.length us.length] 178)) (.cells #[.slice (some ⟨gb,0,none⟩) g.length cg] 177);rw[World.size_alloc,World.size_alloc] at this;exact this
 rw[hW0];clear hW0;have hqw:=hP.lt;have htw:=hT.lt;have hgw:=hol.1;have HFL:Hid ((gtr ats 0 g).length=g.length):=zeA ats g 0;have HF:Hid (∀k y,g[k]?=some y→(gtr ats 0 g).getD k 0=gvf ats (gtr ats 0 g) k y):=fun k y hy=>zcH ats hGW k y hy
 have HF3:Hid (∀p,T3 ((gtr ats 0 g).getD p 0)):=zgD h3 hGW;obtain⟨F,hFF⟩:∃F,gtr ats 0 g=F:=⟨_,rfl⟩
 rw[hFF] at HFL HF HF3;have HGF:Hid (F=gtr ats 0 g):=hFF.symm;clear hFF;refine zcs (by omega) (gf:=264) (lb:=#[.pointer (some ⟨w.heap.size+1+1,0,none⟩)]) rfl (enters_of Tryz.func264 (by kernel_rfl) rfl)
  (zd1 (9-1) (by omega) (w.heap.size+1+1) gb cg g hgl W0 (by omega) (D2.cell rfl) (hol.below hB0)) (fun h k=>h.trans k)
  (fun W l o o' hl h ho=>zig _ _ W l o' (by omega) (by omega)) (fun _=>rfl)
  (fun pre W=>TrI w gb qb tb cg us.length g F pre W) (zlP (by omega))
  ⟨FrX.of_below hB0,D0,D1,D2,g.length,parts,Nat.le_refl _,(zdg g).symm,hpl,hP.below hB0,fun j hj=>by rw[List.getD_eq_getElem?_getD,List.getD_eq_getElem?_getD,List.getElem?_eq_none (by omega),List.getElem?_eq_none (by rw[HFL.out];exact hj)]⟩
  (fun x a' W=>∃pk,a'={tmps:=#[.slice (some ⟨gb,0,none⟩) g.length cg,.slice (some ⟨qb,0,none⟩) g.length g.length,.slice (some ⟨tb,0,none⟩) us.length us.length,undef,.pointer (some ⟨w.heap.size,0,none⟩),.pointer (some ⟨w.heap.size+1,0,none⟩),.int .i64 (x.1:Int),.pointer (some ⟨pk,0,none⟩),.slice (some ⟨gb,0,none⟩) g.length cg,.func (.func 264) #[] #[.pointer (some ⟨w.heap.size+1+1,0,none⟩)],.int .i64 (x.1:Int),.agg #[.int .i64 x.2.1,.int .i64 x.2.2.1,.int .i64 x.2.2.2.1,.int .i8 x.2.2.2.2],undef,undef,undef,undef,undef,undef,undef,undef,undef,undef,undef,undef,undef,undef,undef,undef,undef,undef,undef,undef,undef,undef,undef,undef,undef,undef,undef,undef,undef,undef,undef,undef,undef,undef,undef,undef,undef,undef,undef,undef,undef,undef,undef,undef,undef,undef,undef,undef,undef,undef,undef,undef,undef,undef,undef,undef,undef,undef,undef,undef,undef,undef,undef,undef,undef,undef],defers:=[]}∧Blk W pk 252 [.int .i64 x.2.1,.int .i64 x.2.2.1,.int .i64 x.2.2.2.1,.int .i8 x.2.2.2.2]∧w.heap.size+3≤pk)
  (fun x a' s X Y row hs hg hr=>?own)
  ?assign ?body ?done
 case own =>
  obtain⟨pk,h1,h2,h3⟩:=hs;exact⟨pk,h1,h2.ownF hg (fun r e=>(hr r e).2),h3⟩
 case assign =>
  rintro l pre ⟨k,y1,y2,y3,y4⟩ W K hinv hnx hK;simp only[encG]
  gi_wp2
  have hbl:=zaa W (.cells #[.int .i64 y1,.int .i64 y2,.int .i64 y3,.int .i8 y4] 252);have hs2:=hinv.b2.lt;refine hK _ _ ?_ ?_ ?_ ⟨W.heap.size,rfl,heap_alloc_new W _,by omega⟩
  ·exact⟨hbl.size,fun j o hj1 hj2 ho=>(hbl.block j (Array.getElem?_eq_some_iff.1 hj2).1).trans hj2⟩
  ·exact⟨fun o=>hbl.cell (p:=⟨gb,o,none⟩) (Nat.lt_of_lt_of_le hgw hinv.fr.size),hbl.cell (p:=⟨w.heap.size+1+1,0,none⟩) hs2⟩
  ·obtain⟨k',P,h1,h2,h3',h4,h5⟩:=hinv.pts;exact⟨hinv.fr.trans (FrX.of_below hbl),hinv.b0.below hbl,hinv.b1.below hbl,hinv.b2.below hbl,k',P,h1,h2,h3',h4.below hbl,h5⟩
 case body =>
  rintro l pre ⟨k,y1,y2,y3,y4⟩ a' W hI ⟨hn1,hn2,hn3⟩ ⟨pk,rfl,hpk,hpk2⟩;dsimp only at hn1 hn2 hn3 hpk;obtain⟨k',P,hk',hpre,hPl,hPB,hPF⟩:=hI.pts;obtain rfl:k'=k+1:=by
   have e:=congrArg List.length (hpre.symm.trans hn1);rw[zan,zan] at e;omega
  have e0:W.cell? ⟨w.heap.size,0,none⟩=some (.slice (some ⟨qb,0,none⟩) g.length g.length):=hI.b0.cell rfl;have e1:W.cell? ⟨w.heap.size+1,0,none⟩=some (.slice (some ⟨tb,0,none⟩) us.length us.length):=hI.b1.cell rfl;have p0:W.cell? ⟨pk,0,none⟩=some (.int .i64 y1):=hpk.cell rfl;have p1:W.cell? ⟨pk,1,none⟩=some (.int .i64 y2):=hpk.cell rfl;have p2:W.cell? ⟨pk,2,none⟩=some (.int .i64 y3):=hpk.cell rfl;have p3:W.cell? ⟨pk,3,none⟩=some (.int .i8 y4):=hpk.cell rfl;have hkl:(k:Int)<(g.length:Int):=by omega
  have hPW:=hGW k _ hn3;have HV:=HF.out k _ hn3;have fq:W.frozen? ⟨qb,k,none⟩=false:=hPB.free k;have hqc:∃u,W.cell? ⟨qb,k,none⟩=some (.int .i8 u):=⟨P.getD k 0,hPB.cell (by rw[List.getElem?_map,List.getD_eq_getElem?_getD,List.getElem?_eq_getElem (by omega)];rfl)⟩
  obtain⟨uq,hqc⟩:=hqc;have CE:Hid (∀v,v=F.getD k 0→_):=fun v hv=>zfP (B:=W0.heap.size) (v:=v) hI hn1 hn2 hn3 hqw hgw hne (FrX.refl _ W) hPB hPl hPF hv
  have CE2:Hid (∀v,v=F.getD k 0→_):=fun v hv=>zfP (B:=W0.heap.size) (v:=v) hI hn1 hn2 hn3 hqw hgw hne (FrX.refl _ W).drew hPB.drew hPl hPF hv
  have hk5:y1=0∨y1=1∨y1=2∨y1=3∨y1=4:=by have:=hPW.k0;have:=hPW.k4;dsimp only at *;omega
  rcases hk5 with rfl|rfl|rfl|rfl|rfl
  ·have hv:Hid ((1:Int)=F.getD k 0):=HV.symm;clear hI hpk hPB hPF HV hPW hpre hn1 hz
   gi_wp2
   exact CE.out _ hv.out
  ·have hv:Hid ((2:Int)=F.getD k 0):=HV.symm;clear hI hpk hPB hPF HV hPW hpre hn1 hz
   gi_wp2
   exact CE.out _ hv.out
  ·obtain⟨s,es,hs1,hs2⟩:=hPW.two (Or.inl rfl);dsimp only at es;subst es;have ht1:W.cell? ⟨qb,k+1,none⟩=some (.int .i8 (F.getD (k+1) 0)):=by
    rw[←hPF (k+1) (Nat.le_refl _)];exact hPB.cell (by rw[List.getElem?_map,List.getD_eq_getElem?_getD,List.getElem?_eq_getElem (by omega)];rfl)
   have ht2:W.cell? ⟨qb,s,none⟩=some (.int .i8 (F.getD s 0)):=by
    rw[←hPF s (by omega)];exact hPB.cell (by rw[List.getElem?_map,List.getD_eq_getElem?_getD,List.getElem?_eq_getElem (by omega)];rfl)
   have CC:Hid (∀N X,CallsIn (Fence.wide.inRound l) N Tryz.prog 168 #[.int .i8 (F.getD (k+1) 0),.int .i8 (F.getD s 0)] X fun e w'=>e=.returned (.int .i8 (tboth (F.getD (k+1) 0) (F.getD s 0)))∧X=w'):=fun N X=>CallsIn.inRound l (callsIn_wide.2 (zce _ _ (HF3.out _) (HF3.out _) X))
   have HV2:Hid (tboth (F.getD (k+1) 0) (F.getD s 0)=F.getD k 0):=by
    show _=_
    rw[HV];unfold gvf;simp
   have hmx:Tryz.prog.follows .mixedOrders=true:=by kernel_rfl
   generalize F.getD (k+1) 0=t1 at *;generalize F.getD s 0=t2 at *;have hk1:(k:Int)+1<(g.length:Int):=by omega
   have hk1':IntKind.i64.wrap ((k:Int)+1)=((k+1:Nat):Int):=by rw[show(k:Int)+1=((k+1:Nat):Int) by omega];exact IntWalk.i64_in _ (by omega)
   have hk2:((k+1:Nat):Int)<(g.length:Int):=by omega
   have hs3:(s:Int)<(g.length:Int):=by omega
   have hks:k≠s:=by omega
   clear hI hpk hPB hPF HV hPW hpre hn1 hz
   gi_wp2
   refine wpIn_region_any hmx (Held.any (S:=fun X=>X.cell? ⟨w.heap.size,0,none⟩=some (.slice (some ⟨qb,0,none⟩) g.length g.length)∧X.cell? ⟨pk,1,none⟩=some (.int .i64 (s:Int))∧X.cell? ⟨qb,k+1,none⟩=some (.int .i8 t1)∧X.cell? ⟨qb,s,none⟩=some (.int .i8 t2)) _ _ _ _ ?_);change Held _ _ _ _ _ _ _ _ _ _ (World.drew _);refine Held.take (i:=0) (v:=.slice (some ⟨qb,0,none⟩) g.length g.length) (by kernel_rfl) rfl (by kernel_rfl) (by kernel_rfl) (by kernel_rfl) (fun _ _ _ h=>h) ⟨by rfl,?t0,fun _=>rfl⟩ ?_
   case t0=>rintro X ⟨h1,h2,h3,h4⟩;go_simp
   refine Held.take (i:=1) (v:=.int .i64 (k:Int)) (by kernel_rfl) rfl (by kernel_rfl) (by kernel_rfl) (by kernel_rfl) (fun _ _ _ h=>h) ⟨by rfl,?t1,fun _=>rfl⟩ ?_
   case t1=>rintro X ⟨h1,h2,h3,h4⟩;go_simp
   refine Held.take (i:=2) (v:=.slice (some ⟨qb,0,none⟩) g.length g.length) (by kernel_rfl) rfl (by kernel_rfl) (by kernel_rfl) (by kernel_rfl) (fun _ _ _ h=>h) ⟨by rfl,?t2,fun _=>rfl⟩ ?_
   case t2=>rintro X ⟨h1,h2,h3,h4⟩;go_simp
   refine Held.take (i:=3) (v:=.int .i64 (k:Int)) (by kernel_rfl) rfl (by kernel_rfl) (by kernel_rfl) (by kernel_rfl) (fun _ _ _ h=>h) ⟨by rfl,?t3,fun _=>rfl⟩ ?_
   case t3=>rintro X ⟨h1,h2,h3,h4⟩;go_simp
   refine Held.take (i:=4) (v:=.int .i64 ((k+1:Nat):Int)) (by kernel_rfl) rfl (by kernel_rfl) (by kernel_rfl) (by kernel_rfl) (fun _ _ _ h=>h) ⟨by rfl,?t4,fun _=>rfl⟩ ?_
   case t4=>rintro X ⟨h1,h2,h3,h4⟩;go_simp
   refine Held.take (i:=5) (v:=.pointer (some ⟨qb,k+1,none⟩)) (by kernel_rfl) rfl (by kernel_rfl) (by kernel_rfl) (by kernel_rfl) (fun _ _ _ h=>h) ⟨by rfl,?t5,fun _=>rfl⟩ ?_
   case t5=>rintro X ⟨h1,h2,h3,h4⟩;go_simp;intro h;omega
   refine Held.take (i:=6) (v:=.int .i8 t1) (by kernel_rfl) rfl (by kernel_rfl) (by kernel_rfl) (by kernel_rfl) (fun _ _ _ h=>h) ⟨by rfl,?t6,fun _=>rfl⟩ ?_
   case t6=>rintro X ⟨h1,h2,h3,h4⟩;go_simp
   refine Held.take (i:=7) (v:=.slice (some ⟨qb,0,none⟩) g.length g.length) (by kernel_rfl) rfl (by kernel_rfl) (by kernel_rfl) (by kernel_rfl) (fun _ _ _ h=>h) ⟨by rfl,?t7,fun _=>rfl⟩ ?_
   case t7=>rintro X ⟨h1,h2,h3,h4⟩;go_simp
   refine Held.take (i:=8) (v:=.pointer (some ⟨pk,1,none⟩)) (by kernel_rfl) rfl (by kernel_rfl) (by kernel_rfl) (by kernel_rfl) (fun _ _ _ h=>h) ⟨by rfl,?t8,fun _=>rfl⟩ ?_
   case t8=>rintro X ⟨h1,h2,h3,h4⟩;go_simp
   refine Held.take (i:=9) (v:=.int .i64 (s:Int)) (by kernel_rfl) rfl (by kernel_rfl) (by kernel_rfl) (by kernel_rfl) (fun _ _ _ h=>h) ⟨by rfl,?t9,fun _=>rfl⟩ ?_
   case t9=>rintro X ⟨h1,h2,h3,h4⟩;go_simp
   refine Held.take (i:=10) (v:=.pointer (some ⟨qb,s,none⟩)) (by kernel_rfl) rfl (by kernel_rfl) (by kernel_rfl) (by kernel_rfl) (fun _ _ _ h=>h) ⟨by rfl,?t10,fun _=>rfl⟩ ?_
   case t10=>rintro X ⟨h1,h2,h3,h4⟩;go_simp
   refine Held.take (i:=11) (v:=.int .i8 t2) (by kernel_rfl) rfl (by kernel_rfl) (by kernel_rfl) (by kernel_rfl) (fun _ _ _ h=>h) ⟨by rfl,?t11,fun _=>rfl⟩ ?_
   case t11=>rintro X ⟨h1,h2,h3,h4⟩;go_simp
   refine Held.one (i:=12) ⟨e0,p1,ht1,ht2⟩ (by kernel_rfl) rfl (fun K' hK=>?_)
   go_simp
   refine⟨trivial,(CC.out _ _).mono ?_⟩;rintro e w1 ⟨rfl,hw1⟩;subst hw1;refine hK _ _ ?_;clear hK K';refine Held.take (i:=13) (v:=.pointer (some ⟨qb,k,none⟩)) (by kernel_rfl) rfl (by kernel_rfl) (by kernel_rfl) (by kernel_rfl) (fun _ _ _ h=>h) ⟨by rfl,?t13,fun _=>rfl⟩ ?_
   case t13=>rintro X ⟨h1,h2,h3,h4⟩;go_simp
   refine Held.one (i:=14) ⟨e0,p1,ht1,ht2⟩ (by kernel_rfl) rfl (fun K' hK=>?_)
   go_simp
   refine hK _ _ ?_;clear hK K';obtain⟨r1,r2,r3⟩:=CE2.out _ HV2.out;refine Held.done ⟨(zak _ _ _ _ _ _ (by omega)).trans e0,(zak _ _ _ _ _ _ (by omega)).trans p1,(zaK _ _ _ _ _ (by omega)).trans ht1,(zaK _ _ _ _ _ hks).trans ht2⟩ (by kernel_rfl) ?_;exact⟨rfl,r1,r2,r3⟩
  ·obtain⟨s,es,hs1,hs2⟩:=hPW.two (Or.inr rfl);dsimp only at es;subst es;have ht1:W.cell? ⟨qb,k+1,none⟩=some (.int .i8 (F.getD (k+1) 0)):=by
    rw[←hPF (k+1) (Nat.le_refl _)];exact hPB.cell (by rw[List.getElem?_map,List.getD_eq_getElem?_getD,List.getElem?_eq_getElem (by omega)];rfl)
   have ht2:W.cell? ⟨qb,s,none⟩=some (.int .i8 (F.getD s 0)):=by
    rw[←hPF s (by omega)];exact hPB.cell (by rw[List.getElem?_map,List.getD_eq_getElem?_getD,List.getElem?_eq_getElem (by omega)];rfl)
   have CC:Hid (∀N X,CallsIn (Fence.wide.inRound l) N Tryz.prog 169 #[.int .i8 (F.getD (k+1) 0),.int .i8 (F.getD s 0)] X fun e w'=>e=.returned (.int .i8 (teith (F.getD (k+1) 0) (F.getD s 0)))∧X=w'):=fun N X=>CallsIn.inRound l (callsIn_wide.2 (zdo _ _ (HF3.out _) (HF3.out _) X))
   have HV2:Hid (teith (F.getD (k+1) 0) (F.getD s 0)=F.getD k 0):=by
    show _=_
    rw[HV];unfold gvf;simp
   have hmx:Tryz.prog.follows .mixedOrders=true:=by kernel_rfl
   generalize F.getD (k+1) 0=t1 at *;generalize F.getD s 0=t2 at *;have hk1:(k:Int)+1<(g.length:Int):=by omega
   have hk1':IntKind.i64.wrap ((k:Int)+1)=((k+1:Nat):Int):=by rw[show(k:Int)+1=((k+1:Nat):Int) by omega];exact IntWalk.i64_in _ (by omega)
   have hk2:((k+1:Nat):Int)<(g.length:Int):=by omega
   have hs3:(s:Int)<(g.length:Int):=by omega
   have hks:k≠s:=by omega
   clear hI hpk hPB hPF HV hPW hpre hn1 hz
   gi_wp2
   refine wpIn_region_any hmx (Held.any (S:=fun X=>X.cell? ⟨w.heap.size,0,none⟩=some (.slice (some ⟨qb,0,none⟩) g.length g.length)∧X.cell? ⟨pk,1,none⟩=some (.int .i64 (s:Int))∧X.cell? ⟨qb,k+1,none⟩=some (.int .i8 t1)∧X.cell? ⟨qb,s,none⟩=some (.int .i8 t2)) _ _ _ _ ?_);change Held _ _ _ _ _ _ _ _ _ _ (World.drew _);refine Held.take (i:=0) (v:=.slice (some ⟨qb,0,none⟩) g.length g.length) (by kernel_rfl) rfl (by kernel_rfl) (by kernel_rfl) (by kernel_rfl) (fun _ _ _ h=>h) ⟨by rfl,?t0,fun _=>rfl⟩ ?_
   case t0=>rintro X ⟨h1,h2,h3,h4⟩;go_simp
   refine Held.take (i:=1) (v:=.int .i64 (k:Int)) (by kernel_rfl) rfl (by kernel_rfl) (by kernel_rfl) (by kernel_rfl) (fun _ _ _ h=>h) ⟨by rfl,?t1,fun _=>rfl⟩ ?_
   case t1=>rintro X ⟨h1,h2,h3,h4⟩;go_simp
   refine Held.take (i:=2) (v:=.slice (some ⟨qb,0,none⟩) g.length g.length) (by kernel_rfl) rfl (by kernel_rfl) (by kernel_rfl) (by kernel_rfl) (fun _ _ _ h=>h) ⟨by rfl,?t2,fun _=>rfl⟩ ?_
   case t2=>rintro X ⟨h1,h2,h3,h4⟩;go_simp
   refine Held.take (i:=3) (v:=.int .i64 (k:Int)) (by kernel_rfl) rfl (by kernel_rfl) (by kernel_rfl) (by kernel_rfl) (fun _ _ _ h=>h) ⟨by rfl,?t3,fun _=>rfl⟩ ?_
   case t3=>rintro X ⟨h1,h2,h3,h4⟩;go_simp
   refine Held.take (i:=4) (v:=.int .i64 ((k+1:Nat):Int)) (by kernel_rfl) rfl (by kernel_rfl) (by kernel_rfl) (by kernel_rfl) (fun _ _ _ h=>h) ⟨by rfl,?t4,fun _=>rfl⟩ ?_
   case t4=>rintro X ⟨h1,h2,h3,h4⟩;go_simp
   refine Held.take (i:=5) (v:=.pointer (some ⟨qb,k+1,none⟩)) (by kernel_rfl) rfl (by kernel_rfl) (by kernel_rfl) (by kernel_rfl) (fun _ _ _ h=>h) ⟨by rfl,?t5,fun _=>rfl⟩ ?_
   case t5=>rintro X ⟨h1,h2,h3,h4⟩;go_simp;intro h;omega
   refine Held.take (i:=6) (v:=.int .i8 t1) (by kernel_rfl) rfl (by kernel_rfl) (by kernel_rfl) (by kernel_rfl) (fun _ _ _ h=>h) ⟨by rfl,?t6,fun _=>rfl⟩ ?_
   case t6=>rintro X ⟨h1,h2,h3,h4⟩;go_simp
   refine Held.take (i:=7) (v:=.slice (some ⟨qb,0,none⟩) g.length g.length) (by kernel_rfl) rfl (by kernel_rfl) (by kernel_rfl) (by kernel_rfl) (fun _ _ _ h=>h) ⟨by rfl,?t7,fun _=>rfl⟩ ?_
   case t7=>rintro X ⟨h1,h2,h3,h4⟩;go_simp
   refine Held.take (i:=8) (v:=.pointer (some ⟨pk,1,none⟩)) (by kernel_rfl) rfl (by kernel_rfl) (by kernel_rfl) (by kernel_rfl) (fun _ _ _ h=>h) ⟨by rfl,?t8,fun _=>rfl⟩ ?_
   case t8=>rintro X ⟨h1,h2,h3,h4⟩;go_simp
   refine Held.take (i:=9) (v:=.int .i64 (s:Int)) (by kernel_rfl) rfl (by kernel_rfl) (by kernel_rfl) (by kernel_rfl) (fun _ _ _ h=>h) ⟨by rfl,?t9,fun _=>rfl⟩ ?_
   case t9=>rintro X ⟨h1,h2,h3,h4⟩;go_simp
   refine Held.take (i:=10) (v:=.pointer (some ⟨qb,s,none⟩)) (by kernel_rfl) rfl (by kernel_rfl) (by kernel_rfl) (by kernel_rfl) (fun _ _ _ h=>h) ⟨by rfl,?t10,fun _=>rfl⟩ ?_
   case t10=>rintro X ⟨h1,h2,h3,h4⟩;go_simp
   refine Held.take (i:=11) (v:=.int .i8 t2) (by kernel_rfl) rfl (by kernel_rfl) (by kernel_rfl) (by kernel_rfl) (fun _ _ _ h=>h) ⟨by rfl,?t11,fun _=>rfl⟩ ?_
   case t11=>rintro X ⟨h1,h2,h3,h4⟩;go_simp
   refine Held.one (i:=12) ⟨e0,p1,ht1,ht2⟩ (by kernel_rfl) rfl (fun K' hK=>?_)
   go_simp
   refine⟨trivial,(CC.out _ _).mono ?_⟩;rintro e w1 ⟨rfl,hw1⟩;subst hw1;refine hK _ _ ?_;clear hK K';refine Held.take (i:=13) (v:=.pointer (some ⟨qb,k,none⟩)) (by kernel_rfl) rfl (by kernel_rfl) (by kernel_rfl) (by kernel_rfl) (fun _ _ _ h=>h) ⟨by rfl,?t13,fun _=>rfl⟩ ?_
   case t13=>rintro X ⟨h1,h2,h3,h4⟩;go_simp
   refine Held.one (i:=14) ⟨e0,p1,ht1,ht2⟩ (by kernel_rfl) rfl (fun K' hK=>?_)
   go_simp
   refine hK _ _ ?_;clear hK K';obtain⟨r1,r2,r3⟩:=CE2.out _ HV2.out;refine Held.done ⟨(zak _ _ _ _ _ _ (by omega)).trans e0,(zak _ _ _ _ _ _ (by omega)).trans p1,(zaK _ _ _ _ _ (by omega)).trans ht1,(zaK _ _ _ _ _ hks).trans ht2⟩ (by kernel_rfl) ?_;exact⟨rfl,r1,r2,r3⟩
  ·obtain⟨a,ea,ha⟩:=hPW.atm rfl;dsimp only at ea;subst ea;have hta:W.cell? ⟨tb,a,none⟩=some (.int .i8 (ats.getD a 0)):=by
    have h1:w.cell? ⟨tb,a,none⟩=some (.int .i8 (ats.getD a 0)):=hT.cell (by rw[List.getElem?_map,List.getD_eq_getElem?_getD,List.getElem?_eq_getElem (by omega)];rfl);exact(hI.fr.cell a htw (by simp;exact fun e=>hqt e.symm)).trans h1
   have ha3:T3 (ats.getD a 0):=by
    rw[List.getD_eq_getElem?_getD,List.getElem?_eq_getElem (by omega)];exact h3 _ (List.getElem_mem _)
   have CC:Hid (∀N X,CallsIn (Fence.wide.inRound l) N Tryz.prog 167 #[.int .i8 (ats.getD a 0)] X fun e w'=>e=.returned (.int .i8 (tnot (ats.getD a 0)))∧X=w'):=fun N X=>CallsIn.inRound l (callsIn_wide.2 (zbI _ ha3 X))
   have HV2:Hid ((if y4=2 then tnot (ats.getD a 0) else ats.getD a 0)=F.getD k 0):=by
    show _=_
    rw[HV];unfold gvf;simp
   have hmx:Tryz.prog.follows .mixedOrders=true:=by kernel_rfl
   have hw4:=hPW.wn2 rfl;dsimp only at hw4;have CE3:Hid (∀v,v=F.getD k 0→_):=fun v hv=>zfP (B:=W0.heap.size) (v:=v) (P1:=P.set k (ats.getD a 0)) hI hn1 hn2 hn3 hqw hgw hne ((zap W qb k (.int .i8 (ats.getD a 0))).drew.drew) (by have:=hPB.set k (.int .i8 (ats.getD a 0));rw[List.map_set];exact this) (by rw[List.length_set];exact hPl) (fun j hj=>by rw[List.getD_eq_getElem?_getD,List.getElem?_set,if_neg (by omega),←List.getD_eq_getElem?_getD];exact hPF j hj) hv
   have hfz:∀v,(W.setCell ⟨qb,k,none⟩ v).frozen? ⟨qb,k,none⟩=false:=fun v=>by rw[World.frozen?_setCell];exact fq
   have hqk:∀v:Int,(W.setCell ⟨qb,k,none⟩ (.int .i8 v)).cell? ⟨qb,k,none⟩=some (.int .i8 v):=fun v=>(hPB.set k (.int .i8 v)).cell (by rw[List.getElem?_set,if_pos rfl,if_pos (by rw[List.length_map];omega)])
   generalize ats.getD a 0=t1 at *;have ha':(a:Int)<(us.length:Int):=by omega
   have htq:tb≠qb:=fun e=>hqt e.symm
   clear hI hpk hPB hPF HV hPW hpre hn1 hz;rcases hw4 with rfl|rfl
   ·have hv:Hid (t1=F.getD k 0):=HV2.out
    gi_wp2
    refine wpIn_region_any hmx (Held.any (S:=fun X=>X.cell? ⟨w.heap.size,0,none⟩=some (.slice (some ⟨qb,0,none⟩) g.length g.length)∧X.cell? ⟨w.heap.size+1,0,none⟩=some (.slice (some ⟨tb,0,none⟩) us.length us.length)∧X.cell? ⟨pk,2,none⟩=some (.int .i64 (a:Int))∧X.cell? ⟨tb,a,none⟩=some (.int .i8 t1)) _ _ _ _ ?_);change Held _ _ _ _ _ _ _ _ _ _ (World.drew _);refine Held.take (i:=0) (v:=.slice (some ⟨qb,0,none⟩) g.length g.length) (by kernel_rfl) rfl (by kernel_rfl) (by kernel_rfl) (by kernel_rfl) (fun _ _ _ h=>h) ⟨by rfl,?t0,fun _=>rfl⟩ ?_
    case t0=>rintro X ⟨h1,h2,h3,h4⟩;go_simp
    refine Held.take (i:=1) (v:=.int .i64 (k:Int)) (by kernel_rfl) rfl (by kernel_rfl) (by kernel_rfl) (by kernel_rfl) (fun _ _ _ h=>h) ⟨by rfl,?t1,fun _=>rfl⟩ ?_
    case t1=>rintro X ⟨h1,h2,h3,h4⟩;go_simp
    refine Held.take (i:=2) (v:=.slice (some ⟨tb,0,none⟩) us.length us.length) (by kernel_rfl) rfl (by kernel_rfl) (by kernel_rfl) (by kernel_rfl) (fun _ _ _ h=>h) ⟨by rfl,?t2,fun _=>rfl⟩ ?_
    case t2=>rintro X ⟨h1,h2,h3,h4⟩;go_simp
    refine Held.take (i:=3) (v:=.pointer (some ⟨pk,2,none⟩)) (by kernel_rfl) rfl (by kernel_rfl) (by kernel_rfl) (by kernel_rfl) (fun _ _ _ h=>h) ⟨by rfl,?t3,fun _=>rfl⟩ ?_
    case t3=>rintro X ⟨h1,h2,h3,h4⟩;go_simp
    refine Held.take (i:=4) (v:=.int .i64 (a:Int)) (by kernel_rfl) rfl (by kernel_rfl) (by kernel_rfl) (by kernel_rfl) (fun _ _ _ h=>h) ⟨by rfl,?t4,fun _=>rfl⟩ ?_
    case t4=>rintro X ⟨h1,h2,h3,h4⟩;go_simp
    refine Held.take (i:=5) (v:=.pointer (some ⟨tb,a,none⟩)) (by kernel_rfl) rfl (by kernel_rfl) (by kernel_rfl) (by kernel_rfl) (fun _ _ _ h=>h) ⟨by rfl,?t5,fun _=>rfl⟩ ?_
    case t5=>rintro X ⟨h1,h2,h3,h4⟩;go_simp
    refine Held.take (i:=6) (v:=.int .i8 t1) (by kernel_rfl) rfl (by kernel_rfl) (by kernel_rfl) (by kernel_rfl) (fun _ _ _ h=>h) ⟨by rfl,?t6,fun _=>rfl⟩ ?_
    case t6=>rintro X ⟨h1,h2,h3,h4⟩;go_simp
    refine Held.take (i:=7) (v:=.pointer (some ⟨qb,k,none⟩)) (by kernel_rfl) rfl (by kernel_rfl) (by kernel_rfl) (by kernel_rfl) (fun _ _ _ h=>h) ⟨by rfl,?t7,fun _=>rfl⟩ ?_
    case t7=>rintro X ⟨h1,h2,h3,h4⟩;go_simp
    refine Held.one (i:=8) ⟨e0,e1,p2,hta⟩ (by kernel_rfl) rfl (fun K' hK=>?_)
    go_simp
    refine hK _ _ ?_;clear hK K';refine Held.done ⟨(zak _ _ _ _ _ _ (by omega)).trans e0,(zak _ _ _ _ _ _ (by omega)).trans e1,(zak _ _ _ _ _ _ (by omega)).trans p2,(zak _ _ _ _ _ _ htq).trans hta⟩ (by kernel_rfl) ?_
    gi_wp2
    exact CE2.out _ hv.out
   ·have hv:Hid (tnot t1=F.getD k 0):=HV2.out
    gi_wp2
    refine wpIn_region_any hmx (Held.any (S:=fun X=>X.cell? ⟨w.heap.size,0,none⟩=some (.slice (some ⟨qb,0,none⟩) g.length g.length)∧X.cell? ⟨w.heap.size+1,0,none⟩=some (.slice (some ⟨tb,0,none⟩) us.length us.length)∧X.cell? ⟨pk,2,none⟩=some (.int .i64 (a:Int))∧X.cell? ⟨tb,a,none⟩=some (.int .i8 t1)) _ _ _ _ ?_);change Held _ _ _ _ _ _ _ _ _ _ (World.drew _);refine Held.take (i:=0) (v:=.slice (some ⟨qb,0,none⟩) g.length g.length) (by kernel_rfl) rfl (by kernel_rfl) (by kernel_rfl) (by kernel_rfl) (fun _ _ _ h=>h) ⟨by rfl,?t0,fun _=>rfl⟩ ?_
    case t0=>rintro X ⟨h1,h2,h3,h4⟩;go_simp
    refine Held.take (i:=1) (v:=.int .i64 (k:Int)) (by kernel_rfl) rfl (by kernel_rfl) (by kernel_rfl) (by kernel_rfl) (fun _ _ _ h=>h) ⟨by rfl,?t1,fun _=>rfl⟩ ?_
    case t1=>rintro X ⟨h1,h2,h3,h4⟩;go_simp
    refine Held.take (i:=2) (v:=.slice (some ⟨tb,0,none⟩) us.length us.length) (by kernel_rfl) rfl (by kernel_rfl) (by kernel_rfl) (by kernel_rfl) (fun _ _ _ h=>h) ⟨by rfl,?t2,fun _=>rfl⟩ ?_
    case t2=>rintro X ⟨h1,h2,h3,h4⟩;go_simp
    refine Held.take (i:=3) (v:=.pointer (some ⟨pk,2,none⟩)) (by kernel_rfl) rfl (by kernel_rfl) (by kernel_rfl) (by kernel_rfl) (fun _ _ _ h=>h) ⟨by rfl,?t3,fun _=>rfl⟩ ?_
    case t3=>rintro X ⟨h1,h2,h3,h4⟩;go_simp
    refine Held.take (i:=4) (v:=.int .i64 (a:Int)) (by kernel_rfl) rfl (by kernel_rfl) (by kernel_rfl) (by kernel_rfl) (fun _ _ _ h=>h) ⟨by rfl,?t4,fun _=>rfl⟩ ?_
    case t4=>rintro X ⟨h1,h2,h3,h4⟩;go_simp
    refine Held.take (i:=5) (v:=.pointer (some ⟨tb,a,none⟩)) (by kernel_rfl) rfl (by kernel_rfl) (by kernel_rfl) (by kernel_rfl) (fun _ _ _ h=>h) ⟨by rfl,?t5,fun _=>rfl⟩ ?_
    case t5=>rintro X ⟨h1,h2,h3,h4⟩;go_simp
    refine Held.take (i:=6) (v:=.int .i8 t1) (by kernel_rfl) rfl (by kernel_rfl) (by kernel_rfl) (by kernel_rfl) (fun _ _ _ h=>h) ⟨by rfl,?t6,fun _=>rfl⟩ ?_
    case t6=>rintro X ⟨h1,h2,h3,h4⟩;go_simp
    refine Held.take (i:=7) (v:=.pointer (some ⟨qb,k,none⟩)) (by kernel_rfl) rfl (by kernel_rfl) (by kernel_rfl) (by kernel_rfl) (fun _ _ _ h=>h) ⟨by rfl,?t7,fun _=>rfl⟩ ?_
    case t7=>rintro X ⟨h1,h2,h3,h4⟩;go_simp
    refine Held.one (i:=8) ⟨e0,e1,p2,hta⟩ (by kernel_rfl) rfl (fun K' hK=>?_)
    go_simp
    refine hK _ _ ?_;clear hK K';refine Held.done ⟨(zak _ _ _ _ _ _ (by omega)).trans e0,(zak _ _ _ _ _ _ (by omega)).trans e1,(zak _ _ _ _ _ _ (by omega)).trans p2,(zak _ _ _ _ _ _ htq).trans hta⟩ (by kernel_rfl) ?_;have e0':=(zak W qb k (.int .i8 t1) w.heap.size 0 (by omega)).trans e0;have e1':=(zak W qb k (.int .i8 t1) (w.heap.size+1) 0 (by omega)).trans e1;have p2':=(zak W qb k (.int .i8 t1) pk 2 (by omega)).trans p2;have p3':=(zak W qb k (.int .i8 t1) pk 3 (by omega)).trans p3;have ta':=(zak W qb k (.int .i8 t1) tb a htq).trans hta
    gi_wp2
    refine wpIn_region_any hmx (Held.any (S:=fun X=>X.cell? ⟨w.heap.size,0,none⟩=some (.slice (some ⟨qb,0,none⟩) g.length g.length)∧X.cell? ⟨w.heap.size+1,0,none⟩=some (.slice (some ⟨tb,0,none⟩) us.length us.length)∧X.cell? ⟨pk,2,none⟩=some (.int .i64 (a:Int))∧X.cell? ⟨tb,a,none⟩=some (.int .i8 t1)) _ _ _ _ ?_);change Held _ _ _ _ _ _ _ _ _ _ (World.drew _);refine Held.take (i:=0) (v:=.slice (some ⟨qb,0,none⟩) g.length g.length) (by kernel_rfl) rfl (by kernel_rfl) (by kernel_rfl) (by kernel_rfl) (fun _ _ _ h=>h) ⟨by rfl,?t0,fun _=>rfl⟩ ?_
    case t0=>rintro X ⟨h1,h2,h3,h4⟩;go_simp
    refine Held.take (i:=1) (v:=.int .i64 (k:Int)) (by kernel_rfl) rfl (by kernel_rfl) (by kernel_rfl) (by kernel_rfl) (fun _ _ _ h=>h) ⟨by rfl,?t1,fun _=>rfl⟩ ?_
    case t1=>rintro X ⟨h1,h2,h3,h4⟩;go_simp
    refine Held.take (i:=2) (v:=.slice (some ⟨tb,0,none⟩) us.length us.length) (by kernel_rfl) rfl (by kernel_rfl) (by kernel_rfl) (by kernel_rfl) (fun _ _ _ h=>h) ⟨by rfl,?t2,fun _=>rfl⟩ ?_
    case t2=>rintro X ⟨h1,h2,h3,h4⟩;go_simp
    refine Held.take (i:=3) (v:=.pointer (some ⟨pk,2,none⟩)) (by kernel_rfl) rfl (by kernel_rfl) (by kernel_rfl) (by kernel_rfl) (fun _ _ _ h=>h) ⟨by rfl,?t3,fun _=>rfl⟩ ?_
    case t3=>rintro X ⟨h1,h2,h3,h4⟩;go_simp
    refine Held.take (i:=4) (v:=.int .i64 (a:Int)) (by kernel_rfl) rfl (by kernel_rfl) (by kernel_rfl) (by kernel_rfl) (fun _ _ _ h=>h) ⟨by rfl,?t4,fun _=>rfl⟩ ?_
    case t4=>rintro X ⟨h1,h2,h3,h4⟩;go_simp
    refine Held.take (i:=5) (v:=.pointer (some ⟨tb,a,none⟩)) (by kernel_rfl) rfl (by kernel_rfl) (by kernel_rfl) (by kernel_rfl) (fun _ _ _ h=>h) ⟨by rfl,?t5,fun _=>rfl⟩ ?_
    case t5=>rintro X ⟨h1,h2,h3,h4⟩;go_simp
    refine Held.take (i:=6) (v:=.int .i8 t1) (by kernel_rfl) rfl (by kernel_rfl) (by kernel_rfl) (by kernel_rfl) (fun _ _ _ h=>h) ⟨by rfl,?t6,fun _=>rfl⟩ ?_
    case t6=>rintro X ⟨h1,h2,h3,h4⟩;go_simp
    refine Held.one (i:=7) ⟨e0',e1',p2',ta'⟩ (by kernel_rfl) rfl (fun K' hK=>?_)
    go_simp
    refine⟨trivial,(CC.out _ _).mono ?_⟩;rintro e w1 ⟨rfl,hw1⟩;subst hw1;refine hK _ _ ?_;clear hK K';refine Held.take (i:=8) (v:=.pointer (some ⟨qb,k,none⟩)) (by kernel_rfl) rfl (by kernel_rfl) (by kernel_rfl) (by kernel_rfl) (fun _ _ _ h=>h) ⟨by rfl,?t8,fun _=>rfl⟩ ?_
    case t8=>rintro X ⟨h1,h2,h3,h4⟩;go_simp
    refine Held.one (i:=9) ⟨e0',e1',p2',ta'⟩ (by kernel_rfl) rfl (fun K' hK=>?_)
    go_simp
    refine hK _ _ ?_;clear hK K';refine Held.done ⟨(zak _ _ _ _ _ _ (by omega)).trans e0',(zak _ _ _ _ _ _ (by omega)).trans e1',(zak _ _ _ _ _ _ (by omega)).trans p2',(zak _ _ _ _ _ _ htq).trans ta'⟩ (by kernel_rfl) ?_;exact⟨rfl,CE3.out _ hv.out⟩
 case done =>
  rintro D xs W hD rfl hI hK;obtain⟨k,P,hk,hp',hPl,hPB,hPF⟩:=hI.pts;obtain rfl:k=0:=by
   have e:=congrArg List.length hp';rw[zan,zan] at e;omega
  have HFr:=hI.fr;have HPE:P=F:=List.ext_getElem? (fun j=>by
   by_cases hj:j<P.length
   ·have h:=hPF j (Nat.zero_le _);rw[List.getD_eq_getElem?_getD,List.getD_eq_getElem?_getD,List.getElem?_eq_getElem hj,List.getElem?_eq_getElem (by rw[HFL.out];omega)] at h;rw[List.getElem?_eq_getElem hj,List.getElem?_eq_getElem (by rw[HFL.out];omega)];exact congrArg some h
   ·rw[List.getElem?_eq_none (by omega),List.getElem?_eq_none (by rw[HFL.out];omega)])
  gi_wp2
  refine⟨by simp,.inl ⟨_,_,rfl,run_takeDeferred hK,?_⟩⟩;have hgp:=grownBy_putObj' W D (.deferred none);have hrr:∀r,some D=some r→∃o:Obj,W.heap[r]?=some o∧o.isCells=false:=fun r e=>by cases e;exact⟨_,hK,rfl⟩
  exact⟨_,results_none rfl _ _ _,rfl,by rw[←HGF.out,←HPE];exact hPB.ownF hgp hrr,HFr.ownF hgp (fun r e=>by cases e;omega)⟩
open Go.RowKit
theorem zhl (w0 w:World) (D:PD) (us:List Atm) (g:List Pt) (s n:Nat) (A:Nat→Int) (ats parts:List Int) (kb:Nat) (B:Bd) (i:Nat) (h:PvS w0 w D us g s n A ats parts) (hB:BdAt w kb 0 B) (hok:∀a∈us,okA a) (hus:us.length≤4000) (h3:∀t∈ats,T3 t) (hi:i<us.length)
 (hby:∀a∈us,∀t,(brs B a t).length≤4000) :
 Calls Tryz.prog 265 #[.pointer (some ⟨D.pb,0,none⟩),.int .i64 (i:Int),.pointer (some ⟨kb,0,none⟩)] w fun e w'=>e=.returned (.int .i64 (gwt us A ats B i))∧Below w.heap.size w w':=by
 have HP:Hid (PvS w0 w D us g s n A ats parts):=h;have hlk:=NM.look h.am i (by omega);obtain⟨c0,c1,c2,c3,c4,c5,c6⟩:=h.cells;have htc:=h.tcell hi;have hatm:=h.atm;obtain⟨pb,mb,tb,qb,gb,kk,qa,ca,cg⟩:=D;dsimp only at *;rcases hatm with⟨_,he⟩|⟨b,cap,hv,hc1,hc2,hb,hcells⟩
 ·rw[he] at hi;simp at hi
 ·cases hv
  obtain⟨⟨a1,a2,a3⟩,hx⟩:∃x,us[i]?=some x:=⟨_,List.getElem?_eq_getElem hi⟩
  obtain⟨z1,z2,z3⟩:=hcells i _ hx;dsimp only at z1 z2 z3;have hoa:=hok _ (List.mem_of_getElem? hx);have hi':(i:Int)<(us.length:Int):=by omega
  have HE:Hid (gwt us A ats B i=if A i≠0 then 1 else 2+((brs B (a1,a2,a3) (ats.getD i 0)).length:Int)):=by
   show _=_
   unfold gwt;rw[List.getD_eq_getElem?_getD (l:=us),hx,Option.getD_some]
  have ht3:T3 (ats.getD i 0):=by
   rw[List.getD_eq_getElem?_getD];cases he:ats[i]? with
   | none=>exact Or.inl rfl
   | some t=>exact h3 t (List.mem_of_getElem? he)
  have hbl:=hby _ (List.mem_of_getElem? hx) (ats.getD i 0);have CR:Hid (∀X,Below w.heap.size w X→Calls Tryz.prog 186 #[.pointer (some ⟨kb,0,none⟩),.agg #[.int .i64 a1,.int .i64 a2,.int .i64 a3],.int .i8 (ats.getD i 0)] X fun e w'=>∃v,e=.returned v∧IntsR w' v ((brs B (a1,a2,a3) (ats.getD i 0)).map fun(n:Nat)=>(n:Int))∧Below X.heap.size X w'):=fun X hX=>by
   obtain⟨o1,o2,o3,o4,o5,o6⟩:=hoa;dsimp only at *;obtain⟨l,rfl⟩:∃l:Nat,a1=(l:Int):=⟨a1.toNat,by omega⟩
   obtain⟨r,rfl⟩:∃r:Nat,a2=(r:Int):=⟨a2.toNat,by omega⟩
   exact zhu X kb B l r a3 _ (hB.below hX) (by omega) (by omega) ⟨o5,o6⟩ ht3
  have hbd:=(Below.refl w.heap.size w).drew;have HLT:Hid (pb<w.heap.size∧tb<w.heap.size):=⟨HP.out.box.lt,HP.out.tr.lt⟩;clear h hcells hx;by_cases hAi:A i≠0
  ·have hd:decide (A i≠0)=true:=decide_eq_true hAi;rw[hd] at hlk;have HV:Hid (gwt us A ats B i=1):=by show _=_;rw[HE.out,if_pos hAi]
   clear hAi hd HE;generalize A i=ai at *;go_enter Tryz.func265,Tryz.ntmps265;go_wp2_with fail;go_ret;exact⟨by rw[HV.out];rfl,Below.refl _ _⟩
  ·have hd:decide (A i≠0)=false:=decide_eq_false hAi;rw[hd] at hlk;have HV:Hid (gwt us A ats B i=2+((brs B (a1,a2,a3) (ats.getD i 0)).length:Int)):=by show _=_;rw[HE.out,if_neg hAi]
   clear hAi hd HE;generalize A i=ai at *;go_enter Tryz.func265,Tryz.ntmps265;generalize brs B (a1,a2,a3) (ats.getD i 0)=L at *;generalize ats.getD i 0=t at *;have hw2:IntKind.i64.wrap (2+(L.length:Int))=2+(L.length:Int):=IntWalk.i64_in _ (by omega);go_wp2_with fail;go_region_held3 (fun X=>X.cell? ⟨pb,1,none⟩=some (.slice (some ⟨b,0,none⟩) us.length ca)∧X.cell? ⟨pb,5,none⟩=some (.slice (some ⟨tb,0,none⟩) us.length us.length)∧X.cell? ⟨b,i*3,none⟩=some (.int .i64 a1)∧X.cell? ⟨b,i*3+1,none⟩=some (.int .i64 a2)∧X.cell? ⟨b,i*3+2,none⟩=some (.int .i64 a3)∧X.cell? ⟨tb,i,none⟩=some (.int .i8 t)) (first|exact⟨c1,c5,z1,z2,z3,htc⟩|exact⟨y1,y2,y3,y4,y5,y6⟩) (first|(go_at_call 186;refine(CR.out _ hbd).mono ?_;rintro e w3 ⟨v,rfl,hv3,hb3⟩;obtain⟨vp,vc,rfl⟩:∃p c,v=.slice p L.length c:=(by rcases hv3 with⟨rfl,e⟩|⟨q,c,rfl,_⟩;exact⟨none,0,by rw[List.map_eq_nil_iff.1 e];rfl⟩;exact⟨_,_,by rw[List.length_map]⟩);have y1:=(hb3.cell (p:=⟨pb,1,none⟩) HLT.out.1).trans c1;have y2:=(hb3.cell (p:=⟨pb,5,none⟩) HLT.out.1).trans c5;have y3:=(hb3.cell (p:=⟨b,i*3,none⟩) hb).trans z1;have y4:=(hb3.cell (p:=⟨b,i*3+1,none⟩) hb).trans z2;have y5:=(hb3.cell (p:=⟨b,i*3+2,none⟩) hb).trans z3;have y6:=(hb3.cell (p:=⟨tb,i,none⟩) HLT.out.2).trans htc));go_wp2_with fail;go_ret;exact⟨by rw[HV.out];rfl,hbd.trans (hb3.mono hbd.size)⟩
end Go.Proofs.YtkinoehmcfhgbaaGreatDoor.Vl
