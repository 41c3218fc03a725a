/- A part of the proof. -/
import Derived.Test.YtkinoehmcfhgbaaGreatDoorH5
set_option linter.unusedVariables false
set_option linter.unusedSimpArgs false
set_option maxRecDepth 100000
set_option maxHeartbeats 8000000
namespace Go.Proofs.YtkinoehmcfhgbaaGreatDoor.Vl
open Go.RowKit Go.Shelf
attribute [local go_sem] Oper.semAt_some
theorem mkFullIn {F:Fence} {m:Nat} {P:Program} (w:World) {ops:Array Oper} {rest:List Oper} {o:Oper} {a:Act} {Q:Exit→Act→World→Prop}
 (hg:o.guard=none) (l c:Operand) (t:TypeId) (hop:o.op=Op.makeSlice t l c)
 (base:Nat) (e:TypeId) (i:TypeInfo) (z:Value) (size:Nat) (h1:P.underlying t=some (.slice e)) (h2:P.info? e=some i) (h3:i.zero=some z) (h4:i.size=size)
 (kl kc:IntKind) (L C:Int) (n:Nat) (hl:a.eval l=.int kl L) (hc:a.eval c=.int kc C) (hL:L=(n:Int)) (hC:C=(n:Int)) (b2:i.bytes*n≤281474976710656) (b3:n≤maxLen) (b4:base≤w.heap.size)
 (hK:∀w',w'.ownsRow base e size (.slice (some ⟨w.heap.size,0,none⟩) n n) n (madeCells z.cells (n*size)).toList→w.grownBy w' none→wpListIn F m P ops Q rest (a.put o.dst (.slice (some ⟨w.heap.size,0,none⟩) n n)) w') :
 wpListIn F m P ops Q (o::rest) a w:=by
 refine wpListIn_plain hg fun K hK'=>?_
 obtain⟨w',hrun,r1,r2⟩:=run_make_full (P:=P) w base t e i z size h1 h2 h3 h4 kl kc n b2 b3 b4;subst hL;subst hC;unfold Oper.wpIn;refine⟨?_,?_⟩
 ·simp[Oper.about,hop]
 ·rw[Oper.semAt_plain F _ _ (by rw[hop];intro c hc';cases hc')];simp[execOp,hop,hl,hc,hrun,Result.andThen];exact hK' _ _ (hK w' r1 r2)
structure WtI (w:World) (pb kb gb bb cg:Nat) (g:List Pt) (F:List Int) (pre:List (Nat×Pt)) (W:World):Prop where
 bel:Below w.heap.size w W
 b0:Blk W w.heap.size 119 [.pointer (some ⟨pb,0,none⟩)]
 b1:Blk W (w.heap.size+1) 246 [.pointer (some ⟨kb,0,none⟩)]
 b3:Blk W bb 167 [.slice (some ⟨w.heap.size+1+1,0,none⟩) g.length g.length]
 b4:Blk W (bb+1) 177 [.slice (some ⟨gb,0,none⟩) g.length cg]
 pts:∃(k:Nat) (P:List Int),k≤g.length∧pre=cameG g k∧P.length=g.length∧Blk W (w.heap.size+1+1) 3 (P.map iv)∧(∀j,k≤j→P.getD j 0=F.getD j 0)∧∀j,j<k→P.getD j 0=0
theorem zhe {w X Y:World} {row:Option Nat} (h:Below w.heap.size w X) (hg:X.grownBy Y row) (hr:∀r,row=some r→w.heap.size≤r):Below w.heap.size w Y:=((FrX.of_below (M:=[]) h).ownF hg hr).nil_below
theorem zmE {w W0:World} {pb kb gb bb cg:Nat} {g:List Pt} {F:List Int} (hz:w.heap.size≤W0.heap.size):OwnFrom W0.heap.size (WtI w pb kb gb bb cg g F):=by
 intro s X Y row hs hg hr;have hr2:∀r,row=some r→∃o:Obj,X.heap[r]?=some o∧o.isCells=false:=fun r e=>(hr r e).2
 obtain⟨k,P,h1,h2,h3,h4,h5,h6⟩:=hs.pts;exact⟨zhe hs.bel hg (fun r e=>by have:=(hr r e).1;omega),hs.b0.ownF hg hr2,hs.b1.ownF hg hr2,hs.b3.ownF hg hr2,hs.b4.ownF hg hr2,k,P,h1,h2,h3,h4.ownF hg hr2,h5,h6⟩
theorem zgv {w W W1:World} {pb kb gb bb cg B k:Nat} {g:List Pt} {F:List Int} {pre:List (Nat×Pt)} {y:Pt} (h:WtI w pb kb gb bb cg g F pre W) (hbb:w.heap.size+3≤bb) (hp:pre=cameG g (k+1)) (hk:k<g.length) (hy:g[k]?=some y) (hg:gb<w.heap.size)
 (hF:Below W.heap.size W W1) {v:Int} (hv:v=F.getD k 0) :
 KeepsFrom B W (W1.setCell ⟨w.heap.size+1+1,k,none⟩ (.int .i64 v))∧KpG gb (bb+1) W (W1.setCell ⟨w.heap.size+1+1,k,none⟩ (.int .i64 v))∧WtI w pb kb gb bb cg g F (pre++[(k,y)]) (W1.setCell ⟨w.heap.size+1+1,k,none⟩ (.int .i64 v)):=by
 obtain⟨k',P,hk',hpre,hPl,hPB,hPF,hPZ⟩:=h.pts;obtain rfl:k'=k+1:=by
  have e:=congrArg List.length (hpre.symm.trans hp);rw[zan,zan] at e;omega
 have hF2:FrX [w.heap.size+1+1] W (W1.setCell ⟨w.heap.size+1+1,k,none⟩ (.int .i64 v)):=(FrX.of_below hF).trans (zap W1 _ k _);have b0l:=h.b0.lt;have b1l:=h.b1.lt;have b3l:=h.b3.lt;have b4l:=h.b4.lt;refine⟨⟨hF2.size,fun j o hj1 hj2 ho=>?_⟩,⟨fun o=>hF2.cell o (by omega) (by simp;omega),hF2.cell 0 b4l (by simp;omega)⟩,⟨?_,h.b0.fr hF2 (by simp;omega),h.b1.fr hF2 (by simp),h.b3.fr hF2 (by simp;omega),h.b4.fr hF2 (by simp;omega),k,P.set k v,by omega,?_,by rw[List.length_set];exact hPl,?_,fun j hjk=>?_,fun j hjk=>?_⟩⟩
 ·have hlt:j<W.heap.size:=(Array.getElem?_eq_some_iff.1 hj2).1;refine(hF2.block j hlt ?_).trans hj2;intro e;obtain rfl:=List.mem_singleton.1 e;have hb':W.heap[w.heap.size+1+1]?=some (.cells (P.map iv).toArray 3):=hPB;rw[hj2] at hb';cases hb'
  cases ho
 ·exact(h.bel.trans (hF.mono h.bel.size)).setCell (p:=⟨w.heap.size+1+1,k,none⟩) (by dsimp only;omega) _
 ·rw[hp];exact(zbG g k hk y hy).symm
 ·have:=(hPB.below hF).set k (.int .i64 v);rw[List.map_set];exact this
 ·rw[List.getD_eq_getElem?_getD,List.getElem?_set];split
  ·rename_i e
   subst e;rw[if_pos (by omega),Option.getD_some,hv]
  ·rw[←List.getD_eq_getElem?_getD];exact hPF j (by omega)
 ·rw[List.getD_eq_getElem?_getD,List.getElem?_set,if_neg (by omega),←List.getD_eq_getElem?_getD];exact hPZ j (by omega)
theorem zhf {w W:World} {pb kb gb bb cg B k:Nat} {g:List Pt} {F:List Int} {pre:List (Nat×Pt)} {y:Pt} (h:WtI w pb kb gb bb cg g F pre W) (hp:pre=cameG g (k+1)) (hk:k<g.length) (hy:g[k]?=some y) (hv:F.getD k 0=0) :
 KeepsFrom B W W∧KpG gb (bb+1) W W∧WtI w pb kb gb bb cg g F (pre++[(k,y)]) W:=by
 obtain⟨k',P,hk',hpre,hPl,hPB,hPF,hPZ⟩:=h.pts;obtain rfl:k'=k+1:=by
  have e:=congrArg List.length (hpre.symm.trans hp);rw[zan,zan] at e;omega
 refine⟨⟨Nat.le_refl _,fun j o _ hj2 _=>hj2⟩,KpG.refl _ _ _,⟨h.bel,h.b0,h.b1,h.b3,h.b4,k,P,by omega,by rw[hp];exact(zbG g k hk y hy).symm,hPl,hPB,fun j hj=>?_,fun j hj=>hPZ j (by omega)⟩⟩;by_cases e:j=k
 ·subst e;rw[hPZ j (by omega),hv]
 ·exact hPF j (by omega)
theorem zhN (w0 w:World) (D:PD) (us:List Atm) (g:List Pt) (s n:Nat) (A:Nat→Int) (ats parts:List Int) (kb:Nat) (B:Bd) (h:PvS w0 w D us g s n A ats parts) (hB:BdAt w kb 0 B) (hok:∀a∈us,okA a) (hus:us.length≤4000) (h3:∀t∈ats,T3 t) (hgl:g.length≤8000) (hGW:GW us.length g)
 (hby:∀a∈us,∀t,(brs B a t).length≤4000) :
 CallsIn Fence.wide 9 Tryz.prog 238 #[.pointer (some ⟨D.pb,0,none⟩),.pointer (some ⟨kb,0,none⟩)] w fun e w'=>∃wb,e=.returned (.slice (some ⟨wb,0,none⟩) g.length g.length)∧Blk w' wb 3 ((wts us A ats B parts 0 g).map iv)∧w.heap.size≤wb∧Below w.heap.size w w':=by
 obtain⟨i0,hi,hz0,hz1,hz2⟩:=info_parts Tryz.infoInt;have HW:Hid (∀X i,Below w.heap.size w X→i<us.length→Calls Tryz.prog 265 #[.pointer (some ⟨D.pb,0,none⟩),.int .i64 (i:Int),.pointer (some ⟨kb,0,none⟩)] X fun e w'=>e=.returned (.int .i64 (gwt us A ats B i))∧Below X.heap.size X w'):=fun X i hX hi=>zhl w0 X D us g s n A ats parts kb B i (h.below hX) (hB.below hX) hok hus h3 hi hby
 have HX:Hid (∀X,Below w.heap.size w X→PvS w0 X D us g s n A ats parts):=fun X hX=>h.below hX
 have hol:=h.gol;have hpl:=h.pl;have hpbl:=h.box.lt;have hqbl:=h.pr.lt;obtain⟨pb,mb,tb,qb,gb,kk,qa,ca,cg⟩:=D;have HA:Hid (∀x y,PvS w0 ((w.alloc x).alloc y) ⟨pb,mb,tb,qb,gb,kk,qa,ca,cg⟩ us g s n A ats parts):=fun x y=>(h.below (zaa w x)).below (zaa _ y)
 have c2:∀x y,((w.alloc x).alloc y).cell? ⟨pb,2,none⟩=some (.slice (some ⟨gb,0,none⟩) g.length cg):=fun x y=>(HA.out x y).cells.2.2.1
 dsimp only at *;clear h hB;refine callsIn_of_wp_marks Tryz.func238 rfl trivial ?_ rfl;simp only[Tryz.ntmps238,List.size_toArray,List.length_cons,List.length_nil,Nat.reduceAdd,Nat.reduceSub,Array.replicate_succ,Array.replicate_zero,List.push_toArray,List.append_toArray,List.nil_append,List.cons_append]
 gi_wp2_with (gi_at_make;refine mkFullIn _ rfl _ _ 167 rfl w.heap.size 3 i0 (.int .i64 0) 1 Tryz.underlying167 hi hz0 hz1 .i64 .i64 _ _ g.length rfl rfl rfl rfl (by rw[hz2];omega) (by unfold maxLen;omega) (by simp<;>omega) ?_)
 intro w3 hown hgrow;have hbk:Blk w3 (w.heap.size+1+1) 3 ((List.replicate g.length (0:Int)).map iv):=by
  have h:=hown;rw[toList_madeCells_one] at h;have h2:=zcb h;rw[List.map_replicate];exact h2
 have hba:Below w.heap.size w ((w.alloc (.cells #[.pointer (some ⟨pb,0,none⟩)] 119)).alloc (.cells #[.pointer (some ⟨kb,0,none⟩)] 246)):=(zaa w _).alloc (by simp) _;have hb3:Below w.heap.size w w3:=hba.trans (((Below.refl _ _).grown hgrow (Nat.le_refl _) (by intro k h;cases h)).mono hba.size);have D0:Blk w3 w.heap.size 119 [.pointer (some ⟨pb,0,none⟩)]:=(hgrow.block w.heap.size (by simp<;>omega) (by intro e;cases e)).trans ((Below.heap_alloc _ _ _ (by simp)).trans (heap_alloc_new w _));have D1:Blk w3 (w.heap.size+1) 246 [.pointer (some ⟨kb,0,none⟩)]:=by
  have:=heap_alloc_new (w.alloc (.cells #[.pointer (some ⟨pb,0,none⟩)] 119)) (.cells #[.pointer (some ⟨kb,0,none⟩)] 246);rw[World.size_alloc] at this;exact(hgrow.block (w.heap.size+1) (by simp) (by intro e;cases e)).trans this
 have hsz3:=hbk.lt;have e0':∀x,(w3.alloc x).cell? ⟨w.heap.size,0,none⟩=some (.pointer (some ⟨pb,0,none⟩)):=fun x=>(D0.below (zaa w3 x)).cell rfl
 have c2':∀x,(w3.alloc x).cell? ⟨pb,2,none⟩=some (.slice (some ⟨gb,0,none⟩) g.length cg):=fun x=>((HX.out w3 hb3).below (zaa w3 x)).cells.2.2.1
 clear hown hgrow hba c2 HA
 gi_wp2_with (refine⟨trivial,?_⟩;gi_at_call 237;refine(zgH _ _ _ _ _).mono ?_;rintro e w' ⟨rfl,rfl⟩)
 obtain⟨bb,hbb⟩:∃bb,w3.heap.size=bb:=⟨_,rfl⟩
 obtain⟨W0,hW0⟩:∃W0,(w3.alloc (.cells #[.slice (some ⟨w.heap.size+1+1,0,none⟩) g.length g.length] 167)).alloc (.cells #[.slice (some ⟨gb,0,none⟩) g.length cg] 177)=W0:=⟨_,rfl⟩
 have hz:W0.heap.size=bb+2:=by rw[←hW0,←hbb];simp
 have h30:Below w3.heap.size w3 W0:=by rw[←hW0];exact(zaa w3 _).alloc (by simp) _
 have hB0:Below w.heap.size w W0:=hb3.trans (h30.mono hb3.size);have D3:Blk W0 bb 167 [.slice (some ⟨w.heap.size+1+1,0,none⟩) g.length g.length]:=by
  rw[←hW0,←hbb];exact(Below.heap_alloc _ _ _ (by simp)).trans (heap_alloc_new w3 _)
 have D4:Blk W0 (bb+1) 177 [.slice (some ⟨gb,0,none⟩) g.length cg]:=by
  rw[←hW0,←hbb];have:=heap_alloc_new (w3.alloc (.cells #[.slice (some ⟨w.heap.size+1+1,0,none⟩) g.length g.length] 167)) (.cells #[.slice (some ⟨gb,0,none⟩) g.length cg] 177);rw[World.size_alloc] at this;exact this
 have D0':=D0.below h30;have D1':=D1.below h30;have hbk':=hbk.below h30;rw[hW0,hbb];rw[hbb] at hsz3;clear hW0 e0' c2' D0 D1 hbk h30 hb3 hbb;clear w3;have hgw:=hol.1;have HFL:Hid ((wts us A ats B parts 0 g).length=g.length):=zfQ us A ats B parts g 0;have HF:Hid (∀k y,g[k]?=some y→(wts us A ats B parts 0 g).getD k 0=wvf us A ats B parts (wts us A ats B parts 0 g) k y):=fun k y hy=>zgE us A ats B parts hGW k y hy
 obtain⟨F,hFF⟩:∃F,wts us A ats B parts 0 g=F:=⟨_,rfl⟩
 rw[hFF] at HFL HF;have HGF:Hid (wts us A ats B parts 0 g=F):=hFF;clear hFF;refine zcs (by omega) (gf:=264) (lb:=#[.pointer (some ⟨bb+1,0,none⟩)]) rfl (enters_of Tryz.func264 (by kernel_rfl) rfl)
  (zd1 (9-1) (by omega) (bb+1) gb cg g hgl W0 (by omega) (D4.cell rfl) (hol.below hB0)) (fun h k=>h.trans k)
  (fun W l o o' hl h ho=>zig _ _ W l o' (by omega) (by omega)) (fun _=>rfl)
  (fun pre W=>WtI w pb kb gb bb cg g F pre W) (zmE (by omega))
  ⟨hB0,D0',D1',D3,D4,g.length,List.replicate g.length 0,Nat.le_refl _,(zdg g).symm,by simp,hbk',fun j hj=>by rw[List.getD_eq_getElem?_getD,List.getD_eq_getElem?_getD,List.getElem?_eq_none (by simpa using hj),List.getElem?_eq_none (by rw[HFL.out];exact hj)],fun j hj=>by rw[List.getD_eq_getElem?_getD,List.getElem?_replicate];split<;>rfl⟩
  (fun x a' W=>∃pk,a'={tmps:=#[.pointer (some ⟨pb,0,none⟩),.pointer (some ⟨kb,0,none⟩),.pointer (some ⟨w.heap.size,0,none⟩),.pointer (some ⟨w.heap.size+1,0,none⟩),.slice none 0 0,.pointer (some ⟨bb,0,none⟩),.int .i64 (x.1:Int),.pointer (some ⟨pk,0,none⟩),.pointer (some ⟨pb,0,none⟩),.pointer (some ⟨pb,0,none⟩),.pointer (some ⟨pb,2,none⟩),.slice (some ⟨gb,0,none⟩) g.length cg,.int .i64 (g.length:Int),.slice (some ⟨w.heap.size+1+1,0,none⟩) g.length g.length,.pointer (some ⟨pb,0,none⟩),.pointer (some ⟨pb,0,none⟩),.pointer (some ⟨pb,2,none⟩),.slice (some ⟨gb,0,none⟩) g.length cg,.func (.func 264) #[] #[.pointer (some ⟨bb+1,0,none⟩)],.int .i64 (x.1:Int),.agg #[.int .i64 x.2.1,.int .i64 x.2.2.1,.int .i64 x.2.2.2.1,.int .i8 x.2.2.2.2],undef,undef,undef,undef,undef,undef,undef,undef,undef,undef,undef,undef,undef,undef,undef,undef,undef,undef,undef,undef,undef,undef,undef,undef,undef,undef,undef,undef,undef,undef,undef,undef,undef,undef,undef,undef,undef,undef,undef,undef,undef,undef,undef,undef,undef,undef,undef,undef,undef,undef,undef,undef,undef,undef,undef,undef,undef,undef,undef,undef,undef],defers:=[]}∧Blk W pk 252 [.int .i64 x.2.1,.int .i64 x.2.2.1,.int .i64 x.2.2.2.1,.int .i8 x.2.2.2.2]∧bb+2≤pk)
  (fun x a' s X Y row hs hg hr=>?own)
  ?assign ?body ?done
 case own =>
  obtain⟨pk,h1,h2,h3⟩:=hs;exact⟨pk,h1,h2.ownF hg (fun r e=>(hr r e).2),h3⟩
 case assign =>
  rintro l pre ⟨k,y1,y2,y3,y4⟩ W K hinv hnx hK;simp only[encG]
  gi_wp2
  have hbl:=zaa W (.cells #[.int .i64 y1,.int .i64 y2,.int .i64 y3,.int .i8 y4] 252);have hs2:=hinv.b4.lt;refine hK _ _ ?_ ?_ ?_ ⟨W.heap.size,rfl,heap_alloc_new W _,by omega⟩
  ·exact⟨hbl.size,fun j o hj1 hj2 ho=>(hbl.block j (Array.getElem?_eq_some_iff.1 hj2).1).trans hj2⟩
  ·exact⟨fun o=>hbl.cell (p:=⟨gb,o,none⟩) (Nat.lt_of_lt_of_le hgw hinv.bel.size),hbl.cell (p:=⟨bb+1,0,none⟩) hs2⟩
  ·obtain⟨k',P,h1,h2,h3',h4,h5,h6⟩:=hinv.pts;exact⟨hinv.bel.trans (hbl.mono hinv.bel.size),hinv.b0.below hbl,hinv.b1.below hbl,hinv.b3.below hbl,hinv.b4.below hbl,k',P,h1,h2,h3',h4.below hbl,h5,h6⟩
 case body =>
  rintro l pre ⟨k,y1,y2,y3,y4⟩ a' W hI ⟨hn1,hn2,hn3⟩ ⟨pk,rfl,hpk,hpk2⟩;dsimp only at hn1 hn2 hn3 hpk;have hPV:=HX.out W hI.bel;have g6:=hPV.cells.2.2.2.2.2.2;have gq:=hPV.pcell hn2;dsimp only at g6 gq;obtain⟨k',P,hk',hpre,hPl,hPB,hPF,hPZ⟩:=hI.pts;obtain rfl:k'=k+1:=by
   have e:=congrArg List.length (hpre.symm.trans hn1);rw[zan,zan] at e;omega
  have e0:W.cell? ⟨w.heap.size,0,none⟩=some (.pointer (some ⟨pb,0,none⟩)):=hI.b0.cell rfl;have e1:W.cell? ⟨w.heap.size+1,0,none⟩=some (.pointer (some ⟨kb,0,none⟩)):=hI.b1.cell rfl;have e3:W.cell? ⟨bb,0,none⟩=some (.slice (some ⟨w.heap.size+1+1,0,none⟩) g.length g.length):=hI.b3.cell rfl;have p0:W.cell? ⟨pk,0,none⟩=some (.int .i64 y1):=hpk.cell rfl;have p1:W.cell? ⟨pk,1,none⟩=some (.int .i64 y2):=hpk.cell rfl;have p2:W.cell? ⟨pk,2,none⟩=some (.int .i64 y3):=hpk.cell rfl;have hkl:(k:Int)<(g.length:Int):=by omega
  have hPW:=hGW k _ hn3;have HV:=HF.out k _ hn3;have fq:W.frozen? ⟨w.heap.size+1+1,k,none⟩=false:=hPB.free k;obtain⟨uq,hqc⟩:∃u,W.cell? ⟨w.heap.size+1+1,k,none⟩=some (.int .i64 u):=⟨P.getD k 0,hPB.cell (by rw[List.getElem?_map,List.getD_eq_getElem?_getD,List.getElem?_eq_getElem (by omega)];rfl)⟩
  have CE:Hid (∀v,v=F.getD k 0→_):=fun v hv=>zgv (B:=W0.heap.size) (v:=v) hI (by omega) hn1 hn2 hn3 hgw (Below.refl _ W) hv
  have CE2:Hid (∀v,v=F.getD k 0→_):=fun v hv=>zgv (B:=W0.heap.size) (v:=v) hI (by omega) hn1 hn2 hn3 hgw (Below.refl _ W).drew hv
  have CE3:Hid (∀X v,Below W.heap.size W X→v=F.getD k 0→_):=fun X v hX hv=>zgv (B:=W0.heap.size) (v:=v) hI (by omega) hn1 hn2 hn3 hgw hX hv
  by_cases hq2:parts.getD k 0=2
  ·rw[hq2] at gq;have hk5:y1=0∨y1=1∨y1=2∨y1=3∨y1=4:=by have:=hPW.k0;have:=hPW.k4;dsimp only at *;omega
   rcases hk5 with rfl|rfl|rfl|rfl|rfl
   ·have hv:Hid (F.getD k 0=0):=by show _=_;rw[HV];unfold wvf;rw[if_neg (by rw[hq2];decide)];simp
    have CS:Hid _:=zhf (B:=W0.heap.size) hI hn1 hn2 hn3 hv.out;clear hI hpk hPB hPF HV hPW hpre hn1 hz hq2 hPV CE CE2 CE3
    gi_wp2
    exact CS.out
   ·have hv:Hid (F.getD k 0=0):=by show _=_;rw[HV];unfold wvf;rw[if_neg (by rw[hq2];decide)];simp
    have CS:Hid _:=zhf (B:=W0.heap.size) hI hn1 hn2 hn3 hv.out;clear hI hpk hPB hPF HV hPW hpre hn1 hz hq2 hPV CE CE2 CE3
    gi_wp2
    exact CS.out
   ·obtain⟨sx,es,hs1,hs2⟩:=hPW.two (Or.inl rfl);dsimp only at es;subst es;have ht1:W.cell? ⟨w.heap.size+1+1,k+1,none⟩=some (.int .i64 (F.getD (k+1) 0)):=by
     rw[←hPF (k+1) (Nat.le_refl _)];exact hPB.cell (by rw[List.getElem?_map,List.getD_eq_getElem?_getD,List.getElem?_eq_getElem (by omega)];rfl)
    have ht2:W.cell? ⟨w.heap.size+1+1,sx,none⟩=some (.int .i64 (F.getD sx 0)):=by
     rw[←hPF sx (by omega)];exact hPB.cell (by rw[List.getElem?_map,List.getD_eq_getElem?_getD,List.getElem?_eq_getElem (by omega)];rfl)
    have HV2:Hid (min (F.getD (k+1) 0) (F.getD sx 0)=F.getD k 0):=by
     show _=_
     rw[HV];unfold wvf;rw[if_neg (by rw[hq2];decide)];simp
    have hmx:Tryz.prog.follows .mixedOrders=true:=by kernel_rfl
    generalize F.getD (k+1) 0=t1 at *;generalize F.getD sx 0=t2 at *;have hk1:(k:Int)+1<(g.length:Int):=by omega
    have hk1':IntKind.i64.wrap ((k:Int)+1)=((k+1:Nat):Int):=by rw[show(k:Int)+1=((k+1:Nat):Int) by omega];exact IntWalk.i64_in _ (by omega)
    have hk2:((k+1:Nat):Int)<(g.length:Int):=by omega
    have hs3:(sx:Int)<(g.length:Int):=by omega
    have hks:k≠sx:=by omega
    have hbw:bb≠w.heap.size+1+1:=by omega
    have hpw:pk≠w.heap.size+1+1:=by omega
    clear hI hpk hPB hPF HV hPW hpre hn1 hz hq2 hPV CE CE3
    gi_wp2
    refine wpIn_region_any hmx (Held.any (S:=fun X=>X.cell? ⟨bb,0,none⟩=some (.slice (some ⟨w.heap.size+1+1,0,none⟩) g.length g.length)∧X.cell? ⟨pk,1,none⟩=some (.int .i64 (sx:Int))∧X.cell? ⟨w.heap.size+1+1,k+1,none⟩=some (.int .i64 t1)∧X.cell? ⟨w.heap.size+1+1,sx,none⟩=some (.int .i64 t2)) _ _ _ _ ?_);change Held _ _ _ _ _ _ _ _ _ _ (World.drew _);refine Held.take (i:=0) (v:=.slice (some ⟨w.heap.size+1+1,0,none⟩) g.length g.length) (by kernel_rfl) rfl (by kernel_rfl) (by kernel_rfl) (by kernel_rfl) (fun _ _ _ h=>h) ⟨by rfl,?t0,fun _=>rfl⟩ ?_
    case t0=>rintro X ⟨h1,h2,h3,h4⟩;go_simp
    refine Held.take (i:=1) (v:=.int .i64 (k:Int)) (by kernel_rfl) rfl (by kernel_rfl) (by kernel_rfl) (by kernel_rfl) (fun _ _ _ h=>h) ⟨by rfl,?t1,fun _=>rfl⟩ ?_
    case t1=>rintro X ⟨h1,h2,h3,h4⟩;go_simp
    refine Held.take (i:=2) (v:=.slice (some ⟨w.heap.size+1+1,0,none⟩) g.length g.length) (by kernel_rfl) rfl (by kernel_rfl) (by kernel_rfl) (by kernel_rfl) (fun _ _ _ h=>h) ⟨by rfl,?t2,fun _=>rfl⟩ ?_
    case t2=>rintro X ⟨h1,h2,h3,h4⟩;go_simp
    refine Held.take (i:=3) (v:=.int .i64 (k:Int)) (by kernel_rfl) rfl (by kernel_rfl) (by kernel_rfl) (by kernel_rfl) (fun _ _ _ h=>h) ⟨by rfl,?t3,fun _=>rfl⟩ ?_
    case t3=>rintro X ⟨h1,h2,h3,h4⟩;go_simp
    refine Held.take (i:=4) (v:=.int .i64 ((k+1:Nat):Int)) (by kernel_rfl) rfl (by kernel_rfl) (by kernel_rfl) (by kernel_rfl) (fun _ _ _ h=>h) ⟨by rfl,?t4,fun _=>rfl⟩ ?_
    case t4=>rintro X ⟨h1,h2,h3,h4⟩;go_simp
    refine Held.take (i:=5) (v:=.pointer (some ⟨w.heap.size+1+1,k+1,none⟩)) (by kernel_rfl) rfl (by kernel_rfl) (by kernel_rfl) (by kernel_rfl) (fun _ _ _ h=>h) ⟨by rfl,?t5,fun _=>rfl⟩ ?_
    case t5=>rintro X ⟨h1,h2,h3,h4⟩;go_simp;intro h;omega
    refine Held.take (i:=6) (v:=.int .i64 t1) (by kernel_rfl) rfl (by kernel_rfl) (by kernel_rfl) (by kernel_rfl) (fun _ _ _ h=>h) ⟨by rfl,?t6,fun _=>rfl⟩ ?_
    case t6=>rintro X ⟨h1,h2,h3,h4⟩;go_simp
    refine Held.take (i:=7) (v:=.slice (some ⟨w.heap.size+1+1,0,none⟩) g.length g.length) (by kernel_rfl) rfl (by kernel_rfl) (by kernel_rfl) (by kernel_rfl) (fun _ _ _ h=>h) ⟨by rfl,?t7,fun _=>rfl⟩ ?_
    case t7=>rintro X ⟨h1,h2,h3,h4⟩;go_simp
    refine Held.take (i:=8) (v:=.pointer (some ⟨pk,1,none⟩)) (by kernel_rfl) rfl (by kernel_rfl) (by kernel_rfl) (by kernel_rfl) (fun _ _ _ h=>h) ⟨by rfl,?t8,fun _=>rfl⟩ ?_
    case t8=>rintro X ⟨h1,h2,h3,h4⟩;go_simp
    refine Held.take (i:=9) (v:=.int .i64 (sx:Int)) (by kernel_rfl) rfl (by kernel_rfl) (by kernel_rfl) (by kernel_rfl) (fun _ _ _ h=>h) ⟨by rfl,?t9,fun _=>rfl⟩ ?_
    case t9=>rintro X ⟨h1,h2,h3,h4⟩;go_simp
    refine Held.take (i:=10) (v:=.pointer (some ⟨w.heap.size+1+1,sx,none⟩)) (by kernel_rfl) rfl (by kernel_rfl) (by kernel_rfl) (by kernel_rfl) (fun _ _ _ h=>h) ⟨by rfl,?t10,fun _=>rfl⟩ ?_
    case t10=>rintro X ⟨h1,h2,h3,h4⟩;go_simp
    refine Held.take (i:=11) (v:=.int .i64 t2) (by kernel_rfl) rfl (by kernel_rfl) (by kernel_rfl) (by kernel_rfl) (fun _ _ _ h=>h) ⟨by rfl,?t11,fun _=>rfl⟩ ?_
    case t11=>rintro X ⟨h1,h2,h3,h4⟩;go_simp
    refine Held.one (i:=12) ⟨e3,p1,ht1,ht2⟩ (by kernel_rfl) rfl (fun K' hK=>?_)
    go_simp
    refine hK _ _ ?_;clear hK K';refine Held.take (i:=13) (v:=.pointer (some ⟨w.heap.size+1+1,k,none⟩)) (by kernel_rfl) rfl (by kernel_rfl) (by kernel_rfl) (by kernel_rfl) (fun _ _ _ h=>h) ⟨by rfl,?t13,fun _=>rfl⟩ ?_
    case t13=>rintro X ⟨h1,h2,h3,h4⟩;go_simp
    refine Held.one (i:=14) ⟨e3,p1,ht1,ht2⟩ (by kernel_rfl) rfl (fun K' hK=>?_)
    go_simp
    refine hK _ _ ?_;clear hK K';obtain⟨r1,r2,r3⟩:=CE2.out _ HV2.out;refine Held.done ⟨(zak _ _ _ _ _ _ hbw).trans e3,(zak _ _ _ _ _ _ hpw).trans p1,(zaK _ _ _ _ _ (by omega)).trans ht1,(zaK _ _ _ _ _ hks).trans ht2⟩ (by kernel_rfl) ?_;exact⟨rfl,r1,r2,r3⟩
   ·obtain⟨sx,es,hs1,hs2⟩:=hPW.two (Or.inr rfl);dsimp only at es;subst es;have ht1:W.cell? ⟨w.heap.size+1+1,k+1,none⟩=some (.int .i64 (F.getD (k+1) 0)):=by
     rw[←hPF (k+1) (Nat.le_refl _)];exact hPB.cell (by rw[List.getElem?_map,List.getD_eq_getElem?_getD,List.getElem?_eq_getElem (by omega)];rfl)
    have ht2:W.cell? ⟨w.heap.size+1+1,sx,none⟩=some (.int .i64 (F.getD sx 0)):=by
     rw[←hPF sx (by omega)];exact hPB.cell (by rw[List.getElem?_map,List.getD_eq_getElem?_getD,List.getElem?_eq_getElem (by omega)];rfl)
    have HV2:Hid (IntKind.i64.wrap ((F.getD (k+1) 0)+(F.getD sx 0))=F.getD k 0):=by
     show _=_
     rw[HV];unfold wvf;rw[if_neg (by rw[hq2];decide)];simp
    have hmx:Tryz.prog.follows .mixedOrders=true:=by kernel_rfl
    generalize F.getD (k+1) 0=t1 at *;generalize F.getD sx 0=t2 at *;have hk1:(k:Int)+1<(g.length:Int):=by omega
    have hk1':IntKind.i64.wrap ((k:Int)+1)=((k+1:Nat):Int):=by rw[show(k:Int)+1=((k+1:Nat):Int) by omega];exact IntWalk.i64_in _ (by omega)
    have hk2:((k+1:Nat):Int)<(g.length:Int):=by omega
    have hs3:(sx:Int)<(g.length:Int):=by omega
    have hks:k≠sx:=by omega
    have hbw:bb≠w.heap.size+1+1:=by omega
    have hpw:pk≠w.heap.size+1+1:=by omega
    clear hI hpk hPB hPF HV hPW hpre hn1 hz hq2 hPV CE CE3
    gi_wp2
    refine wpIn_region_any hmx (Held.any (S:=fun X=>X.cell? ⟨bb,0,none⟩=some (.slice (some ⟨w.heap.size+1+1,0,none⟩) g.length g.length)∧X.cell? ⟨pk,1,none⟩=some (.int .i64 (sx:Int))∧X.cell? ⟨w.heap.size+1+1,k+1,none⟩=some (.int .i64 t1)∧X.cell? ⟨w.heap.size+1+1,sx,none⟩=some (.int .i64 t2)) _ _ _ _ ?_);change Held _ _ _ _ _ _ _ _ _ _ (World.drew _);refine Held.take (i:=0) (v:=.slice (some ⟨w.heap.size+1+1,0,none⟩) g.length g.length) (by kernel_rfl) rfl (by kernel_rfl) (by kernel_rfl) (by kernel_rfl) (fun _ _ _ h=>h) ⟨by rfl,?t0,fun _=>rfl⟩ ?_
    case t0=>rintro X ⟨h1,h2,h3,h4⟩;go_simp
    refine Held.take (i:=1) (v:=.int .i64 (k:Int)) (by kernel_rfl) rfl (by kernel_rfl) (by kernel_rfl) (by kernel_rfl) (fun _ _ _ h=>h) ⟨by rfl,?t1,fun _=>rfl⟩ ?_
    case t1=>rintro X ⟨h1,h2,h3,h4⟩;go_simp
    refine Held.take (i:=2) (v:=.slice (some ⟨w.heap.size+1+1,0,none⟩) g.length g.length) (by kernel_rfl) rfl (by kernel_rfl) (by kernel_rfl) (by kernel_rfl) (fun _ _ _ h=>h) ⟨by rfl,?t2,fun _=>rfl⟩ ?_
    case t2=>rintro X ⟨h1,h2,h3,h4⟩;go_simp
    refine Held.take (i:=3) (v:=.int .i64 (k:Int)) (by kernel_rfl) rfl (by kernel_rfl) (by kernel_rfl) (by kernel_rfl) (fun _ _ _ h=>h) ⟨by rfl,?t3,fun _=>rfl⟩ ?_
    case t3=>rintro X ⟨h1,h2,h3,h4⟩;go_simp
    refine Held.take (i:=4) (v:=.int .i64 ((k+1:Nat):Int)) (by kernel_rfl) rfl (by kernel_rfl) (by kernel_rfl) (by kernel_rfl) (fun _ _ _ h=>h) ⟨by rfl,?t4,fun _=>rfl⟩ ?_
    case t4=>rintro X ⟨h1,h2,h3,h4⟩;go_simp
    refine Held.take (i:=5) (v:=.pointer (some ⟨w.heap.size+1+1,k+1,none⟩)) (by kernel_rfl) rfl (by kernel_rfl) (by kernel_rfl) (by kernel_rfl) (fun _ _ _ h=>h) ⟨by rfl,?t5,fun _=>rfl⟩ ?_
    case t5=>rintro X ⟨h1,h2,h3,h4⟩;go_simp;intro h;omega
    refine Held.take (i:=6) (v:=.int .i64 t1) (by kernel_rfl) rfl (by kernel_rfl) (by kernel_rfl) (by kernel_rfl) (fun _ _ _ h=>h) ⟨by rfl,?t6,fun _=>rfl⟩ ?_
    case t6=>rintro X ⟨h1,h2,h3,h4⟩;go_simp
    refine Held.take (i:=7) (v:=.slice (some ⟨w.heap.size+1+1,0,none⟩) g.length g.length) (by kernel_rfl) rfl (by kernel_rfl) (by kernel_rfl) (by kernel_rfl) (fun _ _ _ h=>h) ⟨by rfl,?t7,fun _=>rfl⟩ ?_
    case t7=>rintro X ⟨h1,h2,h3,h4⟩;go_simp
    refine Held.take (i:=8) (v:=.pointer (some ⟨pk,1,none⟩)) (by kernel_rfl) rfl (by kernel_rfl) (by kernel_rfl) (by kernel_rfl) (fun _ _ _ h=>h) ⟨by rfl,?t8,fun _=>rfl⟩ ?_
    case t8=>rintro X ⟨h1,h2,h3,h4⟩;go_simp
    refine Held.take (i:=9) (v:=.int .i64 (sx:Int)) (by kernel_rfl) rfl (by kernel_rfl) (by kernel_rfl) (by kernel_rfl) (fun _ _ _ h=>h) ⟨by rfl,?t9,fun _=>rfl⟩ ?_
    case t9=>rintro X ⟨h1,h2,h3,h4⟩;go_simp
    refine Held.take (i:=10) (v:=.pointer (some ⟨w.heap.size+1+1,sx,none⟩)) (by kernel_rfl) rfl (by kernel_rfl) (by kernel_rfl) (by kernel_rfl) (fun _ _ _ h=>h) ⟨by rfl,?t10,fun _=>rfl⟩ ?_
    case t10=>rintro X ⟨h1,h2,h3,h4⟩;go_simp
    refine Held.take (i:=11) (v:=.int .i64 t2) (by kernel_rfl) rfl (by kernel_rfl) (by kernel_rfl) (by kernel_rfl) (fun _ _ _ h=>h) ⟨by rfl,?t11,fun _=>rfl⟩ ?_
    case t11=>rintro X ⟨h1,h2,h3,h4⟩;go_simp
    refine Held.take (i:=12) (v:=.int .i64 (IntKind.i64.wrap ((t1)+(t2)))) (by kernel_rfl) rfl (by kernel_rfl) (by kernel_rfl) (by kernel_rfl) (fun _ _ _ h=>h) ⟨by rfl,?t12,fun _=>rfl⟩ ?_
    case t12=>rintro X ⟨h1,h2,h3,h4⟩;go_simp
    refine Held.take (i:=13) (v:=.pointer (some ⟨w.heap.size+1+1,k,none⟩)) (by kernel_rfl) rfl (by kernel_rfl) (by kernel_rfl) (by kernel_rfl) (fun _ _ _ h=>h) ⟨by rfl,?t13,fun _=>rfl⟩ ?_
    case t13=>rintro X ⟨h1,h2,h3,h4⟩;go_simp
    refine Held.one (i:=14) ⟨e3,p1,ht1,ht2⟩ (by kernel_rfl) rfl (fun K' hK=>?_)
    go_simp
    refine hK _ _ ?_;clear hK K';obtain⟨r1,r2,r3⟩:=CE2.out _ HV2.out;refine Held.done ⟨(zak _ _ _ _ _ _ hbw).trans e3,(zak _ _ _ _ _ _ hpw).trans p1,(zaK _ _ _ _ _ (by omega)).trans ht1,(zaK _ _ _ _ _ hks).trans ht2⟩ (by kernel_rfl) ?_;exact⟨rfl,r1,r2,r3⟩
   ·obtain⟨a,ea,ha⟩:=hPW.atm rfl;dsimp only at ea;subst ea;have CC:Hid (∀N,CallsIn (Fence.wide.inRound l) N Tryz.prog 265 #[.pointer (some ⟨pb,0,none⟩),.int .i64 (a:Int),.pointer (some ⟨kb,0,none⟩)] W.drew fun e w'=>e=.returned (.int .i64 (gwt us A ats B a))∧Below W.drew.heap.size W.drew w'):=fun N=>CallsIn.inRound l (callsIn_wide.2 (HW.out W.drew a hI.bel.drew ha))
    have HV2:Hid (gwt us A ats B a=F.getD k 0):=by
     show _=_
     rw[HV];unfold wvf;rw[if_neg (by rw[hq2];decide)];simp
    have hmx:Tryz.prog.follows .mixedOrders=true:=by kernel_rfl
    have hbw:bb≠w.heap.size+1+1:=by omega
    have hpw:pk≠w.heap.size+1+1:=by omega
    have hbl3:=hI.b3.lt;have hbl0:=hI.b0.lt;have hbl1:=hI.b1.lt;have hblp:=hpk.lt;have hqcl:=hPB.lt;have FQ:Hid (∀X,Below W.heap.size W X→X.frozen? ⟨w.heap.size+1+1,k,none⟩=false):=fun X hX=>(hPB.below hX).free k
    generalize gwt us A ats B a=G at *;have ha':(a:Int)<(us.length:Int):=by omega
    clear hI hpk hPB hPF HV hPW hpre hn1 hz hq2 hPV CE CE2
    gi_wp2
    refine wpIn_region_any hmx (Held.any (S:=fun X=>X.cell? ⟨bb,0,none⟩=some (.slice (some ⟨w.heap.size+1+1,0,none⟩) g.length g.length)∧X.cell? ⟨w.heap.size,0,none⟩=some (.pointer (some ⟨pb,0,none⟩))∧X.cell? ⟨w.heap.size+1,0,none⟩=some (.pointer (some ⟨kb,0,none⟩))∧X.cell? ⟨pk,2,none⟩=some (.int .i64 (a:Int))) _ _ _ _ ?_);change Held _ _ _ _ _ _ _ _ _ _ (World.drew _);refine Held.take (i:=0) (v:=.slice (some ⟨w.heap.size+1+1,0,none⟩) g.length g.length) (by kernel_rfl) rfl (by kernel_rfl) (by kernel_rfl) (by kernel_rfl) (fun _ _ _ h=>h) ⟨by rfl,?t0,fun _=>rfl⟩ ?_
    case t0=>rintro X ⟨h1,h2,h3,h4⟩;go_simp
    refine Held.take (i:=1) (v:=.int .i64 (k:Int)) (by kernel_rfl) rfl (by kernel_rfl) (by kernel_rfl) (by kernel_rfl) (fun _ _ _ h=>h) ⟨by rfl,?t1,fun _=>rfl⟩ ?_
    case t1=>rintro X ⟨h1,h2,h3,h4⟩;go_simp
    refine Held.take (i:=2) (v:=.pointer (some ⟨pb,0,none⟩)) (by kernel_rfl) rfl (by kernel_rfl) (by kernel_rfl) (by kernel_rfl) (fun _ _ _ h=>h) ⟨by rfl,?t2,fun _=>rfl⟩ ?_
    case t2=>rintro X ⟨h1,h2,h3,h4⟩;go_simp
    refine Held.take (i:=3) (v:=.pointer (some ⟨pk,2,none⟩)) (by kernel_rfl) rfl (by kernel_rfl) (by kernel_rfl) (by kernel_rfl) (fun _ _ _ h=>h) ⟨by rfl,?t3,fun _=>rfl⟩ ?_
    case t3=>rintro X ⟨h1,h2,h3,h4⟩;go_simp
    refine Held.take (i:=4) (v:=.int .i64 (a:Int)) (by kernel_rfl) rfl (by kernel_rfl) (by kernel_rfl) (by kernel_rfl) (fun _ _ _ h=>h) ⟨by rfl,?t4,fun _=>rfl⟩ ?_
    case t4=>rintro X ⟨h1,h2,h3,h4⟩;go_simp
    refine Held.take (i:=5) (v:=.pointer (some ⟨kb,0,none⟩)) (by kernel_rfl) rfl (by kernel_rfl) (by kernel_rfl) (by kernel_rfl) (fun _ _ _ h=>h) ⟨by rfl,?t5,fun _=>rfl⟩ ?_
    case t5=>rintro X ⟨h1,h2,h3,h4⟩;go_simp
    refine Held.one (i:=6) ⟨e3,e0,e1,p2⟩ (by kernel_rfl) rfl (fun K' hK=>?_)
    go_simp
    refine⟨trivial,(CC.out _).mono ?_⟩;rintro e w1 ⟨rfl,hw1⟩;have hw1':Below W.heap.size W w1:=(Below.refl _ W).drew.trans (hw1.mono (Nat.le_refl _));have e3':=(hw1'.cell (p:=⟨bb,0,none⟩) hbl3).trans e3;have e0':=(hw1'.cell (p:=⟨w.heap.size,0,none⟩) hbl0).trans e0;have e1':=(hw1'.cell (p:=⟨w.heap.size+1,0,none⟩) hbl1).trans e1;have p2':=(hw1'.cell (p:=⟨pk,2,none⟩) hblp).trans p2;have fq':=FQ.out w1 hw1';have hqc':=(hw1'.cell (p:=⟨w.heap.size+1+1,k,none⟩) hqcl).trans hqc;obtain⟨r1,r2,r3⟩:=CE3.out w1 _ hw1' HV2.out;refine hK _ _ ?_;clear hK K';refine Held.take (i:=7) (v:=.pointer (some ⟨w.heap.size+1+1,k,none⟩)) (by kernel_rfl) rfl (by kernel_rfl) (by kernel_rfl) (by kernel_rfl) (fun _ _ _ h=>h) ⟨by rfl,?t7,fun _=>rfl⟩ ?_
    case t7=>rintro X ⟨h1,h2,h3,h4⟩;go_simp
    refine Held.one (i:=8) ⟨e3',e0',e1',p2'⟩ (by kernel_rfl) rfl (fun K' hK=>?_)
    go_simp
    refine hK _ _ ?_;clear hK K';refine Held.done ⟨(zak _ _ _ _ _ _ hbw).trans e3',(zak _ _ _ _ _ _ (by omega)).trans e0',(zak _ _ _ _ _ _ (by omega)).trans e1',(zak _ _ _ _ _ _ hpw).trans p2'⟩ (by kernel_rfl) ?_;exact⟨rfl,r1,r2,r3⟩
  ·have hv:Hid ((1073741824:Int)=F.getD k 0):=by show _=_;rw[HV];unfold wvf;rw[if_pos hq2]
   have hqn:(parts.getD k 0 != 2)=true:=by simpa using hq2
   generalize parts.getD k 0=P0 at *;clear hI hpk hPB hPF HV hPW hpre hn1 hz hq2
   gi_wp2
   exact CE.out _ hv.out
 case done =>
  rintro D xs W hD rfl hI hK;obtain⟨k,P,hk,hp',hPl,hPB,hPF,hPZ⟩:=hI.pts;obtain rfl:k=0:=by
   have e:=congrArg List.length hp';rw[zan,zan] at e;omega
  have HFr:=hI.bel;have HPE:P=F:=List.ext_getElem? (fun j=>by
   by_cases hj:j<P.length
   ·have h:=hPF j (Nat.zero_le _);rw[List.getD_eq_getElem?_getD,List.getD_eq_getElem?_getD,List.getElem?_eq_getElem hj,List.getElem?_eq_getElem (by rw[HFL.out];omega)] at h;rw[List.getElem?_eq_getElem hj,List.getElem?_eq_getElem (by rw[HFL.out];omega)];exact congrArg some h
   ·rw[List.getElem?_eq_none (by omega),List.getElem?_eq_none (by rw[HFL.out];omega)])
  have e3:W.cell? ⟨bb,0,none⟩=some (.slice (some ⟨w.heap.size+1+1,0,none⟩) g.length g.length):=hI.b3.cell rfl
  gi_wp2
  refine⟨by simp,.inl ⟨_,_,rfl,run_takeDeferred hK,?_⟩⟩;have hgp:=grownBy_putObj' W D (.deferred none);have hrr:∀r,some D=some r→∃o:Obj,W.heap[r]?=some o∧o.isCells=false:=fun r e=>by cases e;exact⟨_,hK,rfl⟩
  exact⟨_,results_tmp rfl _ _ _,_,rfl,by rw[HGF.out,←HPE];exact hPB.ownF hgp hrr,by omega,zhe HFr hgp (fun r e=>by cases e;omega)⟩
end Go.Proofs.YtkinoehmcfhgbaaGreatDoor.Vl
