/- A part of the proof. -/
import Derived.Test.YtkinoehmcfhgbaaGreatDoorN10
set_option linter.unusedVariables false
set_option linter.unusedSimpArgs false
set_option maxRecDepth 100000
set_option maxHeartbeats 8000000
namespace Go.Proofs.YtkinoehmcfhgbaaGreatDoor.Vl
open Go.RowKit Go.Shelf
open Av (Fm Cm Rc IsF IsC Lst Same fv)
theorem CondR.own {X Y:World} {row:Option Nat} {v:Value} {ys:List Sym} (h:CondR X v ys) (hg:X.grownBy Y row) (hr:∀r,row=some r→∃o:Obj,X.heap[r]?=some o∧o.isCells=false):CondR Y v ys:=by
 rcases h with h|⟨b,cap,h1,h2,h3,h4,h5,cur,fr,h6⟩
 ·exact Or.inl h
 ·exact Or.inr ⟨b,cap,h1,h2,h3,Nat.lt_of_lt_of_le h4 hg.size,fun j u hu=>cell_kept (h5 j u hu) hg hr,cur,fr,(grownBy_keeps_cells hg hr h6 rfl).trans h6⟩
theorem WkAt.ownF {w0 X Y:World} {row:Option Nat} {wb B:Nat} {tl:Bool} {L:List (List Sym)} (h:WkAt w0 X wb tl L) (hB:w0.heap.size≤B) (hg:X.grownBy Y row) (hr:∀r,row=some r→B≤r∧∃o:Obj,X.heap[r]?=some o∧o.isCells=false):WkAt w0 Y wb tl L:=by
 have hr2:∀r,row=some r→∃o:Obj,X.heap[r]?=some o∧o.isCells=false:=fun r e=>(hr r e).2
 obtain⟨v,vs,hv,ho,hd⟩:=h.hv;refine⟨h.b0.grown hg h.b0.size (fun k e=>Nat.le_trans hB (hr k e).1),h.hb,v,vs,(grownBy_keeps_cells hg hr2 hv rfl).trans hv,ho.kept hg ?_,hd.1,fun j u ys h1 h2=>(hd.2 j u ys h1 h2).own hg hr2⟩;rcases ho.2 with⟨rfl,_⟩|⟨g,cap,cur,rfl,_,hgb,_⟩
 ·exact Or.inl rfl
 ·refine Or.inr (fun e=>?_);obtain⟨o,h1,h2⟩:=hr2 g e.symm;rw[hgb] at h1;cases h1;cases h2
theorem FrS.ownF {w X Y:World} {row:Option Nat} {wb B:Nat} (h:FrS wb w X) (hB:w.heap.size≤B) (hg:X.grownBy Y row) (hr:∀r,row=some r→B≤r):FrS wb w Y :=
 ⟨Nat.le_trans h.size hg.size,fun hw k hk hn hs=>(hg.block k (Nat.lt_of_lt_of_le hk h.size) (fun e=>by have:=hr k e.symm;omega)).trans (h.block hw k hk hn hs),
  fun hw k ⟨o,n,c,e⟩=>h.fresh hw k ⟨o,n,c,(World.cell?_of_block (a:=⟨wb,0,none⟩) (hg.block wb (Nat.lt_of_lt_of_le hw h.size) (fun e=>by have:=hr wb e.symm;omega))).symm.trans e⟩⟩
def IC (w0 w:World) (wb:Nat) (ys:List (List Value)) (cl:List Cm) (q:List Sym) (tl:Bool) (L:List (List Sym)) (lv:Value) (pre:List (Nat×List Value)) (W:World):Prop :=
 (∃k,k≤ys.length∧pre=cameC ys k∧(∃v,Boxed W (w.heap.size+2) 75 v∧CondR W v (sq (cl.drop k) q))∧WkAt w0 W wb (tl||sT (cl.drop k) q) (L++sL (cl.drop k) q)) ∧
 Boxed W w.heap.size 268 (.pointer (some ⟨wb,0,none⟩))∧Boxed W (w.heap.size+1) 99 lv∧Boxed W (w.heap.size+3) 99 lv∧FrS wb w W∧w.heap.size+4≤W.heap.size∧∀k,LB W wb k→k<w.heap.size∨w.heap.size+4≤k
theorem znA {w0 w W0:World} {wb:Nat} {ys:List (List Value)} {cl:List Cm} {q:List Sym} {tl:Bool} {L:List (List Sym)} {lv:Value} (h0:w0.heap.size≤w.heap.size) (hz:W0.heap.size=w.heap.size+4):OwnFrom W0.heap.size (IC w0 w wb ys cl q tl L lv):=by
 intro s X Y row hs hg hr;have hr2:∀r,row=some r→∃o:Obj,X.heap[r]?=some o∧o.isCells=false:=fun r e=>(hr r e).2
 obtain⟨⟨k,hk,hp,⟨v,hv,hc⟩,hA⟩,c0,c1,c3,hF,hs4,hlb⟩:=hs;have ne:∀b,b<w.heap.size+4→some b≠row:=fun b hb e=>by have:=(hr b e.symm).1;omega
 refine⟨⟨k,hk,hp,⟨v,hv.kept hg (ne _ (by omega)),hc.own hg hr2⟩,hA.ownF (B:=W0.heap.size) (by omega) hg hr⟩,c0.kept hg (ne _ (by omega)),c1.kept hg (ne _ (by omega)),c3.kept hg (ne _ (by omega)),hF.ownF (B:=W0.heap.size) (by omega) hg (fun r e=>(hr r e).1),Nat.le_trans hs4 hg.size,fun k ⟨o,n,c,e⟩=>?_⟩;obtain⟨tv,vs,htv,_⟩:=hA.hv;exact hlb k ⟨o,n,c,(World.cell?_of_block (a:=⟨wb,0,none⟩) (grownBy_keeps_cells hg hr2 htv rfl)).symm.trans e⟩
theorem FrS.box {wb:Nat} {W W':World} {B:Nat} {t:TypeId} {v:Value} (h:FrS wb W W') (hw:wb<W.heap.size) (hb:Boxed W B t v) (hn:B≠wb) (hl:¬LB W wb B):Boxed W' B t v :=
 (h.block hw B hb.lt hn hl).trans hb
theorem zmy (n0 Bs:Nat) (W:World) (l:Nat) (o o':Obj) (h1:n0≤l) (h2:Bs<l) (h:W.heap[l]?=some o):KpC n0 Bs W (W.putObj l o') :=
 ⟨fun b j hb=>World.cell?_of_block (World.putObj_heap_other (by dsimp only;omega)),World.cell?_of_block (World.putObj_heap_other (by dsimp only;omega))⟩
attribute [local go_sem] Oper.semAt_some
theorem zjF:∀(cl:List Cm) (k:Nat),sN (cl.drop k)≤sN cl
 | [],k=>by cases k<;>exact Nat.le_refl _
 | a::r,0=>Nat.le_refl _
 | a::r,k+1=>Nat.le_trans (zjF r k) (Nat.le_add_left _ _)
theorem zjG:∀(cl:List Cm) (k:Nat),sO (cl.drop k)≤sO cl
 | [],k=>by cases k<;>exact Nat.le_refl _
 | a::r,0=>Nat.le_refl _
 | a::r,k+1=>Nat.le_trans (zjG r k) (Nat.le_add_left _ _)
theorem EachOk.drop {n:Nat} {cl:List Cm} (h:EachOk n cl) (k:Nat):EachOk n (cl.drop k) :=
 ⟨fun a ha=>h.z a (List.mem_of_mem_drop ha),fun a ha=>h.o a (List.mem_of_mem_drop ha),fun a ha=>h.k a (List.mem_of_mem_drop ha),fun a ha=>h.s a (List.mem_of_mem_drop ha)⟩
theorem znB {w:World} {P:Nat→Prop}:∀{cl:List Cm} {ys:List (List Value)} {k:Nat} {y:List Value},Lc w P cl ys→ys[k]?=some y→∃a,(a∈cl∧cl.drop k=a::cl.drop (k+1))∧IsC w P a [y]∧nas a+sN (cl.drop (k+1))≤sN cl∧nlo a+sO (cl.drop (k+1))≤sO cl
 | [],[],k,y,_,h=>by simp at h
 | a::r,x::ys,0,y,hl,h=>by
  cases h
  exact⟨a,⟨.head _,rfl⟩,hl.1,Nat.le_refl _,Nat.le_refl _⟩
 | a::r,x::ys,k+1,y,hl,h=>by
  obtain⟨b,⟨h1,h2⟩,h3,h4,h5⟩:=znB hl.2 (by simpa using h);exact⟨b,⟨.tail _ h1,h2⟩,h3,Nat.le_trans h4 (Nat.le_add_left _ _),Nat.le_trans h5 (Nat.le_add_left _ _)⟩
 | [],_::_,_,_,hl,_=>hl.elim
 | _::_,[],_,_,hl,_=>hl.elim
theorem znC {c:Cm} (h1:one1 c) (q:List Sym) (K:Int) (ho:cOk c) (hk:kOk c) (hs:sOk c) (hK1:1999≤K) (hK:K+999*(nas c:Int)≤999999) (h:Gd K q) (hq:q.length≤20000):Gd (K+999*(nas c:Int)) (pcm c q)∧(pcm c q).length≤70000:=by
 cases c with
 | seq a b=>exact h1.elim
 | skip=>exact⟨h.mono (by simp[nas]),by show q.length≤_;omega⟩
 | asg x t =>
  obtain⟨x0,x3,t1,t2,t3,t4⟩:=ho;exact⟨(zh5 (by omega) (by omega) ⟨by omega,by omega⟩ (by simp only[nas] at hK;omega) h).mono (by simp[nas]),by simp only[pcm,List.length_map];omega⟩
 | ite f a b =>
  simp only[nas] at hK ⊢;have ga:=(zdc a q K ho.2.1 hk.1 hK1 (by omega) h);have gb:=(zdc b q K ho.2.2 hk.2 hK1 (by omega) h);have la:=zdT ga;have lb:=zdT gb;have ga':=ga.mono (L:=K+999*((nas a+nas b:Nat):Int)) (by omega);have gb':=gb.mono (L:=K+999*((nas a+nas b:Nat):Int)) (by omega);have gf:Gd (K+999*((nas a+nas b:Nat):Int)) (fsy f):=(zaF f ho.1).mono (by omega);have hl:=hs.1;exact⟨Gd.mark (by omega) (by omega) (Gd.mark (by omega) (by omega) (gf.app (ga'.app (Gd.mark (by omega) (by omega) (Gd.mark (by omega) (by omega) (gf.app gb')))))),by simp only[pcm,List.length_cons,List.length_append];omega⟩
 | loop f g a=>exact⟨(zaF g hk.1).mono (by omega),by have:=hs.2.1;show(fsy g).length≤_;omega⟩
theorem zeQ {w:World} {P:Nat→Prop} {a:Cm} {y:List Value} (h:IsC w P a [y]):one1 a:=by
 cases a with
 | seq a b =>
  obtain⟨y',ys,ey,h1,h2⟩:=h;cases ey
  exact absurd h2 (by intro h;cases b<;>simp[IsC] at h)
 | _=>trivial
attribute [local go_sem] Oper.semAt_some
theorem zjH {w0 w W w2:World} {wb B:Nat} {tl0 tl:Bool} {L0 L:List (List Sym)} {v v2 lv:Value} {ys2:List Sym} (hwb:wb<w.heap.size) (h0s:w0.heap.size≤w.heap.size) (hA0:WkAt w0 W wb tl0 L0) (hF:FrS wb w W) (hF2:FrS wb W w2)
 (hv:Boxed W (w.heap.size+2) 75 v) (c0:Boxed W w.heap.size 268 (.pointer (some ⟨wb,0,none⟩))) (c1:Boxed W (w.heap.size+1) 99 lv) (c3:Boxed W (w.heap.size+3) 99 lv) (hs4:w.heap.size+4≤W.heap.size) (hlb:∀k,LB W wb k→k<w.heap.size∨w.heap.size+4≤k)
 (hC2:CondR w2 v2 ys2) (hA2:WkAt w0 w2 wb tl L) :
 KeepsFrom B W (w2.setCell ⟨w.heap.size+2,0,none⟩ v2)∧KpC w0.heap.size (w.heap.size+3) W (w2.setCell ⟨w.heap.size+2,0,none⟩ v2)∧(Boxed (w2.setCell ⟨w.heap.size+2,0,none⟩ v2) (w.heap.size+2) 75 v2∧CondR (w2.setCell ⟨w.heap.size+2,0,none⟩ v2) v2 ys2)∧WkAt w0 (w2.setCell ⟨w.heap.size+2,0,none⟩ v2) wb tl L ∧
 Boxed (w2.setCell ⟨w.heap.size+2,0,none⟩ v2) w.heap.size 268 (.pointer (some ⟨wb,0,none⟩))∧Boxed (w2.setCell ⟨w.heap.size+2,0,none⟩ v2) (w.heap.size+1) 99 lv∧Boxed (w2.setCell ⟨w.heap.size+2,0,none⟩ v2) (w.heap.size+3) 99 lv∧FrS wb w (w2.setCell ⟨w.heap.size+2,0,none⟩ v2)∧w.heap.size+4≤(w2.setCell ⟨w.heap.size+2,0,none⟩ v2).heap.size∧∀k,LB (w2.setCell ⟨w.heap.size+2,0,none⟩ v2) wb k→k<w.heap.size∨w.heap.size+4≤k:=by
 have hwW:wb<W.heap.size:=by omega
 have hno:∀i,i<4→¬LB W wb (w.heap.size+i):=fun i hi e=>by rcases hlb _ e with h|h<;>omega
 have b0:=hF2.box hwW c0 (by omega) (hno 0 (by omega));have b1:=hF2.box hwW c1 (by omega) (hno 1 (by omega));have b2:=hF2.box hwW hv (by omega) (hno 2 (by omega));have b3:=hF2.box hwW c3 (by omega) (hno 3 (by omega));have hlb2:∀k,LB w2 wb k→k<w.heap.size∨w.heap.size+4≤k:=fun k e=>by
  rcases hF2.fresh hwW k e with h|h
  ·exact hlb k h
  ·omega
 have hg:=grownBy_setCell' w2 (w.heap.size+2) v2;have hz2:=hF2.size;obtain⟨tv,tvs,htv,hto,htd⟩:=hA2.hv;obtain⟨tv0,_,htv0,_⟩:=hA0.hv;have hh2:w2.heap[w.heap.size+2]?=some (.cells #[v] 75 (0,0)):=b2;have hsz:(w2.setCell ⟨w.heap.size+2,0,none⟩ v2).heap.size=w2.heap.size:=by simp[World.setCell]
 have hkF:=hF2.keeps (B:=B) htv0 (fun k hk=>(hA0.lb k hk).2.2);have hcell:∀(k j:Nat),k≠w.heap.size+2→(w2.setCell ⟨w.heap.size+2,0,none⟩ v2).cell? ⟨k,j,none⟩=w2.cell? ⟨k,j,none⟩:=fun k j hk=>World.cell?_of_block (Below.heap_setCell w2 ⟨w.heap.size+2,0,none⟩ v2 k hk)
 have hCC:∀(u:Value) (zs:List Sym),CondR w2 u zs→CondR (w2.setCell ⟨w.heap.size+2,0,none⟩ v2) u zs:=fun u zs hu=>by
  rcases hu with h|⟨b,cap,h1,h2,h3,h4,h5,cur,fr,h6⟩
  ·exact Or.inl h
  ·have hne:b≠w.heap.size+2:=fun e=>by
    subst e;rw[hh2] at h6;injection Option.some.inj h6 with a1 a2 a3
    exact absurd a2 (by decide)
   have e:=Below.heap_setCell w2 ⟨w.heap.size+2,0,none⟩ v2 b hne;exact Or.inr ⟨b,cap,h1,h2,h3,by rw[hsz];exact h4,fun j u hu=>(hcell _ _ hne).trans (h5 j u hu),cur,fr,e.trans h6⟩
 refine⟨⟨by rw[hsz];exact hz2,fun k o hk1 hk2 ho=>?_⟩,⟨fun b o hb=>?_,?_⟩,⟨b2.set v2,?_⟩,⟨hA2.b0.setCell (p:=⟨w.heap.size+2,0,none⟩) (by dsimp only;omega) _,hA2.hb,tv,tvs,?_,hto.kept hg ?_,htd.1,fun j u zs h1 h2=>hCC u zs (htd.2 j u zs h1 h2)⟩,b0.other (by omega) v2,b1.other (by omega) v2,b3.other (by omega) v2,⟨?_,fun hw k hk hn hs=>?_,fun hw k e=>?_⟩,by rw[hsz];omega,fun k ⟨o,n,c,e⟩=>hlb2 k ⟨o,n,c,(hcell wb 0 (by omega)).symm.trans e⟩⟩
 ·have h1:=hkF.same k o hk1 hk2 ho;refine(Below.heap_setCell w2 ⟨w.heap.size+2,0,none⟩ v2 k (fun e=>?_)).trans h1;have e':k=w.heap.size+2:=e;rw[e',hh2] at h1;cases h1;cases ho
 ·rw[hcell b o (by omega),hA2.b0.cell (p:=⟨b,o,none⟩) hb,hA0.b0.cell (p:=⟨b,o,none⟩) hb]
 ·rw[hcell _ _ (by omega),b3.cell,c3.cell]
 ·exact hCC v2 ys2 hC2
 ·exact(Below.heap_setCell w2 ⟨w.heap.size+2,0,none⟩ v2 wb (by dsimp only;omega)).trans htv
 ·rcases hto.2 with⟨rfl,_⟩|⟨g,cap,cur,rfl,_⟩
  ·exact Or.inl rfl
  ·refine Or.inr (fun e=>?_);have eg:g=w.heap.size+2:=by simpa [Value.ownBlock] using e
   have h2:=hlb2 g (zmp htv hto g rfl);omega
 ·rw[hsz];have:=hF.size;omega
 ·exact(Below.heap_setCell w2 ⟨w.heap.size+2,0,none⟩ v2 k (by dsimp only;omega)).trans ((hF.trans hF2).block hw k hk hn hs)
 ·obtain⟨o,n,c,e⟩:=e;exact(hF.trans hF2).fresh hw k ⟨o,n,c,(hcell wb 0 (by omega)).symm.trans e⟩
theorem zgq (w0:World) (P:Nat→Prop) (wb n:Nat) (hgt:Gt w0) (IH:ComW w0 P wb n) (c:Cm) (w:World) (pa:Option Addr) (pcap:Nat) (q:List Sym) (tl:Bool) (L:List (List Sym)) (K:Int) (g m:Nat) (ys:List (List Value)) (hsz:csz c≤n) (hy4:ys.length≤4000) (hL:Lst w0 P g ys.length m ys) (hI:IsC w0 P c ys) (hp:CPre w0 w wb tl L (.slice pa q.length pcap) q K c) :
 CallsIn Fence.wide 9 Tryz.prog 91 #[.pointer (some ⟨wb,0,none⟩),.slice (some ⟨g,0,none⟩) ys.length m,.slice pa q.length pcap] w fun e w'=>∃v',e=.returned v'∧CondR w' v' (pw c q)∧WkAt w0 w' wb (tl||pt c q) (L++pL c q)∧FrS wb w w':=by
 obtain⟨cl,l1,l2,l3,l4,l5⟩:=zhg (n:=n) c ys hI hsz hp.ok hp.kk hp.sk;refine callsIn_of_wp_marks Tryz.func91 rfl trivial ?_ rfl;simp only[Tryz.ntmps91,List.size_toArray,List.length_cons,List.length_nil,Nat.reduceAdd,Nat.reduceSub,Array.replicate_succ,Array.replicate_zero,List.push_toArray,List.append_toArray,List.nil_append,List.cons_append]
 gi_wp2_with (refine⟨trivial,?_⟩;gi_at_call 138;refine(zlj _ _ _ _ _).mono ?_;rintro e w' ⟨rfl,rfl⟩)
 obtain⟨hPg,hg0,_,hym,hmm,hr0,h20⟩:=hL;have h0s:w0.heap.size≤w.heap.size:=hp.hA.b0.size;obtain⟨W0,hW0⟩:∃W0,(((w.alloc (.cells #[.pointer (some ⟨wb,0,none⟩)] 268)).alloc (.cells #[.slice (some ⟨g,0,none⟩) ys.length m] 99)).alloc (.cells #[.slice pa q.length pcap] 75)).alloc (.cells #[.slice (some ⟨g,0,none⟩) ys.length m] 99)=W0:=⟨_,rfl⟩
 have hz:W0.heap.size=w.heap.size+4:=by rw[←hW0];simp
 have hB0:Below w.heap.size w W0:=by rw[←hW0];exact(((zaa w _).alloc (by simp) _).alloc (by simp<;>omega) _).alloc (by simp<;>omega) _
 have d0:W0.cell? ⟨w.heap.size,0,none⟩=some (.pointer (some ⟨wb,0,none⟩)):=by rw[←hW0];exact((zaa _ _).cell (p:=⟨w.heap.size,0,none⟩) (by simp<;>omega)).trans (((zaa _ _).cell (p:=⟨w.heap.size,0,none⟩) (by simp<;>omega)).trans (((zaa _ _).cell (p:=⟨w.heap.size,0,none⟩) (by simp)).trans (by simp)))
 have d1:W0.cell? ⟨w.heap.size+1,0,none⟩=some (.slice (some ⟨g,0,none⟩) ys.length m):=by rw[←hW0];exact((zaa _ _).cell (p:=⟨w.heap.size+1,0,none⟩) (by simp<;>omega)).trans (((zaa _ _).cell (p:=⟨w.heap.size+1,0,none⟩) (by simp)).trans (by rw[World.cell?_alloc_at _ _ _ _ (by simp)];rfl))
 have hV0:Boxed W0 (w.heap.size+2) 75 (.slice pa q.length pcap):=by
  rw[←hW0];have:=(Boxed.new ((w.alloc (.cells #[.pointer (some ⟨wb,0,none⟩)] 268)).alloc (.cells #[.slice (some ⟨g,0,none⟩) ys.length m] 99)) 75 (.slice pa q.length pcap)).alloc (.cells #[.slice (some ⟨g,0,none⟩) ys.length m] 99)
  rwa [World.size_alloc,World.size_alloc] at this
 have d3:W0.cell? ⟨w.heap.size+3,0,none⟩=some (.slice (some ⟨g,0,none⟩) ys.length m):=by rw[←hW0,World.cell?_alloc_at _ _ _ _ (by simp)];rfl
 have D0:Boxed W0 w.heap.size 268 (.pointer (some ⟨wb,0,none⟩)):=by
  rw[←hW0];exact(((Boxed.new w 268 (.pointer (some ⟨wb,0,none⟩))).alloc _).alloc _).alloc _
 have D1:Boxed W0 (w.heap.size+1) 99 (.slice (some ⟨g,0,none⟩) ys.length m):=by
  rw[←hW0];have:=((Boxed.new (w.alloc (.cells #[.pointer (some ⟨wb,0,none⟩)] 268)) 99 (.slice (some ⟨g,0,none⟩) ys.length m)).alloc (.cells #[.slice pa q.length pcap] 75)).alloc (.cells #[.slice (some ⟨g,0,none⟩) ys.length m] 99)
  rwa [World.size_alloc] at this
 have D3:Boxed W0 (w.heap.size+3) 99 (.slice (some ⟨g,0,none⟩) ys.length m):=by
  rw[←hW0];have:=Boxed.new (((w.alloc (.cells #[.pointer (some ⟨wb,0,none⟩)] 268)).alloc (.cells #[.slice (some ⟨g,0,none⟩) ys.length m] 99)).alloc (.cells #[.slice pa q.length pcap] 75)) 99 (.slice (some ⟨g,0,none⟩) ys.length m)
  rwa [World.size_alloc,World.size_alloc,World.size_alloc] at this
 rw[hW0];clear hW0;have hrW:W0.rangeAt g 0 ys.flatten:=fun j v hv=>(hB0.cell (p:=⟨g,0+j,none⟩) (Nat.lt_of_lt_of_le hg0 h0s)).trans ((hp.hA.b0.cell (p:=⟨g,0+j,none⟩) hg0).trans (hr0 j v hv))
 refine zcs (by omega) (gf:=209) (lb:=#[.pointer (some ⟨w.heap.size+1+1+1,0,none⟩)]) rfl (enters_of Tryz.func209 (by kernel_rfl) rfl)
  (zhP (9-1) (by omega) (w.heap.size+1+1+1) w0.heap.size g m ys hy4 W0 (by omega) (by omega) hg0 h20 d3 hrW) (fun h k=>h.trans k)
  (fun W l o o' hl h ho=>zmy _ _ W l o o' (by omega) (by omega) h) (fun _=>rfl)
  (fun pre W=>IC w0 w wb ys cl q tl L (.slice (some ⟨g,0,none⟩) ys.length m) pre W) (znA h0s hz)
  ⟨⟨ys.length,Nat.le_refl _,(zfK ys).symm,⟨_,hV0,by rw[←l1.len,List.drop_length];exact hp.hc.below hB0⟩,by rw[←l1.len,List.drop_length];simpa [sT,sL] using hp.hA.below hB0⟩,D0,D1,D3,FrS.of_below hB0,by omega,fun k ⟨o,n,c,e⟩=>Or.inl (hp.hA.lb k ⟨o,n,c,(hB0.cell (p:=⟨wb,0,none⟩) hp.hA.lt).symm.trans e⟩).2.1⟩
  (fun x a' W=>a'={tmps:=#[.pointer (some ⟨wb,0,none⟩),.slice (some ⟨g,0,none⟩) ys.length m,.slice pa q.length pcap,.pointer (some ⟨w.heap.size,0,none⟩),.pointer (some ⟨w.heap.size+1,0,none⟩),.pointer (some ⟨w.heap.size+1+1,0,none⟩),.slice none 0 0,.int .i64 (x.1:Int),.slice (some ⟨g,0,none⟩) ys.length m,.func (.func 209) #[] #[.pointer (some ⟨w.heap.size+1+1+1,0,none⟩)],.int .i64 (x.1:Int),.agg x.2.toArray,undef,undef,undef,undef,undef,undef,undef,undef,undef],defers:=[]})
  (fun x a' s X Y row hs hg hr=>hs)
  ?assign ?body ?done
 case assign =>
  rintro l pre ⟨k,y⟩ W K hinv hnx hK;simp only[encC]
  gi_wp2
  exact hK _ _ (KeepsFrom.refl _ _) (KpC.refl _ _ _) hinv rfl
 case body =>
  rintro l pre ⟨k,y⟩ a' W ⟨⟨k',hk',hpre,⟨v,hv,hc⟩,hA⟩,c0,c1,c3,hF,hs4,hlb⟩ ⟨hn1,hn2,hn3⟩ rfl;dsimp only at hn1 hn2 hn3;obtain rfl:k'=k+1:=by
   have e:=congrArg List.length (hpre.symm.trans hn1);rw[za6,za6] at e;omega
  have HP:Hid (cameC ys k=pre++[(k,y)]):=by show _=_;rw[hpre];exact zeh ys k hn2 _ hn3
  obtain⟨a,ha,hI1,hN,hO⟩:=znB l1 hn3;obtain⟨hm,hdr⟩:=ha;have e3:=zjF cl (k+1);have e4:=zjG cl (k+1);have k1:=hp.k1;have k2:=hp.k2;have lL:=hp.lL;have sl:=zlC (cl.drop (k+1)) q;have gq:=znM (n:=n) k1 hp.gq (cl.drop (k+1)) (l2.drop (k+1)) (by omega);have hry:w0.rangeAt g (k*20) y:=fun i u hu=>by have:=hr0 (k*20+i) u (zjT h20 k y hn3 i u hu);rwa [Nat.zero_add] at this
  have hp1:CPre w0 W.drew wb (tl||sT (cl.drop (k+1)) q) (L++sL (cl.drop (k+1)) q) v (sq (cl.drop (k+1)) q) (K+999*(sN (cl.drop (k+1)):Int)) a:=⟨l2.o a hm,l2.k a hm,l2.s a hm,hA.below (Below.refl _ _).drew,hc.below (Below.refl _ _).drew,gq,by omega,by omega,znN hp.lq _ _ gq,by rw[List.length_append];omega⟩;have CC:Hid (∀N,CallsIn (Fence.wide.inRound l) N Tryz.prog 140 #[.pointer (some ⟨wb,0,none⟩),.pointer (some ⟨g,k*20,none⟩),v] W.drew fun e w'=>∃v',e=.returned v'∧CondR w' v' (pcm a (sq (cl.drop (k+1)) q))∧WkAt w0 w' wb ((tl||sT (cl.drop (k+1)) q)||pct a (sq (cl.drop (k+1)) q)) ((L++sL (cl.drop (k+1)) q)++pL a (sq (cl.drop (k+1)) q))∧FrS wb W.drew w'):=fun N=>CallsIn.inRound l (callsIn_wide.2 (IH a W.drew v _ _ _ _ g (k*20) y (l2.z a hm) hI1 hg0 hry hp1))
  obtain⟨gpc,lpc⟩:=znC (zeQ hI1) (sq (cl.drop (k+1)) q) _ hp1.ok hp1.kk hp1.sk hp1.k1 hp1.k2 gq hp1.lq;have bpc:=(za3 gpc).2;have CBd:Hid (∀N X u tl' L',WkAt w0 X wb tl' L'→CondR X u (pcm a (sq (cl.drop (k+1)) q))→CallsIn (Fence.wide.inRound l) N Tryz.prog 139 #[.pointer (some ⟨wb,0,none⟩),u] X fun e w'=>∃v',e=.returned v'∧WkAt w0 w' wb (tl'||tol (sbs (pcm a (sq (cl.drop (k+1)) q)))) L'∧FrS wb X w'∧CondR w' v' (pb (pcm a (sq (cl.drop (k+1)) q)))∧w'.cell? ⟨wb,0,none⟩=X.cell? ⟨wb,0,none⟩):=fun N X u tl' L' h1 h2=>CallsIn.inRound l (callsIn_wide.2 (zdA u _ h1 h2 (zeU gpc) (by omega) (by omega) hgt))
  have HE:Hid (sq (cl.drop k) q=pb (pcm a (sq (cl.drop (k+1)) q))∧sT (cl.drop k) q=(sT (cl.drop (k+1)) q||(pct a (sq (cl.drop (k+1)) q)||tol (sbs (pcm a (sq (cl.drop (k+1)) q)))))∧sL (cl.drop k) q=sL (cl.drop (k+1)) q++pL a (sq (cl.drop (k+1)) q)):=by
   show _∧_∧_
   rw[hdr];exact⟨zlm (zeQ hI1) _,by simp only[sT,zmI (zeQ hI1)],rfl⟩
  have hmx:Tryz.prog.follows .mixedOrders=true:=by kernel_rfl
  have hwb:wb<w.heap.size:=hp.hA.lt;have CE:Hid (∀w2 tl2 L2 v2 ys2,FrS wb W w2→CondR w2 v2 ys2→WkAt w0 w2 wb tl2 L2→_):=fun w2 tl2 L2 v2 ys2 h1 h2 h3=>zjH (B:=W0.heap.size) hwb h0s hA hF h1 hv c0 c1 c3 hs4 hlb h2 h3
  have BX:Hid (∀X,FrS wb W.drew X→X.cell? ⟨w.heap.size,0,none⟩=some (.pointer (some ⟨wb,0,none⟩))∧X.frozen? ⟨w.heap.size+1+1,0,none⟩=false∧X.cell? ⟨w.heap.size+1+1,0,none⟩=some v∧X.cell? ⟨w.heap.size+1,0,none⟩=some (.slice (some ⟨g,0,none⟩) ys.length m)):=fun X hX=>by
   have hno:∀i,i<4→¬LB W.drew wb (w.heap.size+i):=fun i hi e=>by rcases hlb _ e with h|h<;>omega
   have hwW:wb<W.drew.heap.size:=Nat.lt_of_lt_of_le hwb (Nat.le_trans (by omega) hs4);have b0:=FrS.box (W:=W.drew) hX hwW c0 (by omega) (hno 0 (by omega));have b2:=FrS.box (W:=W.drew) hX hwW hv (by omega) (hno 2 (by omega));have b1:=FrS.box (W:=W.drew) hX hwW c1 (by omega) (hno 1 (by omega));exact⟨b0.cell,b2.frozen,b2.cell,b1.cell⟩
  have HF0:Hid (FrS wb W W.drew):=FrS.of_below (Below.refl _ _).drew;obtain⟨va,vc,rfl⟩:=hc.shape;have e0:W.cell? ⟨w.heap.size,0,none⟩=some (.pointer (some ⟨wb,0,none⟩)):=c0.cell;have e1:W.cell? ⟨w.heap.size+1,0,none⟩=some (.slice (some ⟨g,0,none⟩) ys.length m):=c1.cell;have e2:W.cell? ⟨w.heap.size+1+1,0,none⟩=some (.slice va (sq (cl.drop (k+1)) q).length vc):=hv.cell;have hki:(k:Int)<(ys.length:Int):=by omega
  clear hc hA c0 c1 c3 hF hv hp1 gpc lpc bpc gq hry hI1 hN hO hm hdr e3 e4 hpre hn1 hn3 k1 k2 lL sl l1 l2 l3 l4 l5;generalize sq (cl.drop (k+1)) q=Q1 at *;generalize pcm a Q1=Q2 at *;refine wpIn_block ?_;refine wpIn_region_any hmx (Held.any (S:=fun X=>X.cell? ⟨w.heap.size,0,none⟩=some (.pointer (some ⟨wb,0,none⟩))∧X.cell? ⟨w.heap.size+1,0,none⟩=some (.slice (some ⟨g,0,none⟩) ys.length m)) _ _ _ _ ?_);change Held _ _ _ _ _ _ _ _ _ _ (World.drew _);refine Held.take (i:=0) (v:=.pointer (some ⟨wb,0,none⟩)) (by kernel_rfl) rfl (by kernel_rfl) (by kernel_rfl) (by kernel_rfl) (fun _ _ _ h=>h) ⟨by rfl,?t0,fun _=>rfl⟩ ?_
  case t0=>rintro X ⟨h1,h2⟩;go_simp
  refine Held.take (i:=1) (v:=.pointer (some ⟨wb,0,none⟩)) (by kernel_rfl) rfl (by kernel_rfl) (by kernel_rfl) (by kernel_rfl) (fun _ _ _ h=>h) ⟨by rfl,?t1,fun _=>rfl⟩ ?_
  case t1=>rintro X ⟨h1,h2⟩;go_simp
  refine Held.take (i:=2) (v:=.slice (some ⟨g,0,none⟩) ys.length m) (by kernel_rfl) rfl (by kernel_rfl) (by kernel_rfl) (by kernel_rfl) (fun _ _ _ h=>h) ⟨by rfl,?t2,fun _=>rfl⟩ ?_
  case t2=>rintro X ⟨h1,h2⟩;go_simp
  refine Held.take (i:=3) (v:=.int .i64 (k:Int)) (by kernel_rfl) rfl (by kernel_rfl) (by kernel_rfl) (by kernel_rfl) (fun _ _ _ h=>h) ⟨by rfl,?t3,fun _=>rfl⟩ ?_
  case t3=>rintro X ⟨h1,h2⟩;go_simp
  refine Held.take (i:=4) (v:=.pointer (some ⟨g,k*20,none⟩)) (by kernel_rfl) rfl (by kernel_rfl) (by kernel_rfl) (by kernel_rfl) (fun _ _ _ h=>h) ⟨by rfl,?t4,fun _=>rfl⟩ ?_
  case t4=>rintro X ⟨h1,h2⟩;go_simp
  refine Held.one (i:=5) ⟨e0,e1⟩ (by kernel_rfl) rfl (fun K' hK=>?_)
  go_simp
  refine hK _ _ ?_;clear hK K';refine Held.one (i:=6) ⟨e0,e1⟩ (by kernel_rfl) rfl (fun K' hK=>?_)
  go_simp
  refine⟨trivial,(CC.out _).mono ?_⟩;rintro e w1 ⟨v1,rfl,hc1,hA1,hF1⟩;obtain⟨pa1,pc1,rfl⟩:=hc1.shape;obtain⟨x0,x1,x2,x3⟩:=BX.out _ hF1;refine hK _ _ ?_;clear hK K';refine Held.one (i:=7) ⟨x0,x3⟩ (by kernel_rfl) rfl (fun K' hK=>?_)
  go_simp
  refine⟨trivial,(CBd.out _ _ _ _ _ hA1 hc1).mono ?_⟩;rintro e w2 ⟨v2,rfl,hA2,hF2,hC2,_⟩;obtain⟨pa2,pc2,rfl⟩:=hC2.shape;obtain⟨y0,y1,y2,y3⟩:=BX.out _ (hF1.trans hF2);refine hK _ _ ?_;clear hK K';obtain⟨r1,r2,⟨r3,r4⟩,r5,r6,r7,r8,r9,r10⟩:=CE.out w2 _ _ _ _ (HF0.out.trans (hF1.trans hF2)) hC2 hA2;refine Held.one (i:=8) ⟨y0,y3⟩ (by kernel_rfl) rfl (fun K' hK=>?_)
  go_simp
  refine hK _ _ ?_;clear hK K';refine Held.done ⟨r6.cell,r7.cell⟩ (by kernel_rfl) ?_;obtain⟨q1,q2,q3⟩:=HE.out;refine⟨rfl,r1,r2,⟨k,by omega,HP.out.symm,⟨_,r3,?_⟩,?_⟩,r6,r7,r8,r9,r10⟩
  ·rw[q1];exact r4
  ·rw[q2,q3,←List.append_assoc];simpa only[Bool.or_assoc] using r5
 case done =>
  rintro D xs W hD rfl ⟨⟨k,hk,hp',⟨v,hv,hc⟩,hA⟩,c0,c1,c3,hF,hs4⟩ hK;obtain rfl:k=0:=by
   have e:=congrArg List.length hp';rw[za6,za6] at e;omega
  rw[List.drop_zero,(l5 q).1] at hc;rw[List.drop_zero,(l5 q).2.1,(l5 q).2.2] at hA;obtain⟨va,vc,rfl⟩:=hc.shape;have cv:=hv.cell
  gi_wp2
  refine⟨by simp,.inl ⟨_,_,rfl,run_takeDeferred hK,?_⟩⟩;have hgp:=grownBy_putObj' W D (.deferred none);have hrr:∀r,some D=some r→W0.heap.size≤r∧∃o:Obj,W.heap[r]?=some o∧o.isCells=false:=fun r e=>by cases e;exact⟨hD,_,hK,rfl⟩
  exact⟨_,results_tmp rfl _ _ _,.slice va (pw c q).length vc,rfl,hc.own hgp (fun r e=>(hrr r e).2),hA.ownF (B:=W0.heap.size) (by omega) hgp hrr,hF.ownF (B:=W0.heap.size) (by omega) hgp (fun r e=>(hrr r e).1)⟩
theorem zjI {w:World} {P:Nat→Prop}:∀(c:Cm) (ys:List (List Value)),IsC w P c ys→ys.length≤csz c
 | .seq a b,ys,h=>by
  obtain⟨y,ys',rfl,ha,hb⟩:=h;have:=zjI b ys' hb;simp only[List.length_cons,csz];omega
 | .skip,ys,h=>by obtain⟨y,rfl⟩:=zbB h trivial;simp[csz]
 | .asg x t,ys,h=>by obtain⟨y,rfl⟩:=zbB h trivial;simp[csz]
 | .ite f a b,ys,h=>by obtain⟨y,rfl⟩:=zbB h trivial;simp only[List.length_cons,List.length_nil,csz];omega
 | .loop f g a,ys,h=>by obtain⟨y,rfl⟩:=zbB h trivial;simp only[List.length_cons,List.length_nil,csz];omega
theorem zmz:∀c:Cm,0<csz c
 | .skip=>by simp[csz]
 | .asg _ _=>by simp[csz]
 | .ite _ a b=>by simp only[csz];omega
 | .loop _ _ a=>by simp only[csz];omega
 | .seq a b=>by simp only[csz];omega
theorem zee (w0:World) (P:Nat→Prop) (wb n:Nat) (hgt:Gt w0) (hn:n≤4000) (IH:ComW w0 P wb n):ComsW w0 P wb n:=by
 intro c w v q tl L K g k m ys hsz hL hI hp;obtain⟨pa,pcap,rfl⟩:=hp.hc.shape;have hlen:=zjI c ys hI;obtain rfl:ys.length=k:=hL.2.2.1;exact callsIn_wide.1 (zgq w0 P wb n hgt IH c w pa pcap q tl L K g m ys hsz (by omega) hL hI hp)
theorem walks (w0:World) (P:Nat→Prop) (wb:Nat) (hgt:Gt w0):∀n,n≤4000→ComW w0 P wb n∧ComsW w0 P wb n
 | 0,hn=>by
  have h0:ComW w0 P wb 0:=fun c w v q tl L K g o y hsz=>by have:=zmz c;omega
  exact⟨h0,zee w0 P wb 0 hgt hn h0⟩
 | n+1,hn=>by
  have ih:=(walks w0 P wb hgt n (by omega)).2;have h1:=zjR w0 P wb (n+1) hgt (fun _=>by simpa using ih);exact⟨h1,zee w0 P wb (n+1) hgt hn h1⟩
end Go.Proofs.YtkinoehmcfhgbaaGreatDoor.Vl
