/- A part of the proof. -/
import Derived.Test.YtkinoehmcfhgbaaGreatDoorN16
import Derived.Test.YtkinoehmcfhgbaaGreatDoorRev
import Derived.Lib.RowBridge
set_option linter.unusedVariables false
set_option linter.unusedSimpArgs false
set_option maxRecDepth 100000
set_option maxHeartbeats 4000000
namespace Go.Proofs.YtkinoehmcfhgbaaGreatDoor.Vl
open Go.RowKit Go.Shelf
open Av (Fm Cm Rc Rd IsF IsC Lst Same fv zas)
theorem zm5 {toks:List (List UInt8×Nat)} {t:Bool} {k k':Nat} {c:Cm} (h:Rc toks t k c k'):csz c+k≤k':=by
 induction h with
 | skip _=>simp[csz];omega
 | @asg k hv=>have h1:=zas toks (k+2);simp only[csz];omega
 | ite _ h1 _ _ h2 h3=>have:=h1.le.1;simp only[csz];omega
 | loop _ h1 h2 _ h3=>have:=h1.le.1;have:=h2.le.1;simp only[csz];omega
 | one _ _ h=>exact h
 | seq _ _ _ h1 h2=>simp only[csz];omega
theorem zd8:∀c:Cm,nas c≤csz c
 | .skip=>by simp[nas]
 | .asg _ _=>by simp[nas,csz]
 | .ite _ a b=>by have:=zd8 a;have:=zd8 b;simp only[nas,csz];omega
 | .loop _ _ a=>by have:=zd8 a;simp only[nas,csz];omega
 | .seq a b=>by have:=zd8 a;have:=zd8 b;simp only[nas,csz];omega
theorem zdp:∀c:Cm,nlo c≤csz c
 | .skip=>by simp[nlo]
 | .asg _ _=>by simp[nlo]
 | .ite _ a b=>by have:=zdp a;have:=zdp b;simp only[nlo,csz];omega
 | .loop _ _ a=>by have:=zdp a;simp only[nlo,csz];omega
 | .seq a b=>by have:=zdp a;have:=zdp b;simp only[nlo,csz];omega
theorem zdq {toks:List (List UInt8×Nat)} {k k':Nat} {f:Fm} (h:Rd toks .form k f k') (hk:k'≤400):(fsy f).length≤4000:=by
 have h1:=zmM h;have h2:=(za3 (zaF f (zb6 h (fun g h=>by cases h)))).1;unfold bl at h2;simp only[tgL] at h1;omega
theorem zm6 {toks:List (List UInt8×Nat)} {t:Bool} {k k':Nat} {c:Cm} (h:Rc toks t k c k'):k'≤400→sOk c∧kOk c:=by
 induction h with
 | skip _=>exact fun _=>⟨trivial,trivial⟩
 | asg _=>exact fun _=>⟨trivial,trivial⟩
 | ite _ h1 r2 r3 h2 h3 =>
  intro hk;have e2:=r2.le;have e3:=r3.le;obtain⟨a1,a2⟩:=h2 (by omega);obtain⟨b1,b2⟩:=h3 (by omega);exact⟨⟨by have:=zdq h1 (by omega);omega,a1,b1⟩,a2,b2⟩
 | loop _ h1 h2 r3 h3 =>
  intro hk;have e2:=h2.le.1;have e3:=r3.le;obtain⟨a1,a2⟩:=h3 (by omega);exact⟨⟨by have:=zdq h1 (by omega);omega,by have:=zdq h2 (by omega);omega,a1⟩,zb6 h2 (fun g h=>by cases h),a2⟩
 | one _ _ h=>exact h
 | seq r1 _ r2 h1 h2 =>
  intro hk;have e2:=r2.le;obtain⟨a1,a2⟩:=h1 (by omega);obtain⟨b1,b2⟩:=h2 hk;exact⟨⟨a1,b1⟩,a2,b2⟩
theorem zcK {base n g cap:Nat} {e:TypeId}:∀(vs pre rest:List Value) (w:World),rest.length=vs.length→w.ownsRow base e 1 (.slice (some ⟨g,0,none⟩) n cap) n (pre++rest)→(w.setCells g pre.length vs).ownsRow base e 1 (.slice (some ⟨g,0,none⟩) n cap) n (pre++vs)
 | [],pre,rest,w,hl,h=>by
  have:rest=[]:=List.length_eq_zero_iff.1 hl;subst this;exact h
 | v::vs,pre,[],w,hl,h=>by simp at hl
 | v::vs,pre,r::rest,w,hl,h=>by
  have h1:=zjM h pre.length v;have e1:(pre++r::rest).set pre.length v=(pre++[v])++rest:=by simp
  rw[e1] at h1;have h2:=zcK vs (pre++[v]) rest _ (by simpa using hl) h1;rw[show(pre++[v]).length=pre.length+1 by simp,show(pre++[v])++vs=pre++v::vs by simp] at h2;exact h2
theorem zbN (g:Nat):∀(vs:List Value) (o:Nat) (w:World),w.grownBy (w.setCells g o vs) (some g)∧(w.setCells g o vs).heap.size=w.heap.size
 | [],o,w=>⟨World.grownBy.refl _ _,rfl⟩
 | v::vs,o,w=>by
  have h1:w.grownBy (w.setCell ⟨g,o,none⟩ v) (some g):=⟨rfl,rfl,rfl,by simp[World.setCell],fun k _ hk=>Below.heap_setCell w ⟨g,o,none⟩ v k (fun e=>hk (by rw[e]))⟩;obtain⟨h2,h3⟩:=zbN g vs (o+1) (w.setCell ⟨g,o,none⟩ v);exact⟨h1.trans h2,h3.trans (by simp[World.setCell])⟩
theorem CondR.row {w w':World} {v u:Value} {ys:List Sym} {base n:Nat} {xs:List Value} (h:CondR w v ys) (ho:w.ownsRow base 75 1 u n xs) (hg:w.grownBy w' u.ownBlock):CondR w' v ys:=by
 rcases h with h|⟨b,cap,h1,h2,h3,h4,h5,cur,fr,h6⟩
 ·exact Or.inl h
 ·have e:w'.heap[b]?=w.heap[b]?:=hg.block b h4 (fun e=>by
   rcases ho.2 with⟨rfl,_⟩|⟨g,c2,cur2,rfl,_,hh,_⟩
   ·cases e
   ·have:b=g:=by simpa [Value.ownBlock] using e
    subst this;have hh:=Option.some.inj (hh.symm.trans h6);injection hh with a1 a2 a3
    exact absurd a2 (by decide))
  exact Or.inr ⟨b,cap,h1,h2,h3,Nat.lt_of_lt_of_le h4 hg.size,fun j u hu=>(World.cell?_of_block (a:=⟨b,0+j,none⟩) e).trans (h5 j u hu),cur,fr,e.trans h6⟩
theorem Cds.rev {w:World} {vs:List Value} {L:List (List Sym)} (h:Cds w vs L):Cds w vs.reverse L.reverse:=by
 refine⟨by simp[h.1],fun j v ys h1 h2=>?_⟩;have hj:j<vs.length:=by
  have:=(List.getElem?_eq_some_iff.1 h1).1;simpa using this
 rw[List.getElem?_reverse hj] at h1;rw[List.getElem?_reverse (by rw[←h.1];exact hj),←h.1] at h2;exact h.2 _ v ys h1 h2
def slE (x:Option Addr×Nat×Nat):Value:=.slice x.1 x.2.1 x.2.2
theorem Cds.slices {w:World} {vs:List Value} {L:List (List Sym)} (h:Cds w vs L):∃zs:List (Option Addr×Nat×Nat),vs=zs.map slE:=by
 have:∀v∈vs,∃x,v=slE x:=fun v hv=>by
  obtain⟨j,hj⟩:=List.mem_iff_getElem?.1 hv;have hl:j<L.length:=by rw[←h.1];exact(List.getElem?_eq_some_iff.1 hj).1
  obtain⟨pa,cap,e⟩:=(h.2 j v _ hj (List.getElem?_eq_getElem hl)).shape;exact⟨(pa,_,cap),e⟩
 clear h
 induction vs with
 | nil=>exact⟨[],rfl⟩
 | cons v r ih =>
  obtain⟨zs,e⟩:=ih (fun u hu=>this u (List.mem_cons_of_mem _ hu));obtain⟨x,e2⟩:=this v List.mem_cons_self;exact⟨x::zs,by rw[List.map_cons,←e,e2]⟩
theorem zf8 (w:World) (base:Nat) (v:Value) (vs:List Value) (L:List (List Sym)) (h:w.ownsRow base 75 1 v L.length vs) (hd:Cds w vs L) (hl:L.length≤1000000) :
 Calls Tryz.prog 95 #[v] w fun e w'=>e=.returned (.tuple #[])∧w'.ownsRow base 75 1 v L.length vs.reverse∧Cds w' vs.reverse L.reverse∧w.grownBy w' v.ownBlock∧w'.heap.size=w.heap.size:=by
 obtain⟨zs,ez⟩:=hd.slices;have hlz:zs.length=L.length:=by rw[←hd.1,ez];simp
 cases zs with
 | nil =>
  have e0:L=[]:=List.length_eq_zero_iff.1 hlz.symm;subst e0 ez;obtain⟨q,c,rfl⟩:=zaN h;refine(AnyE.slices_Reverse_empty Tryz.revC q c w).mono ?_;rintro e w' ⟨rfl,rfl⟩;exact⟨rfl,h,hd,World.grownBy.refl _ _,rfl⟩
 | cons x r =>
  obtain⟨g,cap,rfl,hg1,hg2,hg3,hg4,hg5,hg6⟩:=zav h (by rw[←hlz];simp);have hH:Sort.Holds slE w g 0 (x::r).toArray:=fun j hj=>by
   have hj':j<(x::r).length:=by simpa using hj
   rw[Nat.zero_add];refine⟨hg5 j _ ?_,hg6 j⟩;rw[ez,List.getElem?_map,List.getElem?_eq_getElem hj'];simp[hj'];rw[List.getElem?_eq_getElem hj'];rfl
  rw[←hlz] at h ⊢;have C:=AnyE.slices_Reverse Tryz.revC slE (fun x=>by simp[slE,Value.oneCell']) g 0 cap (x::r) w hH (by omega);refine C.mono ?_;rintro e w' ⟨rfl,n,rfl⟩;rw[Lib.putRow_eq_setCells slE w g 0 (x::r).toArray (x::r).reverse n hH (by simp)];have hd0:(w.drewN n).ownsRow base 75 1 (.slice (some ⟨g,0,none⟩) (x::r).length cap) (x::r).length ([]++(x::r).map slE):=by rw[←ez];exact h
  have h1:=zcK ((x::r).reverse.map slE) [] ((x::r).map slE) (w.drewN n) (by simp) hd0;obtain⟨h2,h3⟩:=zbN g ((x::r).reverse.map slE) 0 (w.drewN n);have h4:w.grownBy (w.drewN n) (some g):=⟨rfl,rfl,rfl,Nat.le_refl _,fun _ _ _=>rfl⟩;have h5:=h4.trans h2;have er:vs.reverse=(x::r).reverse.map slE:=by rw[ez,List.map_reverse]
  rw[er];refine⟨rfl,h1,⟨?_,fun j u ys u1 u2=>?_⟩,h5,h3⟩
  ·rw[←er];exact hd.rev.1
  ·rw[←er] at u1;exact(hd.rev.2 j u ys u1 u2).row h h5
open Go.RowKit
open Av (Fm Cm Rc Rd IsF IsC Lst Same fv)
theorem zl6 (w:World) (tl1:Bool) (L1:List (List Sym)) (F G Q1 ON:List Sym) (k:Int) (p:Option Addr) (n m:Nat) (r a1 a2 a3 a4:Int) (k':Int) (p':Option Addr) (n' m':Nat) (r' b1 b2 b3 b4:Int) (g bn bm:Nat) (cs:Array Value) (w1:World) (wb:Nat)
 (ecs:cs=#[.int .i64 k,.slice p n m,.int .i64 r,.int .i64 a1,.int .i64 a2,.int .i64 a3,.int .i64 a4,.slice (some ⟨g,0,none⟩) bn bm,.int .i64 k',.slice p' n' m',.int .i64 r',.int .i64 b1,.int .i64 b2,.int .i64 b3,.int .i64 b4]) (e1:w1=w.alloc (.cells cs 101)) (ewb:wb=w1.heap.size)
 (eON:ON=(5,0,0,0)::(F++Q1)) (gON:∀y∈ON,Good y) (bON:bl ON≤1000000) (hF:F.length≤20000) (hQ1:Q1.length≤4000) (hL1:L1.length+1≤1000) (hgt:Gt w1)
 (CF:∀X,Below w1.heap.size w1 X→Calls Tryz.prog 92 #[.agg #[.int .i64 k,.slice p n m,.int .i64 r,.int .i64 a1,.int .i64 a2,.int .i64 a3,.int .i64 a4]] X fun e w'=>∃v,e=.returned v∧CondR w' v F∧Below X.heap.size X w')
 (CG:∀X,Below w1.heap.size w1 X→Calls Tryz.prog 92 #[.agg #[.int .i64 k',.slice p' n' m',.int .i64 r',.int .i64 b1,.int .i64 b2,.int .i64 b3,.int .i64 b4]] X fun e w'=>∃v,e=.returned v∧CondR w' v G∧Below X.heap.size X w')
 (C1:∀X u,CondR X u G→WkAt w1 X wb false []→Calls Tryz.prog 91 #[.pointer (some ⟨wb,0,none⟩),.slice (some ⟨g,0,none⟩) bn bm,u] X fun e w'=>∃v',e=.returned v'∧CondR w' v' Q1∧WkAt w1 w' wb tl1 L1∧FrS wb X w') :
 Calls Tryz.prog 58 #[.agg cs] w fun e w'=>Below w.heap.size w w'∧((tl1||tol (sbs ON))=true→e=.returned (.tuple zZj))∧((tl1||tol (sbs ON))=false→∃v vs,e=.returned (.tuple #[v,.bool true])∧w'.ownsRow w.heap.size 75 1 v (L1.length+1) vs∧Cds w' vs (L1++[ON]).reverse):=by
 have HF:Hid _:=CF;have HG:Hid _:=CG;have H1:Hid _:=C1;have HEN:Hid (ON=(5,0,0,0)::[F,Q1].flatten):=by
  show _=_
  rw[eON];simp only[List.flatten_cons,List.flatten_nil,List.append_nil]
 have lON:ON.length≤1000000:=by rw[eON];simp only[List.length_append,List.length_cons];omega
 have KN:Hid ((∀y∈ON,Good y)∧bl ON≤1000000∧ON.length≤1000000):=⟨gON,bON,lON⟩;have hz1:w1.heap.size=w.heap.size+1:=by rw[e1];simp
 have hb1:Below w.heap.size w w1:=by rw[e1];exact zaa _ _
 have LM:Hid (∀X,Below w1.heap.size w1 X→X.cell? ⟨w.heap.size,0,none⟩=some (.int .i64 k)∧X.cell? ⟨w.heap.size,1,none⟩=some (.slice p n m)∧X.cell? ⟨w.heap.size,2,none⟩=some (.int .i64 r)∧X.cell? ⟨w.heap.size,3,none⟩=some (.int .i64 a1)∧X.cell? ⟨w.heap.size,4,none⟩=some (.int .i64 a2)∧X.cell? ⟨w.heap.size,5,none⟩=some (.int .i64 a3)∧X.cell? ⟨w.heap.size,6,none⟩=some (.int .i64 a4)∧X.cell? ⟨w.heap.size,7,none⟩=some (.slice (some ⟨g,0,none⟩) bn bm)∧X.cell? ⟨w.heap.size,8,none⟩=some (.int .i64 k')∧X.cell? ⟨w.heap.size,9,none⟩=some (.slice p' n' m')∧X.cell? ⟨w.heap.size,10,none⟩=some (.int .i64 r')∧X.cell? ⟨w.heap.size,11,none⟩=some (.int .i64 b1)∧X.cell? ⟨w.heap.size,12,none⟩=some (.int .i64 b2)∧X.cell? ⟨w.heap.size,13,none⟩=some (.int .i64 b3)∧X.cell? ⟨w.heap.size,14,none⟩=some (.int .i64 b4)):=fun X hX=>by
  have hc:∀j v,cs[j]?=some v→X.cell? ⟨w.heap.size,j,none⟩=some v:=fun j v hv=>(hX.cell (p:=⟨w.heap.size,j,none⟩) (by show w.heap.size<_;omega)).trans (by rw[e1,World.cell?_alloc_at _ _ _ _ rfl];exact hv)
  rw[ecs] at hc;exact⟨hc 0 _ rfl,hc 1 _ rfl,hc 2 _ rfl,hc 3 _ rfl,hc 4 _ rfl,hc 5 _ rfl,hc 6 _ rfl,hc 7 _ rfl,hc 8 _ rfl,hc 9 _ rfl,hc 10 _ rfl,hc 11 _ rfl,hc 12 _ rfl,hc 13 _ rfl,hc 14 _ rfl⟩
 have hA0:WkAt w1 (w1.alloc (.cells zZj 197)) wb false []:=⟨zaa _ _,by omega,.slice none 0 0,[],by rw[ewb];exact heap_alloc_new _ _,World.ownsRow_nil _ _ _ _,rfl,fun j v ys h=>by cases h⟩;have HA0:Hid (WkAt w1 (w1.alloc (.cells zZj 197)) wb false []):=hA0;have B0:Below w1.heap.size w1 (w1.alloc (.cells zZj 197)).drew:=(zaa _ _).drew;have EW:Hid (w1.heap.size=wb):=ewb.symm;have E1:Hid (w.alloc (.cells cs 101)=w1):=e1.symm;have ECS:Hid (cs=_):=ecs;have ewb2:wb=w.heap.size+1:=by omega
 clear CF CG C1 eON gON bON lON e1 ewb hA0 ECS EW;subst ecs;subst ewb2;go_enter Tryz.func58,Tryz.ntmps58;go_wp2_with fail;rw[E1.out];clear E1;go_region_held3 (fun X=>X.cell? ⟨w.heap.size,7,none⟩=some (.slice (some ⟨g,0,none⟩) bn bm)∧X.cell? ⟨w.heap.size,8,none⟩=some (.int .i64 k')∧X.cell? ⟨w.heap.size,9,none⟩=some (.slice p' n' m')∧X.cell? ⟨w.heap.size,10,none⟩=some (.int .i64 r')∧X.cell? ⟨w.heap.size,11,none⟩=some (.int .i64 b1)∧X.cell? ⟨w.heap.size,12,none⟩=some (.int .i64 b2)∧X.cell? ⟨w.heap.size,13,none⟩=some (.int .i64 b3)∧X.cell? ⟨w.heap.size,14,none⟩=some (.int .i64 b4)) ((have hLM:=LM.out _ (by assumption);obtain⟨_,_,_,_,_,_,_,h7,h8,h9,h10,h11,h12,h13,h14⟩:=hLM;exact⟨h7,h8,h9,h10,h11,h12,h13,h14⟩)) (first
  | (go_at_call 92;refine Calls.mono (HG.out _ B0) ?_;rintro e w2 ⟨v2,rfl,hc2,hb2⟩;obtain⟨pa2,pc2,rfl⟩:=hc2.shape;have B2:=B0.trans (hb2.mono B0.size))
  | (go_at_call 91;refine Calls.mono (H1.out _ _ hc2 (HA0.out.below ((Below.refl _ _).drew.trans hb2))) ?_;rintro e w3 ⟨v3,rfl,hc3,hA3,hF3⟩;obtain⟨pa3,pc3,rfl⟩:=hc3.shape;have B3:=hA3.b0))
 obtain⟨h0,h1,h2,h3,h4,h5,h6,_⟩:=LM.out _ B3;go_wp2_with fail;refine Calls.mono (HF.out _ B3) ?_;rintro e w4 ⟨v4,rfl,hc4,hb4⟩;obtain⟨pa4,pc4,rfl⟩:=hc4.shape;have q4:=hc3.below hb4;have hA4:=hA3.below hb4;clear h0 h1 h2 h3 h4 h5 h6;go_wp2_with fail;refine Calls.mono (zaW 5 _ _ _ (zay w4 _ _ F Q1 75 hc4 q4) (by simp only[List.flatten_cons,List.flatten_nil,List.append_nil,List.length_append,List.length_cons];omega) (by simp)) ?_;rintro e w5 ⟨v5,rfl,hc5,hb5⟩;have b45:=(zaa w4 (.cells #[.slice pa4 F.length pc4,.slice pa3 Q1.length pc3] 75)).trans (hb5.mono (by simp));rw[←HEN.out] at hc5;have hA5:=hA4.below b45;obtain⟨pa5,pc5,rfl⟩:=hc5.shape;go_wp2_with fail;refine Calls.mono (zdB _ ON hA5 hc5 KN.out.1 KN.out.2.1 KN.out.2.2 hgt (by omega)) ?_;rintro e w6 ⟨rfl,hA6,hF6⟩;obtain⟨tv,tvs,htv,hto,htd⟩:=hA6.hv;have hb6:Below w.heap.size w w6:=hb1.trans (hA6.b0.mono (by omega));have c0:w6.cell? ⟨w.heap.size+1,0,none⟩=some tv:=by have:=Lib.cell_of_heap htv 0;simpa using this
 have c1:w6.cell? ⟨w.heap.size+1,1,none⟩=some (.bool (tl1||tol (sbs ON))):=by have:=Lib.cell_of_heap htv 1;simpa using this
 have hlt6:w.heap.size+1<w6.heap.size:=hA6.lt;obtain⟨ta,tc,rfl⟩:=zaN hto;have HO:Hid _:=hto;have HD:Hid _:=htd;have HL6:Hid (L1.length+1=(L1++[if tol (sbs ON) then [] else ON]).length):=by show _=_;rw[List.length_append];rfl
 clear hA6 hF6 htv hA5 hA4 hA3 hc5 hc4 hc3 hto htd;cases hT:(tl1||tol (sbs ON))
 ·rw[hT] at c1;have hN:tol (sbs ON)=false:=by cases h:tol (sbs ON)<;>simp_all
  rw[hN] at HO HD HL6;rw[if_neg (by decide)] at HO HD HL6;have CR:Hid (Calls Tryz.prog 95 #[.slice ta (L1++[ON]).length tc] w6 fun e w'=>e=.returned (.tuple #[])∧w'.ownsRow (w.heap.size+1+1) 75 1 (.slice ta (L1++[ON]).length tc) (L1++[ON]).length tvs.reverse∧Cds w' tvs.reverse (L1++[ON]).reverse∧w6.grownBy w' (Value.slice ta (L1++[ON]).length tc).ownBlock∧w'.heap.size=w6.heap.size):=zf8 w6 _ _ _ _ HO.out HD.out (by rw[←HL6.out];omega);have hob:∀j,(Value.slice ta (L1++[ON]).length tc).ownBlock=some j→w.heap.size+1+1≤j:=zaf HO.out
  have HLL:Hid ((L1++[ON]).length=L1.length+1):=HL6.out.symm;have HOB:Hid (∀j,(Value.slice ta (L1++[ON]).length tc).ownBlock=some j→w.heap.size≤j):=fun j e=>Nat.le_trans (by omega) (hob j e)
  generalize hLL:L1++[ON]=LL at *;have HLQ:Hid (L1++[ON]=LL):=hLL;clear hLL;clear HO HD HL6;have HB:Hid (∀j,(Value.slice ta LL.length tc).ownBlock=some j→w.heap.size+1+1≤j):=hob;have HT:Hid ((tl1||tol (sbs ON))=false):=hT;clear hob hT;rw[HLL.out] at CR HOB HB;go_wp2_with fail;refine Calls.mono CR.out ?_;rintro e w7 ⟨rfl,ho7,hd7,hg7,hs7⟩;have c7:w7.cell? ⟨w.heap.size+1,0,none⟩=some (.slice ta (L1.length+1) tc):=(World.cell?_of_block (a:=⟨w.heap.size+1,0,none⟩) (hg7.block _ hlt6 (fun e=>absurd (HB.out _ e.symm) (Nat.not_le_of_lt (Nat.lt_succ_self _))))).trans (by rw[c0];simp);have O7:Hid (w7.ownsRow w.heap.size 75 1 (.slice ta (L1.length+1) tc) (L1.length+1) tvs.reverse):=zbk ho7 (Nat.le_trans (Nat.le_succ _) (Nat.le_succ _));have D7:Hid (Cds w7 tvs.reverse LL.reverse):=hd7;have G7:Hid _:=hg7;clear hs7 ho7 hg7 hd7 c0 c1;go_wp2_with fail
  go_ret2
  refine⟨hb6.grown G7.out hb6.size HOB.out,fun h=>absurd (HT.out.symm.trans h) (by decide),fun _=>⟨_,tvs.reverse,rfl,?_,?_⟩⟩
  ·exact O7.out
  ·rw[HLQ.out];exact D7.out
 ·rw[hT] at c1;go_wp2_with fail
  go_ret2
  exact⟨hb6,fun _=>rfl,fun h=>absurd (hT.symm.trans h) (by decide)⟩
open Av (Fm Cm Rc Rd IsF IsC Lst Same fv PrR σ0 zac)
theorem list15 {α:Type} (l:List α) (h:l.length=15):∃a b c d e f g i j k m n o p q,l=[a,b,c,d,e,f,g,i,j,k,m,n,o,p,q]:=by
 match l,h with
 | [a,b,c,d,e,f,g,i,j,k,m,n,o,p,q],_=>exact⟨a,b,c,d,e,f,g,i,j,k,m,n,o,p,q,rfl⟩
def fits (p:Fm) (c:Cm) (q:Fm):Bool:=fit c (fsy q)&&decide (bl (one p c q)≤4000)
def conds (p:Fm) (c:Cm) (q:Fm):List (List Sym):=one p c q::cls c (fsy q)
def texts (p:Fm) (c:Cm) (q:Fm):List (List UInt8):=sbs (one p c q)::(cls c (fsy q)).map sbs
theorem ziV {toks:List (List UInt8×Nat)} {P:Nat→Prop} (w:World) (cs:Array Value) (hPr:PrR toks 0 P w (.agg cs) σ0) (htl:toks.length≤300) (hgt:Gt w) :
 ∃p c q,Prg toks p c q∧Calls Tryz.prog 58 #[.agg cs] w fun e w'=>Below w.heap.size w w'∧(fits p c q=false→e=.returned (.tuple zZj))∧(fits p c q=true→∃v vs,e=.returned (.tuple #[v,.bool true])∧w'.ownsRow w.heap.size 75 1 v (conds p c q).length vs∧Cds w' vs (conds p c q)):=by
 obtain⟨p,c,q,y,k1,k2,k3,hv,hl,r1,r2,r3,hk,hp,⟨g,bn,bm,ys,h7,hL,hI⟩,hq⟩:=hPr;refine⟨p,c,q,⟨k1,k2,k3,r1,r2,r3,hk⟩,?_⟩;obtain rfl:cs=y.toArray:=by injection hv
 clear hv;obtain⟨k,pp,n,m,r,a1,a2,a3,a4,e0⟩:=hp.shape;obtain⟨k',pp',n',m',r',b1,b2,b3,b4,e8⟩:=hq.shape;rw[e0] at hp;rw[e8] at hq;obtain⟨y0,y1,y2,y3,y4,y5,y6,y7,y8,y9,y10,y11,y12,y13,y14,rfl⟩:=list15 y hl;simp[fv] at e0 e8 h7;obtain⟨rfl,rfl,rfl,rfl,rfl,rfl,rfl⟩:=e0;obtain⟨rfl,rfl,rfl,rfl,rfl,rfl,rfl⟩:=e8;subst h7;have op:fOk p:=zb6 r1 (fun g h=>by cases h);have oq:fOk q:=zb6 r3 (fun g h=>by cases h);have oc:=znn r2;have z2:=zm5 r2;have l1:=r1.le.1;have l3:=r3.le.1;obtain⟨sk,kk⟩:=zm6 r2 (by omega);have lp:=zdq r1 (by omega);have lq:=zdq r3 (by omega);have n1:=zd8 c;have n2:=zdp c;have gq:=zaF q oq;have gp:=zaF p op;have ga:=zdc c (fsy q) 1999 oc kk (by omega) (by omega) gq;have la:=zdT ga;have pl:=zbP c (fsy q);have gON:Gd (1999+999*(nas c:Int)) ((5,0,0,0)::(fsy p++pw c (fsy q))):=Gd.mark (by omega) (by omega) ((gp.mono (by omega)).app ga);have bON:=(za3 gON).2;have lON:((5,0,0,0)::(fsy p++pw c (fsy q)):List Sym).length≤70000:=by simp only[List.length_append,List.length_cons];omega
 have hb1:Below w.heap.size w (w.alloc (.cells #[.int .i64 k,.slice pp n m,.int .i64 r,.int .i64 a1,.int .i64 a2,.int .i64 a3,.int .i64 a4,.slice (some ⟨g,0,none⟩) bn bm,.int .i64 k',.slice pp' n' m',.int .i64 r',.int .i64 b1,.int .i64 b2,.int .i64 b3,.int .i64 b4] 101)):=zaa _ _;generalize hW1:(w.alloc (.cells #[.int .i64 k,.slice pp n m,.int .i64 r,.int .i64 a1,.int .i64 a2,.int .i64 a3,.int .i64 a4,.slice (some ⟨g,0,none⟩) bn bm,.int .i64 k',.slice pp' n' m',.int .i64 r',.int .i64 b1,.int .i64 b2,.int .i64 b3,.int .i64 b4] 101))=w1 at *;have sm:Same P w w1:=zac hb1;have hL1:=hL.same sm;have hI1:=hI.same sm;have hgt1:=hgt.on hb1;obtain⟨CW,CS⟩:=walks w1 P w1.heap.size hgt1 (csz c) (by omega);have C:=zl6 w (false||pt c (fsy q)) ([]++pL c (fsy q)) (fsy p) (fsy q) (pw c (fsy q)) _ k pp n m r a1 a2 a3 a4 k' pp' n' m' r' b1 b2 b3 b4 g bn bm _ w1 w1.heap.size rfl hW1.symm rfl rfl (zeU gON) (by omega) (by omega) la (by rw[List.nil_append];omega) hgt1
  (fun X hX=>zaH p _ X ((hp.same sm).same (zac hX)) op (by omega))
  (fun X hX=>zaH q _ X ((hq.same sm).same (zac hX)) oq (by omega))
  (fun X u hu hX=>CS c X u (fsy q) false [] 1999 g bn bm ys (Nat.le_refl _) hL1 hI1 ⟨oc,kk,sk,hX,hu,gq,by omega,by omega,by omega,by simp only[List.length_nil];omega⟩)
 refine C.mono ?_;rintro e w' ⟨h1,h2,h3⟩;refine⟨h1,?_,?_⟩
 ·intro hf;apply h2;obtain⟨i1,i2⟩:=zbr c (fsy q);cases hfit:fit c (fsy q)
  ·rw[i1,hfit];rfl
  ·obtain⟨i3,i4⟩:=i2 hfit;unfold fits at hf;rw[hfit,Bool.true_and] at hf;have hb:¬bl (one p c q)≤4000:=of_decide_eq_false hf;rw[i3];have:tol (sbs ((5,0,0,0)::(fsy p++wpc c (fsy q))))=true:=decide_eq_true (by unfold one bl at hb;omega);rw[this,Bool.or_true]
 ·intro hf;obtain⟨i1,i2⟩:=zbr c (fsy q);unfold fits at hf;rw[Bool.and_eq_true] at hf;obtain⟨hfit,hb⟩:=hf;have hb:=of_decide_eq_true hb;obtain⟨i3,i4⟩:=i2 hfit;rw[i3,i4,i1,hfit] at h3;have ht:tol (sbs ((5,0,0,0)::(fsy p++wpc c (fsy q))))=false:=decide_eq_false (by unfold one bl at hb;omega);obtain⟨v,vs,e1,e2,e5⟩:=h3 (by rw[ht];rfl);refine⟨v,vs,e1,?_,?_⟩
  ·have e4:([]++(cls c (fsy q)).reverse).length+1=(conds p c q).length:=by unfold conds;simp
   rw[e4] at e2;exact e2
  ·have e3:([]++(cls c (fsy q)).reverse++[(5,0,0,0)::(fsy p++wpc c (fsy q))]).reverse=conds p c q:=by
    unfold conds one;rw[List.nil_append,List.reverse_append,List.reverse_reverse];rfl
   rw[e3] at e5;exact e5
open Av (vr Fm Rd Tg sAt Cm Rc Kp zab want tokAt answer postN post3 zaj Row Row.new Row.kpOld Row.far Row.cells row15 Same zac IsF IsC Lst PrR zcn zbj ParseEnd fv zaw σ0)
def kAns (s:ByteArray) (p:Fm) (c:Cm) (q:Fm):List (List Sym)×Int×Int :=
 if (answer s).1≠0 then ([],(answer s).1,(answer s).2) else if fits p c q then (conds p c q,0,0) else ([],6,0)
theorem ziW (s:ByteArray) (p:Fm) (c:Cm) (q:Fm) (h0:(answer s).1=0):cAns s p c q=if fits p c q then (texts p c q,0,0) else ([],6,0):=by
 unfold cAns fits texts;rw[if_neg (by omega)];by_cases h:fit c (fsy q)=true∧bl (one p c q)≤4000
 ·rw[if_pos h,if_pos (by rw[h.1,decide_eq_true h.2];rfl)]
 ·rw[if_neg h,if_neg (by rw[Bool.and_eq_true,decide_eq_true_eq];exact h)]
theorem zkA (s:ByteArray) (w:World) (hgt:Gt w) (CP0:∀w,Calls Tryz.prog 42 #[.string s] w (Av.ParseEnd (tokAt 0 (Av.rest s 0)) w (answer s))) :
 Calls Tryz.prog 35 #[.string s] w fun e w'=>∃p c q,((answer s).1=0→Prg (tokAt 0 (Av.rest s 0)) p c q)∧∃v vs,e=.returned (.tuple #[v,.int .i64 (kAns s p c q).2.1,.int .i64 (kAns s p c q).2.2])∧w'.ownsRow w.heap.size 75 1 v (kAns s p c q).1.length vs∧Cds w' vs (kAns s p c q).1∧Below w.heap.size w w':=by
 have CP:Hid (∀w,Calls Tryz.prog 42 #[.string s] w (Av.ParseEnd (tokAt 0 (Av.rest s 0)) w (answer s))):=CP0;have HD:Hid (∀p c q,(answer s).1=0→kAns s p c q=if fits p c q then (conds p c q,0,0) else ([],6,0)):=fun p c q h=>by unfold kAns;rw[if_neg (by omega)]
 have HE:Hid (∀p c q,(answer s).1≠0→kAns s p c q=([],(answer s).1,(answer s).2)):=fun p c q h=>by unfold kAns;rw[if_pos h]
 have htl:(answer s).1=0→(tokAt 0 (Av.rest s 0)).length≤300:=fun h0=>by have:=zdI h0;have:=Av.zcj 0 (Av.rest s 0);have:=Av.zax s 0;omega
 have HT:Hid _:=htl;clear htl;generalize tokAt 0 (Av.rest s 0)=toks at *;generalize kAns s=DA at *;generalize hWW:answer s=W at *;clear hWW;by_cases h0:W.1=0
 ·have h0':(W.1 != 0)=false:=by simp[h0]
  go_enter Tryz.func35,Tryz.ntmps35;go_wp2_with fail;refine(CP.out _).mono ?_;rintro e w1 ⟨cs,rfl,hcs1,hcs2,hb1,hPr⟩;have hPr0:=hPr h0;have hth0:=(row15 w1).there 0 cs.size (by omega);have hi0:(Tryz.prog.info? 101).map (·.size)=some cs.size:=by rw[hcs1];exact Av.Tryz.infoPrg
  have hi1:(Tryz.prog.info? 101).map (·.size)=some cs.toList.length:=by rw[hi0];simp
  have hcl:cs.toList.length=15:=by simpa using hcs1
  have hbx:Below w1.heap.size w1 ((w1.alloc (.cells zZf 101)).setCells w1.heap.size 0 cs.toList):=zaj (Nat.le_refl _) _ _ _ (zaa _ _);have hrx:((w1.alloc (.cells zZf 101)).setCells w1.heap.size 0 cs.toList).rangeAt w1.heap.size 0 cs.toList:=World.rangeAt_setCells_same _ _ _ _ (by rw[hcl];exact(row15 w1).there 0 15 (by omega));have HBX:Hid (Below w.heap.size w ((w1.alloc (.cells zZf 101)).setCells w1.heap.size 0 cs.toList)):=hb1.trans (hbx.mono hb1.size);obtain⟨p,c,q,hprg,hC⟩:=ziV _ cs (hPr0.same (zac hbx)) (HT.out h0) (hgt.on HBX.out);have CC:Hid _:=hC;have HPG:Hid (Prg toks p c q):=hprg;have HDA:=HD.out p c q h0;clear hPr hPr0 hb1 hcl hC hbx hprg;have XS:Hid _:=HBX.out.size;go_wp2_with (first|(refine wpList_store_mid rfl 101 (.tmp 5) (.tmp 13) rfl w1.heap.size 0 cs rfl rfl ?_ hi0 hcs2 ?_;(exact hth0))|(refine wpList_load_mid rfl 101 (.tmp 5) rfl w1.heap.size 0 rfl cs.toList _ ?_ Tryz.underlying101 rfl hi1 ?_;(exact hrx)));refine Calls.mono CC.out ?_;rintro e w3 ⟨hb3,hf,ht⟩;have HB3:Hid (Below w.heap.size w w3):=HBX.out.trans (hb3.mono XS.out);cases hfs:fits p c q
  ·have HR:Hid (DA p c q=([],6,0)):=by show _=_;rw[HDA,hfs];rfl
   obtain rfl:=hf hfs;clear ht hf HDA hfs;go_wp2_with fail
   go_ret3
   exact⟨p,c,q,fun _=>HPG.out,.slice none 0 0,[],by rw[HR.out];rfl,by rw[HR.out];exact World.ownsRow_nil _ _ _ _,by rw[HR.out];exact⟨rfl,fun j v ys h=>by cases h⟩,HB3.out⟩
  ·have HR:Hid (DA p c q=(conds p c q,0,0)):=by show _=_;rw[HDA,hfs];rfl
   obtain⟨v,vs,rfl,ho,hds⟩:=ht hfs;have HO:Hid (w3.ownsRow w.heap.size 75 1 v (conds p c q).length vs):=zbk ho XS.out;have HDS:Hid (Cds w3 vs (conds p c q)):=hds;obtain⟨ta,tc,rfl⟩:=zaN ho;clear ht hf HDA hfs ho hds;go_wp2_with fail
   go_ret3
   exact⟨p,c,q,fun _=>HPG.out,_,vs,by rw[HR.out];rfl,by rw[HR.out];exact HO.out,by rw[HR.out];exact HDS.out,HB3.out⟩
 ·have h0':(W.1 != 0)=true:=by simp[h0]
  have HR:Hid (∀p c q,DA p c q=([],W.1,W.2)):=fun p c q=>HE.out p c q h0
  go_enter Tryz.func35,Tryz.ntmps35;go_wp2_with fail;refine(CP.out _).mono ?_;rintro e w1 ⟨cs,rfl,hcs1,hcs2,hb1,hPr⟩;have hth0:=(row15 w1).there 0 cs.size (by omega);have hi0:(Tryz.prog.info? 101).map (·.size)=some cs.size:=by rw[hcs1];exact Av.Tryz.infoPrg
  have hbx:Below w1.heap.size w1 ((w1.alloc (.cells zZf 101)).setCells w1.heap.size 0 cs.toList):=zaj (Nat.le_refl _) _ _ _ (zaa _ _);have HBX:Hid (Below w.heap.size w ((w1.alloc (.cells zZf 101)).setCells w1.heap.size 0 cs.toList)):=hb1.trans (hbx.mono hb1.size);clear hPr hb1 hbx;go_wp2_with (refine wpList_store_mid rfl 101 (.tmp 5) (.tmp 13) rfl w1.heap.size 0 cs rfl rfl ?_ hi0 hcs2 ?_;(exact hth0))
  go_ret3
  exact⟨.tt,.skip,.tt,fun h=>absurd h h0,.slice none 0 0,[],by rw[HR.out];rfl,by rw[HR.out];exact World.ownsRow_nil _ _ _ _,by rw[HR.out];exact⟨rfl,fun j v ys h=>by cases h⟩,HBX.out⟩
open Av (vr Fm Rd Tg sAt Cm Rc tokAt answer)
theorem zcx:∀(c:Cm) (q:List Sym),fit c q=true→∀l∈cls c q,bl l≤4000
 | .skip,q,_,l,hl=>by cases hl
 | .asg x t,q,_,l,hl=>by cases hl
 | .ite f a b,q,h,l,hl=>by
  simp only[fit,Bool.and_eq_true] at h;rcases List.mem_append.1 hl with hl|hl
  ·exact zcx a q h.1 l hl
  ·exact zcx b q h.2.1 l hl
 | .loop f g a,q,h,l,hl=>by
  simp only[fit,Bool.and_eq_true] at h;simp only[cls,List.mem_cons] at hl;rcases hl with rfl|rfl|hl
  ·exact of_decide_eq_true h.2.1
  ·exact of_decide_eq_true h.2.2.1
  ·exact zcx a _ h.1 l hl
 | .seq a b,q,h,l,hl=>by
  simp only[fit,Bool.and_eq_true] at h;rcases List.mem_append.1 hl with hl|hl
  ·exact zcx a _ h.2 l hl
  ·exact zcx b q h.1 l hl
theorem zl7 (k:Nat):kb k≤302000:=by unfold kb;omega
theorem zm7 {toks:List (List UInt8×Nat)} {t:Bool} {k k':Nat} {c:Cm} (h:Rc toks t k c k'):k'≤300→∀q,Gd (kb k') q→∀l∈cls c q,Gd 302000 l:=by
 induction h with
 | skip _=>intro _ q _ l hl;cases hl
 | asg _=>intro _ q _ l hl;cases hl
 | @ite k k1 k2 k3 f a b e r1 r2 r3 i1 i2 =>
  intro hk q hq l hl;have l1:=r1.le.1;have l2:=r2.le;have l3:=r3.le;rcases List.mem_append.1 hl with hl|hl
  ·exact i1 (by omega) q (hq.mono (by unfold kb;omega)) l hl
  ·exact i2 (by omega) q (hq.mono (by unfold kb;omega)) l hl
 | @loop k k1 k2 k3 f g a e r1 r2 r3 i1 =>
  intro hk q hq l hl;have l1:=r1.le.1;have l2:=r2.le.1;have l3:=r3.le;have gf:Gd 302000 (fsy f):=(zaF f (zb6 r1 (fun g h=>by cases h))).mono (by omega);have gg0:=zaF g (zb6 r2 (fun g h=>by cases h));have gg:Gd 302000 (fsy g):=gg0.mono (by omega);have gk:Gd (kb k3) (fsy g):=gg0.mono (by unfold kb;omega);simp only[cls,List.mem_cons] at hl;rcases hl with rfl|rfl|hl
  ·exact Gd.mark (by omega) (by omega) (Gd.mark (by omega) (by omega) (gg.app (gf.app ((zh6 r3 (by omega) _ gk).mono (zl7 _)))))
  ·exact Gd.mark (by omega) (by omega) (Gd.mark (by omega) (by omega) (gg.app (Gd.mark (by omega) (by omega) (gf.app (hq.mono (zl7 _))))))
  ·exact i1 (by omega) _ gk l hl
 | one _ _ ih=>exact ih
 | @seq k k1 k' c r r1 _ r2 i1 i2 =>
  intro hk q hq l hl;have l2:=r2.le;rcases List.mem_append.1 hl with hl|hl
  ·exact i1 (by omega) _ ((zh6 r2 hk q hq).mono (by unfold kb;omega)) l hl
  ·exact i2 hk q hq l hl
theorem zhw {toks:List (List UInt8×Nat)} {p:Fm} {c:Cm} {q:Fm} (h:Prg toks p c q) (ht:toks.length≤300) (hf:fits p c q=true):∀l∈conds p c q,(∀y∈l,Good y)∧bl l≤4000∧l.length≤4000:=by
 obtain⟨k1,k2,k3,r1,r2,r3,hk⟩:=h;have l1:=r1.le.1;have l3:=r3.le.1;unfold fits at hf;rw[Bool.and_eq_true] at hf;have gq:Gd (kb k2) (fsy q):=(zaF q (zb6 r3 (fun g h=>by cases h))).mono (by unfold kb;omega);have gp:Gd 302000 (fsy p):=(zaF p (zb6 r1 (fun g h=>by cases h))).mono (by omega);have key:∀l∈conds p c q,Gd 302000 l∧bl l≤4000:=fun l hl=>by
  unfold conds at hl;rcases List.mem_cons.1 hl with rfl|hl
  ·exact⟨Gd.mark (by omega) (by omega) (gp.app ((zh6 r2 (by omega) _ gq).mono (zl7 _))),of_decide_eq_true hf.2⟩
  ·exact⟨zm7 r2 (by omega) _ gq l hl,zcx c _ hf.1 l hl⟩
 intro l hl;obtain⟨h1,h2⟩:=key l hl;exact⟨fun y hy=>(h1 y hy).1,h2,by have:=(za3 h1).1;omega⟩
theorem zff {α:Type} (xs:List α) (z:α) (k:Nat) (x:α) (hk:k<xs.length) (hx:xs[k]?=some x):(xs.take k++List.replicate (xs.length-k) z).set k x=xs.take (k+1)++List.replicate (xs.length-(k+1)) z:=by
 have e1:List.replicate (xs.length-k) z=z::List.replicate (xs.length-(k+1)) z:=by
  rw[show xs.length-k=(xs.length-(k+1))+1 by omega,List.replicate_succ]
 have e2:xs.take (k+1)=xs.take k++[x]:=by
  rw[List.take_add_one,hx];rfl
 rw[e1,e2,List.set_append,if_neg (by simp;omega)];have:k-(List.take k xs).length=0:=by simp;omega
 rw[this];simp
theorem ziX (s:ByteArray) (p:Fm) (c:Cm) (q:Fm):cAns s p c q=((kAns s p c q).1.map sbs,(kAns s p c q).2.1,(kAns s p c q).2.2):=by
 by_cases h:(answer s).1=0
 ·have hk:kAns s p c q=if fits p c q then (conds p c q,0,0) else ([],6,0):=by unfold kAns;rw[if_neg (fun h'=>h' h)]
  rw[ziW s p c q h,hk];cases fits p c q<;>rfl
 ·have hk:kAns s p c q=([],(answer s).1,(answer s).2):=by unfold kAns;rw[if_pos h]
  have hc:cAns s p c q=([],(answer s).1,(answer s).2):=by unfold cAns;rw[if_pos h]
  rw[hk,hc];rfl
theorem zkB (s:ByteArray) (w:World) (hgt:Gt w) (CP0:∀w,Calls Tryz.prog 42 #[.string s] w (Av.ParseEnd (tokAt 0 (Av.rest s 0)) w (answer s))) :
 Calls Tryz.prog 11 #[.string s] w fun e w'=>∃p c q,((answer s).1=0→Prg (tokAt 0 (Av.rest s 0)) p c q)∧∃v,e=.returned (.tuple #[v,.int .i64 (cAns s p c q).2.1,.int .i64 (cAns s p c q).2.2])∧w'.ownsRow w.heap.size 9 1 v (cAns s p c q).1.length ((cAns s p c q).1.map strV)∧Below w.heap.size w w':=by
 have CP:=zkA s w hgt CP0;have HCA:Hid (∀p c q,cAns s p c q=((kAns s p c q).1.map sbs,(kAns s p c q).2.1,(kAns s p c q).2.2)):=fun p c q=>ziX s p c q
 have HGD:Hid (∀p c q,((answer s).1=0→Prg (tokAt 0 (Av.rest s 0)) p c q)→((kAns s p c q).2.1=0∧(kAns s p c q).2.2=0∧(kAns s p c q).1.length≤4000∧∀l∈(kAns s p c q).1,(∀y∈l,Good y)∧bl l≤4000∧l.length≤4000)∨((kAns s p c q).2.1≠0∧(kAns s p c q).1=[])):=fun p c q h=>by
  by_cases h0:(answer s).1=0
  ·have htl:(tokAt 0 (Av.rest s 0)).length≤300:=by have:=zdI h0;have:=Av.zcj 0 (Av.rest s 0);have:=Av.zax s 0;omega
   have hk:kAns s p c q=if fits p c q then (conds p c q,0,0) else ([],6,0):=by unfold kAns;rw[if_neg (fun h'=>h' h0)]
   cases hf:fits p c q
   ·rw[hf,if_neg (by decide)] at hk
    right
    rw[hk];exact⟨by show(6:Int)≠0;decide,rfl⟩
   ·rw[hf,if_pos rfl] at hk
    left
    rw[hk];refine⟨rfl,rfl,?_,zhw (h h0) htl hf⟩;obtain⟨k1,k2,k3,r1,r2,r3,hk3⟩:=h h0;have l3:=r3.le.1;have h1:=zm5 r2;have h2:=zdp c;have h3:=zbP c (fsy q);unfold fits at hf;rw[Bool.and_eq_true] at hf;have h4:=((zbr c (fsy q)).2 hf.1).2;rw[h4,List.length_reverse] at h3;show(conds p c q).length≤4000
    unfold conds;simp only[List.length_cons];omega
  ·right
   have hk:kAns s p c q=([],(answer s).1,(answer s).2):=by unfold kAns;rw[if_pos h0]
   rw[hk];exact⟨h0,rfl⟩
 have CP2:Hid _:=CP;clear CP;have HGT:Hid (Gt w):=hgt;obtain⟨i0,hi,hz0,hz1,hz2⟩:=info_parts Tryz.infoStr;go_enter Tryz.func11,Tryz.ntmps11;go_wp2_with fail;refine Calls.mono CP2.out ?_;rintro e w1 ⟨p,c,q,hpg,v,vs,rfl,ho,hd,hb1⟩;have HPG:Hid _:=hpg;have hcase:=HGD.out p c q hpg;have HCE:=HCA.out p c q;generalize kAns s p c q=KA at *;generalize hCC:cAns s p c q=CA at *;have HCC:Hid (cAns s p c q=CA):=hCC;obtain⟨L,er,pl⟩:=KA;dsimp only at *;have HCQ:Hid (CA=(L.map sbs,er,pl)):=HCE;clear hpg HCE hCC;rcases hcase with⟨rfl,rfl,hLl,hgood⟩|⟨her,rfl⟩
 ·have HGO:Hid _:=hgood;have HOC:Hid (w1.ownsRow w.heap.size 75 1 v L.length vs):=ho;have HDC:Hid (Cds w1 vs L):=hd;have HB1:Hid (Below w.heap.size w w1):=hb1;obtain⟨va,vc,rfl⟩:=zaN ho;clear hgood ho hd;go_wp2_with (at_make;refine wpList_make_full _ rfl _ _ 22 rfl w1.heap.size 9 i0 (.string ⟨#[]⟩) 1 Tryz.underlying22 hi hz0 hz1 .i64 .i64 _ _ L.length rfl rfl rfl rfl (by rw[hz2];omega) (by unfold maxLen;omega) (by simp) ?_);intro w3 hown hgrow;have hown':w3.ownsRow w1.heap.size 9 1 (.slice (some ⟨w1.heap.size,0,none⟩) L.length L.length) L.length ((L.map fun l=>strV (sbs l)).take 0++List.replicate (L.length-0) (.string ⟨#[]⟩)):=by
   have h:=hown;rw[toList_madeCells_one] at h;simpa using h
  have hb3:Below w1.heap.size w1 w3:=(Below.refl _ w1).grown hgrow (Nat.le_refl _) (by intro k h;cases h);clear hown hgrow;go_wp2_with fail
  go_loopw [9,10,26] (fun s9 s10 s26 wr=>∃i:Nat,s26=.int .i64 (i:Int)∧i≤L.length∧wr.ownsRow w1.heap.size 9 1 (.slice (some ⟨w1.heap.size,0,none⟩) L.length L.length) L.length ((L.map fun l=>strV (sbs l)).take i++List.replicate (L.length-i) (.string ⟨#[]⟩))∧Below w1.heap.size w1 wr) (fun _ _ s26 _=>L.length-(intOf s26).toNat)
  case atStart=>exact⟨0,rfl,Nat.zero_le _,hown',hb3⟩
  case round =>
   obtain⟨i,rfl,hi2,hown,hbw⟩:=hrel;by_cases hlt:i<L.length
   ·have hvl:i<vs.length:=by have:=HDC.out.1;omega
    obtain⟨u,hu⟩:∃u,vs[i]?=some u:=⟨_,List.getElem?_eq_getElem hvl⟩
    obtain⟨l,hl⟩:∃l,L[i]?=some l:=⟨_,List.getElem?_eq_getElem hlt⟩
    have hc:=(HDC.out.2 i u l hu hl).below hbw;obtain⟨g1,g2,g3⟩:=HGO.out l (List.mem_of_getElem? hl);have CT:Hid (Calls Tryz.prog 36 #[u] wr fun e w'=>e=.returned (strV (sbs l))∧Below wr.heap.size wr w'):=zgR u l wr hc g1 (by omega) (by omega) ((HGT.out.on HB1.out).on hbw);obtain⟨ga,capa,hgva,hga1,hga2,hga3,hga4,hga5,hga6⟩:=zav HOC.out (by omega);cases hgva
    have hcu:=(hbw.cell (p:=⟨ga,i,none⟩) hga2).trans (hga5 i u hu);obtain⟨pa,pcap,rfl⟩:=hc.shape;have HL:Hid ((L.map fun l=>strV (sbs l))[i]?=some (strV (sbs l))):=by show _=_;rw[List.getElem?_map,hl];rfl
    have hlt':(i:Int)<(L.length:Int):=by omega
    have HOW:Hid _:=hown;have HBW:Hid (Below w1.heap.size w1 wr):=hbw;have hwl:=hbw.size;clear hown hbw hu hl hc g1 g2 g3 hga5 hga6;unfold strV at CT;generalize hSB:(⟨(sbs l).toArray⟩:ByteArray)=SB at *;have HSB:Hid ((⟨(sbs l).toArray⟩:ByteArray)=SB):=hSB;clear hSB;go_wp2_with fail;refine Calls.mono CT.out ?_;rintro e w2 ⟨rfl,hb2⟩;have hO2:=zad HOW.out hb2;have HO2:Hid _:=hO2;obtain⟨gt,capt,hgvt,hgt1,hgt2,hgt3,hgt4,hgt5,hgt6⟩:=zav hO2 (by omega);cases hgvt
    have hml:i<((L.map fun l=>strV (sbs l)).take i++List.replicate (L.length-i) (Value.string ⟨#[]⟩)).length:=by simp;omega
    have hold:=hgt5 i _ (List.getElem?_eq_getElem hml);have hfz:=hgt6 i;generalize ((L.map fun l=>strV (sbs l)).take i++List.replicate (L.length-i) (Value.string ⟨#[]⟩))[i]=old at *;have HB2:Hid (Below w1.heap.size w1 w2):=HBW.out.trans (hb2.mono hwl);clear hO2 hgt5 hgt6;go_wp2_with fail;refine⟨⟨i+1,by go_num,by omega,?_,?_⟩,by simp[intOf];omega⟩
    ·have h1:=zjM HO2.out i (.string SB);have h2:=zff (L.map fun l=>strV (sbs l)) (.string ⟨#[]⟩) i (strV (sbs l)) (by simpa using hlt) HL.out;rw[List.length_map] at h2;rw[←HSB.out] at h1 ⊢;have h3:(Value.string ⟨(sbs l).toArray⟩)=strV (sbs l):=rfl;rw[h3] at h1 ⊢;rw[h2] at h1;exact h1
    ·exact HB2.out.setCell (p:=⟨w1.heap.size,i,none⟩) (Nat.le_refl _) _
   ·have hie:i=L.length:=by omega
    subst hie;have hlt':¬((L.length:Nat):Int)<(L.length:Int):=by omega
    have HOW:Hid (wr.ownsRow w1.heap.size 9 1 (.slice (some ⟨w1.heap.size,0,none⟩) L.length L.length) L.length ((L.map sbs).map strV)):=by
     show wr.ownsRow _ _ _ _ _ _
     have h1:=hown;rw[Nat.sub_self,show(L.map fun l=>strV (sbs l)).take L.length=(L.map sbs).map strV by rw[List.map_map,List.take_of_length_le (by simp)];rfl] at h1;simpa using h1
    have HBW:Hid (Below w.heap.size w wr):=HB1.out.trans (hbw.mono HB1.out.size);clear hown hbw;go_wp2_with fail
    go_ret3
    refine⟨p,c,q,HPG.out,_,by rw[HCC.out,HCQ.out];rfl,?_,HBW.out⟩;rw[HCC.out,HCQ.out];dsimp only;rw[List.length_map];exact zbk HOW.out HB1.out.size
 ·have her':(er != 0)=true:=by simp[her]
  have HB1:Hid (Below w.heap.size w w1):=hb1;obtain⟨va,vc,rfl⟩:=zaN ho;go_wp2_with fail
  go_ret3
  refine⟨p,c,q,HPG.out,.slice none 0 0,by rw[HCC.out,HCQ.out];rfl,by rw[HCC.out,HCQ.out];exact World.ownsRow_nil _ _ _ _,HB1.out⟩
end Go.Proofs.YtkinoehmcfhgbaaGreatDoor.Vl
