/- A part of the proof. -/
import Derived.Test.YtkinoehmcfhgbaaGreatDoorZ2
import Derived.Test.YtkinoehmcfhgbaaGreatDoorH11
import Derived.Test.YtkinoehmcfhgbaaGreatDoorH8
set_option linter.unusedVariables false
set_option linter.unusedSimpArgs false
set_option maxRecDepth 100000
set_option maxHeartbeats 8000000
namespace Go.Proofs.YtkinoehmcfhgbaaGreatDoor.Vl
open Go.RowKit
theorem zg8 (k t:Int) (hk:0≤k∧k≤6) (hk2:k≠2) (ht:t=1∨t=2) (w:World) :
 Calls Tryz.prog 235 #[.int .i64 k,.int .i8 t] w fun e w'=>e=.returned (.int .i64 (kof k t))∧w=w':=by
 have hq:k=0∨k=1∨k=3∨k=4∨k=5∨k=6:=by omega
 rcases hq with rfl|rfl|rfl|rfl|rfl|rfl<;>rcases ht with rfl|rfl
 all_goals
  go_enter Tryz.func235,Tryz.ntmps235;go_wp2;go_ret;exact⟨rfl,rfl⟩
def uw (x:Nat):Value:=.int .u64 (x:Int)
def owk (a b:List Nat) (k:Nat):List Nat:=(List.zipWith (fun x y=>x ||| y) a b).take k++a.drop k
theorem ziU {a b:List Nat} (h:a.length=b.length) (k:Nat) (hk:k≤a.length):(owk a b k).length=a.length:=by
 unfold owk;rw[List.length_append,List.length_take,List.length_zipWith,List.length_drop];omega
theorem zkb {a b:List Nat} {k x y:Nat} (ha:a[k]?=some x) (hb:b[k]?=some y) (h:a.length=b.length):(owk a b k).set k (x ||| y)=owk a b (k+1):=by
 have hk:k<a.length:=(List.getElem?_eq_some_iff.1 ha).1;have hz:(List.zipWith (fun x y=>x ||| y) a b)[k]?=some (x ||| y):=by rw[List.getElem?_zipWith,ha,hb]
 have hl:((List.zipWith (fun x y=>x ||| y) a b).take k).length=k:=by rw[List.length_take,List.length_zipWith];omega
 unfold owk;rw[List.set_append_right _ _ (by omega),hl,Nat.sub_self,List.drop_eq_getElem_cons hk,List.set_cons_zero,List.take_add_one,hz];simp
theorem zms {a b:List Nat} {k:Nat} (h:a.length=b.length):(owk a b k)[k]?=a[k]?:=by
 unfold owk;by_cases hk:k<a.length
 ·have hl:((List.zipWith (fun x y=>x ||| y) a b).take k).length=k:=by rw[List.length_take,List.length_zipWith];omega
  rw[List.getElem?_append_right (by omega),hl,Nat.sub_self,List.getElem?_drop,Nat.add_zero]
 ·rw[List.getElem?_eq_none (l:=a) (by omega),List.getElem?_eq_none (by rw[List.length_append,List.length_take,List.length_zipWith,List.length_drop];omega)]
theorem SetR.or {a b:List Nat} {p q:Nat→Bool} (ha:SetR a p) (hb:SetR b q):SetR (owk a b 9) (fun n=>p n||q n):=by
 have e:owk a b 9=List.zipWith (fun x y=>x ||| y) a b:=by
  unfold owk;rw[List.take_of_length_le (by rw[List.length_zipWith,ha.len,hb.len];omega),List.drop_eq_nil_of_le (by rw[ha.len];omega),List.append_nil]
 rw[e];refine⟨by rw[List.length_zipWith,ha.len,hb.len];rfl,fun x hx=>?_,fun n hn=>?_⟩
 ·obtain⟨k,hk,rfl⟩:=List.mem_iff_getElem.1 hx;rw[List.getElem_zipWith];exact Nat.or_lt_two_pow (n:=64) (ha.lt _ (List.getElem_mem _)) (hb.lt _ (List.getElem_mem _))
 ·have h1:n/64<a.length:=by rw[ha.len];omega
  have h2:n/64<b.length:=by rw[hb.len];omega
  rw[←ha.bit n hn,←hb.bit n hn,List.getD_eq_getElem?_getD,List.getD_eq_getElem?_getD,List.getD_eq_getElem?_getD,List.getElem?_zipWith,List.getElem?_eq_getElem h1,List.getElem?_eq_getElem h2];exact Nat.testBit_or _ _ _
theorem Tryz.infoSet:(Tryz.prog.info? 184).map (·.size)=some 9:=by kernel_rfl
theorem idxSet (X:World) (cs:List Value) (k:Nat) (v:Value) (hk:k<9) (hv:cs[k]?=some v):(Instr.index 184 (.agg cs.toArray) (.int .i64 (k:Int))).run Tryz.prog X=.ok v X:=by
 have h5:(k:Int)<9:=by omega
 simp[Instr.index,run_underlying Tryz.underlying184,asIntOf,part,go_sem,h5,hv];intro h;omega
structure SwS (w:World) (a b:List Nat) (k:Nat) (X:World):Prop where
 below:Below w.heap.size w X
 size:w.heap.size+2<X.heap.size
 row1:Av.Row X w.heap.size 9
 row2:Av.Row X (w.heap.size+2) 9
 more:X.rangeAt w.heap.size 0 ((owk a b k).map uw)
theorem zdn (l:List Nat):∀v∈l.map uw,v.oneCell'=true:=fun v hv=>by obtain⟨x,_,rfl⟩:=List.mem_map.1 hv;rfl
theorem zkc (w:World) (a b:List Nat) (ha:a.length=9) (hb:b.length=9):SwS w a b 0 (((w.alloc (.cells (a.map uw).toArray 184)).alloc (.cells (b.map uw).toArray 184)).alloc (.cells zZi 184)):=by
 have b1:=zaa w (.cells (a.map uw).toArray 184);have r1:=Av.Row.new w (a.map uw).toArray 184 (by simpa using zdn a);rw[show(a.map uw).toArray.size=9 by simp[ha]] at r1;have m1:(w.alloc (.cells (a.map uw).toArray 184)).rangeAt w.heap.size 0 (a.map uw):=fun k v hv=>by
  rw[World.cell?_alloc_at _ _ _ _ rfl,Nat.zero_add];simpa using hv
 have s1:(w.alloc (.cells (a.map uw).toArray 184)).heap.size=w.heap.size+1:=by simp
 generalize w.alloc (.cells (a.map uw).toArray 184)=W1 at *;have b2:=zaa W1 (.cells (b.map uw).toArray 184);have s2:(W1.alloc (.cells (b.map uw).toArray 184)).heap.size=w.heap.size+2:=by rw[World.size_alloc,s1]
 generalize W1.alloc (.cells (b.map uw).toArray 184)=W2 at *;have b3:=zaa W2 (.cells zZi 184);have r3:=Av.Row.new W2 zZi 184 (by intro v hv;simp at hv;rw[hv];rfl);rw[s2] at r3;have b23:=b2.trans (b3.mono b2.size);have b12:=b1.trans (b2.mono b1.size);refine⟨b12.trans (b3.mono b12.size),by rw[World.size_alloc];omega,ze6 r1 b23 (by omega),r3,fun k v hv=>?_⟩;exact(b23.cell (p:=⟨w.heap.size,0+k,none⟩) (by dsimp only;omega)).trans (m1 k v (by simpa [owk] using hv))
theorem zkd (w:World) (a b:List Nat):(((w.alloc (.cells (a.map uw).toArray 184)).alloc (.cells (b.map uw).toArray 184)).alloc (.cells zZi 184)).rangeAt (w.heap.size+1) 0 (b.map uw):=fun k v hv=>by
 rw[World.cell?_alloc_past _ _ _ (by simp),World.cell?_alloc_at _ _ _ _ (by simp),Nat.zero_add];simpa using hv
theorem SwS.put {w X:World} {a b:List Nat} {k x y:Nat} (h:SwS w a b k X) (hk:k<9) (hx:a[k]?=some x) (hy:b[k]?=some y) (ha:a.length=9) (hb:b.length=9):SwS w a b (k+1) (X.setCell ⟨w.heap.size,k,none⟩ (.int .u64 ((x ||| y:Nat):Int))):=by
 refine⟨h.below.setCell (p:=⟨w.heap.size,k,none⟩) (Nat.le_refl _) _,by rw[World.size_setCell];exact h.size,h.row1.set _ _ hk rfl,h.row2.other _ _ _ (by omega),?_⟩;have:=zbp h.more (o:=k) (by rw[List.length_map,ziU (by omega) k (by omega)];omega) (uw (x ||| y));rw[←List.map_set,zkb hx hy (by omega)] at this;exact this
theorem zfX (w:World) (a b:List Nat) (ha:a.length=9) (hb:b.length=9) (hla:∀x∈a,x<18446744073709551616) (hlb:∀x∈b,x<18446744073709551616) :
 Calls Tryz.prog 190 #[.agg (a.map uw).toArray,.agg (b.map uw).toArray] w fun e w'=>e=.returned (.agg ((owk a b 9).map uw).toArray)∧Below w.heap.size w w':=by
 have hI:=zkc w a b ha hb;have hr2:=zkd w a b;have hiA:(Tryz.prog.info? 184).map (·.size)=some (b.map uw).length:=by rw[List.length_map,hb];exact Tryz.infoSet
 have HX:Hid (∀(k:Nat) (y:Nat),k<9→b[k]?=some y→∀X,(Instr.index 184 (.agg (b.map uw).toArray) (.int .i64 (k:Int))).run Tryz.prog X=.ok (.int .u64 (y:Int)) X):=fun k y hk hy X=>idxSet X _ k _ hk (by rw[List.getElem?_map,hy];rfl)
 have HLA:Hid _:=hla;have HLB:Hid _:=hlb;have HA:Hid (a.length=9):=ha;have HB:Hid (b.length=9):=hb;have HI:Hid _:=hI;have HU:Hid ((b.map uw).toArray=(b.map uw).toArray):=rfl;clear hla hlb hI ha hb;generalize hCB:b.map uw=cb at *;go_enter Tryz.func190,Tryz.ntmps190;go_wp2_with (refine wpList_load_mid rfl 184 (.tmp 3) rfl (w.heap.size+1) 0 rfl cb _ ?_ Tryz.underlying184 rfl hiA ?_;(exact hr2));generalize (((w.alloc (.cells (a.map uw).toArray 184)).alloc (.cells cb.toArray 184)).alloc (.cells zZi 184))=W0 at *;clear hr2 hiA hCB HU
 go_loopw [8] (fun s8 wr=>∃k:Nat,s8=.int .i64 (k:Int)∧k≤9∧SwS w a b k wr) (fun s8 _=>9-(intOf s8).toNat)
 case atStart=>exact⟨0,rfl,by omega,HI.out⟩
 case round =>
  clear HI;obtain⟨k,rfl,hk,hS⟩:=hrel;by_cases hlt:k<9
  ·have hlt':(k:Int)<9:=by omega
   obtain⟨x,hx⟩:∃x,a[k]?=some x:=⟨_,List.getElem?_eq_getElem (by rw[HA.out];omega)⟩
   obtain⟨y,hy⟩:∃y,b[k]?=some y:=⟨_,List.getElem?_eq_getElem (by rw[HB.out];omega)⟩
   have hi:=HX.out k y hlt hy;have hc:wr.cell? ⟨w.heap.size,k,none⟩=some (.int .u64 (x:Int)):=by
    have:=hS.more k (uw x) (by rw[List.getElem?_map,zms (by rw[HA.out,HB.out]),hx];rfl)
    rwa [Nat.zero_add] at this
   have hf:=(hS.row1.cell k hlt).2;have hor:bits .or .u64 (x:Int) (y:Int)=((x ||| y:Nat):Int):=bits_or_u64_nat x y (HLA.out x (List.mem_of_getElem? hx)) (HLB.out y (List.mem_of_getElem? hy));have HP:Hid _:=hS.put hlt hx hy HA.out HB.out;clear hS hx hy;go_wp2_with fail;exact⟨⟨k+1,rfl,by omega,HP.out⟩,by simp[intOf];omega⟩
  ·have hk9:k=9:=by omega
   subst hk9;have hlt':¬(((9:Nat):Int)<9):=by omega
   have hcl:((owk a b 9).map uw).length=9:=by rw[List.length_map,ziU (by rw[HA.out,HB.out]) 9 (by rw[HA.out];omega)];exact HA.out
   have q2:=hS.more;have hone:=all_oneCell_toArray (zdn (owk a b 9));generalize hCS:(owk a b 9).map uw=cs at *;have HCS:Hid ((owk a b 9).map uw=cs):=hCS;clear hCS;have hiA:(Tryz.prog.info? 184).map (·.size)=some cs.length:=by rw[hcl];exact Tryz.infoSet
   have hcz:cs.toArray.size=9:=by simp[hcl]
   have hiB:(Tryz.prog.info? 184).map (·.size)=some cs.toArray.size:=by rw[hcz];exact Tryz.infoSet
   have hth:wr.there (w.heap.size+1+1) 0 cs.toArray.size:=by rw[hcz];exact hS.row2.there 0 9 (by omega)
   have HF:Hid (Below w.heap.size w (wr.setCells (w.heap.size+1+1) 0 cs)):=Av.zai (a:=w) (by omega) cs 0 wr hS.below;have HR:Hid (Av.Row wr (w.heap.size+1+1) 9):=hS.row2;clear hS hcz;go_wp2_with (first|(refine wpList_load_mid rfl 184 (.tmp 2) rfl w.heap.size 0 rfl cs _ ?_ Tryz.underlying184 rfl hiA ?_;(exact q2))|(refine wpList_store_mid rfl 184 (.tmp 4) (.tmp 19) rfl (w.heap.size+1+1) 0 cs.toArray rfl rfl ?_ hiB hone ?_;(exact hth)));exact Av.postN cs rfl rfl Tryz.underlying184 rfl Tryz.infoSet HR.out hcl ⟨by rw[HCS.out],HF.out⟩
def bv (b:Bool):Value:=.bool b
theorem Tryz.infoBool:(Tryz.prog.info? 4).map (fun i=>(i.zero,i.size,i.bytes))=some (some (.bool false),1,1):=by kernel_rfl
def z9:List Nat:=[0,0,0,0,0,0,0,0,0]
theorem zgx:SetR z9 (fun _=>false):=by
 refine⟨rfl,fun x hx=>by simp[z9] at hx;omega,fun n hn=>?_⟩;have:z9.getD (n/64) 0=0:=by
  rw[List.getD_eq_getElem?_getD];cases h:z9[n/64]? with
  | none=>rfl
  | some x=>have:=List.mem_of_getElem? h;simp[z9] at this;exact this
 rw[this];simp
theorem Blk.row {X:World} {b:Nat} {ty:TypeId} {cs:List Value} (h:Blk X b ty cs) (h1:∀v∈cs,v.oneCell'=true):Av.Row X b cs.length:=⟨cs,fun j v hv=>by rw[Nat.zero_add];exact h.cell hv,rfl,h1,fun o=>h.free o⟩
theorem Blk.range {X:World} {b:Nat} {ty:TypeId} {cs:List Value} (h:Blk X b ty cs):X.rangeAt b 0 cs:=fun j v hv=>by rw[Nat.zero_add];exact h.cell hv
theorem Blk.setAt {X:World} {b:Nat} {ty:TypeId} {ws:List Nat} (h:Blk X b ty (ws.map uw)):SetAt X b 0 ws:=⟨h.lt,fun i x hx=>by rw[Nat.zero_add];exact h.cell (by rw[List.getElem?_map,hx];rfl)⟩
structure RsS (w X:World) (g:List Pt) (wb sb ab:Nat) (W:List Int) (aq:List Bool) (ws:List Nat):Prop where
 bel:Below w.heap.size w X
 res:Blk X w.heap.size 184 (z9.map uw)
 wts:Blk X wb 3 (W.map iv)
 wl:W.length=g.length
 set:Blk X sb 184 (ws.map uw)
 ask:Blk X ab 4 (aq.map bv)
 al:aq.length=g.length
 r1:w.heap.size<wb
 r2:wb<sb
 r3:sb<ab
theorem RsS.below {w X Y:World} {g:List Pt} {wb sb ab:Nat} {W:List Int} {aq:List Bool} {ws:List Nat} (h:RsS w X g wb sb ab W aq ws) (hb:Below X.heap.size X Y):RsS w Y g wb sb ab W aq ws :=
 ⟨h.bel.trans (hb.mono h.bel.size),h.res.below hb,h.wts.below hb,h.wl,h.set.below hb,h.ask.below hb,h.al,h.r1,h.r2,h.r3⟩
theorem RsS.setA {w X:World} {g:List Pt} {wb sb ab:Nat} {W:List Int} {aq:List Bool} {ws:List Nat} (h:RsS w X g wb sb ab W aq ws) (i:Nat):RsS w (X.setCell ⟨ab,i,none⟩ (.bool true)) g wb sb ab W (aq.set i true) ws:=by
 have h1:=h.r1;have h2:=h.r2;have h3:=h.r3;refine⟨h.bel.setCell (p:=⟨ab,i,none⟩) (by dsimp only;omega) _,h.res.other _ _ (by omega),h.wts.other _ _ (by omega),h.wl,h.set.other _ _ (by omega),?_,by rw[List.length_set];exact h.al,h1,h2,h3⟩;have:=h.ask.set i (.bool true);rw[List.map_set];exact this
theorem RsS.setW {w X:World} {g:List Pt} {wb sb ab:Nat} {W:List Int} {aq:List Bool} {ws:List Nat} (h:RsS w X g wb sb ab W aq ws) (i x:Nat):RsS w (X.setCell ⟨sb,i,none⟩ (.int .u64 (x:Int))) g wb sb ab W aq (ws.set i x):=by
 have h1:=h.r1;have h2:=h.r2;have h3:=h.r3;refine⟨h.bel.setCell (p:=⟨sb,i,none⟩) (by dsimp only;omega) _,h.res.other _ _ (by omega),h.wts.other _ _ (by omega),h.wl,?_,h.ask.other _ _ (by omega),h.al,h1,h2,h3⟩;have:=h.set.set i (uw x);rw[List.map_set];exact this
theorem RsS.acell {w X:World} {g:List Pt} {wb sb ab:Nat} {W:List Int} {aq:List Bool} {ws:List Nat} (h:RsS w X g wb sb ab W aq ws) {i:Nat} (hi:i<g.length):X.cell? ⟨ab,i,none⟩=some (.bool (aq.getD i false)):=by
 refine h.ask.cell ?_;rw[List.getElem?_map,List.getD_eq_getElem?_getD,List.getElem?_eq_getElem (by rw[h.al];exact hi)]
 rfl
theorem RsS.wcell {w X:World} {g:List Pt} {wb sb ab:Nat} {W:List Int} {aq:List Bool} {ws:List Nat} (h:RsS w X g wb sb ab W aq ws) {i:Nat} (hi:i<g.length):X.cell? ⟨wb,i,none⟩=some (.int .i64 (W.getD i 0)):=by
 refine h.wts.cell ?_;rw[List.getElem?_map,List.getD_eq_getElem?_getD,List.getElem?_eq_getElem (by rw[h.wl];exact hi)]
 rfl
theorem zfY (w0 w:World) (D:PD) (us:List Atm) (g:List Pt) (s n:Nat) (A:Nat→Int) (ats parts:List Int) (kb:Nat) (B:Bd) (h:PvS w0 w D us g s n A ats parts) (hB:BdAt w kb 0 B) (hok:∀a∈us,okA a) (hus:us.length≤576) (h3:∀t∈ats,T3 t) (hgl:g.length≤8000) (hg0:0<g.length) (hGW:GW us.length g)
 (hby:∀a∈us,∀t,(brs B a t).length≤4000) :
 Calls Tryz.prog 183 #[.pointer (some ⟨D.pb,0,none⟩),.pointer (some ⟨kb,0,none⟩)] w fun e w'=>∃ws,e=.returned (.agg (ws.map uw).toArray)∧SetR ws (rsn (wts us A ats B parts 0 g) g g.length).2∧Below w.heap.size w w':=by
 obtain⟨i0,hi,hz0,hz1,hz2⟩:=info_parts Tryz.infoBool;have HP:Hid (PvS w0 w D us g s n A ats parts):=h;have HGW:Hid _:=hGW;have HX:Hid (∀X,Below w.heap.size w X→PvS w0 X D us g s n A ats parts):=fun X hX=>h.below hX
 have CW:Hid (∀X,Below w.heap.size w X→Calls Tryz.prog 238 #[.pointer (some ⟨D.pb,0,none⟩),.pointer (some ⟨kb,0,none⟩)] X fun e w'=>∃wb,e=.returned (.slice (some ⟨wb,0,none⟩) g.length g.length)∧Blk w' wb 3 ((wts us A ats B parts 0 g).map iv)∧X.heap.size≤wb∧Below X.heap.size X w'):=fun X hX=>callsIn_wide.1 (zhb w0 X D us g s n A ats parts kb B (h.below hX) (hB.below hX) hok (by omega) h3 hgl hGW hby)
 have HWL:Hid ((wts us A ats B parts 0 g).length=g.length):=zfr us A ats B parts g 0;obtain⟨pb,mb,tb,qb,gb,kk,qa,ca,cg⟩:=D;dsimp only at *;clear h hGW hB;have hA1:∀x,Below w.heap.size w (w.alloc x):=fun x=>zaa w x
 generalize wts us A ats B parts 0 g=W at *;go_enter Tryz.func183,Tryz.ntmps183;go_wp2_with (first
  | (go_at_call 238;refine(CW.out _ (hA1 _)).mono ?_;rintro e w2 ⟨wb,rfl,hwb,hwl,hb2⟩;have hbw2:Below w.heap.size w w2:=(hA1 _).trans (hb2.mono (by simp));have c2:∀x,(w2.alloc x).cell? ⟨pb,2,none⟩=some (.slice (some ⟨gb,0,none⟩) g.length cg):=(fun x=>((HX.out w2 hbw2).below (zaa w2 x)).cells.2.2.1))
  | (at_make;refine wpList_make_full _ rfl _ _ 348 rfl w.heap.size 4 i0 (.bool false) 1 Tryz.underlying348 hi hz0 hz1 .i64 .i64 _ _ g.length rfl rfl rfl rfl (by rw[hz2];omega) (by unfold maxLen;omega) (by have:=hbw2.size;simp;omega) ?_))
 intro w3 hown hgrow;have hbk:Blk w3 (w2.heap.size+1) 4 ((List.replicate g.length false).map bv):=by
  have h:=hown;rw[toList_madeCells_one] at h;have h2:=zbT h;rw[List.map_replicate]
  first
   | exact h2
   | (rw[World.size_alloc] at h2;exact h2)
 have h23:Below w2.heap.size w2 w3:=(zaa w2 _).trans (((Below.refl _ _).grown hgrow (Nat.le_refl _) (by intro k h;cases h)).mono (by simp));have hb3:Below w.heap.size w w3:=hbw2.trans (h23.mono hbw2.size);have hres:Blk w2 w.heap.size 184 (z9.map uw):=(hb2.block w.heap.size (by simp)).trans (heap_alloc_new w _);have hset:Blk w3 w2.heap.size 184 (z9.map uw):=(hgrow.block w2.heap.size (by simp) (by intro e;cases e)).trans (heap_alloc_new w2 _);rw[World.size_alloc] at hwl;have hwb2:=hwb.lt;have hf0:=hbk.free 0;have hc0:w3.cell? ⟨w2.heap.size+1,0,none⟩=some (.bool false):=hbk.cell (by rw[List.getElem?_map,List.getElem?_replicate,if_pos hg0];rfl);have HI:Hid (RsS w (w3.setCell ⟨w2.heap.size+1,0,none⟩ (.bool true)) g wb w2.heap.size (w2.heap.size+1) W ((List.replicate g.length false).set 0 true) z9):=RsS.setA ⟨hb3,hres.below h23,hwb.below h23,HWL.out,hset,hbk,by simp,by omega,hwb2,by omega⟩ 0;obtain⟨d0,d1,d2,d3,d4,d5,d6⟩:=(HX.out (w3.setCell ⟨w2.heap.size+1,0,none⟩ (.bool true)) HI.out.bel).cells;dsimp only at d0 d1 d2 d3 d4 d5 d6;clear hown hgrow hbk hres hset hwb h23 c2;have hg0':(0:Int)<(g.length:Int):=by omega
 go_wp2_with fail;generalize w3.setCell ⟨w2.heap.size+1,0,none⟩ (.bool true)=W0 at *;generalize w2.heap.size=sb at *;clear hf0 hc0 d0 d1 d2 d3 d4 d5 d6 hb3
 go_loopw [8,9,26] (fun s8 s9 s26 wr=>∃(k:Nat) (ws:List Nat),s26=.int .i64 (k:Int)∧k≤g.length∧RsS w wr g wb sb (sb+1) W (rsn W g k).1 ws∧SetR ws (rsn W g k).2) (fun _ _ s26 _=>g.length-(intOf s26).toNat)
 case atStart=>exact⟨0,z9,rfl,Nat.zero_le _,HI.out,zgx⟩
 case round =>
  clear HI;obtain⟨k,ws,rfl,hk,hS,hSR⟩:=hrel;by_cases hlt:k<g.length
  ·obtain⟨⟨y1,y2,y3,y4⟩,hy⟩:∃y,g[k]?=some y:=⟨_,List.getElem?_eq_getElem hlt⟩
   have hgk:g.getD k (0,0,0,0)=(y1,y2,y3,y4):=by rw[List.getD_eq_getElem?_getD,hy];rfl
   have HST:Hid (rsn W g (k+1)=rst W k (y1,y2,y3,y4) (rsn W g k)):=by show _=_;rw[rsn,hgk]
   have hPW:=HGW.out k _ hy;have hPv:=HX.out wr hS.bel;obtain⟨z0,z1,z2,z3⟩:=hPv.gol.2 k _ hy;dsimp only at z0 z1 z2 z3;have hgwr:=hPv.gol.1;dsimp only at hgwr;have hkl:(k:Int)<(g.length:Int):=by omega
   have hgne:¬gb=wr.heap.size:=by omega
   have hBl:=zaa wr (.cells #[.int .i64 y1,.int .i64 y2,.int .i64 y3,.int .i8 y4] 252);have HSA:Hid _:=hS.below hBl;have ha1:=HSA.out.acell hlt;have HL2:Hid (sb<wr.heap.size∧sb+1<wr.heap.size∧wb<wr.heap.size):=⟨hS.set.lt,hS.ask.lt,hS.wts.lt⟩;have HSR:Hid _:=hSR;clear hPv hS hgk hy hSR;generalize rsn W g k=R at *;by_cases hA0:R.1.getD k false=false
   ·have HN:Hid (rsn W g (k+1)=R):=by show _=_;rw[HST.out,rst,if_pos hA0]
    rw[hA0] at ha1;clear hA0 HST;go_wp2_with fail
    go_roundw
    case rel=>exact⟨k+1,ws,by go_num,by omega,by rw[HN.out];exact HSA.out,by rw[HN.out];exact HSR.out⟩
    case measure=>simp[intOf];omega
   ·have hA1':R.1.getD k false=true:=by simpa using hA0
    rw[hA1'] at ha1;have hk5:y1=0∨y1=1∨y1=2∨y1=3∨y1=4:=by have:=hPW.k0;have:=hPW.k4;dsimp only at *;omega
    have HST2:Hid _:=HST.out.trans (by rw[rst,if_neg hA0]);clear hA0 hA1' HST;rcases hk5 with rfl|rfl|rfl|rfl|rfl
    ·have HN:Hid (rsn W g (k+1)=R):=HST2.out;go_wp2_with fail
     go_roundw
     case rel=>exact⟨k+1,ws,by go_num,by omega,by rw[HN.out];exact HSA.out,by rw[HN.out];exact HSR.out⟩
     case measure=>simp[intOf];omega
    ·have HN:Hid (rsn W g (k+1)=R):=HST2.out;go_wp2_with fail
     go_roundw
     case rel=>exact⟨k+1,ws,by go_num,by omega,by rw[HN.out];exact HSA.out,by rw[HN.out];exact HSR.out⟩
     case measure=>simp[intOf];omega
    ·obtain⟨sx,es,hs1,hs2⟩:=hPW.two (Or.inl rfl);dsimp only at es;subst es;have hw1:=HSA.out.wcell (i:=k+1) (by omega);have hw2:=HSA.out.wcell (i:=sx) hs2;have hra1:=HSA.out.acell (i:=k+1) (by omega);have hra2:=HSA.out.acell (i:=sx) hs2;have hfa1:=HSA.out.ask.free (k+1);have hfa2:=HSA.out.ask.free sx;have hk1:(k:Int)+1<(g.length:Int):=by omega
     have hk1':IntKind.i64.wrap ((k:Int)+1)=((k+1:Nat):Int):=by rw[show(k:Int)+1=((k+1:Nat):Int) by omega];exact IntWalk.i64_in _ (by omega)
     have hk2:((k+1:Nat):Int)<(g.length:Int):=by omega
     have hs3:(sx:Int)<(g.length:Int):=by omega
     have hne1:¬wr.heap.size=sb+1:=by have:=HL2.out.2.1;omega
     have hne2:¬sb+1=wr.heap.size:=by have:=HL2.out.2.1;omega
     have hne3:¬wb=wr.heap.size:=by have:=HL2.out.2.2;omega
     have hkk1:k+1<g.length:=by omega
     by_cases hle:W.getD (k+1) 0≤W.getD sx 0
     ·have HN:Hid (rsn W g (k+1)=(R.1.set (k+1) true,R.2)):=by
       have h:=HST2.out;simp only[Int.toNat_natCast,if_true] at h;rw[if_pos hle] at h;exact h
      generalize W.getD (k+1) 0=W1 at *;generalize W.getD sx 0=W2 at *;clear HST2;go_wp2_with fail
      go_quiet (fail)
      go_wp2_with fail
      go_roundw
      case rel=>exact⟨k+1,ws,by go_num,by omega,by rw[HN.out];exact(HSA.out.below (below_drewN (Below.refl _ _) _)).setA (k+1),by rw[HN.out];exact HSR.out⟩
      case measure=>simp[intOf];omega
     ·have HN:Hid (rsn W g (k+1)=(R.1.set sx true,R.2)):=by
       have h:=HST2.out;simp only[Int.toNat_natCast,if_true] at h;rw[if_neg hle] at h;exact h
      generalize W.getD (k+1) 0=W1 at *;generalize W.getD sx 0=W2 at *;clear HST2;go_wp2_with fail
      go_quiet (fail)
      go_wp2_with fail
      go_roundw
      case rel=>exact⟨k+1,ws,by go_num,by omega,by rw[HN.out];exact(HSA.out.below (below_drewN (Below.refl _ _) _)).setA sx,by rw[HN.out];exact HSR.out⟩
      case measure=>simp[intOf];omega
    ·obtain⟨sx,es,hs1,hs2⟩:=hPW.two (Or.inr rfl);dsimp only at es;subst es;have hra1:=HSA.out.acell (i:=k+1) (by omega);have hra2:=HSA.out.acell (i:=sx) hs2;have hfa1:=HSA.out.ask.free (k+1);have hfa2:=HSA.out.ask.free sx;have hk1:(k:Int)+1<(g.length:Int):=by omega
     have hk1':IntKind.i64.wrap ((k:Int)+1)=((k+1:Nat):Int):=by rw[show(k:Int)+1=((k+1:Nat):Int) by omega];exact IntWalk.i64_in _ (by omega)
     have hk2:((k+1:Nat):Int)<(g.length:Int):=by omega
     have hs3:(sx:Int)<(g.length:Int):=by omega
     have hne1:¬wr.heap.size=sb+1:=by have:=HL2.out.2.1;omega
     have hne2:¬sb+1=wr.heap.size:=by have:=HL2.out.2.1;omega
     have hsk:¬k+1=sx:=by omega
     have hsk2:¬sx=k+1:=by omega
     have hkk1:k+1<g.length:=by omega
     have HN:Hid (rsn W g (k+1)=((R.1.set (k+1) true).set sx true,R.2)):=by
      have h:=HST2.out;simp only[Int.toNat_natCast,show ¬((3:Int)=2) by decide,if_false,if_true] at h;exact h
     have HS2:Hid _:=(HSA.out.setA (k+1)).setA sx;generalize R.1.getD (k+1) false=B1 at *;generalize R.1.getD sx false=B2 at *;clear HST2;go_wp2_with fail;go_region
     all_goals
      go_wp2_with fail
      go_roundw
      case rel=>exact⟨k+1,ws,by go_num,by omega,by rw[HN.out];exact HS2.out.below (Below.refl _ _).drew,by rw[HN.out];exact HSR.out⟩
      case measure=>simp[intOf];omega
    ·obtain⟨a,ea,ha⟩:=hPW.atm rfl;dsimp only at ea;subst ea;have HN:Hid (rsn W g (k+1)=(R.1,fun j=>R.2 j||j==a)):=by
      have h:=HST2.out;simp only[Int.toNat_natCast,show ¬((4:Int)=2) by decide,show ¬((4:Int)=3) by decide,if_false,if_true] at h;exact h
     have CA:Hid _:=zf2 (wr.alloc (.cells #[.int .i64 4,.int .i64 y2,.int .i64 (a:Int),.int .i8 y4] 252)) sb 0 a ws R.2 HSR.out HSA.out.set.setAt (fun i=>HSA.out.set.free i) (by omega);have HS2:Hid _:=HSA.out.setW (a/64) (ws.getD (a/64) 0 ||| 2^(a%64));clear HST2;go_wp2_with (go_at_call 185;refine Calls.mono CA.out ?_;rintro e w4 ⟨rfl,rfl⟩)
     go_roundw
     case rel=>exact⟨k+1,adw ws a,by go_num,by omega,by rw[HN.out];exact HS2.out.below (Below.refl _ _).drew,by rw[HN.out];exact HSR.out.add a (by omega)⟩
     case measure=>simp[intOf];omega
  ·have hke:k=g.length:=by omega
   subst hke;have hlt':¬((g.length:Nat):Int)<(g.length:Int):=by omega
   have hcl:(ws.map uw).length=9:=by rw[List.length_map];exact hSR.len
   have q2:=hS.set.range;have hone:=all_oneCell_toArray (zdn ws);have HSR:Hid _:=hSR;clear hSR;generalize hCS:ws.map uw=cs at *;have HCS:Hid (ws.map uw=cs):=hCS;clear hCS;have hiA:(Tryz.prog.info? 184).map (·.size)=some cs.length:=by rw[hcl];exact Tryz.infoSet
   have hcz:cs.toArray.size=9:=by simp[hcl]
   have hiB:(Tryz.prog.info? 184).map (·.size)=some cs.toArray.size:=by rw[hcz];exact Tryz.infoSet
   have hR:=hS.res.row (zdn z9);rw[show(z9.map uw).length=9 from rfl] at hR;have hth:wr.there w.heap.size 0 cs.toArray.size:=by rw[hcz];exact hR.there 0 9 (by omega)
   have HF:Hid (Below w.heap.size w (wr.setCells w.heap.size 0 cs)):=Av.zai (a:=w) (by omega) cs 0 wr hS.bel;have HR:Hid (Av.Row wr w.heap.size 9):=hR;clear hS hcz hR;go_wp2_with (first|(refine wpList_load_mid rfl 184 (.tmp 6) rfl sb 0 rfl cs _ ?_ Tryz.underlying184 rfl hiA ?_;(exact q2))|(refine wpList_store_mid rfl 184 (.tmp 4) (.tmp 75) rfl w.heap.size 0 cs.toArray rfl rfl ?_ hiB hone ?_;(exact hth)));exact Av.postN cs rfl rfl Tryz.underlying184 rfl Tryz.infoSet HR.out hcl ⟨ws,by rw[HCS.out],HSR.out,HF.out⟩
def enC (v:Int) (pf:List UInt8) (ws:List Nat) (m:Int×Int×Int×Int):List Value:=.int .i64 v::.string ⟨pf.toArray⟩::(ws.map uw++[iv m.1,iv m.2.1,iv m.2.2.1,iv m.2.2.2])
theorem zah (v:Int) (pf:List UInt8) {ws:List Nat} (m:Int×Int×Int×Int) (h:ws.length=9):(enC v pf ws m).length=15:=by simp[enC,h]
theorem zaj (v:Int) (pf:List UInt8) (ws:List Nat) (m:Int×Int×Int×Int):∀x∈enC v pf ws m,x.oneCell'=true:=by
 intro x hx;unfold enC at hx;rcases List.mem_cons.1 hx with rfl|hx
 ·rfl
 ·rcases List.mem_cons.1 hx with rfl|hx
  ·rfl
  ·rcases List.mem_append.1 hx with hx|hx
   ·exact zdn ws x hx
   ·simp only[List.mem_cons,List.not_mem_nil,or_false] at hx;rcases hx with rfl|rfl|rfl|rfl<;>rfl
theorem zlx (v:Int) (pf:List UInt8) {ws:List Nat} (m:Int×Int×Int×Int) {i x:Nat} (h:ws[i]?=some x):(enC v pf ws m)[2+i]?=some (uw x):=by
 have hi:=(List.getElem?_eq_some_iff.1 h).1;unfold enC;rw[show 2+i=i+1+1 by omega,List.getElem?_cons_succ,List.getElem?_cons_succ,List.getElem?_append_left (by rw[List.length_map];exact hi),List.getElem?_map,h]
 rfl
theorem zke (v:Int) (pf:List UInt8) {ws:List Nat} (m:Int×Int×Int×Int) {i:Nat} (x:Nat) (h:i<ws.length):(enC v pf ws m).set (2+i) (uw x)=enC v pf (ws.set i x) m:=by
 unfold enC;rw[show 2+i=i+1+1 by omega,List.set_cons_succ,List.set_cons_succ,List.set_append_left _ _ (by rw[List.length_map];exact h),List.map_set]
theorem zez (v:Int) (pf pf':List UInt8) (ws:List Nat) (m:Int×Int×Int×Int):(enC v pf ws m).set 1 (.string ⟨pf'.toArray⟩)=enC v pf' ws m:=rfl
theorem Tryz.infoEnd:(Tryz.prog.info? 186).map (·.size)=some 15:=by kernel_rfl
def setL:List Value→Nat→List Value→List Value
 | cs,_,[]=>cs
 | cs,o,v::r=>setL (cs.set o v) (o+1) r
theorem ziV:∀(vs cs:List Value) (o i:Nat),o+vs.length≤cs.length→(setL cs o vs)[i]?=if o≤i∧i<o+vs.length then vs[i-o]? else cs[i]?
 | [],cs,o,i,h=>by rw[setL,if_neg (by simp only[List.length_nil];omega)]
 | v::r,cs,o,i,h=>by
  simp only[List.length_cons] at h;rw[setL,ziV r (cs.set o v) (o+1) i (by rw[List.length_set];omega)];by_cases e:i=o
  ·subst e;rw[if_neg (by omega),if_pos ⟨Nat.le_refl _,by simp⟩,List.getElem?_set,if_pos rfl,if_pos (by omega),Nat.sub_self]
   rfl
  ·by_cases h1:o+1≤i∧i<o+1+r.length
   ·rw[if_pos h1,if_pos ⟨by omega,by simp only[List.length_cons];omega⟩,show i-o=(i-(o+1))+1 by omega,List.getElem?_cons_succ]
   ·rw[if_neg h1,if_neg (by simp only[List.length_cons];omega),List.getElem?_set,if_neg (fun h=>e h.symm)]
theorem zkf {vs cs:List Value} (h:vs.length=cs.length):setL cs 0 vs=vs:=by
 apply List.ext_getElem?
 intro i;rw[ziV vs cs 0 i (by omega)];by_cases hi:i<vs.length
 ·rw[if_pos ⟨Nat.zero_le _,by omega⟩,Nat.sub_zero]
 ·rw[if_neg (by omega),List.getElem?_eq_none (by omega),List.getElem?_eq_none (by omega)]
theorem Blk.setL {b:Nat} {ty:TypeId}:∀(vs cs:List Value) (o:Nat) (X:World),Blk X b ty cs→Blk (X.setCells b o vs) b ty (Vl.setL cs o vs)
 | [],cs,o,X,h=>h
 | v::r,cs,o,X,h=>by
  rw[World.setCells,Vl.setL];exact Blk.setL r _ (o+1) _ (h.set o v)
theorem Blk.setAll {X:World} {b:Nat} {ty:TypeId} {cs:List Value} (h:Blk X b ty cs) {vs:List Value} (hl:vs.length=cs.length):Blk (X.setCells b 0 vs) b ty vs:=by
 have:=Blk.setL vs cs 0 X h;rw[zkf hl] at this;exact this
theorem Blk.otherAll {b b':Nat} {ty:TypeId} {cs:List Value} (hne:b'≠b):∀(vs:List Value) (o:Nat) (X:World),Blk X b' ty cs→Blk (X.setCells b o vs) b' ty cs
 | [],o,X,h=>h
 | v::r,o,X,h=>by
  rw[World.setCells];exact Blk.otherAll hne r (o+1) _ (h.other o v hne)
theorem zaL (X:World) (b:Nat):∀(vs:List Value) (o:Nat) (Y:World),Below X.heap.size X Y→X.heap.size≤b→Below X.heap.size X (Y.setCells b o vs)
 | [],o,Y,h,_=>h
 | v::r,o,Y,h,hb=>by
  rw[World.setCells];exact zaL X b r (o+1) _ (h.setCell (p:=⟨b,o,none⟩) hb v) hb
theorem Blk.enSet {X:World} {b:Nat} {ty:TypeId} {v:Int} {pf:List UInt8} {ws:List Nat} {m:Int×Int×Int×Int} (h:Blk X b ty (enC v pf ws m)):SetAt X b 2 ws:=⟨h.lt,fun i x hx=>h.cell (zlx v pf m hx)⟩
end Go.Proofs.YtkinoehmcfhgbaaGreatDoor.Vl
