/- A part of the proof. -/
import Derived.Test.YtkinoehmcfhgbaaGreatDoorZ4
set_option linter.unusedVariables false
set_option linter.unusedSimpArgs false
set_option maxRecDepth 100000
set_option maxHeartbeats 12000000
namespace Go.Proofs.YtkinoehmcfhgbaaGreatDoor.Vl
open Go.RowKit
def enC (v:Int) (pf:List UInt8) (ws:List Nat) (m:Int×Int×Int×Int):List Value:=.int .i64 v::.string ⟨pf.toArray⟩::(ws.map uw++[iv m.1,iv m.2.1,iv m.2.2.1,iv m.2.2.2])
theorem zah (v:Int) (pf:List UInt8) {ws:List Nat} (m:Int×Int×Int×Int) (h:ws.length=9):(enC v pf ws m).length=15:=by simp[enC,h]
theorem zai (v:Int) (pf:List UInt8) (ws:List Nat) (m:Int×Int×Int×Int):∀x∈enC v pf ws m,x.oneCell'=true:=by
 intro x hx;unfold enC at hx;rcases List.mem_cons.1 hx with rfl|hx
 ·rfl
 ·rcases List.mem_cons.1 hx with rfl|hx
  ·rfl
  ·rcases List.mem_append.1 hx with hx|hx
   ·exact zdJ ws x hx
   ·simp only[List.mem_cons,List.not_mem_nil,or_false] at hx;rcases hx with rfl|rfl|rfl|rfl<;>rfl
theorem zlQ (v:Int) (pf:List UInt8) {ws:List Nat} (m:Int×Int×Int×Int) {i x:Nat} (h:ws[i]?=some x):(enC v pf ws m)[2+i]?=some (uw x):=by
 have hi:=(List.getElem?_eq_some_iff.1 h).1;unfold enC;rw[show 2+i=i+1+1 by omega,List.getElem?_cons_succ,List.getElem?_cons_succ,List.getElem?_append_left (by rw[List.length_map];exact hi),List.getElem?_map,h]
 rfl
theorem zkb (v:Int) (pf:List UInt8) {ws:List Nat} (m:Int×Int×Int×Int) {i:Nat} (x:Nat) (h:i<ws.length):(enC v pf ws m).set (2+i) (uw x)=enC v pf (ws.set i x) m:=by
 unfold enC;rw[show 2+i=i+1+1 by omega,List.set_cons_succ,List.set_cons_succ,List.set_append_left _ _ (by rw[List.length_map];exact h),List.map_set]
theorem zel (v:Int) (pf pf':List UInt8) (ws:List Nat) (m:Int×Int×Int×Int):(enC v pf ws m).set 1 (.string ⟨pf'.toArray⟩)=enC v pf' ws m:=rfl
theorem Tryz.infoEnd:(Tryz.prog.info? 186).map (·.size)=some 15:=by kernel_rfl
def setL:List Value→Nat→List Value→List Value
 | cs,_,[]=>cs
 | cs,o,v::r=>setL (cs.set o v) (o+1) r
theorem zh8:∀(vs cs:List Value) (o i:Nat),o+vs.length≤cs.length→(setL cs o vs)[i]?=if o≤i∧i<o+vs.length then vs[i-o]? else cs[i]?
 | [],cs,o,i,h=>by rw[setL,if_neg (by simp only[List.length_nil];omega)]
 | v::r,cs,o,i,h=>by
  simp only[List.length_cons] at h;rw[setL,zh8 r (cs.set o v) (o+1) i (by rw[List.length_set];omega)];by_cases e:i=o
  ·subst e;rw[if_neg (by omega),if_pos ⟨Nat.le_refl _,by simp⟩,List.getElem?_set,if_pos rfl,if_pos (by omega),Nat.sub_self]
   rfl
  ·by_cases h1:o+1≤i∧i<o+1+r.length
   ·rw[if_pos h1,if_pos ⟨by omega,by simp only[List.length_cons];omega⟩,show i-o=(i-(o+1))+1 by omega,List.getElem?_cons_succ]
   ·rw[if_neg h1,if_neg (by simp only[List.length_cons];omega),List.getElem?_set,if_neg (fun h=>e h.symm)]
theorem zkc {vs cs:List Value} (h:vs.length=cs.length):setL cs 0 vs=vs:=by
 apply List.ext_getElem?
 intro i;rw[zh8 vs cs 0 i (by omega)];by_cases hi:i<vs.length
 ·rw[if_pos ⟨Nat.zero_le _,by omega⟩,Nat.sub_zero]
 ·rw[if_neg (by omega),List.getElem?_eq_none (by omega),List.getElem?_eq_none (by omega)]
theorem Blk.setL {b:Nat} {ty:TypeId}:∀(vs cs:List Value) (o:Nat) (X:World),Blk X b ty cs→Blk (X.setCells b o vs) b ty (Vl.setL cs o vs)
 | [],cs,o,X,h=>h
 | v::r,cs,o,X,h=>by
  rw[World.setCells,Vl.setL];exact Blk.setL r _ (o+1) _ (h.set o v)
theorem Blk.setAll {X:World} {b:Nat} {ty:TypeId} {cs:List Value} (h:Blk X b ty cs) {vs:List Value} (hl:vs.length=cs.length):Blk (X.setCells b 0 vs) b ty vs:=by
 have:=Blk.setL vs cs 0 X h;rw[zkc hl] at this;exact this
theorem Blk.otherAll {b b':Nat} {ty:TypeId} {cs:List Value} (hne:b'≠b):∀(vs:List Value) (o:Nat) (X:World),Blk X b' ty cs→Blk (X.setCells b o vs) b' ty cs
 | [],o,X,h=>h
 | v::r,o,X,h=>by
  rw[World.setCells];exact Blk.otherAll hne r (o+1) _ (h.other o v hne)
theorem zaL (X:World) (b:Nat):∀(vs:List Value) (o:Nat) (Y:World),Below X.heap.size X Y→X.heap.size≤b→Below X.heap.size X (Y.setCells b o vs)
 | [],o,Y,h,_=>h
 | v::r,o,Y,h,hb=>by
  rw[World.setCells];exact zaL X b r (o+1) _ (h.setCell (p:=⟨b,o,none⟩) hb v) hb
theorem Blk.enSet {X:World} {b:Nat} {ty:TypeId} {v:Int} {pf:List UInt8} {ws:List Nat} {m:Int×Int×Int×Int} (h:Blk X b ty (enC v pf ws m)):SetAt X b 2 ws:=⟨h.lt,fun i x hx=>h.cell (zlQ v pf m hx)⟩
theorem zh9 (w X:World) (b:Nat) (B:Bd) (l r:Nat) (c t:Int) (h:BdAt w b 0 B) (hX:Below w.heap.size w X) (hl:l<5) (hr:r<5) (hc:-999999≤c∧c≤999999) (ht:T3 t) :
 Calls Tryz.prog 186 #[.pointer (some ⟨b,0,none⟩),.agg #[.int .i64 l,.int .i64 r,.int .i64 c],.int .i8 t] X fun e w'=>∃v,e=.returned v∧IntsR w v ((brs B ((l:Int),(r:Int),c) t).map fun(n:Nat)=>(n:Int))∧Below X.heap.size X w':=by
 obtain⟨l',r',c',e1,e2,hl',hr',e3⟩:∃(l' r':Nat) (c':Int),ifA ((l:Int),(r:Int),c) t=((l':Int),(r':Int),c')∧((brs B ((l:Int),(r:Int),c) t).map fun(n:Nat)=>(n:Int))=bby (B l' r')∧l'<5∧r'<5∧True:=by
  have key:∀(x y:Nat) (z:Int),ifA ((l:Int),(r:Int),c) t=((x:Int),(y:Int),z)→((brs B ((l:Int),(r:Int),c) t).map fun(n:Nat)=>(n:Int))=bby (B x y):=by
   intro x y z e;unfold brs;rw[e];dsimp only[Int.toNat_natCast];cases B x y with
   | none=>rfl
   | some p=>rfl
  by_cases h2:t=2
  ·subst h2;exact⟨r,l,-c-1,rfl,key _ _ _ rfl,hr,hl,trivial⟩
  ·have:ifA ((l:Int),(r:Int),c) t=((l:Int),(r:Int),c):=by unfold ifA;rw[if_neg h2]
   exact⟨l,r,c,this,key _ _ _ this,hl,hr,trivial⟩
 rw[e2];clear e2 e3;have C3:Hid (∀X,Calls Tryz.prog 233 #[.agg #[.int .i64 l,.int .i64 r,.int .i64 c],.int .i8 t] X fun e w'=>e=.returned (.agg #[.int .i64 l',.int .i64 r',.int .i64 c'])∧Below X.heap.size X w'):=fun X=>by
  have:=ze4 l r c t ht hc X;rw[e1] at this;exact this
 clear e1;obtain⟨hb,hcells⟩:=h;obtain⟨h1,h2,v,h3,h4⟩:=hcells l' r' hl' hr';have HI:Hid (IntsR w v (bby (B l' r'))):=h4;clear hcells h1 h2 h4;rw[Nat.zero_add] at h3;have h3:=(hX.cell (p:=⟨b,l'*15+r'*3+2,none⟩) hb).trans h3;have hb:=Nat.lt_of_lt_of_le hb hX.size;have l5:(l':Int)<5:=by omega
 have r5:(r':Int)<5:=by omega
 have hB:=zaa X (.cells #[.int .i64 (l:Int),.int .i64 (r:Int),.int .i64 c] 134);go_enter Tryz.func186,Tryz.ntmps186;go_wp2_with (first|(go_at_call 233;refine Calls.mono (C3.out _) ?_;rintro e w4 ⟨rfl,hb4⟩));have hB4:=hB.trans (hb4.mono hB.size);have y3:=(hB4.cell (p:=⟨b,l'*15+r'*3+2,none⟩) hb).trans h3;have hb4':b<w4.heap.size:=Nat.lt_of_lt_of_le hb hB4.size;have hbne:¬b=w4.heap.size:=by omega
 clear h3;have hB5:=hB4.trans ((zaa w4 (.cells #[.int .i64 (l':Int),.int .i64 (r':Int),.int .i64 c'] 134)).mono hB4.size);go_region;go_wp2;go_ret;exact⟨_,rfl,HI.out,hB5.drew⟩
structure FiS (w X:World) (eb rb:Nat) (pf:List UInt8) (ws rw:List Nat):Prop where
 bel:Below w.heap.size w X
 res:Blk X w.heap.size 186 (enC 0 [] z9 (0,0,0,0))
 en:Blk X eb 186 (enC 0 pf ws (0,0,0,0))
 rs:Blk X rb 184 (rw.map uw)
 r1:w.heap.size<eb
 r2:eb<rb
theorem FiS.below {w X Y:World} {eb rb:Nat} {pf:List UInt8} {ws rw:List Nat} (h:FiS w X eb rb pf ws rw) (hb:Below X.heap.size X Y):FiS w Y eb rb pf ws rw :=
 ⟨h.bel.trans (hb.mono h.bel.size),h.res.below hb,h.en.below hb,h.rs.below hb,h.r1,h.r2⟩
theorem FiS.setW {w X:World} {eb rb:Nat} {pf:List UInt8} {ws rw:List Nat} (h:FiS w X eb rb pf ws rw) (i x:Nat) (hi:i<ws.length):FiS w (X.setCell ⟨eb,2+i,none⟩ (.int .u64 (x:Int))) eb rb pf (ws.set i x) rw:=by
 have h1:=h.r1;have h2:=h.r2;refine⟨h.bel.setCell (p:=⟨eb,2+i,none⟩) (by dsimp only;omega) _,h.res.other _ _ (by omega),?_,h.rs.other _ _ (by omega),h1,h2⟩;have:=h.en.set (2+i) (uw x);rw[zkb _ _ _ _ hi] at this;exact this
theorem FiS.setP {w X:World} {eb rb:Nat} {pf:List UInt8} {ws rw:List Nat} (h:FiS w X eb rb pf ws rw) (pf':List UInt8):FiS w (X.setCell ⟨eb,1,none⟩ (.string ⟨pf'.toArray⟩)) eb rb pf' ws rw:=by
 have h1:=h.r1;have h2:=h.r2;refine⟨h.bel.setCell (p:=⟨eb,1,none⟩) (by dsimp only;omega) _,h.res.other _ _ (by omega),?_,h.rs.other _ _ (by omega),h1,h2⟩;have:=h.en.set 1 (.string ⟨pf'.toArray⟩);rw[zel] at this;exact this
theorem zmR {n:Nat} {l:List Nat} (hn:n≤4000) (hl:l.length≤4000) (hx:∀x∈l,x≤4000):(cyt n l).length≤40000:=by
 rw[zgJ];have h1:=zif l hx;have h2:=zaX (n:=(n:Int)) (by omega) (by omega);simp only[List.length_cons,List.length_append,List.length_nil];omega
theorem zhm (w0 w:World) (D:PD) (us:List Atm) (g:List Pt) (s n:Nat) (A:Nat→Int) (ats parts:List Int) (kb:Nat) (B:Bd) (h:PvS w0 w D us g s n A ats parts) (hB:BdAt w kb 0 B) (hok:∀a∈us,okA a) (hus:us.length≤576) (h3:∀t∈ats,T3 t) (hgl:g.length≤8000) (hg0:0<g.length) (hGW:GW us.length g)
 (hby:∀a∈us,∀t,(brs B a t).length≤4000) (hbx:∀a t,∀x∈brs B a t,x<us.length) (hgt:Gt w) :
 Calls Tryz.prog 130 #[.pointer (some ⟨D.pb,0,none⟩),.pointer (some ⟨kb,0,none⟩)] w fun e w'=>∃ws,e=.returned (.agg (enC 0 (fnl us A ats B (rsn (wts us A ats B parts 0 g) g g.length).2 us.length).1 ws (0,0,0,0)).toArray)∧SetR ws (fnl us A ats B (rsn (wts us A ats B parts 0 g) g g.length).2 us.length).2∧(fnl us A ats B (rsn (wts us A ats B parts 0 g) g g.length).2 us.length).1.length≤400010∧Below w.heap.size w w':=by
 have HX:Hid (∀X,Below w.heap.size w X→PvS w0 X D us g s n A ats parts):=fun X hX=>h.below hX
 have CR:Hid (∀X,Below w.heap.size w X→Calls Tryz.prog 183 #[.pointer (some ⟨D.pb,0,none⟩),.pointer (some ⟨kb,0,none⟩)] X fun e w'=>∃ws,e=.returned (.agg (ws.map uw).toArray)∧SetR ws (rsn (wts us A ats B parts 0 g) g g.length).2∧Below X.heap.size X w'):=fun X hX=>zgo w0 X D us g s n A ats parts kb B (h.below hX) (hB.below hX) hok hus h3 hgl hg0 hGW hby
 have CY:Hid (∀X a1 a2 a3 t,Below w.heap.size w X→(a1,a2,a3)∈us→T3 t→Calls Tryz.prog 186 #[.pointer (some ⟨kb,0,none⟩),.agg #[.int .i64 a1,.int .i64 a2,.int .i64 a3],.int .i8 t] X fun e w'=>∃v,e=.returned v∧IntsR w v ((brs B (a1,a2,a3) t).map fun(n:Nat)=>(n:Int))∧Below X.heap.size X w'):=fun X a1 a2 a3 t hX ha ht=>by
  obtain⟨o1,o2,o3,o4,o5,o6⟩:=hok _ ha;dsimp only at *;obtain⟨l,rfl⟩:∃l:Nat,a1=(l:Int):=⟨a1.toNat,by omega⟩
  obtain⟨r,rfl⟩:∃r:Nat,a2=(r:Int):=⟨a2.toNat,by omega⟩
  exact zh9 w X kb B l r a3 _ hB hX (by omega) (by omega) ⟨o5,o6⟩ ht
 have HGT:Hid (Gt w):=hgt;have HBY:Hid _:=hby;have HBX:Hid _:=hbx;have HT3:Hid (∀i,T3 (ats.getD i 0)):=fun i=>by
  rw[List.getD_eq_getElem?_getD];cases he:ats[i]? with
  | none=>exact Or.inl rfl
  | some t=>exact h3 t (List.mem_of_getElem? he)
 generalize (rsn (wts us A ats B parts 0 g) g g.length).2=rs at *;obtain⟨pb,mb,tb,qb,gb,kk,qa,ca,cg⟩:=D;have hA2:∀x y,Below w.heap.size w ((w.alloc x).alloc y):=fun x y=>(zaa w x).alloc (by simp) y
 have hbu:∀X,(Instr.build 186 #[(0,.int .i64 0),(1,.string ⟨#[46]⟩)]).run Tryz.prog X=.ok (.agg (enC 0 [46] z9 (0,0,0,0)).toArray) X:=fun X=>run_build X _ _ _ (by kernel_rfl)
 dsimp only at *;clear h hGW hB hgt hby hbx hok h3;go_enter Tryz.func130,Tryz.ntmps130;go_wp2_with fail;refine(CR.out _ (hA2 _ _)).mono ?_;rintro e w2 ⟨rw,rfl,hrw,hb2⟩;have hbw2:=(hA2 _ _).trans (hb2.mono (hA2 _ _).size);have hrs2:Blk w2 w.heap.size 186 (enC 0 [] z9 (0,0,0,0)):=(hb2.block w.heap.size (by simp<;>omega)).trans ((Below.heap_alloc _ _ _ (by simp)).trans (heap_alloc_new w _));have hen2:Blk w2 (w.heap.size+1) 186 (enC 0 [46] z9 (0,0,0,0)):=by
  refine(hb2.block (w.heap.size+1) (by simp)).trans ?_;have:=heap_alloc_new (w.alloc (.cells (enC 0 [] z9 (0,0,0,0)).toArray 186)) (.cells (enC 0 [46] z9 (0,0,0,0)).toArray 186);rw[World.size_alloc] at this;exact this
 have hsz2:w.heap.size+1<w2.heap.size:=hen2.lt;have hcl:(rw.map uw).length=9:=by rw[List.length_map];exact hrw.len
 have hone:=all_oneCell_toArray (zdJ rw);have hnb:Blk (w2.alloc (.cells zZi 184)) w2.heap.size 184 (z9.map uw):=heap_alloc_new w2 _;have hth:(w2.alloc (.cells zZi 184)).there w2.heap.size 0 (rw.map uw).toArray.size:=by
  rw[show(rw.map uw).toArray.size=9 by simp[hrw.len]];exact(hnb.row (zdJ z9)).there 0 9 (by simp[z9])
 have hiB:(Tryz.prog.info? 184).map (·.size)=some (rw.map uw).toArray.size:=by rw[show(rw.map uw).toArray.size=9 by simp[hrw.len]];exact Tryz.infoSet
 obtain⟨W0,hW0⟩:∃W0,(w2.alloc (.cells zZi 184)).setCells w2.heap.size 0 (rw.map uw)=W0:=⟨_,rfl⟩
 have h2W:Below w2.heap.size w2 W0:=by rw[←hW0];exact zaL w2 w2.heap.size _ 0 _ (zaa w2 _) (Nat.le_refl _)
 have HI:Hid (FiS w W0 (w.heap.size+1) w2.heap.size [46] z9 rw):=by
  refine⟨hbw2.trans (h2W.mono hbw2.size),hrs2.below h2W,hen2.below h2W,?_,by omega,hsz2⟩;rw[←hW0];exact hnb.setAll (by rw[hcl];rfl)
 obtain⟨d0,d1,d2,d3,d4,d5,d6⟩:=(HX.out W0 HI.out.bel).cells;dsimp only at d0 d1 d2 d3 d4 d5 d6;clear hrs2 hen2 hnb hbw2 h2W hb2 hcl;go_wp2_with (refine wpList_store_mid rfl 184 (.tmp 6) (.tmp 17) rfl w2.heap.size 0 (rw.map uw).toArray rfl rfl ?_ hiB hone ?_;(exact hth);(rw[show(rw.map uw).toArray.toList=rw.map uw by simp,hW0]));clear hth hW0 hiB hone d0 d1 d2 d3 d4 d5 d6;have HRW:Hid _:=hrw;clear hrw;generalize w2.heap.size=rb at *;clear w2
 go_loopw [7,8,9,10,12,13,23] (fun s7 s8 s9 s10 s12 s13 s23 wr=>∃(k:Nat) (ws:List Nat),s23=.int .i64 (k:Int)∧k≤us.length∧FiS w wr (w.heap.size+1) rb (fnl us A ats B rs k).1 ws rw∧SetR ws (fnl us A ats B rs k).2∧(fnl us A ats B rs k).1.length≤400010) (fun _ _ _ _ _ _ s23 _=>us.length-(intOf s23).toNat)
 case atStart=>exact⟨0,z9,rfl,Nat.zero_le _,HI.out,zg8,by simp[fnl]⟩
 case round =>
  clear HI;obtain⟨k,ws,rfl,hk,hS,hSR,hpl⟩:=hrel;have HS:Hid _:=hS;have HSR:Hid _:=hSR;by_cases hlt:k<us.length
  ·have hkl:(k:Int)<(us.length:Int):=by omega
   have CH:Hid _:=zgt wr rb 0 k rw rs HRW.out hS.rs.setAt (by omega);have HST:Hid (fnl us A ats B rs (k+1)=fst1 us A ats B rs k (fnl us A ats B rs k)):=rfl;clear hS hSR;generalize fnl us A ats B rs k=R at *;by_cases hr0:rs k=false
   ·have HN:Hid (fnl us A ats B rs (k+1)=R):=by show _=_;rw[HST.out,fst1,if_pos hr0]
    rw[hr0] at CH;clear hr0 HST;go_wp2_with (go_at_call 184;refine Calls.mono CH.out ?_;rintro e w3 ⟨rfl,rfl⟩)
    go_roundw
    case rel=>exact⟨k+1,ws,by go_num,by omega,by rw[HN.out];exact HS.out,by rw[HN.out];exact HSR.out,by rw[HN.out];exact hpl⟩
    case measure=>simp[intOf];omega
   ·have hr1:rs k=true:=by simpa using hr0
    rw[hr1] at CH;have hPv:=HX.out wr HS.out.bel;have hlk:=NM.look hPv.am k (by omega);obtain⟨d0,d1,d2,d3,d4,d5,d6⟩:=hPv.cells;have htc:=hPv.tcell hlt;dsimp only at d0 d1 d2 d3 d4 d5 d6 htc hlk;by_cases hAk:A k≠0
    ·have HN:Hid (fnl us A ats B rs (k+1)=(R.1,fun j=>R.2 j||j==k)):=by show _=_;rw[HST.out,fst1,if_neg hr0,if_pos hAk]
     have hd:decide (A k≠0)=true:=decide_eq_true hAk;rw[hd] at hlk;have CA:Hid _:=zgu wr (w.heap.size+1) 2 k ws R.2 HSR.out HS.out.en.enSet (fun i=>HS.out.en.free i) (by omega);have HS2:Hid _:=HS.out.setW (k/64) (ws.getD (k/64) 0 ||| 2^(k%64)) (by rw[HSR.out.len];omega);clear hr0 hr1 HST hPv hAk hd;generalize A k=ak at *;go_wp2_with (first|(go_at_call 184;refine Calls.mono CH.out ?_;rintro e w3 ⟨rfl,rfl⟩)|(go_at_call 185;refine Calls.mono CA.out ?_;rintro e w4 ⟨rfl,rfl⟩))
     go_roundw
     case rel=>exact⟨k+1,adw ws k,by go_num,by omega,by rw[HN.out];exact HS2.out.below (Below.refl _ _).drew,by rw[HN.out];exact HSR.out.add k (by omega),by rw[HN.out];exact hpl⟩
     case measure=>simp[intOf];omega
    ·have hd:decide (A k≠0)=false:=decide_eq_false hAk;rw[hd] at hlk;have hatm:=hPv.atm;dsimp only at hatm;rcases hatm with⟨_,he⟩|⟨b,cap,hv,hc1,hc2,hb,hcells⟩
     ·rw[he] at hlt;simp at hlt
     ·cases hv
      obtain⟨⟨a1,a2,a3⟩,hx⟩:∃x,us[k]?=some x:=⟨_,List.getElem?_eq_getElem hlt⟩
      obtain⟨z1,z2,z3⟩:=hcells k _ hx;dsimp only at z1 z2 z3;have hgu:us.getD k (0,0,0)=(a1,a2,a3):=by rw[List.getD_eq_getElem?_getD,hx];rfl
      have HN:Hid (fnl us A ats B rs (k+1)=(if ats.getD k 0=1 then spt k R.1 (cyt k (brs B (a1,a2,a3) (ats.getD k 0))) else spt k (cyt k (brs B (a1,a2,a3) (ats.getD k 0))) R.1,fun j=>R.2 j||(brs B (a1,a2,a3) (ats.getD k 0)).contains j)):=by show _=_;rw[HST.out,fst1,if_neg hr0,if_neg hAk,hgu]
      have ht3:=HT3.out k;have hin:=List.mem_of_getElem? hx;have hll:=HBY.out _ hin (ats.getD k 0);have hlx:=HBX.out (a1,a2,a3) (ats.getD k 0);have CRs:Hid _:=CY.out wr.drew a1 a2 a3 (ats.getD k 0) HS.out.bel.drew hin ht3;have HLT:Hid (pb<wr.heap.size∧tb<wr.heap.size):=⟨hPv.box.lt,hPv.tr.lt⟩;have htn:=hPv.tl;clear hr0 hr1 HST hPv hAk hd hcells hx hgu;generalize A k=ak at *;generalize brs B (a1,a2,a3) (ats.getD k 0)=L at *;generalize hTK:ats.getD k 0=tk at *;have HTK:Hid (ats.getD k 0=tk):=hTK;clear hTK;go_wp2_with (go_at_call 184;refine Calls.mono CH.out ?_;rintro e w3 ⟨rfl,rfl⟩);go_region_held3 (fun X=>X.cell? ⟨pb,1,none⟩=some (.slice (some ⟨b,0,none⟩) us.length ca)∧X.cell? ⟨pb,5,none⟩=some (.slice (some ⟨tb,0,none⟩) us.length us.length)∧X.cell? ⟨b,k*3,none⟩=some (.int .i64 a1)∧X.cell? ⟨b,k*3+1,none⟩=some (.int .i64 a2)∧X.cell? ⟨b,k*3+2,none⟩=some (.int .i64 a3)∧X.cell? ⟨tb,k,none⟩=some (.int .i8 tk)) (first|exact⟨d1,d5,z1,z2,z3,htc⟩|exact⟨y1,y2,y3,y4,y5,y6⟩) (first|(go_at_call 186;refine Calls.mono CRs.out ?_;rintro e w3 ⟨v,rfl,hv3,hb3⟩;obtain⟨vp,vc,rfl⟩:∃p c,v=.slice p L.length c:=(by rcases hv3 with⟨rfl,e⟩|⟨q,c,rfl,_⟩;exact⟨none,0,by rw[List.map_eq_nil_iff.1 e];rfl⟩;exact⟨_,_,by rw[List.length_map]⟩);have y1:=(hb3.cell (p:=⟨pb,1,none⟩) HLT.out.1).trans d1;have y2:=(hb3.cell (p:=⟨pb,5,none⟩) HLT.out.1).trans d5;have y3:=(hb3.cell (p:=⟨b,k*3,none⟩) hb).trans z1;have y4:=(hb3.cell (p:=⟨b,k*3+1,none⟩) hb).trans z2;have y5:=(hb3.cell (p:=⟨b,k*3+2,none⟩) hb).trans z3;have y6:=(hb3.cell (p:=⟨tb,k,none⟩) HLT.out.2).trans htc));have hbw3:Below wr.heap.size wr w3:=(Below.refl _ wr).drew.trans (hb3.mono (Nat.le_refl _));have HS3:Hid _:=HS.out.below hbw3;have HIV:Hid _:=hv3;clear y1 y2 y3 y4 y5 y6 hb3 hbw3 z1 z2 z3 htc d0 d1 d2 d3 d4 d5 d6 hlk HS hv3 CRs;obtain⟨W1,hW1⟩:∃W1,W1=wr:=⟨_,rfl⟩
      subst hW1;go_wp2_with fail
      go_loopw [12,60] (fun s12 s60 wr=>∃(j:Nat) (ws':List Nat),s60=.int .i64 (j:Int)∧j≤L.length∧FiS w wr (w.heap.size+1) rb R.1 ws' rw∧SetR ws' (fun i=>R.2 i||(L.take j).contains i)) (fun _ s60 _=>L.length-(intOf s60).toNat)
      case atStart=>exact⟨0,ws,rfl,Nat.zero_le _,HS3.out,by simpa using HSR.out⟩
      case round =>
       clear HS3 HSR;obtain⟨j,ws',rfl,hj,hS4,hSR4⟩:=hrel;have HS4:Hid _:=hS4;have HSR4:Hid _:=hSR4;by_cases hjl:j<L.length
       ·obtain⟨x,hx⟩:∃x,L[j]?=some x:=⟨_,List.getElem?_eq_getElem hjl⟩
        have hx5:=hlx x (List.mem_of_getElem? hx);have hjl':(j:Int)<(L.length:Int):=by omega
        have CA:Hid _:=zgu wr (w.heap.size+1) 2 x ws' _ hSR4 hS4.en.enSet (fun i=>hS4.en.free i) (by omega);have HS5:Hid _:=hS4.setW (x/64) (ws'.getD (x/64) 0 ||| 2^(x%64)) (by rw[hSR4.len];omega);have HSR5:Hid (SetR (adw ws' x) (fun i=>R.2 i||(L.take (j+1)).contains i)):=by
         have h:=hSR4.add x (by omega);have e:(fun i=>(fun i=>R.2 i||(L.take j).contains i) i||i==x)=fun i=>R.2 i||(L.take (j+1)).contains i:=by
          funext i
          rw[List.take_add_one,hx];simp only[List.contains_append,Option.toList,List.contains_cons,List.contains_nil,Bool.or_false,Bool.or_assoc]
         rw[e] at h;exact h
        rcases HIV.out with⟨hvn,hl0⟩|⟨ib,ic,hvv,_,_,q4,q5⟩
        ·rw[List.map_eq_nil_iff.1 hl0] at hjl;simp at hjl
        ·rw[List.length_map] at hvv;cases hvv
         have hc:=(hS4.bel.cell (p:=⟨ib,j,none⟩) q4).trans (q5 j (x:Int) (by rw[List.getElem?_map,hx];rfl));simp only[iv] at hc;clear hS4 hSR4 q5 hx;go_wp2_with (go_at_call 185;refine Calls.mono CA.out ?_;rintro e w4 ⟨rfl,rfl⟩)
         go_roundw
         case rel=>exact⟨j+1,adw ws' x,by go_num,by omega,HS5.out.below (Below.refl _ _).drew,HSR5.out⟩
         case measure=>simp[intOf];omega
       ·have hje:j=L.length:=by omega
        subst hje;rw[List.take_length] at hSR4;have HSR6:Hid _:=hSR4;have hjl':¬((L.length:Nat):Int)<(L.length:Int):=by omega
        have CC:Hid (∀X,Below w.heap.size w X→Calls Tryz.prog 187 #[.int .i64 (k:Int),.slice vp L.length vc] X fun e w'=>e=.returned (.string ⟨(cyt k L).toArray⟩)∧Below X.heap.size X w'):=fun X hX=>zen k L _ X (IntsR.below HIV.out hX) (by omega) hll (fun x hx=>by have:=hlx x hx;omega) (HGT.out.on hX)
        have hcl:=zmR (n:=k) (by omega) hll (fun x hx=>by have:=hlx x hx;omega);have CS:Hid (∀X h1 h2,Below w.heap.size w X→h1.length≤400010→h2.length≤400010→Calls Tryz.prog 188 #[.int .i64 (k:Int),.string ⟨h1.toArray⟩,.string ⟨h2.toArray⟩] X fun e w'=>e=.returned (.string ⟨(spt k h1 h2).toArray⟩)∧Below X.heap.size X w'):=fun X h1 h2 hX l1 l2=>zbo k h1 h2 X (by omega) (by omega) (by omega) (HGT.out.on hX)
        have hlen2:∀h1 h2:List UInt8,h1.length≤400010→h2.length≤400010→(spt k h1 h2).length≤400010:=fun h1 h2 l1 l2=>by
         have:=zfR k h1 h2 (by omega);omega
        have HLEN:Hid _:=hlen2;clear hS4 hSR4 hlen2;generalize cyt k L=T at *;have CCr:Hid _:=CC.out wr HS4.out.bel;by_cases ht1:tk=1
        ·have HN2:Hid (fnl us A ats B rs (k+1)=(spt k R.1 T,fun j=>R.2 j||L.contains j)):=by show _=_;rw[HN.out,if_pos ht1]
         subst ht1;clear HN;go_wp2_with (first
          | (go_at_call 187;refine Calls.mono CCr.out ?_;rintro e w5 ⟨rfl,hb5⟩;have HS5:Hid _:=HS4.out.below hb5;have f5:=(HX.out w5 HS5.out.bel).cells.2.2.2.2.2.1;have ft:=(HX.out w5 HS5.out.bel).tcell hlt;rw[HTK.out] at ft;dsimp only at f5 ft;have fe:w5.cell? ⟨w.heap.size+1,1,none⟩=some (.string ⟨R.1.toArray⟩):=Blk.cell (i:=1) HS5.out.en rfl)
          | (go_at_call 188;refine Calls.mono (CS.out _ R.1 T HS5.out.bel hpl (by omega)) ?_;rintro e w6 ⟨rfl,hb6⟩;have HS6:Hid _:=HS5.out.below hb6;have fe6:w6.cell? ⟨w.heap.size+1,1,none⟩=some (.string ⟨R.1.toArray⟩):=Blk.cell (i:=1) HS6.out.en rfl;have ff6:=HS6.out.en.free 1))
         go_roundw
         case rel=>exact⟨k+1,ws',by go_num,by omega,by rw[HN2.out];exact HS6.out.setP _,by rw[HN2.out];exact HSR6.out,by rw[HN2.out];exact HLEN.out _ _ hpl (by omega)⟩
         case measure=>simp[intOf];omega
        ·have HN2:Hid (fnl us A ats B rs (k+1)=(spt k T R.1,fun j=>R.2 j||L.contains j)):=by show _=_;rw[HN.out,if_neg ht1]
         have ht1':(tk==1)=false:=by simpa using ht1
         clear HN;go_wp2_with (first
          | (go_at_call 187;refine Calls.mono CCr.out ?_;rintro e w5 ⟨rfl,hb5⟩;have HS5:Hid _:=HS4.out.below hb5;have f5:=(HX.out w5 HS5.out.bel).cells.2.2.2.2.2.1;have ft:=(HX.out w5 HS5.out.bel).tcell hlt;rw[HTK.out] at ft;dsimp only at f5 ft;have fe:w5.cell? ⟨w.heap.size+1,1,none⟩=some (.string ⟨R.1.toArray⟩):=Blk.cell (i:=1) HS5.out.en rfl)
          | (go_at_call 188;refine Calls.mono (CS.out _ T R.1 HS5.out.bel (by omega) hpl) ?_;rintro e w6 ⟨rfl,hb6⟩;have HS6:Hid _:=HS5.out.below hb6;have fe6:w6.cell? ⟨w.heap.size+1,1,none⟩=some (.string ⟨R.1.toArray⟩):=Blk.cell (i:=1) HS6.out.en rfl;have ff6:=HS6.out.en.free 1))
         go_roundw
         case rel=>exact⟨k+1,ws',by go_num,by omega,by rw[HN2.out];exact HS6.out.setP _,by rw[HN2.out];exact HSR6.out,by rw[HN2.out];exact HLEN.out _ _ (by omega) hpl⟩
         case measure=>simp[intOf];omega
  ·have hke:k=us.length:=by omega
   subst hke;have hlt':¬((us.length:Nat):Int)<(us.length:Int):=by omega
   have hcl:=zah 0 (fnl us A ats B rs us.length).1 (0,0,0,0) hSR.len;have q2:=hS.en.range;have hone:=all_oneCell_toArray (zai 0 (fnl us A ats B rs us.length).1 ws (0,0,0,0));have hR:=hS.res.row (zai 0 [] z9 (0,0,0,0));rw[zah 0 [] (0,0,0,0) rfl] at hR;generalize hCS:enC 0 (fnl us A ats B rs us.length).1 ws (0,0,0,0)=cs at *;have HCS:Hid (enC 0 (fnl us A ats B rs us.length).1 ws (0,0,0,0)=cs):=hCS;clear hCS;have hiA:(Tryz.prog.info? 186).map (·.size)=some cs.length:=by rw[hcl];exact Tryz.infoEnd
   have hcz:cs.toArray.size=15:=by simp[hcl]
   have hiB:(Tryz.prog.info? 186).map (·.size)=some cs.toArray.size:=by rw[hcz];exact Tryz.infoEnd
   have hth:wr.there w.heap.size 0 cs.toArray.size:=by rw[hcz];exact hR.there 0 15 (by omega)
   have HF:Hid (Below w.heap.size w (wr.setCells w.heap.size 0 cs)):=Av.zaj (a:=w) (by omega) cs 0 wr hS.bel;have HR:Hid (Av.Row wr w.heap.size 15):=hR;clear hS hcz hR hSR HS;go_wp2_with (first|(refine wpList_load_mid rfl 186 (.tmp 5) rfl (w.heap.size+1) 0 rfl cs _ ?_ Tryz.underlying186 rfl hiA ?_;(exact q2))|(refine wpList_store_mid rfl 186 (.tmp 4) (.tmp 92) rfl w.heap.size 0 cs.toArray rfl rfl ?_ hiB hone ?_;(exact hth)));exact Av.postN cs rfl rfl Tryz.underlying186 rfl Tryz.infoEnd HR.out hcl (by first|exact⟨ws,by rw[HCS.out],HSR.out,hpl,HF.out⟩|exact⟨ws,by rw[HCS.out],HSR.out,HF.out⟩)
theorem PvS.withP {w0 w w':World} {D:PD} {us:List Atm} {g:List Pt} {s n:Nat} {A:Nat→Int} {ats parts P:List Int} (h:PvS w0 w D us g s n A ats parts) (hf:FrX [D.qb] w w') (hb:Blk w' D.qb 159 (P.map tv8)) (hl:P.length=g.length):PvS w0 w' D us g s n A ats P:=by
 have hf':=hf.sub (M':=D.M) (by intro m hm;rw[List.mem_singleton.1 hm];exact D.mq);obtain⟨n1,n2,n3,n4,n5,n6,n7,n8,n9,n10⟩:=h.ne;exact⟨hf'.below h.h0 h.hM,h.hM,h.hd,h.box.fr hf (by simp[n3]),h.atm.fr hf' h.noi,h.gol.fr hf (by simp[n10]),h.gne,h.gcap,h.am.fr hf (by simp[n5]),h.tr.fr hf (by simp[n6]),h.tl,hb,hl⟩
theorem zem (F L:List Int) (i:Nat) (h:i<L.length) (hl:L.length=F.length):(F.take i++L.drop i).set i (F.getD i 0)=F.take (i+1)++L.drop (i+1):=by
 have hi:i<F.length:=by omega
 have e0:i-(F.take i).length=0:=by simp;omega
 rw[List.set_append_right _ _ (by simp;omega),e0,List.drop_eq_getElem_cons h,List.set_cons_zero,List.take_add_one,List.getElem?_eq_getElem hi,List.getD_eq_getElem?_getD,List.getElem?_eq_getElem hi,Option.getD_some,Option.toList_some,List.append_assoc,List.singleton_append]
theorem zkd (w0 w:World) (D:PD) (us:List Atm) (g:List Pt) (s n:Nat) (A:Nat→Int) (ats parts:List Int) (kb:Nat) (B:Bd) (h:PvS w0 w D us g s n A ats parts) (hB:BdAt w kb 0 B) (hkb:kb∉D.M) (hok:∀a∈us,okA a) (hus:us.length≤4000) (hgl:g.length≤8000) (hGW:GW us.length g) (hA:∀n,T3 (A n)) :
 Calls Tryz.prog 128 #[.pointer (some ⟨D.pb,0,none⟩),.pointer (some ⟨kb,0,none⟩)] w fun e w'=>e=.returned (.tuple #[])∧PvS w0 w' D us g s n A (lok us A B) (gtr (lok us A B) 0 g)∧FrX D.M w w':=by
 have HP:Hid (PvS w0 w D us g s n A ats parts):=h;have HBD:Hid (BdAt w kb 0 B):=hB;have HOK:Hid _:=hok;have HGW:Hid _:=hGW;have hL:(lok us A B).length=us.length:=zfL us A B;have HL:Hid (∀i,i<us.length→(lok us A B).getD i 0=if A i≠0 then A i else btr B (us.getD i (0,0,0))):=fun i hi=>zc5 A B hi
 have HT3:Hid (∀t∈lok us A B,T3 t):=zc6 B hA;have HTR:Hid (∀X a1 a2 a3,BdAt X kb 0 B→okA (a1,a2,a3)→Calls Tryz.prog 179 #[.pointer (some ⟨kb,0,none⟩),.agg #[.int .i64 a1,.int .i64 a2,.int .i64 a3]] X fun e w'=>e=.returned (.int .i8 (btr B (a1,a2,a3)))∧Below X.heap.size X w'):=fun X a1 a2 a3 hX ho=>by
  obtain⟨o1,o2,o3,o4,o5,o6⟩:=ho;dsimp only at *;obtain⟨l,rfl⟩:∃l:Nat,a1=(l:Int):=⟨a1.toNat,by omega⟩
  obtain⟨r,rfl⟩:∃r:Nat,a2=(r:Int):=⟨a2.toNat,by omega⟩
  exact ziP X kb B l r a3 hX (by omega) (by omega) ⟨o5,o6⟩
 generalize lok us A B=F at *;obtain⟨pb,mb,tb,qb,gb,kk,qa,ca,cg⟩:=D;obtain⟨c0,c1,c2,c3,c4,c5,c6⟩:=h.cells;obtain⟨n1,n2,n3,n4,n5,n6,n7,n8,n9,n10⟩:=h.ne;dsimp only at *;have HFL:Hid (F.length=us.length):=hL;clear h hB hok hGW hL c0 c2 c3 c4 c5 c6;go_enter Tryz.func128,Tryz.ntmps128;go_wp2_with fail
 go_loopw [4,5,6,7,13] (fun s4 s5 s6 s7 s13 wr=>∃i:Nat,s13=.int .i64 (i:Int)∧i≤us.length∧PvS w0 wr ⟨pb,mb,tb,qb,gb,kk,qa,ca,cg⟩ us g s n A (F.take i++ats.drop i) parts∧FrX [tb] w wr) (fun _ _ _ _ s13 _=>us.length-(intOf s13).toNat)
 case atStart=>exact⟨0,rfl,Nat.zero_le _,HP.out,FrX.refl _ _⟩
 case round =>
  obtain⟨i,rfl,hi,hS,hF⟩:=hrel;by_cases hlt:i<us.length
  ·have HS:Hid (PvS w0 wr ⟨pb,mb,tb,qb,gb,kk,qa,ca,cg⟩ us g s n A (F.take i++ats.drop i) parts):=hS;obtain⟨e0,e1,e2,e3,e4,e5,e6⟩:=hS.cells;dsimp only at e0 e1 e2 e3 e4 e5 e6;have hatm:=hS.atm;dsimp only at hatm;have hil:i<(F.take i++ats.drop i).length:=by rw[hS.tl];exact hlt
   have hft:=hS.tr.free i;have hct:=hS.tcell hlt;dsimp only at hft hct;have hlk:=NM.look (hS.am) i (by omega);have ham:=hS.am;dsimp only at hlk ham;rcases hatm with⟨_,he⟩|⟨b,cap,hv,hc1,hc2,hb,hcells⟩
   ·rw[he] at hlt;simp at hlt
   ·cases hv
    obtain⟨⟨a1,a2,a3⟩,hx⟩:∃x,us[i]?=some x:=⟨_,List.getElem?_eq_getElem hlt⟩
    obtain⟨z1,z2,z3⟩:=hcells i _ hx;dsimp only at z1 z2 z3;have hoa:=HOK.out _ (List.mem_of_getElem? hx);have HLI:Hid (F.getD i 0=if A i≠0 then A i else btr B (a1,a2,a3)):=by
     show _=_
     rw[HL.out i hlt,List.getD_eq_getElem?_getD,hx,Option.getD_some]
    have hlt':(i:Int)<(us.length:Int):=by omega
    have HF:Hid (FrX [tb] w wr):=hF;have hBl:=zaa wr (.cells #[.int .i64 a1,.int .i64 a2,.int .i64 a3] 134);have HSa:Hid _:=HS.out.below hBl;have hBd:BdAt wr kb 0 B:=HBD.out.fr hF ((HP.out.noi).sub (by intro m hm;rw[List.mem_singleton.1 hm];exact PD.mt _)) (fun e=>hkb (by rw[List.mem_singleton.1 e];exact PD.mt _));have HBD2:Hid (BdAt (wr.alloc (.cells #[.int .i64 a1,.int .i64 a2,.int .i64 a3] 134)) kb 0 B):=hBd.below hBl;have hlk2:=NM.look (HSa.out.am) i (by omega);obtain⟨d0,d1,d2,d3,d4,d5,d6⟩:=HSa.out.cells;dsimp only at hlk2 d0 d1 d2 d3 d4 d5 d6;have hpw:pb<wr.heap.size:=HS.out.box.lt;have HSET:Hid (∀W,PvS w0 W ⟨pb,mb,tb,qb,gb,kk,some ⟨b,0,none⟩,ca,cg⟩ us g s n A (F.take i++ats.drop i) parts→∀v,v=F.getD i 0→PvS w0 (W.setCell ⟨tb,i,none⟩ (.int .i8 v)) ⟨pb,mb,tb,qb,gb,kk,some ⟨b,0,none⟩,ca,cg⟩ us g s n A (F.take (i+1)++ats.drop (i+1)) parts):=fun W hW v hv=>by
     have h:=hW.setT i v;rw[hv,zem F ats i (by rw[HP.out.tl];exact hlt) (by rw[HP.out.tl,HFL.out])] at h;rw[hv];exact h
    have hne1:¬b=wr.heap.size:=by omega
    have hftA:=HSa.out.tr.free i;have hctA:=HSa.out.tcell hlt;dsimp only at hftA hctA;clear hS hF hcells hx hlk ham hil hft hct hBd e0 e1 e2 e3 e4 e5 e6;by_cases hAi:A i≠0
    ·have hd:decide (A i≠0)=true:=decide_eq_true hAi;rw[hd] at hlk2;have HV:Hid (A i=F.getD i 0):=by show _=_;rw[HLI.out,if_pos hAi]
     clear hAi hd;generalize A i=ai at *;go_wp2_with fail
     go_roundw
     case rel=>exact⟨i+1,by go_num,by omega,HSET.out _ HSa.out _ HV.out,(HF.out.trans (FrX.of_below hBl)).trans (zap _ _ _ _)⟩
     case measure=>simp[intOf];omega
    ·have hd:decide (A i≠0)=false:=decide_eq_false hAi;rw[hd] at hlk2;have HV:Hid (btr B (a1,a2,a3)=F.getD i 0):=by show _=_;rw[HLI.out,if_neg hAi]
     have CT:Hid _:=HTR.out _ a1 a2 a3 HBD2.out hoa;have HAR:Hid (∀w3,Below (wr.alloc (.cells #[.int .i64 a1,.int .i64 a2,.int .i64 a3] 134)).heap.size (wr.alloc (.cells #[.int .i64 a1,.int .i64 a2,.int .i64 a3] 134)) w3→PvS w0 w3 ⟨pb,mb,tb,qb,gb,kk,some ⟨b,0,none⟩,ca,cg⟩ us g s n A (F.take i++ats.drop i) parts∧FrX [tb] w w3):=fun w3 h3=>⟨HSa.out.below h3,(HF.out.trans (FrX.of_below hBl)).trans (FrX.of_below h3)⟩
     clear hAi hd hftA hctA;generalize btr B (a1,a2,a3)=ai at *;go_wp2_with (first|(go_at_call 179;refine Calls.mono CT.out ?_;rintro e w3 ⟨rfl,hb3⟩;obtain⟨hS3,hF3⟩:=HAR.out w3 hb3;obtain⟨y0,y1,y2,y3,y4,y5,y6⟩:=hS3.cells;have y7:=hS3.tr.free i;have y8:=hS3.tcell hlt;have HS3:Hid _:=hS3;have HF3:Hid _:=hF3;dsimp only at y0 y1 y2 y3 y4 y5 y6 y7 y8;clear hS3 hF3))
     go_roundw
     case rel=>exact⟨i+1,by go_num,by omega,HSET.out _ HS3.out _ HV.out,HF3.out.trans (zap _ _ _ _)⟩
     case measure=>simp[intOf];omega
  ·have hie:i=us.length:=by omega
   subst hie;have hlt':¬((us.length:Nat):Int)<(us.length:Int):=by omega
   have e1:F.take us.length++ats.drop us.length=F:=by rw[←HFL.out,List.take_length,List.drop_eq_nil_of_le (by rw[HP.out.tl,HFL.out];exact Nat.le_refl _),List.append_nil]
   rw[e1] at hS;have HS:Hid _:=hS;have HF:Hid _:=hF;obtain⟨d0,d1,d2,d3,d4,d5,d6⟩:=hS.cells;dsimp only at d0 d1 d2 d3 d4 d5 d6;have CT:Hid (Calls Tryz.prog 180 #[.slice (some ⟨gb,0,none⟩) g.length cg,.slice (some ⟨qb,0,none⟩) g.length g.length,.slice (some ⟨tb,0,none⟩) us.length us.length] wr.drew fun e w'=>e=.returned (.tuple #[])∧Blk w' qb 159 ((gtr F 0 g).map tv8)∧FrX [qb] wr.drew w'):=callsIn_wide.1 (zh7 wr.drew gb qb tb cg us g F parts hgl HGW.out hS.gol n10 (fun e=>n6 e.symm) hS.pr hS.pl hS.tr hS.tl HT3.out);have HPL:Hid (pb<wr.drew.heap.size):=hS.box.lt;clear hS hF e1;go_wp2_with fail;go_region_held3 (fun X=>X.cell? ⟨pb,2,none⟩=some (.slice (some ⟨gb,0,none⟩) g.length cg)∧X.cell? ⟨pb,5,none⟩=some (.slice (some ⟨tb,0,none⟩) us.length us.length)∧X.cell? ⟨pb,6,none⟩=some (.slice (some ⟨qb,0,none⟩) g.length g.length)) (first|exact⟨d2,d5,d6⟩|exact⟨y2,y5,y6⟩) (first|(go_at_call 180;refine Calls.mono CT.out ?_;rintro e w4 ⟨rfl,hB4,hF4⟩;have y2:w4.cell? ⟨pb,2,none⟩=some (.slice (some ⟨gb,0,none⟩) g.length cg):=(hF4.cell 2 HPL.out (by simp[n3])).trans d2;have y5:w4.cell? ⟨pb,5,none⟩=some (.slice (some ⟨tb,0,none⟩) us.length us.length):=(hF4.cell 5 HPL.out (by simp[n3])).trans d5;have y6:w4.cell? ⟨pb,6,none⟩=some (.slice (some ⟨qb,0,none⟩) g.length g.length):=(hF4.cell 6 HPL.out (by simp[n3])).trans d6));go_wp2_with fail
   go_end0
   have hF5:FrX [qb] wr w4:=(FrX.of_below (Below.refl _ _).drew).trans hF4;exact⟨rfl,HS.out.withP hF5 hB4 (zeA _ _ _),(HF.out.sub (M':=PD.M _) (by intro m hm;rw[List.mem_singleton.1 hm];exact PD.mt _)).trans (hF5.sub (by intro m hm;rw[List.mem_singleton.1 hm];exact PD.mq _))⟩
end Go.Proofs.YtkinoehmcfhgbaaGreatDoor.Vl
