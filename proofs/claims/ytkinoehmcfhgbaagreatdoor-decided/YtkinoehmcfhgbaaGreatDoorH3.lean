/- A part of the proof. -/
import Derived.Test.YtkinoehmcfhgbaaGreatDoorV22
set_option linter.unusedVariables false
set_option linter.unusedSimpArgs false
set_option maxRecDepth 100000
set_option maxHeartbeats 2000000
namespace Go.Proofs.YtkinoehmcfhgbaaGreatDoor.Vl
open Go.RowKit
structure PD where
 pb:Nat
 mb:Nat
 tb:Nat
 qb:Nat
 gb:Nat
 kb:Nat
 qa:Option Addr
 ca:Nat
 cg:Nat
def PD.M (D:PD):List Nat:=[D.pb,D.mb,D.tb,D.qb]
def PD.cs (D:PD) (us:List Atm) (g:List Pt) (s:Nat):List Value:=[.pointer (some ⟨D.kb,0,none⟩),.slice D.qa us.length D.ca,.slice (some ⟨D.gb,0,none⟩) g.length D.cg,.int .i64 (s:Int),.map (some D.mb),.slice (some ⟨D.tb,0,none⟩) us.length us.length,.slice (some ⟨D.qb,0,none⟩) g.length g.length]
structure PvS (w0 w:World) (D:PD) (us:List Atm) (g:List Pt) (s n:Nat) (A:Nat→Int) (ats parts:List Int):Prop where
 h0:Below w0.heap.size w0 w
 hM:∀m∈D.M,w0.heap.size≤m
 hd:D.M.Nodup
 box:Blk w D.pb 180 (D.cs us g s)
 atm:Atms w (.slice D.qa us.length D.ca) us
 gol:Gol w D.gb g
 gne:D.gb∉D.M
 gcap:g.length≤D.cg
 am:NM w D.mb n A
 tr:Blk w D.tb 159 (ats.map tv8)
 tl:ats.length=us.length
 pr:Blk w D.qb 159 (parts.map tv8)
 pl:parts.length=g.length
theorem PvS.below {w0 w w':World} {D:PD} {us:List Atm} {g:List Pt} {s n:Nat} {A:Nat→Int} {ats parts:List Int} (h:PvS w0 w D us g s n A ats parts) (hb:Below w.heap.size w w'):PvS w0 w' D us g s n A ats parts :=
 ⟨h.h0.trans (hb.mono h.h0.size),h.hM,h.hd,h.box.below hb,h.atm.below hb,h.gol.below hb,h.gne,h.gcap,h.am.fr (M:=[]) (FrX.of_below hb) List.not_mem_nil,h.tr.below hb,h.tl,h.pr.below hb,h.pl⟩
theorem PvS.noi {w0 w:World} {D:PD} {us:List Atm} {g:List Pt} {s n:Nat} {A:Nat→Int} {ats parts:List Int} (h:PvS w0 w D us g s n A ats parts):NoI w D.M:=by
 intro m hm x e;unfold PD.M at hm;simp only[List.mem_cons,List.not_mem_nil,or_false] at hm;rcases hm with rfl|rfl|rfl|rfl
 ·rw[h.box.cell?] at e;cases e
 ·rw[h.am.noi] at e;cases e
 ·rw[h.tr.cell?,List.getElem?_map] at e;obtain⟨t,_,e⟩:=Option.map_eq_some_iff.1 e;cases e
 ·rw[h.pr.cell?,List.getElem?_map] at e;obtain⟨t,_,e⟩:=Option.map_eq_some_iff.1 e;cases e
theorem PvS.ne {w0 w:World} {D:PD} {us:List Atm} {g:List Pt} {s n:Nat} {A:Nat→Int} {ats parts:List Int} (h:PvS w0 w D us g s n A ats parts):D.pb≠D.mb∧D.pb≠D.tb∧D.pb≠D.qb∧D.mb≠D.tb∧D.mb≠D.qb∧D.tb≠D.qb∧D.gb≠D.pb∧D.gb≠D.mb∧D.gb≠D.tb∧D.gb≠D.qb:=by
 have hd:=h.hd;have hg:=h.gne;unfold PD.M at hd hg;simp only[List.nodup_cons,List.mem_cons,List.not_mem_nil,or_false,not_or,List.nodup_nil,and_true,not_false_eq_true] at hd hg;exact⟨hd.1.1,hd.1.2.1,hd.1.2.2,hd.2.1.1,hd.2.1.2,hd.2.2,hg.1,hg.2.1,hg.2.2.1,hg.2.2.2⟩
theorem PD.mp (D:PD):D.pb∈D.M:=by simp[PD.M]
theorem PD.mm (D:PD):D.mb∈D.M:=by simp[PD.M]
theorem PD.mt (D:PD):D.tb∈D.M:=by simp[PD.M]
theorem PD.mq (D:PD):D.qb∈D.M:=by simp[PD.M]
theorem zaq (w:World) (b o:Nat) (v:Value):FrX [b] w (w.setCell ⟨b,o,none⟩ v):=FrX.of_set w b o v (by simp)
theorem NoI.sub {w:World} {M M':List Nat} (h:NoI w M) (hs:∀m∈M',m∈M):NoI w M':=fun m hm=>h m (hs m hm)
theorem FrX.drew {M:List Nat} {w w':World} (h:FrX M w w'):FrX M w w'.drew:=h.trans (FrX.of_below (Below.refl _ _).drew)
theorem PvS.setT {w0 w:World} {D:PD} {us:List Atm} {g:List Pt} {s n:Nat} {A:Nat→Int} {ats parts:List Int} (h:PvS w0 w D us g s n A ats parts) (i:Nat) (t:Int):PvS w0 (w.setCell ⟨D.tb,i,none⟩ (.int .i8 t)) D us g s n A (ats.set i t) parts:=by
 have hf:=zaq w D.tb i (.int .i8 t);have hf':=hf.sub (M':=D.M) (by intro m hm;rw[List.mem_singleton.1 hm];exact D.mt);obtain⟨n1,n2,n3,n4,n5,n6,n7,n8,n9,n10⟩:=h.ne;refine⟨hf'.below h.h0 h.hM,h.hM,h.hd,h.box.other _ _ n2,h.atm.fr hf' h.noi,h.gol.fr hf (by simp[n9]),h.gne,h.gcap,h.am.fr hf (by simp[n4]),?_,by rw[List.length_set];exact h.tl,h.pr.other _ _ (fun e=>n6 e.symm),h.pl⟩;have:=h.tr.set i (.int .i8 t);rw[List.map_set];exact this
theorem PvS.setS {w0 w:World} {D:PD} {us:List Atm} {g:List Pt} {s n:Nat} {A:Nat→Int} {ats parts:List Int} (h:PvS w0 w D us g s n A ats parts) (s':Nat):PvS w0 (w.setCell ⟨D.pb,3,none⟩ (.int .i64 (s':Int))) D us g s' n A ats parts:=by
 have hf:=zaq w D.pb 3 (.int .i64 (s':Int));have hf':=hf.sub (M':=D.M) (by intro m hm;rw[List.mem_singleton.1 hm];exact D.mp);obtain⟨n1,n2,n3,n4,n5,n6,n7,n8,n9,n10⟩:=h.ne;exact⟨hf'.below h.h0 h.hM,h.hM,h.hd,h.box.set 3 _,h.atm.fr hf' h.noi,h.gol.fr hf (by simp[n7]),h.gne,h.gcap,h.am.fr hf (by simp[Ne.symm n1]),h.tr.other _ _ (fun e=>n2 e.symm),h.tl,h.pr.other _ _ (fun e=>n3 e.symm),h.pl⟩
theorem PvS.setM {w0 w w':World} {D:PD} {us:List Atm} {g:List Pt} {s n n':Nat} {A A':Nat→Int} {ats parts:List Int} (h:PvS w0 w D us g s n A ats parts) (hg:w.grownBy w' (some D.mb)) (ha:NM w' D.mb n' A'):PvS w0 w' D us g s n' A' ats parts:=by
 have hf:FrX [D.mb] w w':=FrX.of_grown hg (by simp);have hf':=hf.sub (M':=D.M) (by intro m hm;rw[List.mem_singleton.1 hm];exact D.mm);obtain⟨n1,n2,n3,n4,n5,n6,n7,n8,n9,n10⟩:=h.ne;exact⟨hf'.below h.h0 h.hM,h.hM,h.hd,h.box.fr hf (by simp[n1]),h.atm.fr hf' h.noi,h.gol.fr hf (by simp[n8]),h.gne,h.gcap,ha,h.tr.fr hf (by simp[Ne.symm n4]),h.tl,h.pr.fr hf (by simp[Ne.symm n5]),h.pl⟩
theorem PvS.cells {w0 w:World} {D:PD} {us:List Atm} {g:List Pt} {s n:Nat} {A:Nat→Int} {ats parts:List Int} (h:PvS w0 w D us g s n A ats parts) :
 w.cell? ⟨D.pb,0,none⟩=some (.pointer (some ⟨D.kb,0,none⟩))∧w.cell? ⟨D.pb,1,none⟩=some (.slice D.qa us.length D.ca)∧w.cell? ⟨D.pb,2,none⟩=some (.slice (some ⟨D.gb,0,none⟩) g.length D.cg)∧w.cell? ⟨D.pb,3,none⟩=some (.int .i64 (s:Int))∧w.cell? ⟨D.pb,4,none⟩=some (.map (some D.mb))∧w.cell? ⟨D.pb,5,none⟩=some (.slice (some ⟨D.tb,0,none⟩) us.length us.length)∧w.cell? ⟨D.pb,6,none⟩=some (.slice (some ⟨D.qb,0,none⟩) g.length g.length) :=
 ⟨h.box.cell rfl,h.box.cell rfl,h.box.cell rfl,h.box.cell rfl,h.box.cell rfl,h.box.cell rfl,h.box.cell rfl⟩
theorem PvS.tcell {w0 w:World} {D:PD} {us:List Atm} {g:List Pt} {s n:Nat} {A:Nat→Int} {ats parts:List Int} (h:PvS w0 w D us g s n A ats parts) {i:Nat} (hi:i<us.length):w.cell? ⟨D.tb,i,none⟩=some (.int .i8 (ats.getD i 0)):=by
 refine h.tr.cell ?_;rw[List.getElem?_map,List.getD_eq_getElem?_getD,List.getElem?_eq_getElem (by rw[h.tl];exact hi)]
 rfl
theorem PvS.pcell {w0 w:World} {D:PD} {us:List Atm} {g:List Pt} {s n:Nat} {A:Nat→Int} {ats parts:List Int} (h:PvS w0 w D us g s n A ats parts) {i:Nat} (hi:i<g.length):w.cell? ⟨D.qb,i,none⟩=some (.int .i8 (parts.getD i 0)):=by
 refine h.pr.cell ?_;rw[List.getElem?_map,List.getD_eq_getElem?_getD,List.getElem?_eq_getElem (by rw[h.pl];exact hi)]
 rfl
open Go.RowKit Go.Shelf
attribute [local go_sem] Oper.semAt_some
def encG (x:Nat×Pt):Array Value:=#[.int .i64 (x.1:Int),.agg #[.int .i64 x.2.1,.int .i64 x.2.2.1,.int .i64 x.2.2.2.1,.int .i8 x.2.2.2.2]]
def cameG (g:List Pt) (k:Nat):List (Nat×Pt):=((List.range (g.length-k)).map fun i=>(g.length-1-i,g[g.length-1-i]?.getD (0,0,0,0)))
theorem zcQ (g:List Pt):cameG g g.length=[]:=by simp[cameG]
theorem zbw (g:List Pt) (k:Nat) (hk:k<g.length) (y:Pt) (hy:g[k]?=some y):cameG g k=cameG g (k+1)++[(k,y)]:=by
 unfold cameG;rw[show g.length-k=(g.length-(k+1))+1 by omega,List.range_succ,List.map_append]
 congr 1
 simp only[List.map_cons,List.map_nil];have e:g.length-1-(g.length-(k+1))=k:=by omega
 rw[e,hy];rfl
theorem zan (g:List Pt) (k:Nat):(cameG g k).length=g.length-k:=by simp[cameG]
def NxG (g:List Pt) (pre:List (Nat×Pt)) (x:Nat×Pt):Prop:=pre=cameG g (x.1+1)∧x.1<g.length∧g[x.1]?=some x.2
def KpG (gb Bs:Nat) (W W':World):Prop:=(∀o,W'.cell? ⟨gb,o,none⟩=W.cell? ⟨gb,o,none⟩)∧W'.cell? ⟨Bs,0,none⟩=W.cell? ⟨Bs,0,none⟩
theorem KpG.refl (gb Bs:Nat) (W:World):KpG gb Bs W W:=⟨fun _=>rfl,rfl⟩
theorem KpG.trans {gb Bs:Nat} {A B C:World} (h:KpG gb Bs A B) (k:KpG gb Bs B C):KpG gb Bs A C:=⟨fun o=>(k.1 o).trans (h.1 o),k.2.trans h.2⟩
theorem zho (gb Bs:Nat) (W:World) (l:Nat) (o':Obj) (h1:gb≠l) (h2:Bs≠l):KpG gb Bs W (W.putObj l o') :=
 ⟨fun j=>World.cell?_of_block (World.putObj_heap_other h1),World.cell?_of_block (World.putObj_heap_other h2)⟩
theorem zhp (n:Nat) (hn:1≤n) (l Bs gb cap:Nat) (g:List Pt) (hlen:g.length≤8000) (J:List (Nat×Pt)→World→Prop)
 (hY:∀pre x W,J pre W→NxG g pre x→YieldAt Fence.wide (n-1) Tryz.prog l (encG x) W fun e W'=>e=.returned (.bool true)∧J (pre++[x]) W'∧KpG gb Bs W W')
 (W:World) (hB0:W.cell? ⟨Bs,0,none⟩=some (.slice (some ⟨gb,0,none⟩) g.length cap)) (hc:Gol W gb g) (h0:J [] W) :
 CallsIn Fence.wide n Tryz.prog 264 #[.func (.yield l) #[] #[],.pointer (some ⟨Bs,0,none⟩)] W fun e W'=>(∃v,e=.returned v)∧∃xs,xs=cameG g 0∧J xs W':=by
 have HC:Hid _:=hc;have HBS:Hid _:=hB0;clear hc;refine callsIn_of_wp Tryz.func264 rfl trivial ?_ rfl;simp only[Tryz.ntmps264,List.size_toArray,List.length_cons,List.length_nil,Nat.reduceAdd,Nat.reduceSub,Array.replicate_succ,Array.replicate_zero,List.push_toArray,List.append_toArray,List.nil_append,List.cons_append]
 gi_wp2
 gi_loopw [3] (fun i wr=>∃k:Nat,k≤g.length∧i=.int .i64 ((k:Int)-1)∧J (cameG g k) wr∧KpG gb Bs W wr)
  (fun i _=>((intOf i)+1).toNat)
 case atStart=>exact⟨g.length,Nat.le_refl _,rfl,by rw[zcQ];exact h0,KpG.refl _ _ _⟩
 case round =>
  obtain⟨k,hk,rfl,hJs,hnx⟩:=hrel;rcases Nat.eq_zero_or_pos k with rfl|hpos
  ·gi_wp2
   go_end0
   exact⟨⟨_,rfl⟩,_,rfl,hJs⟩
  ·obtain⟨k,rfl⟩:∃k',k=k'+1:=⟨k-1,by omega⟩
   obtain⟨⟨y1,y2,y3,y4⟩,hy⟩:∃y,g[k]?=some y:=⟨_,List.getElem?_eq_getElem (by omega)⟩
   obtain⟨fn,tmps,assign,body,hyy,hR⟩:=hY _ (k,(y1,y2,y3,y4)) wr hJs ⟨rfl,by dsimp only;omega,hy⟩;unfold encG at hyy;dsimp only at hyy;obtain⟨z0,z1,z2,z3⟩:=HC.out.2 k _ hy;have c0:=(hnx.1 (k*4)).trans z0;have c1:=(hnx.1 (k*4+1)).trans z1;have c2:=(hnx.1 (k*4+2)).trans z2;have c3:=(hnx.1 (k*4+3)).trans z3;have hB1:=hnx.2.trans HBS.out;have hkI:((k+1:Nat):Int)-1=(k:Int):=by omega
   have hkl:(k:Int)<(g.length:Int):=by omega
   have HS:Hid (cameG g k=cameG g (k+1)++[(k,(y1,y2,y3,y4))]):=zbw g k (by omega) _ hy;clear z0 z1 z2 z3 hy hB0
   gi_wp2
   refine hR.mono ?_;rintro e W3 ⟨rfl,hJ3,hk3⟩
   gi_wp2
   go_roundw
   case rel=>exact⟨k,by omega,by go_num,by rw[HS.out];exact hJ3,hnx.trans hk3⟩
   case measure=>simp[intOf]
theorem zf9 (n:Nat) (a:Option Addr) (len cap:Nat) (w:World) :
 CallsIn Fence.wide n Tryz.prog 237 #[.slice a len cap] w fun e w'=>e=.returned (.func (.func 264) #[] #[.pointer (some ⟨w.heap.size,0,none⟩)])∧w'=w.alloc (.cells #[.slice a len cap] 177):=by
 refine callsIn_of_wp Tryz.func237 rfl trivial ?_ rfl;simp only[Tryz.ntmps237,List.size_toArray,List.length_cons,List.length_nil,Nat.reduceAdd,Nat.reduceSub,Array.replicate_succ,Array.replicate_zero,List.push_toArray,List.append_toArray,List.nil_append,List.cons_append]
 gi_wp2
 go_ret;exact⟨rfl,rfl⟩
theorem zdO (n:Nat) (hn:1≤n) (Bs gb cap:Nat) (g:List Pt) (hlen:g.length≤8000) (w:World) (hBs:Bs<w.heap.size) (hc:w.cell? ⟨Bs,0,none⟩=some (.slice (some ⟨gb,0,none⟩) g.length cap)) (hr:Gol w gb g) :
 Runs n Tryz.prog 264 #[.pointer (some ⟨Bs,0,none⟩)] encG (KpG gb Bs) (NxG g) (fun xs=>xs=cameG g 0) w:=fun l J W hW hY h0 =>
 zhp n hn l Bs gb cap g hlen J hY W ((hW.cell (p:=⟨Bs,0,none⟩) hBs).trans hc) (hr.below hW) h0
end Go.Proofs.YtkinoehmcfhgbaaGreatDoor.Vl
