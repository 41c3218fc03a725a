/- A part of the proof. -/
import Derived.Test.YtkinoehmcfhgbaaGreatDoorY5
import Derived.RangeFuncNested
import Derived.RangeFuncBound
import Derived.Shelf.RegionOpen
import Derived.OwnWalkIn
import Derived.LoopNIn
import Derived.LoopIn
set_option linter.unusedVariables false
set_option linter.unusedSimpArgs false
set_option maxRecDepth 100000
set_option maxHeartbeats 4000000
namespace Go.Proofs.YtkinoehmcfhgbaaGreatDoor.Vl
open Go.RowKit
theorem zki (w:World) (base:Nat) (hb:base≤w.heap.size) (v:Value) (t:TypeId):(w.alloc (.cells #[v] t)).ownsRow base t 1 (.slice (some ⟨w.heap.size,0,none⟩) 1 1) 1 [v] :=
 ⟨rfl,Or.inr ⟨w.heap.size,1,#[v],rfl,hb,heap_alloc_new w _,Nat.le_refl _,by decide,by simp,rfl⟩⟩
theorem zbF {w:World} {base n:Nat} {e:TypeId} {v:Value} {xs:List Value} (h:w.ownsRow base e 1 v n xs) (hn:0<n):∃b cap,v=.slice (some ⟨b,0,none⟩) n cap∧base≤b∧b<w.heap.size∧n≤cap∧cap≤maxLen∧∀j u,xs[j]?=some u→w.cell? ⟨b,j,none⟩=some u:=by
 rcases h.2 with⟨h1,h2⟩|⟨b,cap,cur,hv,hb,hh,h3,h4,h5,h6⟩
 ·omega
 ·refine⟨b,cap,hv,hb,(Array.getElem?_eq_some_iff.1 hh).1,h3,h4,fun j u hu=>?_⟩;rw[←h6,List.getElem?_take] at hu;split at hu
  ·have:cur[j]?=some u:=by simpa using hu
   simp[World.cell?,hh,this]
  ·cases hu
theorem zgG (n:Nat) (l:List Nat):Lib.join (((n::l).map fun(x:Nat)=>Lib.itoa (x:Int))) [44]=Lib.itoa (n:Int)++cyl l:=by
 rw[List.map_cons,Lib.join_cons]
 congr 1
 unfold Lib.joinTail cyl
 induction l with
 | nil=>rfl
 | cons m r ih=>simp only[List.map_cons,List.flatten_cons,List.flatMap_cons,ih];rfl
theorem zif:∀l:List Nat,(∀x∈l,x≤4000)→(cyl l).length≤8*l.length
 | [],_=>Nat.le_refl _
 | m::r,h=>by
  have ih:=zif r (fun x hx=>h x (List.mem_cons_of_mem _ hx));have h2:=zaX (n:=(m:Int)) (by omega) (by have:=h m List.mem_cons_self;omega);have e:cyl (m::r)=44::(Lib.itoa (m:Int)++cyl r):=by simp[cyl]
  rw[e];simp only[List.length_cons,List.length_append];omega
def wsV (l:List Nat):List Value:=l.map fun(x:Nat)=>.string ⟨(Lib.itoa (x:Int)).toArray⟩
attribute [local go_sem high] zc0
theorem Tryz.infoInt2:(Tryz.prog.info? 3).map (fun i=>(i.zero,i.size,i.bytes))=some (some (.int .i64 0),1,8):=by kernel_rfl
theorem Tryz.infoStr2:(Tryz.prog.info? 9).map (fun i=>(i.zero,i.size,i.bytes))=some (some (.string ⟨#[]⟩),1,16):=by kernel_rfl
theorem zen (n:Nat) (l:List Nat) (v:Value) (w:World) (hv:IntsR w v (l.map fun(x:Nat)=>(x:Int))) (hn:n≤4000) (hl:l.length≤4000) (hx:∀x∈l,x≤4000) (hg:Gt w) :
 Calls Tryz.prog 187 #[.int .i64 (n:Int),v] w fun e w'=>e=.returned (.string ⟨(cyt n l).toArray⟩)∧Below w.heap.size w w':=by
 obtain⟨i0,hi,hz0,hz1,hz2⟩:=info_parts Tryz.infoInt2;obtain⟨j0,hj,hy0,hy1,hy2⟩:=info_parts Tryz.infoStr2;have CI:Hid (∀(x:Nat) X,x≤4000→Below w.heap.size w X→Calls Tryz.prog 144 #[.int .i64 (x:Int)] X fun e w'=>e=.returned (.string ⟨(Lib.itoa (x:Int)).toArray⟩)∧Below X.heap.size X w'):=fun x X hx hX=>zdl x (by omega) (by omega) X (hg.on hX)
 have HNL:Hid (∀x∈n::l,x≤4000):=fun x hx'=>by rcases List.mem_cons.1 hx' with rfl|h;exact hn;exact hx x h
 have HE:Hid (cyt n l=33::(Lib.join ((n::l).map fun(x:Nat)=>Lib.itoa (x:Int)) [44]++[59])):=by show _=_;rw[zgJ,zgG];simp
 have HJL:Hid ((Lib.join ((n::l).map fun(x:Nat)=>Lib.itoa (x:Int)) [44]).length≤40000):=by
  show _≤_
  rw[zgG,List.length_append];have h1:=zif l hx;have h2:=zaX (n:=(n:Int)) (by omega) (by omega);omega
 have hown1:=zki w w.heap.size (Nat.le_refl _) (.int .i64 (n:Int)) 3;have hba:=zaa w (.cells #[.int .i64 (n:Int)] 3);clear hg hx;rcases hv with⟨rfl,hl0⟩|⟨b,xc,rfl,q2,q3,q4,q5⟩
 ·have hl0':l=[]:=List.map_eq_nil_iff.1 hl0;subst hl0';clear hl0;have HC:Hid (∀j (x:Nat),[n][j]?=some x→(w.alloc (.cells #[.int .i64 (n:Int)] 3)).cell? ⟨w.heap.size,j,none⟩=some (.int .i64 (x:Int))):=fun j x hx=>by
   obtain⟨_,_,hv,_,_,_,_,h7⟩:=zbF hown1 (by decide);cases hv
   exact h7 j _ (by cases j with
    | zero=>simp at hx;subst hx;rfl
    | succ j=>simp at hx)
  have HIB:Hid (w.heap.size<(w.alloc (.cells #[.int .i64 (n:Int)] 3)).heap.size):=by show _<_;simp
  have HB2:Hid _:=hba;clear hba;go_enter Tryz.func187,Tryz.ntmps187;go_wp2_with (at_builtin;refine wpList_append_own_none rfl _ _ 167 rfl w.heap.size 3 i0 1 Tryz.underlying167 hi _ _ _ rfl hown1 rfl ?_);clear hown1;generalize w.alloc (.cells #[.int .i64 (n:Int)] 3)=W2 at *;obtain⟨ib,hib⟩:∃ib,w.heap.size=ib:=⟨_,rfl⟩
  rw[hib] at HC HIB;simp only[hib];go_wp2_with fail
  go_loopw [5,7,13] (fun s5 s7 s13 wr=>∃k:Nat,s13=.int .i64 (k:Int)∧k≤1∧wr.ownsRow W2.heap.size 9 1 s5 k (wsV (([n]).take k))∧Below W2.heap.size W2 wr) (fun _ _ s13 _=>1-(intOf s13).toNat)
  case atStart=>exact⟨0,rfl,Nat.zero_le _,World.ownsRow_nil _ _ _ _,Below.refl _ _⟩
  case round =>
   obtain⟨k,rfl,hk,hown,hbr⟩:=hrel;have HB2r:Hid (Below w.heap.size w wr):=HB2.out.trans (hbr.mono HB2.out.size);by_cases hlt:k<1
   ·obtain⟨x,hx⟩:∃x,([n])[k]?=some x:=⟨_,List.getElem?_eq_getElem (by simp only[List.length_cons,List.length_nil];omega)⟩
    have hc:=(hbr.cell (p:=⟨ib,k,none⟩) HIB.out).trans (HC.out k x hx);have hlt':(k:Int)<1:=by omega
    have hx4:=HNL.out x (List.mem_of_getElem? hx);have C1:Hid _:=CI.out x wr hx4 HB2r.out;have HT:Hid (wsV (([n]).take (k+1))=wsV (([n]).take k)++[.string ⟨(Lib.itoa (x:Int)).toArray⟩]):=by
     show _=_
     unfold wsV;rw[List.take_add_one,hx];simp
    have HO:Hid _:=hown;have HBR:Hid _:=hbr;have hsw:=hbr.size;clear hown hbr hx;go_wp2_with (first
     | (go_at_call 144;refine Calls.mono C1.out ?_;rintro e w3 ⟨rfl,hb3⟩)
     | (at_builtin;refine wpList_append_own _ rfl _ _ 22 rfl W2.heap.size 9 j0 (.string ⟨#[]⟩) 1 16 Tryz.underlying22 hj hy0 hy1 hy2 rfl (by decide) _ _ _ rfl ((zad HO.out hb3).alloc _) ⟨w3.heap.size,0,none⟩ 1 1 [.string ⟨(Lib.itoa (x:Int)).toArray⟩] rfl rfl (zbl _ _ rfl _ _) (fun u hu=>by simp at hu;subst hu;rfl) (by unfold maxLen;omega) (by omega) (by have:=hb3.size;simp;omega) ?_))
    intro v' w4 hown4 hgrow _;have hbb:Below W2.heap.size W2 w3:=HBR.out.trans (hb3.mono hsw);have hb4:=(hbb.alloc hbb.size _).grown hgrow (by have:=hbb.size;simp;omega) (zaf HO.out);have HO4:Hid _:=hown4;have HB4:Hid _:=hb4;clear hgrow hown4 hb4;go_wp2_with fail
    go_roundw
    case rel=>exact⟨k+1,by go_num,by omega,by rw[HT.out];exact HO4.out,HB4.out⟩
    case measure=>simp[intOf];omega
   ·have hke:k=1:=by omega
    subst hke;have hlt':¬(((1:Nat):Int))<1:=by omega
    obtain⟨bk,cap,rfl,g1,g2,g3,g4,g5⟩:=zbF hown (by omega);have hall:([n]).take (1)=[n]:=List.take_of_length_le (by simp only[List.length_cons,List.length_nil];omega);rw[hall] at g5;have hlen:(([n]).map fun(x:Nat)=>(⟨(Lib.itoa (x:Int)).toArray⟩:ByteArray)).length=1:=by simp<;>omega
    have hmm:(([n]).map fun(x:Nat)=>(⟨(Lib.itoa (x:Int)).toArray⟩:ByteArray)).map (·.data.toList)=([n]).map fun(x:Nat)=>Lib.itoa (x:Int):=by rw[List.map_map];rfl
    have CJ:Hid (Calls Tryz.prog 239 #[.slice (some ⟨bk,0,none⟩) (1) cap,.string ⟨#[44]⟩] wr fun e w'=>e=.returned (.string ⟨(Lib.join (([n]).map fun(x:Nat)=>Lib.itoa (x:Int)) [44]).toArray⟩)∧Below wr.heap.size wr w'):=by
     have J:=Any.strings_Join Tryz.lays156 Tryz.Builder_Extra_156 bk 0 cap (([n]).map fun(x:Nat)=>(⟨(Lib.itoa (x:Int)).toArray⟩:ByteArray)) ⟨#[44]⟩ wr (fun j x hx=>by
      rw[Nat.zero_add];obtain⟨y,hy1',hy2'⟩:=Option.map_eq_some_iff.1 (by rw[List.getElem?_map] at hx;exact hx);exact g5 j _ (by unfold wsV;rw[List.getElem?_map,hy1',←hy2'];rfl)) g2 (by rw[hlen];unfold maxLen at g4;omega) (by rw[hlen];exact g3) (by rw[hmm];exact Nat.le_trans HJL.out (by decide))
     rw[hlen,hmm] at J;exact J
    have HF:Hid (Below w.heap.size w wr):=HB2r.out;have hjl:=HJL.out;clear g5 hlen hmm hall HJL hown;generalize Lib.join (([n]).map fun(x:Nat)=>Lib.itoa (x:Int)) [44]=J at *;have q1:Sh ⟨#[33]⟩:=by unfold Sh;show 1≤100000000;omega
    have q2:Sh ⟨J.toArray⟩:=zk3 (by omega);have hDz:(⟨J.toArray⟩:ByteArray).size=J.length:=by simp[ByteArray.size]
    have q3:Sh ((⟨#[33]⟩:ByteArray)++⟨J.toArray⟩):=za1 (by rw[hDz];show 1+J.length≤100000000;omega);have q4:Sh ⟨#[59]⟩:=by unfold Sh;show 1≤100000000;omega
    clear hDz;go_wp2_with (go_at_call 239;refine Calls.mono CJ.out ?_;rintro e w5 ⟨rfl,hb5⟩);go_ret;refine⟨?_,HF.out.trans (hb5.mono HF.out.size)⟩;have a1:(⟨#[33]⟩:ByteArray)++⟨J.toArray⟩=⟨([33]++J).toArray⟩:=zaq [33] J;have a2:(⟨([33]++J).toArray⟩:ByteArray)++⟨#[59]⟩=⟨(([33]++J)++[59]).toArray⟩:=zaq ([33]++J) [59];rw[HE.out,a1,a2];simp
 ·rw[List.length_map] at q2;have hnews:∀j u,(l.map fun(x:Nat)=>iv (x:Int))[j]?=some u→(w.alloc (.cells #[.int .i64 (n:Int)] 3)).cell? ((⟨b,0,none⟩:Addr).add j)=some u:=fun j u hu=>by
   rw[Addr.add_mid];obtain⟨x,hx1,hx2⟩:=Option.map_eq_some_iff.1 (by rw[List.getElem?_map] at hu;exact hu);rw[←hx2,Nat.zero_add];exact(hba.cell (p:=⟨b,j,none⟩) q4).trans (q5 j x (by rw[List.getElem?_map,hx1];rfl))
  simp only[List.length_map];go_enter Tryz.func187,Tryz.ntmps187;go_wp2_with (at_builtin;refine wpList_append_own _ rfl _ _ 167 rfl w.heap.size 3 i0 (.int .i64 0) 1 8 Tryz.underlying167 hi hz0 hz1 hz2 rfl (by decide) _ _ _ rfl hown1 ⟨b,0,none⟩ l.length xc (l.map fun(x:Nat)=>iv (x:Int)) rfl (by rw[List.length_map,Nat.mul_one]) hnews (fun u hu=>by obtain⟨x,_,rfl⟩:=List.mem_map.1 hu;rfl) (by unfold maxLen;omega) (by omega) (by simp) ?_);intro v2 W2 hown2 hgrow _;have HB2:Hid (Below w.heap.size w W2):=hba.grown hgrow (by simp) (zaf hown1);obtain⟨ib,ic,rfl,g1,g2,g3,g4,g5⟩:=zbF hown2 (by omega);have HC:Hid (∀j (x:Nat),(n::l)[j]?=some x→W2.cell? ⟨ib,j,none⟩=some (.int .i64 (x:Int))):=fun j x hx=>g5 j _ (by
   cases j with
   | zero=>simp at hx;subst hx;rfl
   | succ j=>simp at hx;simp[hx,iv])
  have HIB:Hid (ib<W2.heap.size):=g2;clear hnews hown1 hown2 hgrow g5 q5 hba g2;go_wp2_with fail
  go_loopw [5,7,13] (fun s5 s7 s13 wr=>∃k:Nat,s13=.int .i64 (k:Int)∧k≤1+l.length∧wr.ownsRow W2.heap.size 9 1 s5 k (wsV ((n::l).take k))∧Below W2.heap.size W2 wr) (fun _ _ s13 _=>1+l.length-(intOf s13).toNat)
  case atStart=>exact⟨0,rfl,Nat.zero_le _,World.ownsRow_nil _ _ _ _,Below.refl _ _⟩
  case round =>
   obtain⟨k,rfl,hk,hown,hbr⟩:=hrel;have HB2r:Hid (Below w.heap.size w wr):=HB2.out.trans (hbr.mono HB2.out.size);by_cases hlt:k<1+l.length
   ·obtain⟨x,hx⟩:∃x,(n::l)[k]?=some x:=⟨_,List.getElem?_eq_getElem (by simp only[List.length_cons,List.length_nil];omega)⟩
    have hc:=(hbr.cell (p:=⟨ib,k,none⟩) HIB.out).trans (HC.out k x hx);have hlt':(k:Int)<(1:Int)+(l.length:Int):=by omega
    have hx4:=HNL.out x (List.mem_of_getElem? hx);have C1:Hid _:=CI.out x wr hx4 HB2r.out;have HT:Hid (wsV ((n::l).take (k+1))=wsV ((n::l).take k)++[.string ⟨(Lib.itoa (x:Int)).toArray⟩]):=by
     show _=_
     unfold wsV;rw[List.take_add_one,hx];simp
    have HO:Hid _:=hown;have HBR:Hid _:=hbr;have hsw:=hbr.size;clear hown hbr hx;go_wp2_with (first
     | (go_at_call 144;refine Calls.mono C1.out ?_;rintro e w3 ⟨rfl,hb3⟩)
     | (at_builtin;refine wpList_append_own _ rfl _ _ 22 rfl W2.heap.size 9 j0 (.string ⟨#[]⟩) 1 16 Tryz.underlying22 hj hy0 hy1 hy2 rfl (by decide) _ _ _ rfl ((zad HO.out hb3).alloc _) ⟨w3.heap.size,0,none⟩ 1 1 [.string ⟨(Lib.itoa (x:Int)).toArray⟩] rfl rfl (zbl _ _ rfl _ _) (fun u hu=>by simp at hu;subst hu;rfl) (by unfold maxLen;omega) (by omega) (by have:=hb3.size;simp;omega) ?_))
    intro v' w4 hown4 hgrow _;have hbb:Below W2.heap.size W2 w3:=HBR.out.trans (hb3.mono hsw);have hb4:=(hbb.alloc hbb.size _).grown hgrow (by have:=hbb.size;simp;omega) (zaf HO.out);have HO4:Hid _:=hown4;have HB4:Hid _:=hb4;clear hgrow hown4 hb4;go_wp2_with fail
    go_roundw
    case rel=>exact⟨k+1,by go_num,by omega,by rw[HT.out];exact HO4.out,HB4.out⟩
    case measure=>simp[intOf];omega
   ·have hke:k=1+l.length:=by omega
    subst hke;have hlt':¬(((1+l.length:Nat):Int))<(1:Int)+(l.length:Int):=by omega
    obtain⟨bk,cap,rfl,g1,g2,g3,g4,g5⟩:=zbF hown (by omega);have hall:(n::l).take (1+l.length)=n::l:=List.take_of_length_le (by simp only[List.length_cons,List.length_nil];omega);rw[hall] at g5;have hlen:((n::l).map fun(x:Nat)=>(⟨(Lib.itoa (x:Int)).toArray⟩:ByteArray)).length=1+l.length:=by simp<;>omega
    have hmm:((n::l).map fun(x:Nat)=>(⟨(Lib.itoa (x:Int)).toArray⟩:ByteArray)).map (·.data.toList)=(n::l).map fun(x:Nat)=>Lib.itoa (x:Int):=by rw[List.map_map];rfl
    have CJ:Hid (Calls Tryz.prog 239 #[.slice (some ⟨bk,0,none⟩) (1+l.length) cap,.string ⟨#[44]⟩] wr fun e w'=>e=.returned (.string ⟨(Lib.join ((n::l).map fun(x:Nat)=>Lib.itoa (x:Int)) [44]).toArray⟩)∧Below wr.heap.size wr w'):=by
     have J:=Any.strings_Join Tryz.lays156 Tryz.Builder_Extra_156 bk 0 cap ((n::l).map fun(x:Nat)=>(⟨(Lib.itoa (x:Int)).toArray⟩:ByteArray)) ⟨#[44]⟩ wr (fun j x hx=>by
      rw[Nat.zero_add];obtain⟨y,hy1',hy2'⟩:=Option.map_eq_some_iff.1 (by rw[List.getElem?_map] at hx;exact hx);exact g5 j _ (by unfold wsV;rw[List.getElem?_map,hy1',←hy2'];rfl)) g2 (by rw[hlen];unfold maxLen at g4;omega) (by rw[hlen];exact g3) (by rw[hmm];exact Nat.le_trans HJL.out (by decide))
     rw[hlen,hmm] at J;exact J
    have HF:Hid (Below w.heap.size w wr):=HB2r.out;have hjl:=HJL.out;clear g5 hlen hmm hall HJL hown;generalize Lib.join ((n::l).map fun(x:Nat)=>Lib.itoa (x:Int)) [44]=J at *;have q1:Sh ⟨#[33]⟩:=by unfold Sh;show 1≤100000000;omega
    have q2:Sh ⟨J.toArray⟩:=zk3 (by omega);have hDz:(⟨J.toArray⟩:ByteArray).size=J.length:=by simp[ByteArray.size]
    have q3:Sh ((⟨#[33]⟩:ByteArray)++⟨J.toArray⟩):=za1 (by rw[hDz];show 1+J.length≤100000000;omega);have q4:Sh ⟨#[59]⟩:=by unfold Sh;show 1≤100000000;omega
    clear hDz;go_wp2_with (go_at_call 239;refine Calls.mono CJ.out ?_;rintro e w5 ⟨rfl,hb5⟩);go_ret;refine⟨?_,HF.out.trans (hb5.mono HF.out.size)⟩;have a1:(⟨#[33]⟩:ByteArray)++⟨J.toArray⟩=⟨([33]++J).toArray⟩:=zaq [33] J;have a2:(⟨([33]++J).toArray⟩:ByteArray)++⟨#[59]⟩=⟨(([33]++J)++[59]).toArray⟩:=zaq ([33]++J) [59];rw[HE.out,a1,a2];simp
open Go.RowKit Go.Shelf
def Runs {α:Type} (n:Nat) (P:Program) (gf:Nat) (lb:Array Value) (encs:α→Array Value) (Kp:World→World→Prop) (Nx:List α→α→Prop) (S:List α→Prop) (w:World):Prop :=
 ∀(l:Nat) (J:List α→World→Prop) (W:World),Below w.heap.size w W →
  (∀pre x W1,J pre W1→Nx pre x→YieldAt Fence.wide (n-1) P l (encs x) W1 fun e W'=>e=.returned (.bool true)∧J (pre++[x]) W'∧Kp W1 W') →
  J [] W→CallsIn Fence.wide n P gf (#[.func (.yield l) #[] #[]]++lb) W fun e W'=>(∃v,e=.returned v)∧∃xs,S xs∧J xs W'
theorem zcs {α:Type} {n:Nat} {P:Program} {g:Operand} {ps:Array Tmp} {assign body:Code} {Q:Exit→Act→World→Prop} {a:Act} {w:World} (h1:1≤n) {gf:Nat} {lb:Array Value}
 (hg:a.eval g=.func (.func gf) #[] lb) (eg:∀args w,(callFunc gf args).run P w=.ok (.enter gf args) w)
 {encs:α→Array Value} {Kp:World→World→Prop} {Nx:List α→α→Prop} {S:List α→Prop} (hseq:Runs (n-1) P gf lb encs Kp Nx S w)
 (hKt:∀{A B C:World},Kp A B→Kp B C→Kp A C) (hKb:∀(W:World) (l:Nat) (o o':Obj),w.heap.size≤l→W.heap[l]?=some o→o.isCells=false→Kp W (W.putObj l o')) (hps:∀x,(encs x).size=ps.size)
 (I:List α→World→Prop) (hI:OwnFrom w.heap.size I) (h0:I [] w)
 (Ax:α→Act→World→Prop) (hAx:∀x a',OwnFrom w.heap.size (fun(_:Unit) W=>Ax x a' W))
 (hassign:∀(l:Nat) (pre:List α) (x:α) (W:World) (K:Act→World→Prop),I pre W→Nx pre x→(∀a' W',KeepsFrom w.heap.size W W'→Kp W W'→I pre W'→Ax x a' W'→K a' W') →
  assign.wpIn (Fence.wide.inRound l) (n-1-1) P (Exit.then K (fun _ _ _=>False)) {tmps:=(ps.zip (encs x)).foldl (fun t (p,v)=>t.setIfInBounds p v) a.tmps,defers:=[]} W)
 (hbody:∀(l:Nat) (pre:List α) (x:α) (a':Act) (W:World),I pre W→Nx pre x→Ax x a' W →
  body.wpIn (Fence.wide.inRound l) (n-1-1) P (fun e _ W'=>e=.normal∧KeepsFrom w.heap.size W W'∧Kp W W'∧I (pre++[x]) W') a' W)
 (hdone:∀(D:Nat) (xs:List α) (W:World),w.heap.size≤D→S xs→I xs W→W.heap[D]?=some (.deferred (some []))→Q .normal {a with defers:={target:=.collected D,args:=#[]}::a.defers} W) :
 (Code.rangeFunc g ps assign body).wpIn Fence.wide n P Q a w:=by
 refine wpIn_rangeFunc fun fn _=>?_
 let rc:LoopState→Loop:=fun st=>{state:=st,pending:=none,fn:=fn,tmps:=a.tmps,params:=ps,assign:=assign,body:=body,defers:=w.heap.size}
 have hsz:((w.alloc (.deferred (some []))).alloc (.loop (rc .ready))).heap.size=w.heap.size+2:=by simp
 have hL:((w.alloc (.deferred (some []))).alloc (.loop (rc .ready))).heap[w.heap.size+1]?=some (.loop (rc .ready)):=by
  have:=World.alloc_heap_new (w.alloc (.deferred (some []))) (.loop (rc .ready));rwa [World.size_alloc] at this
 have hD:((w.alloc (.deferred (some []))).alloc (.loop (rc .ready))).heap[w.heap.size]?=some (.deferred (some [])) :=
  (Below.heap_alloc _ _ _ (by simp)).trans (World.alloc_heap_new w _)
 have hI1:I [] ((w.alloc (.deferred (some []))).alloc (.loop (rc .ready))):=hI.alloc _ (hI.alloc _ h0);have hb1:Below w.heap.size w ((w.alloc (.deferred (some []))).alloc (.loop (rc .ready))):=((Below.refl _ w).alloc (Nat.le_refl _) _).alloc (by simp) _;generalize hW1:(w.alloc (.deferred (some []))).alloc (.loop (rc .ready))=W1 at *;refine⟨w.heap.size+1,[{target:=.collected w.heap.size,args:=#[]}],W1,{target:=.fn (.func gf) lb,args:=#[.func (.yield (w.heap.size+1)) #[] #[]]},W1,gf,#[.func (.yield (w.heap.size+1)) #[] #[]]++lb,W1,?_,?_,fun _ _=>trivial,?_,fun _=>h1,?_⟩
 ·rw[←hW1];exact run_enterLoop_outer _ _ _ _ _
 ·simp only[resolve,hg];simp[go_sem]
 ·simp[invoke,go_sem,eg]
 refine(hseq (w.heap.size+1) (fun pre W=>I pre W∧W.heap[w.heap.size+1]?=some (.loop (rc .ready))∧W.heap[w.heap.size]?=some (.deferred (some []))) W1 hb1 ?_ ⟨hI1,hL,hD⟩).mono ?_
 ·rintro pre x W ⟨hi,hl,hk⟩ hx;refine⟨fn,_,assign,body,run_yield hl (hps x),roundIn_of_wpIn trivial (hassign _ pre x W _ hi hx fun a' Wa kf kp ia ax=>?_)⟩;have hl1:=kf.same _ _ (by omega) hl rfl;have hk1:=kf.same _ _ (Nat.le_refl _) hk rfl;have hlt:w.heap.size+1<Wa.heap.size:=(Array.getElem?_eq_some_iff.1 hl1).1;refine⟨_,run_beginRound hl1 rfl,?_⟩;have hl2:(Wa.putObj (w.heap.size+1) (.loop (rc .busy))).heap[w.heap.size+1]?=some (.loop (rc .busy)):=World.putObj_heap_same hlt;have hk2:(Wa.putObj (w.heap.size+1) (.loop (rc .busy))).heap[w.heap.size]?=some (.deferred (some [])):=(World.putObj_heap_other (by omega)).trans hk1;refine wpIn_mono (hbody _ pre x a' _ (hI.putObj _ ia (by omega) hl1 rfl) hx ((hAx x a').putObj (s:=()) _ ax (by omega) hl1 rfl)) ?_;rintro e a3 W3 ⟨rfl,kf3,kp3,i3⟩;have hl3:=kf3.same _ _ (by omega) hl2 rfl;have hk3:=kf3.same _ _ (Nat.le_refl _) hk2 rfl;refine⟨_,_,run_endRound none hl3,rfl,⟨hI.putObj _ i3 (by omega) hl3 rfl,World.putObj_heap_same (Array.getElem?_eq_some_iff.1 hl3).1,(World.putObj_heap_other (by omega)).trans hk3⟩,?_⟩;exact hKt kp (hKt (hKt (hKb _ _ _ _ (by omega) hl1 rfl) kp3) (hKb _ _ _ _ (by omega) hl3 rfl))
 ·rintro e W2 ⟨⟨v,rfl⟩,xs,hS,i2,hl2,hk2⟩;exact⟨none,_,run_endLoop hl2 (by simp[rc]),hdone _ xs _ (Nat.le_refl _) hS (hI.putObj _ i2 (by omega) hl2 rfl) ((World.putObj_heap_other (by omega)).trans hk2)⟩
open Go Go.RowKit
section
variable {F:Fence} {n:Nat} {P:Program} {ops:Array Oper} {Q:Exit→Act→World→Prop} {md:Region.Mode} {S:World→Prop}
def Held (F:Fence) (n:Nat) (P:Program) (md:Region.Mode) (ops:Array Oper) (Q:Exit→Act→World→Prop) (S:World→Prop):Nat→Array Bool→Act→World→Prop
 | 0,listed,a,w=>S w∧Region.ready md ops listed=[]∧Q .normal a w
 | fuel+1,listed,a,w=>S w∧(Region.ready md ops listed=[]→Q .normal a w)∧∀i∈Region.ready md ops listed,wpOpIn F n P ops Q i (Held F n P md ops Q S fuel (listed.setIfInBounds i true)) a w
theorem Held.any:∀(fuel:Nat) (listed:Array Bool) (a:Act) (w:World),Held F n P md ops Q S fuel listed a w→wpAnyIn F n P md ops Q fuel listed a w
 | 0,_,_,_,h=>h.2
 | fuel+1,_,_,_,h=>⟨h.2.1,fun i hi=>wpOpIn_mono (fun a w=>Held.any fuel _ a w) (h.2.2 i hi)⟩
def YS (P:Program) (ops:Array Oper) (S:World→Prop) (o:Oper) (v:Value) (a:Act):Prop :=
 Region.wanted o (yielded ops a.tmps)=true∧(∀w,S w→(execOp a.eval o).run P w=.ok (.value v) w)∧∀w,o.about P w a.eval=none
theorem YS.same {o:Oper} {v:Value} {a a':Act} (h:YS P ops S o v a) (he:execOp a'.eval o=execOp a.eval o) (hw:Region.wanted o (yielded ops a'.tmps)=Region.wanted o (yielded ops a.tmps)) (hb:∀w,o.about P w a'.eval=o.about P w a.eval):YS P ops S o v a' :=
 ⟨hw.trans h.1,fun w hs=>by rw[he];exact h.2.1 w hs,fun w=>(hb w).trans (h.2.2 w)⟩
theorem YS.op {i:Nat} {o:Oper} {v:Value} {a:Act} {w:World} {K:Act→World→Prop} (hd:∀c,o.op≠.defer c) (hi:ops[i]?=some o) (hy:YS P ops S o v a) (hs:S w) (h:K (a.put o.dst v) w):wpOpIn F n P ops Q i K a w:=by
 unfold wpOpIn;simp only[hi,hy.1,if_true];refine⟨fun f hf=>(by rw[hy.2.2 w] at hf;cases hf),?_⟩;rw[Oper.semAt_eq _ _ _ hd,hy.2.1 w hs];exact h
theorem YS.past {j:Nat} {oi oj:Oper} {v:Value} (hj:ops[j]?=some oj) (hdj:∀c,oj.op≠.defer c) (hap:oi.apart ops oj=true) (hsi:∀cs b,oi.op≠.select cs b) (hsj:∀cs b,oj.op≠.select cs b)
 (hQ:∀c a w,Q (.panic c) (a.put oi.dst v) w→Q (.panic c) a w) {K:Act→World→Prop} {a:Act} {w:World} (hy:YS P ops S oi v a) (h:wpOpIn F n P ops Q j K (a.put oi.dst v) w) :
 wpOpIn F n P ops Q j (fun a' w'=>YS P ops S oi v a'∧K (a'.put oi.dst v) w') a w:=by
 obtain⟨h1,h2,h3⟩:=Oper.apart_spec hap;have keep:∀(a:Act),YS P ops S oi v a→∀u,YS P ops S oi v (a.put oj.dst u):=fun a hy u =>
  hy.same (execOp_put oi hsi a oj.dst u h3) (wanted_put oi a oj.dst u h3) (fun w=>about_put oi w a oj.dst u h3)
 have keepD:∀d,YS P ops S oi v {a with defers:=d::a.defers}:=fun d=>hy.same rfl rfl (fun _=>rfl)
 unfold wpOpIn at *;simp only[hj] at *;rw[wanted_put oj a oi.dst v h1,about_put oj w a oi.dst v h1] at h;split
 ·rename_i hw
  simp only[hw,if_true] at h;unfold Oper.wpIn at *;rw[about_put oj w a oi.dst v h1] at h;refine⟨h.1,?_⟩;have h:=h.2;rw[Oper.semAt_eq _ _ _ hdj,execOp_put oj hsj a oi.dst v h1] at h;rw[Oper.semAt_eq _ _ _ hdj];generalize (execOp a.eval oj).run P w=r at *;cases r with
  | ok x w' =>
   cases x<;>simp only[Oper.uponIn] at h ⊢
   case value u=>exact⟨keep a hy u,by rw[←Act.put_comm a v u h2];exact h⟩
   case skip=>exact⟨keep a hy _,by rw[←Act.put_comm a v undef h2];exact h⟩
   case defer d =>
    refine⟨keep _ (keepD d) _,?_⟩;rw[←Act.put_comm _ v undef h2,←Act.put_defers];exact h
   case enter f args =>
    refine⟨h.1,CallsIn.mono h.2 fun e w'' he=>?_⟩;cases e with
    | returned u=>exact⟨keep a hy u,by rw[←Act.put_comm a v u h2];exact he⟩
    | panicked c=>exact hQ _ _ _ he
    | outgrown=>exact he
   case row row args=>exact⟨h.1,RowsIn.mono h.2 fun u w'' he=>⟨keep a hy u,by rw[←Act.put_comm a v u h2];exact he⟩⟩
   case round l f tmps assign body =>
    refine⟨h.1,RoundIn.mono h.2 fun e w'' he=>?_⟩;cases e with
    | returned u=>exact⟨keep a hy u,by rw[←Act.put_comm a v u h2];exact he⟩
    | panicked c=>exact hQ _ _ _ he
    | outgrown=>exact he
  | halt x w' =>
   cases x<;>simp only[Oper.uponIn] at h ⊢
   case panic u=>exact hQ _ _ _ h
 ·rename_i hw
  simp only[hw] at h;exact⟨h.1,keep a hy _,by rw[←Act.put_comm a v undef h2];exact h.2⟩
theorem Held.first {i:Nat} {oi:Oper} {v:Value} (hd:∀(j:Nat) (o:Oper) c,ops[j]?=some o→o.op≠.defer c) (hi:ops[i]?=some oi) (hsel:∀(j:Nat) (o:Oper) cs b,ops[j]?=some o→o.op≠.select cs b)
 (hQ:∀c a w,Q (.panic c) (a.put oi.dst v) w→Q (.panic c) a w) :
 ∀(fuel:Nat) (listed:Array Bool) (a:Act) (w:World),
  (∀j oj,ops[j]?=some oj→j≠i→listed.getD j true=false→(∀e∈oj.after,Region.binds md e=true→e.on≠i)→oi.apart ops oj=true) →
  i∈Region.ready md ops listed→YS P ops S oi v a →
  Held F n P md ops Q S fuel (listed.setIfInBounds i true) (a.put oi.dst v) w→Held F n P md ops Q S (fuel+1) listed a w:=by
 intro fuel
 induction fuel with
 | zero =>
  intro listed a w _ hr hy H;refine⟨H.1,fun h=>(by rw[h] at hr;cases hr),fun j hj=>?_⟩;by_cases hji:j=i
  ·subst hji;exact hy.op (fun c=>hd j oi c hi) hi H.1 H
  ·have:=ready_mono hj hji;rw[H.2.1] at this;cases this
 | succ fuel ih =>
  intro listed a w hfree hr hy H;refine⟨H.1,fun h=>(by rw[h] at hr;cases hr),fun j hj=>?_⟩;by_cases hji:j=i
  ·subst hji;exact hy.op (fun c=>hd j oi c hi) hi H.1 H
  ·have h1:=H.2.2 j (ready_mono hj hji);obtain⟨hjun,oj,hoj,hall⟩:=mem_ready.1 hj;have hnot:∀e∈oj.after,Region.binds md e=true→e.on≠i:=fun e he hb heq=>by
    have h1:=hall e he hb;have h0:=(mem_ready.1 hr).1;rw[heq] at h1;rcases Nat.lt_or_ge i listed.size with h'|h'
    ·simp[h'] at h0 h1;rw[h0] at h1;cases h1
    ·simp[Array.getElem?_eq_none h'] at h1
   have h2:=YS.past hoj (fun c=>hd j oj c hoj) (hfree j oj hoj hji hjun hnot) (fun cs b=>hsel i oi cs b hi) (fun cs b=>hsel j oj cs b hoj) hQ hy h1;have hfree':∀k ok,ops[k]?=some ok→k≠i→(listed.setIfInBounds j true).getD k true=false →
    (∀e∈ok.after,Region.binds md e=true→e.on≠i)→oi.apart ops ok=true:=fun k ok hk hki hun hno=>by
    refine hfree k ok hk hki ?_ hno;by_cases hjk:j=k
    ·subst hjk;exact hjun
    ·rw[getD_set_ne true hjk] at hun;exact hun
   refine wpOpIn_mono (fun a' w' h3=>ih (listed.setIfInBounds j true) a' w' hfree' (ready_mono hr (Ne.symm hji)) h3.1 ?_) h2;rw[Array.setIfInBounds_comm _ _ hji];exact h3.2
def noDefer (ops:Array Oper):Bool:=ops.all fun o=>match o.op with|.defer _=>false|_=>true
theorem ze1 (h:noDefer ops=true) (j:Nat) (o:Oper) (hj:ops[j]?=some o):∀c,o.op≠.defer c:=fun c e=>by
 have hm:=Array.all_eq_true_iff_forall_mem.1 h o (Array.mem_of_getElem? hj);rw[e] at hm;exact absurd hm (by simp)
theorem Held.take {i:Nat} {oi:Oper} {v:Value} {fuel:Nat} {listed:Array Bool} {a:Act} {w:World} (hd:noDefer ops=true) (hi:ops[i]?=some oi)
 (hs:Region.noSelect ops=true) (hf:Region.free md ops listed i=true) (hr:(Region.ready md ops listed).contains i=true)
 (hQ:∀c a w,Q (.panic c) (a.put oi.dst v) w→Q (.panic c) a w) (hy:YS P ops S oi v a)
 (h:Held F n P md ops Q S fuel (listed.setIfInBounds i true) (a.put oi.dst v) w):Held F n P md ops Q S (fuel+1) listed a w :=
 Held.first (fun j o c hj=>ze1 hd j o hj c) hi (Region.noSelect_spec hs) hQ fuel listed a w (Region.free_spec hi hf) (by simpa using hr) hy h
theorem Held.one {i:Nat} {o:Oper} {fuel:Nat} {listed:Array Bool} {a:Act} {w:World} (hs:S w) (hr:Region.ready md ops listed=[i]) (ho:ops[i]?=some o)
 (h:∀K':Act→World→Prop,(∀a w,Held F n P md ops Q S fuel (listed.setIfInBounds i true) a w→K' a w)→if Region.wanted o (yielded ops a.tmps)=true then Oper.wpIn F n P o a w K' Q else (∀f,o.about P w a.eval=some f→F.fn f)∧K' (a.put o.dst undef) w) :
 Held F n P md ops Q S (fuel+1) listed a w :=
 ⟨hs,fun e=>(by rw[hr] at e;cases e),fun j hj=>by
  rw[hr] at hj;obtain rfl:=List.mem_singleton.1 hj;exact wpOpIn_step ho h⟩
theorem Held.done {fuel:Nat} {listed:Array Bool} {a:Act} {w:World} (hs:S w) (hr:Region.ready md ops listed=[]) (h:Q .normal a w):Held F n P md ops Q S fuel listed a w:=by
 cases fuel with
 | zero=>exact⟨hs,hr,h⟩
 | succ n=>exact⟨hs,fun _=>h,by rw[hr];intro i hi;cases hi⟩
end
structure PD where
 pb:Nat
 mb:Nat
 tb:Nat
 qb:Nat
 gb:Nat
 kb:Nat
 qa:Option Addr
 ca:Nat
 cg:Nat
def PD.M (D:PD):List Nat:=[D.pb,D.mb,D.tb,D.qb]
def PD.cs (D:PD) (us:List Atm) (g:List Pt) (s:Nat):List Value:=[.pointer (some ⟨D.kb,0,none⟩),.slice D.qa us.length D.ca,.slice (some ⟨D.gb,0,none⟩) g.length D.cg,.int .i64 (s:Int),.map (some D.mb),.slice (some ⟨D.tb,0,none⟩) us.length us.length,.slice (some ⟨D.qb,0,none⟩) g.length g.length]
structure PvS (w0 w:World) (D:PD) (us:List Atm) (g:List Pt) (s n:Nat) (A:Nat→Int) (ats parts:List Int):Prop where
 h0:Below w0.heap.size w0 w
 hM:∀m∈D.M,w0.heap.size≤m
 hd:D.M.Nodup
 box:Blk w D.pb 180 (D.cs us g s)
 atm:Atms w (.slice D.qa us.length D.ca) us
 gol:Gol w D.gb g
 gne:D.gb∉D.M
 gcap:g.length≤D.cg
 am:NM w D.mb n A
 tr:Blk w D.tb 159 (ats.map tv8)
 tl:ats.length=us.length
 pr:Blk w D.qb 159 (parts.map tv8)
 pl:parts.length=g.length
theorem PvS.below {w0 w w':World} {D:PD} {us:List Atm} {g:List Pt} {s n:Nat} {A:Nat→Int} {ats parts:List Int} (h:PvS w0 w D us g s n A ats parts) (hb:Below w.heap.size w w'):PvS w0 w' D us g s n A ats parts :=
 ⟨h.h0.trans (hb.mono h.h0.size),h.hM,h.hd,h.box.below hb,h.atm.below hb,h.gol.below hb,h.gne,h.gcap,h.am.fr (M:=[]) (FrX.of_below hb) List.not_mem_nil,h.tr.below hb,h.tl,h.pr.below hb,h.pl⟩
theorem PvS.noi {w0 w:World} {D:PD} {us:List Atm} {g:List Pt} {s n:Nat} {A:Nat→Int} {ats parts:List Int} (h:PvS w0 w D us g s n A ats parts):NoI w D.M:=by
 intro m hm x e;unfold PD.M at hm;simp only[List.mem_cons,List.not_mem_nil,or_false] at hm;rcases hm with rfl|rfl|rfl|rfl
 ·rw[h.box.cell?] at e;cases e
 ·rw[h.am.noi] at e;cases e
 ·rw[h.tr.cell?,List.getElem?_map] at e;obtain⟨t,_,e⟩:=Option.map_eq_some_iff.1 e;cases e
 ·rw[h.pr.cell?,List.getElem?_map] at e;obtain⟨t,_,e⟩:=Option.map_eq_some_iff.1 e;cases e
theorem PvS.ne {w0 w:World} {D:PD} {us:List Atm} {g:List Pt} {s n:Nat} {A:Nat→Int} {ats parts:List Int} (h:PvS w0 w D us g s n A ats parts):D.pb≠D.mb∧D.pb≠D.tb∧D.pb≠D.qb∧D.mb≠D.tb∧D.mb≠D.qb∧D.tb≠D.qb∧D.gb≠D.pb∧D.gb≠D.mb∧D.gb≠D.tb∧D.gb≠D.qb:=by
 have hd:=h.hd;have hg:=h.gne;unfold PD.M at hd hg;simp only[List.nodup_cons,List.mem_cons,List.not_mem_nil,or_false,not_or,List.nodup_nil,and_true,not_false_eq_true] at hd hg;exact⟨hd.1.1,hd.1.2.1,hd.1.2.2,hd.2.1.1,hd.2.1.2,hd.2.2,hg.1,hg.2.1,hg.2.2.1,hg.2.2.2⟩
theorem PD.mp (D:PD):D.pb∈D.M:=by simp[PD.M]
theorem PD.mm (D:PD):D.mb∈D.M:=by simp[PD.M]
theorem PD.mt (D:PD):D.tb∈D.M:=by simp[PD.M]
theorem PD.mq (D:PD):D.qb∈D.M:=by simp[PD.M]
theorem zap (w:World) (b o:Nat) (v:Value):FrX [b] w (w.setCell ⟨b,o,none⟩ v):=FrX.of_set w b o v (by simp)
theorem NoI.sub {w:World} {M M':List Nat} (h:NoI w M) (hs:∀m∈M',m∈M):NoI w M':=fun m hm=>h m (hs m hm)
theorem FrX.drew {M:List Nat} {w w':World} (h:FrX M w w'):FrX M w w'.drew:=h.trans (FrX.of_below (Below.refl _ _).drew)
theorem PvS.setT {w0 w:World} {D:PD} {us:List Atm} {g:List Pt} {s n:Nat} {A:Nat→Int} {ats parts:List Int} (h:PvS w0 w D us g s n A ats parts) (i:Nat) (t:Int):PvS w0 (w.setCell ⟨D.tb,i,none⟩ (.int .i8 t)) D us g s n A (ats.set i t) parts:=by
 have hf:=zap w D.tb i (.int .i8 t);have hf':=hf.sub (M':=D.M) (by intro m hm;rw[List.mem_singleton.1 hm];exact D.mt);obtain⟨n1,n2,n3,n4,n5,n6,n7,n8,n9,n10⟩:=h.ne;refine⟨hf'.below h.h0 h.hM,h.hM,h.hd,h.box.other _ _ n2,h.atm.fr hf' h.noi,h.gol.fr hf (by simp[n9]),h.gne,h.gcap,h.am.fr hf (by simp[n4]),?_,by rw[List.length_set];exact h.tl,h.pr.other _ _ (fun e=>n6 e.symm),h.pl⟩;have:=h.tr.set i (.int .i8 t);rw[List.map_set];exact this
theorem PvS.setS {w0 w:World} {D:PD} {us:List Atm} {g:List Pt} {s n:Nat} {A:Nat→Int} {ats parts:List Int} (h:PvS w0 w D us g s n A ats parts) (s':Nat):PvS w0 (w.setCell ⟨D.pb,3,none⟩ (.int .i64 (s':Int))) D us g s' n A ats parts:=by
 have hf:=zap w D.pb 3 (.int .i64 (s':Int));have hf':=hf.sub (M':=D.M) (by intro m hm;rw[List.mem_singleton.1 hm];exact D.mp);obtain⟨n1,n2,n3,n4,n5,n6,n7,n8,n9,n10⟩:=h.ne;exact⟨hf'.below h.h0 h.hM,h.hM,h.hd,h.box.set 3 _,h.atm.fr hf' h.noi,h.gol.fr hf (by simp[n7]),h.gne,h.gcap,h.am.fr hf (by simp[Ne.symm n1]),h.tr.other _ _ (fun e=>n2 e.symm),h.tl,h.pr.other _ _ (fun e=>n3 e.symm),h.pl⟩
theorem PvS.setM {w0 w w':World} {D:PD} {us:List Atm} {g:List Pt} {s n n':Nat} {A A':Nat→Int} {ats parts:List Int} (h:PvS w0 w D us g s n A ats parts) (hg:w.grownBy w' (some D.mb)) (ha:NM w' D.mb n' A'):PvS w0 w' D us g s n' A' ats parts:=by
 have hf:FrX [D.mb] w w':=FrX.of_grown hg (by simp);have hf':=hf.sub (M':=D.M) (by intro m hm;rw[List.mem_singleton.1 hm];exact D.mm);obtain⟨n1,n2,n3,n4,n5,n6,n7,n8,n9,n10⟩:=h.ne;exact⟨hf'.below h.h0 h.hM,h.hM,h.hd,h.box.fr hf (by simp[n1]),h.atm.fr hf' h.noi,h.gol.fr hf (by simp[n8]),h.gne,h.gcap,ha,h.tr.fr hf (by simp[Ne.symm n4]),h.tl,h.pr.fr hf (by simp[Ne.symm n5]),h.pl⟩
theorem PvS.cells {w0 w:World} {D:PD} {us:List Atm} {g:List Pt} {s n:Nat} {A:Nat→Int} {ats parts:List Int} (h:PvS w0 w D us g s n A ats parts) :
 w.cell? ⟨D.pb,0,none⟩=some (.pointer (some ⟨D.kb,0,none⟩))∧w.cell? ⟨D.pb,1,none⟩=some (.slice D.qa us.length D.ca)∧w.cell? ⟨D.pb,2,none⟩=some (.slice (some ⟨D.gb,0,none⟩) g.length D.cg)∧w.cell? ⟨D.pb,3,none⟩=some (.int .i64 (s:Int))∧w.cell? ⟨D.pb,4,none⟩=some (.map (some D.mb))∧w.cell? ⟨D.pb,5,none⟩=some (.slice (some ⟨D.tb,0,none⟩) us.length us.length)∧w.cell? ⟨D.pb,6,none⟩=some (.slice (some ⟨D.qb,0,none⟩) g.length g.length) :=
 ⟨h.box.cell rfl,h.box.cell rfl,h.box.cell rfl,h.box.cell rfl,h.box.cell rfl,h.box.cell rfl,h.box.cell rfl⟩
theorem PvS.tcell {w0 w:World} {D:PD} {us:List Atm} {g:List Pt} {s n:Nat} {A:Nat→Int} {ats parts:List Int} (h:PvS w0 w D us g s n A ats parts) {i:Nat} (hi:i<us.length):w.cell? ⟨D.tb,i,none⟩=some (.int .i8 (ats.getD i 0)):=by
 refine h.tr.cell ?_;rw[List.getElem?_map,List.getD_eq_getElem?_getD,List.getElem?_eq_getElem (by rw[h.tl];exact hi)]
 rfl
theorem PvS.pcell {w0 w:World} {D:PD} {us:List Atm} {g:List Pt} {s n:Nat} {A:Nat→Int} {ats parts:List Int} (h:PvS w0 w D us g s n A ats parts) {i:Nat} (hi:i<g.length):w.cell? ⟨D.qb,i,none⟩=some (.int .i8 (parts.getD i 0)):=by
 refine h.pr.cell ?_;rw[List.getElem?_map,List.getD_eq_getElem?_getD,List.getElem?_eq_getElem (by rw[h.pl];exact hi)]
 rfl
attribute [local go_sem] Oper.semAt_some
def encG (x:Nat×Pt):Array Value:=#[.int .i64 (x.1:Int),.agg #[.int .i64 x.2.1,.int .i64 x.2.2.1,.int .i64 x.2.2.2.1,.int .i8 x.2.2.2.2]]
def cameG (g:List Pt) (k:Nat):List (Nat×Pt):=((List.range (g.length-k)).map fun i=>(g.length-1-i,g[g.length-1-i]?.getD (0,0,0,0)))
theorem zdg (g:List Pt):cameG g g.length=[]:=by simp[cameG]
theorem zbG (g:List Pt) (k:Nat) (hk:k<g.length) (y:Pt) (hy:g[k]?=some y):cameG g k=cameG g (k+1)++[(k,y)]:=by
 unfold cameG;rw[show g.length-k=(g.length-(k+1))+1 by omega,List.range_succ,List.map_append]
 congr 1
 simp only[List.map_cons,List.map_nil];have e:g.length-1-(g.length-(k+1))=k:=by omega
 rw[e,hy];rfl
theorem zan (g:List Pt) (k:Nat):(cameG g k).length=g.length-k:=by simp[cameG]
def NxG (g:List Pt) (pre:List (Nat×Pt)) (x:Nat×Pt):Prop:=pre=cameG g (x.1+1)∧x.1<g.length∧g[x.1]?=some x.2
def KpG (gb Bs:Nat) (W W':World):Prop:=(∀o,W'.cell? ⟨gb,o,none⟩=W.cell? ⟨gb,o,none⟩)∧W'.cell? ⟨Bs,0,none⟩=W.cell? ⟨Bs,0,none⟩
theorem KpG.refl (gb Bs:Nat) (W:World):KpG gb Bs W W:=⟨fun _=>rfl,rfl⟩
theorem KpG.trans {gb Bs:Nat} {A B C:World} (h:KpG gb Bs A B) (k:KpG gb Bs B C):KpG gb Bs A C:=⟨fun o=>(k.1 o).trans (h.1 o),k.2.trans h.2⟩
theorem zig (gb Bs:Nat) (W:World) (l:Nat) (o':Obj) (h1:gb≠l) (h2:Bs≠l):KpG gb Bs W (W.putObj l o') :=
 ⟨fun j=>World.cell?_of_block (World.putObj_heap_other h1),World.cell?_of_block (World.putObj_heap_other h2)⟩
theorem zih (n:Nat) (hn:1≤n) (l Bs gb cap:Nat) (g:List Pt) (hlen:g.length≤8000) (J:List (Nat×Pt)→World→Prop)
 (hY:∀pre x W,J pre W→NxG g pre x→YieldAt Fence.wide (n-1) Tryz.prog l (encG x) W fun e W'=>e=.returned (.bool true)∧J (pre++[x]) W'∧KpG gb Bs W W')
 (W:World) (hB0:W.cell? ⟨Bs,0,none⟩=some (.slice (some ⟨gb,0,none⟩) g.length cap)) (hc:Gol W gb g) (h0:J [] W) :
 CallsIn Fence.wide n Tryz.prog 264 #[.func (.yield l) #[] #[],.pointer (some ⟨Bs,0,none⟩)] W fun e W'=>(∃v,e=.returned v)∧∃xs,xs=cameG g 0∧J xs W':=by
 have HC:Hid _:=hc;have HBS:Hid _:=hB0;clear hc;refine callsIn_of_wp Tryz.func264 rfl trivial ?_ rfl;simp only[Tryz.ntmps264,List.size_toArray,List.length_cons,List.length_nil,Nat.reduceAdd,Nat.reduceSub,Array.replicate_succ,Array.replicate_zero,List.push_toArray,List.append_toArray,List.nil_append,List.cons_append]
 gi_wp2
 gi_loopw [3] (fun i wr=>∃k:Nat,k≤g.length∧i=.int .i64 ((k:Int)-1)∧J (cameG g k) wr∧KpG gb Bs W wr)
  (fun i _=>((intOf i)+1).toNat)
 case atStart=>exact⟨g.length,Nat.le_refl _,rfl,by rw[zdg];exact h0,KpG.refl _ _ _⟩
 case round =>
  obtain⟨k,hk,rfl,hJs,hnx⟩:=hrel;rcases Nat.eq_zero_or_pos k with rfl|hpos
  ·gi_wp2
   go_end0
   exact⟨⟨_,rfl⟩,_,rfl,hJs⟩
  ·obtain⟨k,rfl⟩:∃k',k=k'+1:=⟨k-1,by omega⟩
   obtain⟨⟨y1,y2,y3,y4⟩,hy⟩:∃y,g[k]?=some y:=⟨_,List.getElem?_eq_getElem (by omega)⟩
   obtain⟨fn,tmps,assign,body,hyy,hR⟩:=hY _ (k,(y1,y2,y3,y4)) wr hJs ⟨rfl,by dsimp only;omega,hy⟩;unfold encG at hyy;dsimp only at hyy;obtain⟨z0,z1,z2,z3⟩:=HC.out.2 k _ hy;have c0:=(hnx.1 (k*4)).trans z0;have c1:=(hnx.1 (k*4+1)).trans z1;have c2:=(hnx.1 (k*4+2)).trans z2;have c3:=(hnx.1 (k*4+3)).trans z3;have hB1:=hnx.2.trans HBS.out;have hkI:((k+1:Nat):Int)-1=(k:Int):=by omega
   have hkl:(k:Int)<(g.length:Int):=by omega
   have HS:Hid (cameG g k=cameG g (k+1)++[(k,(y1,y2,y3,y4))]):=zbG g k (by omega) _ hy;clear z0 z1 z2 z3 hy hB0
   gi_wp2
   refine hR.mono ?_;rintro e W3 ⟨rfl,hJ3,hk3⟩
   gi_wp2
   go_roundw
   case rel=>exact⟨k,by omega,by go_num,by rw[HS.out];exact hJ3,hnx.trans hk3⟩
   case measure=>simp[intOf]
theorem zgH (n:Nat) (a:Option Addr) (len cap:Nat) (w:World) :
 CallsIn Fence.wide n Tryz.prog 237 #[.slice a len cap] w fun e w'=>e=.returned (.func (.func 264) #[] #[.pointer (some ⟨w.heap.size,0,none⟩)])∧w'=w.alloc (.cells #[.slice a len cap] 177):=by
 refine callsIn_of_wp Tryz.func237 rfl trivial ?_ rfl;simp only[Tryz.ntmps237,List.size_toArray,List.length_cons,List.length_nil,Nat.reduceAdd,Nat.reduceSub,Array.replicate_succ,Array.replicate_zero,List.push_toArray,List.append_toArray,List.nil_append,List.cons_append]
 gi_wp2
 go_ret;exact⟨rfl,rfl⟩
theorem zd1 (n:Nat) (hn:1≤n) (Bs gb cap:Nat) (g:List Pt) (hlen:g.length≤8000) (w:World) (hBs:Bs<w.heap.size) (hc:w.cell? ⟨Bs,0,none⟩=some (.slice (some ⟨gb,0,none⟩) g.length cap)) (hr:Gol w gb g) :
 Runs n Tryz.prog 264 #[.pointer (some ⟨Bs,0,none⟩)] encG (KpG gb Bs) (NxG g) (fun xs=>xs=cameG g 0) w:=fun l J W hW hY h0 =>
 zih n hn l Bs gb cap g hlen J hY W ((hW.cell (p:=⟨Bs,0,none⟩) hBs).trans hc) (hr.below hW) h0
end Go.Proofs.YtkinoehmcfhgbaaGreatDoor.Vl
