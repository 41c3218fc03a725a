/- A part of the proof. -/
import Derived.Test.YtkinoehmcfhgbaaGreatDoorN20
import Derived.Test.YtkinoehmcfhgbaaGreatDoorR4
import Derived.Deep.Slices
set_option linter.unusedVariables false
set_option linter.unusedSimpArgs false
set_option maxRecDepth 100000
set_option maxHeartbeats 4000000
namespace Go.Proofs.YtkinoehmcfhgbaaGreatDoor.Vl
open Go.RowKit
open Av (vr Fm Rd Tg sAt Cm Rc tokAt answer)
theorem zlW {w:World} (h:Gl w):Gt w:=fun w' hb=>(h w' hb).2.2.2
def cF1:List UInt8:=[62,38,38,97,45,48,60,61,48,46,48,45,97,60,61,48,46,48,45,98,60,61,48,46,97,45,98,60,61,48,46]
def cS1:List UInt8:=[62,38,97,45,98,60,61,48,46,97,45,98,60,61,45,49,46,97,45,98,60,61,45,49,46]
def cT1:List UInt8:=[62,38,97,45,98,60,61,48,46,33,97,45,98,60,61,45,49,46,38,97,45,98,60,61,48,46,98,45,97,60,61,48,46]
theorem zhs:cAns cnt cntP cntC cntQ=([cF1,cS1,cT1],0,0):=by kernel_rfl
theorem zko:dAns cnt 0 2 0 0 9 cntC=({x1:=2,x2:=2,x3:=0,x4:=0,n:=5,e:=-1},0,0):=by kernel_rfl
theorem zkp:vAns (pars ⟨cF1.toArray⟩) 0 2 0 0=(true,0):=by kernel_rfl
theorem ziC (w:World) (hgt:Gt w):Calls Tryz.prog 11 #[.string cnt] w fun e w'=>∃v,e=.returned (.tuple #[v,.int .i64 0,.int .i64 0])∧w'.ownsRow w.heap.size 9 1 v 3 ([cF1,cS1,cT1].map strV)∧Below w.heap.size w w':=by
 refine(zkB cnt w hgt (fun w=>by rw[zdK];exact Av.zfA w)).mono ?_;rintro e w' ⟨p,c,q,hP,v,he,ho,hb⟩;obtain⟨rfl,rfl,rfl⟩:=zjD.det (hP (by rw[zdK]));rw[zhs] at he ho;exact⟨v,he,ho,hb⟩
theorem zkq (w:World):Calls Tryz.prog 19 #[.string cnt,.agg #[.int .i64 0,.int .i64 2,.int .i64 0,.int .i64 0],.int .i64 9] w fun e w'=>e=.returned (.tuple #[.agg #[.int .i64 0,.int .i64 2,.int .i64 2,.int .i64 0,.int .i64 0,.int .i64 5],.int .i64 0,.int .i64 0])∧Below w.heap.size w w':=by
 refine(znz cnt 0 2 0 0 9 w (fun w=>by rw[zdK];exact Av.zfA w) (by rw[zdK]) (by decide) (by decide)).mono ?_;rintro e w' ⟨p,c,q,hP,he,hb⟩;obtain⟨rfl,rfl,rfl⟩:=zjD.det (hP (by rw[zdK]));rw[zko] at he;exact⟨he,hb⟩
theorem eqInS (d:Nat) (w:World) (x1 x2 x3 x4 y1 y2 y3 y4:Int):(Op.equalIn (d+1+1) 36 (.agg #[.int .i64 x1,.int .i64 x2,.int .i64 x3,.int .i64 x4]) (.agg #[.int .i64 y1,.int .i64 y2,.int .i64 y3,.int .i64 y4])).run Tryz.prog w=.ok (x1==y1&&(x2==y2&&(x3==y3&&x4==y4))) w:=by
 have e1:∃i,Tryz.prog.info? 3=some i:=Option.isSome_iff_exists.1 (by kernel_rfl)
 obtain⟨i,hi⟩:=e1;have e2:Tryz.prog.cellsOf 3=1:=by kernel_rfl
 rw[run_equalIn_array w (d+1) _ _ Tryz.underlying36 hi,e2];simp[Op.eqItems,part,run_equalIn_int,Tryz.underlying3,show List.range 4=[0,1,2,3] from rfl];by_cases h1:x1=y1<;>by_cases h2:x2=y2<;>by_cases h3:x3=y3<;>by_cases h4:x4=y4<;>simp[h1,h2,h3,h4]
theorem neqS (w:World) (x1 x2 x3 x4 y1 y2 y3 y4:Int):(binOp .neq 36 (.agg #[.int .i64 x1,.int .i64 x2,.int .i64 x3,.int .i64 x4]) (.agg #[.int .i64 y1,.int .i64 y2,.int .i64 y3,.int .i64 y4])).run Tryz.prog w=.ok (.bool (!(x1==y1&&(x2==y2&&(x3==y3&&x4==y4))))) w:=by
 rw[run_neq_struct,show(10000:Nat)=9998+1+1 from rfl,eqInS]
 rfl
def yF:List Sym:=[(5,0,0,0),(3,0,0,0),(3,0,0,0),(6,1,0,0),(6,0,1,0),(6,0,2,0),(6,1,2,0)]
def yS:List Sym:=[(5,0,0,0),(3,0,0,0),(6,1,2,0),(6,1,2,-1),(6,1,2,-1)]
def yT:List Sym:=[(5,0,0,0),(3,0,0,0),(6,1,2,0),(2,0,0,0),(6,1,2,-1),(3,0,0,0),(6,1,2,0),(6,2,1,0)]
theorem pF:pars ⟨cF1.toArray⟩=some yF:=by kernel_rfl
theorem pS:pars ⟨cS1.toArray⟩=some yS:=by kernel_rfl
theorem pT:pars ⟨cT1.toArray⟩=some yT:=by kernel_rfl
theorem vF (x1 x2 x3 x4:Int):val x1 x2 x3 x4 yF=true:=by
 rw[zdj pF];show(teith (tnot (tboth (tboth (tof (decide (x1-0≤0))) (tof (decide (0-x1≤0)))) (tof (decide (0-x2≤0))))) (tof (decide (x1-x2≤0)))==1)=true
 by_cases h1:x1-0≤0<;>by_cases h2:0-x1≤0<;>by_cases h3:0-x2≤0<;>by_cases h4:x1-x2≤0<;>first|(exfalso;omega)|(simp only[h1,h2,h3,h4,decide_true,decide_false];rfl)
theorem vS (x1 x2 x3 x4:Int):val x1 x2 x3 x4 yS=true:=by
 rw[zdj pS];show(teith (tnot (tboth (tof (decide (x1-x2≤0))) (tof (decide (x1-x2≤-1))))) (tof (decide (x1-x2≤-1)))==1)=true
 by_cases h1:x1-x2≤0<;>by_cases h2:x1-x2≤-1<;>first|(exfalso;omega)|(simp only[h1,h2,decide_true,decide_false];rfl)
theorem vT (x1 x2 x3 x4:Int):val x1 x2 x3 x4 yT=true:=by
 rw[zdj pT];show(teith (tnot (tboth (tof (decide (x1-x2≤0))) (tnot (tof (decide (x1-x2≤-1)))))) (tboth (tof (decide (x1-x2≤0))) (tof (decide (x2-x1≤0))))==1)=true
 by_cases h1:x1-x2≤0<;>by_cases h2:x1-x2≤-1<;>by_cases h3:x2-x1≤0<;>first|(exfalso;omega)|(simp only[h1,h2,h3,decide_true,decide_false];rfl)
def Dcd (S:ByteArray) (P:List UInt8):Prop :=
 (∀X,Gl X→Calls Tryz.prog 27 #[.string S,.int .i64 20000] X fun e w'=>∃pv,e=.returned (.tuple #[.agg #[.int .i64 0,.int .i64 0,.int .i64 0,.int .i64 0,.int .i64 0,.int .i64 0,pv],.int .i64 0])∧w'.ownsRow X.heap.size 9 1 pv 1 [strV P]∧Below X.heap.size X w') ∧
 (∀X,Gl X→Calls Tryz.prog 25 #[.string S,.string ⟨P.toArray⟩] X fun e w'=>e=.returned (.tuple #[.bool true,.int .i64 0])∧Below X.heap.size X w')
theorem ziD {s:ByteArray} {ys:List Sym} (hp:pars s=some ys) (hs:s.size≤4000) (hf:(uqs ys).length≤12) (hv:∀x1 x2 x3 x4,val x1 x2 x3 x4 ys=true):∃P,Dcd s P:=by
 obtain⟨h1,h2,P,h3,h4⟩:=ziH hp hf hv;have hc:cpA (pars s) 20000=((0,(0,0,0,0),[P]),0):=by
  rw[hp];unfold cpA;dsimp only;rw[if_pos (by decide),show(20000:Int).toNat=20000 from rfl];generalize prA ys 20000=x at *;obtain⟨a,b,c⟩:=x;dsimp only at h1 h2 h3;rw[h1,h2,h3]
 have hm:s.size≤maxLen:=by unfold maxLen;omega
 have hPl:P.length≤maxLen:=by
  unfold cfm at h4;rw[Bool.and_eq_true] at h4;have:=of_decide_eq_true h4.1;unfold maxLen;omega
 refine⟨P,fun X hX=>?_,fun X hX=>?_⟩
 ·have:=zea s 20000 X hX (zlW hX) hm;rw[hc] at this;exact this
 ·have:=zfc s P X hX hm hPl;rw[show fAns (pars s) P=(true,0) by rw[hp];show(cfm ys P,(0:Int))=(true,0);rw[h4]] at this;exact this
theorem zkr (w:World) (hgl:Gl w) :
 Calls Tryz.prog 17 #[] w fun e w'=>∃v,e=.returned (.tuple #[v,.bool true])∧w'.ownsRow w.heap.size 9 1 v 3 ([cF1,cS1,cT1].map strV)∧Below w.heap.size w w':=by
 have K1:Hid (∀w,Calls Tryz.prog 19 #[.string cnt,.agg #[.int .i64 0,.int .i64 2,.int .i64 0,.int .i64 0],.int .i64 9] w fun e w'=>e=.returned (.tuple #[.agg #[.int .i64 0,.int .i64 2,.int .i64 2,.int .i64 0,.int .i64 0,.int .i64 5],.int .i64 0,.int .i64 0])∧Below w.heap.size w w'):=zkq;have K2:Hid (∀w,Gl w→Calls Tryz.prog 11 #[.string cnt] w fun e w'=>∃v,e=.returned (.tuple #[v,.int .i64 0,.int .i64 0])∧w'.ownsRow w.heap.size 9 1 v 3 ([cF1,cS1,cT1].map strV)∧Below w.heap.size w w'):=fun w h=>ziC w (zlW h)
 have K3:Hid (∀w,Gl w→Calls Tryz.prog 22 #[.string ⟨cF1.toArray⟩,.agg #[.int .i64 0,.int .i64 2,.int .i64 0,.int .i64 0]] w fun e w'=>e=.returned (.tuple #[.bool true,.int .i64 0])∧Below w.heap.size w w'):=fun w h=>by
  have:=zed ⟨cF1.toArray⟩ 0 2 0 0 w h (by decide);rw[zkp] at this;exact this
 have HGL:Hid (Gl w):=hgl;go_enter Tryz.func17,Tryz.ntmps17;go_wp2_with fail;refine Calls.mono (K1.out _) ?_;rintro e w1 ⟨rfl,hb1⟩;have hW1:Below w.heap.size w (w1.alloc (.cells #[.int .i64 0,.int .i64 2,.int .i64 2,.int .i64 0,.int .i64 0,.int .i64 5] 41)):=hb1.alloc hb1.size _;have HW1:Hid _:=hW1;clear hb1;go_wp2_with fail;refine Calls.mono (K2.out _ (HGL.out.on HW1.out)) ?_;rintro e w2 ⟨v,rfl,ho,hb2⟩;have z0:w2.cell? ⟨w1.heap.size,0,none⟩=some (.int .i64 0):=(hb2.cell (p:=⟨w1.heap.size,0,none⟩) (by simp)).trans (by simp);have z1:w2.cell? ⟨w1.heap.size,1,none⟩=some (.int .i64 2):=(hb2.cell (p:=⟨w1.heap.size,1,none⟩) (by simp)).trans (by simp);have z2:w2.cell? ⟨w1.heap.size,2,none⟩=some (.int .i64 2):=(hb2.cell (p:=⟨w1.heap.size,2,none⟩) (by simp)).trans (by simp);have z3:w2.cell? ⟨w1.heap.size,3,none⟩=some (.int .i64 0):=(hb2.cell (p:=⟨w1.heap.size,3,none⟩) (by simp)).trans (by simp);have z4:w2.cell? ⟨w1.heap.size,4,none⟩=some (.int .i64 0):=(hb2.cell (p:=⟨w1.heap.size,4,none⟩) (by simp)).trans (by simp);have z5:w2.cell? ⟨w1.heap.size,5,none⟩=some (.int .i64 5):=(hb2.cell (p:=⟨w1.heap.size,5,none⟩) (by simp)).trans (by simp);have HO:Hid _:=ho;obtain⟨g,cp,rfl,hg1,hg2,hg3,hg4,hg5,hg6⟩:=zav ho (by omega);have l0:=hg5 0 (strV cF1) rfl;unfold strV at l0;have hq:=fun w=>neqS w 2 2 0 0 2 2 0 0
 have hW2:Below w.heap.size w w2:=HW1.out.trans (hb2.mono HW1.out.size);have HW2:Hid (Below w.heap.size w w2):=hW2;have HO2:Hid (w2.ownsRow w.heap.size 9 1 (.slice (some ⟨g,0,none⟩) 3 cp) 3 ([cF1,cS1,cT1].map strV)):=zbk HO.out (by have:=HW1.out.size;omega);clear HO;generalize (⟨cF1.toArray⟩:ByteArray)=SF at *;clear ho hb2 hW1 hg5 hg6;go_wp2_with fail;refine Calls.mono (K3.out _ (HGL.out.on HW2.out)) ?_;rintro e w3 ⟨rfl,hb3⟩;go_wp2_with fail
 go_ret2
 exact⟨_,rfl,zad HO2.out hb3,HW2.out.trans (hb3.mono HW2.out.size)⟩
theorem zfX (w:World) (hgl:Gl w):Calls Tryz.prog 24 #[] w fun e w'=>e=.returned (.bool true)∧Below w.heap.size w w':=by
 obtain⟨P1,D1⟩:=ziD pF (by decide) (by decide) vF;obtain⟨P2,D2⟩:=ziD pS (by decide) (by decide) vS;obtain⟨P3,D3⟩:=ziD pT (by decide) (by decide) vT;have HD:Hid (∀k,k<3→∃S P,([cF1,cS1,cT1].map strV)[k]?=some (.string S)∧Dcd S P):=fun k hk=>by
  have:k=0∨k=1∨k=2:=by omega
  rcases this with rfl|rfl|rfl
  ·exact⟨_,P1,rfl,D1⟩
  ·exact⟨_,P2,rfl,D2⟩
  ·exact⟨_,P3,rfl,D3⟩
 have CR:Hid _:=zkr w hgl;have HGL:Hid (∀X,Below w.heap.size w X→Gl X):=fun X hX=>hgl.on hX
 generalize [cF1,cS1,cT1].map strV=LL at *;clear hgl D1 D2 D3;go_enter Tryz.func24,Tryz.ntmps24;go_wp2_with fail;refine Calls.mono CR.out ?_;rintro e w1 ⟨v,rfl,ho,hb1⟩;obtain⟨g,cp,rfl,hg1,hg2,hg3,hg4,hg5,hg6⟩:=zav ho (by omega);have HC:Hid (∀X,Below w1.heap.size w1 X→∀j u,LL[j]?=some u→X.cell? ⟨g,j,none⟩=some u):=fun X hX j u hu=>(hX.cell (p:=⟨g,j,none⟩) hg2).trans (hg5 j u hu)
 have HB1:Hid _:=hb1;clear ho hg5 hg6 CR hb1;go_wp2_with fail
 go_loopw [3,4,5,6,7] (fun s3 s4 s5 s6 s7 wr=>∃k:Nat,s3=.int .i64 (k:Int)∧k≤3∧Below w1.heap.size w1 wr) (fun s3 _ _ _ _ _=>3-(intOf s3).toNat)
 case atStart=>exact⟨0,rfl,by omega,Below.refl _ _⟩
 case round =>
  obtain⟨k,rfl,hk,hbr⟩:=hrel;have hbwr:Below w.heap.size w wr:=HB1.out.trans (hbr.mono HB1.out.size);by_cases hlt:k<3
  ·have hlt':(k:Int)<3:=by omega
   obtain⟨S,P,hS,hD⟩:=HD.out k hlt;have hc:=HC.out wr hbr k _ hS;have CP:Hid _:=hD.1 wr (HGL.out wr hbwr);have HD2:Hid (∀X,Below w.heap.size w X→Calls Tryz.prog 25 #[.string S,.string ⟨P.toArray⟩] X fun e w'=>e=.returned (.tuple #[.bool true,.int .i64 0])∧Below X.heap.size X w'):=fun X hX=>hD.2 X (HGL.out X hX)
   have HCS:Hid (∀X,Below w1.heap.size w1 X→X.cell? ⟨g,k,none⟩=some (.string S)):=fun X hX=>HC.out X hX k _ hS
   have HBR:Hid _:=hbr;have HBW:Hid _:=hbwr;clear hD hS hbr hbwr;go_wp2_with fail;refine Calls.mono CP.out ?_;rintro e w2 ⟨pv,rfl,hop,hb2⟩;obtain⟨pb,pc,rfl,f1,f2,f3,f4,f5,f6⟩:=zav hop (by omega);have hp0:=f5 0 _ rfl;unfold strV at hp0;have hb12:Below w1.heap.size w1 w2:=HBR.out.trans (hb2.mono HBR.out.size);have hbw2:Below w.heap.size w w2:=HBW.out.trans (hb2.mono HBW.out.size);obtain⟨W3,hW3⟩:∃W3,w2.alloc (.cells #[.int .i64 0,.int .i64 0,.int .i64 0,.int .i64 0,.int .i64 0,.int .i64 0,.slice (some ⟨pb,0,none⟩) 1 pc] 51)=W3:=⟨_,rfl⟩
   have h23:Below w2.heap.size w2 W3:=by rw[←hW3];exact zaa w2 _
   have ha3:Blk W3 w2.heap.size 51 [.int .i64 0,.int .i64 0,.int .i64 0,.int .i64 0,.int .i64 0,.int .i64 0,.slice (some ⟨pb,0,none⟩) 1 pc]:=by rw[←hW3];exact heap_alloc_new w2 _
   have hW3':Hid (w2.alloc (.cells #[.int .i64 0,.int .i64 0,.int .i64 0,.int .i64 0,.int .i64 0,.int .i64 0,.slice (some ⟨pb,0,none⟩) 1 pc] 51)=W3):=hW3;have n0:W3.cell? ⟨w2.heap.size,0,none⟩=some (.int .i64 0):=ha3.cell rfl;have n6:W3.cell? ⟨w2.heap.size,6,none⟩=some (.slice (some ⟨pb,0,none⟩) 1 pc):=ha3.cell rfl;have np:W3.cell? ⟨pb,0,none⟩=some (.string ⟨P.toArray⟩):=(h23.cell (p:=⟨pb,0,none⟩) f2).trans hp0;have hb13:Below w1.heap.size w1 W3:=hb12.trans (h23.mono hb12.size);have hbw3:Below w.heap.size w W3:=hbw2.trans (h23.mono hbw2.size);have nc:=HCS.out W3 hb13;have CC:Hid _:=HD2.out W3.drew hbw3.drew;have HB13:Hid _:=hb13;have hl3:=ha3.lt;have hpl3:pb<W3.heap.size:=Nat.lt_of_lt_of_le f2 h23.size;have hgl3:g<W3.heap.size:=Nat.lt_of_lt_of_le hg2 hb13.size;clear hop f5 f6 hb2 hb12 hbw2 hb13 hbw3 ha3 h23 hp0 CP hW3';go_wp2_with fail;go_region_held3 (fun X=>X.cell? ⟨g,k,none⟩=some (.string S)∧X.cell? ⟨w2.heap.size,6,none⟩=some (.slice (some ⟨pb,0,none⟩) 1 pc)∧X.cell? ⟨pb,0,none⟩=some (.string ⟨P.toArray⟩)) (first|exact⟨nc,n6,np⟩|exact⟨y1,y2,y3⟩) (first|(go_at_call 25;refine Calls.mono CC.out ?_;rintro e w4 ⟨rfl,hb4⟩;have y1:=(hb4.cell (p:=⟨g,k,none⟩) hgl3).trans nc;have y2:=(hb4.cell (p:=⟨w2.heap.size,6,none⟩) hl3).trans n6;have y3:=(hb4.cell (p:=⟨pb,0,none⟩) hpl3).trans np));have HB14:Hid (Below w1.heap.size w1 w4):=(Below.drew HB13.out).trans (hb4.mono (Below.drew HB13.out).size);clear y1 y2 y3 hb4;go_wp2_with fail
   go_roundw
   case rel=>exact⟨k+1,by go_num,by omega,HB14.out⟩
   case measure=>simp[intOf];omega
  ·have hk3:k=3:=by omega
   subst hk3;have hlt':¬(((3:Nat):Int)<3):=by omega
   have HF:Hid _:=hbwr;clear hbr hbwr;go_wp2_with fail;go_ret;exact⟨rfl,HF.out⟩
theorem zm0 (ys:List Sym) (n:Int) (h0:0≤n) (h1:n≤20000):cpA (some ys) n=(prA ys n.toNat,0):=if_pos ⟨h0,h1⟩
theorem zks (q:Option Addr) (n cp:Nat) (w:World) (hgl:Gl w) (hn:n≤maxLen) (hr:RawE w q n) :
 Calls Tryz.prog 8 #[.slice q n cp] w fun e w'=>e=.returned (.bool true)∧Below w.heap.size w w':=by
 refine zkY q n cp w hgl hn hr zfX (fun es ho hl=>?_);obtain⟨hp1,hp2,ht,hf⟩:=ziI ho hl;have hor:∀a∈es.reverse,okE a:=fun a ha=>ho a (List.mem_reverse.1 ha)
 have hll:=zdi es.reverse hor;rw[List.length_reverse] at hll;have hz1:(⟨(sbs (cyS es.reverse)).toArray⟩:ByteArray).size≤maxLen:=by
  have:(⟨(sbs (cyS es.reverse)).toArray⟩:ByteArray).size=(sbs (cyS es.reverse)).length:=by simp[ByteArray.size]
  rw[this];unfold maxLen;omega
 have hz2:(⟨(33::sbs (cyS es.reverse)).toArray⟩:ByteArray).size≤maxLen:=by
  have:(⟨(33::sbs (cyS es.reverse)).toArray⟩:ByteArray).size=(sbs (cyS es.reverse)).length+1:=by simp[ByteArray.size]
  rw[this];unfold maxLen;omega
 refine⟨(prA ((2,0,0,0)::cyS es.reverse) 20000).1,(prA ((2,0,0,0)::cyS es.reverse) 20000).2.1.1,(prA ((2,0,0,0)::cyS es.reverse) 20000).2.1.2.1,(prA ((2,0,0,0)::cyS es.reverse) 20000).2.1.2.2.1,(prA ((2,0,0,0)::cyS es.reverse) 20000).2.1.2.2.2,ht,fun h=>⟨(hf h).1,fun X hX=>?_⟩,fun X hX=>?_⟩
 ·obtain⟨_,hg,hv⟩:=hf h;have h1:=zed ⟨(sbs (cyS es.reverse)).toArray⟩ (prA ((2,0,0,0)::cyS es.reverse) 20000).2.1.1 (prA ((2,0,0,0)::cyS es.reverse) 20000).2.1.2.1 (prA ((2,0,0,0)::cyS es.reverse) 20000).2.1.2.2.1 (prA ((2,0,0,0)::cyS es.reverse) 20000).2.1.2.2.2 X hX hz1;rw[hp1] at h1;generalize prA ((2,0,0,0)::cyS es.reverse) 20000=A at *;rw[show vAns (some (cyS es.reverse)) A.2.1.1 A.2.1.2.1 A.2.1.2.2.1 A.2.1.2.2.2=(true,0) by show(if gds _ _ _ _=true then _ else _)=_;rw[if_pos hg,hv]] at h1;exact h1
 ·have h1:=zea ⟨(33::sbs (cyS es.reverse)).toArray⟩ 20000 X hX (zlW hX) hz2;have hcn:cpA (some ((2,0,0,0)::cyS es.reverse)) 20000=(prA ((2,0,0,0)::cyS es.reverse) (20000:Int).toNat,0):=zm0 _ 20000 (by decide) (by decide);have h20:(20000:Int).toNat=20000:=rfl;rw[hp2,hcn,h20] at h1;refine h1.mono ?_;rintro e w' ⟨pv,rfl,ho,hb⟩;obtain⟨pa,pc,rfl⟩:=zaN ho;exact⟨pa,_,pc,rfl,hb⟩
open Go.RowKit Go.ChangeShapes Go.WideShapes Go.Deep
theorem cellsE:Tryz.prog.cellsOf 63=3:=by kernel_rfl
theorem cellsI1:Tryz.prog.cellsOf 3=1:=by kernel_rfl
theorem zfY:∃f0 f1 f2:Field,Tryz.prog.underlying 63=some (.struct #[f0,f1,f2])∧f0.type=3∧f1.type=3∧f2.type=3∧f0.offset=0∧f1.offset=1∧f2.offset=2 :=
 ⟨_,_,_,Tryz.underlying63,rfl,rfl,rfl,rfl,rfl,rfl⟩
theorem zev {x:Int} (h:(Lit.int .i64 x).wf=true):-9223372036854775808≤x∧x≤9223372036854775807:=by
 simp[Lit.wf,IntKind.bits,IntKind.signed,IntKind.min,IntKind.max] at h;omega
theorem list3 {α:Type} (l:List α) (h:l.length=3):∃a b c,l=[a,b,c]:=by
 match l,h with
 | [a,b,c],_=>exact⟨a,b,c,rfl⟩
theorem zkt {H:Type} {enc:TypeId×Value→H} {W:World} {q:Option Addr} {n cp fuel:Nat} {x:DataW H×List MemPlace}
 (h:DataW.trod enc Tryz.prog W 0 (fun _=>true) true fuel 61 [.slice q n cp]=some x):n≤maxLen∧RawE W q n:=by
 rcases open_slice Tryz.underlying61 h with⟨h0,_⟩|⟨a,len,cap,m,k,D,Pl,hcs,hb,hl,hm,hmm,_,hx⟩
 ·cases h0
  exact⟨by unfold maxLen;omega,fun j hj=>absurd hj (by omega)⟩
 ·have hcs2:=(List.cons.inj hcs).1;injection hcs2 with e1 e2 e3
  subst e1 e2 e3;have hm2:m=cp:=by rw[hmm];rfl
  have hel:∀j,j<n→∃x y z:Int,W.cell? (a.add (j*3))=some (.int .i64 x)∧W.cell? (a.add (j*3+1))=some (.int .i64 y)∧W.cell? (a.add (j*3+2))=some (.int .i64 z)∧∀u∈[x,y,z],-9223372036854775808≤u∧u≤9223372036854775807:=fun j hj=>by
   obtain⟨cs,h1,h2⟩:=hx j (by omega);rw[cellsE] at h1;obtain⟨_,hlen,hcell⟩:=World.cells?_some h1;obtain⟨f0,f1,f2,he,t0,t1,t2,o0,o1,o2⟩:=zfY;obtain⟨xs,k2,hk,hxy,_,hxl,hf⟩:=DataW.trod_struct he h2;obtain⟨y0,y1,y2,rfl⟩:=list3 xs hxl;obtain⟨v0,v1,v2,rfl⟩:=list3 cs hlen
   ·have g0:=hf 0 f0 rfl;have g1:=hf 1 f1 rfl;have g2:=hf 2 f2 rfl;rw[o0,t0,cellsI1] at g0;rw[o1,t1,cellsI1] at g1;rw[o2,t2,cellsI1] at g2;obtain⟨x0,e0,_,b0⟩:=DataW.trod_int Tryz.underlying3 (show DataW.trod enc Tryz.prog W 0 (fun _=>true) true k2 3 [v0]=some y0 from g0);obtain⟨x1,e1,_,b1⟩:=DataW.trod_int Tryz.underlying3 (show DataW.trod enc Tryz.prog W 0 (fun _=>true) true k2 3 [v1]=some y1 from g1);obtain⟨x2,e2,_,b2⟩:=DataW.trod_int Tryz.underlying3 (show DataW.trod enc Tryz.prog W 0 (fun _=>true) true k2 3 [v2]=some y2 from g2);cases e0;cases e1;cases e2
    have c0:W.cell? ((a.add (j*3)).add 0)=some (.int .i64 x0):=hcell 0 (by omega);have c1:W.cell? ((a.add (j*3)).add 1)=some (.int .i64 x1):=hcell 1 (by omega);have c2:W.cell? ((a.add (j*3)).add 2)=some (.int .i64 x2):=hcell 2 (by omega);rw[add_add] at c0 c1 c2;refine⟨x0,x1,x2,c0,c1,c2,fun u hu=>?_⟩;simp only[List.mem_cons,List.not_mem_nil,or_false] at hu;rcases hu with rfl|rfl|rfl
    ·exact zev b0
    ·exact zev b1
    ·exact zev b2
  refine⟨by omega,fun j hj=>?_⟩;obtain⟨ab,ao,sp⟩:=a;have hs:sp=none:=by
   obtain⟨x,y,z,c0,_⟩:=hel 0 (by omega);cases sp with
   | none=>rfl
   | some s =>
    simp only[Addr.add,World.cell?] at c0;split at c0
    ·simp at c0
    ·cases c0
  subst hs;obtain⟨x,y,z,c0,c1,c2,hr⟩:=hel j hj;have e:∀i,(⟨ab,ao,none⟩:Addr).add i=⟨ab,ao+i,none⟩:=fun i=>by
   unfold Addr.add;split
   ·rename_i h;rw[h,Nat.add_zero]
   ·rfl
  rw[e] at c0 c1 c2;exact⟨ab,ao,x,y,z,rfl,World.block_lt_of_cell? W _ c0,c0,by rw[Nat.add_assoc];exact c1,by rw[Nat.add_assoc];exact c2,hr⟩
end Go.Proofs.YtkinoehmcfhgbaaGreatDoor.Vl
