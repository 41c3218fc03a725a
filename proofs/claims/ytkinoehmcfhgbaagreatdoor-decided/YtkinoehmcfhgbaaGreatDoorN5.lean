/- A part of the proof. -/
import Derived.Test.YtkinoehmcfhgbaaGreatDoorQ9
import Derived.Test.YtkinoehmcfhgbaaGreatDoorShelf
import Derived.DeepKeys5
set_option linter.unusedVariables false
set_option linter.unusedSimpArgs false
set_option maxRecDepth 100000
set_option maxHeartbeats 4000000
namespace Go.Proofs.YtkinoehmcfhgbaaGreatDoor.Vl
open Go.RowKit
open Go.Sort (grow)
def nTab:String:=(Rows.listedRow.laid.map (·.1)).getD 2 ""
def Gt (w:World):Prop:=∀w',Below w.heap.size w w'→Lib.TabIs Tryz.prog w' nTab .u64 Lib.pow10Tab
theorem Gt.on {w w1:World} (h:Gt w) (hb:Below w.heap.size w w1):Gt w1:=fun w' h'=>h w' (hb.trans (h'.mono hb.size))
theorem zfG (w:World) (k:Nat) (os:Array Obj):Below w.heap.size w (grow (w.drewN k) os):=by
 have h:=below_drewN (Below.refl w.heap.size w) k;refine⟨h.os,h.tape,h.output,?_,fun j hj=>?_⟩
 ·have:(grow (w.drewN k) os).heap=(w.drewN k).heap++os:=rfl;rw[this,Array.size_append];have:=h.size;omega
 ·have:(grow (w.drewN k) os).heap=(w.drewN k).heap++os:=rfl;rw[this,Array.getElem?_append_left (by have:=h.size;omega)];exact h.block j hj
theorem zc4 (n:Int) (h0:-9223372036854775808≤n) (h1:n≤9223372036854775807) (w:World) (hg:Gt w):Calls Tryz.prog 144 #[.int .i64 n] w fun e w'=>e=.returned (.string ⟨(Lib.itoa n).toArray⟩)∧Below w.heap.size w w' :=
 (Any.strconv_Itoa Tryz.laysM171 n h0 h1 w (hg w (Below.refl _ _))).mono fun e w' ⟨he,k,os,hw⟩=>⟨he,by rw[hw];exact zfG w k os⟩
def Tw3 (w w':World) (B:Nat) (a b c:Int):Prop:=Below w.heap.size w w'∧B<w'.heap.size∧w'.cell? ⟨B,0,none⟩=some (.int .i64 a)∧w'.cell? ⟨B,1,none⟩=some (.int .i64 b)∧w'.cell? ⟨B,2,none⟩=some (.int .i64 c)
theorem Tw3.on {w X X':World} {B:Nat} {a b c:Int} (h:Tw3 w X B a b c) (hb:Below X.heap.size X X'):Tw3 w X' B a b c:=by
 obtain⟨h0,h1,h2,h3,h4⟩:=h;exact⟨h0.trans (hb.mono h0.size),Nat.lt_of_lt_of_le h1 hb.size,(hb.cell (p:=⟨B,0,none⟩) h1).trans h2,(hb.cell (p:=⟨B,1,none⟩) h1).trans h3,(hb.cell (p:=⟨B,2,none⟩) h1).trans h4⟩
theorem zij {U:Int} (h0:0≤U) (h4:U≤4):(⟨#[48,97,98,99,100]⟩:ByteArray).extract U.toNat (U+1).toNat=⟨#[lt U]⟩:=by
 have:U=0∨U=1∨U=2∨U=3∨U=4:=by omega
 rcases this with rfl|rfl|rfl|rfl|rfl<;>rfl
attribute [local go_sem high] zea
theorem zik (U V N:Int) (w:World) (hU:0≤U∧U≤4) (hV:0≤V∧V≤4) (hN:-999999≤N∧N≤999999) (hg:Gt w) :
 Calls Tryz.prog 97 #[.agg #[.int .i64 U,.int .i64 V,.int .i64 N]] w fun e w'=>e=.returned (strV (lt U::45::lt V::60::61::(Lib.itoa N++[46])))∧Below w.heap.size w w':=by
 have CI:Hid (∀X,Below w.heap.size w X→Calls Tryz.prog 144 #[.int .i64 N] X fun e w'=>e=.returned (.string ⟨(Lib.itoa N).toArray⟩)∧Below X.heap.size X w'):=fun X hX=>zc4 N (by omega) (by omega) X (hg.on hX)
 have hil:=zaU hN.1 hN.2;obtain⟨u0,u4⟩:=hU;obtain⟨v0,v4⟩:=hV;have eU:=zij u0 u4;have eV:=zij v0 v4;have w1:IntKind.i64.wrap (U+1)=U+1:=by rw[IntKind.wrap_i64];omega
 have w2:IntKind.i64.wrap (V+1)=V+1:=by rw[IntKind.wrap_i64];omega
 have b1:U≤U+1:=by omega
 have b2:U+1≤5:=by omega
 have b3:V≤V+1:=by omega
 have b4:V+1≤5:=by omega
 have b5:(0:Int)≤U+1:=by omega
 have b6:(0:Int)≤V+1:=by omega
 generalize lt U=LU at *;generalize lt V=LV at *;generalize Lib.itoa N=D at *;have q1:Sh ⟨#[LU]⟩:=by unfold Sh;show 1≤100000000;omega
 have q2:Sh ⟨#[45]⟩:=by unfold Sh;show 1≤100000000;omega
 have q3:Sh ((⟨#[LU]⟩:ByteArray)++⟨#[45]⟩):=zbT (by show 1+1≤100000000;omega);have q4:Sh ⟨#[LV]⟩:=by unfold Sh;show 1≤100000000;omega
 have q5:Sh ((⟨#[LU]⟩:ByteArray)++⟨#[45]⟩++⟨#[LV]⟩):=zbT (by rw[ByteArray.size_append'];show 1+1+1≤100000000;omega);have q6:Sh ⟨#[60,61]⟩:=by unfold Sh;show 2≤100000000;omega
 have q7:Sh ((⟨#[LU]⟩:ByteArray)++⟨#[45]⟩++⟨#[LV]⟩++⟨#[60,61]⟩):=zbT (by rw[ByteArray.size_append',ByteArray.size_append'];show 1+1+1+2≤100000000;omega);have q8:Sh ⟨D.toArray⟩:=zlJ (by omega);have hDz:(⟨D.toArray⟩:ByteArray).size=D.length:=by simp[ByteArray.size]
 have q9:Sh ((⟨#[LU]⟩:ByteArray)++⟨#[45]⟩++⟨#[LV]⟩++⟨#[60,61]⟩++⟨D.toArray⟩):=zbT (by rw[ByteArray.size_append',ByteArray.size_append',ByteArray.size_append',hDz];show 1+1+1+2+D.length≤100000000;omega);have q10:Sh ⟨#[46]⟩:=by unfold Sh;show 1≤100000000;omega
 clear hDz;go_enter Tryz.func97,Tryz.ntmps97;go_wp2_with fail;have bb0:Below w.heap.size w (w.alloc (.cells #[.int .i64 U,.int .i64 V,.int .i64 N] 134)):=zaa w _;generalize hW:(w.alloc (.cells #[.int .i64 U,.int .i64 V,.int .i64 N] 134))=W at *;have s0:w.heap.size<W.heap.size:=by rw[←hW];simp
 have c0:W.cell? ⟨w.heap.size,0,none⟩=some (.int .i64 U):=by rw[←hW];simp
 have c1:W.cell? ⟨w.heap.size,1,none⟩=some (.int .i64 V):=by rw[←hW];simp
 have c2:W.cell? ⟨w.heap.size,2,none⟩=some (.int .i64 N):=by rw[←hW];simp
 have bb1:Below w.heap.size w W.drew:=bb0.drew;have T0:Tw3 w W.drew w.heap.size U V N:=⟨bb1,s0,c0,c1,c2⟩;clear hW;go_region_held3 (fun w'=>Below w.heap.size w w'∧w.heap.size<w'.heap.size∧w'.cell? ⟨w.heap.size,0,none⟩=some (.int .i64 U)∧w'.cell? ⟨w.heap.size,1,none⟩=some (.int .i64 V)∧w'.cell? ⟨w.heap.size,2,none⟩=some (.int .i64 N)) (refine⟨?_,?_,?_,?_,?_⟩<;>assumption) (first|(go_at_call 144;refine Calls.mono (CI.out _ T0.1) ?_;rintro e w3 ⟨rfl,hb3⟩;have T1:=T0.on hb3;obtain⟨t0,t1,t2,t3,t4⟩:=id T1));go_wp2_with fail;go_ret;refine⟨?_,t0⟩;have e1:(⟨#[LU]⟩:ByteArray)++⟨#[45]⟩=⟨[LU,45].toArray⟩:=zaH [LU] [45];have e2:(⟨[LU,45].toArray⟩:ByteArray)++⟨#[LV]⟩=⟨[LU,45,LV].toArray⟩:=zaH [LU,45] [LV];have e3:(⟨[LU,45,LV].toArray⟩:ByteArray)++⟨#[60,61]⟩=⟨[LU,45,LV,60,61].toArray⟩:=zaH [LU,45,LV] [60,61];have e4:(⟨[LU,45,LV,60,61].toArray⟩:ByteArray)++⟨D.toArray⟩=⟨([LU,45,LV,60,61]++D).toArray⟩:=zaH [LU,45,LV,60,61] D;have e5:(⟨([LU,45,LV,60,61]++D).toArray⟩:ByteArray)++⟨#[46]⟩=⟨(([LU,45,LV,60,61]++D)++[46]).toArray⟩:=zaH ([LU,45,LV,60,61]++D) [46];show Ending.returned (.string ((((⟨#[LU]⟩++⟨#[45]⟩++⟨#[LV]⟩)++⟨#[60,61]⟩)++⟨D.toArray⟩)++⟨#[46]⟩))=_
 rw[e1,e2,e3,e4,e5];unfold strV;simp
theorem zil (y:Sym) (w:World) (hy:Good y) (hg:Gt w) :
 Calls Tryz.prog 60 #[.agg #[.int .i64 y.1,.int .i64 y.2.1,.int .i64 y.2.2.1,.int .i64 y.2.2.2]] w fun e w'=>e=.returned (.string ⟨(sb y).toArray⟩)∧Below w.heap.size w w':=by
 obtain⟨g0,g6,go,ga⟩:=hy;obtain⟨q,U,V,N⟩:=y;dsimp only at *;have hq:q=0∨q=1∨q=2∨q=3∨q=4∨q=5∨q=6:=by omega
 rcases hq with rfl|rfl|rfl|rfl|rfl|rfl|rfl
 iterate 6
  ·clear g0 g6 go ga;go_enter Tryz.func60,Tryz.ntmps60;go_wp2;go_ret;exact⟨rfl,zaa _ _⟩
 ·obtain⟨a1,a2,a3,a4,a5,a6,a7⟩:=ga rfl;have CA:Hid (∀X,Below w.heap.size w X→Calls Tryz.prog 97 #[.agg #[.int .i64 U,.int .i64 V,.int .i64 N]] X fun e w'=>e=.returned (.string ⟨(sb (6,U,V,N)).toArray⟩)∧Below X.heap.size X w'):=fun X hX=>zik U V N X ⟨a1,a2⟩ ⟨a3,a4⟩ ⟨a6,a7⟩ (hg.on hX)
  generalize sb (6,U,V,N)=T at *;clear g0 g6 go ga a1 a2 a3 a4 a5 a6 a7;go_enter Tryz.func60,Tryz.ntmps60;go_wp2_with fail;refine(CA.out _ (zaa _ _)).mono ?_;rintro e w1 ⟨rfl,hb1⟩;go_wp2_with fail;go_ret;exact⟨rfl,(zaa w _).trans (hb1.mono (by simp))⟩
theorem zc5:∀(l:List Sym) (j:Nat) (y:Sym),l[j]?=some y→(cells4 l)[j*4]?=some (.int .i64 y.1)∧(cells4 l)[j*4+1]?=some (.int .i64 y.2.1)∧(cells4 l)[j*4+2]?=some (.int .i64 y.2.2.1)∧(cells4 l)[j*4+3]?=some (.int .i64 y.2.2.2)
 | [],j,a,h=>by simp at h
 | x::r,0,a,h=>by simp at h;subst h;simp[cells4,cell4]
 | x::r,j+1,a,h=>by
  have:=zc5 r j a (by simpa using h);have e1:(j+1)*4=j*4+4:=by omega
  simp only[cells4,List.flatMap_cons] at *;rw[e1];refine⟨?_,?_,?_,?_⟩
  ·rw[List.getElem?_append_right (by simp[cell4])];simpa [cell4] using this.1
  ·rw[List.getElem?_append_right (by simp[cell4])];simpa [cell4,Nat.add_assoc] using this.2.1
  ·rw[List.getElem?_append_right (by simp[cell4])];simpa [cell4,Nat.add_assoc] using this.2.2.1
  ·rw[List.getElem?_append_right (by simp[cell4])];simpa [cell4,Nat.add_assoc] using this.2.2.2
theorem zjN {ys:List Sym} {k:Nat} {y:Sym} (h:ys[k]?=some y):sbs (ys.take (k+1))=sbs (ys.take k)++sb y:=by
 rw[List.take_add_one,zcd,h];simp[sbs]
theorem zfH (ys:List Sym) (k:Nat):(sbs (ys.take k)).length≤bl ys:=by
 have:bl ys=bl (ys.take k)+bl (ys.drop k):=by rw[←zlS,List.take_append_drop]
 unfold bl at *;omega
theorem zjO (a b:List UInt8):Lib.byteCells (a++b)=Lib.byteCells a++Lib.strCells ⟨b.toArray⟩:=by
 simp[Lib.byteCells,Lib.strCells]
theorem zb2 {T e:TypeId} {B b:Nat} {bs:List Value} {w w':World} (h:Lib.IsBuilder T e B b bs w) (hb:Below w.heap.size w w'):Lib.IsBuilder T e B b bs w':=by
 have key:∀p,Lib.BuilderAt T e B b p bs w→Lib.BuilderAt T e B b p bs w':=fun p h=>by
  have hlt:=h.lt;obtain⟨h1,v,h2,h3,h4⟩:=h;exact⟨h1,v,(hb.block b hlt).trans h2,zaf h3 hb,h4⟩
 rcases h with h|h
 ·exact Or.inl (key _ h)
 ·exact Or.inr (key _ h)
theorem zgs (v:Value) (ys:List Sym) (w:World) (h:CondR w v ys) (hy:∀y∈ys,Good y) (hl:bl ys≤1000000) (hn:ys.length≤1000000) (hg:Gt w) :
 Calls Tryz.prog 36 #[v] w fun e w'=>e=.returned (strV (sbs ys))∧Below w.heap.size w w':=by
 obtain⟨pa,cap,rfl⟩:=h.shape;have HC:Hid (CondR w (.slice pa ys.length cap) ys):=h;have HY:Hid (∀y∈ys,Good y):=hy;have HG:Hid (Gt w):=hg;have HFL:Hid (ys.take ys.length=ys):=List.take_length;have hb0:Lib.IsBuilder 130 5 w.heap.size w.heap.size [] (w.alloc (.cells #[.pointer none,.slice none 0 0] 130)):=Lib.fresh_isBuilder _ _ w;clear h hy hg;go_enter Tryz.func36,Tryz.ntmps36;go_wp2_with fail
 go_loopw [8] (fun iv wr=>∃k:Nat,iv=.int .i64 (k:Int)∧k≤ys.length∧Hid (Lib.IsBuilder 130 5 w.heap.size w.heap.size (Lib.byteCells (sbs (ys.take k))) wr)∧Below w.heap.size w wr) (fun iv _=>ys.length-(intOf iv).toNat)
 case atStart=>exact⟨0,rfl,Nat.zero_le _,hb0,zaa _ _⟩
 case round =>
  obtain⟨k,rfl,hk,HB,hbr⟩:=hrel;have hsl:=zfH ys k;have hwr:=hbr.size;by_cases hlt:k<ys.length
  ·have hlt':(k:Int)<(ys.length:Int):=by omega
   obtain⟨y,hys⟩:∃y,ys[k]?=some y:=⟨_,List.getElem?_eq_getElem hlt⟩
   have hgy:=HY.out y (List.mem_of_getElem? hys);have hyl:=zgb hgy;rcases HC.out with⟨_,h0⟩|⟨p,cap',hv,h2,h3,h4,h5,_⟩
   ·rw[h0] at hlt;simp at hlt
   cases hv
   obtain⟨q0,q1,q2,q3⟩:=zc5 ys k y hys;have z0:=(hbr.cell (p:=⟨p,0+k*4,none⟩) h4).trans (h5 (k*4) _ q0);have z1:=(hbr.cell (p:=⟨p,0+(k*4+1),none⟩) h4).trans (h5 (k*4+1) _ q1);have z2:=(hbr.cell (p:=⟨p,0+(k*4+2),none⟩) h4).trans (h5 (k*4+2) _ q2);have z3:=(hbr.cell (p:=⟨p,0+(k*4+3),none⟩) h4).trans (h5 (k*4+3) _ q3);simp only[Nat.zero_add] at z0 z1 z2 z3;have HT:Hid (sbs (ys.take (k+1))=sbs (ys.take k)++sb y):=zjN hys;have CT:Hid (∀X,Below w.heap.size w X→Calls Tryz.prog 60 #[.agg #[.int .i64 y.1,.int .i64 y.2.1,.int .i64 y.2.2.1,.int .i64 y.2.2.2]] X fun e w'=>e=.returned (.string ⟨(sb y).toArray⟩)∧Below X.heap.size X w'):=fun X hX=>zil y X hgy (HG.out.on hX)
   have CW:Hid (∀X,Lib.IsBuilder 130 5 w.heap.size w.heap.size (Lib.byteCells (sbs (ys.take k))) X→w.heap.size≤X.heap.size→Calls Tryz.prog 59 #[.pointer (some ⟨w.heap.size,0,none⟩),.string ⟨(sb y).toArray⟩] X fun e w'=>e=.returned (.tuple #[.int .i64 ((⟨(sb y).toArray⟩:ByteArray).size),.nilIface])∧Lib.IsBuilder 130 5 w.heap.size w.heap.size (Lib.byteCells (sbs (ys.take (k+1)))) w'∧Below w.heap.size X w'):=fun X hX hs=>by
    refine(zdA w.heap.size w.heap.size _ ⟨(sb y).toArray⟩ X hX (by rw[Lib.byteCells_length];simp[ByteArray.size];omega) hs).mono ?_;rintro e w' ⟨h1,h2,h3⟩;refine⟨h1,Or.inr ?_,h3⟩;rw[HT.out,zjO];exact h2
   have HBB:Hid _:=HB.out;clear hys hgy h5 q0 q1 q2 q3 HT;generalize sbs (ys.take k)=TK at *;generalize hTK1:sbs (ys.take (k+1))=TK1 at *;generalize sb y=SY at *;obtain⟨y1,y2,y3,y4⟩:=y;dsimp only at z0 z1 z2 z3 CT;go_wp2_with fail;refine(CT.out _ (hbr.alloc hwr _)).mono ?_;rintro e w2 ⟨rfl,hb2⟩;have hB2:Below w.heap.size w w2:=(hbr.alloc hwr _).trans (hb2.mono (by simp;omega));have hI2:=zb2 (zb2 HBB.out (zaa wr _)) hb2;have HI2:Hid _:=hI2;clear hb2 hI2;go_wp2_with fail;refine(CW.out _ HI2.out hB2.size).mono ?_;rintro e w3 ⟨rfl,hI3,hb3⟩;go_wp2_with fail
   go_roundw
   case rel=>exact⟨k+1,by go_num,by omega,by rw[hTK1];exact hI3,hB2.trans hb3⟩
   case measure=>simp[intOf];omega
  ·have hke:k=ys.length:=by omega
   subst hke;have hlt':¬(ys.length:Int)<(ys.length:Int):=by omega
   have hBB:=HB.out;rw[HFL.out] at hBB;have CS:Hid (Calls Tryz.prog 61 #[.pointer (some ⟨w.heap.size,0,none⟩)] wr fun e w'=>e=.returned (.string ⟨(sbs ys).toArray⟩)∧Below w.heap.size wr w'):=Any.Builder_String_any Tryz.lays169 Tryz.Builder_Extra_169 w.heap.size w.heap.size (sbs ys) wr hBB hwr;clear hBB HB;generalize hS:sbs ys=S at *;go_wp2_with fail;refine Calls.mono CS.out ?_;rintro e w2 ⟨rfl,hb2⟩;go_wp2_with fail;go_ret;exact⟨by rw[hS];rfl,hbr.trans hb2⟩
def tnot (t:Int):Int:=if t=1 then 2 else if t=2 then 1 else 0
def tboth (t u:Int):Int:=if t=2∨u=2 then 2 else if t=1∧u=1 then 1 else 0
def teith (t u:Int):Int:=tnot (tboth (tnot t) (tnot u))
def tof (b:Bool):Int:=if b then 1 else 2
def T3 (t:Int):Prop:=t=0∨t=1∨t=2
theorem zbj (t:Int):T3 (tnot t):=by
 unfold T3 tnot;split;· omega
 ·split<;>omega
theorem zek (t u:Int):T3 (tboth t u):=by
 unfold T3 tboth;split;· omega
 ·split<;>omega
theorem zl3 (b:Bool):T3 (tof b):=by cases b<;>simp[T3,tof]
def tval (kn:Atm→Int) (y:Sym) (t u:Int):Int :=
 if y.1=0 then 1 else if y.1=2 then tnot t else if y.1=3 then tboth t u else if y.1=4 then teith t u else if y.1=5 then teith (tnot t) u else if y.1=6 then kn y.2 else 2
def tst (kn:Atm→Int) (y:Sym) (st:List Int):List Int:=tval kn y (st.headD 0) (st.tail.headD 0)::st.drop (prt y.1).toNat
def trun (kn:Atm→Int) (ys:List Sym):List Int:=ys.foldr (tst kn) []
theorem zaM (kn:Atm→Int) (y:Sym) (r:List Sym):trun kn (y::r)=tst kn y (trun kn r):=rfl
theorem zli {kn:Atm→Int} (hk:∀a,T3 (kn a)) (y:Sym) (t u:Int):T3 (tval kn y t u):=by
 unfold tval;split;· right;left;rfl
 split;· exact zbj _
 split;· exact zek _ _
 split;· exact zbj _
 split;· exact zbj _
 split;· exact hk _
 right;right;rfl
theorem zc6 {kn:Atm→Int} (hk:∀a,T3 (kn a)):∀(ys:List Sym),∀x∈trun kn ys,T3 x
 | [],x,h=>by cases h
 | y::r,x,h=>by
  rw[zaM] at h;unfold tst at h;rcases List.mem_cons.1 h with rfl|h
  ·exact zli hk _ _ _
  ·exact zc6 hk r x (List.mem_of_mem_drop h)
theorem zfI (kn:Atm→Int):∀ys:List Sym,(trun kn ys).length≤ys.length
 | []=>Nat.le_refl _
 | y::r=>by
  have h2:=zfI kn r;rw[zaM,List.length_cons];unfold tst;simp;omega
theorem zb3 {s:ByteArray} (kn:Atm→Int):∀(ys:List Sym) (k:Nat) (m:Int) (ps:List Nat),Pos s k m ys ps→0≤m→((trun kn ys).length:Int)=m
 | [],k,m,ps,h,_=>by obtain⟨_,_,rfl⟩:=h;rfl
 | y::r,k,m,ps,h,hm=>by
  obtain⟨j,ps',rfl,hk,hm0,hs,hp⟩:=h;have hpr:=zaZ y.1;have ih:=zb3 kn r (k+j) _ ps' hp (by omega);rw[zaM];unfold tst;rw[List.length_cons,List.length_drop];omega
theorem zfJ {s:ByteArray} (kn:Atm→Int):∀(ys:List Sym) (k:Nat) (m:Int) (ps:List Nat),Pos s k m ys ps→0≤m→∀n,n<ys.length →
 ∃y,ys[n]?=some y∧0≤y.1∧y.1≤6∧(y.1=6→okA y.2)∧prt y.1≤(trun kn (ys.drop (n+1))).length
 | [],k,m,ps,h,_=>by intro n hn;simp at hn
 | y::r,k,m,ps,h,hm=>by
  have hok:=zi9 (y::r) k m ps h;obtain⟨j,ps',rfl,hk,hm0,hs,hp⟩:=h;have hpr:=zaZ y.1;intro n hn;cases n with
  | zero =>
   have:=zb3 kn r (k+j) _ ps' hp (by omega);have hr:=zcm hk hs;exact⟨y,rfl,hr.1,hr.2,hok y (by simp),by simp only[Nat.zero_add,List.drop_succ_cons,List.drop_zero];omega⟩
  | succ n =>
   obtain⟨z,h1,h2,h3,h4,h5⟩:=zfJ kn r (k+j) _ ps' hp (by omega) n (by simpa using hn);exact⟨z,by simpa using h1,h2,h3,h4,by simpa using h5⟩
def dt (t:Int):Int:=if t=0 then 2 else if t=1 then 1 else 0
theorem zl4 (t:Int) (h:T3 t):(if dt t<2 then 1-dt t else dt t)=dt (tnot t):=by rcases h with rfl|rfl|rfl<;>rfl
theorem zl5 (t u:Int) (h:T3 t) (k:T3 u):tbl 38 (dt t) (dt u)=dt (tboth t u):=by rcases h with rfl|rfl|rfl<;>rcases k with rfl|rfl|rfl<;>rfl
theorem zmN (t u:Int) (h:T3 t) (k:T3 u):tbl 124 (dt t) (dt u)=dt (teith t u):=by rcases h with rfl|rfl|rfl<;>rcases k with rfl|rfl|rfl<;>rfl
theorem zl6 (t u:Int) (h:T3 t) (k:T3 u):tbl 62 (dt t) (dt u)=dt (teith (tnot t) u):=by rcases h with rfl|rfl|rfl<;>rcases k with rfl|rfl|rfl<;>rfl
theorem zlj (kn:Atm→Int) (ls:List Atm) (bs:List Int) (y:Sym) (st:List Int) (h3:∀x∈st,T3 x) (h0:0≤y.1) (h6:y.1≤6) (hd:prt y.1≤st.length)
 (ha:y.1=6→bs.getD (nmb ls y.2 0).toNat 0=dt (kn y.2)):wst ls bs y (st.map dt)=(tst kn y st).map dt:=by
 obtain⟨q,a⟩:=y;dsimp only at *;have hq:q=0∨q=1∨q=6∨q=2∨q=3∨q=4∨q=5:=by omega
 rcases hq with rfl|rfl|rfl|rfl|rfl|rfl|rfl
 ·rfl
 ·rfl
 ·show bs.getD (nmb ls a 0).toNat 0::st.map dt=dt (kn a)::st.map dt
  rw[ha rfl]
 ·match st,hd,h3 with
  | [],h,_=>exact absurd h (by decide)
  | x::r,_,h3 =>
   show(if dt x<2 then 1-dt x else dt x)::r.map dt=dt (tnot x)::r.map dt
   rw[zl4 x (h3 x (by simp))]
 ·match st,hd,h3 with
  | [],h,_=>exact absurd h (by decide)
  | [x],h,_=>simp[prt] at h
  | x::z::r,_,h3 =>
   show tbl 38 (dt x) (dt z)::r.map dt=dt (tboth x z)::r.map dt
   rw[zl5 x z (h3 x (by simp)) (h3 z (by simp))]
 ·match st,hd,h3 with
  | [],h,_=>exact absurd h (by decide)
  | [x],h,_=>simp[prt] at h
  | x::z::r,_,h3 =>
   show tbl 124 (dt x) (dt z)::r.map dt=dt (teith x z)::r.map dt
   rw[zmN x z (h3 x (by simp)) (h3 z (by simp))]
 ·match st,hd,h3 with
  | [],h,_=>exact absurd h (by decide)
  | [x],h,_=>simp[prt] at h
  | x::z::r,_,h3 =>
   show tbl 62 (dt x) (dt z)::r.map dt=dt (teith (tnot x) z)::r.map dt
   rw[zl6 x z (h3 x (by simp)) (h3 z (by simp))]
theorem ze1 {s:ByteArray} {kn:Atm→Int} (hk3:∀a,T3 (kn a)) (ls:List Atm) (bs:List Int):∀(ys:List Sym) (k:Nat) (m:Int) (ps:List Nat),Pos s k m ys ps→0≤m →
 (∀y∈ys,y.1=6→bs.getD (nmb ls y.2 0).toNat 0=dt (kn y.2))→wrun ls bs ys=(trun kn ys).map dt
 | [],k,m,ps,h,_,_=>rfl
 | y::r,k,m,ps,h,hm,ha=>by
  obtain⟨j,ps',rfl,hk,hm0,hs,hp⟩:=h;have hpr:=zaZ y.1;have hr:=zcm hk hs;have hl:=zb3 kn r (k+j) _ ps' hp (by omega);rw[zi7,zaM,ze1 hk3 ls bs r (k+j) _ ps' hp (by omega) (fun z hz=>ha z (by simp[hz]))];exact zlj kn ls bs y _ (zc6 hk3 r) hr.1 hr.2 (by omega) (ha y (by simp))
theorem zgZ {s:ByteArray} {ys:List Sym} {kn:Atm→Int} (hk3:∀a,T3 (kn a)) (h:pars s=some ys) (bs:List Int) (hb:∀a∈uqs ys,bs.getD (nmb (uqs ys) a 0).toNat 0=dt (kn a)) :
 ∃t,T3 t∧trun kn ys=[t]∧wrun (uqs ys) bs ys=[dt t]:=by
 obtain⟨hs,hp,_,_⟩:=zaB h;obtain⟨ps,hps⟩:=zcy s ys 0 1 (Nat.zero_le _) hp;have hl:=zb3 kn ys 0 1 ps hps (by omega);have hw:=ze1 hk3 (uqs ys) bs ys 0 1 ps hps (by omega) (fun y hy h6=>hb y.2 ((zdw ys []).2 y hy h6));have ht:=zc6 hk3 ys
 match hb:trun kn ys,hl,ht with
 | [],h,_=>simp at h
 | [t],_,ht=>exact⟨t,ht t (by simp),rfl,by rw[hw,hb];rfl⟩
 | x::z::r,h,_=>simp at h;omega
theorem zcI {s:ByteArray} {ys:List Sym} (x1 x2 x3 x4:Int) (h:pars s=some ys):∃t,T3 t∧trun (fun a=>tof (hld x1 x2 x3 x4 a)) ys=[t]∧val x1 x2 x3 x4 ys=(t==1):=by
 obtain⟨t,h1,h2,h3⟩:=zgZ (kn:=fun a=>tof (hld x1 x2 x3 x4 a)) (fun a=>zl3 _) h (bys x1 x2 x3 x4 (uqs ys)) (fun a ha=>by
  have hg:=zdy (uqs ys) a 0 ha;rw[Int.sub_zero] at hg;unfold bys;rw[List.getD_eq_getElem?_getD,List.getElem?_map,hg];show bi (hld x1 x2 x3 x4 a)=dt (tof (hld x1 x2 x3 x4 a))
  cases hld x1 x2 x3 x4 a<;>rfl)
 refine⟨t,h1,h2,?_⟩;unfold val;rw[h3];rcases h1 with rfl|rfl|rfl<;>rfl
theorem zfK (b:Bool) (w:World):Calls Tryz.prog 78 #[.bool b] w fun e w'=>e=.returned (.int .i8 (tof b))∧w=w':=by
 cases b
 all_goals
  go_enter Tryz.func78,Tryz.ntmps78;go_wp2;go_ret;exact⟨rfl,rfl⟩
theorem zbB (t:Int) (h:T3 t) (w:World):Calls Tryz.prog 167 #[.int .i8 t] w fun e w'=>e=.returned (.int .i8 (tnot t))∧w=w':=by
 rcases h with rfl|rfl|rfl
 all_goals
  go_enter Tryz.func167,Tryz.ntmps167;go_wp2;go_ret;exact⟨rfl,rfl⟩
theorem zb4 (t u:Int) (h:T3 t) (k:T3 u) (w:World):Calls Tryz.prog 168 #[.int .i8 t,.int .i8 u] w fun e w'=>e=.returned (.int .i8 (tboth t u))∧w=w':=by
 rcases h with rfl|rfl|rfl<;>rcases k with rfl|rfl|rfl
 all_goals
  go_enter Tryz.func168,Tryz.ntmps168;go_wp2;go_ret;exact⟨rfl,rfl⟩
theorem zc7 (t u:Int) (h:T3 t) (k:T3 u) (w:World):Calls Tryz.prog 169 #[.int .i8 t,.int .i8 u] w fun e w'=>e=.returned (.int .i8 (teith t u))∧w=w':=by
 have CN:Hid (∀t w,T3 t→Calls Tryz.prog 167 #[.int .i8 t] w fun e w'=>e=.returned (.int .i8 (tnot t))∧w=w'):=fun t w h=>zbB t h w
 have CB:Hid (∀t u w,T3 t→T3 u→Calls Tryz.prog 168 #[.int .i8 t,.int .i8 u] w fun e w'=>e=.returned (.int .i8 (tboth t u))∧w=w'):=fun t u w h k=>zb4 t u h k w
 have HT:Hid (T3 t):=h;have HU:Hid (T3 u):=k;clear h k;go_enter Tryz.func169,Tryz.ntmps169;go_wp2_with (first
  | (go_at_call 167;refine(CN.out _ _ (by first|exact HT.out|exact HU.out|exact zek _ _)).mono ?_;rintro e w' ⟨rfl,rfl⟩)
  | (go_at_call 168;refine(CB.out _ _ _ (zbj _) (zbj _)).mono ?_;rintro e w' ⟨rfl,rfl⟩))
 go_ret;exact⟨rfl,rfl⟩
theorem zdW (k:Int) (w:World):Calls Tryz.prog 76 #[.int .i64 k] w fun e w'=>e=.returned (.int .i64 (prt k))∧w=w':=by
 by_cases h2:k=2
 ·subst h2;go_enter Tryz.func76,Tryz.ntmps76;go_wp2;go_ret;exact⟨rfl,rfl⟩
 by_cases h3:k=3
 ·subst h3;go_enter Tryz.func76,Tryz.ntmps76;go_wp2;go_ret;exact⟨rfl,rfl⟩
 by_cases h4:k=4
 ·subst h4;go_enter Tryz.func76,Tryz.ntmps76;go_wp2;go_ret;exact⟨rfl,rfl⟩
 by_cases h5:k=5
 ·subst h5;go_enter Tryz.func76,Tryz.ntmps76;go_wp2;go_ret;exact⟨rfl,rfl⟩
 ·have e:prt k=0:=by unfold prt;simp[h2,h3,h4,h5]
  go_enter Tryz.func76,Tryz.ntmps76;go_wp2;go_ret;exact⟨by rw[e];rfl,rfl⟩
def Syms (n0:Nat) (w:World) (v:Value) (ys:List Sym):Prop :=
 ∃b cap,v=.slice (some ⟨b,0,none⟩) ys.length cap∧b<n0∧∀j y,ys[j]?=some y→w.cell? ⟨b,j*4,none⟩=some (.int .i64 y.1)∧w.cell? ⟨b,j*4+1,none⟩=some (.int .i64 y.2.1)∧w.cell? ⟨b,j*4+2,none⟩=some (.int .i64 y.2.2.1)∧w.cell? ⟨b,j*4+3,none⟩=some (.int .i64 y.2.2.2)
theorem Syms.below {n0:Nat} {w w':World} {v:Value} {ys:List Sym} (h:Syms n0 w v ys) (hb:Below n0 w w'):Syms n0 w' v ys:=by
 obtain⟨b,cap,h1,h2,h3⟩:=h;exact⟨b,cap,h1,h2,fun j y hy=>⟨(hb.cell (p:=⟨b,j*4,none⟩) h2).trans (h3 j y hy).1,(hb.cell (p:=⟨b,j*4+1,none⟩) h2).trans (h3 j y hy).2.1,(hb.cell (p:=⟨b,j*4+2,none⟩) h2).trans (h3 j y hy).2.2.1,(hb.cell (p:=⟨b,j*4+3,none⟩) h2).trans (h3 j y hy).2.2.2⟩⟩
theorem Syms.more {n0 n1:Nat} {w:World} {v:Value} {ys:List Sym} (h:Syms n0 w v ys) (hn:n0≤n1):Syms n1 w v ys:=by
 obtain⟨b,cap,h1,h2,h3⟩:=h;exact⟨b,cap,h1,Nat.lt_of_lt_of_le h2 hn,h3⟩
def tv8 (t:Int):Value:=.int .i8 t
theorem zb5 (st:List Int) (p:Nat) (hp:p≤st.length) (V:Int):((V::st.drop p).reverse.map tv8)=(st.reverse.map tv8).take (st.length-p)++[tv8 V]:=by
 rw[List.reverse_cons,List.map_append,←List.map_take,List.take_reverse,show st.length-(st.length-p)=p by omega];rfl
theorem Tryz.infoTruth:(Tryz.prog.info? 159).map (fun i=>(i.zero,i.size,i.bytes))=some (some (.int .i8 0),1,1):=by kernel_rfl
theorem zdX (x:Int):∀u∈[Value.int .i8 x],u.oneCell'=true:=by
 intro u hu;simp at hu;subst hu;rfl
open Go.RowKit Go.Maps
theorem lawA:WideMaps.KeyLaw Tryz.prog 134:=deep_law_laid (by kernel_rfl) (m:=3) (by omega) (of_decide_eq_true (by kernel_rfl)) (by kernel_rfl) (by kernel_rfl)
theorem keyedA:Keyed Tryz.prog 134:=Keyed.of_law lawA
def avV (a:Atm):Value:=.agg #[.int .i64 a.1,.int .i64 a.2.1,.int .i64 a.2.2]
theorem zel (a:Atm) (h:okA a):∃l,keyOf Tryz.prog 134 (avV a)=some l:=by
 obtain⟨a1,a2,a3⟩:=a;unfold okA at h;dsimp only at h;have w1:(Lit.int .i64 a1).wf=true:=by simp[Lit.wf,IntKind.wrap,IntKind.bits,IntKind.signed,IntKind.min,IntKind.max];omega
 have w2:(Lit.int .i64 a2).wf=true:=by simp[Lit.wf,IntKind.wrap,IntKind.bits,IntKind.signed,IntKind.min,IntKind.max];omega
 have w3:(Lit.int .i64 a3).wf=true:=by simp[Lit.wf,IntKind.wrap,IntKind.bits,IntKind.signed,IntKind.min,IntKind.max];omega
 have k1:Tryz.prog.keyType 134=true:=by kernel_rfl
 have k2:(Value.agg #[.int .i64 a1,.int .i64 a2,.int .i64 a3]).formed Tryz.prog 134=true:=by kernel_rfl
 have k3:∃d,Tryz.prog.types.size=d+1:=⟨Tryz.prog.types.size-1,by have:0<Tryz.prog.types.size:=of_decide_eq_true (by kernel_rfl);omega⟩
 obtain⟨d,hd⟩:=k3;have k4:Tryz.prog.keyLits (Tryz.prog.types.size+1) 134 [.int .i64 a1,.int .i64 a2,.int .i64 a3]=some [.int .i64 a1,.int .i64 a2,.int .i64 a3]:=by
  rw[hd];have e1:Tryz.prog.cellsOf 134=3:=by kernel_rfl
  have e2:Tryz.prog.cellsOf 132=1:=by kernel_rfl
  have e3:Tryz.prog.cellsOf 3=1:=by kernel_rfl
  simp[Program.keyLits,e1,e2,e3,Tryz.underlying134,Tryz.underlying132,Tryz.underlying3,w1,w2,w3]
 unfold keyOf avV;rw[Tryz.underlying134];dsimp only;rw[if_pos (by rw[k1,k2];rfl),show(Value.agg #[.int .i64 a1,.int .i64 a2,.int .i64 a3]).cells.toList=[.int .i64 a1,.int .i64 a2,.int .i64 a3] from rfl,k4];exact⟨_,rfl⟩
def AM (w:World) (b n:Nat) (f:Atm→Int):Prop:=∃D:DataW Unit,w.ownsMap Tryz.prog 134 (plainElem Tryz.prog 159) b n D∧IsMap D∧∀a l,okA a→keyOf Tryz.prog 134 (avV a)=some l→D.atKey l (.lit (.int .i8 0))=.lit (.int .i8 (f a))
theorem AM.made (w:World):AM (w.alloc (.map #[] 0)) w.heap.size 0 (fun _=>0):=⟨.map [],World.ownsMap_made _ _ _ _,⟨_,rfl⟩,fun a l _ _=>rfl⟩
theorem AM.kept {w w':World} {b n:Nat} {f:Atm→Int} {row:Option Nat} (h:AM w b n f) (hg:w.grownBy w' row) (hne:some b≠row):AM w' b n f:=by
 obtain⟨D,h1,h2,h3⟩:=h;exact⟨D,h1.kept hg hne,h2,h3⟩
theorem AM.lt {w:World} {b n:Nat} {f:Atm→Int} (h:AM w b n f):b<w.heap.size:=by
 obtain⟨D,h1,_⟩:=h;exact h1.lt
theorem AM.look {w:World} {b n:Nat} {f:Atm→Int} (h:AM w b n f) (a:Atm) (ha:okA a):(Instr.lookup 170 (.map (some b)) (avV a) false).run Tryz.prog w=.ok (.int .i8 (f a)) w:=by
 obtain⟨D,h1,_,h3⟩:=h;obtain⟨l,hl⟩:=zel a ha;obtain⟨c,hrun,hat,_⟩:=h1.lookup_int keyedA Tryz.underlying170 Tryz.underlying159 (Tryz.zeroValue159 w) hl;have:=(h3 a l ha hl).symm.trans hat;injection this with e1
 injection e1 with e2 e3
 rw[hrun,e3]
theorem zim {a b:Atm} {l:Lit} (h1:keyOf Tryz.prog 134 (avV a)=some l) (h2:keyOf Tryz.prog 134 (avV b)=some l):a=b:=by
 have:=lawA.inj h1 h2;unfold avV at this;obtain⟨a1,a2,a3⟩:=a;obtain⟨b1,b2,b3⟩:=b;simpa using this
def putA (f:Atm→Int) (a:Atm) (t:Int):Atm→Int:=fun x=>if x=a then t else f x
theorem wf8 {t:Int} (h:T3 t):(Lit.int .i8 t).wf=true:=by rcases h with rfl|rfl|rfl<;>decide
theorem AM.put {w:World} {b n:Nat} {f:Atm→Int} (h:AM w b n f) (a:Atm) (ha:okA a) (t:Int) (ht:T3 t) (hn:n<maxLen) :
 ∃w',(Instr.mapUpdate 170 (.map (some b)) (avV a) (.int .i8 t)).run Tryz.prog w=.ok () w'∧AM w' b (n+1) (putA f a t)∧w.grownBy w' (some b):=by
 obtain⟨D,h1,h2,h3⟩:=h;obtain⟨l,hl⟩:=zel a ha;obtain⟨w',r1,r2,r3⟩:=h1.update keyedA Tryz.underlying170 hn hl (plainElem_int Tryz.underlying159 (wf8 ht));refine⟨w',r1,⟨_,r2,?_,fun x lx hx hlx=>?_⟩,r3⟩
 ·exact h2.put _ _
 ·unfold putA;by_cases e:x=a
  ·subst e;obtain rfl:l=lx:=Option.some.inj (hl.symm.trans hlx);rw[if_pos rfl,atKey_put_same h2 (keyedA.key hl)]
  ·rw[if_neg e,atKey_put_other (fun e2=>e (zim (by rw[hlx,e2]) hl))];exact h3 x lx hx hlx
theorem AM.del {w:World} {b n:Nat} {f:Atm→Int} (h:AM w b n f) (a:Atm) (ha:okA a) (ty:TypeId) :
 ∃w',(Builtin.delete_ #[170,134] ty #[.map (some b),avV a]).run Tryz.prog w=.ok (.tuple #[]) w'∧AM w' b n (putA f a 0)∧w.grownBy w' (some b):=by
 obtain⟨D,h1,h2,h3⟩:=h;obtain⟨l,hl⟩:=zel a ha;obtain⟨es,clock,hb,F,hs,rfl⟩:=h1;obtain⟨es',hrun,F',hsz,hdel,_⟩:=Maps.fit_drop (ty:=ty) keyedA Tryz.underlying170 hb F hl;refine⟨_,hrun,⟨_,⟨es',clock,Go.ChangeMaps.heap_setBlock_same hb _,F',Nat.le_trans hsz hs,rfl⟩,⟨_,rfl⟩,fun x lx hx hlx=>?_⟩,⟨rfl,rfl,rfl,by simp[ChangeMaps.setBlock],fun i _ hi=>Go.ChangeMaps.heap_setBlock_other hb _ (fun e=>hi (by rw[e]))⟩⟩;have ed:(DataW.map ((es'.toList.map (WideElems.rg Tryz.prog 134 (plainElem Tryz.prog 159))).foldr DataW.insert []):DataW Unit)=(DataW.map ((es.toList.map (WideElems.rg Tryz.prog 134 (plainElem Tryz.prog 159))).foldr DataW.insert [])).del l:=by
  rw[hdel];rfl
 rw[ed];unfold putA;by_cases e:x=a
 ·subst e;obtain rfl:l=lx:=Option.some.inj (hl.symm.trans hlx);rw[if_pos rfl,atKey_del_same]
 ·rw[if_neg e,atKey_del_other (fun e2=>e (zim (by rw[hlx,e2]) hl))];exact h3 x lx hx hlx
theorem AM.clear {w:World} {b n:Nat} {f:Atm→Int} (h:AM w b n f) (ty:TypeId) :
 ∃w',(Builtin.clear_ #[170] ty #[.map (some b)]).run Tryz.prog w=.ok (.tuple #[]) w'∧AM w' b 0 (fun _=>0)∧w.grownBy w' (some b):=by
 obtain⟨D,h1,h2,h3⟩:=h;obtain⟨es,clock,hb,F,hs,rfl⟩:=h1;refine⟨ChangeMaps.setBlock w b (.map #[] clock),?_,⟨_,⟨#[],clock,Go.ChangeMaps.heap_setBlock_same hb _,?_,Nat.le_refl _,rfl⟩,⟨_,rfl⟩,fun x lx hx hlx=>rfl⟩,⟨rfl,rfl,rfl,by simp[ChangeMaps.setBlock],fun i _ hi=>Go.ChangeMaps.heap_setBlock_other hb _ (fun e=>hi (by rw[e]))⟩⟩
 ·simp[Builtin.clear_,run_underlying Tryz.underlying170,MapKept.run_getObj_map hb,MapKept.run_setObj_map _ hb,Result.andThen,ChangeMaps.setBlock]
 ·exact⟨by simp,MapKept.stamped_empty _,by simp⟩
def fig (N:Nat) (l:List UInt8):Option (Nat×List UInt8) :=
 if 0≤dg 4000 (l.take (dlen l))∧dg 4000 (l.take (dlen l))<(N:Int) then some ((dg 4000 (l.take (dlen l))).toNat,l.drop (dlen l)) else none
theorem zkI {N:Nat} {l:List UInt8} {n:Nat} {r:List UInt8} (h:fig N l=some (n,r)):n<N∧r=l.drop (dlen l)∧(n:Int)=dg 4000 (l.take (dlen l)):=by
 unfold fig at h;split at h
 ·rename_i hc
  injection h with h
  injection h with h1 h2
  exact⟨by omega,h2.symm,by omega⟩
 ·cases h
theorem zem {N:Nat} {l:List UInt8} {n:Nat} {r:List UInt8} (h:fig N l=some (n,r)):r.length≤l.length:=by
 rw[(zkI h).2.1,List.length_drop];omega
def ifA (a:Atm) (t:Int):Atm:=if t=2 then (a.2.1,a.1,-a.2.2-1) else a
def lks (us:List Atm) (f:Atm→Int):Nat→List UInt8→Option (List Atm×List UInt8)
 | 0,_=>none
 | k+1,l =>
  match fig us.length l with
  | none=>none
  | some (n,[])=>none
  | some (n,c::r) =>
   if f (us.getD n (0,0,0))=0 then none
   else if c=44 then (lks us f k r).map fun q=>(ifA (us.getD n (0,0,0)) (f (us.getD n (0,0,0)))::q.1,q.2)
   else if c=59 then some ([ifA (us.getD n (0,0,0)) (f (us.getD n (0,0,0)))],r)
   else none
def chn:Atm→List Atm→Bool
 | _,[]=>true
 | last,x::r=>last.2.1==x.1&&chn x r
def smB (ats:List Atm):Int:=(ats.map fun a=>a.2.2).sum
def cyc (ats:List Atm):Bool:=chn (ats.getLastD (0,0,0)) ats&&decide (smB ats<0)
def chk (us:List Atm) (ys:List Sym):Nat→(Atm→Int)→List UInt8→Option (List UInt8)
 | 0,_,_=>none
 | k+1,f,l =>
  match l with
  | []=>none
  | c::r =>
   if c=46 then (if (trun f ys).headD 0=1 then some r else none)
   else if c=33 then (match lks us f (r.length+1) r with
    | some (ats,r')=>if cyc ats then some r' else none
    | none=>none)
   else if c=63 then (match fig us.length r with
    | none=>none
    | some (n,[])=>none
    | some (n,d::r1)=>if f (us.getD n (0,0,0))=0∧d=58 then
     (match chk us ys k (putA f (us.getD n (0,0,0)) 1) r1 with | none=>none | some r2=>chk us ys k (putA f (us.getD n (0,0,0)) 2) r2)
     else none)
   else none
theorem zen {us:List Atm} {f:Atm→Int}:∀(k:Nat) (l:List UInt8) (ats:List Atm) (r:List UInt8),lks us f k l=some (ats,r)→r.length<l.length∧ats≠[]∧ats.length≤l.length
 | 0,l,ats,r,h=>by cases h
 | k+1,l,ats,r,h=>by
  unfold lks at h;split at h
  ·cases h
  ·cases h
  ·rename_i n c r' hf
   have h1:=zem hf;simp only[List.length_cons] at h1;split at h
   ·cases h
   ·split at h
    ·obtain⟨⟨ats',r2⟩,h2,h3⟩:=Option.map_eq_some_iff.1 h;injection h3 with h4 h5
     subst h4 h5;have:=zen k r' ats' r2 h2;simp only[List.length_cons];exact⟨by omega,by simp,by omega⟩
    ·split at h
     ·injection h with h
      injection h with h4 h5
      subst h4 h5;exact⟨by omega,by simp,by simp;omega⟩
     ·cases h
theorem zfL {us:List Atm} {ys:List Sym}:∀(k:Nat) (f:Atm→Int) (l r:List UInt8),chk us ys k f l=some r→r.length<l.length
 | 0,f,l,r,h=>by cases h
 | k+1,f,l,r,h=>by
  unfold chk at h;split at h
  ·cases h
  ·rename_i c l'
   simp only[List.length_cons];split at h
   ·split at h
    ·injection h with h;subst h;omega
    ·cases h
   ·split at h
    ·split at h
     ·rename_i ats r' hl
      have:=(zen _ _ _ _ hl).1;split at h
      ·injection h with h;subst h;omega
      ·cases h
     ·cases h
    ·split at h
     ·split at h
      ·cases h
      ·cases h
      ·rename_i n d r1 hf
       have h1:=zem hf;simp only[List.length_cons] at h1;split at h
       ·split at h
        ·cases h
        ·rename_i r2 h2
         have a1:=zfL k _ _ _ h2;have a2:=zfL k _ _ _ h;omega
       ·cases h
     ·cases h
end Go.Proofs.YtkinoehmcfhgbaaGreatDoor.Vl
