/- A part of the proof. -/
import Derived.Test.YtkinoehmcfhgbaaGreatDoorY0
import Derived.Lib.SlTrimSet
set_option linter.unusedVariables false
set_option linter.unusedSimpArgs false
set_option maxRecDepth 100000
set_option maxHeartbeats 2000000
namespace Go.Proofs.YtkinoehmcfhgbaaGreatDoor.Vl
open Go.RowKit
open Go.Sort (grow)
theorem znQ (s sep:ByteArray) (m:Int) (w:World) (hs:s.size<4294967281) (hm:w.cell? ⟨0,0,none⟩=some (.int .i64 m)) :
 Calls Tryz.prog 113 #[.string s,.string sep] w fun e w'=>e=.returned (.tuple #[.string ⟨(Lib.cut s.data.toList sep.data.toList).1.toArray⟩,.string ⟨(Lib.cut s.data.toList sep.data.toList).2.1.toArray⟩,.bool (Lib.cut s.data.toList sep.data.toList).2.2])∧∃n,w'=w.drewN n :=
 Any.strings_Cut Tryz.lays145 s sep m w hs hm
theorem zir (s:ByteArray) (c:Int) (w:World):Calls Tryz.prog 112 #[.string s,.int .u8 c] w fun e w'=>e=.returned (.int .i64 (Lib.indexByte s.data.toList c.toNat.toUInt8))∧w'=w :=
 Any.strings_IndexByte Tryz.lays137 s c w
def tabName:String:=(Rows.listedRow.laid.map (·.1)).getD 2 ""
theorem zis (n:Int) (h0:-9223372036854775808≤n) (h1:n≤9223372036854775807) (w:World) (htab:Lib.TabIs Tryz.prog w tabName .u64 Lib.pow10Tab) :
 Calls Tryz.prog 144 #[.int .i64 n] w fun e w'=>e=.returned (.string ⟨(Lib.itoa n).toArray⟩)∧∃k os,w'=grow (w.drewN k) os :=
 Any.strconv_Itoa Tryz.laysM171 n h0 h1 w htab
theorem zit (s:ByteArray) (hmax:s.size≤9223372036854775806) (v:Int) (h:Lib.atoiAll s.data.toList=.ok v) (w:World) :
 Calls Tryz.prog 231 #[.string s] w fun e w'=>e=.returned (.tuple #[.int .i64 v,.nilIface])∧(w'=w∨∃t,w'=Lib.bytesWorld w 5 t) :=
 Any.strconv_Atoi_ok Tryz.laysC172 s hmax v h w
def GlF (w:World):Prop:=(∃m,w.cell? ⟨0,0,none⟩=some (.int .i64 m))∧(∃ev,w.cell? ⟨2,0,none⟩=some ev∧(ev=.nilIface∨∃te pe,ev=.iface te pe))∧(∃ev,w.cell? ⟨3,0,none⟩=some ev∧(ev=.nilIface∨∃te pe,ev=.iface te pe))∧Lib.TabIs Tryz.prog w tabName .u64 Lib.pow10Tab
def Gl (w:World):Prop:=∀w',Below w.heap.size w w'→GlF w'
theorem Gl.here {w:World} (h:Gl w):GlF w:=h w (Below.refl _ _)
theorem Gl.on {w w1:World} (h:Gl w) (hb:Below w.heap.size w w1):Gl w1:=fun w' h'=>h w' (hb.trans (h'.mono hb.size))
theorem zbt (w:World) (e:TypeId) (s:ByteArray):Below w.heap.size w (Lib.bytesWorld w e s):=by
 refine⟨rfl,rfl,rfl,?_,fun k hk=>Lib.bytesWorld_at_old w e s k hk⟩;simp[Lib.bytesWorld,World.freeze,World.alloc,World.drew,-World.alloc_eq,-World.drew_eq]
theorem zbS (w:World) (k:Nat) (os:Array Obj):Below w.heap.size w (grow (w.drewN k) os):=by
 have h:=below_drewN (Below.refl w.heap.size w) k;refine⟨h.os,h.tape,h.output,?_,fun j hj=>?_⟩
 ·have:(grow (w.drewN k) os).heap=(w.drewN k).heap++os:=rfl;rw[this,Array.size_append];have:=h.size;omega
 ·have:(grow (w.drewN k) os).heap=(w.drewN k).heap++os:=rfl;rw[this,Array.getElem?_append_left (by have:=h.size;omega)];exact h.block j hj
theorem ziu (s sep:ByteArray) (w:World) (hg:Gl w) (hs:s.size≤4000) :
 Calls Tryz.prog 113 #[.string s,.string sep] w fun e w'=>e=.returned (.tuple #[.string ⟨(Lib.cut s.data.toList sep.data.toList).1.toArray⟩,.string ⟨(Lib.cut s.data.toList sep.data.toList).2.1.toArray⟩,.bool (Lib.cut s.data.toList sep.data.toList).2.2])∧Below w.heap.size w w':=by
 obtain⟨m,hm⟩:=hg.here.1;exact(znQ s sep m w (by omega) hm).mono fun e w' h=>by
  obtain⟨h1,n,rfl⟩:=h;exact⟨h1,below_drewN (Below.refl _ _) n⟩
theorem zes {l:List UInt8} {v:Int} (h:Lib.atoiAll l=.ok v):-9223372036854775808≤v∧v≤9223372036854775807:=by
 unfold Lib.atoiAll at h;split at h
 ·cases h
 ·simp only at h;split at h
  ·cases h
  ·cases h
  ·split at h
   ·cases h
   ·rename_i h1
    split at h
    ·cases h
    ·rename_i h2
     injection h with h
     split at h<;>omega
theorem zdV (s:ByteArray) (w:World) (hg:Gl w) (hs:s.size≤4000) :
 Calls Tryz.prog 166 #[.string s] w fun e w'=>e=.returned (.tuple #[.int .i64 ((bndX s.data.toList).getD 0),.bool (bndX s.data.toList).isSome])∧Below w.heap.size w w':=by
 cases ha:Lib.atoiAll s.data.toList
 ·rename_i v
  have hv:=zes ha;have CA:Hid (∀w,Calls Tryz.prog 231 #[.string s] w fun e w'=>e=.returned (.tuple #[.int .i64 v,.nilIface])∧Below w.heap.size w w'):=fun w=>(zit s (by omega) v ha w).mono fun e w' h=>by
   obtain⟨h1,rfl|⟨t,rfl⟩⟩:=h
   ·exact⟨h1,Below.refl _ _⟩
   ·exact⟨h1,zbt _ _ _⟩
  have CI:Hid (∀w,Gl w→Calls Tryz.prog 144 #[.int .i64 v] w fun e w'=>e=.returned (.string ⟨(Lib.itoa v).toArray⟩)∧Below w.heap.size w w'):=fun w h=>(zis v hv.1 hv.2 w h.here.2.2.2).mono fun e w' h=>by
   obtain⟨h1,k,os,rfl⟩:=h;exact⟨h1,zbS _ _ _⟩
  have HB:Hid (bndX s.data.toList=if Lib.itoa v=s.data.toList∧-999999≤v∧v≤999999 then some v else none):=by show _=_;unfold bndX;rw[ha]
  have HT:Hid ((⟨(Lib.itoa v).toArray⟩:ByteArray).toList=Lib.itoa v):=by show _=_;rw[ByteArray.toList_eq]
  have HS:Hid (s.toList=s.data.toList):=ByteArray.toList_eq s;have HE:((⟨(Lib.itoa v).toArray⟩:ByteArray).toList==s.toList)=decide (Lib.itoa v=s.data.toList):=by
   rw[HT.out,HS.out,Bool.eq_iff_iff,beq_iff_eq,decide_eq_true_eq]
  clear HT HS;generalize (⟨(Lib.itoa v).toArray⟩:ByteArray)=I at *;generalize bndX s.data.toList=B at *;clear ha;by_cases hE:Lib.itoa v=s.data.toList
  ·rw[decide_eq_true hE] at HE;by_cases h1:v < -999999
   ·have HR:Hid (B=none):=by show _=_;rw[HB.out,if_neg (by omega)]
    go_enter Tryz.func166,Tryz.ntmps166;go_wp2_with (first
     | (go_at_call 231;refine(CA.out _).mono ?_;rintro e w1 ⟨rfl,hb1⟩)
     | (go_at_call 144;refine(CI.out _ (hg.on hb1)).mono ?_;rintro e w2 ⟨rfl,hb2⟩))
    go_ret2
    exact⟨by rw[HR.out];rfl,hb1.trans (hb2.mono hb1.size)⟩
   ·by_cases h2:999999<v
    ·have HR:Hid (B=none):=by show _=_;rw[HB.out,if_neg (by omega)]
     go_enter Tryz.func166,Tryz.ntmps166;go_wp2_with (first
      | (go_at_call 231;refine(CA.out _).mono ?_;rintro e w1 ⟨rfl,hb1⟩)
      | (go_at_call 144;refine(CI.out _ (hg.on hb1)).mono ?_;rintro e w2 ⟨rfl,hb2⟩))
     go_ret2
     exact⟨by rw[HR.out];rfl,hb1.trans (hb2.mono hb1.size)⟩
    ·have HR:Hid (B=some v):=by show _=_;rw[HB.out,if_pos ⟨hE,by omega,by omega⟩]
     go_enter Tryz.func166,Tryz.ntmps166;go_wp2_with (first
      | (go_at_call 231;refine(CA.out _).mono ?_;rintro e w1 ⟨rfl,hb1⟩)
      | (go_at_call 144;refine(CI.out _ (hg.on hb1)).mono ?_;rintro e w2 ⟨rfl,hb2⟩))
     go_ret2
     exact⟨by rw[HR.out];rfl,hb1.trans (hb2.mono hb1.size)⟩
  ·rw[decide_eq_false hE] at HE;have HR:Hid (B=none):=by show _=_;rw[HB.out,if_neg (fun h=>hE h.1)]
   go_enter Tryz.func166,Tryz.ntmps166;go_wp2_with (first
    | (go_at_call 231;refine(CA.out _).mono ?_;rintro e w1 ⟨rfl,hb1⟩)
    | (go_at_call 144;refine(CI.out _ (hg.on hb1)).mono ?_;rintro e w2 ⟨rfl,hb2⟩))
   go_ret2
   exact⟨by rw[HR.out];rfl,hb1.trans (hb2.mono hb1.size)⟩
 ·have HR:Hid (bndX s.data.toList=none):=by show _=_;unfold bndX;rw[ha]
  obtain⟨ev,hv1,hv2⟩:=hg.here.2.1;have CA:Hid (Calls Tryz.prog 231 #[.string s] w fun e w'=>∃N x,e=.returned (.tuple #[.int .i64 x,.iface 385 (.pointer (some ⟨N,0,none⟩))])∧Below w.heap.size w w'):=(Any.strconv_Atoi_syntax Tryz.laysC172 s (by omega) ha ev w hv1 hv2).mono fun e w' h=>by
   obtain⟨N,h1,_,_,h2⟩:=h;exact⟨N,_,h1,h2⟩
  generalize bndX s.data.toList=B at *;clear ha hv1;go_enter Tryz.func166,Tryz.ntmps166;go_wp2_with (go_at_call 231;refine(CA.out).mono ?_;rintro e w1 ⟨N,x,rfl,hb1⟩)
  go_ret2
  exact⟨by rw[HR.out];rfl,hb1⟩
 ·have HR:Hid (bndX s.data.toList=none):=by show _=_;unfold bndX;rw[ha]
  obtain⟨ev,hv1,hv2⟩:=hg.here.2.2.1;have CA:Hid (Calls Tryz.prog 231 #[.string s] w fun e w'=>∃N x,e=.returned (.tuple #[.int .i64 x,.iface 385 (.pointer (some ⟨N,0,none⟩))])∧Below w.heap.size w w'):=(Any.strconv_Atoi_range Tryz.laysC172 s (by omega) ha ev w hv1 hv2).mono fun e w' h=>by
   obtain⟨N,h1,_,_,h2⟩:=h;exact⟨N,_,h1,h2⟩
  generalize bndX s.data.toList=B at *;clear ha hv1;go_enter Tryz.func166,Tryz.ntmps166;go_wp2_with (go_at_call 231;refine(CA.out).mono ?_;rintro e w1 ⟨N,x,rfl,hb1⟩)
  go_ret2
  exact⟨by rw[HR.out];rfl,hb1⟩
theorem zab (w:World) (b i j:Nat) (u:Value) (h:i≠j):(w.setCell ⟨b,i,none⟩ u).cell? ⟨b,j,none⟩=w.cell? ⟨b,j,none⟩:=by
 apply World.cell?_setCell_other
 intro e;injection e with _ e2 _;exact h e2
theorem zal (w:World) (a:Addr) (u:Value) (h:∃v,w.cell? a=some v):(w.setCell a u).cell? a=some u:=by obtain⟨v,h⟩:=h;exact World.cell?_setCell_same _ _ _ h
theorem zam {fn:Func} {tmps:Array Value} {w:World} {k i:Nat} {t:TypeId} {a:Addr} {v x:Value} (hf:fn.results=#[.cell k t,.tmp i]) (ht:tmps.getD k undef=.pointer (some a)) (hx:tmps.getD i undef=x) (hl:(loadVar t a).run Tryz.prog w=.ok v w):(results fn tmps).run Tryz.prog w=.ok (.tuple #[v,x]) w:=by
 have ht':(tmps[k]?.getD undef)=.pointer (some a):=by simpa using ht
 have hx':(tmps[i]?.getD undef)=x:=by simpa using hx
 simp[results,hf,ht',hx',hl,asAddr]
theorem Tryz.sizeLAtm:(Tryz.prog.info? 134).map (·.size)=some 3:=by kernel_rfl
theorem load3 (X:World) (B:Nat) (c0 c1 c2:Value) (h0:X.cell? ⟨B,0,none⟩=some c0) (h1:X.cell? ⟨B,1,none⟩=some c1) (h2:X.cell? ⟨B,2,none⟩=some c2):(loadVar 134 ⟨B,0,none⟩).run Tryz.prog X=.ok (.agg #[c0,c1,c2]) X :=
 run_loadVar_mid _ _ 0 134 [c0,c1,c2] _ (by
  intro j v hv
  match j,hv with
  | 0,hv=>cases hv;exact h0
  | 1,hv=>cases hv;exact h1
  | 2,hv=>cases hv;exact h2) Tryz.underlying134 rfl Tryz.sizeLAtm
def set3 (X:World) (B:Nat) (c0 c1 c2:Value):World:=((X.setCell ⟨B,0,none⟩ c0).setCell ⟨B,1,none⟩ c1).setCell ⟨B,2,none⟩ c2
theorem zau (X:World) (B:Nat) (c0 c1 c2:Value) (h:∀j,j<3→∃u,X.cell? ⟨B,j,none⟩=some u):(loadVar 134 ⟨B,0,none⟩).run Tryz.prog (set3 X B c0 c1 c2)=.ok (.agg #[c0,c1,c2]) (set3 X B c0 c1 c2):=by
 unfold set3;refine load3 _ B c0 c1 c2 ?_ ?_ ?_
 ·rw[zab _ _ _ _ _ (by omega),zab _ _ _ _ _ (by omega)];exact zal _ _ _ (h 0 (by omega))
 ·rw[zab _ _ _ _ _ (by omega)];exact zal _ _ _ (by rw[zab _ _ _ _ _ (by omega)];exact h 1 (by omega))
 ·exact zal _ _ _ (by rw[zab _ _ _ _ _ (by omega),zab _ _ _ _ _ (by omega)];exact h 2 (by omega))
theorem zaG {a X:World} {n B:Nat} (c0 c1 c2:Value) (h:Below n a X) (hB:n≤B):Below n a (set3 X B c0 c1 c2) :=
 ((h.setCell (p:=⟨B,0,none⟩) hB c0).setCell (p:=⟨B,1,none⟩) hB c1).setCell (p:=⟨B,2,none⟩) hB c2
def patV:Option Atm→Value
 | none=>.tuple #[.agg zZd,.bool false]
 | some a=>.tuple #[.agg #[.int .i64 a.1,.int .i64 a.2.1,.int .i64 a.2.2],.bool true]
theorem ziv (x:UInt8) (w:World):Calls Tryz.prog 112 #[.string ⟨#[48,97,98,99,100]⟩,.int .u8 (x.toNat:Int)] w fun e w'=>e=.returned (.int .i64 (Lib.indexByte ops5 x))∧w=w' :=
 (zir ⟨#[48,97,98,99,100]⟩ (x.toNat:Int) w).mono fun e w' h=>by
  obtain⟨h1,h2⟩:=h;refine⟨?_,h2.symm⟩;rw[h1,Int.toNat_natCast];have:x.toNat.toUInt8=x:=by simp
  rw[this];rfl
theorem zmT (x:UInt8) (w:World):Calls Tryz.prog 112 #[.string ⟨#[116,102,33,38,124,62]⟩,.int .u8 (x.toNat:Int)] w fun e w'=>e=.returned (.int .i64 (Lib.indexByte mks6 x))∧w=w' :=
 (zir ⟨#[116,102,33,38,124,62]⟩ (x.toNat:Int) w).mono fun e w' h=>by
  obtain⟨h1,h2⟩:=h;refine⟨?_,h2.symm⟩;rw[h1,Int.toNat_natCast];have:x.toNat.toUInt8=x:=by simp
  rw[this];rfl
def Res (w W:World) (n:Nat):Prop:=Below w.heap.size w W∧w.heap.size<W.heap.size∧(∀j,j<n→W.cell? ⟨w.heap.size,j,none⟩=some (.int .i64 0))∧∀j,W.frozen? ⟨w.heap.size,j,none⟩=false
theorem Res.on {w W W':World} {n:Nat} (h:Res w W n) (hb:Below W.heap.size W W'):Res w W' n :=
 ⟨h.1.trans (hb.mono h.1.size),Nat.lt_of_lt_of_le h.2.1 hb.size,fun j hj=>(hb.cell (p:=⟨w.heap.size,j,none⟩) h.2.1).trans (h.2.2.1 j hj),fun j=>(hb.frozen (p:=⟨w.heap.size,j,none⟩) h.2.1).trans (h.2.2.2 j)⟩
theorem res3 (w:World) (t:TypeId):Res w (w.alloc (.cells zZd t)) 3 :=
 ⟨zaa _ _,by simp,fun j hj=>by
  match j,hj with
  | 0,_=>simp
  | 1,_=>simp
  | 2,_=>simp,fun j=>by simp⟩
theorem Res.some3 {w W:World} (h:Res w W 3):∀j,j<3→∃u,W.cell? ⟨w.heap.size,j,none⟩=some u:=fun j hj=>⟨_,h.2.2.1 j hj⟩
theorem zet (s:ByteArray) (w:World) (hg:Gl w) (hs:s.size≤4000) :
 Calls Tryz.prog 114 #[.string s] w fun e w'=>e=.returned (patV (patm s.data.toList))∧Below w.heap.size w w':=by
 obtain⟨sides,num,found,hcut⟩:∃x y z,Lib.cut s.data.toList [60,61]=(x,y,z):=⟨_,_,_,rfl⟩
 have CC:Hid (∀w,Gl w→Calls Tryz.prog 113 #[.string s,.string ⟨#[60,61]⟩] w fun e w'=>e=.returned (.tuple #[.string ⟨sides.toArray⟩,.string ⟨num.toArray⟩,.bool found])∧Below w.heap.size w w'):=fun w h=>by
  have:=ziu s ⟨#[60,61]⟩ w h hs;have e:(⟨#[60,61]⟩:ByteArray).data.toList=[60,61]:=rfl;rw[e,hcut] at this;exact this
 have hg0:Gl (w.alloc (.cells zZd 134)):=hg.on (zaa _ _);have hr0:=res3 w 134;have hnum:num.length≤4000:=by
  have h1:(Lib.cut s.data.toList [60,61]).2.1.length≤s.data.toList.length:=by
   unfold Lib.cut;split
   ·simp
   ·simp
  rw[hcut] at h1;have h2:s.data.toList.length=s.size:=by simp
  exact Nat.le_trans h1 (by omega)
 cases found with
 | false =>
  have HP:Hid (patm s.data.toList=none):=by show _=_;unfold patm;rw[hcut];rfl
  clear hcut;go_enter Tryz.func114,Tryz.ntmps114;go_wp2_with (go_at_call 113;refine(CC.out _ hg0).mono ?_;rintro e w1 ⟨rfl,hb1⟩;have hr1:=hr0.on hb1;have y0:=hr1.2.2.1 0 (by omega);have y1:=hr1.2.2.1 1 (by omega);have y2:=hr1.2.2.1 2 (by omega);have f0:=hr1.2.2.2 0;have f1:=hr1.2.2.2 1;have f2:=hr1.2.2.2 2)
  go_quiet (fail)
  go_wp2_with fail;have hr2:=hr1.on (below_drewN (Below.refl _ w1) nq);exact bodyPost_ret (zam rfl rfl rfl (zau (w1.drewN nq) _ _ _ _ hr2.some3)) rfl ⟨by rw[HP.out];rfl,zaG _ _ _ hr2.1 (Nat.le_refl _)⟩
 | true =>
  by_cases hlen:sides.length=3
  ·match sides,hlen with
   | [a,b,c],_ =>
    obtain⟨S,hSd,z0,z1,z2,z3,q0,q1,q2⟩:∃S:ByteArray,S=⟨#[a,b,c]⟩∧∃(z0:0<S.size) (z1:1<S.size) (z2:2<S.size),((S.size:Int) != 3)=false∧S[0]=a∧S[1]=b∧S[2]=c :=
     ⟨⟨#[a,b,c]⟩,rfl,(show 0<3 by omega),(show 1<3 by omega),(show 2<3 by omega),rfl,rfl,rfl,rfl⟩
    have CC':Hid (∀w,Gl w→Calls Tryz.prog 113 #[.string s,.string ⟨#[60,61]⟩] w fun e w'=>e=.returned (.tuple #[.string S,.string ⟨num.toArray⟩,.bool true])∧Below w.heap.size w w'):=by rw[hSd];exact CC
    clear CC;have CC:=CC';clear CC' hSd;have HP0:Hid (patm s.data.toList=if !(b==45)||(a==c) then none else match bndX num with
     | none=>none
     | some n=>if Lib.indexByte ops5 a<0∨Lib.indexByte ops5 c<0 then none else some (Lib.indexByte ops5 a,Lib.indexByte ops5 c,n)):=by
     show _=_;unfold patm;rw[hcut];rfl
    clear hcut;have zi1:(1:Int)<(S.size:Int):=by omega
    have zi2:(2:Int)<(S.size:Int):=by omega
    cases hb45:(b==45) with
    | false =>
     have hx:((S[1].toNat:Int) != 45)=true:=by
      have e:((S[1].toNat:Int)==45)=(S[1]==45):=zat S[1] 45 (by omega);rw[bne,e,q1,hb45];rfl
     have HP:Hid (patm s.data.toList=none):=by show _=_;rw[HP0.out,hb45];rfl
     clear q0 q1 q2 HP0;go_enter Tryz.func114,Tryz.ntmps114;go_wp2_with (go_at_call 113;refine(CC.out _ hg0).mono ?_;rintro e w1 ⟨rfl,hb1⟩;have hr1:=hr0.on hb1;have y0:=hr1.2.2.1 0 (by omega);have y1:=hr1.2.2.1 1 (by omega);have y2:=hr1.2.2.1 2 (by omega);have f0:=hr1.2.2.2 0;have f1:=hr1.2.2.2 1;have f2:=hr1.2.2.2 2)
     go_quiet (fail)
     go_wp2_with fail;have hr2:=hr1.on (below_drewN (Below.refl _ w1) nq);exact bodyPost_ret (zam rfl rfl rfl (zau (w1.drewN nq) _ _ _ _ hr2.some3)) rfl ⟨by rw[HP.out];rfl,zaG _ _ _ hr2.1 (Nat.le_refl _)⟩
    | true =>
     have hx:((S[1].toNat:Int) != 45)=false:=by
      have e:((S[1].toNat:Int)==45)=(S[1]==45):=zat S[1] 45 (by omega);rw[bne,e,q1,hb45];rfl
     have hxe:((S[0].toNat:Int)==(S[2].toNat:Int))=(a==c):=by
      rw[q0,q2,Bool.eq_iff_iff,beq_iff_eq,beq_iff_eq]
      constructor
      ·intro h;exact UInt8.toNat_inj.1 (by omega)
      ·intro h;rw[h]
     cases hac:(a==c) with
     | true =>
      rw[hac] at hxe;have HP:Hid (patm s.data.toList=none):=by show _=_;rw[HP0.out,hb45,hac];rfl
      clear q0 q1 q2 HP0;go_enter Tryz.func114,Tryz.ntmps114;go_wp2_with (go_at_call 113;refine(CC.out _ hg0).mono ?_;rintro e w1 ⟨rfl,hb1⟩;have hr1:=hr0.on hb1;have y0:=hr1.2.2.1 0 (by omega);have y1:=hr1.2.2.1 1 (by omega);have y2:=hr1.2.2.1 2 (by omega);have f0:=hr1.2.2.2 0;have f1:=hr1.2.2.2 1;have f2:=hr1.2.2.2 2)
      go_quiet (fail)
      go_wp2_with fail;have hr2:=hr1.on (below_drewN (Below.refl _ w1) nq);exact bodyPost_ret (zam rfl rfl rfl (zau (w1.drewN nq) _ _ _ _ hr2.some3)) rfl ⟨by rw[HP.out];rfl,zaG _ _ _ hr2.1 (Nat.le_refl _)⟩
     | false =>
      rw[hac] at hxe;have HP1:Hid (patm s.data.toList=match bndX num with
       | none=>none
       | some n=>if Lib.indexByte ops5 a<0∨Lib.indexByte ops5 c<0 then none else some (Lib.indexByte ops5 a,Lib.indexByte ops5 c,n)):=by show _=_;rw[HP0.out,hb45,hac];rfl
      have CL:Hid (∀w,Calls Tryz.prog 112 #[.string ⟨#[48,97,98,99,100]⟩,.int .u8 (S[0].toNat:Int)] w fun e w'=>e=.returned (.int .i64 (Lib.indexByte ops5 a))∧w=w'):=fun w=>by rw[←q0];exact ziv S[0] w
      have CR:Hid (∀w,Calls Tryz.prog 112 #[.string ⟨#[48,97,98,99,100]⟩,.int .u8 (S[2].toNat:Int)] w fun e w'=>e=.returned (.int .i64 (Lib.indexByte ops5 c))∧w=w'):=fun w=>by rw[←q2];exact ziv S[2] w
      have CB:Hid (∀w,Gl w→Calls Tryz.prog 166 #[.string ⟨num.toArray⟩] w fun e w'=>e=.returned (.tuple #[.int .i64 ((bndX num).getD 0),.bool (bndX num).isSome])∧Below w.heap.size w w'):=fun w h=>zdV ⟨num.toArray⟩ w h (by show num.toArray.size≤4000;simpa using hnum)
      clear HP0;have HQ0:Hid (Lib.indexByte ops5 S[0]=Lib.indexByte ops5 a):=by show _=_;rw[q0]
      have HQ2:Hid (Lib.indexByte ops5 S[2]=Lib.indexByte ops5 c):=by show _=_;rw[q2]
      have CIB:Hid (∀(x:UInt8) w,Calls Tryz.prog 112 #[.string ⟨#[48,97,98,99,100]⟩,.int .u8 (x.toNat:Int)] w fun e w'=>e=.returned (.int .i64 (Lib.indexByte ops5 x))∧w=w'):=ziv;rw[←HQ0.out,←HQ2.out] at HP1;generalize hib:Lib.indexByte ops5=IB at *;clear hib;generalize (⟨num.toArray⟩:ByteArray)=NN at *;clear q0 q1 q2 hb45 hac CL CR HQ0 HQ2;cases hB:bndX num with
      | none =>
       rw[hB] at HP1 CB;have HP:Hid (patm s.data.toList=none):=HP1;have CB':Hid (∀w,Gl w→Calls Tryz.prog 166 #[.string NN] w fun e w'=>e=.returned (.tuple #[.int .i64 0,.bool false])∧Below w.heap.size w w'):=CB;clear CB HP1;go_enter Tryz.func114,Tryz.ntmps114;go_wp2_with (first|(go_at_call 113;refine(CC.out _ hg0).mono ?_;rintro e w1 ⟨rfl,hb1⟩;have hr1:=hr0.on hb1))
       go_quiet (fail)
       have hb1':Below (w.alloc (.cells zZd 134)).heap.size (w.alloc (.cells zZd 134)) (w1.drewN nq):=below_drewN hb1 nq;have hr2:=hr0.on hb1';have hg2:=hg0.on hb1';clear hr1 hb1 hb1';generalize w1.drewN nq=W at *;go_wp2_with (first
        | (go_at_call 112;refine(CIB.out _ _).mono ?_;rintro e w' ⟨rfl,rfl⟩)
        | (go_at_call 166;refine(CB'.out _ hg2).mono ?_;rintro e w3 ⟨rfl,hb3⟩;have hr3:=hr2.on hb3;have y0:=hr3.2.2.1 0 (by omega);have y1:=hr3.2.2.1 1 (by omega);have y2:=hr3.2.2.1 2 (by omega);have f0:=hr3.2.2.2 0;have f1:=hr3.2.2.2 1;have f2:=hr3.2.2.2 2))
       all_goals exact bodyPost_ret (zam rfl rfl rfl (zau w3 _ _ _ _ hr3.some3)) rfl ⟨by rw[HP.out];rfl,zaG _ _ _ hr3.1 (Nat.le_refl _)⟩
      | some n =>
       rw[hB] at HP1 CB;have HP:Hid (patm s.data.toList=if IB S[0]<0∨IB S[2]<0 then none else some (IB S[0],IB S[2],n)):=HP1;have CB':Hid (∀w,Gl w→Calls Tryz.prog 166 #[.string NN] w fun e w'=>e=.returned (.tuple #[.int .i64 n,.bool true])∧Below w.heap.size w w'):=CB;clear CB HP1;by_cases hL:IB S[0]<0
       ·have HP2:Hid (patm s.data.toList=none):=by show _=_;rw[HP.out,if_pos (Or.inl hL)]
        go_enter Tryz.func114,Tryz.ntmps114;go_wp2_with (first|(go_at_call 113;refine(CC.out _ hg0).mono ?_;rintro e w1 ⟨rfl,hb1⟩;have hr1:=hr0.on hb1))
        go_quiet (fail)
        have hb1':Below (w.alloc (.cells zZd 134)).heap.size (w.alloc (.cells zZd 134)) (w1.drewN nq):=below_drewN hb1 nq;have hr2:=hr0.on hb1';have hg2:=hg0.on hb1';clear hr1 hb1 hb1';generalize w1.drewN nq=W at *;go_wp2_with (first
         | (go_at_call 112;refine(CIB.out _ _).mono ?_;rintro e w' ⟨rfl,rfl⟩)
         | (go_at_call 166;refine(CB'.out _ hg2).mono ?_;rintro e w3 ⟨rfl,hb3⟩;have hr3:=hr2.on hb3;have y0:=hr3.2.2.1 0 (by omega);have y1:=hr3.2.2.1 1 (by omega);have y2:=hr3.2.2.1 2 (by omega);have f0:=hr3.2.2.2 0;have f1:=hr3.2.2.2 1;have f2:=hr3.2.2.2 2))
        exact bodyPost_ret (zam rfl rfl rfl (zau w3 _ _ _ _ hr3.some3)) rfl ⟨by rw[HP2.out];rfl,zaG _ _ _ hr3.1 (Nat.le_refl _)⟩
       ·by_cases hR:IB S[2]<0
        ·have HP2:Hid (patm s.data.toList=none):=by show _=_;rw[HP.out,if_pos (Or.inr hR)]
         go_enter Tryz.func114,Tryz.ntmps114;go_wp2_with (first|(go_at_call 113;refine(CC.out _ hg0).mono ?_;rintro e w1 ⟨rfl,hb1⟩;have hr1:=hr0.on hb1))
         go_quiet (fail)
         have hb1':Below (w.alloc (.cells zZd 134)).heap.size (w.alloc (.cells zZd 134)) (w1.drewN nq):=below_drewN hb1 nq;have hr2:=hr0.on hb1';have hg2:=hg0.on hb1';clear hr1 hb1 hb1';generalize w1.drewN nq=W at *;go_wp2_with (first
          | (go_at_call 112;refine(CIB.out _ _).mono ?_;rintro e w' ⟨rfl,rfl⟩)
          | (go_at_call 166;refine(CB'.out _ hg2).mono ?_;rintro e w3 ⟨rfl,hb3⟩;have hr3:=hr2.on hb3;have y0:=hr3.2.2.1 0 (by omega);have y1:=hr3.2.2.1 1 (by omega);have y2:=hr3.2.2.1 2 (by omega);have f0:=hr3.2.2.2 0;have f1:=hr3.2.2.2 1;have f2:=hr3.2.2.2 2))
         exact bodyPost_ret (zam rfl rfl rfl (zau w3 _ _ _ _ hr3.some3)) rfl ⟨by rw[HP2.out];rfl,zaG _ _ _ hr3.1 (Nat.le_refl _)⟩
        ·have HP2:Hid (patm s.data.toList=some (IB S[0],IB S[2],n)):=by show _=_;rw[HP.out,if_neg (by omega)]
         go_enter Tryz.func114,Tryz.ntmps114;go_wp2_with (first|(go_at_call 113;refine(CC.out _ hg0).mono ?_;rintro e w1 ⟨rfl,hb1⟩;have hr1:=hr0.on hb1))
         go_quiet (fail)
         have hb1':Below (w.alloc (.cells zZd 134)).heap.size (w.alloc (.cells zZd 134)) (w1.drewN nq):=below_drewN hb1 nq;have hr2:=hr0.on hb1';have hg2:=hg0.on hb1';clear hr1 hb1 hb1';generalize w1.drewN nq=W at *;go_wp2_with (first
          | (go_at_call 112;refine(CIB.out _ _).mono ?_;rintro e w' ⟨rfl,rfl⟩)
          | (go_at_call 166;refine(CB'.out _ hg2).mono ?_;rintro e w3 ⟨rfl,hb3⟩;have hr3:=hr2.on hb3;have y0:=hr3.2.2.1 0 (by omega);have y1:=hr3.2.2.1 1 (by omega);have y2:=hr3.2.2.1 2 (by omega);have f0:=hr3.2.2.2 0;have f1:=hr3.2.2.2 1;have f2:=hr3.2.2.2 2))
         exact bodyPost_ret (zam rfl rfl rfl (zau w3 _ _ _ _ hr3.some3)) rfl ⟨by rw[HP2.out];rfl,zaG _ _ _ hr3.1 (Nat.le_refl _)⟩
  ·have HP:Hid (patm s.data.toList=none):=by
    show _=_;unfold patm;rw[hcut]
    have:(sides.length != 3)=true:=by simpa using hlen
    simp[this]
   have hz:((⟨sides.toArray⟩:ByteArray).size:Int)≠3:=by
    show((sides.toArray.size:Nat):Int)≠3
    simp;omega
   generalize (⟨sides.toArray⟩:ByteArray)=S at *;have hz1:((S.size:Int) != 3)=true:=by simpa using hz
   have hz2:((S.size:Int)==3)=false:=by simpa using hz
   clear hcut hlen;go_enter Tryz.func114,Tryz.ntmps114;go_wp2_with (go_at_call 113;refine(CC.out _ hg0).mono ?_;rintro e w1 ⟨rfl,hb1⟩;have hr1:=hr0.on hb1;have y0:=hr1.2.2.1 0 (by omega);have y1:=hr1.2.2.1 1 (by omega);have y2:=hr1.2.2.1 2 (by omega);have f0:=hr1.2.2.2 0;have f1:=hr1.2.2.2 1;have f2:=hr1.2.2.2 2)
   go_quiet (fail)
   go_wp2_with fail;have hr2:=hr1.on (below_drewN (Below.refl _ w1) nq);exact bodyPost_ret (zam rfl rfl rfl (zau (w1.drewN nq) _ _ _ _ hr2.some3)) rfl ⟨by rw[HP.out];rfl,zaG _ _ _ hr2.1 (Nat.le_refl _)⟩
def KnAt (w:World) (b:Nat) (vW vA:Value) (l:List UInt8) (mb:Nat):Prop :=
 w.heap[b]?=some (.cells #[vW,vA,.string ⟨l.toArray⟩,.map (some mb)] 173 (0,0))
theorem KnAt.cells {w:World} {b mb:Nat} {vW vA:Value} {l:List UInt8} (h:KnAt w b vW vA l mb):w.cell? ⟨b,0,none⟩=some vW∧w.cell? ⟨b,1,none⟩=some vA∧w.cell? ⟨b,2,none⟩=some (.string ⟨l.toArray⟩)∧w.cell? ⟨b,3,none⟩=some (.map (some mb)):=by
 unfold KnAt at h;simp[World.cell?,h]
theorem KnAt.free {w:World} {b mb:Nat} {vW vA:Value} {l:List UInt8} (h:KnAt w b vW vA l mb) (o:Nat):w.frozen? ⟨b,o,none⟩=false:=Lib.frozen_of_heap h o
theorem KnAt.left {w:World} {b mb:Nat} {vW vA:Value} {l:List UInt8} (h:KnAt w b vW vA l mb) (l':List UInt8):KnAt (w.setCell ⟨b,2,none⟩ (.string ⟨l'.toArray⟩)) b vW vA l' mb:=heap_setCell_same w b 2 _ _ _ h
theorem KnAt.lt {w:World} {b mb:Nat} {vW vA:Value} {l:List UInt8} (h:KnAt w b vW vA l mb):b<w.heap.size:=(Array.getElem?_eq_some_iff.1 h).1
theorem KnAt.kept {w w':World} {b mb:Nat} {vW vA:Value} {l:List UInt8} {row:Option Nat} (h:KnAt w b vW vA l mb) (hg:w.grownBy w' row) (hne:some b≠row):KnAt w' b vW vA l mb:=(hg.block b h.lt hne).trans h
theorem zaE (w:World) (b o:Nat) (v:Value):w.grownBy (w.setCell ⟨b,o,none⟩ v) (some b):=⟨rfl,rfl,rfl,by simp[World.setCell],fun j _ hj=>Below.heap_setCell w ⟨b,o,none⟩ v j (fun e=>hj (by rw[e]))⟩
theorem zcQ (w:World) (b mb:Nat) (vW vA:Value) (l:List UInt8) (c:UInt8) (hl:l.length≤1000000) (h:KnAt w b vW vA l mb) :
 Calls Tryz.prog 123 #[.pointer (some ⟨b,0,none⟩),.string ⟨#[c]⟩] w fun e w'=>e=.returned (.bool (is1 c l))∧KnAt w' b vW vA (tk1 c l) mb∧w.grownBy w' (some b):=by
 have CC:Hid (∀w,Calls Tryz.prog 174 #[.string ⟨l.toArray⟩,.string ⟨#[c]⟩] w fun e w'=>e=.returned (.tuple #[.string ⟨(tk1 c l).toArray⟩,.bool (is1 c l)])∧w=w'):=fun w=>zeC l c w hl
 obtain⟨c0,c1,c2,c3⟩:=h.cells;have f2:=h.free 2;have HE:Hid (KnAt (w.setCell ⟨b,2,none⟩ (.string ⟨(tk1 c l).toArray⟩)) b vW vA (tk1 c l) mb):=h.left _;clear h;generalize (⟨(tk1 c l).toArray⟩:ByteArray)=S1 at *;generalize (⟨l.toArray⟩:ByteArray)=S0 at *;generalize is1 c l=B at *;go_enter Tryz.func123,Tryz.ntmps123;go_wp2_with (go_at_call 174;refine(CC.out _).mono ?_;rintro e w' ⟨rfl,rfl⟩);go_ret;exact⟨rfl,HE.out,zaE _ _ _ _⟩
theorem zcv {fn:Func} {tmps:Array Value} {w:World} {k:Nat} {t:TypeId} {a:Addr} {v:Value} (hf:fn.results=#[.cell k t]) (ht:tmps.getD k undef=.pointer (some a)) (hl:(loadVar t a).run Tryz.prog w=.ok v w):(results fn tmps).run Tryz.prog w=.ok v w:=by
 have ht':(tmps[k]?.getD undef)=.pointer (some a):=by simpa using ht
 simp[results,hf,ht',hl,asAddr]
theorem ze4 (a1 a2 a3 t:Int) (ht:T3 t) (h3:-999999≤a3∧a3≤999999) (w:World) :
 Calls Tryz.prog 233 #[.agg #[.int .i64 a1,.int .i64 a2,.int .i64 a3],.int .i8 t] w fun e w'=>e=.returned (.agg #[.int .i64 (ifA (a1,a2,a3) t).1,.int .i64 (ifA (a1,a2,a3) t).2.1,.int .i64 (ifA (a1,a2,a3) t).2.2])∧Below w.heap.size w w':=by
 have hw1:IntKind.i64.wrap (-a3)=-a3:=IntWalk.i64_in _ (by omega);have hw2:IntKind.i64.wrap (-a3-1)=-a3-1:=IntWalk.i64_in _ (by omega);rcases ht with rfl|rfl|rfl
 all_goals
  go_enter Tryz.func233,Tryz.ntmps233;go_wp2
 all_goals exact bodyPost_ret (zcv rfl rfl (load3 _ (w.heap.size+1) _ _ _ (by rw[World.cell?_alloc_at _ _ _ _ (by simp)];rfl) (by rw[World.cell?_alloc_at _ _ _ _ (by simp)];rfl) (by rw[World.cell?_alloc_at _ _ _ _ (by simp)];rfl))) rfl ⟨rfl,(zaa w _).alloc (by simp) _⟩
def digs:List UInt8:=[48,49,50,51,52,53,54,55,56,57]
theorem zmU (c:UInt8):digs.contains c=isd c:=by
 unfold isd digs;have h:=c.toNat_lt;rw[Bool.eq_iff_iff];simp[←UInt8.toNat_inj];omega
theorem ze5:∀l:List UInt8,Lib.trimLeftS l digs=l.drop (dlen l)
 | []=>rfl
 | c::r=>by
  have ih:=ze5 r;unfold Lib.trimLeftS at *;rw[List.dropWhile_cons,zmU];unfold dlen;cases isd c
  ·simp
  ·simp only[if_true,List.drop_succ_cons];exact ih
theorem ziw (m:Int) (u:Nat) (hu:(u:Int)≤m):dg m (Lib.decDigits u)=(u:Int):=by
 have h1:=zeF m u hu;have h2:=zbJ u
 match hd:Lib.decDigits u,h1,h2 with
 | [],_,h2=>exact absurd rfl h2.1
 | c::r,h1,h2 =>
  rw[zc1,if_neg,h1];intro hc;simp only[Bool.and_eq_true,beq_iff_eq,Bool.not_eq_true',List.isEmpty_eq_false_iff] at hc;by_cases hu1:1≤u
  ·exact h2.2 hu1 (by simpa using hc.1)
  ·have:u=0:=by omega
   subst this;rw[Lib.decDigits,dif_pos (by omega)] at hd;cases hd
   exact hc.2 rfl
theorem zmV {d:List UInt8} (h:0≤dg 4000 d):d=Lib.itoa (dg 4000 d)∧Lib.atoiAll d=.ok (dg 4000 d):=by
 have hr:=zbC 4000 (by omega) d;have e:Lib.decDigits (dg 4000 d).toNat=d:=by
  cases d with
  | nil=>exact absurd h (by decide)
  | cons c r =>
   rw[zc1] at h ⊢;split at h
   ·omega
   ·rename_i hc
    rw[if_neg hc];refine zi6 4000 _ (c::r) rfl (by simp) ?_ h;by_cases h48:c=48
    ·right
     subst h48;simp at hc;simp[hc]
    ·left;simpa using h48
 have e2:Lib.itoa (dg 4000 d)=d:=by
  unfold Lib.itoa;rw[if_neg (by omega)];exact e
 have e3:=zfj (dg 4000 d) (by omega) (by omega);rw[e2] at e3;exact⟨e2.symm,e3⟩
theorem zmW {d:List UInt8} {v:Int} (hd:∀c∈d,isd c=true) (h:Lib.itoa v=d) (hv:v≤4000):0≤v∧dg 4000 d=v:=by
 unfold Lib.itoa at h;split at h
 ·subst h;exact absurd (hd 45 (by simp)) (by decide)
 ·subst h;rw[ziw 4000 v.toNat (by omega)];exact⟨by omega,by omega⟩
theorem zmX {N:Nat} (hN:N≤4000) (l:List UInt8):(∀v,Lib.atoiAll (l.take (dlen l))=.ok v→Lib.itoa v=l.take (dlen l)→v<(N:Int)→0≤v∧fig N l=some (v.toNat,l.drop (dlen l))) ∧
 ((∀v,Lib.atoiAll (l.take (dlen l))=.ok v→Lib.itoa v=l.take (dlen l)→¬v<(N:Int))→fig N l=none):=by
 constructor
 ·intro v h1 h2 h3;obtain⟨a1,a2⟩:=zmW (zfi l) h2 (by omega);refine⟨a1,?_⟩;unfold fig;rw[if_pos ⟨by omega,by omega⟩,a2]
 ·intro h;unfold fig;rw[if_neg];rintro⟨a1,a2⟩;obtain⟨b1,b2⟩:=zmV a1;exact h _ b2 b1.symm a2
end Go.Proofs.YtkinoehmcfhgbaaGreatDoor.Vl
