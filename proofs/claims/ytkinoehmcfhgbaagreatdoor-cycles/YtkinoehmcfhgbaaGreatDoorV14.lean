/- A part of the proof. -/
import Derived.Test.YtkinoehmcfhgbaaGreatDoorT12
set_option linter.unusedVariables false
set_option linter.unusedSimpArgs false
set_option maxRecDepth 100000
set_option maxHeartbeats 2000000
namespace Go.Proofs.YtkinoehmcfhgbaaGreatDoor.Vl
open Go.RowKit
theorem Tryz.sizeVSym:(Tryz.prog.info? 136).map (·.size)=some 4:=by kernel_rfl
def vset4 (X:World) (B:Nat) (c0 c1 c2 c3:Value):World:=(((X.setCell ⟨B,0,none⟩ c0).setCell ⟨B,1,none⟩ c1).setCell ⟨B,2,none⟩ c2).setCell ⟨B,3,none⟩ c3
theorem load4 (X:World) (B:Nat) (c0 c1 c2 c3:Value) (h0:X.cell? ⟨B,0,none⟩=some c0) (h1:X.cell? ⟨B,1,none⟩=some c1) (h2:X.cell? ⟨B,2,none⟩=some c2) (h3:X.cell? ⟨B,3,none⟩=some c3):(loadVar 136 ⟨B,0,none⟩).run Tryz.prog X=.ok (.agg #[c0,c1,c2,c3]) X :=
 run_loadVar_mid _ _ 0 136 [c0,c1,c2,c3] _ (by
  intro j v hv
  match j,hv with
  | 0,hv=>cases hv;exact h0
  | 1,hv=>cases hv;exact h1
  | 2,hv=>cases hv;exact h2
  | 3,hv=>cases hv;exact h3) Tryz.underlying136 rfl Tryz.sizeVSym
theorem zdE (X:World) (B:Nat) (c0 c1 c2 c3:Value) (h:∀j,j<4→∃u,X.cell? ⟨B,j,none⟩=some u):(loadVar 136 ⟨B,0,none⟩).run Tryz.prog (vset4 X B c0 c1 c2 c3)=.ok (.agg #[c0,c1,c2,c3]) (vset4 X B c0 c1 c2 c3):=by
 unfold vset4;refine load4 _ B c0 c1 c2 c3 ?_ ?_ ?_ ?_
 ·rw[zab _ _ _ _ _ (by omega),zab _ _ _ _ _ (by omega),zab _ _ _ _ _ (by omega)];exact zal _ _ _ (h 0 (by omega))
 ·rw[zab _ _ _ _ _ (by omega),zab _ _ _ _ _ (by omega)];exact zal _ _ _ (by rw[zab _ _ _ _ _ (by omega)];exact h 1 (by omega))
 ·rw[zab _ _ _ _ _ (by omega)];exact zal _ _ _ (by rw[zab _ _ _ _ _ (by omega),zab _ _ _ _ _ (by omega)];exact h 2 (by omega))
 ·exact zal _ _ _ (by rw[zab _ _ _ _ _ (by omega),zab _ _ _ _ _ (by omega),zab _ _ _ _ _ (by omega)];exact h 3 (by omega))
theorem zcB {a X:World} {n B:Nat} (c0 c1 c2 c3:Value) (h:Below n a X) (hB:n≤B):Below n a (vset4 X B c0 c1 c2 c3) :=
 (((h.setCell (p:=⟨B,0,none⟩) hB c0).setCell (p:=⟨B,1,none⟩) hB c1).setCell (p:=⟨B,2,none⟩) hB c2).setCell (p:=⟨B,3,none⟩) hB c3
theorem res4 (w:World) (t:TypeId):Res w (w.alloc (.cells zZb t)) 4 :=
 ⟨zaa _ _,by simp,fun j hj=>by
  match j,hj with
  | 0,_=>simp
  | 1,_=>simp
  | 2,_=>simp
  | 3,_=>simp,fun j=>by simp⟩
theorem Res.some4 {w W:World} (h:Res w W 4):∀j,j<4→∃u,W.cell? ⟨w.heap.size,j,none⟩=some u:=fun j hj=>⟨_,h.2.2.1 j hj⟩
theorem zns (c:Int):-1≤mk c∧mk c≤5:=by
 unfold mk;repeat' split
 all_goals omega
def symV (y:Sym):Value:=.agg #[.int .i64 y.1,.int .i64 y.2.1,.int .i64 y.2.2.1,.int .i64 y.2.2.2]
def csymV:Option (Sym×List UInt8)→Value
 | none=>.tuple #[symV (0,0,0,0),.string ⟨#[]⟩,.bool false]
 | some (y,r)=>.tuple #[symV y,.string ⟨r.toArray⟩,.bool true]
theorem zeJ (s:ByteArray) (w:World) (hg:Gl w) (hs:s.size≤4000) (h0:0<s.size) :
 Calls Tryz.prog 75 #[.string s] w fun e w'=>e=.returned (csymV (csym s.data.toList))∧Below w.heap.size w w':=by
 have hd:s.data.toList=s[0]::rest s 1:=zag s 0 h0;have hg0:Gl (w.alloc (.cells zZb 136)):=hg.on (zaa _ _);have hr0:=res4 w 136;have HC:Hid (csym s.data.toList=if (0:Int)≤Lib.indexByte mks6 s[0] then some ((Lib.indexByte mks6 s[0],0,0,0),rest s 1) else
  if (Lib.cut s.data.toList [46]).2.2=true then (patm (Lib.cut s.data.toList [46]).1).map fun a=>((6,a),(Lib.cut s.data.toList [46]).2.1) else none):=by
  show _=_;rw[hd];rfl
 have CI:Hid (∀w,Calls Tryz.prog 112 #[.string ⟨#[116,102,33,38,124,62]⟩,.int .u8 (s[0].toNat:Int)] w fun e w'=>e=.returned (.int .i64 (Lib.indexByte mks6 s[0]))∧w=w'):=zmT s[0];have hir:(-1:Int)≤Lib.indexByte mks6 s[0]∧Lib.indexByte mks6 s[0]≤5:=by rw[zlu];exact zns _
 generalize Lib.indexByte mks6 s[0]=I at *;clear hd;by_cases hI:0≤I
 ·have HC2:Hid (csym s.data.toList=some ((I,0,0,0),rest s 1)):=by show _=_;rw[HC.out,if_pos hI]
  have HX:Hid ((⟨(rest s 1).toArray⟩:ByteArray)=s.extract 1 s.size):=by
   show _=_;rw[zgr]
   congr 2
   rw[List.take_of_length_le (by rw[zax];omega)]
  clear HC;go_enter Tryz.func75,Tryz.ntmps75;go_wp2_with (go_at_call 112;refine(CI.out _).mono ?_;rintro e w' ⟨rfl,rfl⟩);go_region;go_wp2_with fail;refine bodyPost_ret (zbL rfl rfl rfl rfl (load4 _ _ (.int .i64 I) (.int .i64 0) (.int .i64 0) (.int .i64 0) (by simp) (by simp) (by simp) (by simp))) rfl ⟨?_,(zaa _ _).drew⟩;rw[HC2.out];simp only[csymV];rw[HX.out];rfl
 ·obtain⟨X1,X2,E,hcut⟩:∃x y z,Lib.cut s.data.toList [46]=(x,y,z):=⟨_,_,_,rfl⟩
  have hx1:X1.length≤4000:=by
   have h1:(Lib.cut s.data.toList [46]).1.length≤s.data.toList.length:=by
    unfold Lib.cut;split
    ·simp;omega
    ·simp
   rw[hcut] at h1;have h2:s.data.toList.length=s.size:=by simp
   exact Nat.le_trans h1 (by omega)
  have CC:Hid (∀w,Gl w→Calls Tryz.prog 113 #[.string s,.string ⟨#[46]⟩] w fun e w'=>e=.returned (.tuple #[.string ⟨X1.toArray⟩,.string ⟨X2.toArray⟩,.bool E])∧Below w.heap.size w w'):=fun w h=>by
   have:=ziu s ⟨#[46]⟩ w h hs;have e:(⟨#[46]⟩:ByteArray).data.toList=[46]:=rfl;rw[e,hcut] at this;exact this
  have CP0:Hid (∀w,Gl w→Calls Tryz.prog 114 #[.string ⟨X1.toArray⟩] w fun e w'=>e=.returned (patV (patm X1))∧Below w.heap.size w w'):=fun w h=>zet ⟨X1.toArray⟩ w h (by show X1.toArray.size≤4000;simpa using hx1)
  have HC2:Hid (csym s.data.toList=if E=true then (patm X1).map fun a=>((6,a),X2) else none):=by show _=_;rw[HC.out,if_neg hI,hcut]
  clear HC hcut;generalize (⟨X1.toArray⟩:ByteArray)=S1 at *;cases hp:patm X1 with
  | none =>
   have HN:Hid (csym s.data.toList=none):=by show _=_;rw[HC2.out,hp];split<;>rfl
   rw[hp] at CP0;have CP:Hid (∀w,Gl w→Calls Tryz.prog 114 #[.string S1] w fun e w'=>e=.returned (.tuple #[.agg zZd,.bool false])∧Below w.heap.size w w'):=CP0;clear CP0 HC2 hp;generalize (⟨X2.toArray⟩:ByteArray)=S2 at *;go_enter Tryz.func75,Tryz.ntmps75;go_wp2_with (first
    | (go_at_call 112;refine(CI.out _).mono ?_;rintro e w' ⟨rfl,rfl⟩)
    | (go_at_call 113;refine(CC.out _ hg0).mono ?_;rintro e w1 ⟨rfl,hb1⟩;have hr1:=hr0.on hb1;have hg1:=hg0.on hb1)
    | (go_at_call 114;refine(CP.out _ hg1).mono ?_;rintro e w2 ⟨rfl,hb2⟩;have hr2:=hr1.on hb2;have hr3:=hr2.on (zaa w2 (.cells zZd 134));have y0:=hr3.2.2.1 0 (by omega);have y1:=hr3.2.2.1 1 (by omega);have y2:=hr3.2.2.1 2 (by omega);have y3:=hr3.2.2.1 3 (by omega);have f0:=hr3.2.2.2 0;have f1:=hr3.2.2.2 1;have f2:=hr3.2.2.2 2;have f3:=hr3.2.2.2 3;have hne:¬w2.heap.size=w.heap.size:=(by have:=hr2.2.1;omega);have hne':¬w.heap.size=w2.heap.size:=(by have:=hr2.2.1;omega)))
   all_goals (exact bodyPost_ret (zbL rfl rfl rfl rfl (zdE _ _ _ _ _ _ hr3.some4)) rfl ⟨by rw[HN.out];rfl,zcB _ _ _ _ hr3.1 (Nat.le_refl _)⟩)
  | some q =>
   obtain⟨a1,a2,a3⟩:=q;rw[hp] at CP0;have CP:Hid (∀w,Gl w→Calls Tryz.prog 114 #[.string S1] w fun e w'=>e=.returned (.tuple #[.agg #[.int .i64 a1,.int .i64 a2,.int .i64 a3],.bool true])∧Below w.heap.size w w'):=CP0;cases E with
   | false =>
    have HN:Hid (csym s.data.toList=none):=by show _=_;rw[HC2.out];rfl
    clear CP0 HC2 hp;generalize (⟨X2.toArray⟩:ByteArray)=S2 at *;go_enter Tryz.func75,Tryz.ntmps75;go_wp2_with (first
     | (go_at_call 112;refine(CI.out _).mono ?_;rintro e w' ⟨rfl,rfl⟩)
     | (go_at_call 113;refine(CC.out _ hg0).mono ?_;rintro e w1 ⟨rfl,hb1⟩;have hr1:=hr0.on hb1;have hg1:=hg0.on hb1)
     | (go_at_call 114;refine(CP.out _ hg1).mono ?_;rintro e w2 ⟨rfl,hb2⟩;have hr2:=hr1.on hb2;have hr3:=hr2.on (zaa w2 (.cells #[.int .i64 a1,.int .i64 a2,.int .i64 a3] 134));have y0:=hr3.2.2.1 0 (by omega);have y1:=hr3.2.2.1 1 (by omega);have y2:=hr3.2.2.1 2 (by omega);have y3:=hr3.2.2.1 3 (by omega);have f0:=hr3.2.2.2 0;have f1:=hr3.2.2.2 1;have f2:=hr3.2.2.2 2;have f3:=hr3.2.2.2 3;have hne:¬w2.heap.size=w.heap.size:=(by have:=hr2.2.1;omega);have hne':¬w.heap.size=w2.heap.size:=(by have:=hr2.2.1;omega)))
    exact bodyPost_ret (zbL rfl rfl rfl rfl (zdE _ _ _ _ _ _ hr3.some4)) rfl ⟨by rw[HN.out];rfl,zcB _ _ _ _ hr3.1 (Nat.le_refl _)⟩
   | true =>
    have HN:Hid (csym s.data.toList=some ((6,a1,a2,a3),X2)):=by show _=_;rw[HC2.out,hp];rfl
    have HS2:Hid (csymV (some ((6,a1,a2,a3),X2))=.tuple #[.agg #[.int .i64 6,.int .i64 a1,.int .i64 a2,.int .i64 a3],.string ⟨X2.toArray⟩,.bool true]):=rfl;clear CP0 HC2 hp;generalize (⟨X2.toArray⟩:ByteArray)=S2 at *;go_enter Tryz.func75,Tryz.ntmps75;go_wp2_with (first
     | (go_at_call 112;refine(CI.out _).mono ?_;rintro e w' ⟨rfl,rfl⟩)
     | (go_at_call 113;refine(CC.out _ hg0).mono ?_;rintro e w1 ⟨rfl,hb1⟩;have hr1:=hr0.on hb1;have hg1:=hg0.on hb1)
     | (go_at_call 114;refine(CP.out _ hg1).mono ?_;rintro e w2 ⟨rfl,hb2⟩;have hr2:=hr1.on hb2;have hr3:=hr2.on (zaa w2 (.cells #[.int .i64 a1,.int .i64 a2,.int .i64 a3] 134));have y0:=hr3.2.2.1 0 (by omega);have y1:=hr3.2.2.1 1 (by omega);have y2:=hr3.2.2.1 2 (by omega);have y3:=hr3.2.2.1 3 (by omega);have f0:=hr3.2.2.2 0;have f1:=hr3.2.2.2 1;have f2:=hr3.2.2.2 2;have f3:=hr3.2.2.2 3;have hne:¬w2.heap.size=w.heap.size:=(by have:=hr2.2.1;omega);have hne':¬w.heap.size=w2.heap.size:=(by have:=hr2.2.1;omega)))
    exact bodyPost_ret (zbL rfl rfl rfl rfl (zdE _ _ _ _ _ _ hr3.some4)) rfl ⟨by rw[HN.out,HS2.out];rfl,zcB _ _ _ _ hr3.1 (Nat.le_refl _)⟩
theorem zhF (k:Int) (w:World) :
 Calls Tryz.prog 76 #[.int .i64 k] w fun e w'=>e=.returned (.int .i64 (prt k))∧w=w':=by
 go_enter Tryz.func76,Tryz.ntmps76;go_wp2
 all_goals go_ret
 all_goals refine⟨zaB ?_,rfl⟩
 all_goals simp_all [prt]
def vcell4 (y:Sym):List Value:=[.int .i64 y.1,.int .i64 y.2.1,.int .i64 y.2.2.1,.int .i64 y.2.2.2]
def vcells4 (l:List Sym):List Value:=l.flatMap vcell4
theorem zfv (l:List Sym) (y:Sym):vcells4 (l++[y])=vcells4 l++vcell4 y:=by simp[vcells4]
theorem Tryz.infoVSym:(Tryz.prog.info? 136).map (fun i=>(i.zero,i.size,i.bytes))=some (some (.agg zZb),4,32):=by kernel_rfl
theorem zg5 (w:World) (B:Nat) (hB:B=w.heap.size) (a b c d:Value) (t:TypeId):∀j u,[a,b,c,d][j]?=some u→(w.alloc (.cells #[a,b,c,d] t)).cell? ((⟨B,0,none⟩:Addr).add j)=some u:=by
 subst hB;intro j u h
 match j,h with
 | 0,h=>simp at h;subst h;simp[Addr.add]
 | 1,h=>simp at h;subst h;simp[Addr.add]
 | 2,h=>simp at h;subst h;simp[Addr.add]
 | 3,h=>simp at h;subst h;simp[Addr.add]
theorem zkZ (x y z t:Int):∀u∈[Value.int .i64 x,.int .i64 y,.int .i64 z,.int .i64 t],u.oneCell'=true:=by
 intro u hu;simp at hu;rcases hu with rfl|rfl|rfl|rfl<;>rfl
def tsz:Value→Nat
 | .string t=>t.size
 | _=>0
theorem zjy (t:ByteArray):tsz (.string t)=t.size:=rfl
def ParseEnd (w:World) (p:Option (List Sym)) (e:Ending) (w':World):Prop :=
 ∃v,e=.returned (.tuple #[v,.bool p.isSome])∧(∀ys,p=some ys→w'.ownsRow w.heap.size 136 4 v ys.length (vcells4 ys))∧Below w.heap.size w w'
theorem zdF (s:ByteArray) (w:World) (hg:Gl w) (hmax:s.size≤maxLen) :
 Calls Tryz.prog 46 #[.string s] w fun e w'=>ParseEnd w (pars s) e w':=by
 by_cases hlong:4000<s.size
 ·have HP:Hid (pars s=none):=by show _=_;unfold pars;rw[if_pos hlong]
  have hlong':(4000:Int)<(s.size:Int):=by omega
  go_enter Tryz.func46,Tryz.ntmps46;go_wp2
  go_ret2
  exact⟨_,by rw[HP.out];rfl,fun ys h=>by(rw[HP.out] at h;cases h),Below.refl _ _⟩
 ·have HP:Hid (pars s=prsA 1 (rest s 0)):=by show _=_;unfold pars;rw[if_neg hlong];rfl
  have hlong':¬(4000:Int)<(s.size:Int):=by omega
  generalize pars s=P at *;obtain⟨i0,hi,hz0,hz1,hz2⟩:=info_parts Tryz.infoVSym;go_enter Tryz.func46,Tryz.ntmps46;go_wp2_with fail
  go_loopw [0,4,5] (fun tv v c wr=>∃(t:ByteArray) (k:Nat) (m:Int) (ds:List Sym),k≤s.size∧tv=.string t∧t.data.toList=rest s k∧c=.int .i64 m∧0≤m∧m≤k+1∧wr.ownsRow w.heap.size 136 4 v ds.length (vcells4 ds)∧ds.length≤k∧P=(prsA m (rest s k)).map (ds++·)∧Below w.heap.size w wr) (fun tv _ _ _=>tsz tv)
  case atStart=>exact⟨s,0,1,[],Nat.zero_le _,rfl,rfl,rfl,by omega,by omega,World.ownsRow_nil _ _ _ _,Nat.le_refl _,by rw[HP.out];simp,Below.refl _ _⟩
  case round =>
   obtain⟨t,k,m,ds,hk,rfl,ht,rfl,hm0,hm1,hown,hul,hq,hnx⟩:=hrel;have Q:Hid (P=(prsA m (rest s k)).map (ds++·)):=hq;have HT:Hid (t.data.toList=rest s k):=ht;have htl:t.size=s.size-k:=by
    have:t.data.toList.length=t.size:=by simp
    rw[←this,ht,zax]
   clear hq HP ht;have hgr:=hg.on hnx;by_cases hlt:k<s.size
   ·have ht0:0<t.size:=by omega
    have ht0':(0:Int)<(t.size:Int):=by omega
    have CS:Hid (Calls Tryz.prog 75 #[.string t] wr fun e w'=>e=.returned (csymV (csym t.data.toList))∧Below wr.heap.size wr w'):=zeJ t wr hgr (by omega) ht0;rw[HT.out,zag s k hlt,zkG,←zag s k hlt] at CS;have HTL:Hid (t.size=s.size-k):=htl;clear htl;cases hsy:sym (rest s k) with
    | none =>
     have HN:Hid (P=none):=by
      show _=_
      rw[Q.out,zag s k hlt,zdO _ _ _ (by rw[←zag s k hlt];exact hsy)];rfl
     rw[hsy] at CS;have CS':Hid (Calls Tryz.prog 75 #[.string t] wr fun e w'=>e=.returned (.tuple #[.agg zZb,.string ⟨#[]⟩,.bool false])∧Below wr.heap.size wr w'):=CS;clear CS;go_wp2_with (go_at_call 75;refine(CS'.out).mono ?_;rintro e w1 ⟨rfl,hb1⟩)
     all_goals go_ret2
     all_goals exact⟨_,by rw[HN.out];rfl,fun ys h=>by(rw[HN.out] at h;cases h),(hnx.trans (hb1.mono hnx.size)).alloc (by have:=hb1.size;have:=hnx.size;omega) _⟩
    | some q =>
     obtain⟨⟨y0,y1,y2,y3⟩,j⟩:=q;have hj:=zbz hsy;rw[zax] at hj;rw[hsy] at CS;have hdr:(rest s k).drop j=rest s (k+j):=zbu s k j;have CS':Hid (Calls Tryz.prog 75 #[.string t] wr fun e w'=>e=.returned (.tuple #[.agg #[.int .i64 y0,.int .i64 y1,.int .i64 y2,.int .i64 y3],.string ⟨(rest s (k+j)).toArray⟩,.bool true])∧Below wr.heap.size wr w'):=by rw[←hdr];exact CS
     have HT2:Hid ((⟨(rest s (k+j)).toArray⟩:ByteArray).data.toList=rest s (k+j)):=rfl;have HTS:Hid ((⟨(rest s (k+j)).toArray⟩:ByteArray).size=s.size-(k+j)):=by
      show(rest s (k+j)).toArray.size=_;rw[List.size_toArray,zax]
     clear CS hdr;generalize (⟨(rest s (k+j)).toArray⟩:ByteArray)=T2 at *;by_cases hz:m=0
     ·subst hz;have HN:Hid (P=none):=by show _=_;rw[Q.out,zag s k hlt,zdN];rfl
      go_wp2_with (go_at_call 75;refine(CS'.out).mono ?_;rintro e w1 ⟨rfl,hb1⟩)
      go_ret2
      exact⟨_,by rw[HN.out];rfl,fun ys h=>by(rw[HN.out] at h;cases h),(hnx.trans (hb1.mono hnx.size)).alloc (by have:=hb1.size;have:=hnx.size;omega) _⟩
     ·have hz':(m==0)=false:=by simpa using hz
      have Q2:Hid (P=(prsA (m+(prt y0-1)) (rest s (k+j))).map ((ds++[(y0,y1,y2,y3)])++·)):=by
       show _=_
       rw[Q.out,zag s k hlt,zcp m _ _ (y0,y1,y2,y3) j hz (by rw[←zag s k hlt];exact hsy),←zag s k hlt,zbu];have ee:m+prt y0-1=m+(prt y0-1):=by omega
       simp[Option.map_map,Function.comp_def,ee]
      have hpr:=zaD y0;clear hsy;generalize hpp:prt y0=pp at *;have CPt:Hid (∀w,Calls Tryz.prog 76 #[.int .i64 y0] w fun e w'=>e=.returned (.int .i64 pp)∧w=w'):=fun w=>by rw[←hpp];exact zhF y0 w
      clear hpp;go_wp2_with (first
       | (go_at_call 75;refine(CS'.out).mono ?_;rintro e w1 ⟨rfl,hb1⟩;have hown1:=(zad hown hb1).alloc (.cells #[.int .i64 y0,.int .i64 y1,.int .i64 y2,.int .i64 y3] 136))
       | (at_builtin;refine wpList_append_own _ rfl _ _ 75 rfl w.heap.size 136 i0 (.agg zZb) 4 32 Tryz.underlying75 hi hz0 hz1 hz2 rfl (by decide) _ _ _ rfl (hown1.alloc _) ⟨w1.heap.size+1,0,none⟩ 1 1 [.int .i64 y0,.int .i64 y1,.int .i64 y2,.int .i64 y3] rfl rfl (zg5 _ _ (by simp) _ _ _ _ _) (zkZ _ _ _ _) (by unfold maxLen;omega) (by omega) (by have:=hb1.size;have:=hnx.size;simp;omega) ?_))
      intro v' w3 hown3 hgrow _;have hb1s:=hb1.size;have hnxs:=hnx.size;have hbb:=(hnx.trans (hb1.mono hnxs)).alloc (by omega) (.cells #[.int .i64 y0,.int .i64 y1,.int .i64 y2,.int .i64 y3] 136);have hb3:=(hbb.alloc (by simp;omega) _).grown hgrow (by simp;omega) (zaf hown);have hy0:w3.cell? ⟨w1.heap.size,0,none⟩=some (.int .i64 y0):=hgrow.cell (by simp) (by
       intro e;have:=(hown.lt _ e.symm).2;simp at this;omega)
      clear hown hown1 hgrow hbb;go_wp2_with (go_at_call 76;refine(CPt.out _).mono ?_;rintro e w' ⟨rfl,rfl⟩)
      go_roundw
      case rel=>exact⟨T2,k+j,m+(pp-1),ds++[(y0,y1,y2,y3)],by omega,rfl,HT2.out,by go_num,by omega,by omega,by rw[zfv,List.length_append];exact hown3,by simp;omega,Q2.out,hb3⟩
      case measure=>simp only[zjy];have:=HTS.out;have:=HTL.out;simp[zjy];omega
   ·have ht0:t.size=0:=by omega
    have ht0':¬(0:Int)<(t.size:Int):=by omega
    have Q2:Hid (P=if m=0 then some ds else none):=by
     show _=_
     rw[Q.out,zbh s k (by omega),zc2];split<;>simp
    clear htl ht0;by_cases hz:m=0
    ·subst hz;have HS:Hid (P=some ds):=by show _=_;rw[Q2.out,if_pos rfl]
     go_wp2_with fail
     go_ret2
     exact⟨u4,by rw[HS.out];rfl,fun ys h=>by(rw[HS.out] at h;cases h;exact hown),hnx⟩
    ·have HN:Hid (P=none):=by show _=_;rw[Q2.out,if_neg hz]
     have hz':0<m:=by omega
     go_wp2_with fail
     go_ret2
     exact⟨_,by rw[HN.out];rfl,fun ys h=>by(rw[HN.out] at h;cases h),hnx⟩
theorem zjz (i x1 x2 x3 x4:Int) (w:World) (h:0≤i∧i≤4) :
 Calls Tryz.prog 115 #[.int .i64 i,.agg #[.int .i64 x1,.int .i64 x2,.int .i64 x3,.int .i64 x4]] w fun e w'=>e=.returned (.int .i64 (xv x1 x2 x3 x4 i))∧Below w.heap.size w w':=by
 have hi:i=0∨i=1∨i=2∨i=3∨i=4:=by omega
 rcases hi with rfl|rfl|rfl|rfl|rfl
 all_goals
  go_enter Tryz.func115,Tryz.ntmps115;go_wp2;go_ret;exact⟨rfl,zaa _ _⟩
def Two (w w':World) (B:Nat) (a1 a2 a3 x1 x2 x3 x4:Int):Prop :=
 Below w.heap.size w w'∧B+1<w'.heap.size∧w'.cell? ⟨B,0,none⟩=some (.int .i64 a1)∧w'.cell? ⟨B,1,none⟩=some (.int .i64 a2)∧w'.cell? ⟨B,2,none⟩=some (.int .i64 a3) ∧
 w'.cell? ⟨B+1,0,none⟩=some (.int .i64 x1)∧w'.cell? ⟨B+1,1,none⟩=some (.int .i64 x2)∧w'.cell? ⟨B+1,2,none⟩=some (.int .i64 x3)∧w'.cell? ⟨B+1,3,none⟩=some (.int .i64 x4)
theorem Two.on {w X X':World} {B:Nat} {a1 a2 a3 x1 x2 x3 x4:Int} (h:Two w X B a1 a2 a3 x1 x2 x3 x4) (hb:Below X.heap.size X X'):Two w X' B a1 a2 a3 x1 x2 x3 x4:=by
 obtain⟨h0,h1,c0,c1,c2,d0,d1,d2,d3⟩:=h;have hB:B<X.heap.size:=by omega
 exact⟨h0.trans (hb.mono h0.size),Nat.lt_of_lt_of_le h1 hb.size,(hb.cell (p:=⟨B,0,none⟩) hB).trans c0,(hb.cell (p:=⟨B,1,none⟩) hB).trans c1,(hb.cell (p:=⟨B,2,none⟩) hB).trans c2,
  (hb.cell (p:=⟨B+1,0,none⟩) h1).trans d0,(hb.cell (p:=⟨B+1,1,none⟩) h1).trans d1,(hb.cell (p:=⟨B+1,2,none⟩) h1).trans d2,(hb.cell (p:=⟨B+1,3,none⟩) h1).trans d3⟩
theorem zhG (a1 a2 a3 x1 x2 x3 x4:Int) (w:World) (h1:0≤a1∧a1≤4) (h2:0≤a2∧a2≤4) (hg:gds x1 x2 x3 x4=true) :
 Calls Tryz.prog 79 #[.agg #[.int .i64 a1,.int .i64 a2,.int .i64 a3],.agg #[.int .i64 x1,.int .i64 x2,.int .i64 x3,.int .i64 x4]] w fun e w'=>e=.returned (.bool (hld x1 x2 x3 x4 (a1,a2,a3)))∧Below w.heap.size w w':=by
 have CV:Hid (∀(i:Int) w,0≤i∧i≤4→Calls Tryz.prog 115 #[.int .i64 i,.agg #[.int .i64 x1,.int .i64 x2,.int .i64 x3,.int .i64 x4]] w fun e w'=>e=.returned (.int .i64 (xv x1 x2 x3 x4 i))∧Below w.heap.size w w'):=fun i w h=>zjz i x1 x2 x3 x4 w h
 have HH:Hid (hld x1 x2 x3 x4 (a1,a2,a3)=decide (xv x1 x2 x3 x4 a1-xv x1 x2 x3 x4 a2≤a3)):=rfl;have hX:=zbM hg a1;have hY:=zbM hg a2;have A1:Hid (0≤a1∧a1≤4):=h1;have A2:Hid (0≤a2∧a2≤4):=h2;clear h1 h2 hg;generalize hxv:xv x1 x2 x3 x4=XV at *;clear hxv;go_enter Tryz.func79,Tryz.ntmps79;go_wp2_with fail;have b0:Below w.heap.size w ((w.alloc (.cells #[.int .i64 a1,.int .i64 a2,.int .i64 a3] 134)).alloc (.cells #[.int .i64 x1,.int .i64 x2,.int .i64 x3,.int .i64 x4] 36)):=(zaa w _).alloc (by simp) _;generalize hW:(w.alloc (.cells #[.int .i64 a1,.int .i64 a2,.int .i64 a3] 134)).alloc (.cells #[.int .i64 x1,.int .i64 x2,.int .i64 x3,.int .i64 x4] 36)=W at *;have s0:w.heap.size+1<W.heap.size:=by rw[←hW];simp
 have c0:W.cell? ⟨w.heap.size,0,none⟩=some (.int .i64 a1):=by rw[←hW];simp
 have c1:W.cell? ⟨w.heap.size,1,none⟩=some (.int .i64 a2):=by rw[←hW];simp
 have c2:W.cell? ⟨w.heap.size,2,none⟩=some (.int .i64 a3):=by rw[←hW];simp
 have d0:W.cell? ⟨w.heap.size+1,0,none⟩=some (.int .i64 x1):=by rw[←hW];simp
 have d1:W.cell? ⟨w.heap.size+1,1,none⟩=some (.int .i64 x2):=by rw[←hW];simp
 have d2:W.cell? ⟨w.heap.size+1,2,none⟩=some (.int .i64 x3):=by rw[←hW];simp
 have d3:W.cell? ⟨w.heap.size+1,3,none⟩=some (.int .i64 x4):=by rw[←hW];simp
 have b1:Below w.heap.size w W.drew:=b0.drew;have T0:Two w W.drew w.heap.size a1 a2 a3 x1 x2 x3 x4:=⟨b1,s0,c0,c1,c2,d0,d1,d2,d3⟩;clear hW;go_region_held3 (fun w'=>Below w.heap.size w w'∧w.heap.size+1<w'.heap.size∧w'.cell? ⟨w.heap.size,0,none⟩=some (.int .i64 a1)∧w'.cell? ⟨w.heap.size,1,none⟩=some (.int .i64 a2)∧w'.cell? ⟨w.heap.size,2,none⟩=some (.int .i64 a3)∧w'.cell? ⟨w.heap.size+1,0,none⟩=some (.int .i64 x1)∧w'.cell? ⟨w.heap.size+1,1,none⟩=some (.int .i64 x2)∧w'.cell? ⟨w.heap.size+1,2,none⟩=some (.int .i64 x3)∧w'.cell? ⟨w.heap.size+1,3,none⟩=some (.int .i64 x4)) (simp[*]) (first|(go_at_call 115;refine(CV.out _ _ ?_).mono ?_;(first|exact A1.out|exact A2.out);rintro e w3 ⟨rfl,hb3⟩;first|(have T2:=T1.on hb3;obtain⟨t0,t1,t2,t3,t4,t5,t6,t7,t8⟩:=id T2)|(have T1:=T0.on hb3;obtain⟨t0,t1,t2,t3,t4,t5,t6,t7,t8⟩:=id T1)));have hwr:IntKind.i64.wrap (XV a1-XV a2)=XV a1-XV a2:=IntWalk.i64_in _ (by omega);go_wp2_with fail;go_ret;refine⟨?_,t0⟩;rw[HH.out]
 first|rfl|(simp only[hwr];rfl)|simp[hwr]
def StAt (W:World) (B:Nat) (x1 x2 x3 x4:Int):Prop:=B<W.heap.size∧W.cell? ⟨B,0,none⟩=some (.int .i64 x1)∧W.cell? ⟨B,1,none⟩=some (.int .i64 x2)∧W.cell? ⟨B,2,none⟩=some (.int .i64 x3)∧W.cell? ⟨B,3,none⟩=some (.int .i64 x4)
theorem StAt.on {W W':World} {B:Nat} {x1 x2 x3 x4:Int} (h:StAt W B x1 x2 x3 x4) (hb:Below W.heap.size W W'):StAt W' B x1 x2 x3 x4:=by
 obtain⟨h0,a,b,c,d⟩:=h;exact⟨Nat.lt_of_lt_of_le h0 hb.size,(hb.cell (p:=⟨B,0,none⟩) h0).trans a,(hb.cell (p:=⟨B,1,none⟩) h0).trans b,(hb.cell (p:=⟨B,2,none⟩) h0).trans c,(hb.cell (p:=⟨B,3,none⟩) h0).trans d⟩
theorem zms (a1 a2 a3 x1 x2 x3 x4:Int) (B:Nat) (w:World) (hs:StAt w B x1 x2 x3 x4) (ho:okA (a1,a2,a3)) (hg:gds x1 x2 x3 x4=true) :
 Calls Tryz.prog 77 #[.agg #[.int .i64 a1,.int .i64 a2,.int .i64 a3],.pointer (some ⟨B,0,none⟩)] w fun e w'=>e=.returned (.int .i8 (tof (hld x1 x2 x3 x4 (a1,a2,a3))))∧Below w.heap.size w w':=by
 have hok:=ho;unfold okA at hok;dsimp only at hok;have CA:Hid (∀w,Calls Tryz.prog 79 #[.agg #[.int .i64 a1,.int .i64 a2,.int .i64 a3],.agg #[.int .i64 x1,.int .i64 x2,.int .i64 x3,.int .i64 x4]] w fun e w'=>e=.returned (.bool (hld x1 x2 x3 x4 (a1,a2,a3)))∧Below w.heap.size w w'):=fun w=>zhG a1 a2 a3 x1 x2 x3 x4 w ⟨by omega,by omega⟩ ⟨by omega,by omega⟩ hg
 have CT:Hid (∀b w,Calls Tryz.prog 78 #[.bool b] w fun e w'=>e=.returned (.int .i8 (tof b))∧w=w'):=zf6;obtain⟨s0,s1,s2,s3,s4⟩:=hs.on (zaa w (.cells #[.int .i64 a1,.int .i64 a2,.int .i64 a3] 134));clear hs hok ho hg;generalize hld x1 x2 x3 x4 (a1,a2,a3)=HL at *;go_enter Tryz.func77,Tryz.ntmps77;go_wp2_with (first
  | (go_at_call 79;refine(CA.out _).mono ?_;rintro e w3 ⟨rfl,hb3⟩)
  | (go_at_call 78;refine(CT.out _ _).mono ?_;rintro e w' ⟨rfl,rfl⟩))
 go_ret;exact⟨rfl,(zaa w _).trans (hb3.mono (by simp))⟩
theorem zhH {s:ByteArray} {ys:List Sym} (hp:pars s=some ys) (v:Value) (x1 x2 x3 x4:Int) (w:World) (hg:gds x1 x2 x3 x4=true) (hI:Syms w.heap.size w v ys) :
 Calls Tryz.prog 47 #[v,.agg #[.int .i64 x1,.int .i64 x2,.int .i64 x3,.int .i64 x4]] w fun e w'=>e=.returned (.bool (val x1 x2 x3 x4 ys))∧Below w.heap.size w w':=by
 obtain⟨hs,hprs,_,_⟩:=zaz hp;obtain⟨ps,hps⟩:=zcq s ys 0 1 (Nat.zero_le _) hprs;have hl:=zcD ys 0 1 ps hps;obtain⟨t,ht3,hr1,hr2⟩:=zcV x1 x2 x3 x4 hp;obtain⟨b,cap,rfl,hbs,hcs⟩:=id hI;have CS:Hid (∀W B,Below w.heap.size w W→StAt W B x1 x2 x3 x4→Calls Tryz.prog 80 #[.slice (some ⟨b,0,none⟩) ys.length cap,.func (.func 77) #[] #[.pointer (some ⟨B,0,none⟩)]] W fun e w'=>e=.returned (.int .i8 t)∧Below W.heap.size W w'):=fun W B hW hst =>
  csettleH (fun a=>tof (hld x1 x2 x3 x4 a)) (.pointer (some ⟨B,0,none⟩)) (fun W=>StAt W B x1 x2 x3 x4) (fun _ _ h hb=>h.on hb) (fun a=>zm1 _) b cap ys W (by omega) ((hI.below hW).more hW.size) (zf5 _ ys 0 1 ps hps (by omega)) t hr1 hst (fun W a1 a2 a3 h ho=>zms a1 a2 a3 x1 x2 x3 x4 B W h ho hg)
 have hst:StAt (w.alloc (.cells #[.int .i64 x1,.int .i64 x2,.int .i64 x3,.int .i64 x4] 36)) w.heap.size x1 x2 x3 x4:=⟨by simp,by simp,by simp,by simp,by simp⟩;have HV:Hid (val x1 x2 x3 x4 ys=(t==1)):=hr2;have HST:Hid _:=hst;clear hst hr1 hr2 hI hcs hps hprs hp hl;go_enter Tryz.func47,Tryz.ntmps47;go_wp2_with (go_at_call 80;refine(CS.out _ _ (zaa w _) HST.out).mono ?_;rintro e w3 ⟨rfl,hb3⟩);go_ret;refine⟨?_,(zaa w _).trans (hb3.mono (by simp))⟩;rw[HV.out];rfl
theorem zmt {w w':World} {v:Value} {ys:List Sym} (h:Syms w.heap.size w v ys) (hb:Below w.heap.size w w'):Syms w'.heap.size w' v ys:=by
 obtain⟨b,cap,h1,h2,h3⟩:=h.below hb;exact⟨b,cap,h1,Nat.lt_of_lt_of_le h2 hb.size,h3⟩
theorem zec:∀(l:List Sym) (j:Nat) (y:Sym),l[j]?=some y→(vcells4 l)[j*4]?=some (.int .i64 y.1)∧(vcells4 l)[j*4+1]?=some (.int .i64 y.2.1)∧(vcells4 l)[j*4+2]?=some (.int .i64 y.2.2.1)∧(vcells4 l)[j*4+3]?=some (.int .i64 y.2.2.2)
 | [],j,a,h=>by simp at h
 | x::r,0,a,h=>by simp at h;subst h;simp[vcells4,vcell4]
 | x::r,j+1,a,h=>by
  have:=zec r j a (by simpa using h);have e1:(j+1)*4=j*4+4:=by omega
  simp only[vcells4,List.flatMap_cons] at *;rw[e1];refine⟨?_,?_,?_,?_⟩
  ·rw[List.getElem?_append_right (by simp[vcell4])];simpa [vcell4] using this.1
  ·rw[List.getElem?_append_right (by simp[vcell4])];simpa [vcell4,Nat.add_assoc] using this.2.1
  ·rw[List.getElem?_append_right (by simp[vcell4])];simpa [vcell4,Nat.add_assoc] using this.2.2.1
  ·rw[List.getElem?_append_right (by simp[vcell4])];simpa [vcell4,Nat.add_assoc] using this.2.2.2
theorem zeK {w:World} {base:Nat} {v:Value} {ys:List Sym} (h:w.ownsRow base 136 4 v ys.length (vcells4 ys)) (hn:0<ys.length):Syms w.heap.size w v ys:=by
 rcases h.2 with⟨h1,h2⟩|⟨g,cap,cur,hv,hg,hh,h3,h4,h5,h6⟩
 ·omega
 ·have hlt:g<w.heap.size:=by
   rcases Nat.lt_or_ge g w.heap.size with h|h
   ·exact h
   ·rw[Array.getElem?_eq_none h] at hh;cases hh
  refine⟨g,cap,hv,hlt,fun j y hy=>?_⟩;have hc:=zec ys j y hy;have e:∀i u,(vcells4 ys)[i]?=some u→w.cell? ⟨g,i,none⟩=some u:=by
   intro i u hu;rw[←h6,List.getElem?_take] at hu;split at hu
   ·have:cur[i]?=some u:=by simpa using hu
    simp[World.cell?,hh,this]
   ·cases hu
  exact⟨e _ _ hc.1,e _ _ hc.2.1,e _ _ hc.2.2.1,e _ _ hc.2.2.2⟩
theorem zed (s:ByteArray) (x1 x2 x3 x4:Int) (w:World) (hgl:Gl w) (hmax:s.size≤maxLen) :
 Calls Tryz.prog 22 #[.string s,.agg #[.int .i64 x1,.int .i64 x2,.int .i64 x3,.int .i64 x4]] w fun e w'=>e=.returned (.tuple #[.bool (vAns (pars s) x1 x2 x3 x4).1,.int .i64 (vAns (pars s) x1 x2 x3 x4).2])∧Below w.heap.size w w':=by
 have CP:Hid (∀w,Gl w→Calls Tryz.prog 46 #[.string s] w fun e w'=>ParseEnd w (pars s) e w'):=fun w h=>zdF s w h hmax
 have CG:Hid (∀w,Calls Tryz.prog 43 #[.agg #[.int .i64 x1,.int .i64 x2,.int .i64 x3,.int .i64 x4]] w fun e w'=>e=.returned (.bool (gds x1 x2 x3 x4))∧Below w.heap.size w w'):=fun w=>zfH x1 x2 x3 x4 w
 have hg0:Gl (w.alloc (.cells #[.int .i64 x1,.int .i64 x2,.int .i64 x3,.int .i64 x4] 36)):=hgl.on (zaa _ _);cases hp:pars s with
 | none =>
  rw[hp] at CP;have CP':Hid (∀w,Gl w→Calls Tryz.prog 46 #[.string s] w fun e w'=>∃v,e=.returned (.tuple #[v,.bool false])∧Below w.heap.size w w'):=fun w h=>(CP.out w h).mono fun e w' h=>by obtain⟨v,h1,_,h2⟩:=h;exact⟨v,h1,h2⟩
  clear CP;go_enter Tryz.func22,Tryz.ntmps22;go_wp2_with (go_at_call 46;refine(CP'.out _ hg0).mono ?_;rintro e w1 ⟨v,rfl,hb1⟩)
  go_ret2
  exact⟨rfl,(zaa w _).trans (hb1.mono (by simp))⟩
 | some ys =>
  rw[hp] at CP;have hne:0<ys.length:=by
   obtain⟨r,_,hr1,_⟩:=zcV x1 x2 x3 x4 hp;cases ys with
   | nil=>cases hr1
   | cons y r=>simp
  have CP':Hid (∀w,Gl w→Calls Tryz.prog 46 #[.string s] w fun e w'=>∃v,e=.returned (.tuple #[v,.bool true])∧Syms w'.heap.size w' v ys∧Below w.heap.size w w'):=fun w h=>(CP.out w h).mono fun e w' h=>by obtain⟨v,h1,h3,h2⟩:=h;exact⟨v,h1,zeK (h3 ys rfl) hne,h2⟩
  clear CP;cases hg:gds x1 x2 x3 x4 with
  | false =>
   rw[hg] at CG;have HR:Hid (vAns (some ys) x1 x2 x3 x4=(false,4)):=by show _=_;simp[vAns,hg]
   go_enter Tryz.func22,Tryz.ntmps22;go_wp2_with (first
    | (go_at_call 46;refine(CP'.out _ hg0).mono ?_;rintro e w1 ⟨v,rfl,hS1,hb1⟩;have d0:w1.cell? ⟨w.heap.size,0,none⟩=some (.int .i64 x1):=(hb1.cell (p:=⟨w.heap.size,0,none⟩) (by simp)).trans (by simp);have d1:w1.cell? ⟨w.heap.size,1,none⟩=some (.int .i64 x2):=(hb1.cell (p:=⟨w.heap.size,1,none⟩) (by simp)).trans (by simp);have d2:w1.cell? ⟨w.heap.size,2,none⟩=some (.int .i64 x3):=(hb1.cell (p:=⟨w.heap.size,2,none⟩) (by simp)).trans (by simp);have d3:w1.cell? ⟨w.heap.size,3,none⟩=some (.int .i64 x4):=(hb1.cell (p:=⟨w.heap.size,3,none⟩) (by simp)).trans (by simp))
    | (go_at_call 43;refine(CG.out _).mono ?_;rintro e w2 ⟨rfl,hb2⟩))
   go_ret2
   have hs1:w.heap.size+1≤w1.heap.size:=by have:=hb1.size;simpa using this
   exact⟨by rw[HR.out];rfl,((zaa w _).trans (hb1.mono (by simp))).trans (hb2.mono (by omega))⟩
  | true =>
   rw[hg] at CG;have HR:Hid (vAns (some ys) x1 x2 x3 x4=(val x1 x2 x3 x4 ys,0)):=by show _=_;simp[vAns,hg]
   have CV:Hid (∀w v,Syms w.heap.size w v ys→Calls Tryz.prog 47 #[v,.agg #[.int .i64 x1,.int .i64 x2,.int .i64 x3,.int .i64 x4]] w fun e w'=>e=.returned (.bool (val x1 x2 x3 x4 ys))∧Below w.heap.size w w'):=fun w v h=>zhH hp v x1 x2 x3 x4 w hg h
   generalize val x1 x2 x3 x4 ys=V at *;go_enter Tryz.func22,Tryz.ntmps22;go_wp2_with (first
    | (go_at_call 46;refine(CP'.out _ hg0).mono ?_;rintro e w1 ⟨v,rfl,hS1,hb1⟩;have d0:w1.cell? ⟨w.heap.size,0,none⟩=some (.int .i64 x1):=(hb1.cell (p:=⟨w.heap.size,0,none⟩) (by simp)).trans (by simp);have d1:w1.cell? ⟨w.heap.size,1,none⟩=some (.int .i64 x2):=(hb1.cell (p:=⟨w.heap.size,1,none⟩) (by simp)).trans (by simp);have d2:w1.cell? ⟨w.heap.size,2,none⟩=some (.int .i64 x3):=(hb1.cell (p:=⟨w.heap.size,2,none⟩) (by simp)).trans (by simp);have d3:w1.cell? ⟨w.heap.size,3,none⟩=some (.int .i64 x4):=(hb1.cell (p:=⟨w.heap.size,3,none⟩) (by simp)).trans (by simp);have hs1:w.heap.size<w1.heap.size:=(by have:=hb1.size;simp at this;omega))
    | (go_at_call 43;refine(CG.out _).mono ?_;rintro e w2 ⟨rfl,hb2⟩;have e0:=(hb2.cell (p:=⟨w.heap.size,0,none⟩) hs1).trans d0;have e1:=(hb2.cell (p:=⟨w.heap.size,1,none⟩) hs1).trans d1;have e2:=(hb2.cell (p:=⟨w.heap.size,2,none⟩) hs1).trans d2;have e3:=(hb2.cell (p:=⟨w.heap.size,3,none⟩) hs1).trans d3;have hS2:=zmt hS1 hb2)
    | (go_at_call 47;refine(CV.out _ _ hS2).mono ?_;rintro e w3 ⟨rfl,hb3⟩))
   go_ret2
   exact⟨by rw[HR.out];rfl,(((zaa w _).trans (hb1.mono (by simp))).trans (hb2.mono (by omega))).trans (hb3.mono (by have:=hb2.size;omega))⟩
end Go.Proofs.YtkinoehmcfhgbaaGreatDoor.Vl
