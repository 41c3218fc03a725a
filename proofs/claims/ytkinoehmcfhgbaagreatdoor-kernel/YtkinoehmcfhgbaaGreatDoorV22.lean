/- A part of the proof. -/
import Derived.Test.YtkinoehmcfhgbaaGreatDoorS3
set_option linter.unusedVariables false
set_option linter.unusedSimpArgs false
set_option maxRecDepth 100000
set_option maxHeartbeats 4000000
namespace Go.Proofs.YtkinoehmcfhgbaaGreatDoor.Vl
open Go.RowKit
theorem zkT {w w':World} {v:Value} {ys:List Sym} (h:Syms w.heap.size w v ys) (hb:Below w.heap.size w w'):Syms w'.heap.size w' v ys:=by
 obtain⟨b,cap,h1,h2,h3⟩:=h.below hb;exact⟨b,cap,h1,Nat.lt_of_lt_of_le h2 hb.size,h3⟩
theorem zdO:∀(l:List Sym) (j:Nat) (y:Sym),l[j]?=some y→(vcells4 l)[j*4]?=some (.int .i64 y.1)∧(vcells4 l)[j*4+1]?=some (.int .i64 y.2.1)∧(vcells4 l)[j*4+2]?=some (.int .i64 y.2.2.1)∧(vcells4 l)[j*4+3]?=some (.int .i64 y.2.2.2)
 | [],j,a,h=>by simp at h
 | x::r,0,a,h=>by simp at h;subst h;simp[vcells4,vcell4]
 | x::r,j+1,a,h=>by
  have:=zdO r j a (by simpa using h);have e1:(j+1)*4=j*4+4:=by omega
  simp only[vcells4,List.flatMap_cons] at *;rw[e1];refine⟨?_,?_,?_,?_⟩
  ·rw[List.getElem?_append_right (by simp[vcell4])];simpa [vcell4] using this.1
  ·rw[List.getElem?_append_right (by simp[vcell4])];simpa [vcell4,Nat.add_assoc] using this.2.1
  ·rw[List.getElem?_append_right (by simp[vcell4])];simpa [vcell4,Nat.add_assoc] using this.2.2.1
  ·rw[List.getElem?_append_right (by simp[vcell4])];simpa [vcell4,Nat.add_assoc] using this.2.2.2
theorem zd8 {w:World} {base:Nat} {v:Value} {ys:List Sym} (h:w.ownsRow base 136 4 v ys.length (vcells4 ys)) (hn:0<ys.length):Syms w.heap.size w v ys:=by
 rcases h.2 with⟨h1,h2⟩|⟨g,cap,cur,hv,hg,hh,h3,h4,h5,h6⟩
 ·omega
 ·have hlt:g<w.heap.size:=by
   rcases Nat.lt_or_ge g w.heap.size with h|h
   ·exact h
   ·rw[Array.getElem?_eq_none h] at hh;cases hh
  refine⟨g,cap,hv,hlt,fun j y hy=>?_⟩;have hc:=zdO ys j y hy;have e:∀i u,(vcells4 ys)[i]?=some u→w.cell? ⟨g,i,none⟩=some u:=by
   intro i u hu;rw[←h6,List.getElem?_take] at hu;split at hu
   ·have:cur[i]?=some u:=by simpa using hu
    simp[World.cell?,hh,this]
   ·cases hu
  exact⟨e _ _ hc.1,e _ _ hc.2.1,e _ _ hc.2.2.1,e _ _ hc.2.2.2⟩
theorem zdP (s:ByteArray) (x1 x2 x3 x4:Int) (w:World) (hgl:Gl w) (hmax:s.size≤maxLen) :
 Calls Tryz.prog 22 #[.string s,.agg #[.int .i64 x1,.int .i64 x2,.int .i64 x3,.int .i64 x4]] w fun e w'=>e=.returned (.tuple #[.bool (vAns (pars s) x1 x2 x3 x4).1,.int .i64 (vAns (pars s) x1 x2 x3 x4).2])∧Below w.heap.size w w':=by
 have CP:Hid (∀w,Gl w→Calls Tryz.prog 46 #[.string s] w fun e w'=>ParseEnd w (pars s) e w'):=fun w h=>zdf s w h hmax
 have CG:Hid (∀w,Calls Tryz.prog 43 #[.agg #[.int .i64 x1,.int .i64 x2,.int .i64 x3,.int .i64 x4]] w fun e w'=>e=.returned (.bool (gds x1 x2 x3 x4))∧Below w.heap.size w w'):=fun w=>zfi x1 x2 x3 x4 w
 have hg0:Gl (w.alloc (.cells #[.int .i64 x1,.int .i64 x2,.int .i64 x3,.int .i64 x4] 36)):=hgl.on (zaa _ _);cases hp:pars s with
 | none =>
  rw[hp] at CP;have CP':Hid (∀w,Gl w→Calls Tryz.prog 46 #[.string s] w fun e w'=>∃v,e=.returned (.tuple #[v,.bool false])∧Below w.heap.size w w'):=fun w h=>(CP.out w h).mono fun e w' h=>by obtain⟨v,h1,_,h2⟩:=h;exact⟨v,h1,h2⟩
  clear CP;go_enter Tryz.func22,Tryz.ntmps22;go_wp2_with (go_at_call 46;refine(CP'.out _ hg0).mono ?_;rintro e w1 ⟨v,rfl,hb1⟩)
  go_ret2
  exact⟨rfl,(zaa w _).trans (hb1.mono (by simp))⟩
 | some ys =>
  rw[hp] at CP;have hne:0<ys.length:=by
   obtain⟨r,_,hr1,_⟩:=zcH x1 x2 x3 x4 hp;cases ys with
   | nil=>cases hr1
   | cons y r=>simp
  have CP':Hid (∀w,Gl w→Calls Tryz.prog 46 #[.string s] w fun e w'=>∃v,e=.returned (.tuple #[v,.bool true])∧Syms w'.heap.size w' v ys∧Below w.heap.size w w'):=fun w h=>(CP.out w h).mono fun e w' h=>by obtain⟨v,h1,h3,h2⟩:=h;exact⟨v,h1,zd8 (h3 ys rfl) hne,h2⟩
  clear CP;cases hg:gds x1 x2 x3 x4 with
  | false =>
   rw[hg] at CG;have HR:Hid (vAns (some ys) x1 x2 x3 x4=(false,4)):=by show _=_;simp[vAns,hg]
   go_enter Tryz.func22,Tryz.ntmps22;go_wp2_with (first
    | (go_at_call 46;refine(CP'.out _ hg0).mono ?_;rintro e w1 ⟨v,rfl,hS1,hb1⟩;have d0:w1.cell? ⟨w.heap.size,0,none⟩=some (.int .i64 x1):=(hb1.cell (p:=⟨w.heap.size,0,none⟩) (by simp)).trans (by simp);have d1:w1.cell? ⟨w.heap.size,1,none⟩=some (.int .i64 x2):=(hb1.cell (p:=⟨w.heap.size,1,none⟩) (by simp)).trans (by simp);have d2:w1.cell? ⟨w.heap.size,2,none⟩=some (.int .i64 x3):=(hb1.cell (p:=⟨w.heap.size,2,none⟩) (by simp)).trans (by simp);have d3:w1.cell? ⟨w.heap.size,3,none⟩=some (.int .i64 x4):=(hb1.cell (p:=⟨w.heap.size,3,none⟩) (by simp)).trans (by simp))
    | (go_at_call 43;refine(CG.out _).mono ?_;rintro e w2 ⟨rfl,hb2⟩))
   go_ret2
   have hs1:w.heap.size+1≤w1.heap.size:=by have:=hb1.size;simpa using this
   exact⟨by rw[HR.out];rfl,((zaa w _).trans (hb1.mono (by simp))).trans (hb2.mono (by omega))⟩
  | true =>
   rw[hg] at CG;have HR:Hid (vAns (some ys) x1 x2 x3 x4=(val x1 x2 x3 x4 ys,0)):=by show _=_;simp[vAns,hg]
   have CV:Hid (∀w v,Syms w.heap.size w v ys→Calls Tryz.prog 47 #[v,.agg #[.int .i64 x1,.int .i64 x2,.int .i64 x3,.int .i64 x4]] w fun e w'=>e=.returned (.bool (val x1 x2 x3 x4 ys))∧Below w.heap.size w w'):=fun w v h=>zg2 hp v x1 x2 x3 x4 w hg h
   generalize val x1 x2 x3 x4 ys=V at *;go_enter Tryz.func22,Tryz.ntmps22;go_wp2_with (first
    | (go_at_call 46;refine(CP'.out _ hg0).mono ?_;rintro e w1 ⟨v,rfl,hS1,hb1⟩;have d0:w1.cell? ⟨w.heap.size,0,none⟩=some (.int .i64 x1):=(hb1.cell (p:=⟨w.heap.size,0,none⟩) (by simp)).trans (by simp);have d1:w1.cell? ⟨w.heap.size,1,none⟩=some (.int .i64 x2):=(hb1.cell (p:=⟨w.heap.size,1,none⟩) (by simp)).trans (by simp);have d2:w1.cell? ⟨w.heap.size,2,none⟩=some (.int .i64 x3):=(hb1.cell (p:=⟨w.heap.size,2,none⟩) (by simp)).trans (by simp);have d3:w1.cell? ⟨w.heap.size,3,none⟩=some (.int .i64 x4):=(hb1.cell (p:=⟨w.heap.size,3,none⟩) (by simp)).trans (by simp);have hs1:w.heap.size<w1.heap.size:=(by have:=hb1.size;simp at this;omega))
    | (go_at_call 43;refine(CG.out _).mono ?_;rintro e w2 ⟨rfl,hb2⟩;have e0:=(hb2.cell (p:=⟨w.heap.size,0,none⟩) hs1).trans d0;have e1:=(hb2.cell (p:=⟨w.heap.size,1,none⟩) hs1).trans d1;have e2:=(hb2.cell (p:=⟨w.heap.size,2,none⟩) hs1).trans d2;have e3:=(hb2.cell (p:=⟨w.heap.size,3,none⟩) hs1).trans d3;have hS2:=zkT hS1 hb2)
    | (go_at_call 47;refine(CV.out _ _ hS2).mono ?_;rintro e w3 ⟨rfl,hb3⟩))
   go_ret2
   exact⟨by rw[HR.out];rfl,(((zaa w _).trans (hb1.mono (by simp))).trans (hb2.mono (by omega))).trans (hb3.mono (by have:=hb2.size;omega))⟩
def cfm (ys:List Sym) (P:List UInt8):Bool:=decide (P.length≤200000)&&decide (chk (uqs ys) ys (P.length+1) (fun _=>0) P=some [])
theorem zhA (w:World) :
 Calls Tryz.prog 52 #[] w fun e w'=>e=.returned (.pointer (some ⟨w.heap.size+1,0,none⟩))∧KnAt w' (w.heap.size+1) (.slice none 0 0) (.slice none 0 0) [] w.heap.size∧AM w' w.heap.size 0 (fun _=>0)∧Below w.heap.size w w':=by
 have h1:=AM.made w;have hb:Below (w.alloc (.map #[] 0)).heap.size (w.alloc (.map #[] 0)) ((w.alloc (.map #[] 0)).alloc (.cells #[.slice none 0 0,.slice none 0 0,.string ⟨#[]⟩,.map (some w.heap.size)] 173)):=zaa _ _;have h2:AM ((w.alloc (.map #[] 0)).alloc (.cells #[.slice none 0 0,.slice none 0 0,.string ⟨#[]⟩,.map (some w.heap.size)] 173)) w.heap.size 0 (fun _=>0):=h1.below hb;have h3:KnAt ((w.alloc (.map #[] 0)).alloc (.cells #[.slice none 0 0,.slice none 0 0,.string ⟨#[]⟩,.map (some w.heap.size)] 173)) (w.heap.size+1) (.slice none 0 0) (.slice none 0 0) [] w.heap.size:=by
  unfold KnAt;have:=heap_alloc_new (w.alloc (.map #[] 0)) (.cells #[.slice none 0 0,.slice none 0 0,.string ⟨#[]⟩,.map (some w.heap.size)] 173);rw[World.size_alloc] at this;exact this
 have H2:Hid _:=h2;have H3:Hid _:=h3;have H4:Hid (Below w.heap.size w ((w.alloc (.map #[] 0)).alloc (.cells #[.slice none 0 0,.slice none 0 0,.string ⟨#[]⟩,.map (some w.heap.size)] 173))):=(zaa w _).trans (hb.mono (by simp));clear h1 h2 h3 hb;have hmm:=@run_makeMap Tryz.prog;go_enter Tryz.func52,Tryz.ntmps52;go_wp2_with fail;go_ret;exact⟨by simp,H3.out,H2.out,H4.out⟩
theorem KnAt.fill {w:World} {b mb:Nat} {vW vA:Value} {l:List UInt8} (h:KnAt w b vW vA l mb) (vW' vA':Value) (l':List UInt8):KnAt (((w.setCell ⟨b,0,none⟩ vW').setCell ⟨b,1,none⟩ vA').setCell ⟨b,2,none⟩ (.string ⟨l'.toArray⟩)) b vW' vA' l' mb :=
 heap_setCell_same _ b 2 _ _ _ (heap_setCell_same _ b 1 _ _ _ (heap_setCell_same w b 0 _ _ _ h))
theorem grown3 (w:World) (b:Nat) (u v x:Value):w.grownBy (((w.setCell ⟨b,0,none⟩ u).setCell ⟨b,1,none⟩ v).setCell ⟨b,2,none⟩ x) (some b):=((zaB w b 0 u).trans (zaB _ b 1 v)).trans (zaB _ b 2 x)
theorem zcs {s:ByteArray} {ys:List Sym} (hp:pars s=some ys) (w0 w:World) (b mb:Nat) (vW0 vA0 vW:Value) (l0 P:List UInt8) (n:Nat) (f:Atm→Int) (hgl:Gl w0) (h0:Below w0.heap.size w0 w) (hb:w0.heap.size≤b) (hm:w0.heap.size≤mb) (hbm:b≠mb)
 (hk:KnAt w b vW0 vA0 l0 mb) (ha:AM w mb n f) (hs:Syms w0.heap.size w0 vW ys) (hP:P.length≤maxLen) :
 Calls Tryz.prog 53 #[.pointer (some ⟨b,0,none⟩),vW,.string ⟨P.toArray⟩] w fun e w'=>e=.returned (.bool (cfm ys P))∧FrK b mb w w'∧∃vW' vA' l' n' f',KnAt w' b vW' vA' l' mb∧AM w' mb n' f':=by
 obtain⟨hs4,hprs,hul,hok⟩:=zaz hp;have hyl:ys.length≤4000:=by
  obtain⟨ps,hps⟩:=zcx s ys 0 1 (Nat.zero_le _) hprs;have:=zcn ys 0 1 ps hps;omega
 have hbw:=hk.lt;have hmw:=ha.lt;have HK:Hid (KnAt w b vW0 vA0 l0 mb):=hk;have HA:Hid (AM w mb n f):=ha;have eS:(⟨P.toArray⟩:ByteArray).size=P.length:=by simp[ByteArray.size]
 by_cases hlong:200000<P.length
 ·have HR:Hid (cfm ys P=false):=by show _=_;unfold cfm;rw[decide_eq_false (by omega)];rfl
  have hl':(200000:Int)<((⟨P.toArray⟩:ByteArray).size:Int):=by rw[eS];omega
  obtain⟨bg,bc,rfl,_,_⟩:=hs;go_enter Tryz.func53,Tryz.ntmps53;go_wp2_with fail;go_ret;exact⟨by rw[HR.out];rfl,FrK.refl _ _ _,_,_,_,_,_,HK.out,HA.out⟩
 ·have hl':¬(200000:Int)<((⟨P.toArray⟩:ByteArray).size:Int):=by rw[eS];omega
  have hsw:Syms w.heap.size w vW ys:=(hs.below h0).more h0.size;have CA:Hid (Calls Tryz.prog 85 #[vW] w fun e w'=>∃u,e=.returned u∧w'.ownsRow w.heap.size 134 3 u (uqs ys).length (cells3 (uqs ys))∧Below w.heap.size w w'):=zdT vW ys w hsw hyl;have HSY:Hid (∃g c,vW=.slice (some ⟨g,0,none⟩) ys.length c∧g≠b∧g≠mb):=by
   obtain⟨g,c,e1,e2,_⟩:=hs;exact⟨g,c,e1,by omega,by omega⟩
  have HS:Hid _:=hs;obtain⟨c0,c1,c2,c3⟩:=hk.cells;have HR:Hid (cfm ys P=decide (chk (uqs ys) ys (P.length+1) (fun _=>0) P=some [])):=by show _=_;unfold cfm;rw[decide_eq_true (by omega)];rfl
  have HKP:Hid (∀(W:World) (q:Option Addr) (cap:Nat),KS w0 W b mb vW ys q cap (uqs ys) P 0 (fun _=>0)→Calls Tryz.prog 86 #[.pointer (some ⟨b,0,none⟩)] W (PE w0 W b mb vW ys q cap (uqs ys) (0+P.length) (fun _=>0) (chk (uqs ys) ys (P.length+1) (fun _=>0) P))):=fun W q cap h=>zdS hp hgl hul hok (P.length+1) W P 0 (fun _=>0) (fun _=>Or.inl rfl) (by omega) (by omega) h
  generalize hS0:(⟨P.toArray⟩:ByteArray)=S0 at *;have HS0:Hid ((⟨P.toArray⟩:ByteArray)=S0):=hS0;clear hS0;generalize hCK:chk (uqs ys) ys (P.length+1) (fun _=>0) P=CK at *;generalize uqs ys=us at *;obtain⟨bg,bc,rfl,hbg,_⟩:=hs;clear hk ha hsw hCK hok;go_enter Tryz.func53,Tryz.ntmps53;go_wp2_with fail;refine Calls.mono CA.out ?_;rintro e w1 ⟨u,rfl,hown,hb1⟩;have hat:Atms w1 u us:=zc2 hown;obtain⟨qa,qc,rfl⟩:=zbE hat;have hk1:KnAt w1 b vW0 vA0 l0 mb:=KnAt.below HK.out hb1;have f0:=hk1.free 0;have f1:=hk1.free 1;have f2:=hk1.free 2;obtain⟨d0,d1,d2,d3⟩:=hk1.cells;have hk2:=hk1.fill (.slice (some ⟨bg,0,none⟩) ys.length bc) (.slice qa us.length qc) P;have hg2:=grown3 w1 b (.slice (some ⟨bg,0,none⟩) ys.length bc) (.slice qa us.length qc) (.string ⟨P.toArray⟩);rw[HS0.out] at hk2 hg2;have ha2:AM _ mb n f:=(AM.below HA.out hb1).kept hg2 (fun e=>hbm (by injection e with e;exact e.symm));obtain⟨w3,hclr,ha3,hg3⟩:=AM.clear ha2 0;have hF2:FrK b mb w w3:=(FrK.of_below hb1).trans ((FrK.of_b hg2).trans (FrK.of_m hg3));have hk3:KnAt w3 b (.slice (some ⟨bg,0,none⟩) ys.length bc) (.slice qa us.length qc) P mb:=KnAt.kept hk2 hg3 (fun e=>hbm (by injection e));have hb03:Below w0.heap.size w0 w3:=hF2.below h0 hb hm;have hgq:∀g,qa=some ⟨g,0,none⟩→g≠b∧g≠mb:=fun g e=>by
   have:=zae hown g (by rw[e];rfl);exact⟨by omega,by omega⟩
  have hat3:Atms w3 (.slice qa us.length qc) us:=by
   rcases hat with h1|⟨g,c,h1,h2,h3,h4,h5⟩
   ·exact Or.inl h1
   ·obtain⟨n1,n2⟩:=hgq g (by injection h1);have hF3:FrK b mb w1 w3:=(FrK.of_b hg2).trans (FrK.of_m hg3);have e:=hF3.block g h4 n1 n2;have ec:∀o,w3.cell? ⟨g,o,none⟩=w1.cell? ⟨g,o,none⟩:=fun o=>World.cell?_of_block (a:=⟨g,o,none⟩) e
    exact Or.inr ⟨g,c,h1,h2,h3,Nat.lt_of_lt_of_le h4 hF3.size,fun j a ha=>⟨(ec _).trans (h5 j a ha).1,(ec _).trans (h5 j a ha).2.1,(ec _).trans (h5 j a ha).2.2⟩⟩
  have hKS:KS w0 w3 b mb (.slice (some ⟨bg,0,none⟩) ys.length bc) ys qa qc us P 0 (fun _=>0):=⟨⟨hb03,hb,hm,hbm,hat3,hgq,HSY.out,(Syms.below HS.out hb03).more hb03.size⟩,hk3,ha3⟩;have HC3:Hid (KS w0 w3 b mb (.slice (some ⟨bg,0,none⟩) ys.length bc) ys qa qc us P 0 (fun _=>0)):=hKS;have HF2:Hid (FrK b mb w w3):=hF2;have e3:=hk2.cells.2.2.2;clear hk2 hk3 ha2 ha3 hg2 hg3 hKS hF2 hat3 hgq hb03 hat hown hk1;go_wp2_with fail;refine Calls.mono (HKP.out _ _ _ HC3.out) ?_;rintro e w4 ⟨hF4,l',n',f',hK4,hcs⟩;have HK4:Hid (KS w0 w4 b mb (.slice (some ⟨bg,0,none⟩) ys.length bc) ys qa qc us l' n' f'):=hK4;have HF4:Hid (FrK b mb w w4):=HF2.out.trans hF4;obtain⟨x0,x1,x2,x3⟩:=hK4.kn.cells;clear hF4 hK4;rcases hcs with⟨r,hres,rfl,rfl,hn,rfl⟩|⟨hres,rfl⟩
  ·cases hr:l' with
   | nil =>
    subst hr;have HRR:Hid (cfm ys P=true):=by show _=_;rw[HR.out,hres];rfl
    have x2':w4.cell? ⟨b,2,none⟩=some (.string ⟨#[]⟩):=x2;clear x2;go_wp2_with fail;go_ret;exact⟨by rw[HRR.out];rfl,HF4.out,_,_,_,_,_,HK4.out.kn,HK4.out.am⟩
   | cons c r =>
    have HRR:Hid (cfm ys P=false):=by show _=_;rw[HR.out,hres,hr];rfl
    have hne:(⟨l'.toArray⟩:ByteArray).toList.isEmpty=false:=by
     rw[ByteArray.toList_eq];simp[hr]
    generalize (⟨l'.toArray⟩:ByteArray)=S1 at *;go_wp2_with fail;go_ret;exact⟨by rw[HRR.out,←hne];rfl,HF4.out,_,_,_,_,_,HK4.out.kn,HK4.out.am⟩
  ·have HRR:Hid (cfm ys P=false):=by show _=_;rw[HR.out,hres];rfl
   go_wp2_with fail;go_ret;exact⟨by rw[HRR.out];rfl,HF4.out,_,_,_,_,_,HK4.out.kn,HK4.out.am⟩
def fAns (p:Option (List Sym)) (P:List UInt8):Bool×Int:=match p with
 | none=>(false,7)
 | some ys=>(cfm ys P,0)
theorem zct (s:ByteArray) (P:List UInt8) (w:World) (hgl:Gl w) (hmax:s.size≤maxLen) (hP:P.length≤maxLen) :
 Calls Tryz.prog 25 #[.string s,.string ⟨P.toArray⟩] w fun e w'=>e=.returned (.tuple #[.bool (fAns (pars s) P).1,.int .i64 (fAns (pars s) P).2])∧Below w.heap.size w w':=by
 have CP:Hid (∀w,Gl w→Calls Tryz.prog 46 #[.string s] w fun e w'=>ParseEnd w (pars s) e w'):=fun w h=>zdf s w h hmax
 have HGL:Hid (Gl w):=hgl;cases hp:pars s with
 | none =>
  rw[hp] at CP;have CP':Hid (∀w,Gl w→Calls Tryz.prog 46 #[.string s] w fun e w'=>∃v,e=.returned (.tuple #[v,.bool false])∧Below w.heap.size w w'):=fun w h=>(CP.out w h).mono fun e w' h=>by obtain⟨v,h1,_,h2⟩:=h;exact⟨v,h1,h2⟩
  clear CP;go_enter Tryz.func25,Tryz.ntmps25;go_wp2_with (go_at_call 46;refine(CP'.out _ hgl).mono ?_;rintro e w1 ⟨v,rfl,hb1⟩)
  go_ret2
  exact⟨rfl,hb1⟩
 | some ys =>
  rw[hp] at CP;have hne:0<ys.length:=by
   obtain⟨r,_,hr1,_⟩:=zcH 0 0 0 0 hp;cases ys with
   | nil=>cases hr1
   | cons y r=>simp
  have CP':Hid (∀w,Gl w→Calls Tryz.prog 46 #[.string s] w fun e w'=>∃v,e=.returned (.tuple #[v,.bool true])∧Syms w'.heap.size w' v ys∧Below w.heap.size w w'):=fun w h=>(CP.out w h).mono fun e w' h=>by obtain⟨v,h1,h3,h2⟩:=h;exact⟨v,h1,zd8 (h3 ys rfl) hne,h2⟩
  clear CP;have CN:Hid (∀w,Calls Tryz.prog 52 #[] w fun e w'=>e=.returned (.pointer (some ⟨w.heap.size+1,0,none⟩))∧KnAt w' (w.heap.size+1) (.slice none 0 0) (.slice none 0 0) [] w.heap.size∧AM w' w.heap.size 0 (fun _=>0)∧Below w.heap.size w w'):=zhA;have CC:Hid (∀(w0 w:World) (v:Value),Gl w0→Below w0.heap.size w0 w→KnAt w (w0.heap.size+1) (.slice none 0 0) (.slice none 0 0) [] w0.heap.size→AM w w0.heap.size 0 (fun _=>0)→Syms w0.heap.size w0 v ys→Calls Tryz.prog 53 #[.pointer (some ⟨w0.heap.size+1,0,none⟩),v,.string ⟨P.toArray⟩] w fun e w'=>e=.returned (.bool (cfm ys P))∧Below w0.heap.size w0 w'):=fun w0 w v hg h0 hk ha hs=>(zcs hp w0 w (w0.heap.size+1) w0.heap.size _ _ v [] P 0 _ hg h0 (by omega) (Nat.le_refl _) (by omega) hk ha hs hP).mono fun e w' ⟨h1,h2,_⟩=>⟨h1,h2.below h0 (by omega) (Nat.le_refl _)⟩
  generalize (⟨P.toArray⟩:ByteArray)=S0 at *;have HR:Hid (fAns (some ys) P=(cfm ys P,0)):=rfl;generalize fAns (some ys) P=FA at *;generalize cfm ys P=V at *;go_enter Tryz.func25,Tryz.ntmps25;go_wp2_with (first
   | (go_at_call 46;refine(CP'.out _ hgl).mono ?_;rintro e w1 ⟨v,rfl,hS1,hb1⟩)
   | (go_at_call 52;refine(CN.out _).mono ?_;rintro e w2 ⟨rfl,hk2,ha2,hb2⟩)
   | (go_at_call 53;refine(CC.out w1 w2 _ (HGL.out.on hb1) hb2 hk2 ha2 hS1).mono ?_;rintro e w3 ⟨rfl,hb3⟩))
  go_ret2
  exact⟨by rw[HR.out];rfl,hb1.trans (hb3.mono hb1.size)⟩
def bkn (x:Option (Int×List Nat)):Bool:=x.isSome
def bmo (x:Option (Int×List Nat)):Int:=(x.map (·.1)).getD 0
def bby (x:Option (Int×List Nat)):List Int:=((x.map (·.2)).getD ([]:List Nat)).map fun(n:Nat)=>(n:Int)
def BdAt (w:World) (b o:Nat) (B:Bd):Prop:=b<w.heap.size∧∀i j,i<5→j<5 →
 w.cell? ⟨b,o+i*15+j*3,none⟩=some (.bool (bkn (B i j)))∧w.cell? ⟨b,o+i*15+j*3+1,none⟩=some (.int .i64 (bmo (B i j))) ∧
 ∃v,w.cell? ⟨b,o+i*15+j*3+2,none⟩=some v∧IntsR w v (bby (B i j))
theorem BdAt.below {w w':World} {b o:Nat} {B:Bd} (h:BdAt w b o B) (hb:Below w.heap.size w w'):BdAt w' b o B :=
 ⟨Nat.lt_of_lt_of_le h.1 hb.size,fun i j hi hj=>by
  obtain⟨h1,h2,v,h3,h4⟩:=h.2 i j hi hj;exact⟨(hb.cell (p:=⟨b,_,none⟩) h.1).trans h1,(hb.cell (p:=⟨b,_,none⟩) h.1).trans h2,v,(hb.cell (p:=⟨b,_,none⟩) h.1).trans h3,h4.below hb⟩⟩
def bmi (B:Bd) (l r:Nat) (c:Int):Bool:=bkn (B l r)&&decide (bmo (B l r)≤c)
theorem zhB (B:Bd) (l r:Nat) (c:Int):bim B ((l:Int),(r:Int),c)=bmi B l r c:=by
 unfold bim bmi;dsimp only[Int.toNat_natCast];cases B l r with
 | none=>rfl
 | some x=>obtain⟨m,p⟩:=x;rfl
theorem zeK (w:World) (b:Nat) (B:Bd) (l r:Nat) (c:Int) (h:BdAt w b 0 B) (hl:l<5) (hr:r<5) :
 Calls Tryz.prog 236 #[.pointer (some ⟨b,0,none⟩),.agg #[.int .i64 l,.int .i64 r,.int .i64 c]] w fun e w'=>e=.returned (.bool (bmi B l r c))∧Below w.heap.size w w':=by
 obtain⟨hb,hc⟩:=h;obtain⟨h1,h2,v,h3,h4⟩:=hc l r hl hr;unfold bmi;generalize bkn (B l r)=K at *;generalize bmo (B l r)=M at *;clear hc h3 h4;have l5:(l:Int)<5:=by omega
 have r5:(r:Int)<5:=by omega
 rw[Nat.zero_add] at h1 h2;have hbne:¬b=w.heap.size:=by omega
 have hB:=zaa w (.cells #[.int .i64 (l:Int),.int .i64 (r:Int),.int .i64 c] 134);cases K with
 | false =>
  go_enter Tryz.func236,Tryz.ntmps236;go_wp2;go_region;go_wp2;go_region;go_wp2;go_ret;exact⟨rfl,hB.drew.drew⟩
 | true =>
  go_enter Tryz.func236,Tryz.ntmps236;go_wp2;go_region;go_wp2;go_region;go_wp2;go_ret;exact⟨by rw[Bool.true_and];rfl,hB.drew.drew⟩
theorem zkU (a:Atm):ifA a 2=(a.2.1,a.1,-a.2.2-1):=rfl
theorem zkV (B:Bd) (l r:Nat) (c:Int):btr B ((l:Int),(r:Int),c)=if bmi B l r c=true then 1 else if bmi B r l (-c-1)=true then 2 else 0:=by
 unfold btr;rw[zhB,zkU];dsimp only;rw[zhB]
theorem zhC (w:World) (b:Nat) (B:Bd) (l r:Nat) (c:Int) (h:BdAt w b 0 B) (hl:l<5) (hr:r<5) (hc:-999999≤c∧c≤999999) :
 Calls Tryz.prog 179 #[.pointer (some ⟨b,0,none⟩),.agg #[.int .i64 l,.int .i64 r,.int .i64 c]] w fun e w'=>e=.returned (.int .i8 (btr B ((l:Int),(r:Int),c)))∧Below w.heap.size w w':=by
 rw[zkV];have C1:Hid (∀X,Below w.heap.size w X→Calls Tryz.prog 236 #[.pointer (some ⟨b,0,none⟩),.agg #[.int .i64 l,.int .i64 r,.int .i64 c]] X fun e w'=>e=.returned (.bool (bmi B l r c))∧Below X.heap.size X w'):=fun X hX=>zeK X b B l r c (h.below hX) hl hr
 have C2:Hid (∀X,Below w.heap.size w X→Calls Tryz.prog 236 #[.pointer (some ⟨b,0,none⟩),.agg #[.int .i64 r,.int .i64 l,.int .i64 (-c-1)]] X fun e w'=>e=.returned (.bool (bmi B r l (-c-1)))∧Below X.heap.size X w'):=fun X hX=>zeK X b B r l (-c-1) (h.below hX) hr hl
 have C3:Hid (∀X,Calls Tryz.prog 233 #[.agg #[.int .i64 l,.int .i64 r,.int .i64 c],.int .i8 2] X fun e w'=>e=.returned (.agg #[.int .i64 r,.int .i64 l,.int .i64 (-c-1)])∧Below X.heap.size X w'):=fun X=>zeN l r c 2 (Or.inr (Or.inr rfl)) hc X
 generalize bmi B l r c=K1 at *;generalize bmi B r l (-c-1)=K2 at *;generalize -c-1=c' at *;have hB:=zaa w (.cells #[.int .i64 (l:Int),.int .i64 (r:Int),.int .i64 c] 134);have hz0:(w.alloc (.cells #[.int .i64 (l:Int),.int .i64 (r:Int),.int .i64 c] 134)).cell? ⟨w.heap.size,0,none⟩=some (.int .i64 l):=by simp
 have hz1:(w.alloc (.cells #[.int .i64 (l:Int),.int .i64 (r:Int),.int .i64 c] 134)).cell? ⟨w.heap.size,1,none⟩=some (.int .i64 r):=by simp
 have hz2:(w.alloc (.cells #[.int .i64 (l:Int),.int .i64 (r:Int),.int .i64 c] 134)).cell? ⟨w.heap.size,2,none⟩=some (.int .i64 c):=by simp
 have hzs:w.heap.size<(w.alloc (.cells #[.int .i64 (l:Int),.int .i64 (r:Int),.int .i64 c] 134)).heap.size:=by simp
 clear h;have arm:∀{w3:World},Below (w.alloc (.cells #[.int .i64 (l:Int),.int .i64 (r:Int),.int .i64 c] 134)).heap.size (w.alloc (.cells #[.int .i64 (l:Int),.int .i64 (r:Int),.int .i64 c] 134)) w3→Below w.heap.size w w3∧w3.cell? ⟨w.heap.size,0,none⟩=some (.int .i64 l)∧w3.cell? ⟨w.heap.size,1,none⟩=some (.int .i64 r)∧w3.cell? ⟨w.heap.size,2,none⟩=some (.int .i64 c):=fun {w3} hb3 =>
  ⟨hB.trans (hb3.mono hB.size),(hb3.cell (p:=⟨w.heap.size,0,none⟩) hzs).trans hz0,(hb3.cell (p:=⟨w.heap.size,1,none⟩) hzs).trans hz1,(hb3.cell (p:=⟨w.heap.size,2,none⟩) hzs).trans hz2⟩
 have ARM:Hid _:=@arm;clear arm;cases K1 with
 | true =>
  go_enter Tryz.func179,Tryz.ntmps179;go_wp2_with fail
  go_at_call 236
  refine Calls.mono (C1.out _ hB) ?_;rintro e w3 ⟨rfl,hb3⟩;go_wp2_with fail;go_ret;exact⟨rfl,(ARM.out hb3).1⟩
 | false =>
  cases K2 with
  | true =>
   go_enter Tryz.func179,Tryz.ntmps179;go_wp2_with fail
   go_at_call 236
   refine Calls.mono (C1.out _ hB) ?_;rintro e w3 ⟨rfl,hb3⟩;obtain⟨hB3,y0,y1,y2⟩:=ARM.out hb3;clear hz0 hz1 hz2 hzs ARM;go_wp2_with fail
   go_at_call 233
   refine Calls.mono (C3.out _) ?_;rintro e w4 ⟨rfl,hb4⟩;have hB4:=hB3.trans (hb4.mono hB3.size);go_wp2_with fail
   go_at_call 236
   refine Calls.mono (C2.out _ hB4) ?_;rintro e w5 ⟨rfl,hb5⟩;go_wp2_with fail;go_ret;exact⟨rfl,hB4.trans (hb5.mono hB4.size)⟩
  | false =>
   go_enter Tryz.func179,Tryz.ntmps179;go_wp2_with fail
   go_at_call 236
   refine Calls.mono (C1.out _ hB) ?_;rintro e w3 ⟨rfl,hb3⟩;obtain⟨hB3,y0,y1,y2⟩:=ARM.out hb3;clear hz0 hz1 hz2 hzs ARM;go_wp2_with fail
   go_at_call 233
   refine Calls.mono (C3.out _) ?_;rintro e w4 ⟨rfl,hb4⟩;have hB4:=hB3.trans (hb4.mono hB3.size);go_wp2_with fail
   go_at_call 236
   refine Calls.mono (C2.out _ hB4) ?_;rintro e w5 ⟨rfl,hb5⟩;go_wp2_with fail;go_ret;exact⟨rfl,hB4.trans (hb5.mono hB4.size)⟩
theorem zgN (w:World) (b:Nat) (B:Bd) (l r:Nat) (c t:Int) (h:BdAt w b 0 B) (hl:l<5) (hr:r<5) (hc:-999999≤c∧c≤999999) (ht:T3 t) :
 Calls Tryz.prog 186 #[.pointer (some ⟨b,0,none⟩),.agg #[.int .i64 l,.int .i64 r,.int .i64 c],.int .i8 t] w fun e w'=>∃v,e=.returned v∧IntsR w' v ((brs B ((l:Int),(r:Int),c) t).map fun(n:Nat)=>(n:Int))∧Below w.heap.size w w':=by
 obtain⟨l',r',c',e1,e2,hl',hr',e3⟩:∃(l' r':Nat) (c':Int),ifA ((l:Int),(r:Int),c) t=((l':Int),(r':Int),c')∧((brs B ((l:Int),(r:Int),c) t).map fun(n:Nat)=>(n:Int))=bby (B l' r')∧l'<5∧r'<5∧True:=by
  have key:∀(x y:Nat) (z:Int),ifA ((l:Int),(r:Int),c) t=((x:Int),(y:Int),z)→((brs B ((l:Int),(r:Int),c) t).map fun(n:Nat)=>(n:Int))=bby (B x y):=by
   intro x y z e;unfold brs;rw[e];dsimp only[Int.toNat_natCast];cases B x y with
   | none=>rfl
   | some p=>rfl
  by_cases h2:t=2
  ·subst h2;exact⟨r,l,-c-1,rfl,key _ _ _ rfl,hr,hl,trivial⟩
  ·have:ifA ((l:Int),(r:Int),c) t=((l:Int),(r:Int),c):=by unfold ifA;rw[if_neg h2]
   exact⟨l,r,c,this,key _ _ _ this,hl,hr,trivial⟩
 rw[e2];clear e2 e3;have C3:Hid (∀X,Calls Tryz.prog 233 #[.agg #[.int .i64 l,.int .i64 r,.int .i64 c],.int .i8 t] X fun e w'=>e=.returned (.agg #[.int .i64 l',.int .i64 r',.int .i64 c'])∧Below X.heap.size X w'):=fun X=>by
  have:=zeN l r c t ht hc X;rw[e1] at this;exact this
 clear e1;obtain⟨hb,hcells⟩:=h;obtain⟨h1,h2,v,h3,h4⟩:=hcells l' r' hl' hr';have HI:Hid (IntsR w v (bby (B l' r'))):=h4;clear hcells h1 h2 h4;rw[Nat.zero_add] at h3;have l5:(l':Int)<5:=by omega
 have r5:(r':Int)<5:=by omega
 have hB:=zaa w (.cells #[.int .i64 (l:Int),.int .i64 (r:Int),.int .i64 c] 134);go_enter Tryz.func186,Tryz.ntmps186;go_wp2_with (first|(go_at_call 233;refine Calls.mono (C3.out _) ?_;rintro e w4 ⟨rfl,hb4⟩));have hB4:=hB.trans (hb4.mono hB.size);have y3:=(hB4.cell (p:=⟨b,l'*15+r'*3+2,none⟩) hb).trans h3;have hb4':b<w4.heap.size:=Nat.lt_of_lt_of_le hb hB4.size;have hbne:¬b=w4.heap.size:=by omega
 clear h3;have hB5:=hB4.trans ((zaa w4 (.cells #[.int .i64 (l':Int),.int .i64 (r':Int),.int .i64 c'] 134)).mono hB4.size);go_region;go_wp2;go_ret;exact⟨_,rfl,HI.out.below hB5.drew,hB5.drew⟩
open Go.RowKit Go.Maps
structure FrX (M:List Nat) (w w':World):Prop where
 os:w'.os=w.os
 tape:w'.tape=w.tape
 output:w'.output=w.output
 size:w.heap.size≤w'.heap.size
 block:∀k,k<w.heap.size→k∉M→w'.heap[k]?=w.heap[k]?
theorem FrX.refl (M:List Nat) (w:World):FrX M w w:=⟨rfl,rfl,rfl,Nat.le_refl _,fun _ _ _=>rfl⟩
theorem FrX.trans {M:List Nat} {a c d:World} (h:FrX M a c) (k:FrX M c d):FrX M a d :=
 ⟨k.os.trans h.os,k.tape.trans h.tape,k.output.trans h.output,Nat.le_trans h.size k.size,fun i hi h1=>(k.block i (Nat.lt_of_lt_of_le hi h.size) h1).trans (h.block i hi h1)⟩
theorem FrX.of_below {M:List Nat} {w w':World} (h:Below w.heap.size w w'):FrX M w w':=⟨h.os,h.tape,h.output,h.size,fun k hk _=>h.block k hk⟩
theorem FrX.of_grown {M:List Nat} {w w':World} {b:Nat} (h:w.grownBy w' (some b)) (hb:b∈M):FrX M w w':=⟨h.os,h.tape,h.output,h.size,fun k hk h1=>h.block k hk (fun e=>h1 (by injection e with e;rw[e];exact hb))⟩
theorem FrX.of_set {M:List Nat} (w:World) (b o:Nat) (v:Value) (hb:b∈M):FrX M w (w.setCell ⟨b,o,none⟩ v):=FrX.of_grown (zaB w b o v) hb
theorem FrX.below {M:List Nat} {w0 w w':World} (h:FrX M w w') (h0:Below w0.heap.size w0 w) (hM:∀m∈M,w0.heap.size≤m):Below w0.heap.size w0 w' :=
 ⟨h.os.trans h0.os,h.tape.trans h0.tape,h.output.trans h0.output,Nat.le_trans h0.size h.size,fun k hk=>(h.block k (Nat.lt_of_lt_of_le hk h0.size) (fun e=>by have:=hM k e;omega)).trans (h0.block k hk)⟩
theorem FrX.sub {M M':List Nat} {w w':World} (h:FrX M w w') (hs:∀m∈M,m∈M'):FrX M' w w':=⟨h.os,h.tape,h.output,h.size,fun k hk h1=>h.block k hk (fun e=>h1 (hs k e))⟩
theorem FrX.cell {M:List Nat} {w w':World} (h:FrX M w w') {b:Nat} (o:Nat) (hb:b<w.heap.size) (hM:b∉M):w'.cell? ⟨b,o,none⟩=w.cell? ⟨b,o,none⟩:=World.cell?_of_block (a:=⟨b,o,none⟩) (h.block b hb hM)
theorem FrX.nil_below {w w':World} (h:FrX [] w w'):Below w.heap.size w w':=⟨h.os,h.tape,h.output,h.size,fun k hk=>h.block k hk List.not_mem_nil⟩
def Blk (w:World) (b:Nat) (ty:TypeId) (cs:List Value):Prop:=w.heap[b]?=some (.cells cs.toArray ty)
theorem Blk.lt {w:World} {b:Nat} {ty:TypeId} {cs:List Value} (h:Blk w b ty cs):b<w.heap.size:=(Array.getElem?_eq_some_iff.1 h).1
theorem Blk.cell {w:World} {b:Nat} {ty:TypeId} {cs:List Value} (h:Blk w b ty cs) {i:Nat} {v:Value} (hv:cs[i]?=some v):w.cell? ⟨b,i,none⟩=some v:=by
 unfold Blk at h;simp[World.cell?,h,hv]
theorem Blk.cell? {w:World} {b:Nat} {ty:TypeId} {cs:List Value} (h:Blk w b ty cs) (i:Nat):w.cell? ⟨b,i,none⟩=cs[i]?:=by
 unfold Blk at h;simp[World.cell?,h]
theorem Blk.free {w:World} {b:Nat} {ty:TypeId} {cs:List Value} (h:Blk w b ty cs) (o:Nat):w.frozen? ⟨b,o,none⟩=false:=Lib.frozen_of_heap h o
theorem Blk.set {w:World} {b:Nat} {ty:TypeId} {cs:List Value} (h:Blk w b ty cs) (i:Nat) (v:Value):Blk (w.setCell ⟨b,i,none⟩ v) b ty (cs.set i v):=by
 have:=heap_setCell_same w b i _ _ v h;unfold Blk;rw[this];simp
theorem Blk.other {w:World} {b:Nat} {ty:TypeId} {cs:List Value} (h:Blk w b ty cs) {b':Nat} (i:Nat) (v:Value) (hne:b≠b'):Blk (w.setCell ⟨b',i,none⟩ v) b ty cs:=(Below.heap_setCell w ⟨b',i,none⟩ v b hne).trans h
theorem Blk.fr {M:List Nat} {w w':World} {b:Nat} {ty:TypeId} {cs:List Value} (h:Blk w b ty cs) (hf:FrX M w w') (hM:b∉M):Blk w' b ty cs:=(hf.block b h.lt hM).trans h
theorem Blk.below {w w':World} {b:Nat} {ty:TypeId} {cs:List Value} (h:Blk w b ty cs) (hb:Below w.heap.size w w'):Blk w' b ty cs:=(hb.block b h.lt).trans h
theorem Blk.drew {w:World} {b:Nat} {ty:TypeId} {cs:List Value} (h:Blk w b ty cs):Blk w.drew b ty cs:=h
theorem zbT {w:World} {base b n:Nat} {e:TypeId} {z:Value} (h:w.ownsRow base e 1 (.slice (some ⟨b,0,none⟩) n n) n (List.replicate n z)):Blk w b e (List.replicate n z):=by
 rcases h.2 with⟨h1,h2⟩|⟨g,cap,cur,hv,hg,hh,h3,h4,h5,h6⟩
 ·cases h1
 ·injection hv with e1 e2 e3
  injection e1 with e1
  injection e1 with e1
  subst e1 e3;unfold Blk;rw[hh];have:cur.toList=List.replicate n z:=by rw[←h6,List.take_of_length_le (by rw[Array.length_toList,h5];exact Nat.le_refl _)]
  rw[←this]
def NoI (w:World) (M:List Nat):Prop:=∀m∈M,∀x,w.cell? ⟨m,0,none⟩≠some (.int .i64 x)
theorem IntsR.fr {M:List Nat} {w w':World} {v:Value} {l:List Int} (h:IntsR w v l) (hf:FrX M w w') (hn:NoI w M):IntsR w' v l:=by
 rcases h with h|⟨b,cap,h1,h2,h3,h4,h5⟩
 ·exact Or.inl h
 ·refine Or.inr ⟨b,cap,h1,h2,h3,Nat.lt_of_lt_of_le h4 hf.size,fun j x hx=>?_⟩;have hl:0<l.length:=by have:=(List.getElem?_eq_some_iff.1 hx).1;omega
  have h0:=h5 0 _ (List.getElem?_eq_getElem hl);have hb:b∉M:=fun hm=>hn b hm _ h0
  exact(hf.cell j h4 hb).trans (h5 j x hx)
theorem Atms.fr {M:List Nat} {w w':World} {v:Value} {l:List Atm} (h:Atms w v l) (hf:FrX M w w') (hn:NoI w M):Atms w' v l:=by
 rcases h with h|⟨b,cap,h1,h2,h3,h4,h5⟩
 ·exact Or.inl h
 ·refine Or.inr ⟨b,cap,h1,h2,h3,Nat.lt_of_lt_of_le h4 hf.size,fun j x hx=>?_⟩;have hl:0<l.length:=by have:=(List.getElem?_eq_some_iff.1 hx).1;omega
  have h0:=(h5 0 _ (List.getElem?_eq_getElem hl)).1;rw[Nat.zero_mul] at h0;have hb:b∉M:=fun hm=>hn b hm _ h0
  obtain⟨a1,a2,a3⟩:=h5 j x hx;exact⟨(hf.cell _ h4 hb).trans a1,(hf.cell _ h4 hb).trans a2,(hf.cell _ h4 hb).trans a3⟩
theorem BdAt.fr {M:List Nat} {w w':World} {b o:Nat} {B:Bd} (h:BdAt w b o B) (hf:FrX M w w') (hn:NoI w M) (hb:b∉M):BdAt w' b o B :=
 ⟨Nat.lt_of_lt_of_le h.1 hf.size,fun i j hi hj=>by
  obtain⟨h1,h2,v,h3,h4⟩:=h.2 i j hi hj;exact⟨(hf.cell _ h.1 hb).trans h1,(hf.cell _ h.1 hb).trans h2,v,(hf.cell _ h.1 hb).trans h3,h4.fr hf hn⟩⟩
def cellsG:List Pt→List Value
 | []=>[]
 | x::r=>.int .i64 x.1::.int .i64 x.2.1::.int .i64 x.2.2.1::.int .i8 x.2.2.2::cellsG r
theorem za5:∀g:List Pt,(cellsG g).length=g.length*4
 | []=>rfl
 | x::r=>by simp only[cellsG,List.length_cons,za5 r];omega
theorem zaP:∀g h:List Pt,cellsG (g++h)=cellsG g++cellsG h
 | [],h=>rfl
 | x::r,h=>by simp[cellsG,zaP r h]
theorem za6:∀(g:List Pt) (j:Nat) (x:Pt),g[j]?=some x→(cellsG g)[j*4]?=some (.int .i64 x.1)∧(cellsG g)[j*4+1]?=some (.int .i64 x.2.1)∧(cellsG g)[j*4+2]?=some (.int .i64 x.2.2.1)∧(cellsG g)[j*4+3]?=some (.int .i8 x.2.2.2)
 | [],j,x,h=>by simp at h
 | y::r,0,x,h=>by
  obtain rfl:y=x:=by simpa using h
  exact⟨rfl,rfl,rfl,rfl⟩
 | y::r,j+1,x,h=>by
  have:=za6 r j x (by simpa using h);simp only[cellsG];rw[show(j+1)*4=j*4+4 by omega];exact this
def Gol (w:World) (b:Nat) (g:List Pt):Prop:=b<w.heap.size∧∀(j:Nat) (x:Pt),g[j]?=some x→w.cell? ⟨b,j*4,none⟩=some (.int .i64 x.1)∧w.cell? ⟨b,j*4+1,none⟩=some (.int .i64 x.2.1)∧w.cell? ⟨b,j*4+2,none⟩=some (.int .i64 x.2.2.1)∧w.cell? ⟨b,j*4+3,none⟩=some (.int .i8 x.2.2.2)
theorem Gol.fr {M:List Nat} {w w':World} {b:Nat} {g:List Pt} (h:Gol w b g) (hf:FrX M w w') (hM:b∉M):Gol w' b g :=
 ⟨Nat.lt_of_lt_of_le h.1 hf.size,fun j x hx=>by
  obtain⟨h1,h2,h3,h4⟩:=h.2 j x hx;exact⟨(hf.cell _ h.1 hM).trans h1,(hf.cell _ h.1 hM).trans h2,(hf.cell _ h.1 hM).trans h3,(hf.cell _ h.1 hM).trans h4⟩⟩
theorem Gol.below {w w':World} {b:Nat} {g:List Pt} (h:Gol w b g) (hf:Below w.heap.size w w'):Gol w' b g:=h.fr (M:=[]) (FrX.of_below hf) List.not_mem_nil
theorem zkW {w:World} {base:Nat} {e:TypeId} {v:Value} {g:List Pt} (h:w.ownsRow base e 4 v g.length (cellsG g)) (hg:g≠[]):∃b cap,v=.slice (some ⟨b,0,none⟩) g.length cap∧base≤b∧g.length≤cap∧cap≤maxLen∧Gol w b g:=by
 rcases h.2 with⟨h1,h2⟩|⟨b,cap,cur,hv,hb,hh,h3,h4,h5,h6⟩
 ·exact absurd (List.length_eq_zero_iff.1 h2) hg
 ·have hlt:b<w.heap.size:=(Array.getElem?_eq_some_iff.1 hh).1;have e:∀i u,(cellsG g)[i]?=some u→w.cell? ⟨b,i,none⟩=some u:=by
   intro i u hu;rw[←h6,List.getElem?_take] at hu;split at hu
   ·have:cur[i]?=some u:=by simpa using hu
    simp[World.cell?,hh,this]
   ·cases hu
  refine⟨b,cap,hv,hb,h3,h4,hlt,fun j x hx=>?_⟩;obtain⟨a1,a2,a3,a4⟩:=za6 g j x hx;exact⟨e _ _ a1,e _ _ a2,e _ _ a3,e _ _ a4⟩
theorem keyedN:Keyed Tryz.prog 3:=int_keyed Tryz.underlying3
theorem keyN (i:Nat) (hi:i<5000):keyOf Tryz.prog 3 (.int .i64 (i:Int))=some (.int .i64 (i:Int)) :=
 keyOf_int_mk Tryz.underlying3 (by simp[Lit.wf,IntKind.wrap,IntKind.bits,IntKind.signed,IntKind.min,IntKind.max];omega)
theorem zhD {i j:Nat} (h:Lit.int .i64 (i:Int)=.int .i64 (j:Int)):i=j:=by
 simp only[Lit.int.injEq,true_and] at h;exact Int.ofNat.inj h
def NM (w:World) (b n:Nat) (A:Nat→Int):Prop:=∃D:DataW Unit,w.ownsMap Tryz.prog 3 (plainElem Tryz.prog 159) b n D∧IsMap D∧∀i:Nat,i<5000→D.atKey (.int .i64 (i:Int)) (.lit (.int .i8 0))=.lit (.int .i8 (A i))∧Maps.has D (.int .i64 (i:Int))=decide (A i≠0)
theorem NM.made (w:World):NM (w.alloc (.map #[] 0)) w.heap.size 0 (fun _=>0):=⟨.map [],World.ownsMap_made _ _ _ _,⟨_,rfl⟩,fun i _=>⟨rfl,rfl⟩⟩
theorem NM.lt {w:World} {b n:Nat} {f:Nat→Int} (h:NM w b n f):b<w.heap.size:=by
 obtain⟨D,h1,_⟩:=h;exact h1.lt
theorem NM.fr {M:List Nat} {w w':World} {b n:Nat} {f:Nat→Int} (h:NM w b n f) (hf:FrX M w w') (hM:b∉M):NM w' b n f:=by
 obtain⟨D,⟨es,clock,hb,r⟩,h2,h3⟩:=h;exact⟨D,⟨es,clock,(hf.block b (Array.getElem?_eq_some_iff.1 hb).1 hM).trans hb,r⟩,h2,h3⟩
theorem NM.noi {w:World} {b n:Nat} {f:Nat→Int} (h:NM w b n f) (o:Nat):w.cell? ⟨b,o,none⟩=none:=by
 obtain⟨D,⟨es,clock,hb,r⟩,h2,h3⟩:=h;simp[World.cell?,hb]
theorem NM.look {w:World} {b n:Nat} {f:Nat→Int} (h:NM w b n f) (i:Nat) (hi:i<5000):(Instr.lookup 175 (.map (some b)) (.int .i64 (i:Int)) true).run Tryz.prog w=.ok (.tuple #[.int .i8 (f i),.bool (decide (f i≠0))]) w:=by
 obtain⟨D,h1,_,h3⟩:=h;obtain⟨v,ps,hrun,hv⟩:=h1.look_ok keyedN Tryz.underlying175 (Tryz.zeroValue159 w) (plainElem_int Tryz.underlying159 (a:=0) (by decide)) (keyN i hi);obtain⟨e1,e2⟩:=h3 i hi;obtain⟨c,rfl,hc,_⟩:=plainElem_int_inv Tryz.underlying159 hv;rw[e1] at hc;have hc':f i=c∧ps=[]:=by simpa using hc
 rw[hrun,e2,hc'.1]
theorem NM.put {w:World} {b n:Nat} {f:Nat→Int} (h:NM w b n f) (i:Nat) (hi:i<5000) (t:Int) (ht:T3 t) (ht0:t≠0) (hn:n<maxLen) :
 ∃w',(Instr.mapUpdate 175 (.map (some b)) (.int .i64 (i:Int)) (.int .i8 t)).run Tryz.prog w=.ok () w'∧NM w' b (n+1) (setN f i t)∧w.grownBy w' (some b):=by
 obtain⟨D,h1,h2,h3⟩:=h;obtain⟨w',r1,r2,r3⟩:=h1.update keyedN Tryz.underlying175 hn (keyN i hi) (plainElem_int Tryz.underlying159 (wf8 ht));refine⟨w',r1,⟨_,r2,h2.put _ _,fun j hj=>?_⟩,r3⟩;unfold setN;by_cases e:j=i
 ·subst e;rw[if_pos rfl,atKey_put_same h2 (keyedN.key (keyN j hj)),has_put_same h2 (keyedN.key (keyN j hj))];exact⟨rfl,by rw[decide_eq_true ht0]⟩
 ·have hne:(Lit.int .i64 (j:Int))≠.int .i64 (i:Int):=fun e2=>e (zhD e2)
  rw[if_neg e,atKey_put_other hne,has_put_other hne];exact h3 j hj
theorem NM.del {w:World} {b n:Nat} {f:Nat→Int} (h:NM w b n f) (i:Nat) (hi:i<5000) (ty:TypeId) :
 ∃w',(Builtin.delete_ #[175,3] ty #[.map (some b),.int .i64 (i:Int)]).run Tryz.prog w=.ok (.tuple #[]) w'∧NM w' b n (setN f i 0)∧w.grownBy w' (some b):=by
 obtain⟨D,h1,h2,h3⟩:=h;obtain⟨w',r1,r2,r3⟩:=h1.drop keyedN Tryz.underlying175 (keyN i hi) ty;refine⟨w',r1,⟨_,r2,r2.isMap,fun j hj=>?_⟩,r3.grown⟩;unfold setN;by_cases e:j=i
 ·subst e;rw[if_pos rfl,atKey_del_same,has_del_same];exact⟨rfl,rfl⟩
 ·have hne:(Lit.int .i64 (j:Int))≠.int .i64 (i:Int):=fun e2=>e (zhD e2)
  rw[if_neg e,atKey_del_other hne,has_del_other hne];exact h3 j hj
theorem NM.clear {w:World} {b n:Nat} {f:Nat→Int} (h:NM w b n f) (ty:TypeId) :
 ∃w',(Builtin.clear_ #[175] ty #[.map (some b)]).run Tryz.prog w=.ok (.tuple #[]) w'∧NM w' b 0 (fun _=>0)∧w.grownBy w' (some b):=by
 obtain⟨D,h1,h2,h3⟩:=h;obtain⟨es,clock,hb,F,hs,rfl⟩:=h1;refine⟨ChangeMaps.setBlock w b (.map #[] clock),?_,⟨_,⟨#[],clock,Go.ChangeMaps.heap_setBlock_same hb _,?_,Nat.le_refl _,rfl⟩,⟨_,rfl⟩,fun i _=>⟨rfl,rfl⟩⟩,⟨rfl,rfl,rfl,by simp[ChangeMaps.setBlock],fun i _ hi=>Go.ChangeMaps.heap_setBlock_other hb _ (fun e=>hi (by rw[e]))⟩⟩
 ·simp[Builtin.clear_,run_underlying Tryz.underlying175,MapKept.run_getObj_map hb,MapKept.run_setObj_map _ hb,Result.andThen,ChangeMaps.setBlock]
 ·exact⟨by simp,MapKept.stamped_empty _,by simp⟩
end Go.Proofs.YtkinoehmcfhgbaaGreatDoor.Vl
