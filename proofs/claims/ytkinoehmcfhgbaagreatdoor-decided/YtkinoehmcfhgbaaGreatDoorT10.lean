/- A part of the proof. -/
import Derived.Test.YtkinoehmcfhgbaaGreatDoorH13
set_option linter.unusedVariables false
set_option linter.unusedSimpArgs false
set_option maxRecDepth 100000
set_option maxHeartbeats 4000000
namespace Go.Proofs.YtkinoehmcfhgbaaGreatDoor.Vl
open Go.RowKit
theorem zkG {us:List Atm} {f:Atm→Int} (hok:∀a∈us,okA a):∀(k:Nat) (l:List UInt8) (ats:List Atm) (r:List UInt8),lks us f k l=some (ats,r)→∀a∈ats,-1000000≤a.2.2∧a.2.2≤1000000
 | 0,l,ats,r,h=>by cases h
 | k+1,l,ats,r,h=>by
  unfold lks at h;split at h
  ·cases h
  ·cases h
  ·rename_i n c r' hf
   have hn:=(zkI hf).1;have ho:=zeH hok n hn;have hb:-1000000≤(ifA (us.getD n (0,0,0)) (f (us.getD n (0,0,0)))).2.2∧(ifA (us.getD n (0,0,0)) (f (us.getD n (0,0,0)))).2.2≤1000000:=by
    unfold okA at ho;unfold ifA;split<;>first|omega|(dsimp only;omega)
   split at h
   ·cases h
   ·split at h
    ·obtain⟨⟨ats',r2⟩,h2,h3⟩:=Option.map_eq_some_iff.1 h;injection h3 with h4 h5
     subst h4 h5;intro a ha;rcases List.mem_cons.1 ha with rfl|ha
     ·exact hb
     ·exact zkG hok k r' ats' r2 h2 a ha
    ·split at h
     ·injection h with h
      injection h with h4 h5
      subst h4 h5;intro a ha;rcases List.mem_cons.1 ha with rfl|ha
      ·exact hb
      ·cases ha
     ·cases h
def spl (us:List Atm) (ys:List Sym) (k:Nat) (f:Atm→Int) (r:List UInt8):Option (List UInt8) :=
 match fig us.length r with
 | none=>none
 | some (n,[])=>none
 | some (n,d::r1)=>if f (us.getD n (0,0,0))=0∧d=58 then
  (match chk us ys k (putA f (us.getD n (0,0,0)) 1) r1 with | none=>none | some r2=>chk us ys k (putA f (us.getD n (0,0,0)) 2) r2)
  else none
theorem zlf (us:List Atm) (ys:List Sym) (k:Nat) (f:Atm→Int) (r:List UInt8):chk us ys (k+1) f (46::r)=if (trun f ys).headD 0=1 then some r else none:=by simp[chk]
theorem zjK (us:List Atm) (ys:List Sym) (k:Nat) (f:Atm→Int) (r:List UInt8):chk us ys (k+1) f (33::r)=(match lks us f (r.length+1) r with|some (ats,r')=>if cyc ats then some r' else none|none=>none):=by simp[chk];rfl
theorem zlg (us:List Atm) (ys:List Sym) (k:Nat) (f:Atm→Int) (r:List UInt8):chk us ys (k+1) f (63::r)=spl us ys k f r:=by simp[chk,spl];rfl
def PE (w0 w:World) (b mb:Nat) (vW:Value) (ys:List Sym) (q:Option Addr) (cap:Nat) (us:List Atm) (m:Nat) (f:Atm→Int) (res:Option (List UInt8)):Ending→World→Prop:=fun e w' =>
 FrK b mb w w'∧∃l' n' f',KS w0 w' b mb vW ys q cap us l' n' f'∧((∃r,res=some r∧l'=r∧f'=f∧n'+r.length≤m∧e=.returned (.bool true))∨(res=none∧e=.returned (.bool false)))
theorem zcH {c:UInt8} {l:List UInt8} (h:is1 c l=true):∃r,l=c::r∧tk1 c l=r:=by
 cases l with
 | nil=>simp[is1] at h
 | cons d r=>simp[is1] at h;subst h;exact⟨r,rfl,by simp[tk1]⟩
theorem zkH {c:UInt8} {l:List UInt8} (h:is1 c l=false):tk1 c l=l:=by
 cases l with
 | nil=>rfl
 | cons d r=>simp[is1] at h;simp[tk1,h]
theorem zie {w0:World} {b mb:Nat} {vW:Value} {s:ByteArray} {ys:List Sym} {q:Option Addr} {cap:Nat} {us:List Atm} {n:Nat} {f:Atm→Int} (hp:pars s=some ys) (w:World) (k:Nat) (l:List UInt8) (h:KS w0 w b mb vW ys q cap us l n f) (hgl:Gl w0) (hl:l.length≤200000) (hN:us.length≤4000) (hok:∀a∈us,okA a) (hf3:∀a,T3 (f a))
 (hsp:∀W r,r.length<l.length→KS w0 W b mb vW ys q cap us r n f→Calls Tryz.prog 126 #[.pointer (some ⟨b,0,none⟩)] W (PE w0 W b mb vW ys q cap us (n+1+r.length) f (spl us ys k f r))) :
 Calls Tryz.prog 86 #[.pointer (some ⟨b,0,none⟩)] w (PE w0 w b mb vW ys q cap us (n+l.length) f (chk us ys (k+1) f l)):=by
 have HSP:Hid _:=hsp;obtain⟨T,hT⟩:∃T,(trun f ys).headD 0=T:=⟨_,rfl⟩
 have HT:Hid ((trun f ys).headD 0=T):=hT;have HSE:Hid (∀W r,KS w0 W b mb vW ys q cap us r n f→Calls Tryz.prog 124 #[vW,.map (some mb)] W fun e w'=>e=.returned (.int .i8 T)∧Below W.heap.size W w'):=fun W r hk=>hT ▸ zfF hp vW mb n f hf3 W hk.c.sw hk.am
 have HCY:Hid (∀W r,r.length≤200000→KS w0 W b mb vW ys q cap us r n f→Calls Tryz.prog 125 #[.pointer (some ⟨b,0,none⟩)] W fun e w'=>FrK b mb W w'∧∃l',KS w0 w' b mb vW ys q cap us l' n f ∧
  ((∃ats r',lks us f (r.length+1) r=some (ats,r')∧l'=r'∧e=.returned (.bool (cyc ats)))∨(lks us f (r.length+1) r=none∧e=.returned (.bool false)))):=fun W r hr hk=>zgR W r hk hgl hr hN hok hf3 (fun ats r' he=>zkG hok _ _ _ _ he)
 have TK:Hid _:=fun(c:UInt8)=>takeK h c hl
 clear hsp h hf3 hok hp hT;go_enter Tryz.func86,Tryz.ntmps86;go_wp2_with fail;refine Calls.mono (TK.out 46) ?_;rintro e w1 ⟨rfl,K1,F1⟩;cases h1:is1 46 l
 ·rw[zkH h1] at K1;have HF1:Hid (FrK b mb w w1):=F1;have HK1:Hid (KS w0 w1 b mb vW ys q cap us l n f):=K1;clear F1 K1 TK;go_wp2_with fail;refine Calls.mono (takeK HK1.out 33 hl) ?_;rintro e w2 ⟨rfl,K2,F2⟩;cases h2:is1 33 l
  ·rw[zkH h2] at K2;have HF2:Hid (FrK b mb w w2):=HF1.out.trans F2;have HK2:Hid (KS w0 w2 b mb vW ys q cap us l n f):=K2;clear F2 K2 HK1 HF1;go_wp2_with fail;refine Calls.mono (takeK HK2.out 63 hl) ?_;rintro e w3 ⟨rfl,K3,F3⟩;cases h3:is1 63 l
   ·have HF3:Hid (FrK b mb w w3):=HF2.out.trans F3;have HK3:Hid (KS w0 w3 b mb vW ys q cap us (tk1 63 l) n f):=K3;have HC:Hid (chk us ys (k+1) f l=none):=by
     show _=_
     cases l with
     | nil=>rfl
     | cons d r =>
      simp[is1] at h1 h2 h3;simp[chk,h1,h2,h3]
    clear F3 K3 HK2 HF2 h1 h2 h3;go_wp2_with fail;go_ret;exact⟨HF3.out,_,_,_,HK3.out,Or.inr ⟨HC.out,rfl⟩⟩
   ·obtain⟨r,rfl,er⟩:=zcH h3;rw[er] at K3;have HF3:Hid (FrK b mb w w3):=HF2.out.trans F3;have HK3:Hid (KS w0 w3 b mb vW ys q cap us r n f):=K3;clear F3 K3 HK2 HF2 h1 h2 h3 er;rw[zlg];go_wp2_with fail;refine Calls.mono (HSP.out _ r (by simp) HK3.out) ?_;rintro e w4 ⟨F4,l',n',f',K4,⟨r',e1,e2,e3,e4,rfl⟩|⟨e1,rfl⟩⟩
    ·have HX:Hid (PE w0 w b mb vW ys q cap us (n+(63::r).length) f (spl us ys k f r) (.returned (.bool true)) w4):=⟨HF3.out.trans F4,l',n',f',K4,Or.inl ⟨r',e1,e2,e3,by simp only[List.length_cons];omega,rfl⟩⟩;clear F4 K4 e1 e2 e3 e4;go_wp2_with fail;go_ret;exact HX.out
    ·have HX:Hid (PE w0 w b mb vW ys q cap us (n+(63::r).length) f (spl us ys k f r) (.returned (.bool false)) w4):=⟨HF3.out.trans F4,l',n',f',K4,Or.inr ⟨e1,rfl⟩⟩;clear F4 K4 e1;go_wp2_with fail;go_ret;exact HX.out
  ·obtain⟨r,rfl,er⟩:=zcH h2;rw[er] at K2;have HF2:Hid (FrK b mb w w2):=HF1.out.trans F2;have HK2:Hid (KS w0 w2 b mb vW ys q cap us r n f):=K2;clear F2 K2 HK1 HF1 h1 h2 er;rw[zjK];go_wp2_with fail;refine Calls.mono (HCY.out _ r (by simp only[List.length_cons] at hl;omega) HK2.out) ?_;rintro e w4 ⟨F4,l',K4,⟨ats,r',e1,e2,rfl⟩|⟨e1,rfl⟩⟩
   ·have hr':=(zen _ _ _ _ e1).1;have HX:Hid (PE w0 w b mb vW ys q cap us (n+(33::r).length) f (match lks us f (r.length+1) r with|some (ats,r')=>if cyc ats then some r' else none|none=>none) (.returned (.bool (cyc ats))) w4):=by
     show PE _ _ _ _ _ _ _ _ _ _ _ _ _ _
     rw[e1];dsimp only;refine⟨HF2.out.trans F4,l',n,f,K4,?_⟩;cases hc:cyc ats
     ·exact Or.inr ⟨by simp,rfl⟩
     ·exact Or.inl ⟨r',by simp,e2,rfl,by simp only[List.length_cons];omega,rfl⟩
    clear F4 K4 e1 e2;generalize cyc ats=C at *;go_wp2_with fail;go_ret;exact HX.out
   ·have HX:Hid (PE w0 w b mb vW ys q cap us (n+(33::r).length) f (match lks us f (r.length+1) r with|some (ats,r')=>if cyc ats then some r' else none|none=>none) (.returned (.bool false)) w4):=by
     show PE _ _ _ _ _ _ _ _ _ _ _ _ _ _
     rw[e1];exact⟨HF2.out.trans F4,l',n,f,K4,Or.inr ⟨rfl,rfl⟩⟩
    clear F4 K4 e1;go_wp2_with fail;go_ret;exact HX.out
 ·obtain⟨r,rfl,er⟩:=zcH h1;rw[er] at K1;obtain⟨c0,_,_,c3⟩:=K1.kn.cells;have HF1:Hid (FrK b mb w w1):=F1;have HK1:Hid (KS w0 w1 b mb vW ys q cap us r n f):=K1;clear F1 K1 TK h1 er;have HKD:Hid (KS w0 w1.drew b mb vW ys q cap us r n f):=HK1.out.below (Below.refl _ _).drew;go_wp2_with fail;go_region_with (first|(go_at_call 124;refine Calls.mono (HSE.out _ r HKD.out) ?_;rintro e w4 ⟨rfl,hb4⟩))
  all_goals
   have K4:=HKD.out.below hb4;have HX:Hid (PE w0 w b mb vW ys q cap us (n+(46::r).length) f (if T=1 then some r else none) (.returned (.bool (T==1))) w4):=by
    refine⟨(HF1.out.trans (.of_below (Below.refl _ _).drew)).trans (.of_below hb4),r,n,f,K4,?_⟩;by_cases hT1:T=1
    ·subst hT1;exact Or.inl ⟨r,by simp,rfl,rfl,by simp only[List.length_cons];omega,rfl⟩
    ·exact Or.inr ⟨by simp[hT1],by simp[hT1]⟩
   clear K4 hb4;go_wp2_with fail;go_ret;rw[zlf,HT.out];exact HX.out
def spl1 (us:List Atm) (ys:List Sym) (k:Nat) (f:Atm→Int) (a:Atm):List UInt8→Option (List UInt8)
 | []=>none
 | d::r1=>if f a=0∧d=58 then
  (match chk us ys k (putA f a 1) r1 with | none=>none | some r2=>chk us ys k (putA f a 2) r2)
  else none
theorem zjL {us:List Atm} {ys:List Sym} {k:Nat} {f:Atm→Int} {r:List UInt8} (h:fig us.length r=none):spl us ys k f r=none:=by unfold spl;rw[h]
theorem zjM {us:List Atm} {ys:List Sym} {k i:Nat} {f:Atm→Int} {r r1:List UInt8} (h:fig us.length r=some (i,r1)):spl us ys k f r=spl1 us ys k f (us.getD i (0,0,0)) r1:=by
 unfold spl;rw[h];cases r1<;>rfl
theorem putA3 {f:Atm→Int} (h:∀a,T3 (f a)) (a:Atm) {t:Int} (ht:T3 t):∀x,T3 (putA f a t x):=fun x=>by unfold putA;split;exact ht;exact h x
theorem zif {f:Atm→Int} {a:Atm} (h:f a=0) (t:Int):putA (putA f a t) a 0=f:=by
 funext x;unfold putA;by_cases e:x=a
 ·subst e;simp[h]
 ·simp[e]
theorem zgY (f:Atm→Int) (a:Atm) (t u:Int):putA (putA f a t) a u=putA f a u:=by
 funext x;unfold putA;by_cases e:x=a<;>simp[e]
theorem KS.put {w0 w:World} {b mb:Nat} {vW:Value} {ys:List Sym} {q:Option Addr} {cap:Nat} {us:List Atm} {l:List UInt8} {n:Nat} {f:Atm→Int} (h:KS w0 w b mb vW ys q cap us l n f) (a1 a2 a3:Int) (ha:okA (a1,a2,a3)) (t:Int) (ht:T3 t) (hn:n≤200000) :
 ∃w',(Instr.mapUpdate 170 (.map (some mb)) (.agg #[.int .i64 a1,.int .i64 a2,.int .i64 a3]) (.int .i8 t)).run Tryz.prog w=.ok () w'∧KS w0 w' b mb vW ys q cap us l (n+1) (putA f (a1,a2,a3) t)∧FrK b mb w w':=by
 obtain⟨w',h1,h2,h3⟩:=AM.put h.am (a1,a2,a3) ha t ht (Nat.lt_of_le_of_lt hn (by decide));exact⟨w',h1,⟨h.c.fr (.of_m h3),h.kn.kept h3 (fun e=>h.c.hbm (by injection e)),h2⟩,.of_m h3⟩
theorem KS.del {w0 w:World} {b mb:Nat} {vW:Value} {ys:List Sym} {q:Option Addr} {cap:Nat} {us:List Atm} {l:List UInt8} {n:Nat} {f:Atm→Int} (h:KS w0 w b mb vW ys q cap us l n f) (a1 a2 a3:Int) (ha:okA (a1,a2,a3)) (ty:TypeId) :
 ∃w',(Builtin.delete_ #[170,134] ty #[.map (some mb),.agg #[.int .i64 a1,.int .i64 a2,.int .i64 a3]]).run Tryz.prog w=.ok (.tuple #[]) w'∧KS w0 w' b mb vW ys q cap us l n (putA f (a1,a2,a3) 0)∧FrK b mb w w':=by
 obtain⟨w',h1,h2,h3⟩:=AM.del h.am (a1,a2,a3) ha ty;exact⟨w',h1,⟨h.c.fr (.of_m h3),h.kn.kept h3 (fun e=>h.c.hbm (by injection e)),h2⟩,.of_m h3⟩
theorem zig {w0:World} {b mb:Nat} {vW:Value} {ys:List Sym} {q:Option Addr} {cap:Nat} {us:List Atm} {n:Nat} {f:Atm→Int} (w:World) (k:Nat) (r:List UInt8) (h:KS w0 w b mb vW ys q cap us r n f) (hgl:Gl w0) (hl:n+1+r.length≤200000) (hN:us.length≤4000) (hok:∀a∈us,okA a) (hf3:∀a,T3 (f a))
 (hpr:∀W l n f,(∀a,T3 (f a))→l.length<r.length→n+l.length≤200000→KS w0 W b mb vW ys q cap us l n f→Calls Tryz.prog 86 #[.pointer (some ⟨b,0,none⟩)] W (PE w0 W b mb vW ys q cap us (n+l.length) f (chk us ys k f l))) :
 Calls Tryz.prog 126 #[.pointer (some ⟨b,0,none⟩)] w (PE w0 w b mb vW ys q cap us (n+1+r.length) f (spl us ys k f r)):=by
 have HPR:Hid _:=hpr;have CA:Hid _:=atomK h hgl (by omega) hN;have hbw:=h.kn.lt;have hmw:=h.am.lt;clear h hpr;go_enter Tryz.func126,Tryz.ntmps126;go_wp2_with fail;refine Calls.mono CA.out ?_;rintro e w1 ⟨hf1,hcs⟩;have LOOK:Hid (∀(a1 a2 a3:Int) (r':List UInt8),KS w0 w1 b mb vW ys q cap us r' n f→okA (a1,a2,a3)→KS w0 (w1.alloc (.cells #[.int .i64 a1,.int .i64 a2,.int .i64 a3] 134)) b mb vW ys q cap us r' n f∧(w1.alloc (.cells #[.int .i64 a1,.int .i64 a2,.int .i64 a3] 134)).cell? ⟨b,3,none⟩=some (.map (some mb))∧(Instr.lookup 170 (.map (some mb)) (.agg #[.int .i64 a1,.int .i64 a2,.int .i64 a3]) false).run Tryz.prog ((w1.alloc (.cells #[.int .i64 a1,.int .i64 a2,.int .i64 a3] 134)).drew)=.ok (.int .i8 (f (a1,a2,a3))) ((w1.alloc (.cells #[.int .i64 a1,.int .i64 a2,.int .i64 a3] 134)).drew)):=fun a1 a2 a3 r' hk ho=>by
  have h2:=hk.below (zaa w1 (.cells #[.int .i64 a1,.int .i64 a2,.int .i64 a3] 134));exact⟨h2,h2.kn.cells.2.2.2,AM.look (h2.am.drewN 1) (a1,a2,a3) ho⟩
 rcases hcs with⟨i,r1,hfg,hil,rfl,hk1⟩|⟨hfg,rfl,hk1⟩
 ·have hoa:=zeH hok i hil;have hr1:=zem hfg;have HS:Hid (spl us ys k f r=spl1 us ys k f (us.getD i (0,0,0)) r1):=zjM hfg;obtain⟨⟨a1,a2,a3⟩,ea⟩:∃a,us.getD i (0,0,0)=a:=⟨_,rfl⟩
  rw[ea] at hoa HS;obtain⟨h2,c3,hlook⟩:=LOOK.out a1 a2 a3 _ hk1 hoa;have HK2:Hid (KS w0 (w1.alloc (.cells #[.int .i64 a1,.int .i64 a2,.int .i64 a3] 134)) b mb vW ys q cap us r1 n f):=h2;have HF2:Hid (FrK b mb w (w1.alloc (.cells #[.int .i64 a1,.int .i64 a2,.int .i64 a3] 134))):=hf1.trans (.of_below (zaa _ _));rw[ea];unfold avV;dsimp only;have hT:=hf3 (a1,a2,a3);have hsz:=hf1.size;clear h2 hk1 LOOK hf1 hfg ea;have HKD:Hid (KS w0 (w1.alloc (.cells #[.int .i64 a1,.int .i64 a2,.int .i64 a3] 134)).drew b mb vW ys q cap us r1 n f):=HK2.out.below (Below.refl _ _).drew;have HFD:Hid (FrK b mb w (w1.alloc (.cells #[.int .i64 a1,.int .i64 a2,.int .i64 a3] 134)).drew):=HF2.out.trans (.of_below (Below.refl _ _).drew);by_cases hF0:f (a1,a2,a3)=0
  ·rw[hF0] at hlook;have HF0:Hid _:=hF0;have TK:Hid _:=takeK HKD.out 58 (by omega);cases his:is1 58 r1
   ·rw[his] at TK;have HX:Hid (spl us ys k f r=none):=by
     show _=_
     rw[HS.out];cases r1 with
     | nil=>rfl
     | cons d r2=>exact if_neg (fun e=>by simp[is1,e.2] at his)
    clear HS his hF0;go_wp2_with fail;go_region_with (first|(go_at_call 123;refine Calls.mono TK.out ?_;rintro e w2 ⟨rfl,K3,F3⟩))
    all_goals
     have HX2:Hid (PE w0 w b mb vW ys q cap us (n+1+r.length) f (spl us ys k f r) (.returned (.bool false)) w2):=⟨HFD.out.trans F3,_,_,_,K3,Or.inr ⟨HX.out,rfl⟩⟩;clear K3 F3;go_wp2_with fail;go_ret;exact HX2.out
   ·rw[his] at TK;obtain⟨r2,rfl,er⟩:=zcH his;rw[er] at TK;clear his er hF0;go_wp2_with fail;go_region_with (first|(go_at_call 123;refine Calls.mono TK.out ?_;rintro e w2 ⟨rfl,K3,F3⟩))
    all_goals
     have hA:w2.heap[w1.heap.size]?=some (.cells #[.int .i64 a1,.int .i64 a2,.int .i64 a3] 134 (0,0)):=(F3.block w1.heap.size (by show _<(w1.heap.push _).size;simp) (by omega) (by omega)).trans (heap_alloc_new _ _);have z0:w2.cell? ⟨w1.heap.size,0,none⟩=some (.int .i64 a1):=by simp[World.cell?,hA]
     have z1:w2.cell? ⟨w1.heap.size,1,none⟩=some (.int .i64 a2):=by simp[World.cell?,hA]
     have z2:w2.cell? ⟨w1.heap.size,2,none⟩=some (.int .i64 a3):=by simp[World.cell?,hA]
     have d3:=K3.kn.cells.2.2.2;have HK3:Hid (KS w0 w2 b mb vW ys q cap us r2 n f):=K3;have HF3:Hid (FrK b mb w w2):=HFD.out.trans F3;have HA:Hid _:=hA;clear hA K3 F3 hlook c3;obtain⟨w3,hput,K4,F4⟩:=KS.put (HK3.out.below (Below.refl _ _).drew) a1 a2 a3 hoa 1 (Or.inr (Or.inl rfl)) (by omega);have HF4:Hid (FrK b mb w w3):=(HF3.out.trans (.of_below (Below.refl _ _).drew)).trans F4;have hA3:w3.heap[w1.heap.size]?=some (.cells #[.int .i64 a1,.int .i64 a2,.int .i64 a3] 134 (0,0)):=(F4.block w1.heap.size (by show _<w2.heap.size;exact(Array.getElem?_eq_some_iff.1 HA.out).1) (by omega) (by omega)).trans HA.out;have HA3:Hid _:=hA3;have HK4:Hid (KS w0 w3 b mb vW ys q cap us r2 (n+1) (putA f (a1,a2,a3) 1)):=K4;clear K4 F4 hA3;go_wp2_with fail;go_region;go_wp2_with fail
     all_goals
      refine Calls.mono (HPR.out _ r2 (n+1) _ (putA3 hf3 _ (Or.inr (Or.inl rfl))) (by simp only[List.length_cons] at hr1;omega) (by simp only[List.length_cons] at hr1;omega) HK4.out) ?_;rintro e w4 ⟨F5,l',n',f',K5,⟨r3,e1,rfl,rfl,e4,rfl⟩|⟨e1,rfl⟩⟩
      ·have hl3:=zfL _ _ _ _ e1;have HS3:Hid (spl us ys k f r=chk us ys k (putA f (a1,a2,a3) 2) l'):=by
        show _=_
        rw[HS.out];show(if _ then _ else _)=_
        rw[if_pos ⟨HF0.out,rfl⟩,e1]
       have hA4:w4.heap[w1.heap.size]?=some (.cells #[.int .i64 a1,.int .i64 a2,.int .i64 a3] 134 (0,0)):=(F5.block w1.heap.size (Array.getElem?_eq_some_iff.1 HA3.out).1 (by omega) (by omega)).trans HA3.out;have y0:w4.cell? ⟨w1.heap.size,0,none⟩=some (.int .i64 a1):=by simp[World.cell?,hA4]
       have y1:w4.cell? ⟨w1.heap.size,1,none⟩=some (.int .i64 a2):=by simp[World.cell?,hA4]
       have y2:w4.cell? ⟨w1.heap.size,2,none⟩=some (.int .i64 a3):=by simp[World.cell?,hA4]
       have d4:=K5.kn.cells.2.2.2;simp only[List.length_cons] at hr1;obtain⟨w5,hput2,K6,F6⟩:=KS.put (K5.below (Below.refl _ _).drew) a1 a2 a3 hoa 2 (Or.inr (Or.inr rfl)) (by omega);rw[zgY] at K6;have HF6:Hid (FrK b mb w w5):=((HF4.out.trans F5).trans (.of_below (Below.refl _ _).drew)).trans F6;have hA5:w5.heap[w1.heap.size]?=some (.cells #[.int .i64 a1,.int .i64 a2,.int .i64 a3] 134 (0,0)):=(F6.block w1.heap.size (by show _<w4.heap.size;exact(Array.getElem?_eq_some_iff.1 hA4).1) (by omega) (by omega)).trans hA4;have HA5:Hid _:=hA5;have HK6:Hid (KS w0 w5 b mb vW ys q cap us l' (n'+1) (putA f (a1,a2,a3) 2)):=K6;clear hA4 hA5 K5 F5 K6 F6 e1 hput z0 z1 z2 d3;go_wp2_with fail;go_region;go_wp2_with fail
       all_goals
        refine Calls.mono (HPR.out _ l' (n'+1) _ (putA3 hf3 _ (Or.inr (Or.inr rfl))) (by omega) (by omega) HK6.out) ?_;rintro e w6 ⟨F7,l6,n6,f6,K7,⟨r7,e1,rfl,rfl,e7,rfl⟩|⟨e1,rfl⟩⟩
        ·have hA6:w6.heap[w1.heap.size]?=some (.cells #[.int .i64 a1,.int .i64 a2,.int .i64 a3] 134 (0,0)):=(F7.block w1.heap.size (Array.getElem?_eq_some_iff.1 HA5.out).1 (by omega) (by omega)).trans HA5.out;have x0:w6.cell? ⟨w1.heap.size,0,none⟩=some (.int .i64 a1):=by simp[World.cell?,hA6]
         have x1:w6.cell? ⟨w1.heap.size,1,none⟩=some (.int .i64 a2):=by simp[World.cell?,hA6]
         have x2:w6.cell? ⟨w1.heap.size,2,none⟩=some (.int .i64 a3):=by simp[World.cell?,hA6]
         have d6:=K7.kn.cells.2.2.2;obtain⟨w7,hdel,K8,F8⟩:=KS.del (K7.below (Below.refl _ _).drew) a1 a2 a3 hoa 0;rw[zif HF0.out] at K8;have HX2:Hid (PE w0 w b mb vW ys q cap us (n+1+r.length) f (spl us ys k f r) (.returned (.bool true)) w7):=⟨((HF6.out.trans F7).trans (.of_below (Below.refl _ _).drew)).trans F8,_,_,_,K8,Or.inl ⟨_,by rw[HS3.out,e1],rfl,rfl,by omega,rfl⟩⟩;clear hA6 K7 F7 K8 F8 e1 e7 y0 y1 y2 d4 hput2;go_wp2_with fail;go_region;go_wp2_with fail
         all_goals
          go_ret;exact HX2.out
        ·have HX2:Hid (PE w0 w b mb vW ys q cap us (n+1+r.length) f (spl us ys k f r) (.returned (.bool false)) w6):=⟨HF6.out.trans F7,_,_,_,K7,Or.inr ⟨by rw[HS3.out,e1],rfl⟩⟩;clear K7 F7 e1;go_wp2_with fail;go_ret;exact HX2.out
      ·have HX2:Hid (PE w0 w b mb vW ys q cap us (n+1+r.length) f (spl us ys k f r) (.returned (.bool false)) w4):=by
        refine⟨HF4.out.trans F5,_,_,_,K5,Or.inr ⟨?_,rfl⟩⟩;rw[HS.out];show(if _ then _ else _)=_
        rw[if_pos ⟨HF0.out,rfl⟩,e1]
       clear K5 F5 e1;go_wp2_with fail;go_ret;exact HX2.out
  ·have hne:((f (a1,a2,a3)) != 0)=true:=by simpa using hF0
   have HX:Hid (spl us ys k f r=none):=by
    show _=_
    rw[HS.out];cases r1 with
    | nil=>rfl
    | cons d r2=>exact if_neg (fun e=>hF0 e.1)
   have hne2:((f (a1,a2,a3))==0)=false:=by simpa using hF0
   generalize f (a1,a2,a3)=FA at *;clear hF0 HS;go_wp2_with fail;go_region;go_wp2_with fail;go_ret;exact⟨HFD.out,_,_,_,HKD.out,Or.inr ⟨HX.out,rfl⟩⟩
 ·have HX:Hid (spl us ys k f r=none):=zjL hfg;have HKN:Hid _:=hk1;have HF1:Hid (FrK b mb w w1):=hf1;unfold avV;dsimp only;clear hfg hk1 LOOK hf1;go_wp2_with fail;go_region;go_wp2_with fail;go_ret;exact⟨HF1.out.trans (.of_below (zaa _ _).drew),_,_,_,HKN.out.below (zaa _ _).drew,Or.inr ⟨HX.out,rfl⟩⟩
theorem zdU {w0:World} {b mb:Nat} {vW:Value} {s:ByteArray} {ys:List Sym} {q:Option Addr} {cap:Nat} {us:List Atm} (hp:pars s=some ys) (hgl:Gl w0) (hN:us.length≤4000) (hok:∀a∈us,okA a) :
 ∀(k:Nat) (W:World) (l:List UInt8) (n:Nat) (f:Atm→Int),(∀a,T3 (f a))→l.length<k→n+l.length≤200000→KS w0 W b mb vW ys q cap us l n f→Calls Tryz.prog 86 #[.pointer (some ⟨b,0,none⟩)] W (PE w0 W b mb vW ys q cap us (n+l.length) f (chk us ys k f l))
 | 0,W,l,n,f,hf,hl,hm,h=>absurd hl (Nat.not_lt_zero _)
 | k+1,W,l,n,f,hf,hl,hm,h =>
  zie hp W k l h hgl (by omega) hN hok hf fun W' r hr h' =>
   zig W' k r h' hgl (by omega) hN hok hf fun W2 l2 n2 f2 hf2 hl2 hm2 h2 =>
    zdU hp hgl hN hok k W2 l2 n2 f2 hf2 (by omega) hm2 h2
theorem zlh (w:World) (x y z a b c:Int):(binOp .eql 134 (.agg #[.int .i64 x,.int .i64 y,.int .i64 z]) (.agg #[.int .i64 a,.int .i64 b,.int .i64 c])).run Tryz.prog w=.ok (.bool (x==a&&(y==b&&z==c))) w:=by
 have e1:Tryz.prog.underlying 134=some (.struct (Tryz.prog.fieldsOf 134)):=by kernel_rfl
 have e2:Tryz.prog.stoodInHeld 134=false:=by kernel_rfl
 rw[run_eql_struct,run_equalIn_agg _ 9999 _ _ _ e1 e2];simp only[Program.fieldsOf,Tryz.underlying134];simp[Op.eqFields,part,run_equalIn_int,Tryz.underlying3,Tryz.underlying132];by_cases h1:x=a<;>by_cases h2:y=b<;>by_cases h3:z=c<;>simp[h1,h2,h3]
theorem zc3 {w:World} {base:Nat} {v:Value} {ls:List Atm} (h:w.ownsRow base 134 3 v ls.length (cells3 ls)):Atms w v ls:=by
 rcases h.2 with⟨h1,h2⟩|⟨g,cap,cur,hv,hg,hh,h3,h4,h5,h6⟩
 ·exact Or.inl ⟨h1,by cases ls<;>simp_all⟩
 ·have hlt:g<w.heap.size:=by
   rcases Nat.lt_or_ge g w.heap.size with h|h
   ·exact h
   ·rw[Array.getElem?_eq_none h] at hh;cases hh
  refine Or.inr ⟨g,cap,hv,h3,h4,hlt,fun j a ha=>?_⟩;have hc:=zdq ls j a ha;have e:∀i u,(cells3 ls)[i]?=some u→w.cell? ⟨g,i,none⟩=some u:=by
   intro i u hu;rw[←h6,List.getElem?_take] at hu;split at hu
   ·have:cur[i]?=some u:=by simpa using hu
    simp[World.cell?,hh,this]
   ·cases hu
  exact⟨e _ _ hc.1,e _ _ hc.2.1,e _ _ hc.2.2⟩
theorem zeZ (v:Value) (ls:List Atm) (a1 a2 a3:Int) (w:World) (hl:Atms w v ls) (hn:ls.length≤4000) :
 Calls Tryz.prog 173 #[v,.agg #[.int .i64 a1,.int .i64 a2,.int .i64 a3]] w fun e w'=>e=.returned (.int .i64 (nmb ls (a1,a2,a3) 0))∧Below w.heap.size w w':=by
 rcases hl with⟨rfl,rfl⟩|⟨b,cap,rfl,hc1,hc2,hb,hcells⟩
 ·go_enter Tryz.func173,Tryz.ntmps173;go_wp2
  go_loop [5,8] (fun s5 i=>i=.int .i64 0) (fun s5 i=>0)
  case atStart=>rfl
  case round =>
   obtain rfl:=hrel;go_wp2;go_ret;exact⟨rfl,zaa _ _⟩
 ·have HC:Hid _:=hcells;clear hcells;have hbne:¬b=w.heap.size:=by omega
  go_enter Tryz.func173,Tryz.ntmps173;go_wp2;have hB:=zaa w (.cells #[.int .i64 a1,.int .i64 a2,.int .i64 a3] 134);have c1:(w.alloc (.cells #[.int .i64 a1,.int .i64 a2,.int .i64 a3] 134)).cell? ⟨w.heap.size,0,none⟩=some (.int .i64 a1):=by simp
  have c2:(w.alloc (.cells #[.int .i64 a1,.int .i64 a2,.int .i64 a3] 134)).cell? ⟨w.heap.size,1,none⟩=some (.int .i64 a2):=by simp
  have c3:(w.alloc (.cells #[.int .i64 a1,.int .i64 a2,.int .i64 a3] 134)).cell? ⟨w.heap.size,2,none⟩=some (.int .i64 a3):=by simp
  have HWs:w.heap.size<(w.alloc (.cells #[.int .i64 a1,.int .i64 a2,.int .i64 a3] 134)).heap.size:=by simp
  generalize w.alloc (.cells #[.int .i64 a1,.int .i64 a2,.int .i64 a3] 134)=W at *;have hWs:w.heap.size<W.heap.size:=HWs;clear HWs
  go_loopw [5,8] (fun s5 i wr=>∃k:Nat,i=.int .i64 (k:Int)∧k≤ls.length∧nmb ls (a1,a2,a3) 0=nmb (ls.drop k) (a1,a2,a3) k∧Below W.heap.size W wr) (fun _ i _=>ls.length-(intOf i).toNat)
  case atStart=>exact⟨0,rfl,Nat.zero_le _,rfl,Below.refl _ _⟩
  case round =>
   obtain⟨k,rfl,hk,hq,hBr⟩:=hrel;have Q:Hid _:=hq;clear hq;by_cases hlt:k<ls.length
   ·obtain⟨⟨x1,x2,x3⟩,hx⟩:∃x,ls[k]?=some x:=⟨_,List.getElem?_eq_getElem hlt⟩
    obtain⟨z1,z2,z3⟩:=HC.out k _ hx;have E:Hid (nmb (ls.drop k) (a1,a2,a3) k=if (a1==x1&&(a2==x2&&a3==x3))=true then (k:Int) else nmb (ls.drop (k+1)) (a1,a2,a3) ((k+1:Nat):Int)):=by
     show _=_
     have:ls[k]=(x1,x2,x3):=by rw[List.getElem?_eq_getElem hlt] at hx;exact Option.some.inj hx
     rw[List.drop_eq_getElem_cons hlt,this,nmb];have e:((x1,x2,x3)=(a1,a2,a3))↔((a1==x1&&(a2==x2&&a3==x3))=true):=by
      simp[Prod.ext_iff]
      constructor
      ·rintro⟨h1,h2,h3⟩;exact⟨h1.symm,h2.symm,h3.symm⟩
      ·rintro⟨h1,h2,h3⟩;exact⟨h1.symm,h2.symm,h3.symm⟩
     by_cases h:(x1,x2,x3)=(a1,a2,a3)
     ·rw[if_pos h,if_pos (e.1 h)]
     ·rw[if_neg h,if_neg (fun h2=>h (e.2 h2))];rfl
    have hlt':(k:Int)<(ls.length:Int):=by omega
    clear hx;have hbW:b<W.heap.size:=Nat.lt_trans hb hWs;have y1:=(hBr.cell (p:=⟨b,k*3,none⟩) hbW).trans ((hB.cell (p:=⟨b,k*3,none⟩) hb).trans z1);have y2:=(hBr.cell (p:=⟨b,k*3+1,none⟩) hbW).trans ((hB.cell (p:=⟨b,k*3+1,none⟩) hb).trans z2);have y3:=(hBr.cell (p:=⟨b,k*3+2,none⟩) hbW).trans ((hB.cell (p:=⟨b,k*3+2,none⟩) hb).trans z3);have v1:=(hBr.cell (p:=⟨w.heap.size,0,none⟩) hWs).trans c1;have v2:=(hBr.cell (p:=⟨w.heap.size,1,none⟩) hWs).trans c2;have v3:=(hBr.cell (p:=⟨w.heap.size,2,none⟩) hWs).trans c3;clear z1 z2 z3 c1 c2 c3;have heq:=fun w=>zlh w a1 a2 a3 x1 x2 x3
    go_wp2
    all_goals (go_quiet (fail))
    cases hE:(a1==x1&&(a2==x2&&a3==x3)) with
    | false =>
     go_wp2
     go_roundw
     case rel=>exact⟨k+1,by go_num,by omega,by rw[Q.out,E.out,hE];rfl,below_drewN hBr _⟩
     case measure=>simp[intOf];omega
    | true =>
     go_wp2;go_ret;refine⟨zaz ?_,hB.trans ((below_drewN hBr _).mono (by omega))⟩;rw[Q.out,E.out,hE];rfl
   ·have hlt':¬(k:Int)<(ls.length:Int):=by omega
    go_wp2;go_ret;refine⟨zaz ?_,hB.trans (hBr.mono (by omega))⟩;rw[Q.out,List.drop_eq_nil_of_le (by omega)];rfl
theorem ze0 (v:Value) (ls:List Atm) (a1 a2 a3:Int) (w:World) (hl:Atms w v ls) (hn:ls.length≤4000) :
 Calls Tryz.prog 122 #[v,.agg #[.int .i64 a1,.int .i64 a2,.int .i64 a3]] w fun e w'=>e=.returned (.bool (decide (0≤nmb ls (a1,a2,a3) 0)))∧Below w.heap.size w w':=by
 have CI:Hid (∀w,Atms w v ls→Calls Tryz.prog 173 #[v,.agg #[.int .i64 a1,.int .i64 a2,.int .i64 a3]] w fun e w'=>e=.returned (.int .i64 (nmb ls (a1,a2,a3) 0))∧Below w.heap.size w w'):=fun w h=>zeZ v ls a1 a2 a3 w h hn
 have h2:Atms (w.alloc (.cells #[.int .i64 a1,.int .i64 a2,.int .i64 a3] 134)) v ls:=hl.below (zaa _ _);obtain⟨q,c,rfl⟩:=zbF hl;clear hl;generalize nmb ls (a1,a2,a3) 0=NN at *;go_enter Tryz.func122,Tryz.ntmps122;go_wp2_with (go_at_call 173;refine(CI.out _ h2).mono ?_;rintro e w1 ⟨rfl,hb1⟩);go_ret;exact⟨rfl,(zaa w _).trans (hb1.mono (by simp))⟩
theorem zih (ds:List Sym) (a:Atm):uqs (ds++[(6,a)])=if nmb (uqs ds) a 0<0 then uqs ds++[a] else uqs ds:=by rw[zgD,addA,if_pos rfl]
theorem zii (ds:List Sym) (y:Sym) (h:y.1≠6):uqs (ds++[y])=uqs ds:=by rw[zgD,addA,if_neg h]
theorem zdV (v:Value) (ys:List Sym) (w:World) (hs:Syms w.heap.size w v ys) (hy:ys.length≤4000) :
 Calls Tryz.prog 85 #[v] w fun e w'=>∃u,e=.returned u∧w'.ownsRow w.heap.size 134 3 u (uqs ys).length (cells3 (uqs ys))∧Below w.heap.size w w':=by
 obtain⟨b,cap,rfl,hb,hcells⟩:=hs;have HC:Hid _:=hcells;clear hcells;obtain⟨i0,hi,hz0,hz1,hz2⟩:=info_parts Tryz.infoLA;go_enter Tryz.func85,Tryz.ntmps85;go_wp2_with fail
 go_loopw [3,5,8] (fun u s5 i wr=>∃k:Nat,i=.int .i64 (k:Int)∧k≤ys.length∧wr.ownsRow w.heap.size 134 3 u (uqs (ys.take k)).length (cells3 (uqs (ys.take k)))∧Below w.heap.size w wr) (fun _ _ i _=>ys.length-(intOf i).toNat)
 case atStart=>exact⟨0,rfl,Nat.zero_le _,World.ownsRow_nil _ _ _ _,Below.refl _ _⟩
 case round =>
  obtain⟨k,rfl,hk,hown,hbw⟩:=hrel;by_cases hlt:k<ys.length
  ·obtain⟨⟨q,a1,a2,a3⟩,hx⟩:∃x,ys[k]?=some x:=⟨_,List.getElem?_eq_getElem hlt⟩
   obtain⟨z0,z1,z2,z3⟩:=HC.out k _ hx;dsimp only at z0 z1 z2 z3;have hul:(uqs (ys.take k)).length≤4000:=by
    have:=zdx (ys.take k) [];unfold uqs;simp at this;omega
   have ht:ys.take (k+1)=ys.take k++[(q,a1,a2,a3)]:=by rw[List.take_add_one,hx];rfl
   have y0:=(hbw.cell (p:=⟨b,k*4,none⟩) hb).trans z0;have y1:=(hbw.cell (p:=⟨b,k*4+1,none⟩) hb).trans z1;have y2:=(hbw.cell (p:=⟨b,k*4+2,none⟩) hb).trans z2;have y3:=(hbw.cell (p:=⟨b,k*4+3,none⟩) hb).trans z3;have hlt':(k:Int)<(ys.length:Int):=by omega
   have hsz:=hbw.size;have hbx:Below w.heap.size w (wr.alloc (.cells #[.int .i64 q,.int .i64 a1,.int .i64 a2,.int .i64 a3] 136)):=hbw.alloc hsz _;have hox:=hown.alloc (.cells #[.int .i64 q,.int .i64 a1,.int .i64 a2,.int .i64 a3] 136);have hat:Atms (wr.alloc (.cells #[.int .i64 q,.int .i64 a1,.int .i64 a2,.int .i64 a3] 136)) u3 (uqs (ys.take k)):=zc3 hox;have HOX:Hid _:=hox;have HBX:Hid _:=hbx;have HT:Hid (ys.take (k+1)=ys.take k++[(q,a1,a2,a3)]):=ht;clear z0 z1 z2 z3 hx ht hown hbw hox hbx;by_cases h6:q=6
   ·subst h6;have HU:Hid (uqs (ys.take (k+1))=if nmb (uqs (ys.take k)) (a1,a2,a3) 0<0 then uqs (ys.take k)++[(a1,a2,a3)] else uqs (ys.take k)):=by show _=_;rw[HT.out,zih]
    generalize hU:uqs (ys.take k)=U at *;have CN:Hid (∀w,Atms w u3 U→Calls Tryz.prog 122 #[u3,.agg #[.int .i64 a1,.int .i64 a2,.int .i64 a3]] w fun e w'=>e=.returned (.bool (decide (0≤nmb U (a1,a2,a3) 0)))∧Below w.heap.size w w'):=fun w h=>ze0 u3 U a1 a2 a3 w h hul
    obtain⟨qa,qc,eu⟩:=zbF hat;subst eu;clear hU;have m0:∀w2,Below (wr.heap.size+1) (wr.alloc (.cells #[.int .i64 6,.int .i64 a1,.int .i64 a2,.int .i64 a3] 136)) w2→w2.cell? ⟨wr.heap.size,1,none⟩=some (.int .i64 a1)∧w2.cell? ⟨wr.heap.size,2,none⟩=some (.int .i64 a2)∧w2.cell? ⟨wr.heap.size,3,none⟩=some (.int .i64 a3):=fun w2 h=>⟨(h.cell (p:=⟨wr.heap.size,1,none⟩) (by simp)).trans (by simp),(h.cell (p:=⟨wr.heap.size,2,none⟩) (by simp)).trans (by simp),(h.cell (p:=⟨wr.heap.size,3,none⟩) (by simp)).trans (by simp)⟩
    have M0:Hid _:=m0;clear m0;by_cases hneg:nmb U (a1,a2,a3) 0<0
    ·have HU2:Hid (uqs (ys.take (k+1))=U++[(a1,a2,a3)]):=by show _=_;rw[HU.out,if_pos hneg]
     have hd:decide (0≤nmb U (a1,a2,a3) 0)=false:=decide_eq_false (by omega);rw[hd] at CN;clear HU hd hneg;go_wp2_with (first
      | (go_at_call 122;refine(CN.out _ hat).mono ?_;rintro e w2 ⟨rfl,hb2⟩;obtain⟨n1,n2,n3⟩:=M0.out w2 (by simpa using hb2);have hw12:wr.heap.size<w2.heap.size:=(by have:=hb2.size;simp at this;omega))
      | (at_builtin;refine wpList_append_own _ rfl _ _ 171 rfl w.heap.size 134 i0 (.agg zZd) 3 24 Tryz.underlying171 hi hz0 hz1 hz2 rfl (by decide) _ _ _ rfl ((zaf HOX.out hb2).alloc _) ⟨w2.heap.size,0,none⟩ 1 1 [.int .i64 a1,.int .i64 a2,.int .i64 a3] rfl rfl (zbk _ _ rfl _ _ _ _) (zi6 _ _ _) (by unfold maxLen;omega) (by omega) (by simp;omega) ?_))
     intro v' w3 hown3 hgrow _;have hbb:Below w.heap.size w w2:=HBX.out.trans (hb2.mono (by simp;omega));have hb3:=(hbb.alloc hbb.size _).grown hgrow (by have:=hbb.size;simp;omega) (zae HOX.out);have HO3:Hid _:=hown3;have HB3:Hid _:=hb3;clear hgrow n1 n2 n3 hown3 hb3;go_wp2_with fail
     go_roundw
     case rel=>exact⟨k+1,by go_num,by omega,by rw[HU2.out,zdu,List.length_append];exact HO3.out,HB3.out⟩
     case measure=>simp[intOf];omega
    ·have HU2:Hid (uqs (ys.take (k+1))=U):=by show _=_;rw[HU.out,if_neg hneg]
     have hd:decide (0≤nmb U (a1,a2,a3) 0)=true:=decide_eq_true (by omega);rw[hd] at CN;clear HU hd hneg;go_wp2_with (go_at_call 122;refine(CN.out _ hat).mono ?_;rintro e w2 ⟨rfl,hb2⟩;obtain⟨n1,n2,n3⟩:=M0.out w2 (by simpa using hb2));have hbb:Below w.heap.size w w2:=HBX.out.trans (hb2.mono (by simp;omega))
     go_roundw
     case rel=>exact⟨k+1,by go_num,by omega,by rw[HU2.out];exact zaf HOX.out hb2,hbb⟩
     case measure=>simp[intOf];omega
   ·have HU2:Hid (uqs (ys.take (k+1))=uqs (ys.take k)):=by show _=_;rw[HT.out,zii _ _ h6]
    have hq6:(q==6)=false:=by simpa using h6
    go_wp2_with fail
    go_roundw
    case rel=>exact⟨k+1,by go_num,by omega,by rw[HU2.out];exact HOX.out,HBX.out⟩
    case measure=>simp[intOf];omega
  ·have hke:k=ys.length:=by omega
   subst hke;rw[List.take_length] at hown;have hlt':¬((ys.length:Nat):Int)<(ys.length:Int):=by omega
   go_wp2_with fail;go_ret;exact⟨_,rfl,hown,hbw⟩
def vAns (p:Option (List Sym)) (x1 x2 x3 x4:Int):Bool×Int:=match p with
 | none=>(false,7)
 | some ys=>if gds x1 x2 x3 x4 then (val x1 x2 x3 x4 ys,0) else (false,4)
def Parts3H (w:World) (pv:Value) (k:Int) (t u:Int):Prop :=
 (k=2→∃g o c,pv=.slice (some ⟨g,o,none⟩) 1 c∧g<w.heap.size∧w.cell? ⟨g,o,none⟩=some (.int .i8 t)) ∧
 (k=3∨k=4∨k=5→∃g o c,pv=.slice (some ⟨g,o,none⟩) 2 c∧g<w.heap.size∧w.cell? ⟨g,o,none⟩=some (.int .i8 u)∧w.cell? ⟨g,o+1,none⟩=some (.int .i8 t))
theorem ssettleH (kn:Atm→Int) (cp:Value) (b o:Nat) (y0 y1 y2 y3:Int) (pv:Value) (t u:Int) (w:World) (h0:0≤y0∧y0≤6) (ht:T3 t) (hu:T3 u) (hp:Parts3H w pv y0 t u)
 (c0:w.cell? ⟨b,o,none⟩=some (.int .i64 y0)) (c1:w.cell? ⟨b,o+1,none⟩=some (.int .i64 y1)) (c2:w.cell? ⟨b,o+2,none⟩=some (.int .i64 y2)) (c3:w.cell? ⟨b,o+3,none⟩=some (.int .i64 y3))
 (CK:y0=6→Calls Tryz.prog 77 #[.agg #[.int .i64 y1,.int .i64 y2,.int .i64 y3],cp] w fun e w'=>e=.returned (.int .i8 (kn (y1,y2,y3)))∧Below w.heap.size w w') :
 Calls Tryz.prog 116 #[.pointer (some ⟨b,o,none⟩),.func (.func 77) #[] #[cp],pv] w fun e w'=>e=.returned (.int .i8 (tval kn (y0,y1,y2,y3) t u))∧Below w.heap.size w w':=by
 have CN:Hid (∀t w,T3 t→Calls Tryz.prog 167 #[.int .i8 t] w fun e w'=>e=.returned (.int .i8 (tnot t))∧w=w'):=fun t w h=>zbB t h w
 have CB:Hid (∀t u w,T3 t→T3 u→Calls Tryz.prog 168 #[.int .i8 t,.int .i8 u] w fun e w'=>e=.returned (.int .i8 (tboth t u))∧w=w'):=fun t u w h k=>zb4 t u h k w
 have CE:Hid (∀t u w,T3 t→T3 u→Calls Tryz.prog 169 #[.int .i8 t,.int .i8 u] w fun e w'=>e=.returned (.int .i8 (teith t u))∧w=w'):=fun t u w h k=>zc7 t u h k w
 have HT:Hid (T3 t):=ht;have HU:Hid (T3 u):=hu;clear ht hu;have hk:y0=0∨y0=1∨y0=6∨y0=2∨y0=3∨y0=4∨y0=5:=by omega
 rcases hk with rfl|rfl|rfl|rfl|rfl|rfl|rfl
 ·clear CK hp;go_enter Tryz.func116,Tryz.ntmps116;go_wp2_with fail;go_ret;exact⟨rfl,Below.refl _ _⟩
 ·clear CK hp;go_enter Tryz.func116,Tryz.ntmps116;go_wp2_with fail;go_ret;exact⟨rfl,Below.refl _ _⟩
 ·have CK':Hid _:=CK rfl;have HB:Hid (tval kn (6,y1,y2,y3) t u=kn (y1,y2,y3)):=rfl;generalize kn (y1,y2,y3)=HL at *;clear hp CK;go_enter Tryz.func116,Tryz.ntmps116;go_wp2_with (go_at_call 77;refine Calls.mono CK'.out ?_;rintro e w3 ⟨rfl,hb3⟩);go_ret;exact⟨by rw[HB.out];rfl,hb3⟩
 ·obtain⟨g,o,c,rfl,hgs,hc⟩:=hp.1 rfl;clear hp CK;go_enter Tryz.func116,Tryz.ntmps116;go_wp2_with (go_at_call 167;refine(CN.out _ _ HT.out).mono ?_;rintro e w' ⟨rfl,rfl⟩);go_ret;exact⟨rfl,Below.refl _ _⟩
 all_goals
  obtain⟨g,o,c,rfl,hgs,hc,hd⟩:=hp.2 (by omega);clear hp CK;go_enter Tryz.func116,Tryz.ntmps116;go_wp2_with fail;go_region_with (first
   | (go_at_call 167;refine(CN.out _ _ HT.out).mono ?_;rintro e w' ⟨rfl,rfl⟩)
   | (go_at_call 168;refine(CB.out _ _ _ HT.out HU.out).mono ?_;rintro e w' ⟨rfl,rfl⟩)
   | (go_at_call 169;refine(CE.out _ _ _ (by first|exact HT.out|exact zbj _) HU.out).mono ?_;rintro e w' ⟨rfl,rfl⟩))
  all_goals (try go_wp2_with fail)
  all_goals go_ret
  all_goals exact⟨rfl,(Below.refl _ _).drew⟩
end Go.Proofs.YtkinoehmcfhgbaaGreatDoor.Vl
