/- A part of the proof. -/
import Derived.Test.YtkinoehmcfhgbaaGreatDoorT16
set_option linter.unusedVariables false
set_option linter.unusedSimpArgs false
set_option maxRecDepth 100000
set_option maxHeartbeats 4000000
namespace Go.Proofs.YtkinoehmcfhgbaaGreatDoor.Vl
open Go.RowKit
def LsS (w X:World) (d:List Int):Prop:=Below w.heap.size w X∧Blk X w.heap.size 124 (d.map iv)
theorem LsS.set {w X:World} {d:List Int} (h:LsS w X d) (m:Nat) (v:Int):LsS w (X.setCell ⟨w.heap.size,m,none⟩ (.int .i64 v)) (d.set m v) :=
 ⟨h.1.setCell (p:=⟨w.heap.size,m,none⟩) (Nat.le_refl _) _,by rw[List.map_set];exact h.2.set m _⟩
theorem LsS.drew {w X:World} {d:List Int} (h:LsS w X d):LsS w X.drew d:=⟨h.1.drew,h.2⟩
theorem LsS.cell {w X:World} {d:List Int} (h:LsS w X d) (m:Nat) (hm:m<d.length):X.cell? ⟨w.heap.size,m,none⟩=some (.int .i64 (d.getD m 0)):=by
 refine h.2.cell ?_;rw[List.getElem?_map,List.getD_eq_getElem?_getD,List.getElem?_eq_getElem hm]
 rfl
theorem zix (n:Nat) (hn:n<25):dst0 (n+1)=if n/5≠n%5 then (dst0 n).set n 1000000 else dst0 n:=by
 apply List.ext_getElem?
 intro m;by_cases hm:m<25
 ·have e:∀l:List Int,l.length=25→l[m]?=some (l.getD m 0):=fun l hl=>by rw[List.getD_eq_getElem?_getD,List.getElem?_eq_getElem (by omega)];rfl
  rw[e _ (zaA _),za7 _ m hm];split
  ·rename_i hne
   split
   ·rw[e _ (by rw[List.length_set,zaA]),zbK _ (zaA n) n m hn,za7 n m hm];split
    ·rfl
    ·rw[if_pos (by omega)]
   ·rw[e _ (zaA _),za7 _ m hm,if_pos (by omega)]
  ·split
   ·rw[e _ (by rw[List.length_set,zaA]),zbK _ (zaA n) n m hn,za7 n m hm,if_neg (by omega),if_neg (by omega)]
   ·rw[e _ (zaA _),za7 _ m hm,if_neg (by omega)]
 ·rw[List.getElem?_eq_none (by rw[zaA];omega)];split
  ·rw[List.getElem?_eq_none (by rw[List.length_set,zaA];omega)]
  ·rw[List.getElem?_eq_none (by rw[zaA];omega)]
theorem z25:((dst0 0).map iv).toArray=zZl:=by rfl
theorem zkk {es:List Atm} {n:Nat} {a:Atm} (h:es[n]?=some a):eds (es.take (n+1))=edS (eds (es.take n)) a:=by
 rw[List.take_add_one,h];exact zkN _ _
theorem zkl (k i j:Nat) (hj:j<5) (d:List Int):fwP k (i*5+(j+1)) d=fwS (fwP k (i*5+j) d) i k j:=by
 show fwP k (i*5+j+1) d=_
 rw[fwP,show(i*5+j)/5=i by omega,show(i*5+j)%5=j by omega]
theorem zkm {es:List Atm}:es.take es.length=es:=List.take_length
theorem zmY {es:List Atm} {i:Nat} (hi:i<5) (h:(fw 5 (eds es)).getD (i*6) 0<0):lst es=true:=by
 unfold lst;rw[List.any_eq_true];exact⟨i,List.mem_range.2 hi,decide_eq_true (by rw[Nat.mul_comm];exact h)⟩
theorem zmZ {es:List Atm} (h:∀m,m<5→¬(fw 5 (eds es)).getD (m*6) 0<0):lst es=false:=by
 unfold lst;rw[List.any_eq_false];intro m hm;rw[decide_eq_true_eq,Nat.mul_comm];exact h m (List.mem_range.1 hm)
theorem ziy (es:List Atm) (hes:∀a∈es,okE a) (hln:es.length≤10) (v:Value) (w:World) (hv:Atms w v es) :
 Calls Tryz.prog 30 #[v] w fun e w'=>e=.returned (.bool (lst es))∧Below w.heap.size w w':=by
 obtain⟨q,cp,rfl⟩:=zbf hv;have HV:Hid (Atms w (.slice q es.length cp) es):=hv;have HES:Hid (∀a∈es,okE a):=hes;have HI:Hid (LsS w (w.alloc (.cells zZl 124)) (dst0 0)):=⟨zaa _ _,by unfold Blk;rw[z25];exact heap_alloc_new w _⟩;clear hv hes;go_enter Tryz.func30,Tryz.ntmps30;go_wp2_with fail;generalize (w.alloc (.cells zZl 124))=W0 at *
 go_loopw [4] (fun s4 wr=>∃i:Nat,s4=.int .i64 (i:Int)∧i≤5∧LsS w wr (dst0 (i*5))) (fun s4 _=>5-(intOf s4).toNat)
 case atStart=>exact⟨0,rfl,by omega,HI.out⟩
 case round =>
  clear HI;obtain⟨i,rfl,hi,hS⟩:=hrel;have HS:Hid (LsS w wr (dst0 (i*5))):=hS;clear hS;by_cases hlt:i<5
  ·have hlt':(i:Int)<5:=by omega
   obtain⟨W1,hW1⟩:∃W1,W1=wr:=⟨_,rfl⟩
   subst hW1;go_wp2_with fail
   go_loopw [5] (fun s5 wr=>∃k:Nat,s5=.int .i64 (k:Int)∧k≤5∧LsS w wr (dst0 (i*5+k))) (fun s5 _=>5-(intOf s5).toNat)
   case atStart=>exact⟨0,rfl,by omega,HS.out⟩
   case round =>
    clear HS;obtain⟨k,rfl,hk,hS⟩:=hrel;have HS:Hid (LsS w wr (dst0 (i*5+k))):=hS;clear hS;by_cases hkl:k<5
    ·have hkl':(k:Int)<5:=by omega
     have hw1:IntKind.i64.wrap ((k:Int)+1)=(k:Int)+1:=by rw[IntKind.wrap_i64];omega
     have hd:=zix (i*5+k) (by omega);rw[show(i*5+k)/5=i by omega,show(i*5+k)%5=k by omega] at hd;have HD:Hid (dst0 (i*5+k+1)=if i≠k then (dst0 (i*5+k)).set (i*5+k) 1000000 else dst0 (i*5+k)):=hd;clear hd;by_cases hik:i=k
     ·have hq:((i:Int)==(k:Int))=true:=by simp[hik]
      have E:Hid (LsS w wr (dst0 (i*5+(k+1)))):=by show LsS w wr (dst0 (i*5+k+1));rw[HD.out,if_neg (by simp[hik])];exact HS.out
      clear HD HS hik;go_wp2_with fail;exact⟨⟨k+1,by go_num,by omega,E.out⟩,by simp[intOf];omega⟩
     ·have hq:((i:Int)==(k:Int))=false:=by simp;omega
      have E:Hid (LsS w (wr.setCell ⟨w.heap.size,i*5+k,none⟩ (.int .i64 1000000)) (dst0 (i*5+(k+1)))):=by show LsS w _ (dst0 (i*5+k+1));rw[HD.out,if_pos hik];exact HS.out.set _ _
      have c0:=HS.out.cell (i*5+k) (by rw[zaA];omega);have f0:=HS.out.2.free (i*5+k);clear HD HS hik;go_wp2_with fail;exact⟨⟨k+1,by go_num,by omega,E.out⟩,by simp[intOf];omega⟩
    ·have hk5:k=5:=by omega
     subst hk5;have hkl':¬(((5:Nat):Int)<5):=by omega
     have hw1:IntKind.i64.wrap ((i:Int)+1)=(i:Int)+1:=by rw[IntKind.wrap_i64];omega
     go_wp2_with fail;exact⟨⟨i+1,by go_num,by omega,by rw[Nat.add_mul];exact HS.out⟩,by simp[intOf];omega⟩
  ·have hi5:i=5:=by omega
   subst hi5;have hlt':¬(((5:Nat):Int)<5):=by omega
   go_wp2_with fail
   go_loopw [6] (fun s6 wr=>∃n:Nat,s6=.int .i64 (n:Int)∧n≤es.length∧LsS w wr (eds (es.take n))) (fun s6 _=>es.length-(intOf s6).toNat)
   case atStart=>exact⟨0,rfl,by omega,HS.out⟩
   case round =>
    clear HS;obtain⟨n,rfl,hn,hS⟩:=hrel;have HS:Hid (LsS w wr (eds (es.take n))):=hS;clear hS;by_cases hnl:n<es.length
    ·have hnl':(n:Int)<(es.length:Int):=by omega
     have hw1:IntKind.i64.wrap ((n:Int)+1)=(n:Int)+1:=by rw[IntKind.wrap_i64];omega
     obtain⟨⟨a1,a2,a3⟩,ha⟩:∃a,es[n]?=some a:=⟨_,List.getElem?_eq_getElem hnl⟩
     have E:=zkk ha;obtain⟨o1,o2,o3,o4,o5,o6,o7⟩:=HES.out _ (List.mem_of_getElem? ha);dsimp only at o1 o2 o3 o4 o5 o6 o7;obtain⟨U,rfl⟩:∃U:Nat,a1=(U:Int):=⟨a1.toNat,by omega⟩
     obtain⟨V,rfl⟩:∃V:Nat,a2=(V:Int):=⟨a2.toNat,by omega⟩
     have hlen:(eds (es.take n)).length=25:=(zcA (fun a h=>HES.out a (List.mem_of_mem_take h))).len;rcases HV.out with⟨h,h2⟩|⟨b,cap,h1,h2,h3,h4,h5⟩
     ·rw[h2] at hnl;simp at hnl
     ·cases h1
      obtain⟨k1,k2,k3⟩:=h5 n _ ha;have c1:=(HS.out.1.cell (p:=⟨b,n*3,none⟩) h4).trans k1;have c2:=(HS.out.1.cell (p:=⟨b,n*3+1,none⟩) h4).trans k2;have c3:=(HS.out.1.cell (p:=⟨b,n*3+2,none⟩) h4).trans k3;have c0:=HS.out.cell (U*5+V) (by omega);have f0:=HS.out.2.free (U*5+V);have hU:(U:Int)<5:=by omega
      have hV:(V:Int)<5:=by omega
      have hR:Hid (∀X,LsS w X (eds (es.take n))→LsS w (X.setCell ⟨w.heap.size,U*5+V,none⟩ (.int .i64 (min ((eds (es.take n)).getD (U*5+V) 0) a3))) (eds (es.take (n+1)))):=fun X hX=>by
       rw[E];unfold edS;dsimp only[Int.toNat_natCast];rw[Nat.mul_comm 5 U];exact hX.set _ _
      clear k1 k2 k3 h5 o1 o2 o3 o4 o5 ha E hlen;dsimp only at c1 c2 c3;generalize (eds (es.take n)).getD (U*5+V) 0=D at *;go_wp2_with fail;go_region;go_wp2_with fail;exact⟨⟨n+1,by go_num,by omega,hR.out _ HS.out.drew⟩,by simp[intOf];omega⟩
    ·have hnl':¬(n:Int)<(es.length:Int):=by omega
     have hnn:n=es.length:=by omega
     subst hnn;have HT:Hid (LsS w wr (fw 0 (eds es))):=by have:=HS.out;rw[zkm] at this;exact this
     have HB:Hid (∀k i m,k<5→i≤25→-500000≤(fwP k i (fw k (eds es))).getD m 0∧(fwP k i (fw k (eds es))).getD m 0≤1000000):=fun k i m hk hi=>zjm HES.out hk hi m
     have HL:Hid ((eds es).length=25):=(zcA HES.out).len;have HFN:Hid (∀i,i<5→(fw 5 (eds es)).getD (i*6) 0<0→lst es=true):=fun i hi h=>zmY hi h
     have HFO:Hid ((∀m,m<5→¬(fw 5 (eds es)).getD (m*6) 0<0)→lst es=false):=zmZ;clear HS HV HES;generalize eds es=ED at *;go_wp2_with fail
     go_loopw [7] (fun s7 wr=>∃k:Nat,s7=.int .i64 (k:Int)∧k≤5∧LsS w wr (fw k ED)) (fun s7 _=>5-(intOf s7).toNat)
     case atStart=>exact⟨0,rfl,by omega,HT.out⟩
     case round =>
      clear HT;obtain⟨k,rfl,hk,hS⟩:=hrel;have HS:Hid (LsS w wr (fw k ED)):=hS;clear hS;by_cases hkl:k<5
      ·have hkl':(k:Int)<5:=by omega
       obtain⟨W2,hW2⟩:∃W2,W2=wr:=⟨_,rfl⟩
       subst hW2;go_wp2_with fail
       go_loopw [8] (fun s8 wr=>∃i:Nat,s8=.int .i64 (i:Int)∧i≤5∧LsS w wr (fwP k (i*5) (fw k ED))) (fun s8 _=>5-(intOf s8).toNat)
       case atStart=>exact⟨0,rfl,by omega,HS.out⟩
       case round =>
        clear HS;obtain⟨i,rfl,hi,hS⟩:=hrel;have HS:Hid (LsS w wr (fwP k (i*5) (fw k ED))):=hS;clear hS;by_cases hil:i<5
        ·have hil':(i:Int)<5:=by omega
         obtain⟨W3,hW3⟩:∃W3,W3=wr:=⟨_,rfl⟩
         subst hW3;go_wp2_with fail
         go_loopw [9] (fun s9 wr=>∃j:Nat,s9=.int .i64 (j:Int)∧j≤5∧LsS w wr (fwP k (i*5+j) (fw k ED))) (fun s9 _=>5-(intOf s9).toNat)
         case atStart=>exact⟨0,rfl,by omega,HS.out⟩
         case round =>
          clear HS;obtain⟨j,rfl,hj,hS⟩:=hrel;have HS:Hid (LsS w wr (fwP k (i*5+j) (fw k ED))):=hS;clear hS;by_cases hjl:j<5
          ·have hjl':(j:Int)<5:=by omega
           have hw1:IntKind.i64.wrap ((j:Int)+1)=(j:Int)+1:=by rw[IntKind.wrap_i64];omega
           have hN:=zkl k i j hjl (fw k ED);have hlen:(fwP k (i*5+j) (fw k ED)).length=25:=by rw[zbw,zbO,HL.out]
           have b1:=HB.out k (i*5+j) (i*5+k) hkl (by omega);have b2:=HB.out k (i*5+j) (k*5+j) hkl (by omega);have c1:=HS.out.cell (i*5+k) (by omega);have c2:=HS.out.cell (k*5+j) (by omega);have c3:=HS.out.cell (i*5+j) (by omega);have f3:=HS.out.2.free (i*5+j);unfold fwS at hN;rw[Nat.mul_comm 5 i,Nat.mul_comm 5 k] at hN;have HN:Hid (fwP k (i*5+(j+1)) (fw k ED)=if (fwP k (i*5+j) (fw k ED)).getD (i*5+k) 0<500000∧(fwP k (i*5+j) (fw k ED)).getD (k*5+j) 0<500000 then (fwP k (i*5+j) (fw k ED)).set (i*5+j) (min ((fwP k (i*5+j) (fw k ED)).getD (i*5+j) 0) ((fwP k (i*5+j) (fw k ED)).getD (i*5+k) 0+(fwP k (i*5+j) (fw k ED)).getD (k*5+j) 0)) else fwP k (i*5+j) (fw k ED)):=hN;clear hN hlen;generalize fwP k (i*5+j) (fw k ED)=d at *;generalize d.getD (i*5+k) 0=A at *;generalize d.getD (k*5+j) 0=B at *;generalize d.getD (i*5+j) 0=C at *;by_cases hA:A<500000
           ·by_cases hB:B<500000
            ·have hw2:IntKind.i64.wrap (A+B)=A+B:=by rw[IntKind.wrap_i64];omega
             have E:Hid (∀X,LsS w X d→LsS w (X.setCell ⟨w.heap.size,i*5+j,none⟩ (.int .i64 (min C (A+B)))) (fwP k (i*5+(j+1)) (fw k ED))):=fun X hX=>by rw[HN.out,if_pos ⟨hA,hB⟩];exact hX.set _ _
             clear HN;go_wp2_with fail;go_region;go_wp2_with fail;exact⟨⟨j+1,by go_num,by omega,E.out _ HS.out.drew⟩,by simp[intOf];omega⟩
            ·have E:Hid (LsS w wr (fwP k (i*5+(j+1)) (fw k ED))):=by show LsS _ _ _;rw[HN.out,if_neg (fun h=>hB h.2)];exact HS.out
             clear HN HS;go_wp2_with fail;exact⟨⟨j+1,by go_num,by omega,E.out⟩,by simp[intOf];omega⟩
           ·have E:Hid (LsS w wr (fwP k (i*5+(j+1)) (fw k ED))):=by show LsS _ _ _;rw[HN.out,if_neg (fun h=>hA h.1)];exact HS.out
            clear HN HS;go_wp2_with fail;exact⟨⟨j+1,by go_num,by omega,E.out⟩,by simp[intOf];omega⟩
          ·have hj5:j=5:=by omega
           subst hj5;have hjl':¬(((5:Nat):Int)<5):=by omega
           have hw1:IntKind.i64.wrap ((i:Int)+1)=(i:Int)+1:=by rw[IntKind.wrap_i64];omega
           go_wp2_with fail;exact⟨⟨i+1,by go_num,by omega,by rw[Nat.add_mul];exact HS.out⟩,by simp[intOf];omega⟩
        ·have hi5:i=5:=by omega
         subst hi5;have hil':¬(((5:Nat):Int)<5):=by omega
         have hw1:IntKind.i64.wrap ((k:Int)+1)=(k:Int)+1:=by rw[IntKind.wrap_i64];omega
         go_wp2_with fail;exact⟨⟨k+1,by go_num,by omega,HS.out⟩,by simp[intOf];omega⟩
      ·have hk5:k=5:=by omega
       subst hk5;have hkl':¬(((5:Nat):Int)<5):=by omega
       have HL5:Hid ((fw 5 ED).length=25):=by show _=_;rw[zbO,HL.out]
       clear HB HL;generalize fw 5 ED=d at *;go_wp2_with fail
       go_loopw [10] (fun s10 wr=>∃i:Nat,s10=.int .i64 (i:Int)∧i≤5∧(∀m,m<i→¬d.getD (m*6) 0<0)∧LsS w wr d) (fun s10 _=>5-(intOf s10).toNat)
       case atStart=>exact⟨0,rfl,by omega,fun m hm=>absurd hm (by omega),HS.out⟩
       case round =>
        clear HS;obtain⟨i,rfl,hi,hm,hS⟩:=hrel;have HM:Hid (∀m,m<i→¬d.getD (m*6) 0<0):=hm;have HS:Hid (LsS w wr d):=hS;clear hS hm;by_cases hil:i<5
        ·have hil':(i:Int)<5:=by omega
         have hw1:IntKind.i64.wrap ((i:Int)+1)=(i:Int)+1:=by rw[IntKind.wrap_i64];omega
         have c1:=HS.out.cell (i*5+i) (by rw[HL5.out];omega);have HG:Hid (d.getD (i*6) 0=d.getD (i*5+i) 0):=by show _=_;rw[show i*6=i*5+i by omega]
         by_cases hneg:d.getD (i*5+i) 0<0
         ·have HR:Hid (lst es=true):=HFN.out i hil (by rw[HG.out];exact hneg);clear HG;generalize d.getD (i*5+i) 0=A at *;go_wp2_with fail;go_ret;exact⟨by rw[HR.out];rfl,HS.out.1⟩
         ·have HM2:Hid (∀m,m<i+1→¬d.getD (m*6) 0<0):=fun m hm=>by
           by_cases e:m=i
           ·subst e;rw[HG.out];exact hneg
           ·exact HM.out m (by omega)
          clear HG;generalize d.getD (i*5+i) 0=A at *;go_wp2_with fail;exact⟨⟨i+1,by go_num,by omega,HM2.out,HS.out⟩,by simp[intOf];omega⟩
        ·have hi5:i=5:=by omega
         subst hi5;have hil':¬(((5:Nat):Int)<5):=by omega
         have HR:Hid (lst es=false):=HFO.out (fun m hm=>by have:=HM.out m hm;omega);clear HM;go_wp2_with fail;go_ret;exact⟨by rw[HR.out];rfl,HS.out.1⟩
open Av (Fm Cm Rc Rd)
def WFc:Int→List Sym→Prop
 | m,[]=>m=0
 | m,y::r=>0<m∧WFc (m+prt y.1-1) r
def Wc (ys:List Sym):Prop:=∀(m:Int) (l:List Sym),0≤m→WFc m l→WFc (m+1) (ys++l)
theorem Wc.lit {y:Sym} (h:prt y.1=0):Wc [y]:=fun m l hm hl=>⟨by omega,by rw[h];rw[show m+1+0-1=m by omega];exact hl⟩
theorem Wc.no {y:Sym} {f:List Sym} (h:prt y.1=1) (hf:Wc f):Wc (y::f):=fun m l hm hl=>⟨by omega,by rw[h,show m+1+1-1=m+1 by omega];exact hf m l hm hl⟩
theorem Wc.two {y:Sym} {f g:List Sym} (h:prt y.1=2) (hf:Wc f) (hg:Wc g):Wc (y::(f++g)):=fun m l hm hl=>⟨by omega,by rw[h,show m+1+2-1=(m+1)+1 by omega];show WFc (m+1+1) ((f++g)++l);rw[List.append_assoc];exact hf (m+1) _ (by omega) (hg m l hm hl)⟩
theorem zgN:∀(ys:List Sym) (m:Int),(∀y∈ys,Good y)→WFc m ys→prsA m (sbs ys)=some ys
 | [],m,_,h=>by
  have:m=0:=h;subst this;show prsA 0 []=_
  rw[zc2];rfl
 | y::r,m,hg,h=>by
  rw[zaP,zlL (hg y List.mem_cons_self) m (by have:=h.1;omega),zgN r _ (fun z hz=>hg z (List.mem_cons_of_mem _ hz)) h.2];rfl
theorem ziz {ys:List Sym} (hg:∀y∈ys,Good y) (h:Wc ys) (hb:bl ys≤4000):pars ⟨(sbs ys).toArray⟩=some ys:=by
 have e:(⟨(sbs ys).toArray⟩:ByteArray).size=(sbs ys).length:=by simp[ByteArray.size]
 unfold pars;rw[if_neg (by unfold bl at hb;omega)];show prsA 1 (sbs ys).toArray.toList=_
 have h1:=h 0 [] (Int.le_refl _) rfl;rw[List.append_nil] at h1;rw[List.toList_toArray];exact zgN ys 1 hg h1
def cyS:List Atm→List Sym
 | []=>[(0,0,0,0)]
 | a::r=>(3,0,0,0)::(cyS r++[(6,a)])
theorem ze8 (a:Atm) (r:List Atm):sbs (cyS (a::r))=38::(sbs (cyS r)++(lt a.1::45::lt a.2.1::60::61::(Lib.itoa a.2.2++[46]))):=by
 show sbs ((3,0,0,0)::(cyS r++[(6,a)]))=_
 rw[zaP,zbD];have e:sbs [(6,a)]=lt a.1::45::lt a.2.1::60::61::(Lib.itoa a.2.2++[46]):=by
  rw[zaP];show sb (6,a)++[]=_
  rw[List.append_nil]
  rfl
 rw[e]
 rfl
theorem zkn {a:Atm} (h:okE a):Good (6,a):=by
 obtain⟨h1,h2,h3,h4,h5,h6,h7⟩:=h;exact⟨by dsimp only;omega,by dsimp only;omega,fun h=>absurd rfl h,fun _=>⟨h1,h2,h3,h4,h5,by dsimp only;omega,by dsimp only;omega⟩⟩
theorem zeu:∀r:List Atm,(∀a∈r,okE a)→∀y∈cyS r,Good y
 | [],_,y,hy=>by
  have:y=(0,0,0,0):=List.mem_singleton.1 hy;rw[this];exact zb5 (by decide) (by decide)
 | a::r,h,y,hy=>by
  rcases List.mem_cons.1 hy with rfl|hy
  ·exact zb5 (by decide) (by decide)
  ·rcases List.mem_append.1 hy with hy|hy
   ·exact zeu r (fun b hb=>h b (List.mem_cons_of_mem _ hb)) y hy
   ·rw[List.mem_singleton.1 hy];exact zkn (h a List.mem_cons_self)
theorem ziA:∀r:List Atm,Wc (cyS r)
 | []=>Wc.lit rfl
 | a::r=>Wc.two rfl (ziA r) (Wc.lit rfl)
theorem zdi:∀r:List Atm,(∀a∈r,okE a)→(sbs (cyS r)).length≤1+12*r.length
 | [],_=>by decide
 | a::r,h=>by
  have ih:=zdi r (fun b hb=>h b (List.mem_cons_of_mem _ hb));have hi:=zek (n:=a.2.2) (by have:=(h a List.mem_cons_self).2.2.2.2.2.1;omega) (by have:=(h a List.mem_cons_self).2.2.2.2.2.2;omega);rw[ze8];simp only[List.length_cons,List.length_append,List.length_nil];omega
theorem zfW (x1 x2 x3 x4:Int):∀(r:List Atm),(∀a∈r,okE a)→∀l:List Sym,brun x1 x2 x3 x4 (cyS r++l)=(r.all fun a=>hld x1 x2 x3 x4 a)::brun x1 x2 x3 x4 l
 | [],_,l=>rfl
 | a::r,h,l=>by
  show brun x1 x2 x3 x4 ((3,0,0,0)::((cyS r++[(6,a)])++l))=_
  rw[zbA,List.append_assoc,zfW x1 x2 x3 x4 r (fun b hb=>h b (List.mem_cons_of_mem _ hb)),List.singleton_append,zbA];show((r.all fun a=>hld x1 x2 x3 x4 a)&&hld x1 x2 x3 x4 a)::_=_
  rw[List.all_cons,Bool.and_comm]
  rfl
theorem ze9:∀(ds:List Sym) (l:List Atm),(ds.foldl addA l).length≤l.length+(ds.filter fun y=>decide (y.1=6)).length
 | [],l=>Nat.le_refl _
 | y::r,l=>by
  have h:=ze9 r (addA l y);rw[List.foldl_cons];by_cases h6:y.1=6
  ·rw[List.filter_cons_of_pos (by simp[h6]),List.length_cons];have:(addA l y).length≤l.length+1:=by
    unfold addA;rw[if_pos h6];split
    ·simp
    ·omega
   omega
  ·rw[List.filter_cons_of_neg (by simp[h6])];have:addA l y=l:=by unfold addA;rw[if_neg h6]
   rw[this] at h ⊢;exact h
theorem ziB:∀r:List Atm,((cyS r).filter fun y=>decide (y.1=6)).length=r.length
 | []=>rfl
 | a::r=>by
  show(((3,0,0,0)::(cyS r++[(6,a)]):List Sym).filter _).length=_
  rw[List.filter_cons_of_neg (by decide),List.filter_append,List.length_append,ziB r]
  rfl
end Go.Proofs.YtkinoehmcfhgbaaGreatDoor.Vl
