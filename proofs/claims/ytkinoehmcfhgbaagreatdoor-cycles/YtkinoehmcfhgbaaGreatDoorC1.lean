/- A part of the proof. -/
import Derived.Test.YtkinoehmcfhgbaaGreatDoorQ3
set_option linter.unusedVariables false
set_option linter.unusedSimpArgs false
set_option maxRecDepth 100000
set_option maxHeartbeats 2000000
namespace Go.Proofs.YtkinoehmcfhgbaaGreatDoor.Vl
open Go.RowKit
def fwS (d:List Int) (i k j:Nat):List Int :=
 if d.getD (5*i+k) 0<500000∧d.getD (5*k+j) 0<500000 then d.set (5*i+j) (min (d.getD (5*i+j) 0) (d.getD (5*i+k) 0+d.getD (5*k+j) 0)) else d
def fwP (k:Nat):Nat→List Int→List Int
 | 0,d=>d
 | n+1,d=>fwS (fwP k n d) (n/5) k (n%5)
def fw:Nat→List Int→List Int
 | 0,d=>d
 | k+1,d=>fwP k 25 (fw k d)
theorem zmg (d:List Int) (i k j:Nat):(fwS d i k j).length=d.length:=by
 unfold fwS;split
 ·exact List.length_set
 ·rfl
theorem zbw (k:Nat):∀(n:Nat) (d:List Int),(fwP k n d).length=d.length
 | 0,d=>rfl
 | n+1,d=>by rw[fwP,zmg,zbw k n d]
theorem zbO:∀(k:Nat) (d:List Int),(fw k d).length=d.length
 | 0,d=>rfl
 | k+1,d=>by rw[fw,zbw,zbO k d]
theorem zbK (d:List Int) (hd:d.length=25) (m n:Nat) (hm:m<25) (v:Int):(d.set m v).getD n 0=if n=m then v else d.getD n 0:=by
 simp only[List.getD_eq_getElem?_getD];split
 ·rename_i h;subst h;rw[List.getElem?_set_self (by omega)];rfl
 ·rename_i h;rw[List.getElem?_set_ne (fun e=>h e.symm)]
theorem zfn (d:List Int) (hd:d.length=25) (i k j:Nat) (hi:i<5) (hj:j<5) (n:Nat) :
 (fwS d i k j).getD n 0=if n=5*i+j∧d.getD (5*i+k) 0<500000∧d.getD (5*k+j) 0<500000 then min (d.getD n 0) (d.getD (5*i+k) 0+d.getD (5*k+j) 0) else d.getD n 0:=by
 unfold fwS;by_cases hg:d.getD (5*i+k) 0<500000∧d.getD (5*k+j) 0<500000
 ·rw[if_pos hg,zbK d hd _ _ (by omega)];by_cases hn:n=5*i+j
  ·rw[if_pos hn,if_pos ⟨hn,hg⟩,hn]
  ·rw[if_neg hn,if_neg (fun h=>hn h.1)]
 ·rw[if_neg hg,if_neg (fun h=>hg h.2)]
theorem zni (d:List Int) (hd:d.length=25) (i k j:Nat) (hi:i<5) (hj:j<5) (n:Nat):(fwS d i k j).getD n 0≤d.getD n 0:=by
 rw[zfn d hd i k j hi hj n];split
 ·exact Int.min_le_left _ _
 ·exact Int.le_refl _
theorem zgY (k:Nat):∀(n:Nat) (d:List Int),d.length=25→n≤25→∀m,(fwP k n d).getD m 0≤d.getD m 0
 | 0,d,_,_,m=>Int.le_refl _
 | n+1,d,hd,hn,m=>by
  have h1:=zgY k n d hd (by omega) m;have h2:=zni (fwP k n d) (by rw[zbw,hd]) (n/5) k (n%5) (by omega) (by omega) m;rw[fwP];omega
theorem zgZ (k:Nat):∀(n:Nat) (d:List Int),d.length=25→n≤25→∀m,n≤m→(fwP k n d).getD m 0=d.getD m 0
 | 0,d,_,_,m,_=>rfl
 | n+1,d,hd,hn,m,hm=>by
  rw[fwP,zfn (fwP k n d) (by rw[zbw,hd]) (n/5) k (n%5) (by omega) (by omega) m,if_neg (fun h=>by have:=h.1;omega)];exact zgZ k n d hd (by omega) m (by omega)
theorem zgi (k:Nat) (hk:k<5) (M:Int) (hM:0≤M) (d:List Int) (hd:d.length=25) (h:∀m,-M≤d.getD m 0):∀(n:Nat),n≤25→∀m,
 -(6*M)≤(fwP k n d).getD m 0∧((m%5=k∨m/5=k)→-(3*M)≤(fwP k n d).getD m 0)∧(m=6*k→-(2*M)≤(fwP k n d).getD m 0)
 | 0,_,m=>by have:=h m;exact⟨by show _≤d.getD m 0;omega,fun _=>by show _≤d.getD m 0;omega,fun _=>by show _≤d.getD m 0;omega⟩
 | n+1,hn,m=>by
  have ih:=zgi k hk M hM d hd h n (by omega);rw[fwP,zfn (fwP k n d) (by rw[zbw,hd]) (n/5) k (n%5) (by omega) (by omega) m];split
  ·rename_i hg
   obtain⟨g1,_,_⟩:=hg;have hmn:m=n:=by omega
   subst hmn;have h0:=ih m;have hr:=zgZ k m d hd (by omega) m (Nat.le_refl _);have hm0:=h m;have h1:=ih (5*(m/5)+k);have h2:=ih (5*k+m%5);have e1:(5*(m/5)+k)%5=k:=by omega
   have e2:(5*k+m%5)/5=k:=by omega
   by_cases a:m%5=k
   ·have q1:5*(m/5)+k=m:=by omega
    by_cases b:m/5=k
    ·have q2:5*k+m%5=m:=by omega
     rw[q1,q2];refine⟨?_,fun _=>?_,fun _=>?_⟩<;>omega
    ·have q2:5*k+m%5=6*k:=by omega
     rw[q2] at h2;rw[q1,q2];have h3:=h2.2.2 rfl;refine⟨?_,fun _=>?_,fun _=>?_⟩<;>omega
   ·by_cases b:m/5=k
    ·have q1:5*(m/5)+k=6*k:=by omega
     have q2:5*k+m%5=m:=by omega
     rw[q1] at h1;rw[q1,q2];have h3:=h1.2.2 rfl;refine⟨?_,fun _=>?_,fun _=>?_⟩<;>omega
    ·have h3:=h1.2.1 (Or.inl e1);have h4:=h2.2.1 (Or.inr e2);refine⟨by omega,fun hh=>?_,fun hh=>?_⟩
     ·rcases hh with hh|hh
      ·exact absurd hh a
      ·exact absurd hh b
     ·exact absurd (by omega) a
  ·exact ih m
theorem zjj (x:Nat→Int) (k:Nat) (hk:k<5) (d:List Int) (hd:d.length=25) (h:∀m,m<25→500000≤d.getD m 0∨x (m/5)-x (m%5)≤d.getD m 0):∀(n:Nat),n≤25→∀m,m<25 →
 500000≤(fwP k n d).getD m 0∨x (m/5)-x (m%5)≤(fwP k n d).getD m 0
 | 0,_,m,hm=>h m hm
 | n+1,hn,m,hm=>by
  have ih:=zjj x k hk d hd h n (by omega);rw[fwP,zfn (fwP k n d) (by rw[zbw,hd]) (n/5) k (n%5) (by omega) (by omega) m];split
  ·rename_i hg
   obtain⟨g1,g2,g3⟩:=hg;have hmn:m=n:=by omega
   subst hmn;have h0:=ih m hm;have h1:=ih (5*(m/5)+k) (by omega);have h2:=ih (5*k+m%5) (by omega);rw[show(5*(m/5)+k)%5=k by omega,show(5*(m/5)+k)/5=m/5 by omega] at h1;rw[show(5*k+m%5)%5=m%5 by omega,show(5*k+m%5)/5=k by omega] at h2;omega
  ·exact ih m hm
def nw (d:List Int) (k m:Nat):Int:=if d.getD (5*(m/5)+k) 0<500000∧d.getD (5*k+m%5) 0<500000 then min (d.getD m 0) (d.getD (5*(m/5)+k) 0+d.getD (5*k+m%5) 0) else d.getD m 0
theorem znj {d:List Int} {k m:Nat} (h0:d.getD (6*k) 0=0) (h:m%5=k):nw d k m=d.getD m 0:=by
 unfold nw;rw[show 5*(m/5)+k=m by omega,show 5*k+m%5=6*k by omega,h0];split<;>omega
theorem znk {d:List Int} {k m:Nat} (h0:d.getD (6*k) 0=0) (h:m/5=k):nw d k m=d.getD m 0:=by
 unfold nw;rw[show 5*(m/5)+k=6*k by omega,show 5*k+m%5=m by omega,h0];split<;>omega
theorem zjk (k:Nat) (hk:k<5) (d:List Int) (hd:d.length=25) (h0:d.getD (6*k) 0=0):∀(n:Nat),n≤25→∀m,m<25→(fwP k n d).getD m 0=if m<n then nw d k m else d.getD m 0
 | 0,_,m,_=>rfl
 | n+1,hn,m,hm=>by
  have ih:=zjk k hk d hd h0 n (by omega);have e1:(fwP k n d).getD (5*(n/5)+k) 0=d.getD (5*(n/5)+k) 0:=by
   rw[ih _ (by omega)];split
   ·exact znj h0 (by omega)
   ·rfl
  have e2:(fwP k n d).getD (5*k+n%5) 0=d.getD (5*k+n%5) 0:=by
   rw[ih _ (by omega)];split
   ·exact znk h0 (by omega)
   ·rfl
  rw[fwP,zfn (fwP k n d) (by rw[zbw,hd]) (n/5) k (n%5) (by omega) (by omega) m,e1,e2,ih m hm];by_cases hmn:m=n
  ·subst hmn;rw[if_neg (Nat.lt_irrefl m),if_pos (Nat.lt_succ_self m)];unfold nw;by_cases hg:d.getD (5*(m/5)+k) 0<500000∧d.getD (5*k+m%5) 0<500000
   ·rw[if_pos ⟨by omega,hg⟩,if_pos hg]
   ·rw[if_neg (fun h=>hg h.2),if_neg hg]
  ·rw[if_neg (fun h=>hmn (by have:=h.1;omega))];by_cases hl:m<n
   ·rw[if_pos hl,if_pos (by omega)]
   ·rw[if_neg hl,if_neg (by omega)]
def cl (k:Nat) (d:List Int):Prop:=∀m,m<k→∀a,a<5→∀b,b<5→d.getD (5*a+m) 0<500000→d.getD (5*m+b) 0<500000→d.getD (5*a+b) 0≤d.getD (5*a+m) 0+d.getD (5*m+b) 0
theorem zmh {k:Nat} (hk:k<5) {d:List Int} (hd:d.length=25) (hc:cl k d) {B:Int} (hB:B≤200000) (hf:∀m,m<25→d.getD m 0<500000→d.getD m 0≤B) (h0:∀m,m<5→d.getD (6*m) 0=0) :
 cl (k+1) (fwP k 25 d)∧∀m,m<25→(fwP k 25 d).getD m 0<500000→(fwP k 25 d).getD m 0≤2*B:=by
 have h00:=h0 k hk;have hB0:0≤B:=by have:=hf (6*k) (by omega) (by omega);omega
 have hv:∀m,m<25→(fwP k 25 d).getD m 0=nw d k m:=fun m hm=>by rw[zjk k hk d hd h00 25 (Nat.le_refl _) m hm,if_pos hm]
 have hn:∀a b,a<5→b<5→(fwP k 25 d).getD (5*a+b) 0=if d.getD (5*a+k) 0<500000∧d.getD (5*k+b) 0<500000 then min (d.getD (5*a+b) 0) (d.getD (5*a+k) 0+d.getD (5*k+b) 0) else d.getD (5*a+b) 0:=fun a b ha hb=>by
  rw[hv _ (by omega)];unfold nw;rw[show(5*a+b)/5=a by omega,show(5*a+b)%5=b by omega]
 refine⟨fun m hm a ha b hb=>?_,fun m hm=>?_⟩
 ·have hm5:m<5:=by omega
  rw[hn a m ha hm5,hn m b hm5 hb,hn a b ha hb];have f1:=hf (5*a+m) (by omega);have f2:=hf (5*m+b) (by omega);have f3:=hf (5*a+k) (by omega);have f4:=hf (5*k+m) (by omega);have f5:=hf (5*m+k) (by omega);have f6:=hf (5*k+b) (by omega);by_cases hmk:m=k
  ·subst hmk;rw[show 5*m+m=6*m by omega,h00];generalize d.getD (5*a+b) 0=C at *;generalize d.getD (5*a+m) 0=A at *;generalize d.getD (5*m+b) 0=E at *;intro g1 g2;split at g1<;>split at g2<;>split<;>(try split)<;>(try split)<;>omega
  ·have hmk':m<k:=by omega
   have c1:=hc m hmk' a ha b hb;have c2:=hc m hmk' k hk b hb;have c3:=hc m hmk' a ha k hk;have c4:=hc m hmk' k hk k hk;rw[show 5*k+k=6*k by omega,h00] at c4;generalize d.getD (5*a+b) 0=C at *;generalize d.getD (5*a+m) 0=A at *;generalize d.getD (5*m+b) 0=E at *;generalize d.getD (5*a+k) 0=P at *;generalize d.getD (5*k+m) 0=Q at *;generalize d.getD (5*m+k) 0=R at *;generalize d.getD (5*k+b) 0=S at *;clear hn hv hf h0 hc;by_cases p:P<500000<;>by_cases q:Q<500000<;>by_cases r:R<500000<;>by_cases s:S<500000<;>simp only[p,q,r,s,and_self,and_true,and_false,true_and,false_and,if_true,if_false]<;>omega
 ·rw[hv m hm];have f1:=hf m hm;have f2:=hf (5*(m/5)+k) (by omega);have f3:=hf (5*k+m%5) (by omega);unfold nw;split<;>omega
theorem zmi:∀(k:Nat) (d:List Int),d.length=25→∀m,(fw k d).getD m 0≤d.getD m 0
 | 0,d,_,m=>Int.le_refl _
 | k+1,d,hd,m=>by
  have h1:=zmi k d hd m;have h2:=zgY k 25 (fw k d) (by rw[zbO,hd]) (Nat.le_refl _) m;rw[fw];omega
theorem zjl (d:List Int) (hd:d.length=25) (h0:∀m,m<5→d.getD (6*m) 0=0) (hf:∀m,m<25→d.getD m 0<500000→d.getD m 0≤10):∀k,k≤5→(∀m,m<5→0≤(fw k d).getD (6*m) 0) →
 cl k (fw k d)∧(∀m,m<25→(fw k d).getD m 0<500000→(fw k d).getD m 0≤10*2^k)∧∀m,m<5→(fw k d).getD (6*m) 0=0:=by
 intro k
 induction k with
 | zero =>
  intro _ _;refine⟨fun m hm=>absurd hm (by omega),fun m hm h=>?_,h0⟩;have h1:d.getD m 0≤10:=hf m hm h;rw[Int.pow_zero];show d.getD m 0≤10*1
  omega
 | succ k ih =>
  intro hk hg;have hle:=fun m=>zgY k 25 (fw k d) (by rw[zbO,hd]) (Nat.le_refl _) m
  obtain⟨i1,i2,i3⟩:=ih (by omega) (fun m hm=>by have:=hg m hm;have:=hle (6*m);rw[fw] at *;omega);have hp:(2:Int)^k≤16:=by
   have:k=0∨k=1∨k=2∨k=3∨k=4:=by omega
   rcases this with rfl|rfl|rfl|rfl|rfl<;>decide
  obtain⟨j1,j2⟩:=zmh (by omega) (by rw[zbO,hd]) i1 (B:=10*2^k) (by omega) i2 i3;refine⟨j1,fun m hm h=>?_,fun m hm=>?_⟩
  ·have:=j2 m hm h;rw[Int.pow_succ];show(fwP k 25 (fw k d)).getD m 0≤_
   omega
  ·have a:=hg m hm;have b:=hle (6*m);have c:=i3 m hm;rw[fw] at *;omega
theorem zmj {d:List Int} (hc:cl 5 d) (h0:∀m,m<5→d.getD (6*m) 0=0):∃X:Nat→Int,∀a,a<5→∀b,b<5→d.getD (5*a+b) 0<500000→X a-X b≤d.getD (5*a+b) 0:=by
 refine⟨fun a=>min (d.getD (5*a+0) 0) (min (d.getD (5*a+1) 0) (min (d.getD (5*a+2) 0) (min (d.getD (5*a+3) 0) (d.getD (5*a+4) 0)))),fun a ha b hb hf=>?_⟩;have k:=fun j hj=>hc b hb a ha j hj hf
 have k0:=k 0 (by omega);have k1:=k 1 (by omega);have k2:=k 2 (by omega);have k3:=k 3 (by omega);have k4:=k 4 (by omega);have z:=h0 b hb;have hz:d.getD (5*b+0) 0≤0∨d.getD (5*b+1) 0≤0∨d.getD (5*b+2) 0≤0∨d.getD (5*b+3) 0≤0∨d.getD (5*b+4) 0≤0:=by
  have:b=0∨b=1∨b=2∨b=3∨b=4:=by omega
  rcases this with rfl|rfl|rfl|rfl|rfl
  ·exact Or.inl (by rw[show 5*0+0=6*0 by omega,z];omega)
  ·exact Or.inr (Or.inl (by rw[show 5*1+1=6*1 by omega,z];omega))
  ·exact Or.inr (Or.inr (Or.inl (by rw[show 5*2+2=6*2 by omega,z];omega)))
  ·exact Or.inr (Or.inr (Or.inr (Or.inl (by rw[show 5*3+3=6*3 by omega,z];omega))))
  ·exact Or.inr (Or.inr (Or.inr (Or.inr (by rw[show 5*4+4=6*4 by omega,z];omega))))
 dsimp only;generalize d.getD (5*a+b) 0=C at *;generalize d.getD (5*a+0) 0=A0 at *;generalize d.getD (5*a+1) 0=A1 at *;generalize d.getD (5*a+2) 0=A2 at *;generalize d.getD (5*a+3) 0=A3 at *;generalize d.getD (5*a+4) 0=A4 at *;generalize d.getD (5*b+0) 0=B0 at *;generalize d.getD (5*b+1) 0=B1 at *;generalize d.getD (5*b+2) 0=B2 at *;generalize d.getD (5*b+3) 0=B3 at *;generalize d.getD (5*b+4) 0=B4 at *;clear k z hc h0;have hmin:min B0 (min B1 (min B2 (min B3 B4)))=B0∨min B0 (min B1 (min B2 (min B3 B4)))=B1∨min B0 (min B1 (min B2 (min B3 B4)))=B2∨min B0 (min B1 (min B2 (min B3 B4)))=B3∨min B0 (min B1 (min B2 (min B3 B4)))=B4:=by omega
 have hneg:min B0 (min B1 (min B2 (min B3 B4)))≤0:=by omega
 generalize min B0 (min B1 (min B2 (min B3 B4)))=Y at *;rcases hmin with rfl|rfl|rfl|rfl|rfl
 ·have:=k0 (by omega);omega
 ·have:=k1 (by omega);omega
 ·have:=k2 (by omega);omega
 ·have:=k3 (by omega);omega
 ·have:=k4 (by omega);omega
def okE (a:Atm):Prop:=0≤a.1∧a.1≤4∧0≤a.2.1∧a.2.1≤4∧a.1≠a.2.1∧-10≤a.2.2∧a.2.2≤10
def dst0 (n:Nat):List Int:=(List.range 25).map fun m=>if m<n∧m/5≠m%5 then 1000000 else 0
def edS (d:List Int) (a:Atm):List Int:=d.set (5*a.1.toNat+a.2.1.toNat) (min (d.getD (5*a.1.toNat+a.2.1.toNat) 0) a.2.2)
def eds (es:List Atm):List Int:=es.foldl edS (dst0 25)
theorem zaA (n:Nat):(dst0 n).length=25:=by simp[dst0]
theorem za7 (n m:Nat) (hm:m<25):(dst0 n).getD m 0=if m<n∧m/5≠m%5 then 1000000 else 0:=by
 unfold dst0;simp only[List.getD_eq_getElem?_getD,List.getElem?_map,List.getElem?_range hm,Option.map_some,Option.getD_some]
theorem zmk (d:List Int) (a:Atm):(edS d a).length=d.length:=List.length_set
structure EdF (es:List Atm) (d:List Int):Prop where
 len:d.length=25
 dia:∀m,m<5→d.getD (6*m) 0=0
 low:∀m,-10≤d.getD m 0
 top:∀m,d.getD m 0≤1000000
 few:∀m,m<25→d.getD m 0<500000→d.getD m 0≤10
 bnd:∀a∈es,d.getD (5*a.1.toNat+a.2.1.toNat) 0≤a.2.2
 snd:∀x:Nat→Int,(∀a∈es,x a.1.toNat-x a.2.1.toNat≤a.2.2)→∀m,m<25→500000≤d.getD m 0∨x (m/5)-x (m%5)≤d.getD m 0
theorem zg0 {d:List Int} (hd:d.length=25) {m:Nat} (hm:¬m<25):d.getD m 0=0:=by
 rw[List.getD_eq_getElem?_getD,List.getElem?_eq_none (by omega)];rfl
theorem edF0:EdF [] (dst0 25) where
 len:=zaA 25
 dia m hm:=by rw[za7 25 _ (by omega),if_neg (by omega)]
 low m:=by
  by_cases hm:m<25
  ·rw[za7 25 m hm];split<;>decide
  ·rw[zg0 (zaA 25) hm];decide
 top m:=by
  by_cases hm:m<25
  ·rw[za7 25 m hm];split<;>decide
  ·rw[zg0 (zaA 25) hm];decide
 few m hm:=by rw[za7 25 m hm];split<;>omega
 bnd a ha:=absurd ha (by simp)
 snd x _ m hm:=by
  rw[za7 25 m hm];split
  ·exact Or.inl (by decide)
  ·rename_i h
   have e:m/5=m%5:=by omega
   exact Or.inr (by rw[e];omega)
theorem EdF.step {es:List Atm} {d:List Int} (h:EdF es d) {a:Atm} (ha:okE a):EdF (es++[a]) (edS d a):=by
 obtain⟨a1,a2,a3,a4,a5,a6,a7⟩:=ha;have hi:5*a.1.toNat+a.2.1.toNat<25:=by omega
 have hs:=fun n=>zbK d h.len (5*a.1.toNat+a.2.1.toNat) n hi (min (d.getD (5*a.1.toNat+a.2.1.toNat) 0) a.2.2)
 refine⟨by rw[zmk];exact h.len,fun m hm=>?_,fun m=>?_,fun m=>?_,fun m hm=>?_,fun b hb=>?_,fun x hx m hm=>?_⟩
 ·unfold edS;rw[hs,if_neg (by omega)];exact h.dia m hm
 ·unfold edS;rw[hs];have:=h.low m;have:=h.low (5*a.1.toNat+a.2.1.toNat);split<;>omega
 ·unfold edS;rw[hs];have:=h.top m;have:=h.top (5*a.1.toNat+a.2.1.toNat);split<;>omega
 ·unfold edS;rw[hs];have:=h.few m hm;split<;>omega
 ·unfold edS;rw[hs];rcases List.mem_append.1 hb with hb|hb
  ·have:=h.bnd b hb;split
   ·rename_i e;rw[e] at this;omega
   ·exact this
  ·rw[List.mem_singleton] at hb;subst hb;rw[if_pos rfl];omega
 ·have h1:=h.snd x (fun b hb=>hx b (List.mem_append_left _ hb)) m hm;have h2:=hx a (List.mem_append_right _ (List.mem_singleton.2 rfl));unfold edS;rw[hs];split
  ·rename_i e
   rw[e] at h1 ⊢;rw[show(5*a.1.toNat+a.2.1.toNat)/5=a.1.toNat by omega,show(5*a.1.toNat+a.2.1.toNat)%5=a.2.1.toNat by omega] at *;omega
  ·exact h1
theorem zkN (es:List Atm) (a:Atm):eds (es++[a])=edS (eds es) a:=by unfold eds;rw[List.foldl_append];rfl
theorem zg1:∀(es l:List Atm) (d:List Int),EdF l d→(∀a∈es,okE a)→EdF (l++es) (es.foldl edS d)
 | [],l,d,h,_=>by rw[List.append_nil];exact h
 | a::r,l,d,h,ho=>by
  have:=zg1 r (l++[a]) (edS d a) (h.step (ho a List.mem_cons_self)) (fun b hb=>ho b (List.mem_cons_of_mem _ hb));rw[List.append_assoc] at this;exact this
theorem zcA {es:List Atm} (ho:∀a∈es,okE a):EdF es (eds es):=zg1 es [] (dst0 25) edF0 ho
theorem zly {d:List Int} (hd:d.length=25) (h:∀m,-10≤d.getD m 0):∀k,k≤5→∀m,-(10*6^k)≤(fw k d).getD m 0
 | 0,_,m=>h m
 | k+1,hk,m=>by
  have h6:(0:Int)≤6^k:=Int.pow_nonneg (by decide);have:=(zgi k (by omega) (10*6^k) (by omega) (fw k d) (by rw[zbO,hd]) (zly hd h k (by omega)) 25 (Nat.le_refl _) m).1;rw[Int.pow_succ,fw];omega
theorem zjm {es:List Atm} (ho:∀a∈es,okE a) {k n:Nat} (hk:k<5) (hn:n≤25) (m:Nat):-500000≤(fwP k n (fw k (eds es))).getD m 0∧(fwP k n (fw k (eds es))).getD m 0≤1000000:=by
 have h:=zcA ho;have h6:(0:Int)≤6^k:=Int.pow_nonneg (by decide);have h7:(6:Int)^k≤1296:=by
  have:k=0∨k=1∨k=2∨k=3∨k=4:=by omega
  rcases this with rfl|rfl|rfl|rfl|rfl<;>decide
 have h1:=(zgi k hk (10*6^k) (by omega) (fw k (eds es)) (by rw[zbO,h.len]) (zly h.len h.low k (by omega)) n hn m).1;have h2:=zgY k n (fw k (eds es)) (by rw[zbO,h.len]) hn m;have h3:=zmi k (eds es) h.len m;have h4:=h.top m;omega
def lst (es:List Atm):Bool:=(List.range 5).any fun i=>decide ((fw 5 (eds es)).getD (6*i) 0<0)
theorem zlz {es:List Atm} (ho:∀a∈es,okE a) (x:Nat→Int) (hx:∀a∈es,x a.1.toNat-x a.2.1.toNat≤a.2.2):∀k,k≤5→∀m,m<25→500000≤(fw k (eds es)).getD m 0∨x (m/5)-x (m%5)≤(fw k (eds es)).getD m 0
 | 0,_,m,hm=>(zcA ho).snd x hx m hm
 | k+1,hk,m,hm=>zjj x k (by omega) (fw k (eds es)) (by rw[zbO,(zcA ho).len]) (zlz ho x hx k (by omega)) 25 (Nat.le_refl _) m hm
theorem zlA (x1 x2 x3 x4:Int) {i:Int} (h0:0≤i):xv x1 x2 x3 x4 ((i.toNat:Nat):Int)=xv x1 x2 x3 x4 i:=by rw[Int.toNat_of_nonneg h0]
theorem zkO {es:List Atm} (ho:∀a∈es,okE a) (h:lst es=true) (x1 x2 x3 x4:Int) (hx:∀a∈es,hld x1 x2 x3 x4 a=true):False:=by
 unfold lst at h;rw[List.any_eq_true] at h;obtain⟨i,hi,hd⟩:=h;have hi:=List.mem_range.1 hi;have hd:=of_decide_eq_true hd;have:=zlz ho (fun n=>xv x1 x2 x3 x4 (n:Int)) (fun a ha=>by
  have h1:=hx a ha;obtain⟨a1,_,a3,_⟩:=ho a ha;unfold hld at h1;rw[zlA _ _ _ _ a1,zlA _ _ _ _ a3];exact of_decide_eq_true h1) 5 (Nat.le_refl _) (6*i) (by omega)
 rw[show 6*i/5=i by omega,show 6*i%5=i by omega] at this;omega
theorem zjn {es:List Atm} (ho:∀a∈es,okE a) (h:lst es=false):∃x1 x2 x3 x4:Int,∀a∈es,hld x1 x2 x3 x4 a=true:=by
 have hE:=zcA ho;have hd:∀m,m<5→0≤(fw 5 (eds es)).getD (6*m) 0:=fun m hm=>by
  unfold lst at h;rw[List.any_eq_false] at h;have:=h m (List.mem_range.2 hm);simp only[decide_eq_true_eq] at this;omega
 obtain⟨c,_,c0⟩:=zjl (eds es) hE.len hE.dia hE.few 5 (Nat.le_refl _) hd;obtain⟨X,hX⟩:=zmj c c0;refine⟨X 1-X 0,X 2-X 0,X 3-X 0,X 4-X 0,fun a ha=>?_⟩;obtain⟨a1,a2,a3,a4,a5,a6,a7⟩:=ho a ha;have hv:∀i:Int,0≤i→i≤4→xv (X 1-X 0) (X 2-X 0) (X 3-X 0) (X 4-X 0) i=X i.toNat-X 0:=fun i h0 h4=>by
  have:i=0∨i=1∨i=2∨i=3∨i=4:=by omega
  rcases this with rfl|rfl|rfl|rfl|rfl
  ·show(0:Int)=X 0-X 0;omega
  ·rfl
  ·rfl
  ·rfl
  ·rfl
 have hb:=hE.bnd a ha;have hl:=zmi 5 (eds es) hE.len (5*a.1.toNat+a.2.1.toNat);have:=hX a.1.toNat (by omega) a.2.1.toNat (by omega) (by omega);unfold hld;refine decide_eq_true ?_;rw[hv _ a1 a2,hv _ a3 a4];omega
open Av (zaw)
def syV (y:Sym):Value:=.agg #[.int .i64 y.1,.int .i64 y.2.1,.int .i64 y.2.2.1,.int .i64 y.2.2.2]
theorem Tryz.infoSym:(Tryz.prog.info? 136).map (fun i=>(i.zero,i.size,i.bytes))=some (some (.agg zZb),4,32):=by kernel_rfl
theorem Tryz.sizeSym:(Tryz.prog.info? 136).map (·.size)=some 4:=by kernel_rfl
theorem zdv {fn:Func} {R:Ending→World→Prop} {tmps:Array Value} {w:World} {k:Nat} (a b c d:Int) (hf:fn.results=#[.cell k 136]) (ht:tmps.getD k undef=.pointer (some ⟨w.heap.size,0,none⟩))
 (hR:R (.returned (.agg #[.int .i64 a,.int .i64 b,.int .i64 c,.int .i64 d])) (w.alloc (.cells #[.int .i64 a,.int .i64 b,.int .i64 c,.int .i64 d] 136))):bodyPost Tryz.prog fn R .ret ⟨tmps,[]⟩ (w.alloc (.cells #[.int .i64 a,.int .i64 b,.int .i64 c,.int .i64 d] 136)) :=
 bodyPost_ret (zaw hf ht (run_loadVar_mid _ w.heap.size 0 136 [.int .i64 a,.int .i64 b,.int .i64 c,.int .i64 d] _ (zfF w [.int .i64 a,.int .i64 b,.int .i64 c,.int .i64 d] 136) Tryz.underlying136 rfl Tryz.sizeSym)) rfl hR
theorem zbV (u v n:Int) (w:World) :
 Calls Tryz.prog 247 #[.int .i64 u,.int .i64 v,.int .i64 n] w fun e w'=>e=.returned (syV (aty u v n))∧Below w.heap.size w w':=by
 by_cases huv:u=v
 ·have huv':(u != v)=false:=by simp[huv]
  by_cases hn:0≤n
  ·have HS:Hid (aty u v n=(0,0,0,0)):=by show _=_;unfold aty;rw[if_pos huv,if_pos hn]
   clear huv;go_enter Tryz.func247,Tryz.ntmps247;go_wp2;exact zdv 0 0 0 0 Tryz.results247 rfl ⟨by rw[HS.out];rfl,zaa _ _⟩
  ·have HS:Hid (aty u v n=(1,0,0,0)):=by show _=_;unfold aty;rw[if_pos huv,if_neg hn]
   clear huv;go_enter Tryz.func247,Tryz.ntmps247;go_wp2;exact zdv 1 0 0 0 Tryz.results247 rfl ⟨by rw[HS.out];rfl,zaa _ _⟩
 ·have huv':(u != v)=true:=by simp[huv]
  have HS:Hid (aty u v n=(6,u,v,n)):=by show _=_;unfold aty;rw[if_neg huv]
  clear huv;go_enter Tryz.func247,Tryz.ntmps247;go_wp2;exact zdv 6 u v n Tryz.results247 rfl ⟨by rw[HS.out];rfl,zaa _ _⟩
theorem zbi (x:Int) (w:World) (h:-1≤x∧x≤3):Calls Tryz.prog 182 #[.int .i64 x] w fun e w'=>e=.returned (.int .i64 (x+1))∧w=w':=by
 obtain⟨h1,h2⟩:=h;go_enter Tryz.func182,Tryz.ntmps182;go_wp2;go_ret;exact⟨rfl,rfl⟩
theorem zbW (a b:Int) (w:World) (h:-1≤a∧a≤3):Calls Tryz.prog 211 #[.agg #[.int .i64 a,.int .i64 b]] w fun e w'=>e=.returned (.int .i64 (a+1))∧Below w.heap.size w w':=by
 have C:Hid (∀w,Calls Tryz.prog 182 #[.int .i64 a] w fun e w'=>e=.returned (.int .i64 (a+1))∧w=w'):=fun w=>zbi a w h
 by_cases ha:a=-1
 ·subst ha;go_enter Tryz.func211,Tryz.ntmps211;go_wp2;go_ret;exact⟨rfl,zaa _ _⟩
 ·have ha':(a==-1)=false:=by simp[ha]
  clear ha h;go_enter Tryz.func211,Tryz.ntmps211;go_wp2_with fail;refine(C.out _).mono ?_;rintro e w1 ⟨rfl,rfl⟩;go_wp2_with fail;go_ret;exact⟨rfl,zaa _ _⟩
def cell4 (y:Sym):List Value:=[.int .i64 y.1,.int .i64 y.2.1,.int .i64 y.2.2.1,.int .i64 y.2.2.2]
def cells4 (l:List Sym):List Value:=l.flatMap cell4
def CondR (w:World) (v:Value) (ys:List Sym):Prop:=(v=.slice none 0 0∧ys=[])∨∃b cap,v=.slice (some ⟨b,0,none⟩) ys.length cap∧ys.length≤cap∧cap≤maxLen∧b<w.heap.size∧w.rangeAt b 0 (cells4 ys)∧∃cur fr,w.heap[b]?=some (.cells cur 136 fr)
theorem CondR.below {w w':World} {v:Value} {ys:List Sym} (h:CondR w v ys) (hb:Below w.heap.size w w'):CondR w' v ys:=by
 rcases h with h|⟨b,cap,h1,h2,h3,h4,h5,cur,fr,h6⟩
 ·exact Or.inl h
 ·exact Or.inr ⟨b,cap,h1,h2,h3,Nat.lt_of_lt_of_le h4 hb.size,fun j u hu=>(hb.cell (p:=⟨b,0+j,none⟩) h4).trans (h5 j u hu),cur,fr,(hb.block b h4).trans h6⟩
theorem zfo (w:World) (y:Sym):CondR (w.alloc (.cells #[.int .i64 y.1,.int .i64 y.2.1,.int .i64 y.2.2.1,.int .i64 y.2.2.2] 136)) (.slice (some ⟨w.heap.size,0,none⟩) 1 1) [y] :=
 Or.inr ⟨w.heap.size,1,rfl,Nat.le_refl _,by decide,by simp,zfF w [.int .i64 y.1,.int .i64 y.2.1,.int .i64 y.2.2.1,.int .i64 y.2.2.2] 136,_,_,heap_alloc_new w _⟩
def Tw4 (w w':World) (B:Nat) (a1 a2 b1 b2:Int):Prop:=Below w.heap.size w w'∧B+1<w'.heap.size∧w'.cell? ⟨B,0,none⟩=some (.int .i64 a1)∧w'.cell? ⟨B,1,none⟩=some (.int .i64 a2)∧w'.cell? ⟨B+1,0,none⟩=some (.int .i64 b1)∧w'.cell? ⟨B+1,1,none⟩=some (.int .i64 b2)
theorem Tw4.on {w X X':World} {B:Nat} {a1 a2 b1 b2:Int} (h:Tw4 w X B a1 a2 b1 b2) (hb:Below X.heap.size X X'):Tw4 w X' B a1 a2 b1 b2:=by
 obtain⟨h0,h1,h2,h3,h4,h5⟩:=h;have hB:B<X.heap.size:=by omega
 exact⟨h0.trans (hb.mono h0.size),Nat.lt_of_lt_of_le h1 hb.size,(hb.cell (p:=⟨B,0,none⟩) hB).trans h2,(hb.cell (p:=⟨B,1,none⟩) hB).trans h3,(hb.cell (p:=⟨B+1,0,none⟩) h1).trans h4,(hb.cell (p:=⟨B+1,1,none⟩) h1).trans h5⟩
theorem zbX (a1 a2 b1 b2:Int) (w:World) (ha:tOk (a1,a2)) (hb:-1≤b1∧b1≤3∧-1000≤b2∧b2≤999) :
 Calls Tryz.prog 215 #[.agg #[.int .i64 a1,.int .i64 a2],.agg #[.int .i64 b1,.int .i64 b2]] w fun e w'=>∃v,e=.returned v∧CondR w' v [aty (a1+1) (b1+1) (b2-a2)]∧Below w.heap.size w w':=by
 obtain⟨h1,h2,h3,h4⟩:=ha;obtain⟨g1,g2,g3,g4⟩:=hb;dsimp only at h1 h2 h3 h4;have CA:Hid (∀w,Calls Tryz.prog 211 #[.agg #[.int .i64 a1,.int .i64 a2]] w fun e w'=>e=.returned (.int .i64 (a1+1))∧Below w.heap.size w w'):=fun w=>zbW a1 a2 w ⟨h1,h2⟩
 have CB:Hid (∀w,Calls Tryz.prog 211 #[.agg #[.int .i64 b1,.int .i64 b2]] w fun e w'=>e=.returned (.int .i64 (b1+1))∧Below w.heap.size w w'):=fun w=>zbW b1 b2 w ⟨g1,g2⟩
 have CS:Hid (∀w,Calls Tryz.prog 247 #[.int .i64 (a1+1),.int .i64 (b1+1),.int .i64 (b2-a2)] w fun e w'=>e=.returned (syV (aty (a1+1) (b1+1) (b2-a2)))∧Below w.heap.size w w'):=fun w=>zbV _ _ _ w
 have hv1:IntKind.i64.wrap (b2-a2)=b2-a2:=by rw[IntKind.wrap_i64];omega
 generalize aty (a1+1) (b1+1) (b2-a2)=Y at *;unfold syV at CS;go_enter Tryz.func215,Tryz.ntmps215;go_wp2_with fail;have bb0:Below w.heap.size w ((w.alloc (.cells #[.int .i64 a1,.int .i64 a2] 96)).alloc (.cells #[.int .i64 b1,.int .i64 b2] 96)):=(zaa w _).alloc (by simp) _;generalize hW:((w.alloc (.cells #[.int .i64 a1,.int .i64 a2] 96)).alloc (.cells #[.int .i64 b1,.int .i64 b2] 96))=W at *;have s0:w.heap.size+1<W.heap.size:=by rw[←hW];simp
 have c0:W.cell? ⟨w.heap.size,0,none⟩=some (.int .i64 a1):=by rw[←hW];simp
 have c1:W.cell? ⟨w.heap.size,1,none⟩=some (.int .i64 a2):=by rw[←hW];simp
 have d0:W.cell? ⟨w.heap.size+1,0,none⟩=some (.int .i64 b1):=by rw[←hW];simp
 have d1:W.cell? ⟨w.heap.size+1,1,none⟩=some (.int .i64 b2):=by rw[←hW];simp
 have bb1:Below w.heap.size w W.drew:=bb0.drew;have T0:Tw4 w W.drew w.heap.size a1 a2 b1 b2:=⟨bb1,s0,c0,c1,d0,d1⟩;clear hW;go_region_held3 (fun w'=>Below w.heap.size w w'∧w.heap.size+1<w'.heap.size∧w'.cell? ⟨w.heap.size,0,none⟩=some (.int .i64 a1)∧w'.cell? ⟨w.heap.size,1,none⟩=some (.int .i64 a2)∧w'.cell? ⟨w.heap.size+1,0,none⟩=some (.int .i64 b1)∧w'.cell? ⟨w.heap.size+1,1,none⟩=some (.int .i64 b2)) (first|(refine⟨?_,?_,?_,?_,?_,?_⟩<;>assumption)|exact((‹Tw4 w _ w.heap.size a1 a2 b1 b2›).on (zaa _ _))) (first|(go_at_call 247;refine(CS.out _).mono ?_;rintro e w4 ⟨rfl,hb4⟩;have T3:=T2.on hb4;obtain⟨t0,t1,t2,t3,t4,t5⟩:=id T3)|(go_at_call 211;first|(have hh:=T1;refine(CB.out _).mono ?_;rintro e w3 ⟨rfl,hb3⟩;have T2:=T1.on hb3;clear hh;obtain⟨t0,t1,t2,t3,t4,t5⟩:=id T2)|(refine(CA.out _).mono ?_;rintro e w3 ⟨rfl,hb3⟩;have T1:=T0.on hb3;obtain⟨t0,t1,t2,t3,t4,t5⟩:=id T1)));go_wp2_with fail;go_ret;refine⟨_,rfl,zfo w4 Y,t0.alloc (by have:=t0.size;omega) _⟩
theorem zfp (a1 a2 b1 b2:Int) (w:World) (ha:tOk (a1,a2)) (hb:tOk (b1,b2)) :
 Calls Tryz.prog 214 #[.agg #[.int .i64 a1,.int .i64 a2],.agg #[.int .i64 b1,.int .i64 b2]] w fun e w'=>∃v,e=.returned v∧CondR w' v [aty (a1+1) (b1+1) (b2-a2-1)]∧Below w.heap.size w w':=by
 obtain⟨g1,g2,g3,g4⟩:=hb;dsimp only at g1 g2 g3 g4;have CA:Hid (∀w,Calls Tryz.prog 215 #[.agg #[.int .i64 a1,.int .i64 a2],.agg #[.int .i64 b1,.int .i64 (b2-1)]] w fun e w'=>∃v,e=.returned v∧CondR w' v [aty (a1+1) (b1+1) (b2-a2-1)]∧Below w.heap.size w w'):=fun w=>by
  have:=zbX a1 a2 b1 (b2-1) w ha ⟨g1,g2,by omega,by omega⟩
  rwa [show b2-1-a2=b2-a2-1 by omega] at this
 clear ha;generalize aty (a1+1) (b1+1) (b2-a2-1)=Y at *;go_enter Tryz.func214,Tryz.ntmps214;go_wp2_with fail;refine(CA.out _).mono ?_;rintro e w1 ⟨v,rfl,hc,hb⟩;go_wp2_with fail;go_ret;exact⟨_,rfl,hc,((zaa w _).alloc (by simp) _).trans (hb.mono (by simp;omega))⟩
theorem zck (B b:Nat) (p:Value) (bs:List Value) (w:World) (h:Lib.BuilderAt 130 5 B b p bs w) (hp:p=.pointer none∨p=.pointer (some ⟨b,0,none⟩)) :
 Calls Tryz.prog 96 #[.pointer (some ⟨b,0,none⟩)] w fun e w'=>e=.returned (.tuple #[])∧Lib.BuilderAt 130 5 B b (.pointer (some ⟨b,0,none⟩)) bs w'∧Below B w w':=by
 have c0:=h.cell0;have f0:=h.frozen0;have hlt:=h.lt;have HB:Hid _:=h;have hsh:=h.shape;obtain⟨jT,hjT⟩:∃j,Tryz.prog.info? 130=some j:=Option.isSome_iff_exists.1 (by kernel_rfl)
 have hjs:jT.size≠0:=by
  have:(Tryz.prog.info? 130).map (·.size)=some 2:=by kernel_rfl
  rw[hjT] at this;have h2:jT.size=2:=Option.some.inj this;omega
 have q1:(convert 128 275 (.pointer (some ⟨b,0,none⟩))).run Tryz.prog w=.ok (.pointer (some ⟨b,0,none⟩)) w:=Lib.run_to_unsafe w ⟨b,0,none⟩ Tryz.underlying128 Tryz.underlying275 hjT hjs hsh (show 0<2 by decide);have q2:(convert 275 128 (.pointer (some ⟨b,0,none⟩))).run Tryz.prog w=.ok (.pointer (some ⟨b,0,none⟩)) w:=Lib.run_from_unsafe w ⟨b,0,none⟩ Tryz.underlying275 Tryz.underlying128 hjT hsh (by kernel_rfl);have q3:(binOp .neq 128 (.pointer (some ⟨b,0,none⟩)) (.pointer (some ⟨b,0,none⟩))).run Tryz.prog w=.ok (.bool false) w:=Lib.run_neq_ptr_same w ⟨b,0,none⟩ Tryz.underlying128 hjT;have q4:(callFunc 143 #[.pointer (some ⟨b,0,none⟩)]).run Tryz.prog w=.ok (.value (.pointer (some ⟨b,0,none⟩))) w:=by
  rw[run_callFunc_extern Tryz.func143 (by kernel_rfl) (by kernel_rfl) (by kernel_rfl) (e:=Extern.AbiNoEscape.same) (by kernel_rfl),Lib.run_noEscape]
  rfl
 clear hsh hjs;rcases hp with rfl|rfl
 ·clear h;go_enter Tryz.func96,Tryz.ntmps96;go_wp2_with fail
  go_end0
  exact⟨rfl,Lib.BuilderAt.used HB.out _,(Below.refl _ _).setCell (p:=⟨b,0,none⟩) HB.out.1 _⟩
 ·clear h;go_enter Tryz.func96,Tryz.ntmps96;go_wp2_with fail
  go_end0
  exact⟨rfl,HB.out,Below.refl _ _⟩
theorem Tryz.infoByte:(Tryz.prog.info? 5).map (fun i=>(i.zero,i.size,i.bytes))=some (some (.int .u8 0),1,1):=by kernel_rfl
theorem zdw (B b:Nat) (bs:List Value) (s:ByteArray) (w:World) (h:Lib.IsBuilder 130 5 B b bs w) (hlen:bs.length+s.size≤100000000) (hBw:B≤w.heap.size) :
 Calls Tryz.prog 59 #[.pointer (some ⟨b,0,none⟩),.string s] w fun e w'=>e=.returned (.tuple #[.int .i64 s.size,.nilIface])∧Lib.BuilderAt 130 5 B b (.pointer (some ⟨b,0,none⟩)) (bs++Lib.strCells s) w'∧Below B w w':=by
 obtain⟨i0,hi,hz0,hz1,hz2⟩:=info_parts Tryz.infoByte;have C1:Hid (Calls Tryz.prog 96 #[.pointer (some ⟨b,0,none⟩)] w fun e w'=>e=.returned (.tuple #[])∧Lib.BuilderAt 130 5 B b (.pointer (some ⟨b,0,none⟩)) bs w'∧Below B w w'):=by
  rcases h with h|h
  ·exact zck B b _ bs w h (Or.inl rfl)
  ·exact zck B b _ bs w h (Or.inr rfl)
 clear h;go_enter Tryz.func59,Tryz.ntmps59;go_wp2_with fail;refine Calls.mono C1.out ?_;rintro e w1 ⟨rfl,⟨hB,v,hb,hown,hne⟩,hb1⟩;have c1:=Lib.cell_of_heap hb 1;simp at c1;have hlt:b<w1.heap.size:=by
  rcases Nat.lt_or_ge b w1.heap.size with h|h
  ·exact h
  ·rw[Array.getElem?_eq_none h] at hb;cases hb
 have hs1:=hb1.size;have HH:Hid _:=hb;clear hb;obtain⟨va,vn,vc,rfl⟩:∃a n c,v=.slice a n c:=by
  rcases hown.2 with⟨rfl,_⟩|⟨g,cap,cur,rfl,_⟩
  ·exact⟨_,_,_,rfl⟩
  ·exact⟨_,_,_,rfl⟩
 go_wp2_with (at_builtin;refine Lib.wpList_append_own_string _ rfl _ _ 122 9 rfl B 5 i0 Tryz.underlying122 Tryz.underlying9 hi hz0 hz1 hz2 _ _ _ rfl hown s rfl (by unfold maxLen;omega) (by omega) (by omega) ?_)
 intro v' w2 hown2 hgrow _;have hbk:w2.heap[b]?=some (.cells #[.pointer (some ⟨b,0,none⟩),.slice va vn vc] 130 (0,0)):=(hgrow.block b hlt (fun e=>hne e.symm)).trans HH.out;have f1:=Lib.frozen_of_heap hbk 1;have c1':=Lib.cell_of_heap hbk 1;simp at c1';have hlt2:b<w2.heap.size:=Nat.lt_of_lt_of_le hlt hgrow.size;have HBA:Hid (Lib.BuilderAt 130 5 B b (.pointer (some ⟨b,0,none⟩)) (bs++Lib.strCells s) (w2.setCell ⟨b,1,none⟩ v')):=Lib.BuilderAt.put hB hbk (by rw[List.length_append,Lib.strCells_length];exact hown2) (by decide);have HB2:Hid (Below B w w2):=hb1.grown hgrow (by omega) (fun j hj=>zaf hown j hj);obtain⟨va',vn',vc',rfl⟩:∃a n c,v'=.slice a n c:=by
  rcases hown2.2 with⟨rfl,_⟩|⟨g,cap,cur,rfl,_⟩
  ·exact⟨_,_,_,rfl⟩
  ·exact⟨_,_,_,rfl⟩
 clear hown hgrow hown2 hbk HH c1;go_wp2_with fail
 go_ret2
 exact⟨rfl,HBA.out,HB2.out.setCell (p:=⟨b,1,none⟩) hB _⟩
end Go.Proofs.YtkinoehmcfhgbaaGreatDoor.Vl
