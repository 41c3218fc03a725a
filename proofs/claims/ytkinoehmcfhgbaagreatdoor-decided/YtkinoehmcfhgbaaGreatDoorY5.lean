/- A part of the proof. -/
import Derived.Test.YtkinoehmcfhgbaaGreatDoorY4
set_option linter.unusedVariables false
set_option linter.unusedSimpArgs false
namespace Go.Proofs.YtkinoehmcfhgbaaGreatDoor.Vl
open Go.RowKit
theorem zgj (n:Nat):Lib.itoa (n:Int)=Lib.decDigits n:=by unfold Lib.itoa;rw[if_neg (by omega),Int.toNat_natCast]
theorem zec {N n:Nat} (hn:n<N) (hN:N≤4000) {c:UInt8} (hc:isd c=false) (r:List UInt8):fig N (Lib.itoa (n:Int)++c::r)=some (n,c::r):=by
 rw[zgj];have h1:dlen (Lib.decDigits n++c::r)=(Lib.decDigits n).length:=by
  rw[zcJ _ _ (zbL n (by omega)),show dlen (c::r)=0 by unfold dlen;rw[hc];rfl]
  rfl
 unfold fig;rw[h1,List.take_left,List.drop_left,zhY 4000 n (by omega),if_pos (by omega),Int.toNat_natCast]
def cyl (l:List Nat):List UInt8:=l.flatMap fun(m:Nat)=>44::Lib.itoa (m:Int)
theorem zeP:∀(l:List Nat) (s:List UInt8),l.foldl (fun(s:List UInt8) (m:Nat)=>s++44::Lib.itoa (m:Int)) s=s++cyl l
 | [],s=>by simp[cyl]
 | m::r,s=>by rw[List.foldl_cons,zeP r];simp[cyl]
theorem zgk (n:Nat) (l:List Nat):cyt n l=33::(Lib.itoa (n:Int)++(cyl l++[59])):=by unfold cyt;rw[zeP];simp
theorem zhL {us:List Atm} {f:Atm→Int} (hN:us.length≤4000):∀(l:List Nat) (n k:Nat) (rest:List UInt8),l.length<k→n<us.length→f (us.getD n (0,0,0))≠0→(∀x∈l,x<us.length∧f (us.getD x (0,0,0))≠0) →
 lks us f k (Lib.itoa (n:Int)++(cyl l++59::rest))=some ((n::l).map (fun x=>ifA (us.getD x (0,0,0)) (f (us.getD x (0,0,0)))),rest)
 | [],n,0,rest,hk,hn,h0,hl=>absurd hk (by simp)
 | [],n,k+1,rest,hk,hn,h0,hl=>by
  have e:fig us.length (Lib.itoa (n:Int)++(cyl []++59::rest))=some (n,59::rest):=zec hn hN rfl rest;unfold lks;rw[e];dsimp only;rw[if_neg h0,if_neg (by decide),if_pos rfl]
  rfl
 | m::r,n,0,rest,hk,hn,h0,hl=>absurd hk (by simp)
 | m::r,n,k+1,rest,hk,hn,h0,hl=>by
  have e1:cyl (m::r)++59::rest=44::(Lib.itoa (m:Int)++(cyl r++59::rest)):=by simp[cyl]
  have e:fig us.length (Lib.itoa (n:Int)++(cyl (m::r)++59::rest))=some (n,44::(Lib.itoa (m:Int)++(cyl r++59::rest))):=by rw[e1];exact zec hn hN rfl _
  have hm:=hl m List.mem_cons_self;unfold lks;rw[e];dsimp only;rw[if_neg h0,if_pos rfl,zhL hN r m k rest (by simp only[List.length_cons] at hk;omega) hm.1 hm.2 (fun x hx=>hl x (List.mem_cons_of_mem _ hx))]
  rfl
theorem zhM:∀l:List Nat,l.length≤(cyl l).length
 | []=>Nat.le_refl _
 | m::r=>by
  have:=zhM r;have e:cyl (m::r)=44::(Lib.itoa (m:Int)++cyl r):=by simp[cyl]
  rw[e];simp only[List.length_cons,List.length_append];omega
theorem zgl {us:List Atm} {A:Nat→Int} (hok:∀a∈us,okA a) {i j:Nat} {p:List Nat} {s:Int} (w:Wk (EA us A) i j p s):(∀x∈p,x<us.length∧A x≠0)∧smB (p.map fun x=>ifA (us.getD x (0,0,0)) (A x))=s ∧
 ∀(last:Atm),last.2.1=(i:Int)→chn last (p.map fun x=>ifA (us.getD x (0,0,0)) (A x))=true∧((last::p.map fun x=>ifA (us.getD x (0,0,0)) (A x)).getLastD (0,0,0)).2.1=(j:Int):=by
 induction w with
 | nil i=>exact⟨fun x hx=>(by cases hx),rfl,fun last h=>⟨rfl,h⟩⟩
 | @cons k i j t n s ks e w ih =>
  obtain⟨h1,h2,e1,e2,e3⟩:=e;obtain⟨i1,i2,i3⟩:=ih;have hka:okA (us.getD k (0,0,0)):=hok _ (by rw[List.getD_eq_getElem?_getD,List.getElem?_eq_getElem h1];exact List.getElem_mem h1);have hn1:0≤(ifA (us.getD k (0,0,0)) (A k)).1∧0≤(ifA (us.getD k (0,0,0)) (A k)).2.1:=by
   obtain⟨o1,o2,o3,o4,o5,o6⟩:=hka;unfold ifA;split
   ·exact⟨o3,o1⟩
   ·exact⟨o1,o3⟩
  refine⟨fun x hx=>?_,?_,fun last hl=>?_⟩
  ·rcases List.mem_cons.1 hx with rfl|hx
   ·exact⟨h1,h2⟩
   ·exact i1 x hx
  ·have:smB (((k::ks).map fun x=>ifA (us.getD x (0,0,0)) (A x)))=(ifA (us.getD k (0,0,0)) (A k)).2.2+smB (ks.map fun x=>ifA (us.getD x (0,0,0)) (A x)):=by simp[smB]
   rw[this,i2,e3]
  ·obtain⟨c1,c2⟩:=i3 (ifA (us.getD k (0,0,0)) (A k)) (by omega);refine⟨?_,?_⟩
   ·rw[List.map_cons];unfold chn;rw[c1,Bool.and_true,beq_iff_eq,hl];omega
   ·rw[List.map_cons];rw[show(last::ifA (us.getD k (0,0,0)) (A k)::ks.map fun x=>ifA (us.getD x (0,0,0)) (A x)).getLastD (0,0,0)=(ifA (us.getD k (0,0,0)) (A k)::ks.map fun x=>ifA (us.getD x (0,0,0)) (A x)).getLastD (0,0,0) by simp];exact c2
theorem zgT {us:List Atm} {A:Nat→Int} {b:Bd} (h:SI us A b) (hok:∀a∈us,okA a) {n:Nat} (hn:n<us.length) {t u:Int} (ht:btr b (us.getD n (0,0,0))=t) (hu:(t=1∧u=2)∨(t=2∧u=1)) :
 (∀x∈brs b (us.getD n (0,0,0)) t,x<us.length∧A x≠0)∧cyc (ifA (us.getD n (0,0,0)) u::(brs b (us.getD n (0,0,0)) t).map fun x=>ifA (us.getD x (0,0,0)) (A x))=true:=by
 have hka:okA (us.getD n (0,0,0)):=hok _ (by rw[List.getD_eq_getElem?_getD,List.getElem?_eq_getElem hn];exact List.getElem_mem hn);generalize us.getD n (0,0,0)=a at *;obtain⟨o1,o2,o3,o4,o5,o6⟩:=hka;have hb:bim b (ifA a t)=true:=by
  unfold btr at ht;rcases hu with⟨rfl,_⟩|⟨rfl,_⟩
  ·split at ht
   ·rename_i h1;exact h1
   ·split at ht<;>cases ht
  ·split at ht
   ·cases ht
   ·split at ht
    ·rename_i h1;exact h1
    ·cases ht
 have hop:ifA a u=((ifA a t).2.1,(ifA a t).1,-(ifA a t).2.2-1):=by
  obtain⟨a1,a2,a3⟩:=a;rcases hu with⟨rfl,rfl⟩|⟨rfl,rfl⟩
  ·rfl
  ·show(a1,a2,a3)=(a1,a2,- (-a3-1)-1)
   congr 2
   omega
 have hn1:0≤(ifA a t).1∧0≤(ifA a t).2.1:=by
  unfold ifA;split
  ·exact⟨o3,o1⟩
  ·exact⟨o1,o3⟩
 rw[hop];unfold brs;unfold bim at hb;generalize ifA a t=c at *;cases hbc:b c.1.toNat c.2.1.toNat with
 | none=>rw[hbc] at hb;cases hb
 | some q =>
  obtain⟨m,p⟩:=q;rw[hbc] at hb;dsimp only at hb ⊢;have hm:m≤c.2.2:=of_decide_eq_true hb;obtain⟨c1,c2,c3⟩:=zgl hok (h.ok.way _ _ _ _ hbc);refine⟨c1,?_⟩;obtain⟨d1,d2⟩:=c3 (c.2.1,c.1,-c.2.2-1) (by show c.1=_;omega);generalize p.map (fun x=>ifA (us.getD x (0,0,0)) (A x))=q at *;have hs:smB ((c.2.1,c.1,-c.2.2-1)::q)=(-c.2.2-1)+smB q:=by simp[smB]
  unfold cyc;rw[Bool.and_eq_true,hs,c2];refine⟨?_,decide_eq_true (by omega)⟩;unfold chn;rw[d1,Bool.and_true,beq_iff_eq,d2];show _=c.2.1
  omega
theorem zcD {n:Nat} {h f:List UInt8} (hl:(spt n h f).length≤200000):h.length≤200000∧f.length≤200000∧spt n h f=63::(Lib.itoa (n:Int)++58::(h++f)):=by
 unfold spt at hl ⊢;split at hl
 ·omega
 ·split at hl
  ·omega
  ·rename_i h1 h2
   exact⟨by omega,by omega,by rw[if_neg h1,if_neg h2]⟩
section
variable {us:List Atm} {ys:List Sym} {f:Atm→Int}
theorem zbV (hN:us.length≤4000) {k n:Nat} (hn:n<us.length) (h0:f (us.getD n (0,0,0))=0) {h o rest:List UInt8} (h1:chk us ys k (putA f (us.getD n (0,0,0)) 1) (h++(o++rest))=some (o++rest)) (h2:chk us ys k (putA f (us.getD n (0,0,0)) 2) (o++rest)=some rest) :
 chk us ys (k+1) f ((63::(Lib.itoa (n:Int)++58::(h++o)))++rest)=some rest:=by
 have e:(63::(Lib.itoa (n:Int)++58::(h++o)))++rest=63::(Lib.itoa (n:Int)++58::(h++(o++rest))):=by simp
 rw[e];unfold chk;dsimp only;rw[if_neg (by decide),if_neg (by decide),if_pos rfl,zec hn hN rfl];dsimp only;rw[if_pos ⟨h0,rfl⟩,h1];exact h2
theorem zhN (hN:us.length≤4000) {k n:Nat} {l:List Nat} {rest:List UInt8} (hl:∀x∈n::l,x<us.length∧f (us.getD x (0,0,0))≠0) (hc:cyc ((n::l).map fun x=>ifA (us.getD x (0,0,0)) (f (us.getD x (0,0,0))))=true):chk us ys (k+1) f (cyt n l++rest)=some rest:=by
 have e:cyt n l++rest=33::(Lib.itoa (n:Int)++(cyl l++59::rest)):=by rw[zgk];simp
 rw[e];unfold chk;dsimp only;have hn:=hl n List.mem_cons_self;rw[if_neg (by decide),if_pos rfl,zhL hN l n _ rest (by have:=zhM l;simp only[List.length_append,List.length_cons];omega) hn.1 hn.2 (fun x hx=>hl x (List.mem_cons_of_mem _ hx))];dsimp only;rw[if_pos hc]
end
structure PC (us:List Atm) (ys:List Sym) (g:List Pt):Prop where
 nd:us.Nodup
 len:us.length≤4000
 ok:∀a∈us,okA a
 gw:GW us.length g
 gl:g.length≤8000
 tr:Tr g 0 g.length
 run:∀f:Atm→Int,(∀a,T3 (f a))→(gtr (us.map f) 0 g).headD 0=tnot ((trun f ys).headD 0)
theorem zar (l:List Int):l.headD 0=l.getD 0 0:=by cases l<;>rfl
theorem zk4 {us:List Atm} {A:Nat→Int} (hok:∀a∈us,okA a):∀k i j n,EA us A k i j n→i<5∧j<5:=by
 rintro k i j n ⟨h1,h2,e1,e2,e3⟩;have hka:okA (us.getD k (0,0,0)):=hok _ (by rw[List.getD_eq_getElem?_getD,List.getElem?_eq_getElem h1];exact List.getElem_mem h1);obtain⟨o1,o2,o3,o4,o5,o6⟩:=hka;unfold ifA at e1 e2;split at e1<;>split at e2<;>simp_all<;>omega
theorem zed {us:List Atm} {A:Nat→Int} {b:Bd} (h:SI us A b) (hok:∀a∈us,okA a) {a:Atm} (ha:okA a) (t:Int):(brs b a t).length≤4:=by
 unfold brs;cases hb:b (ifA a t).1.toNat (ifA a t).2.1.toNat with
 | none=>simp
 | some q =>
  obtain⟨m,p⟩:=q;refine zgf h.sim (zk4 hok) ?_ hb;obtain⟨o1,o2,o3,o4,o5,o6⟩:=ha;unfold ifA;split
  ·dsimp only;omega
  ·omega
theorem zhO {us:List Atm} {A:Nat→Int} {b:Bd} (h:SI us A b) (i:Nat):T3 ((lok us A b).getD i 0):=by
 rw[List.getD_eq_getElem?_getD];cases e:(lok us A b)[i]? with
 | none=>exact Or.inl rfl
 | some t=>exact zcU b h.t3 t (List.mem_of_getElem? e)
theorem zjy {us:List Atm} (f:Atm→Int) {a:Nat} (h:a<us.length):(us.map f).getD a 0=f (us.getD a (0,0,0)):=by
 rw[List.getD_eq_getElem?_getD,List.getElem?_map,List.getElem?_eq_getElem h,List.getD_eq_getElem?_getD,List.getElem?_eq_getElem h];rfl
theorem zcf {us:List Atm} {n:Nat} (h:n<us.length):us.getD n (0,0,0)∈us:=by rw[List.getD_eq_getElem?_getD,List.getElem?_eq_getElem h];exact List.getElem_mem h
theorem zbI {us:List Atm} (hd:us.Nodup) {i j:Nat} (hi:i<us.length) (hj:j<us.length) (hne:i≠j):us.getD i (0,0,0)≠us.getD j (0,0,0):=by
 rw[List.getD_eq_getElem?_getD,List.getElem?_eq_getElem hi,List.getD_eq_getElem?_getD,List.getElem?_eq_getElem hj];intro e;exact hne ((List.getElem_inj hd).1 e)
theorem zbW (f:Atm→Int) (a:Atm) (t:Int):putA f a t a=t:=by unfold putA;rw[if_pos rfl]
theorem zaR (f:Atm→Int) {a x:Atm} (t:Int) (h:x≠a):putA f a t x=f x:=by unfold putA;rw[if_neg h]
section
variable {us:List Atm} {ys:List Sym} {g:List Pt} {A:Nat→Int} {b:Bd} {ats:List Int} {rs:Nat→Bool}
theorem zgm {i j:Nat} (hij:i≤j) {x:Nat} (h:(fnl us A ats b rs i).2 x=true):(fnl us A ats b rs j).2 x=true:=by
 induction hij with
 | refl=>exact h
 | @step m _ ih =>
  rw[fnl];unfold fst1;split
  ·exact ih
  ·split
   ·dsimp only;rw[ih];rfl
   ·dsimp only;rw[ih];rfl
theorem zeQ {i:Nat} (hi:i<us.length) (hr:rs i=true):(A i≠0→(fnl us A ats b rs us.length).2 i=true)∧(A i=0→∀x∈brs b (us.getD i (0,0,0)) (ats.getD i 0),(fnl us A ats b rs us.length).2 x=true):=by
 constructor
 ·intro hA;refine zgm (i:=i+1) hi ?_;rw[fnl];unfold fst1;rw[if_neg (by rw[hr];decide),if_pos hA];simp
 ·intro hA x hx;refine zgm (i:=i+1) hi ?_;rw[fnl];unfold fst1;rw[if_neg (by rw[hr];decide),if_neg (by omega)];dsimp only;rw[Bool.or_eq_true];exact Or.inr (List.contains_iff_mem.2 hx)
theorem zhP (P:PC us ys g) (h:SI us A b) (h0:(gtr (lok us A b) 0 g).headD 0=2):∀i,i≤us.length→∀(f:Atm→Int) (K:Nat) (rest:List UInt8),(∀a,T3 (f a)) →
 ((fnl us A (lok us A b) b (rsf us g A b) i).1++rest).length<K→(fnl us A (lok us A b) b (rsf us g A b) i).1.length≤200000 →
 (∀j,j<us.length→A j≠0→(fnl us A (lok us A b) b (rsf us g A b) us.length).2 j=true→f (us.getD j (0,0,0))=A j) →
 (∀j,j<i→A j=0→f (us.getD j (0,0,0))=0) →
 (∀j,i≤j→j<us.length→rsf us g A b j=true→A j=0→f (us.getD j (0,0,0))=(lok us A b).getD j 0) →
 chk us ys K f ((fnl us A (lok us A b) b (rsf us g A b) i).1++rest)=some rest
 | 0,hi=>by
  intro f K rest hf3 hK hl q1 q2 q3;cases K with
  | zero=>omega
  | succ K =>
   show chk us ys (K+1) f (46::rest)=some rest
   unfold chk;dsimp only;rw[if_pos rfl,if_pos];have hby:∀i,i<us.length→(brs b (us.getD i (0,0,0)) ((lok us A b).getD i 0)).length≤4000:=fun i hi=>by have:=zed h P.ok (P.ok _ (zcf hi)) ((lok us A b).getD i 0);omega
   have hen:=zgW (A:=A) P.gw P.gl P.tr hby (by rw[←zar];exact h0) (ats':=us.map f) (fun a ha=>by
    have hs:=(zb0 (A:=A) P.gw P.gl P.tr hby (by rw[←zar];exact h0) g.length (Nat.le_refl _)).2 a ha;have e:=zjy f hs.1;rw[e];by_cases hA:A a=0
    ·exact q3 a (Nat.zero_le _) hs.1 ha hA
    ·rw[q1 a hs.1 hA ((zeQ hs.1 ha).1 hA),zcT A b hs.1,if_pos hA])
   rw[←zar,P.run f hf3] at hen;exact zei.1 hen
 | i+1,hi=>by
  intro f K rest hf3 hK hl q1 q2 q3;have I:=zhP P h h0 i (by omega);have hby:∀i,i<us.length→(brs b (us.getD i (0,0,0)) ((lok us A b).getD i 0)).length≤4000:=fun i hi=>by have:=zed h P.ok (P.ok _ (zcf hi)) ((lok us A b).getD i 0);omega
  rw[fnl] at hK hl ⊢;unfold fst1 at hK hl ⊢;by_cases hr:rsf us g A b i=false
  ·rw[if_pos hr] at hK hl ⊢;refine I f K rest hf3 hK hl q1 (fun j hj=>q2 j (by omega)) (fun j hj1 hj2 hj3=>?_);refine q3 j ?_ hj2 hj3;by_cases e:j=i
   ·subst e;rw[hr] at hj3;cases hj3
   ·omega
  ·rw[if_neg hr] at hK hl ⊢;have hr':rsf us g A b i=true:=by simpa using hr
   by_cases hA:A i≠0
   ·rw[if_pos hA] at hK hl ⊢;refine I f K rest hf3 hK hl q1 (fun j hj=>q2 j (by omega)) (fun j hj1 hj2 hj3 hj4=>?_);refine q3 j ?_ hj2 hj3 hj4;by_cases e:j=i
    ·subst e;exact absurd hj4 hA
    ·omega
   ·rw[if_neg hA] at hK hl ⊢;have hA0:A i=0:=by omega
    have hset:=((zb0 (A:=A) P.gw P.gl P.tr hby (by rw[←zar];exact h0) g.length (Nat.le_refl _)).2 i hr').2;have hbt:btr b (us.getD i (0,0,0))=(lok us A b).getD i 0:=by rw[zcT A b (by omega),if_neg hA]
    have hneed:=(zeQ (us:=us) (A:=A) (ats:=lok us A b) (b:=b) (rs:=rsf us g A b) (i:=i) (by omega) hr').2 hA0;have hf0:=q2 i (by omega) hA0;generalize hT:(fnl us A (lok us A b) b (rsf us g A b) i).1=T at *;generalize hNN:(fnl us A (lok us A b) b (rsf us g A b) us.length).2=N at *;have step:∀t:Int,t=(lok us A b).getD i 0→∀K rest,(T++rest).length<K→T.length≤200000→chk us ys K (putA f (us.getD i (0,0,0)) t) (T++rest)=some rest:=by
     intro t ht K rest hK hl;refine I (putA f (us.getD i (0,0,0)) t) K rest (fun a=>?_) hK hl (fun j hj hj2 hj3=>?_) (fun j hj hj2=>?_) (fun j hj1 hj2 hj3 hj4=>?_)
     ·unfold putA;split
      ·rw[ht];exact zhO h i
      ·exact hf3 a
     ·have hne:j≠i:=by rintro rfl;exact hA hj2
      rw[zaR _ _ (zbI P.nd hj (by omega) hne)];exact q1 j hj hj2 hj3
     ·rw[zaR _ _ (zbI P.nd (by omega) (by omega) (by omega))];exact q2 j (by omega) hj2
     ·by_cases e:j=i
      ·subst e;rw[zbW];exact ht
      ·rw[zaR _ _ (zbI P.nd hj2 (by omega) e)];exact q3 j (by omega) hj2 hj3 hj4
    have cyk:∀u:Int,(((lok us A b).getD i 0=1∧u=2)∨((lok us A b).getD i 0=2∧u=1))→∀K rest,chk us ys (K+1) (putA f (us.getD i (0,0,0)) u) (cyt i (brs b (us.getD i (0,0,0)) ((lok us A b).getD i 0))++rest)=some rest:=by
     intro u hu K rest;obtain⟨c1,c2⟩:=zgT h P.ok (n:=i) (by omega) hbt hu;have hfx:∀x∈brs b (us.getD i (0,0,0)) ((lok us A b).getD i 0),putA f (us.getD i (0,0,0)) u (us.getD x (0,0,0))=A x:=fun x hx=>by
      have hne:x≠i:=by rintro rfl;exact(c1 x hx).2 hA0
      rw[zaR _ _ (zbI P.nd (c1 x hx).1 (by omega) hne)];exact q1 x (c1 x hx).1 (c1 x hx).2 (hneed x hx)
     refine zhN P.len (fun x hx=>?_) ?_
     ·rcases List.mem_cons.1 hx with rfl|hx
      ·exact⟨by omega,by rw[zbW];omega⟩
      ·exact⟨(c1 x hx).1,by rw[hfx x hx];exact(c1 x hx).2⟩
     ·rw[List.map_cons,zbW];rw[show(brs b (us.getD i (0,0,0)) ((lok us A b).getD i 0)).map (fun x=>ifA (us.getD x (0,0,0)) (putA f (us.getD i (0,0,0)) u (us.getD x (0,0,0))))=(brs b (us.getD i (0,0,0)) ((lok us A b).getD i 0)).map (fun x=>ifA (us.getD x (0,0,0)) (A x)) from List.map_congr_left (fun x hx=>by rw[hfx x hx])];exact c2
    dsimp only at hK hl ⊢;rcases hset with h1|h2
    ·rw[if_pos h1] at hK hl ⊢;obtain⟨l1,l2,e⟩:=zcD hl;rw[e] at hK ⊢;simp only[List.length_cons,List.length_append] at hK;cases K with
     | zero=>omega
     | succ K =>
      refine zbV P.len (by omega) hf0 (step 1 h1.symm K _ (by simp only[List.length_append];omega) l1) ?_;cases K with
      | zero=>omega
      | succ K=>exact cyk 2 (Or.inl ⟨h1,rfl⟩) K rest
    ·rw[if_neg (by omega)] at hK hl ⊢;obtain⟨l1,l2,e⟩:=zcD hl;rw[e] at hK ⊢;simp only[List.length_cons,List.length_append] at hK;cases K with
     | zero=>omega
     | succ K =>
      refine zbV P.len (by omega) hf0 ?_ (step 2 h2.symm K _ (by simp only[List.length_append];omega) l2);cases K with
      | zero=>omega
      | succ K=>exact cyk 1 (Or.inr ⟨h2,rfl⟩) K _
end
section
variable {us:List Atm} {ys:List Sym} {g:List Pt}
theorem zee (P:PC us ys g) {A:Nat→Int} {b:Bd} (h:SI us A b) (h1:(gtr (lok us A b) 0 g).headD 0≠1) (h2:(gtr (lok us A b) 0 g).headD 0≠2) :
 (pick0 g (gtr (lok us A b) 0 g)).2.2.1.toNat<us.length∧A (pick0 g (gtr (lok us A b) 0 g)).2.2.1.toNat=0∧((pick0 g (gtr (lok us A b) 0 g)).2.2.2=1∨(pick0 g (gtr (lok us A b) 0 g)).2.2.2=2)∧(lok us A b).getD (pick0 g (gtr (lok us A b) 0 g)).2.2.1.toNat 0=0:=by
 have hne:g≠[]:=by intro e;have:=P.tr.pos;rw[e] at this;simp at this
 have h3:=zgd (zcU (us:=us) b h.t3) P.gw 0;have h0:(gtr (lok us A b) 0 g).headD 0=0:=by
  rw[zar] at h1 h2 ⊢;rcases h3 with h|h|h
  ·exact h
  ·exact absurd h h1
  ·exact absurd h h2
 obtain⟨a,a1,a2,a3,a4,_⟩:=zeM P.gw (zcU b h.t3) h0 hne;rw[a1,Int.toNat_natCast];refine⟨a2,?_,a3,a4⟩;rw[zcT A b a2] at a4;by_cases e:A a=0
 ·exact e
 ·rw[if_pos e] at a4;exact absurd a4 e
theorem zfz (P:PC us ys g):∀(k s:Nat) (A:Nat→Int) (b:Bd),SI us A b→(sch us g k s A b).1.v=0→(sch us g k s A b).1.pf.length≤200000→∀(f:Atm→Int) (K:Nat) (rest:List UInt8),(∀a,T3 (f a)) →
 ((sch us g k s A b).1.pf++rest).length<K→(∀j,j<us.length→A j=0→f (us.getD j (0,0,0))=0)→(∀j,j<us.length→A j≠0→(sch us g k s A b).1.nd j=true→f (us.getD j (0,0,0))=A j) →
 chk us ys K f ((sch us g k s A b).1.pf++rest)=some rest
 | 0,s,A,b,h,hv,_=>absurd hv (by show(2:Int)≠0;decide)
 | k+1,0,A,b,h,hv,_=>absurd hv (by show(2:Int)≠0;decide)
 | k+1,s+1,A,b,h,hv,hl=>by
  intro f K rest hf3 hK q1 q2;have hst:=zaD (us:=us) (g:=g) (fin:=finF us g) (two:=twoF) k s A b;change sch us g (k+1) (s+1) A b=_ at hst;rw[hst] at hv hl hK q2 ⊢;by_cases c1:(gtr (lok us A b) 0 g).headD 0=1
  ·rw[if_pos c1] at hv;cases hv
  ·rw[if_neg c1] at hv hl hK q2 ⊢;by_cases c2:(gtr (lok us A b) 0 g).headD 0=2
   ·rw[if_pos c2] at hv hl hK q2 ⊢;exact zhP P h c2 us.length (Nat.le_refl _) f K rest hf3 hK hl q2 q1 (fun j h1 h2=>by omega)
   ·rw[if_neg c2] at hv hl hK q2 ⊢;obtain⟨n1,n2,n3,n4⟩:=zee P h c1 c2;dsimp only at hv hl hK q2 ⊢;generalize (pick0 g (gtr (lok us A b) 0 g)).2.2.1.toNat=n at *;generalize (pick0 g (gtr (lok us A b) 0 g)).2.2.2=w at *;have S1:=h.step n1 n4 (t:=w) n3;have n3':tnot w=1∨tnot w=2:=by rcases n3 with rfl|rfl;exact Or.inr rfl;exact Or.inl rfl
    have S2:=h.step n1 n4 (t:=tnot w) n3';have I1:=zfz P k s _ _ S1;have ew:setN A n w n=w:=by unfold setN;rw[if_pos rfl]
    have ew':setN A n (tnot w) n=tnot w:=by unfold setN;rw[if_pos rfl]
    have eo:∀t j,j≠n→setN A n t j=A j:=fun t j hj=>by unfold setN;rw[if_neg hj]
    dsimp only[sch] at I1;generalize hH:srch us g (finF us g) twoF k s (setN A n w) (bwa b (us.getD n (0,0,0)) w n)=H at *;have drop:∀(t:Int) (E:En),t=1∨t=2→E.nd n=false→(∀(f:Atm→Int) (K:Nat) (rest:List UInt8),(∀a,T3 (f a))→(E.pf++rest).length<K→(∀j,j<us.length→setN A n t j=0→f (us.getD j (0,0,0))=0)→(∀j,j<us.length→setN A n t j≠0→E.nd j=true→f (us.getD j (0,0,0))=setN A n t j)→chk us ys K f (E.pf++rest)=some rest) →
     (E.pf++rest).length<K→(∀j,j<us.length→A j≠0→E.nd j=true→f (us.getD j (0,0,0))=A j)→chk us ys K f (E.pf++rest)=some rest:=by
     intro t E ht hE IE hK q2;refine IE f K rest hf3 hK (fun j hj hj2=>?_) (fun j hj hj2 hj3=>?_)
     ·by_cases e:j=n
      ·subst e;unfold setN at hj2;rw[if_pos rfl] at hj2;omega
      ·rw[eo t j e] at hj2;exact q1 j hj hj2
     ·by_cases e:j=n
      ·subst e;rw[hE] at hj3;cases hj3
      ·rw[eo t j e] at hj2 ⊢;exact q2 j hj hj2 hj3
    by_cases c3:H.1.v≠0∨H.1.nd n=false
    ·rw[if_pos c3] at hv hl hK q2 ⊢;rcases c3 with c3|c3
     ·exact absurd hv c3
     ·exact drop w H.1 n3 c3 (I1 hv hl) hK q2
    ·rw[if_neg c3] at hv hl hK q2 ⊢;have c31:H.1.v=0:=by
      by_cases e:H.1.v=0
      ·exact e
      ·exact absurd (Or.inl e) c3
     have I2:=zfz P k H.2 _ _ S2;dsimp only[sch] at I2;generalize hO:srch us g (finF us g) twoF k H.2 (setN A n (tnot w)) (bwa b (us.getD n (0,0,0)) (tnot w) n)=O at *;by_cases c4:O.1.v≠0∨O.1.nd n=false
     ·rw[if_pos c4] at hv hl hK q2 ⊢;rcases c4 with c4|c4
      ·exact absurd hv c4
      ·exact drop (tnot w) O.1 n3' c4 (I2 hv hl) hK q2
     ·rw[if_neg c4] at hv hl hK q2 ⊢;have c41:O.1.v=0:=by
       by_cases e:O.1.v=0
       ·exact e
       ·exact absurd (Or.inl e) c4
      have with1:∀(t:Int) (E:En),t=1∨t=2→(∀j,E.nd j=true→(H.1.nd j||O.1.nd j)=true)→(∀(f:Atm→Int) (K:Nat) (rest:List UInt8),(∀a,T3 (f a))→(E.pf++rest).length<K→(∀j,j<us.length→setN A n t j=0→f (us.getD j (0,0,0))=0)→(∀j,j<us.length→setN A n t j≠0→E.nd j=true→f (us.getD j (0,0,0))=setN A n t j)→chk us ys K f (E.pf++rest)=some rest) →
       ∀K rest,(E.pf++rest).length<K→chk us ys K (putA f (us.getD n (0,0,0)) t) (E.pf++rest)=some rest:=by
       intro t E ht hE IE K rest hK;refine IE _ K rest (fun a=>?_) hK (fun j hj hj2=>?_) (fun j hj hj2 hj3=>?_)
       ·unfold putA;split
        ·rcases ht with rfl|rfl
         ·exact Or.inr (Or.inl rfl)
         ·exact Or.inr (Or.inr rfl)
        ·exact hf3 a
       ·by_cases e:j=n
        ·subst e;unfold setN at hj2;rw[if_pos rfl] at hj2;omega
        ·rw[eo t j e] at hj2;rw[zaR _ _ (zbI P.nd hj n1 e)];exact q1 j hj hj2
       ·by_cases e:j=n
        ·subst e;rw[zbW];unfold setN;rw[if_pos rfl]
        ·rw[eo t j e] at hj2 ⊢;rw[zaR _ _ (zbI P.nd hj n1 e)];exact q2 j hj hj2 (hE j hj3)
      have hf0:=q1 n n1 n2;simp only[twoF] at hl hK ⊢;rcases n3 with rfl|rfl
      ·rw[if_pos rfl] at hl hK ⊢;obtain⟨l1,l2,e⟩:=zcD hl;rw[e] at hK ⊢;simp only[List.length_cons,List.length_append] at hK;cases K with
       | zero=>omega
       | succ K =>
        refine zbV P.len n1 hf0 (with1 1 H.1 (Or.inl rfl) (fun j hj=>by rw[hj];rfl) (I1 c31 l1) K _ (by simp only[List.length_append];omega)) ?_;exact with1 2 O.1 (Or.inr rfl) (fun j hj=>by rw[hj,Bool.or_true]) (I2 c41 l2) K _ (by simp only[List.length_append];omega)
      ·rw[if_neg (by decide)] at hl hK ⊢;obtain⟨l1,l2,e⟩:=zcD hl;rw[e] at hK ⊢;simp only[List.length_cons,List.length_append] at hK;cases K with
       | zero=>omega
       | succ K =>
        refine zbV P.len n1 hf0 (with1 1 O.1 (Or.inl rfl) (fun j hj=>by rw[hj,Bool.or_true]) (I2 c41 l1) K _ (by simp only[List.length_append];omega)) ?_;exact with1 2 H.1 (Or.inr rfl) (fun j hj=>by rw[hj];rfl) (I1 c31 l2) K _ (by simp only[List.length_append];omega)
end
def ncn (A:Nat→Int) (i:Nat):Nat:=(List.range i).countP fun j=>A j==0
theorem zcE (A:Nat→Int) (i:Nat):ncn A (i+1)=ncn A i+if A i=0 then 1 else 0:=by
 unfold ncn;rw[List.range_succ,List.countP_append]
 congr 1
 by_cases h:A i=0<;>simp[h]
theorem zfA {A:Nat→Int} {n:Nat} {t:Int} (h0:A n=0) (ht:t≠0):∀i,ncn (setN A n t) i+(if n<i then 1 else 0)=ncn A i
 | 0=>by simp[ncn]
 | i+1=>by
  have ih:=zfA h0 ht i;rw[zcE,zcE];by_cases e:i=n
  ·subst e;have e1:setN A i t i=t:=by unfold setN;rw[if_pos rfl]
   rw[e1,if_neg ht,if_pos h0,if_pos (by omega)];rw[if_neg (by omega)] at ih;omega
  ·have e1:setN A n t i=A i:=by unfold setN;rw[if_neg e]
   rw[e1];by_cases h:n<i
   ·have hx:n<i+1:=by omega
    simp only[if_pos h,if_pos hx] at ih ⊢;omega
   ·have hx:¬n<i+1:=by omega
    simp only[if_neg h,if_neg hx] at ih ⊢;omega
theorem zef {n:Nat} (h:n<100):(Lib.itoa (n:Int)).length≤2:=by
 rw[zgj];by_cases h1:n<10
 ·rw[Lib.decDigits_one h1];simp
 ·rw[Lib.decDigits_two h1 h];simp
theorem zhQ:∀l:List Nat,(∀x∈l,x<100)→(cyl l).length≤3*l.length
 | [],_=>Nat.le_refl _
 | m::r,h=>by
  have ih:=zhQ r (fun x hx=>h x (List.mem_cons_of_mem _ hx));have h2:=zef (h m List.mem_cons_self);have e:cyl (m::r)=44::(Lib.itoa (m:Int)++cyl r):=by simp[cyl]
  rw[e];simp only[List.length_cons,List.length_append];omega
theorem zgn (n:Nat) (hn:n<100) (h f:List UInt8):(spt n h f).length≤h.length+f.length+4:=by
 have h2:=zef hn;unfold spt;split
 ·omega
 ·split
  ·omega
  ·simp only[List.length_cons,List.length_append];omega
section
variable {us:List Atm} {ys:List Sym} {g:List Pt}
theorem zkD {A:Nat→Int} {b:Bd} (h:SI us A b) (hok:∀a∈us,okA a) (a:Atm) (t:Int):∀x∈brs b a t,x<us.length:=by
 intro x hx;unfold brs at hx;cases hb:b (ifA a t).1.toNat (ifA a t).2.1.toNat with
 | none=>rw[hb] at hx;cases hx
 | some q =>
  obtain⟨m,p⟩:=q;rw[hb] at hx;exact((zgl hok (h.ok.way _ _ _ _ hb)).1 x hx).1
theorem zhR (P:PC us ys g) (hus:us.length≤99) {A:Nat→Int} {b:Bd} (h:SI us A b) (ats:List Int) (rs:Nat→Bool):∀i,i≤us.length→(fnl us A ats b rs i).1.length≤1+20*ncn A i
 | 0,_=>by simp[fnl]
 | i+1,hi=>by
  have ih:=zhR P hus h ats rs i (by omega);rw[zcE,fnl];unfold fst1;split
  ·omega
  ·split
   ·dsimp only;omega
   ·rename_i hA
    have hA0:A i=0:=by omega
    rw[if_pos hA0];have hb:=zed h P.ok (P.ok _ (zcf (n:=i) (by omega))) (ats.getD i 0);have hc:(cyt i (brs b (us.getD i (0,0,0)) (ats.getD i 0))).length≤16:=by
     rw[zgk];have h1:=zef (n:=i) (by omega);have h2:=zhQ (brs b (us.getD i (0,0,0)) (ats.getD i 0)) (fun x hx=>by have:=zkD h P.ok _ _ x hx;omega);simp only[List.length_cons,List.length_append,List.length_nil];omega
    dsimp only;split
    ·have:=zgn i (by omega) (fnl us A ats b rs i).1 (cyt i (brs b (us.getD i (0,0,0)) (ats.getD i 0)));omega
    ·have:=zgn i (by omega) (cyt i (brs b (us.getD i (0,0,0)) (ats.getD i 0))) (fnl us A ats b rs i).1;omega
theorem zfB (P:PC us ys g) (hus:us.length≤99):∀(k s:Nat) (A:Nat→Int) (b:Bd),SI us A b→ncn A us.length<k→2^(ncn A us.length+1)≤s+1 →
 (sch us g k s A b).1.v≠2∧s+1≤(sch us g k s A b).2+2^(ncn A us.length+1)∧((sch us g k s A b).1.v=0→(sch us g k s A b).1.pf.length+7≤28*2^ncn A us.length)
 | 0,s,A,b,h,hk,hs=>by omega
 | k+1,0,A,b,h,hk,hs=>by
  have:=Nat.one_lt_two_pow (n:=ncn A us.length+1) (by omega);omega
 | k+1,s+1,A,b,h,hk,hs=>by
  have hst:=zaD (us:=us) (g:=g) (fin:=finF us g) (two:=twoF) k s A b;change sch us g (k+1) (s+1) A b=_ at hst;rw[hst];have hp:=Nat.one_lt_two_pow (n:=ncn A us.length+1) (by omega);have hpp:2^(ncn A us.length+1)=2*2^ncn A us.length:=by rw[Nat.pow_succ];omega
  by_cases c1:(gtr (lok us A b) 0 g).headD 0=1
  ·rw[if_pos c1];exact⟨by show(1:Int)≠2;decide,by show s+1+1≤s+_;omega,fun h=>by cases h⟩
  ·rw[if_neg c1];by_cases c2:(gtr (lok us A b) 0 g).headD 0=2
   ·rw[if_pos c2];refine⟨by show(0:Int)≠2;decide,by show s+1+1≤s+_;omega,fun _=>?_⟩;have h1:=zhR P hus h (lok us A b) (rsf us g A b) us.length (Nat.le_refl _);have h2:ncn A us.length<2^ncn A us.length:=Nat.lt_two_pow_self;show(fnl us A (lok us A b) b (rsf us g A b) us.length).1.length+7≤_
    omega
   ·rw[if_neg c2];obtain⟨n1,n2,n3,n4⟩:=zee P h c1 c2;dsimp only;generalize (pick0 g (gtr (lok us A b) 0 g)).2.2.1.toNat=n at *;generalize (pick0 g (gtr (lok us A b) 0 g)).2.2.2=w at *;have S1:=h.step n1 n4 (t:=w) n3;have n3':tnot w=1∨tnot w=2:=by rcases n3 with rfl|rfl;exact Or.inr rfl;exact Or.inl rfl
    have S2:=h.step n1 n4 (t:=tnot w) n3';have r1:=zfA (n:=n) (t:=w) n2 (by omega) us.length;have r2:=zfA (n:=n) (t:=tnot w) n2 (by omega) us.length;rw[if_pos n1] at r1 r2;have hq:2^ncn A us.length=2*2^ncn (setN A n w) us.length:=by rw[←r1,Nat.pow_succ];omega
    have e12:ncn (setN A n (tnot w)) us.length=ncn (setN A n w) us.length:=by omega
    have I1:=zfB P hus k s _ _ S1 (by omega) (by rw[r1];omega);dsimp only[sch] at I1;generalize hH:srch us g (finF us g) twoF k s (setN A n w) (bwa b (us.getD n (0,0,0)) w n)=H at *;obtain⟨a1,a2,a3⟩:=I1;rw[r1] at a2;by_cases c3:H.1.v≠0∨H.1.nd n=false
    ·rw[if_pos c3];exact⟨a1,by omega,fun h0=>by have:=a3 h0;omega⟩
    ·rw[if_neg c3];have I2:=zfB P hus k H.2 _ _ S2 (by omega) (by rw[r2];omega);dsimp only[sch] at I2;generalize hO:srch us g (finF us g) twoF k H.2 (setN A n (tnot w)) (bwa b (us.getD n (0,0,0)) (tnot w) n)=O at *;obtain⟨b1,b2,b3⟩:=I2;rw[r2] at b2;rw[e12] at b3;have c31:H.1.v=0:=by
      by_cases e:H.1.v=0
      ·exact e
      ·exact absurd (Or.inl e) c3
     by_cases c4:O.1.v≠0∨O.1.nd n=false
     ·rw[if_pos c4];exact⟨b1,by omega,fun h0=>by have:=b3 h0;omega⟩
     ·rw[if_neg c4];have c41:O.1.v=0:=by
       by_cases e:O.1.v=0
       ·exact e
       ·exact absurd (Or.inl e) c4
      have l1:=a3 c31;have l2:=b3 c41;refine⟨by show(0:Int)≠2;decide,by show _≤O.2+_;omega,fun _=>?_⟩;show(if w=1 then spt n H.1.pf O.1.pf else spt n O.1.pf H.1.pf).length+7≤_
      split
      ·have:=zgn n (by omega) H.1.pf O.1.pf;omega
      ·have:=zgn n (by omega) O.1.pf H.1.pf;omega
def bsx (m:Int×Int×Int×Int) (o:Int):Int:=if o=1 then m.1 else if o=2 then m.2.1 else if o=3 then m.2.2.1 else if o=4 then m.2.2.2 else 0
theorem zhS (b:Bd) {o:Int} (h0:0≤o) (h4:o≤4):bsx (bmd b) o=bgr b o.toNat-bgr b 0:=by
 have:o=0∨o=1∨o=2∨o=3∨o=4:=by omega
 rcases this with rfl|rfl|rfl|rfl|rfl
 ·show 0=bgr b 0-bgr b 0;omega
 all_goals rfl
theorem zbX (P:PC us ys g) (hin:∀y∈ys,y.1=6→y.2∈us):∀(k s:Nat) (A:Nat→Int) (b:Bd),SI us A b→(sch us g k s A b).1.v=1→(trun (tat (bsx (sch us g k s A b).1.md)) ys).headD 0=2∧∃A' b',SI us A' b'∧(sch us g k s A b).1.md=bmd b'
 | 0,s,A,b,h,hv=>absurd hv (by show(2:Int)≠1;decide)
 | k+1,0,A,b,h,hv=>absurd hv (by show(2:Int)≠1;decide)
 | k+1,s+1,A,b,h,hv=>by
  have hst:=zaD (us:=us) (g:=g) (fin:=finF us g) (two:=twoF) k s A b;change sch us g (k+1) (s+1) A b=_ at hst;rw[hst] at hv ⊢;by_cases c1:(gtr (lok us A b) 0 g).headD 0=1
  ·rw[if_pos c1];refine⟨?_,A,b,h,rfl⟩;show(trun (tat (bsx (bmd b))) ys).headD 0=2
   let f:Atm→Int:=fun a=>if a∈us then (lok us A b).getD (nmb us a 0).toNat 0 else 0
   have hf3:∀a,T3 (f a):=fun a=>by
    show T3 (if a∈us then _ else 0)
    split
    ·exact zhO h _
    ·exact Or.inl rfl
   have hidx:∀j,j<us.length→(nmb us (us.getD j (0,0,0)) 0).toNat=j:=fun j hj=>by
    have h1:=zdy us (us.getD j (0,0,0)) 0 (zcf hj);rw[Int.sub_zero] at h1;have hlt:=(List.getElem?_eq_some_iff.1 h1).1;have e:us.getD (nmb us (us.getD j (0,0,0)) 0).toNat (0,0,0)=us.getD j (0,0,0):=by rw[List.getD_eq_getElem?_getD,h1];rfl
    by_cases hne:(nmb us (us.getD j (0,0,0)) 0).toNat=j
    ·exact hne
    ·exact absurd e (zbI P.nd hlt hj hne)
   have hmap:us.map f=lok us A b:=by
    apply List.ext_getElem?
    intro j;rw[List.getElem?_map];by_cases hj:j<us.length
    ·have e1:us[j]?=some (us.getD j (0,0,0)):=by rw[List.getD_eq_getElem?_getD,List.getElem?_eq_getElem hj];rfl
     have e2:(lok us A b)[j]?=some ((lok us A b).getD j 0):=by rw[List.getD_eq_getElem?_getD,List.getElem?_eq_getElem (by rw[zfy];exact hj)];rfl
     rw[e1,e2];show some (if us.getD j (0,0,0)∈us then _ else 0)=_
     rw[if_pos (zcf hj),hidx j hj]
    ·rw[List.getElem?_eq_none (by omega),List.getElem?_eq_none (by rw[zfy];omega)];rfl
   have hr:=P.run f hf3;rw[hmap,c1] at hr;have ht2:(trun f ys).headD 0=2:=zej.1 hr.symm;have hsub:∀a,sub (f a) (tat (bsx (bmd b)) a):=by
    intro a;show sub (if a∈us then _ else 0) _
    by_cases ha:a∈us
    ·rw[if_pos ha];obtain⟨o1,o2,o3,o4,o5,o6⟩:=P.ok a ha;have h1:=zdy us a 0 ha;rw[Int.sub_zero] at h1;have hlt:=(List.getElem?_eq_some_iff.1 h1).1;have eg:us.getD (nmb us a 0).toNat (0,0,0)=a:=by rw[List.getD_eq_getElem?_getD,h1];rfl
     generalize (nmb us a 0).toNat=j at *;rw[zcT A b hlt,eg];have hx1:=zhS b o1 o2;have hx2:=zhS b o3 o4;have hE:∀k i j n,EA us A k i j n→(fun o=>bgr b o) i-(fun o=>bgr b o) j≤n:=fun k i j n e=>zis h.ok e (zk4 P.ok k i j n e).2
     have hway:∀i j m p,b i j=some (m,p)→bgr b i-bgr b j≤m:=fun i j m p e=>Wk.holds hE (h.ok.way i j m p e)
     have hgo:∀t:Int,t=1∨t=2→bgr b (ifA a t).1.toNat-bgr b (ifA a t).2.1.toNat≤(ifA a t).2.2→t=tat (bsx (bmd b)) a:=by
      intro t ht hh;unfold tat tof;rcases ht with rfl|rfl
      ·rw[decide_eq_true (by
        rw[hx1,hx2];have:ifA a 1=a:=rfl;rw[this] at hh;omega)]
       rfl
      ·rw[decide_eq_false (by
        rw[hx1,hx2];have:ifA a 2=(a.2.1,a.1,-a.2.2-1):=rfl;rw[this] at hh;dsimp only at hh;omega)]
       rfl
     by_cases hA:A j=0
     ·rw[if_neg (by omega)];have hb:∀c:Atm,bim b c=true→bgr b c.1.toNat-bgr b c.2.1.toNat≤c.2.2:=by
       intro c hc;unfold bim at hc;cases hbc:b c.1.toNat c.2.1.toNat with
       | none=>rw[hbc] at hc;cases hc
       | some q =>
        obtain⟨m,p⟩:=q;rw[hbc] at hc;have:=of_decide_eq_true hc;have:=hway _ _ _ _ hbc;omega
      unfold btr;split
      ·rename_i h1
       exact Or.inr (hgo 1 (Or.inl rfl) (hb _ h1))
      ·split
       ·rename_i h1
        exact Or.inr (hgo 2 (Or.inr rfl) (hb _ h1))
       ·exact Or.inl rfl
     ·rw[if_pos hA];have ht:=h.t3 j;have ht':A j=1∨A j=2:=by rcases ht with h|h|h;exact absurd h hA;exact Or.inl h;exact Or.inr h
      have:=hE j (ifA a (A j)).1.toNat (ifA a (A j)).2.1.toNat (ifA a (A j)).2.2 ⟨hlt,hA,by rw[eg],by rw[eg],by rw[eg]⟩;exact Or.inr (hgo (A j) ht' this)
    ·rw[if_neg ha];exact Or.inl rfl
   rcases zb1 (zc0 hsub ys) with e|e
   ·rw[ht2] at e;cases e
   ·rw[←e];exact ht2
  ·rw[if_neg c1] at hv ⊢;by_cases c2:(gtr (lok us A b) 0 g).headD 0=2
   ·rw[if_pos c2] at hv;cases hv
   ·rw[if_neg c2] at hv ⊢;obtain⟨n1,n2,n3,n4⟩:=zee P h c1 c2;dsimp only at hv ⊢;generalize (pick0 g (gtr (lok us A b) 0 g)).2.2.1.toNat=n at *;generalize (pick0 g (gtr (lok us A b) 0 g)).2.2.2=w at *;have S1:=h.step n1 n4 (t:=w) n3;have n3':tnot w=1∨tnot w=2:=by rcases n3 with rfl|rfl;exact Or.inr rfl;exact Or.inl rfl
    have S2:=h.step n1 n4 (t:=tnot w) n3';have I1:=zbX P hin k s _ _ S1;dsimp only[sch] at I1;generalize hH:srch us g (finF us g) twoF k s (setN A n w) (bwa b (us.getD n (0,0,0)) w n)=H at *;by_cases c3:H.1.v≠0∨H.1.nd n=false
    ·rw[if_pos c3] at hv ⊢;exact I1 hv
    ·rw[if_neg c3] at hv ⊢;have I2:=zbX P hin k H.2 _ _ S2;dsimp only[sch] at I2;generalize hO:srch us g (finF us g) twoF k H.2 (setN A n (tnot w)) (bwa b (us.getD n (0,0,0)) (tnot w) n)=O at *;by_cases c4:O.1.v≠0∨O.1.nd n=false
     ·rw[if_pos c4] at hv ⊢;exact I2 hv
     ·rw[if_neg c4] at hv;cases hv
end
theorem PC.of {us:List Atm} {ys:List Sym} {k:Nat} (hnd:us.Nodup) (hlen:us.length≤4000) (hok:∀a∈us,okA a) (hwf:WF 1 ys) (hk:ys.length≤k) (hin:∀y∈ys,y.1=6→y.2∈us) (hg:(gad us k ys 2 0).1.length≤8000):PC us ys (gad us k ys 2 0).1:=by
 refine⟨hnd,hlen,hok,?_,hg,?_,fun f hf=>?_⟩
 ·intro p x hx;have:=zgc us k ys 2 0 1 (Or.inr rfl) hwf (by decide) hk hin p x hx;rw[Nat.zero_add,Nat.zero_add] at this;exact this
 ·exact zcG us k ys 2 0 1 (Or.inr rfl) hwf (by decide) hk hin _ (fun j x hx=>by rw[Nat.zero_add];exact hx)
 ·obtain⟨_,_,_,_,t,h5,h6,h7⟩:=zb6 us f hf (us.map f) (fun a ha=>by
   have h1:=zdy us a 0 ha;rw[Int.sub_zero] at h1;rw[List.getD_eq_getElem?_getD,List.getElem?_map,h1];rfl) k ys 2 0 1 (Or.inr rfl) hwf (by decide) hk hin
  obtain⟨mid,e,_⟩:=h7 [];rw[List.append_nil] at e;have e6:trun f ys=t::(gad us k ys 2 0).2.foldr (tst f) []:=h6 [];rw[e,e6]
  rfl
theorem zkE {us:List Atm} {A:Nat→Int} (hok:∀a∈us,okA a):∀k i j n,EA us A k i j n→-1000000≤n∧n≤1000000∧i<5∧j<5:=by
 rintro k i j n ⟨h1,h2,e1,e2,e3⟩;have hka:okA (us.getD k (0,0,0)):=hok _ (zcf h1);obtain⟨o1,o2,o3,o4,o5,o6⟩:=hka;unfold ifA at e1 e2 e3;split at e1<;>simp_all<;>omega
theorem zcg {us:List Atm} {A:Nat→Int} {b:Bd} (hok:∀a∈us,okA a) (h:SI us A b) (o:Nat):-4000000≤bgr b o∧bgr b o≤0:=by
 obtain⟨h1,_,h3⟩:=zdb b o;refine⟨?_,h1⟩;rcases h3 with h3|⟨j,p,hj,h3⟩
 ·omega
 ·have:=zit h.ok (K:=1000000) (by decide) (zkE hok) hj h3;omega
theorem zk5 {us:List Atm} {A:Nat→Int} {b:Bd} (hok:∀a∈us,okA a) (h:SI us A b):(-4000000≤(bmd b).1∧(bmd b).1≤4000000)∧(-4000000≤(bmd b).2.1∧(bmd b).2.1≤4000000)∧(-4000000≤(bmd b).2.2.1∧(bmd b).2.2.1≤4000000)∧(-4000000≤(bmd b).2.2.2∧(bmd b).2.2.2≤4000000):=by
 have g0:=zcg hok h 0;have g1:=zcg hok h 1;have g2:=zcg hok h 2;have g3:=zcg hok h 3;have g4:=zcg hok h 4;unfold bmd;dsimp only;omega
end Go.Proofs.YtkinoehmcfhgbaaGreatDoor.Vl
