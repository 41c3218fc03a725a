/- A part of the proof. -/
import Derived.Test.YtkinoehmcfhgbaaGreatDoorV0
import Derived.Lib.AtoiAll
import Derived.Lib.ItoaMem
import Derived.Lib.IndexMore
set_option linter.unusedVariables false
set_option linter.unusedSimpArgs false
set_option maxHeartbeats 400000
namespace Go.Proofs.YtkinoehmcfhgbaaGreatDoor.Vl
open Go.RowKit
def bndX (l:List UInt8):Option Int:=match Lib.atoiAll l with
 | .ok v=>if Lib.itoa v=l∧-999999≤v∧v≤999999 then some v else none
 | _=>none
theorem zcj (m:Int):∀(a b:List UInt8) (v:Int),0≤v→0≤dgo m a v→dgo m (a++b) v=dgo m b (dgo m a v)
 | [],b,v,_,_=>rfl
 | c::r,b,v,hv,h=>by
  simp only[dgo,List.cons_append] at h ⊢;split
  ·rename_i hc;rw[if_pos hc] at h;omega
  ·rename_i hc
   rw[if_neg hc] at h;split
   ·rename_i hm;rw[if_pos hm] at h;omega
   ·rename_i hm
    rw[if_neg hm] at h;exact zcj m r b _ (by omega) h
theorem zkD (m:Int):∀(a:List UInt8) (v:Int),0≤v→0≤dgo m a v→v≤dgo m a v
 | [],v,_,_=>Int.le_refl _
 | c::r,v,hv,h=>by
  simp only[dgo] at h ⊢;split
  ·rename_i hc;rw[if_pos hc] at h;omega
  ·rename_i hc
   rw[if_neg hc] at h;split
   ·rename_i hm;rw[if_pos hm] at h;omega
   ·rename_i hm
    rw[if_neg hm] at h;have:=zkD m r _ (by omega) h;omega
theorem zep (m:Int):∀(a:List UInt8) (v:Int),0≤dgo m a v→∀c∈a,isd c=true
 | [],v,_=>by intro c hc;cases hc
 | c::r,v,h=>by
  simp only[dgo] at h;split at h
  ·omega
  ·rename_i hc
   split at h
   ·omega
   ·intro d hd;rcases List.mem_cons.1 hd with rfl|hd
    ·unfold isd;simp;omega
    ·exact zep m r _ h d hd
theorem zgr (m:Int):∀(a b:List UInt8) (v:Int),0≤dgo m (a++b) v→0≤v→0≤dgo m a v
 | [],b,v,_,hv=>hv
 | c::r,b,v,h,hv=>by
  simp only[dgo,List.cons_append] at h ⊢;split
  ·rename_i hc;rw[if_pos hc] at h;omega
  ·rename_i hc
   rw[if_neg hc] at h;split
   ·rename_i hm;rw[if_pos hm] at h;omega
   ·rename_i hm
    rw[if_neg hm] at h;exact zgr m r b _ h (by omega)
theorem zl7 (d:UInt8) (k:Nat) (hk:k<10) (h:(d.toNat:Int)-48=(k:Int)):UInt8.ofNat (48+k)=d:=by
 apply UInt8.toNat_inj.1
 simp;omega
theorem ziq (m:Int):∀(n:Nat) (ds:List UInt8),ds.length=n→ds≠[]→(ds.headD 0≠48∨ds.length=1)→0≤dgo m ds 0→Lib.decDigits (dgo m ds 0).toNat=ds
 | 0,ds,hl,hne,_,_=>absurd (List.length_eq_zero_iff.1 hl) hne
 | n+1,ds,hl,hne,hh,h0=>by
  rcases List.eq_nil_or_concat ds with rfl|⟨a,d,rfl⟩
  ·exact absurd rfl hne
  ·rw[List.concat_eq_append] at *;have hp:=zgr m a [d] 0 h0 (Int.le_refl _);have ha:=zcj m a [d] 0 (Int.le_refl _) hp;have hd:=zep m _ _ h0 d (by simp);have hd':48≤(d.toNat:Int)∧(d.toNat:Int)≤57:=by unfold isd at hd;simpa using hd
   have hv:dgo m (a++[d]) 0=dgo m a 0*10+((d.toNat:Int)-48):=by
    rw[ha];rw[ha] at h0;simp only[dgo] at h0 ⊢;split
    ·rename_i h;omega
    ·split
     ·rename_i h1 h2;rw[if_neg h1,if_pos h2] at h0;omega
     ·rfl
   rw[hv];cases a with
   | nil =>
    have e:dgo m [] 0=0:=rfl;rw[e];rw[Lib.decDigits,dif_pos (by omega)];simp only[List.nil_append]
    congr 1
    exact zl7 d _ (by omega) (by omega)
   | cons c r =>
    have hc:c≠48:=by
     rcases hh with hh|hh
     ·simpa using hh
     ·simp at hh
    have hy:1≤dgo m (c::r) 0:=by
     have hcd:=zep m _ _ hp c (by simp);have hcd':48≤(c.toNat:Int)∧(c.toNat:Int)≤57:=by unfold isd at hcd;simpa using hcd
     have hc':(c.toNat:Int)≠48:=by
      intro e;apply hc;apply UInt8.toNat_inj.1;have:c.toNat=48:=by omega
      rw[this];rfl
     simp only[dgo] at hp ⊢;rw[if_neg (by omega)] at hp ⊢;split
     ·rename_i h;rw[if_pos h] at hp;omega
     ·rename_i h
      rw[if_neg h] at hp;have:=zkD m r _ (by omega) hp;omega
    rw[Lib.decDigits,dif_neg (by omega)];have e1:(dgo m (c::r) 0*10+((d.toNat:Int)-48)).toNat/10=(dgo m (c::r) 0).toNat:=by omega
    have e2:(dgo m (c::r) 0*10+((d.toNat:Int)-48)).toNat%10=d.toNat-48:=by omega
    rw[e1,e2,ziq m n (c::r) (by simpa using hl) (by simp) (Or.inl (by simpa using hc)) hp]
    congr 1
    rw[zl7 d (d.toNat-48) (by omega) (by omega)]
theorem zir (k:Nat) (hk:k<10):((UInt8.ofNat (48+k)).toNat:Int)=48+(k:Int):=by
 simp;omega
theorem zeq (m:Int):∀(u:Nat),(u:Int)≤m→dgo m (Lib.decDigits u) 0=(u:Int):=by
 intro u
 induction u using Nat.strongRecOn with
 | _ u ih =>
  intro hu;by_cases h:u<10
  ·rw[Lib.decDigits,dif_pos h];have:=zir u h;simp only[dgo];rw[if_neg (by omega),if_neg (by omega)];omega
  ·rw[Lib.decDigits,dif_neg h];have h1:=ih (u/10) (by omega) (by omega);rw[zcj m _ _ _ (Int.le_refl _) (by omega),h1];have:=zir (u%10) (by omega);simp only[dgo];rw[if_neg (by omega),if_neg (by omega)];omega
theorem zbB:∀(u:Nat),Lib.decDigits u≠[]∧(1≤u→(Lib.decDigits u).headD 0≠48):=by
 intro u
 induction u using Nat.strongRecOn with
 | _ u ih =>
  by_cases h:u<10
  ·rw[Lib.decDigits,dif_pos h];refine⟨by simp,fun h1 e=>?_⟩;simp only[List.headD_cons] at e;have h2:=zir u h;rw[e] at h2;have:((48:UInt8).toNat:Int)=48:=rfl;omega
  ·rw[Lib.decDigits,dif_neg h];have h1:=ih (u/10) (by omega);refine⟨by simp,fun _=>?_⟩
   match hd:Lib.decDigits (u/10),h1 with
   | [],h1=>exact absurd rfl h1.1
   | c::r,h1=>exact h1.2 (by omega)
theorem zkE (u:Nat) (hu:(u:Int)≤999999):dg 999999 (Lib.decDigits u)=(u:Int):=by
 have h1:=zeq 999999 u hu;have h2:=zbB u
 match hd:Lib.decDigits u,h1,h2 with
 | [],_,h2=>exact absurd rfl h2.1
 | c::r,h1,h2 =>
  rw[zcL,if_neg,h1];intro hc;simp only[Bool.and_eq_true,beq_iff_eq,Bool.not_eq_true',List.isEmpty_eq_false_iff] at hc;by_cases hu1:1≤u
  ·exact h2.2 hu1 (by simpa using hc.1)
  ·have:u=0:=by omega
   subst this;rw[Lib.decDigits,dif_pos (by omega)] at hd;cases hd
   exact hc.2 rfl
theorem zcI:∀(a b:List UInt8),(∀c∈a,isd c=true)→dlen (a++b)=a.length+dlen b
 | [],b,_=>by simp
 | c::r,b,h=>by
  have:=zcI r b (fun d hd=>h d (by simp[hd]));simp only[List.cons_append,dlen,h c (by simp),if_true,List.length_cons];omega
theorem ze0:∀(l:List UInt8),∀c∈l.take (dlen l),isd c=true
 | []=>by simp[dlen]
 | c::r=>by
  simp only[dlen];split
  ·rename_i h
   intro d hd;rw[List.take_succ_cons] at hd;rcases List.mem_cons.1 hd with rfl|hd
   ·exact h
   ·exact ze0 r d hd
  ·simp
theorem zgs (tail:List UInt8):dlen (46::tail)=0:=rfl
theorem zbK (u:Nat) (hu:(u:Int)≤999999):∀c∈Lib.decDigits u,isd c=true :=
 zep 999999 _ 0 (by rw[zeq 999999 u hu];omega)
theorem zl8 (c:UInt8) (r:List UInt8):sgd (c::r)=if (c==45)=true then 1 else 0:=rfl
theorem zjO (n:Int) (h0:-999999≤n) (h1:n≤999999) (tail:List UInt8):bnd (Lib.itoa n++46::tail)=some (n,(Lib.itoa n).length):=by
 unfold Lib.itoa;split
 ·rename_i hn
  have hu:((n.natAbs:Nat):Int)≤999999:=by omega
  have hs:sgd (45::Lib.decDigits n.natAbs++46::tail)=1:=rfl;unfold bnd;rw[hs];have hd:(45::Lib.decDigits n.natAbs++46::tail).drop 1=Lib.decDigits n.natAbs++46::tail:=rfl;rw[hd,zcI _ _ (zbK _ hu),zgs,Nat.add_zero,List.take_left' rfl,zkE _ hu,if_neg (by omega),if_pos rfl];simp only[List.length_cons]
  congr 2
  ·omega
  ·omega
 ·rename_i hn
  have hu:((n.toNat:Nat):Int)≤999999:=by omega
  have hs:sgd (Lib.decDigits n.toNat++46::tail)=0:=by
   have h2:=zbB n.toNat;have h3:=zbK n.toNat hu
   match hd:Lib.decDigits n.toNat,h2,h3 with
   | [],h2,_=>exact absurd rfl h2.1
   | c::r,_,h3 =>
    show sgd (c::(r++46::tail))=0
    rw[zl8,if_neg];intro e;rw[beq_iff_eq] at e;have:=h3 c (by simp);rw[e] at this;cases this
  unfold bnd;rw[hs,List.drop_zero,zcI _ _ (zbK _ hu),zgs,Nat.add_zero,List.take_left' rfl,zkE _ hu,if_neg (by omega),if_neg (by omega)]
  congr 2
  ·omega
  ·omega
theorem zjP {l:List UInt8} {n:Int} {k:Nat} (h:bnd l=some (n,k)):l.take k=Lib.itoa n∧-999999≤n∧n≤999999:=by
 have hr:=zff h;refine⟨?_,hr.1,hr.2.1⟩;unfold bnd at h;split at h
 ·cases h
 ·rename_i hc
  generalize hds:(l.drop (sgd l)).take (dlen (l.drop (sgd l)))=ds at *;have hdg:0≤dg 999999 ds:=by omega
  have hdec:Lib.decDigits (dg 999999 ds).toNat=ds:=by
   cases ds with
   | nil=>exact absurd hdg (by decide)
   | cons c r =>
    rw[zcL] at hdg ⊢;split at hdg
    ·omega
    ·rename_i h48
     rw[if_neg h48];refine ziq 999999 _ (c::r) rfl (by simp) ?_ hdg;by_cases hc48:c=48
     ·right
      subst hc48;simp only[beq_self_eq_true,Bool.true_and,Bool.not_eq_true',List.isEmpty_eq_false_iff,ne_eq,Decidable.not_not] at h48;rw[h48];rfl
     ·left;simpa using hc48
  have hk:l.take (sgd l+dlen (l.drop (sgd l)))=l.take (sgd l)++ds:=by rw[List.take_add,hds]
  rcases Nat.lt_or_ge (sgd l) 1 with hs|hs
  ·have hs0:sgd l=0:=by omega
   rw[if_neg (by omega)] at h;have hkk:=hk;injection h with h;injection h with h1 h2
   rw[←h2,hkk,hs0,List.take_zero,List.nil_append,←h1];unfold Lib.itoa;rw[if_neg (by omega),hdec]
  ·have hs1:sgd l=1:=by unfold sgd at hs ⊢;split at hs<;>simp_all
   rw[if_pos hs1] at h;injection h with h;injection h with h1 h2
   have hl:l.take 1=[45]:=by
    cases l with
    | nil=>cases hs1
    | cons c r =>
     rw[zl8] at hs1;split at hs1
     ·rename_i e;rw[beq_iff_eq] at e;rw[e];rfl
     ·cases hs1
   rw[←h2,hk,hs1,hl,←h1];unfold Lib.itoa;have hpos:0<dg 999999 ds:=by
    rcases Int.lt_or_le 0 (dg 999999 ds) with h|h
    ·exact h
    ·exact absurd (Or.inr ⟨hs1,by omega⟩) hc
   rw[if_pos (by omega)];have:(-dg 999999 ds).natAbs=(dg 999999 ds).toNat:=by omega
   rw[this,hdec];rfl
theorem zgt:∀(l:List UInt8) (v:Nat),0≤dgo 999999 l (v:Int)→Lib.parseUint10 v l=.ok (dgo 999999 l (v:Int)).toNat
 | [],v,_=>by simp[Lib.parseUint10,dgo]
 | c::r,v,h=>by
  simp only[dgo] at h ⊢;split
  ·rename_i hc;rw[if_pos hc] at h;omega
  ·rename_i hc
   rw[if_neg hc] at h;split
   ·rename_i hm;rw[if_pos hm] at h;omega
   ·rename_i hm
    rw[if_neg hm] at h;have e:((v:Int)*10+((c.toNat:Int)-48))=((v*10+(c.toNat-48):Nat):Int):=by omega
    rw[e] at h hm ⊢;simp only[Lib.parseUint10];rw[if_pos (by omega),if_neg (by omega),if_neg (by omega)];exact zgt r _ h
theorem zis (u:Nat) (hu:(u:Int)≤999999):Lib.parseMag (Lib.decDigits u)=.ok u:=by
 unfold Lib.parseMag;rw[if_neg (zbB u).1];have h1:=zeq 999999 u hu;have:=zgt (Lib.decDigits u) 0 (by rw[show((0:Nat):Int)=0 from rfl,h1];omega);rw[this,show((0:Nat):Int)=0 from rfl,h1];simp
theorem ze1 (n:Int) (h0:-999999≤n) (h1:n≤999999):Lib.atoiAll (Lib.itoa n)=.ok n:=by
 unfold Lib.itoa;split
 ·rename_i hn
  have hu:((n.natAbs:Nat):Int)≤999999:=by omega
  unfold Lib.atoiAll;simp only;rw[show(if UInt8.toNat 45=43∨UInt8.toNat 45=45 then Lib.decDigits n.natAbs else 45::Lib.decDigits n.natAbs)=Lib.decDigits n.natAbs from if_pos (Or.inr rfl),zis _ hu];simp only;rw[if_neg (by simp),if_neg (by omega),if_pos (show UInt8.toNat 45=45 from rfl)]
  congr 1;omega
 ·rename_i hn
  have hu:((n.toNat:Nat):Int)≤999999:=by omega
  have h2:=zbB n.toNat;have h3:=zbK n.toNat hu;have h4:=zis _ hu
  match hd:Lib.decDigits n.toNat,h2,h3,h4 with
  | [],h2,_,_=>exact absurd rfl h2.1
  | c::r,_,h3,h4 =>
   have hc:=h3 c (by simp);have hc':48≤(c.toNat:Int)∧(c.toNat:Int)≤57:=by unfold isd at hc;simpa using hc
   unfold Lib.atoiAll;simp only;rw[if_neg (by omega),h4];simp only;rw[if_neg (by omega),if_neg (by omega),if_neg (by omega)]
   congr 1;omega
theorem zit (n:Int) (h0:-999999≤n) (h1:n≤999999):bndX (Lib.itoa n)=some n:=by
 unfold bndX;rw[ze1 n h0 h1];simp[h0,h1]
theorem ziu {l:List UInt8} {n:Int} (h:bndX l=some n):l=Lib.itoa n∧-999999≤n∧n≤999999:=by
 unfold bndX at h;split at h
 ·split at h
  ·rename_i hc;cases h;exact⟨hc.1.symm,hc.2⟩
  ·cases h
 ·cases h
end Go.Proofs.YtkinoehmcfhgbaaGreatDoor.Vl
namespace Go.Proofs.YtkinoehmcfhgbaaGreatDoor.Av
def blank (c:UInt8):Bool:=c==32||c==10
def sg2:List UInt8→Bool
 | a::b::_=>(a==58&&b==61)||(a==60&&b==61)||(a==62&&b==61)
 | _=>false
def sg1 (a:UInt8):Bool:=a==40||a==41||a==59||a==60||a==61||a==62||a==43||a==45
def sgn (l:List UInt8):Nat:=if sg2 l then 2 else match l with
 | []=>0
 | a::_=>if sg1 a then 1 else 0
def wlen:List UInt8→Nat
 | []=>0
 | a::r=>if blank a||decide (0<sgn (a::r)) then 0 else wlen r+1
def tlen (l:List UInt8):Nat:=if 0<sgn l then sgn l else 1+wlen l.tail
def toks:Nat→Nat→List UInt8→List (List UInt8×Nat)
 | 0,_,_=>[]
 | _+1,_,[]=>[]
 | f+1,i,a::r=>if blank a then toks f (i+1) r else ((a::r).take (tlen (a::r)),i)::toks f (i+tlen (a::r)) ((a::r).drop (tlen (a::r)))
def kw (l:List UInt8):Int :=
 if l==[102,114,111,109] then 13 else if l==[100,111] then 14 else if l==[116,111] then 15 else if l==[115,107,105,112] then 16 else
 if l==[105,102] then 17 else if l==[116,104,101,110] then 18 else if l==[101,108,115,101] then 19 else if l==[101,110,100] then 20 else
 if l==[119,104,105,108,101] then 21 else if l==[107,101,101,112] then 22 else if l==[111,114] then 23 else if l==[97,110,100] then 24 else
 if l==[110,111,116] then 25 else if l==[116,114,117,101] then 26 else if l==[102,97,108,115,101] then 27 else 1
def vr (l:List UInt8):Int:=if l==[97] then 0 else if l==[98] then 1 else if l==[99] then 2 else if l==[100] then 3 else -1
def dgo (m:Int):List UInt8→Int→Int
 | [],v=>v
 | c::r,v=>if (c.toNat:Int)<48∨57<(c.toNat:Int) then -1 else if m<v*10+((c.toNat:Int)-48) then -1 else dgo m r (v*10+((c.toNat:Int)-48))
def dg (m:Int) (l:List UInt8):Int:=match l with
 | []=>-1
 | c::r=>if c==48&&!r.isEmpty then -1 else dgo m (c::r) 0
def wk (l:List UInt8):Int×Int:=if kw l≠1 then (kw l,0) else if 0≤vr l then (28,vr l) else if 0≤dg 999 l then (29,dg 999 l) else (1,0)
def lk:List UInt8→Int
 | a::b::_=>if a==58&&b==61 then 5 else if a==60&&b==61 then 7 else if a==62&&b==61 then 10 else 1
 | _=>1
def sk (a:Int):Int:=if a==40 then 2 else if a==41 then 3 else if a==59 then 4 else if a==60 then 6 else if a==61 then 8 else if a==62 then 9 else if a==43 then 11 else if a==45 then 12 else 1
def tk (l:List UInt8):Int×Int:=if 0<sgn l then ((if sg2 l then lk l else sk (l.headD 0).toNat),0) else wk l
theorem zb6 (l:List UInt8):-1≤vr l∧vr l≤3:=by
 unfold vr;repeat' split
 all_goals omega
theorem zli (l:List UInt8):lk l≠1↔sg2 l=true:=by
 match l with
 | []=>simp[lk,sg2]
 | [a]=>simp[lk,sg2]
 | a::b::r =>
  simp only[lk,sg2];by_cases h1:(a==58&&b==61)=true
  ·simp[h1]
  ·by_cases h2:(a==60&&b==61)=true
   ·simp[h1,h2]
   ·by_cases h3:(a==62&&b==61)=true
    ·simp[h1,h2,h3]
    ·simp[h1,h2,h3]
theorem zas (a:UInt8) (n:Nat) (h:n<256):((a.toNat:Int)==(n:Int))=(a==UInt8.ofNat n):=by
 rw[Bool.eq_iff_iff];simp only[beq_iff_eq]
 constructor
 ·intro e;have:a.toNat=n:=by omega
  apply UInt8.toNat_inj.1
  rw[this];simp;omega
 ·intro e;subst e;simp;omega
theorem zl9 (a:UInt8):sk a.toNat≠1↔sg1 a=true:=by
 unfold sk sg1;have e1:=zas a 40 (by omega);have e2:=zas a 41 (by omega);have e3:=zas a 59 (by omega);have e4:=zas a 60 (by omega);have e5:=zas a 61 (by omega);have e6:=zas a 62 (by omega);have e7:=zas a 43 (by omega);have e8:=zas a 45 (by omega);simp only[show((40:Nat):Int)=40 from rfl,show((41:Nat):Int)=41 from rfl,show((59:Nat):Int)=59 from rfl,show((60:Nat):Int)=60 from rfl,show((61:Nat):Int)=61 from rfl,show((62:Nat):Int)=62 from rfl,show((43:Nat):Int)=43 from rfl,show((45:Nat):Int)=45 from rfl] at e1 e2 e3 e4 e5 e6 e7 e8;rw[e1,e2,e3,e4,e5,e6,e7,e8];show _↔(a==UInt8.ofNat 40||a==UInt8.ofNat 41||a==UInt8.ofNat 59||a==UInt8.ofNat 60||a==UInt8.ofNat 61||a==UInt8.ofNat 62||a==UInt8.ofNat 43||a==UInt8.ofNat 45)=true
 repeat' split
 all_goals simp_all
theorem zkF (l:List UInt8):sgn l≤l.length∧sgn l≤2:=by
 unfold sgn;split
 ·rename_i h
  match l,h with
  | a::b::r,_=>simp
 ·match l with
  | []=>simp
  | a::r=>simp only;split<;>simp
theorem zfL (l:List UInt8):wlen l≤l.length:=by
 induction l with
 | nil=>simp[wlen]
 | cons a r ih=>unfold wlen;split<;>simp<;>omega
theorem zb7 (l:List UInt8):0<tlen l:=by unfold tlen;split<;>omega
theorem zlj (a:UInt8) (r:List UInt8):tlen (a::r)≤(a::r).length:=by
 unfold tlen;split
 ·exact(zkF _).1
 ·have:=zfL r;simp;omega
theorem ziv (f:Nat):∀(g i:Nat) (l:List UInt8),l.length≤f→l.length≤g→toks f i l=toks g i l:=by
 induction f with
 | zero =>
  intro g i l h1 h2;have:l=[]:=by cases l<;>simp_all
  subst this;cases g<;>simp[toks]
 | succ f ih =>
  intro g i l h1 h2;cases l with
  | nil=>cases g<;>simp[toks]
  | cons a r =>
   cases g with
   | zero=>simp at h2
   | succ g =>
    have hp:=zb7 (a::r);simp only[toks];split
    ·exact ih _ _ _ (by simp at h1;omega) (by simp at h2;omega)
    ·rw[ih g _ _ (by simp at h1 ⊢;omega) (by simp at h2 ⊢;omega)]
def tokAt (i:Nat) (l:List UInt8):List (List UInt8×Nat):=toks l.length i l
theorem ziw (i:Nat):tokAt i []=[]:=rfl
theorem zfM (i:Nat) (a:UInt8) (r:List UInt8) (h:blank a=true):tokAt i (a::r)=tokAt (i+1) r:=by
 simp[tokAt,toks,h]
theorem zix (i:Nat) (a:UInt8) (r:List UInt8) (h:blank a=false) :
 tokAt i (a::r)=((a::r).take (tlen (a::r)),i)::tokAt (i+tlen (a::r)) ((a::r).drop (tlen (a::r))):=by
 have hp:=zb7 (a::r);simp only[tokAt,toks,List.length_cons,h,Bool.false_eq_true,if_false];rw[ziv r.length ((a::r).drop (tlen (a::r))).length _ _ (by simp;omega) (Nat.le_refl _)]
theorem zjQ (f:Nat):∀(i:Nat) (l:List UInt8),(toks f i l).length≤l.length:=by
 induction f with
 | zero=>intro i l;simp[toks]
 | succ f ih =>
  intro i l;cases l with
  | nil=>simp[toks]
  | cons a r =>
   have hp:=zb7 (a::r);simp only[toks];split
   ·have:=ih (i+1) r;simp;omega
   ·have:=ih (i+tlen (a::r)) ((a::r).drop (tlen (a::r)));simp at this ⊢;omega
theorem zb8 (i:Nat) (l:List UInt8):(tokAt i l).length≤l.length:=zjQ _ _ _
open Go.RowKit
theorem zay {k:IntKind} {a b:Int} (h:a=b):Ending.returned (.int k a)=.returned (.int k b):=by rw[h]
theorem zaH {a b:Bool} (h:a=b):Ending.returned (.bool a)=.returned (.bool b):=by rw[h]
def rest (s:ByteArray) (k:Nat):List UInt8:=s.data.toList.drop k
theorem zag (s:ByteArray) (k:Nat) (h:k<s.size):rest s k=s[k]::rest s (k+1):=by
 unfold rest;rw[List.drop_eq_getElem_cons (by simpa using h)];rfl
theorem zbb (s:ByteArray) (k:Nat) (h:s.size≤k):rest s k=[]:=by
 unfold rest;rw[List.drop_eq_nil_iff];simpa using h
theorem zaw (s:ByteArray) (k:Nat):(rest s k).length=s.size-k:=by
 unfold rest;rw[List.length_drop];simp
theorem zbn (s:ByteArray) (k n:Nat):(rest s k).drop n=rest s (k+n):=by
 unfold rest;rw[List.drop_drop]
theorem za3 (s:ByteArray) (k e:Nat):(s.extract k e).data.toList=(rest s k).take (e-k):=by
 unfold rest;rw[Lib.extract_data]
theorem ziy (c:UInt8):((c.toNat:Int)==32||(c.toNat:Int)==10)=blank c:=by
 have e1:=zas c 32 (by omega);have e2:=zas c 10 (by omega);have e1':((c.toNat:Int)==32)=(c==32):=e1;have e2':((c.toNat:Int)==10)=(c==10):=e2;rw[e1',e2'];rfl
theorem zfN (c:Int) (w:World) :
 Calls Tryz.prog 106 #[.int .u8 c] w fun e w'=>e=.returned (.bool (c==32||c==10))∧w'=w:=by
 go_enter Tryz.func106,Tryz.ntmps106;go_wp2
 all_goals go_ret
 ·exact⟨by simp_all,rfl⟩
 ·exact⟨rfl,rfl⟩
theorem zcw (c:UInt8) (w:World) :
 Calls Tryz.prog 106 #[.int .u8 (c.toNat:Int)] w fun e w'=>e=.returned (.bool (blank c))∧w'=w:=by
 rw[←ziy];exact zfN _ _
theorem ziz (c:Int) (w:World) :
 Calls Tryz.prog 220 #[.int .u8 c] w fun e w'=>e=.returned (.int .i64 (sk c))∧w'=w:=by
 go_enter Tryz.func220,Tryz.ntmps220;go_wp2
 all_goals go_ret
 all_goals exact⟨zay (by simp only[sk, *,if_true,Bool.false_eq_true,if_false]),rfl⟩
theorem zfO (s:ByteArray) (w:World) :
 Calls Tryz.prog 221 #[.string s] w fun e w'=>e=.returned (.int .i64 (kw s.data.toList))∧w'=w:=by
 rw[←ByteArray.toList_eq];go_enter Tryz.func221,Tryz.ntmps221;go_wp2
 all_goals go_ret
 all_goals exact⟨zay (by simp only[kw, *,if_true,Bool.false_eq_true,if_false]),rfl⟩
def pfx (p s:ByteArray):Bool:=p.data.toList.isPrefixOf s.data.toList
theorem zlk (p s:ByteArray):((s.extract 0 p.size).toList==p.toList)=pfx p s:=by
 unfold pfx;rw[ByteArray.toList_eq,ByteArray.toList_eq,Lib.extract_data];rw[Bool.eq_iff_iff,List.isPrefixOf_iff_prefix,List.prefix_iff_eq_take];simp only[List.drop_zero,Nat.sub_zero,beq_iff_eq];have:p.data.toList.length=p.size:=by simp
 rw[this];exact⟨fun h=>h.symm,fun h=>h.symm⟩
theorem zma (p s:ByteArray) (h:¬(p.size:Int)≤(s.size:Int)):false=pfx p s:=by
 unfold pfx
 symm
 rw[Bool.eq_false_iff];intro hh;rw[List.isPrefixOf_iff_prefix] at hh;have:=hh.length_le;have e1:p.data.toList.length=p.size:=by simp
 have e2:s.data.toList.length=s.size:=by simp
 omega
theorem zdI (s p:ByteArray) (w:World) (hs:s.size≤maxLen) (hp:p.size≤maxLen) :
 Calls Tryz.prog 259 #[.string s,.string p] w fun e w'=>e=.returned (.bool (pfx p s))∧w'=w:=by
 unfold maxLen at hs hp;by_cases h:(p.size:Int)≤(s.size:Int)
 ·go_enter Tryz.func259,Tryz.ntmps259;go_wp2;go_ret;exact⟨zaH (zlk p s),rfl⟩
 ·have H:Hid (false=pfx p s):=zma p s h;go_enter Tryz.func259,Tryz.ntmps259;go_wp2;go_ret;exact⟨zaH H.out,rfl⟩
theorem zgW (s p:ByteArray) (w:World) (hs:s.size≤maxLen) (hp:p.size≤maxLen) :
 Calls Tryz.prog 249 #[.string s,.string p] w fun e w'=>e=.returned (.bool (pfx p s))∧w'=w:=by
 go_enter Tryz.func249,Tryz.ntmps249;go_wp2_with (go_at_call 259;refine(zdI _ _ _ hs hp).mono ?_;rintro e w' ⟨rfl,rfl⟩);go_ret;exact⟨rfl,rfl⟩
theorem pfx2 (a b:UInt8) (s:ByteArray):pfx ⟨#[a,b]⟩ s=(match s.data.toList with|x::y::_=>x==a&&y==b|_=>false):=by
 unfold pfx
 match h:s.data.toList with
 | []=>simp[List.isPrefixOf]
 | [x]=>simp[List.isPrefixOf]
 | x::y::r =>
  simp only[List.isPrefixOf];rw[Bool.eq_iff_iff];simp;constructor<;>(rintro⟨h1,h2⟩;exact⟨h1.symm,h2.symm⟩)
theorem zmb (s:ByteArray):lk s.data.toList=if pfx ⟨#[58,61]⟩ s then 5 else if pfx ⟨#[60,61]⟩ s then 7 else if pfx ⟨#[62,61]⟩ s then 10 else 1:=by
 rw[pfx2,pfx2,pfx2]
 match h:s.data.toList with
 | []=>simp[lk]
 | [x]=>simp[lk]
 | x::y::r=>simp[lk]
theorem zjR (s:ByteArray) (w:World) (hs:s.size≤maxLen) :
 Calls Tryz.prog 219 #[.string s] w fun e w'=>e=.returned (.int .i64 (lk s.data.toList))∧w'=w:=by
 have H:Hid (lk s.data.toList=if pfx ⟨#[58,61]⟩ s then 5 else if pfx ⟨#[60,61]⟩ s then 7 else if pfx ⟨#[62,61]⟩ s then 10 else 1):=zmb s;have P:∀(p:ByteArray) (w:World),p.size≤maxLen→Calls Tryz.prog 249 #[.string s,.string p] w fun e w'=>e=.returned (.bool (pfx p s))∧w'=w:=fun p w hp=>zgW s p w hs hp
 have Q:Hid (∀(p:ByteArray) (w:World),p.size≤maxLen→Calls Tryz.prog 249 #[.string s,.string p] w fun e w'=>e=.returned (.bool (pfx p s))∧w'=w):=P;clear P;go_enter Tryz.func219,Tryz.ntmps219;go_wp2_with (go_at_call 249;refine(Q.out _ _ (by decide)).mono ?_;rintro e w' ⟨rfl,rfl⟩)
 all_goals go_ret
 all_goals exact⟨zay (by rw[H.out];simp only[*,if_true,Bool.false_eq_true,if_false]),rfl⟩
theorem zmH (s:ByteArray) (h:s.size≠1):vr s.data.toList=-1:=by
 have e:s.data.toList.length=s.size:=by simp
 unfold vr
 repeat' split
 all_goals (first|rfl|(rename_i h1;rw[beq_iff_eq.1 h1] at e;simp at e;omega))
theorem zjS (s:ByteArray) (h:s.size=1):s.data.toList=[s[0]'(by omega)]:=by
 have h1:=zag s 0 (by omega);rw[zbb s 1 (by omega)] at h1;exact h1
theorem zmc (c:UInt8):vr [c]=if (c.toNat:Int)<97∨101≤(c.toNat:Int) then -1 else (c.toNat:Int)-97:=by
 have e1:((c.toNat:Int)==97)=(c==97):=zas c 97 (by omega);have e2:((c.toNat:Int)==98)=(c==98):=zas c 98 (by omega);have e3:((c.toNat:Int)==99)=(c==99):=zas c 99 (by omega);have e4:((c.toNat:Int)==100)=(c==100):=zas c 100 (by omega);have b:∀d:UInt8,([c]==[d])=(c==d):=fun d=>by simp
 unfold vr;rw[b,b,b,b,←e1,←e2,←e3,←e4]
 repeat' split
 all_goals (simp at *;try omega)
theorem ze2 (s:ByteArray) (w:World) (hs:s.size≤300) :
 Calls Tryz.prog 222 #[.string s] w fun e w'=>e=.returned (.int .i64 (vr s.data.toList))∧w'=w:=by
 by_cases h:s.size=1
 ·have h1:((s.size:Int) != 1)=false:=by simp[h]
  have h0:0<s.size:=by omega
  have H:Hid (vr s.data.toList=if ((s[0]'h0).toNat:Int)<97∨101≤((s[0]'h0).toNat:Int) then -1 else ((s[0]'h0).toNat:Int)-97):=by
   show vr s.data.toList=_
   rw[zjS s h];exact zmc _
  clear h;go_enter Tryz.func222,Tryz.ntmps222;go_wp2
  all_goals go_ret
  all_goals exact⟨zay (by rw[H.out];first|rw[if_pos (by omega)]|rw[if_neg (by omega)]),rfl⟩
 ·have h1:((s.size:Int) != 1)=true:=by simp;omega
  have H:Hid (vr s.data.toList=-1):=zmH s h;go_enter Tryz.func222,Tryz.ntmps222;go_wp2;go_ret;exact⟨zay H.out.symm,rfl⟩
theorem zgX (s:ByteArray) (w:World) (hs:s.size≤300) (h0:0<s.size) :
 Calls Tryz.prog 223 #[.string s] w fun e w'=>e=.returned (.int .i64 (dg 999 s.data.toList))∧w'=w:=by
 have hd:s.data.toList=s[0]::rest s 1:=zag s 0 h0;have hl:(rest s 1).length=s.size-1:=zaw s 1;have e48:((s[0].toNat:Int)==48)=(s[0]==48):=zas s[0] 48 (by omega);by_cases h:(1<s.size)∧((s[0].toNat:Int)==48)=true
 ·obtain⟨h1,h2⟩:=h;have H:Hid (dg 999 s.data.toList=-1):=by
   show dg 999 s.data.toList=-1
   rw[e48] at h2;have:(rest s 1).isEmpty=false:=by
    rw[List.isEmpty_eq_false_iff];intro h;rw[h] at hl;simp at hl;omega
   rw[hd];show(if (s[0]==48&&!(rest s 1).isEmpty)=true then (-1:Int) else dgo 999 (s[0]::rest s 1) 0)=-1
   rw[h2,this];rfl
  clear hd hl e48;have h1':(1:Int)<(s.size:Int):=by omega
  go_enter Tryz.func223,Tryz.ntmps223;go_wp2;go_ret;exact⟨zay H.out.symm,rfl⟩
 ·have H:Hid (dg 999 s.data.toList=dgo 999 (rest s 0) 0):=by
   show dg 999 s.data.toList=dgo 999 s.data.toList 0
   have:(s[0]==48&&!(rest s 1).isEmpty)=false:=by
    rw[←e48];by_cases h1:1<s.size
    ·have:((s[0].toNat:Int)==48)=false:=by
      rw[Bool.eq_false_iff];intro h2;exact h ⟨h1,h2⟩
     simp[this]
    ·have:rest s 1=[]:=by rw[←List.length_eq_zero_iff];omega
     simp[this]
   rw[hd];show(if (s[0]==48&&!(rest s 1).isEmpty)=true then (-1:Int) else dgo 999 (s[0]::rest s 1) 0)=dgo 999 (s[0]::rest s 1) 0
   rw[this];rfl
  have hh:¬((1:Int)<(s.size:Int))∨((1:Int)<(s.size:Int)∧((s[0].toNat:Int)==48)=false):=by
   by_cases h1:1<s.size
   ·right;exact⟨by omega,by rw[Bool.eq_false_iff];intro h2;exact h ⟨h1,h2⟩⟩
   ·left;omega
  clear hd hl e48 h;rcases hh with hh|⟨hh,hh'⟩
  all_goals
   go_enter Tryz.func223,Tryz.ntmps223;go_wp2
   go_loop [3,4] (fun v i=>∃(k:Nat) (n:Int),k≤s.size∧i=.int .i64 k∧v=.int .i64 n∧0≤n∧n≤999∧dgo 999 (rest s 0) 0=dgo 999 (rest s k) n) (fun _ i=>s.size-(intOf i).toNat)
   case atStart=>exact⟨0,0,Nat.zero_le _,rfl,rfl,by omega,by omega,rfl⟩
   case round =>
    obtain⟨k,n,hk,rfl,rfl,hn0,hn9,hq⟩:=hrel;have Q:Hid (dgo 999 (rest s 0) 0=dgo 999 (rest s k) n):=hq;clear hq;by_cases hlt:k<s.size
    ·have hb:s[k].toNat<256:=UInt8.toNat_lt _;have E:Hid (dgo 999 (rest s k) n=if (s[k].toNat:Int)<48∨57<(s[k].toNat:Int) then -1 else if 999<n*10+((s[k].toNat:Int)-48) then -1 else dgo 999 (rest s (k+1)) (n*10+((s[k].toNat:Int)-48))):=by
      show _=_
      rw[zag s k hlt];rfl
     go_wp2
     case roundEnd =>
      go_round
      case rel=>exact⟨k+1,_,by omega,by go_num,rfl,by omega,by omega,by rw[Q.out,E.out,if_neg (by omega),if_neg (by omega)]⟩
      case measure=>simp[intOf];omega
     all_goals go_ret
     ·exact⟨zay (by rw[H.out,Q.out,E.out,if_pos (by omega)]),rfl⟩
     ·exact⟨zay (by rw[H.out,Q.out,E.out,if_neg (by omega),if_pos (by omega)]),rfl⟩
     ·exact⟨zay (by rw[H.out,Q.out,E.out,if_pos (by omega)]),rfl⟩
    ·go_wp2;go_ret;exact⟨zay (by rw[H.out,Q.out,zbb s k (by omega)];rfl),rfl⟩
theorem ze3 (s:ByteArray) (w:World) (hs:s.size≤300) (h0:0<s.size) :
 Calls Tryz.prog 152 #[.string s] w fun e w'=>e=.returned (.tuple #[.int .i64 (wk s.data.toList).1,.int .i64 (wk s.data.toList).2])∧w'=w:=by
 obtain⟨K,hK⟩:∃K,kw s.data.toList=K:=⟨_,rfl⟩
 obtain⟨V,hV⟩:∃V,vr s.data.toList=V:=⟨_,rfl⟩
 obtain⟨D,hD⟩:∃D,dg 999 s.data.toList=D:=⟨_,rfl⟩
 have C1:Hid (∀w,Calls Tryz.prog 221 #[.string s] w fun e w'=>e=.returned (.int .i64 K)∧w'=w):=fun w=>by rw[←hK];exact zfO s w
 have C2:Hid (∀w,Calls Tryz.prog 222 #[.string s] w fun e w'=>e=.returned (.int .i64 V)∧w'=w):=fun w=>by rw[←hV];exact ze2 s w hs
 have C3:Hid (∀w,Calls Tryz.prog 223 #[.string s] w fun e w'=>e=.returned (.int .i64 D)∧w'=w):=fun w=>by rw[←hD];exact zgX s w hs h0
 have E:Hid (wk s.data.toList=if K≠1 then (K,0) else if 0≤V then (28,V) else if 0≤D then (29,D) else (1,0)):=by
  show wk s.data.toList=_
  unfold wk;rw[hK,hV,hD]
 clear hK hV hD;generalize wk s.data.toList=R at *;go_enter Tryz.func152,Tryz.ntmps152;go_wp2_with (first|(go_at_call 221;refine(C1.out _).mono ?_;rintro e w' ⟨rfl,rfl⟩)|(go_at_call 222;refine(C2.out _).mono ?_;rintro e w' ⟨rfl,rfl⟩)|(go_at_call 223;refine(C3.out _).mono ?_;rintro e w' ⟨rfl,rfl⟩))
 all_goals go_ret2
 all_goals refine⟨?_,rfl⟩
 all_goals rw[E.out]
 ·rw[if_pos (by simpa using ‹(K != 1)=true›)];rfl
 ·rw[if_neg (by simpa using ‹(K != 1)=false›),if_pos (by omega)];rfl
 ·rw[if_neg (by simpa using ‹(K != 1)=false›),if_neg (by omega),if_pos (by omega)];rfl
 ·rw[if_neg (by simpa using ‹(K != 1)=false›),if_neg (by omega),if_neg (by omega)];rfl
def syk (l:List UInt8):Int:=if sg2 l then lk l else sk ((l.headD 0).toNat:Int)
theorem zfP (s:ByteArray) (k:Nat):(s.extract k s.size).data.toList=rest s k:=by
 rw[za3,List.take_of_length_le];rw[zaw];omega
theorem zbo (s:ByteArray) (k:Nat) (w:World) (hs:s.size≤300) (h0:k<s.size) :
 Calls Tryz.prog 150 #[.string s,.int .i64 (k:Int)] w fun e w'=>e=.returned (.tuple #[.int .i64 (syk (rest s k)),.int .i64 (sgn (rest s k))])∧w'=w:=by
 obtain⟨K,hK⟩:∃K,lk (rest s k)=K:=⟨_,rfl⟩
 obtain⟨V,hV⟩:∃V,sk (s[k].toNat:Int)=V:=⟨_,rfl⟩
 have C1:Hid (∀w,Calls Tryz.prog 219 #[.string (s.extract k s.size)] w fun e w'=>e=.returned (.int .i64 K)∧w'=w):=fun w=>by
  rw[←hK,←zfP];exact zjR _ w (by simp;unfold maxLen;omega)
 have C2:Hid (∀w,Calls Tryz.prog 220 #[.int .u8 (s[k].toNat:Int)] w fun e w'=>e=.returned (.int .i64 V)∧w'=w):=fun w=>by rw[←hV];exact ziz _ w
 have E1:Hid ((K != 1)=true→syk (rest s k)=K∧sgn (rest s k)=2):=by
  intro h;have h2:sg2 (rest s k)=true:=(zli _).1 (by rw[hK];simpa using h);exact⟨by unfold syk;rw[if_pos h2,hK],by unfold sgn;rw[if_pos h2]⟩
 have E2:Hid ((K != 1)=false→(V != 1)=true→syk (rest s k)=V∧sgn (rest s k)=1):=by
  intro h h';have h2:¬sg2 (rest s k)=true:=fun hh=>(zli _).2 hh (by rw[hK];simpa using h)
  have h3:sg1 s[k]=true:=(zl9 _).1 (by rw[hV];simpa using h');rw[zag s k h0] at h2 ⊢;exact⟨by unfold syk;rw[if_neg h2];exact hV,by unfold sgn;rw[if_neg h2];simp[h3]⟩
 have E3:Hid ((K != 1)=false→(V != 1)=false→syk (rest s k)=1∧sgn (rest s k)=0):=by
  intro h h';have h2:¬sg2 (rest s k)=true:=fun hh=>(zli _).2 hh (by rw[hK];simpa using h)
  have h3:¬sg1 s[k]=true:=fun hh=>(zl9 _).2 hh (by rw[hV];simpa using h')
  rw[zag s k h0] at h2 ⊢;exact⟨by unfold syk;rw[if_neg h2];simp only[List.headD_cons];rw[hV];simpa using h',by unfold sgn;rw[if_neg h2];simp[h3]⟩
 clear hK hV;generalize syk (rest s k)=R at *;generalize sgn (rest s k)=T at *;go_enter Tryz.func150,Tryz.ntmps150;go_wp2_with (first|(go_at_call 219;refine(C1.out _).mono ?_;rintro e w' ⟨rfl,rfl⟩)|(go_at_call 220;refine(C2.out _).mono ?_;rintro e w' ⟨rfl,rfl⟩))
 all_goals go_ret2
 all_goals refine⟨?_,rfl⟩
 ·obtain⟨a,b⟩:=E1.out (by assumption);rw[a,b];rfl
 ·obtain⟨a,b⟩:=E2.out (by assumption) (by assumption);rw[a,b];rfl
 ·obtain⟨a,b⟩:=E3.out (by assumption) (by assumption);rw[a,b];rfl
theorem zfQ (s:ByteArray) (k:Nat) (w:World) (hs:s.size≤300) (h0:k<s.size) :
 Calls Tryz.prog 151 #[.string s,.int .i64 (k:Int)] w fun e w'=>e=.returned (.int .i64 ((k+1+wlen (rest s (k+1)):Nat):Int))∧w'=w:=by
 have hwl:wlen (rest s (k+1))≤s.size-(k+1):=by have:=zfL (rest s (k+1));rw[zaw] at this;exact this
 generalize hN:k+1+wlen (rest s (k+1))=N;have HN:Hid (k+1+wlen (rest s (k+1))=N):=hN;have hNs:N≤s.size:=by omega
 clear hN hwl;go_enter Tryz.func151,Tryz.ntmps151;go_wp2_with fail
 go_loop [5] (fun i=>∃e:Nat,k<e∧e≤N∧i=.int .i64 e∧N=e+wlen (rest s e)) (fun i=>s.size-(intOf i).toNat)
 case atStart=>exact⟨k+1,by omega,by have:=HN.out;omega,by go_num,HN.out.symm⟩
 case round =>
  obtain⟨e,hk,he,rfl,hq⟩:=hrel;have Q:Hid (N=e+wlen (rest s e)):=hq;clear hq;by_cases hlt:e<s.size
  ·have C1:Hid (∀w,Calls Tryz.prog 106 #[.int .u8 (s[e].toNat:Int)] w fun e' w'=>e'=.returned (.bool (blank s[e]))∧w'=w):=fun w=>zcw _ _
   have C2:Hid (∀w,Calls Tryz.prog 150 #[.string s,.int .i64 (e:Int)] w fun e' w'=>e'=.returned (.tuple #[.int .i64 (syk (rest s e)),.int .i64 (sgn (rest s e))])∧w'=w):=fun w=>zbo s e w hs hlt
   have E:Hid (wlen (rest s e)=if blank s[e]||decide (0<sgn (rest s e)) then 0 else wlen (rest s (e+1))+1):=by
    show _=_
    rw[zag s e hlt];rfl
   have hsg:=(zkF (rest s e)).2;generalize blank s[e]=B at *;generalize sgn (rest s e)=G at *;generalize syk (rest s e)=Y at *;cases B
   ·by_cases hG:0<G
    ·go_wp2_with (first|(go_at_call 106;refine(C1.out _).mono ?_;rintro e' w' ⟨rfl,rfl⟩)|(go_at_call 150;refine(C2.out _).mono ?_;rintro e' w' ⟨rfl,rfl⟩))
     go_ret;exact⟨zay (by have h1:=E.out;have h2:=Q.out;simp[hG] at h1;omega),rfl⟩
    ·go_wp2_with (first|(go_at_call 106;refine(C1.out _).mono ?_;rintro e' w' ⟨rfl,rfl⟩)|(go_at_call 150;refine(C2.out _).mono ?_;rintro e' w' ⟨rfl,rfl⟩))
     have h1:=E.out;have h2:=Q.out;have hG0:G=0:=by omega
     simp[hG0] at h1
     go_round
     case rel=>exact⟨e+1,by omega,by omega,by go_num,by omega⟩
     case measure=>simp[intOf];omega
   ·go_wp2_with (first|(go_at_call 106;refine(C1.out _).mono ?_;rintro e' w' ⟨rfl,rfl⟩)|(go_at_call 150;refine(C2.out _).mono ?_;rintro e' w' ⟨rfl,rfl⟩))
    go_ret;exact⟨zay (by have h1:=E.out;have h2:=Q.out;simp at h1;omega),rfl⟩
  ·go_wp2_with fail;go_ret;exact⟨zay (by have h2:=Q.out;omega),rfl⟩
end Go.Proofs.YtkinoehmcfhgbaaGreatDoor.Av
