/- A part of the proof. -/
import Derived.Test.YtkinoehmcfhgbaaGreatDoorN5
set_option linter.unusedVariables false
set_option linter.unusedSimpArgs false
set_option maxRecDepth 100000
set_option maxHeartbeats 1000000
namespace Go.Proofs.YtkinoehmcfhgbaaGreatDoor.Vl
open Go.RowKit
def WF:Int→List Sym→Prop
 | m,[]=>m=0
 | m,y::r=>0<m∧0≤y.1∧y.1≤6∧WF (m+prt y.1-1) r
abbrev Pt:=Int×Int×Int×Int
def kof (k w:Int):Int :=
 if k=6 then 4 else if k=0 then (if w=1 then 0 else 1) else if k=1 then (if w=1 then 1 else 0) else if k=3 then (if w=1 then 2 else 3) else (if w=1 then 3 else 2)
def gad (us:List Atm):Nat→List Sym→Int→Nat→List Pt×List Sym
 | 0,l,_,_=>([],l)
 | _+1,[],_,_=>([],[])
 | k+1,y::r,w,p =>
  if y.1=2 then gad us k r (tnot w) p
  else if y.1=6 then ([(4,0,nmb us y.2 0,w)],r)
  else if y.1=3∨y.1=4∨y.1=5 then
   ((kof y.1 w,((p+1+(gad us k r (if y.1=5 then tnot w else w) (p+1)).1.length:Nat):Int),0,0)::((gad us k r (if y.1=5 then tnot w else w) (p+1)).1++(gad us k (gad us k r (if y.1=5 then tnot w else w) (p+1)).2 w (p+1+(gad us k r (if y.1=5 then tnot w else w) (p+1)).1.length)).1),
    (gad us k (gad us k r (if y.1=5 then tnot w else w) (p+1)).2 w (p+1+(gad us k r (if y.1=5 then tnot w else w) (p+1)).1.length)).2)
  else ([(kof y.1 w,0,0,0)],r)
def gvl (ats:List Int) (p:Nat) (later:List Int) (x:Pt):Int :=
 if x.1=0 then 1 else if x.1=1 then 2 else if x.1=2 then tboth (later.headD 0) (later.getD (x.2.1.toNat-(p+1)) 0) else if x.1=3 then teith (later.headD 0) (later.getD (x.2.1.toNat-(p+1)) 0)
 else if x.2.2.2=2 then tnot (ats.getD x.2.2.1.toNat 0) else ats.getD x.2.2.1.toNat 0
def gtr (ats:List Int):Nat→List Pt→List Int
 | _,[]=>[]
 | p,x::r=>gvl ats p (gtr ats (p+1) r) x::gtr ats (p+1) r
theorem zeA (ats:List Int):∀(g:List Pt) (p:Nat),(gtr ats p g).length=g.length
 | [],p=>rfl
 | x::r,p=>by simp[gtr,zeA ats r (p+1)]
def twd (w t:Int):Int:=if w=1 then t else tnot t
theorem zfg {t:Int} (h:T3 t):tnot (tnot t)=t:=by rcases h with rfl|rfl|rfl<;>rfl
theorem ziY {t u:Int} (h:T3 t) (k:T3 u):teith (tnot t) (tnot u)=tnot (tboth t u):=by rcases h with rfl|rfl|rfl<;>rcases k with rfl|rfl|rfl<;>rfl
theorem zfh {t u:Int} (h:T3 t) (k:T3 u):tboth (tnot t) (tnot u)=tnot (teith t u):=by rcases h with rfl|rfl|rfl<;>rcases k with rfl|rfl|rfl<;>rfl
theorem zl8 {w t:Int} (hw:w=1∨w=2) (ht:T3 t):twd (tnot w) t=twd w (tnot t):=by
 rcases hw with rfl|rfl
 ·rfl
 ·show t=tnot (tnot t);rw[zfg ht]
theorem zcg (us:List Atm) (f:Atm→Int) (hf:∀a,T3 (f a)) (ats:List Int) (hat:∀a∈us,ats.getD (nmb us a 0).toNat 0=f a) :
 ∀(k:Nat) (l:List Sym) (w:Int) (p:Nat) (m:Int),w=1∨w=2→WF m l→0<m→l.length≤k→(∀y∈l,y.1=6→y.2∈us) →
  WF (m-1) (gad us k l w p).2∧(gad us k l w p).2.length<l.length∧(∀y∈(gad us k l w p).2,y∈l)∧(gad us k l w p).1≠[] ∧
  ∃t,T3 t∧(∀st:List Int,l.foldr (tst f) st=t::(gad us k l w p).2.foldr (tst f) st) ∧
   ∀tail:List Pt,∃mid,gtr ats p ((gad us k l w p).1++tail)=twd w t::(mid++gtr ats (p+(gad us k l w p).1.length) tail)∧mid.length+1=(gad us k l w p).1.length
 | 0,l,w,p,m,hw,hwf,hm,hl,hu=>by
  cases l with
  | nil=>have:m=0:=hwf;omega
  | cons y r=>simp at hl
 | k+1,[],w,p,m,hw,hwf,hm,hl,hu=>by have:m=0:=hwf;omega
 | k+1,y::r,w,p,m,hw,hwf,hm,hl,hu=>by
  obtain⟨_,h0,h6,hr⟩:=hwf;have hw2:tnot w=1∨tnot w=2:=by rcases hw with rfl|rfl;exact Or.inr rfl;exact Or.inl rfl
  have hlr:r.length≤k:=by simp only[List.length_cons] at hl;omega
  have hur:∀y∈r,y.1=6→y.2∈us:=fun z hz=>hu z (List.mem_cons_of_mem _ hz)
  by_cases e2:y.1=2
  ·have e:gad us (k+1) (y::r) w p=gad us k r (tnot w) p:=by simp only[gad,if_pos e2]
   have hp:prt y.1=1:=by rw[e2];rfl
   rw[hp] at hr;obtain⟨i1,i2,i3,i4,t,i5,i6,i7⟩:=zcg us f hf ats hat k r (tnot w) p m hw2 (by rw[show m=m+1-1 by omega];exact hr) hm hlr hur;rw[e];refine⟨i1,by simp only[List.length_cons];omega,fun z hz=>List.mem_cons_of_mem _ (i3 z hz),i4,tnot t,zbp t,fun st=>?_,fun tail=>?_⟩
   ·rw[List.foldr_cons,i6 st];simp only[tst,tval,e2,hp]
    rfl
   ·obtain⟨mid,j1,j2⟩:=i7 tail;exact⟨mid,by rw[j1,zl8 hw i5],j2⟩
  ·by_cases e6:y.1=6
   ·have e:gad us (k+1) (y::r) w p=([(4,0,nmb us y.2 0,w)],r):=by simp only[gad,if_neg e2,if_pos e6]
    have hp:prt y.1=0:=by rw[e6];rfl
    rw[hp] at hr;rw[e];refine⟨by rw[show m-1=m+0-1 by omega];exact hr,by simp,fun z hz=>List.mem_cons_of_mem _ hz,by simp,f y.2,hf y.2,fun st=>?_,fun tail=>⟨[],?_,rfl⟩⟩
    ·rw[List.foldr_cons];simp only[tst,tval,e6,hp]
     rfl
    ·have ha:=hat y.2 (hu y List.mem_cons_self e6);show gvl ats p _ (4,0,nmb us y.2 0,w)::_=_
     simp only[List.nil_append,List.cons_append,List.length_cons,List.length_nil,Nat.zero_add]
     congr 1
     show(if w=2 then tnot (ats.getD (nmb us y.2 0).toNat 0) else ats.getD (nmb us y.2 0).toNat 0)=twd w (f y.2)
     rw[ha];rcases hw with rfl|rfl<;>rfl
   ·by_cases e3:y.1=3∨y.1=4∨y.1=5
    ·have hp:prt y.1=2:=by rcases e3 with h|h|h<;>(rw[h];rfl)
     rw[hp] at hr;have hwf1:(if y.1=5 then tnot w else w)=1∨(if y.1=5 then tnot w else w)=2:=by split;exact hw2;exact hw
     obtain⟨i1,i2,i3,i4,t,i5,i6,i7⟩:=zcg us f hf ats hat k r (if y.1=5 then tnot w else w) (p+1) (m+1) hwf1 (by rw[show m+1=m+2-1 by omega];exact hr) (by omega) hlr hur;have e:gad us (k+1) (y::r) w p=((kof y.1 w,((p+1+(gad us k r (if y.1=5 then tnot w else w) (p+1)).1.length:Nat):Int),0,0)::((gad us k r (if y.1=5 then tnot w else w) (p+1)).1++(gad us k (gad us k r (if y.1=5 then tnot w else w) (p+1)).2 w (p+1+(gad us k r (if y.1=5 then tnot w else w) (p+1)).1.length)).1), (gad us k (gad us k r (if y.1=5 then tnot w else w) (p+1)).2 w (p+1+(gad us k r (if y.1=5 then tnot w else w) (p+1)).1.length)).2):=by simp only[gad,if_neg e2,if_neg e6,if_pos e3]
     rw[e];generalize gad us k r (if y.1=5 then tnot w else w) (p+1)=G1 at *;obtain⟨j1,j2,j3,j4,u,j5,j6,j7⟩:=zcg us f hf ats hat k G1.2 w (p+1+G1.1.length) m hw (by rw[show m=m+1-1 by omega];exact i1) hm (by omega) (fun z hz=>hur z (i3 z hz));generalize gad us k G1.2 w (p+1+G1.1.length)=G2 at *;dsimp only;refine⟨j1,by simp only[List.length_cons];omega,fun z hz=>List.mem_cons_of_mem _ (i3 z (j3 z hz)),by simp,(if y.1=3 then tboth t u else if y.1=4 then teith t u else teith (tnot t) u),?_,fun st=>?_,fun tail=>?_⟩
     ·split
      ·exact zew _ _
      ·split<;>exact zbp _
     ·rw[List.foldr_cons,i6 st,j6 st];rcases e3 with h|h|h<;>(simp only[tst,tval,h,hp];rfl)
     ·obtain⟨mid2,b1,b2⟩:=j7 tail;obtain⟨mid1,a1,a2⟩:=i7 (G2.1++tail);rw[b1] at a1;refine⟨twd (if y.1=5 then tnot w else w) t::(mid1++(twd w u::mid2)),?_,by simp only[List.length_cons,List.length_append];omega⟩;rw[List.cons_append,List.append_assoc];simp only[gtr];rw[a1];have hsec:(twd (if y.1=5 then tnot w else w) t::(mid1++twd w u::(mid2++gtr ats (p+1+G1.1.length+G2.1.length) tail))).getD (((p+1+G1.1.length:Nat):Int).toNat-(p+1)) 0=twd w u:=by
       rw[show((p+1+G1.1.length:Nat):Int).toNat-(p+1)=mid1.length+1 by omega];simp
      have elen:p+((kof y.1 w,((p+1+G1.1.length:Nat):Int),0,0)::(G1.1++G2.1):List Pt).length=p+1+G1.1.length+G2.1.length:=by simp only[List.length_cons,List.length_append];omega
      rw[elen]
      congr 1
      ·unfold gvl;dsimp only;rw[hsec,List.headD_cons];rcases e3 with h|h|h<;>rcases hw with rfl|rfl<;>simp only[h,kof,twd]
       all_goals first|rfl|skip
       ·show teith (tnot t) (tnot u)=tnot (tboth t u);exact ziY i5 j5
       ·show tboth (tnot t) (tnot u)=tnot (teith t u);exact zfh i5 j5
       ·show tboth t (tnot u)=tnot (teith (tnot t) u)
        have:=zfh (zbp t) j5;rw[zfg i5] at this;exact this
      ·simp
    ·have hq:y.1=0∨y.1=1:=by omega
     have hp:prt y.1=0:=by rcases hq with h|h<;>(rw[h];rfl)
     have e:gad us (k+1) (y::r) w p=([(kof y.1 w,0,0,0)],r):=by simp only[gad,if_neg e2,if_neg e6,if_neg e3]
     rw[hp] at hr;rw[e];refine⟨by rw[show m-1=m+0-1 by omega];exact hr,by simp,fun z hz=>List.mem_cons_of_mem _ hz,by simp,(if y.1=0 then 1 else 2),by split;exact Or.inr (Or.inl rfl);exact Or.inr (Or.inr rfl),fun st=>?_,fun tail=>⟨[],?_,rfl⟩⟩
     ·rw[List.foldr_cons];rcases hq with h|h<;>(simp only[tst,tval,h,hp];rfl)
     ·show gvl ats p _ (kof y.1 w,0,0,0)::_=_
      simp only[List.nil_append,List.cons_append,List.length_cons,List.length_nil,Nat.zero_add]
      congr 1
      rcases hq with h|h<;>rcases hw with rfl|rfl<;>simp only[h]<;>rfl
abbrev Bd:=Nat→Nat→Option (Int×List Nat)
def bno:Bd:=fun i j=>if i=j then some (0,[]) else none
def bwith (b:Bd) (l r:Nat) (n:Int) (num:Nat):Bd:=fun i j =>
 match b i l,b r j with
 | some (x,p),some (y,q) =>
  (match b i j with | some (m,o)=>if m≤x+n+y then some (m,o) else some (x+n+y,p++num::q) | none=>some (x+n+y,p++num::q))
 | _,_=>b i j
abbrev Eg:=Nat→Nat→Nat→Int→Prop
inductive Wk (E:Eg):Nat→Nat→List Nat→Int→Prop
 | nil (i:Nat):Wk E i i [] 0
 | cons {k i j t:Nat} {n s:Int} {ks:List Nat}:E k i j n→Wk E j t ks s→Wk E i t (k::ks) (n+s)
theorem Wk.mono {E F:Eg} (h:∀k i j n,E k i j n→F k i j n) {i j:Nat} {p:List Nat} {s:Int} (w:Wk E i j p s):Wk F i j p s:=by
 induction w with
 | nil i=>exact .nil i
 | cons e _ ih=>exact .cons (h _ _ _ _ e) ih
theorem Wk.app {E:Eg} {i j t:Nat} {p q:List Nat} {s u:Int} (w:Wk E i j p s) (v:Wk E j t q u):Wk E i t (p++q) (s+u):=by
 induction w with
 | nil i=>simpa using v
 | cons e _ ih=>rw[Int.add_assoc];exact .cons e (ih v)
theorem Wk.one {E:Eg} {k i j:Nat} {n:Int} (e:E k i j n):Wk E i j [k] n:=by
 have:=Wk.cons e (.nil j);simpa using this
structure BOk (E:Eg) (b:Bd):Prop where
 way:∀i j m p,b i j=some (m,p)→Wk E i j p m
 least:∀i j p s,Wk E i j p s→∃m q,b i j=some (m,q)∧m≤s
 dia:∀i,b i i=some (0,[])
theorem zm8:BOk (fun _ _ _ _=>False) bno:=by
 refine⟨fun i j m p h=>?_,fun i j p s w=>?_,fun i=>by simp[bno]⟩
 ·unfold bno at h;split at h
  ·rename_i e;subst e;injection h with h;injection h with h1 h2;subst h1 h2;exact .nil i
  ·cases h
 ·cases w with
  | nil i=>exact⟨0,[],by simp[bno],Int.le_refl _⟩
  | cons e _=>exact e.elim
def addE (E:Eg) (num l r:Nat) (n:Int):Eg:=fun k i j m=>E k i j m∨(k=num∧i=l∧j=r∧m=n)
theorem zkC {b:Bd} {l r:Nat} {n:Int} {num i j:Nat} {m:Int} {p:List Nat} (h:b i j=some (m,p)):∃m' q,bwith b l r n num i j=some (m',q)∧m'≤m:=by
 unfold bwith;split
 ·rw[h];dsimp only;split
  ·exact⟨_,_,rfl,Int.le_refl _⟩
  ·rename_i hn;exact⟨_,_,rfl,by omega⟩
 ·exact⟨m,p,h,Int.le_refl _⟩
theorem zdr {b:Bd} {l r:Nat} {n:Int} {num i j:Nat} {x y:Int} {p q:List Nat} (h1:b i l=some (x,p)) (h2:b r j=some (y,q)):∃m' o,bwith b l r n num i j=some (m',o)∧m'≤x+n+y:=by
 unfold bwith;rw[h1,h2];dsimp only;split
 ·split
  ·rename_i hn;exact⟨_,_,rfl,hn⟩
  ·exact⟨_,_,rfl,Int.le_refl _⟩
 ·exact⟨_,_,rfl,Int.le_refl _⟩
theorem zcy {b:Bd} {l r:Nat} {n:Int} {num i j:Nat} {m:Int} {p:List Nat} (h:bwith b l r n num i j=some (m,p)):b i j=some (m,p)∨∃x y q o,b i l=some (x,q)∧b r j=some (y,o)∧m=x+n+y∧p=q++num::o:=by
 unfold bwith at h;split at h
 ·rename_i x q y o h1 h2
  split at h
  ·rename_i m' o' h3
   split at h
   ·injection h with h;injection h with e1 e2;subst e1 e2;exact Or.inl h3
   ·injection h with h;injection h with e1 e2;subst e1 e2;exact Or.inr ⟨x,y,q,o,h1,h2,rfl,rfl⟩
  ·injection h with h;injection h with e1 e2;subst e1 e2;exact Or.inr ⟨x,y,q,o,h1,h2,rfl,rfl⟩
 ·exact Or.inl h
theorem zkD {E:Eg} {b:Bd} (h:BOk E b) (num l r:Nat) (n:Int) (hc:∀m p,b r l=some (m,p)→0≤m+n):BOk (addE E num l r n) (bwith b l r n num):=by
 have mono:∀k i j m,E k i j m→addE E num l r n k i j m:=fun k i j m e=>Or.inl e
 have tri:∀i j t x y p q,b i j=some (x,p)→b j t=some (y,q)→∃m o,b i t=some (m,o)∧m≤x+y:=fun i j t x y p q h1 h2=>h.least _ _ _ _ ((h.way _ _ _ _ h1).app (h.way _ _ _ _ h2))
 have dia:∀i,bwith b l r n num i i=some (0,[]):=fun i=>by
  unfold bwith;split
  ·rename_i x p y q h1 h2
   rw[h.dia i];dsimp only;obtain⟨m,o,e1,e2⟩:=tri _ _ _ _ _ _ _ h2 h1;have:=hc m o e1;rw[if_pos (by omega)]
  ·exact h.dia i
 refine⟨fun i j m p e=>?_,fun i j p s w=>?_,dia⟩
 ·rcases zcy e with e|⟨x,y,q,o,h1,h2,rfl,rfl⟩
  ·exact(h.way _ _ _ _ e).mono mono
  ·have w1:=(h.way _ _ _ _ h1).mono mono;have w2:=(h.way _ _ _ _ h2).mono mono;have w3:=w1.app (Wk.cons (E:=addE E num l r n) (Or.inr ⟨rfl,rfl,rfl,rfl⟩) w2);rw[←Int.add_assoc] at w3;exact w3
 ·induction w with
  | nil i=>exact⟨0,[],dia i,Int.le_refl _⟩
  | @cons k i j t n' s ks e w ih =>
   obtain⟨m,q,e1,e2⟩:=ih;rcases e with e|⟨rfl,rfl,rfl,rfl⟩
   ·obtain⟨a,pa,ha,hal⟩:=h.least _ _ _ _ (Wk.one e);rcases zcy e1 with e1|⟨x,y,q',o,h1,h2,rfl,rfl⟩
    ·obtain⟨c,pc,hc1,hc2⟩:=tri _ _ _ _ _ _ _ ha e1;obtain⟨d,pd,hd1,hd2⟩:=zkC (l:=l) (r:=r) (n:=n) (num:=num) hc1;exact⟨d,pd,hd1,by omega⟩
    ·obtain⟨c,pc,hc1,hc2⟩:=tri _ _ _ _ _ _ _ ha h1;obtain⟨d,pd,hd1,hd2⟩:=zdr (n:=n) (num:=num) hc1 h2;exact⟨d,pd,hd1,by omega⟩
   ·rcases zcy e1 with e1|⟨x,y,q',o,h1,h2,rfl,rfl⟩
    ·obtain⟨d,pd,hd1,hd2⟩:=zdr (n:=n') (num:=k) (h.dia i) e1;exact⟨d,pd,hd1,by omega⟩
    ·have:=hc x q' h1;obtain⟨d,pd,hd1,hd2⟩:=zdr (n:=n') (num:=k) (h.dia i) h2;exact⟨d,pd,hd1,by omega⟩
theorem Wk.holds {E:Eg} {x:Nat→Int} (hx:∀k i j n,E k i j n→x i-x j≤n) {i j:Nat} {p:List Nat} {s:Int} (w:Wk E i j p s):x i-x j≤s:=by
 induction w with
 | nil i=>omega
 | cons e _ ih=>have:=hx _ _ _ _ e;omega
def bgr (b:Bd) (o:Nat):Int:=(List.range 5).foldl (fun least j=>match b o j with|some (m,_)=>min least m|none=>least) 0
theorem zf9 (g:Nat→Option Int):∀(l:List Nat) (a:Int),l.foldl (fun least j=>match g j with|some m=>min least m|none=>least) a≤a∧(∀j∈l,∀m,g j=some m→l.foldl (fun least j=>match g j with|some m=>min least m|none=>least) a≤m)∧(l.foldl (fun least j=>match g j with|some m=>min least m|none=>least) a=a∨∃j∈l,g j=some (l.foldl (fun least j=>match g j with|some m=>min least m|none=>least) a))
 | [],a=>⟨Int.le_refl _,fun j hj=>(by cases hj),Or.inl rfl⟩
 | k::r,a=>by
  rw[List.foldl_cons];cases hg:g k with
  | none =>
   dsimp only;obtain⟨h1,h2,h3⟩:=zf9 g r a;refine⟨h1,fun j hj m hm=>?_,?_⟩
   ·rcases List.mem_cons.1 hj with rfl|hj
    ·rw[hg] at hm;cases hm
    ·exact h2 j hj m hm
   ·rcases h3 with h3|⟨j,hj,h3⟩
    ·exact Or.inl h3
    ·exact Or.inr ⟨j,List.mem_cons_of_mem _ hj,h3⟩
  | some v =>
   dsimp only;obtain⟨h1,h2,h3⟩:=zf9 g r (min a v);refine⟨by omega,fun j hj m hm=>?_,?_⟩
   ·rcases List.mem_cons.1 hj with rfl|hj
    ·rw[hg] at hm;injection hm with hm;omega
    ·exact h2 j hj m hm
   ·rcases h3 with h3|⟨j,hj,h3⟩
    ·rcases Int.le_total a v with h|h
     ·exact Or.inl (by rw[h3];omega)
     ·exact Or.inr ⟨k,List.mem_cons_self,by rw[hg,h3];congr 1;omega⟩
    ·exact Or.inr ⟨j,List.mem_cons_of_mem _ hj,h3⟩
theorem zm9 (b:Bd) (o:Nat):bgr b o=(List.range 5).foldl (fun least j=>match (b o j).map (·.1) with|some m=>min least m|none=>least) 0:=by
 unfold bgr
 congr 1
 funext least j
 cases b o j with
 | none=>rfl
 | some v=>rfl
theorem zds (b:Bd) (o:Nat):bgr b o≤0∧(∀j m p,j<5→b o j=some (m,p)→bgr b o≤m)∧(bgr b o=0∨∃j p,j<5∧b o j=some (bgr b o,p)):=by
 obtain⟨h1,h2,h3⟩:=zf9 (fun j=>(b o j).map (·.1)) (List.range 5) 0;rw[←zm9] at h1 h2 h3;refine⟨h1,fun j m p hj h=>h2 j (List.mem_range.2 hj) m (by rw[h];rfl),?_⟩;rcases h3 with h3|⟨j,hj,h3⟩
 ·exact Or.inl h3
 ·obtain⟨⟨m,p⟩,e1,e2⟩:=Option.map_eq_some_iff.1 h3;dsimp only at e2;exact Or.inr ⟨j,p,List.mem_range.1 hj,by rw[←e2];exact e1⟩
theorem ziZ {E:Eg} {b:Bd} (h:BOk E b) {k l r:Nat} {n:Int} (e:E k l r n) (hr:r<5):bgr b l-bgr b r≤n:=by
 obtain⟨l1,l2,l3⟩:=zds b l;obtain⟨r1,r2,r3⟩:=zds b r;have key:∀j m p,j<5→b r j=some (m,p)→bgr b l≤n+m:=fun j m p hj hm=>by
  obtain⟨m',q,e1,e2⟩:=h.least _ _ _ _ (Wk.cons e (h.way _ _ _ _ hm));have:=l2 j m' q hj e1;omega
 rcases r3 with r3|⟨j,p,hj,r3⟩
 ·have:=key r 0 [] hr (h.dia r);omega
 ·have:=key j _ p hj r3;omega
inductive Wn (E:Eg):Nat→Nat→List Nat→Int→Prop
 | nil (i:Nat):Wn E i i [i] 0
 | cons {k i j t:Nat} {n s:Int} {ns:List Nat}:E k i j n→Wn E j t ns s→Wn E i t (i::ns) (n+s)
theorem Wk.nodes {E:Eg} {i j:Nat} {p:List Nat} {s:Int} (w:Wk E i j p s):∃ns,Wn E i j ns s:=by
 induction w with
 | nil i=>exact⟨_,.nil i⟩
 | cons e _ ih=>obtain⟨ns,h⟩:=ih;exact⟨_,.cons e h⟩
theorem Wn.wk {E:Eg} {i j:Nat} {ns:List Nat} {s:Int} (w:Wn E i j ns s):∃p,Wk E i j p s:=by
 induction w with
 | nil i=>exact⟨_,.nil i⟩
 | cons e _ ih=>obtain⟨p,h⟩:=ih;exact⟨_,.cons e h⟩
theorem Wn.cut {E:Eg} {i j:Nat} {ns:List Nat} {s:Int} (w:Wn E i j ns s):∀x∈ns,∃p s1 s2 ns2,Wk E i x p s1∧Wn E x j ns2 s2∧s=s1+s2∧(ns.Nodup→ns2.Nodup):=by
 induction w with
 | nil i=>intro x hx;rw[List.mem_singleton] at hx;subst hx;exact⟨[],0,0,[x],.nil x,.nil x,by omega,fun h=>h⟩
 | @cons k i j t n s ns e w ih =>
  intro x hx;rcases List.mem_cons.1 hx with rfl|hx
  ·exact⟨[],0,n+s,x::ns,.nil x,.cons e w,by omega,fun h=>h⟩
  ·obtain⟨p,s1,s2,ns2,h1,h2,h3,h4⟩:=ih x hx;exact⟨k::p,n+s1,s2,ns2,.cons e h1,h2,by omega,fun h=>h4 (List.nodup_cons.1 h).2⟩
theorem Wn.short {E:Eg} {b:Bd} (hb:BOk E b) {i j:Nat} {ns:List Nat} {s:Int} (w:Wn E i j ns s):∃ns' s',Wn E i j ns' s'∧s'≤s∧ns'.Nodup:=by
 induction w with
 | nil i=>exact⟨_,_,.nil i,Int.le_refl _,by simp⟩
 | @cons k i j t n s ns e w ih =>
  obtain⟨ns',s',h1,h2,h3⟩:=ih;by_cases hi:i∈ns'
  ·obtain⟨p,s1,s2,ns2,g1,g2,g3,g4⟩:=h1.cut i hi;obtain⟨m,q,e1,e2⟩:=hb.least _ _ _ _ (Wk.cons e g1);rw[hb.dia i] at e1;injection e1 with e1;injection e1 with e1 _
   exact⟨ns2,s2,g2,by omega,g4 h3⟩
  ·exact⟨i::ns',n+s',.cons e h1,by omega,List.nodup_cons.2 ⟨hi,h3⟩⟩
theorem zdt:∀(N:Nat) (l:List Nat),l.Nodup→(∀x∈l,x<N)→l.length≤N
 | 0,[],_,_=>Nat.le_refl _
 | 0,x::r,_,h=>absurd (h x List.mem_cons_self) (Nat.not_lt_zero _)
 | N+1,l,hn,h=>by
  have h1:=zdt N (l.erase N) (hn.erase N) (fun x hx=>by
   have h2:=(hn.mem_erase_iff).1 hx;have:=h x h2.2;have:=h2.1;omega)
  by_cases hm:N∈l
  ·rw[List.length_erase_of_mem hm] at h1;omega
  ·rw[List.erase_of_not_mem hm] at h1;omega
theorem Wn.big {E:Eg} {K:Int} (hE:∀k i j n,E k i j n→-K≤n∧n≤K∧i<5∧j<5) {i j:Nat} {ns:List Nat} {s:Int} (w:Wn E i j ns s):j<5→(∀x∈ns,x<5)∧1≤ns.length∧-(K*((ns.length:Int)-1))≤s∧s≤K*((ns.length:Int)-1):=by
 induction w with
 | nil i=>intro hj;simp[hj]
 | @cons k i j t n s ns e w ih =>
  intro hj;obtain⟨h1,h2,h3,h4⟩:=ih hj;obtain⟨e1,e2,e3,e4⟩:=hE _ _ _ _ e;have e:K*(((i::ns).length:Int)-1)=K*((ns.length:Int)-1)+K:=by
   rw[List.length_cons];have:((ns.length+1:Nat):Int)-1=((ns.length:Int)-1)+1:=by omega
   rw[this,Int.mul_add,Int.mul_one]
  refine⟨fun x hx=>?_,by simp,?_,?_⟩
  ·rcases List.mem_cons.1 hx with rfl|hx
   ·exact e3
   ·exact h1 x hx
  ·omega
  ·omega
theorem zi0 {E:Eg} {b:Bd} (h:BOk E b) {K:Int} (hK:0≤K) (hE:∀k i j n,E k i j n→-K≤n∧n≤K∧i<5∧j<5) {i j:Nat} {m:Int} {p:List Nat} (hj:j<5) (hm:b i j=some (m,p)):-(4*K)≤m∧m≤4*K:=by
 obtain⟨ns,w⟩:=(h.way _ _ _ _ hm).nodes;obtain⟨ns',s',w',hs,hn⟩:=w.short h;obtain⟨b1,b2,b3,b4⟩:=w'.big hE hj;obtain⟨p',wk⟩:=w'.wk;obtain⟨m',q,e1,e2⟩:=h.least _ _ _ _ wk;rw[hm] at e1;injection e1 with e1;injection e1 with e1 _
 have hl:=zdt 5 ns' hn b1;have:K*((ns'.length:Int)-1)≤4*K:=by
  have h1:K*((ns'.length:Int)-1)≤K*4:=Int.mul_le_mul_of_nonneg_left (by omega) hK;omega
 omega
theorem zi3 (d:UInt8) (r:List UInt8):(⟨(d::r).toArray⟩:ByteArray).extract 0 1=⟨#[d]⟩:=by
 apply ByteArray.ext
 rw[ByteArray.data_extract];simp
theorem zkE (d:UInt8) (r:List UInt8):(⟨(d::r).toArray⟩:ByteArray).extract 1 (r.length+1)=⟨r.toArray⟩:=by
 apply ByteArray.ext
 rw[ByteArray.data_extract];simp
theorem zna (d c:UInt8):((⟨#[d]⟩:ByteArray)==⟨#[c]⟩)=(d==c):=by
 have:((⟨#[d]⟩:ByteArray)==⟨#[c]⟩)=((#[d]:Array UInt8)==#[c]):=rfl;rw[this];simp
def tk1 (c:UInt8) (l:List UInt8):List UInt8:=match l with|[]=>[]|d::r=>if d=c then r else d::r
def is1 (c:UInt8) (l:List UInt8):Bool:=match l with|[]=>false|d::r=>d==c
theorem zeB (l:List UInt8) (c:UInt8) (w:World) (hl:l.length≤1000000) :
 Calls Tryz.prog 259 #[.string ⟨l.toArray⟩,.string ⟨#[c]⟩] w fun e w'=>e=.returned (.bool (is1 c l))∧w=w':=by
 cases l with
 | nil =>
  go_enter Tryz.func259,Tryz.ntmps259;go_wp2;go_ret;exact⟨rfl,rfl⟩
 | cons d r =>
  have h1:=zi3 d r;have h2:(⟨(d::r).toArray⟩:ByteArray).size=r.length+1:=by simp[ByteArray.size]
  have h3:=zna d c;have hI:Hid (is1 c (d::r)=(d==c)):=rfl;generalize (⟨(d::r).toArray⟩:ByteArray)=S at *;have hs:(1:Int)≤(S.size:Int):=by omega
  go_enter Tryz.func259,Tryz.ntmps259;go_wp2;go_ret;exact⟨by rw[hI.out];rfl,rfl⟩
theorem zeC (l:List UInt8) (c:UInt8) (w:World) (hl:l.length≤1000000) :
 Calls Tryz.prog 174 #[.string ⟨l.toArray⟩,.string ⟨#[c]⟩] w fun e w'=>e=.returned (.tuple #[.string ⟨(tk1 c l).toArray⟩,.bool (is1 c l)])∧w=w':=by
 have CH:Hid (∀w,Calls Tryz.prog 259 #[.string ⟨l.toArray⟩,.string ⟨#[c]⟩] w fun e w'=>e=.returned (.bool (is1 c l))∧w=w'):=fun w=>zeB l c w hl
 have CC:Calls Tryz.prog 232 #[.string ⟨l.toArray⟩,.string ⟨#[c]⟩] w fun e w'=>e=.returned (.tuple #[.string ⟨(tk1 c l).toArray⟩,.bool (is1 c l)])∧w=w':=by
  cases l with
  | nil =>
   have CH':Hid (∀w,Calls Tryz.prog 259 #[.string ⟨#[]⟩,.string ⟨#[c]⟩] w fun e w'=>e=.returned (.bool false)∧w=w'):=CH;clear CH;go_enter Tryz.func232,Tryz.ntmps232;go_wp2_with (go_at_call 259;refine(CH'.out _).mono ?_;rintro e w' ⟨rfl,rfl⟩)
   go_ret2
   exact⟨rfl,rfl⟩
  | cons d r =>
   have h1:=zkE d r;have h2:(⟨(d::r).toArray⟩:ByteArray).size=r.length+1:=by simp[ByteArray.size]
   have HI:Hid (is1 c (d::r)=(d==c)):=rfl;have HT:Hid (tk1 c (d::r)=if d=c then r else d::r):=rfl;have HS:Hid ((⟨(d::r).toArray⟩:ByteArray)=⟨(d::r).toArray⟩):=rfl;cases hdc:(d==c)
   ·have hne:d≠c:=by simpa using hdc
    have CH':Hid (∀w,Calls Tryz.prog 259 #[.string ⟨(d::r).toArray⟩,.string ⟨#[c]⟩] w fun e w'=>e=.returned (.bool false)∧w=w'):=by
     have:=CH.out;rw[HI.out,hdc] at this;exact this
    have HR:Hid (tk1 c (d::r)=d::r∧is1 c (d::r)=false):=⟨by rw[HT.out,if_neg hne],by rw[HI.out,hdc]⟩;clear CH HI HT;generalize hS:(⟨(d::r).toArray⟩:ByteArray)=S at *;have HS2:Hid _:=hS;clear hS hdc hne;go_enter Tryz.func232,Tryz.ntmps232;go_wp2_with (go_at_call 259;refine(CH'.out _).mono ?_;rintro e w' ⟨rfl,rfl⟩)
    go_ret2
    exact⟨by rw[HR.out.1,HR.out.2,HS2.out];rfl,rfl⟩
   ·have hne:d=c:=by simpa using hdc
    have CH':Hid (∀w,Calls Tryz.prog 259 #[.string ⟨(d::r).toArray⟩,.string ⟨#[c]⟩] w fun e w'=>e=.returned (.bool true)∧w=w'):=by
     have:=CH.out;rw[HI.out,hdc] at this;exact this
    have HR:Hid (tk1 c (d::r)=r∧is1 c (d::r)=true):=⟨by rw[HT.out,if_pos hne],by rw[HI.out,hdc]⟩;clear CH HI HT;generalize hS:(⟨(d::r).toArray⟩:ByteArray)=S at *;have hs:(1:Int)≤(S.size:Int):=by omega
    clear hS hdc hne;go_enter Tryz.func232,Tryz.ntmps232;go_wp2_with (go_at_call 259;refine(CH'.out _).mono ?_;rintro e w' ⟨rfl,rfl⟩)
    go_ret2
    exact⟨by rw[HR.out.1,HR.out.2];rfl,rfl⟩
 have CC':Hid _:=CC;clear CC CH;go_enter Tryz.func174,Tryz.ntmps174;go_wp2_with (go_at_call 232;refine Calls.mono CC'.out ?_;rintro e w' ⟨rfl,rfl⟩)
 go_ret2
 exact⟨rfl,rfl⟩
def ops5:List UInt8:=[48,97,98,99,100]
def mks6:List UInt8:=[116,102,33,38,124,62]
def patm (l:List UInt8):Option Atm :=
 match Lib.cut l [60,61] with
 | (sides,num,found) =>
  if !found||sides.length != 3||!(sides.getD 1 0==45)||(sides.getD 0 0==sides.getD 2 0) then none else
  match bndX num with
  | none=>none
  | some n=>if Lib.indexByte ops5 (sides.getD 0 0)<0∨Lib.indexByte ops5 (sides.getD 2 0)<0 then none else some (Lib.indexByte ops5 (sides.getD 0 0),Lib.indexByte ops5 (sides.getD 2 0),n)
def csym:List UInt8→Option (Sym×List UInt8)
 | []=>none
 | c::r=>if 0≤Lib.indexByte mks6 c then some ((Lib.indexByte mks6 c,0,0,0),r) else
  if (Lib.cut (c::r) [46]).2.2=true then (patm (Lib.cut (c::r) [46]).1).map fun a=>((6,a),(Lib.cut (c::r) [46]).2.1) else none
theorem zdu (b c:UInt8) (l:List UInt8) (h:(b==c)=false) (hl:Lib.indexByte l c=-1):Lib.indexByte (b::l) c=-1:=by
 simp[Lib.indexByte,h,hl]
theorem zlu (c:UInt8):Lib.indexByte mks6 c=mk (c.toNat:Int):=by
 by_cases h1:c=116
 ·subst h1;rfl
 by_cases h2:c=102
 ·subst h2;rfl
 by_cases h3:c=33
 ·subst h3;rfl
 by_cases h4:c=38
 ·subst h4;rfl
 by_cases h5:c=124
 ·subst h5;rfl
 by_cases h6:c=62
 ·subst h6;rfl
 have e1:((c.toNat:Int)==116)=(c==116):=zat c 116 (by omega);have e2:((c.toNat:Int)==102)=(c==102):=zat c 102 (by omega);have e3:((c.toNat:Int)==33)=(c==33):=zat c 33 (by omega);have e4:((c.toNat:Int)==38)=(c==38):=zat c 38 (by omega);have e5:((c.toNat:Int)==124)=(c==124):=zat c 124 (by omega);have e6:((c.toNat:Int)==62)=(c==62):=zat c 62 (by omega);have m1:(c==116)=false:=by rw[beq_eq_false_iff_ne];exact h1
 have m2:(c==102)=false:=by rw[beq_eq_false_iff_ne];exact h2
 have m3:(c==33)=false:=by rw[beq_eq_false_iff_ne];exact h3
 have m4:(c==38)=false:=by rw[beq_eq_false_iff_ne];exact h4
 have m5:(c==124)=false:=by rw[beq_eq_false_iff_ne];exact h5
 have m6:(c==62)=false:=by rw[beq_eq_false_iff_ne];exact h6
 have hr:mk (c.toNat:Int)=-1:=by
  unfold mk;simp only[e1,e2,e3,e4,e5,e6,m1,m2,m3,m4,m5,m6,Bool.false_eq_true,if_false]
 rw[hr];unfold mks6;exact zdu _ _ _ (by rw[Bool.beq_comm];exact m1) (zdu _ _ _ (by rw[Bool.beq_comm];exact m2) (zdu _ _ _ (by rw[Bool.beq_comm];exact m3) (zdu _ _ _ (by rw[Bool.beq_comm];exact m4) (zdu _ _ _ (by rw[Bool.beq_comm];exact m5) (zdu _ _ _ (by rw[Bool.beq_comm];exact m6) rfl)))))
theorem zga (c:UInt8):Lib.indexByte ops5 c=plu c:=by
 have e1:((c.toNat:Int)==48)=(c==48):=zat c 48 (by omega);have e2:((c.toNat:Int)==97)=(c==97):=zat c 97 (by omega);have e3:((c.toNat:Int)==98)=(c==98):=zat c 98 (by omega);have e4:((c.toNat:Int)==99)=(c==99):=zat c 99 (by omega);have e5:((c.toNat:Int)==100)=(c==100):=zat c 100 (by omega);unfold plu plc ops5;by_cases h1:c=48
 ·subst h1;rfl
 by_cases h2:c=97
 ·subst h2;rfl
 by_cases h3:c=98
 ·subst h3;rfl
 by_cases h4:c=99
 ·subst h4;rfl
 by_cases h5:c=100
 ·subst h5;rfl
 have m1:(c==48)=false:=by rw[beq_eq_false_iff_ne];exact h1
 have m2:(c==97)=false:=by rw[beq_eq_false_iff_ne];exact h2
 have m3:(c==98)=false:=by rw[beq_eq_false_iff_ne];exact h3
 have m4:(c==99)=false:=by rw[beq_eq_false_iff_ne];exact h4
 have m5:(c==100)=false:=by rw[beq_eq_false_iff_ne];exact h5
 simp only[e1,e2,e3,e4,e5,m1,m2,m3,m4,m5,Bool.or_self,Bool.false_eq_true,if_false];exact zdu _ _ _ (by rw[Bool.beq_comm];exact m1) (zdu _ _ _ (by rw[Bool.beq_comm];exact m2) (zdu _ _ _ (by rw[Bool.beq_comm];exact m3) (zdu _ _ _ (by rw[Bool.beq_comm];exact m4) (zdu _ _ _ (by rw[Bool.beq_comm];exact m5) rfl))))
theorem zl9 {a c:UInt8} (ha:0≤plu a) (h:plu a=plu c):a=c:=by
 unfold plu plc at *;simp only[beq_iff_eq,Bool.or_eq_true] at *;apply UInt8.toNat_inj.1
 repeat' split at h
 all_goals simp_all
 all_goals omega
theorem zeD {a:UInt8} (ha:0≤plu a):a≠46∧a≠60∧a≠45:=by
 refine⟨?_,?_,?_⟩<;>intro e<;>subst e<;>exact absurd ha (by decide)
def Form (l:List UInt8) (a c:UInt8) (n:Int) (tail:List UInt8):Prop :=
 l=a::45::c::60::61::(Lib.itoa n++46::tail)∧0≤plu a∧0≤plu c∧plu a≠plu c∧-999999≤n∧n≤999999
theorem zgS {l:List UInt8} {q:Atm} {k:Nat} (h:atm l=some (q,k)):∃a c n tail,Form l a c n tail∧q=(plu a,plu c,n)∧tail=l.drop k:=by
 match l,h with
 | a::b::c::d::e::r,h =>
  simp only[atm] at h;split at h
  ·cases h
  ·rename_i h1
   cases hb:bnd r with
   | none=>rw[hb] at h;cases h
   | some p =>
    obtain⟨n,j⟩:=p;rw[hb] at h;simp only at h;split at h
    ·cases h
    ·rename_i h2
     simp only[Bool.or_eq_true,Bool.not_eq_true',beq_eq_false_iff_ne,not_or,ne_eq,Decidable.not_not,List.cons.injEq,and_true] at h1;simp only[Bool.or_eq_true,decide_eq_true_eq,Bool.not_eq_true',beq_eq_false_iff_ne,beq_iff_eq,not_or,ne_eq,Decidable.not_not] at h2;obtain⟨⟨⟨c1,c2⟩,c3⟩,c4⟩:=h2;obtain⟨⟨_,hb45⟩,hd60,he61⟩:=h1;subst hb45 hd60 he61;obtain⟨i1,i2,i3⟩:=zkH hb;cases h
     have hj:j<r.length:=by
      rcases Nat.lt_or_ge j r.length with hj|hj
      ·exact hj
      ·rw[List.getD_eq_getElem?_getD,List.getElem?_eq_none hj] at c4;exact absurd c4 (by decide)
     refine⟨a,c,n,r.drop (j+1),⟨?_,by omega,by omega,c3,i2,i3⟩,rfl,?_⟩
     ·have hr:r=r.take j++46::r.drop (j+1):=by
       conv=>lhs;rw[←List.take_append_drop j r]
       congr 1
       rw[List.drop_eq_getElem_cons hj]
       congr 1
       rw[List.getD_eq_getElem?_getD,List.getElem?_eq_getElem hj] at c4;exact c4
      rw[i1] at hr;rw[←hr]
     ·show r.drop (j+1)=(a::45::c::60::61::r).drop (6+j)
      rw[show 6+j=(j+1)+1+1+1+1+1 by omega];simp only[List.drop_succ_cons]
theorem zkF {l:List UInt8} {a c:UInt8} {n:Int} {tail:List UInt8} (h:Form l a c n tail):∃k,atm l=some ((plu a,plu c,n),k)∧tail=l.drop k:=by
 obtain⟨rfl,h1,h2,h3,h4,h5⟩:=h;have hb:=zgW n h4 h5 tail;refine⟨6+(Lib.itoa n).length,?_,?_⟩
 ·have he:(Lib.itoa n++46::tail).isEmpty=false:=by simp
  simp only[atm,he,hb];have hg:(Lib.itoa n++46::tail).getD (Lib.itoa n).length 0=46:=by
   rw[List.getD_eq_getElem?_getD,List.getElem?_append_right (Nat.le_refl _)];simp
  rw[hg];have d1:decide (plu a<0)=false:=by simp;omega
  have d2:decide (plu c<0)=false:=by simp;omega
  have d3:(plu a==plu c)=false:=by simpa using h3
  rw[d1,d2,d3];rfl
 ·rw[show 6+(Lib.itoa n).length=((Lib.itoa n).length+1)+1+1+1+1+1 by omega];simp only[List.drop_succ_cons];rw[List.drop_append,List.drop_eq_nil_of_le (by omega)];simp
theorem zma (n:Int) (h0:-999999≤n) (h1:n≤999999):∀x∈Lib.itoa n,x≠46:=by
 intro x hx e;subst e;unfold Lib.itoa at hx;split at hx
 ·rcases List.mem_cons.1 hx with h|h
  ·exact absurd h (by decide)
  ·have:=zbU _ (by omega) 46 h;cases this
 ·have:=zbU _ (by omega) 46 hx;cases this
theorem zmb (x tail:List UInt8) (h:∀c∈x,c≠46):Lib.cut (x++46::tail) [46]=(x,tail,true):=by
 have hi:Lib.index (x++46::tail) [46]=x.length:=by
  refine Lib.index_first (by simp) ?_ ?_
  ·unfold Lib.occAt;simp[List.isPrefixOf]
  ·intro j hj;unfold Lib.occAt;rw[List.drop_append_of_le_length (by omega),List.drop_eq_getElem_cons hj];simp only[List.cons_append,List.isPrefixOf,Bool.and_true,beq_eq_false_iff_ne];exact fun e=>h _ (List.getElem_mem hj) e.symm
 unfold Lib.cut;rw[hi,if_pos (by omega)];simp
theorem zgT {l sep x y:List UInt8} (h:Lib.cut l sep=(x,y,true)):l=x++sep++y:=by
 unfold Lib.cut at h;split at h
 ·rename_i h0
  rcases Lib.index_spec l sep with⟨h1,_⟩|⟨i,h1,h2,h3,_⟩
  ·omega
  ·rw[h1,Int.toNat_natCast] at h;injection h with hx h
   injection h with hy _
   unfold Lib.occAt at h3;rw[List.isPrefixOf_iff_prefix] at h3;obtain⟨t,ht⟩:=h3;have:y=t:=by
    rw[←hy,←List.drop_drop,←ht];simp
   rw[←hx,this,List.append_assoc,ht,List.take_append_drop]
 ·cases h
theorem znb (a c:UInt8) (num:List UInt8) (ha:a≠60) (hc:c≠60):Lib.cut (a::45::c::60::61::num) [60,61]=([a,45,c],num,true):=by
 have hi:Lib.index (a::45::c::60::61::num) [60,61]=((3:Nat):Int):=by
  refine Lib.index_first (by simp) rfl ?_;intro j hj;have ha':(60==a)=false:=by rw[beq_eq_false_iff_ne];exact fun e=>ha e.symm
  have hc':(60==c)=false:=by rw[beq_eq_false_iff_ne];exact fun e=>hc e.symm
  match j,hj with
  | 0,_=>simp[Lib.occAt,List.isPrefixOf,ha']
  | 1,_=>simp[Lib.occAt,List.isPrefixOf]
  | 2,_=>simp[Lib.occAt,List.isPrefixOf,hc']
 unfold Lib.cut;rw[hi,if_pos (by omega)]
 rfl
theorem zi4 {a c:UInt8} {n:Int} (h1:0≤plu a) (h2:0≤plu c) (h3:plu a≠plu c) (h4:-999999≤n) (h5:n≤999999):patm (a::45::c::60::61::Lib.itoa n)=some (plu a,plu c,n):=by
 unfold patm;rw[znb a c _ (zeD h1).2.1 (zeD h2).2.1];have hac:(a==c)=false:=by rw[beq_eq_false_iff_ne];intro e;subst e;exact h3 rfl
 simp only[List.length_cons,List.length_nil,List.getD_cons_zero,List.getD_cons_succ,hac,zi9 n h4 h5,zga];rw[if_neg (by decide),if_neg (by omega)]
theorem zi5 {l:List UInt8} {q:Atm} (h:patm l=some q):∃a c n,l=a::45::c::60::61::Lib.itoa n∧q=(plu a,plu c,n)∧0≤plu a∧0≤plu c∧plu a≠plu c∧-999999≤n∧n≤999999:=by
 unfold patm at h
 match hcut:Lib.cut l [60,61],h with
 | (sides,num,found),h =>
  simp only at h;split at h
  ·cases h
  ·rename_i h1
   cases hb:bndX num with
   | none=>rw[hb] at h;cases h
   | some n =>
    rw[hb] at h;simp only at h;split at h
    ·cases h
    ·rename_i h2
     simp only[Bool.or_eq_true,Bool.not_eq_true',bne_iff_ne,beq_eq_false_iff_ne,beq_iff_eq,not_or,ne_eq,Decidable.not_not,Bool.not_eq_false] at h1;obtain⟨⟨⟨f1,f2⟩,f3⟩,f4⟩:=h1;subst f1
     match sides,f2 with
     | [a,b,c],_ =>
      simp only[List.getD_cons_zero,List.getD_cons_succ] at f3 f4 h2 h;subst f3;obtain⟨i1,i2,i3⟩:=zja hb;have hl:=zgT hcut;rw[zga,zga] at h2 h;cases h
      refine⟨a,c,n,by rw[hl,i1];rfl,rfl,by omega,by omega,fun e=>f4 (zl9 (by omega) e),i2,i3⟩
theorem zkG (c:UInt8) (r:List UInt8):csym (c::r)=(sym (c::r)).map fun q=>(q.1,(c::r).drop q.2):=by
 simp only[csym,sym,zlu];split
 ·simp
 ·rename_i hm
  cases ha:atm (c::r) with
  | some q =>
   obtain⟨q,k⟩:=q;obtain⟨a,c',n,tail,hf,rfl,ht⟩:=zgS ha;obtain⟨hl,h1,h2,h3,h4,h5⟩:=hf;have hcut:Lib.cut (c::r) [46]=(a::45::c'::60::61::Lib.itoa n,tail,true):=by
    rw[hl];refine zmb (a::45::c'::60::61::Lib.itoa n) tail ?_;intro x hx;simp only[List.mem_cons] at hx;rcases hx with rfl|rfl|rfl|rfl|rfl|hx
    ·exact(zeD h1).1
    ·decide
    ·exact(zeD h2).1
    ·decide
    ·decide
    ·exact zma n h4 h5 x hx
   rw[hcut];simp only[if_true,zi4 h1 h2 h3 h4 h5,Option.map_some,ht]
  | none =>
   simp only[Option.map_none];split
   ·rename_i hc
    cases hp:patm (Lib.cut (c::r) [46]).1 with
    | none=>rfl
    | some q =>
     exfalso
     obtain⟨a,c',n,h0,rfl,h1,h2,h3,h4,h5⟩:=zi5 hp;have hb:=zgT (l:=c::r) (sep:=[46]) (x:=(Lib.cut (c::r) [46]).1) (y:=(Lib.cut (c::r) [46]).2.1) (by rw[←hc]);rw[h0] at hb;have hf:Form (c::r) a c' n (Lib.cut (c::r) [46]).2.1:=⟨hb.trans (by simp),h1,h2,h3,h4,h5⟩;obtain⟨k,hk,_⟩:=zkF hf;rw[ha] at hk;cases hk
   ·rfl
end Go.Proofs.YtkinoehmcfhgbaaGreatDoor.Vl
