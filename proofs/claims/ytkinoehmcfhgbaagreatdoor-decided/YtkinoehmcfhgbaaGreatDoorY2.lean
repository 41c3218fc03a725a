/- A part of the proof. -/
import Derived.Test.YtkinoehmcfhgbaaGreatDoorT7
set_option linter.unusedVariables false
set_option linter.unusedSimpArgs false
namespace Go.Proofs.YtkinoehmcfhgbaaGreatDoor.Vl
open Go.RowKit
structure PW (n hi p:Nat) (x:Pt):Prop where
 k0:0≤x.1
 k4:x.1≤4
 two:x.1=2∨x.1=3→∃s:Nat,x.2.1=(s:Int)∧p+1<s∧s<hi
 atm:x.1=4→∃a:Nat,x.2.2.1=(a:Int)∧a<n
 wnt:T3 x.2.2.2
 wn2:x.1=4→x.2.2.2=1∨x.2.2.2=2
def GW (n:Nat) (g:List Pt):Prop:=∀p x,g[p]?=some x→PW n g.length p x
theorem PW.more {n hi hi' p:Nat} {x:Pt} (h:PW n hi p x) (hh:hi≤hi'):PW n hi' p x :=
 ⟨h.k0,h.k4,fun e=>by obtain⟨s,h1,h2,h3⟩:=h.two e;exact⟨s,h1,h2,by omega⟩,h.atm,h.wnt,h.wn2⟩
theorem zkC:∀(us:List Atm) (a:Atm) (k:Int),a∈us→k≤nmb us a k∧nmb us a k<k+us.length
 | [],a,k,h=>absurd h List.not_mem_nil
 | x::r,a,k,h=>by
  rw[nmb];split
  ·simp only[List.length_cons];omega
  ·rename_i hne
   have:=zkC r a (k+1) (by rcases List.mem_cons.1 h with e|e;exact absurd e.symm hne;exact e);simp only[List.length_cons];omega
theorem zgc (us:List Atm):∀(k:Nat) (l:List Sym) (w:Int) (p:Nat) (m:Int),w=1∨w=2→WF m l→0<m→l.length≤k→(∀y∈l,y.1=6→y.2∈us) →
 ∀j x,(gad us k l w p).1[j]?=some x→PW us.length (p+(gad us k l w p).1.length) (p+j) x
 | 0,l,w,p,m,hw,hwf,hm,hl,hu=>by
  intro j x hx;simp[gad] at hx
 | k+1,[],w,p,m,hw,hwf,hm,hl,hu=>by
  intro j x hx;simp[gad] at hx
 | k+1,y::r,w,p,m,hw,hwf,hm,hl,hu=>by
  obtain⟨_,h0,h6,hr⟩:=hwf;have hw2:tnot w=1∨tnot w=2:=by rcases hw with rfl|rfl;exact Or.inr rfl;exact Or.inl rfl
  have hlr:r.length≤k:=by simp only[List.length_cons] at hl;omega
  have hur:∀y∈r,y.1=6→y.2∈us:=fun z hz=>hu z (List.mem_cons_of_mem _ hz)
  by_cases e2:y.1=2
  ·have e:gad us (k+1) (y::r) w p=gad us k r (tnot w) p:=by simp only[gad,if_pos e2]
   have hp:prt y.1=1:=by rw[e2];rfl
   rw[hp] at hr;rw[e];exact zgc us k r (tnot w) p m hw2 (by rw[show m=m+1-1 by omega];exact hr) hm hlr hur
  ·by_cases e6:y.1=6
   ·have e:gad us (k+1) (y::r) w p=([(4,0,nmb us y.2 0,w)],r):=by simp only[gad,if_neg e2,if_pos e6]
    rw[e];intro j x hx;cases j with
    | succ j=>simp at hx
    | zero =>
     obtain rfl:(4,0,nmb us y.2 0,w)=x:=by simpa using hx
     have hm:=zkC us y.2 0 (hu y List.mem_cons_self e6);exact⟨by dsimp only;omega,by dsimp only;omega,fun h=>by dsimp only at h;omega,fun _=>⟨(nmb us y.2 0).toNat,by show nmb us y.2 0=_;omega,by omega⟩,by rcases hw with rfl|rfl;exact Or.inr (Or.inl rfl);exact Or.inr (Or.inr rfl),fun _=>hw⟩
   ·by_cases e3:y.1=3∨y.1=4∨y.1=5
    ·have hp:prt y.1=2:=by rcases e3 with h|h|h<;>(rw[h];rfl)
     rw[hp] at hr;have hwf1:(if y.1=5 then tnot w else w)=1∨(if y.1=5 then tnot w else w)=2:=by split;exact hw2;exact hw
     have hwf2:WF (m+1) r:=by rw[show m+1=m+2-1 by omega];exact hr
     have I:=zgc us k r (if y.1=5 then tnot w else w) (p+1) (m+1) hwf1 hwf2 (by omega) hlr hur;obtain⟨i1,i2,i3,i4,_⟩:=zb6 us (fun _=>0) (fun _=>Or.inl rfl) [] (fun a _=>by simp) k r (if y.1=5 then tnot w else w) (p+1) (m+1) hwf1 hwf2 (by omega) hlr hur;have e:gad us (k+1) (y::r) w p=((kof y.1 w,((p+1+(gad us k r (if y.1=5 then tnot w else w) (p+1)).1.length:Nat):Int),0,0)::((gad us k r (if y.1=5 then tnot w else w) (p+1)).1++(gad us k (gad us k r (if y.1=5 then tnot w else w) (p+1)).2 w (p+1+(gad us k r (if y.1=5 then tnot w else w) (p+1)).1.length)).1), (gad us k (gad us k r (if y.1=5 then tnot w else w) (p+1)).2 w (p+1+(gad us k r (if y.1=5 then tnot w else w) (p+1)).1.length)).2):=by simp only[gad,if_neg e2,if_neg e6,if_pos e3]
     rw[e];generalize gad us k r (if y.1=5 then tnot w else w) (p+1)=G1 at *;have hm1:WF m G1.2:=by rw[show m=m+1-1 by omega];exact i1
     have J:=zgc us k G1.2 w (p+1+G1.1.length) m hw hm1 hm (by omega) (fun z hz=>hur z (i3 z hz));obtain⟨j1,j2,j3,j4,_⟩:=zb6 us (fun _=>0) (fun _=>Or.inl rfl) [] (fun a _=>by simp) k G1.2 w (p+1+G1.1.length) m hw hm1 hm (by omega) (fun z hz=>hur z (i3 z hz));generalize gad us k G1.2 w (p+1+G1.1.length)=G2 at *;have l1:0<G1.1.length:=List.length_pos_iff.2 i4;have l2:0<G2.1.length:=List.length_pos_iff.2 j4;dsimp only;intro j x hx;simp only[List.length_cons,List.length_append];cases j with
     | zero =>
      obtain rfl:(kof y.1 w,((p+1+G1.1.length:Nat):Int),0,0)=x:=by simpa using hx
      have hk:kof y.1 w=2∨kof y.1 w=3:=by
       rcases e3 with h|h|h<;>rcases hw with rfl|rfl<;>rw[h]<;>decide
      exact⟨by dsimp only;omega,by dsimp only;omega,fun _=>⟨_,rfl,by omega,by omega⟩,fun h=>by dsimp only at h;omega,Or.inl rfl,fun h=>by dsimp only at h;omega⟩
     | succ j =>
      rw[List.getElem?_cons_succ,List.getElem?_append] at hx;split at hx
      ·have:=(I j x hx).more (hi':=p+(G1.1.length+G2.1.length+1)) (by omega)
       rwa [show p+1+j=p+(j+1) by omega] at this
      ·have:=(J _ x hx).more (hi':=p+(G1.1.length+G2.1.length+1)) (by omega)
       rwa [show p+1+G1.1.length+(j-G1.1.length)=p+(j+1) by omega] at this
    ·have e:gad us (k+1) (y::r) w p=([(kof y.1 w,0,0,0)],r):=by simp only[gad,if_neg e2,if_neg e6,if_neg e3]
     rw[e];intro j x hx;cases j with
     | succ j=>simp at hx
     | zero =>
      obtain rfl:(kof y.1 w,0,0,0)=x:=by simpa using hx
      have hk:kof y.1 w=0∨kof y.1 w=1:=by
       have:y.1=0∨y.1=1:=by omega
       rcases this with h|h<;>rcases hw with rfl|rfl<;>rw[h]<;>decide
      exact⟨by dsimp only;omega,by dsimp only;omega,fun h=>by dsimp only at h;omega,fun h=>by dsimp only at h;omega,Or.inl rfl,fun h=>by dsimp only at h;omega⟩
theorem zhz (ats:List Int):∀(g:List Pt) (q p:Nat) (x:Pt),g[p]?=some x→(gtr ats q g)[p]?=some (gvl ats (q+p) ((gtr ats q g).drop (p+1)) x)
 | [],q,p,x,h=>by simp at h
 | y::r,q,0,x,h=>by
  obtain rfl:y=x:=by simpa using h
  simp[gtr]
 | y::r,q,p+1,x,h=>by
  have:=zhz ats r (q+1) p x (by simpa using h);simp only[gtr,List.getElem?_cons_succ,List.drop_succ_cons];rw[this,show q+1+p=q+(p+1) by omega]
theorem zby (F:List Int) (p:Nat):(F.drop p).headD 0=F.getD p 0:=by
 rw[List.headD_eq_head?_getD,List.head?_drop,List.getD_eq_getElem?_getD]
theorem zbR (F:List Int) (p s:Nat) (h:p≤s):(F.drop p).getD (s-p) 0=F.getD s 0:=by
 rw[List.getD_eq_getElem?_getD,List.getD_eq_getElem?_getD,List.getElem?_drop,show p+(s-p)=s by omega]
def gvf (ats F:List Int) (p:Nat) (x:Pt):Int :=
 if x.1=0 then 1 else if x.1=1 then 2 else if x.1=2 then tboth (F.getD (p+1) 0) (F.getD x.2.1.toNat 0) else if x.1=3 then teith (F.getD (p+1) 0) (F.getD x.2.1.toNat 0)
 else if x.2.2.2=2 then tnot (ats.getD x.2.2.1.toNat 0) else ats.getD x.2.2.1.toNat 0
theorem zcs (ats:List Int) {n:Nat} {g:List Pt} (hg:GW n g) (p:Nat) (x:Pt) (h:g[p]?=some x):(gtr ats 0 g).getD p 0=gvf ats (gtr ats 0 g) p x:=by
 rw[List.getD_eq_getElem?_getD,zhz ats g 0 p x h,Option.getD_some,Nat.zero_add];unfold gvl gvf;have hw:=hg p x h;by_cases h2:x.1=2
 ·obtain⟨s,e,h1,_⟩:=hw.two (Or.inl h2);have et:x.2.1.toNat=s:=by omega
  rw[et,zby,zbR _ _ _ (by omega)]
 ·by_cases h3:x.1=3
  ·obtain⟨s,e,h1,_⟩:=hw.two (Or.inr h3);have et:x.2.1.toNat=s:=by omega
   rw[et,zby,zbR _ _ _ (by omega)]
  ·simp only[if_neg h2,if_neg h3]
theorem zkX (t u:Int):T3 (teith t u):=zbj _
theorem zlT {ats F:List Int} (ha:∀t∈ats,T3 t) (p:Nat) (x:Pt):T3 (gvf ats F p x):=by
 have h0:∀i,T3 (ats.getD i 0):=fun i=>by
  rw[List.getD_eq_getElem?_getD];cases h:ats[i]? with
  | none=>exact Or.inl rfl
  | some t=>exact ha t (List.mem_of_getElem? h)
 unfold gvf
 repeat' split
 ·exact Or.inr (Or.inl rfl)
 ·exact Or.inr (Or.inr rfl)
 ·exact zek _ _
 ·exact zkX _ _
 ·exact zbj _
 ·exact h0 _
theorem zgd {ats:List Int} (ha:∀t∈ats,T3 t) {n:Nat} {g:List Pt} (hg:GW n g) (p:Nat):T3 ((gtr ats 0 g).getD p 0):=by
 cases h:g[p]? with
 | some x=>rw[zcs ats hg p x h];exact zlT ha p x
 | none =>
  rw[List.getD_eq_getElem?_getD,List.getElem?_eq_none (by rw[zeo];exact List.getElem?_eq_none_iff.1 h)];exact Or.inl rfl
def gwt (us:List Atm) (A:Nat→Int) (ats:List Int) (b:Bd) (n:Nat):Int:=if A n≠0 then 1 else 2+((brs b (us.getD n (0,0,0)) (ats.getD n 0)).length:Int)
def wvl (us:List Atm) (A:Nat→Int) (ats:List Int) (b:Bd) (parts:List Int) (p:Nat) (later:List Int) (x:Pt):Int :=
 if parts.getD p 0≠2 then 1073741824 else if x.1=2 then min (later.headD 0) (later.getD (x.2.1.toNat-(p+1)) 0) else if x.1=3 then IntKind.i64.wrap (later.headD 0+later.getD (x.2.1.toNat-(p+1)) 0)
 else if x.1=4 then gwt us A ats b x.2.2.1.toNat else 0
def wts (us:List Atm) (A:Nat→Int) (ats:List Int) (b:Bd) (parts:List Int):Nat→List Pt→List Int
 | _,[]=>[]
 | p,x::r=>wvl us A ats b parts p (wts us A ats b parts (p+1) r) x::wts us A ats b parts (p+1) r
theorem zfw (us:List Atm) (A:Nat→Int) (ats:List Int) (b:Bd) (parts:List Int):∀(g:List Pt) (p:Nat),(wts us A ats b parts p g).length=g.length
 | [],p=>rfl
 | x::r,p=>by simp[wts,zfw us A ats b parts r (p+1)]
theorem zhA (us:List Atm) (A:Nat→Int) (ats:List Int) (b:Bd) (parts:List Int):∀(g:List Pt) (q p:Nat) (x:Pt),g[p]?=some x→(wts us A ats b parts q g)[p]?=some (wvl us A ats b parts (q+p) ((wts us A ats b parts q g).drop (p+1)) x)
 | [],q,p,x,h=>by simp at h
 | y::r,q,0,x,h=>by
  obtain rfl:y=x:=by simpa using h
  simp[wts]
 | y::r,q,p+1,x,h=>by
  have:=zhA us A ats b parts r (q+1) p x (by simpa using h);simp only[wts,List.getElem?_cons_succ,List.drop_succ_cons];rw[this,show q+1+p=q+(p+1) by omega]
def wvf (us:List Atm) (A:Nat→Int) (ats:List Int) (b:Bd) (parts F:List Int) (p:Nat) (x:Pt):Int :=
 if parts.getD p 0≠2 then 1073741824 else if x.1=2 then min (F.getD (p+1) 0) (F.getD x.2.1.toNat 0) else if x.1=3 then IntKind.i64.wrap (F.getD (p+1) 0+F.getD x.2.1.toNat 0)
 else if x.1=4 then gwt us A ats b x.2.2.1.toNat else 0
theorem zge (us:List Atm) (A:Nat→Int) (ats:List Int) (b:Bd) (parts:List Int) {n:Nat} {g:List Pt} (hg:GW n g) (p:Nat) (x:Pt) (h:g[p]?=some x):(wts us A ats b parts 0 g).getD p 0=wvf us A ats b parts (wts us A ats b parts 0 g) p x:=by
 rw[List.getD_eq_getElem?_getD,zhA us A ats b parts g 0 p x h,Option.getD_some,Nat.zero_add];unfold wvl wvf;have hw:=hg p x h;by_cases h2:x.1=2
 ·obtain⟨s,e,h1,_⟩:=hw.two (Or.inl h2);have et:x.2.1.toNat=s:=by omega
  rw[et,zby,zbR _ _ _ (by omega)]
 ·by_cases h3:x.1=3
  ·obtain⟨s,e,h1,_⟩:=hw.two (Or.inr h3);have et:x.2.1.toNat=s:=by omega
   rw[et,zby,zbR _ _ _ (by omega)]
  ·simp only[if_neg h2,if_neg h3]
def rst (W:List Int) (p:Nat) (x:Pt) (s:List Bool×(Nat→Bool)):List Bool×(Nat→Bool) :=
 if s.1.getD p false=false then s
 else if x.1=2 then (if W.getD (p+1) 0≤W.getD x.2.1.toNat 0 then (s.1.set (p+1) true,s.2) else (s.1.set x.2.1.toNat true,s.2))
 else if x.1=3 then ((s.1.set (p+1) true).set x.2.1.toNat true,s.2)
 else if x.1=4 then (s.1,fun j=>s.2 j||j==x.2.2.1.toNat) else s
def rsn (W:List Int) (g:List Pt):Nat→List Bool×(Nat→Bool)
 | 0=>((List.replicate g.length false).set 0 true,fun _=>false)
 | i+1=>rst W i (g.getD i (0,0,0,0)) (rsn W g i)
theorem zcS (W:List Int) (g:List Pt):∀i,(rsn W g i).1.length=g.length
 | 0=>by simp[rsn]
 | i+1=>by
  have:=zcS W g i;simp only[rsn,rst]
  repeat' split
  all_goals simp[this]
def cyt (n:Nat) (l:List Nat):List UInt8:=33::(l.foldl (fun(s:List UInt8) (m:Nat)=>s++44::Lib.itoa (m:Int)) (Lib.itoa (n:Int))++[59])
def fst1 (us:List Atm) (A:Nat→Int) (ats:List Int) (b:Bd) (rs:Nat→Bool) (i:Nat) (s:List UInt8×(Nat→Bool)):List UInt8×(Nat→Bool) :=
 if rs i=false then s
 else if A i≠0 then (s.1,fun j=>s.2 j||j==i)
 else (if ats.getD i 0=1 then spt i s.1 (cyt i (brs b (us.getD i (0,0,0)) (ats.getD i 0))) else spt i (cyt i (brs b (us.getD i (0,0,0)) (ats.getD i 0))) s.1,
  fun j=>s.2 j||(brs b (us.getD i (0,0,0)) (ats.getD i 0)).contains j)
def fnl (us:List Atm) (A:Nat→Int) (ats:List Int) (b:Bd) (rs:Nat→Bool):Nat→List UInt8×(Nat→Bool)
 | 0=>([46],fun _=>false)
 | i+1=>fst1 us A ats b rs i (fnl us A ats b rs i)
def rsf (us:List Atm) (g:List Pt) (A:Nat→Int) (b:Bd):Nat→Bool:=(rsn (wts us A (lok us A b) b (gtr (lok us A b) 0 g) 0 g) g g.length).2
def finF (us:List Atm) (g:List Pt) (A:Nat→Int) (b:Bd):En :=
 ⟨0,(fnl us A (lok us A b) b (rsf us g A b) us.length).1,(fnl us A (lok us A b) b (rsf us g A b) us.length).2,(0,0,0,0)⟩
def twoF (n:Nat) (w:Int) (h o:En):En:=⟨0,if w=1 then spt n h.pf o.pf else spt n o.pf h.pf,fun j=>h.nd j||o.nd j,(0,0,0,0)⟩
abbrev sch (us:List Atm) (g:List Pt):=srch us g (finF us g) twoF
theorem zfx (n:Nat) (h f:List UInt8) (hn:n≤4000):(spt n h f).length≤h.length∨(spt n h f).length≤f.length∨(spt n h f).length≤400010:=by
 unfold spt;split
 ·exact Or.inl (Nat.le_refl _)
 ·split
  ·exact Or.inr (Or.inl (Nat.le_refl _))
  ·have hil:=zaU (n:=(n:Int)) (by omega) (by omega);simp only[List.length_cons,List.length_append];omega
inductive Wp (E:Eg):Nat→Nat→List Nat→List Nat→Int→Prop
 | nil (i:Nat):Wp E i i [] [i] 0
 | cons {k i j t:Nat} {n s:Int} {ks ns:List Nat}:E k i j n→Wp E j t ks ns s→Wp E i t (k::ks) (i::ns) (n+s)
theorem Wp.len {E:Eg} {i j:Nat} {p ns:List Nat} {s:Int} (w:Wp E i j p ns s):ns.length=p.length+1:=by
 induction w with
 | nil i=>rfl
 | cons e _ ih=>simp[ih]
theorem Wp.mono {E F:Eg} (h:∀k i j n,E k i j n→F k i j n) {i j:Nat} {p ns:List Nat} {s:Int} (w:Wp E i j p ns s):Wp F i j p ns s:=by
 induction w with
 | nil i=>exact .nil i
 | cons e _ ih=>exact .cons (h _ _ _ _ e) ih
theorem Wp.join {E:Eg} {i l r j num:Nat} {q o ns ms:List Nat} {x y n:Int} (w:Wp E i l q ns x) (e:E num l r n) (v:Wp E r j o ms y):Wp E i j (q++num::o) (ns++ms) (x+n+y):=by
 induction w with
 | nil i=>rw[Int.zero_add];exact .cons e v
 | @cons k i t l n' s ks ns e' w ih =>
  have:=Wp.cons e' (ih e);rw[show n'+s+n+y=n'+(s+n+y) by omega];exact this
theorem Wp.wk {E:Eg} {i j:Nat} {p ns:List Nat} {s:Int} (w:Wp E i j p ns s):Wk E i j p s:=by
 induction w with
 | nil i=>exact .nil i
 | cons e _ ih=>exact .cons e ih
theorem Wp.cut {E:Eg} {i j:Nat} {p ns:List Nat} {s:Int} (w:Wp E i j p ns s):∀z∈ns,∃p1 p2 s1 s2,Wk E i z p1 s1∧Wk E z j p2 s2∧s=s1+s2:=by
 induction w with
 | nil i=>intro z hz;rw[List.mem_singleton] at hz;subst hz;exact⟨[],[],0,0,.nil z,.nil z,rfl⟩
 | @cons k i j t n s ks ns e w ih =>
  intro z hz;rcases List.mem_cons.1 hz with rfl|hz
  ·exact⟨[],k::ks,0,n+s,.nil z,.cons e w.wk,by omega⟩
  ·obtain⟨p1,p2,s1,s2,h1,h2,h3⟩:=ih z hz;exact⟨k::p1,p2,n+s1,s2,.cons e h1,h2,by omega⟩
def BSim (E:Eg) (b:Bd):Prop:=∀i j m p,b i j=some (m,p)→∃ns,Wp E i j p ns m∧ns.Nodup
theorem zkY:BSim (fun _ _ _ _=>False) bno:=by
 intro i j m p h;unfold bno at h;split at h
 ·rename_i e;subst e;injection h with h;injection h with h1 h2;subst h1 h2;exact⟨[i],.nil i,by simp⟩
 ·cases h
theorem zhB {b:Bd} {l r:Nat} {n:Int} {num i j:Nat} {m:Int} {p:List Nat} (h:bwith b l r n num i j=some (m,p)):b i j=some (m,p)∨∃x y q o,b i l=some (x,q)∧b r j=some (y,o)∧m=x+n+y∧p=q++num::o∧∀m' q',b i j=some (m',q')→¬m'≤x+n+y:=by
 unfold bwith at h;split at h
 ·rename_i x q y o h1 h2
  split at h
  ·rename_i m' o' h3
   split at h
   ·injection h with h;injection h with e1 e2;subst e1 e2;exact Or.inl h3
   ·rename_i hn
    injection h with h;injection h with e1 e2;subst e1 e2
    exact Or.inr ⟨x,y,q,o,h1,h2,rfl,rfl,fun m'' q'' e=>by rw[h3] at e;injection e with e;injection e with e1 e2;subst e1;exact hn⟩
  ·rename_i h3
   injection h with h;injection h with e1 e2;subst e1 e2
   exact Or.inr ⟨x,y,q,o,h1,h2,rfl,rfl,fun m'' q'' e=>by rw[h3] at e;cases e⟩
 ·exact Or.inl h
theorem zhC {E:Eg} {b:Bd} (h:BOk E b) (hs:BSim E b) (num l r:Nat) (n:Int) (hc:∀m p,b r l=some (m,p)→0≤m+n):BSim (addE E num l r n) (bwith b l r n num):=by
 have mono:∀k i j m,E k i j m→addE E num l r n k i j m:=fun k i j m e=>Or.inl e
 intro i j m p e;rcases zhB e with e|⟨x,y,q,o,h1,h2,rfl,rfl,hnew⟩
 ·obtain⟨ns,w,d⟩:=hs i j m p e;exact⟨ns,w.mono mono,d⟩
 ·obtain⟨ns,w1,d1⟩:=hs _ _ _ _ h1;obtain⟨ms,w2,d2⟩:=hs _ _ _ _ h2;refine⟨ns++ms,(w1.mono mono).join (Or.inr ⟨rfl,rfl,rfl,rfl⟩) (w2.mono mono),List.nodup_append.2 ⟨d1,d2,fun z hz z' hz' e=>?_⟩⟩;subst e;obtain⟨p1,p2,s1,s2,a1,a2,a3⟩:=w1.cut z hz;obtain⟨p3,p4,t1,t2,c1,c2,c3⟩:=w2.cut z hz';obtain⟨m',q',f1,f2⟩:=h.least _ _ _ _ (a1.app c2);obtain⟨m'',q'',g1,g2⟩:=h.least _ _ _ _ (c1.app a2);have:=hc _ _ g1;exact hnew m' q' f1 (by omega)
theorem Wp.in5 {E:Eg} (hE:∀k i j n,E k i j n→i<5∧j<5) {i j:Nat} {p ns:List Nat} {s:Int} (w:Wp E i j p ns s):j<5→∀x∈ns,x<5:=by
 induction w with
 | nil i=>intro hj x hx;rw[List.mem_singleton] at hx;subst hx;exact hj
 | cons e _ ih =>
  intro hj x hx;rcases List.mem_cons.1 hx with rfl|hx
  ·exact(hE _ _ _ _ e).1
  ·exact ih hj x hx
theorem zgf {E:Eg} {b:Bd} (hs:BSim E b) (hE:∀k i j n,E k i j n→i<5∧j<5) {i j:Nat} {m:Int} {p:List Nat} (hj:j<5) (h:b i j=some (m,p)):p.length≤4:=by
 obtain⟨ns,w,d⟩:=hs i j m p h;have h1:=zdc 5 ns d (w.in5 hE hj);have h2:=w.len;omega
theorem zgP {t u:Int} (ht:T3 t) (hu:T3 u) (h:tboth t u=0):t=0∨u=0:=by rcases ht with rfl|rfl|rfl<;>rcases hu with rfl|rfl|rfl<;>first|exact Or.inl rfl|exact Or.inr rfl|exact absurd h (by decide)
theorem zgQ {t u:Int} (ht:T3 t) (hu:T3 u) (h:teith t u=0):t=0∨u=0:=by rcases ht with rfl|rfl|rfl<;>rcases hu with rfl|rfl|rfl<;>first|exact Or.inl rfl|exact Or.inr rfl|exact absurd h (by decide)
theorem zhD {t:Int} (ht:T3 t) (h:tnot t=0):t=0:=by rcases ht with rfl|rfl|rfl<;>first|rfl|exact absurd h (by decide)
theorem zeM {n:Nat} {g:List Pt} {ats:List Int} (hg:GW n g) (ha:∀t∈ats,T3 t) (h0:(gtr ats 0 g).headD 0=0) (hne:g≠[]) :
 ∃a:Nat,(pick0 g (gtr ats 0 g)).2.2.1=(a:Int)∧a<n∧((pick0 g (gtr ats 0 g)).2.2.2=1∨(pick0 g (gtr ats 0 g)).2.2.2=2)∧ats.getD a 0=0∧∃q:Nat,g[q]?=some (pick0 g (gtr ats 0 g)):=by
 have h3:=fun p=>zgd ha hg p
 have hl:0<g.length:=List.length_pos_iff.2 hne;have hv:∀p x,g[p]?=some x→(gtr ats 0 g).getD p 0=0→(x.1=4)∨((x.1=2∨x.1=3)∧p+1<g.length∧x.2.1.toNat<g.length∧p<x.2.1.toNat∧((gtr ats 0 g).getD (p+1) 0=0∨(gtr ats 0 g).getD x.2.1.toNat 0=0)):=by
  intro p x hx hp;rw[zcs ats hg p x hx] at hp;have hw:=hg p x hx;unfold gvf at hp;by_cases e0:x.1=0
  ·rw[if_pos e0] at hp;cases hp
  ·by_cases e1:x.1=1
   ·rw[if_neg e0,if_pos e1] at hp;cases hp
   ·by_cases e2:x.1=2
    ·rw[if_neg e0,if_neg e1,if_pos e2] at hp;obtain⟨s,es,s1,s2⟩:=hw.two (Or.inl e2);exact Or.inr ⟨Or.inl e2,by omega,by omega,by omega,zgP (h3 _) (h3 _) hp⟩
    ·by_cases e3:x.1=3
     ·rw[if_neg e0,if_neg e1,if_neg e2,if_pos e3] at hp;obtain⟨s,es,s1,s2⟩:=hw.two (Or.inr e3);exact Or.inr ⟨Or.inr e3,by omega,by omega,by omega,zgQ (h3 _) (h3 _) hp⟩
     ·have:=hw.k0;have:=hw.k4;exact Or.inl (by omega)
 obtain⟨q,q1,q2,q3⟩:=zbh (gtr ats 0 g) g hv g 0 ((List.replicate g.length (0:Int)).set 0 2) (0,0,0,0) false (fun j=>by rw[Nat.zero_add]) (by omega) (by simp)
  (Or.inr ⟨0,Nat.le_refl _,hl,by rw[List.headD_eq_head?_getD,List.head?_eq_getElem?] at h0;rw[List.getD_eq_getElem?_getD];exact h0,by rw[List.getD_eq_getElem?_getD,List.getElem?_set,if_pos rfl,if_pos (by simpa using hl)];decide⟩) (fun h=>by cases h)
 have hw:=hg q _ q1;obtain⟨a,a1,a2⟩:=hw.atm q3;refine⟨a,a1,a2,hw.wn2 q3,?_,q,q1⟩;rw[zcs ats hg q _ q1] at q2;unfold gvf at q2;have e3:(spk (gtr ats 0 g) 0 g ((List.replicate g.length (0:Int)).set 0 2) (0,0,0,0) false).1=4:=q3;rw[if_neg (by omega),if_neg (by omega),if_neg (by omega),if_neg (by omega)] at q2;have ea:(spk (gtr ats 0 g) 0 g ((List.replicate g.length (0:Int)).set 0 2) (0,0,0,0) false).2.2.1.toNat=a:=by
  have:(pick0 g (gtr ats 0 g)).2.2.1=(a:Int):=a1;unfold pick0 at this;omega
 rw[ea] at q2;have ht:T3 (ats.getD a 0):=by
  rw[List.getD_eq_getElem?_getD];cases h:ats[a]? with
  | none=>exact Or.inl rfl
  | some t=>exact ha t (List.mem_of_getElem? h)
 split at q2
 ·exact zhD ht q2
 ·exact q2
def EA (us:List Atm) (A:Nat→Int):Eg:=fun k i j n=>k<us.length∧A k≠0∧((ifA (us.getD k (0,0,0)) (A k)).1.toNat=i∧(ifA (us.getD k (0,0,0)) (A k)).2.1.toNat=j∧(ifA (us.getD k (0,0,0)) (A k)).2.2=n)
theorem BOk.congr {E F:Eg} {b:Bd} (h:BOk E b) (e:∀k i j n,E k i j n↔F k i j n):BOk F b :=
 ⟨fun i j m p hb=>(h.way i j m p hb).mono (fun k i j n=>(e k i j n).1),fun i j p s w=>h.least i j p s (w.mono (fun k i j n=>(e k i j n).2)),h.dia⟩
theorem BSim.congr {E F:Eg} {b:Bd} (h:BSim E b) (e:∀k i j n,E k i j n↔F k i j n):BSim F b:=fun i j m p hb=>by
 obtain⟨ns,w,d⟩:=h i j m p hb;exact⟨ns,w.mono (fun k i j n=>(e k i j n).1),d⟩
structure SI (us:List Atm) (A:Nat→Int) (b:Bd):Prop where
 ok:BOk (EA us A) b
 sim:BSim (EA us A) b
 t3:∀n,T3 (A n)
theorem SI.start (us:List Atm):SI us (fun _=>0) bno :=
 ⟨zma.congr (fun k i j n=>⟨fun h=>h.elim,fun h=>absurd rfl h.2.1⟩),zkY.congr (fun k i j n=>⟨fun h=>h.elim,fun h=>absurd rfl h.2.1⟩),fun _=>Or.inl rfl⟩
theorem zlU (b:Bd) (a:Atm):T3 (btr b a):=by
 unfold btr;split
 ·exact Or.inr (Or.inl rfl)
 ·split
  ·exact Or.inr (Or.inr rfl)
  ·exact Or.inl rfl
theorem zfy (us:List Atm) (A:Nat→Int) (b:Bd):(lok us A b).length=us.length:=by simp[lok]
theorem zcT {us:List Atm} (A:Nat→Int) (b:Bd) {i:Nat} (hi:i<us.length):(lok us A b).getD i 0=if A i≠0 then A i else btr b (us.getD i (0,0,0)):=by
 unfold lok;rw[List.getD_eq_getElem?_getD,List.getElem?_map,List.getElem?_range hi]
 rfl
theorem zcU {us:List Atm} {A:Nat→Int} (b:Bd) (hA:∀n,T3 (A n)):∀t∈lok us A b,T3 t:=by
 intro t ht;obtain⟨i,_,rfl⟩:=List.mem_map.1 ht;split
 ·exact hA i
 ·exact zlU _ _
theorem SI.step {us:List Atm} {A:Nat→Int} {b:Bd} (h:SI us A b) {n:Nat} (hn:n<us.length) (h0:(lok us A b).getD n 0=0) {t:Int} (ht:t=1∨t=2):SI us (setN A n t) (bwa b (us.getD n (0,0,0)) t n):=by
 rw[zcT A b hn] at h0;have hA:A n=0:=by
  by_cases e:A n=0
  ·exact e
  ·rw[if_pos e] at h0;exact h0
 rw[if_neg (by omega)] at h0;have htn:t≠0:=by omega
 have hE:∀k i j m,addE (EA us A) n (ifA (us.getD n (0,0,0)) t).1.toNat (ifA (us.getD n (0,0,0)) t).2.1.toNat (ifA (us.getD n (0,0,0)) t).2.2 k i j m↔EA us (setN A n t) k i j m:=by
  intro k i j m;unfold addE EA setN;by_cases e:k=n
  ·subst e;rw[if_pos rfl]
   constructor
   ·rintro(⟨_,h2,_⟩|⟨_,rfl,rfl,rfl⟩)
    ·exact absurd hA h2
    ·exact⟨hn,htn,rfl,rfl,rfl⟩
   ·rintro⟨_,_,rfl,rfl,rfl⟩;exact Or.inr ⟨rfl,rfl,rfl,rfl⟩
  ·rw[if_neg e]
   constructor
   ·rintro(h|⟨h,_⟩)
    ·exact h
    ·exact absurd h e
   ·exact Or.inl
 have hc:∀m p,b (ifA (us.getD n (0,0,0)) t).2.1.toNat (ifA (us.getD n (0,0,0)) t).1.toNat=some (m,p)→0≤m+(ifA (us.getD n (0,0,0)) t).2.2:=by
  intro m p hm;generalize us.getD n (0,0,0)=a at *;unfold btr at h0;split at h0
  ·cases h0
  ·rename_i k1
   split at h0
   ·cases h0
   ·rename_i k2
    rcases ht with rfl|rfl
    ·have e1:ifA a 1=a:=rfl;rw[e1] at hm ⊢;unfold bim at k2;rw[show ifA a 2=(a.2.1,a.1,-a.2.2-1) from rfl] at k2;dsimp only at k2;rw[hm] at k2;simp at k2;omega
    ·rw[show ifA a 2=(a.2.1,a.1,-a.2.2-1) from rfl] at hm ⊢;dsimp only at hm ⊢;unfold bim at k1;rw[hm] at k1;simp at k1;omega
 refine⟨(zjS h.ok n _ _ _ hc).congr hE,(zhC h.ok h.sim n _ _ _ hc).congr hE,fun k=>?_⟩;unfold setN;split
 ·rcases ht with rfl|rfl
  ·exact Or.inr (Or.inl rfl)
  ·exact Or.inr (Or.inr rfl)
 ·exact h.t3 k
end Go.Proofs.YtkinoehmcfhgbaaGreatDoor.Vl
