/- A part of the proof. -/
import Derived.Test.YtkinoehmcfhgbaaGreatDoorT7
set_option linter.unusedVariables false
set_option linter.unusedSimpArgs false
set_option maxRecDepth 100000
set_option maxHeartbeats 4000000
namespace Go.Proofs.YtkinoehmcfhgbaaGreatDoor.Vl
open Go.RowKit
structure PW (n hi p:Nat) (x:Pt):Prop where
 k0:0≤x.1
 k4:x.1≤4
 two:x.1=2∨x.1=3→∃s:Nat,x.2.1=(s:Int)∧p+1<s∧s<hi
 atm:x.1=4→∃a:Nat,x.2.2.1=(a:Int)∧a<n
 wnt:T3 x.2.2.2
 wn2:x.1=4→x.2.2.2=1∨x.2.2.2=2
def GW (n:Nat) (g:List Pt):Prop:=∀p x,g[p]?=some x→PW n g.length p x
theorem PW.more {n hi hi' p:Nat} {x:Pt} (h:PW n hi p x) (hh:hi≤hi'):PW n hi' p x :=
 ⟨h.k0,h.k4,fun e=>by obtain⟨s,h1,h2,h3⟩:=h.two e;exact⟨s,h1,h2,by omega⟩,h.atm,h.wnt,h.wn2⟩
theorem zlo:∀(us:List Atm) (a:Atm) (k:Int),a∈us→k≤nmb us a k∧nmb us a k<k+us.length
 | [],a,k,h=>absurd h List.not_mem_nil
 | x::r,a,k,h=>by
  rw[nmb];split
  ·simp only[List.length_cons];omega
  ·rename_i hne
   have:=zlo r a (k+1) (by rcases List.mem_cons.1 h with e|e;exact absurd e.symm hne;exact e);simp only[List.length_cons];omega
theorem zgC (us:List Atm):∀(k:Nat) (l:List Sym) (w:Int) (p:Nat) (m:Int),w=1∨w=2→WF m l→0<m→l.length≤k→(∀y∈l,y.1=6→y.2∈us) →
 ∀j x,(gad us k l w p).1[j]?=some x→PW us.length (p+(gad us k l w p).1.length) (p+j) x
 | 0,l,w,p,m,hw,hwf,hm,hl,hu=>by
  intro j x hx;simp[gad] at hx
 | k+1,[],w,p,m,hw,hwf,hm,hl,hu=>by
  intro j x hx;simp[gad] at hx
 | k+1,y::r,w,p,m,hw,hwf,hm,hl,hu=>by
  obtain⟨_,h0,h6,hr⟩:=hwf;have hw2:tnot w=1∨tnot w=2:=by rcases hw with rfl|rfl;exact Or.inr rfl;exact Or.inl rfl
  have hlr:r.length≤k:=by simp only[List.length_cons] at hl;omega
  have hur:∀y∈r,y.1=6→y.2∈us:=fun z hz=>hu z (List.mem_cons_of_mem _ hz)
  by_cases e2:y.1=2
  ·have e:gad us (k+1) (y::r) w p=gad us k r (tnot w) p:=by simp only[gad,if_pos e2]
   have hp:prt y.1=1:=by rw[e2];rfl
   rw[hp] at hr;rw[e];exact zgC us k r (tnot w) p m hw2 (by rw[show m=m+1-1 by omega];exact hr) hm hlr hur
  ·by_cases e6:y.1=6
   ·have e:gad us (k+1) (y::r) w p=([(4,0,nmb us y.2 0,w)],r):=by simp only[gad,if_neg e2,if_pos e6]
    rw[e];intro j x hx;cases j with
    | succ j=>simp at hx
    | zero =>
     obtain rfl:(4,0,nmb us y.2 0,w)=x:=by simpa using hx
     have hm:=zlo us y.2 0 (hu y List.mem_cons_self e6);exact⟨by dsimp only;omega,by dsimp only;omega,fun h=>by dsimp only at h;omega,fun _=>⟨(nmb us y.2 0).toNat,by show nmb us y.2 0=_;omega,by omega⟩,by rcases hw with rfl|rfl;exact Or.inr (Or.inl rfl);exact Or.inr (Or.inr rfl),fun _=>hw⟩
   ·by_cases e3:y.1=3∨y.1=4∨y.1=5
    ·have hp:prt y.1=2:=by rcases e3 with h|h|h<;>(rw[h];rfl)
     rw[hp] at hr;have hwf1:(if y.1=5 then tnot w else w)=1∨(if y.1=5 then tnot w else w)=2:=by split;exact hw2;exact hw
     have hwf2:WF (m+1) r:=by rw[show m+1=m+2-1 by omega];exact hr
     have I:=zgC us k r (if y.1=5 then tnot w else w) (p+1) (m+1) hwf1 hwf2 (by omega) hlr hur;obtain⟨i1,i2,i3,i4,_⟩:=zcg us (fun _=>0) (fun _=>Or.inl rfl) [] (fun a _=>by simp) k r (if y.1=5 then tnot w else w) (p+1) (m+1) hwf1 hwf2 (by omega) hlr hur;have e:gad us (k+1) (y::r) w p=((kof y.1 w,((p+1+(gad us k r (if y.1=5 then tnot w else w) (p+1)).1.length:Nat):Int),0,0)::((gad us k r (if y.1=5 then tnot w else w) (p+1)).1++(gad us k (gad us k r (if y.1=5 then tnot w else w) (p+1)).2 w (p+1+(gad us k r (if y.1=5 then tnot w else w) (p+1)).1.length)).1), (gad us k (gad us k r (if y.1=5 then tnot w else w) (p+1)).2 w (p+1+(gad us k r (if y.1=5 then tnot w else w) (p+1)).1.length)).2):=by simp only[gad,if_neg e2,if_neg e6,if_pos e3]
     rw[e];generalize gad us k r (if y.1=5 then tnot w else w) (p+1)=G1 at *;have hm1:WF m G1.2:=by rw[show m=m+1-1 by omega];exact i1
     have J:=zgC us k G1.2 w (p+1+G1.1.length) m hw hm1 hm (by omega) (fun z hz=>hur z (i3 z hz));obtain⟨j1,j2,j3,j4,_⟩:=zcg us (fun _=>0) (fun _=>Or.inl rfl) [] (fun a _=>by simp) k G1.2 w (p+1+G1.1.length) m hw hm1 hm (by omega) (fun z hz=>hur z (i3 z hz));generalize gad us k G1.2 w (p+1+G1.1.length)=G2 at *;have l1:0<G1.1.length:=List.length_pos_iff.2 i4;have l2:0<G2.1.length:=List.length_pos_iff.2 j4;dsimp only;intro j x hx;simp only[List.length_cons,List.length_append];cases j with
     | zero =>
      obtain rfl:(kof y.1 w,((p+1+G1.1.length:Nat):Int),0,0)=x:=by simpa using hx
      have hk:kof y.1 w=2∨kof y.1 w=3:=by
       rcases e3 with h|h|h<;>rcases hw with rfl|rfl<;>rw[h]<;>decide
      exact⟨by dsimp only;omega,by dsimp only;omega,fun _=>⟨_,rfl,by omega,by omega⟩,fun h=>by dsimp only at h;omega,Or.inl rfl,fun h=>by dsimp only at h;omega⟩
     | succ j =>
      rw[List.getElem?_cons_succ,List.getElem?_append] at hx;split at hx
      ·have:=(I j x hx).more (hi':=p+(G1.1.length+G2.1.length+1)) (by omega)
       rwa [show p+1+j=p+(j+1) by omega] at this
      ·have:=(J _ x hx).more (hi':=p+(G1.1.length+G2.1.length+1)) (by omega)
       rwa [show p+1+G1.1.length+(j-G1.1.length)=p+(j+1) by omega] at this
    ·have e:gad us (k+1) (y::r) w p=([(kof y.1 w,0,0,0)],r):=by simp only[gad,if_neg e2,if_neg e6,if_neg e3]
     rw[e];intro j x hx;cases j with
     | succ j=>simp at hx
     | zero =>
      obtain rfl:(kof y.1 w,0,0,0)=x:=by simpa using hx
      have hk:kof y.1 w=0∨kof y.1 w=1:=by
       have:y.1=0∨y.1=1:=by omega
       rcases this with h|h<;>rcases hw with rfl|rfl<;>rw[h]<;>decide
      exact⟨by dsimp only;omega,by dsimp only;omega,fun h=>by dsimp only at h;omega,fun h=>by dsimp only at h;omega,Or.inl rfl,fun h=>by dsimp only at h;omega⟩
theorem zia (ats:List Int):∀(g:List Pt) (q p:Nat) (x:Pt),g[p]?=some x→(gtr ats q g)[p]?=some (gvl ats (q+p) ((gtr ats q g).drop (p+1)) x)
 | [],q,p,x,h=>by simp at h
 | y::r,q,0,x,h=>by
  obtain rfl:y=x:=by simpa using h
  simp[gtr]
 | y::r,q,p+1,x,h=>by
  have:=zia ats r (q+1) p x (by simpa using h);simp only[gtr,List.getElem?_cons_succ,List.drop_succ_cons];rw[this,show q+1+p=q+(p+1) by omega]
theorem zbE (F:List Int) (p:Nat):(F.drop p).headD 0=F.getD p 0:=by
 rw[List.headD_eq_head?_getD,List.head?_drop,List.getD_eq_getElem?_getD]
theorem zb7 (F:List Int) (p s:Nat) (h:p≤s):(F.drop p).getD (s-p) 0=F.getD s 0:=by
 rw[List.getD_eq_getElem?_getD,List.getD_eq_getElem?_getD,List.getElem?_drop,show p+(s-p)=s by omega]
def gvf (ats F:List Int) (p:Nat) (x:Pt):Int :=
 if x.1=0 then 1 else if x.1=1 then 2 else if x.1=2 then tboth (F.getD (p+1) 0) (F.getD x.2.1.toNat 0) else if x.1=3 then teith (F.getD (p+1) 0) (F.getD x.2.1.toNat 0)
 else if x.2.2.2=2 then tnot (ats.getD x.2.2.1.toNat 0) else ats.getD x.2.2.1.toNat 0
theorem zcH (ats:List Int) {n:Nat} {g:List Pt} (hg:GW n g) (p:Nat) (x:Pt) (h:g[p]?=some x):(gtr ats 0 g).getD p 0=gvf ats (gtr ats 0 g) p x:=by
 rw[List.getD_eq_getElem?_getD,zia ats g 0 p x h,Option.getD_some,Nat.zero_add];unfold gvl gvf;have hw:=hg p x h;by_cases h2:x.1=2
 ·obtain⟨s,e,h1,_⟩:=hw.two (Or.inl h2);have et:x.2.1.toNat=s:=by omega
  rw[et,zbE,zb7 _ _ _ (by omega)]
 ·by_cases h3:x.1=3
  ·obtain⟨s,e,h1,_⟩:=hw.two (Or.inr h3);have et:x.2.1.toNat=s:=by omega
   rw[et,zbE,zb7 _ _ _ (by omega)]
  ·simp only[if_neg h2,if_neg h3]
theorem zlR (t u:Int):T3 (teith t u):=zbp _
theorem zmS {ats F:List Int} (ha:∀t∈ats,T3 t) (p:Nat) (x:Pt):T3 (gvf ats F p x):=by
 have h0:∀i,T3 (ats.getD i 0):=fun i=>by
  rw[List.getD_eq_getElem?_getD];cases h:ats[i]? with
  | none=>exact Or.inl rfl
  | some t=>exact ha t (List.mem_of_getElem? h)
 unfold gvf
 repeat' split
 ·exact Or.inr (Or.inl rfl)
 ·exact Or.inr (Or.inr rfl)
 ·exact zew _ _
 ·exact zlR _ _
 ·exact zbp _
 ·exact h0 _
theorem zgD {ats:List Int} (ha:∀t∈ats,T3 t) {n:Nat} {g:List Pt} (hg:GW n g) (p:Nat):T3 ((gtr ats 0 g).getD p 0):=by
 cases h:g[p]? with
 | some x=>rw[zcH ats hg p x h];exact zmS ha p x
 | none =>
  rw[List.getD_eq_getElem?_getD,List.getElem?_eq_none (by rw[zeA];exact List.getElem?_eq_none_iff.1 h)];exact Or.inl rfl
def gwt (us:List Atm) (A:Nat→Int) (ats:List Int) (b:Bd) (n:Nat):Int:=if A n≠0 then 1 else 2+((brs b (us.getD n (0,0,0)) (ats.getD n 0)).length:Int)
def wvl (us:List Atm) (A:Nat→Int) (ats:List Int) (b:Bd) (parts:List Int) (p:Nat) (later:List Int) (x:Pt):Int :=
 if parts.getD p 0≠2 then 1073741824 else if x.1=2 then min (later.headD 0) (later.getD (x.2.1.toNat-(p+1)) 0) else if x.1=3 then IntKind.i64.wrap (later.headD 0+later.getD (x.2.1.toNat-(p+1)) 0)
 else if x.1=4 then gwt us A ats b x.2.2.1.toNat else 0
def wts (us:List Atm) (A:Nat→Int) (ats:List Int) (b:Bd) (parts:List Int):Nat→List Pt→List Int
 | _,[]=>[]
 | p,x::r=>wvl us A ats b parts p (wts us A ats b parts (p+1) r) x::wts us A ats b parts (p+1) r
theorem zfQ (us:List Atm) (A:Nat→Int) (ats:List Int) (b:Bd) (parts:List Int):∀(g:List Pt) (p:Nat),(wts us A ats b parts p g).length=g.length
 | [],p=>rfl
 | x::r,p=>by simp[wts,zfQ us A ats b parts r (p+1)]
theorem zib (us:List Atm) (A:Nat→Int) (ats:List Int) (b:Bd) (parts:List Int):∀(g:List Pt) (q p:Nat) (x:Pt),g[p]?=some x→(wts us A ats b parts q g)[p]?=some (wvl us A ats b parts (q+p) ((wts us A ats b parts q g).drop (p+1)) x)
 | [],q,p,x,h=>by simp at h
 | y::r,q,0,x,h=>by
  obtain rfl:y=x:=by simpa using h
  simp[wts]
 | y::r,q,p+1,x,h=>by
  have:=zib us A ats b parts r (q+1) p x (by simpa using h);simp only[wts,List.getElem?_cons_succ,List.drop_succ_cons];rw[this,show q+1+p=q+(p+1) by omega]
def wvf (us:List Atm) (A:Nat→Int) (ats:List Int) (b:Bd) (parts F:List Int) (p:Nat) (x:Pt):Int :=
 if parts.getD p 0≠2 then 1073741824 else if x.1=2 then min (F.getD (p+1) 0) (F.getD x.2.1.toNat 0) else if x.1=3 then IntKind.i64.wrap (F.getD (p+1) 0+F.getD x.2.1.toNat 0)
 else if x.1=4 then gwt us A ats b x.2.2.1.toNat else 0
theorem zgE (us:List Atm) (A:Nat→Int) (ats:List Int) (b:Bd) (parts:List Int) {n:Nat} {g:List Pt} (hg:GW n g) (p:Nat) (x:Pt) (h:g[p]?=some x):(wts us A ats b parts 0 g).getD p 0=wvf us A ats b parts (wts us A ats b parts 0 g) p x:=by
 rw[List.getD_eq_getElem?_getD,zib us A ats b parts g 0 p x h,Option.getD_some,Nat.zero_add];unfold wvl wvf;have hw:=hg p x h;by_cases h2:x.1=2
 ·obtain⟨s,e,h1,_⟩:=hw.two (Or.inl h2);have et:x.2.1.toNat=s:=by omega
  rw[et,zbE,zb7 _ _ _ (by omega)]
 ·by_cases h3:x.1=3
  ·obtain⟨s,e,h1,_⟩:=hw.two (Or.inr h3);have et:x.2.1.toNat=s:=by omega
   rw[et,zbE,zb7 _ _ _ (by omega)]
  ·simp only[if_neg h2,if_neg h3]
def rst (W:List Int) (p:Nat) (x:Pt) (s:List Bool×(Nat→Bool)):List Bool×(Nat→Bool) :=
 if s.1.getD p false=false then s
 else if x.1=2 then (if W.getD (p+1) 0≤W.getD x.2.1.toNat 0 then (s.1.set (p+1) true,s.2) else (s.1.set x.2.1.toNat true,s.2))
 else if x.1=3 then ((s.1.set (p+1) true).set x.2.1.toNat true,s.2)
 else if x.1=4 then (s.1,fun j=>s.2 j||j==x.2.2.1.toNat) else s
def rsn (W:List Int) (g:List Pt):Nat→List Bool×(Nat→Bool)
 | 0=>((List.replicate g.length false).set 0 true,fun _=>false)
 | i+1=>rst W i (g.getD i (0,0,0,0)) (rsn W g i)
theorem zdf (W:List Int) (g:List Pt):∀i,(rsn W g i).1.length=g.length
 | 0=>by simp[rsn]
 | i+1=>by
  have:=zdf W g i;simp only[rsn,rst]
  repeat' split
  all_goals simp[this]
def cyt (n:Nat) (l:List Nat):List UInt8:=33::(l.foldl (fun(s:List UInt8) (m:Nat)=>s++44::Lib.itoa (m:Int)) (Lib.itoa (n:Int))++[59])
def fst1 (us:List Atm) (A:Nat→Int) (ats:List Int) (b:Bd) (rs:Nat→Bool) (i:Nat) (s:List UInt8×(Nat→Bool)):List UInt8×(Nat→Bool) :=
 if rs i=false then s
 else if A i≠0 then (s.1,fun j=>s.2 j||j==i)
 else (if ats.getD i 0=1 then spt i s.1 (cyt i (brs b (us.getD i (0,0,0)) (ats.getD i 0))) else spt i (cyt i (brs b (us.getD i (0,0,0)) (ats.getD i 0))) s.1,
  fun j=>s.2 j||(brs b (us.getD i (0,0,0)) (ats.getD i 0)).contains j)
def fnl (us:List Atm) (A:Nat→Int) (ats:List Int) (b:Bd) (rs:Nat→Bool):Nat→List UInt8×(Nat→Bool)
 | 0=>([46],fun _=>false)
 | i+1=>fst1 us A ats b rs i (fnl us A ats b rs i)
def rsf (us:List Atm) (g:List Pt) (A:Nat→Int) (b:Bd):Nat→Bool:=(rsn (wts us A (lok us A b) b (gtr (lok us A b) 0 g) 0 g) g g.length).2
def finF (us:List Atm) (g:List Pt) (A:Nat→Int) (b:Bd):En :=
 ⟨0,(fnl us A (lok us A b) b (rsf us g A b) us.length).1,(fnl us A (lok us A b) b (rsf us g A b) us.length).2,(0,0,0,0)⟩
def twoF (n:Nat) (w:Int) (h o:En):En:=⟨0,if w=1 then spt n h.pf o.pf else spt n o.pf h.pf,fun j=>h.nd j||o.nd j,(0,0,0,0)⟩
abbrev sch (us:List Atm) (g:List Pt):=srch us g (finF us g) twoF
theorem zfR (n:Nat) (h f:List UInt8) (hn:n≤4000):(spt n h f).length≤h.length∨(spt n h f).length≤f.length∨(spt n h f).length≤400010:=by
 unfold spt;split
 ·exact Or.inl (Nat.le_refl _)
 ·split
  ·exact Or.inr (Or.inl (Nat.le_refl _))
  ·have hil:=zaX (n:=(n:Int)) (by omega) (by omega);simp only[List.length_cons,List.length_append];omega
theorem zic {w:World} {base:Nat} {v:Value} {ats:List Atm} (h:w.ownsRow base 134 3 v ats.length (cells3 ats)) (hn:0<ats.length) :
 ∃g cap,v=.slice (some ⟨g,0,none⟩) ats.length cap∧base≤g∧g<w.heap.size∧∀j a,ats[j]?=some a→w.cell? ⟨g,j*3,none⟩=some (.int .i64 a.1)∧w.cell? ⟨g,j*3+1,none⟩=some (.int .i64 a.2.1)∧w.cell? ⟨g,j*3+2,none⟩=some (.int .i64 a.2.2):=by
 rcases h.2 with⟨h1,h2⟩|⟨g,cap,cur,hv,hg,hh,h3,h4,h5,h6⟩
 ·omega
 ·refine⟨g,cap,hv,hg,(Array.getElem?_eq_some_iff.1 hh).1,fun j a ha=>?_⟩;have hc:=zco ats j a ha;have e:∀i u,(cells3 ats)[i]?=some u→w.cell? ⟨g,i,none⟩=some u:=by
   intro i u hu;rw[←h6,List.getElem?_take] at hu;split at hu
   ·have:cur[i]?=some u:=by simpa using hu
    simp[World.cell?,hh,this]
   ·cases hu
  exact⟨e _ _ hc.1,e _ _ hc.2.1,e _ _ hc.2.2⟩
def prv (ats:List Atm) (j:Nat):Atm:=if j=0 then ats.getLastD (0,0,0) else ats.getD (j-1) (0,0,0)
theorem zke (ats:List Atm) (j:Nat) (a:Atm) (h:ats[j]?=some a):chn (prv ats j) (ats.drop j)=((prv ats j).2.1==a.1&&chn (prv ats (j+1)) (ats.drop (j+1))):=by
 have hl:=(List.getElem?_eq_some_iff.1 h).1;have e:ats.drop j=a::ats.drop (j+1):=by
  rw[List.drop_eq_getElem_cons hl]
  congr 1
  rw[List.getElem?_eq_getElem hl] at h;exact Option.some.inj h
 have e2:prv ats (j+1)=a:=by
  unfold prv;rw[if_neg (by omega),show j+1-1=j by omega,List.getD_eq_getElem?_getD,h];rfl
 rw[e,e2];rfl
theorem zgF (ats:List Atm) (j:Nat) (a:Atm) (h:ats[j]?=some a):smB (ats.take (j+1))=smB (ats.take j)+a.2.2:=by
 unfold smB;rw[List.take_add_one,h];simp
theorem zhn {w0:World} {b mb:Nat} {vW:Value} {ys:List Sym} {q:Option Addr} {cap:Nat} {us:List Atm} {n:Nat} {f:Atm→Int} (w:World) (l:List UInt8) (h:KS w0 w b mb vW ys q cap us l n f) (hgl:Gl w0) (hl:l.length≤200000) (hN:us.length≤4000) (hok:∀a∈us,okA a) (hf3:∀a,T3 (f a)) (hbd:∀ats r,lks us f (l.length+1) l=some (ats,r)→∀a∈ats,-1000000≤a.2.2∧a.2.2≤1000000) :
 Calls Tryz.prog 125 #[.pointer (some ⟨b,0,none⟩)] w fun e w'=>FrK b mb w w'∧∃l',KS w0 w' b mb vW ys q cap us l' n f ∧
  ((∃ats r,lks us f (l.length+1) l=some (ats,r)∧l'=r∧e=.returned (.bool (cyc ats)))∨(lks us f (l.length+1) l=none∧e=.returned (.bool false))):=by
 have hlen:∀ats r,lks us f (l.length+1) l=some (ats,r)→ats≠[]∧ats.length≤200000:=fun ats r he=>by
  obtain⟨_,h1,h2⟩:=zez _ _ _ _ he;exact⟨h1,by omega⟩
 have CA:Hid _:=zdR w l h hgl hl hN hok hf3;have hbw:=h.kn.lt;have hmw:=h.am.lt;have HLN:Hid _:=hlen;have HBD:Hid _:=hbd;clear h hlen hbd hf3 hok;go_enter Tryz.func125,Tryz.ntmps125;go_wp2_with fail;refine Calls.mono CA.out ?_;rintro e w1 ⟨hf1,v,l',hk1,hcs⟩;rcases hcs with⟨ats,r,hlk,rfl,rfl,hown⟩|⟨hlk,rfl⟩
 ·obtain⟨hne,hal⟩:=HLN.out _ _ hlk;have hpos:0<ats.length:=List.length_pos_iff.2 hne;obtain⟨g,vc,rfl,hg1,hg2,hcells⟩:=zic hown hpos;have hlast:ats[ats.length-1]?=some (prv ats 0):=by
   unfold prv;rw[if_pos rfl,List.getLastD_eq_getLast?,List.getLast?_eq_getElem?];rw[List.getElem?_eq_getElem (by omega)];rfl
  obtain⟨z0,z1,z2⟩:=hcells _ _ hlast;have HCE:Hid _:=hcells;have HK1:Hid (KS w0 w1 b mb vW ys q cap us l' n f):=hk1;have HF1:Hid (FrK b mb w w1):=hf1;have HB:Hid _:=HBD.out _ _ hlk;have HLK:Hid (lks us f (l.length+1) l=some (ats,l')):=hlk;have hsub:IntKind.i64.wrap ((ats.length:Int)-1)=((ats.length-1:Nat):Int):=by rw[IntWalk.i64_in _ (by omega)];omega
  have hidx:((ats.length-1:Nat):Int)<(ats.length:Int):=by omega
  clear hown hk1 hf1 hcells hlk hlast;obtain⟨⟨p1,p2,p3⟩,hpr⟩:∃p,prv ats 0=p:=⟨_,rfl⟩
  rw[hpr] at z0 z1 z2;have HPR:Hid (prv ats 0=(p1,p2,p3)):=hpr;clear hpr;dsimp only at z0 z1 z2;go_wp2_with fail;go_region;go_wp2_with fail;have hX0:Below w1.heap.size w1 (w1.alloc (.cells #[.int .i64 p1,.int .i64 p2,.int .i64 p3] 134)).drew:=(zaa _ _).drew;have hL0:(w1.alloc (.cells #[.int .i64 p1,.int .i64 p2,.int .i64 p3] 134)).drew.heap[w1.heap.size]?=some (.cells #[.int .i64 p1,.int .i64 p2,.int .i64 p3] 134 (0,0)):=heap_alloc_new _ _;clear z0 z1 z2;have HB2:Hid (∀(j:Nat) (a:Atm),ats[j]?=some a→-1000000≤a.2.2∧a.2.2≤1000000):=fun j a ha=>HB.out a (List.mem_of_getElem? ha)
  have HSB:Hid (∀j,j≤ats.length→-1000000*(j:Int)≤smB (ats.take j)∧smB (ats.take j)≤1000000*(j:Int)):=fun j=>by
   induction j with
   | zero=>intro _;simp[smB]
   | succ j ih =>
    intro hj;have:=ih (by omega);obtain⟨a,ha⟩:∃a,ats[j]?=some a:=⟨_,List.getElem?_eq_getElem (by omega)⟩
    have hb:=HB2.out j a ha;rw[zgF ats j a ha]
    constructor<;>(push_cast;omega)
  go_loopw [5,8,24] (fun s5 s8 s24 wr=>∃(j:Nat) (o1 o2 o3:Int),j≤ats.length∧s24=.int .i64 (j:Int)∧s5=.int .i64 (smB (ats.take j))∧chn (prv ats 0) ats=chn (prv ats j) (ats.drop j)∧prv ats j=(o1,o2,o3)∧wr.heap[w1.heap.size]?=some (.cells #[.int .i64 o1,.int .i64 o2,.int .i64 o3] 134 (0,0))∧Below w1.heap.size w1 wr) (fun _ _ s24 _=>ats.length-(intOf s24).toNat)
  case atStart=>exact⟨0,p1,p2,p3,Nat.zero_le _,rfl,rfl,rfl,HPR.out,hL0,hX0⟩
  case round =>
   obtain⟨j,o1,o2,o3,hj,rfl,rfl,hch,hpv,hLb,hbr⟩:=hrel;have HCH:Hid _:=hch;have HPV:Hid (prv ats j=(o1,o2,o3)):=hpv;have hsj:=HSB.out j hj;clear hch hpv;by_cases hlt:j<ats.length
   ·obtain⟨⟨a1,a2,a3⟩,ha⟩:∃a,ats[j]?=some a:=⟨_,List.getElem?_eq_getElem hlt⟩
    obtain⟨y0,y1,y2⟩:=HCE.out j _ ha;dsimp only at y0 y1 y2;have b3:=HB2.out j _ ha;dsimp only at b3;have hST:=zgF ats j _ ha;dsimp only at hST;have hCD:=zke ats j _ ha;rw[HPV.out] at hCD;dsimp only at hCD;have x0:=(hbr.cell (p:=⟨g,j*3,none⟩) hg2).trans y0;have x1:=(hbr.cell (p:=⟨g,j*3+1,none⟩) hg2).trans y1;have x2:=(hbr.cell (p:=⟨g,j*3+2,none⟩) hg2).trans y2;have hlt':(j:Int)<(ats.length:Int):=by omega
    have hsb:=hbr.size;have hLlt:w1.heap.size<wr.heap.size:=(Array.getElem?_eq_some_iff.1 hLb).1;have q0:(wr.alloc (.cells #[.int .i64 a1,.int .i64 a2,.int .i64 a3] 134)).cell? ⟨w1.heap.size,0,none⟩=some (.int .i64 o1):=((zaa wr _).cell (p:=⟨w1.heap.size,0,none⟩) hLlt).trans (by simp[World.cell?,hLb]);have q1:(wr.alloc (.cells #[.int .i64 a1,.int .i64 a2,.int .i64 a3] 134)).cell? ⟨w1.heap.size,1,none⟩=some (.int .i64 o2):=((zaa wr _).cell (p:=⟨w1.heap.size,1,none⟩) hLlt).trans (by simp[World.cell?,hLb]);have q2:(wr.alloc (.cells #[.int .i64 a1,.int .i64 a2,.int .i64 a3] 134)).cell? ⟨w1.heap.size,2,none⟩=some (.int .i64 o3):=((zaa wr _).cell (p:=⟨w1.heap.size,2,none⟩) hLlt).trans (by simp[World.cell?,hLb]);have qh:(wr.alloc (.cells #[.int .i64 a1,.int .i64 a2,.int .i64 a3] 134)).heap[w1.heap.size]?=some (.cells #[.int .i64 o1,.int .i64 o2,.int .i64 o3] 134 (0,0)):=(Below.heap_alloc _ _ _ hLlt).trans hLb;have qf:∀o,(wr.alloc (.cells #[.int .i64 a1,.int .i64 a2,.int .i64 a3] 134)).frozen? ⟨w1.heap.size,o,none⟩=false:=fun o=>Lib.frozen_of_heap qh o
    have qf0:=qf 0;have qf1:=qf 1;have qf2:=qf 2;have hwr:IntKind.i64.wrap (smB (ats.take j)+a3)=smB (ats.take j)+a3:=IntWalk.i64_in _ (by omega);have hbe:Below w1.heap.size w1 (wr.alloc (.cells #[.int .i64 a1,.int .i64 a2,.int .i64 a3] 134)):=hbr.alloc hsb _;have HQH:Hid _:=qh;have HBE:Hid _:=hbe;have HSJ:Hid (smB (ats.take (j+1))=smB (ats.take j)+a3):=hST;have HCD:Hid (chn (o1,o2,o3) (ats.drop j)=(o2==a1&&chn (prv ats (j+1)) (ats.drop (j+1)))):=hCD;have HPN:Hid (prv ats (j+1)=(a1,a2,a3)):=by
     show _=_
     unfold prv;rw[if_neg (by omega),show j+1-1=j by omega,List.getD_eq_getElem?_getD,ha];rfl
    clear qf hLb qh hbe hST hCD ha y0 y1 y2;generalize smB (ats.take j)=SM at *;cases heq:(o2==a1)
    ·have hnq:o2≠a1:=by simpa using heq
     have hnq2:(o2 != a1)=true:=by simpa using hnq
     go_wp2_with fail;go_ret;refine⟨HF1.out.trans (.of_below HBE.out),_,HK1.out.below HBE.out,Or.inl ⟨ats,_,HLK.out,rfl,?_⟩⟩;have:cyc ats=false:=by
      unfold cyc;rw[show ats.getLastD (0,0,0)=prv ats 0 from rfl,HCH.out,HPV.out,HCD.out,heq];rfl
     rw[this];rfl
    ·have hnq2:(o2 != a1)=false:=by rw[bne,heq];rfl
     have hth:(wr.alloc (.cells #[.int .i64 a1,.int .i64 a2,.int .i64 a3] 134)).there w1.heap.size 0 3:=fun i hi=>by
      match i,hi with
      | 0,_=>exact⟨by rw[q0];rfl,qf0⟩
      | 1,_=>exact⟨by rw[q1];rfl,qf1⟩
      | 2,_=>exact⟨by rw[q2];rfl,qf2⟩
     clear q2 qf0 qf1 qf2;have h1c:(#[Value.int .i64 a1,.int .i64 a2,.int .i64 a3]:Array Value).all (·.oneCell')=true:=by simp[Value.oneCell']
     go_wp2_with (refine wpList_store_mid rfl 134 (.tmp 6) (.tmp 37) rfl w1.heap.size 0 #[.int .i64 a1,.int .i64 a2,.int .i64 a3] rfl rfl ?_ ?_ ?_ ?_;(exact hth);(exact Tryz.sizeLAtm);(exact h1c))
     refine⟨⟨j+1,a1,a2,a3,by omega,by push_cast;rfl,by rw[HSJ.out],?_,HPN.out,?_,?_⟩,?_⟩
     ·rw[HCH.out,HPV.out,HCD.out,heq];rfl
     ·exact heap_setCell_same _ _ 2 _ _ _ (heap_setCell_same _ _ 1 _ _ _ (heap_setCell_same _ _ 0 _ _ _ HQH.out))
     ·exact((HBE.out.setCell (p:=⟨w1.heap.size,0,none⟩) (Nat.le_refl _) _).setCell (p:=⟨w1.heap.size,1,none⟩) (Nat.le_refl _) _).setCell (p:=⟨w1.heap.size,2,none⟩) (Nat.le_refl _) _
     ·simp only[intOf];omega
   ·have hlt':¬(j:Int)<(ats.length:Int):=by omega
    have hje:j=ats.length:=by omega
    subst hje;rw[List.take_length] at *;go_wp2_with fail;go_ret;refine⟨HF1.out.trans (.of_below hbr),_,HK1.out.below hbr,Or.inl ⟨ats,_,HLK.out,rfl,?_⟩⟩;have:cyc ats=decide (smB ats<0):=by
     unfold cyc;rw[show ats.getLastD (0,0,0)=prv ats 0 from rfl,HCH.out,List.drop_length];rfl
    rw[this];rfl
 ·go_wp2_with fail;go_ret;exact⟨hf1,l',hk1,Or.inr ⟨hlk,rfl⟩⟩
theorem zlp {us:List Atm} {f:Atm→Int} (hok:∀a∈us,okA a):∀(k:Nat) (l:List UInt8) (ats:List Atm) (r:List UInt8),lks us f k l=some (ats,r)→∀a∈ats,-1000000≤a.2.2∧a.2.2≤1000000
 | 0,l,ats,r,h=>by cases h
 | k+1,l,ats,r,h=>by
  unfold lks at h;split at h
  ·cases h
  ·cases h
  ·rename_i n c r' hf
   have hn:=(zlt hf).1;have ho:=zeT hok n hn;have hb:-1000000≤(ifA (us.getD n (0,0,0)) (f (us.getD n (0,0,0)))).2.2∧(ifA (us.getD n (0,0,0)) (f (us.getD n (0,0,0)))).2.2≤1000000:=by
    unfold okA at ho;unfold ifA;split<;>first|omega|(dsimp only;omega)
   split at h
   ·cases h
   ·split at h
    ·obtain⟨⟨ats',r2⟩,h2,h3⟩:=Option.map_eq_some_iff.1 h;injection h3 with h4 h5
     subst h4 h5;intro a ha;rcases List.mem_cons.1 ha with rfl|ha
     ·exact hb
     ·exact zlp hok k r' ats' r2 h2 a ha
    ·split at h
     ·injection h with h
      injection h with h4 h5
      subst h4 h5;intro a ha;rcases List.mem_cons.1 ha with rfl|ha
      ·exact hb
      ·cases ha
     ·cases h
def spl (us:List Atm) (ys:List Sym) (k:Nat) (f:Atm→Int) (r:List UInt8):Option (List UInt8) :=
 match fig us.length r with
 | none=>none
 | some (n,[])=>none
 | some (n,d::r1)=>if f (us.getD n (0,0,0))=0∧d=58 then
  (match chk us ys k (putA f (us.getD n (0,0,0)) 1) r1 with | none=>none | some r2=>chk us ys k (putA f (us.getD n (0,0,0)) 2) r2)
  else none
theorem zlS (us:List Atm) (ys:List Sym) (k:Nat) (f:Atm→Int) (r:List UInt8):chk us ys (k+1) f (46::r)=if (trun f ys).headD 0=1 then some r else none:=by simp[chk]
theorem zkf (us:List Atm) (ys:List Sym) (k:Nat) (f:Atm→Int) (r:List UInt8):chk us ys (k+1) f (33::r)=(match lks us f (r.length+1) r with|some (ats,r')=>if cyc ats then some r' else none|none=>none):=by simp[chk];rfl
theorem zlT (us:List Atm) (ys:List Sym) (k:Nat) (f:Atm→Int) (r:List UInt8):chk us ys (k+1) f (63::r)=spl us ys k f r:=by simp[chk,spl];rfl
def PE (w0 w:World) (b mb:Nat) (vW:Value) (ys:List Sym) (q:Option Addr) (cap:Nat) (us:List Atm) (m:Nat) (f:Atm→Int) (res:Option (List UInt8)):Ending→World→Prop:=fun e w' =>
 FrK b mb w w'∧∃l' n' f',KS w0 w' b mb vW ys q cap us l' n' f'∧((∃r,res=some r∧l'=r∧f'=f∧n'+r.length≤m∧e=.returned (.bool true))∨(res=none∧e=.returned (.bool false)))
theorem zcR {c:UInt8} {l:List UInt8} (h:is1 c l=true):∃r,l=c::r∧tk1 c l=r:=by
 cases l with
 | nil=>simp[is1] at h
 | cons d r=>simp[is1] at h;subst h;exact⟨r,rfl,by simp[tk1]⟩
theorem zlq {c:UInt8} {l:List UInt8} (h:is1 c l=false):tk1 c l=l:=by
 cases l with
 | nil=>rfl
 | cons d r=>simp[is1] at h;simp[tk1,h]
theorem zid {w0:World} {b mb:Nat} {vW:Value} {s:ByteArray} {ys:List Sym} {q:Option Addr} {cap:Nat} {us:List Atm} {n:Nat} {f:Atm→Int} (hp:pars s=some ys) (w:World) (k:Nat) (l:List UInt8) (h:KS w0 w b mb vW ys q cap us l n f) (hgl:Gl w0) (hl:l.length≤200000) (hN:us.length≤4000) (hok:∀a∈us,okA a) (hf3:∀a,T3 (f a))
 (hsp:∀W r,r.length<l.length→KS w0 W b mb vW ys q cap us r n f→Calls Tryz.prog 126 #[.pointer (some ⟨b,0,none⟩)] W (PE w0 W b mb vW ys q cap us (n+1+r.length) f (spl us ys k f r))) :
 Calls Tryz.prog 86 #[.pointer (some ⟨b,0,none⟩)] w (PE w0 w b mb vW ys q cap us (n+l.length) f (chk us ys (k+1) f l)):=by
 have HSP:Hid _:=hsp;obtain⟨T,hT⟩:∃T,(trun f ys).headD 0=T:=⟨_,rfl⟩
 have HT:Hid ((trun f ys).headD 0=T):=hT;have HSE:Hid (∀W r,KS w0 W b mb vW ys q cap us r n f→Calls Tryz.prog 124 #[vW,.map (some mb)] W fun e w'=>e=.returned (.int .i8 T)∧Below W.heap.size W w'):=fun W r hk=>hT ▸ zf1 hp vW mb n f hf3 W hk.c.sw hk.am
 have HCY:Hid (∀W r,r.length≤200000→KS w0 W b mb vW ys q cap us r n f→Calls Tryz.prog 125 #[.pointer (some ⟨b,0,none⟩)] W fun e w'=>FrK b mb W w'∧∃l',KS w0 w' b mb vW ys q cap us l' n f ∧
  ((∃ats r',lks us f (r.length+1) r=some (ats,r')∧l'=r'∧e=.returned (.bool (cyc ats)))∨(lks us f (r.length+1) r=none∧e=.returned (.bool false)))):=fun W r hr hk=>zhn W r hk hgl hr hN hok hf3 (fun ats r' he=>zlp hok _ _ _ _ he)
 have TK:Hid _:=fun(c:UInt8)=>takeK h c hl
 clear hsp h hf3 hok hp hT;go_enter Tryz.func86,Tryz.ntmps86;go_wp2_with fail;refine Calls.mono (TK.out 46) ?_;rintro e w1 ⟨rfl,K1,F1⟩;cases h1:is1 46 l
 ·rw[zlq h1] at K1;have HF1:Hid (FrK b mb w w1):=F1;have HK1:Hid (KS w0 w1 b mb vW ys q cap us l n f):=K1;clear F1 K1 TK;go_wp2_with fail;refine Calls.mono (takeK HK1.out 33 hl) ?_;rintro e w2 ⟨rfl,K2,F2⟩;cases h2:is1 33 l
  ·rw[zlq h2] at K2;have HF2:Hid (FrK b mb w w2):=HF1.out.trans F2;have HK2:Hid (KS w0 w2 b mb vW ys q cap us l n f):=K2;clear F2 K2 HK1 HF1;go_wp2_with fail;refine Calls.mono (takeK HK2.out 63 hl) ?_;rintro e w3 ⟨rfl,K3,F3⟩;cases h3:is1 63 l
   ·have HF3:Hid (FrK b mb w w3):=HF2.out.trans F3;have HK3:Hid (KS w0 w3 b mb vW ys q cap us (tk1 63 l) n f):=K3;have HC:Hid (chk us ys (k+1) f l=none):=by
     show _=_
     cases l with
     | nil=>rfl
     | cons d r =>
      simp[is1] at h1 h2 h3;simp[chk,h1,h2,h3]
    clear F3 K3 HK2 HF2 h1 h2 h3;go_wp2_with fail;go_ret;exact⟨HF3.out,_,_,_,HK3.out,Or.inr ⟨HC.out,rfl⟩⟩
   ·obtain⟨r,rfl,er⟩:=zcR h3;rw[er] at K3;have HF3:Hid (FrK b mb w w3):=HF2.out.trans F3;have HK3:Hid (KS w0 w3 b mb vW ys q cap us r n f):=K3;clear F3 K3 HK2 HF2 h1 h2 h3 er;rw[zlT];go_wp2_with fail;refine Calls.mono (HSP.out _ r (by simp) HK3.out) ?_;rintro e w4 ⟨F4,l',n',f',K4,⟨r',e1,e2,e3,e4,rfl⟩|⟨e1,rfl⟩⟩
    ·have HX:Hid (PE w0 w b mb vW ys q cap us (n+(63::r).length) f (spl us ys k f r) (.returned (.bool true)) w4):=⟨HF3.out.trans F4,l',n',f',K4,Or.inl ⟨r',e1,e2,e3,by simp only[List.length_cons];omega,rfl⟩⟩;clear F4 K4 e1 e2 e3 e4;go_wp2_with fail;go_ret;exact HX.out
    ·have HX:Hid (PE w0 w b mb vW ys q cap us (n+(63::r).length) f (spl us ys k f r) (.returned (.bool false)) w4):=⟨HF3.out.trans F4,l',n',f',K4,Or.inr ⟨e1,rfl⟩⟩;clear F4 K4 e1;go_wp2_with fail;go_ret;exact HX.out
  ·obtain⟨r,rfl,er⟩:=zcR h2;rw[er] at K2;have HF2:Hid (FrK b mb w w2):=HF1.out.trans F2;have HK2:Hid (KS w0 w2 b mb vW ys q cap us r n f):=K2;clear F2 K2 HK1 HF1 h1 h2 er;rw[zkf];go_wp2_with fail;refine Calls.mono (HCY.out _ r (by simp only[List.length_cons] at hl;omega) HK2.out) ?_;rintro e w4 ⟨F4,l',K4,⟨ats,r',e1,e2,rfl⟩|⟨e1,rfl⟩⟩
   ·have hr':=(zez _ _ _ _ e1).1;have HX:Hid (PE w0 w b mb vW ys q cap us (n+(33::r).length) f (match lks us f (r.length+1) r with|some (ats,r')=>if cyc ats then some r' else none|none=>none) (.returned (.bool (cyc ats))) w4):=by
     show PE _ _ _ _ _ _ _ _ _ _ _ _ _ _
     rw[e1];dsimp only;refine⟨HF2.out.trans F4,l',n,f,K4,?_⟩;cases hc:cyc ats
     ·exact Or.inr ⟨by simp,rfl⟩
     ·exact Or.inl ⟨r',by simp,e2,rfl,by simp only[List.length_cons];omega,rfl⟩
    clear F4 K4 e1 e2;generalize cyc ats=C at *;go_wp2_with fail;go_ret;exact HX.out
   ·have HX:Hid (PE w0 w b mb vW ys q cap us (n+(33::r).length) f (match lks us f (r.length+1) r with|some (ats,r')=>if cyc ats then some r' else none|none=>none) (.returned (.bool false)) w4):=by
     show PE _ _ _ _ _ _ _ _ _ _ _ _ _ _
     rw[e1];exact⟨HF2.out.trans F4,l',n,f,K4,Or.inr ⟨rfl,rfl⟩⟩
    clear F4 K4 e1;go_wp2_with fail;go_ret;exact HX.out
 ·obtain⟨r,rfl,er⟩:=zcR h1;rw[er] at K1;obtain⟨c0,_,_,c3⟩:=K1.kn.cells;have HF1:Hid (FrK b mb w w1):=F1;have HK1:Hid (KS w0 w1 b mb vW ys q cap us r n f):=K1;clear F1 K1 TK h1 er;have HKD:Hid (KS w0 w1.drew b mb vW ys q cap us r n f):=HK1.out.below (Below.refl _ _).drew;go_wp2_with fail;go_region_with (first|(go_at_call 124;refine Calls.mono (HSE.out _ r HKD.out) ?_;rintro e w4 ⟨rfl,hb4⟩))
  all_goals
   have K4:=HKD.out.below hb4;have HX:Hid (PE w0 w b mb vW ys q cap us (n+(46::r).length) f (if T=1 then some r else none) (.returned (.bool (T==1))) w4):=by
    refine⟨(HF1.out.trans (.of_below (Below.refl _ _).drew)).trans (.of_below hb4),r,n,f,K4,?_⟩;by_cases hT1:T=1
    ·subst hT1;exact Or.inl ⟨r,by simp,rfl,rfl,by simp only[List.length_cons];omega,rfl⟩
    ·exact Or.inr ⟨by simp[hT1],by simp[hT1]⟩
   clear K4 hb4;go_wp2_with fail;go_ret;rw[zlS,HT.out];exact HX.out
def spl1 (us:List Atm) (ys:List Sym) (k:Nat) (f:Atm→Int) (a:Atm):List UInt8→Option (List UInt8)
 | []=>none
 | d::r1=>if f a=0∧d=58 then
  (match chk us ys k (putA f a 1) r1 with | none=>none | some r2=>chk us ys k (putA f a 2) r2)
  else none
theorem zkg {us:List Atm} {ys:List Sym} {k:Nat} {f:Atm→Int} {r:List UInt8} (h:fig us.length r=none):spl us ys k f r=none:=by unfold spl;rw[h]
theorem zkh {us:List Atm} {ys:List Sym} {k i:Nat} {f:Atm→Int} {r r1:List UInt8} (h:fig us.length r=some (i,r1)):spl us ys k f r=spl1 us ys k f (us.getD i (0,0,0)) r1:=by
 unfold spl;rw[h];cases r1<;>rfl
theorem putA3 {f:Atm→Int} (h:∀a,T3 (f a)) (a:Atm) {t:Int} (ht:T3 t):∀x,T3 (putA f a t x):=fun x=>by unfold putA;split;exact ht;exact h x
theorem zie {f:Atm→Int} {a:Atm} (h:f a=0) (t:Int):putA (putA f a t) a 0=f:=by
 funext x;unfold putA;by_cases e:x=a
 ·subst e;simp[h]
 ·simp[e]
theorem zho (f:Atm→Int) (a:Atm) (t u:Int):putA (putA f a t) a u=putA f a u:=by
 funext x;unfold putA;by_cases e:x=a<;>simp[e]
theorem KS.put {w0 w:World} {b mb:Nat} {vW:Value} {ys:List Sym} {q:Option Addr} {cap:Nat} {us:List Atm} {l:List UInt8} {n:Nat} {f:Atm→Int} (h:KS w0 w b mb vW ys q cap us l n f) (a1 a2 a3:Int) (ha:okA (a1,a2,a3)) (t:Int) (ht:T3 t) (hn:n≤200000) :
 ∃w',(Instr.mapUpdate 170 (.map (some mb)) (.agg #[.int .i64 a1,.int .i64 a2,.int .i64 a3]) (.int .i8 t)).run Tryz.prog w=.ok () w'∧KS w0 w' b mb vW ys q cap us l (n+1) (putA f (a1,a2,a3) t)∧FrK b mb w w':=by
 obtain⟨w',h1,h2,h3⟩:=AM.put h.am (a1,a2,a3) ha t ht (Nat.lt_of_le_of_lt hn (by decide));exact⟨w',h1,⟨h.c.fr (.of_m h3),h.kn.kept h3 (fun e=>h.c.hbm (by injection e)),h2⟩,.of_m h3⟩
theorem KS.del {w0 w:World} {b mb:Nat} {vW:Value} {ys:List Sym} {q:Option Addr} {cap:Nat} {us:List Atm} {l:List UInt8} {n:Nat} {f:Atm→Int} (h:KS w0 w b mb vW ys q cap us l n f) (a1 a2 a3:Int) (ha:okA (a1,a2,a3)) (ty:TypeId) :
 ∃w',(Builtin.delete_ #[170,134] ty #[.map (some mb),.agg #[.int .i64 a1,.int .i64 a2,.int .i64 a3]]).run Tryz.prog w=.ok (.tuple #[]) w'∧KS w0 w' b mb vW ys q cap us l n (putA f (a1,a2,a3) 0)∧FrK b mb w w':=by
 obtain⟨w',h1,h2,h3⟩:=AM.del h.am (a1,a2,a3) ha ty;exact⟨w',h1,⟨h.c.fr (.of_m h3),h.kn.kept h3 (fun e=>h.c.hbm (by injection e)),h2⟩,.of_m h3⟩
end Go.Proofs.YtkinoehmcfhgbaaGreatDoor.Vl
