/- A part of the proof. -/
import Derived.Test.YtkinoehmcfhgbaaGreatDoorY2
set_option linter.unusedVariables false
set_option linter.unusedSimpArgs false
namespace Go.Proofs.YtkinoehmcfhgbaaGreatDoor.Vl
open Go.RowKit
inductive Tr (g:List Pt):Nat→Nat→Prop
 | leaf {p:Nat} {x:Pt}:g[p]?=some x→x.1≠2→x.1≠3→Tr g p 1
 | node {p l1 l2:Nat} {x:Pt}:g[p]?=some x→(x.1=2∨x.1=3)→Tr g (p+1) l1→x.2.1=((p+1+l1:Nat):Int)→Tr g (p+1+l1) l2→Tr g p (1+l1+l2)
theorem zl2 {k w:Int} (h:k=0∨k=1) (hw:w=1∨w=2):kof k w≠2∧kof k w≠3:=by
 rcases h with rfl|rfl<;>rcases hw with rfl|rfl<;>decide
theorem zk6 {k w:Int} (h:k=3∨k=4∨k=5) (hw:w=1∨w=2):kof k w=2∨kof k w=3:=by
 rcases h with rfl|rfl|rfl<;>rcases hw with rfl|rfl<;>decide
theorem zcG (us:List Atm):∀(k:Nat) (l:List Sym) (w:Int) (p:Nat) (m:Int),w=1∨w=2→WF m l→0<m→l.length≤k→(∀y∈l,y.1=6→y.2∈us) →
 ∀g:List Pt,(∀j x,(gad us k l w p).1[j]?=some x→g[p+j]?=some x)→Tr g p (gad us k l w p).1.length
 | 0,l,w,p,m,hw,hwf,hm,hl,hu=>by
  cases l with
  | nil=>have:m=0:=hwf;omega
  | cons y r=>simp at hl
 | k+1,[],w,p,m,hw,hwf,hm,hl,hu=>by have:m=0:=hwf;omega
 | k+1,y::r,w,p,m,hw,hwf,hm,hl,hu=>by
  obtain⟨_,h0,h6,hr⟩:=hwf;have hw2:tnot w=1∨tnot w=2:=by rcases hw with rfl|rfl;exact Or.inr rfl;exact Or.inl rfl
  have hlr:r.length≤k:=by simp only[List.length_cons] at hl;omega
  have hur:∀y∈r,y.1=6→y.2∈us:=fun z hz=>hu z (List.mem_cons_of_mem _ hz)
  intro g hg;by_cases e2:y.1=2
  ·have e:gad us (k+1) (y::r) w p=gad us k r (tnot w) p:=by simp only[gad,if_pos e2]
   have hp:prt y.1=1:=by rw[e2];rfl
   rw[hp] at hr;rw[e] at hg ⊢;exact zcG us k r (tnot w) p m hw2 (by rw[show m=m+1-1 by omega];exact hr) hm hlr hur g hg
  ·by_cases e6:y.1=6
   ·have e:gad us (k+1) (y::r) w p=([(4,0,nmb us y.2 0,w)],r):=by simp only[gad,if_neg e2,if_pos e6]
    rw[e] at hg ⊢;exact Tr.leaf (hg 0 _ rfl) (by simp) (by simp)
   ·by_cases e3:y.1=3∨y.1=4∨y.1=5
    ·have hp:prt y.1=2:=by rcases e3 with h|h|h<;>(rw[h];rfl)
     rw[hp] at hr;have hwf1:(if y.1=5 then tnot w else w)=1∨(if y.1=5 then tnot w else w)=2:=by split;exact hw2;exact hw
     have hwf2:WF (m+1) r:=by rw[show m+1=m+2-1 by omega];exact hr
     have I:=zcG us k r (if y.1=5 then tnot w else w) (p+1) (m+1) hwf1 hwf2 (by omega) hlr hur;obtain⟨i1,i2,i3,i4,_⟩:=zb6 us (fun _=>0) (fun _=>Or.inl rfl) [] (fun _ _=>rfl) k r (if y.1=5 then tnot w else w) (p+1) (m+1) hwf1 hwf2 (by omega) hlr hur;have e:gad us (k+1) (y::r) w p=((kof y.1 w,((p+1+(gad us k r (if y.1=5 then tnot w else w) (p+1)).1.length:Nat):Int),0,0)::((gad us k r (if y.1=5 then tnot w else w) (p+1)).1++(gad us k (gad us k r (if y.1=5 then tnot w else w) (p+1)).2 w (p+1+(gad us k r (if y.1=5 then tnot w else w) (p+1)).1.length)).1), (gad us k (gad us k r (if y.1=5 then tnot w else w) (p+1)).2 w (p+1+(gad us k r (if y.1=5 then tnot w else w) (p+1)).1.length)).2):=by simp only[gad,if_neg e2,if_neg e6,if_pos e3]
     rw[e] at hg ⊢;have J:=zcG us k (gad us k r (if y.1=5 then tnot w else w) (p+1)).2 w (p+1+(gad us k r (if y.1=5 then tnot w else w) (p+1)).1.length) m hw (by rw[show m=m+1-1 by omega];exact i1) hm (by omega) (fun z hz=>hur z (i3 z hz));generalize gad us k r (if y.1=5 then tnot w else w) (p+1)=G1 at *;generalize gad us k G1.2 w (p+1+G1.1.length)=G2 at *;dsimp only at hg ⊢;have t1:=I g (fun j x hx=>by
      have:=hg (j+1) x (by rw[List.getElem?_cons_succ,List.getElem?_append_left (List.getElem?_eq_some_iff.1 hx).1];exact hx);rw[show p+1+j=p+(j+1) by omega];exact this)
     have t2:=J g (fun j x hx=>by
      have:=hg (G1.1.length+j+1) x (by rw[List.getElem?_cons_succ,List.getElem?_append_right (by omega),show G1.1.length+j-G1.1.length=j by omega];exact hx);rw[show p+1+G1.1.length+j=p+(G1.1.length+j+1) by omega];exact this)
     have:=Tr.node (hg 0 _ rfl) (zk6 e3 hw) t1 rfl t2;rw[show((kof y.1 w,((p+1+G1.1.length:Nat):Int),0,0)::(G1.1++G2.1):List Pt).length=1+G1.1.length+G2.1.length by simp only[List.length_cons,List.length_append];omega];exact this
    ·have hq:y.1=0∨y.1=1:=by omega
     have e:gad us (k+1) (y::r) w p=([(kof y.1 w,0,0,0)],r):=by simp only[gad,if_neg e2,if_neg e6,if_neg e3]
     rw[e] at hg ⊢;obtain⟨n2,n3⟩:=zl2 hq hw;exact Tr.leaf (hg 0 _ rfl) n2 n3
theorem Tr.at {g:List Pt} {p len:Nat} (h:Tr g p len):∀j,p≤j→j<p+len→∃l,Tr g j l∧j+l≤p+len:=by
 induction h with
 | @leaf p x h1 h2 h3 =>
  intro j hj1 hj2;obtain rfl:j=p:=by omega
  exact⟨1,.leaf h1 h2 h3,by omega⟩
 | @node p l1 l2 x h1 h2 t1 h3 t2 i1 i2 =>
  intro j hj1 hj2;by_cases e:j=p
  ·subst e;exact⟨_,.node h1 h2 t1 h3 t2,by omega⟩
  ·by_cases e2:j<p+1+l1
   ·obtain⟨l,a,b⟩:=i1 j (by omega) e2;exact⟨l,a,by omega⟩
   ·obtain⟨l,a,b⟩:=i2 j (by omega) (by omega);exact⟨l,a,by omega⟩
theorem Tr.pos {g:List Pt} {p len:Nat} (h:Tr g p len):0<len:=by cases h<;>omega
theorem zbY {t u:Int}:tboth t u=2↔t=2∨u=2:=by
 unfold tboth;split
 ·simp_all
 ·rename_i h
  split
  ·simp_all
  ·simp_all
theorem zei {t:Int}:tnot t=2↔t=1:=by
 unfold tnot;split
 ·simp_all
 ·split<;>simp_all
theorem zej {t:Int}:tnot t=1↔t=2:=by
 unfold tnot;split
 ·rename_i h;subst h;decide
 ·split<;>simp_all
theorem zhZ {t u:Int}:tboth t u=1↔t=1∧u=1:=by
 unfold tboth;split
 ·rename_i h;constructor
  ·intro h;cases h
  ·rintro⟨rfl,rfl⟩;simp at h
 ·split<;>simp_all
theorem zcX {t u:Int}:teith t u=2↔t=2∧u=2:=by
 unfold teith;rw[zei,zhZ,zej,zej]
theorem zbZ (us:List Atm) (A:Nat→Int) (ats:List Int) (b:Bd) {g:List Pt} (hg:GW us.length g) {p:Nat} (hp:p<g.length) (h:(gtr ats 0 g).getD p 0≠2):(wts us A ats b (gtr ats 0 g) 0 g).getD p 0=1073741824:=by
 obtain⟨y,hy⟩:∃y,g[p]?=some y:=⟨_,List.getElem?_eq_getElem hp⟩
 rw[zge us A ats b _ hg _ y hy];unfold wvf;rw[if_pos h]
theorem zh0 (us:List Atm) (A:Nat→Int) (ats:List Int) (b:Bd) {g:List Pt} (hg:GW us.length g) (hgl:g.length≤8000) (hby:∀i,i<us.length→(brs b (us.getD i (0,0,0)) (ats.getD i 0)).length≤4000) {p len:Nat} (t:Tr g p len):p+len≤g.length→(gtr ats 0 g).getD p 0=2→0≤(wts us A ats b (gtr ats 0 g) 0 g).getD p 0∧(wts us A ats b (gtr ats 0 g) 0 g).getD p 0≤5000*(len:Int):=by
 induction t with
 | @leaf p x h1 h2 h3 =>
  intro hl hp;rw[zge us A ats b _ hg p x h1];unfold wvf;rw[if_neg (by omega),if_neg h2,if_neg h3];split
  ·rename_i h4
   obtain⟨a,ea,ha⟩:=(hg p x h1).atm h4;rw[ea];unfold gwt;have:=hby a ha;split
   ·omega
   ·rw[Int.toNat_natCast];omega
  ·omega
 | @node p l1 l2 x h1 h2 t1 h3 t2 i1 i2 =>
  intro hl hp;have hp':=hp;rw[zcs ats hg p x h1] at hp';unfold gvf at hp';have es:x.2.1.toNat=p+1+l1:=by omega
  rw[zge us A ats b _ hg p x h1];unfold wvf;rw[if_neg (by omega),es];rw[es] at hp';rcases h2 with h2|h2
  ·rw[if_pos h2];rw[if_neg (by omega),if_neg (by omega),if_pos h2] at hp';have hW:∀q,(wts us A ats b (gtr ats 0 g) 0 g).getD q 0=(wts us A ats b (gtr ats 0 g) 0 g).getD q 0:=fun _=>rfl
   rcases zbY.1 hp' with h|h
   ·have:=i1 (by omega) h;by_cases h':(gtr ats 0 g).getD (p+1+l1) 0=2
    ·have:=i2 (by omega) h';omega
    ·have t2':=zbZ us A ats b hg (p:=p+1+l1) (by have:=t2.pos;omega) h';omega
   ·have:=i2 (by omega) h;by_cases h':(gtr ats 0 g).getD (p+1) 0=2
    ·have:=i1 (by omega) h';omega
    ·have t2':=zbZ us A ats b hg (p:=p+1) (by have:=t1.pos;omega) h';omega
  ·rw[if_neg (by omega),if_pos h2];rw[if_neg (by omega),if_neg (by omega),if_neg (by omega),if_pos h2] at hp';obtain⟨e1,e2⟩:=zcX.1 hp';have a1:=i1 (by omega) e1;have a2:=i2 (by omega) e2;generalize (wts us A ats b (gtr ats 0 g) 0 g).getD (p+1) 0=x1 at *;generalize (wts us A ats b (gtr ats 0 g) 0 g).getD (p+1+l1) 0=x2 at *;have:IntKind.i64.wrap (x1+x2)=x1+x2:=by
    simp[IntKind.wrap,IntKind.bits,IntKind.signed];omega
   rw[this];omega
theorem zaS (l:List Bool) (i:Nat) (q:Nat):(l.set i true).getD q false=true↔(i=q∧q<l.length)∨l.getD q false=true:=by
 rw[List.getD_eq_getElem?_getD,List.getD_eq_getElem?_getD,List.getElem?_set];by_cases e:i=q
 ·subst e;rw[if_pos rfl];by_cases h:i<l.length
  ·simp[h]
  ·simp[h]
 ·rw[if_neg e];simp[e]
theorem zaV {W:List Int} {p:Nat} {x:Pt} {s:List Bool×(Nat→Bool)} {q:Nat}:(rst W p x s).1.getD q false=true↔s.1.getD q false=true∨(q<s.1.length∧s.1.getD p false=true∧((x.1=2∧q=(if W.getD (p+1) 0≤W.getD x.2.1.toNat 0 then p+1 else x.2.1.toNat))∨(x.1=3∧(q=p+1∨q=x.2.1.toNat)))):=by
 unfold rst;split
 ·rename_i h
  constructor
  ·exact Or.inl
  ·rintro(h'|⟨_,h',_⟩)
   ·exact h'
   ·rw[h] at h';cases h'
 ·rename_i h
  have h':s.1.getD p false=true:=by simpa using h
  split
  ·rename_i h2
   split
   ·rename_i hw
    rw[zaS]
    constructor
    ·rintro(⟨e,e2⟩|e)
     ·exact Or.inr ⟨e2,h',Or.inl ⟨h2,e.symm⟩⟩
     ·exact Or.inl e
    ·rintro(e|⟨a,_,⟨_,e⟩|⟨e,_⟩⟩)
     ·exact Or.inr e
     ·exact Or.inl ⟨e.symm,a⟩
     ·omega
   ·rename_i hw
    rw[zaS]
    constructor
    ·rintro(⟨e,e2⟩|e)
     ·exact Or.inr ⟨e2,h',Or.inl ⟨h2,e.symm⟩⟩
     ·exact Or.inl e
    ·rintro(e|⟨a,_,⟨_,e⟩|⟨e,_⟩⟩)
     ·exact Or.inr e
     ·exact Or.inl ⟨e.symm,a⟩
     ·omega
  ·rename_i h2
   split
   ·rename_i h3
    rw[zaS,zaS,List.length_set]
    constructor
    ·rintro(⟨e,e2⟩|⟨e,e2⟩|e)
     ·exact Or.inr ⟨e2,h',Or.inr ⟨h3,Or.inr e.symm⟩⟩
     ·exact Or.inr ⟨e2,h',Or.inr ⟨h3,Or.inl e.symm⟩⟩
     ·exact Or.inl e
    ·rintro(e|⟨a,_,⟨e,_⟩|⟨_,e|e⟩⟩)
     ·exact Or.inr (Or.inr e)
     ·omega
     ·exact Or.inr (Or.inl ⟨e.symm,a⟩)
     ·exact Or.inl ⟨e.symm,a⟩
   ·rename_i h3
    constructor
    ·intro e;refine Or.inl ?_;split at e<;>exact e
    ·rintro(e|⟨_,_,⟨e,_⟩|⟨e,_⟩⟩)
     ·split<;>exact e
     ·exact absurd e h2
     ·exact absurd e h3
theorem zcY {W:List Int} {p:Nat} {x:Pt} {s:List Bool×(Nat→Bool)} {q:Nat}:(rst W p x s).2 q=true↔s.2 q=true∨(s.1.getD p false=true∧x.1=4∧q=x.2.2.1.toNat):=by
 unfold rst;split
 ·rename_i h
  constructor
  ·exact Or.inl
  ·rintro(h'|⟨h',_⟩)
   ·exact h'
   ·rw[h] at h';cases h'
 ·rename_i h
  have h':s.1.getD p false=true:=by simpa using h
  split
  ·rename_i h2
   split<;>exact⟨Or.inl,fun h=>h.elim id (fun h=>by omega)⟩
  ·split
   ·exact⟨Or.inl,fun h=>h.elim id (fun h=>by omega)⟩
   ·split
    ·rename_i h4
     dsimp only;rw[Bool.or_eq_true,beq_iff_eq]
     constructor
     ·rintro(h|h)
      ·exact Or.inl h
      ·exact Or.inr ⟨h',h4,h⟩
     ·rintro(h|⟨_,_,h⟩)
      ·exact Or.inl h
      ·exact Or.inr h
    ·rename_i h4
     exact⟨Or.inl,fun h=>h.elim id (fun h=>by omega)⟩
section
variable {us:List Atm} {A:Nat→Int} {ats:List Int} {b:Bd} {g:List Pt} {W:List Int}
theorem zkF {i j:Nat} (hij:i≤j) {q:Nat} (h:(rsn W g i).1.getD q false=true):(rsn W g j).1.getD q false=true:=by
 induction hij with
 | refl=>exact h
 | step _ ih=>rw[rsn];exact zaV.2 (Or.inl ih)
theorem zk7 {i j:Nat} (hij:i≤j) {q:Nat} (h:(rsn W g i).2 q=true):(rsn W g j).2 q=true:=by
 induction hij with
 | refl=>exact h
 | step _ ih=>rw[rsn];exact zcY.2 (Or.inl ih)
theorem zfD {i:Nat} (h:i<g.length):g[i]?=some (g.getD i (0,0,0,0)):=by
 rw[List.getD_eq_getElem?_getD,List.getElem?_eq_getElem h];rfl
theorem zjz {n:Nat} (hg:GW n g) {p:Nat}:∀i,p≤i→i≤g.length→(rsn W g i).1.getD p false=true→(rsn W g p).1.getD p false=true:=by
 intro i hpi
 induction hpi with
 | refl=>intro _ h;exact h
 | @step m hm ih =>
  intro hl h;have hm':p≤m:=hm;rw[rsn] at h;have hw:=hg m _ (zfD (by omega));rcases zaV.1 h with h|⟨_,_,⟨h2,e⟩|⟨h3,e⟩⟩
  ·exact ih (by omega) h
  ·obtain⟨s,es,s1,_⟩:=hw.two (Or.inl h2)
   exfalso
   split at e<;>omega
  ·obtain⟨s,es,s1,_⟩:=hw.two (Or.inr h3)
   exfalso
   omega
theorem zb0 (hg:GW us.length g) (hgl:g.length≤8000) (ht:Tr g 0 g.length) (hby:∀i,i<us.length→(brs b (us.getD i (0,0,0)) (ats.getD i 0)).length≤4000) (h0:(gtr ats 0 g).getD 0 0=2) :
 ∀i,i≤g.length→(∀p,(rsn (wts us A ats b (gtr ats 0 g) 0 g) g i).1.getD p false=true→(gtr ats 0 g).getD p 0=2)∧(∀a,(rsn (wts us A ats b (gtr ats 0 g) 0 g) g i).2 a=true→a<us.length∧(ats.getD a 0=1∨ats.getD a 0=2))
 | 0,_=>by
  refine⟨fun p hp=>?_,fun a ha=>by cases ha⟩;simp only[rsn] at hp;rcases (zaS _ _ _).1 hp with⟨e,_⟩|h
  ·rw[←e];exact h0
  ·rw[List.getD_eq_getElem?_getD,List.getElem?_replicate] at h;split at h<;>simp at h
 | i+1,hi=>by
  obtain⟨I1,I2⟩:=zb0 hg hgl ht hby h0 i (by omega);have hx:=zfD (g:=g) (i:=i) (by omega);have hw:=hg i _ hx;have hv:=zcs ats hg i _ hx;refine⟨fun p hp=>?_,fun a ha=>?_⟩
  ·rw[rsn] at hp;rcases zaV.1 hp with h|⟨_,hA,⟨h2,e⟩|⟨h3,e⟩⟩
   ·exact I1 p h
   ·have hf:=I1 i hA;rw[hv] at hf;unfold gvf at hf;rw[if_neg (by omega),if_neg (by omega),if_pos h2] at hf;obtain⟨s,es,s1,s2⟩:=hw.two (Or.inl h2);rw[es,Int.toNat_natCast] at e hf;have key:∀q,q<g.length→(gtr ats 0 g).getD q 0=2→(wts us A ats b (gtr ats 0 g) 0 g).getD q 0≤40000000:=fun q hq h=>by
     obtain⟨l,t1,t2⟩:=ht.at q (by omega) (by omega);have:=(zh0 us A ats b hg hgl hby t1 (by omega) h).2;omega
    split at e
    ·rename_i hle
     rw[e];by_cases hc:(gtr ats 0 g).getD (i+1) 0=2
     ·exact hc
     ·rcases zbY.1 hf with h|h
      ·exact h
      ·have k1:=key s s2 h;have k2:=zbZ us A ats b hg (p:=i+1) (by omega) hc;omega
    ·rename_i hle
     rw[e];by_cases hc:(gtr ats 0 g).getD s 0=2
     ·exact hc
     ·rcases zbY.1 hf with h|h
      ·have k1:=key (i+1) (by omega) h;have k2:=zbZ us A ats b hg (p:=s) s2 hc;omega
      ·exact h
   ·have hf:=I1 i hA;rw[hv] at hf;unfold gvf at hf;rw[if_neg (by omega),if_neg (by omega),if_neg (by omega),if_pos h3] at hf;obtain⟨f1,f2⟩:=zcX.1 hf;rcases e with e|e
    ·rw[e];exact f1
    ·rw[e];exact f2
  ·rw[rsn] at ha;rcases zcY.1 ha with h|⟨hA,h4,e⟩
   ·exact I2 a h
   ·have hf:=I1 i hA;rw[hv] at hf;unfold gvf at hf;rw[if_neg (by omega),if_neg (by omega),if_neg (by omega),if_neg (by omega)] at hf;obtain⟨a',ea,ha'⟩:=hw.atm h4;rw[ea,Int.toNat_natCast] at e hf;subst e;refine⟨ha',?_⟩;split at hf
    ·exact Or.inl (zei.1 hf)
    ·exact Or.inr hf
theorem zgW (hg:GW us.length g) (hgl:g.length≤8000) (ht:Tr g 0 g.length) (hby:∀i,i<us.length→(brs b (us.getD i (0,0,0)) (ats.getD i 0)).length≤4000) (h0:(gtr ats 0 g).getD 0 0=2)
 {ats':List Int} (ha:∀a,(rsn (wts us A ats b (gtr ats 0 g) 0 g) g g.length).2 a=true→ats'.getD a 0=ats.getD a 0):(gtr ats' 0 g).getD 0 0=2:=by
 have hlen:0<g.length:=ht.pos;have key:∀d p,g.length-p≤d→p<g.length→(rsn (wts us A ats b (gtr ats 0 g) 0 g) g g.length).1.getD p false=true→(gtr ats' 0 g).getD p 0=2:=by
  intro d
  induction d with
  | zero=>intro p h1 h2;omega
  | succ d ih =>
   intro p h1 h2 hp;have hpp:=zjz hg g.length (by omega) (Nat.le_refl _) hp;have hf:=(zb0 (A:=A) hg hgl ht hby h0 g.length (Nat.le_refl _)).1 p hp;have hx:=zfD (g:=g) (i:=p) h2;have hw:=hg p _ hx;rw[zcs ats hg p _ hx] at hf;rw[zcs ats' hg p _ hx];unfold gvf at hf ⊢;have hup:∀q,(rsn (wts us A ats b (gtr ats 0 g) 0 g) g (p+1)).1.getD q false=true→(rsn (wts us A ats b (gtr ats 0 g) 0 g) g g.length).1.getD q false=true:=fun q h=>zkF (by omega) h
   have hk0:=hw.k0;have hk4:=hw.k4;by_cases e0:(g.getD p (0,0,0,0)).1=0
   ·rw[if_pos e0] at hf;cases hf
   ·rw[if_neg e0] at hf ⊢;by_cases e1:(g.getD p (0,0,0,0)).1=1
    ·rw[if_pos e1]
    ·rw[if_neg e1] at hf ⊢;by_cases e2:(g.getD p (0,0,0,0)).1=2
     ·rw[if_pos e2];obtain⟨s,es,s1,s2⟩:=hw.two (Or.inl e2);rw[es,Int.toNat_natCast];refine zbY.2 ?_;by_cases hle:(wts us A ats b (gtr ats 0 g) 0 g).getD (p+1) 0≤(wts us A ats b (gtr ats 0 g) 0 g).getD s 0
      ·refine Or.inl (ih (p+1) (by omega) (by omega) (hup _ ?_));rw[rsn];exact zaV.2 (Or.inr ⟨by rw[zcS];omega,hpp,Or.inl ⟨e2,by rw[es,Int.toNat_natCast,if_pos hle]⟩⟩)
      ·refine Or.inr (ih s (by omega) s2 (hup _ ?_));rw[rsn];exact zaV.2 (Or.inr ⟨by rw[zcS];omega,hpp,Or.inl ⟨e2,by rw[es,Int.toNat_natCast,if_neg hle]⟩⟩)
     ·rw[if_neg e2] at hf ⊢;by_cases e3:(g.getD p (0,0,0,0)).1=3
      ·rw[if_pos e3];obtain⟨s,es,s1,s2⟩:=hw.two (Or.inr e3);rw[es,Int.toNat_natCast];refine zcX.2 ⟨ih (p+1) (by omega) (by omega) (hup _ ?_),ih s (by omega) s2 (hup _ ?_)⟩
       ·rw[rsn];exact zaV.2 (Or.inr ⟨by rw[zcS];omega,hpp,Or.inr ⟨e3,Or.inl rfl⟩⟩)
       ·rw[rsn];exact zaV.2 (Or.inr ⟨by rw[zcS];omega,hpp,Or.inr ⟨e3,Or.inr (by rw[es,Int.toNat_natCast])⟩⟩)
      ·rw[if_neg e3] at hf ⊢;have e4:(g.getD p (0,0,0,0)).1=4:=by omega
       have:=ha (g.getD p (0,0,0,0)).2.2.1.toNat (zk7 (i:=p+1) (by omega) (by rw[rsn];exact zcY.2 (Or.inr ⟨hpp,e4,rfl⟩)));rw[this];exact hf
 refine key g.length 0 (by omega) hlen (zkF (i:=0) (by omega) ?_);rw[rsn];exact(zaS _ _ _).2 (Or.inl ⟨rfl,by simpa using hlen⟩)
end
def sub (t u:Int):Prop:=t=0∨t=u
theorem zcZ {t u:Int} (h:sub t u):sub (tnot t) (tnot u):=by
 rcases h with rfl|rfl
 ·exact Or.inl rfl
 ·exact Or.inr rfl
theorem zgo {t u t' u':Int} (h:sub t t') (k:sub u u'):sub (tboth t u) (tboth t' u'):=by
 rcases h with rfl|rfl<;>rcases k with rfl|rfl
 ·exact Or.inl rfl
 ·unfold sub tboth;by_cases h2:u=2
  ·simp[h2]
  ·simp[h2]
 ·unfold sub tboth;by_cases h2:t=2
  ·simp[h2]
  ·simp[h2]
 ·exact Or.inr rfl
theorem zgp {t u t' u':Int} (h:sub t t') (k:sub u u'):sub (teith t u) (teith t' u'):=zcZ (zgo (zcZ h) (zcZ k))
theorem zjA {f g:Atm→Int} (h:∀a,sub (f a) (g a)) (y:Sym) {t u t' u':Int} (ht:sub t t') (hu:sub u u'):sub (tval f y t u) (tval g y t' u'):=by
 unfold tval
 repeat' split
 all_goals first|exact Or.inr rfl|exact zcZ ht|exact zgo ht hu|exact zgp ht hu|exact zgp (zcZ ht) hu|exact h _
def subs:List Int→List Int→Prop
 | [],[]=>True
 | t::r,u::q=>sub t u∧subs r q
 | _,_=>False
theorem zb1:∀{a b:List Int},subs a b→sub (a.headD 0) (b.headD 0)
 | [],[],_=>Or.inl rfl
 | t::r,u::q,h=>h.1
theorem zh1:∀{a b:List Int},subs a b→subs a.tail b.tail
 | [],[],_=>trivial
 | t::r,u::q,h=>h.2
theorem zeV:∀(n:Nat) {a b:List Int},subs a b→subs (a.drop n) (b.drop n)
 | 0,a,b,h=>h
 | n+1,[],[],_=>trivial
 | n+1,t::r,u::q,h=>zeV n h.2
theorem zc0 {f g:Atm→Int} (h:∀a,sub (f a) (g a)):∀ys:List Sym,subs (trun f ys) (trun g ys)
 | []=>trivial
 | y::r=>by
  have ih:=zc0 h r;exact⟨zjA h y (zb1 ih) (zb1 (zh1 ih)),zeV _ ih⟩
def tat (x:Int→Int) (a:Atm):Int:=tof (decide (x a.1-x a.2.1≤a.2.2))
theorem zh2 {x:Int→Int} {a:Atm} {t:Int} (h0:t≠0) (h:sub t (tat x a)):x (ifA a t).1-x (ifA a t).2.1≤(ifA a t).2.2:=by
 rcases h with h|h
 ·exact absurd h h0
 ·unfold tat tof at h;split at h
  ·rename_i hd
   have hd:=of_decide_eq_true hd;subst h;simp only[ifA];rw[if_neg (by decide)];exact hd
  ·rename_i hd
   have hd:¬(x a.1-x a.2.1≤a.2.2):=by simpa using hd
   subst h;simp only[ifA,if_true];omega
theorem zeW {us:List Atm} {f:Atm→Int} {x:Int→Int} (h:∀a,sub (f a) (tat x a)):∀(k:Nat) (l:List UInt8) (ats:List Atm) (r:List UInt8),lks us f k l=some (ats,r)→∀a∈ats,x a.1-x a.2.1≤a.2.2
 | 0,l,ats,r,e=>by cases e
 | k+1,l,ats,r,e=>by
  unfold lks at e;split at e
  ·cases e
  ·cases e
  ·rename_i n c r' hf
   split at e
   ·cases e
   ·rename_i hn
    have hb:=zh2 hn (h (us.getD n (0,0,0)));split at e
    ·obtain⟨⟨ats',r2⟩,h2,h3⟩:=Option.map_eq_some_iff.1 e;injection h3 with h4 h5
     subst h4 h5;intro a ha;rcases List.mem_cons.1 ha with rfl|ha
     ·exact hb
     ·exact zeW h k r' ats' r2 h2 a ha
    ·split at e
     ·injection e with e
      injection e with h4 h5
      subst h4 h5;intro a ha;rcases List.mem_cons.1 ha with rfl|ha
      ·exact hb
      ·cases ha
     ·cases e
theorem zh3 {x:Int→Int}:∀(ats:List Atm) (last:Atm),chn last ats=true→(∀a∈ats,x a.1-x a.2.1≤a.2.2)→x last.2.1-x ((last::ats).getLastD (0,0,0)).2.1≤smB ats
 | [],last,_,_=>by simp[smB]
 | a::r,last,h,hs=>by
  unfold chn at h;rw[Bool.and_eq_true] at h;have ih:=zh3 r a h.2 (fun b hb=>hs b (by simp[hb]));have h1:last.2.1=a.1:=by simpa using h.1
  have h2:=hs a (by simp);have e:smB (a::r)=a.2.2+smB r:=by simp[smB]
  have e2:(last::a::r).getLastD (0,0,0)=(a::r).getLastD (0,0,0):=by simp
  rw[e,e2,h1];omega
theorem zk8 {x:Int→Int} {ats:List Atm} (hne:ats≠[]) (hs:∀a∈ats,x a.1-x a.2.1≤a.2.2):cyc ats=false:=by
 cases hc:cyc ats
 ·rfl
 ·unfold cyc at hc;rw[Bool.and_eq_true] at hc;have h1:=zh3 (x:=x) ats _ hc.1 hs;have h2:=of_decide_eq_true hc.2;have e:((ats.getLastD (0,0,0))::ats).getLastD (0,0,0)=ats.getLastD (0,0,0):=by
   cases ats with
   | nil=>exact absurd rfl hne
   | cons a r=>simp
  rw[e] at h1;omega
theorem zc1 {us:List Atm} {ys:List Sym} {x:Int→Int}:∀(k:Nat) (f:Atm→Int) (l r:List UInt8),(∀a,sub (f a) (tat x a))→chk us ys k f l=some r→(trun (tat x) ys).headD 0=1
 | 0,f,l,r,hf,h=>by cases h
 | k+1,f,l,r,hf,h=>by
  unfold chk at h;split at h
  ·cases h
  ·rename_i c l'
   split at h
   ·split at h
    ·rename_i h1
     rcases zb1 (zc0 hf ys) with h2|h2
     ·rw[h1] at h2;cases h2
     ·rw[←h2];exact h1
    ·cases h
   ·split at h
    ·split at h
     ·rename_i ats r' hl
      split at h
      ·rename_i hc
       have:=zk8 (x:=x) (ats:=ats) (by rintro rfl;exact(by simp[cyc,smB,chn] at hc)) (zeW hf _ _ _ _ hl);rw[this] at hc;cases hc
      ·cases h
     ·cases h
    ·split at h
     ·split at h
      ·cases h
      ·cases h
      ·rename_i n d r1 hfg
       split at h
       ·split at h
        ·cases h
        ·rename_i r2 h2
         have key:∀t,t=tat x (us.getD n (0,0,0))→∀a,sub (putA f (us.getD n (0,0,0)) t a) (tat x a):=by
          intro t ht a;unfold putA;split
          ·rename_i e;subst e;exact Or.inr ht
          ·exact hf a
         by_cases hd:x (us.getD n (0,0,0)).1-x (us.getD n (0,0,0)).2.1≤(us.getD n (0,0,0)).2.2
         ·exact zc1 k _ _ _ (key 1 (by unfold tat tof;rw[decide_eq_true hd];rfl)) h2
         ·exact zc1 k _ _ _ (key 2 (by unfold tat tof;rw[decide_eq_false hd];rfl)) h
       ·cases h
     ·cases h
end Go.Proofs.YtkinoehmcfhgbaaGreatDoor.Vl
