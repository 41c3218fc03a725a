/- A part of the proof. -/
import Derived.Test.YtkinoehmcfhgbaaGreatDoorTok2
set_option linter.unusedVariables false
set_option linter.unusedSimpArgs false
namespace Go.Proofs.YtkinoehmcfhgbaaGreatDoor.Vl
open Go.RowKit
open Av (Fm Rd Tg sAt trm zar rel zbO)
def lt (p:Int):UInt8:=if p=0 then 48 else if p=1 then 97 else if p=2 then 98 else if p=3 then 99 else 100
def sb (y:Sym):List UInt8 :=
 if y.1=0 then [116] else if y.1=1 then [102] else if y.1=2 then [33] else if y.1=3 then [38] else if y.1=4 then [124] else if y.1=5 then [62] else
 lt y.2.1::45::lt y.2.2.1::60::61::(Lib.itoa y.2.2.2++[46])
def sbs (ys:List Sym):List UInt8:=ys.flatMap sb
theorem zcc (a b:List Sym):sbs (a++b)=sbs a++sbs b:=by unfold sbs;rw[List.flatMap_append]
theorem zbw (y:Sym) (b:List Sym):sbs (y::b)=sb y++sbs b:=rfl
def Good (y:Sym):Prop:=0≤y.1∧y.1≤6∧(y.1≠6→y.2=(0,0,0))∧(y.1=6→0≤y.2.1∧y.2.1≤4∧0≤y.2.2.1∧y.2.2.1≤4∧y.2.1≠y.2.2.1∧-999999≤y.2.2.2∧y.2.2.2≤999999)
theorem zmE (y:Sym):∃c r,sb y=c::r:=by
 unfold sb
 repeat' split
 all_goals exact⟨_,_,rfl⟩
def aty (u v n:Int):Sym:=if u=v then (if 0≤n then (0,0,0,0) else (1,0,0,0)) else (6,u,v,n)
def cms (r:Int) (a b:Int×Int):List Sym :=
 if r=0 then [aty (a.1+1) (b.1+1) (b.2-a.2-1)] else if r=1 then [aty (a.1+1) (b.1+1) (b.2-a.2)] else if r=3 then [aty (b.1+1) (a.1+1) (a.2-b.2-1)] else if r=4 then [aty (b.1+1) (a.1+1) (a.2-b.2)]
 else [(3,0,0,0),aty (a.1+1) (b.1+1) (b.2-a.2),aty (b.1+1) (a.1+1) (a.2-b.2)]
def fsy:Fm→List Sym
 | .tt=>[(0,0,0,0)]
 | .ff=>[(1,0,0,0)]
 | .cmp r a b=>cms r a b
 | .no f=>(2,0,0,0)::fsy f
 | .and f g=>(3,0,0,0)::(fsy f++fsy g)
 | .or f g=>(4,0,0,0)::(fsy f++fsy g)
def tv (x1 x2 x3 x4:Int) (a:Int×Int):Int:=xv x1 x2 x3 x4 (a.1+1)+a.2
def cmpB (r l m:Int):Bool:=if r=0 then decide (l<m) else if r=1 then decide (l≤m) else if r=2 then decide (l=m) else if r=3 then decide (m<l) else decide (m≤l)
def ev (x1 x2 x3 x4:Int):Fm→Bool
 | .tt=>true
 | .ff=>false
 | .cmp r a b=>cmpB r (tv x1 x2 x3 x4 a) (tv x1 x2 x3 x4 b)
 | .no f=>!ev x1 x2 x3 x4 f
 | .and f g=>ev x1 x2 x3 x4 f&&ev x1 x2 x3 x4 g
 | .or f g=>ev x1 x2 x3 x4 f||ev x1 x2 x3 x4 g
def tOk (a:Int×Int):Prop:=-1≤a.1∧a.1≤3∧-999≤a.2∧a.2≤999
def fOk:Fm→Prop
 | .cmp r a b=>0≤r∧r≤4∧tOk a∧tOk b
 | .no f=>fOk f
 | .and f g=>fOk f∧fOk g
 | .or f g=>fOk f∧fOk g
 | _=>True
theorem zjl {u v n:Int} (h0:0≤u) (h1:u≤4) (h2:0≤v) (h3:v≤4) (h4:-999999≤n) (h5:n≤999999):Good (aty u v n):=by
 unfold aty;split
 ·split
  ·exact⟨by decide,by decide,fun _=>rfl,fun h=>absurd h (by decide)⟩
  ·exact⟨by decide,by decide,fun _=>rfl,fun h=>absurd h (by decide)⟩
 ·rename_i h;exact⟨by dsimp only;decide,by dsimp only;decide,fun e=>absurd rfl e,fun _=>⟨h0,h1,h2,h3,h,h4,h5⟩⟩
theorem zhm {q:Int} (h0:0≤q) (h5:q≤5):Good (q,0,0,0):=⟨h0,by dsimp only;omega,fun _=>rfl,fun h=>by dsimp only at h;omega⟩
theorem zcQ:∀(k u:Nat),u<10^(k+1)→(Lib.decDigits u).length≤k+1
 | 0,u,h=>by
  unfold Lib.decDigits;rw[dif_pos (by omega)];simp
 | k+1,u,h=>by
  unfold Lib.decDigits;split
  ·simp
  ·have:=zcQ k (u/10) (by rw[Nat.pow_succ] at h;omega);simp;omega
theorem zjm {n:Int} (h0:-9999≤n) (h1:n≤9999):(Lib.itoa n).length≤5:=by
 unfold Lib.itoa;split
 ·have:=zcQ 3 n.natAbs (by omega);simp;omega
 ·have:=zcQ 3 n.toNat (by omega);omega
theorem zaT {n:Int} (h0:-999999≤n) (h1:n≤999999):(Lib.itoa n).length≤7:=by
 unfold Lib.itoa;split
 ·have:=zcQ 5 n.natAbs (by omega);simp;omega
 ·have:=zcQ 5 n.toNat (by omega);omega
theorem zfp {u v n:Int} (h0:-9999≤n) (h1:n≤9999):(sb (aty u v n)).length≤11:=by
 unfold aty;split
 ·split
  ·show 1≤11;omega
  ·show 1≤11;omega
 ·show(lt u::45::lt v::60::61::(Lib.itoa n++[46])).length≤11
  have:=zjm h0 h1;simp;omega
theorem zhn {u v n:Int} (h0:-999999≤n) (h1:n≤999999):(sb (aty u v n)).length≤13:=by
 unfold aty;split
 ·split
  ·show 1≤13;omega
  ·show 1≤13;omega
 ·show(lt u::45::lt v::60::61::(Lib.itoa n++[46])).length≤13
  have:=zaT h0 h1;simp;omega
theorem zkN {r:Int} {a b:Int×Int} (ha:tOk a) (hb:tOk b):(sbs (cms r a b)).length≤23:=by
 obtain⟨a1,a2,a3,a4⟩:=ha;obtain⟨b1,b2,b3,b4⟩:=hb;have one:∀u v n:Int,-9999≤n→n≤9999→(sbs [aty u v n]).length≤23:=fun u v n h0 h1=>by
  have:=zfp (u:=u) (v:=v) h0 h1;show(sb (aty u v n)++[]).length≤23
  rw[List.append_nil];omega
 unfold cms;split
 ·exact one _ _ _ (by omega) (by omega)
 ·split
  ·exact one _ _ _ (by omega) (by omega)
  ·split
   ·exact one _ _ _ (by omega) (by omega)
   ·split
    ·exact one _ _ _ (by omega) (by omega)
    ·have h1:=zfp (u:=a.1+1) (v:=b.1+1) (n:=b.2-a.2) (by omega) (by omega);have h2:=zfp (u:=b.1+1) (v:=a.1+1) (n:=a.2-b.2) (by omega) (by omega);have e:(sb (3,0,0,0)).length=1:=rfl;have e2:(sbs []).length=0:=rfl;rw[zbw,zbw,zbw,List.length_append,List.length_append,List.length_append,e,e2];omega
theorem zf6 (toks:List (List UInt8×Nat)) (k:Nat):tOk ((trm toks k).1,(trm toks k).2.1):=by
 have:=zar toks k;exact⟨this.1,this.2.1,this.2.2.1,this.2.2.2.1⟩
def tgF:Tg→Option Fm
 | .partL f=>some f
 | .formL f=>some f
 | _=>none
theorem zbP {toks:List (List UInt8×Nat)} {t:Tg} {k k':Nat} {f:Fm} (h:Rd toks t k f k'):(∀g,tgF t=some g→fOk g)→fOk f:=by
 induction h with
 | tru _=>intro _;exact trivial
 | fls _=>intro _;exact trivial
 | no _ _ ih=>intro _;exact ih (fun g h=>by cases h)
 | par _ _ ih=>intro _;exact ih (fun g h=>by cases h)
 | cmp _ _ _ _=>intro _;exact⟨(zbO _).1,(zbO _).2,zf6 _ _,zf6 _ _⟩
 | part _ _ h1 h2=>intro _;exact h2 (fun g h=>by cases h;exact h1 (fun g h=>by cases h))
 | partS _ _ _ h1 h2=>intro hg;exact h2 (fun g h=>by cases h;exact⟨hg _ rfl,h1 (fun g h=>by cases h)⟩)
 | partE _=>intro hg;exact hg _ rfl
 | form _ _ h1 h2=>intro _;exact h2 (fun g h=>by cases h;exact h1 (fun g h=>by cases h))
 | formS _ _ _ h1 h2=>intro hg;exact h2 (fun g h=>by cases h;exact⟨hg _ rfl,h1 (fun g h=>by cases h)⟩)
 | formE _=>intro hg;exact hg _ rfl
def tgL:Tg→Nat
 | .partL f=>(sbs (fsy f)).length
 | .formL f=>(sbs (fsy f)).length
 | _=>0
theorem zho (q:Int) (hq:(sb (q,0,0,0)).length=1) (f g:Fm):(sbs ((q,0,0,0)::(fsy f++fsy g))).length=1+(sbs (fsy f)).length+(sbs (fsy g)).length:=by
 rw[zbw,zcc,List.length_append,List.length_append,hq];omega
theorem zlG {toks:List (List UInt8×Nat)} {t:Tg} {k k':Nat} {f:Fm} (h:Rd toks t k f k'):(sbs (fsy f)).length+8*k≤tgL t+8*k':=by
 induction h with
 | tru _=>show 1+_≤_;omega
 | fls _=>show 1+_≤_;omega
 | no _ _ ih =>
  show(sbs ((2,0,0,0)::fsy _)).length+_≤_
  have e:(sb (2,0,0,0)).length=1:=rfl;rw[zbw,List.length_append,e];simp only[tgL] at ih ⊢;omega
 | par _ _ ih=>simp only[tgL] at ih ⊢;omega
 | @cmp k _ _ _ _ =>
  have h1:=zar toks k;have h2:=zar toks ((trm toks k).2.2+1);have h3:=zkN (r:=rel (sAt toks (trm toks k).2.2)) (zf6 toks k) (zf6 toks ((trm toks k).2.2+1));show(sbs (cms _ _ _)).length+_≤_
  omega
 | part _ _ h1 h2=>simp only[tgL] at *;omega
 | @partS k k1 k' f g h _ _ _ h1 h2 =>
  simp only[tgL] at *;have:(sbs (fsy (.and f g))).length=1+(sbs (fsy f)).length+(sbs (fsy g)).length:=zho 3 rfl f g;omega
 | partE _=>exact Nat.le_refl _
 | form _ _ h1 h2=>simp only[tgL] at *;omega
 | @formS k k1 k' f g h _ _ _ h1 h2 =>
  simp only[tgL] at *;have:(sbs (fsy (.or f g))).length=1+(sbs (fsy f)).length+(sbs (fsy g)).length:=zho 4 rfl f g;omega
 | formE _=>exact Nat.le_refl _
open Av (Fm Rd Tg sAt trm zar rel zbO Cm Rc vr zb6)
def rpl (x u n:Int) (y:Sym):Sym:=if y.1=6 then (if y.2.1=x then aty u y.2.2.1 (y.2.2.2-n) else if y.2.2.1=x then aty y.2.1 u (y.2.2.2+n) else y) else y
def wpc:Cm→List Sym→List Sym
 | .skip,q=>q
 | .asg x t,q=>q.map (rpl (x+1) (t.1+1) t.2)
 | .ite f a b,q=>(4,0,0,0)::(3,0,0,0)::(fsy f++(wpc a q++((3,0,0,0)::(2,0,0,0)::(fsy f++wpc b q))))
 | .loop f g a,q=>fsy g
 | .seq a b,q=>wpc a (wpc b q)
def again (f g:Fm) (a:Cm):List Sym:=(5,0,0,0)::(3,0,0,0)::(fsy g++(fsy f++wpc a (fsy g)))
def leav (f g:Fm) (q:List Sym):List Sym:=(5,0,0,0)::(3,0,0,0)::(fsy g++((2,0,0,0)::(fsy f++q)))
def bl (ys:List Sym):Nat:=(sbs ys).length
def fit:Cm→List Sym→Bool
 | .skip,q=>decide (bl q≤4000)
 | .asg x t,q=>decide (bl (wpc (.asg x t) q)≤4000)
 | .ite f a b,q=>fit a q&&(fit b q&&decide (bl (wpc (.ite f a b) q)≤4000))
 | .loop f g a,q=>fit a (fsy g)&&(decide (bl (again f g a)≤4000)&&(decide (bl (leav f g q)≤4000)&&decide (bl (fsy g)≤4000)))
 | .seq a b,q=>fit b q&&fit a (wpc b q)
def cls:Cm→List Sym→List (List Sym)
 | .ite f a b,q=>cls a q++cls b q
 | .loop f g a,q=>again f g a::leav f g q::cls a (fsy g)
 | .seq a b,q=>cls a (wpc b q)++cls b q
 | _,_=>[]
def Gd (K:Int) (ys:List Sym):Prop:=∀y∈ys,Good y∧(y.1=6→-K≤y.2.2.2∧y.2.2.2≤K)
theorem Gd.mono {K L:Int} {ys:List Sym} (h:Gd K ys) (hl:K≤L):Gd L ys:=fun y hy=>⟨(h y hy).1,fun e=>by have:=(h y hy).2 e;omega⟩
theorem Gd.app {K:Int} {a b:List Sym} (h:Gd K a) (k:Gd K b):Gd K (a++b):=fun y hy=>by
 rcases List.mem_append.1 hy with h1|h1
 ·exact h y h1
 ·exact k y h1
theorem Gd.mark {K:Int} {q:Int} (h0:0≤q) (h5:q≤5) {b:List Sym} (k:Gd K b):Gd K ((q,0,0,0)::b):=fun y hy=>by
 rcases List.mem_cons.1 hy with rfl|h1
 ·exact⟨zhm h0 h5,fun e=>by dsimp only at e;omega⟩
 ·exact k y h1
theorem Gd.nil {K:Int}:Gd K []:=fun y hy=>by cases hy
theorem zcq {K u v n:Int} (h0:0≤u) (h1:u≤4) (h2:0≤v) (h3:v≤4) (h4:-K≤n) (h5:n≤K) (hK:K≤999999):Good (aty u v n)∧((aty u v n).1=6→-K≤(aty u v n).2.2.2∧(aty u v n).2.2.2≤K):=by
 refine⟨zjl h0 h1 h2 h3 (by omega) (by omega),fun e=>?_⟩;unfold aty at e ⊢;by_cases hu:u=v
 ·rw[if_pos hu] at e;split at e<;>(dsimp only at e;omega)
 ·rw[if_neg hu];exact⟨h4,h5⟩
theorem zdN {K:Int} {y:Sym} (h:Good y∧(y.1=6→-K≤y.2.2.2∧y.2.2.2≤K)):Gd K [y]:=fun z hz=>by
 rw[List.mem_singleton.1 hz];exact h
theorem zlH {r:Int} {a b:Int×Int} (ha:tOk a) (hb:tOk b):Gd 1999 (cms r a b):=by
 obtain⟨a1,a2,a3,a4⟩:=ha;obtain⟨b1,b2,b3,b4⟩:=hb;unfold cms;split
 ·exact zdN (zcq (by omega) (by omega) (by omega) (by omega) (by omega) (by omega) (by omega))
 ·split
  ·exact zdN (zcq (by omega) (by omega) (by omega) (by omega) (by omega) (by omega) (by omega))
  ·split
   ·exact zdN (zcq (by omega) (by omega) (by omega) (by omega) (by omega) (by omega) (by omega))
   ·split
    ·exact zdN (zcq (by omega) (by omega) (by omega) (by omega) (by omega) (by omega) (by omega))
    ·exact Gd.mark (by omega) (by omega) (Gd.app (zdN (zcq (by omega) (by omega) (by omega) (by omega) (by omega) (by omega) (by omega))) (zdN (zcq (by omega) (by omega) (by omega) (by omega) (by omega) (by omega) (by omega))))
theorem zaC:∀(f:Fm),fOk f→Gd 1999 (fsy f)
 | .tt,_=>Gd.mark (by omega) (by omega) Gd.nil
 | .ff,_=>Gd.mark (by omega) (by omega) Gd.nil
 | .cmp r a b,h=>zlH h.2.2.1 h.2.2.2
 | .no f,h=>Gd.mark (by omega) (by omega) (zaC f h)
 | .and f g,h=>Gd.mark (by omega) (by omega) (Gd.app (zaC f h.1) (zaC g h.2))
 | .or f g,h=>Gd.mark (by omega) (by omega) (Gd.app (zaC f h.1) (zaC g h.2))
theorem zlI {K x u n:Int} {y:Sym} (hu0:0≤u) (hu4:u≤4) (hn:-999≤n∧n≤999) (hK:K+999≤999999) (h:Good y∧(y.1=6→-K≤y.2.2.2∧y.2.2.2≤K)):Good (rpl x u n y)∧((rpl x u n y).1=6→-(K+999)≤(rpl x u n y).2.2.2∧(rpl x u n y).2.2.2≤K+999):=by
 unfold rpl;by_cases h6:y.1=6
 ·obtain⟨g0,g6,_,ga⟩:=h.1;obtain⟨a1,a2,a3,a4,a5,a6,a7⟩:=ga h6;have hb:=h.2 h6;rw[if_pos h6];split
  ·exact zcq hu0 hu4 a3 a4 (by omega) (by omega) hK
  ·split
   ·exact zcq a1 a2 hu0 hu4 (by omega) (by omega) hK
   ·exact⟨h.1,fun _=>by omega⟩
 ·rw[if_neg h6];exact⟨h.1,fun e=>absurd e h6⟩
theorem zhp {K x u n:Int} {ys:List Sym} (hu0:0≤u) (hu4:u≤4) (hn:-999≤n∧n≤999) (hK:K+999≤999999) (h:Gd K ys):Gd (K+999) (ys.map (rpl x u n)):=fun y hy=>by
 obtain⟨z,hz,rfl⟩:=List.mem_map.1 hy;exact zlI hu0 hu4 hn hK (h z hz)
def kb (k:Nat):Int:=2000+1000*(300-(k:Int))
theorem zhq {toks:List (List UInt8×Nat)} {t:Bool} {k k':Nat} {c:Cm} (h:Rc toks t k c k'):k'≤300→∀q,Gd (kb k') q→Gd (kb k) (wpc c q):=by
 induction h with
 | skip _=>intro hk q hq;exact hq.mono (by unfold kb;omega)
 | @asg k hv =>
  intro hk q hq;have h1:=zar toks (k+2);exact(zhp (by dsimp only;omega) (by dsimp only;omega) ⟨by dsimp only;omega,by dsimp only;omega⟩ (by unfold kb;omega) hq).mono (by unfold kb;omega)
 | @ite k k1 k2 k3 f a b e r1 r2 r3 i1 i2 =>
  intro hk q hq;have l1:=r1.le.1;have l2:=r2.le;have l3:=r3.le;have gf:Gd (kb k) (fsy f):=(zaC f (zbP r1 (fun g h=>by cases h))).mono (by unfold kb;omega);exact Gd.mark (by omega) (by omega) (Gd.mark (by omega) (by omega) (gf.app (((i1 (by omega) q (hq.mono (by unfold kb;omega))).mono (by unfold kb;omega)).app (Gd.mark (by omega) (by omega) (Gd.mark (by omega) (by omega) (gf.app ((i2 (by omega) q (hq.mono (by unfold kb;omega))).mono (by unfold kb;omega))))))))
 | @loop k k1 k2 k3 f g a e r1 r2 r3 i1 =>
  intro hk q hq;have l1:=r1.le.1;have l2:=r2.le.1;have l3:=r3.le;exact(zaC g (zbP r2 (fun g h=>by cases h))).mono (by unfold kb;omega)
 | one _ _ ih=>exact ih
 | @seq k k1 k' c r r1 _ r2 i1 i2 =>
  intro hk q hq;have l2:=r2.le;exact i1 (by omega) _ ((i2 hk q hq).mono (by unfold kb;omega))
theorem zlJ {y:Sym} (h:Good y) (h6:y.1≠6) (l:List UInt8):atm (sb y++l)=none∧(sb y).length=1:=by
 obtain⟨g0,g6,_,_⟩:=h;obtain⟨q,u,v,n⟩:=y;dsimp only at *;have key:∀(c:UInt8),0≤mk (c.toNat:Int)→atm ([c]++l)=none:=by
  intro c hc;cases ha:atm ([c]++l) with
  | none=>rfl
  | some q =>
   have h1:=(zdo (a:=q.1) (k:=q.2) ha).2.2.2.2.2.2.2.2.2;simp only[List.cons_append,List.headD_cons,plu] at h1;have:=zmt _ hc;omega
 have hq:q=0∨q=1∨q=2∨q=3∨q=4∨q=5:=by omega
 rcases hq with rfl|rfl|rfl|rfl|rfl|rfl
 ·exact⟨key 116 (by decide),rfl⟩
 ·exact⟨key 102 (by decide),rfl⟩
 ·exact⟨key 33 (by decide),rfl⟩
 ·exact⟨key 38 (by decide),rfl⟩
 ·exact⟨key 124 (by decide),rfl⟩
 ·exact⟨key 62 (by decide),rfl⟩
theorem zf7 {y:Sym} (h:Good y):1≤(sb y).length∧(sb y).length≤13:=by
 obtain⟨c,r,e⟩:=zmE y;refine⟨by rw[e];simp,?_⟩;by_cases h6:y.1=6
 ·obtain⟨g0,g6,_,ga⟩:=h;obtain⟨a1,a2,a3,a4,a5,a6,a7⟩:=ga h6;obtain⟨q,u,v,n⟩:=y;dsimp only at *;subst h6;have:=zhn (u:=u) (v:=v) a6 a7;unfold aty at this;rw[if_neg a5] at this;exact this
 ·have:=(zlJ h h6 []).2;omega
theorem zkO (y:Sym) (r:List Sym):bl (y::r)=(sb y).length+bl r:=by unfold bl;rw[zbw,List.length_append]
theorem zlK (a b:List Sym):bl (a++b)=bl a+bl b:=by unfold bl;rw[zcc,List.length_append]
theorem za1 {K:Int}:∀{ys:List Sym},Gd K ys→ys.length≤bl ys∧bl ys≤13*ys.length
 | [],_=>⟨Nat.le_refl _,Nat.le_refl _⟩
 | y::r,h=>by
  have h1:=zf7 (h y List.mem_cons_self).1;have h2:=za1 (ys:=r) (fun z hz=>h z (List.mem_cons_of_mem _ hz));rw[zkO,List.length_cons];omega
end Go.Proofs.YtkinoehmcfhgbaaGreatDoor.Vl
namespace Go.Proofs.YtkinoehmcfhgbaaGreatDoor.Av
open Go.RowKit
variable {toks:List (List UInt8×Nat)} {len:Nat}
theorem At.other {w:World} {b tb cap:Nat} {T:List (Int×Int×Int)} {σ:PSt} (h:At w b tb cap T σ) (k o:Nat) (u:Value) (h1:b<k) (h2:tb<k):At (w.setCell ⟨k,o,none⟩ u) b tb cap T σ:=by
 have hc:∀j,(w.setCell ⟨k,o,none⟩ u).cell? ⟨b,j,none⟩=w.cell? ⟨b,j,none⟩:=fun j=>World.cell?_of_block (Below.heap_setCell w ⟨k,o,none⟩ u b (by show b≠k;omega))
 have ht:∀j,(w.setCell ⟨k,o,none⟩ u).cell? ⟨tb,j,none⟩=w.cell? ⟨tb,j,none⟩:=fun j=>World.cell?_of_block (Below.heap_setCell w ⟨k,o,none⟩ u tb (by show tb≠k;omega))
 have hs:(w.setCell ⟨k,o,none⟩ u).heap.size=w.heap.size:=by simp[World.setCell]
 exact⟨by rw[hs];exact h.hb,by rw[hs];exact h.htb,h.hne,h.hcap,h.hcm,(hc 0).trans h.c0,(hc 1).trans h.c1,(hc 2).trans h.c2,(hc 3).trans h.c3,(hc 4).trans h.c4,h.frz _ _,fun j hj=>by
  obtain⟨a1,a2,a3⟩:=h.toks j hj;exact⟨(ht _).trans a1,(ht _).trans a2,(ht _).trans a3⟩⟩
theorem Kp.fresh {b:Nat} {w w':World} (h:Kp b w w') (k o:Nat) (u:Value) (hk:w.heap.size≤k):Kp b w (w'.setCell ⟨k,o,none⟩ u):=h.setCell (p:=⟨k,o,none⟩) (Or.inr hk) u
theorem kcell {b B:Nat} {W w1:World} (hk:Kp b W w1) (hb:b<B):(∀k o,B≤k→k<W.heap.size→w1.cell? ⟨k,o,none⟩=W.cell? ⟨k,o,none⟩)∧(∀k o,B≤k→k<W.heap.size→w1.frozen? ⟨k,o,none⟩=W.frozen? ⟨k,o,none⟩) :=
 ⟨fun k o h1 h2=>hk.cell (p:=⟨k,o,none⟩) h2 (by show k≠b;omega),fun k o h1 h2=>hk.frozen (p:=⟨k,o,none⟩) h2 (by show k≠b;omega)⟩
def fv (k:Int) (p:Option Addr) (n c:Nat) (r a1 a2 a3 a4:Int):List Value:=[.int .i64 k,.slice p n c,.int .i64 r,.int .i64 a1,.int .i64 a2,.int .i64 a3,.int .i64 a4]
def IsF (w:World) (P:Nat→Prop):Fm→List Value→Prop
 | .tt,v=>∃(p:Option Addr) (n c:Nat) (r a1 a2 a3 a4:Int),v=fv 0 p n c r a1 a2 a3 a4
 | .ff,v=>∃(p:Option Addr) (n c:Nat) (r a1 a2 a3 a4:Int),v=fv 1 p n c r a1 a2 a3 a4
 | .cmp r a b,v=>∃(p:Option Addr) (n c:Nat),v=fv 2 p n c r a.1 a.2 b.1 b.2
 | .no f,v=>∃(g c:Nat) (r a1 a2 a3 a4:Int) (u:List Value),v=fv 3 (some ⟨g,0,none⟩) 1 c r a1 a2 a3 a4∧P g∧g<w.heap.size∧1≤c∧c≤maxLen∧w.rangeAt g 0 u∧IsF w P f u
 | .and f h,v=>∃(g c:Nat) (r a1 a2 a3 a4:Int) (u1 u2:List Value),v=fv 4 (some ⟨g,0,none⟩) 2 c r a1 a2 a3 a4∧P g∧g<w.heap.size∧2≤c∧c≤maxLen∧w.rangeAt g 0 u1∧w.rangeAt g 7 u2∧IsF w P f u1∧IsF w P h u2
 | .or f h,v=>∃(g c:Nat) (r a1 a2 a3 a4:Int) (u1 u2:List Value),v=fv 5 (some ⟨g,0,none⟩) 2 c r a1 a2 a3 a4∧P g∧g<w.heap.size∧2≤c∧c≤maxLen∧w.rangeAt g 0 u1∧w.rangeAt g 7 u2∧IsF w P f u1∧IsF w P h u2
def Same (P:Nat→Prop) (w w':World):Prop:=w.heap.size≤w'.heap.size∧∀g o,P g→g<w.heap.size→w'.cell? ⟨g,o,none⟩=w.cell? ⟨g,o,none⟩
theorem Same.refl (P:Nat→Prop) (w:World):Same P w w:=⟨Nat.le_refl _,fun _ _ _ _=>rfl⟩
theorem Same.trans {P:Nat→Prop} {a b c:World} (h:Same P a b) (k:Same P b c):Same P a c:=⟨Nat.le_trans h.1 k.1,fun g o h1 h2=>(k.2 g o h1 (Nat.lt_of_lt_of_le h2 h.1)).trans (h.2 g o h1 h2)⟩
theorem Kp.same {b:Nat} {P:Nat→Prop} {w w':World} (h:Kp b w w') (hb:¬P b):Same P w w':=⟨h.size,fun g o h1 h2=>h.cell (p:=⟨g,o,none⟩) h2 (by show g≠b;intro e;subst e;exact hb h1)⟩
theorem zac {P:Nat→Prop} {w w':World} (h:Below w.heap.size w w'):Same P w w':=⟨h.size,fun g o h1 h2=>h.cell (p:=⟨g,o,none⟩) h2⟩
theorem zaN (P:Nat→Prop) (w:World) (o:Obj):Same P w (w.alloc o):=zac (zaa w o)
theorem za2 (P:Nat→Prop) (w:World) (B o:Nat) (u:Value) (h:¬P B):Same P w (w.setCell ⟨B,o,none⟩ u):=⟨by simp[World.setCell],fun g j h1 h2=>World.cell?_of_block (Below.heap_setCell w ⟨B,o,none⟩ u g (by show g≠B;intro e;subst e;exact h h1))⟩
theorem zaI (P:Nat→Prop) (B:Nat) (h:¬P B):∀(vs:List Value) (o:Nat) (w:World),Same P w (w.setCells B o vs)
 | [],o,w=>Same.refl _ _
 | v::vs,o,w=>(za2 P w B o v h).trans (zaI P B h vs (o+1) _)
theorem zaO {P:Nat→Prop} {g o:Nat} {w w':World} {cs:List Value} (h:w.rangeAt g o cs) (hs:Same P w w') (h1:P g) (h2:g<w.heap.size):w'.rangeAt g o cs:=fun j v hv=>(hs.2 g (o+j) h1 h2).trans (h j v hv)
theorem IsF.same {P:Nat→Prop} {w w':World} (hs:Same P w w'):∀{f:Fm} {v:List Value},IsF w P f v→IsF w' P f v
 | .tt,_,h=>h
 | .ff,_,h=>h
 | .cmp _ _ _,_,h=>h
 | .no f,_,⟨g,c,r,a1,a2,a3,a4,u,e,h1,h2,h3,h4,h5,h6⟩=>⟨g,c,r,a1,a2,a3,a4,u,e,h1,Nat.lt_of_lt_of_le h2 hs.1,h3,h4,zaO h5 hs h1 h2,IsF.same hs h6⟩
 | .and f h,_,⟨g,c,r,a1,a2,a3,a4,u1,u2,e,h1,h2,h3,h4,h5,h6,h7,h8⟩=>⟨g,c,r,a1,a2,a3,a4,u1,u2,e,h1,Nat.lt_of_lt_of_le h2 hs.1,h3,h4,zaO h5 hs h1 h2,zaO h6 hs h1 h2,IsF.same hs h7,IsF.same hs h8⟩
 | .or f h,_,⟨g,c,r,a1,a2,a3,a4,u1,u2,e,h1,h2,h3,h4,h5,h6,h7,h8⟩=>⟨g,c,r,a1,a2,a3,a4,u1,u2,e,h1,Nat.lt_of_lt_of_le h2 hs.1,h3,h4,zaO h5 hs h1 h2,zaO h6 hs h1 h2,IsF.same hs h7,IsF.same hs h8⟩
theorem IsF.mono {P P':Nat→Prop} {w:World} (hl:∀g,P g→g<w.heap.size→P' g):∀{f:Fm} {v:List Value},IsF w P f v→IsF w P' f v
 | .tt,_,h=>h
 | .ff,_,h=>h
 | .cmp _ _ _,_,h=>h
 | .no f,_,⟨g,c,r,a1,a2,a3,a4,u,e,h1,h2,h3,h4,h5,h6⟩=>⟨g,c,r,a1,a2,a3,a4,u,e,hl g h1 h2,h2,h3,h4,h5,IsF.mono hl h6⟩
 | .and f h,_,⟨g,c,r,a1,a2,a3,a4,u1,u2,e,h1,h2,h3,h4,h5,h6,h7,h8⟩=>⟨g,c,r,a1,a2,a3,a4,u1,u2,e,hl g h1 h2,h2,h3,h4,h5,h6,IsF.mono hl h7,IsF.mono hl h8⟩
 | .or f h,_,⟨g,c,r,a1,a2,a3,a4,u1,u2,e,h1,h2,h3,h4,h5,h6,h7,h8⟩=>⟨g,c,r,a1,a2,a3,a4,u1,u2,e,hl g h1 h2,h2,h3,h4,h5,h6,IsF.mono hl h7,IsF.mono hl h8⟩
theorem IsF.shape {P:Nat→Prop} {w:World}:∀{f:Fm} {v:List Value},IsF w P f v→∃(k:Int) (p:Option Addr) (n c:Nat) (r a1 a2 a3 a4:Int),v=fv k p n c r a1 a2 a3 a4
 | .tt,_,⟨p,n,c,r,a1,a2,a3,a4,e⟩=>⟨_,_,_,_,_,_,_,_,_,e⟩
 | .ff,_,⟨p,n,c,r,a1,a2,a3,a4,e⟩=>⟨_,_,_,_,_,_,_,_,_,e⟩
 | .cmp _ _ _,_,⟨p,n,c,e⟩=>⟨_,_,_,_,_,_,_,_,_,e⟩
 | .no f,_,⟨g,c,r,a1,a2,a3,a4,u,e,_⟩=>⟨_,_,_,_,_,_,_,_,_,e⟩
 | .and f h,_,⟨g,c,r,a1,a2,a3,a4,u1,u2,e,_⟩=>⟨_,_,_,_,_,_,_,_,_,e⟩
 | .or f h,_,⟨g,c,r,a1,a2,a3,a4,u1,u2,e,_⟩=>⟨_,_,_,_,_,_,_,_,_,e⟩
def Lst (w:World) (P:Nat→Prop) (g n c:Nat) (ys:List (List Value)):Prop:=P g∧g<w.heap.size∧ys.length=n∧n≤c∧c≤maxLen∧w.rangeAt g 0 ys.flatten∧∀y∈ys,y.length=20
theorem Lst.same {P:Nat→Prop} {g n c:Nat} {w w':World} {ys:List (List Value)} (h:Lst w P g n c ys) (hs:Same P w w'):Lst w' P g n c ys:=by
 obtain⟨h1,h2,h3,h4,h5,h6,h7⟩:=h;exact⟨h1,Nat.lt_of_lt_of_le h2 hs.1,h3,h4,h5,zaO h6 hs h1 h2,h7⟩
theorem Lst.mono {P P':Nat→Prop} {g n c:Nat} {w:World} {ys:List (List Value)} (h:Lst w P g n c ys) (hl:∀g,P g→g<w.heap.size→P' g):Lst w P' g n c ys:=by
 obtain⟨h1,h2,h3,h4,h5,h6,h7⟩:=h;exact⟨hl g h1 h2,h2,h3,h4,h5,h6,h7⟩
def IsC (w:World) (P:Nat→Prop):Cm→List (List Value)→Prop
 | .skip,xs=>∃y,xs=[y]∧y.length=20∧y[0]?=some (.int .i64 0)
 | .asg x t,xs=>∃y,xs=[y]∧y.length=20∧y[0]?=some (.int .i64 1)∧y[1]?=some (.int .i64 x)∧y[2]?=some (.int .i64 t.1)∧y[3]?=some (.int .i64 t.2)
 | .ite f a b,xs=>∃y,xs=[y]∧y.length=20∧y[0]?=some (.int .i64 2)∧IsF w P f ((y.drop 4).take 7) ∧
  (∃g n c ys,y[18]?=some (.slice (some ⟨g,0,none⟩) n c)∧Lst w P g n c ys∧IsC w P a ys)∧(∃g n c ys,y[19]?=some (.slice (some ⟨g,0,none⟩) n c)∧Lst w P g n c ys∧IsC w P b ys)
 | .loop f h a,xs=>∃y,xs=[y]∧y.length=20∧y[0]?=some (.int .i64 3)∧IsF w P f ((y.drop 4).take 7)∧IsF w P h ((y.drop 11).take 7) ∧
  (∃g n c ys,y[18]?=some (.slice (some ⟨g,0,none⟩) n c)∧Lst w P g n c ys∧IsC w P a ys)
 | .seq a b,xs=>∃y ys,xs=y::ys∧IsC w P a [y]∧IsC w P b ys
theorem IsC.same {P:Nat→Prop} {w w':World} (hs:Same P w w'):∀{c:Cm} {xs:List (List Value)},IsC w P c xs→IsC w' P c xs
 | .skip,_,h=>h
 | .asg _ _,_,h=>h
 | .ite f a b,_,⟨y,e,hl,h0,hf,⟨g,n,c,ys,h1,h2,h3⟩,⟨g',n',c',ys',h1',h2',h3'⟩⟩=>⟨y,e,hl,h0,hf.same hs,⟨g,n,c,ys,h1,h2.same hs,IsC.same hs h3⟩,⟨g',n',c',ys',h1',h2'.same hs,IsC.same hs h3'⟩⟩
 | .loop f h a,_,⟨y,e,hl,h0,hf,hg,⟨g,n,c,ys,h1,h2,h3⟩⟩=>⟨y,e,hl,h0,hf.same hs,hg.same hs,⟨g,n,c,ys,h1,h2.same hs,IsC.same hs h3⟩⟩
 | .seq a b,_,⟨y,ys,e,h1,h2⟩=>⟨y,ys,e,IsC.same hs h1,IsC.same hs h2⟩
theorem IsC.mono {P P':Nat→Prop} {w:World} (hm:∀g,P g→g<w.heap.size→P' g):∀{c:Cm} {xs:List (List Value)},IsC w P c xs→IsC w P' c xs
 | .skip,_,h=>h
 | .asg _ _,_,h=>h
 | .ite f a b,_,⟨y,e,hl,h0,hf,⟨g,n,c,ys,h1,h2,h3⟩,⟨g',n',c',ys',h1',h2',h3'⟩⟩=>⟨y,e,hl,h0,hf.mono hm,⟨g,n,c,ys,h1,h2.mono hm,IsC.mono hm h3⟩,⟨g',n',c',ys',h1',h2'.mono hm,IsC.mono hm h3'⟩⟩
 | .loop f h a,_,⟨y,e,hl,h0,hf,hg,⟨g,n,c,ys,h1,h2,h3⟩⟩=>⟨y,e,hl,h0,hf.mono hm,hg.mono hm,⟨g,n,c,ys,h1,h2.mono hm,IsC.mono hm h3⟩⟩
 | .seq a b,_,⟨y,ys,e,h1,h2⟩=>⟨y,ys,e,IsC.mono hm h1,IsC.mono hm h2⟩
variable {toks:List (List UInt8×Nat)} {len:Nat}
theorem ssize (w:World) (a:Addr) (u:Value):(w.setCell a u).heap.size=w.heap.size:=by simp[World.setCell]
theorem kfar {b B:Nat} {W w1:World} (hk:Kp b W w1) (hb:b<B) (hB:B<W.heap.size) (o:Nat):w1.cell? ⟨B,o,none⟩=W.cell? ⟨B,o,none⟩:=hk.cell (p:=⟨B,o,none⟩) hB (by show B≠b;omega)
theorem sfar (w:World) (k o B j:Nat) (u:Value) (h:k≠B):(w.setCell ⟨k,o,none⟩ u).cell? ⟨B,j,none⟩=w.cell? ⟨B,j,none⟩ :=
 World.cell?_of_block (Below.heap_setCell w ⟨k,o,none⟩ u B (by show B≠k;omega))
theorem load7 (w:World) (B:Nat) (c0 c1 c2 c3 c4 c5 c6:Value) (h0:w.cell? ⟨B,0,none⟩=some c0) (h1:w.cell? ⟨B,1,none⟩=some c1) (h2:w.cell? ⟨B,2,none⟩=some c2) (h3:w.cell? ⟨B,3,none⟩=some c3) (h4:w.cell? ⟨B,4,none⟩=some c4) (h5:w.cell? ⟨B,5,none⟩=some c5) (h6:w.cell? ⟨B,6,none⟩=some c6) :
 (loadVar 98 ⟨B,0,none⟩).run Tryz.prog w=.ok (.agg #[c0,c1,c2,c3,c4,c5,c6]) w:=by
 simp[go_sem,h0,h1,h2,h3,h4,h5,h6]
theorem zav {fn:Func} {tmps:Array Value} {w:World} {k:Nat} {t:TypeId} {a:Addr} {v:Value} (hf:fn.results=#[.cell k t]) (ht:tmps.getD k undef=.pointer (some a)) (hl:(loadVar t a).run Tryz.prog w=.ok v w):(results fn tmps).run Tryz.prog w=.ok v w:=by
 have ht':(tmps[k]?.getD undef)=.pointer (some a):=by simpa using ht
 simp[results,hf,ht',hl,asAddr]
theorem zal (w:World) (a:Addr) (u:Value) (h:∃v,w.cell? a=some v):(w.setCell a u).cell? a=some u:=by obtain⟨v,h⟩:=h;exact World.cell?_setCell_same _ _ _ h
theorem post7 {fn:Func} {R:Ending→World→Prop} {tmps:Array Value} {X:World} {B k:Nat} {c0 c1 c2 c3 c4 c5 c6:Value} (hf:fn.results=#[.cell k 98]) (ht:tmps.getD k undef=.pointer (some ⟨B,0,none⟩)) (hx:∀j,j<7→∃u,X.cell? ⟨B,j,none⟩=some u)
 (hR:R (.returned (.agg #[c0,c1,c2,c3,c4,c5,c6])) (((((((X.setCell ⟨B,0,none⟩ c0).setCell ⟨B,1,none⟩ c1).setCell ⟨B,2,none⟩ c2).setCell ⟨B,3,none⟩ c3).setCell ⟨B,4,none⟩ c4).setCell ⟨B,5,none⟩ c5).setCell ⟨B,6,none⟩ c6)):bodyPost Tryz.prog fn R .ret ⟨tmps,[]⟩ (((((((X.setCell ⟨B,0,none⟩ c0).setCell ⟨B,1,none⟩ c1).setCell ⟨B,2,none⟩ c2).setCell ⟨B,3,none⟩ c3).setCell ⟨B,4,none⟩ c4).setCell ⟨B,5,none⟩ c5).setCell ⟨B,6,none⟩ c6) :=
 bodyPost_ret (zav hf ht (load7 _ B c0 c1 c2 c3 c4 c5 c6 (by rw[zab _ _ _ _ _ (by omega),zab _ _ _ _ _ (by omega),zab _ _ _ _ _ (by omega),zab _ _ _ _ _ (by omega),zab _ _ _ _ _ (by omega),zab _ _ _ _ _ (by omega)];exact zal _ _ _ (by exact hx 0 (by omega))) (by rw[zab _ _ _ _ _ (by omega),zab _ _ _ _ _ (by omega),zab _ _ _ _ _ (by omega),zab _ _ _ _ _ (by omega),zab _ _ _ _ _ (by omega)];exact zal _ _ _ (by rw[zab _ _ _ _ _ (by omega)];exact hx 1 (by omega))) (by rw[zab _ _ _ _ _ (by omega),zab _ _ _ _ _ (by omega),zab _ _ _ _ _ (by omega),zab _ _ _ _ _ (by omega)];exact zal _ _ _ (by rw[zab _ _ _ _ _ (by omega),zab _ _ _ _ _ (by omega)];exact hx 2 (by omega))) (by rw[zab _ _ _ _ _ (by omega),zab _ _ _ _ _ (by omega),zab _ _ _ _ _ (by omega)];exact zal _ _ _ (by rw[zab _ _ _ _ _ (by omega),zab _ _ _ _ _ (by omega),zab _ _ _ _ _ (by omega)];exact hx 3 (by omega))) (by rw[zab _ _ _ _ _ (by omega),zab _ _ _ _ _ (by omega)];exact zal _ _ _ (by rw[zab _ _ _ _ _ (by omega),zab _ _ _ _ _ (by omega),zab _ _ _ _ _ (by omega),zab _ _ _ _ _ (by omega)];exact hx 4 (by omega))) (by rw[zab _ _ _ _ _ (by omega)];exact zal _ _ _ (by rw[zab _ _ _ _ _ (by omega),zab _ _ _ _ _ (by omega),zab _ _ _ _ _ (by omega),zab _ _ _ _ _ (by omega),zab _ _ _ _ _ (by omega)];exact hx 5 (by omega))) (by exact zal _ _ _ (by rw[zab _ _ _ _ _ (by omega),zab _ _ _ _ _ (by omega),zab _ _ _ _ _ (by omega),zab _ _ _ _ _ (by omega),zab _ _ _ _ _ (by omega),zab _ _ _ _ _ (by omega)];exact hx 6 (by omega))))) rfl hR
theorem At.w7 {X:World} {b tb cap:Nat} {T:List (Int×Int×Int)} {σ:PSt} (h:At X b tb cap T σ) (B:Nat) (c0 c1 c2 c3 c4 c5 c6:Value) (h1:b<B) (h2:tb<B):At (((((((X.setCell ⟨B,0,none⟩ c0).setCell ⟨B,1,none⟩ c1).setCell ⟨B,2,none⟩ c2).setCell ⟨B,3,none⟩ c3).setCell ⟨B,4,none⟩ c4).setCell ⟨B,5,none⟩ c5).setCell ⟨B,6,none⟩ c6) b tb cap T σ :=
 (((((((h.other B 0 c0 h1 h2).other B 1 c1 h1 h2).other B 2 c2 h1 h2).other B 3 c3 h1 h2).other B 4 c4 h1 h2).other B 5 c5 h1 h2).other B 6 c6 h1 h2)
theorem Kp.w7 {b:Nat} {w X:World} (h:Kp b w X) (B:Nat) (c0 c1 c2 c3 c4 c5 c6:Value) (h1:w.heap.size≤B):Kp b w (((((((X.setCell ⟨B,0,none⟩ c0).setCell ⟨B,1,none⟩ c1).setCell ⟨B,2,none⟩ c2).setCell ⟨B,3,none⟩ c3).setCell ⟨B,4,none⟩ c4).setCell ⟨B,5,none⟩ c5).setCell ⟨B,6,none⟩ c6) :=
 (((((((h.fresh B 0 c0 h1).fresh B 1 c1 h1).fresh B 2 c2 h1).fresh B 3 c3 h1).fresh B 4 c4 h1).fresh B 5 c5 h1).fresh B 6 c6 h1)
theorem zero7 (w:World) (c0 c1 c2 c3 c4 c5 c6:Value) (t:TypeId):∀j,j<7→∃u,(w.alloc (.cells #[c0,c1,c2,c3,c4,c5,c6] t)).cell? ⟨w.heap.size,j,none⟩=some u:=by
 intro j hj
 match j,hj with
 | 0,_=>exact⟨c0,by simp⟩
 | 1,_=>exact⟨c1,by simp⟩
 | 2,_=>exact⟨c2,by simp⟩
 | 3,_=>exact⟨c3,by simp⟩
 | 4,_=>exact⟨c4,by simp⟩
 | 5,_=>exact⟨c5,by simp⟩
 | 6,_=>exact⟨c6,by simp⟩
theorem afar (w:World) (o:Obj) (B j:Nat) (h:B<w.heap.size):(w.alloc o).cell? ⟨B,j,none⟩=w.cell? ⟨B,j,none⟩:=(zaa w o).cell (p:=⟨B,j,none⟩) h
theorem asize (w:World) (o:Obj):(w.alloc o).heap.size=w.heap.size+1:=by simp
variable {toks:List (List UInt8×Nat)} {len:Nat}
def Seven (w:World) (B:Nat) (c0 c1 c2 c3 c4 c5 c6:Value):Prop:=(w.cell? ⟨B,0,none⟩=some c0∧w.cell? ⟨B,1,none⟩=some c1∧w.cell? ⟨B,2,none⟩=some c2∧w.cell? ⟨B,3,none⟩=some c3∧w.cell? ⟨B,4,none⟩=some c4∧w.cell? ⟨B,5,none⟩=some c5∧w.cell? ⟨B,6,none⟩=some c6)∧∀o,w.frozen? ⟨B,o,none⟩=false
theorem Seven.kp {b B:Nat} {w w':World} {c0 c1 c2 c3 c4 c5 c6:Value} (h:Seven w B c0 c1 c2 c3 c4 c5 c6) (k:Kp b w w') (h1:b<B) (h2:B<w.heap.size):Seven w' B c0 c1 c2 c3 c4 c5 c6:=by
 obtain⟨⟨a0,a1,a2,a3,a4,a5,a6⟩,hf⟩:=h;have e:=kfar k h1 h2;exact⟨⟨(e _).trans a0,(e _).trans a1,(e _).trans a2,(e _).trans a3,(e _).trans a4,(e _).trans a5,(e _).trans a6⟩,fun o=>(k.frozen (p:=⟨B,o,none⟩) h2 (by show B≠b;omega)).trans (hf o)⟩
theorem Seven.other {B k o:Nat} {w:World} {u c0 c1 c2 c3 c4 c5 c6:Value} (h:Seven w B c0 c1 c2 c3 c4 c5 c6) (h1:k≠B):Seven (w.setCell ⟨k,o,none⟩ u) B c0 c1 c2 c3 c4 c5 c6:=by
 obtain⟨⟨a0,a1,a2,a3,a4,a5,a6⟩,hf⟩:=h;have e:=fun j=>sfar w k o B j u h1
 exact⟨⟨(e _).trans a0,(e _).trans a1,(e _).trans a2,(e _).trans a3,(e _).trans a4,(e _).trans a5,(e _).trans a6⟩,fun o'=>by rw[World.frozen?_setCell];exact hf o'⟩
theorem Seven.new (w:World) (c0 c1 c2 c3 c4 c5 c6:Value) (t:TypeId):Seven (w.alloc (.cells #[c0,c1,c2,c3,c4,c5,c6] t)) w.heap.size c0 c1 c2 c3 c4 c5 c6:=by
 refine⟨⟨by simp,by simp,by simp,by simp,by simp,by simp,by simp⟩,fun o=>by simp⟩
theorem Seven.some {w:World} {B:Nat} {c0 c1 c2 c3 c4 c5 c6:Value} (h:Seven w B c0 c1 c2 c3 c4 c5 c6):∀j,j<7→∃u,w.cell? ⟨B,j,none⟩=Option.some u:=by
 obtain⟨⟨a0,a1,a2,a3,a4,a5,a6⟩,hf⟩:=h;intro j hj
 match j,hj with
 | 0,_=>exact⟨_,a0⟩
 | 1,_=>exact⟨_,a1⟩
 | 2,_=>exact⟨_,a2⟩
 | 3,_=>exact⟨_,a3⟩
 | 4,_=>exact⟨_,a4⟩
 | 5,_=>exact⟨_,a5⟩
 | 6,_=>exact⟨_,a6⟩
theorem Seven.alloc {w:World} {B:Nat} {c0 c1 c2 c3 c4 c5 c6:Value} (h:Seven w B c0 c1 c2 c3 c4 c5 c6) (hB:B<w.heap.size) (o:Obj):Seven (w.alloc o) B c0 c1 c2 c3 c4 c5 c6:=by
 obtain⟨⟨a0,a1,a2,a3,a4,a5,a6⟩,hf⟩:=h;have e:=fun j=>afar w o B j hB
 exact⟨⟨(e _).trans a0,(e _).trans a1,(e _).trans a2,(e _).trans a3,(e _).trans a4,(e _).trans a5,(e _).trans a6⟩,fun j=>((zaa w o).frozen (p:=⟨B,j,none⟩) hB).trans (hf j)⟩
theorem Seven.put {X:World} {B:Nat} {o0 o1 o2 o3 o4 o5 o6:Value} (h:Seven X B o0 o1 o2 o3 o4 o5 o6) (c0 c1 c2 c3 c4 c5 c6:Value):Seven (((((((X.setCell ⟨B,0,none⟩ c0).setCell ⟨B,1,none⟩ c1).setCell ⟨B,2,none⟩ c2).setCell ⟨B,3,none⟩ c3).setCell ⟨B,4,none⟩ c4).setCell ⟨B,5,none⟩ c5).setCell ⟨B,6,none⟩ c6) B c0 c1 c2 c3 c4 c5 c6:=by
 have hx:=h.some;refine⟨⟨by rw[zab _ _ _ _ _ (by omega),zab _ _ _ _ _ (by omega),zab _ _ _ _ _ (by omega),zab _ _ _ _ _ (by omega),zab _ _ _ _ _ (by omega),zab _ _ _ _ _ (by omega)];exact zal _ _ _ (by exact hx 0 (by omega)),by rw[zab _ _ _ _ _ (by omega),zab _ _ _ _ _ (by omega),zab _ _ _ _ _ (by omega),zab _ _ _ _ _ (by omega),zab _ _ _ _ _ (by omega)];exact zal _ _ _ (by rw[zab _ _ _ _ _ (by omega)];exact hx 1 (by omega)),by rw[zab _ _ _ _ _ (by omega),zab _ _ _ _ _ (by omega),zab _ _ _ _ _ (by omega),zab _ _ _ _ _ (by omega)];exact zal _ _ _ (by rw[zab _ _ _ _ _ (by omega),zab _ _ _ _ _ (by omega)];exact hx 2 (by omega)),by rw[zab _ _ _ _ _ (by omega),zab _ _ _ _ _ (by omega),zab _ _ _ _ _ (by omega)];exact zal _ _ _ (by rw[zab _ _ _ _ _ (by omega),zab _ _ _ _ _ (by omega),zab _ _ _ _ _ (by omega)];exact hx 3 (by omega)),by rw[zab _ _ _ _ _ (by omega),zab _ _ _ _ _ (by omega)];exact zal _ _ _ (by rw[zab _ _ _ _ _ (by omega),zab _ _ _ _ _ (by omega),zab _ _ _ _ _ (by omega),zab _ _ _ _ _ (by omega)];exact hx 4 (by omega)),by rw[zab _ _ _ _ _ (by omega)];exact zal _ _ _ (by rw[zab _ _ _ _ _ (by omega),zab _ _ _ _ _ (by omega),zab _ _ _ _ _ (by omega),zab _ _ _ _ _ (by omega),zab _ _ _ _ _ (by omega)];exact hx 5 (by omega)),by exact zal _ _ _ (by rw[zab _ _ _ _ _ (by omega),zab _ _ _ _ _ (by omega),zab _ _ _ _ _ (by omega),zab _ _ _ _ _ (by omega),zab _ _ _ _ _ (by omega),zab _ _ _ _ _ (by omega)];exact hx 6 (by omega))⟩,fun o=>?_⟩;rw[World.frozen?_setCell,World.frozen?_setCell,World.frozen?_setCell,World.frozen?_setCell,World.frozen?_setCell,World.frozen?_setCell,World.frozen?_setCell];exact h.2 o
theorem Seven.far7 {X:World} {B B':Nat} {o0 o1 o2 o3 o4 o5 o6:Value} (h:Seven X B' o0 o1 o2 o3 o4 o5 o6) (hne:B≠B') (c0 c1 c2 c3 c4 c5 c6:Value):Seven (((((((X.setCell ⟨B,0,none⟩ c0).setCell ⟨B,1,none⟩ c1).setCell ⟨B,2,none⟩ c2).setCell ⟨B,3,none⟩ c3).setCell ⟨B,4,none⟩ c4).setCell ⟨B,5,none⟩ c5).setCell ⟨B,6,none⟩ c6) B' o0 o1 o2 o3 o4 o5 o6 :=
 ((((((h.other hne).other hne).other hne).other hne).other hne).other hne).other hne
theorem same7 {P:Nat→Prop} {B:Nat} (h:¬P B) (X:World) (c0 c1 c2 c3 c4 c5 c6:Value):Same P X (((((((X.setCell ⟨B,0,none⟩ c0).setCell ⟨B,1,none⟩ c1).setCell ⟨B,2,none⟩ c2).setCell ⟨B,3,none⟩ c3).setCell ⟨B,4,none⟩ c4).setCell ⟨B,5,none⟩ c5).setCell ⟨B,6,none⟩ c6) :=
 (((((((za2 P _ B 0 c0 h).trans (za2 P _ B 1 c1 h)).trans (za2 P _ B 2 c2 h)).trans (za2 P _ B 3 c3 h)).trans (za2 P _ B 4 c4 h)).trans (za2 P _ B 5 c5 h)).trans (za2 P _ B 6 c6 h))
end Go.Proofs.YtkinoehmcfhgbaaGreatDoor.Av
