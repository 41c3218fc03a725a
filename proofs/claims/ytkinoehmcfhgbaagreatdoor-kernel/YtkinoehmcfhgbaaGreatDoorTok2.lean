/- A part of the proof. -/
import Derived.Test.YtkinoehmcfhgbaaGreatDoorV10
import Derived.Deep.LoopGhost
set_option linter.unusedVariables false
set_option linter.unusedSimpArgs false
set_option maxRecDepth 100000
set_option maxHeartbeats 1000000
namespace Go.Proofs.YtkinoehmcfhgbaaGreatDoor.Av
open Go.RowKit
theorem zjd (l:List UInt8) (n:Nat) (h:sg2 (l.take n)=true):sg2 l=true:=by
 match l,n,h with
 | a::b::r,n+2,h=>simpa [sg2] using h
 | a::b::r,1,h=>simp[sg2] at h
 | a::b::r,0,h=>simp[sg2] at h
 | [a],0,h=>simp[sg2] at h
 | [a],n+1,h=>simp[sg2] at h
 | [],n,h=>simp[sg2] at h
theorem zkI (l:List UInt8) (h:0<sgn l):tk (l.take (tlen l))=(syk l,0):=by
 have ht:tlen l=sgn l:=by unfold tlen;rw[if_pos h]
 rw[ht];by_cases h2:sg2 l=true
 ·match l,h2 with
  | a::b::r,h2 =>
   have e:sgn (a::b::r)=2:=by unfold sgn;rw[if_pos h2]
   rw[e];have h2':sg2 [a,b]=true:=by simpa [sg2] using h2
   have e':sgn [a,b]=2:=by unfold sgn;rw[if_pos h2']
   show tk [a,b]=_
   unfold tk syk;rw[e',if_pos h2',if_pos h2];rfl
 ·match l with
  | []=>simp[sgn,sg2] at h
  | a::r =>
   have h1:sg1 a=true:=by
    cases hs:sg1 a with
    | true=>rfl
    | false=>unfold sgn at h;rw[if_neg h2] at h;simp[hs] at h
   have e:sgn (a::r)=1:=by unfold sgn;rw[if_neg h2];simp[h1]
   rw[e];have e':sgn [a]=1:=by simp[sgn,sg2,h1]
   show tk [a]=_
   unfold tk syk;rw[e',if_neg h2];simp[sg2]
theorem zkJ (a:UInt8) (r:List UInt8) (h:¬0<sgn (a::r)):tk ((a::r).take (tlen (a::r)))=wk ((a::r).take (tlen (a::r))):=by
 have ht:tlen (a::r)=1+wlen r:=by unfold tlen;rw[if_neg h];rfl
 have h2:¬sg2 (a::r)=true:=by
  intro hh;unfold sgn at h;rw[if_pos hh] at h;omega
 have h1:¬sg1 a=true:=by
  intro hh;unfold sgn at h;rw[if_neg h2] at h;simp[hh] at h
 have e:(a::r).take (tlen (a::r))=a::r.take (wlen r):=by rw[ht,Nat.add_comm];rfl
 have h2':¬sg2 (a::r.take (wlen r))=true:=by
  intro hh;rw[←e] at hh;exact h2 (zjd _ _ hh)
 rw[e];have:sgn (a::r.take (wlen r))=0:=by unfold sgn;rw[if_neg h2'];simp[h1]
 unfold tk;rw[this];simp
theorem zfo (s:ByteArray) (k:Nat) (w:World) (hs:s.size≤300) (h0:k<s.size) :
 Calls Tryz.prog 107 #[.string s,.int .i64 (k:Int)] w fun e w'=>e=.returned (.tuple #[.agg #[.int .i64 (tk ((rest s k).take (tlen (rest s k)))).1,.int .i64 (k:Int),.int .i64 (tk ((rest s k).take (tlen (rest s k)))).2],.int .i64 (tlen (rest s k):Int)])∧Below w.heap.size w w':=by
 by_cases hg:0<sgn (rest s k)
 ·have ht:tlen (rest s k)=sgn (rest s k):=by unfold tlen;rw[if_pos hg]
  rw[zkI _ hg,ht];have C1:Hid (∀w,Calls Tryz.prog 150 #[.string s,.int .i64 (k:Int)] w fun e' w'=>e'=.returned (.tuple #[.int .i64 (syk (rest s k)),.int .i64 (sgn (rest s k))])∧w'=w):=fun w=>zbo s k w hs h0
  clear ht;generalize syk (rest s k)=Y at *;generalize sgn (rest s k)=G at *;go_enter Tryz.func107,Tryz.ntmps107;go_wp2_with (go_at_call 150;refine(C1.out _).mono ?_;rintro e' w' ⟨rfl,rfl⟩);exact bodyPost_ret (v:=.tuple #[.agg #[.int .i64 Y,.int .i64 (k:Int),.int .i64 0],.int .i64 (G:Int)]) (by simp[results,Tryz.results107,go_sem]) rfl ⟨rfl,(Below.refl _ _).alloc (Nat.le_refl _) _⟩
 ·have hc:=zag s k h0;have ht:tlen (rest s k)=1+wlen (rest s (k+1)):=by unfold tlen;rw[if_neg hg,hc];rfl
  have hw:tk ((rest s k).take (tlen (rest s k)))=wk ((rest s k).take (tlen (rest s k))):=by
   rw[hc] at hg ⊢;exact zkJ _ _ hg
  rw[hw];have hwl:wlen (rest s (k+1))≤s.size-(k+1):=by have:=zfL (rest s (k+1));rw[zaw] at this;exact this
  have hx:(s.extract k (k+tlen (rest s k))).data.toList=(rest s k).take (tlen (rest s k)):=by rw[za3];congr 1;omega
  have hxs:(s.extract k (k+tlen (rest s k))).size=tlen (rest s k):=by simp;omega
  have C1:Hid (∀w,Calls Tryz.prog 150 #[.string s,.int .i64 (k:Int)] w fun e' w'=>e'=.returned (.tuple #[.int .i64 (syk (rest s k)),.int .i64 (sgn (rest s k))])∧w'=w):=fun w=>zbo s k w hs h0
  have C2:Hid (∀w,Calls Tryz.prog 151 #[.string s,.int .i64 (k:Int)] w fun e' w'=>e'=.returned (.int .i64 ((k+tlen (rest s k):Nat):Int))∧w'=w):=fun w=>by
   have:=zfQ s k w hs h0;rw[ht,←Nat.add_assoc];exact this
  have C3:Hid (∀w,Calls Tryz.prog 152 #[.string (s.extract k (k+tlen (rest s k)))] w fun e' w'=>e'=.returned (.tuple #[.int .i64 (wk ((rest s k).take (tlen (rest s k)))).1,.int .i64 (wk ((rest s k).take (tlen (rest s k)))).2])∧w'=w):=fun w=>by
   rw[←hx];exact ze3 _ w (by omega) (by omega)
  have hT0:0<tlen (rest s k):=zb7 _;have hT:k+tlen (rest s k)≤s.size:=by omega
  clear hx hxs hw ht hwl hc;generalize wk ((rest s k).take (tlen (rest s k)))=R at *;generalize tlen (rest s k)=T at *;generalize syk (rest s k)=Y at *;generalize sgn (rest s k)=G at *;go_enter Tryz.func107,Tryz.ntmps107;go_wp2_with (first|(go_at_call 150;refine(C1.out _).mono ?_;rintro e' w' ⟨rfl,rfl⟩)|(go_at_call 151;refine(C2.out _).mono ?_;rintro e' w' ⟨rfl,rfl⟩)|(go_at_call 152;refine(C3.out _).mono ?_;rintro e' w' ⟨rfl,rfl⟩));exact bodyPost_ret (v:=.tuple #[.agg #[.int .i64 R.1,.int .i64 (k:Int),.int .i64 R.2],.int .i64 (T:Int)]) (by simp[results,Tryz.results107,go_sem];try omega) rfl ⟨rfl,(Below.refl _ _).alloc (Nat.le_refl _) _⟩
theorem Tryz.infoTok:(Tryz.prog.info? 216).map (fun i=>(i.zero,i.size,i.bytes))=some (some (.agg zZd),3,24):=by kernel_rfl
def cell3 (t:List UInt8×Nat):List Value:=[.int .i64 (tk t.1).1,.int .i64 (t.2:Int),.int .i64 (tk t.1).2]
def cells3 (l:List (List UInt8×Nat)):List Value:=l.flatMap cell3
theorem zhf {w w1:World} {base:Nat} {e:TypeId} {size:Nat} {v:Value} {n:Nat} {xs:List Value} (h:w.ownsRow base e size v n xs) (hb:Below w.heap.size w w1):w1.ownsRow base e size v n xs:=by
 obtain⟨h1,h2⟩:=h;refine⟨h1,?_⟩;rcases h2 with h2|⟨g,cap,cur,hv,hg,hh,r⟩
 ·exact Or.inl h2
 ·have:g<w.heap.size:=by
   rcases Nat.lt_or_ge g w.heap.size with h|h
   ·exact h
   ·rw[Array.getElem?_eq_none h] at hh;cases hh
  exact Or.inr ⟨g,cap,cur,hv,hg,by rw[hb.block g this];exact hh,r⟩
theorem zae {w:World} {base:Nat} {e:TypeId} {size:Nat} {v:Value} {n:Nat} {xs:List Value} (h:w.ownsRow base e size v n xs):∀k,v.ownBlock=some k→base≤k:=by
 intro k hk;rcases h.2 with⟨rfl,_⟩|⟨g,cap,cur,rfl,hg,_⟩
 ·simp[Value.ownBlock] at hk
 ·simp[Value.ownBlock] at hk;omega
theorem zbj (w:World) (a b c:Value) (t:TypeId):∀j u,[a,b,c][j]?=some u→(w.alloc (.cells #[a,b,c] t)).cell? ((⟨w.heap.size,0,none⟩:Addr).add j)=some u:=by
 intro j u h
 match j,h with
 | 0,h=>simp at h;subst h;simp[Addr.add]
 | 1,h=>simp at h;subst h;simp[Addr.add]
 | 2,h=>simp at h;subst h;simp[Addr.add]
theorem zgH (w:World) (B:Nat) (hB:B=w.heap.size) (a b c:Value) (t:TypeId):∀j u,[a,b,c][j]?=some u→(w.alloc (.cells #[a,b,c] t)).cell? ((⟨B,0,none⟩:Addr).add j)=some u:=by
 subst hB;exact zbj w a b c t
theorem zje (s:ByteArray) (w:World) (hs:s.size≤300) :
 Calls Tryz.prog 69 #[.string s] w fun e w'=>∃v,e=.returned v∧w'.ownsRow w.heap.size 216 3 v ((tokAt 0 (rest s 0)).length+1) (cells3 (tokAt 0 (rest s 0))++[.int .i64 0,.int .i64 (s.size:Int),.int .i64 0])∧Below w.heap.size w w':=by
 obtain⟨i0,hi,hz0,hz1,hz2⟩:=info_parts Tryz.infoTok;go_enter Tryz.func69,Tryz.ntmps69;go_wp2_with fail
 go_loopw [3,4] (fun v i wr=>∃(k:Nat) (ds:List (List UInt8×Nat)),k≤s.size∧i=.int .i64 k∧wr.ownsRow w.heap.size 216 3 v ds.length (cells3 ds)∧tokAt 0 (rest s 0)=ds++tokAt k (rest s k)∧Below w.heap.size w wr) (fun _ i _=>s.size-(intOf i).toNat)
 case atStart=>exact⟨0,[],Nat.zero_le _,rfl,World.ownsRow_nil _ _ _ _,rfl,Below.refl _ _⟩
 case round =>
  obtain⟨k,ds,hk,rfl,hown,hq,hnx⟩:=hrel;have Q:Hid (tokAt 0 (rest s 0)=ds++tokAt k (rest s k)):=hq;clear hq;by_cases hlt:k<s.size
  ·have C1:Hid (∀w,Calls Tryz.prog 106 #[.int .u8 (s[k].toNat:Int)] w fun e' w'=>e'=.returned (.bool (blank s[k]))∧w'=w):=fun w=>zcw _ _
   have hdl:ds.length≤300:=by
    have hl:=zb8 0 (rest s 0);rw[zaw,Q.out,List.length_append] at hl;omega
   have hsz:=hnx.size;obtain⟨B,hB⟩:∃B,blank s[k]=B:=⟨_,rfl⟩
   rw[hB] at C1;cases B
   ·have C2:Hid (∀w,Calls Tryz.prog 107 #[.string s,.int .i64 (k:Int)] w fun e w'=>e=.returned (.tuple #[.agg #[.int .i64 (tk ((rest s k).take (tlen (rest s k)))).1,.int .i64 (k:Int),.int .i64 (tk ((rest s k).take (tlen (rest s k)))).2],.int .i64 (tlen (rest s k):Int)])∧Below w.heap.size w w'):=fun w=>zfo s k w hs hlt
    have hT:k+tlen (rest s k)≤s.size:=by
     have:=zlj s[k] (rest s (k+1));rw[←zag s k hlt,zaw] at this;omega
    have hT0:0<tlen (rest s k):=zb7 _;have Q2:Hid (tokAt 0 (rest s 0)=(ds++[((rest s k).take (tlen (rest s k)),k)])++tokAt (k+tlen (rest s k)) (rest s (k+tlen (rest s k)))):=by
     show _=_
     have e:=zix k s[k] (rest s (k+1)) hB;rw[←zag s k hlt,zbn] at e;rw[Q.out,e,List.append_assoc];rfl
    clear hB;obtain⟨t,ht⟩:∃t,(rest s k).take (tlen (rest s k))=t:=⟨_,rfl⟩
    rw[ht] at C2 Q2;clear ht;generalize tlen (rest s k)=T at *;go_wp2_with fail;refine(C1.out _).mono ?_;rintro e' w' ⟨rfl,rfl⟩;go_wp2_with fail;refine(C2.out _).mono ?_;rintro e' w1 ⟨rfl,hb1⟩;have hown1:=zhf hown hb1;have hnx1:=hnx.trans (hb1.mono hsz);have hsz1:=hb1.size;clear hown hb1 C1 C2;go_wp2_with (at_builtin;refine wpList_append_own _ rfl _ _ 145 rfl w.heap.size 216 i0 (.agg zZd) 3 24 Tryz.underlying145 hi hz0 hz1 hz2 rfl (by decide) _ _ _ rfl ((hown1.alloc _).alloc _) ⟨w1.heap.size+1,0,none⟩ 1 1 (cell3 (t,k)) rfl rfl ?c1 ?c2 ?c3 ?c4 ?c5 ?_)
    case c1=>exact zgH _ _ (by simp) _ _ _ _
    case c2=>intro u hu;simp[cell3] at hu;rcases hu with rfl|rfl|rfl<;>rfl
    case c3=>unfold maxLen;omega
    case c4=>omega
    case c5=>simp;omega
    ·intro v' w2 hown2 hgrow _;have hb2:=((hnx1.alloc (by omega) _).alloc (by simp;omega) _).grown hgrow (by simp;omega) (zae hown1);clear hown1 hgrow;go_wp2_with fail
     go_roundw
     case rel=>exact⟨k+T,ds++[(t,k)],by omega,by go_num,by simpa [cells3] using hown2,Q2.out,hb2⟩
     case measure=>simp[intOf];omega
   ·have Q2:Hid (tokAt 0 (rest s 0)=ds++tokAt (k+1) (rest s (k+1))):=by
     show _=_
     rw[Q.out,zag s k hlt,zfM _ _ _ hB]
    clear hB;go_wp2_with (go_at_call 106;refine(C1.out _).mono ?_;rintro e' w' ⟨rfl,rfl⟩)
    go_roundw
    case rel=>exact⟨k+1,ds,by omega,by go_num,hown,Q2.out,hnx⟩
    case measure=>simp[intOf];omega
  ·have hl:=zb8 0 (rest s 0);rw[zaw] at hl;have hd:tokAt 0 (rest s 0)=ds:=by rw[Q.out,zbb s k (by omega),ziw,List.append_nil]
   have hdl:ds.length≤300:=by rw[←hd];omega
   clear hl;have HD:Hid (tokAt 0 (rest s 0)=ds):=hd;clear hd;go_wp2_with (at_builtin;refine wpList_append_own _ rfl _ _ 145 rfl w.heap.size 216 i0 (.agg zZd) 3 24 Tryz.underlying145 hi hz0 hz1 hz2 rfl (by decide) _ _ _ rfl (hown.alloc _) ⟨wr.heap.size,0,none⟩ 1 1 [.int .i64 0,.int .i64 (s.size:Int),.int .i64 0] rfl rfl ?d1 ?d2 ?d3 ?d4 ?d5 ?_)
   case d1=>exact zbj _ _ _ _ _
   case d2=>intro u hu;simp at hu;rcases hu with rfl|rfl|rfl<;>rfl
   case d3=>unfold maxLen;omega
   case d4=>omega
   case d5=>have:=hnx.size;simp;omega
   ·intro v' w1 hown' hgrow _;go_wp2_with fail;go_ret;refine⟨v',rfl,?_,?_⟩
    ·rw[HD.out];exact hown'
    ·exact(hnx.alloc hnx.size _).grown hgrow (by have:=hnx.size;simp;omega) (zae hown)
def Kp (b:Nat) (w w':World):Prop:=w.grownBy w' (some b)
theorem Kp.refl (b:Nat) (w:World):Kp b w w:=⟨rfl,rfl,rfl,Nat.le_refl _,fun _ _ _=>rfl⟩
theorem Kp.trans {b:Nat} {w w' w'':World} (h:Kp b w w') (k:Kp b w' w''):Kp b w w'' :=
 ⟨k.os.trans h.os,k.tape.trans h.tape,k.output.trans h.output,Nat.le_trans h.size k.size,fun i hi hb=>(k.block i (Nat.lt_of_lt_of_le hi h.size) hb).trans (h.block i hi hb)⟩
theorem Kp.drew {b:Nat} {w w':World} (h:Kp b w w'):Kp b w w'.drew:=⟨h.os,h.tape,h.output,h.size,h.block⟩
theorem Kp.drewN {b:Nat} {w w':World} (h:Kp b w w') (n:Nat):Kp b w (w'.drewN n):=h.trans ⟨rfl,rfl,rfl,Nat.le_refl _,fun _ _ _=>rfl⟩
theorem Kp.alloc {b:Nat} {w w':World} (h:Kp b w w') (o:Obj):Kp b w (w'.alloc o) :=
 h.trans ⟨rfl,rfl,rfl,by simp,fun k hk _=>Below.heap_alloc _ _ _ hk⟩
theorem Kp.setCell {b:Nat} {w w':World} (h:Kp b w w') {p:Addr} (hp:p.block=b∨w.heap.size≤p.block) (u:Value):Kp b w (w'.setCell p u):=by
 refine⟨h.os,h.tape,h.output,by simpa [World.setCell] using h.size,fun k hk hb=>?_⟩;rw[Below.heap_setCell _ _ _ _ (by
  rcases hp with hp|hp
  ·intro e;apply hb;rw[e,hp]
  ·omega)]
 exact h.block k hk hb
theorem Kp.of_below {b:Nat} {w w':World} (h:Below w.heap.size w w'):Kp b w w':=⟨h.os,h.tape,h.output,h.size,fun k hk _=>h.block k hk⟩
theorem Kp.below {b:Nat} {a w w':World} (h:Below a.heap.size a w) (k:Kp b w w') (hb:a.heap.size≤b):Below a.heap.size a w' :=
 h.grown k h.size (fun j e=>by cases e;exact hb)
theorem Kp.cell {b:Nat} {w w':World} (h:Kp b w w') {p:Addr} (hp:p.block<w.heap.size) (hb:p.block≠b):w'.cell? p=w.cell? p :=
 World.cell?_of_block (h.block p.block hp (fun e=>hb (Option.some.inj e)))
theorem Kp.frozen {b:Nat} {w w':World} (h:Kp b w w') {p:Addr} (hp:p.block<w.heap.size) (hb:p.block≠b):w'.frozen? p=w.frozen? p :=
 World.frozen?_of_block (h.block p.block hp (fun e=>hb (Option.some.inj e)))
def t3 (t:List UInt8×Nat):Int×Int×Int:=((tk t.1).1,(t.2:Int),(tk t.1).2)
def T3 (toks:List (List UInt8×Nat)) (len:Nat):List (Int×Int×Int):=toks.map t3++[(0,(len:Int),0)]
def kd (T:List (Int×Int×Int)) (j:Nat):Int:=(T.getD j (0,0,0)).1
def plc (T:List (Int×Int×Int)) (j:Nat):Int:=(T.getD j (0,0,0)).2.1
def vlu (T:List (Int×Int×Int)) (j:Nat):Int:=(T.getD j (0,0,0)).2.2
structure PSt where
 pos:Nat
 d:Int
 e:Int
 pl:Int
structure At (w:World) (b tb cap:Nat) (T:List (Int×Int×Int)) (σ:PSt):Prop where
 hb:b<w.heap.size
 htb:tb<w.heap.size
 hne:tb≠b
 hcap:T.length≤cap
 hcm:cap≤maxLen
 c0:w.cell? ⟨b,0,none⟩=some (.slice (some ⟨tb,0,none⟩) T.length cap)
 c1:w.cell? ⟨b,1,none⟩=some (.int .i64 (σ.pos:Int))
 c2:w.cell? ⟨b,2,none⟩=some (.int .i64 σ.d)
 c3:w.cell? ⟨b,3,none⟩=some (.int .i64 σ.e)
 c4:w.cell? ⟨b,4,none⟩=some (.int .i64 σ.pl)
 f:∀o,w.frozen? ⟨b,o,none⟩=false
 toks:∀j,j<T.length→w.cell? ⟨tb,j*3,none⟩=some (.int .i64 (kd T j))∧w.cell? ⟨tb,j*3+1,none⟩=some (.int .i64 (plc T j))∧w.cell? ⟨tb,j*3+2,none⟩=some (.int .i64 (vlu T j))
theorem At.move {w w':World} {b tb cap:Nat} {T:List (Int×Int×Int)} {σ σ':PSt} (h:At w b tb cap T σ) (k:Kp b w w')
 (h0:w'.cell? ⟨b,0,none⟩=w.cell? ⟨b,0,none⟩) (h1:w'.cell? ⟨b,1,none⟩=some (.int .i64 (σ'.pos:Int))) (h2:w'.cell? ⟨b,2,none⟩=some (.int .i64 σ'.d))
 (h3:w'.cell? ⟨b,3,none⟩=some (.int .i64 σ'.e)) (h4:w'.cell? ⟨b,4,none⟩=some (.int .i64 σ'.pl)) (hf:∀o,w'.frozen? ⟨b,o,none⟩=false):At w' b tb cap T σ' :=
 ⟨Nat.lt_of_lt_of_le h.hb k.size,Nat.lt_of_lt_of_le h.htb k.size,h.hne,h.hcap,h.hcm,h0.trans h.c0,h1,h2,h3,h4,hf,fun j hj=>by
  obtain⟨a1,a2,a3⟩:=h.toks j hj;exact⟨(k.cell (p:=⟨tb,j*3,none⟩) h.htb h.hne).trans a1,(k.cell (p:=⟨tb,j*3+1,none⟩) h.htb h.hne).trans a2,(k.cell (p:=⟨tb,j*3+2,none⟩) h.htb h.hne).trans a3⟩⟩
theorem At.below {w w':World} {b tb cap:Nat} {T:List (Int×Int×Int)} {σ:PSt} (h:At w b tb cap T σ) (k:Below w.heap.size w w'):At w' b tb cap T σ :=
 h.move (Kp.of_below k) (k.cell (p:=⟨b,0,none⟩) h.hb) ((k.cell (p:=⟨b,1,none⟩) h.hb).trans h.c1) ((k.cell (p:=⟨b,2,none⟩) h.hb).trans h.c2) ((k.cell (p:=⟨b,3,none⟩) h.hb).trans h.c3) ((k.cell (p:=⟨b,4,none⟩) h.hb).trans h.c4) (fun o=>(k.frozen (p:=⟨b,o,none⟩) h.hb).trans (h.f o))
theorem At.alloc {w:World} {b tb cap:Nat} {T:List (Int×Int×Int)} {σ:PSt} (h:At w b tb cap T σ) (o:Obj):At (w.alloc o) b tb cap T σ:=h.below ((Below.refl _ _).alloc (Nat.le_refl _) _)
theorem At.drew {w:World} {b tb cap:Nat} {T:List (Int×Int×Int)} {σ:PSt} (h:At w b tb cap T σ):At w.drew b tb cap T σ:=h.below (Below.refl _ _).drew
theorem At.drewN {w:World} {b tb cap:Nat} {T:List (Int×Int×Int)} {σ:PSt} (h:At w b tb cap T σ) (n:Nat):At (w.drewN n) b tb cap T σ:=h.below (below_drewN (Below.refl _ _) n)
theorem zab (w:World) (b i j:Nat) (u:Value) (h:i≠j):(w.setCell ⟨b,i,none⟩ u).cell? ⟨b,j,none⟩=w.cell? ⟨b,j,none⟩:=by
 apply World.cell?_setCell_other
 intro e;injection e with _ e2 _;exact h e2
theorem At.frz {w:World} {b tb cap:Nat} {T:List (Int×Int×Int)} {σ:PSt} (h:At w b tb cap T σ) (a:Addr) (u:Value):∀o,(w.setCell a u).frozen? ⟨b,o,none⟩=false:=fun o=>by
 rw[World.frozen?_setCell];exact h.f o
theorem At.set1 {w:World} {b tb cap:Nat} {T:List (Int×Int×Int)} {σ:PSt} (h:At w b tb cap T σ) (n:Nat):At (w.setCell ⟨b,1,none⟩ (.int .i64 (n:Int))) b tb cap T {σ with pos:=n} :=
 h.move ((Kp.refl _ _).setCell (Or.inl rfl) _) (zab _ _ _ _ _ (by omega)) (World.cell?_setCell_same _ _ _ h.c1) ((zab _ _ _ _ _ (by omega)).trans h.c2) ((zab _ _ _ _ _ (by omega)).trans h.c3) ((zab _ _ _ _ _ (by omega)).trans h.c4) (h.frz _ _)
theorem At.set2 {w:World} {b tb cap:Nat} {T:List (Int×Int×Int)} {σ:PSt} (h:At w b tb cap T σ) (n:Int):At (w.setCell ⟨b,2,none⟩ (.int .i64 n)) b tb cap T {σ with d:=n} :=
 h.move ((Kp.refl _ _).setCell (Or.inl rfl) _) (zab _ _ _ _ _ (by omega)) ((zab _ _ _ _ _ (by omega)).trans h.c1) (World.cell?_setCell_same _ _ _ h.c2) ((zab _ _ _ _ _ (by omega)).trans h.c3) ((zab _ _ _ _ _ (by omega)).trans h.c4) (h.frz _ _)
theorem At.set3 {w:World} {b tb cap:Nat} {T:List (Int×Int×Int)} {σ:PSt} (h:At w b tb cap T σ) (n:Int):At (w.setCell ⟨b,3,none⟩ (.int .i64 n)) b tb cap T {σ with e:=n} :=
 h.move ((Kp.refl _ _).setCell (Or.inl rfl) _) (zab _ _ _ _ _ (by omega)) ((zab _ _ _ _ _ (by omega)).trans h.c1) ((zab _ _ _ _ _ (by omega)).trans h.c2) (World.cell?_setCell_same _ _ _ h.c3) ((zab _ _ _ _ _ (by omega)).trans h.c4) (h.frz _ _)
theorem At.set4 {w:World} {b tb cap:Nat} {T:List (Int×Int×Int)} {σ:PSt} (h:At w b tb cap T σ) (n:Int):At (w.setCell ⟨b,4,none⟩ (.int .i64 n)) b tb cap T {σ with pl:=n} :=
 h.move ((Kp.refl _ _).setCell (Or.inl rfl) _) (zab _ _ _ _ _ (by omega)) ((zab _ _ _ _ _ (by omega)).trans h.c1) ((zab _ _ _ _ _ (by omega)).trans h.c2) ((zab _ _ _ _ _ (by omega)).trans h.c3) (World.cell?_setCell_same _ _ _ h.c4) (h.frz _ _)
theorem za0 (w:World) (b tb cap:Nat) (T:List (Int×Int×Int)) (σ:PSt) (h:At w b tb cap T σ) (hp:σ.pos<T.length) :
 Calls Tryz.prog 153 #[.pointer (some ⟨b,0,none⟩)] w fun e w'=>e=.returned (.int .i64 (kd T σ.pos))∧∃n,w'=w.drewN n:=by
 obtain⟨a1,a2,a3⟩:=h.toks σ.pos hp;have c0:=h.c0;have c1:=h.c1;have hcm:=h.hcm;have hcap:=h.hcap;unfold maxLen at hcm;generalize kd T σ.pos=K at *;generalize σ.pos=p at *;generalize T.length=n at *;clear h;go_enter Tryz.func153,Tryz.ntmps153;go_wp2
 go_quiet (fail)
 go_wp2;go_ret;exact⟨rfl,_,rfl⟩
def PSt.adv (σ:PSt) (T:List (Int×Int×Int)):PSt:=if kd T σ.pos=0 then σ else {σ with pos:=σ.pos+1}
theorem za9 (w:World) (b tb cap:Nat) (T:List (Int×Int×Int)) (σ:PSt) (h:At w b tb cap T σ) (hp:σ.pos<T.length) (hT:T.length≤1000) :
 Calls Tryz.prog 155 #[.pointer (some ⟨b,0,none⟩)] w fun e w'=>e=.returned (.agg #[.int .i64 (kd T σ.pos),.int .i64 (plc T σ.pos),.int .i64 (vlu T σ.pos)])∧At w' b tb cap T (σ.adv T)∧Kp b w w':=by
 have H:Hid (At w b tb cap T σ):=h;have HA:Hid (σ.adv T=if kd T σ.pos=0 then σ else {σ with pos:=σ.pos+1}):=rfl;obtain⟨a1,a2,a3⟩:=h.toks σ.pos hp;have c0:=h.c0;have c1:=h.c1;have hf1:=h.f 1;have hbs:=h.hb;have hts:=h.htb;have hcm:=h.hcm;have hcap:=h.hcap;unfold maxLen at hcm;clear h;generalize hK:kd T σ.pos=K at *;generalize plc T σ.pos=L at *;generalize vlu T σ.pos=V at *;generalize hP:σ.pos=p at *;clear hP hK;by_cases hk:K=0
 ·have hk':(K != 0)=false:=by simp[hk]
  go_enter Tryz.func155,Tryz.ntmps155;go_wp2;go_region;go_wp2;exact bodyPost_ret (v:=.agg #[.int .i64 0,.int .i64 L,.int .i64 V]) (by simp[results,Tryz.results155,go_sem]) rfl ⟨by rw[hk],by rw[HA.out,if_pos hk];exact((H.out.alloc _).alloc _).drew,(((Kp.refl _ _).alloc _).alloc _).drew⟩
 ·have hk':(K != 0)=true:=by simpa using hk
  go_enter Tryz.func155,Tryz.ntmps155;go_wp2;go_region;go_wp2;exact bodyPost_ret (v:=.agg #[.int .i64 K,.int .i64 L,.int .i64 V]) (by simp[results,Tryz.results155,go_sem]) rfl ⟨rfl,by rw[HA.out,if_neg hk];exact(((H.out.set1 (p+1)).alloc _).alloc _).drew,((((Kp.refl _ _).setCell (Or.inl rfl) _).alloc _).alloc _).drew⟩
def PSt.ref (σ:PSt) (T:List (Int×Int×Int)) (err:Int):PSt:=if σ.e=0 then {pos:=T.length-1,d:=σ.d,e:=err,pl:=plc T σ.pos} else {σ with pos:=T.length-1}
theorem At.ref_ok {w:World} {b tb cap:Nat} {T:List (Int×Int×Int)} {σ:PSt} (h:At w b tb cap T σ) (err:Int) (n:Nat) (hn:T.length=n+1) (he:σ.e=0) :
 At (((w.setCell ⟨b,3,none⟩ (.int .i64 err)).setCell ⟨b,4,none⟩ (.int .i64 (plc T σ.pos))).setCell ⟨b,1,none⟩ (.int .i64 (n:Int))).drew b tb cap T (σ.ref T err):=by
 have e:σ.ref T err={pos:=n,d:=σ.d,e:=err,pl:=plc T σ.pos}:=by unfold PSt.ref;rw[if_pos he,hn];rfl
 rw[e];exact(((h.set3 err).set4 (plc T σ.pos)).set1 n).drew
theorem At.ref_no {w:World} {b tb cap:Nat} {T:List (Int×Int×Int)} {σ:PSt} (h:At w b tb cap T σ) (err:Int) (n:Nat) (hn:T.length=n+1) (he:¬σ.e=0) :
 At (w.setCell ⟨b,1,none⟩ (.int .i64 (n:Int))) b tb cap T (σ.ref T err):=by
 have e:σ.ref T err={σ with pos:=n}:=by unfold PSt.ref;rw[if_neg he,hn];rfl
 rw[e];exact h.set1 n
theorem Kp.own (b:Nat) (w:World) (o:Nat) (x:Value):Kp b w (w.setCell ⟨b,o,none⟩ x):=(Kp.refl b w).setCell (p:=⟨b,o,none⟩) (Or.inl rfl) x
theorem Kp.own3 (b:Nat) (w:World) (x y z:Value):Kp b w (((w.setCell ⟨b,3,none⟩ x).setCell ⟨b,4,none⟩ y).setCell ⟨b,1,none⟩ z).drew :=
 (((Kp.own b w 3 x).trans (Kp.own b _ 4 y)).trans (Kp.own b _ 1 z)).drew
theorem zdJ (w:World) (b tb cap:Nat) (T:List (Int×Int×Int)) (σ:PSt) (err:Int) (h:At w b tb cap T σ) (hp:σ.pos<T.length) (hT:T.length≤1000) :
 Calls Tryz.prog 154 #[.pointer (some ⟨b,0,none⟩),.int .i64 err] w fun e w'=>e=.returned (.tuple #[])∧At w' b tb cap T (σ.ref T err)∧Kp b w w':=by
 obtain⟨n,hn⟩:∃n,T.length=n+1:=⟨T.length-1,by omega⟩
 have HA:Hid (σ.e=0→At (((w.setCell ⟨b,3,none⟩ (.int .i64 err)).setCell ⟨b,4,none⟩ (.int .i64 (plc T σ.pos))).setCell ⟨b,1,none⟩ (.int .i64 (n:Int))).drew b tb cap T (σ.ref T err)):=h.ref_ok err n hn;have HB:Hid (¬σ.e=0→At (w.setCell ⟨b,1,none⟩ (.int .i64 (n:Int))) b tb cap T (σ.ref T err)):=h.ref_no err n hn;obtain⟨a1,a2,a3⟩:=h.toks σ.pos hp;have c0:=h.c0;have c1:=h.c1;have c3:=h.c3;have c4:=h.c4;have hf1:=h.f 1;have hf3:=h.f 3;have hf4:=h.f 4;have hbs:=h.hb;have hts:=h.htb;have hne:=h.hne;have hcm:=h.hcm;have hcap:=h.hcap;unfold maxLen at hcm;clear h a1 a3;have hn1:n≤1000:=by omega
 rw[hn] at c0 hp hcap;clear hn hT;generalize σ.ref T err=S at *;generalize plc T σ.pos=L at *;generalize σ.pos=p at *;generalize σ.e=E at *;by_cases hk:E=0
 ·have hk':(E==0)=true:=by simp[hk]
  have HA':Hid (At (((w.setCell ⟨b,3,none⟩ (.int .i64 err)).setCell ⟨b,4,none⟩ (.int .i64 L)).setCell ⟨b,1,none⟩ (.int .i64 (n:Int))).drew b tb cap T S):=HA.out hk;have HK:Hid (Kp b w (((w.setCell ⟨b,3,none⟩ (.int .i64 err)).setCell ⟨b,4,none⟩ (.int .i64 L)).setCell ⟨b,1,none⟩ (.int .i64 (n:Int))).drew):=Kp.own3 b w _ _ _;clear hk HA HB;go_enter Tryz.func154,Tryz.ntmps154;go_wp2;go_region;go_wp2
  go_end0
  exact⟨rfl,HA'.out,HK.out⟩
 ·have hk':(E==0)=false:=by simpa using hk
  have HB':Hid (At (w.setCell ⟨b,1,none⟩ (.int .i64 (n:Int))) b tb cap T S):=HB.out hk;have HK:Hid (Kp b w (w.setCell ⟨b,1,none⟩ (.int .i64 (n:Int)))):=Kp.own b w 1 _;clear hk HA HB;go_enter Tryz.func154,Tryz.ntmps154;go_wp2
  go_end0
  exact⟨rfl,HB'.out,HK.out⟩
theorem zhg (w:World) (b:Nat) (d:Int) (hc:w.cell? ⟨b,2,none⟩=some (.int .i64 d)) (hf:w.frozen? ⟨b,2,none⟩=false) :
 Calls Tryz.prog 251 #[.pointer (some ⟨b,0,none⟩)] w fun e w'=>e=.returned (.tuple #[])∧w'=w.setCell ⟨b,2,none⟩ (.int .i64 (wrap64 (d-1))):=by
 go_enter Tryz.func251,Tryz.ntmps251;go_wp2
 go_end0
 exact⟨rfl,rfl⟩
theorem zjf (w:World) (b tb cap:Nat) (T:List (Int×Int×Int)) (σ:PSt) (h:At w b tb cap T σ) :
 Calls Tryz.prog 251 #[.pointer (some ⟨b,0,none⟩)] w fun e w'=>e=.returned (.tuple #[])∧At w' b tb cap T {σ with d:=wrap64 (σ.d-1)}∧Kp b w w':=by
 refine(zhg w b σ.d h.c2 (h.f 2)).mono ?_;rintro e w' ⟨rfl,rfl⟩;exact⟨rfl,h.set2 _,(Kp.refl _ _).setCell (Or.inl rfl) _⟩
theorem zcA (w:World) (b tb cap:Nat) (T:List (Int×Int×Int)) (σ:PSt) (k:Int) (h:At w b tb cap T σ) (hp:σ.pos<T.length) (hT:T.length≤1000) :
 Calls Tryz.prog 159 #[.pointer (some ⟨b,0,none⟩),.int .i64 k] w fun e w'=>e=.returned (.bool (decide (kd T σ.pos=k)))∧At w' b tb cap T (if kd T σ.pos=k then σ.adv T else σ)∧Kp b w w':=by
 have CP:Hid (Calls Tryz.prog 153 #[.pointer (some ⟨b,0,none⟩)] w fun e w'=>e=.returned (.int .i64 (kd T σ.pos))∧∃n,w'=w.drewN n):=za0 w b tb cap T σ h hp;have CA:Hid (∀n,Calls Tryz.prog 155 #[.pointer (some ⟨b,0,none⟩)] (w.drewN n) fun e w'=>e=.returned (.agg #[.int .i64 (kd T σ.pos),.int .i64 (plc T σ.pos),.int .i64 (vlu T σ.pos)])∧At w' b tb cap T (σ.adv T)∧Kp b (w.drewN n) w'):=fun n=>za9 (w.drewN n) b tb cap T σ (h.drewN n) hp hT
 have H:Hid (At w b tb cap T σ):=h;clear h hp hT;by_cases hk:kd T σ.pos=k
 ·rw[if_pos hk,decide_eq_true hk];rw[hk] at CP CA;clear hk;have hkk:(k != k)=false:=by simp
  go_enter Tryz.func159,Tryz.ntmps159;go_wp2_with fail;refine CP.out.mono ?_;rintro e w1 ⟨rfl,nq,rfl⟩;go_wp2_with fail;refine(CA.out _).mono ?_;rintro e w2 ⟨rfl,hA,hK⟩;go_wp2_with fail;go_ret;exact⟨rfl,hA,((Kp.refl _ _).drewN _).trans hK⟩
 ·rw[if_neg hk,decide_eq_false hk];generalize kd T σ.pos=K at *;have hkk:(K != k)=true:=by simpa using hk
  go_enter Tryz.func159,Tryz.ntmps159;go_wp2_with fail;refine CP.out.mono ?_;rintro e w1 ⟨rfl,nq,rfl⟩;go_wp2_with fail;go_ret;exact⟨rfl,H.out.drewN _,(Kp.refl _ _).drewN _⟩
theorem zeG (x y z:Int) (w:World):Sem.run Tryz.prog (Instr.field 216 (.agg #[.int .i64 x,.int .i64 y,.int .i64 z]) 2) w=.ok (.int .i64 z) w:=by kernel_rfl
theorem zdK (w:World) (b tb cap:Nat) (T:List (Int×Int×Int)) (σ:PSt) (k:Int) (h:At w b tb cap T σ) (hp:σ.pos<T.length) (hT:T.length≤1000) :
 Calls Tryz.prog 108 #[.pointer (some ⟨b,0,none⟩),.int .i64 k] w fun e w'=>e=.returned (.int .i64 (if kd T σ.pos=k then vlu T σ.pos else 0))∧At w' b tb cap T (if kd T σ.pos=k then σ.adv T else σ.ref T 2)∧Kp b w w':=by
 have CP:Hid (Calls Tryz.prog 153 #[.pointer (some ⟨b,0,none⟩)] w fun e w'=>e=.returned (.int .i64 (kd T σ.pos))∧∃n,w'=w.drewN n):=za0 w b tb cap T σ h hp;have CA:Hid (∀n,Calls Tryz.prog 155 #[.pointer (some ⟨b,0,none⟩)] (w.drewN n) fun e w'=>e=.returned (.agg #[.int .i64 (kd T σ.pos),.int .i64 (plc T σ.pos),.int .i64 (vlu T σ.pos)])∧At w' b tb cap T (σ.adv T)∧Kp b (w.drewN n) w'):=fun n=>za9 (w.drewN n) b tb cap T σ (h.drewN n) hp hT
 have CR:Hid (∀n,Calls Tryz.prog 154 #[.pointer (some ⟨b,0,none⟩),.int .i64 2] (w.drewN n) fun e w'=>e=.returned (.tuple #[])∧At w' b tb cap T (σ.ref T 2)∧Kp b (w.drewN n) w'):=fun n=>zdJ (w.drewN n) b tb cap T σ 2 (h.drewN n) hp hT
 clear h hp hT;by_cases hk:kd T σ.pos=k
 ·rw[if_pos hk,if_pos hk];rw[hk] at CP CA;clear hk;have hkk:(k != k)=false:=by simp
  have hft:=zeG k (plc T σ.pos) (vlu T σ.pos);go_enter Tryz.func108,Tryz.ntmps108;go_wp2_with fail;refine CP.out.mono ?_;rintro e w1 ⟨rfl,nq,rfl⟩;go_wp2_with fail;refine(CA.out _).mono ?_;rintro e w2 ⟨rfl,hA,hK⟩;go_wp2_with fail;go_ret;exact⟨rfl,hA,((Kp.refl _ _).drewN _).trans hK⟩
 ·rw[if_neg hk,if_neg hk];generalize kd T σ.pos=K at *;have hkk:(K != k)=true:=by simpa using hk
  go_enter Tryz.func108,Tryz.ntmps108;go_wp2_with fail;refine CP.out.mono ?_;rintro e w1 ⟨rfl,nq,rfl⟩;go_wp2_with fail;refine(CR.out _).mono ?_;rintro e w2 ⟨rfl,hA,hK⟩;go_wp2_with fail;go_ret;exact⟨rfl,hA,((Kp.refl _ _).drewN _).trans hK⟩
theorem zhh (w:World) (b tb cap:Nat) (T:List (Int×Int×Int)) (σ:PSt) (h:At w b tb cap T σ) (hp:σ.pos<T.length) (hT:T.length≤1000) (hd:0≤σ.d∧σ.d≤10) :
 Calls Tryz.prog 250 #[.pointer (some ⟨b,0,none⟩)] w fun e w'=>e=.returned (.tuple #[])∧At w' b tb cap T (if σ.d=10 then σ.ref T 3 else ({σ with d:=σ.d+1}:PSt).adv T)∧Kp b w w':=by
 have CR:Hid (Calls Tryz.prog 154 #[.pointer (some ⟨b,0,none⟩),.int .i64 3] w fun e w'=>e=.returned (.tuple #[])∧At w' b tb cap T (σ.ref T 3)∧Kp b w w'):=zdJ w b tb cap T σ 3 h hp hT;have CA:Hid (Calls Tryz.prog 155 #[.pointer (some ⟨b,0,none⟩)] (w.setCell ⟨b,2,none⟩ (.int .i64 (σ.d+1))) fun e w'=>e=.returned (.agg #[.int .i64 (kd T σ.pos),.int .i64 (plc T σ.pos),.int .i64 (vlu T σ.pos)])∧At w' b tb cap T (({σ with d:=σ.d+1}:PSt).adv T)∧Kp b (w.setCell ⟨b,2,none⟩ (.int .i64 (σ.d+1))) w'):=za9 _ b tb cap T {σ with d:=σ.d+1} (h.set2 _) hp hT;have c2:=h.c2;have hf2:=h.f 2;clear h hp hT;generalize hD:σ.d=D at *;clear hD;generalize kd T σ.pos=K at *;generalize plc T σ.pos=L at *;generalize vlu T σ.pos=V at *;by_cases hk:D=10
 ·rw[if_pos hk];have hk':(D==10)=true:=by simp[hk]
  clear CA;go_enter Tryz.func250,Tryz.ntmps250;go_wp2_with fail;refine CR.out.mono ?_;rintro e w2 ⟨rfl,hA,hK⟩;go_wp2_with fail;exact bodyPost_ret (v:=.tuple #[]) (by simp[results,Tryz.results250,go_sem]) rfl ⟨rfl,hA,hK⟩
 ·rw[if_neg hk];have hk':(D==10)=false:=by simpa using hk
  clear CR;go_enter Tryz.func250,Tryz.ntmps250;go_wp2_with fail;refine CA.out.mono ?_;rintro e w2 ⟨rfl,hA,hK⟩;go_wp2_with fail
  go_end0
  exact⟨rfl,hA,((Kp.refl _ _).setCell (Or.inl rfl) _).trans hK⟩
def cCommands:List UInt8:=[67,79,77,77,65,78,68,83]
def cCommand:List UInt8:=[67,79,77,77,65,78,68]
def cMoreCommands:List UInt8:=[77,79,82,69,45,67,79,77,77,65,78,68,83]
def cFormula:List UInt8:=[70,79,82,77,85,76,65]
def cMoreFormula:List UInt8:=[77,79,82,69,45,70,79,82,77,85,76,65]
def cFactor:List UInt8:=[70,65,67,84,79,82]
def cTerm:List UInt8:=[84,69,82,77]
def cMoreTerm:List UInt8:=[77,79,82,69,45,84,69,82,77]
def cRelation:List UInt8:=[82,69,76,65,84,73,79,78]
def cNumber:List UInt8:=[78,85,77,66,69,82]
def cNotEnds:List UInt8:=[78,79,84,45,69,78,68,83]
def rl (l:List UInt8):Bool:=l==[60]||l==[60,61]||l==[61]||l==[62]||l==[62,61]
def dflt (k s:List UInt8):Bool:=k==s&&(decide (((k.headD 0).toNat:Int)<65)||decide (90<((k.headD 0).toNat:Int)))
def stTerm (s:List UInt8) (st:List (List UInt8)):List (List UInt8)×Bool :=
 if 0≤vr s then (cMoreTerm::st,true) else if s==[45] then (cNumber::st,true) else (st,decide (0≤dg 999 s))
def stCommand (s:List UInt8) (st:List (List UInt8)):List (List UInt8)×Bool :=
 if s==[115,107,105,112] then (st,true) else if 0≤vr s then ([58,61]::cTerm::st,true) else
 if s==[105,102] then (cFormula::[116,104,101,110]::cCommands::[101,108,115,101]::cCommands::[101,110,100]::st,true) else
 if s==[119,104,105,108,101] then (cFormula::[107,101,101,112]::cFormula::[100,111]::cCommands::[101,110,100]::st,true) else (st,false)
def stFactor (s:List UInt8) (st:List (List UInt8)):List (List UInt8)×Bool :=
 if s==[116,114,117,101]||s==[102,97,108,115,101] then (st,true) else if s==[110,111,116] then (cFactor::cNotEnds::st,true) else
 if s==[40] then (cFormula::[41]::st,true) else stTerm s (cRelation::cTerm::st)
def sts (k s:List UInt8) (st:List (List UInt8)):List (List UInt8)×Bool :=
 if k==cCommand then stCommand s st else if k==cFactor then stFactor s st else if k==cTerm then stTerm s st else
 if k==cRelation then (st,rl s) else if k==cNumber then (st,decide (0≤dg 999 s)) else (st,dflt k s)
def opn (s:List UInt8):List (List UInt8)→Int→List (List UInt8)×Int
 | [],e=>([],e)
 | k::r,e =>
  if k==cCommands then (cCommand::cMoreCommands::r,e) else
  if k==cMoreCommands then (if s==[59] then ([59]::cCommands::r,e) else opn s r e) else
  if k==cFormula then (cFactor::cMoreFormula::r,e) else
  if k==cMoreFormula then (if s==[111,114]||s==[97,110,100] then (s::cFormula::r,e) else opn s r e) else
  if k==cMoreTerm then (if s==[43]||s==[45] then (s::cNumber::r,e) else opn s r e) else
  if k==cNotEnds then opn s r (e+1) else (k::r,e)
def deeper (t:List UInt8):Bool:=t==[40]||t==[110,111,116]||t==[105,102]||t==[119,104,105,108,101]
def shut (t:List UInt8):Bool:=t==[41]||t==[101,110,100]
def stepM (t:List UInt8) (i:Nat) (st:List (List UInt8)) (d:Int):Sum (Int×Int) (List (List UInt8)×Int) :=
 match opn t st 0 with
 | ([],_)=>.inl (2,i)
 | (k::r,n) =>
  if (sts k t r).2=false then .inl (2,i) else
  if deeper t then (if 10<d-n+1 then .inl (3,i) else .inr ((sts k t r).1,d-n+1)) else
  if shut t then .inr ((sts k t r).1,d-n-1) else .inr ((sts k t r).1,d-n)
def runM (len:Nat):List (List UInt8×Nat)→List (List UInt8)→Int→Int×Int
 | [],st,_=>if (opn [] st 0).1.isEmpty then (0,0) else (2,len)
 | (t,i)::ts,st,d=>match stepM t i st d with
  | .inl e=>e
  | .inr (st',d')=>runM len ts st' d'
theorem zaa (w:World) (o:Obj):Below w.heap.size w (w.alloc o):=(Below.refl _ _).alloc (Nat.le_refl _) _
def st0:List (List UInt8):=[[102,114,111,109],cFormula,[100,111],cCommands,[116,111],cFormula]
variable {toks:List (List UInt8×Nat)} {len:Nat}
theorem zkt (toks:List (List UInt8×Nat)) (len:Nat):(T3 toks len).length=toks.length+1:=by simp[T3]
def sAt (toks:List (List UInt8×Nat)) (k:Nat):List UInt8:=(toks[k]?.map (·.1)).getD []
def trm (toks:List (List UInt8×Nat)) (k:Nat):Int×Int×Nat :=
 if 0≤vr (sAt toks k) then
  (if sAt toks (k+1)==[43] then (vr (sAt toks k),dg 999 (sAt toks (k+2)),k+3) else if sAt toks (k+1)==[45] then (vr (sAt toks k),-dg 999 (sAt toks (k+2)),k+3) else (vr (sAt toks k),0,k+1))
 else if sAt toks k==[45] then (-1,-dg 999 (sAt toks (k+1)),k+2) else (-1,dg 999 (sAt toks k),k+1)
theorem zbk (m:Int) (hm:0≤m):∀(l:List UInt8) (v:Int),0≤v→v≤m→-1≤dgo m l v∧dgo m l v≤m
 | [],v,h0,h1=>by simp only[dgo];omega
 | c::r,v,h0,h1=>by
  simp only[dgo];split
  ·omega
  ·split
   ·omega
   ·exact zbk m hm r _ (by omega) (by omega)
theorem zbu (m:Int) (hm:0≤m) (l:List UInt8):-1≤dg m l∧dg m l≤m:=by
 cases l with
 | nil=>simp only[dg];omega
 | cons c r =>
  simp only[dg];split
  ·omega
  ·exact zbk m hm _ 0 (by omega) hm
theorem zar (toks:List (List UInt8×Nat)) (k:Nat):-1≤(trm toks k).1∧(trm toks k).1≤3∧-999≤(trm toks k).2.1∧(trm toks k).2.1≤999∧k+1≤(trm toks k).2.2∧(trm toks k).2.2≤k+3:=by
 have h1:=zb6 (sAt toks k);have d0:=zbu 999 (by omega) (sAt toks k);have d1:=zbu 999 (by omega) (sAt toks (k+1));have d2:=zbu 999 (by omega) (sAt toks (k+2));unfold trm
 repeat' split
 all_goals dsimp only
 all_goals omega
inductive Fm where
 | tt
 | ff
 | cmp (r:Int) (a b:Int×Int)
 | no (f:Fm)
 | and (f g:Fm)
 | or (f g:Fm)
inductive Tg where
 | fac
 | part
 | form
 | partL (f:Fm)
 | formL (f:Fm)
def rel (l:List UInt8):Int:=if l==[60] then 0 else if l==[60,61] then 1 else if l==[62] then 3 else if l==[62,61] then 4 else 2
theorem zbO (l:List UInt8):0≤rel l∧rel l≤4:=by
 unfold rel
 repeat' split
 all_goals omega
inductive Rd (toks:List (List UInt8×Nat)):Tg→Nat→Fm→Nat→Prop
 | tru {k:Nat}:sAt toks k=[116,114,117,101]→Rd toks .fac k .tt (k+1)
 | fls {k:Nat}:sAt toks k=[102,97,108,115,101]→Rd toks .fac k .ff (k+1)
 | no {k k':Nat} {f:Fm}:sAt toks k=[110,111,116]→Rd toks .fac (k+1) f k'→Rd toks .fac k (.no f) k'
 | par {k k':Nat} {f:Fm}:sAt toks k=[40]→Rd toks .form (k+1) f k'→Rd toks .fac k f (k'+1)
 | cmp {k:Nat}:sAt toks k≠[116,114,117,101]→sAt toks k≠[102,97,108,115,101]→sAt toks k≠[110,111,116]→sAt toks k≠[40] →
  Rd toks .fac k (.cmp (rel (sAt toks (trm toks k).2.2)) ((trm toks k).1,(trm toks k).2.1) ((trm toks ((trm toks k).2.2+1)).1,(trm toks ((trm toks k).2.2+1)).2.1)) (trm toks ((trm toks k).2.2+1)).2.2
 | part {k k1 k':Nat} {f g:Fm}:Rd toks .fac k f k1→Rd toks (.partL f) k1 g k'→Rd toks .part k g k'
 | partS {k k1 k':Nat} {f g h:Fm}:sAt toks k=[97,110,100]→Rd toks .fac (k+1) g k1→Rd toks (.partL (.and f g)) k1 h k'→Rd toks (.partL f) k h k'
 | partE {k:Nat} {f:Fm}:sAt toks k≠[97,110,100]→Rd toks (.partL f) k f k
 | form {k k1 k':Nat} {f g:Fm}:Rd toks .part k f k1→Rd toks (.formL f) k1 g k'→Rd toks .form k g k'
 | formS {k k1 k':Nat} {f g h:Fm}:sAt toks k=[111,114]→Rd toks .part (k+1) g k1→Rd toks (.formL (.or f g)) k1 h k'→Rd toks (.formL f) k h k'
 | formE {k:Nat} {f:Fm}:sAt toks k≠[111,114]→Rd toks (.formL f) k f k
theorem Rd.le {toks:List (List UInt8×Nat)} {t:Tg} {k k':Nat} {f:Fm} (h:Rd toks t k f k'):k≤k'∧((t=.fac∨t=.part∨t=.form)→k+1≤k'):=by
 induction h with
 | tru _=>exact⟨by omega,fun _=>by omega⟩
 | fls _=>exact⟨by omega,fun _=>by omega⟩
 | no _ _ ih=>exact⟨by have:=ih.1;omega,fun _=>by have:=ih.1;omega⟩
 | par _ _ ih=>exact⟨by have:=ih.1;omega,fun _=>by have:=ih.1;omega⟩
 | @cmp k _ _ _ _ =>
  have h1:=zar toks k;have h2:=zar toks ((trm toks k).2.2+1);exact⟨by omega,fun _=>by omega⟩
 | part _ _ h1 h2=>have:=h1.2 (Or.inl rfl);exact⟨by have:=h2.1;omega,fun _=>by have:=h2.1;omega⟩
 | partS _ _ _ h1 h2=>exact⟨by have:=h2.1;have:=h1.1;omega,fun h=>by rcases h with h|h|h<;>cases h⟩
 | partE _=>exact⟨Nat.le_refl _,fun h=>by rcases h with h|h|h<;>cases h⟩
 | form _ _ h1 h2=>have:=h1.2 (Or.inr (Or.inl rfl));exact⟨by have:=h2.1;omega,fun _=>by have:=h2.1;omega⟩
 | formS _ _ _ h1 h2=>exact⟨by have:=h2.1;have:=h1.1;omega,fun h=>by rcases h with h|h|h<;>cases h⟩
 | formE _=>exact⟨Nat.le_refl _,fun h=>by rcases h with h|h|h<;>cases h⟩
inductive Cm where
 | skip
 | asg (x:Int) (t:Int×Int)
 | ite (f:Fm) (a b:Cm)
 | loop (f g:Fm) (a:Cm)
 | seq (a b:Cm)
inductive Rc (toks:List (List UInt8×Nat)):Bool→Nat→Cm→Nat→Prop
 | skip {k:Nat}:sAt toks k=[115,107,105,112]→Rc toks false k .skip (k+1)
 | asg {k:Nat}:0≤vr (sAt toks k)→Rc toks false k (.asg (vr (sAt toks k)) ((trm toks (k+2)).1,(trm toks (k+2)).2.1)) (trm toks (k+2)).2.2
 | ite {k k1 k2 k3:Nat} {f:Fm} {a b:Cm}:sAt toks k=[105,102]→Rd toks .form (k+1) f k1→Rc toks true (k1+1) a k2→Rc toks true (k2+1) b k3→Rc toks false k (.ite f a b) (k3+1)
 | loop {k k1 k2 k3:Nat} {f g:Fm} {a:Cm}:sAt toks k=[119,104,105,108,101]→Rd toks .form (k+1) f k1→Rd toks .form (k1+1) g k2→Rc toks true (k2+1) a k3→Rc toks false k (.loop f g a) (k3+1)
 | one {k k':Nat} {c:Cm}:Rc toks false k c k'→sAt toks k'≠[59]→Rc toks true k c k'
 | seq {k k1 k':Nat} {c r:Cm}:Rc toks false k c k1→sAt toks k1=[59]→Rc toks true (k1+1) r k'→Rc toks true k (.seq c r) k'
theorem Rc.le {toks:List (List UInt8×Nat)} {t:Bool} {k k':Nat} {c:Cm} (h:Rc toks t k c k'):k+1≤k':=by
 induction h with
 | skip _=>omega
 | @asg k _=>have h2:=zar toks (k+2);omega
 | ite _ h1 _ _ h2 h3=>have:=h1.le.1;omega
 | loop _ h1 h2 _ h3=>have:=h1.le.1;have:=h2.le.1;omega
 | one _ _ h=>exact h
 | seq _ _ _ h1 h2=>omega
variable {toks:List (List UInt8×Nat)} {len:Nat}
end Go.Proofs.YtkinoehmcfhgbaaGreatDoor.Av
