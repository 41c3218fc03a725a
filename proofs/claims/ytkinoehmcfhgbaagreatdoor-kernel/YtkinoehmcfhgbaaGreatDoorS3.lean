/- A part of the proof. -/
import Derived.Test.YtkinoehmcfhgbaaGreatDoorT10
set_option linter.unusedVariables false
set_option linter.unusedSimpArgs false
set_option maxRecDepth 100000
set_option maxHeartbeats 4000000
namespace Go.Proofs.YtkinoehmcfhgbaaGreatDoor.Vl
open Go.RowKit
theorem csettleH (kn:Atm→Int) (cp:Value) (KI:World→Prop) (hKI:∀W W',KI W→Below W.heap.size W W'→KI W') (hk3:∀a,T3 (kn a)) (b cap:Nat) (ys:List Sym) (w:World) (hlen:ys.length≤4000)
 (hI:Syms w.heap.size w (.slice (some ⟨b,0,none⟩) ys.length cap) ys)
 (hval:∀n,n<ys.length→∃y,ys[n]?=some y∧0≤y.1∧y.1≤6∧(y.1=6→okA y.2)∧prt y.1≤(trun kn (ys.drop (n+1))).length) (T:Int) (hone:trun kn ys=[T]) (hK0:KI w)
 (CK:∀W a1 a2 a3,KI W→okA (a1,a2,a3)→Calls Tryz.prog 77 #[.agg #[.int .i64 a1,.int .i64 a2,.int .i64 a3],cp] W fun e w'=>e=.returned (.int .i8 (kn (a1,a2,a3)))∧Below W.heap.size W w') :
 Calls Tryz.prog 80 #[.slice (some ⟨b,0,none⟩) ys.length cap,.func (.func 77) #[] #[cp]] w fun e w'=>e=.returned (.int .i8 T)∧Below w.heap.size w w':=by
 obtain⟨i0,hi,hz0,hz1,hz2⟩:=info_parts Tryz.infoTruth;have HV:Hid _:=hval;have HK:Hid _:=CK;have HI:Hid _:=hI;have HT:Hid _:=hone;have H3:Hid _:=zc5 hk3;have HLE:Hid _:=zfE kn;have KW:Hid (∀W,Below w.heap.size w W→KI W):=fun W h=>hKI w W hK0 h
 have CPt:Hid (∀y0 w,Calls Tryz.prog 76 #[.int .i64 y0] w fun e w'=>e=.returned (.int .i64 (prt y0))∧w=w'):=zdU;clear hval CK hI hone hKI hk3 hK0;have hyl:(ys.length:Int)=((ys.length:Nat):Int):=rfl;go_enter Tryz.func80,Tryz.ntmps80;go_wp2_with (at_make;refine wpList_make_own _ rfl _ _ 178 rfl w.heap.size 159 i0 (.int .i8 0) 1 Tryz.underlying178 hi hz0 hz1 .i64 .i64 _ ys.length rfl rfl ?_ ?_ ?_ ?_ ?_;(exact rfl);(rw[hz2];omega);(unfold maxLen;omega);(exact Nat.le_refl _));intro w1 hown1 hgrow1;have hb1:Below w.heap.size w w1:=(Below.refl _ _).grown hgrow1 (Nat.le_refl _) (by intro k h;cases h);clear hgrow1;go_wp2_with fail
 go_loopw [5,6,7,8] (fun v i r t wr=>∃n:Nat,n≤ys.length∧i=.int .i64 ((n:Int)-1)∧wr.ownsRow w.heap.size 159 1 v (trun kn (ys.drop n)).length ((trun kn (ys.drop n)).reverse.map tv8)∧Below w.heap.size w wr) (fun _ i _ _ _=>((intOf i)+1).toNat)
 case atStart=>exact⟨ys.length,Nat.le_refl _,rfl,by rw[List.drop_length];exact hown1,hb1⟩
 case round =>
  obtain⟨n,hny,rfl,hown,hnx⟩:=hrel;rcases Nat.eq_zero_or_pos n with rfl|hpos
  ·rw[List.drop_zero,HT.out] at hown;obtain⟨g2,cap2,rfl,_,_,_,_,hc5,_⟩:=zau hown (by simp);have hc0:=hc5 0 (tv8 T) rfl;unfold tv8 at hc0;clear hc5;go_wp2_with fail;go_ret;exact⟨rfl,hnx⟩
  ·obtain⟨n,rfl⟩:∃n',n=n'+1:=⟨n-1,by omega⟩
   obtain⟨⟨y0,y1,y2,y3⟩,hy1,hy2,hy3,hy4,hy5⟩:=HV.out n (by omega);dsimp only at hy2 hy3 hy4 hy5;obtain⟨_,_,e1,hbn,hcs⟩:=HI.out;cases e1
   obtain⟨z0,z1,z2,z3⟩:=hcs n _ hy1;have c0:=(hnx.cell (p:=⟨b,n*4,none⟩) hbn).trans z0;have c1:=(hnx.cell (p:=⟨b,n*4+1,none⟩) hbn).trans z1;have c2:=(hnx.cell (p:=⟨b,n*4+2,none⟩) hbn).trans z2;have c3:=(hnx.cell (p:=⟨b,n*4+3,none⟩) hbn).trans z3;clear hcs z0 z1 z2 z3;have hdrop:ys.drop n=(y0,y1,y2,y3)::ys.drop (n+1):=by
    rw[List.drop_eq_getElem_cons (by omega)]
    congr 1
    rw[List.getElem?_eq_getElem (by omega)] at hy1;exact Option.some.inj hy1
   have HD:Hid (trun kn (ys.drop n)=tst kn (y0,y1,y2,y3) (trun kn (ys.drop (n+1)))):=by show _=_;rw[hdrop,zaK]
   have HR:Hid _:=H3.out (ys.drop (n+1));have hsl:(trun kn (ys.drop (n+1))).length≤4000:=by
    have h1:=HLE.out (ys.drop (n+1));rw[List.length_drop] at h1;omega
   clear hdrop hy1;generalize hst:trun kn (ys.drop (n+1))=st at *;clear hst;have hpr:=zaY y0;have CP0:Hid (∀w,Calls Tryz.prog 76 #[.int .i64 y0] w fun e w'=>e=.returned (.int .i64 (prt y0))∧w=w'):=fun w=>CPt.out y0 w
   have HDV:Hid (trun kn (ys.drop n)=tval kn (y0,y1,y2,y3) (st.headD 0) (st.tail.headD 0)::st.drop (prt y0).toNat):=HD.out;clear HD;have hh0:T3 (st.headD 0):=by
    cases st with
    | nil=>exact Or.inl rfl
    | cons x r=>exact HR.out x (by simp)
   have hh1:T3 (st.tail.headD 0):=by
    match st,HR.out with
    | [],_=>exact Or.inl rfl
    | [x],_=>exact Or.inl rfl
    | x::z::r,h=>exact h z (by simp)
   have HH:Hid (T3 (st.headD 0)∧T3 (st.tail.headD 0)):=⟨hh0,hh1⟩;generalize hVV:tval kn (y0,y1,y2,y3) (st.headD 0) (st.tail.headD 0)=VV at *;have HVV:Hid _:=hVV;clear hVV hh0 hh1 HR;generalize hp0:prt y0=p0 at *;have HP0:Hid (prt y0=p0):=hp0;clear hp0;obtain⟨q,c,rfl⟩:=zaZ hown;have hnn:((n+1:Nat):Int)-1=(n:Int):=by omega
   rw[hnn];obtain⟨R,hR,hRL⟩:∃R:Nat,(st.length:Int)-p0=(R:Int)∧R≤st.length:=⟨st.length-p0.toNat,by omega,by omega⟩
   have hsub:IntKind.i64.wrap ((st.length:Int)-p0)=(R:Int):=by rw[hR];exact IntWalk.i64_in _ (by omega)
   have hnl:(n:Int)<(ys.length:Int):=by omega
   have hnl2:n<ys.length:=by omega
   have HS:Hid (∀pv W,Below w.heap.size w W→Parts3H W pv y0 (st.headD 0) (st.tail.headD 0)→W.cell? ⟨b,n*4,none⟩=some (.int .i64 y0)→W.cell? ⟨b,n*4+1,none⟩=some (.int .i64 y1)→W.cell? ⟨b,n*4+2,none⟩=some (.int .i64 y2)→W.cell? ⟨b,n*4+3,none⟩=some (.int .i64 y3)→Calls Tryz.prog 116 #[.pointer (some ⟨b,n*4,none⟩),.func (.func 77) #[] #[cp],pv] W fun e w'=>e=.returned (.int .i8 VV)∧Below W.heap.size W w'):=fun pv W hW hp a0 a1 a2 a3=>by
    rw[←HVV.out];exact ssettleH kn cp b (n*4) y0 y1 y2 y3 pv _ _ W ⟨hy2,hy3⟩ HH.out.1 HH.out.2 hp a0 a1 a2 a3 (fun h6=>HK.out W y1 y2 y3 (KW.out W hW) (hy4 h6))
   clear HH HVV hy4;go_wp2_with (go_at_call 76;refine(CP0.out _).mono ?_;rintro e w' ⟨rfl,rfl⟩);have hLc:st.length≤c:=by
    rcases hown.2 with⟨h1,h2⟩|⟨g,cap',cur,h1,hgb,hgh,hg3,hg4,hg5,hg6⟩
    ·injection h1 with e1 e2 e3;omega
    ·injection h1 with e1 e2 e3;omega
   have hRc:R≤c:=by omega
   have hB1:Below w.heap.size w wr.drew:=hnx.drew;have c0':wr.drew.cell? ⟨b,n*4,none⟩=some (.int .i64 y0):=c0;have c1':wr.drew.cell? ⟨b,n*4+1,none⟩=some (.int .i64 y1):=c1;have c2':wr.drew.cell? ⟨b,n*4+2,none⟩=some (.int .i64 y2):=c2;have c3':wr.drew.cell? ⟨b,n*4+3,none⟩=some (.int .i64 y3):=c3;have CS:Hid (∀pv,(c≠R→pv=.slice (Option.map (fun x=>x.add R) q) (st.length-R) (c-R))→Calls Tryz.prog 116 #[.pointer (some ⟨b,n*4,none⟩),.func (.func 77) #[] #[cp],pv] wr.drew fun e w'=>e=.returned (.int .i8 VV)∧Below wr.drew.heap.size wr.drew w'):=fun pv hpv=>by
    refine HS.out pv wr.drew hB1 ?_ c0' c1' c2' c3';by_cases hcl:c=R
    ·have h0:prt y0=0:=by rw[HP0.out];omega
     constructor
     ·intro h;subst h;cases h0
     ·rintro(h|h|h)<;>subst h<;>cases h0
    ·rw[hpv hcl]
     constructor
     ·intro h;subst h;have h1:p0=1:=HP0.out.symm;obtain⟨t,r,rfl⟩:∃t r,st=t::r:=by
       cases st with
       | nil=>simp at hy5;omega
       | cons t r=>exact⟨t,r,rfl⟩
      obtain⟨g,cap',e,hgb,hgl,hg3,hg4,hg5,hg6⟩:=zau hown (by simp);injection e with e1 e2 e3
      subst e1;have hl1:(t::r).length=r.length+1:=rfl;have hRe:R=r.length:=by omega
      refine⟨g,R,c-R,?_,hgl,?_⟩
      ·rw[hl1,hRe,show r.length+1-r.length=1 by omega];simp[Addr.add];intro h;subst h;rfl
      ·rw[hRe];exact hg5 r.length (tv8 t) (by simp)
     ·intro h;have h1:p0=2:=by rcases h with h|h|h<;>subst h<;>exact HP0.out.symm
      obtain⟨t,u,r,rfl⟩:∃t u r,st=t::u::r:=by
       match st,hy5 with
       | [],h=>simp at h;omega
       | [t],h=>simp at h;omega
       | t::u::r,_=>exact⟨t,u,r,rfl⟩
      obtain⟨g,cap',e,hgb,hgl,hg3,hg4,hg5,hg6⟩:=zau hown (by simp);injection e with e1 e2 e3
      subst e1;have hl1:(t::u::r).length=r.length+2:=rfl;have hRe:R=r.length:=by omega
      refine⟨g,R,c-R,?_,hgl,?_,?_⟩
      ·rw[hl1,hRe,show r.length+2-r.length=2 by omega];simp[Addr.add];intro h;subst h;rfl
      ·rw[hRe];exact hg5 r.length (tv8 u) (by simp)
      ·rw[hRe];exact hg5 (r.length+1) (tv8 t) (by simp)
   clear HS;by_cases hcl:c=R
   ·have hcl2:=hcl.symm;clear hcl;subst hcl2;go_region_with (go_at_call 116;refine(CS.out _ (fun h=>absurd rfl h)).mono ?_;rintro e w3 ⟨rfl,hb3⟩)
    all_goals
     have hbw:Below wr.heap.size wr w3:=(Below.refl _ wr).drew.trans hb3;have hown3:=zaf hown hbw;have hnx3:Below w.heap.size w w3:=hnx.trans (hbw.mono hnx.size);have hs3:=hnx3.size;clear hown hb3 hB1 CS c0 c1 c2 c3 c0' c1' c2' c3' CP0 CPt;rcases hown3.2 with⟨h1,h2⟩|⟨g,cap',cur,h1,hgb,hgh,hg3,hg4,hg5,hg6⟩
     ·have hq:q=none∧R=0:=by injection h1 with e1 e2 e3;exact⟨e1,e3⟩
      obtain⟨rfl,hR0⟩:=hq;have hst0:st=[]:=List.length_eq_zero_iff.1 h2;subst hst0 hR0;go_wp2_with (at_builtin;refine wpList_append_own _ rfl _ _ 178 rfl w.heap.size 159 i0 (.int .i8 0) 1 1 Tryz.underlying178 hi hz0 hz1 hz2 rfl (by decide) _ _ _ rfl (hown3.alloc _) ⟨w3.heap.size,0,none⟩ 1 1 [.int .i8 VV] rfl rfl (zbc _ _ rfl _ _) (zdV _) (by unfold maxLen;simp) (by simp) (by simp;omega) ?_);intro v' w4 hown4 hgrow _;have hb4:=(hnx3.alloc (by omega) _).grown hgrow (by simp;omega) (zae hown3);clear hgrow;go_wp2_with fail
      go_roundw
      case rel=>exact⟨n,by omega,by go_num,by rw[HDV.out];simpa [tv8] using hown4,hb4⟩
      case measure=>simp[intOf]
     ·have hq:q=some ⟨g,0,none⟩∧R=cap':=by injection h1 with e1 e2 e3;exact⟨e1,e3⟩
      obtain⟨rfl,rfl⟩:=hq;have hrow3:=zcM hown3 R hRL;go_wp2_with (at_builtin;refine wpList_append_own _ rfl _ _ 178 rfl w.heap.size 159 i0 (.int .i8 0) 1 1 Tryz.underlying178 hi hz0 hz1 hz2 rfl (by decide) _ _ _ rfl (hrow3.alloc _) ⟨w3.heap.size,0,none⟩ 1 1 [.int .i8 VV] rfl rfl (zbc _ _ rfl _ _) (zdV _) (by unfold maxLen;omega) (by omega) (by simp;omega) ?_);intro v' w4 hown4 hgrow _;have hb4:=(hnx3.alloc (by omega) _).grown hgrow (by simp;omega) (zae hrow3);clear hgrow;go_wp2_with fail
      go_roundw
      case rel =>
       refine⟨n,by omega,by go_num,?_,hb4⟩;rw[HDV.out,zb4 _ _ (by omega)];have hRp:st.length-p0.toNat=R:=by omega
       rw[hRp];have hln:(VV::st.drop p0.toNat).length=R+1:=by rw[List.length_cons,List.length_drop,hRp]
       rw[hln];rw[List.map_reverse];exact hown4
      case measure=>simp[intOf]
   ·go_region_with (go_at_call 116;refine(CS.out _ (fun h=>rfl)).mono ?_;rintro e w3 ⟨rfl,hb3⟩)
    all_goals
     have hbw:Below wr.heap.size wr w3:=(Below.refl _ wr).drew.trans hb3;have hown3:=zaf hown hbw;have hnx3:Below w.heap.size w w3:=hnx.trans (hbw.mono hnx.size);have hs3:=hnx3.size;clear hown hb3 hB1 CS c0 c1 c2 c3 c0' c1' c2' c3' CP0 CPt;rcases hown3.2 with⟨h1,h2⟩|⟨g,cap',cur,h1,hgb,hgh,hg3,hg4,hg5,hg6⟩
     ·have hq:q=none∧c=0:=by injection h1 with e1 e2 e3;exact⟨e1,e3⟩
      obtain⟨rfl,rfl⟩:=hq;have hst0:st=[]:=List.length_eq_zero_iff.1 h2;subst hst0;exact absurd (show 0=R by simp at hRL;omega) hcl
     ·have hq:q=some ⟨g,0,none⟩∧c=cap':=by injection h1 with e1 e2 e3;exact⟨e1,e3⟩
      obtain⟨rfl,rfl⟩:=hq;have hrow3:=zcM hown3 R hRL;go_wp2_with (at_builtin;refine wpList_append_own _ rfl _ _ 178 rfl w.heap.size 159 i0 (.int .i8 0) 1 1 Tryz.underlying178 hi hz0 hz1 hz2 rfl (by decide) _ _ _ rfl (hrow3.alloc _) ⟨w3.heap.size,0,none⟩ 1 1 [.int .i8 VV] rfl rfl (zbc _ _ rfl _ _) (zdV _) (by unfold maxLen;omega) (by omega) (by simp;omega) ?_);intro v' w4 hown4 hgrow _;have hb4:=(hnx3.alloc (by omega) _).grown hgrow (by simp;omega) (zae hrow3);clear hgrow;go_wp2_with fail
      go_roundw
      case rel =>
       refine⟨n,by omega,by go_num,?_,hb4⟩;rw[HDV.out,zb4 _ _ (by omega)];have hRp:st.length-p0.toNat=R:=by omega
       rw[hRp];have hln:(VV::st.drop p0.toNat).length=R+1:=by rw[List.length_cons,List.length_drop,hRp]
       rw[hln];rw[List.map_reverse];exact hown4
      case measure=>simp[intOf]
theorem Tryz.sizeVSym:(Tryz.prog.info? 136).map (·.size)=some 4:=by kernel_rfl
def vset4 (X:World) (B:Nat) (c0 c1 c2 c3:Value):World:=(((X.setCell ⟨B,0,none⟩ c0).setCell ⟨B,1,none⟩ c1).setCell ⟨B,2,none⟩ c2).setCell ⟨B,3,none⟩ c3
theorem load4 (X:World) (B:Nat) (c0 c1 c2 c3:Value) (h0:X.cell? ⟨B,0,none⟩=some c0) (h1:X.cell? ⟨B,1,none⟩=some c1) (h2:X.cell? ⟨B,2,none⟩=some c2) (h3:X.cell? ⟨B,3,none⟩=some c3):(loadVar 136 ⟨B,0,none⟩).run Tryz.prog X=.ok (.agg #[c0,c1,c2,c3]) X :=
 run_loadVar_mid _ _ 0 136 [c0,c1,c2,c3] _ (by
  intro j v hv
  match j,hv with
  | 0,hv=>cases hv;exact h0
  | 1,hv=>cases hv;exact h1
  | 2,hv=>cases hv;exact h2
  | 3,hv=>cases hv;exact h3) Tryz.underlying136 rfl Tryz.sizeVSym
theorem zde (X:World) (B:Nat) (c0 c1 c2 c3:Value) (h:∀j,j<4→∃u,X.cell? ⟨B,j,none⟩=some u):(loadVar 136 ⟨B,0,none⟩).run Tryz.prog (vset4 X B c0 c1 c2 c3)=.ok (.agg #[c0,c1,c2,c3]) (vset4 X B c0 c1 c2 c3):=by
 unfold vset4;refine load4 _ B c0 c1 c2 c3 ?_ ?_ ?_ ?_
 ·rw[zab _ _ _ _ _ (by omega),zab _ _ _ _ _ (by omega),zab _ _ _ _ _ (by omega)];exact zal _ _ _ (h 0 (by omega))
 ·rw[zab _ _ _ _ _ (by omega),zab _ _ _ _ _ (by omega)];exact zal _ _ _ (by rw[zab _ _ _ _ _ (by omega)];exact h 1 (by omega))
 ·rw[zab _ _ _ _ _ (by omega)];exact zal _ _ _ (by rw[zab _ _ _ _ _ (by omega),zab _ _ _ _ _ (by omega)];exact h 2 (by omega))
 ·exact zal _ _ _ (by rw[zab _ _ _ _ _ (by omega),zab _ _ _ _ _ (by omega),zab _ _ _ _ _ (by omega)];exact h 3 (by omega))
theorem zck {a X:World} {n B:Nat} (c0 c1 c2 c3:Value) (h:Below n a X) (hB:n≤B):Below n a (vset4 X B c0 c1 c2 c3) :=
 (((h.setCell (p:=⟨B,0,none⟩) hB c0).setCell (p:=⟨B,1,none⟩) hB c1).setCell (p:=⟨B,2,none⟩) hB c2).setCell (p:=⟨B,3,none⟩) hB c3
theorem res4 (w:World) (t:TypeId):Res w (w.alloc (.cells zZa t)) 4 :=
 ⟨zaa _ _,by simp,fun j hj=>by
  match j,hj with
  | 0,_=>simp
  | 1,_=>simp
  | 2,_=>simp
  | 3,_=>simp,fun j=>by simp⟩
theorem Res.some4 {w W:World} (h:Res w W 4):∀j,j<4→∃u,W.cell? ⟨w.heap.size,j,none⟩=some u:=fun j hj=>⟨_,h.2.2.1 j hj⟩
theorem zmd (c:Int):-1≤mk c∧mk c≤5:=by
 unfold mk;repeat' split
 all_goals omega
def symV (y:Sym):Value:=.agg #[.int .i64 y.1,.int .i64 y.2.1,.int .i64 y.2.2.1,.int .i64 y.2.2.2]
def csymV:Option (Sym×List UInt8)→Value
 | none=>.tuple #[symV (0,0,0,0),.string ⟨#[]⟩,.bool false]
 | some (y,r)=>.tuple #[symV y,.string ⟨r.toArray⟩,.bool true]
theorem zev (s:ByteArray) (w:World) (hg:Gl w) (hs:s.size≤4000) (h0:0<s.size) :
 Calls Tryz.prog 75 #[.string s] w fun e w'=>e=.returned (csymV (csym s.data.toList))∧Below w.heap.size w w':=by
 have hd:s.data.toList=s[0]::rest s 1:=zag s 0 h0;have hg0:Gl (w.alloc (.cells zZa 136)):=hg.on (zaa _ _);have hr0:=res4 w 136;have HC:Hid (csym s.data.toList=if (0:Int)≤Lib.indexByte mks6 s[0] then some ((Lib.indexByte mks6 s[0],0,0,0),rest s 1) else
  if (Lib.cut s.data.toList [46]).2.2=true then (patm (Lib.cut s.data.toList [46]).1).map fun a=>((6,a),(Lib.cut s.data.toList [46]).2.1) else none):=by
  show _=_;rw[hd];rfl
 have CI:Hid (∀w,Calls Tryz.prog 112 #[.string ⟨#[116,102,33,38,124,62]⟩,.int .u8 (s[0].toNat:Int)] w fun e w'=>e=.returned (.int .i64 (Lib.indexByte mks6 s[0]))∧w=w'):=zlP s[0];have hir:(-1:Int)≤Lib.indexByte mks6 s[0]∧Lib.indexByte mks6 s[0]≤5:=by rw[zkC];exact zmd _
 generalize Lib.indexByte mks6 s[0]=I at *;clear hd;by_cases hI:0≤I
 ·have HC2:Hid (csym s.data.toList=some ((I,0,0,0),rest s 1)):=by show _=_;rw[HC.out,if_pos hI]
  have HX:Hid ((⟨(rest s 1).toArray⟩:ByteArray)=s.extract 1 s.size):=by
   show _=_;rw[zfZ]
   congr 2
   rw[List.take_of_length_le (by rw[zaw];omega)]
  clear HC;go_enter Tryz.func75,Tryz.ntmps75;go_wp2_with (go_at_call 112;refine(CI.out _).mono ?_;rintro e w' ⟨rfl,rfl⟩);go_region;go_wp2_with fail;refine bodyPost_ret (zbC rfl rfl rfl rfl (load4 _ _ (.int .i64 I) (.int .i64 0) (.int .i64 0) (.int .i64 0) (by simp) (by simp) (by simp) (by simp))) rfl ⟨?_,(zaa _ _).drew⟩;rw[HC2.out];simp only[csymV];rw[HX.out];rfl
 ·obtain⟨X1,X2,E,hcut⟩:∃x y z,Lib.cut s.data.toList [46]=(x,y,z):=⟨_,_,_,rfl⟩
  have hx1:X1.length≤4000:=by
   have h1:(Lib.cut s.data.toList [46]).1.length≤s.data.toList.length:=by
    unfold Lib.cut;split
    ·simp;omega
    ·simp
   rw[hcut] at h1;have h2:s.data.toList.length=s.size:=by simp
   exact Nat.le_trans h1 (by omega)
  have CC:Hid (∀w,Gl w→Calls Tryz.prog 113 #[.string s,.string ⟨#[46]⟩] w fun e w'=>e=.returned (.tuple #[.string ⟨X1.toArray⟩,.string ⟨X2.toArray⟩,.bool E])∧Below w.heap.size w w'):=fun w h=>by
   have:=zhP s ⟨#[46]⟩ w h hs;have e:(⟨#[46]⟩:ByteArray).data.toList=[46]:=rfl;rw[e,hcut] at this;exact this
  have CP0:Hid (∀w,Gl w→Calls Tryz.prog 114 #[.string ⟨X1.toArray⟩] w fun e w'=>e=.returned (patV (patm X1))∧Below w.heap.size w w'):=fun w h=>zee ⟨X1.toArray⟩ w h (by show X1.toArray.size≤4000;simpa using hx1)
  have HC2:Hid (csym s.data.toList=if E=true then (patm X1).map fun a=>((6,a),X2) else none):=by show _=_;rw[HC.out,if_neg hI,hcut]
  clear HC hcut;generalize (⟨X1.toArray⟩:ByteArray)=S1 at *;cases hp:patm X1 with
  | none =>
   have HN:Hid (csym s.data.toList=none):=by show _=_;rw[HC2.out,hp];split<;>rfl
   rw[hp] at CP0;have CP:Hid (∀w,Gl w→Calls Tryz.prog 114 #[.string S1] w fun e w'=>e=.returned (.tuple #[.agg zZd,.bool false])∧Below w.heap.size w w'):=CP0;clear CP0 HC2 hp;generalize (⟨X2.toArray⟩:ByteArray)=S2 at *;go_enter Tryz.func75,Tryz.ntmps75;go_wp2_with (first
    | (go_at_call 112;refine(CI.out _).mono ?_;rintro e w' ⟨rfl,rfl⟩)
    | (go_at_call 113;refine(CC.out _ hg0).mono ?_;rintro e w1 ⟨rfl,hb1⟩;have hr1:=hr0.on hb1;have hg1:=hg0.on hb1)
    | (go_at_call 114;refine(CP.out _ hg1).mono ?_;rintro e w2 ⟨rfl,hb2⟩;have hr2:=hr1.on hb2;have hr3:=hr2.on (zaa w2 (.cells zZd 134));have y0:=hr3.2.2.1 0 (by omega);have y1:=hr3.2.2.1 1 (by omega);have y2:=hr3.2.2.1 2 (by omega);have y3:=hr3.2.2.1 3 (by omega);have f0:=hr3.2.2.2 0;have f1:=hr3.2.2.2 1;have f2:=hr3.2.2.2 2;have f3:=hr3.2.2.2 3;have hne:¬w2.heap.size=w.heap.size:=(by have:=hr2.2.1;omega);have hne':¬w.heap.size=w2.heap.size:=(by have:=hr2.2.1;omega)))
   all_goals (exact bodyPost_ret (zbC rfl rfl rfl rfl (zde _ _ _ _ _ _ hr3.some4)) rfl ⟨by rw[HN.out];rfl,zck _ _ _ _ hr3.1 (Nat.le_refl _)⟩)
  | some q =>
   obtain⟨a1,a2,a3⟩:=q;rw[hp] at CP0;have CP:Hid (∀w,Gl w→Calls Tryz.prog 114 #[.string S1] w fun e w'=>e=.returned (.tuple #[.agg #[.int .i64 a1,.int .i64 a2,.int .i64 a3],.bool true])∧Below w.heap.size w w'):=CP0;cases E with
   | false =>
    have HN:Hid (csym s.data.toList=none):=by show _=_;rw[HC2.out];rfl
    clear CP0 HC2 hp;generalize (⟨X2.toArray⟩:ByteArray)=S2 at *;go_enter Tryz.func75,Tryz.ntmps75;go_wp2_with (first
     | (go_at_call 112;refine(CI.out _).mono ?_;rintro e w' ⟨rfl,rfl⟩)
     | (go_at_call 113;refine(CC.out _ hg0).mono ?_;rintro e w1 ⟨rfl,hb1⟩;have hr1:=hr0.on hb1;have hg1:=hg0.on hb1)
     | (go_at_call 114;refine(CP.out _ hg1).mono ?_;rintro e w2 ⟨rfl,hb2⟩;have hr2:=hr1.on hb2;have hr3:=hr2.on (zaa w2 (.cells #[.int .i64 a1,.int .i64 a2,.int .i64 a3] 134));have y0:=hr3.2.2.1 0 (by omega);have y1:=hr3.2.2.1 1 (by omega);have y2:=hr3.2.2.1 2 (by omega);have y3:=hr3.2.2.1 3 (by omega);have f0:=hr3.2.2.2 0;have f1:=hr3.2.2.2 1;have f2:=hr3.2.2.2 2;have f3:=hr3.2.2.2 3;have hne:¬w2.heap.size=w.heap.size:=(by have:=hr2.2.1;omega);have hne':¬w.heap.size=w2.heap.size:=(by have:=hr2.2.1;omega)))
    exact bodyPost_ret (zbC rfl rfl rfl rfl (zde _ _ _ _ _ _ hr3.some4)) rfl ⟨by rw[HN.out];rfl,zck _ _ _ _ hr3.1 (Nat.le_refl _)⟩
   | true =>
    have HN:Hid (csym s.data.toList=some ((6,a1,a2,a3),X2)):=by show _=_;rw[HC2.out,hp];rfl
    have HS2:Hid (csymV (some ((6,a1,a2,a3),X2))=.tuple #[.agg #[.int .i64 6,.int .i64 a1,.int .i64 a2,.int .i64 a3],.string ⟨X2.toArray⟩,.bool true]):=rfl;clear CP0 HC2 hp;generalize (⟨X2.toArray⟩:ByteArray)=S2 at *;go_enter Tryz.func75,Tryz.ntmps75;go_wp2_with (first
     | (go_at_call 112;refine(CI.out _).mono ?_;rintro e w' ⟨rfl,rfl⟩)
     | (go_at_call 113;refine(CC.out _ hg0).mono ?_;rintro e w1 ⟨rfl,hb1⟩;have hr1:=hr0.on hb1;have hg1:=hg0.on hb1)
     | (go_at_call 114;refine(CP.out _ hg1).mono ?_;rintro e w2 ⟨rfl,hb2⟩;have hr2:=hr1.on hb2;have hr3:=hr2.on (zaa w2 (.cells #[.int .i64 a1,.int .i64 a2,.int .i64 a3] 134));have y0:=hr3.2.2.1 0 (by omega);have y1:=hr3.2.2.1 1 (by omega);have y2:=hr3.2.2.1 2 (by omega);have y3:=hr3.2.2.1 3 (by omega);have f0:=hr3.2.2.2 0;have f1:=hr3.2.2.2 1;have f2:=hr3.2.2.2 2;have f3:=hr3.2.2.2 3;have hne:¬w2.heap.size=w.heap.size:=(by have:=hr2.2.1;omega);have hne':¬w.heap.size=w2.heap.size:=(by have:=hr2.2.1;omega)))
    exact bodyPost_ret (zbC rfl rfl rfl rfl (zde _ _ _ _ _ _ hr3.some4)) rfl ⟨by rw[HN.out,HS2.out];rfl,zck _ _ _ _ hr3.1 (Nat.le_refl _)⟩
theorem zg0 (k:Int) (w:World) :
 Calls Tryz.prog 76 #[.int .i64 k] w fun e w'=>e=.returned (.int .i64 (prt k))∧w=w':=by
 go_enter Tryz.func76,Tryz.ntmps76;go_wp2
 all_goals go_ret
 all_goals refine⟨zay ?_,rfl⟩
 all_goals simp_all [prt]
def vcell4 (y:Sym):List Value:=[.int .i64 y.1,.int .i64 y.2.1,.int .i64 y.2.2.1,.int .i64 y.2.2.2]
def vcells4 (l:List Sym):List Value:=l.flatMap vcell4
theorem zfa (l:List Sym) (y:Sym):vcells4 (l++[y])=vcells4 l++vcell4 y:=by simp[vcells4]
theorem Tryz.infoVSym:(Tryz.prog.info? 136).map (fun i=>(i.zero,i.size,i.bytes))=some (some (.agg zZa),4,32):=by kernel_rfl
theorem zgv (w:World) (B:Nat) (hB:B=w.heap.size) (a b c d:Value) (t:TypeId):∀j u,[a,b,c,d][j]?=some u→(w.alloc (.cells #[a,b,c,d] t)).cell? ((⟨B,0,none⟩:Addr).add j)=some u:=by
 subst hB;intro j u h
 match j,h with
 | 0,h=>simp at h;subst h;simp[Addr.add]
 | 1,h=>simp at h;subst h;simp[Addr.add]
 | 2,h=>simp at h;subst h;simp[Addr.add]
 | 3,h=>simp at h;subst h;simp[Addr.add]
theorem zj0 (x y z t:Int):∀u∈[Value.int .i64 x,.int .i64 y,.int .i64 z,.int .i64 t],u.oneCell'=true:=by
 intro u hu;simp at hu;rcases hu with rfl|rfl|rfl|rfl<;>rfl
def tsz:Value→Nat
 | .string t=>t.size
 | _=>0
theorem ziH (t:ByteArray):tsz (.string t)=t.size:=rfl
def ParseEnd (w:World) (p:Option (List Sym)) (e:Ending) (w':World):Prop :=
 ∃v,e=.returned (.tuple #[v,.bool p.isSome])∧(∀ys,p=some ys→w'.ownsRow w.heap.size 136 4 v ys.length (vcells4 ys))∧Below w.heap.size w w'
theorem zdf (s:ByteArray) (w:World) (hg:Gl w) (hmax:s.size≤maxLen) :
 Calls Tryz.prog 46 #[.string s] w fun e w'=>ParseEnd w (pars s) e w':=by
 by_cases hlong:4000<s.size
 ·have HP:Hid (pars s=none):=by show _=_;unfold pars;rw[if_pos hlong]
  have hlong':(4000:Int)<(s.size:Int):=by omega
  go_enter Tryz.func46,Tryz.ntmps46;go_wp2
  go_ret2
  exact⟨_,by rw[HP.out];rfl,fun ys h=>by(rw[HP.out] at h;cases h),Below.refl _ _⟩
 ·have HP:Hid (pars s=prsA 1 (rest s 0)):=by show _=_;unfold pars;rw[if_neg hlong];rfl
  have hlong':¬(4000:Int)<(s.size:Int):=by omega
  generalize pars s=P at *;obtain⟨i0,hi,hz0,hz1,hz2⟩:=info_parts Tryz.infoVSym;go_enter Tryz.func46,Tryz.ntmps46;go_wp2_with fail
  go_loopw [0,4,5] (fun tv v c wr=>∃(t:ByteArray) (k:Nat) (m:Int) (ds:List Sym),k≤s.size∧tv=.string t∧t.data.toList=rest s k∧c=.int .i64 m∧0≤m∧m≤k+1∧wr.ownsRow w.heap.size 136 4 v ds.length (vcells4 ds)∧ds.length≤k∧P=(prsA m (rest s k)).map (ds++·)∧Below w.heap.size w wr) (fun tv _ _ _=>tsz tv)
  case atStart=>exact⟨s,0,1,[],Nat.zero_le _,rfl,rfl,rfl,by omega,by omega,World.ownsRow_nil _ _ _ _,Nat.le_refl _,by rw[HP.out];simp,Below.refl _ _⟩
  case round =>
   obtain⟨t,k,m,ds,hk,rfl,ht,rfl,hm0,hm1,hown,hul,hq,hnx⟩:=hrel;have Q:Hid (P=(prsA m (rest s k)).map (ds++·)):=hq;have HT:Hid (t.data.toList=rest s k):=ht;have htl:t.size=s.size-k:=by
    have:t.data.toList.length=t.size:=by simp
    rw[←this,ht,zaw]
   clear hq HP ht;have hgr:=hg.on hnx;by_cases hlt:k<s.size
   ·have ht0:0<t.size:=by omega
    have ht0':(0:Int)<(t.size:Int):=by omega
    have CS:Hid (Calls Tryz.prog 75 #[.string t] wr fun e w'=>e=.returned (csymV (csym t.data.toList))∧Below wr.heap.size wr w'):=zev t wr hgr (by omega) ht0;rw[HT.out,zag s k hlt,zjN,←zag s k hlt] at CS;have HTL:Hid (t.size=s.size-k):=htl;clear htl;cases hsy:sym (rest s k) with
    | none =>
     have HN:Hid (P=none):=by
      show _=_
      rw[Q.out,zag s k hlt,zdr _ _ _ (by rw[←zag s k hlt];exact hsy)];rfl
     rw[hsy] at CS;have CS':Hid (Calls Tryz.prog 75 #[.string t] wr fun e w'=>e=.returned (.tuple #[.agg zZa,.string ⟨#[]⟩,.bool false])∧Below wr.heap.size wr w'):=CS;clear CS;go_wp2_with (go_at_call 75;refine(CS'.out).mono ?_;rintro e w1 ⟨rfl,hb1⟩)
     all_goals go_ret2
     all_goals exact⟨_,by rw[HN.out];rfl,fun ys h=>by(rw[HN.out] at h;cases h),(hnx.trans (hb1.mono hnx.size)).alloc (by have:=hb1.size;have:=hnx.size;omega) _⟩
    | some q =>
     obtain⟨⟨y0,y1,y2,y3⟩,j⟩:=q;have hj:=zbr hsy;rw[zaw] at hj;rw[hsy] at CS;have hdr:(rest s k).drop j=rest s (k+j):=zbn s k j;have CS':Hid (Calls Tryz.prog 75 #[.string t] wr fun e w'=>e=.returned (.tuple #[.agg #[.int .i64 y0,.int .i64 y1,.int .i64 y2,.int .i64 y3],.string ⟨(rest s (k+j)).toArray⟩,.bool true])∧Below wr.heap.size wr w'):=by rw[←hdr];exact CS
     have HT2:Hid ((⟨(rest s (k+j)).toArray⟩:ByteArray).data.toList=rest s (k+j)):=rfl;have HTS:Hid ((⟨(rest s (k+j)).toArray⟩:ByteArray).size=s.size-(k+j)):=by
      show(rest s (k+j)).toArray.size=_;rw[List.size_toArray,zaw]
     clear CS hdr;generalize (⟨(rest s (k+j)).toArray⟩:ByteArray)=T2 at *;by_cases hz:m=0
     ·subst hz;have HN:Hid (P=none):=by show _=_;rw[Q.out,zag s k hlt,zdq];rfl
      go_wp2_with (go_at_call 75;refine(CS'.out).mono ?_;rintro e w1 ⟨rfl,hb1⟩)
      go_ret2
      exact⟨_,by rw[HN.out];rfl,fun ys h=>by(rw[HN.out] at h;cases h),(hnx.trans (hb1.mono hnx.size)).alloc (by have:=hb1.size;have:=hnx.size;omega) _⟩
     ·have hz':(m==0)=false:=by simpa using hz
      have Q2:Hid (P=(prsA (m+(prt y0-1)) (rest s (k+j))).map ((ds++[(y0,y1,y2,y3)])++·)):=by
       show _=_
       rw[Q.out,zag s k hlt,zds m _ _ (y0,y1,y2,y3) j hz (by rw[←zag s k hlt];exact hsy),←zag s k hlt,zbn];have ee:m+prt y0-1=m+(prt y0-1):=by omega
       simp[Option.map_map,Function.comp_def,ee]
      have hpr:=zaY y0;clear hsy;generalize hpp:prt y0=pp at *;have CPt:Hid (∀w,Calls Tryz.prog 76 #[.int .i64 y0] w fun e w'=>e=.returned (.int .i64 pp)∧w=w'):=fun w=>by rw[←hpp];exact zg0 y0 w
      clear hpp;go_wp2_with (first
       | (go_at_call 75;refine(CS'.out).mono ?_;rintro e w1 ⟨rfl,hb1⟩;have hown1:=(zaf hown hb1).alloc (.cells #[.int .i64 y0,.int .i64 y1,.int .i64 y2,.int .i64 y3] 136))
       | (at_builtin;refine wpList_append_own _ rfl _ _ 75 rfl w.heap.size 136 i0 (.agg zZa) 4 32 Tryz.underlying75 hi hz0 hz1 hz2 rfl (by decide) _ _ _ rfl (hown1.alloc _) ⟨w1.heap.size+1,0,none⟩ 1 1 [.int .i64 y0,.int .i64 y1,.int .i64 y2,.int .i64 y3] rfl rfl (zgv _ _ (by simp) _ _ _ _ _) (zj0 _ _ _ _) (by unfold maxLen;omega) (by omega) (by have:=hb1.size;have:=hnx.size;simp;omega) ?_))
      intro v' w3 hown3 hgrow _;have hb1s:=hb1.size;have hnxs:=hnx.size;have hbb:=(hnx.trans (hb1.mono hnxs)).alloc (by omega) (.cells #[.int .i64 y0,.int .i64 y1,.int .i64 y2,.int .i64 y3] 136);have hb3:=(hbb.alloc (by simp;omega) _).grown hgrow (by simp;omega) (zae hown);have hy0:w3.cell? ⟨w1.heap.size,0,none⟩=some (.int .i64 y0):=hgrow.cell (by simp) (by
       intro e;have:=(hown.lt _ e.symm).2;simp at this;omega)
      clear hown hown1 hgrow hbb;go_wp2_with (go_at_call 76;refine(CPt.out _).mono ?_;rintro e w' ⟨rfl,rfl⟩)
      go_roundw
      case rel=>exact⟨T2,k+j,m+(pp-1),ds++[(y0,y1,y2,y3)],by omega,rfl,HT2.out,by go_num,by omega,by omega,by rw[zfa,List.length_append];exact hown3,by simp;omega,Q2.out,hb3⟩
      case measure=>simp only[ziH];have:=HTS.out;have:=HTL.out;simp[ziH];omega
   ·have ht0:t.size=0:=by omega
    have ht0':¬(0:Int)<(t.size:Int):=by omega
    have Q2:Hid (P=if m=0 then some ds else none):=by
     show _=_
     rw[Q.out,zbb s k (by omega),zeB];split<;>simp
    clear htl ht0;by_cases hz:m=0
    ·subst hz;have HS:Hid (P=some ds):=by show _=_;rw[Q2.out,if_pos rfl]
     go_wp2_with fail
     go_ret2
     exact⟨u4,by rw[HS.out];rfl,fun ys h=>by(rw[HS.out] at h;cases h;exact hown),hnx⟩
    ·have HN:Hid (P=none):=by show _=_;rw[Q2.out,if_neg hz]
     have hz':0<m:=by omega
     go_wp2_with fail
     go_ret2
     exact⟨_,by rw[HN.out];rfl,fun ys h=>by(rw[HN.out] at h;cases h),hnx⟩
theorem ziI (i x1 x2 x3 x4:Int) (w:World) (h:0≤i∧i≤4) :
 Calls Tryz.prog 115 #[.int .i64 i,.agg #[.int .i64 x1,.int .i64 x2,.int .i64 x3,.int .i64 x4]] w fun e w'=>e=.returned (.int .i64 (xv x1 x2 x3 x4 i))∧Below w.heap.size w w':=by
 have hi:i=0∨i=1∨i=2∨i=3∨i=4:=by omega
 rcases hi with rfl|rfl|rfl|rfl|rfl
 all_goals
  go_enter Tryz.func115,Tryz.ntmps115;go_wp2;go_ret;exact⟨rfl,zaa _ _⟩
def Two (w w':World) (B:Nat) (a1 a2 a3 x1 x2 x3 x4:Int):Prop :=
 Below w.heap.size w w'∧B+1<w'.heap.size∧w'.cell? ⟨B,0,none⟩=some (.int .i64 a1)∧w'.cell? ⟨B,1,none⟩=some (.int .i64 a2)∧w'.cell? ⟨B,2,none⟩=some (.int .i64 a3) ∧
 w'.cell? ⟨B+1,0,none⟩=some (.int .i64 x1)∧w'.cell? ⟨B+1,1,none⟩=some (.int .i64 x2)∧w'.cell? ⟨B+1,2,none⟩=some (.int .i64 x3)∧w'.cell? ⟨B+1,3,none⟩=some (.int .i64 x4)
theorem Two.on {w X X':World} {B:Nat} {a1 a2 a3 x1 x2 x3 x4:Int} (h:Two w X B a1 a2 a3 x1 x2 x3 x4) (hb:Below X.heap.size X X'):Two w X' B a1 a2 a3 x1 x2 x3 x4:=by
 obtain⟨h0,h1,c0,c1,c2,d0,d1,d2,d3⟩:=h;have hB:B<X.heap.size:=by omega
 exact⟨h0.trans (hb.mono h0.size),Nat.lt_of_lt_of_le h1 hb.size,(hb.cell (p:=⟨B,0,none⟩) hB).trans c0,(hb.cell (p:=⟨B,1,none⟩) hB).trans c1,(hb.cell (p:=⟨B,2,none⟩) hB).trans c2,
  (hb.cell (p:=⟨B+1,0,none⟩) h1).trans d0,(hb.cell (p:=⟨B+1,1,none⟩) h1).trans d1,(hb.cell (p:=⟨B+1,2,none⟩) h1).trans d2,(hb.cell (p:=⟨B+1,3,none⟩) h1).trans d3⟩
theorem zg1 (a1 a2 a3 x1 x2 x3 x4:Int) (w:World) (h1:0≤a1∧a1≤4) (h2:0≤a2∧a2≤4) (hg:gds x1 x2 x3 x4=true) :
 Calls Tryz.prog 79 #[.agg #[.int .i64 a1,.int .i64 a2,.int .i64 a3],.agg #[.int .i64 x1,.int .i64 x2,.int .i64 x3,.int .i64 x4]] w fun e w'=>e=.returned (.bool (hld x1 x2 x3 x4 (a1,a2,a3)))∧Below w.heap.size w w':=by
 have CV:Hid (∀(i:Int) w,0≤i∧i≤4→Calls Tryz.prog 115 #[.int .i64 i,.agg #[.int .i64 x1,.int .i64 x2,.int .i64 x3,.int .i64 x4]] w fun e w'=>e=.returned (.int .i64 (xv x1 x2 x3 x4 i))∧Below w.heap.size w w'):=fun i w h=>ziI i x1 x2 x3 x4 w h
 have HH:Hid (hld x1 x2 x3 x4 (a1,a2,a3)=decide (xv x1 x2 x3 x4 a1-xv x1 x2 x3 x4 a2≤a3)):=rfl;have hX:=zbD hg a1;have hY:=zbD hg a2;have A1:Hid (0≤a1∧a1≤4):=h1;have A2:Hid (0≤a2∧a2≤4):=h2;clear h1 h2 hg;generalize hxv:xv x1 x2 x3 x4=XV at *;clear hxv;go_enter Tryz.func79,Tryz.ntmps79;go_wp2_with fail;have b0:Below w.heap.size w ((w.alloc (.cells #[.int .i64 a1,.int .i64 a2,.int .i64 a3] 134)).alloc (.cells #[.int .i64 x1,.int .i64 x2,.int .i64 x3,.int .i64 x4] 36)):=(zaa w _).alloc (by simp) _;generalize hW:(w.alloc (.cells #[.int .i64 a1,.int .i64 a2,.int .i64 a3] 134)).alloc (.cells #[.int .i64 x1,.int .i64 x2,.int .i64 x3,.int .i64 x4] 36)=W at *;have s0:w.heap.size+1<W.heap.size:=by rw[←hW];simp
 have c0:W.cell? ⟨w.heap.size,0,none⟩=some (.int .i64 a1):=by rw[←hW];simp
 have c1:W.cell? ⟨w.heap.size,1,none⟩=some (.int .i64 a2):=by rw[←hW];simp
 have c2:W.cell? ⟨w.heap.size,2,none⟩=some (.int .i64 a3):=by rw[←hW];simp
 have d0:W.cell? ⟨w.heap.size+1,0,none⟩=some (.int .i64 x1):=by rw[←hW];simp
 have d1:W.cell? ⟨w.heap.size+1,1,none⟩=some (.int .i64 x2):=by rw[←hW];simp
 have d2:W.cell? ⟨w.heap.size+1,2,none⟩=some (.int .i64 x3):=by rw[←hW];simp
 have d3:W.cell? ⟨w.heap.size+1,3,none⟩=some (.int .i64 x4):=by rw[←hW];simp
 have b1:Below w.heap.size w W.drew:=b0.drew;have T0:Two w W.drew w.heap.size a1 a2 a3 x1 x2 x3 x4:=⟨b1,s0,c0,c1,c2,d0,d1,d2,d3⟩;clear hW;go_region_held3 (fun w'=>Below w.heap.size w w'∧w.heap.size+1<w'.heap.size∧w'.cell? ⟨w.heap.size,0,none⟩=some (.int .i64 a1)∧w'.cell? ⟨w.heap.size,1,none⟩=some (.int .i64 a2)∧w'.cell? ⟨w.heap.size,2,none⟩=some (.int .i64 a3)∧w'.cell? ⟨w.heap.size+1,0,none⟩=some (.int .i64 x1)∧w'.cell? ⟨w.heap.size+1,1,none⟩=some (.int .i64 x2)∧w'.cell? ⟨w.heap.size+1,2,none⟩=some (.int .i64 x3)∧w'.cell? ⟨w.heap.size+1,3,none⟩=some (.int .i64 x4)) (simp[*]) (first|(go_at_call 115;refine(CV.out _ _ ?_).mono ?_;(first|exact A1.out|exact A2.out);rintro e w3 ⟨rfl,hb3⟩;first|(have T2:=T1.on hb3;obtain⟨t0,t1,t2,t3,t4,t5,t6,t7,t8⟩:=id T2)|(have T1:=T0.on hb3;obtain⟨t0,t1,t2,t3,t4,t5,t6,t7,t8⟩:=id T1)));have hwr:IntKind.i64.wrap (XV a1-XV a2)=XV a1-XV a2:=IntWalk.i64_in _ (by omega);go_wp2_with fail;go_ret;refine⟨?_,t0⟩;rw[HH.out]
 first|rfl|(simp only[hwr];rfl)|simp[hwr]
def StAt (W:World) (B:Nat) (x1 x2 x3 x4:Int):Prop:=B<W.heap.size∧W.cell? ⟨B,0,none⟩=some (.int .i64 x1)∧W.cell? ⟨B,1,none⟩=some (.int .i64 x2)∧W.cell? ⟨B,2,none⟩=some (.int .i64 x3)∧W.cell? ⟨B,3,none⟩=some (.int .i64 x4)
theorem StAt.on {W W':World} {B:Nat} {x1 x2 x3 x4:Int} (h:StAt W B x1 x2 x3 x4) (hb:Below W.heap.size W W'):StAt W' B x1 x2 x3 x4:=by
 obtain⟨h0,a,b,c,d⟩:=h;exact⟨Nat.lt_of_lt_of_le h0 hb.size,(hb.cell (p:=⟨B,0,none⟩) h0).trans a,(hb.cell (p:=⟨B,1,none⟩) h0).trans b,(hb.cell (p:=⟨B,2,none⟩) h0).trans c,(hb.cell (p:=⟨B,3,none⟩) h0).trans d⟩
theorem zlp (a1 a2 a3 x1 x2 x3 x4:Int) (B:Nat) (w:World) (hs:StAt w B x1 x2 x3 x4) (ho:okA (a1,a2,a3)) (hg:gds x1 x2 x3 x4=true) :
 Calls Tryz.prog 77 #[.agg #[.int .i64 a1,.int .i64 a2,.int .i64 a3],.pointer (some ⟨B,0,none⟩)] w fun e w'=>e=.returned (.int .i8 (tof (hld x1 x2 x3 x4 (a1,a2,a3))))∧Below w.heap.size w w':=by
 have hok:=ho;unfold okA at hok;dsimp only at hok;have CA:Hid (∀w,Calls Tryz.prog 79 #[.agg #[.int .i64 a1,.int .i64 a2,.int .i64 a3],.agg #[.int .i64 x1,.int .i64 x2,.int .i64 x3,.int .i64 x4]] w fun e w'=>e=.returned (.bool (hld x1 x2 x3 x4 (a1,a2,a3)))∧Below w.heap.size w w'):=fun w=>zg1 a1 a2 a3 x1 x2 x3 x4 w ⟨by omega,by omega⟩ ⟨by omega,by omega⟩ hg
 have CT:Hid (∀b w,Calls Tryz.prog 78 #[.bool b] w fun e w'=>e=.returned (.int .i8 (tof b))∧w=w'):=zfG;obtain⟨s0,s1,s2,s3,s4⟩:=hs.on (zaa w (.cells #[.int .i64 a1,.int .i64 a2,.int .i64 a3] 134));clear hs hok ho hg;generalize hld x1 x2 x3 x4 (a1,a2,a3)=HL at *;go_enter Tryz.func77,Tryz.ntmps77;go_wp2_with (first
  | (go_at_call 79;refine(CA.out _).mono ?_;rintro e w3 ⟨rfl,hb3⟩)
  | (go_at_call 78;refine(CT.out _ _).mono ?_;rintro e w' ⟨rfl,rfl⟩))
 go_ret;exact⟨rfl,(zaa w _).trans (hb3.mono (by simp))⟩
theorem zg2 {s:ByteArray} {ys:List Sym} (hp:pars s=some ys) (v:Value) (x1 x2 x3 x4:Int) (w:World) (hg:gds x1 x2 x3 x4=true) (hI:Syms w.heap.size w v ys) :
 Calls Tryz.prog 47 #[v,.agg #[.int .i64 x1,.int .i64 x2,.int .i64 x3,.int .i64 x4]] w fun e w'=>e=.returned (.bool (val x1 x2 x3 x4 ys))∧Below w.heap.size w w':=by
 obtain⟨hs,hprs,_,_⟩:=zaz hp;obtain⟨ps,hps⟩:=zcx s ys 0 1 (Nat.zero_le _) hprs;have hl:=zcn ys 0 1 ps hps;obtain⟨t,ht3,hr1,hr2⟩:=zcH x1 x2 x3 x4 hp;obtain⟨b,cap,rfl,hbs,hcs⟩:=id hI;have CS:Hid (∀W B,Below w.heap.size w W→StAt W B x1 x2 x3 x4→Calls Tryz.prog 80 #[.slice (some ⟨b,0,none⟩) ys.length cap,.func (.func 77) #[] #[.pointer (some ⟨B,0,none⟩)]] W fun e w'=>e=.returned (.int .i8 t)∧Below W.heap.size W w'):=fun W B hW hst =>
  csettleH (fun a=>tof (hld x1 x2 x3 x4 a)) (.pointer (some ⟨B,0,none⟩)) (fun W=>StAt W B x1 x2 x3 x4) (fun _ _ h hb=>h.on hb) (fun a=>zlW _) b cap ys W (by omega) ((hI.below hW).more hW.size) (zfF _ ys 0 1 ps hps (by omega)) t hr1 hst (fun W a1 a2 a3 h ho=>zlp a1 a2 a3 x1 x2 x3 x4 B W h ho hg)
 have hst:StAt (w.alloc (.cells #[.int .i64 x1,.int .i64 x2,.int .i64 x3,.int .i64 x4] 36)) w.heap.size x1 x2 x3 x4:=⟨by simp,by simp,by simp,by simp,by simp⟩;have HV:Hid (val x1 x2 x3 x4 ys=(t==1)):=hr2;have HST:Hid _:=hst;clear hst hr1 hr2 hI hcs hps hprs hp hl;go_enter Tryz.func47,Tryz.ntmps47;go_wp2_with (go_at_call 80;refine(CS.out _ _ (zaa w _) HST.out).mono ?_;rintro e w3 ⟨rfl,hb3⟩);go_ret;refine⟨?_,(zaa w _).trans (hb3.mono (by simp))⟩;rw[HV.out];rfl
end Go.Proofs.YtkinoehmcfhgbaaGreatDoor.Vl
