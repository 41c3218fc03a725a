/- A part of the proof. -/
import Derived.Test.YtkinoehmcfhgbaaGreatDoorC1
import Derived.Lib.AppendZeros
import Derived.Laws.AppendOwnNone
set_option linter.unusedVariables false
set_option linter.unusedSimpArgs false
set_option maxRecDepth 100000
set_option maxHeartbeats 2000000
namespace Go.Proofs.YtkinoehmcfhgbaaGreatDoor.Vl
open Go.RowKit
theorem zkv (n:Nat) (w:World) (hn:n≤100000) :
 Calls Tryz.prog 216 #[.slice none 0 0,.int .i64 (n:Int)] w fun e w'=>∃v,e=.returned v∧w'.ownsRow w.heap.size 136 4 v 0 []∧Below w.heap.size w w':=by
 obtain⟨i0,hi,hz0,hz1,hz2⟩:=info_parts Tryz.infoSym;have hn0:¬(n:Int)<0:=by omega
 by_cases h0:0<n
 ·have hp:(0:Int)<(n:Int):=by omega
  have hr:=Lib.run_append_nil_zeros (P:=Tryz.prog) w 75 3 75 136 i0 _ .i64 .i64 Tryz.underlying75 Tryz.underlying3 hi hz0 n h0 (by omega) (by omega) (by rw[hz2];omega);have hcg:=grownCap_ge w n 0 136;have hcm:=grownCap_le_maxLen w n 0 136 (by unfold maxLen;omega);generalize grownCap w n 0 136=cap at *;go_enter Tryz.func216,Tryz.ntmps216;go_wp2_with (at_builtin;refine Lib.wpList_append_run _ rfl _ _ _ _ rfl _ _ rfl rfl _ _ hr ?_);go_wp2_with fail;go_ret;refine⟨_,rfl,⟨rfl,Or.inr ⟨w.heap.size,cap,_,rfl,Nat.le_refl _,heap_alloc_new w _,Nat.zero_le _,hcm,?_,rfl⟩⟩,(zaa w _).drew⟩;rw[Array.size_append,size_zeroCells,size_zeroCells];simp;omega
 ·have hn1:n=0:=by omega
  subst hn1;go_enter Tryz.func216,Tryz.ntmps216;go_wp2;go_ret;exact⟨_,rfl,World.ownsRow_nil _ _ _ _,Below.refl _ _⟩
def PartsR (w:World) (v:Value) (yss:List (List Sym)):Prop:=(v=.slice none 0 0∧yss=[])∨∃(p cap:Nat) (vs:List Value),v=.slice (some ⟨p,0,none⟩) yss.length cap∧yss.length≤cap∧cap≤maxLen∧p<w.heap.size∧vs.length=yss.length∧(∀(j:Nat) (x:Value),vs[j]?=some x→w.cell? ⟨p,j,none⟩=some x)∧∀(j:Nat) (x:Value) (ys:List Sym),vs[j]?=some x→yss[j]?=some ys→CondR w x ys
theorem PartsR.below {w w':World} {v:Value} {yss:List (List Sym)} (h:PartsR w v yss) (hb:Below w.heap.size w w'):PartsR w' v yss:=by
 rcases h with h|⟨p,cap,vs,h1,h2,h3,h4,h5,h6,h7⟩
 ·exact Or.inl h
 ·exact Or.inr ⟨p,cap,vs,h1,h2,h3,Nat.lt_of_lt_of_le h4 hb.size,h5,fun j x hx=>(hb.cell (p:=⟨p,j,none⟩) h4).trans (h6 j x hx),fun j x ys hx hy=>(h7 j x ys hx hy).below hb⟩
theorem CondR.shape {w:World} {v:Value} {ys:List Sym} (h:CondR w v ys):∃a cap,v=.slice a ys.length cap:=by
 rcases h with⟨rfl,rfl⟩|⟨b,cap,h1,_⟩
 ·exact⟨none,0,rfl⟩
 ·exact⟨_,_,h1⟩
theorem zcw:∀l:List Sym,(cells4 l).length=l.length*4
 | []=>rfl
 | x::r=>by simp only[cells4,List.flatMap_cons,List.length_append,List.length_cons];have:=zcw r;unfold cells4 at this;rw[this];simp[cell4];omega
theorem zd3 (a b:List Sym):cells4 (a++b)=cells4 a++cells4 b:=by unfold cells4;rw[List.flatMap_append]
theorem zht (l:List Sym):∀u∈cells4 l,u.oneCell'=true:=by
 intro u hu;unfold cells4 at hu;obtain⟨y,_,hy⟩:=List.mem_flatMap.1 hu;simp[cell4] at hy;rcases hy with rfl|rfl|rfl|rfl<;>rfl
theorem zgP {w:World} {base:Nat} {v:Value} {ys:List Sym} (h:w.ownsRow base 136 4 v ys.length (cells4 ys)):CondR w v ys:=by
 rcases h.2 with⟨h1,h2⟩|⟨g,cap,cur,hv,hg,hh,h3,h4,h5,h6⟩
 ·exact Or.inl ⟨h1,List.length_eq_zero_iff.1 h2⟩
 ·have hlt:g<w.heap.size:=by
   rcases Nat.lt_or_ge g w.heap.size with h|h
   ·exact h
   ·rw[Array.getElem?_eq_none h] at hh;cases hh
  refine Or.inr ⟨g,cap,hv,h3,h4,hlt,fun j u hu=>?_,_,_,hh⟩;rw[←h6,List.getElem?_take] at hu;split at hu
  ·have:cur[j]?=some u:=by simpa using hu
   simp[World.cell?,hh,this]
  ·cases hu
theorem zfb (yss:List (List Sym)) {k:Nat} {ys:List Sym} (h:yss[k]?=some ys):(yss.take (k+1)).flatten=(yss.take k).flatten++ys:=by
 have hk:k<yss.length:=by
  rcases Nat.lt_or_ge k yss.length with h'|h'
  ·exact h'
  ·rw[List.getElem?_eq_none h'] at h;cases h
 rw[List.take_add_one,List.flatten_append,h];simp
theorem zfZ (yss:List (List Sym)) (k:Nat):(yss.take k).flatten.length≤yss.flatten.length:=by
 conv=>rhs;rw[←List.take_append_drop k yss,List.flatten_append,List.length_append]
 omega
theorem zd4 (v:Value) (yss:List (List Sym)) (w:World) (h:PartsR w v yss) (hl:yss.flatten.length≤100000) (hm:yss.length≤1000) :
 Calls Tryz.prog 142 #[v] w fun e w'=>∃v',e=.returned v'∧CondR w' v' yss.flatten∧Below w.heap.size w w':=by
 obtain⟨i0,hi,hz0,hz1,hz2⟩:=info_parts Tryz.infoSym;have CG:Hid (∀w,Calls Tryz.prog 216 #[.slice none 0 0,.int .i64 (yss.flatten.length:Int)] w fun e w'=>∃v,e=.returned v∧w'.ownsRow w.heap.size 136 4 v 0 []∧Below w.heap.size w w'):=fun w=>zkv _ w hl
 obtain⟨pa,cap,rfl⟩:∃pa cap,v=.slice pa yss.length cap:=by
  rcases h with⟨rfl,rfl⟩|⟨p,cap,vs,rfl,_⟩
  ·exact⟨none,0,rfl⟩
  ·exact⟨_,_,rfl⟩
 have HP:Hid (PartsR w (.slice pa yss.length cap) yss):=h;have HFL:Hid (yss.take yss.length=yss):=List.take_length;clear h;go_enter Tryz.func142,Tryz.ntmps142;go_wp2_with fail
 go_loopw [3,11] (fun sz iv wr=>∃k:Nat,iv=.int .i64 (k:Int)∧k≤yss.length∧sz=.int .i64 ((yss.take k).flatten.length:Int)∧Below w.heap.size w wr) (fun _ iv _=>yss.length-(intOf iv).toNat)
 case atStart=>exact⟨0,rfl,Nat.zero_le _,rfl,Below.refl _ _⟩
 case round =>
  obtain⟨k,rfl,hk,rfl,hbr⟩:=hrel;have hfl:=zfZ yss k;by_cases hlt:k<yss.length
  ·have hlt':(k:Int)<(yss.length:Int):=by omega
   obtain⟨ys,hys⟩:∃ys,yss[k]?=some ys:=⟨_,List.getElem?_eq_getElem hlt⟩
   have hft:=zfb yss hys;have hfl2:=zfZ yss (k+1);rcases HP.out with⟨_,h0⟩|⟨p,cap',vs,hv,h2,h3,h4,h5,h6,h7⟩
   ·rw[h0] at hlt;simp at hlt
   cases hv
   obtain⟨x,hx⟩:∃x,vs[k]?=some x:=⟨_,List.getElem?_eq_getElem (by omega)⟩
   obtain⟨xa,xc,rfl⟩:=(h7 k x ys hx hys).shape;have z:=(hbr.cell (p:=⟨p,k,none⟩) h4).trans (h6 k _ hx);have hsum:(yss.take (k+1)).flatten.length=(yss.take k).flatten.length+ys.length:=by rw[hft,List.length_append]
   have HSU:Hid ((yss.take (k+1)).flatten.length=(yss.take k).flatten.length+ys.length):=hsum;have hb2:(yss.take k).flatten.length+ys.length≤100000:=by omega
   clear hft hfl2 h6 h7 hx hys hsum;generalize (yss.take k).flatten.length=S at *;go_wp2_with fail
   go_roundw
   case rel=>exact⟨k+1,by go_num,by omega,by rw[HSU.out];go_num,hbr⟩
   case measure=>simp[intOf];omega
  ·have hke:k=yss.length:=by omega
   subst hke;have hlt':¬(yss.length:Int)<(yss.length:Int):=by omega
   rw[HFL.out];obtain⟨W1,hW1⟩:∃W1,W1=wr:=⟨_,rfl⟩
   subst hW1;generalize hSS:yss.flatten.length=S at *;have HSS:Hid (yss.flatten.length=S):=hSS;clear hSS hfl;go_wp2_with fail;refine(CG.out _).mono ?_;rintro e w2 ⟨nv,rfl,hown0,hb2⟩;have HB2:Hid (Below w.heap.size w w2):=hbr.trans (hb2.mono hbr.size);have hs12:=hb2.size;have hww:=hbr.size;clear hb2 hbr;go_wp2_with fail
   go_loopw [6,27] (fun lv iv wr=>∃k:Nat,iv=.int .i64 (k:Int)∧k≤yss.length∧wr.ownsRow W1.heap.size 136 4 lv (yss.take k).flatten.length (cells4 (yss.take k).flatten)∧Below w.heap.size w wr∧W1.heap.size≤wr.heap.size) (fun _ iv _=>yss.length-(intOf iv).toNat)
   case atStart=>exact⟨0,rfl,Nat.zero_le _,hown0,HB2.out,hs12⟩
   case round =>
    obtain⟨k,rfl,hk,hown,hbr,hsr⟩:=hrel;by_cases hlt2:k<yss.length
    ·have hlt3:(k:Int)<(yss.length:Int):=by omega
     obtain⟨ys,hys⟩:∃ys,yss[k]?=some ys:=⟨_,List.getElem?_eq_getElem hlt2⟩
     have hft:=zfb yss hys;have hfl2:=zfZ yss (k+1);rw[HSS.out,hft,List.length_append] at hfl2;rcases HP.out with⟨_,h0⟩|⟨p,cap',vs,hv,h2,h3,h4,h5,h6,h7⟩
     ·rw[h0] at hlt2;simp at hlt2
     cases hv
     obtain⟨x,hx⟩:∃x,vs[k]?=some x:=⟨_,List.getElem?_eq_getElem (by omega)⟩
     have z:=(hbr.cell (p:=⟨p,k,none⟩) h4).trans (h6 k _ hx);have hcx:=h7 k x ys hx hys;have HFT:Hid ((yss.take (k+1)).flatten=(yss.take k).flatten++ys):=hft;clear hft h6 h7 hx hys hown0;generalize hTK:(yss.take k).flatten=TK at *;rcases hcx with⟨rfl,rfl⟩|⟨b,xc,rfl,q2,q3,q4,q5,_⟩
     ·go_wp2_with (at_builtin;refine wpList_append_own_none rfl _ _ 75 rfl W1.heap.size 136 i0 4 Tryz.underlying75 hi _ _ _ rfl hown rfl ?_)
      go_wp2_with fail
      go_roundw
      case rel=>exact⟨k+1,by go_num,by omega,by rw[HFT.out,List.append_nil];exact hown,hbr,hsr⟩
      case measure=>simp[intOf];omega
     ·have hnews:∀j u,(cells4 ys)[j]?=some u→wr.cell? ((⟨b,0,none⟩:Addr).add j)=some u:=fun j u hu=>by
       rw[Addr.add_mid];exact(hbr.cell (p:=⟨b,0+j,none⟩) q4).trans (q5 j u hu)
      go_wp2_with (at_builtin;refine wpList_append_own _ rfl _ _ 75 rfl W1.heap.size 136 i0 (.agg zZb) 4 32 Tryz.underlying75 hi hz0 hz1 hz2 rfl (by decide) _ _ _ rfl hown ⟨b,0,none⟩ ys.length xc (cells4 ys) rfl (zcw ys) hnews (zht ys) (by unfold maxLen;omega) (by omega) hsr ?_)
      intro v' w3 hown3 hgrow _;have hb3:=hbr.grown hgrow hbr.size (fun j hj=>by have:=zaf hown j hj;omega);have hs3:=hgrow.size;clear hown hgrow hnews;go_wp2_with fail
      go_roundw
      case rel=>exact⟨k+1,by go_num,by omega,by rw[HFT.out,zd3,List.length_append];exact hown3,hb3,by omega⟩
      case measure=>simp[intOf];omega
    ·have hke:k=yss.length:=by omega
     subst hke;have hlt3:¬(yss.length:Int)<(yss.length:Int):=by omega
     rw[HFL.out] at hown;go_wp2_with fail;go_ret;exact⟨_,rfl,zgP hown,hbr⟩
end Go.Proofs.YtkinoehmcfhgbaaGreatDoor.Vl
