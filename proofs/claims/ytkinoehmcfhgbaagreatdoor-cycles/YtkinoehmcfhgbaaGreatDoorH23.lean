/- A part of the proof. -/
import Derived.Test.YtkinoehmcfhgbaaGreatDoorH21
set_option linter.unusedVariables false
set_option linter.unusedSimpArgs false
set_option maxRecDepth 100000
set_option maxHeartbeats 4000000
namespace Go.Proofs.YtkinoehmcfhgbaaGreatDoor.Vl
open Go.RowKit
def cpA (p:Option (List Sym)) (bu:Int):(Int×(Int×Int×Int×Int)×List (List UInt8))×Int :=
 match p with
 | none=>((0,(0,0,0,0),[]),7)
 | some ys=>if 0≤bu∧bu≤20000 then (prA ys bu.toNat,0) else ((0,(0,0,0,0),[]),8)
theorem zmn {X:World} {base b n sz:Nat} {e:TypeId} {v:Value} {xs:List Value} (h:X.ownsRow base e sz v n xs) (hb:b<base) (o:Nat) (vs:List Value):(X.setCells b o vs).ownsRow base e sz v n xs:=by
 refine⟨h.1,?_⟩;rcases h.2 with h|⟨g,cap,cur,hv,hg,hh,r⟩
 ·exact Or.inl h
 ·have hB:Blk X g e cur.toList:=by unfold Blk;rw[hh]
  have:=Blk.otherAll (b:=b) (by omega) vs o X hB;unfold Blk at this;exact Or.inr ⟨g,cap,cur,hv,hg,by rw[this],r⟩
theorem zdy {X:World} {b:Nat} {ce:List Value} (h:X.rangeAt b 0 ce) (hl:ce.length=7):(loadVar 51 ⟨b,0,none⟩).run Tryz.prog X=.ok (.agg ce.toArray) X:=run_loadVar_mid _ _ 0 51 ce _ h Tryz.underlying51 rfl (by rw[hl];exact Tryz.infoAns)
theorem zdz (bu:Int) (w:World):Calls Tryz.prog 54 #[.int .i64 bu] w fun e w'=>e=.returned (.bool (decide (0≤bu∧bu≤20000)))∧w=w':=by
 by_cases h0:0≤bu
 ·by_cases h1:bu≤20000
  ·rw[show decide (0≤bu∧bu≤20000)=true from decide_eq_true ⟨h0,h1⟩];go_enter Tryz.func54,Tryz.ntmps54;go_wp2;go_ret;exact⟨rfl,rfl⟩
  ·rw[show decide (0≤bu∧bu≤20000)=false from decide_eq_false (fun h=>h1 h.2)];go_enter Tryz.func54,Tryz.ntmps54;go_wp2;go_ret;exact⟨rfl,rfl⟩
 ·rw[show decide (0≤bu∧bu≤20000)=false from decide_eq_false (fun h=>h0 h.1)];go_enter Tryz.func54,Tryz.ntmps54;go_wp2;go_ret;exact⟨rfl,rfl⟩
theorem zea (s:ByteArray) (bu:Int) (w:World) (hgl:Gl w) (hgt:Gt w) (hmax:s.size≤maxLen) :
 Calls Tryz.prog 27 #[.string s,.int .i64 bu] w fun e w'=>∃pv,e=.returned (.tuple #[ansV (cpA (pars s) bu).1.1 (cpA (pars s) bu).1.2.1 pv,.int .i64 (cpA (pars s) bu).2])∧w'.ownsRow w.heap.size 9 1 pv (cpA (pars s) bu).1.2.2.length ((cpA (pars s) bu).1.2.2.map strV)∧Below w.heap.size w w':=by
 have hb1:=zaa w (.cells zZe 51);have hrs1:Blk (w.alloc (.cells zZe 51)) w.heap.size 51 [.int .i64 0,.int .i64 0,.int .i64 0,.int .i64 0,.int .i64 0,.int .i64 0,.slice none 0 0]:=heap_alloc_new w _;have CP:Hid (Calls Tryz.prog 46 #[.string s] (w.alloc (.cells zZe 51)) fun e w'=>ParseEnd (w.alloc (.cells zZe 51)) (pars s) e w'):=zdF s _ (hgl.on hb1) hmax;have CB:Hid (∀X,Calls Tryz.prog 54 #[.int .i64 bu] X fun e w'=>e=.returned (.bool (decide (0≤bu∧bu≤20000)))∧X=w'):=fun X=>zdz bu X
 have HONE:Hid (∀v∈([.int .i64 0,.int .i64 0,.int .i64 0,.int .i64 0,.int .i64 0,.int .i64 0,.slice none 0 0]:List Value),v.oneCell'=true):=fun v hv=>by simp at hv;rcases hv with rfl|rfl<;>rfl
 cases hp:pars s with
 | none =>
  rw[hp] at CP;have CP':Hid (Calls Tryz.prog 46 #[.string s] (w.alloc (.cells zZe 51)) fun e w'=>∃v,e=.returned (.tuple #[v,.bool false])∧Below (w.alloc (.cells zZe 51)).heap.size (w.alloc (.cells zZe 51)) w'):=CP.out.mono fun e w' h=>by obtain⟨v,h1,_,h2⟩:=h;exact⟨v,h1,h2⟩
  clear CP;go_enter Tryz.func27,Tryz.ntmps27;go_wp2_with fail;refine Calls.mono CP'.out ?_;rintro e w1 ⟨v,rfl,hb2⟩;have hbb:Below w.heap.size w w1:=hb1.trans (hb2.mono hb1.size);have hrsX:=hrs1.below hb2;have hR7:Av.Row w1 w.heap.size 7:=Blk.row hrsX HONE.out;have HRR:Hid (Av.Row w1 w.heap.size 7):=hR7;obtain⟨ce,HCE⟩:∃ce:List Value,Hid (ce=[.int .i64 0,.int .i64 0,.int .i64 0,.int .i64 0,.int .i64 0,.int .i64 0,.slice none 0 0]):=⟨_,rfl⟩
  have honA:(zZe:Array Value).all (·.oneCell')=true:=by simp[Value.oneCell']
  have HLD:Hid ((loadVar 51 ⟨w.heap.size,0,none⟩).run Tryz.prog (w1.setCells w.heap.size 0 ce)=.ok (.agg ce.toArray) (w1.setCells w.heap.size 0 ce)):=zdy (World.rangeAt_setCells_same w1 w.heap.size 0 ce (by rw[HCE.out];exact hR7.there 0 7 (by omega))) (by rw[HCE.out];rfl);have HF:Hid (Below w.heap.size w (w1.setCells w.heap.size 0 ce)):=zae (Nat.le_refl _) _ 0 w w1 hbb;clear hrsX hR7 hrs1 hb1 hb2 hbb;go_wp2_with (refine wpList_store_mid rfl 51 (.tmp 4) (.tmp 15) rfl w.heap.size 0 zZe rfl rfl ?_ Tryz.infoAns honA ?_;(exact HRR.out.there 0 7 (by omega));(rw[show(zZe:Array Value).toList=ce from HCE.out.symm]));exact bodyPost_ret (zam rfl rfl rfl HLD.out) rfl ⟨.slice none 0 0,by rw[HCE.out];rfl,World.ownsRow_nil _ _ _ _,HF.out⟩
 | some ys =>
  rw[hp] at CP;have hpos:=zfq (zgj hp) (by decide);have CP':Hid (Calls Tryz.prog 46 #[.string s] (w.alloc (.cells zZe 51)) fun e w'=>∃v,e=.returned (.tuple #[v,.bool true])∧w'.ownsRow (w.alloc (.cells zZe 51)).heap.size 136 4 v ys.length (vcells4 ys)∧Below (w.alloc (.cells zZe 51)).heap.size (w.alloc (.cells zZe 51)) w'):=CP.out.mono fun e w' h=>by obtain⟨v,h1,h3,h2⟩:=h;exact⟨v,h1,h3 ys rfl,h2⟩
  clear CP;by_cases hbu:0≤bu∧bu≤20000
  ·have hd:decide (0≤bu∧bu≤20000)=true:=decide_eq_true hbu;rw[hd] at CB;have HR:Hid (cpA (some ys) bu=(prA ys bu.toNat,0)):=by show _=_;unfold cpA;exact if_pos hbu
   obtain⟨bn,rfl⟩:∃bn:Nat,bu=(bn:Int):=⟨bu.toNat,by omega⟩
   rw[Int.toNat_natCast] at HR;have hbn:bn≤20000:=by omega
   have CNW:Hid (∀X,Calls Tryz.prog 55 #[] X fun e w'=>∃kb km mb pb,e=.returned (.pointer (some ⟨pb,0,none⟩))∧PNew X w' kb km mb pb):=fun X=>zku X
   obtain⟨⟨a0,⟨a1,a2,a3,a4⟩,al⟩,hPA⟩:∃x,prA ys bn=x:=⟨_,rfl⟩
   have HPA:Hid (prA ys bn=(a0,(a1,a2,a3,a4),al)):=hPA;rw[HR.out,hPA];dsimp only[ansV];clear hbu hd hPA;go_enter Tryz.func27,Tryz.ntmps27;go_wp2_with fail;refine Calls.mono CP'.out ?_;rintro e w1 ⟨v,rfl,hown,hb2⟩;have hbb:Below w.heap.size w w1:=hb1.trans (hb2.mono hb1.size);have hrs2:=hrs1.below hb2;have hsy:=zeK hown hpos;have hcap:∀b cap,v=.slice (some ⟨b,0,none⟩) ys.length cap→ys.length≤cap:=fun b cap e=>by
    rcases hown.2 with⟨h1,h2⟩|⟨g,cap',cur,hv,_,_,h3,_⟩
    ·omega
    ·rw[hv] at e;cases e
     exact h3
   have hgl1:=hgl.on hbb;have hgt1:=hgt.on hbb;have hws:=hrs2.lt;obtain⟨lb,lc,rfl⟩:∃lb lc,v=.slice (some ⟨lb,0,none⟩) ys.length lc:=by obtain⟨b,cap,e,_⟩:=hsy;exact⟨b,cap,e⟩
   have HSY:Hid _:=hsy;have HCAP:Hid _:=hcap;clear hown hb2 hrs1 hsy hcap;go_wp2_with (first
    | (go_at_call 54;refine Calls.mono (CB.out _) ?_;rintro e w9 ⟨rfl,rfl⟩)
    | (go_at_call 55;refine Calls.mono (CNW.out _) ?_;rintro e w2 ⟨kb,km,mb,pb,rfl,hN⟩))
   have hNs:=hN.bel.size;have hx1:=hN.o1;have hx2:=hN.o2;have hx3:=hN.o3;have hx4:=hN.o4;have CPV:=ziF hp w1 w2 pb kb mb km _ _ _ _ _ _ bn ⟨hN.bel,by omega,by omega,by omega,by omega,by omega,by omega,hN.kn.lt,⟨_,_,_,_,_,hN.box⟩,⟨_,_,hN.nm⟩⟩ hN.kn hN.am (by omega) (by omega) (by omega) (by omega) HSY.out HCAP.out hbn hgl1 hgt1;rw[HPA.out] at CPV;dsimp only[ansV] at CPV;refine Calls.mono CPV ?_;clear CPV;rintro e w3 ⟨pv,rfl,hown3,hb3⟩;have hrsX:=hrs2.below hb3;have hbw3:Below w.heap.size w w3:=hbb.trans (hb3.mono hbb.size);have hown4:=zbk hown3 (show w.heap.size+1≤w1.heap.size by omega);have hpv1:pv.oneCell'=true:=by
    rcases hown3.2 with⟨h1,_⟩|⟨g,cap',cur,hv,_⟩
    ·rw[h1];rfl
    ·rw[hv];rfl
   have hR7:Av.Row w3 w.heap.size 7:=Blk.row hrsX HONE.out;have HRR:Hid (Av.Row w3 w.heap.size 7):=hR7;obtain⟨ce,HCE⟩:∃ce:List Value,Hid (ce=[.int .i64 a0,.int .i64 0,.int .i64 a1,.int .i64 a2,.int .i64 a3,.int .i64 a4,pv]):=⟨_,rfl⟩
   have honA:(#[.int .i64 a0,.int .i64 0,.int .i64 a1,.int .i64 a2,.int .i64 a3,.int .i64 a4,pv]:Array Value).all (·.oneCell')=true:=by have h:=hpv1;simp[Value.oneCell'] at h ⊢;exact h
   have HLD:Hid ((loadVar 51 ⟨w.heap.size,0,none⟩).run Tryz.prog (w3.setCells w.heap.size 0 ce)=.ok (.agg ce.toArray) (w3.setCells w.heap.size 0 ce)):=zdy (World.rangeAt_setCells_same w3 w.heap.size 0 ce (by rw[HCE.out];exact hR7.there 0 7 (by omega))) (by rw[HCE.out];rfl);have HOW:Hid ((w3.setCells w.heap.size 0 ce).ownsRow w.heap.size 9 1 pv al.length (al.map strV)):=zbk (zmn hown4 (by omega) 0 ce) (by omega);have HF:Hid (Below w.heap.size w (w3.setCells w.heap.size 0 ce)):=zae (Nat.le_refl _) _ 0 w w3 hbw3;clear hrsX hR7 hrs2 hown3 hown4 hbw3 hb3 hN hbb;go_wp2_with (refine wpList_store_mid rfl 51 (.tmp 4) (.tmp 23) rfl w.heap.size 0 #[.int .i64 a0,.int .i64 0,.int .i64 a1,.int .i64 a2,.int .i64 a3,.int .i64 a4,pv] rfl rfl ?_ Tryz.infoAns honA ?_;(exact HRR.out.there 0 7 (by omega));(rw[show(#[.int .i64 a0,.int .i64 0,.int .i64 a1,.int .i64 a2,.int .i64 a3,.int .i64 a4,pv]:Array Value).toList=ce from HCE.out.symm]));exact bodyPost_ret (zam rfl rfl rfl HLD.out) rfl ⟨pv,by rw[HCE.out];rfl,HOW.out,HF.out⟩
  ·have hd:decide (0≤bu∧bu≤20000)=false:=decide_eq_false hbu;rw[hd] at CB;have HR:Hid (cpA (some ys) bu=((0,(0,0,0,0),[]),8)):=by show _=_;unfold cpA;exact if_neg hbu
   rw[HR.out];clear hbu hd;go_enter Tryz.func27,Tryz.ntmps27;go_wp2_with fail;refine Calls.mono CP'.out ?_;rintro e w1 ⟨v,rfl,hown,hb2⟩;have hbb:Below w.heap.size w w1:=hb1.trans (hb2.mono hb1.size);have hrsX:=hrs1.below hb2;have hR7:Av.Row w1 w.heap.size 7:=Blk.row hrsX HONE.out;have HRR:Hid (Av.Row w1 w.heap.size 7):=hR7;obtain⟨ce,HCE⟩:∃ce:List Value,Hid (ce=[.int .i64 0,.int .i64 0,.int .i64 0,.int .i64 0,.int .i64 0,.int .i64 0,.slice none 0 0]):=⟨_,rfl⟩
   have honA:(zZe:Array Value).all (·.oneCell')=true:=by simp[Value.oneCell']
   have HLD:Hid ((loadVar 51 ⟨w.heap.size,0,none⟩).run Tryz.prog (w1.setCells w.heap.size 0 ce)=.ok (.agg ce.toArray) (w1.setCells w.heap.size 0 ce)):=zdy (World.rangeAt_setCells_same w1 w.heap.size 0 ce (by rw[HCE.out];exact hR7.there 0 7 (by omega))) (by rw[HCE.out];rfl);have HF:Hid (Below w.heap.size w (w1.setCells w.heap.size 0 ce)):=zae (Nat.le_refl _) _ 0 w w1 hbb;clear hrsX hR7 hrs1 hb1 hb2 hbb hown;go_wp2_with (first|(go_at_call 54;refine Calls.mono (CB.out _) ?_;rintro e w9 ⟨rfl,rfl⟩)|(refine wpList_store_mid rfl 51 (.tmp 4) (.tmp 19) rfl w.heap.size 0 zZe rfl rfl ?_ Tryz.infoAns honA ?_;(exact HRR.out.there 0 7 (by omega));(rw[show(zZe:Array Value).toList=ce from HCE.out.symm])));exact bodyPost_ret (zam rfl rfl rfl HLD.out) rfl ⟨.slice none 0 0,by rw[HCE.out];rfl,World.ownsRow_nil _ _ _ _,HF.out⟩
open Av (Row Row.new postN)
theorem zbx {a:World} {B:Nat} (hB:a.heap.size≤B):∀(vs:List Value) (o:Nat) (w:World),Below a.heap.size a w→Below a.heap.size a (w.setCells B o vs)
 | [],_,_,h=>h
 | v::r,o,w,h=>by
  rw[World.setCells];exact zbx hB r (o+1) _ (h.setCell (p:=⟨B,o,none⟩) hB v)
theorem zfs {w w':World} {B n:Nat} (h:Row w B n) (k:Below w.heap.size w w') (hB:B<w.heap.size):Row w' B n:=by
 obtain⟨cs,a1,a2,a3,a4⟩:=h;exact⟨cs,fun j v hv=>(k.cell (p:=⟨B,0+j,none⟩) hB).trans (a1 j v hv),a2,a3,fun o=>(k.frozen (p:=⟨B,o,none⟩) hB).trans (a4 o)⟩
theorem zero4:(([.int .i64 0,.int .i64 0,.int .i64 0,.int .i64 0]:List Value).all (·.oneCell'))=true:=rfl
theorem zkS (q U V N x u n:Int) (w:World) (hN:-999999≤N∧N≤999999) (hn:-999≤n∧n≤999) :
 Calls Tryz.prog 246 #[.agg #[.int .i64 q,.int .i64 U,.int .i64 V,.int .i64 N],.int .i64 x,.int .i64 u,.int .i64 n] w fun e w'=>e=.returned (syV (rpl x u n (q,U,V,N)))∧Below w.heap.size w w':=by
 have hsz:(w.alloc (.cells #[.int .i64 q,.int .i64 U,.int .i64 V,.int .i64 N] 136)).heap.size=w.heap.size+1:=by simp
 have hbb:Below w.heap.size w ((w.alloc (.cells #[.int .i64 q,.int .i64 U,.int .i64 V,.int .i64 N] 136)).alloc (.cells #[.int .i64 q,.int .i64 U,.int .i64 V,.int .i64 N] 136)):=(zaa w _).alloc (by simp) _;by_cases h6:q=6
 ·subst h6;by_cases hU:U=x
  ·have HR:Hid (rpl x u n (6,U,V,N)=aty u V (N-n)):=by show _=_;unfold rpl;rw[if_pos rfl,if_pos hU]
   have hU':(x==U)=true:=by simp[hU]
   have CA:Hid (∀X,Calls Tryz.prog 247 #[.int .i64 u,.int .i64 V,.int .i64 (N-n)] X fun e w'=>e=.returned (syV (aty u V (N-n)))∧Below X.heap.size X w'):=fun X=>zbV _ _ _ X
   have hwr:IntKind.i64.wrap (N-n)=N-n:=by rw[IntKind.wrap_i64];omega
   obtain⟨n1,n2⟩:=hN;obtain⟨n3,n4⟩:=hn;clear hU;generalize aty u V (N-n)=Y at *;obtain⟨y1,y2,y3,y4⟩:=Y;unfold syV at CA;dsimp only at CA;have HR0:Hid (Row ((w.alloc (.cells #[.int .i64 6,.int .i64 U,.int .i64 V,.int .i64 N] 136)).alloc (.cells zZb 136)) (w.heap.size+1) 4):=by
    have:=Row.new (w.alloc (.cells #[.int .i64 6,.int .i64 U,.int .i64 V,.int .i64 N] 136)) zZb 136 (List.all_eq_true.1 zero4);rw[hsz] at this;exact this
   go_enter Tryz.func246,Tryz.ntmps246;go_wp2_with fail;refine(CA.out _).mono ?_;rintro e w1 ⟨rfl,hb1⟩;have HR1:Hid (Row w1 (w.heap.size+1) 4):=zfs HR0.out hb1 (by simp);have HB1:Hid (Below w.heap.size w w1):=((zaa w _).alloc (by simp) _).trans (hb1.mono (by simp;omega));have hs1:w.heap.size+1<w1.heap.size:=by have:=hb1.size;simp at this;omega
   clear hb1 HR0 hbb hsz;obtain⟨⟨o0,z0⟩,f0⟩:=HR1.out.cell 0 (by omega);obtain⟨⟨o1,z1⟩,f1⟩:=HR1.out.cell 1 (by omega);obtain⟨⟨o2,z2⟩,f2⟩:=HR1.out.cell 2 (by omega);obtain⟨⟨o3,z3⟩,f3⟩:=HR1.out.cell 3 (by omega);go_wp2_with fail;exact postN (X:=w1) (B:=w.heap.size+1) [.int .i64 y1,.int .i64 y2,.int .i64 y3,.int .i64 y4] Tryz.results246 rfl Tryz.underlying136 rfl Tryz.sizeSym HR1.out rfl ⟨by rw[HR.out];rfl,zbx (by omega) _ _ _ HB1.out⟩
  ·have hU':(x==U)=false:=by simp;exact fun e=>hU e.symm
   by_cases hV:V=x
   ·have HR:Hid (rpl x u n (6,U,V,N)=aty U u (N+n)):=by show _=_;unfold rpl;rw[if_pos rfl,if_neg hU,if_pos hV]
    have hV':(x==V)=true:=by simp[hV]
    have CA:Hid (∀X,Calls Tryz.prog 247 #[.int .i64 U,.int .i64 u,.int .i64 (N+n)] X fun e w'=>e=.returned (syV (aty U u (N+n)))∧Below X.heap.size X w'):=fun X=>zbV _ _ _ X
    have hwr:IntKind.i64.wrap (N+n)=N+n:=by rw[IntKind.wrap_i64];omega
    obtain⟨n1,n2⟩:=hN;obtain⟨n3,n4⟩:=hn;clear hU hV;generalize aty U u (N+n)=Y at *;obtain⟨y1,y2,y3,y4⟩:=Y;unfold syV at CA;dsimp only at CA;have HR0:Hid (Row ((w.alloc (.cells #[.int .i64 6,.int .i64 U,.int .i64 V,.int .i64 N] 136)).alloc (.cells zZb 136)) (w.heap.size+1) 4):=by
     have:=Row.new (w.alloc (.cells #[.int .i64 6,.int .i64 U,.int .i64 V,.int .i64 N] 136)) zZb 136 (List.all_eq_true.1 zero4);rw[hsz] at this;exact this
    go_enter Tryz.func246,Tryz.ntmps246;go_wp2_with fail;refine(CA.out _).mono ?_;rintro e w1 ⟨rfl,hb1⟩;have HR1:Hid (Row w1 (w.heap.size+1) 4):=zfs HR0.out hb1 (by simp);have HB1:Hid (Below w.heap.size w w1):=((zaa w _).alloc (by simp) _).trans (hb1.mono (by simp;omega));have hs1:w.heap.size+1<w1.heap.size:=by have:=hb1.size;simp at this;omega
    clear hb1 HR0 hbb hsz;obtain⟨⟨o0,z0⟩,f0⟩:=HR1.out.cell 0 (by omega);obtain⟨⟨o1,z1⟩,f1⟩:=HR1.out.cell 1 (by omega);obtain⟨⟨o2,z2⟩,f2⟩:=HR1.out.cell 2 (by omega);obtain⟨⟨o3,z3⟩,f3⟩:=HR1.out.cell 3 (by omega);go_wp2_with fail;exact postN (X:=w1) (B:=w.heap.size+1) [.int .i64 y1,.int .i64 y2,.int .i64 y3,.int .i64 y4] Tryz.results246 rfl Tryz.underlying136 rfl Tryz.sizeSym HR1.out rfl ⟨by rw[HR.out];rfl,zbx (by omega) _ _ _ HB1.out⟩
   ·have hV':(x==V)=false:=by simp;exact fun e=>hV e.symm
    have HR:Hid (rpl x u n (6,U,V,N)=(6,U,V,N)):=by show _=_;unfold rpl;rw[if_pos rfl,if_neg hU,if_neg hV]
    clear hU hV;go_enter Tryz.func246,Tryz.ntmps246;go_wp2;exact zdv 6 U V N Tryz.results246 (by rw[hsz];rfl) ⟨by rw[HR.out];rfl,hbb⟩
 ·have h6':(q != 6)=true:=by simp[h6]
  have HR:Hid (rpl x u n (q,U,V,N)=(q,U,V,N)):=by show _=_;unfold rpl;rw[if_neg h6]
  clear h6;go_enter Tryz.func246,Tryz.ntmps246;go_wp2;exact zdv q U V N Tryz.results246 (by rw[hsz];rfl) ⟨by rw[HR.out];rfl,hbb⟩
theorem zcX {w:World} {base n g cap sz:Nat} {e:TypeId} {xs:List Value} (h:w.ownsRow base e sz (.slice (some ⟨g,0,none⟩) n cap) n xs) (j:Nat) (u:Value):(w.setCell ⟨g,j,none⟩ u).ownsRow base e sz (.slice (some ⟨g,0,none⟩) n cap) n (xs.set j u):=by
 refine⟨by rw[List.length_set,h.1],?_⟩;rcases h.2 with⟨h1,h2⟩|⟨g',cap',cur,hv,hg,hh,h3,h4,h5,h6⟩
 ·cases h1
 ·cases hv
  refine Or.inr ⟨g,cap,cur.setIfInBounds j u,rfl,hg,heap_setCell_same w g j cur e u hh,h3,h4,by simpa using h5,?_⟩;rw[←h6];simp[List.take_set]
theorem zcl {w:World} {base n g cap:Nat} {e:TypeId} {xs:List Value} (h:w.ownsRow base e 4 (.slice (some ⟨g,0,none⟩) n cap) n xs) (j:Nat) (hj:j<xs.length):(∃u,w.cell? ⟨g,j,none⟩=some u)∧w.frozen? ⟨g,j,none⟩=false∧g<w.heap.size∧n≤cap∧cap≤maxLen∧base≤g:=by
 rcases h.2 with⟨h1,h2⟩|⟨g',cap',cur,hv,hg,hh,h3,h4,h5,h6⟩
 ·cases h1
 ·cases hv
  have hlt:g<w.heap.size:=by
   rcases Nat.lt_or_ge g w.heap.size with h|h
   ·exact h
   ·rw[Array.getElem?_eq_none h] at hh;cases hh
  have hc:j<cur.size:=by
   have:=congrArg List.length h6;rw[List.length_take] at this;simp at this;omega
  exact⟨⟨cur[j],by simp[World.cell?,hh,hc]⟩,by simp[World.frozen?,hh],hlt,h3,h4,hg⟩
theorem set4 (a:List Value) (y:Sym) (b:List Value) (hb:4≤b.length):((((a++b).set a.length (.int .i64 y.1)).set (a.length+1) (.int .i64 y.2.1)).set (a.length+2) (.int .i64 y.2.2.1)).set (a.length+3) (.int .i64 y.2.2.2)=a++cell4 y++b.drop 4:=by
 match b,hb with
 | b0::b1::b2::b3::r,_ =>
  have e:a++b0::b1::b2::b3::r=a++([b0,b1,b2,b3]++r):=rfl;rw[e];simp[List.set_append,cell4]
theorem zgk (l:List Sym) (y:Sym):cells4 (l++[y])=cells4 l++cell4 y:=by rw[zd3];simp[cells4]
theorem zgl (v:Value) (ys:List Sym) (x u n:Int) (w:World) (h:CondR w v ys) (hy:∀y∈ys,-999999≤y.2.2.2∧y.2.2.2≤999999) (hn:-999≤n∧n≤999) (hl:ys.length≤100000) :
 Calls Tryz.prog 210 #[v,.int .i64 x,.int .i64 u,.int .i64 n] w fun e w'=>∃v',e=.returned v'∧CondR w' v' (ys.map (rpl x u n))∧Below w.heap.size w w':=by
 obtain⟨i0,hi,hz0,hz1,hz2⟩:=info_parts Tryz.infoSym;obtain⟨pa,cap,rfl⟩:=h.shape;have HC:Hid (CondR w (.slice pa ys.length cap) ys):=h;have HY:Hid (∀y∈ys,-999999≤y.2.2.2∧y.2.2.2≤999999):=hy;have HN:Hid (-999≤n∧n≤999):=hn;have HFL:Hid (ys.take ys.length=ys):=List.take_length;clear h hy;go_enter Tryz.func210,Tryz.ntmps210;go_wp2_with (at_make;refine wpList_make_full _ rfl _ _ 75 rfl w.heap.size 136 i0 (.agg zZb) 4 Tryz.underlying75 hi hz0 hz1 .i64 .i64 _ _ ys.length rfl rfl rfl rfl (by rw[hz2];omega) (by unfold maxLen;omega) (Nat.le_refl _) ?_);intro w1 hown0 hgrow;have hb1:Below w.heap.size w w1:=(Below.refl _ _).grown hgrow (Nat.le_refl _) (by intro k h;cases h);have hlen0:=hown0.1;generalize (madeCells _ (ys.length*4)).toList=X0 at *;clear hgrow;go_wp2_with fail
 go_loopw [17] (fun iv wr=>∃(k:Nat) (r:List Value),iv=.int .i64 (k:Int)∧k≤ys.length∧r.length=(ys.length-k)*4∧Hid (wr.ownsRow w.heap.size 136 4 (.slice (some ⟨w.heap.size,0,none⟩) ys.length ys.length) ys.length (cells4 ((ys.take k).map (rpl x u n))++r))∧Below w.heap.size w wr) (fun iv _=>ys.length-(intOf iv).toNat)
 case atStart=>exact⟨0,X0,rfl,Nat.zero_le _,by omega,hown0,hb1⟩
 case round =>
  obtain⟨k,r,rfl,hk,hr,HO,hbr⟩:=hrel;have hwr:=hbr.size;by_cases hlt:k<ys.length
  ·have hlt':(k:Int)<(ys.length:Int):=by omega
   obtain⟨y,hys⟩:∃y,ys[k]?=some y:=⟨_,List.getElem?_eq_getElem hlt⟩
   have hny:=HY.out y (List.mem_of_getElem? hys);rcases HC.out with⟨_,h0⟩|⟨p,cap',hv,h2,h3,h4,h5,_⟩
   ·rw[h0] at hlt;simp at hlt
   cases hv
   obtain⟨q0,q1,q2,q3⟩:=zdm ys k y hys;have z0:=(hbr.cell (p:=⟨p,0+k*4,none⟩) h4).trans (h5 (k*4) _ q0);have z1:=(hbr.cell (p:=⟨p,0+(k*4+1),none⟩) h4).trans (h5 (k*4+1) _ q1);have z2:=(hbr.cell (p:=⟨p,0+(k*4+2),none⟩) h4).trans (h5 (k*4+2) _ q2);have z3:=(hbr.cell (p:=⟨p,0+(k*4+3),none⟩) h4).trans (h5 (k*4+3) _ q3);simp only[Nat.zero_add] at z0 z1 z2 z3;have hcl:(cells4 ((ys.take k).map (rpl x u n))).length=k*4:=by rw[zcw,List.length_map,List.length_take];omega
   have htk:(ys.take (k+1)).map (rpl x u n)=(ys.take k).map (rpl x u n)++[rpl x u n y]:=by rw[List.take_add_one,List.map_append,hys];simp
   have CR:Hid (∀X,Calls Tryz.prog 246 #[.agg #[.int .i64 y.1,.int .i64 y.2.1,.int .i64 y.2.2.1,.int .i64 y.2.2.2],.int .i64 x,.int .i64 u,.int .i64 n] X fun e w'=>e=.returned (syV (rpl x u n y))∧Below X.heap.size X w'):=fun X=>zkS y.1 y.2.1 y.2.2.1 y.2.2.2 x u n X hny HN.out
   have HTK:Hid (cells4 ((ys.take (k+1)).map (rpl x u n))=cells4 ((ys.take k).map (rpl x u n))++cell4 (rpl x u n y)):=by show _=_;rw[htk,zgk]
   clear hys hny h5 q0 q1 q2 q3 htk;generalize cells4 ((ys.take k).map (rpl x u n))=P at *;generalize rpl x u n y=Y at *;obtain⟨y1,y2,y3,y4⟩:=y;obtain⟨t1,t2,t3,t4⟩:=Y;unfold syV at CR;dsimp only at z0 z1 z2 z3 CR;go_wp2_with fail;refine(CR.out _).mono ?_;rintro e w3 ⟨rfl,hb3⟩;have hB3:Below w.heap.size w w3:=(hbr.alloc hwr _).trans (hb3.mono (by simp;omega));have hO3:=zad (zad HO.out (zaa wr _)) hb3;have hlP:(P++r).length=ys.length*4:=hO3.1;obtain⟨⟨o0,d0⟩,f0,hgs,hc1,hc2,hc3⟩:=zcl hO3 (k*4) (by omega);obtain⟨⟨o1,d1⟩,f1,_⟩:=zcl hO3 (k*4+1) (by omega);obtain⟨⟨o2,d2⟩,f2,_⟩:=zcl hO3 (k*4+2) (by omega);obtain⟨⟨o3,d3⟩,f3,_⟩:=zcl hO3 (k*4+3) (by omega);have HO4:Hid ((((((w3.setCell ⟨w.heap.size,k*4,none⟩ (.int .i64 t1)).setCell ⟨w.heap.size,k*4+1,none⟩ (.int .i64 t2)).setCell ⟨w.heap.size,k*4+2,none⟩ (.int .i64 t3)).setCell ⟨w.heap.size,k*4+3,none⟩ (.int .i64 t4)).ownsRow w.heap.size 136 4 (.slice (some ⟨w.heap.size,0,none⟩) ys.length ys.length) ys.length (P++cell4 (t1,t2,t3,t4)++r.drop 4))):=by
    have:=zcX (zcX (zcX (zcX hO3 (k*4) (.int .i64 t1)) (k*4+1) (.int .i64 t2)) (k*4+2) (.int .i64 t3)) (k*4+3) (.int .i64 t4);have e:=set4 P (t1,t2,t3,t4) r (by omega);rw[hcl] at e;rw[e] at this;exact this
   have HB4:Hid (Below w.heap.size w ((((w3.setCell ⟨w.heap.size,k*4,none⟩ (.int .i64 t1)).setCell ⟨w.heap.size,k*4+1,none⟩ (.int .i64 t2)).setCell ⟨w.heap.size,k*4+2,none⟩ (.int .i64 t3)).setCell ⟨w.heap.size,k*4+3,none⟩ (.int .i64 t4))):=(((hB3.setCell (p:=⟨w.heap.size,k*4,none⟩) (Nat.le_refl _) _).setCell (p:=⟨w.heap.size,k*4+1,none⟩) (Nat.le_refl _) _).setCell (p:=⟨w.heap.size,k*4+2,none⟩) (Nat.le_refl _) _).setCell (p:=⟨w.heap.size,k*4+3,none⟩) (Nat.le_refl _) _;clear hO3 hb3 hB3;go_wp2_with fail
   go_roundw
   case rel=>exact⟨k+1,r.drop 4,by go_num,by omega,by rw[List.length_drop];omega,by rw[HTK.out];exact HO4.out,HB4.out⟩
   case measure=>simp[intOf];omega
  ·have hke:k=ys.length:=by omega
   subst hke;have hlt':¬(ys.length:Int)<(ys.length:Int):=by omega
   have hO:=HO.out;have hr0:r=[]:=List.length_eq_zero_iff.1 (by rw[hr];omega);rw[HFL.out,hr0,List.append_nil] at hO;have hO2:wr.ownsRow w.heap.size 136 4 (.slice (some ⟨w.heap.size,0,none⟩) ys.length ys.length) (ys.map (rpl x u n)).length (cells4 (ys.map (rpl x u n))):=by rw[List.length_map];exact hO
   go_wp2_with fail;go_ret;exact⟨_,rfl,zgP hO2,hbr⟩
def LB (w:World) (wb k:Nat):Prop:=∃o n c,w.cell? ⟨wb,0,none⟩=some (.slice (some ⟨k,o,none⟩) n c)
structure FrS (wb:Nat) (w w':World):Prop where
 size:w.heap.size≤w'.heap.size
 block:wb<w.heap.size→∀k,k<w.heap.size→k≠wb→¬LB w wb k→w'.heap[k]?=w.heap[k]?
 fresh:wb<w.heap.size→∀k,LB w' wb k→LB w wb k∨w.heap.size≤k
theorem FrS.refl (wb:Nat) (w:World):FrS wb w w:=⟨Nat.le_refl _,fun _ _ _ _ _=>rfl,fun _ _ h=>Or.inl h⟩
theorem FrS.trans {wb:Nat} {a b c:World} (h:FrS wb a b) (k:FrS wb b c):FrS wb a c :=
 ⟨Nat.le_trans h.size k.size,fun hw i hi hn hl=>(k.block (Nat.lt_of_lt_of_le hw h.size) i (Nat.lt_of_lt_of_le hi h.size) hn (fun e=>(h.fresh hw i e).elim hl (fun e=>by omega))).trans (h.block hw i hi hn hl),
  fun hw i e=>(k.fresh (Nat.lt_of_lt_of_le hw h.size) i e).elim (h.fresh hw i) (fun e=>Or.inr (Nat.le_trans h.size e))⟩
theorem FrS.of_below {wb:Nat} {w w':World} (h:Below w.heap.size w w'):FrS wb w w':=⟨h.size,fun _ k hk _ _=>h.block k hk,fun hw k ⟨o,n,c,e⟩=>Or.inl ⟨o,n,c,(h.cell (p:=⟨wb,0,none⟩) hw).symm.trans e⟩⟩
theorem FrS.set1 (wb:Nat) (w:World) (u:Value):FrS wb w (w.setCell ⟨wb,1,none⟩ u):=⟨by simp[World.setCell],fun _ k _ hn _=>Below.heap_setCell w ⟨wb,1,none⟩ u k hn,fun _ k ⟨o,n,c,e⟩=>Or.inl ⟨o,n,c,(zcZ _ _ _ _ _ (by decide)).symm.trans e⟩⟩
theorem CondR.fr {w w':World} {wb:Nat} {v:Value} {ys:List Sym} {cs:Array Value} {f:Nat×Nat} (h:CondR w v ys) (hf:FrS wb w w') (hw:w.heap[wb]?=some (.cells cs 197 f)) (hl:∀k,LB w wb k→∃cur fr,w.heap[k]?=some (.cells cur 75 fr)):CondR w' v ys:=by
 rcases h with h|⟨b,cap,h1,h2,h3,h4,h5,cur,fr,h6⟩
 ·exact Or.inl h
 ·have e:w'.heap[b]?=w.heap[b]?:=hf.block (Array.getElem?_eq_some_iff.1 hw).1 b h4 (fun e=>by
   subst e;have hh:=Option.some.inj (hw.symm.trans h6);injection hh with a1 a2 a3
   exact absurd a2 (by decide)) (fun e=>by
    obtain⟨cur',fr',e⟩:=hl b e;have hh:=Option.some.inj (h6.symm.trans e);injection hh with a1 a2 a3
    exact absurd a2 (by decide))
  exact Or.inr ⟨b,cap,h1,h2,h3,Nat.lt_of_lt_of_le h4 hf.size,fun j u hu=>(World.cell?_of_block (a:=⟨b,0+j,none⟩) e).trans (h5 j u hu),cur,fr,e.trans h6⟩
def Cds (w:World) (vs:List Value) (L:List (List Sym)):Prop:=vs.length=L.length∧∀(j:Nat) (v:Value) (ys:List Sym),vs[j]?=some v→L[j]?=some ys→CondR w v ys
theorem Cds.below {w w':World} {vs:List Value} {L:List (List Sym)} (h:Cds w vs L) (hb:Below w.heap.size w w'):Cds w' vs L:=⟨h.1,fun j v ys h1 h2=>(h.2 j v ys h1 h2).below hb⟩
theorem Cds.fr {w w':World} {wb:Nat} {vs:List Value} {L:List (List Sym)} {cs:Array Value} {f:Nat×Nat} (h:Cds w vs L) (hf:FrS wb w w') (hw:w.heap[wb]?=some (.cells cs 197 f)) (hl:∀k,LB w wb k→∃cur fr,w.heap[k]?=some (.cells cur 75 fr)):Cds w' vs L:=⟨h.1,fun j v ys h1 h2=>(h.2 j v ys h1 h2).fr hf hw hl⟩
theorem Cds.snoc {w:World} {vs:List Value} {L:List (List Sym)} {v:Value} {ys:List Sym} (h:Cds w vs L) (hc:CondR w v ys):Cds w (vs++[v]) (L++[ys]):=by
 refine⟨by simp[h.1],fun j u zs h1 h2=>?_⟩;by_cases hj:j<vs.length
 ·rw[List.getElem?_append_left hj] at h1;rw[List.getElem?_append_left (by have:=h.1;omega)] at h2;exact h.2 j u zs h1 h2
 ·rw[List.getElem?_append_right (by omega)] at h1;rw[List.getElem?_append_right (by have:=h.1;omega),←h.1] at h2;by_cases e:j-vs.length=0
  ·rw[e] at h1 h2;simp at h1 h2;subst h1 h2;exact hc
  ·rw[List.getElem?_eq_none (by simp;omega)] at h1;cases h1
structure WkAt (w0 w:World) (wb:Nat) (tl:Bool) (L:List (List Sym)):Prop where
 b0:Below w0.heap.size w0 w
 hb:w0.heap.size≤wb
 hv:∃v vs,w.heap[wb]?=some (.cells #[v,.bool tl] 197 (0,0))∧w.ownsRow (wb+1) 75 1 v L.length vs∧Cds w vs L
variable {w0 w w':World} {wb:Nat} {tl:Bool} {L:List (List Sym)}
theorem zmo {w:World} {wb:Nat} {tl:Bool} {v:Value} {n:Nat} {xs:List Value} (hv:w.heap[wb]?=some (.cells #[v,.bool tl] 197 (0,0))) (ho:w.ownsRow (wb+1) 75 1 v n xs) (k:Nat) (h:LB w wb k):v.ownBlock=some k∧wb+1≤k∧k<w.heap.size∧∃cur fr,w.heap[k]?=some (.cells cur 75 fr):=by
 obtain⟨o,m,c,e⟩:=h;have:=Lib.cell_of_heap hv 0;rw[e] at this;simp at this;subst this;rcases ho.2 with⟨e2,_⟩|⟨g,cap,cur,e2,hg,hh,_⟩
 ·cases e2
 ·cases e2
  exact⟨rfl,hg,(Array.getElem?_eq_some_iff.1 hh).1,cur,_,hh⟩
theorem zmp {w:World} {wb:Nat} {tl:Bool} {v:Value} {n:Nat} {xs:List Value} {base:Nat} (hv:w.heap[wb]?=some (.cells #[v,.bool tl] 197 (0,0))) (ho:w.ownsRow base 75 1 v n xs) (k:Nat) (h:v.ownBlock=some k):LB w wb k:=by
 have:=Lib.cell_of_heap hv 0;rcases ho.2 with⟨e2,_⟩|⟨g,cap,cur,e2,_⟩
 ·subst e2;cases h
 ·subst e2;have:g=k:=by simpa [Value.ownBlock] using h
  subst this;exact⟨0,n,cap,by have:=Lib.cell_of_heap hv 0;simpa using this⟩
theorem WkAt.lb (h:WkAt w0 w wb tl L) (k:Nat) (hk:LB w wb k):wb+1≤k∧k<w.heap.size∧∃cur fr,w.heap[k]?=some (.cells cur 75 fr):=by
 obtain⟨v,vs,hv,ho,_⟩:=h.hv;exact(zmo hv ho k hk).2
theorem WkAt.lt (h:WkAt w0 w wb tl L):wb<w.heap.size:=by
 obtain⟨v,vs,hv,_⟩:=h.hv;exact(Array.getElem?_eq_some_iff.1 hv).1
theorem WkAt.below (h:WkAt w0 w wb tl L) (hb:Below w.heap.size w w'):WkAt w0 w' wb tl L:=by
 have hlt:=h.lt;obtain⟨v,vs,hv,ho,hd⟩:=h.hv;exact⟨h.b0.trans (hb.mono h.b0.size),h.hb,v,vs,(hb.block wb hlt).trans hv,zad ho hb,hd.below hb⟩
theorem WkAt.long (h:WkAt w0 w wb tl L) (b:Bool):WkAt w0 (w.setCell ⟨wb,1,none⟩ (.bool b)) wb b L:=by
 obtain⟨v,vs,hv,ho,hd⟩:=h.hv;refine⟨h.b0.setCell (p:=⟨wb,1,none⟩) h.hb _,h.hb,v,vs,?_,ownsRow_setCell_below ho (by show wb<wb+1;omega) _,hd.fr (FrS.set1 _ _ _) hv (fun k hk=>(zmo hv ho k hk).2.2.2)⟩;simp[World.setCell,Array.getElem?_modify,hv]
theorem zdA (v:Value) (ys:List Sym) (h:WkAt w0 w wb tl L) (hc:CondR w v ys) (hy:∀y∈ys,Good y) (hl:bl ys≤1000000) (hn:ys.length≤1000000) (hg:Gt w0) :
 Calls Tryz.prog 139 #[.pointer (some ⟨wb,0,none⟩),v] w fun e w'=>∃v',e=.returned v'∧WkAt w0 w' wb (tl||tol (sbs ys)) L∧FrS wb w w'∧CondR w' v' (if tol (sbs ys) then [] else ys)∧w'.cell? ⟨wb,0,none⟩=w.cell? ⟨wb,0,none⟩:=by
 have CT:Hid (Calls Tryz.prog 36 #[v] w fun e w'=>e=.returned (.string ⟨(sbs ys).toArray⟩)∧Below w.heap.size w w'):=zgR v ys w hc hy hl hn (hg.on h.b0);have HW:Hid (WkAt w0 w wb tl L):=h;have HC:Hid (CondR w v ys):=hc;obtain⟨pa,cap,rfl⟩:=hc.shape;clear h hc hy;by_cases ht:4000<(sbs ys).length
 ·have ht':(4000:Int)<((sbs ys).length:Int):=by omega
  have et:tol (sbs ys)=true:=decide_eq_true ht;rw[et,if_pos rfl,Bool.or_true];generalize hS:sbs ys=S at *;go_enter Tryz.func139,Tryz.ntmps139;go_wp2_with fail;refine Calls.mono CT.out ?_;rintro e w1 ⟨rfl,hb1⟩;have A1:=HW.out.below hb1;obtain⟨tv,tvs,htv,hto,htd⟩:=A1.hv;have c1:=Lib.cell_of_heap htv 1;simp at c1;have f1:=Lib.frozen_of_heap htv 1;have hlt:=A1.lt;have HA1:Hid _:=A1;have HF1:Hid (FrS wb w w1):=FrS.of_below hb1;have HC0:Hid (w1.cell? ⟨wb,0,none⟩=w.cell? ⟨wb,0,none⟩):=hb1.cell (p:=⟨wb,0,none⟩) (WkAt.lt HW.out);clear A1 htv hto htd hb1;go_wp2_with fail;go_ret;exact⟨_,rfl,WkAt.long HA1.out true,HF1.out.trans (FrS.set1 _ _ _),Or.inl ⟨rfl,rfl⟩,(zcZ _ _ _ _ _ (by decide)).trans HC0.out⟩
 ·have ht':¬(4000:Int)<((sbs ys).length:Int):=by omega
  have et:tol (sbs ys)=false:=decide_eq_false ht;rw[et,if_neg (by decide),Bool.or_false];generalize hS:sbs ys=S at *;go_enter Tryz.func139,Tryz.ntmps139;go_wp2_with fail;refine Calls.mono CT.out ?_;rintro e w1 ⟨rfl,hb1⟩;go_wp2_with fail;go_ret;exact⟨_,rfl,WkAt.below HW.out hb1,FrS.of_below hb1,CondR.below HC.out hb1,hb1.cell (p:=⟨wb,0,none⟩) (WkAt.lt HW.out)⟩
theorem WkAt.own {tv:Value} (h:WkAt w0 w wb tl L) (hc:w.cell? ⟨wb,0,none⟩=some tv):w.heap[wb]?=some (.cells #[tv,.bool tl] 197 (0,0))∧∃vs,w.ownsRow (wb+1) 75 1 tv L.length vs∧Cds w vs L:=by
 obtain⟨v,vs,hv,ho,hd⟩:=h.hv;have:=Lib.cell_of_heap hv 0;rw[hc] at this;simp at this;subst this;exact⟨hv,vs,ho,hd⟩
theorem FrS.append {wb:Nat} {w w3:World} {tl:Bool} {v v':Value} {n m c g:Nat} {xs:List Value} {base:Nat} (hh:w.heap[wb]?=some (.cells #[v,.bool tl] 197 (0,0))) (ho:w.ownsRow base 75 1 v n xs) (hb:wb+1≤base) (hg:w.grownBy w3 v.ownBlock) (hv':v'=.slice (some ⟨g,0,none⟩) m c) (hf:v.ownBlock=some g∨g=w.heap.size):FrS wb w (w3.setCell ⟨wb,0,none⟩ v'):=by
 refine⟨by simpa [World.setCell] using hg.size,fun _ k hk hn hl=>(Below.heap_setCell w3 ⟨wb,0,none⟩ v' k hn).trans (hg.block k hk (fun e=>hl (zmp hh ho k e.symm))),fun hw k ⟨o,n2,c2,e⟩=>?_⟩;have hk:w3.heap[wb]?=some (.cells #[v,.bool tl] 197 (0,0)):=(hg.block wb hw (fun e=>by have:=zaf ho wb e.symm;omega)).trans hh;have hs:(w3.setCell ⟨wb,0,none⟩ v').heap[wb]?=some (.cells #[v',.bool tl] 197 (0,0)):=by simp[World.setCell,Array.getElem?_modify,hk]
 have:=Lib.cell_of_heap hs 0;rw[e] at this;simp at this;rw[hv'] at this;have eg:k=g:=by injection this with a;injection a with a;injection a
 subst eg;rcases hf with hf|hf
 ·exact Or.inl (zmp hh ho k hf)
 ·exact Or.inr (by omega)
theorem zjr {w0 w2 w3:World} {wb:Nat} {tl:Bool} {L:List (List Sym)} {tv tv' cv:Value} {vs:List Value} {Z:List Sym} (h:WkAt w0 w2 wb tl L) (hh:w2.heap[wb]?=some (.cells #[tv,.bool tl] 197 (0,0))) (ho:w2.ownsRow (wb+1) 75 1 tv L.length vs) (hd:Cds w2 vs L) (hcv:CondR w2 cv Z) (hg:w2.grownBy w3 tv.ownBlock) {g cp:Nat} (hv':tv'=.slice (some ⟨g,0,none⟩) (L.length+1) cp) (hat:tv.ownBlock=some g∨g=w2.heap.size) (hn:w3.ownsRow (wb+1) 75 1 tv' (L.length+1) (vs++[cv])) :
 FrS wb w2 (w3.setCell ⟨wb,0,none⟩ tv')∧WkAt w0 (w3.setCell ⟨wb,0,none⟩ tv') wb tl (L++[Z]):=by
 have hob:∀k,tv.ownBlock=some k→wb+1≤k:=zaf ho
 have hk:w3.heap[wb]?=some (.cells #[tv,.bool tl] 197 (0,0)):=(hg.block wb h.lt (fun e=>by have:=hob wb e.symm;omega)).trans hh;have hF:FrS wb w2 (w3.setCell ⟨wb,0,none⟩ tv'):=FrS.append hh ho (Nat.le_refl _) hg hv' hat;refine⟨hF,(h.b0.grown hg h.b0.size (fun k e=>by have:=hob k e;have:=h.hb;omega)).setCell (p:=⟨wb,0,none⟩) h.hb _,h.hb,tv',vs++[cv],?_,ownsRow_setCell_below ?_ (by show wb<wb+1;omega) _,(hd.snoc hcv).fr hF hh (fun k hk=>(zmo hh ho k hk).2.2.2)⟩
 ·simp[World.setCell,Array.getElem?_modify,hk]
 ·rw[List.length_append];exact hn
theorem Tryz.infoCnd:(Tryz.prog.info? 75).map (fun i=>(i.zero,i.size,i.bytes))=some (some (.slice none 0 0),1,24):=by kernel_rfl
theorem znl (p:Option Addr) (n c:Nat):∀u∈[Value.slice p n c],u.oneCell'=true:=by
 intro u hu;simp at hu;subst hu;simp[Value.oneCell']
theorem zdB (v:Value) (ys:List Sym) (h:WkAt w0 w wb tl L) (hc:CondR w v ys) (hy:∀y∈ys,Good y) (hl:bl ys≤1000000) (hn:ys.length≤1000000) (hg:Gt w0) (hL:L.length≤1000) :
 Calls Tryz.prog 93 #[.pointer (some ⟨wb,0,none⟩),v] w fun e w'=>e=.returned (.tuple #[])∧WkAt w0 w' wb (tl||tol (sbs ys)) (L++[if tol (sbs ys) then [] else ys])∧FrS wb w w':=by
 obtain⟨i0,hi,hz0,hz1,hz2⟩:=info_parts Tryz.infoCnd;have CB:Hid (Calls Tryz.prog 139 #[.pointer (some ⟨wb,0,none⟩),v] w.drew fun e w'=>∃v',e=.returned v'∧WkAt w0 w' wb (tl||tol (sbs ys)) L∧FrS wb w.drew w'∧CondR w' v' (if tol (sbs ys) then [] else ys)∧w'.cell? ⟨wb,0,none⟩=w.drew.cell? ⟨wb,0,none⟩):=zdA v ys (h.below (Below.refl _ _).drew) (hc.below (Below.refl _ _).drew) hy hl hn hg;have hlt:=h.lt;obtain⟨tv,vs,hh,ho,hd⟩:=h.hv;obtain⟨ta,tn,tc,rfl⟩:∃a n c,tv=.slice a n c:=by
  rcases ho.2 with⟨rfl,_⟩|⟨g,cap,cur,rfl,_⟩
  ·exact⟨_,_,_,rfl⟩
  ·exact⟨_,_,_,rfl⟩
 have s0:w.cell? ⟨wb,0,none⟩=some (.slice ta tn tc):=by have:=Lib.cell_of_heap hh 0;simpa using this
 have s00:w.drew.cell? ⟨wb,0,none⟩=some (.slice ta tn tc):=s0;obtain⟨pa,cap,rfl⟩:=hc.shape;clear h hc hy hh ho hd;generalize (if tol (sbs ys) then [] else ys)=Z at *;generalize (tl||tol (sbs ys))=tl' at *;have h63:L.length+1≤maxLen:=by unfold maxLen;omega
 have hby:(L.length+1)*24≤140737488355328:=by omega
 go_enter Tryz.func93,Tryz.ntmps93;go_wp2_with fail
 go_region_law (first
  | (refine step_append_lies _ (by rfl) _ _ 71 (by rfl) (wb+1) 75 i0 (.slice none 0 0) 1 24 Tryz.underlying71 hi hz0 hz1 hz2 (by rfl) (by decide) (.slice ta tn tc) L.length vs1 (by rfl) (ho1.alloc _) ⟨w1.heap.size,0,none⟩ 1 1 [.slice pa1 Z.length pc1] (by rfl) (by rfl) (zbl _ _ rfl _ _) (znl _ _ _) (by decide) h63 hby hbs2 (w1.heap.size+1) hsz2 ?_;intro g cp w3 hown3 hgrow3 hat3 hlt3;have hk3:=hgrow3.block wb hA3.lt hne2;have s4:w3.cell? ⟨wb,0,none⟩=some (.slice ta tn tc):=(World.cell?_of_block (a:=⟨wb,0,none⟩) hk3).trans s3;have fz3:w3.frozen? ⟨wb,0,none⟩=false:=(World.frozen?_of_block (a:=⟨wb,0,none⟩) hk3).trans ((World.frozen?_of_block (a:=⟨wb,0,none⟩) (Below.heap_alloc w1 _ wb hA1.lt)).trans (Lib.frozen_of_heap hh1 0)))
  | (go_simp;go_at_call 139;refine Calls.mono CB.out ?_;rintro e w1 ⟨v1,rfl,hA1,hF1,hC1,hc0⟩;obtain⟨pa1,pc1,rfl⟩:=hC1.shape;have s1:w1.cell? ⟨wb,0,none⟩=some (.slice ta tn tc):=hc0.trans s0;obtain⟨hh1,vs1,ho1,hd1⟩:=hA1.own s1;have s3:(w1.alloc (.cells #[.slice pa1 Z.length pc1] 75)).cell? ⟨wb,0,none⟩=some (.slice ta tn tc):=((zaa w1 _).cell (p:=⟨wb,0,none⟩) hA1.lt).trans s1;have hA3:=hA1.below (zaa w1 (.cells #[.slice pa1 Z.length pc1] 75));have hbs2:wb+1≤(w1.alloc (.cells #[.slice pa1 Z.length pc1] 75)).heap.size:=hA3.lt;have hsz2:(w1.alloc (.cells #[.slice pa1 Z.length pc1] 75)).heap.size=w1.heap.size+1:=World.size_alloc _ _;have hne2:some wb≠(Value.slice ta tn tc).ownBlock:=fun e=>Nat.lt_irrefl wb (zaf ho1 wb e.symm);go_wp2_with fail))
 all_goals go_end0
 all_goals
  have hh3:(w1.alloc (.cells #[.slice pa1 Z.length pc1] 75)).heap[wb]?=some (.cells #[.slice ta tn tc,.bool tl'] 197 (0,0)):=(Below.heap_alloc w1 _ wb hA1.lt).trans hh1;obtain⟨hF,hP⟩:=zjr hA3 hh3 (ho1.alloc _) (hd1.below (zaa w1 _)) (hC1.below (zaa w1 _)) hgrow3 rfl (by rw[hsz2];exact hat3) hown3;exact⟨rfl,hP,((FrS.of_below (Below.refl _ _).drew).trans hF1).trans ((FrS.of_below (zaa w1 _)).trans hF)⟩
end Go.Proofs.YtkinoehmcfhgbaaGreatDoor.Vl
