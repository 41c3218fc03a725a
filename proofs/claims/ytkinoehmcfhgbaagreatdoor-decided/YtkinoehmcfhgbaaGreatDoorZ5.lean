/- A part of the proof. -/
import Derived.Test.YtkinoehmcfhgbaaGreatDoorH15
set_option linter.unusedVariables false
set_option linter.unusedSimpArgs false
set_option maxRecDepth 100000
set_option maxHeartbeats 40000000
namespace Go.Proofs.YtkinoehmcfhgbaaGreatDoor.Vl
open Go.RowKit
theorem zjh (w:World) (B:Bd) (l r n:Nat) (c:Int) (cs0:List Value) (hC:BdC w cs0 B) :
 WiS w B l r c n 0 ((((w.alloc (.cells #[.int .i64 (l:Int),.int .i64 (r:Int),.int .i64 c] 134)).alloc (.cells Tryz.zeroCells192 192)).alloc (.cells Tryz.zeroCells192 192)).setCells (w.heap.size+2) 0 cs0):=by
 have s1:(w.alloc (.cells #[.int .i64 (l:Int),.int .i64 (r:Int),.int .i64 c] 134)).heap.size=w.heap.size+1:=by simp
 have b1:=zaa w (.cells #[.int .i64 (l:Int),.int .i64 (r:Int),.int .i64 c] 134);have c0:(w.alloc (.cells #[.int .i64 (l:Int),.int .i64 (r:Int),.int .i64 c] 134)).cell? ⟨w.heap.size,0,none⟩=some (.int .i64 l):=by simp
 have c1:(w.alloc (.cells #[.int .i64 (l:Int),.int .i64 (r:Int),.int .i64 c] 134)).cell? ⟨w.heap.size,1,none⟩=some (.int .i64 r):=by simp
 have c2:(w.alloc (.cells #[.int .i64 (l:Int),.int .i64 (r:Int),.int .i64 c] 134)).cell? ⟨w.heap.size,2,none⟩=some (.int .i64 c):=by simp
 generalize w.alloc (.cells #[.int .i64 (l:Int),.int .i64 (r:Int),.int .i64 c] 134)=W1 at *;have b2:=zaa W1 (.cells Tryz.zeroCells192 192);have r1:=zrow W1;rw[s1] at r1;have s2:(W1.alloc (.cells Tryz.zeroCells192 192)).heap.size=w.heap.size+2:=by rw[World.size_alloc,s1]
 generalize W1.alloc (.cells Tryz.zeroCells192 192)=W2 at *;have b3:=zaa W2 (.cells Tryz.zeroCells192 192);have r2:=zrow W2;rw[s2] at r2;have r1':=zfb r1 b3 (by omega);have s3:(W2.alloc (.cells Tryz.zeroCells192 192)).heap.size=w.heap.size+3:=by rw[World.size_alloc,s2]
 generalize W2.alloc (.cells Tryz.zeroCells192 192)=W3 at *;have b12:=b1.trans (b2.mono b1.size);have b13:=b12.trans (b3.mono b12.size);have b23:=b2.trans (b3.mono b2.size);have co:∀k,(W3.setCells (w.heap.size+2) 0 cs0).cell? ⟨w.heap.size,k,none⟩=W1.cell? ⟨w.heap.size,k,none⟩:=fun k=>by
  rw[World.cell?_setCells_out _ _ _ _ _ (fun e=>by dsimp only at e;omega)];exact b23.cell (p:=⟨w.heap.size,k,none⟩) (by dsimp only;omega)
 have bF:=Av.zai (a:=w) (B:=w.heap.size+2) (by omega) cs0 0 W3 b13;refine⟨bF,by rw[Av.za8];omega,by rw[co];exact c0,by rw[co];exact c1,by rw[co];exact c2,Av.Row.far (by omega) _ _ _ r1',Av.Row.cells _ _ _ r2 (by rw[hC.len];omega) hC.one,cs0,?_,World.rangeAt_setCells_same W3 _ 0 cs0 (by rw[hC.len];exact r2.there 0 75 (by omega))⟩;have hN:=(hC.nb (w.heap.size+2) (by omega));refine⟨hN.len,fun i j hi hj=>?_⟩;have e:bmix B l r c n 0 i j=B i j:=by unfold bmix;rw[if_neg (by omega)]
 rw[e];obtain⟨e1,e2,v,e3,e4,e5⟩:=hN.at_ i j hi hj;exact⟨e1,e2,v,e3,e4.below bF,e5⟩
def Nb' (m:Nat) (v:Value):Prop:=∀g o n c,v=.slice (some ⟨g,o,none⟩) n c→m≤g
theorem concat3 (X:World) (v1 v2:Value) (l1 l2:List Int) (n:Nat) (t1 t2:TypeId) (h1:IntsR X v1 l1) (h2:IntsR X v2 l2) (b1:l1.length≤4000) (b2:l2.length≤4000) :
 Calls Tryz.prog 267 #[.slice (some ⟨X.heap.size+1,0,none⟩) 3 3] ((X.alloc (.cells #[.int .i64 (n:Int)] t1)).alloc (.cells #[v1,.slice (some ⟨X.heap.size,0,none⟩) 1 1,v2] t2)) fun e w'=>∃v',e=.returned v'∧(IntsR w' v' (l1++(n:Int)::l2)∧Nb' X.heap.size v')∧Below X.heap.size X w':=by
 have ba:=zaa X (.cells #[.int .i64 (n:Int)] t1);have bb:=ba.alloc ba.size (.cells #[v1,.slice (some ⟨X.heap.size,0,none⟩) 1 1,v2] t2);have hsz:((X.alloc (.cells #[.int .i64 (n:Int)] t1)).alloc (.cells #[v1,.slice (some ⟨X.heap.size,0,none⟩) 1 1,v2] t2)).heap.size=X.heap.size+2:=by simp
 have c0:((X.alloc (.cells #[.int .i64 (n:Int)] t1)).alloc (.cells #[v1,.slice (some ⟨X.heap.size,0,none⟩) 1 1,v2] t2)).cell? ⟨X.heap.size,0,none⟩=some (iv n):=by simp[iv]
 have hP:IPartsR ((X.alloc (.cells #[.int .i64 (n:Int)] t1)).alloc (.cells #[v1,.slice (some ⟨X.heap.size,0,none⟩) 1 1,v2] t2)) (.slice (some ⟨X.heap.size+1,0,none⟩) 3 3) [l1,[(n:Int)],l2]:=by
  refine Or.inr ⟨X.heap.size+1,3,[v1,.slice (some ⟨X.heap.size,0,none⟩) 1 1,v2],rfl,Nat.le_refl _,by decide,by rw[hsz];omega,rfl,fun j x hx=>?_,fun j x ys hx hy=>?_⟩
  ·match j,hx with
   | 0,hx=>cases hx;simp
   | 1,hx=>cases hx;simp
   | 2,hx=>cases hx;simp
  ·match j,hx,hy with
   | 0,hx,hy=>cases hx;cases hy;exact h1.below bb
   | 1,hx,hy =>
    cases hx;cases hy
    refine Or.inr ⟨X.heap.size,1,rfl,Nat.le_refl _,by decide,by rw[hsz];omega,fun k x hk=>?_⟩
    match k,hk with
    | 0,hk=>cases hk;exact c0
   | 2,hx,hy=>cases hx;cases hy;exact h2.below bb
 refine(zfV _ [l1,[(n:Int)],l2] _ hP (by simp;omega) (by simp)).mono fun e w' ⟨v',he,hc,hb⟩=>⟨v',he,?_,bb.trans (hb.mono (by rw[hsz];omega))⟩
 have ef:[l1,[(n:Int)],l2].flatten=l1++(n:Int)::l2:=by simp
 rw[ef] at hc;unfold CatR at hc;refine⟨zko hc,fun g o m k e=>?_⟩;rcases hc.2 with⟨h3,_⟩|⟨g',cap,cur,hv,hg,_⟩
 ·rw[h3] at e;cases e
 ·rw[hv] at e;cases e;rw[hsz] at hg;omega
theorem drews (X:World) (a c:Obj):((X.alloc a).alloc c).drew.drew.drew=(X.drew.drew.drew.alloc a).alloc c:=rfl
theorem concat3d (X:World) (v1 v2:Value) (l1 l2:List Int) (n:Nat) (t1 t2:TypeId) (h1:IntsR X v1 l1) (h2:IntsR X v2 l2) (b1:l1.length≤4000) (b2:l2.length≤4000) :
 Calls Tryz.prog 267 #[.slice (some ⟨X.heap.size+1,0,none⟩) 3 3] ((X.alloc (.cells #[.int .i64 (n:Int)] t1)).alloc (.cells #[v1,.slice (some ⟨X.heap.size,0,none⟩) 1 1,v2] t2)).drew.drew.drew fun e w'=>∃v',e=.returned v'∧(IntsR w' v' (l1++(n:Int)::l2)∧Nb' X.heap.size v')∧Below X.heap.size X w':=by
 rw[drews];have hd:Below X.heap.size X X.drew.drew.drew:=(Below.refl _ _).drew.drew.drew;exact(concat3 X.drew.drew.drew v1 v2 l1 l2 n t1 t2 (h1.below hd) (h2.below hd) b1 b2).mono fun e w' ⟨v',he,hv,hb⟩=>⟨v',he,hv,hd.trans hb⟩
def bpl (x:Option (Int×List Nat)):List Nat:=(x.map (·.2)).getD []
theorem zji (B:Bd) (l r n i j:Nat) (c:Int):bwith B l r c n i j=if bkn (B i l)=true∧bkn (B r j)=true∧¬(bkn (B i j)=true∧bmo (B i j)≤bmo (B i l)+c+bmo (B r j)) then some (bmo (B i l)+c+bmo (B r j),bpl (B i l)++n::bpl (B r j)) else B i j:=by
 unfold bwith;cases h1:B i l with
 | none=>rw[if_neg (fun h=>by cases h.1)]
 | some x =>
  obtain⟨m1,p1⟩:=x;cases h2:B r j with
  | none=>rw[if_neg (fun h=>by cases h.2.1)]
  | some y =>
   obtain⟨m2,p2⟩:=y;cases h3:B i j with
   | none=>rw[if_pos ⟨rfl,rfl,fun h=>by cases h.1⟩];rfl
   | some z =>
    obtain⟨m3,p3⟩:=z;dsimp only;by_cases hle:m3≤m1+c+m2
    ·rw[if_pos hle,if_neg (fun h=>h.2.2 ⟨rfl,hle⟩)]
    ·rw[if_neg hle,if_pos ⟨rfl,rfl,fun h=>hle h.2⟩];rfl
theorem zjj (w:World) (b:Nat) (B:Bd) (l r n:Nat) (c:Int) (h:BdAt w b 0 B) (hl:l<5) (hr:r<5) (hc:-1000000≤c∧c≤1000000) (hn:n≤4000)
 (hbig:∀i j,i<5→j<5→-1000000000≤bmo (B i j)∧bmo (B i j)≤1000000000) (hby:∀i j,i<5→j<5→(bby (B i j)).length≤4000) :
 Calls Tryz.prog 240 #[.pointer (some ⟨b,0,none⟩),.agg #[.int .i64 l,.int .i64 r,.int .i64 c],.int .i64 n] w fun e w'=>∃cs,e=.returned (.agg cs.toArray)∧BdC w' cs (bwith B l r c n)∧Below w.heap.size w w':=by
 obtain⟨cs0,hC0,hr0⟩:=h.cells;have hi:(Tryz.prog.info? 192).map (·.size)=some cs0.length:=by rw[hC0.len];exact Tryz.infoBds
 have hbw:=h.1;have hone:=all_oneCell_toArray hC0.one;have hB2:Below w.heap.size w ((w.alloc (.cells #[.int .i64 (l:Int),.int .i64 (r:Int),.int .i64 c] 134)).alloc (.cells Tryz.zeroCells192 192)):=(zaa w _).alloc (by simp) _;have hB3:=hB2.alloc (by simp;omega) (.cells Tryz.zeroCells192 192);have hrL:((w.alloc (.cells #[.int .i64 (l:Int),.int .i64 (r:Int),.int .i64 c] 134)).alloc (.cells Tryz.zeroCells192 192)).rangeAt b 0 cs0:=fun j v hv=>(hB2.cell (p:=⟨b,0+j,none⟩) hbw).trans (hr0 j v hv)
 have hRow:=zrow ((w.alloc (.cells #[.int .i64 (l:Int),.int .i64 (r:Int),.int .i64 c] 134)).alloc (.cells Tryz.zeroCells192 192));have hsz:((w.alloc (.cells #[.int .i64 (l:Int),.int .i64 (r:Int),.int .i64 c] 134)).alloc (.cells Tryz.zeroCells192 192)).heap.size=w.heap.size+1+1:=by simp
 have hcz:cs0.toArray.size=75:=by simp[hC0.len]
 have hth:=hRow.there 0 75 (by omega);rw[hsz] at hth;have hth':((((w.alloc (.cells #[.int .i64 (l:Int),.int .i64 (r:Int),.int .i64 c] 134)).alloc (.cells Tryz.zeroCells192 192))).alloc (.cells Tryz.zeroCells192 192)).there (w.heap.size+1+1) 0 cs0.toArray.size:=by rw[hcz];exact hth
 have hi2:(Tryz.prog.info? 192).map (·.size)=some cs0.toArray.size:=by rw[hcz];exact Tryz.infoBds
 go_enter Tryz.func240,Tryz.ntmps240;go_wp2_with (first|(refine wpList_load_mid rfl 192 (.tmp 15) rfl b 0 rfl cs0 _ ?_ Tryz.underlying192 rfl hi ?_;(exact hrL))|(refine wpList_store_mid rfl 192 (.tmp 7) (.tmp 16) rfl (w.heap.size+1+1) 0 cs0.toArray rfl rfl ?_ hi2 hone ?_;(exact hth')));have HW:=zjh w B l r n c cs0 hC0;generalize ((((w.alloc (.cells #[.int .i64 (l:Int),.int .i64 (r:Int),.int .i64 c] 134)).alloc (.cells Tryz.zeroCells192 192)).alloc (.cells Tryz.zeroCells192 192)).setCells (w.heap.size+1+1) 0 cs0)=W0 at *;clear hB2 hB3 hrL hRow hsz hcz hth hth' hi2 hone hi hr0;have HWi:Hid (WiS w B l r c n 0 W0):=HW;clear HW
 go_loopw [17] (fun s17 wr=>∃i:Nat,s17=.int .i64 (i:Int)∧i≤5∧WiS w B l r c n (i*5) wr) (fun s17 _=>5-(intOf s17).toNat)
 case atStart=>exact⟨0,rfl,by omega,HWi.out⟩
 case round =>
  clear HWi;obtain⟨i,rfl,hi,hS⟩:=hrel;by_cases hlt:i<5
  ·have hlt':(i:Int)<5:=by omega
   have HS:Hid (WiS w B l r c n (i*5) wr):=hS;clear hS;go_wp2_with fail;obtain⟨W1,hW1⟩:∃W1,W1=wr:=⟨_,rfl⟩
   subst hW1
   go_loopw [20] (fun s20 wr=>∃j:Nat,s20=.int .i64 (j:Int)∧j≤5∧WiS w B l r c n (i*5+j) wr) (fun s20 _=>5-(intOf s20).toNat)
   case atStart=>exact⟨0,rfl,by omega,HS.out⟩
   case round =>
    clear HS;obtain⟨j,rfl,hj,hS⟩:=hrel;have HS:Hid (WiS w B l r c n (i*5+j) wr):=hS;clear hS;by_cases hlj:j<5
    ·have hlj':(j:Int)<5:=by omega
     have E:=zji B l r n i j c;have hA:=(h.below HS.out.below).2 i l hlt hl;have hD:=(h.below HS.out.below).2 r j hr hlj;obtain⟨k1,m1,v1,z1,i1⟩:=hA;obtain⟨k2,m2,v2,z2,i2⟩:=hD;have hM:∃v3,wr.cell? ⟨w.heap.size+2,i*15+j*3,none⟩=some (.bool (bkn (B i j)))∧wr.cell? ⟨w.heap.size+2,i*15+j*3+1,none⟩=some (.int .i64 (bmo (B i j)))∧wr.cell? ⟨w.heap.size+2,i*15+j*3+2,none⟩=some v3:=by
      obtain⟨cs,q1,q2⟩:=HS.out.more;obtain⟨e1,e2,v3,e3,_⟩:=q1.at_ i j hlt hlj;have eb:bmix B l r c n (i*5+j) i j=B i j:=by unfold bmix;rw[if_neg (by omega)]
      rw[eb] at e1 e2;have f1:=q2 _ _ e1;have f2:=q2 _ _ e2;have f3:=q2 _ _ e3;rw[Nat.zero_add] at f1 f2 f3;exact⟨v3,f1,f2,f3⟩
     obtain⟨v3,k3,m3,z3⟩:=hM;have ha0:=HS.out.a0;have ha1:=HS.out.a1;have ha2:=HS.out.a2;have g1:=hbig i l hlt hl;have g2:=hbig r j hr hlj;rw[Nat.zero_add] at k1 m1 z1 k2 m2 z2;have HI1:Hid (IntsR wr v1 (bby (B i l))):=i1;have HI2:Hid (IntsR wr v2 (bby (B r j))):=i2;have HE:Hid _:=E;have B1:Hid ((bby (B i l)).length≤4000):=hby i l hlt hl;have B2:Hid ((bby (B r j)).length≤4000):=hby r j hr hlj;clear i1 i2 E;have hwsz:=HS.out.size;have l5:(l:Int)<5:=by omega
     have r5:(r:Int)<5:=by omega
     generalize bkn (B i l)=K1 at *;generalize bkn (B r j)=K2 at *;generalize bkn (B i j)=K3 at *;generalize bmo (B i l)=M1 at *;generalize bmo (B r j)=M2 at *;generalize bmo (B i j)=M3 at *;have w1:IntKind.i64.wrap (M1+c)=M1+c:=by rw[IntKind.wrap_i64];omega
     have w2:IntKind.i64.wrap (M1+c+M2)=M1+c+M2:=by rw[IntKind.wrap_i64];omega
     have bd:Below wr.heap.size wr wr.drew.drew:=(Below.refl _ _).drew.drew;have SK:Hid (bwith B l r c n i j=B i j→WiS w B l r c n (i*5+(j+1)) wr.drew.drew):=fun e=>(HS.out.skip hlj e).on bd
     clear bd;cases K1 with
     | false =>
      have e:Hid (bwith B l r c n i j=B i j):=by show _=_;rw[HE.out,if_neg (fun h=>by cases h.1)]
      go_wp2_with fail;go_region;go_wp2_with fail;go_region;go_wp2_with fail;exact⟨⟨j+1,rfl,by omega,SK.out e.out⟩,by simp[intOf];omega⟩
     | true =>
      cases K2 with
      | false =>
       have e:Hid (bwith B l r c n i j=B i j):=by show _=_;rw[HE.out,if_neg (fun h=>by cases h.2.1)]
       go_wp2_with fail;go_region;go_wp2_with fail;go_region;go_wp2_with fail;exact⟨⟨j+1,rfl,by omega,SK.out e.out⟩,by simp[intOf];omega⟩
      | true =>
       obtain⟨xa1,xc1,rfl⟩:=HI1.out.shape;obtain⟨xa2,xc2,rfl⟩:=HI2.out.shape;have hbr:b<wr.heap.size:=Nat.lt_of_lt_of_le hbw HS.out.below.size;have zz1:∀(o1:Obj),(wr.alloc o1).cell? ⟨b,i*15+l*3+2,none⟩=some (.slice xa1 (bby (B i l)).length xc1):=fun o1=>by rw[World.cell?_alloc_past _ _ _ hbr];exact z1
       have zz2:∀(o1:Obj),(wr.alloc o1).cell? ⟨b,r*15+j*3+2,none⟩=some (.slice xa2 (bby (B r j)).length xc2):=fun o1=>by rw[World.cell?_alloc_past _ _ _ hbr];exact z2
       have zz3:∀(o1 o2:Obj),((wr.alloc o1).alloc o2).cell? ⟨b,i*15+l*3+2,none⟩=some (.slice xa1 (bby (B i l)).length xc1):=fun o1 o2=>by rw[World.cell?_alloc_past _ _ _ (by simp;omega)];exact zz1 o1
       have zz4:∀(o1 o2:Obj),((wr.alloc o1).alloc o2).cell? ⟨b,r*15+j*3+2,none⟩=some (.slice xa2 (bby (B r j)).length xc2):=fun o1 o2=>by rw[World.cell?_alloc_past _ _ _ (by simp;omega)];exact zz2 o1
       have hbm:¬b=w.heap.size+1+1:=by omega
       have HL:Hid ((bby (B i l)++(n:Int)::bby (B r j)).length=(bby (B i l)).length+((bby (B r j)).length+1)):=by show _=_;simp
       have HP:Hid (bwith B l r c n i j=some (M1+c+M2,bpl (B i l)++n::bpl (B r j))→∀(w3:World) (v:Value),WiS w B l r c n (i*5+j) w3→IntsR w3 v (bby (B i l)++(n:Int)::bby (B r j))∧Nb' wr.heap.size v→WiS w B l r c n (i*5+(j+1)) (((w3.setCell ⟨w.heap.size+1+1,i*15+j*3,none⟩ (.bool true)).setCell ⟨w.heap.size+1+1,i*15+j*3+1,none⟩ (.int .i64 (M1+c+M2))).setCell ⟨w.heap.size+1+1,i*15+j*3+2,none⟩ v)):=fun e w3 v hw hv=>by
        refine hw.put hlt hlj e ?_ (fun g o m k e2=>by have:=hv.2 g o m k e2;exact⟨by omega,by omega⟩);have ep:(bpl (B i l)++n::bpl (B r j)).map (fun(x:Nat)=>(x:Int))=bby (B i l)++(n:Int)::bby (B r j):=by rw[List.map_append,List.map_cons];rfl
        rw[ep];exact hv.1
       by_cases hle:M3≤M1+c+M2
       ·cases K3 with
        | true =>
         have e:Hid (bwith B l r c n i j=B i j):=by show _=_;rw[HE.out,if_neg (fun h=>h.2.2 ⟨rfl,hle⟩)]
         clear HP zz1 zz2 zz3 zz4;go_wp2_with fail;go_region;go_wp2_with fail;go_region;go_wp2_with fail;exact⟨⟨j+1,rfl,by omega,SK.out e.out⟩,by simp[intOf];omega⟩
        | false =>
         have E2:Hid (bwith B l r c n i j=some (M1+c+M2,bpl (B i l)++n::bpl (B r j))):=by show _=_;rw[HE.out,if_pos ⟨rfl,rfl,fun h=>by cases h.1⟩]
         go_wp2_with fail;go_region;go_wp2_with fail;go_region;go_wp2_with fail;go_region_held3 (fun w'=>w'.cell? ⟨b,i*15+l*3+2,none⟩=some (.slice xa1 (bby (B i l)).length xc1)∧w'.cell? ⟨b,r*15+j*3+2,none⟩=some (.slice xa2 (bby (B r j)).length xc2)) (first|(refine⟨?_,?_⟩<;>assumption)|(refine⟨(so3 hbm).trans ?_,(so3 hbm).trans ?_⟩<;>assumption)|(simp[*])) (first|(go_at_call 267;refine Calls.mono (concat3d wr _ _ _ _ n _ _ HI1.out HI2.out B1.out B2.out) ?_;rintro e w3 ⟨v',rfl,hv',hb3'⟩;obtain⟨xa3,xc3,rfl⟩:=hv'.1.shape;rw[HL.out] at hv';have HV:Hid _:=hv';clear hv';have hS3:Hid (WiS w B l r c n (i*5+j) w3):=HS.out.on hb3';obtain⟨⟨u0,hu0⟩,hf0⟩:=hS3.out.row2.cell (i*15+j*3) (by omega);obtain⟨⟨u1,hu1⟩,hf1⟩:=hS3.out.row2.cell (i*15+j*3+1) (by omega);obtain⟨⟨u2,hu2⟩,hf2⟩:=hS3.out.row2.cell (i*15+j*3+2) (by omega);have t1:=(hb3'.cell (p:=⟨b,i*15+l*3+2,none⟩) hbr).trans z1;have t2:=(hb3'.cell (p:=⟨b,r*15+j*3+2,none⟩) hbr).trans z2));go_wp2_with fail;exact⟨⟨j+1,rfl,by omega,HP.out E2.out _ _ hS3.out HV.out⟩,by simp[intOf];omega⟩
       ·cases K3 with
        | true =>
         have E2:Hid (bwith B l r c n i j=some (M1+c+M2,bpl (B i l)++n::bpl (B r j))):=by show _=_;rw[HE.out,if_pos ⟨rfl,rfl,fun h=>hle h.2⟩]
         go_wp2_with fail;go_region;go_wp2_with fail;go_region;go_wp2_with fail;go_region_held3 (fun w'=>w'.cell? ⟨b,i*15+l*3+2,none⟩=some (.slice xa1 (bby (B i l)).length xc1)∧w'.cell? ⟨b,r*15+j*3+2,none⟩=some (.slice xa2 (bby (B r j)).length xc2)) (first|(refine⟨?_,?_⟩<;>assumption)|(refine⟨(so3 hbm).trans ?_,(so3 hbm).trans ?_⟩<;>assumption)|(simp[*])) (first|(go_at_call 267;refine Calls.mono (concat3d wr _ _ _ _ n _ _ HI1.out HI2.out B1.out B2.out) ?_;rintro e w3 ⟨v',rfl,hv',hb3'⟩;obtain⟨xa3,xc3,rfl⟩:=hv'.1.shape;rw[HL.out] at hv';have HV:Hid _:=hv';clear hv';have hS3:Hid (WiS w B l r c n (i*5+j) w3):=HS.out.on hb3';obtain⟨⟨u0,hu0⟩,hf0⟩:=hS3.out.row2.cell (i*15+j*3) (by omega);obtain⟨⟨u1,hu1⟩,hf1⟩:=hS3.out.row2.cell (i*15+j*3+1) (by omega);obtain⟨⟨u2,hu2⟩,hf2⟩:=hS3.out.row2.cell (i*15+j*3+2) (by omega);have t1:=(hb3'.cell (p:=⟨b,i*15+l*3+2,none⟩) hbr).trans z1;have t2:=(hb3'.cell (p:=⟨b,r*15+j*3+2,none⟩) hbr).trans z2));go_wp2_with fail;exact⟨⟨j+1,rfl,by omega,HP.out E2.out _ _ hS3.out HV.out⟩,by simp[intOf];omega⟩
        | false =>
         have E2:Hid (bwith B l r c n i j=some (M1+c+M2,bpl (B i l)++n::bpl (B r j))):=by show _=_;rw[HE.out,if_pos ⟨rfl,rfl,fun h=>by cases h.1⟩]
         go_wp2_with fail;go_region;go_wp2_with fail;go_region;go_wp2_with fail;go_region_held3 (fun w'=>w'.cell? ⟨b,i*15+l*3+2,none⟩=some (.slice xa1 (bby (B i l)).length xc1)∧w'.cell? ⟨b,r*15+j*3+2,none⟩=some (.slice xa2 (bby (B r j)).length xc2)) (first|(refine⟨?_,?_⟩<;>assumption)|(refine⟨(so3 hbm).trans ?_,(so3 hbm).trans ?_⟩<;>assumption)|(simp[*])) (first|(go_at_call 267;refine Calls.mono (concat3d wr _ _ _ _ n _ _ HI1.out HI2.out B1.out B2.out) ?_;rintro e w3 ⟨v',rfl,hv',hb3'⟩;obtain⟨xa3,xc3,rfl⟩:=hv'.1.shape;rw[HL.out] at hv';have HV:Hid _:=hv';clear hv';have hS3:Hid (WiS w B l r c n (i*5+j) w3):=HS.out.on hb3';obtain⟨⟨u0,hu0⟩,hf0⟩:=hS3.out.row2.cell (i*15+j*3) (by omega);obtain⟨⟨u1,hu1⟩,hf1⟩:=hS3.out.row2.cell (i*15+j*3+1) (by omega);obtain⟨⟨u2,hu2⟩,hf2⟩:=hS3.out.row2.cell (i*15+j*3+2) (by omega);have t1:=(hb3'.cell (p:=⟨b,i*15+l*3+2,none⟩) hbr).trans z1;have t2:=(hb3'.cell (p:=⟨b,r*15+j*3+2,none⟩) hbr).trans z2));go_wp2_with fail;exact⟨⟨j+1,rfl,by omega,HP.out E2.out _ _ hS3.out HV.out⟩,by simp[intOf];omega⟩
    ·have hj5:j=5:=by omega
     subst hj5;have hlj':¬(((5:Nat):Int)<5):=by omega
     go_wp2_with fail;exact⟨⟨i+1,rfl,by omega,by rw[Nat.add_mul];exact HS.out⟩,by simp[intOf];omega⟩
  ·have hi5:i=5:=by omega
   subst hi5;have hlt':¬(((5:Nat):Int)<5):=by omega
   obtain⟨cs,q1,q2⟩:=hS.more;have hcl:=q1.len;have hiA:(Tryz.prog.info? 192).map (·.size)=some cs.length:=by rw[hcl];exact Tryz.infoBds
   have hcz:cs.toArray.size=75:=by simp[hcl]
   have hiB:(Tryz.prog.info? 192).map (·.size)=some cs.toArray.size:=by rw[hcz];exact Tryz.infoBds
   have honeB:=all_oneCell_toArray q1.to.one;have hth:wr.there (w.heap.size+1) 0 cs.toArray.size:=by rw[hcz];exact hS.row1.there 0 75 (by omega)
   have HF:Hid (BdC (wr.setCells (w.heap.size+1) 0 cs) cs (bwith B l r c n)∧Below w.heap.size w (wr.setCells (w.heap.size+1) 0 cs)):=by
    refine⟨⟨hcl,fun i j hi hj=>?_⟩,Av.zai (a:=w) (by omega) cs 0 wr hS.below⟩;have e:bmix B l r c n (5*5) i j=bwith B l r c n i j:=by unfold bmix;rw[if_pos (by omega)]
    obtain⟨e1,e2,v,e3,e4,e5⟩:=q1.at_ i j hi hj;rw[e] at e1 e2 e4;exact⟨e1,e2,v,e3,e4.sets (fun g o n c h=>by have:=(e5 g o n c h).2;omega) _ _⟩
   have HR1:Hid (Av.Row wr (w.heap.size+1) 75):=hS.row1;clear hS q1 hcz;go_wp2_with (first|(refine wpList_load_mid rfl 192 (.tmp 7) rfl (w.heap.size+1+1) 0 rfl cs _ ?_ Tryz.underlying192 rfl hiA ?_;(exact q2))|(refine wpList_store_mid rfl 192 (.tmp 6) (.tmp 97) rfl (w.heap.size+1) 0 cs.toArray rfl rfl ?_ hiB honeB ?_;(exact hth)));exact Av.postN cs rfl rfl Tryz.underlying192 rfl Tryz.infoBds HR1.out hcl ⟨cs,rfl,HF.out.1,HF.out.2⟩
structure SX (us:List Atm) (g:List Pt):Prop where
 ok:∀a∈us,okA a
 us5:us.length≤576
 gl:g.length≤8000
 g0:0<g.length
 gw:GW us.length g
def SrR (w0:World) (D:PD) (us:List Atm) (g:List Pt) (m:Nat) (A:Nat→Int) (E:En) (s':Nat) (w:World) (e:Ending) (w':World):Prop :=
 ∃(ws:List Nat) (n':Nat) (A':Nat→Int) (ats' parts':List Int),e=.returned (.agg (enC E.v E.pf ws E.md).toArray)∧SetR ws E.nd∧E.pf.length≤400010∧PvS w0 w' D us g s' n' A' ats' parts'∧n'+2*s'≤m∧(E.v=0→A'=A)∧FrX D.M w w'
def SrC (w0:World) (D:PD) (us:List Atm) (g:List Pt) (k:Nat):Prop:=∀(w:World) (s n:Nat) (A:Nat→Int) (ats parts:List Int) (B:Bd) (cs:List Value),s≤k→PvS w0 w D us g s n A ats parts→BdC w cs B→SI us A B→n+2*s≤100000 →
 Calls Tryz.prog 88 #[.pointer (some ⟨D.pb,0,none⟩),.agg cs.toArray] w (SrR w0 D us g (n+2*s) A (sch us g k s A B).1 (sch us g k s A B).2 w)
theorem PvS.far {w0 w X Y:World} {D:PD} {us:List Atm} {g:List Pt} {s n s' n':Nat} {A A':Nat→Int} {ats parts ats' parts':List Int} (h:PvS w0 w D us g s n A ats parts) (hX:PvS w0 X D us g s' n' A' ats' parts') (hb:Below w.heap.size X Y):PvS w0 Y D us g s' n' A' ats' parts':=by
 have b1:=h.box.lt;have b2:=h.am.lt;have b3:=h.tr.lt;have b4:=h.pr.lt;have b5:=h.gol.1;have hw:=h.h0.size;have f:∀k,k<w.heap.size→Y.heap[k]?=X.heap[k]?:=fun k hk=>hb.block k hk
 have fc:∀k o,k<w.heap.size→Y.cell? ⟨k,o,none⟩=X.cell? ⟨k,o,none⟩:=fun k o hk=>World.cell?_of_block (a:=⟨k,o,none⟩) (f k hk)
 refine⟨hX.h0.trans (hb.mono hw),hX.hM,hX.hd,(f _ b1).trans hX.box,?_,⟨Nat.lt_of_lt_of_le hX.gol.1 hb.size,fun j x hx=>?_⟩,hX.gne,hX.gcap,?_,(f _ b3).trans hX.tr,hX.tl,(f _ b4).trans hX.pr,hX.pl⟩
 ·rcases h.atm with⟨e1,e2⟩|⟨b,cap,e1,e2,e3,e4,e5⟩
  ·exact Or.inl ⟨e1,e2⟩
  ·rcases hX.atm with⟨q1,q2⟩|⟨b',cap',q1,q2,q3,q4,q5⟩
   ·exact Or.inl ⟨q1,q2⟩
   ·rw[e1] at q1;cases q1
    exact Or.inr ⟨b,cap,e1,e2,e3,Nat.lt_of_lt_of_le q4 hb.size,fun j x hx=>by
     obtain⟨a1,a2,a3⟩:=q5 j x hx;exact⟨(fc _ _ e4).trans a1,(fc _ _ e4).trans a2,(fc _ _ e4).trans a3⟩⟩
 ·obtain⟨h1,h2,h3,h4⟩:=hX.gol.2 j x hx;exact⟨(fc _ _ b5).trans h1,(fc _ _ b5).trans h2,(fc _ _ b5).trans h3,(fc _ _ b5).trans h4⟩
 ·obtain⟨Dw,⟨es,clock,hbb,r⟩,h2,h3⟩:=hX.am;exact⟨Dw,⟨es,clock,(f _ b2).trans hbb,r⟩,h2,h3⟩
theorem FrX.far {M:List Nat} {w X Y:World} (h:FrX M w X) (hb:Below w.heap.size X Y):FrX M w Y :=
 ⟨hb.os.trans h.os,hb.tape.trans h.tape,hb.output.trans h.output,Nat.le_trans h.size hb.size,fun k hk h1=>(hb.block k hk).trans (h.block k hk h1)⟩
theorem zad {n:Nat} {b:Nat} (hn:n≤b):∀(vs:List Value) (o:Nat) (X Y:World),Below n X Y→Below n X (Y.setCells b o vs)
 | [],o,X,Y,h=>h
 | v::r,o,X,Y,h=>by
  rw[World.setCells];exact zad hn r (o+1) X _ (h.setCell (p:=⟨b,o,none⟩) hn v)
theorem SI.by4 {us:List Atm} {A:Nat→Int} {B:Bd} (h:SI us A B) (hok:∀a∈us,okA a):∀a∈us,∀t,(brs B a t).length≤4000:=fun a ha t=>by have:=zed h hok (hok a ha) t;omega
theorem SI.byx {us:List Atm} {A:Nat→Int} {B:Bd} (h:SI us A B) (hok:∀a∈us,okA a):∀a t,∀x∈brs B a t,x<us.length:=fun a t x hx=>zkD h hok a t x hx
theorem SI.bby4 {us:List Atm} {A:Nat→Int} {B:Bd} (h:SI us A B) (hok:∀a∈us,okA a):∀i j,i<5→j<5→(bby (B i j)).length≤4000:=fun i j hi hj=>by
 cases hb:B i j with
 | none=>simp[bby]
 | some q =>
  obtain⟨m,p⟩:=q;have:=zgf h.sim (zk4 hok) hj hb;simp[bby];omega
theorem SI.bmo9 {us:List Atm} {A:Nat→Int} {B:Bd} (h:SI us A B) (hok:∀a∈us,okA a):∀i j,i<5→j<5→-1000000000≤bmo (B i j)∧bmo (B i j)≤1000000000:=fun i j hi hj=>by
 cases hb:B i j with
 | none=>simp[bmo]
 | some q =>
  obtain⟨m,p⟩:=q;have:=zit h.ok (K:=1000000) (by decide) (zkE hok) hj hb;simp[bmo];omega
theorem zhi {A:Nat→Int} {n:Nat} (t:Int) (h:A n=0):setN (setN A n t) n 0=A:=by
 funext i
 unfold setN;split
 ·rename_i e;subst e;exact h.symm
 ·rfl
theorem zlK {a:Atm} (h:okA a) (t:Int):∃(l r:Nat) (c:Int),ifA a t=((l:Int),(r:Int),c)∧l<5∧r<5∧-1000000≤c∧c≤1000000:=by
 obtain⟨o1,o2,o3,o4,o5,o6⟩:=h;unfold ifA;split
 ·exact⟨a.2.1.toNat,a.1.toNat,-a.2.2-1,by rw[Int.toNat_of_nonneg o3,Int.toNat_of_nonneg o1],by omega,by omega,by omega,by omega⟩
 ·exact⟨a.1.toNat,a.2.1.toNat,a.2.2,by rw[Int.toNat_of_nonneg o1,Int.toNat_of_nonneg o3],by omega,by omega,by omega,by omega⟩
theorem PvS.mlt {w0 w:World} {D:PD} {us:List Atm} {g:List Pt} {s n:Nat} {A:Nat→Int} {ats parts:List Int} (h:PvS w0 w D us g s n A ats parts):∀m∈D.M,m<w.heap.size:=by
 intro m hm;unfold PD.M at hm;simp only[List.mem_cons,List.not_mem_nil,or_false] at hm;rcases hm with rfl|rfl|rfl|rfl
 ·exact h.box.lt
 ·exact h.am.lt
 ·exact h.tr.lt
 ·exact h.pr.lt
theorem zeJ (w0 w:World) (D:PD) (us:List Atm) (g:List Pt) (s n k:Nat) (A:Nat→Int) (ats parts:List Int) (kb:Nat) (B:Bd) (num:Nat) (t:Int) (hC:SrC w0 D us g k) (hs:s≤k) (h:PvS w0 w D us g s n A ats parts) (hB:BdAt w kb 0 B) (hkb:kb∉D.M) (hsx:SX us g) (hSI:SI us A B) (hnum:num<us.length) (hop:(lok us A B).getD num 0=0) (hA0:A num=0) (ht:t=1∨t=2) (hn:n+1+2*s≤100000) :
 Calls Tryz.prog 189 #[.pointer (some ⟨D.pb,0,none⟩),.int .i64 (num:Int),.int .i8 t,.pointer (some ⟨kb,0,none⟩)] w (SrR w0 D us g (n+1+2*s) A (sch us g k s (setN A num t) (bwa B (us.getD num (0,0,0)) t num)).1 (sch us g k s (setN A num t) (bwa B (us.getD num (0,0,0)) t num)).2 w):=by
 have hus5:=hsx.us5;have h1:PvS w0 (w.alloc (.cells zZb 186)) D us g s n A ats parts:=h.below (zaa w _);have hres1:Blk (w.alloc (.cells zZb 186)) w.heap.size 186 (enC 0 [] z9 (0,0,0,0)):=heap_alloc_new w _;have ht3:T3 t:=by rcases ht with rfl|rfl;exact Or.inr (Or.inl rfl);exact Or.inr (Or.inr rfl)
 obtain⟨w1,hput,hNM,hgr⟩:=NM.put h1.am num (by omega) t ht3 (by omega) (by unfold maxLen;omega);have h2:PvS w0 w1 D us g s (n+1) (setN A num t) ats parts:=h1.setM hgr hNM;have hf1:FrX [D.mb] (w.alloc (.cells zZb 186)) w1:=FrX.of_grown hgr (by simp);have hsub:∀m∈[D.mb],m∈D.M:=fun m hm=>by rw[List.mem_singleton.1 hm];exact D.mm
 have hB1:BdAt w1 kb 0 B:=(hB.below (zaa w _)).fr hf1 (h1.noi.sub hsub) (fun e=>hkb (hsub _ e));have hF1:FrX D.M w w1:=(FrX.of_below (zaa w _)).trans (hf1.sub hsub);have hmlt:=h.mlt;have hwM:w.heap.size∉D.M:=fun e=>by have:=hmlt _ e;omega
 have hres2:Blk w1 w.heap.size 186 (enC 0 [] z9 (0,0,0,0)):=hres1.fr hf1 (fun e=>hwM (hsub _ e));obtain⟨⟨a1,a2,a3⟩,hx⟩:∃x,us[num]?=some x:=⟨_,List.getElem?_eq_getElem hnum⟩
 have hgu:us.getD num (0,0,0)=(a1,a2,a3):=by rw[List.getD_eq_getElem?_getD,hx];rfl
 have hoa:=hsx.ok _ (List.mem_of_getElem? hx);have hSI2:=hSI.step hnum hop ht;rw[hgu] at hSI2 ⊢;obtain⟨l',r',c',e1,e2,e3,e4,e5⟩:=zlK hoa t;have hbwa:bwa B (a1,a2,a3) t num=bwith B l' r' c' num:=by unfold bwa;rw[e1];rfl
 rw[hbwa] at hSI2 ⊢;have CI:Hid (∀X,Calls Tryz.prog 233 #[.agg #[.int .i64 a1,.int .i64 a2,.int .i64 a3],.int .i8 t] X fun e w'=>e=.returned (.agg #[.int .i64 (l':Int),.int .i64 (r':Int),.int .i64 c'])∧Below X.heap.size X w'):=fun X=>by
  have:=zeR a1 a2 a3 t ht3 ⟨hoa.2.2.2.2.1,hoa.2.2.2.2.2⟩ X;rw[e1] at this;exact this
 have CW:Hid (∀X,Below w1.heap.size w1 X→Calls Tryz.prog 240 #[.pointer (some ⟨kb,0,none⟩),.agg #[.int .i64 (l':Int),.int .i64 (r':Int),.int .i64 c'],.int .i64 (num:Int)] X fun e w'=>∃cs,e=.returned (.agg cs.toArray)∧BdC w' cs (bwith B l' r' c' num)∧Below X.heap.size X w'):=fun X hX=>zjj X kb B l' r' num c' (hB1.below hX) e2 e3 ⟨e4,e5⟩ (by omega) (hSI.bmo9 hsx.ok) (hSI.bby4 hsx.ok)
 have CS:Hid (∀X cs,Below w1.heap.size w1 X→BdC X cs (bwith B l' r' c' num)→Calls Tryz.prog 88 #[.pointer (some ⟨D.pb,0,none⟩),.agg cs.toArray] X (SrR w0 D us g (n+1+2*s) (setN A num t) (sch us g k s (setN A num t) (bwith B l' r' c' num)).1 (sch us g k s (setN A num t) (bwith B l' r' c' num)).2 X)):=fun X cs hX hcs=>hC X s (n+1) (setN A num t) ats parts (bwith B l' r' c' num) cs hs (h2.below hX) hcs hSI2 hn
 obtain⟨d0,d1,d2,d3,d4,d5,d6⟩:=h1.cells;obtain⟨f0,f1,f2,f3,f4,f5,f6⟩:=h2.cells;have hatm:=h2.atm;have HP:Hid _:=h;have HF1:Hid _:=hF1;have HM:Hid _:=hwM;have HML:Hid _:=hmlt;have HR2:Hid _:=hres2;have HAB:Hid (setN (setN A num t) num 0=A):=zhi t hA0;have HPB:Hid (D.mb=D.mb):=rfl;have HMM:Hid (D.mb∈D.M):=D.mm;clear h1 h2 hf1 hB1 hF1 hres1 hres2 hNM hgr hsx hSI hSI2 hC hB hkb hop hgu hbwa e1 hoa hwM hmlt hA0 h;generalize sch us g k s (setN A num t) (bwith B l' r' c' num)=RR at *;obtain⟨E,s'⟩:=RR;dsimp only;obtain⟨pb,mb,tb,qb,gb,kk,qa,ca,cg⟩:=D;dsimp only at *;rcases hatm with⟨_,he⟩|⟨b,cap,hv,hc1,hc2,hb,hcells⟩
 ·rw[he] at hnum;simp at hnum
 ·cases hv
  obtain⟨z1,z2,z3⟩:=hcells num _ hx;dsimp only at z1 z2 z3;have hnl:(num:Int)<(us.length:Int):=by omega
  clear hcells hx;go_enter Tryz.func189,Tryz.ntmps189;go_wp2_with (first
   | (go_at_call 233;refine Calls.mono (CI.out _) ?_;rintro e w2 ⟨rfl,hb2⟩)
   | (go_at_call 240;refine Calls.mono (CW.out _ hb2) ?_;rintro e w3 ⟨cs,rfl,hcs,hb3⟩;have hb23:=hb2.trans (hb3.mono hb2.size)))
  refine Calls.mono (CS.out _ cs hb23 hcs) ?_;rintro e w4 ⟨ws,n',A',ats',parts',rfl,hSR,hpl,hP4,hnn,hAA,hfr4⟩;have hF4:FrX _ w w4:=HF1.out.trans ((FrX.of_below hb23).trans hfr4);have hres4:Blk w4 w.heap.size 186 (enC 0 [] z9 (0,0,0,0)):=Blk.fr (Blk.below (w:=w1) (ty:=186) (cs:=enC 0 [] z9 (0,0,0,0)) HR2.out hb23) hfr4 HM.out;have hw4:=hF4.size;have hwl:=hres4.lt;have hcl:=zah E.v E.pf E.md hSR.len;have hone1:=zaj E.v E.pf ws E.md;have hone:=all_oneCell_toArray hone1;have hc0:(enC E.v E.pf ws E.md)[0]?=some (.int .i64 E.v):=rfl;generalize hCS:enC E.v E.pf ws E.md=ce at *;have HCS:Hid (enC E.v E.pf ws E.md=ce):=hCS;clear hCS;have hcz:ce.toArray.size=15:=by simp[hcl]
  have hiB:(Tryz.prog.info? 186).map (·.size)=some ce.toArray.size:=by rw[hcz];exact Tryz.infoEnd
  have hiA:(Tryz.prog.info? 186).map (·.size)=some ce.length:=by rw[hcl];exact Tryz.infoEnd
  have hnb:Blk (w4.alloc (.cells zZb 186)) w4.heap.size 186 (enC 0 [] z9 (0,0,0,0)):=heap_alloc_new w4 _;have hth:(w4.alloc (.cells zZb 186)).there w4.heap.size 0 ce.toArray.size:=by
   rw[hcz];exact(hnb.row (zaj _ _ _ _)).there 0 15 (by rw[zah 0 [] (0,0,0,0) rfl];omega)
  obtain⟨W5,hW5⟩:∃W5,(w4.alloc (.cells zZb 186)).setCells w4.heap.size 0 ce=W5:=⟨_,rfl⟩
  have h45:Below w4.heap.size w4 W5:=by rw[←hW5];exact zaN w4 w4.heap.size _ 0 _ (zaa w4 _) (Nat.le_refl _)
  have hen5:Blk W5 w4.heap.size 186 ce:=by rw[←hW5];exact hnb.setAll (by rw[hcl,zah 0 [] (0,0,0,0) rfl])
  have hP5:=hP4.below h45;have hF5:FrX _ w W5:=hF4.trans (FrX.of_below h45);have hres5:=hres4.below h45;have hv0:W5.cell? ⟨w4.heap.size,0,none⟩=some (.int .i64 E.v):=hen5.cell hc0;obtain⟨g0,g1,g2,g3,g4,g5,g6⟩:=hP5.cells;dsimp only at g0 g1 g2 g3 g4 g5 g6;have hmw:=HML.out mb HMM.out;clear hnb hP4 hfr4 hres4 h45 hcs hb2 hb3 hb23 d0 d1 d2 d3 d4 d5 d6 f0 f1 f2 f3 f4 f5 f6 z1 z2 z3;by_cases hv:E.v=0
  ·obtain⟨w6,hdel,hNM6,hgr6⟩:=NM.del hP5.am num (by omega) 0;dsimp only at hdel hNM6 hgr6;have hP6:=hP5.setM hgr6 hNM6;rw[hAA hv,HAB.out] at hP6;have hf6:FrX [mb] W5 w6:=FrX.of_grown hgr6 (by simp);have hen6:Blk w6 w4.heap.size 186 ce:=hen5.fr hf6 (by simp;omega);have hres6:=hres5.fr hf6 (by simp;omega);have q2:=hen6.range;have hR6:=hres6.row (zaj 0 [] z9 (0,0,0,0));rw[zah 0 [] (0,0,0,0) rfl] at hR6;have hth6:w6.there w.heap.size 0 ce.toArray.size:=by rw[hcz];exact hR6.there 0 15 (by omega)
   have hb7:Below w.heap.size w6 (w6.setCells w.heap.size 0 ce):=zad (Nat.le_refl _) ce 0 w6 w6 (Below.refl _ _);have HP7:Hid _:=HP.out.far hP6 hb7;have HF7:Hid (FrX (PD.M ⟨pb,mb,tb,qb,gb,kk,some ⟨b,0,none⟩,ca,cg⟩) w (w6.setCells w.heap.size 0 ce)):=(hF5.trans (hf6.sub (by intro m hm;rw[List.mem_singleton.1 hm];exact HMM.out))).far hb7;have HR:Hid (Av.Row w6 w.heap.size 15):=hR6;have HSR:Hid _:=hSR;rw[hv] at hv0;clear hP5 hP6 hen5 hen6 hres5 hres6 hf6 hF5 hF4 hR6 hgr6 hNM6 hb7 hSR hAA;go_wp2_with (first
    | (refine wpList_store_mid rfl 186 (.tmp 9) (.tmp 29) rfl w4.heap.size 0 ce.toArray rfl rfl ?_ hiB hone ?_;(exact hth);(rw[show ce.toArray.toList=ce by simp,hW5]))
    | (refine wpList_load_mid rfl 186 (.tmp 9) rfl w4.heap.size 0 rfl ce _ ?_ Tryz.underlying186 rfl hiA ?_;(exact q2))
    | (refine wpList_store_mid rfl 186 (.tmp 8) (.tmp 38) rfl w.heap.size 0 ce.toArray rfl rfl ?_ hiB hone ?_;(exact hth6)))
   exact Av.postN ce rfl rfl Tryz.underlying186 rfl Tryz.infoEnd HR.out hcl ⟨ws,n',A,ats',parts',by rw[HCS.out],HSR.out,hpl,HP7.out,hnn,fun _=>rfl,HF7.out⟩
  ·have hvb:(E.v==0)=false:=by simpa using hv
   have q2:=hen5.range;have hR6:=hres5.row (zaj 0 [] z9 (0,0,0,0));rw[zah 0 [] (0,0,0,0) rfl] at hR6;have hth6:W5.there w.heap.size 0 ce.toArray.size:=by rw[hcz];exact hR6.there 0 15 (by omega)
   have hb7:Below w.heap.size W5 (W5.setCells w.heap.size 0 ce):=zad (Nat.le_refl _) ce 0 W5 W5 (Below.refl _ _);have HP7:Hid _:=HP.out.far hP5 hb7;have HF7:Hid (FrX (PD.M ⟨pb,mb,tb,qb,gb,kk,some ⟨b,0,none⟩,ca,cg⟩) w (W5.setCells w.heap.size 0 ce)):=hF5.far hb7;have HR:Hid (Av.Row W5 w.heap.size 15):=hR6;have HSR:Hid _:=hSR;have HV:Hid (E.v≠0):=hv;clear hP5 hen5 hres5 hF5 hF4 hR6 hb7 hSR hAA hv;go_wp2_with (first
    | (refine wpList_store_mid rfl 186 (.tmp 9) (.tmp 29) rfl w4.heap.size 0 ce.toArray rfl rfl ?_ hiB hone ?_;(exact hth);(rw[show ce.toArray.toList=ce by simp,hW5]))
    | (refine wpList_load_mid rfl 186 (.tmp 9) rfl w4.heap.size 0 rfl ce _ ?_ Tryz.underlying186 rfl hiA ?_;(exact q2))
    | (refine wpList_store_mid rfl 186 (.tmp 8) (.tmp 38) rfl w.heap.size 0 ce.toArray rfl rfl ?_ hiB hone ?_;(exact hth6)))
   exact Av.postN ce rfl rfl Tryz.underlying186 rfl Tryz.infoEnd HR.out hcl ⟨ws,n',A',ats',parts',by rw[HCS.out],HSR.out,hpl,HP7.out,hnn,fun e=>absurd e HV.out,HF7.out⟩
end Go.Proofs.YtkinoehmcfhgbaaGreatDoor.Vl
