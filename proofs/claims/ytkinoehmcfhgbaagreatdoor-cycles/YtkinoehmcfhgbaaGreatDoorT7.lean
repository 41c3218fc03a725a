/- A part of the proof. -/
import Derived.Test.YtkinoehmcfhgbaaGreatDoorT6
set_option linter.unusedVariables false
set_option linter.unusedSimpArgs false
set_option maxRecDepth 100000
set_option maxHeartbeats 4000000
namespace Go.Proofs.YtkinoehmcfhgbaaGreatDoor.Vl
open Go.RowKit
structure FrK (b mb:Nat) (w w':World):Prop where
 os:w'.os=w.os
 tape:w'.tape=w.tape
 output:w'.output=w.output
 size:w.heap.size≤w'.heap.size
 block:∀k,k<w.heap.size→k≠b→k≠mb→w'.heap[k]?=w.heap[k]?
theorem FrK.refl (b mb:Nat) (w:World):FrK b mb w w:=⟨rfl,rfl,rfl,Nat.le_refl _,fun _ _ _ _=>rfl⟩
theorem FrK.trans {b mb:Nat} {a c d:World} (h:FrK b mb a c) (k:FrK b mb c d):FrK b mb a d :=
 ⟨k.os.trans h.os,k.tape.trans h.tape,k.output.trans h.output,Nat.le_trans h.size k.size,fun i hi h1 h2=>(k.block i (Nat.lt_of_lt_of_le hi h.size) h1 h2).trans (h.block i hi h1 h2)⟩
theorem FrK.of_below {b mb:Nat} {w w':World} (h:Below w.heap.size w w'):FrK b mb w w':=⟨h.os,h.tape,h.output,h.size,fun k hk _ _=>h.block k hk⟩
theorem FrK.of_b {b mb:Nat} {w w':World} (h:w.grownBy w' (some b)):FrK b mb w w':=⟨h.os,h.tape,h.output,h.size,fun k hk h1 _=>h.block k hk (fun e=>h1 (by injection e))⟩
theorem FrK.of_m {b mb:Nat} {w w':World} (h:w.grownBy w' (some mb)):FrK b mb w w':=⟨h.os,h.tape,h.output,h.size,fun k hk _ h2=>h.block k hk (fun e=>h2 (by injection e))⟩
theorem FrK.below {b mb:Nat} {w0 w w':World} (h:FrK b mb w w') (h0:Below w0.heap.size w0 w) (hb:w0.heap.size≤b) (hm:w0.heap.size≤mb):Below w0.heap.size w0 w' :=
 ⟨h.os.trans h0.os,h.tape.trans h0.tape,h.output.trans h0.output,Nat.le_trans h0.size h.size,fun k hk=>(h.block k (Nat.lt_of_lt_of_le hk h0.size) (by omega) (by omega)).trans (h0.block k hk)⟩
structure KC (w0 w:World) (b mb:Nat) (vW:Value) (ys:List Sym) (q:Option Addr) (cap:Nat) (us:List Atm):Prop where
 h0:Below w0.heap.size w0 w
 hb:w0.heap.size≤b
 hm:w0.heap.size≤mb
 hbm:b≠mb
 at':Atms w (.slice q us.length cap) us
 ab:∀g,q=some ⟨g,0,none⟩→g≠b∧g≠mb
 sy:∃g c,vW=.slice (some ⟨g,0,none⟩) ys.length c∧g≠b∧g≠mb
 sw:Syms w.heap.size w vW ys
theorem KC.fr {w0 w w':World} {b mb:Nat} {vW:Value} {ys:List Sym} {q:Option Addr} {cap:Nat} {us:List Atm} (h:KC w0 w b mb vW ys q cap us) (hf:FrK b mb w w'):KC w0 w' b mb vW ys q cap us:=by
 refine⟨hf.below h.h0 h.hb h.hm,h.hb,h.hm,h.hbm,?_,h.ab,h.sy,?_⟩
 ·rcases h.at' with h1|⟨g,c,h1,h2,h3,h4,h5⟩
  ·exact Or.inl h1
  ·obtain⟨n1,n2⟩:=h.ab g (by injection h1);have e:=hf.block g h4 n1 n2;have ec:∀o,w'.cell? ⟨g,o,none⟩=w.cell? ⟨g,o,none⟩:=fun o=>World.cell?_of_block (a:=⟨g,o,none⟩) e
   exact Or.inr ⟨g,c,h1,h2,h3,Nat.lt_of_lt_of_le h4 hf.size,fun j a ha=>⟨(ec _).trans (h5 j a ha).1,(ec _).trans (h5 j a ha).2.1,(ec _).trans (h5 j a ha).2.2⟩⟩
 ·obtain⟨g,c,e1,n1,n2⟩:=h.sy;obtain⟨g',c',e2,h2,h3⟩:=h.sw;have eg:g'=g:=by rw[e1] at e2;injection e2 with a;injection a with a;injection a with a;exact a.symm
  subst eg;have e:=hf.block g' h2 n1 n2;have ec:∀o,w'.cell? ⟨g',o,none⟩=w.cell? ⟨g',o,none⟩:=fun o=>World.cell?_of_block (a:=⟨g',o,none⟩) e
  exact⟨g',c',e2,Nat.lt_of_lt_of_le h2 hf.size,fun j y hy=>⟨(ec _).trans (h3 j y hy).1,(ec _).trans (h3 j y hy).2.1,(ec _).trans (h3 j y hy).2.2.1,(ec _).trans (h3 j y hy).2.2.2⟩⟩
structure KS (w0 w:World) (b mb:Nat) (vW:Value) (ys:List Sym) (q:Option Addr) (cap:Nat) (us:List Atm) (l:List UInt8) (n:Nat) (f:Atm→Int):Prop where
 c:KC w0 w b mb vW ys q cap us
 kn:KnAt w b vW (.slice q us.length cap) l mb
 am:AM w mb n f
section
variable {w0 w w':World} {b mb:Nat} {vW:Value} {ys:List Sym} {q:Option Addr} {cap:Nat} {us:List Atm} {l l':List UInt8} {n:Nat} {f:Atm→Int}
theorem KS.below (h:KS w0 w b mb vW ys q cap us l n f) (hb:Below w.heap.size w w'):KS w0 w' b mb vW ys q cap us l n f:=⟨h.c.fr (.of_below hb),h.kn.below hb,h.am.below hb⟩
theorem KS.read (h:KS w0 w b mb vW ys q cap us l n f) (hg:w.grownBy w' (some b)) (hk:KnAt w' b vW (.slice q us.length cap) l' mb):KS w0 w' b mb vW ys q cap us l' n f:=⟨h.c.fr (.of_b hg),hk,h.am.kept hg (fun e=>h.c.hbm (by injection e with e;exact e.symm))⟩
theorem takeK (h:KS w0 w b mb vW ys q cap us l n f) (c:UInt8) (hl:l.length≤200000) :
 Calls Tryz.prog 123 #[.pointer (some ⟨b,0,none⟩),.string ⟨#[c]⟩] w fun e w'=>e=.returned (.bool (is1 c l))∧KS w0 w' b mb vW ys q cap us (tk1 c l) n f∧FrK b mb w w' :=
 (zcQ w b mb vW _ l c (by omega) h.kn).mono fun e w' ⟨h1,h2,h3⟩=>⟨h1,h.read h3 h2,.of_b h3⟩
theorem atomK (h:KS w0 w b mb vW ys q cap us l n f) (hgl:Gl w0) (hl:l.length≤200000) (hN:us.length≤4000) :
 Calls Tryz.prog 177 #[.pointer (some ⟨b,0,none⟩)] w fun e w'=>FrK b mb w w' ∧
  ((∃i r,fig us.length l=some (i,r)∧i<us.length∧e=.returned (.tuple #[avV (us.getD i (0,0,0)),.bool true])∧KS w0 w' b mb vW ys q cap us r n f) ∨
   (fig us.length l=none∧e=.returned (.tuple #[avV (0,0,0),.bool false])∧KS w0 w' b mb vW ys q cap us (l.drop (dlen l)) n f)):=by
 obtain⟨F1,F2⟩:=zmX hN l;by_cases hex:∃v,Lib.atoiAll (l.take (dlen l))=.ok v∧Lib.itoa v=l.take (dlen l)∧v<(us.length:Int)
 ·obtain⟨v,h1,h2,h3⟩:=hex;obtain⟨v0,hf⟩:=F1 v h1 h2 h3;obtain⟨i,rfl⟩:∃i:Nat,v=(i:Int):=⟨v.toNat,by omega⟩
  have hi:i<us.length:=by omega
  rcases h.c.at' with h4|⟨g,c,h4,h5,h6,h7,h8⟩
  ·rw[h4.2] at hi;simp at hi
  ·have eq:q=some ⟨g,0,none⟩:=by injection h4
   subst eq;have ha:us[i]?=some us[i]:=List.getElem?_eq_getElem hi;have eD:us.getD i (0,0,0)=us[i]:=by rw[List.getD_eq_getElem?_getD,ha];rfl
   obtain⟨z0,z1,z2⟩:=h8 i us[i] ha;refine(ziM w0 w b mb vW g i us[i].1 us[i].2.1 us[i].2.2 us.length cap l hgl h.c.h0 h.c.hb hl h.kn h1 h2 hi (h.c.ab g rfl).1 h7 z0 z1 z2).mono ?_;rintro e w' ⟨g1,g2,g3⟩;refine⟨.of_b g1,Or.inl ⟨i,l.drop (dlen l),by rw[hf];rfl,hi,?_,h.read g1 g3⟩⟩;rw[g2,eD]
 ·refine(ziL w0 w b mb vW q us.length cap l hgl h.c.h0 h.c.hb hl h.kn (fun v h1 h2 h3=>hex ⟨v,h1,h2,h3⟩)).mono ?_;rintro e w' ⟨g1,g2,g3⟩;exact⟨.of_b g1,Or.inr ⟨F2 (fun v h1 h2 h3=>hex ⟨v,h1,h2,h3⟩),g2,h.read g1 g3⟩⟩
end
theorem Tryz.infoLA:(Tryz.prog.info? 134).map (fun i=>(i.zero,i.size,i.bytes))=some (some (.agg zZd),3,24):=by kernel_rfl
def knLen (w:World) (b:Nat):Nat:=match w.cell? ⟨b,2,none⟩ with|some (.string S)=>S.size|_=>0
theorem zeS {w:World} {b mb:Nat} {vW vA:Value} {l:List UInt8} (h:KnAt w b vW vA l mb):knLen w b=l.length:=by
 unfold knLen;rw[h.cells.2.2.1];simp[ByteArray.size]
theorem AM.drewN {w:World} {b n:Nat} {f:Atm→Int} (h:AM w b n f) (k:Nat):AM (w.drewN k) b n f:=h
theorem FrK.own {b mb:Nat} {w wr w2:World} {row:Option Nat} (h:FrK b mb w wr) (hg:wr.grownBy w2 row) (hr:∀k,row=some k→w.heap.size≤k):FrK b mb w w2 :=
 ⟨hg.os.trans h.os,hg.tape.trans h.tape,hg.output.trans h.output,Nat.le_trans h.size hg.size,fun k hk h1 h2=>(hg.block k (Nat.lt_of_lt_of_le hk h.size) (fun e=>by have:=hr k e.symm;omega)).trans (h.block k hk h1 h2)⟩
theorem zbm (w:World) (k:Nat):Below w.heap.size w (w.drewN k):=⟨rfl,rfl,rfl,Nat.le_refl _,fun _ _=>rfl⟩
theorem zjO {b mb W:Nat} {wr w1:World} {e:TypeId} {sz:Nat} {v:Value} {m:Nat} {xs:List Value} (h:wr.ownsRow W e sz v m xs) (hf:FrK b mb wr w1) (hb:b<W) (hm:mb<W):w1.ownsRow W e sz v m xs:=by
 refine⟨h.1,?_⟩;rcases h.2 with h2|⟨g,cap,cur,h1,h2,h3,h4⟩
 ·exact Or.inl h2
 ·exact Or.inr ⟨g,cap,cur,h1,h2,(hf.block g (Array.getElem?_eq_some_iff.1 h3).1 (by omega) (by omega)).trans h3,h4⟩
def lstp (us:List Atm) (f:Atm→Int) (k:Nat) (a:Atm):List UInt8→Option (List Atm×List UInt8)
 | []=>none
 | c::r2=>if f a=0 then none else if c=44 then (lks us f k r2).map (fun x=>(ifA a (f a)::x.1,x.2)) else if c=59 then some ([ifA a (f a)],r2) else none
theorem zlg {us:List Atm} {f:Atm→Int} {k i:Nat} {r r1:List UInt8} {a:Atm} (h:fig us.length r=some (i,r1)) (ea:us.getD i (0,0,0)=a):lks us f (k+1) r=lstp us f k a r1:=by
 subst ea;cases r1 with
 | nil=>simp only[lks,h,lstp]
 | cons c r2=>simp only[lks,h,lstp]
theorem zeT {us:List Atm} (h:∀a∈us,okA a) (i:Nat) (hi:i<us.length):okA (us.getD i (0,0,0)):=by
 rw[List.getD_eq_getElem?_getD,List.getElem?_eq_getElem hi];exact h _ (List.getElem_mem hi)
theorem zdR {w0:World} {b mb:Nat} {vW:Value} {ys:List Sym} {q:Option Addr} {cap:Nat} {us:List Atm} {n:Nat} {f:Atm→Int} (w:World) (l:List UInt8) (h:KS w0 w b mb vW ys q cap us l n f) (hgl:Gl w0) (hl:l.length≤200000) (hN:us.length≤4000) (hok:∀a∈us,okA a) (hf3:∀a,T3 (f a)) :
 Calls Tryz.prog 176 #[.pointer (some ⟨b,0,none⟩)] w fun e w'=>FrK b mb w w'∧∃v l',KS w0 w' b mb vW ys q cap us l' n f ∧
  ((∃ats r,lks us f (l.length+1) l=some (ats,r)∧l'=r∧e=.returned (.tuple #[v,.bool true])∧w'.ownsRow w.heap.size 134 3 v ats.length (cells3 ats))∨(lks us f (l.length+1) l=none∧e=.returned (.tuple #[v,.bool false]))):=by
 obtain⟨i0,hi,hz0,hz1,hz2⟩:=info_parts Tryz.infoLA;have HC:Hid (KC w0 w b mb vW ys q cap us):=h.c;have HK:Hid _:=h.kn;have HM:Hid _:=h.am;have hbw:=h.kn.lt;have hmw:=h.am.lt;clear h;go_enter Tryz.func176,Tryz.ntmps176;go_wp2_with fail
 go_loopw [4,5,6,7] (fun v p fd t wr=>∃(k:Nat) (r:List UInt8) (done:List Atm),lks us f (l.length+1) l=(lks us f k r).map (fun x=>(done++x.1,x.2))∧r.length<k∧r.length≤l.length∧done.length+r.length≤l.length∧KnAt wr b vW (.slice q us.length cap) r mb∧AM wr mb n f∧FrK b mb w wr∧wr.ownsRow w.heap.size 134 3 v done.length (cells3 done)) (fun _ _ _ _ wr=>knLen wr b)
 case atStart=>exact⟨l.length+1,l,[],by cases lks us f (l.length+1) l<;>rfl,by omega,Nat.le_refl _,by simp,HK.out,HM.out,FrK.refl _ _ _,World.ownsRow_nil _ _ _ _⟩
 case round =>
  obtain⟨k,r,done,hlk,hrk,hrl,hdr,hkn,ham,hfr,hown⟩:=hrel;have hKS:KS w0 wr b mb vW ys q cap us r n f:=⟨HC.out.fr hfr,hkn,ham⟩;have HLK:Hid _:=hlk;have HKW:Hid (knLen wr b=r.length):=zeS hkn;clear hlk;go_wp2_with fail;refine Calls.mono (atomK hKS hgl (by omega) hN) ?_;rintro e w1 ⟨hf1,hcs⟩;have hown1:=zjO hown hf1 hbw hmw;have hfr1:=hfr.trans hf1;clear hown hfr hKS hkn ham hf1;have LOOK:Hid (∀(a1 a2 a3:Int) (r':List UInt8),KS w0 w1 b mb vW ys q cap us r' n f→okA (a1,a2,a3)→KS w0 (w1.alloc (.cells #[.int .i64 a1,.int .i64 a2,.int .i64 a3] 134)) b mb vW ys q cap us r' n f∧(w1.alloc (.cells #[.int .i64 a1,.int .i64 a2,.int .i64 a3] 134)).cell? ⟨b,3,none⟩=some (.map (some mb))∧∀m,(Instr.lookup 170 (.map (some mb)) (.agg #[.int .i64 a1,.int .i64 a2,.int .i64 a3]) false).run Tryz.prog ((w1.alloc (.cells #[.int .i64 a1,.int .i64 a2,.int .i64 a3] 134)).drewN m)=.ok (.int .i8 (f (a1,a2,a3))) ((w1.alloc (.cells #[.int .i64 a1,.int .i64 a2,.int .i64 a3] 134)).drewN m)):=fun a1 a2 a3 r' hk ho=>by
   have h2:=hk.below (zaa w1 (.cells #[.int .i64 a1,.int .i64 a2,.int .i64 a3] 134));exact⟨h2,h2.kn.cells.2.2.2,fun m=>AM.look (h2.am.drewN m) (a1,a2,a3) ho⟩
  rcases hcs with⟨i,r1,hfg,hil,rfl,hk1⟩|⟨hfg,rfl,hk1⟩
  ·have hoa:=zeT hok i hil;have hr1:=zey hfg;obtain⟨⟨a1,a2,a3⟩,ea⟩:∃a,us.getD i (0,0,0)=a:=⟨_,rfl⟩
   rw[ea] at hoa;obtain⟨h2,c3,hlook⟩:=LOOK.out a1 a2 a3 _ hk1 hoa;have HK2:Hid (KS w0 (w1.alloc (.cells #[.int .i64 a1,.int .i64 a2,.int .i64 a3] 134)) b mb vW ys q cap us r1 n f):=h2;have HF2:Hid (FrK b mb w (w1.alloc (.cells #[.int .i64 a1,.int .i64 a2,.int .i64 a3] 134))):=hfr1.trans (.of_below (zaa _ _));have HO2:Hid ((w1.alloc (.cells #[.int .i64 a1,.int .i64 a2,.int .i64 a3] 134)).ownsRow w.heap.size 134 3 u4 done.length (cells3 done)):=hown1.alloc _;have hoa3:-999999≤a3∧a3≤999999:=by unfold okA at hoa;dsimp only at hoa;omega
   rw[ea];unfold avV;dsimp only;have hT:=hf3 (a1,a2,a3);have HSTEP:Hid (∀k',lks us f (k'+1) r=lstp us f k' (a1,a2,a3) r1):=fun k'=>zlg hfg ea
   obtain⟨k',rfl⟩:∃k',k=k'+1:=⟨k-1,by omega⟩
   clear h2 hk1 LOOK hfr1 hown1;by_cases hF0:f (a1,a2,a3)=0
   ·have HN:Hid (lks us f (l.length+1) l=none):=by
     show _=_
     rw[HLK.out,HSTEP.out k'];cases r1 with
     | nil=>rfl
     | cons c r2=>simp only[lstp,hF0,if_true];rfl
    rw[hF0] at hlook;clear HSTEP HLK hF0 hT;go_wp2_with fail
    go_quiet (fail)
    go_wp2_with fail
    go_ret2
    exact⟨HF2.out.trans (.of_below (zbm _ _)),_,_,KS.below HK2.out (zbm _ _),Or.inr ⟨HN.out,rfl⟩⟩
   ·have CI:Hid (∀X,Calls Tryz.prog 233 #[.agg #[.int .i64 a1,.int .i64 a2,.int .i64 a3],.int .i8 (f (a1,a2,a3))] X fun e w'=>e=.returned (.agg #[.int .i64 (ifA (a1,a2,a3) (f (a1,a2,a3))).1,.int .i64 (ifA (a1,a2,a3) (f (a1,a2,a3))).2.1,.int .i64 (ifA (a1,a2,a3) (f (a1,a2,a3))).2.2])∧Below X.heap.size X w'):=fun X=>ze4 a1 a2 a3 _ hT hoa3 X
    have hne:((f (a1,a2,a3))==0)=false:=by simpa using hF0
    have HF0:Hid (f (a1,a2,a3)≠0):=hF0;generalize hIA:ifA (a1,a2,a3) (f (a1,a2,a3))=IA at *;obtain⟨x1,x2,x3⟩:=IA;dsimp only at CI;generalize hFA:f (a1,a2,a3)=FA at *;have HFA:Hid (f (a1,a2,a3)=FA):=hFA;have HIA:Hid (ifA (a1,a2,a3) FA=(x1,x2,x3)):=hIA;clear hFA hIA hF0 hT;go_wp2_with fail
    go_quiet (fail)
    go_wp2_with fail;refine Calls.mono (CI.out _) ?_;rintro e w3 ⟨rfl,hb3⟩;have K3:KS w0 w3 b mb vW ys q cap us r1 n f:=(KS.below HK2.out (zbm _ _)).below hb3;have F3:FrK b mb w w3:=(HF2.out.trans (.of_below (zbm _ _))).trans (.of_below hb3);have O3:w3.ownsRow w.heap.size 134 3 u4 done.length (cells3 done):=zad (zad HO2.out (zbm _ _)) hb3;have hs3:=F3.size;have hdl:done.length≤200000:=by omega
    have HK3:Hid (KS w0 w3 b mb vW ys q cap us r1 n f):=K3;have HF3:Hid (FrK b mb w w3):=F3;have HOB:Hid (∀k,u4.ownBlock=some k→w.heap.size≤k):=zaf O3;clear K3 F3 HK2 HF2 HO2 hb3 c3 hlook CI;go_wp2_with (at_builtin;refine wpList_append_own _ rfl _ _ 171 rfl w.heap.size 134 i0 (.agg zZd) 3 24 Tryz.underlying171 hi hz0 hz1 hz2 rfl (by decide) _ _ _ rfl (O3.alloc _) ⟨w3.heap.size,0,none⟩ 1 1 [.int .i64 x1,.int .i64 x2,.int .i64 x3] rfl rfl (za8 _ _ rfl _ _ _ _) (zgs _ _ _) (by unfold maxLen;omega) (by omega) (by simp;omega) ?_);intro v' w4 hown4 hgrow _;have hg4:w3.grownBy w4 u4.ownBlock:=(World.grownBy_alloc w3 _ _).trans hgrow;have F4:FrK b mb w w4:=HF3.out.own hg4 HOB.out;have K4:KS w0 w4 b mb vW ys q cap us r1 n f:=⟨HC.out.fr F4,HK3.out.kn.kept hg4 (fun e=>by have:=HOB.out b e.symm;omega),HK3.out.am.kept hg4 (fun e=>by have:=HOB.out mb e.symm;omega)⟩;clear O3 hgrow hg4 HK3 HF3 HOB;go_wp2_with fail;refine Calls.mono (takeK K4 44 (by omega)) ?_;rintro e w5 ⟨rfl,K5,f5⟩;have F5:=F4.trans f5;have O5:=zjO hown4 f5 hbw hmw;clear hown4 f5 F4 K4;have HST:Hid (lks us f (l.length+1) l=(lstp us f k' (a1,a2,a3) r1).map (fun x=>(done++x.1,x.2))):=by show _=_;rw[HLK.out,HSTEP.out k']
    have hF0:¬f (a1,a2,a3)=0:=by rw[HFA.out];exact HF0.out
    have hO5:w5.ownsRow w.heap.size 134 3 v' (done++[(x1,x2,x3)]).length (cells3 (done++[(x1,x2,x3)])):=by rw[List.length_append,zbY];exact O5
    have HO5:Hid _:=hO5;obtain⟨va,vc,ev⟩:∃va vc,v'=.slice va (done.length+1) vc:=by
     rcases O5.2 with⟨h1,h2⟩|⟨g,c,cur,h1,_⟩
     ·omega
     ·exact⟨_,_,h1⟩
    subst ev;clear O5 hO5 HSTEP HLK hne;cases hi1:is1 44 r1
    ·have ht1:tk1 44 r1=r1:=by
      cases r1 with
      | nil=>rfl
      | cons c r2=>simp only[is1] at hi1;simp only[tk1];rw[if_neg (by simpa using hi1)]
     rw[ht1] at K5;have HF5:Hid (FrK b mb w w5):=F5;have hlr:r1.length≤200000:=by omega
     have HK5:Hid (KS w0 w5 b mb vW ys q cap us r1 n f):=K5;clear ht1 F5 K5;go_wp2_with fail;refine Calls.mono (takeK HK5.out 59 hlr) ?_;rintro e w6 ⟨rfl,K6,f6⟩;have HO6:Hid _:=zjO HO5.out f6 hbw hmw;have HF6:Hid (FrK b mb w w6):=HF5.out.trans f6;have HK6:Hid (KS w0 w6 b mb vW ys q cap us (tk1 59 r1) n f):=K6;clear K6 f6 HF5 HK5 HO5;go_wp2_with fail
     go_ret2
     refine⟨HF6.out,.slice va (done.length+1) vc,tk1 59 r1,HK6.out,?_⟩;cases r1 with
     | nil=>exact Or.inr ⟨by rw[HST.out];rfl,rfl⟩
     | cons c r2 =>
      have hc44:c≠44:=by simpa [is1] using hi1
      by_cases hc:c=59
      ·refine Or.inl ⟨done++[(x1,x2,x3)],r2,?_,?_,?_,HO6.out⟩
       ·rw[HST.out];simp only[lstp,if_neg hF0,if_neg hc44,if_pos hc];rw[HFA.out,HIA.out];rfl
       ·simp only[tk1,if_pos hc]
       ·subst hc;rfl
      ·refine Or.inr ⟨?_,?_⟩
       ·rw[HST.out];simp only[lstp,if_neg hF0,if_neg hc44,if_neg hc];rfl
       ·have:is1 59 (c::r2)=false:=by simp only[is1];simpa using hc
        rw[this];rfl
    ·cases r1 with
     | nil=>cases hi1
     | cons c r2 =>
      have hc44:c=44:=by simpa [is1] using hi1
      have ht1:tk1 44 (c::r2)=r2:=by simp only[tk1,if_pos hc44]
      rw[ht1] at K5;have HF5:Hid (FrK b mb w w5):=F5;have HK5:Hid (KS w0 w5 b mb vW ys q cap us r2 n f):=K5;have hkl0:=zeS HK5.out.kn;have HEQ:Hid (lks us f (l.length+1) l=(lks us f k' r2).map (fun x=>((done++[(x1,x2,x3)])++x.1,x.2))):=by
       show _=_
       rw[HST.out];simp only[lstp,if_neg hF0,if_pos hc44];rw[HFA.out,HIA.out,Option.map_map]
       congr 1
       funext x
       simp
      simp only[List.length_cons] at hr1;clear ht1 F5 K5 HST hF0 hi1;go_wp2_with fail
      go_roundw
      case rel=>exact⟨k',r2,done++[(x1,x2,x3)],HEQ.out,by omega,by omega,by simp only[List.length_append,List.length_cons,List.length_nil];omega,HK5.out.kn,HK5.out.am,HF5.out,HO5.out⟩
      case measure =>
       rw[zeS HK5.out.kn,HKW.out];omega
  ·obtain⟨h2,c3,hlook⟩:=LOOK.out 0 0 0 _ hk1 (by unfold okA;dsimp only;omega);have HN:Hid (lks us f (l.length+1) l=none):=by
    show _=_
    rw[HLK.out];cases k with
    | zero=>rfl
    | succ k=>simp only[lks,hfg];rfl
   have HK2:Hid _:=h2;have HF2:Hid (FrK b mb w (w1.alloc (.cells zZd 134))):=hfr1.trans (.of_below (zaa _ _));clear h2 hk1 LOOK;unfold avV;generalize f (0,0,0)=FA at *;go_wp2_with fail
   go_quiet (fail)
   go_wp2_with fail
   go_ret2
   exact⟨HF2.out.trans (.of_below (zbm _ _)),_,_,KS.below HK2.out (zbm _ _),Or.inr ⟨HN.out,rfl⟩⟩
theorem zhM {l:List Atm} (h:l.Nodup) (y:Sym):(addA l y).Nodup:=by
 unfold addA;split
 ·split
  ·rename_i h1
   rcases zcC l y.2 0 with⟨_,h2⟩|⟨_,h2,_⟩
   ·rw[List.nodup_append];refine⟨h,by simp,?_⟩;intro a ha b hb;rw[List.mem_singleton] at hb;subst hb;rintro rfl;exact h2 ha
   ·omega
  ·exact h
 ·exact h
theorem zdS:∀(ds:List Sym) (l:List Atm),l.Nodup→(ds.foldl addA l).Nodup
 | [],l,h=>h
 | d::r,l,h=>zdS r (addA l d) (zhM h d)
theorem zjP (ys:List Sym):(uqs ys).Nodup:=zdS ys [] List.nodup_nil
def bim (b:Bd) (a:Atm):Bool:=match b a.1.toNat a.2.1.toNat with|some (m,_)=>decide (m≤a.2.2)|none=>false
def btr (b:Bd) (a:Atm):Int:=if bim b a then 1 else if bim b (ifA a 2) then 2 else 0
def brs (b:Bd) (a:Atm) (t:Int):List Nat:=match b (ifA a t).1.toNat (ifA a t).2.1.toNat with|some (_,p)=>p|none=>[]
def lok (us:List Atm) (A:Nat→Int) (b:Bd):List Int:=(List.range us.length).map fun i=>if A i≠0 then A i else btr b (us.getD i (0,0,0))
def spk (parts:List Int):Nat→List Pt→List Int→Pt→Bool→Pt
 | _,[],_,c,_=>c
 | p,x::r,ro,c,f =>
  if parts.getD p 0≠0∨ro.getD p 0=0 then spk parts (p+1) r ro c f
  else if x.1=2 then spk parts (p+1) r ((ro.set (p+1) (ro.getD p 0)).set x.2.1.toNat (ro.getD p 0)) c f
  else if x.1=3 then (if parts.getD (p+1) 0=2∨parts.getD x.2.1.toNat 0=2 then spk parts (p+1) r ((ro.set (p+1) (ro.getD p 0)).set x.2.1.toNat (ro.getD p 0)) c f
   else spk parts (p+1) r ((ro.set (p+1) 1).set x.2.1.toNat 1) c f)
  else if x.1=4 then (if ro.getD p 0=2 then x else if f then spk parts (p+1) r ro c f else spk parts (p+1) r ro x true)
  else spk parts (p+1) r ro c f
def pick0 (g:List Pt) (parts:List Int):Pt:=spk parts 0 g ((List.replicate g.length (0:Int)).set 0 2) (0,0,0,0) false
structure En where
 v:Int
 pf:List UInt8
 nd:Nat→Bool
 md:Int×Int×Int×Int
def eUnk:En:=⟨2,[],fun _=>false,(0,0,0,0)⟩
def bmd (b:Bd):Int×Int×Int×Int:=(bgr b 1-bgr b 0,bgr b 2-bgr b 0,bgr b 3-bgr b 0,bgr b 4-bgr b 0)
def setN (A:Nat→Int) (n:Nat) (t:Int):Nat→Int:=fun i=>if i=n then t else A i
def bwa (b:Bd) (a:Atm) (t:Int) (num:Nat):Bd:=bwith b (ifA a t).1.toNat (ifA a t).2.1.toNat (ifA a t).2.2 num
def srch (us:List Atm) (g:List Pt) (fin:(Nat→Int)→Bd→En) (two:Nat→Int→En→En→En):Nat→Nat→(Nat→Int)→Bd→En×Nat
 | 0,s,_,_=>(eUnk,s)
 | _+1,0,_,_=>(eUnk,0)
 | k+1,s+1,A,b =>
  if (gtr (lok us A b) 0 g).headD 0=1 then (⟨1,[],fun _=>false,bmd b⟩,s)
  else if (gtr (lok us A b) 0 g).headD 0=2 then (fin A b,s)
  else
   if (srch us g fin two k s (setN A (pick0 g (gtr (lok us A b) 0 g)).2.2.1.toNat (pick0 g (gtr (lok us A b) 0 g)).2.2.2) (bwa b (us.getD (pick0 g (gtr (lok us A b) 0 g)).2.2.1.toNat (0,0,0)) (pick0 g (gtr (lok us A b) 0 g)).2.2.2 (pick0 g (gtr (lok us A b) 0 g)).2.2.1.toNat)).1.v≠0 ∨
    (srch us g fin two k s (setN A (pick0 g (gtr (lok us A b) 0 g)).2.2.1.toNat (pick0 g (gtr (lok us A b) 0 g)).2.2.2) (bwa b (us.getD (pick0 g (gtr (lok us A b) 0 g)).2.2.1.toNat (0,0,0)) (pick0 g (gtr (lok us A b) 0 g)).2.2.2 (pick0 g (gtr (lok us A b) 0 g)).2.2.1.toNat)).1.nd (pick0 g (gtr (lok us A b) 0 g)).2.2.1.toNat=false
   then srch us g fin two k s (setN A (pick0 g (gtr (lok us A b) 0 g)).2.2.1.toNat (pick0 g (gtr (lok us A b) 0 g)).2.2.2) (bwa b (us.getD (pick0 g (gtr (lok us A b) 0 g)).2.2.1.toNat (0,0,0)) (pick0 g (gtr (lok us A b) 0 g)).2.2.2 (pick0 g (gtr (lok us A b) 0 g)).2.2.1.toNat)
   else
    let h:=srch us g fin two k s (setN A (pick0 g (gtr (lok us A b) 0 g)).2.2.1.toNat (pick0 g (gtr (lok us A b) 0 g)).2.2.2) (bwa b (us.getD (pick0 g (gtr (lok us A b) 0 g)).2.2.1.toNat (0,0,0)) (pick0 g (gtr (lok us A b) 0 g)).2.2.2 (pick0 g (gtr (lok us A b) 0 g)).2.2.1.toNat)
    let o:=srch us g fin two k h.2 (setN A (pick0 g (gtr (lok us A b) 0 g)).2.2.1.toNat (tnot (pick0 g (gtr (lok us A b) 0 g)).2.2.2)) (bwa b (us.getD (pick0 g (gtr (lok us A b) 0 g)).2.2.1.toNat (0,0,0)) (tnot (pick0 g (gtr (lok us A b) 0 g)).2.2.2) (pick0 g (gtr (lok us A b) 0 g)).2.2.1.toNat)
    if o.1.v≠0∨o.1.nd (pick0 g (gtr (lok us A b) 0 g)).2.2.1.toNat=false then o
    else (two (pick0 g (gtr (lok us A b) 0 g)).2.2.1.toNat (pick0 g (gtr (lok us A b) 0 g)).2.2.2 h.1 o.1,o.2)
variable {us:List Atm} {g:List Pt} {fin:(Nat→Int)→Bd→En} {two:Nat→Int→En→En→En}
theorem zaO (k s:Nat) (A:Nat→Int) (b:Bd):srch us g fin two (k+1) (s+1) A b =
 (if (gtr (lok us A b) 0 g).headD 0=1 then (⟨1,[],fun _=>false,bmd b⟩,s) else if (gtr (lok us A b) 0 g).headD 0=2 then (fin A b,s) else
  let n:=(pick0 g (gtr (lok us A b) 0 g)).2.2.1.toNat
  let w:=(pick0 g (gtr (lok us A b) 0 g)).2.2.2
  let h:=srch us g fin two k s (setN A n w) (bwa b (us.getD n (0,0,0)) w n)
  if h.1.v≠0∨h.1.nd n=false then h
  else
   let o:=srch us g fin two k h.2 (setN A n (tnot w)) (bwa b (us.getD n (0,0,0)) (tnot w) n)
   if o.1.v≠0∨o.1.nd n=false then o else (two n w h.1 o.1,o.2)):=by
 rw[srch]
theorem zbn (parts:List Int) (G:List Pt) (hv:∀p x,G[p]?=some x→parts.getD p 0=0→(x.1=4)∨((x.1=2∨x.1=3)∧p+1<G.length∧x.2.1.toNat<G.length∧p<x.2.1.toNat∧(parts.getD (p+1) 0=0∨parts.getD x.2.1.toNat 0=0))) :
 ∀(rest:List Pt) (p:Nat) (ro:List Int) (c:Pt) (f:Bool),(∀j,rest[j]?=G[p+j]?)→p+rest.length=G.length→ro.length=G.length→(f=true∨∃q,p≤q∧q<G.length∧parts.getD q 0=0∧ro.getD q 0≠0) →
  (f=true→∃q,G[q]?=some c∧parts.getD q 0=0∧c.1=4)→∃q,G[q]?=some (spk parts p rest ro c f)∧parts.getD q 0=0∧(spk parts p rest ro c f).1=4
 | [],p,ro,c,f,hr,hl,hro,hq,hc=>by
  rcases hq with hq|⟨q,h1,h2,_⟩
  ·exact hc hq
  ·simp at hl;omega
 | x::r,p,ro,c,f,hr,hl,hro,hq,hc=>by
  have hx:G[p]?=some x:=by have:=hr 0;simpa using this.symm
  have hr':∀j,r[j]?=G[p+1+j]?:=fun j=>by have:=hr (j+1);rw[show p+1+j=p+(j+1) by omega,←this];simp
  have hl':p+1+r.length=G.length:=by simp only[List.length_cons] at hl;omega
  have hpl:p<G.length:=by simp only[List.length_cons] at hl;omega
  unfold spk;by_cases h0:parts.getD p 0≠0∨ro.getD p 0=0
  ·rw[if_pos h0];refine zbn parts G hv r (p+1) ro c f hr' hl' hro ?_ hc;rcases hq with hq|⟨q,h1,h2,h3,h4⟩
   ·exact Or.inl hq
   ·by_cases e:p=q
    ·subst e;rcases h0 with h0|h0
     ·exact absurd h3 h0
     ·exact absurd h0 h4
    ·exact Or.inr ⟨q,by omega,h2,h3,h4⟩
  ·rw[if_neg h0];have h1:parts.getD p 0=0:=by
    by_cases e:parts.getD p 0=0
    ·exact e
    ·exact absurd (Or.inl e) h0
   have h2:ro.getD p 0≠0:=fun e=>h0 (Or.inr e)
   have keep:∀v:Int,v≠0→p+1<G.length→x.2.1.toNat<G.length→p<x.2.1.toNat→(parts.getD (p+1) 0=0∨parts.getD x.2.1.toNat 0=0)→∃q,p+1≤q∧q<G.length∧parts.getD q 0=0∧((ro.set (p+1) v).set x.2.1.toNat v).getD q 0≠0:=by
    intro v hv0 a1 a2 a3 a4;rcases a4 with a4|a4
    ·refine⟨p+1,Nat.le_refl _,a1,a4,?_⟩;rw[List.getD_eq_getElem?_getD,List.getElem?_set];split
     ·rw[if_pos (by simp;omega)];exact hv0
     ·rw[List.getElem?_set,if_pos rfl,if_pos (by omega)];exact hv0
    ·refine⟨x.2.1.toNat,by omega,a2,a4,?_⟩;rw[List.getD_eq_getElem?_getD,List.getElem?_set,if_pos rfl,if_pos (by simp;omega)];exact hv0
   rcases hv p x hx h1 with hk|⟨hk,a1,a2,a3,a4⟩
   ·rw[if_neg (by omega),if_neg (by omega),if_pos hk];split
    ·exact⟨p,hx,h1,hk⟩
    ·split
     ·rename_i hff
      exact zbn parts G hv r (p+1) ro c f hr' hl' hro (Or.inl hff) hc
     ·exact zbn parts G hv r (p+1) ro x true hr' hl' hro (Or.inl rfl) (fun _=>⟨p,hx,h1,hk⟩)
   ·by_cases k2:x.1=2
    ·rw[if_pos k2];exact zbn parts G hv r (p+1) _ c f hr' hl' (by simp[hro]) (Or.inr (keep _ h2 a1 a2 a3 a4)) hc
    ·have k3:x.1=3:=by omega
     rw[if_neg k2,if_pos k3];split
     ·exact zbn parts G hv r (p+1) _ c f hr' hl' (by simp[hro]) (Or.inr (keep _ h2 a1 a2 a3 a4)) hc
     ·exact zbn parts G hv r (p+1) _ c f hr' hl' (by simp[hro]) (Or.inr (keep 1 (by decide) a1 a2 a3 a4)) hc
def spt (n:Nat) (h f:List UInt8):List UInt8:=if 200000<h.length then h else if 200000<f.length then f else 63::(Lib.itoa n++58::(h++f))
attribute [local go_sem high] zc0
theorem zbo (n:Nat) (h f:List UInt8) (w:World) (hn:n≤4000) (h1:h.length≤10000000) (h2:f.length≤10000000) (hg:Gt w) :
 Calls Tryz.prog 188 #[.int .i64 n,.string ⟨h.toArray⟩,.string ⟨f.toArray⟩] w fun e w'=>e=.returned (.string ⟨(spt n h f).toArray⟩)∧Below w.heap.size w w':=by
 have hz1:(⟨h.toArray⟩:ByteArray).size=h.length:=by simp[ByteArray.size]
 have hz2:(⟨f.toArray⟩:ByteArray).size=f.length:=by simp[ByteArray.size]
 by_cases e1:200000<h.length
 ·have e1':(200000:Int)<(h.length:Int):=by omega
  go_enter Tryz.func188,Tryz.ntmps188;go_wp2;go_ret;exact⟨by unfold spt;rw[if_pos e1];rfl,Below.refl _ _⟩
 ·have e1':¬(200000:Int)<(h.length:Int):=by omega
  by_cases e2:200000<f.length
  ·have e2':(200000:Int)<(f.length:Int):=by omega
   go_enter Tryz.func188,Tryz.ntmps188;go_wp2;go_ret;exact⟨by unfold spt;rw[if_neg e1,if_pos e2];rfl,Below.refl _ _⟩
  ·have e2':¬(200000:Int)<(f.length:Int):=by omega
   have hil:=zaX (n:=(n:Int)) (by omega) (by omega);have CI:Hid (∀X,Below w.heap.size w X→Calls Tryz.prog 144 #[.int .i64 n] X fun e w'=>e=.returned (.string ⟨(Lib.itoa n).toArray⟩)∧Below X.heap.size X w'):=fun X hX=>zdl n (by omega) (by omega) X (hg.on hX)
   have hs:spt n h f=63::(Lib.itoa n++58::(h++f)):=by unfold spt;rw[if_neg e1,if_neg e2]
   rw[hs];clear hs;generalize Lib.itoa (n:Int)=D at *;have q1:Sh ⟨#[63]⟩:=by unfold Sh;show 1≤100000000;omega
   have q2:Sh ⟨D.toArray⟩:=zk3 (by omega);have hDz:(⟨D.toArray⟩:ByteArray).size=D.length:=by simp[ByteArray.size]
   have q3:Sh ((⟨#[63]⟩:ByteArray)++⟨D.toArray⟩):=za1 (by rw[hDz];show 1+D.length≤100000000;omega);have q4:Sh ⟨#[58]⟩:=by unfold Sh;show 1≤100000000;omega
   have q5:Sh ((⟨#[63]⟩:ByteArray)++⟨D.toArray⟩++⟨#[58]⟩):=za1 (by rw[ByteArray.size_append',hDz];show 1+D.length+1≤100000000;omega);have q6:Sh ⟨h.toArray⟩:=zk3 (by omega);have q7:Sh ((⟨#[63]⟩:ByteArray)++⟨D.toArray⟩++⟨#[58]⟩++⟨h.toArray⟩):=za1 (by rw[ByteArray.size_append',ByteArray.size_append',hDz,hz1];show 1+D.length+1+h.length≤100000000;omega);have q8:Sh ⟨f.toArray⟩:=zk3 (by omega);clear hDz;go_enter Tryz.func188,Tryz.ntmps188;go_wp2_with (first|(go_at_call 144;refine Calls.mono (CI.out _ (Below.refl _ _)) ?_;rintro e w3 ⟨rfl,hb3⟩));go_ret;refine⟨?_,hb3⟩;have a1:(⟨#[63]⟩:ByteArray)++⟨D.toArray⟩=⟨([63]++D).toArray⟩:=zaq [63] D;have a2:(⟨([63]++D).toArray⟩:ByteArray)++⟨#[58]⟩=⟨(([63]++D)++[58]).toArray⟩:=zaq ([63]++D) [58];rw[a1,a2,zaq,zaq];simp
structure SetR (ws:List Nat) (nd:Nat→Bool):Prop where
 len:ws.length=9
 lt:∀x∈ws,x<18446744073709551616
 bit:∀n,n<576→(ws.getD (n/64) 0).testBit (n%64)=nd n
def SetAt (w:World) (b o:Nat) (ws:List Nat):Prop:=b<w.heap.size∧∀(i x:Nat),ws[i]?=some x→w.cell? ⟨b,o+i,none⟩=some (.int .u64 (x:Int))
theorem zgt (w:World) (b o n:Nat) (ws:List Nat) (nd:Nat→Bool) (hs:SetR ws nd) (ha:SetAt w b o ws) (hn:n<576) :
 Calls Tryz.prog 184 #[.pointer (some ⟨b,o,none⟩),.int .i64 n] w fun e w'=>e=.returned (.bool (nd n))∧w=w':=by
 have hq:(n:Int).tdiv 64=((n/64:Nat):Int):=rfl;have hr:(n:Int).tmod 64=((n%64:Nat):Int):=rfl;have hlt:n/64<ws.length:=by rw[hs.len];omega
 have hc:=ha.2 (n/64) _ (List.getElem?_eq_getElem hlt);have hb:=hs.bit n hn;have hx:=hs.lt _ (List.getElem_mem hlt);rw[List.getD_eq_getElem?_getD,List.getElem?_eq_getElem hlt] at hb;dsimp only[Option.getD_some] at hb;generalize ws[n/64]=x at *;have hq9:((n/64:Nat):Int)<9:=by omega
 have hr64:n%64<64:=by omega
 generalize n/64=q at *;generalize n%64=r at *;go_enter Tryz.func184,Tryz.ntmps184;go_wp2;go_ret;refine⟨?_,rfl⟩;have e:bits .and .u64 ((x:Int)/2^r) 1=(((x/2^r) &&& 1:Nat):Int):=by
  have h:=bits_and_u64_nat (x/2^r) 1 (Nat.lt_of_le_of_lt (Nat.div_le_self _ _) hx) (by decide);rw[←h]
  congr 1
 show Ending.returned (.bool (bits .and .u64 ((x:Int)/2^r) 1==1))=_
 rw[e,←hb,Nat.and_one_is_mod,Nat.testBit_eq_decide_div_mod_eq]
 congr 2
 rcases Nat.mod_two_eq_zero_or_one (x/2^r) with h|h<;>rw[h]<;>rfl
def adw (ws:List Nat) (n:Nat):List Nat:=ws.set (n/64) (ws.getD (n/64) 0 ||| 2^(n%64))
theorem SetR.add {ws:List Nat} {nd:Nat→Bool} (h:SetR ws nd) (n:Nat) (hn:n<576):SetR (adw ws n) (fun i=>nd i||i==n):=by
 have hlt:n/64<ws.length:=by rw[h.len];omega
 have h64:n%64<64:=by omega
 refine⟨by unfold adw;rw[List.length_set,h.len],fun x hx=>?_,fun i hi=>?_⟩
 ·rcases List.mem_or_eq_of_mem_set hx with hx|rfl
  ·exact h.lt x hx
  ·have h1:ws.getD (n/64) 0<2^64:=by
    rw[List.getD_eq_getElem?_getD,List.getElem?_eq_getElem hlt];exact h.lt _ (List.getElem_mem hlt)
   have h2:2^(n%64)<2^64:=Nat.pow_lt_pow_right (by decide) h64;exact Nat.or_lt_two_pow h1 h2
 ·have hb:=h.bit i hi;rw[←hb];unfold adw;by_cases e:n/64=i/64
  ·rw[List.getD_eq_getElem?_getD,List.getElem?_set,if_pos e,if_pos hlt,Option.getD_some,Nat.testBit_or,Nat.testBit_two_pow,e]
   congr 1
   rw[Bool.eq_iff_iff];simp;omega
  ·rw[List.getD_eq_getElem?_getD,List.getElem?_set,if_neg e,←List.getD_eq_getElem?_getD];have:(i==n)=false:=by rw[beq_eq_false_iff_ne];omega
   rw[this,Bool.or_false]
theorem zgu (w:World) (b o n:Nat) (ws:List Nat) (nd:Nat→Bool) (hs:SetR ws nd) (ha:SetAt w b o ws) (hfr:∀i,w.frozen? ⟨b,i,none⟩=false) (hn:n<576) :
 Calls Tryz.prog 185 #[.pointer (some ⟨b,o,none⟩),.int .i64 n] w fun e w'=>e=.returned (.tuple #[])∧w'=(w.setCell ⟨b,o+n/64,none⟩ (.int .u64 ((ws.getD (n/64) 0 ||| 2^(n%64):Nat):Int))).drew:=by
 have hq:(n:Int).tdiv 64=((n/64:Nat):Int):=rfl;have hr:(n:Int).tmod 64=((n%64:Nat):Int):=rfl;have hlt:n/64<ws.length:=by rw[hs.len];omega
 have hc:=ha.2 (n/64) _ (List.getElem?_eq_getElem hlt);have hx:=hs.lt _ (List.getElem_mem hlt);rw[List.getD_eq_getElem?_getD,List.getElem?_eq_getElem hlt];dsimp only[Option.getD_some];generalize ws[n/64]=x at *;have hq9:((n/64:Nat):Int)<9:=by omega
 have hr64:n%64<64:=by omega
 generalize n/64=q at *;generalize n%64=r at *;have hfq:=hfr (o+q);have he:bits .or .u64 (x:Int) (IntKind.u64.wrap (2^r))=((x ||| 2^r:Nat):Int):=by
  have h2:2^r<2^64:=Nat.pow_lt_pow_right (by decide) hr64;rw[←bits_or_u64_nat x (2^r) hx h2]
  congr 1
  have h3:(2:Int)^r=((2^r:Nat):Int):=by simp
  rw[IntKind.wrap_u64,h3];generalize 2^r=y at *;omega
 go_enter Tryz.func185,Tryz.ntmps185;go_wp2;go_region;go_wp2
 go_end0
 exact⟨rfl,rfl⟩
end Go.Proofs.YtkinoehmcfhgbaaGreatDoor.Vl
