/- A part of the proof. -/
import Derived.Test.YtkinoehmcfhgbaaGreatDoorF1
set_option linter.unusedVariables false
set_option linter.unusedSimpArgs false
set_option maxRecDepth 100000
set_option maxHeartbeats 2000000
namespace Go.Proofs.YtkinoehmcfhgbaaGreatDoor.Vl
open Go.RowKit
open Av (Fm IsF fv Same zac)
theorem zf0 (r l m:Int) (w:World) (h:0≤r∧r≤4) :
 Calls Tryz.prog 73 #[.int .i64 r,.int .i64 l,.int .i64 m] w fun e w'=>e=.returned (.bool (cmpB r l m))∧w=w':=by
 have hr:r=0∨r=1∨r=2∨r=3∨r=4:=by omega
 rcases hr with rfl|rfl|rfl|rfl|rfl
 all_goals
  go_enter Tryz.func73,Tryz.ntmps73;go_wp2
  all_goals go_ret
  all_goals refine⟨zaI ?_,rfl⟩
  all_goals first|rfl|(simp[cmpB];done)
theorem zbT (a b x1 x2 x3 x4:Int) (w:World) (h:tOk (a,b)) (hg:gds x1 x2 x3 x4=true) :
 Calls Tryz.prog 74 #[.agg #[.int .i64 a,.int .i64 b],.agg #[.int .i64 x1,.int .i64 x2,.int .i64 x3,.int .i64 x4]] w fun e w'=>e=.returned (.int .i64 (tv x1 x2 x3 x4 (a,b)))∧Below w.heap.size w w':=by
 have b0:Below w.heap.size w ((w.alloc (.cells #[.int .i64 a,.int .i64 b] 96)).alloc (.cells #[.int .i64 x1,.int .i64 x2,.int .i64 x3,.int .i64 x4] 36)):=(zaa w _).alloc (by simp) _;have hx1:-1000000000≤x1∧x1≤1000000000:=by simpa [xv] using zbM hg 1
 have hx2:-1000000000≤x2∧x2≤1000000000:=by simpa [xv] using zbM hg 2
 have hx3:-1000000000≤x3∧x3≤1000000000:=by simpa [xv] using zbM hg 3
 have hx4:-1000000000≤x4∧x4≤1000000000:=by simpa [xv] using zbM hg 4
 obtain⟨h1,h2,h3,h4⟩:=h;dsimp only at h1 h2 h3 h4;have ha:a=-1∨a=0∨a=1∨a=2∨a=3:=by omega
 clear hg h1 h2;rcases ha with rfl|rfl|rfl|rfl|rfl
 ·go_enter Tryz.func74,Tryz.ntmps74;go_wp2;go_ret;exact⟨by simp[tv,xv],b0⟩
 all_goals
  go_enter Tryz.func74,Tryz.ntmps74;go_wp2
  go_quiet (fail)
  go_wp2;go_ret;refine⟨?_,below_drewN b0 _⟩;simp[tv,xv]
def TwC (w w':World) (B:Nat) (r a1 a2 b1 b2:Int) (x1 x2 x3 x4:Int):Prop :=
 Below w.heap.size w w'∧B+1<w'.heap.size∧w'.cell? ⟨B,2,none⟩=some (.int .i64 r)∧w'.cell? ⟨B,3,none⟩=some (.int .i64 a1)∧w'.cell? ⟨B,4,none⟩=some (.int .i64 a2)∧w'.cell? ⟨B,5,none⟩=some (.int .i64 b1)∧w'.cell? ⟨B,6,none⟩=some (.int .i64 b2)∧w'.cell? ⟨B+1,0,none⟩=some (.int .i64 x1)∧w'.cell? ⟨B+1,1,none⟩=some (.int .i64 x2)∧w'.cell? ⟨B+1,2,none⟩=some (.int .i64 x3)∧w'.cell? ⟨B+1,3,none⟩=some (.int .i64 x4)
theorem TwC.on {w X X':World} {B:Nat} {r a1 a2 b1 b2:Int} {x1 x2 x3 x4:Int} (h:TwC w X B r a1 a2 b1 b2 x1 x2 x3 x4) (hb:Below X.heap.size X X'):TwC w X' B r a1 a2 b1 b2 x1 x2 x3 x4:=by
 obtain⟨h0,h1,h2,h3,h4,h5,h6,h7,h8,h9,h10⟩:=h;have hB:B<X.heap.size:=by omega
 exact⟨h0.trans (hb.mono h0.size),Nat.lt_of_lt_of_le h1 hb.size,(hb.cell (p:=⟨B,2,none⟩) hB).trans h2,(hb.cell (p:=⟨B,3,none⟩) hB).trans h3,(hb.cell (p:=⟨B,4,none⟩) hB).trans h4,(hb.cell (p:=⟨B,5,none⟩) hB).trans h5,(hb.cell (p:=⟨B,6,none⟩) hB).trans h6,(hb.cell (p:=⟨B+1,0,none⟩) h1).trans h7,(hb.cell (p:=⟨B+1,1,none⟩) h1).trans h8,(hb.cell (p:=⟨B+1,2,none⟩) h1).trans h9,(hb.cell (p:=⟨B+1,3,none⟩) h1).trans h10⟩
def TwN (w w':World) (B:Nat) (g z c:Nat) (k:Int) (p:Option Addr) (n m:Nat) (r a1 a2 a3 a4:Int) (x1 x2 x3 x4:Int):Prop :=
 Below w.heap.size w w'∧B+1<w'.heap.size∧w'.cell? ⟨B,1,none⟩=some (.slice (some ⟨g,0,none⟩) z c)∧w'.cell? ⟨B+1,0,none⟩=some (.int .i64 x1)∧w'.cell? ⟨B+1,1,none⟩=some (.int .i64 x2)∧w'.cell? ⟨B+1,2,none⟩=some (.int .i64 x3)∧w'.cell? ⟨B+1,3,none⟩=some (.int .i64 x4)∧g<w'.heap.size∧w'.cell? ⟨g,0,none⟩=some (.int .i64 k)∧w'.cell? ⟨g,1,none⟩=some (.slice p n m)∧w'.cell? ⟨g,2,none⟩=some (.int .i64 r)∧w'.cell? ⟨g,3,none⟩=some (.int .i64 a1)∧w'.cell? ⟨g,4,none⟩=some (.int .i64 a2)∧w'.cell? ⟨g,5,none⟩=some (.int .i64 a3)∧w'.cell? ⟨g,6,none⟩=some (.int .i64 a4)
theorem TwN.on {w X X':World} {B:Nat} {g z c:Nat} {k:Int} {p:Option Addr} {n m:Nat} {r a1 a2 a3 a4:Int} {x1 x2 x3 x4:Int} (h:TwN w X B g z c k p n m r a1 a2 a3 a4 x1 x2 x3 x4) (hb:Below X.heap.size X X'):TwN w X' B g z c k p n m r a1 a2 a3 a4 x1 x2 x3 x4:=by
 obtain⟨h0,h1,h2,h3,h4,h5,h6,h7,h8,h9,h10,h11,h12,h13,h14⟩:=h;have hB:B<X.heap.size:=by omega
 have hg:g<X.heap.size:=h7;exact⟨h0.trans (hb.mono h0.size),Nat.lt_of_lt_of_le h1 hb.size,(hb.cell (p:=⟨B,1,none⟩) hB).trans h2,(hb.cell (p:=⟨B+1,0,none⟩) h1).trans h3,(hb.cell (p:=⟨B+1,1,none⟩) h1).trans h4,(hb.cell (p:=⟨B+1,2,none⟩) h1).trans h5,(hb.cell (p:=⟨B+1,3,none⟩) h1).trans h6,Nat.lt_of_lt_of_le h7 hb.size,(hb.cell (p:=⟨g,0,none⟩) hg).trans h8,(hb.cell (p:=⟨g,1,none⟩) hg).trans h9,(hb.cell (p:=⟨g,2,none⟩) hg).trans h10,(hb.cell (p:=⟨g,3,none⟩) hg).trans h11,(hb.cell (p:=⟨g,4,none⟩) hg).trans h12,(hb.cell (p:=⟨g,5,none⟩) hg).trans h13,(hb.cell (p:=⟨g,6,none⟩) hg).trans h14⟩
def TwA (w w':World) (B:Nat) (g z c:Nat) (k:Int) (p:Option Addr) (n m:Nat) (r a1 a2 a3 a4:Int) (k':Int) (p':Option Addr) (n' m':Nat) (r' b1 b2 b3 b4:Int) (x1 x2 x3 x4:Int):Prop :=
 Below w.heap.size w w'∧B+1<w'.heap.size∧w'.cell? ⟨B,1,none⟩=some (.slice (some ⟨g,0,none⟩) z c)∧w'.cell? ⟨B+1,0,none⟩=some (.int .i64 x1)∧w'.cell? ⟨B+1,1,none⟩=some (.int .i64 x2)∧w'.cell? ⟨B+1,2,none⟩=some (.int .i64 x3)∧w'.cell? ⟨B+1,3,none⟩=some (.int .i64 x4)∧g<w'.heap.size∧w'.cell? ⟨g,0,none⟩=some (.int .i64 k)∧w'.cell? ⟨g,1,none⟩=some (.slice p n m)∧w'.cell? ⟨g,2,none⟩=some (.int .i64 r)∧w'.cell? ⟨g,3,none⟩=some (.int .i64 a1)∧w'.cell? ⟨g,4,none⟩=some (.int .i64 a2)∧w'.cell? ⟨g,5,none⟩=some (.int .i64 a3)∧w'.cell? ⟨g,6,none⟩=some (.int .i64 a4)∧w'.cell? ⟨g,7,none⟩=some (.int .i64 k')∧w'.cell? ⟨g,8,none⟩=some (.slice p' n' m')∧w'.cell? ⟨g,9,none⟩=some (.int .i64 r')∧w'.cell? ⟨g,10,none⟩=some (.int .i64 b1)∧w'.cell? ⟨g,11,none⟩=some (.int .i64 b2)∧w'.cell? ⟨g,12,none⟩=some (.int .i64 b3)∧w'.cell? ⟨g,13,none⟩=some (.int .i64 b4)
theorem TwA.on {w X X':World} {B:Nat} {g z c:Nat} {k:Int} {p:Option Addr} {n m:Nat} {r a1 a2 a3 a4:Int} {k':Int} {p':Option Addr} {n' m':Nat} {r' b1 b2 b3 b4:Int} {x1 x2 x3 x4:Int} (h:TwA w X B g z c k p n m r a1 a2 a3 a4 k' p' n' m' r' b1 b2 b3 b4 x1 x2 x3 x4) (hb:Below X.heap.size X X'):TwA w X' B g z c k p n m r a1 a2 a3 a4 k' p' n' m' r' b1 b2 b3 b4 x1 x2 x3 x4:=by
 obtain⟨h0,h1,h2,h3,h4,h5,h6,h7,h8,h9,h10,h11,h12,h13,h14,h15,h16,h17,h18,h19,h20,h21⟩:=h;have hB:B<X.heap.size:=by omega
 have hg:g<X.heap.size:=h7;exact⟨h0.trans (hb.mono h0.size),Nat.lt_of_lt_of_le h1 hb.size,(hb.cell (p:=⟨B,1,none⟩) hB).trans h2,(hb.cell (p:=⟨B+1,0,none⟩) h1).trans h3,(hb.cell (p:=⟨B+1,1,none⟩) h1).trans h4,(hb.cell (p:=⟨B+1,2,none⟩) h1).trans h5,(hb.cell (p:=⟨B+1,3,none⟩) h1).trans h6,Nat.lt_of_lt_of_le h7 hb.size,(hb.cell (p:=⟨g,0,none⟩) hg).trans h8,(hb.cell (p:=⟨g,1,none⟩) hg).trans h9,(hb.cell (p:=⟨g,2,none⟩) hg).trans h10,(hb.cell (p:=⟨g,3,none⟩) hg).trans h11,(hb.cell (p:=⟨g,4,none⟩) hg).trans h12,(hb.cell (p:=⟨g,5,none⟩) hg).trans h13,(hb.cell (p:=⟨g,6,none⟩) hg).trans h14,(hb.cell (p:=⟨g,7,none⟩) hg).trans h15,(hb.cell (p:=⟨g,8,none⟩) hg).trans h16,(hb.cell (p:=⟨g,9,none⟩) hg).trans h17,(hb.cell (p:=⟨g,10,none⟩) hg).trans h18,(hb.cell (p:=⟨g,11,none⟩) hg).trans h19,(hb.cell (p:=⟨g,12,none⟩) hg).trans h20,(hb.cell (p:=⟨g,13,none⟩) hg).trans h21⟩
theorem zlZ (w:World) (u v:Obj):Below w.heap.size w ((w.alloc u).alloc v):=(zaa w _).alloc (by simp) _
theorem zd5 (k:Int) (hk:k=0∨k=1) (p:Option Addr) (n c:Nat) (r a1 a2 a3 a4 x1 x2 x3 x4:Int) (w:World) :
 Calls Tryz.prog 45 #[.agg #[.int .i64 k,.slice p n c,.int .i64 r,.int .i64 a1,.int .i64 a2,.int .i64 a3,.int .i64 a4],.agg #[.int .i64 x1,.int .i64 x2,.int .i64 x3,.int .i64 x4]] w fun e w'=>e=.returned (.bool (k==0))∧Below w.heap.size w w':=by
 rcases hk with rfl|rfl
 all_goals
  go_enter Tryz.func45,Tryz.ntmps45;go_wp2;go_ret;exact⟨rfl,zlZ w _ _⟩
theorem ziJ (p:Option Addr) (n c:Nat) (r a1 a2 b1 b2 x1 x2 x3 x4:Int) (w:World) (hr:0≤r∧r≤4) (ha:tOk (a1,a2)) (hb:tOk (b1,b2)) (hg:gds x1 x2 x3 x4=true) :
 Calls Tryz.prog 45 #[.agg #[.int .i64 2,.slice p n c,.int .i64 r,.int .i64 a1,.int .i64 a2,.int .i64 b1,.int .i64 b2],.agg #[.int .i64 x1,.int .i64 x2,.int .i64 x3,.int .i64 x4]] w fun e w'=>e=.returned (.bool (cmpB r (tv x1 x2 x3 x4 (a1,a2)) (tv x1 x2 x3 x4 (b1,b2))))∧Below w.heap.size w w':=by
 have CA:Hid (∀w,Calls Tryz.prog 74 #[.agg #[.int .i64 a1,.int .i64 a2],.agg #[.int .i64 x1,.int .i64 x2,.int .i64 x3,.int .i64 x4]] w fun e w'=>e=.returned (.int .i64 (tv x1 x2 x3 x4 (a1,a2)))∧Below w.heap.size w w'):=fun w=>zbT a1 a2 x1 x2 x3 x4 w ha hg
 have CB:Hid (∀w,Calls Tryz.prog 74 #[.agg #[.int .i64 b1,.int .i64 b2],.agg #[.int .i64 x1,.int .i64 x2,.int .i64 x3,.int .i64 x4]] w fun e w'=>e=.returned (.int .i64 (tv x1 x2 x3 x4 (b1,b2)))∧Below w.heap.size w w'):=fun w=>zbT b1 b2 x1 x2 x3 x4 w hb hg
 have CC:Hid (∀w,Calls Tryz.prog 73 #[.int .i64 r,.int .i64 (tv x1 x2 x3 x4 (a1,a2)),.int .i64 (tv x1 x2 x3 x4 (b1,b2))] w fun e w'=>e=.returned (.bool (cmpB r (tv x1 x2 x3 x4 (a1,a2)) (tv x1 x2 x3 x4 (b1,b2))))∧w=w'):=fun w=>zf0 r _ _ w hr
 clear ha hb hr hg;generalize cmpB r (tv x1 x2 x3 x4 (a1,a2)) (tv x1 x2 x3 x4 (b1,b2))=R at *;generalize tv x1 x2 x3 x4 (a1,a2)=VA at *;generalize tv x1 x2 x3 x4 (b1,b2)=VB at *;go_enter Tryz.func45,Tryz.ntmps45;go_wp2_with fail;have bb0:Below w.heap.size w ((w.alloc (.cells #[.int .i64 2,.slice p n c,.int .i64 r,.int .i64 a1,.int .i64 a2,.int .i64 b1,.int .i64 b2] 98)).alloc (.cells #[.int .i64 x1,.int .i64 x2,.int .i64 x3,.int .i64 x4] 36)):=(zaa w _).alloc (by simp) _;generalize hW:((w.alloc (.cells #[.int .i64 2,.slice p n c,.int .i64 r,.int .i64 a1,.int .i64 a2,.int .i64 b1,.int .i64 b2] 98)).alloc (.cells #[.int .i64 x1,.int .i64 x2,.int .i64 x3,.int .i64 x4] 36))=W at *;have s0:w.heap.size+1<W.heap.size:=by rw[←hW];simp
 have c2:W.cell? ⟨w.heap.size,2,none⟩=some (.int .i64 r):=by rw[←hW];simp
 have c3:W.cell? ⟨w.heap.size,3,none⟩=some (.int .i64 a1):=by rw[←hW];simp
 have c4:W.cell? ⟨w.heap.size,4,none⟩=some (.int .i64 a2):=by rw[←hW];simp
 have c5:W.cell? ⟨w.heap.size,5,none⟩=some (.int .i64 b1):=by rw[←hW];simp
 have c6:W.cell? ⟨w.heap.size,6,none⟩=some (.int .i64 b2):=by rw[←hW];simp
 have d0:W.cell? ⟨w.heap.size+1,0,none⟩=some (.int .i64 x1):=by rw[←hW];simp
 have d1:W.cell? ⟨w.heap.size+1,1,none⟩=some (.int .i64 x2):=by rw[←hW];simp
 have d2:W.cell? ⟨w.heap.size+1,2,none⟩=some (.int .i64 x3):=by rw[←hW];simp
 have d3:W.cell? ⟨w.heap.size+1,3,none⟩=some (.int .i64 x4):=by rw[←hW];simp
 have bb1:Below w.heap.size w W.drew:=bb0.drew;have T0:TwC w W.drew w.heap.size r a1 a2 b1 b2 x1 x2 x3 x4:=⟨bb1,s0,c2,c3,c4,c5,c6,d0,d1,d2,d3⟩;clear hW;go_region_held3 (fun w'=>Below w.heap.size w w'∧w.heap.size+1<w'.heap.size∧w'.cell? ⟨w.heap.size,2,none⟩=some (.int .i64 r)∧w'.cell? ⟨w.heap.size,3,none⟩=some (.int .i64 a1)∧w'.cell? ⟨w.heap.size,4,none⟩=some (.int .i64 a2)∧w'.cell? ⟨w.heap.size,5,none⟩=some (.int .i64 b1)∧w'.cell? ⟨w.heap.size,6,none⟩=some (.int .i64 b2)∧w'.cell? ⟨w.heap.size+1,0,none⟩=some (.int .i64 x1)∧w'.cell? ⟨w.heap.size+1,1,none⟩=some (.int .i64 x2)∧w'.cell? ⟨w.heap.size+1,2,none⟩=some (.int .i64 x3)∧w'.cell? ⟨w.heap.size+1,3,none⟩=some (.int .i64 x4)) (simp[*]) (first|(go_at_call 73;refine(CC.out _).mono ?_;rintro e w4 ⟨rfl,rfl⟩)|(go_at_call 74;first|(have hh:=T1;refine(CB.out _).mono ?_;rintro e w3 ⟨rfl,hb3⟩;have T2:=T1.on hb3;obtain⟨t0,t1,t2,t3,t4,t5,t6,t7,t8,t9,t10⟩:=id T2)|(refine(CA.out _).mono ?_;rintro e w3 ⟨rfl,hb3⟩;have T1:=T0.on hb3;obtain⟨t0,t1,t2,t3,t4,t5,t6,t7,t8,t9,t10⟩:=id T1)));go_wp2_with fail;go_ret;exact⟨rfl,t0⟩
theorem zkw (g c:Nat) (fr e1 e2 e3 e4:Int) (k:Int) (p:Option Addr) (n m:Nat) (r a1 a2 a3 a4:Int) (k':Int) (p':Option Addr) (n' m':Nat) (r' b1 b2 b3 b4:Int) (x1 x2 x3 x4:Int) (E1 E2:Bool) (w:World) (hgs:g<w.heap.size) (hc:1≤c∧c≤maxLen) (hu0:w.cell? ⟨g,0,none⟩=some (.int .i64 k)) (hu1:w.cell? ⟨g,1,none⟩=some (.slice p n m)) (hu2:w.cell? ⟨g,2,none⟩=some (.int .i64 r)) (hu3:w.cell? ⟨g,3,none⟩=some (.int .i64 a1)) (hu4:w.cell? ⟨g,4,none⟩=some (.int .i64 a2)) (hu5:w.cell? ⟨g,5,none⟩=some (.int .i64 a3)) (hu6:w.cell? ⟨g,6,none⟩=some (.int .i64 a4)) (C1:∀X,Below w.heap.size w X→Calls Tryz.prog 45 #[.agg #[.int .i64 k,.slice p n m,.int .i64 r,.int .i64 a1,.int .i64 a2,.int .i64 a3,.int .i64 a4],.agg #[.int .i64 x1,.int .i64 x2,.int .i64 x3,.int .i64 x4]] X fun e w'=>e=.returned (.bool E1)∧Below X.heap.size X w') :
 Calls Tryz.prog 45 #[.agg #[.int .i64 3,.slice (some ⟨g,0,none⟩) 1 c,.int .i64 fr,.int .i64 e1,.int .i64 e2,.int .i64 e3,.int .i64 e4],.agg #[.int .i64 x1,.int .i64 x2,.int .i64 x3,.int .i64 x4]] w fun e w'=>e=.returned (.bool (!E1))∧Below w.heap.size w w':=by
 have HC1:Hid _:=C1;clear C1;obtain⟨hc1,hc2⟩:=hc;go_enter Tryz.func45,Tryz.ntmps45;go_wp2_with fail;have bb0:Below w.heap.size w ((w.alloc (.cells #[.int .i64 3,.slice (some ⟨g,0,none⟩) 1 c,.int .i64 fr,.int .i64 e1,.int .i64 e2,.int .i64 e3,.int .i64 e4] 98)).alloc (.cells #[.int .i64 x1,.int .i64 x2,.int .i64 x3,.int .i64 x4] 36)):=(zaa w _).alloc (by simp) _;have q0:=(bb0.cell (p:=⟨g,0,none⟩) hgs).trans hu0;have q1:=(bb0.cell (p:=⟨g,1,none⟩) hgs).trans hu1;have q2:=(bb0.cell (p:=⟨g,2,none⟩) hgs).trans hu2;have q3:=(bb0.cell (p:=⟨g,3,none⟩) hgs).trans hu3;have q4:=(bb0.cell (p:=⟨g,4,none⟩) hgs).trans hu4;have q5:=(bb0.cell (p:=⟨g,5,none⟩) hgs).trans hu5;have q6:=(bb0.cell (p:=⟨g,6,none⟩) hgs).trans hu6;clear hu0 hu1 hu2 hu3 hu4 hu5 hu6;generalize hW:((w.alloc (.cells #[.int .i64 3,.slice (some ⟨g,0,none⟩) 1 c,.int .i64 fr,.int .i64 e1,.int .i64 e2,.int .i64 e3,.int .i64 e4] 98)).alloc (.cells #[.int .i64 x1,.int .i64 x2,.int .i64 x3,.int .i64 x4] 36))=W at *;have s0:w.heap.size+1<W.heap.size:=by rw[←hW];simp
 have sg:g<W.heap.size:=by have:=s0;omega
 have c1:W.cell? ⟨w.heap.size,1,none⟩=some (.slice (some ⟨g,0,none⟩) 1 c):=by rw[←hW];simp
 have d0:W.cell? ⟨w.heap.size+1,0,none⟩=some (.int .i64 x1):=by rw[←hW];simp
 have d1:W.cell? ⟨w.heap.size+1,1,none⟩=some (.int .i64 x2):=by rw[←hW];simp
 have d2:W.cell? ⟨w.heap.size+1,2,none⟩=some (.int .i64 x3):=by rw[←hW];simp
 have d3:W.cell? ⟨w.heap.size+1,3,none⟩=some (.int .i64 x4):=by rw[←hW];simp
 have bb1:Below w.heap.size w W.drew:=bb0.drew;have T0:TwN w W.drew w.heap.size g 1 c k p n m r a1 a2 a3 a4 x1 x2 x3 x4:=⟨bb1,s0,c1,d0,d1,d2,d3,sg,q0,q1,q2,q3,q4,q5,q6⟩;clear hW;go_region_held3 (fun w'=>Below w.heap.size w w'∧w.heap.size+1<w'.heap.size∧w'.cell? ⟨w.heap.size,1,none⟩=some (.slice (some ⟨g,0,none⟩) 1 c)∧w'.cell? ⟨w.heap.size+1,0,none⟩=some (.int .i64 x1)∧w'.cell? ⟨w.heap.size+1,1,none⟩=some (.int .i64 x2)∧w'.cell? ⟨w.heap.size+1,2,none⟩=some (.int .i64 x3)∧w'.cell? ⟨w.heap.size+1,3,none⟩=some (.int .i64 x4)∧g<w'.heap.size∧w'.cell? ⟨g,0,none⟩=some (.int .i64 k)∧w'.cell? ⟨g,1,none⟩=some (.slice p n m)∧w'.cell? ⟨g,2,none⟩=some (.int .i64 r)∧w'.cell? ⟨g,3,none⟩=some (.int .i64 a1)∧w'.cell? ⟨g,4,none⟩=some (.int .i64 a2)∧w'.cell? ⟨g,5,none⟩=some (.int .i64 a3)∧w'.cell? ⟨g,6,none⟩=some (.int .i64 a4)) (simp[*]) (first|(go_at_call 45;first|(refine(Calls.mono (HC1.out _ T0.1) ?_);rintro e w3 ⟨rfl,hb3⟩;have T1:=T0.on hb3;obtain⟨t0,t1,t2,t3,t4,t5,t6,t7,t8,t9,t10,t11,t12,t13,t14⟩:=id T1)));go_wp2_with fail;go_ret;exact⟨rfl,t0⟩
theorem ziK (g c:Nat) (fr e1 e2 e3 e4:Int) (k:Int) (p:Option Addr) (n m:Nat) (r a1 a2 a3 a4:Int) (k':Int) (p':Option Addr) (n' m':Nat) (r' b1 b2 b3 b4:Int) (x1 x2 x3 x4:Int) (E1 E2:Bool) (w:World) (hgs:g<w.heap.size) (hc:2≤c∧c≤maxLen) (hu0:w.cell? ⟨g,0,none⟩=some (.int .i64 k)) (hu1:w.cell? ⟨g,1,none⟩=some (.slice p n m)) (hu2:w.cell? ⟨g,2,none⟩=some (.int .i64 r)) (hu3:w.cell? ⟨g,3,none⟩=some (.int .i64 a1)) (hu4:w.cell? ⟨g,4,none⟩=some (.int .i64 a2)) (hu5:w.cell? ⟨g,5,none⟩=some (.int .i64 a3)) (hu6:w.cell? ⟨g,6,none⟩=some (.int .i64 a4)) (hv0:w.cell? ⟨g,7,none⟩=some (.int .i64 k')) (hv1:w.cell? ⟨g,8,none⟩=some (.slice p' n' m')) (hv2:w.cell? ⟨g,9,none⟩=some (.int .i64 r')) (hv3:w.cell? ⟨g,10,none⟩=some (.int .i64 b1)) (hv4:w.cell? ⟨g,11,none⟩=some (.int .i64 b2)) (hv5:w.cell? ⟨g,12,none⟩=some (.int .i64 b3)) (hv6:w.cell? ⟨g,13,none⟩=some (.int .i64 b4)) (C1:∀X,Below w.heap.size w X→Calls Tryz.prog 45 #[.agg #[.int .i64 k,.slice p n m,.int .i64 r,.int .i64 a1,.int .i64 a2,.int .i64 a3,.int .i64 a4],.agg #[.int .i64 x1,.int .i64 x2,.int .i64 x3,.int .i64 x4]] X fun e w'=>e=.returned (.bool E1)∧Below X.heap.size X w') (C2:∀X,Below w.heap.size w X→Calls Tryz.prog 45 #[.agg #[.int .i64 k',.slice p' n' m',.int .i64 r',.int .i64 b1,.int .i64 b2,.int .i64 b3,.int .i64 b4],.agg #[.int .i64 x1,.int .i64 x2,.int .i64 x3,.int .i64 x4]] X fun e w'=>e=.returned (.bool E2)∧Below X.heap.size X w') :
 Calls Tryz.prog 45 #[.agg #[.int .i64 4,.slice (some ⟨g,0,none⟩) 2 c,.int .i64 fr,.int .i64 e1,.int .i64 e2,.int .i64 e3,.int .i64 e4],.agg #[.int .i64 x1,.int .i64 x2,.int .i64 x3,.int .i64 x4]] w fun e w'=>e=.returned (.bool (E1&&E2))∧Below w.heap.size w w':=by
 have HC1:Hid _:=C1;have HC2:Hid _:=C2;clear C1 C2;obtain⟨hc1,hc2⟩:=hc;cases E1
 ·go_enter Tryz.func45,Tryz.ntmps45;go_wp2_with fail;have bb0:Below w.heap.size w ((w.alloc (.cells #[.int .i64 4,.slice (some ⟨g,0,none⟩) 2 c,.int .i64 fr,.int .i64 e1,.int .i64 e2,.int .i64 e3,.int .i64 e4] 98)).alloc (.cells #[.int .i64 x1,.int .i64 x2,.int .i64 x3,.int .i64 x4] 36)):=(zaa w _).alloc (by simp) _;have q0:=(bb0.cell (p:=⟨g,0,none⟩) hgs).trans hu0;have q1:=(bb0.cell (p:=⟨g,1,none⟩) hgs).trans hu1;have q2:=(bb0.cell (p:=⟨g,2,none⟩) hgs).trans hu2;have q3:=(bb0.cell (p:=⟨g,3,none⟩) hgs).trans hu3;have q4:=(bb0.cell (p:=⟨g,4,none⟩) hgs).trans hu4;have q5:=(bb0.cell (p:=⟨g,5,none⟩) hgs).trans hu5;have q6:=(bb0.cell (p:=⟨g,6,none⟩) hgs).trans hu6;have r0:=(bb0.cell (p:=⟨g,7,none⟩) hgs).trans hv0;have r1:=(bb0.cell (p:=⟨g,8,none⟩) hgs).trans hv1;have r2:=(bb0.cell (p:=⟨g,9,none⟩) hgs).trans hv2;have r3:=(bb0.cell (p:=⟨g,10,none⟩) hgs).trans hv3;have r4:=(bb0.cell (p:=⟨g,11,none⟩) hgs).trans hv4;have r5:=(bb0.cell (p:=⟨g,12,none⟩) hgs).trans hv5;have r6:=(bb0.cell (p:=⟨g,13,none⟩) hgs).trans hv6;clear hu0 hu1 hu2 hu3 hu4 hu5 hu6 hv0 hv1 hv2 hv3 hv4 hv5 hv6;generalize hW:((w.alloc (.cells #[.int .i64 4,.slice (some ⟨g,0,none⟩) 2 c,.int .i64 fr,.int .i64 e1,.int .i64 e2,.int .i64 e3,.int .i64 e4] 98)).alloc (.cells #[.int .i64 x1,.int .i64 x2,.int .i64 x3,.int .i64 x4] 36))=W at *;have s0:w.heap.size+1<W.heap.size:=by rw[←hW];simp
  have sg:g<W.heap.size:=by have:=s0;omega
  have c1:W.cell? ⟨w.heap.size,1,none⟩=some (.slice (some ⟨g,0,none⟩) 2 c):=by rw[←hW];simp
  have d0:W.cell? ⟨w.heap.size+1,0,none⟩=some (.int .i64 x1):=by rw[←hW];simp
  have d1:W.cell? ⟨w.heap.size+1,1,none⟩=some (.int .i64 x2):=by rw[←hW];simp
  have d2:W.cell? ⟨w.heap.size+1,2,none⟩=some (.int .i64 x3):=by rw[←hW];simp
  have d3:W.cell? ⟨w.heap.size+1,3,none⟩=some (.int .i64 x4):=by rw[←hW];simp
  have bb1:Below w.heap.size w W.drew:=bb0.drew;have T0:TwA w W.drew w.heap.size g 2 c k p n m r a1 a2 a3 a4 k' p' n' m' r' b1 b2 b3 b4 x1 x2 x3 x4:=⟨bb1,s0,c1,d0,d1,d2,d3,sg,q0,q1,q2,q3,q4,q5,q6,r0,r1,r2,r3,r4,r5,r6⟩;clear hW;refine wp_region_held_drew (S:=fun w'=>Below w.heap.size w w'∧w.heap.size+1<w'.heap.size∧w'.cell? ⟨w.heap.size,1,none⟩=some (.slice (some ⟨g,0,none⟩) 2 c)∧w'.cell? ⟨w.heap.size+1,0,none⟩=some (.int .i64 x1)∧w'.cell? ⟨w.heap.size+1,1,none⟩=some (.int .i64 x2)∧w'.cell? ⟨w.heap.size+1,2,none⟩=some (.int .i64 x3)∧w'.cell? ⟨w.heap.size+1,3,none⟩=some (.int .i64 x4)∧g<w'.heap.size∧w'.cell? ⟨g,0,none⟩=some (.int .i64 k)∧w'.cell? ⟨g,1,none⟩=some (.slice p n m)∧w'.cell? ⟨g,2,none⟩=some (.int .i64 r)∧w'.cell? ⟨g,3,none⟩=some (.int .i64 a1)∧w'.cell? ⟨g,4,none⟩=some (.int .i64 a2)∧w'.cell? ⟨g,5,none⟩=some (.int .i64 a3)∧w'.cell? ⟨g,6,none⟩=some (.int .i64 a4)) (by kernel_rfl) ?_ (fun hHeld=>?_)
  ·simp[*]
  refine wpAnyH_take (i:=0) (oi:={dst:=some 33,op:=.fieldAddr 98 (.tmp 2) 1,type:=0,pos:= "machine.go:31",after:=#[],guard:=none}) (v:=?_) rfl (by kernel_rfl) (by kernel_rfl) (by kernel_rfl) (fun _ _ _ h=>h) (Or.inl ⟨by rfl,?_⟩) (by assumption) ?_
  rotate_left
  ·(intro w hSw;(try dsimp only at hSw);go_simp;(try with_reducible rfl))
  try simp only[Act.put,List.setIfInBounds_toArray,List.set_cons_zero,List.set_cons_succ]
  refine wpAnyH_take (i:=1) (oi:={dst:=some 34,op:=.load 93 (.tmp 33),type:=93,pos:= "machine.go:31",after:=#[{on:=0,ground:=.data}],guard:=none}) (v:=?_) rfl (by kernel_rfl) (by kernel_rfl) (by kernel_rfl) (fun _ _ _ h=>h) (Or.inl ⟨by rfl,?_⟩) (by assumption) ?_
  rotate_left
  ·(intro w hSw;(try dsimp only at hSw);go_simp;(try with_reducible rfl))
  try simp only[Act.put,List.setIfInBounds_toArray,List.set_cons_zero,List.set_cons_succ]
  refine wpAnyH_take (i:=2) (oi:={dst:=some 35,op:=.indexAddr 93 (.tmp 34) (.const (.int .i64 0)),type:=0,pos:= "machine.go:31",after:=#[{on:=1,ground:=.data}],guard:=none}) (v:=?_) rfl (by kernel_rfl) (by kernel_rfl) (by kernel_rfl) (fun _ _ _ h=>h) (Or.inl ⟨by rfl,?_⟩) (by assumption) ?_
  rotate_left
  ·(intro w hSw;(try dsimp only at hSw);go_simp;(try with_reducible rfl))
  try simp only[Act.put,List.setIfInBounds_toArray,List.set_cons_zero,List.set_cons_succ]
  refine wpAnyH_take (i:=3) (oi:={dst:=some 36,op:=.load 98 (.tmp 35),type:=98,pos:= "machine.go:31",after:=#[{on:=2,ground:=.data}],guard:=none}) (v:=?_) rfl (by kernel_rfl) (by kernel_rfl) (by kernel_rfl) (fun _ _ _ h=>h) (Or.inl ⟨by rfl,?_⟩) (by assumption) ?_
  rotate_left
  ·(intro w hSw;(try dsimp only at hSw);go_simp;(try with_reducible rfl))
  try simp only[Act.put,List.setIfInBounds_toArray,List.set_cons_zero,List.set_cons_succ]
  refine wpAnyH_take (i:=4) (oi:={dst:=some 37,op:=.load 36 (.tmp 3),type:=36,pos:= "machine.go:31",after:=#[],guard:=none}) (v:=?_) rfl (by kernel_rfl) (by kernel_rfl) (by kernel_rfl) (fun _ _ _ h=>h) (Or.inl ⟨by rfl,?_⟩) (by assumption) ?_
  rotate_left
  ·(intro w hSw;(try dsimp only at hSw);go_simp;(try with_reducible rfl))
  try simp only[Act.put,List.setIfInBounds_toArray,List.set_cons_zero,List.set_cons_succ]
  refine wpAnyH_ready (rs:=[5]) (by kernel_rfl) (by simp) ?_;refine AllReadyH.cons (o:={dst:=some 38,op:=.call {callee:=.value (.func 45),args:=#[.tmp 36,.tmp 37],argTypes:=#[98,36]},type:=4,pos:= "machine.go:31",after:=#[{on:=3,ground:=.data},{on:=4,ground:=.data}],guard:=none}) rfl (fun K hK=>?_) AllReadyH.nil
  go_simp
  go_at_call 45
  refine(Calls.mono (HC1.out _ T0.1) ?_);rintro e w3 ⟨rfl,hb3⟩;have T1:=T0.on hb3;obtain⟨t0,t1,t2,t3,t4,t5,t6,t7,t8,t9,t10,t11,t12,t13,t14,t15,t16,t17,t18,t19,t20,t21⟩:=id T1;go_wp2_with fail;refine hK.out _ _ ?_ (fun hHeld2=>?_)
  ·simp[*]
  clear hK K hHeld
  try simp only[Act.put,List.setIfInBounds_toArray,List.set_cons_zero,List.set_cons_succ]
  refine wpAnyH_take (i:=6) (oi:={dst:=some 39,op:=.move (.tmp 38),type:=4,pos:= "machine.go:31",after:=#[{on:=5,ground:=.data},{on:=5,ground:=.chain}],guard:=none}) (v:=?_) rfl (by kernel_rfl) (by kernel_rfl) (by kernel_rfl) (fun _ _ _ h=>h) (Or.inl ⟨by rfl,?_⟩) (by assumption) ?_
  rotate_left
  ·(intro w hSw;(try dsimp only at hSw);go_simp;(try with_reducible rfl))
  try simp only[Act.put,List.setIfInBounds_toArray,List.set_cons_zero,List.set_cons_succ]
  refine wpAnyH_take (i:=7) (oi:={dst:=some 40,op:=.fieldAddr 98 (.tmp 2) 1,type:=0,pos:= "machine.go:31",after:=#[{on:=6,ground:=.guard}],guard:=some (6,true)}) (v:=undef) rfl (by kernel_rfl) (by kernel_rfl) (by kernel_rfl) (fun _ _ _ h=>h) (Or.inr ⟨by rfl,rfl⟩) (by assumption) ?_
  try simp only[Act.put,List.setIfInBounds_toArray,List.set_cons_zero,List.set_cons_succ]
  refine wpAnyH_take (i:=8) (oi:={dst:=some 41,op:=.load 93 (.tmp 40),type:=93,pos:= "machine.go:31",after:=#[{on:=7,ground:=.data},{on:=6,ground:=.guard}],guard:=some (6,true)}) (v:=undef) rfl (by kernel_rfl) (by kernel_rfl) (by kernel_rfl) (fun _ _ _ h=>h) (Or.inr ⟨by rfl,rfl⟩) (by assumption) ?_
  try simp only[Act.put,List.setIfInBounds_toArray,List.set_cons_zero,List.set_cons_succ]
  refine wpAnyH_take (i:=9) (oi:={dst:=some 42,op:=.indexAddr 93 (.tmp 41) (.const (.int .i64 1)),type:=0,pos:= "machine.go:31",after:=#[{on:=8,ground:=.data},{on:=6,ground:=.guard}],guard:=some (6,true)}) (v:=undef) rfl (by kernel_rfl) (by kernel_rfl) (by kernel_rfl) (fun _ _ _ h=>h) (Or.inr ⟨by rfl,rfl⟩) (by assumption) ?_
  try simp only[Act.put,List.setIfInBounds_toArray,List.set_cons_zero,List.set_cons_succ]
  refine wpAnyH_take (i:=10) (oi:={dst:=some 43,op:=.load 98 (.tmp 42),type:=98,pos:= "machine.go:31",after:=#[{on:=9,ground:=.data},{on:=6,ground:=.guard}],guard:=some (6,true)}) (v:=undef) rfl (by kernel_rfl) (by kernel_rfl) (by kernel_rfl) (fun _ _ _ h=>h) (Or.inr ⟨by rfl,rfl⟩) (by assumption) ?_
  try simp only[Act.put,List.setIfInBounds_toArray,List.set_cons_zero,List.set_cons_succ]
  refine wpAnyH_take (i:=11) (oi:={dst:=some 44,op:=.load 36 (.tmp 3),type:=36,pos:= "machine.go:31",after:=#[{on:=6,ground:=.guard}],guard:=some (6,true)}) (v:=undef) rfl (by kernel_rfl) (by kernel_rfl) (by kernel_rfl) (fun _ _ _ h=>h) (Or.inr ⟨by rfl,rfl⟩) (by assumption) ?_
  try simp only[Act.put,List.setIfInBounds_toArray,List.set_cons_zero,List.set_cons_succ]
  refine wpAnyH_take (i:=12) (oi:={dst:=some 45,op:=.call {callee:=.value (.func 45),args:=#[.tmp 43,.tmp 44],argTypes:=#[98,36]},type:=4,pos:= "machine.go:31",after:=#[{on:=10,ground:=.data},{on:=11,ground:=.data},{on:=6,ground:=.chain},{on:=6,ground:=.guard}],guard:=some (6,true)}) (v:=undef) rfl (by kernel_rfl) (by kernel_rfl) (by kernel_rfl) (fun _ _ _ h=>h) (Or.inr ⟨by rfl,rfl⟩) (by assumption) ?_
  try simp only[Act.put,List.setIfInBounds_toArray,List.set_cons_zero,List.set_cons_succ]
  refine wpAnyH_take (i:=13) (oi:={dst:=some 46,op:=.pick (.tmp 39) (.tmp 45) (.const (.bool false)),type:=4,pos:= "machine.go:31",after:=#[{on:=6,ground:=.data},{on:=12,ground:=.data}],guard:=none}) (v:=?_) rfl (by kernel_rfl) (by kernel_rfl) (by kernel_rfl) (fun _ _ _ h=>h) (Or.inl ⟨by rfl,?_⟩) (by assumption) ?_
  rotate_left
  ·(intro w hSw;(try dsimp only at hSw);go_simp;(try with_reducible rfl))
  try simp only[Act.put,List.setIfInBounds_toArray,List.set_cons_zero,List.set_cons_succ]
  refine wpAnyH_take (i:=14) (oi:={dst:=some 4,op:=.assign (.tmp 46),type:=4,pos:= "machine.go:31",after:=#[{on:=13,ground:=.data},{on:=12,ground:=.chain},{on:=0,ground:=.phase},{on:=1,ground:=.phase},{on:=2,ground:=.phase},{on:=3,ground:=.phase},{on:=4,ground:=.phase},{on:=5,ground:=.phase},{on:=6,ground:=.phase},{on:=7,ground:=.phase},{on:=8,ground:=.phase},{on:=9,ground:=.phase},{on:=10,ground:=.phase},{on:=11,ground:=.phase},{on:=12,ground:=.phase},{on:=13,ground:=.phase}],guard:=none}) (v:=?_) rfl (by kernel_rfl) (by kernel_rfl) (by kernel_rfl) (fun _ _ _ h=>h) (Or.inl ⟨by rfl,?_⟩) (by assumption) ?_
  rotate_left
  ·(intro w hSw;(try dsimp only at hSw);go_simp;(try with_reducible rfl))
  try simp only[Act.put,List.setIfInBounds_toArray,List.set_cons_zero,List.set_cons_succ]
  refine wpAnyH_done (by kernel_rfl) ?_ _;go_wp2_with fail;go_ret;exact⟨rfl,t0⟩
 ·go_enter Tryz.func45,Tryz.ntmps45;go_wp2_with fail;have bb0:Below w.heap.size w ((w.alloc (.cells #[.int .i64 4,.slice (some ⟨g,0,none⟩) 2 c,.int .i64 fr,.int .i64 e1,.int .i64 e2,.int .i64 e3,.int .i64 e4] 98)).alloc (.cells #[.int .i64 x1,.int .i64 x2,.int .i64 x3,.int .i64 x4] 36)):=(zaa w _).alloc (by simp) _;have q0:=(bb0.cell (p:=⟨g,0,none⟩) hgs).trans hu0;have q1:=(bb0.cell (p:=⟨g,1,none⟩) hgs).trans hu1;have q2:=(bb0.cell (p:=⟨g,2,none⟩) hgs).trans hu2;have q3:=(bb0.cell (p:=⟨g,3,none⟩) hgs).trans hu3;have q4:=(bb0.cell (p:=⟨g,4,none⟩) hgs).trans hu4;have q5:=(bb0.cell (p:=⟨g,5,none⟩) hgs).trans hu5;have q6:=(bb0.cell (p:=⟨g,6,none⟩) hgs).trans hu6;have r0:=(bb0.cell (p:=⟨g,7,none⟩) hgs).trans hv0;have r1:=(bb0.cell (p:=⟨g,8,none⟩) hgs).trans hv1;have r2:=(bb0.cell (p:=⟨g,9,none⟩) hgs).trans hv2;have r3:=(bb0.cell (p:=⟨g,10,none⟩) hgs).trans hv3;have r4:=(bb0.cell (p:=⟨g,11,none⟩) hgs).trans hv4;have r5:=(bb0.cell (p:=⟨g,12,none⟩) hgs).trans hv5;have r6:=(bb0.cell (p:=⟨g,13,none⟩) hgs).trans hv6;clear hu0 hu1 hu2 hu3 hu4 hu5 hu6 hv0 hv1 hv2 hv3 hv4 hv5 hv6;generalize hW:((w.alloc (.cells #[.int .i64 4,.slice (some ⟨g,0,none⟩) 2 c,.int .i64 fr,.int .i64 e1,.int .i64 e2,.int .i64 e3,.int .i64 e4] 98)).alloc (.cells #[.int .i64 x1,.int .i64 x2,.int .i64 x3,.int .i64 x4] 36))=W at *;have s0:w.heap.size+1<W.heap.size:=by rw[←hW];simp
  have sg:g<W.heap.size:=by have:=s0;omega
  have c1:W.cell? ⟨w.heap.size,1,none⟩=some (.slice (some ⟨g,0,none⟩) 2 c):=by rw[←hW];simp
  have d0:W.cell? ⟨w.heap.size+1,0,none⟩=some (.int .i64 x1):=by rw[←hW];simp
  have d1:W.cell? ⟨w.heap.size+1,1,none⟩=some (.int .i64 x2):=by rw[←hW];simp
  have d2:W.cell? ⟨w.heap.size+1,2,none⟩=some (.int .i64 x3):=by rw[←hW];simp
  have d3:W.cell? ⟨w.heap.size+1,3,none⟩=some (.int .i64 x4):=by rw[←hW];simp
  have bb1:Below w.heap.size w W.drew:=bb0.drew;have T0:TwA w W.drew w.heap.size g 2 c k p n m r a1 a2 a3 a4 k' p' n' m' r' b1 b2 b3 b4 x1 x2 x3 x4:=⟨bb1,s0,c1,d0,d1,d2,d3,sg,q0,q1,q2,q3,q4,q5,q6,r0,r1,r2,r3,r4,r5,r6⟩;clear hW;go_region_held3 (fun w'=>Below w.heap.size w w'∧w.heap.size+1<w'.heap.size∧w'.cell? ⟨w.heap.size,1,none⟩=some (.slice (some ⟨g,0,none⟩) 2 c)∧w'.cell? ⟨w.heap.size+1,0,none⟩=some (.int .i64 x1)∧w'.cell? ⟨w.heap.size+1,1,none⟩=some (.int .i64 x2)∧w'.cell? ⟨w.heap.size+1,2,none⟩=some (.int .i64 x3)∧w'.cell? ⟨w.heap.size+1,3,none⟩=some (.int .i64 x4)∧g<w'.heap.size∧w'.cell? ⟨g,0,none⟩=some (.int .i64 k)∧w'.cell? ⟨g,1,none⟩=some (.slice p n m)∧w'.cell? ⟨g,2,none⟩=some (.int .i64 r)∧w'.cell? ⟨g,3,none⟩=some (.int .i64 a1)∧w'.cell? ⟨g,4,none⟩=some (.int .i64 a2)∧w'.cell? ⟨g,5,none⟩=some (.int .i64 a3)∧w'.cell? ⟨g,6,none⟩=some (.int .i64 a4)∧w'.cell? ⟨g,7,none⟩=some (.int .i64 k')∧w'.cell? ⟨g,8,none⟩=some (.slice p' n' m')∧w'.cell? ⟨g,9,none⟩=some (.int .i64 r')∧w'.cell? ⟨g,10,none⟩=some (.int .i64 b1)∧w'.cell? ⟨g,11,none⟩=some (.int .i64 b2)∧w'.cell? ⟨g,12,none⟩=some (.int .i64 b3)∧w'.cell? ⟨g,13,none⟩=some (.int .i64 b4)) (simp[*]) (first|(go_at_call 45;first|(have hh:=T1;refine(Calls.mono (HC2.out _ T1.1) ?_);rintro e w4 ⟨rfl,hb4⟩;have T2:=T1.on hb4;obtain⟨t0,t1,t2,t3,t4,t5,t6,t7,t8,t9,t10,t11,t12,t13,t14,t15,t16,t17,t18,t19,t20,t21⟩:=id T2)|(refine(Calls.mono (HC1.out _ T0.1) ?_);rintro e w3 ⟨rfl,hb3⟩;have T1:=T0.on hb3;obtain⟨t0,t1,t2,t3,t4,t5,t6,t7,t8,t9,t10,t11,t12,t13,t14,t15,t16,t17,t18,t19,t20,t21⟩:=id T1)));go_wp2_with fail;go_ret;exact⟨rfl,t0⟩
theorem zkx (g c:Nat) (fr e1 e2 e3 e4:Int) (k:Int) (p:Option Addr) (n m:Nat) (r a1 a2 a3 a4:Int) (k':Int) (p':Option Addr) (n' m':Nat) (r' b1 b2 b3 b4:Int) (x1 x2 x3 x4:Int) (E1 E2:Bool) (w:World) (hgs:g<w.heap.size) (hc:2≤c∧c≤maxLen) (hu0:w.cell? ⟨g,0,none⟩=some (.int .i64 k)) (hu1:w.cell? ⟨g,1,none⟩=some (.slice p n m)) (hu2:w.cell? ⟨g,2,none⟩=some (.int .i64 r)) (hu3:w.cell? ⟨g,3,none⟩=some (.int .i64 a1)) (hu4:w.cell? ⟨g,4,none⟩=some (.int .i64 a2)) (hu5:w.cell? ⟨g,5,none⟩=some (.int .i64 a3)) (hu6:w.cell? ⟨g,6,none⟩=some (.int .i64 a4)) (hv0:w.cell? ⟨g,7,none⟩=some (.int .i64 k')) (hv1:w.cell? ⟨g,8,none⟩=some (.slice p' n' m')) (hv2:w.cell? ⟨g,9,none⟩=some (.int .i64 r')) (hv3:w.cell? ⟨g,10,none⟩=some (.int .i64 b1)) (hv4:w.cell? ⟨g,11,none⟩=some (.int .i64 b2)) (hv5:w.cell? ⟨g,12,none⟩=some (.int .i64 b3)) (hv6:w.cell? ⟨g,13,none⟩=some (.int .i64 b4)) (C1:∀X,Below w.heap.size w X→Calls Tryz.prog 45 #[.agg #[.int .i64 k,.slice p n m,.int .i64 r,.int .i64 a1,.int .i64 a2,.int .i64 a3,.int .i64 a4],.agg #[.int .i64 x1,.int .i64 x2,.int .i64 x3,.int .i64 x4]] X fun e w'=>e=.returned (.bool E1)∧Below X.heap.size X w') (C2:∀X,Below w.heap.size w X→Calls Tryz.prog 45 #[.agg #[.int .i64 k',.slice p' n' m',.int .i64 r',.int .i64 b1,.int .i64 b2,.int .i64 b3,.int .i64 b4],.agg #[.int .i64 x1,.int .i64 x2,.int .i64 x3,.int .i64 x4]] X fun e w'=>e=.returned (.bool E2)∧Below X.heap.size X w') :
 Calls Tryz.prog 45 #[.agg #[.int .i64 5,.slice (some ⟨g,0,none⟩) 2 c,.int .i64 fr,.int .i64 e1,.int .i64 e2,.int .i64 e3,.int .i64 e4],.agg #[.int .i64 x1,.int .i64 x2,.int .i64 x3,.int .i64 x4]] w fun e w'=>e=.returned (.bool (E1||E2))∧Below w.heap.size w w':=by
 have HC1:Hid _:=C1;have HC2:Hid _:=C2;clear C1 C2;obtain⟨hc1,hc2⟩:=hc;cases E1
 ·go_enter Tryz.func45,Tryz.ntmps45;go_wp2_with fail;have bb0:Below w.heap.size w ((w.alloc (.cells #[.int .i64 5,.slice (some ⟨g,0,none⟩) 2 c,.int .i64 fr,.int .i64 e1,.int .i64 e2,.int .i64 e3,.int .i64 e4] 98)).alloc (.cells #[.int .i64 x1,.int .i64 x2,.int .i64 x3,.int .i64 x4] 36)):=(zaa w _).alloc (by simp) _;have q0:=(bb0.cell (p:=⟨g,0,none⟩) hgs).trans hu0;have q1:=(bb0.cell (p:=⟨g,1,none⟩) hgs).trans hu1;have q2:=(bb0.cell (p:=⟨g,2,none⟩) hgs).trans hu2;have q3:=(bb0.cell (p:=⟨g,3,none⟩) hgs).trans hu3;have q4:=(bb0.cell (p:=⟨g,4,none⟩) hgs).trans hu4;have q5:=(bb0.cell (p:=⟨g,5,none⟩) hgs).trans hu5;have q6:=(bb0.cell (p:=⟨g,6,none⟩) hgs).trans hu6;have r0:=(bb0.cell (p:=⟨g,7,none⟩) hgs).trans hv0;have r1:=(bb0.cell (p:=⟨g,8,none⟩) hgs).trans hv1;have r2:=(bb0.cell (p:=⟨g,9,none⟩) hgs).trans hv2;have r3:=(bb0.cell (p:=⟨g,10,none⟩) hgs).trans hv3;have r4:=(bb0.cell (p:=⟨g,11,none⟩) hgs).trans hv4;have r5:=(bb0.cell (p:=⟨g,12,none⟩) hgs).trans hv5;have r6:=(bb0.cell (p:=⟨g,13,none⟩) hgs).trans hv6;clear hu0 hu1 hu2 hu3 hu4 hu5 hu6 hv0 hv1 hv2 hv3 hv4 hv5 hv6;generalize hW:((w.alloc (.cells #[.int .i64 5,.slice (some ⟨g,0,none⟩) 2 c,.int .i64 fr,.int .i64 e1,.int .i64 e2,.int .i64 e3,.int .i64 e4] 98)).alloc (.cells #[.int .i64 x1,.int .i64 x2,.int .i64 x3,.int .i64 x4] 36))=W at *;have s0:w.heap.size+1<W.heap.size:=by rw[←hW];simp
  have sg:g<W.heap.size:=by have:=s0;omega
  have c1:W.cell? ⟨w.heap.size,1,none⟩=some (.slice (some ⟨g,0,none⟩) 2 c):=by rw[←hW];simp
  have d0:W.cell? ⟨w.heap.size+1,0,none⟩=some (.int .i64 x1):=by rw[←hW];simp
  have d1:W.cell? ⟨w.heap.size+1,1,none⟩=some (.int .i64 x2):=by rw[←hW];simp
  have d2:W.cell? ⟨w.heap.size+1,2,none⟩=some (.int .i64 x3):=by rw[←hW];simp
  have d3:W.cell? ⟨w.heap.size+1,3,none⟩=some (.int .i64 x4):=by rw[←hW];simp
  have bb1:Below w.heap.size w W.drew:=bb0.drew;have T0:TwA w W.drew w.heap.size g 2 c k p n m r a1 a2 a3 a4 k' p' n' m' r' b1 b2 b3 b4 x1 x2 x3 x4:=⟨bb1,s0,c1,d0,d1,d2,d3,sg,q0,q1,q2,q3,q4,q5,q6,r0,r1,r2,r3,r4,r5,r6⟩;clear hW;go_region_held3 (fun w'=>Below w.heap.size w w'∧w.heap.size+1<w'.heap.size∧w'.cell? ⟨w.heap.size,1,none⟩=some (.slice (some ⟨g,0,none⟩) 2 c)∧w'.cell? ⟨w.heap.size+1,0,none⟩=some (.int .i64 x1)∧w'.cell? ⟨w.heap.size+1,1,none⟩=some (.int .i64 x2)∧w'.cell? ⟨w.heap.size+1,2,none⟩=some (.int .i64 x3)∧w'.cell? ⟨w.heap.size+1,3,none⟩=some (.int .i64 x4)∧g<w'.heap.size∧w'.cell? ⟨g,0,none⟩=some (.int .i64 k)∧w'.cell? ⟨g,1,none⟩=some (.slice p n m)∧w'.cell? ⟨g,2,none⟩=some (.int .i64 r)∧w'.cell? ⟨g,3,none⟩=some (.int .i64 a1)∧w'.cell? ⟨g,4,none⟩=some (.int .i64 a2)∧w'.cell? ⟨g,5,none⟩=some (.int .i64 a3)∧w'.cell? ⟨g,6,none⟩=some (.int .i64 a4)∧w'.cell? ⟨g,7,none⟩=some (.int .i64 k')∧w'.cell? ⟨g,8,none⟩=some (.slice p' n' m')∧w'.cell? ⟨g,9,none⟩=some (.int .i64 r')∧w'.cell? ⟨g,10,none⟩=some (.int .i64 b1)∧w'.cell? ⟨g,11,none⟩=some (.int .i64 b2)∧w'.cell? ⟨g,12,none⟩=some (.int .i64 b3)∧w'.cell? ⟨g,13,none⟩=some (.int .i64 b4)) (simp[*]) (first|(go_at_call 45;first|(have hh:=T1;refine(Calls.mono (HC2.out _ T1.1) ?_);rintro e w4 ⟨rfl,hb4⟩;have T2:=T1.on hb4;obtain⟨t0,t1,t2,t3,t4,t5,t6,t7,t8,t9,t10,t11,t12,t13,t14,t15,t16,t17,t18,t19,t20,t21⟩:=id T2)|(refine(Calls.mono (HC1.out _ T0.1) ?_);rintro e w3 ⟨rfl,hb3⟩;have T1:=T0.on hb3;obtain⟨t0,t1,t2,t3,t4,t5,t6,t7,t8,t9,t10,t11,t12,t13,t14,t15,t16,t17,t18,t19,t20,t21⟩:=id T1)));go_wp2_with fail;go_ret;exact⟨rfl,t0⟩
 ·go_enter Tryz.func45,Tryz.ntmps45;go_wp2_with fail;have bb0:Below w.heap.size w ((w.alloc (.cells #[.int .i64 5,.slice (some ⟨g,0,none⟩) 2 c,.int .i64 fr,.int .i64 e1,.int .i64 e2,.int .i64 e3,.int .i64 e4] 98)).alloc (.cells #[.int .i64 x1,.int .i64 x2,.int .i64 x3,.int .i64 x4] 36)):=(zaa w _).alloc (by simp) _;have q0:=(bb0.cell (p:=⟨g,0,none⟩) hgs).trans hu0;have q1:=(bb0.cell (p:=⟨g,1,none⟩) hgs).trans hu1;have q2:=(bb0.cell (p:=⟨g,2,none⟩) hgs).trans hu2;have q3:=(bb0.cell (p:=⟨g,3,none⟩) hgs).trans hu3;have q4:=(bb0.cell (p:=⟨g,4,none⟩) hgs).trans hu4;have q5:=(bb0.cell (p:=⟨g,5,none⟩) hgs).trans hu5;have q6:=(bb0.cell (p:=⟨g,6,none⟩) hgs).trans hu6;have r0:=(bb0.cell (p:=⟨g,7,none⟩) hgs).trans hv0;have r1:=(bb0.cell (p:=⟨g,8,none⟩) hgs).trans hv1;have r2:=(bb0.cell (p:=⟨g,9,none⟩) hgs).trans hv2;have r3:=(bb0.cell (p:=⟨g,10,none⟩) hgs).trans hv3;have r4:=(bb0.cell (p:=⟨g,11,none⟩) hgs).trans hv4;have r5:=(bb0.cell (p:=⟨g,12,none⟩) hgs).trans hv5;have r6:=(bb0.cell (p:=⟨g,13,none⟩) hgs).trans hv6;clear hu0 hu1 hu2 hu3 hu4 hu5 hu6 hv0 hv1 hv2 hv3 hv4 hv5 hv6;generalize hW:((w.alloc (.cells #[.int .i64 5,.slice (some ⟨g,0,none⟩) 2 c,.int .i64 fr,.int .i64 e1,.int .i64 e2,.int .i64 e3,.int .i64 e4] 98)).alloc (.cells #[.int .i64 x1,.int .i64 x2,.int .i64 x3,.int .i64 x4] 36))=W at *;have s0:w.heap.size+1<W.heap.size:=by rw[←hW];simp
  have sg:g<W.heap.size:=by have:=s0;omega
  have c1:W.cell? ⟨w.heap.size,1,none⟩=some (.slice (some ⟨g,0,none⟩) 2 c):=by rw[←hW];simp
  have d0:W.cell? ⟨w.heap.size+1,0,none⟩=some (.int .i64 x1):=by rw[←hW];simp
  have d1:W.cell? ⟨w.heap.size+1,1,none⟩=some (.int .i64 x2):=by rw[←hW];simp
  have d2:W.cell? ⟨w.heap.size+1,2,none⟩=some (.int .i64 x3):=by rw[←hW];simp
  have d3:W.cell? ⟨w.heap.size+1,3,none⟩=some (.int .i64 x4):=by rw[←hW];simp
  have bb1:Below w.heap.size w W.drew:=bb0.drew;have T0:TwA w W.drew w.heap.size g 2 c k p n m r a1 a2 a3 a4 k' p' n' m' r' b1 b2 b3 b4 x1 x2 x3 x4:=⟨bb1,s0,c1,d0,d1,d2,d3,sg,q0,q1,q2,q3,q4,q5,q6,r0,r1,r2,r3,r4,r5,r6⟩;clear hW;refine wp_region_held_drew (S:=fun w'=>Below w.heap.size w w'∧w.heap.size+1<w'.heap.size∧w'.cell? ⟨w.heap.size,1,none⟩=some (.slice (some ⟨g,0,none⟩) 2 c)∧w'.cell? ⟨w.heap.size+1,0,none⟩=some (.int .i64 x1)∧w'.cell? ⟨w.heap.size+1,1,none⟩=some (.int .i64 x2)∧w'.cell? ⟨w.heap.size+1,2,none⟩=some (.int .i64 x3)∧w'.cell? ⟨w.heap.size+1,3,none⟩=some (.int .i64 x4)∧g<w'.heap.size∧w'.cell? ⟨g,0,none⟩=some (.int .i64 k)∧w'.cell? ⟨g,1,none⟩=some (.slice p n m)∧w'.cell? ⟨g,2,none⟩=some (.int .i64 r)∧w'.cell? ⟨g,3,none⟩=some (.int .i64 a1)∧w'.cell? ⟨g,4,none⟩=some (.int .i64 a2)∧w'.cell? ⟨g,5,none⟩=some (.int .i64 a3)∧w'.cell? ⟨g,6,none⟩=some (.int .i64 a4)) (by kernel_rfl) ?_ (fun hHeld=>?_)
  ·simp[*]
  refine wpAnyH_take (i:=0) (oi:={dst:=some 49,op:=.fieldAddr 98 (.tmp 2) 1,type:=0,pos:= "machine.go:33",after:=#[],guard:=none}) (v:=?_) rfl (by kernel_rfl) (by kernel_rfl) (by kernel_rfl) (fun _ _ _ h=>h) (Or.inl ⟨by rfl,?_⟩) (by assumption) ?_
  rotate_left
  ·(intro w hSw;(try dsimp only at hSw);go_simp;(try with_reducible rfl))
  try simp only[Act.put,List.setIfInBounds_toArray,List.set_cons_zero,List.set_cons_succ]
  refine wpAnyH_take (i:=1) (oi:={dst:=some 50,op:=.load 93 (.tmp 49),type:=93,pos:= "machine.go:33",after:=#[{on:=0,ground:=.data}],guard:=none}) (v:=?_) rfl (by kernel_rfl) (by kernel_rfl) (by kernel_rfl) (fun _ _ _ h=>h) (Or.inl ⟨by rfl,?_⟩) (by assumption) ?_
  rotate_left
  ·(intro w hSw;(try dsimp only at hSw);go_simp;(try with_reducible rfl))
  try simp only[Act.put,List.setIfInBounds_toArray,List.set_cons_zero,List.set_cons_succ]
  refine wpAnyH_take (i:=2) (oi:={dst:=some 51,op:=.indexAddr 93 (.tmp 50) (.const (.int .i64 0)),type:=0,pos:= "machine.go:33",after:=#[{on:=1,ground:=.data}],guard:=none}) (v:=?_) rfl (by kernel_rfl) (by kernel_rfl) (by kernel_rfl) (fun _ _ _ h=>h) (Or.inl ⟨by rfl,?_⟩) (by assumption) ?_
  rotate_left
  ·(intro w hSw;(try dsimp only at hSw);go_simp;(try with_reducible rfl))
  try simp only[Act.put,List.setIfInBounds_toArray,List.set_cons_zero,List.set_cons_succ]
  refine wpAnyH_take (i:=3) (oi:={dst:=some 52,op:=.load 98 (.tmp 51),type:=98,pos:= "machine.go:33",after:=#[{on:=2,ground:=.data}],guard:=none}) (v:=?_) rfl (by kernel_rfl) (by kernel_rfl) (by kernel_rfl) (fun _ _ _ h=>h) (Or.inl ⟨by rfl,?_⟩) (by assumption) ?_
  rotate_left
  ·(intro w hSw;(try dsimp only at hSw);go_simp;(try with_reducible rfl))
  try simp only[Act.put,List.setIfInBounds_toArray,List.set_cons_zero,List.set_cons_succ]
  refine wpAnyH_take (i:=4) (oi:={dst:=some 53,op:=.load 36 (.tmp 3),type:=36,pos:= "machine.go:33",after:=#[],guard:=none}) (v:=?_) rfl (by kernel_rfl) (by kernel_rfl) (by kernel_rfl) (fun _ _ _ h=>h) (Or.inl ⟨by rfl,?_⟩) (by assumption) ?_
  rotate_left
  ·(intro w hSw;(try dsimp only at hSw);go_simp;(try with_reducible rfl))
  try simp only[Act.put,List.setIfInBounds_toArray,List.set_cons_zero,List.set_cons_succ]
  refine wpAnyH_ready (rs:=[5]) (by kernel_rfl) (by simp) ?_;refine AllReadyH.cons (o:={dst:=some 54,op:=.call {callee:=.value (.func 45),args:=#[.tmp 52,.tmp 53],argTypes:=#[98,36]},type:=4,pos:= "machine.go:33",after:=#[{on:=3,ground:=.data},{on:=4,ground:=.data}],guard:=none}) rfl (fun K hK=>?_) AllReadyH.nil
  go_simp
  go_at_call 45
  refine(Calls.mono (HC1.out _ T0.1) ?_);rintro e w3 ⟨rfl,hb3⟩;have T1:=T0.on hb3;obtain⟨t0,t1,t2,t3,t4,t5,t6,t7,t8,t9,t10,t11,t12,t13,t14,t15,t16,t17,t18,t19,t20,t21⟩:=id T1;go_wp2_with fail;refine hK.out _ _ ?_ (fun hHeld2=>?_)
  ·simp[*]
  clear hK K hHeld
  try simp only[Act.put,List.setIfInBounds_toArray,List.set_cons_zero,List.set_cons_succ]
  refine wpAnyH_take (i:=6) (oi:={dst:=some 55,op:=.move (.tmp 54),type:=4,pos:= "machine.go:33",after:=#[{on:=5,ground:=.data},{on:=5,ground:=.chain}],guard:=none}) (v:=?_) rfl (by kernel_rfl) (by kernel_rfl) (by kernel_rfl) (fun _ _ _ h=>h) (Or.inl ⟨by rfl,?_⟩) (by assumption) ?_
  rotate_left
  ·(intro w hSw;(try dsimp only at hSw);go_simp;(try with_reducible rfl))
  try simp only[Act.put,List.setIfInBounds_toArray,List.set_cons_zero,List.set_cons_succ]
  refine wpAnyH_take (i:=7) (oi:={dst:=some 56,op:=.fieldAddr 98 (.tmp 2) 1,type:=0,pos:= "machine.go:33",after:=#[{on:=6,ground:=.guard}],guard:=some (6,false)}) (v:=undef) rfl (by kernel_rfl) (by kernel_rfl) (by kernel_rfl) (fun _ _ _ h=>h) (Or.inr ⟨by rfl,rfl⟩) (by assumption) ?_
  try simp only[Act.put,List.setIfInBounds_toArray,List.set_cons_zero,List.set_cons_succ]
  refine wpAnyH_take (i:=8) (oi:={dst:=some 57,op:=.load 93 (.tmp 56),type:=93,pos:= "machine.go:33",after:=#[{on:=7,ground:=.data},{on:=6,ground:=.guard}],guard:=some (6,false)}) (v:=undef) rfl (by kernel_rfl) (by kernel_rfl) (by kernel_rfl) (fun _ _ _ h=>h) (Or.inr ⟨by rfl,rfl⟩) (by assumption) ?_
  try simp only[Act.put,List.setIfInBounds_toArray,List.set_cons_zero,List.set_cons_succ]
  refine wpAnyH_take (i:=9) (oi:={dst:=some 58,op:=.indexAddr 93 (.tmp 57) (.const (.int .i64 1)),type:=0,pos:= "machine.go:33",after:=#[{on:=8,ground:=.data},{on:=6,ground:=.guard}],guard:=some (6,false)}) (v:=undef) rfl (by kernel_rfl) (by kernel_rfl) (by kernel_rfl) (fun _ _ _ h=>h) (Or.inr ⟨by rfl,rfl⟩) (by assumption) ?_
  try simp only[Act.put,List.setIfInBounds_toArray,List.set_cons_zero,List.set_cons_succ]
  refine wpAnyH_take (i:=10) (oi:={dst:=some 59,op:=.load 98 (.tmp 58),type:=98,pos:= "machine.go:33",after:=#[{on:=9,ground:=.data},{on:=6,ground:=.guard}],guard:=some (6,false)}) (v:=undef) rfl (by kernel_rfl) (by kernel_rfl) (by kernel_rfl) (fun _ _ _ h=>h) (Or.inr ⟨by rfl,rfl⟩) (by assumption) ?_
  try simp only[Act.put,List.setIfInBounds_toArray,List.set_cons_zero,List.set_cons_succ]
  refine wpAnyH_take (i:=11) (oi:={dst:=some 60,op:=.load 36 (.tmp 3),type:=36,pos:= "machine.go:33",after:=#[{on:=6,ground:=.guard}],guard:=some (6,false)}) (v:=undef) rfl (by kernel_rfl) (by kernel_rfl) (by kernel_rfl) (fun _ _ _ h=>h) (Or.inr ⟨by rfl,rfl⟩) (by assumption) ?_
  try simp only[Act.put,List.setIfInBounds_toArray,List.set_cons_zero,List.set_cons_succ]
  refine wpAnyH_take (i:=12) (oi:={dst:=some 61,op:=.call {callee:=.value (.func 45),args:=#[.tmp 59,.tmp 60],argTypes:=#[98,36]},type:=4,pos:= "machine.go:33",after:=#[{on:=10,ground:=.data},{on:=11,ground:=.data},{on:=6,ground:=.chain},{on:=6,ground:=.guard}],guard:=some (6,false)}) (v:=undef) rfl (by kernel_rfl) (by kernel_rfl) (by kernel_rfl) (fun _ _ _ h=>h) (Or.inr ⟨by rfl,rfl⟩) (by assumption) ?_
  try simp only[Act.put,List.setIfInBounds_toArray,List.set_cons_zero,List.set_cons_succ]
  refine wpAnyH_take (i:=13) (oi:={dst:=some 62,op:=.pick (.tmp 55) (.const (.bool true)) (.tmp 61),type:=4,pos:= "machine.go:33",after:=#[{on:=6,ground:=.data},{on:=12,ground:=.data}],guard:=none}) (v:=?_) rfl (by kernel_rfl) (by kernel_rfl) (by kernel_rfl) (fun _ _ _ h=>h) (Or.inl ⟨by rfl,?_⟩) (by assumption) ?_
  rotate_left
  ·(intro w hSw;(try dsimp only at hSw);go_simp;(try with_reducible rfl))
  try simp only[Act.put,List.setIfInBounds_toArray,List.set_cons_zero,List.set_cons_succ]
  refine wpAnyH_take (i:=14) (oi:={dst:=some 4,op:=.assign (.tmp 62),type:=4,pos:= "machine.go:33",after:=#[{on:=13,ground:=.data},{on:=12,ground:=.chain},{on:=0,ground:=.phase},{on:=1,ground:=.phase},{on:=2,ground:=.phase},{on:=3,ground:=.phase},{on:=4,ground:=.phase},{on:=5,ground:=.phase},{on:=6,ground:=.phase},{on:=7,ground:=.phase},{on:=8,ground:=.phase},{on:=9,ground:=.phase},{on:=10,ground:=.phase},{on:=11,ground:=.phase},{on:=12,ground:=.phase},{on:=13,ground:=.phase}],guard:=none}) (v:=?_) rfl (by kernel_rfl) (by kernel_rfl) (by kernel_rfl) (fun _ _ _ h=>h) (Or.inl ⟨by rfl,?_⟩) (by assumption) ?_
  rotate_left
  ·(intro w hSw;(try dsimp only at hSw);go_simp;(try with_reducible rfl))
  try simp only[Act.put,List.setIfInBounds_toArray,List.set_cons_zero,List.set_cons_succ]
  refine wpAnyH_done (by kernel_rfl) ?_ _;go_wp2_with fail;go_ret;exact⟨rfl,t0⟩
theorem range7 {w:World} {g o:Nat} {k:Int} {p:Option Addr} {n m:Nat} {r a1 a2 a3 a4:Int} (h:w.rangeAt g o (fv k p n m r a1 a2 a3 a4)):w.cell? ⟨g,o,none⟩=some (.int .i64 k)∧w.cell? ⟨g,o+1,none⟩=some (.slice p n m)∧w.cell? ⟨g,o+2,none⟩=some (.int .i64 r)∧w.cell? ⟨g,o+3,none⟩=some (.int .i64 a1)∧w.cell? ⟨g,o+4,none⟩=some (.int .i64 a2)∧w.cell? ⟨g,o+5,none⟩=some (.int .i64 a3)∧w.cell? ⟨g,o+6,none⟩=some (.int .i64 a4) :=
 ⟨h 0 _ rfl,h 1 _ rfl,h 2 _ rfl,h 3 _ rfl,h 4 _ rfl,h 5 _ rfl,h 6 _ rfl⟩
theorem zaY {P:Nat→Prop} {x1 x2 x3 x4:Int} (hg:gds x1 x2 x3 x4=true):∀(f:Fm) (cs:List Value) (w:World),IsF w P f cs→fOk f →
 Calls Tryz.prog 45 #[.agg cs.toArray,.agg #[.int .i64 x1,.int .i64 x2,.int .i64 x3,.int .i64 x4]] w fun e w'=>e=.returned (.bool (ev x1 x2 x3 x4 f))∧Below w.heap.size w w'
 | .tt,_,w,⟨p,n,c,r,a1,a2,a3,a4,e⟩,_=>by subst e;exact zd5 0 (Or.inl rfl) p n c r a1 a2 a3 a4 x1 x2 x3 x4 w
 | .ff,_,w,⟨p,n,c,r,a1,a2,a3,a4,e⟩,_=>by subst e;exact zd5 1 (Or.inr rfl) p n c r a1 a2 a3 a4 x1 x2 x3 x4 w
 | .cmp r a b,_,w,⟨p,n,c,e⟩,ho=>by subst e;exact ziJ p n c r a.1 a.2 b.1 b.2 x1 x2 x3 x4 w ⟨ho.1,ho.2.1⟩ ho.2.2.1 ho.2.2.2 hg
 | .no f,_,w,⟨g,c,r,a1,a2,a3,a4,u,e,h1,h2,h3,h4,h5,h6⟩,ho=>by
  subst e;obtain⟨k,p,n,m,r1,q1,q2,q3,q4,e⟩:=h6.shape;have ih:=fun X (hX:Below w.heap.size w X)=>zaY hg f u X (h6.same (zac hX)) ho
  subst e;obtain⟨z0,z1,z2,z3,z4,z5,z6⟩:=range7 h5;exact zkw g c r a1 a2 a3 a4 k p n m r1 q1 q2 q3 q4 0 none 0 0 0 0 0 0 0 x1 x2 x3 x4 _ false w h2 ⟨h3,h4⟩ z0 z1 z2 z3 z4 z5 z6 ih
 | .and f h,_,w,⟨g,c,r,a1,a2,a3,a4,u1,u2,e,h1,h2,h3,h4,h5,h6,h7,h8⟩,ho=>by
  subst e;obtain⟨k,p,n,m,r1,q1,q2,q3,q4,e1⟩:=h7.shape;obtain⟨k',p',n',m',r1',q1',q2',q3',q4',e2⟩:=h8.shape;have ih1:=fun X (hX:Below w.heap.size w X)=>zaY hg f u1 X (h7.same (zac hX)) ho.1
  have ih2:=fun X (hX:Below w.heap.size w X)=>zaY hg h u2 X (h8.same (zac hX)) ho.2
  subst e1 e2;obtain⟨z0,z1,z2,z3,z4,z5,z6⟩:=range7 h5;obtain⟨y0,y1,y2,y3,y4,y5,y6⟩:=range7 h6;exact ziK g c r a1 a2 a3 a4 k p n m r1 q1 q2 q3 q4 k' p' n' m' r1' q1' q2' q3' q4' x1 x2 x3 x4 _ _ w h2 ⟨h3,h4⟩ z0 z1 z2 z3 z4 z5 z6 y0 y1 y2 y3 y4 y5 y6 ih1 ih2
 | .or f h,_,w,⟨g,c,r,a1,a2,a3,a4,u1,u2,e,h1,h2,h3,h4,h5,h6,h7,h8⟩,ho=>by
  subst e;obtain⟨k,p,n,m,r1,q1,q2,q3,q4,e1⟩:=h7.shape;obtain⟨k',p',n',m',r1',q1',q2',q3',q4',e2⟩:=h8.shape;have ih1:=fun X (hX:Below w.heap.size w X)=>zaY hg f u1 X (h7.same (zac hX)) ho.1
  have ih2:=fun X (hX:Below w.heap.size w X)=>zaY hg h u2 X (h8.same (zac hX)) ho.2
  subst e1 e2;obtain⟨z0,z1,z2,z3,z4,z5,z6⟩:=range7 h5;obtain⟨y0,y1,y2,y3,y4,y5,y6⟩:=range7 h6;exact zkx g c r a1 a2 a3 a4 k p n m r1 q1 q2 q3 q4 k' p' n' m' r1' q1' q2' q3' q4' x1 x2 x3 x4 _ _ w h2 ⟨h3,h4⟩ z0 z1 z2 z3 z4 z5 z6 y0 y1 y2 y3 y4 y5 y6 ih1 ih2
end Go.Proofs.YtkinoehmcfhgbaaGreatDoor.Vl
