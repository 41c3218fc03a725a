/- A part of the proof. -/
import Derived.Test.YtkinoehmcfhgbaaGreatDoorV12
import Derived.Shelf.Strings.SlTrimAscii
set_option linter.unusedVariables false
set_option linter.unusedSimpArgs false
set_option maxRecDepth 100000
set_option maxHeartbeats 4000000
namespace Go.Proofs.YtkinoehmcfhgbaaGreatDoor.Vl
open Go.RowKit Go.Shelf
theorem zcI (l:List UInt8) (w:World):Calls Tryz.prog 234 #[.string ⟨l.toArray⟩,.string ⟨digs.toArray⟩] w fun e w'=>e=.returned (.string ⟨(l.drop (dlen l)).toArray⟩)∧Below w.heap.size w w' :=
 (Any.strings_TrimLeft_laid Tryz.lays161 (by kernel_rfl) ⟨l.toArray⟩ ⟨digs.toArray⟩ w (by decide) (fun j b hb=>by
  have hm:b∈digs:=List.mem_of_getElem? hb;simp[digs] at hm;rcases hm with rfl|rfl|rfl|rfl|rfl|rfl|rfl|rfl|rfl|rfl<;>decide)).mono fun e w' h=>⟨by rw[h.1];exact congrArg _ (by rw[←ze5]),h.2⟩
theorem KnAt.below {w w':World} {b mb:Nat} {vW vA:Value} {l:List UInt8} (h:KnAt w b vW vA l mb) (hb:Below w.heap.size w w'):KnAt w' b vW vA l mb:=(hb.block b h.lt).trans h
theorem zgQ (l:List UInt8) (k:Nat):(⟨l.toArray⟩:ByteArray).extract 0 k=⟨(l.take k).toArray⟩:=by
 apply ByteArray.ext
 rw[ByteArray.data_extract];simp
theorem ziL (w00 w:World) (b mb:Nat) (vW:Value) (q:Option Addr) (N cap:Nat) (l:List UInt8) (hgl:Gl w00) (h00:Below w00.heap.size w00 w) (hb:w00.heap.size≤b) (hl:l.length≤200000) (h:KnAt w b vW (.slice q N cap) l mb)
 (hno:∀v,Lib.atoiAll (l.take (dlen l))=.ok v→Lib.itoa v=l.take (dlen l)→¬v<(N:Int)) :
 Calls Tryz.prog 177 #[.pointer (some ⟨b,0,none⟩)] w fun e w'=>w.grownBy w' (some b)∧e=.returned (.tuple #[avV (0,0,0),.bool false])∧KnAt w' b vW (.slice q N cap) (l.drop (dlen l)) mb:=by
 have CT:Hid (∀X,Calls Tryz.prog 234 #[.string ⟨l.toArray⟩,.string ⟨#[48,49,50,51,52,53,54,55,56,57]⟩] X fun e w'=>e=.returned (.string ⟨(l.drop (dlen l)).toArray⟩)∧Below X.heap.size X w'):=fun X=>zcI l X
 have hd:=zeR l;have HX:=zgQ l (dlen l);have z0:(⟨l.toArray⟩:ByteArray).size=l.length:=by simp[ByteArray.size]
 have z1:(⟨(l.drop (dlen l)).toArray⟩:ByteArray).size=l.length-dlen l:=by simp[ByteArray.size]
 have hsub:IntKind.i64.wrap (((⟨l.toArray⟩:ByteArray).size:Int)-((⟨(l.drop (dlen l)).toArray⟩:ByteArray).size:Int))=(dlen l:Int):=by rw[z0,z1,IntWalk.i64_in _ (by omega)];omega
 have hdl:(dlen l:Int)≤((⟨l.toArray⟩:ByteArray).size:Int):=by omega
 have hba:=zaa w (.cells zZd 134);have hK0:=h.below hba;obtain⟨k0,k1,k2,k3⟩:=hK0.cells;have HK0:Hid _:=hK0;clear z0 z1 hK0;go_enter Tryz.func177,Tryz.ntmps177;go_wp2_with fail;refine(CT.out _).mono ?_;rintro e w1 ⟨rfl,hb1⟩;have hK1:KnAt w1 b vW (.slice q N cap) l mb:=KnAt.below HK0.out hb1;have hs1:w.heap.size<w1.heap.size:=by have:=hb1.size;simp at this;omega
 have hbw:b<w.heap.size:=h.lt;have r0:w1.cell? ⟨w.heap.size,0,none⟩=some (.int .i64 0):=(hb1.cell (p:=⟨w.heap.size,0,none⟩) (by simp)).trans (by simp);have r1:w1.cell? ⟨w.heap.size,1,none⟩=some (.int .i64 0):=(hb1.cell (p:=⟨w.heap.size,1,none⟩) (by simp)).trans (by simp);have r2:w1.cell? ⟨w.heap.size,2,none⟩=some (.int .i64 0):=(hb1.cell (p:=⟨w.heap.size,2,none⟩) (by simp)).trans (by simp);have rf:∀j,w1.frozen? ⟨w.heap.size,j,none⟩=false:=fun j=>(hb1.frozen (p:=⟨w.heap.size,j,none⟩) (by simp)).trans (by simp)
 have B1:Hid (Below w.heap.size w w1):=hba.trans (hb1.mono (by simp));obtain⟨k0',k1',k2',k3'⟩:=hK1.cells;have f2:=hK1.free 2;have HK1:Hid (KnAt w1 b vW (.slice q N cap) l mb):=hK1;clear k0 k1 k2 k3 HK0 hK1 hb1 hba h CT;have HNO:Hid _:=hno;clear hno;have HKX:Hid (∀n,KnAt ((w1.drewN n).setCell ⟨b,2,none⟩ (.string ⟨(l.drop (dlen l)).toArray⟩)) b vW (.slice q N cap) (l.drop (dlen l)) mb):=fun n=>KnAt.left (w:=w1.drewN n) HK1.out _
 generalize hS0:(⟨l.toArray⟩:ByteArray)=S0 at *;generalize hT0:(⟨(l.drop (dlen l)).toArray⟩:ByteArray)=T0 at *;generalize hD0:(⟨(l.take (dlen l)).toArray⟩:ByteArray)=D0 at *;have HD0:Hid (D0.data.toList=l.take (dlen l)):=by show _=_;rw[←hD0]
 clear hS0 hT0 hD0;go_wp2_with fail
 go_quiet (fail)
 go_wp2_with fail;have hX:KnAt ((w1.drewN nq).setCell ⟨b,2,none⟩ (.string T0)) b vW (.slice q N cap) (l.drop (dlen l)) mb:=HKX.out nq;have hgX:w.grownBy ((w1.drewN nq).setCell ⟨b,2,none⟩ (.string T0)) (some b):=by
  have g1:w.grownBy (w1.drewN nq) (some b):=⟨B1.out.os,B1.out.tape,B1.out.output,B1.out.size,fun k hk _=>B1.out.block k hk⟩;exact g1.trans (zaE _ _ _ _)
 have hne:∀j,((w1.drewN nq).setCell ⟨b,2,none⟩ (.string T0)).cell? ⟨w.heap.size,j,none⟩=w1.cell? ⟨w.heap.size,j,none⟩:=fun j=>World.cell?_of_block (a:=⟨w.heap.size,j,none⟩) (Below.heap_setCell (w1.drewN nq) ⟨b,2,none⟩ _ _ (by dsimp only;omega))
 have hnf:∀j,((w1.drewN nq).setCell ⟨b,2,none⟩ (.string T0)).frozen? ⟨w.heap.size,j,none⟩=false:=fun j=>(World.frozen?_of_block (a:=⟨w.heap.size,j,none⟩) (Below.heap_setCell (w1.drewN nq) ⟨b,2,none⟩ _ _ (by dsimp only;omega))).trans (rf j)
 have s0:=(hne 0).trans r0;have s1:=(hne 1).trans r1;have s2:=(hne 2).trans r2;have hsX:w.heap.size<((w1.drewN nq).setCell ⟨b,2,none⟩ (.string T0)).heap.size:=by simp[World.setCell];exact hs1
 generalize ((w1.drewN nq).setCell ⟨b,2,none⟩ (.string T0))=X at *;have hG:Gl X:=hgl.on (h00.grown hgX h00.size (fun k e=>by cases e;exact hb));clear hne r0 r1 r2 rf k0' k1' k2' k3' f2 HKX HK1 B1 hs1;have HX2:Hid (KnAt X b vW (.slice q N cap) (l.drop (dlen l)) mb):=hX;have HGX:Hid (w.grownBy X (some b)):=hgX;clear hX hgX;have RES:Hid (∀Y,Below X.heap.size X Y→Y.cell? ⟨b,1,none⟩=some (.slice q N cap)∧Y.cell? ⟨w.heap.size,0,none⟩=some (.int .i64 0)∧Y.cell? ⟨w.heap.size,1,none⟩=some (.int .i64 0)∧Y.cell? ⟨w.heap.size,2,none⟩=some (.int .i64 0)∧Y.frozen? ⟨w.heap.size,0,none⟩=false∧Y.frozen? ⟨w.heap.size,1,none⟩=false∧Y.frozen? ⟨w.heap.size,2,none⟩=false):=fun Y hY =>
  ⟨(KnAt.below HX2.out hY).cells.2.1,(hY.cell (p:=⟨w.heap.size,0,none⟩) hsX).trans s0,(hY.cell (p:=⟨w.heap.size,1,none⟩) hsX).trans s1,(hY.cell (p:=⟨w.heap.size,2,none⟩) hsX).trans s2,(hY.frozen (p:=⟨w.heap.size,0,none⟩) hsX).trans (hnf 0),(hY.frozen (p:=⟨w.heap.size,1,none⟩) hsX).trans (hnf 1),(hY.frozen (p:=⟨w.heap.size,2,none⟩) hsX).trans (hnf 2)⟩
 have FIN:Hid (∀Y,Below X.heap.size X Y→w.grownBy (set3 Y w.heap.size (.int .i64 0) (.int .i64 0) (.int .i64 0)) (some b)∧KnAt (set3 Y w.heap.size (.int .i64 0) (.int .i64 0) (.int .i64 0)) b vW (.slice q N cap) (l.drop (dlen l)) mb∧∀j,j<3→∃u,Y.cell? ⟨w.heap.size,j,none⟩=some u):=fun Y hY=>by
  have g1:w.grownBy Y (some b):=HGX.out.trans ⟨hY.os,hY.tape,hY.output,hY.size,fun k hk _=>hY.block k hk⟩;have hK:=KnAt.below HX2.out hY;have e:∀k,k≠w.heap.size→(set3 Y w.heap.size (.int .i64 0) (.int .i64 0) (.int .i64 0)).heap[k]?=Y.heap[k]?:=fun k hk=>by
   unfold set3;rw[Below.heap_setCell _ ⟨w.heap.size,2,none⟩ _ k hk,Below.heap_setCell _ ⟨w.heap.size,1,none⟩ _ k hk,Below.heap_setCell _ ⟨w.heap.size,0,none⟩ _ k hk]
  obtain⟨_,a0,a1,a2,_⟩:=RES.out Y hY;refine⟨⟨g1.os,g1.tape,g1.output,by simp[set3,World.setCell];exact g1.size,fun k hk hne=>(e k (by omega)).trans (g1.block k hk hne)⟩,(e b (by omega)).trans hK,fun j hj=>?_⟩
  match j,hj with
  | 0,_=>exact⟨_,a0⟩
  | 1,_=>exact⟨_,a1⟩
  | 2,_=>exact⟨_,a2⟩
 have hD4:D0.size≤200000:=by
  have:=congrArg List.length HD0.out;rw[List.length_take] at this;have e:D0.data.toList.length=D0.size:=Array.length_toList;omega
 clear s0 s1 s2 hnf;cases ha:Lib.atoiAll D0.data.toList
 ·rename_i v
  have hv:=zes ha;have CA:Hid (Calls Tryz.prog 231 #[.string D0] X fun e w'=>e=.returned (.tuple #[.int .i64 v,.nilIface])∧Below X.heap.size X w'):=(zit D0 (by omega) v ha X).mono fun e w' h=>by
   obtain⟨h1,rfl|⟨t,rfl⟩⟩:=h
   ·exact⟨h1,Below.refl _ _⟩
   ·exact⟨h1,zbt _ _ _⟩
  have CI:Hid (∀w,Gl w→Calls Tryz.prog 144 #[.int .i64 v] w fun e w'=>e=.returned (.string ⟨(Lib.itoa v).toArray⟩)∧Below w.heap.size w w'):=fun w h=>(zis v hv.1 hv.2 w h.here.2.2.2).mono fun e w' h=>by
   obtain⟨h1,k,os,rfl⟩:=h;exact⟨h1,zbS _ _ _⟩
  have HT:Hid ((⟨(Lib.itoa v).toArray⟩:ByteArray).toList=Lib.itoa v):=by show _=_;rw[ByteArray.toList_eq]
  have HS:Hid (D0.toList=D0.data.toList):=ByteArray.toList_eq D0;have HE:((⟨(Lib.itoa v).toArray⟩:ByteArray).toList==D0.toList)=decide (Lib.itoa v=D0.data.toList):=by
   rw[HT.out,HS.out,Bool.eq_iff_iff,beq_iff_eq,decide_eq_true_eq]
  have HV:Hid (Lib.itoa v=D0.data.toList→¬v<(N:Int)):=fun hE=>by have:=HNO.out v (by rw[←HD0.out];exact ha) (by rw[←HD0.out];exact hE);omega
  clear HT HS HNO ha;generalize (⟨(Lib.itoa v).toArray⟩:ByteArray)=I at *;refine Calls.mono CA.out ?_;rintro e w2 ⟨rfl,hb2⟩;by_cases hE:Lib.itoa v=D0.data.toList
  ·rw[decide_eq_true hE] at HE;have hvN:(N:Int)≤v:=by have:=HV.out hE;omega
   clear hE HV;go_wp2_with fail;refine Calls.mono (CI.out _ (hG.on hb2)) ?_;rintro e w3 ⟨rfl,hb3⟩;have b23:=hb2.trans (hb3.mono hb2.size);obtain⟨y0,y1,y2,y3,y4,y5,y6⟩:=RES.out _ b23;go_wp2_with fail;exact bodyPost_ret (zam rfl rfl rfl (zau w3 w.heap.size _ _ _ (FIN.out _ b23).2.2)) rfl ⟨(FIN.out _ b23).1,rfl,(FIN.out _ b23).2.1⟩
  ·rw[decide_eq_false hE] at HE;clear hE HV;go_wp2_with fail;refine Calls.mono (CI.out _ (hG.on hb2)) ?_;rintro e w3 ⟨rfl,hb3⟩;have b23:=hb2.trans (hb3.mono hb2.size);obtain⟨y0,y1,y2,y3,y4,y5,y6⟩:=RES.out _ b23;go_wp2_with fail;exact bodyPost_ret (zam rfl rfl rfl (zau w3 w.heap.size _ _ _ (FIN.out _ b23).2.2)) rfl ⟨(FIN.out _ b23).1,rfl,(FIN.out _ b23).2.1⟩
 ·obtain⟨ev,hv1,hv2⟩:=hG.here.2.1;have CA:Hid (Calls Tryz.prog 231 #[.string D0] X fun e w'=>∃N x,e=.returned (.tuple #[.int .i64 x,.iface 385 (.pointer (some ⟨N,0,none⟩))])∧Below X.heap.size X w'):=(Any.strconv_Atoi_syntax Tryz.laysC172 D0 (by omega) ha ev X hv1 hv2).mono fun e w' h=>by
   obtain⟨N,h1,_,_,h2⟩:=h;exact⟨N,_,h1,h2⟩
  clear ha hv1 HNO;refine Calls.mono CA.out ?_;rintro e w2 ⟨nb,x,rfl,hb2⟩;obtain⟨y0,y1,y2,y3,y4,y5,y6⟩:=RES.out _ hb2;go_wp2_with fail;exact bodyPost_ret (zam rfl rfl rfl (zau w2 w.heap.size _ _ _ (FIN.out _ hb2).2.2)) rfl ⟨(FIN.out _ hb2).1,rfl,(FIN.out _ hb2).2.1⟩
 ·obtain⟨ev,hv1,hv2⟩:=hG.here.2.2.1;have CA:Hid (Calls Tryz.prog 231 #[.string D0] X fun e w'=>∃N x,e=.returned (.tuple #[.int .i64 x,.iface 385 (.pointer (some ⟨N,0,none⟩))])∧Below X.heap.size X w'):=(Any.strconv_Atoi_range Tryz.laysC172 D0 (by omega) ha ev X hv1 hv2).mono fun e w' h=>by
   obtain⟨N,h1,_,_,h2⟩:=h;exact⟨N,_,h1,h2⟩
  clear ha hv1 HNO;refine Calls.mono CA.out ?_;rintro e w2 ⟨nb,x,rfl,hb2⟩;obtain⟨y0,y1,y2,y3,y4,y5,y6⟩:=RES.out _ hb2;go_wp2_with fail;exact bodyPost_ret (zam rfl rfl rfl (zau w2 w.heap.size _ _ _ (FIN.out _ hb2).2.2)) rfl ⟨(FIN.out _ hb2).1,rfl,(FIN.out _ hb2).2.1⟩
theorem ziM (w00 w:World) (b mb:Nat) (vW:Value) (ba n:Nat) (a1 a2 a3:Int) (N cap:Nat) (l:List UInt8) (hgl:Gl w00) (h00:Below w00.heap.size w00 w) (hb:w00.heap.size≤b) (hl:l.length≤200000) (h:KnAt w b vW (.slice (some ⟨ba,0,none⟩) N cap) l mb)
 (hn1:Lib.atoiAll (l.take (dlen l))=.ok (n:Int)) (hn2:Lib.itoa (n:Int)=l.take (dlen l)) (hn3:n<N) (hbb:ba≠b) (hbl:ba<w.heap.size) (z0:w.cell? ⟨ba,n*3,none⟩=some (.int .i64 a1)) (z1:w.cell? ⟨ba,n*3+1,none⟩=some (.int .i64 a2)) (z2:w.cell? ⟨ba,n*3+2,none⟩=some (.int .i64 a3)) :
 Calls Tryz.prog 177 #[.pointer (some ⟨b,0,none⟩)] w fun e w'=>w.grownBy w' (some b)∧e=.returned (.tuple #[avV (a1,a2,a3),.bool true])∧KnAt w' b vW (.slice (some ⟨ba,0,none⟩) N cap) (l.drop (dlen l)) mb:=by
 have CT:Hid (∀X,Calls Tryz.prog 234 #[.string ⟨l.toArray⟩,.string ⟨#[48,49,50,51,52,53,54,55,56,57]⟩] X fun e w'=>e=.returned (.string ⟨(l.drop (dlen l)).toArray⟩)∧Below X.heap.size X w'):=fun X=>zcI l X
 have hd:=zeR l;have HX:=zgQ l (dlen l);have zz0:(⟨l.toArray⟩:ByteArray).size=l.length:=by simp[ByteArray.size]
 have zz1:(⟨(l.drop (dlen l)).toArray⟩:ByteArray).size=l.length-dlen l:=by simp[ByteArray.size]
 have hsub:IntKind.i64.wrap (((⟨l.toArray⟩:ByteArray).size:Int)-((⟨(l.drop (dlen l)).toArray⟩:ByteArray).size:Int))=(dlen l:Int):=by rw[zz0,zz1,IntWalk.i64_in _ (by omega)];omega
 have hdl:(dlen l:Int)≤((⟨l.toArray⟩:ByteArray).size:Int):=by omega
 have hba:=zaa w (.cells zZd 134);have hK0:=h.below hba;obtain⟨k0,k1,k2,k3⟩:=hK0.cells;have HK0:Hid _:=hK0;clear zz0 zz1 hK0;go_enter Tryz.func177,Tryz.ntmps177;go_wp2_with fail;refine(CT.out _).mono ?_;rintro e w1 ⟨rfl,hb1⟩;have hK1:KnAt w1 b vW (.slice (some ⟨ba,0,none⟩) N cap) l mb:=KnAt.below HK0.out hb1;have hs1:w.heap.size<w1.heap.size:=by have:=hb1.size;simp at this;omega
 have hbw:b<w.heap.size:=h.lt;have r0:w1.cell? ⟨w.heap.size,0,none⟩=some (.int .i64 0):=(hb1.cell (p:=⟨w.heap.size,0,none⟩) (by simp)).trans (by simp);have r1:w1.cell? ⟨w.heap.size,1,none⟩=some (.int .i64 0):=(hb1.cell (p:=⟨w.heap.size,1,none⟩) (by simp)).trans (by simp);have r2:w1.cell? ⟨w.heap.size,2,none⟩=some (.int .i64 0):=(hb1.cell (p:=⟨w.heap.size,2,none⟩) (by simp)).trans (by simp);have rf:∀j,w1.frozen? ⟨w.heap.size,j,none⟩=false:=fun j=>(hb1.frozen (p:=⟨w.heap.size,j,none⟩) (by simp)).trans (by simp)
 have B1:Hid (Below w.heap.size w w1):=hba.trans (hb1.mono (by simp));obtain⟨k0',k1',k2',k3'⟩:=hK1.cells;have f2:=hK1.free 2;have HK1:Hid (KnAt w1 b vW (.slice (some ⟨ba,0,none⟩) N cap) l mb):=hK1;clear k0 k1 k2 k3 HK0 hK1 hb1 hba h CT;have HZ:Hid (w.cell? ⟨ba,n*3,none⟩=some (.int .i64 a1)∧w.cell? ⟨ba,n*3+1,none⟩=some (.int .i64 a2)∧w.cell? ⟨ba,n*3+2,none⟩=some (.int .i64 a3)):=⟨z0,z1,z2⟩;have HN1:Hid (Lib.atoiAll (l.take (dlen l))=.ok (n:Int)):=hn1;have HN2:Hid (Lib.itoa (n:Int)=l.take (dlen l)):=hn2;clear z0 z1 z2 hn1 hn2;have HKX:Hid (∀n,KnAt ((w1.drewN n).setCell ⟨b,2,none⟩ (.string ⟨(l.drop (dlen l)).toArray⟩)) b vW (.slice (some ⟨ba,0,none⟩) N cap) (l.drop (dlen l)) mb):=fun n=>KnAt.left (w:=w1.drewN n) HK1.out _
 generalize hS0:(⟨l.toArray⟩:ByteArray)=S0 at *;generalize hT0:(⟨(l.drop (dlen l)).toArray⟩:ByteArray)=T0 at *;generalize hD0:(⟨(l.take (dlen l)).toArray⟩:ByteArray)=D0 at *;have HD0:Hid (D0.data.toList=l.take (dlen l)):=by show _=_;rw[←hD0]
 clear hS0 hT0 hD0;go_wp2_with fail
 go_quiet (fail)
 go_wp2_with fail;have hX:KnAt ((w1.drewN nq).setCell ⟨b,2,none⟩ (.string T0)) b vW (.slice (some ⟨ba,0,none⟩) N cap) (l.drop (dlen l)) mb:=HKX.out nq;have hgX:w.grownBy ((w1.drewN nq).setCell ⟨b,2,none⟩ (.string T0)) (some b):=by
  have g1:w.grownBy (w1.drewN nq) (some b):=⟨B1.out.os,B1.out.tape,B1.out.output,B1.out.size,fun k hk _=>B1.out.block k hk⟩;exact g1.trans (zaE _ _ _ _)
 have hne:∀j,((w1.drewN nq).setCell ⟨b,2,none⟩ (.string T0)).cell? ⟨w.heap.size,j,none⟩=w1.cell? ⟨w.heap.size,j,none⟩:=fun j=>World.cell?_of_block (a:=⟨w.heap.size,j,none⟩) (Below.heap_setCell (w1.drewN nq) ⟨b,2,none⟩ _ _ (by dsimp only;omega))
 have hnf:∀j,((w1.drewN nq).setCell ⟨b,2,none⟩ (.string T0)).frozen? ⟨w.heap.size,j,none⟩=false:=fun j=>(World.frozen?_of_block (a:=⟨w.heap.size,j,none⟩) (Below.heap_setCell (w1.drewN nq) ⟨b,2,none⟩ _ _ (by dsimp only;omega))).trans (rf j)
 have s0:=(hne 0).trans r0;have s1:=(hne 1).trans r1;have s2:=(hne 2).trans r2;have hsX:w.heap.size<((w1.drewN nq).setCell ⟨b,2,none⟩ (.string T0)).heap.size:=by simp[World.setCell];exact hs1
 generalize ((w1.drewN nq).setCell ⟨b,2,none⟩ (.string T0))=X at *;have hG:Gl X:=hgl.on (h00.grown hgX h00.size (fun k e=>by cases e;exact hb));clear hne r0 r1 r2 rf k0' k1' k2' k3' f2 HKX HK1 B1 hs1;have HX2:Hid (KnAt X b vW (.slice (some ⟨ba,0,none⟩) N cap) (l.drop (dlen l)) mb):=hX;have HGX:Hid (w.grownBy X (some b)):=hgX;clear hX hgX;have RES:Hid (∀Y,Below X.heap.size X Y→(Y.cell? ⟨ba,n*3,none⟩=some (.int .i64 a1)∧Y.cell? ⟨ba,n*3+1,none⟩=some (.int .i64 a2)∧Y.cell? ⟨ba,n*3+2,none⟩=some (.int .i64 a3))∧Y.cell? ⟨b,1,none⟩=some (.slice (some ⟨ba,0,none⟩) N cap)∧Y.cell? ⟨w.heap.size,0,none⟩=some (.int .i64 0)∧Y.cell? ⟨w.heap.size,1,none⟩=some (.int .i64 0)∧Y.cell? ⟨w.heap.size,2,none⟩=some (.int .i64 0)∧Y.frozen? ⟨w.heap.size,0,none⟩=false∧Y.frozen? ⟨w.heap.size,1,none⟩=false∧Y.frozen? ⟨w.heap.size,2,none⟩=false):=fun Y hY =>
  have hbX:ba<X.heap.size:=by omega
  have hc:∀o,Y.cell? ⟨ba,o,none⟩=w.cell? ⟨ba,o,none⟩:=fun o=>(hY.cell (p:=⟨ba,o,none⟩) hbX).trans (World.cell?_of_block (a:=⟨ba,o,none⟩) (HGX.out.block ba hbl (fun e=>hbb (by injection e))))
  ⟨⟨(hc _).trans HZ.out.1,(hc _).trans HZ.out.2.1,(hc _).trans HZ.out.2.2⟩,(KnAt.below HX2.out hY).cells.2.1,(hY.cell (p:=⟨w.heap.size,0,none⟩) hsX).trans s0,(hY.cell (p:=⟨w.heap.size,1,none⟩) hsX).trans s1,(hY.cell (p:=⟨w.heap.size,2,none⟩) hsX).trans s2,(hY.frozen (p:=⟨w.heap.size,0,none⟩) hsX).trans (hnf 0),(hY.frozen (p:=⟨w.heap.size,1,none⟩) hsX).trans (hnf 1),(hY.frozen (p:=⟨w.heap.size,2,none⟩) hsX).trans (hnf 2)⟩
 have FIN:Hid (∀Y,Below X.heap.size X Y→w.grownBy (set3 Y w.heap.size (.int .i64 a1) (.int .i64 a2) (.int .i64 a3)) (some b)∧KnAt (set3 Y w.heap.size (.int .i64 a1) (.int .i64 a2) (.int .i64 a3)) b vW (.slice (some ⟨ba,0,none⟩) N cap) (l.drop (dlen l)) mb∧∀j,j<3→∃u,Y.cell? ⟨w.heap.size,j,none⟩=some u):=fun Y hY=>by
  have g1:w.grownBy Y (some b):=HGX.out.trans ⟨hY.os,hY.tape,hY.output,hY.size,fun k hk _=>hY.block k hk⟩;have hK:=KnAt.below HX2.out hY;have e:∀k,k≠w.heap.size→(set3 Y w.heap.size (.int .i64 a1) (.int .i64 a2) (.int .i64 a3)).heap[k]?=Y.heap[k]?:=fun k hk=>by
   unfold set3;rw[Below.heap_setCell _ ⟨w.heap.size,2,none⟩ _ k hk,Below.heap_setCell _ ⟨w.heap.size,1,none⟩ _ k hk,Below.heap_setCell _ ⟨w.heap.size,0,none⟩ _ k hk]
  obtain⟨_,_,x0,x1,x2,_⟩:=RES.out Y hY;refine⟨⟨g1.os,g1.tape,g1.output,by simp[set3,World.setCell];exact g1.size,fun k hk hne=>(e k (by omega)).trans (g1.block k hk hne)⟩,(e b (by omega)).trans hK,fun j hj=>?_⟩
  match j,hj with
  | 0,_=>exact⟨_,x0⟩
  | 1,_=>exact⟨_,x1⟩
  | 2,_=>exact⟨_,x2⟩
 have hD4:D0.size≤200000:=by
  have:=congrArg List.length HD0.out;rw[List.length_take] at this;have e:D0.data.toList.length=D0.size:=Array.length_toList;omega
 clear s0 s1 s2 hnf;have ha:Lib.atoiAll D0.data.toList=.ok (n:Int):=by rw[HD0.out];exact HN1.out
 have hv:=zes ha;have CA:Hid (Calls Tryz.prog 231 #[.string D0] X fun e w'=>e=.returned (.tuple #[.int .i64 (n:Int),.nilIface])∧Below X.heap.size X w'):=(zit D0 (by omega) (n:Int) ha X).mono fun e w' h=>by
  obtain⟨h1,rfl|⟨t,rfl⟩⟩:=h
  ·exact⟨h1,Below.refl _ _⟩
  ·exact⟨h1,zbt _ _ _⟩
 have CI:Hid (∀w,Gl w→Calls Tryz.prog 144 #[.int .i64 (n:Int)] w fun e w'=>e=.returned (.string ⟨(Lib.itoa (n:Int)).toArray⟩)∧Below w.heap.size w w'):=fun w h=>(zis (n:Int) hv.1 hv.2 w h.here.2.2.2).mono fun e w' h=>by
  obtain⟨h1,k,os,rfl⟩:=h;exact⟨h1,zbS _ _ _⟩
 have HT:Hid ((⟨(Lib.itoa (n:Int)).toArray⟩:ByteArray).toList=Lib.itoa (n:Int)):=by show _=_;rw[ByteArray.toList_eq]
 have HS:Hid (D0.toList=D0.data.toList):=ByteArray.toList_eq D0;have HE:((⟨(Lib.itoa (n:Int)).toArray⟩:ByteArray).toList==D0.toList)=true:=by
  rw[HT.out,HS.out,HD0.out,HN2.out];simp
 clear HT HS ha hv;generalize (⟨(Lib.itoa (n:Int)).toArray⟩:ByteArray)=I at *;refine Calls.mono CA.out ?_;rintro e w2 ⟨rfl,hb2⟩;have hnN:(n:Int)<(N:Int):=by omega
 have hnN':¬(N:Int)≤(n:Int):=by omega
 go_wp2_with fail;refine Calls.mono (CI.out _ (hG.on hb2)) ?_;rintro e w3 ⟨rfl,hb3⟩;have b23:=hb2.trans (hb3.mono hb2.size);obtain⟨⟨u0,u1,u2⟩,y0,y1,y2,y3,y4,y5,y6⟩:=RES.out _ b23;go_wp2_with fail;exact bodyPost_ret (zam rfl rfl rfl (zau w3 w.heap.size _ _ _ (FIN.out _ b23).2.2)) rfl ⟨(FIN.out _ b23).1,rfl,(FIN.out _ b23).2.1⟩
open Go.RowKit
def Parts3K (w:World) (pv:Value) (k:Int) (t u:Int):Prop :=
 (k=2→∃g o c,pv=.slice (some ⟨g,o,none⟩) 1 c∧g<w.heap.size∧w.cell? ⟨g,o,none⟩=some (.int .i8 t)) ∧
 (k=3∨k=4∨k=5→∃g o c,pv=.slice (some ⟨g,o,none⟩) 2 c∧g<w.heap.size∧w.cell? ⟨g,o,none⟩=some (.int .i8 u)∧w.cell? ⟨g,o+1,none⟩=some (.int .i8 t))
theorem ssettleK (kn:Atm→Int) (cp:Value) (b o:Nat) (y0 y1 y2 y3:Int) (pv:Value) (t u:Int) (w:World) (h0:0≤y0∧y0≤6) (ht:T3 t) (hu:T3 u) (hp:Parts3K w pv y0 t u)
 (c0:w.cell? ⟨b,o,none⟩=some (.int .i64 y0)) (c1:w.cell? ⟨b,o+1,none⟩=some (.int .i64 y1)) (c2:w.cell? ⟨b,o+2,none⟩=some (.int .i64 y2)) (c3:w.cell? ⟨b,o+3,none⟩=some (.int .i64 y3))
 (CK:y0=6→Calls Tryz.prog 175 #[.agg #[.int .i64 y1,.int .i64 y2,.int .i64 y3],cp] w fun e w'=>e=.returned (.int .i8 (kn (y1,y2,y3)))∧Below w.heap.size w w') :
 Calls Tryz.prog 116 #[.pointer (some ⟨b,o,none⟩),.func (.func 175) #[] #[cp],pv] w fun e w'=>e=.returned (.int .i8 (tval kn (y0,y1,y2,y3) t u))∧Below w.heap.size w w':=by
 have CN:Hid (∀t w,T3 t→Calls Tryz.prog 167 #[.int .i8 t] w fun e w'=>e=.returned (.int .i8 (tnot t))∧w=w'):=fun t w h=>zbI t h w
 have CB:Hid (∀t u w,T3 t→T3 u→Calls Tryz.prog 168 #[.int .i8 t,.int .i8 u] w fun e w'=>e=.returned (.int .i8 (tboth t u))∧w=w'):=fun t u w h k=>zce t u h k w
 have CE:Hid (∀t u w,T3 t→T3 u→Calls Tryz.prog 169 #[.int .i8 t,.int .i8 u] w fun e w'=>e=.returned (.int .i8 (teith t u))∧w=w'):=fun t u w h k=>zdo t u h k w
 have HT:Hid (T3 t):=ht;have HU:Hid (T3 u):=hu;clear ht hu;have hk:y0=0∨y0=1∨y0=6∨y0=2∨y0=3∨y0=4∨y0=5:=by omega
 rcases hk with rfl|rfl|rfl|rfl|rfl|rfl|rfl
 ·clear CK hp;go_enter Tryz.func116,Tryz.ntmps116;go_wp2_with fail;go_ret;exact⟨rfl,Below.refl _ _⟩
 ·clear CK hp;go_enter Tryz.func116,Tryz.ntmps116;go_wp2_with fail;go_ret;exact⟨rfl,Below.refl _ _⟩
 ·have CK':Hid _:=CK rfl;have HB:Hid (tval kn (6,y1,y2,y3) t u=kn (y1,y2,y3)):=rfl;generalize kn (y1,y2,y3)=HL at *;clear hp CK;go_enter Tryz.func116,Tryz.ntmps116;go_wp2_with (go_at_call 175;refine Calls.mono CK'.out ?_;rintro e w3 ⟨rfl,hb3⟩);go_ret;exact⟨by rw[HB.out];rfl,hb3⟩
 ·obtain⟨g,o,c,rfl,hgs,hc⟩:=hp.1 rfl;clear hp CK;go_enter Tryz.func116,Tryz.ntmps116;go_wp2_with (go_at_call 167;refine(CN.out _ _ HT.out).mono ?_;rintro e w' ⟨rfl,rfl⟩);go_ret;exact⟨rfl,Below.refl _ _⟩
 all_goals
  obtain⟨g,o,c,rfl,hgs,hc,hd⟩:=hp.2 (by omega);clear hp CK;go_enter Tryz.func116,Tryz.ntmps116;go_wp2_with fail;go_region_with (first
   | (go_at_call 167;refine(CN.out _ _ HT.out).mono ?_;rintro e w' ⟨rfl,rfl⟩)
   | (go_at_call 168;refine(CB.out _ _ _ HT.out HU.out).mono ?_;rintro e w' ⟨rfl,rfl⟩)
   | (go_at_call 169;refine(CE.out _ _ _ (by first|exact HT.out|exact zbp _) HU.out).mono ?_;rintro e w' ⟨rfl,rfl⟩))
  all_goals (try go_wp2_with fail)
  all_goals go_ret
  all_goals exact⟨rfl,(Below.refl _ _).drew⟩
theorem csettleK (kn:Atm→Int) (cp:Value) (KI:World→Prop) (hKI:∀W W',KI W→Below W.heap.size W W'→KI W') (hk3:∀a,T3 (kn a)) (b cap:Nat) (ys:List Sym) (w:World) (hlen:ys.length≤4000)
 (hI:Syms w.heap.size w (.slice (some ⟨b,0,none⟩) ys.length cap) ys)
 (hval:∀n,n<ys.length→∃y,ys[n]?=some y∧0≤y.1∧y.1≤6∧(y.1=6→okA y.2)∧prt y.1≤(trun kn (ys.drop (n+1))).length) (T:Int) (hone:trun kn ys=[T]) (hK0:KI w)
 (CK:∀W a1 a2 a3,KI W→okA (a1,a2,a3)→Calls Tryz.prog 175 #[.agg #[.int .i64 a1,.int .i64 a2,.int .i64 a3],cp] W fun e w'=>e=.returned (.int .i8 (kn (a1,a2,a3)))∧Below W.heap.size W w') :
 Calls Tryz.prog 80 #[.slice (some ⟨b,0,none⟩) ys.length cap,.func (.func 175) #[] #[cp]] w fun e w'=>e=.returned (.int .i8 T)∧Below w.heap.size w w':=by
 obtain⟨i0,hi,hz0,hz1,hz2⟩:=info_parts Tryz.infoTruth;have HV:Hid _:=hval;have HK:Hid _:=CK;have HI:Hid _:=hI;have HT:Hid _:=hone;have H3:Hid _:=zdn hk3;have HLE:Hid _:=zf4 kn;have KW:Hid (∀W,Below w.heap.size w W→KI W):=fun W h=>hKI w W hK0 h
 have CPt:Hid (∀y0 w,Calls Tryz.prog 76 #[.int .i64 y0] w fun e w'=>e=.returned (.int .i64 (prt y0))∧w=w'):=zd6;clear hval CK hI hone hKI hk3 hK0;have hyl:(ys.length:Int)=((ys.length:Nat):Int):=rfl;go_enter Tryz.func80,Tryz.ntmps80;go_wp2_with (at_make;refine wpList_make_own _ rfl _ _ 178 rfl w.heap.size 159 i0 (.int .i8 0) 1 Tryz.underlying178 hi hz0 hz1 .i64 .i64 _ ys.length rfl rfl ?_ ?_ ?_ ?_ ?_;(exact rfl);(rw[hz2];omega);(unfold maxLen;omega);(exact Nat.le_refl _));intro w1 hown1 hgrow1;have hb1:Below w.heap.size w w1:=(Below.refl _ _).grown hgrow1 (Nat.le_refl _) (by intro k h;cases h);clear hgrow1;go_wp2_with fail
 go_loopw [5,6,7,8] (fun v i r t wr=>∃n:Nat,n≤ys.length∧i=.int .i64 ((n:Int)-1)∧wr.ownsRow w.heap.size 159 1 v (trun kn (ys.drop n)).length ((trun kn (ys.drop n)).reverse.map tv8)∧Below w.heap.size w wr) (fun _ i _ _ _=>((intOf i)+1).toNat)
 case atStart=>exact⟨ys.length,Nat.le_refl _,rfl,by rw[List.drop_length];exact hown1,hb1⟩
 case round =>
  obtain⟨n,hny,rfl,hown,hnx⟩:=hrel;rcases Nat.eq_zero_or_pos n with rfl|hpos
  ·rw[List.drop_zero,HT.out] at hown;obtain⟨g2,cap2,rfl,_,_,_,_,hc5,_⟩:=zav hown (by simp);have hc0:=hc5 0 (tv8 T) rfl;unfold tv8 at hc0;clear hc5;go_wp2_with fail;go_ret;exact⟨rfl,hnx⟩
  ·obtain⟨n,rfl⟩:∃n',n=n'+1:=⟨n-1,by omega⟩
   obtain⟨⟨y0,y1,y2,y3⟩,hy1,hy2,hy3,hy4,hy5⟩:=HV.out n (by omega);dsimp only at hy2 hy3 hy4 hy5;obtain⟨_,_,e1,hbn,hcs⟩:=HI.out;cases e1
   obtain⟨z0,z1,z2,z3⟩:=hcs n _ hy1;have c0:=(hnx.cell (p:=⟨b,n*4,none⟩) hbn).trans z0;have c1:=(hnx.cell (p:=⟨b,n*4+1,none⟩) hbn).trans z1;have c2:=(hnx.cell (p:=⟨b,n*4+2,none⟩) hbn).trans z2;have c3:=(hnx.cell (p:=⟨b,n*4+3,none⟩) hbn).trans z3;clear hcs z0 z1 z2 z3;have hdrop:ys.drop n=(y0,y1,y2,y3)::ys.drop (n+1):=by
    rw[List.drop_eq_getElem_cons (by omega)]
    congr 1
    rw[List.getElem?_eq_getElem (by omega)] at hy1;exact Option.some.inj hy1
   have HD:Hid (trun kn (ys.drop n)=tst kn (y0,y1,y2,y3) (trun kn (ys.drop (n+1)))):=by show _=_;rw[hdrop,zaM]
   have HR:Hid _:=H3.out (ys.drop (n+1));have hsl:(trun kn (ys.drop (n+1))).length≤4000:=by
    have h1:=HLE.out (ys.drop (n+1));rw[List.length_drop] at h1;omega
   clear hdrop hy1;generalize hst:trun kn (ys.drop (n+1))=st at *;clear hst;have hpr:=zaD y0;have CP0:Hid (∀w,Calls Tryz.prog 76 #[.int .i64 y0] w fun e w'=>e=.returned (.int .i64 (prt y0))∧w=w'):=fun w=>CPt.out y0 w
   have HDV:Hid (trun kn (ys.drop n)=tval kn (y0,y1,y2,y3) (st.headD 0) (st.tail.headD 0)::st.drop (prt y0).toNat):=HD.out;clear HD;have hh0:T3 (st.headD 0):=by
    cases st with
    | nil=>exact Or.inl rfl
    | cons x r=>exact HR.out x (by simp)
   have hh1:T3 (st.tail.headD 0):=by
    match st,HR.out with
    | [],_=>exact Or.inl rfl
    | [x],_=>exact Or.inl rfl
    | x::z::r,h=>exact h z (by simp)
   have HH:Hid (T3 (st.headD 0)∧T3 (st.tail.headD 0)):=⟨hh0,hh1⟩;generalize hVV:tval kn (y0,y1,y2,y3) (st.headD 0) (st.tail.headD 0)=VV at *;have HVV:Hid _:=hVV;clear hVV hh0 hh1 HR;generalize hp0:prt y0=p0 at *;have HP0:Hid (prt y0=p0):=hp0;clear hp0;obtain⟨q,c,rfl⟩:=zaN hown;have hnn:((n+1:Nat):Int)-1=(n:Int):=by omega
   rw[hnn];obtain⟨R,hR,hRL⟩:∃R:Nat,(st.length:Int)-p0=(R:Int)∧R≤st.length:=⟨st.length-p0.toNat,by omega,by omega⟩
   have hsub:IntKind.i64.wrap ((st.length:Int)-p0)=(R:Int):=by rw[hR];exact IntWalk.i64_in _ (by omega)
   have hnl:(n:Int)<(ys.length:Int):=by omega
   have hnl2:n<ys.length:=by omega
   have HS:Hid (∀pv W,Below w.heap.size w W→Parts3K W pv y0 (st.headD 0) (st.tail.headD 0)→W.cell? ⟨b,n*4,none⟩=some (.int .i64 y0)→W.cell? ⟨b,n*4+1,none⟩=some (.int .i64 y1)→W.cell? ⟨b,n*4+2,none⟩=some (.int .i64 y2)→W.cell? ⟨b,n*4+3,none⟩=some (.int .i64 y3)→Calls Tryz.prog 116 #[.pointer (some ⟨b,n*4,none⟩),.func (.func 175) #[] #[cp],pv] W fun e w'=>e=.returned (.int .i8 VV)∧Below W.heap.size W w'):=fun pv W hW hp a0 a1 a2 a3=>by
    rw[←HVV.out];exact ssettleK kn cp b (n*4) y0 y1 y2 y3 pv _ _ W ⟨hy2,hy3⟩ HH.out.1 HH.out.2 hp a0 a1 a2 a3 (fun h6=>HK.out W y1 y2 y3 (KW.out W hW) (hy4 h6))
   clear HH HVV hy4;go_wp2_with (go_at_call 76;refine(CP0.out _).mono ?_;rintro e w' ⟨rfl,rfl⟩);have hLc:st.length≤c:=by
    rcases hown.2 with⟨h1,h2⟩|⟨g,cap',cur,h1,hgb,hgh,hg3,hg4,hg5,hg6⟩
    ·injection h1 with e1 e2 e3;omega
    ·injection h1 with e1 e2 e3;omega
   have hRc:R≤c:=by omega
   have hB1:Below w.heap.size w wr.drew:=hnx.drew;have c0':wr.drew.cell? ⟨b,n*4,none⟩=some (.int .i64 y0):=c0;have c1':wr.drew.cell? ⟨b,n*4+1,none⟩=some (.int .i64 y1):=c1;have c2':wr.drew.cell? ⟨b,n*4+2,none⟩=some (.int .i64 y2):=c2;have c3':wr.drew.cell? ⟨b,n*4+3,none⟩=some (.int .i64 y3):=c3;have CS:Hid (∀pv,(c≠R→pv=.slice (Option.map (fun x=>x.add R) q) (st.length-R) (c-R))→Calls Tryz.prog 116 #[.pointer (some ⟨b,n*4,none⟩),.func (.func 175) #[] #[cp],pv] wr.drew fun e w'=>e=.returned (.int .i8 VV)∧Below wr.drew.heap.size wr.drew w'):=fun pv hpv=>by
    refine HS.out pv wr.drew hB1 ?_ c0' c1' c2' c3';by_cases hcl:c=R
    ·have h0:prt y0=0:=by rw[HP0.out];omega
     constructor
     ·intro h;subst h;cases h0
     ·rintro(h|h|h)<;>subst h<;>cases h0
    ·rw[hpv hcl]
     constructor
     ·intro h;subst h;have h1:p0=1:=HP0.out.symm;obtain⟨t,r,rfl⟩:∃t r,st=t::r:=by
       cases st with
       | nil=>simp at hy5;omega
       | cons t r=>exact⟨t,r,rfl⟩
      obtain⟨g,cap',e,hgb,hgl,hg3,hg4,hg5,hg6⟩:=zav hown (by simp);injection e with e1 e2 e3
      subst e1;have hl1:(t::r).length=r.length+1:=rfl;have hRe:R=r.length:=by omega
      refine⟨g,R,c-R,?_,hgl,?_⟩
      ·rw[hl1,hRe,show r.length+1-r.length=1 by omega];simp[Addr.add];intro h;subst h;rfl
      ·rw[hRe];exact hg5 r.length (tv8 t) (by simp)
     ·intro h;have h1:p0=2:=by rcases h with h|h|h<;>subst h<;>exact HP0.out.symm
      obtain⟨t,u,r,rfl⟩:∃t u r,st=t::u::r:=by
       match st,hy5 with
       | [],h=>simp at h;omega
       | [t],h=>simp at h;omega
       | t::u::r,_=>exact⟨t,u,r,rfl⟩
      obtain⟨g,cap',e,hgb,hgl,hg3,hg4,hg5,hg6⟩:=zav hown (by simp);injection e with e1 e2 e3
      subst e1;have hl1:(t::u::r).length=r.length+2:=rfl;have hRe:R=r.length:=by omega
      refine⟨g,R,c-R,?_,hgl,?_,?_⟩
      ·rw[hl1,hRe,show r.length+2-r.length=2 by omega];simp[Addr.add];intro h;subst h;rfl
      ·rw[hRe];exact hg5 r.length (tv8 u) (by simp)
      ·rw[hRe];exact hg5 (r.length+1) (tv8 t) (by simp)
   clear HS;by_cases hcl:c=R
   ·have hcl2:=hcl.symm;clear hcl;subst hcl2;go_region_with (go_at_call 116;refine(CS.out _ (fun h=>absurd rfl h)).mono ?_;rintro e w3 ⟨rfl,hb3⟩)
    all_goals
     have hbw:Below wr.heap.size wr w3:=(Below.refl _ wr).drew.trans hb3;have hown3:=zad hown hbw;have hnx3:Below w.heap.size w w3:=hnx.trans (hbw.mono hnx.size);have hs3:=hnx3.size;clear hown hb3 hB1 CS c0 c1 c2 c3 c0' c1' c2' c3' CP0 CPt;rcases hown3.2 with⟨h1,h2⟩|⟨g,cap',cur,h1,hgb,hgh,hg3,hg4,hg5,hg6⟩
     ·have hq:q=none∧R=0:=by injection h1 with e1 e2 e3;exact⟨e1,e3⟩
      obtain⟨rfl,hR0⟩:=hq;have hst0:st=[]:=List.length_eq_zero_iff.1 h2;subst hst0 hR0;go_wp2_with (at_builtin;refine wpList_append_own _ rfl _ _ 178 rfl w.heap.size 159 i0 (.int .i8 0) 1 1 Tryz.underlying178 hi hz0 hz1 hz2 rfl (by decide) _ _ _ rfl (hown3.alloc _) ⟨w3.heap.size,0,none⟩ 1 1 [.int .i8 VV] rfl rfl (zbl _ _ rfl _ _) (zd7 _) (by unfold maxLen;simp) (by simp) (by simp;omega) ?_);intro v' w4 hown4 hgrow _;have hb4:=(hnx3.alloc (by omega) _).grown hgrow (by simp;omega) (zaf hown3);clear hgrow;go_wp2_with fail
      go_roundw
      case rel=>exact⟨n,by omega,by go_num,by rw[HDV.out];simpa [tv8] using hown4,hb4⟩
      case measure=>simp[intOf]
     ·have hq:q=some ⟨g,0,none⟩∧R=cap':=by injection h1 with e1 e2 e3;exact⟨e1,e3⟩
      obtain⟨rfl,rfl⟩:=hq;have hrow3:=zc3 hown3 R hRL;go_wp2_with (at_builtin;refine wpList_append_own _ rfl _ _ 178 rfl w.heap.size 159 i0 (.int .i8 0) 1 1 Tryz.underlying178 hi hz0 hz1 hz2 rfl (by decide) _ _ _ rfl (hrow3.alloc _) ⟨w3.heap.size,0,none⟩ 1 1 [.int .i8 VV] rfl rfl (zbl _ _ rfl _ _) (zd7 _) (by unfold maxLen;omega) (by omega) (by simp;omega) ?_);intro v' w4 hown4 hgrow _;have hb4:=(hnx3.alloc (by omega) _).grown hgrow (by simp;omega) (zaf hrow3);clear hgrow;go_wp2_with fail
      go_roundw
      case rel =>
       refine⟨n,by omega,by go_num,?_,hb4⟩;rw[HDV.out,zcf _ _ (by omega)];have hRp:st.length-p0.toNat=R:=by omega
       rw[hRp];have hln:(VV::st.drop p0.toNat).length=R+1:=by rw[List.length_cons,List.length_drop,hRp]
       rw[hln];rw[List.map_reverse];exact hown4
      case measure=>simp[intOf]
   ·go_region_with (go_at_call 116;refine(CS.out _ (fun h=>rfl)).mono ?_;rintro e w3 ⟨rfl,hb3⟩)
    all_goals
     have hbw:Below wr.heap.size wr w3:=(Below.refl _ wr).drew.trans hb3;have hown3:=zad hown hbw;have hnx3:Below w.heap.size w w3:=hnx.trans (hbw.mono hnx.size);have hs3:=hnx3.size;clear hown hb3 hB1 CS c0 c1 c2 c3 c0' c1' c2' c3' CP0 CPt;rcases hown3.2 with⟨h1,h2⟩|⟨g,cap',cur,h1,hgb,hgh,hg3,hg4,hg5,hg6⟩
     ·have hq:q=none∧c=0:=by injection h1 with e1 e2 e3;exact⟨e1,e3⟩
      obtain⟨rfl,rfl⟩:=hq;have hst0:st=[]:=List.length_eq_zero_iff.1 h2;subst hst0;exact absurd (show 0=R by simp at hRL;omega) hcl
     ·have hq:q=some ⟨g,0,none⟩∧c=cap':=by injection h1 with e1 e2 e3;exact⟨e1,e3⟩
      obtain⟨rfl,rfl⟩:=hq;have hrow3:=zc3 hown3 R hRL;go_wp2_with (at_builtin;refine wpList_append_own _ rfl _ _ 178 rfl w.heap.size 159 i0 (.int .i8 0) 1 1 Tryz.underlying178 hi hz0 hz1 hz2 rfl (by decide) _ _ _ rfl (hrow3.alloc _) ⟨w3.heap.size,0,none⟩ 1 1 [.int .i8 VV] rfl rfl (zbl _ _ rfl _ _) (zd7 _) (by unfold maxLen;omega) (by omega) (by simp;omega) ?_);intro v' w4 hown4 hgrow _;have hb4:=(hnx3.alloc (by omega) _).grown hgrow (by simp;omega) (zaf hrow3);clear hgrow;go_wp2_with fail
      go_roundw
      case rel =>
       refine⟨n,by omega,by go_num,?_,hb4⟩;rw[HDV.out,zcf _ _ (by omega)];have hRp:st.length-p0.toNat=R:=by omega
       rw[hRp];have hln:(VV::st.drop p0.toNat).length=R+1:=by rw[List.length_cons,List.length_drop,hRp]
       rw[hln];rw[List.map_reverse];exact hown4
      case measure=>simp[intOf]
theorem Below.grows {w w':World} (h:Below w.heap.size w w'):w.grownBy w' none:=⟨h.os,h.tape,h.output,h.size,fun k hk _=>h.block k hk⟩
theorem AM.below {w w':World} {b n:Nat} {f:Atm→Int} (h:AM w b n f) (hb:Below w.heap.size w w'):AM w' b n f:=h.kept (Below.grows hb) (by simp)
def KMap (w:World) (B mb n:Nat) (f:Atm→Int):Prop:=B<w.heap.size∧w.cell? ⟨B,0,none⟩=some (.map (some mb))∧AM w mb n f
theorem KMap.on {w w':World} {B mb n:Nat} {f:Atm→Int} (h:KMap w B mb n f) (hb:Below w.heap.size w w'):KMap w' B mb n f :=
 ⟨Nat.lt_of_lt_of_le h.1 hb.size,(hb.cell (p:=⟨B,0,none⟩) h.1).trans h.2.1,h.2.2.below hb⟩
theorem zl0 (f:Atm→Int) (a1 a2 a3:Int) (B mb n:Nat) (w:World) (hs:KMap w B mb n f) (ho:okA (a1,a2,a3)) :
 Calls Tryz.prog 175 #[.agg #[.int .i64 a1,.int .i64 a2,.int .i64 a3],.pointer (some ⟨B,0,none⟩)] w fun e w'=>e=.returned (.int .i8 (f (a1,a2,a3)))∧Below w.heap.size w w':=by
 have hb:=zaa w (.cells #[.int .i64 a1,.int .i64 a2,.int .i64 a3] 134);obtain⟨s0,s1,s2⟩:=hs.on hb;have hl:=s2.look (a1,a2,a3) ho;unfold avV at hl;dsimp only at hl;have HB:Hid _:=hb;clear hs s2 ho hb;generalize f (a1,a2,a3)=FA at *;go_enter Tryz.func175,Tryz.ntmps175;go_wp2;go_ret;exact⟨rfl,HB.out⟩
theorem zf1 {s:ByteArray} {ys:List Sym} (hp:pars s=some ys) (v:Value) (mb n:Nat) (f:Atm→Int) (hf3:∀a,T3 (f a)) (w:World) (hI:Syms w.heap.size w v ys) (hM:AM w mb n f) :
 Calls Tryz.prog 124 #[v,.map (some mb)] w fun e w'=>e=.returned (.int .i8 ((trun f ys).headD 0))∧Below w.heap.size w w':=by
 obtain⟨hs,hprs,_,_⟩:=zaz hp;obtain⟨ps,hps⟩:=zcq s ys 0 1 (Nat.zero_le _) hprs;have hl:=zcD ys 0 1 ps hps;have hlen:=zcd f ys 0 1 ps hps (by omega);obtain⟨t,hr1⟩:∃t,trun f ys=[t]:=by
  match hb:trun f ys,hlen with
  | [],h=>simp at h
  | [t],_=>exact⟨t,rfl⟩
  | x::z::r,h=>simp at h;omega
 obtain⟨b,cap,rfl,hbs,hcs⟩:=id hI;have CS:Hid (∀W B,Below w.heap.size w W→KMap W B mb n f→Calls Tryz.prog 80 #[.slice (some ⟨b,0,none⟩) ys.length cap,.func (.func 175) #[] #[.pointer (some ⟨B,0,none⟩)]] W fun e w'=>e=.returned (.int .i8 t)∧Below W.heap.size W w'):=fun W B hW hst =>
  csettleK f (.pointer (some ⟨B,0,none⟩)) (fun W=>KMap W B mb n f) (fun _ _ h hb=>h.on hb) hf3 b cap ys W (by omega) ((hI.below hW).more hW.size) (zf5 _ ys 0 1 ps hps (by omega)) t hr1 hst (fun W a1 a2 a3 h ho=>zl0 f a1 a2 a3 B mb n W h ho)
 have hst:KMap (w.alloc (.cells #[.map (some mb)] 170)) w.heap.size mb n f:=⟨by simp,by simp,hM.below (zaa _ _)⟩;rw[hr1];have HST:Hid _:=hst;clear hst hr1 hI hcs hps hprs hp hl hM hlen;go_enter Tryz.func124,Tryz.ntmps124;go_wp2_with (go_at_call 80;refine(CS.out _ _ (zaa w _) HST.out).mono ?_;rintro e w3 ⟨rfl,hb3⟩);go_ret;exact⟨rfl,(zaa w _).trans (hb3.mono (by simp))⟩
end Go.Proofs.YtkinoehmcfhgbaaGreatDoor.Vl
