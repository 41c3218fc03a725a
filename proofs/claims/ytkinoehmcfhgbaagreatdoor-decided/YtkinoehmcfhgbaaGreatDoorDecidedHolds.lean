/- Proved here: Rows.DecidedCardSaid: whatever text, whatever two budgets and whatever state it is given, the law avouchkeep.Decided returns true and its arguments read as they did: a proof that is found is confirmed and the condition holds at the state; a model that is found makes it false; with a greater budget the answer stays. Conditions: package-level variables of the library (strconv's two errors, its table of powers of ten, the tables of math/bits and of unicode/utf8) begin as the program's text lays them; the card ties them to that text, by the translator's report that nothing else writes them, over the pruned copy of the project. -/
import Derived.Test.YtkinoehmcfhgbaaGreatDoorCards
import Derived.Test.YtkinoehmcfhgbaaGreatDoorTie
import Derived.Test.YtkinoehmcfhgbaaGreatDoorE9
import Derived.Test.YtkinoehmcfhgbaaGreatDoorDdFacts
import Derived.ShutString
import Derived.LaidMore
import Derived.Stop.LaidErr
import Derived.Lib.AppendIntMem
import Derived.HandedShaped
import Derived.Lay
set_option linter.unusedVariables false
set_option linter.unusedSimpArgs false
set_option maxRecDepth 100000
set_option maxHeartbeats 1000000
namespace Go.Proofs.YtkinoehmcfhgbaaGreatDoor
open Go.ChangeShapes Go.WideShapes Go.ChangeAt Go.RowKit
open Go.ChangeMaps (open_string shut_string)
namespace DecidedEnd
theorem own:ownKnob Tryz.prog.godebug=none:=by kernel_rfl
theorem gTab:Tryz.prog.globalNamed Vl.tabName=some 1:=by kernel_rfl
theorem gRange:Tryz.prog.globalNamed "strconv.ErrRange"=some 3:=by kernel_rfl
theorem gSyntax:Tryz.prog.globalNamed "strconv.ErrSyntax"=some 2:=by kernel_rfl
theorem tRange:(Tryz.prog.globals[3]?).map (·.type)=some 138:=by kernel_rfl
theorem tSyntax:(Tryz.prog.globals[2]?).map (·.type)=some 138:=by kernel_rfl
theorem cellsES:Tryz.prog.cellsOf 409=1:=by kernel_rfl
theorem cellsS:Tryz.prog.cellsOf 9=1:=by kernel_rfl
theorem cellsI:Tryz.prog.cellsOf 3=1:=by kernel_rfl
theorem cellsSt:Tryz.prog.cellsOf 36=4:=by kernel_rfl
theorem star: "*"++ "errors.errorString"= "*errors.errorString":=by decide
theorem rowES (u:TypeId) (h:Tryz.prog.typeName? 3 u=some "*errors.errorString"):u=407 :=
 typeName_ptr_named (nm:= "errors.errorString") (by rw[star];kernel_rfl) (by kernel_rfl) (by decide) u (by rw[star];exact h)
theorem in64 {x:Int} (h:(Lit.int .i64 x).wf=true):-9223372036854775808≤x∧x≤9223372036854775807:=by
 simp[Lit.wf,IntKind.bits,IntKind.signed,IntKind.min,IntKind.max] at h;omega
theorem zmQ {W:World} (hL:laidMetH Tryz.prog Rows.decidedRow.laid W) (hsh:W.ShapedOpen Tryz.prog):Vl.Gl W:=by
 rw[MakeChecks.laidMetH_plain _ _ _ (by kernel_rfl)] at hL;have h3:=hL.tail.tail;have hT:Lib.TabIs Tryz.prog W Vl.tabName .u64 Lib.pow10Tab :=
  Lib.tabIs_of_head (e:=182) (n:=20) gTab rfl (by kernel_rfl) (by kernel_rfl) (by kernel_rfl) (by kernel_rfl) h3
 obtain⟨a1,s1,hv1,-,-,-⟩:=laid_sentinel h3.tail.tail gRange tRange Tryz.underlying138 rowES Tryz.underlying407 Tryz.underlying409 rfl rfl Tryz.underlying9 cellsES cellsS;obtain⟨a2,s2,hv2,-,-,-⟩:=laid_sentinel h3.tail.tail.tail gSyntax tSyntax Tryz.underlying138 rowES Tryz.underlying407 Tryz.underlying409 rfl rfl Tryz.underlying9 cellsES cellsS;have c2:W.cell? ⟨3,0,none⟩=some (.iface 407 (.pointer (some a1))):=by have:=World.var?_cell gRange hv1 0;simpa using this
 have c1:W.cell? ⟨2,0,none⟩=some (.iface 407 (.pointer (some a2))):=by have:=World.var?_cell gSyntax hv2 0;simpa using this
 obtain⟨m,c0⟩:=cell_of_shapedOpen_int (g:=0) (zero:=#[.int .i64 0]) (t:=3) hsh (of_decide_eq_true (by kernel_rfl)) (by kernel_rfl) rfl (by kernel_rfl) (by kernel_rfl) Tryz.underlying3;have hTB:=Lib.tabBelow_of_tabIs hT;intro w' hb;exact⟨⟨m,(hb.cell (p:=⟨0,0,none⟩) (World.block_lt_of_cell? W _ c0)).trans c0⟩,⟨_,(hb.cell (p:=⟨2,0,none⟩) (World.block_lt_of_cell? W _ c1)).trans c1,Or.inr ⟨_,_,rfl⟩⟩,⟨_,(hb.cell (p:=⟨3,0,none⟩) (World.block_lt_of_cell? W _ c2)).trans c2,Or.inr ⟨_,_,rfl⟩⟩,hTB w' hb⟩
theorem list4 {α:Type} (l:List α) (h:(⟨l⟩:Array α).size=4):∃a b c d,l=[a,b,c,d]:=by
 match l,h with
 | [a,b,c,d],_=>exact⟨a,b,c,d,rfl⟩
theorem zcb {H:Type} {enc:TypeId×Value→H} {C:Checked} {os:Os} {f:FuncId} {fn:Func} {s:ChangeSpec} {conds:List PathCond} {X:World→Array Value→Prop}
 (hX:∀(w w':World) (args:Array Value),w.heap=w'.heap→X w args→X w' args)
 (own:ownKnob C.prog.godebug=none) (started:os.Started) (noInit:C.prog.inits.idxOf? f=none) (hfn:C.prog.funcs[f]?=some fn)
 (witness:∃(w:World) (tape:Tape) (i:Input),w.os=os∧(w.forCall tape i).Shaped C.prog∧i.vars=[]∧Input.okWide C.prog (w.forCall tape i) .any w.heap.size f i ∧
  ((s.pre enc C.prog fn conds false (w.forCall tape i).memory i.args∧X (w.forCall tape i).memory i.args)∧sizedMet enc C.prog fn (OpenSpec.ofChange s) false (w.forCall tape i).memory i.args)∧({}:Assume).holds C.prog (lone (Frame.enter C.prog f i.args .normal) [] (w.forCall tape i)))
 (contract:∀(W:World) (base:Nat) (args:Array Value) (ds gs:List (DataW H)) (before:List MemPlace),
  (∀(j:Nat) t v,fn.params[j]?=some t→args[j]?=some v→Value.okWide C.prog W .any base t v) →
  DataW.Whole enc C.prog fn.params.toList s.vars false W args.toList ds gs before→X W args→W.ShapedOpen C.prog →
  Calls C.prog f args W fun e W'=>∃v,e=.returned v∧s.post enc C.prog fn false true false false W args v W') :
 ReturnsInHanded {} C os f .any (fun w args=>(s.pre enc C.prog fn conds false w args∧X w args)∧sizedMet enc C.prog fn (OpenSpec.ofChange s) false w args) (s.post enc C.prog fn false true false false):=by
 refine returnsInHanded_of_calls own started noInit witness fun w tape i _ hsh _ hok hpre _=>?_
 obtain⟨_,_,_,fn',hfn',_,_,_,_,hval⟩:=hok;obtain rfl:fn'=fn:=Option.some.inj (hfn'.symm.trans hfn);obtain⟨⟨⟨ds,gs,before,hw,_⟩,hx⟩,_⟩:=hpre;refine(contract (w.forCall tape i) w.heap.size i.args ds gs before hval (DataW.Whole.of_heap (w':=w.forCall tape i) (by rfl) hw) (hX _ _ _ (by rfl) hx) hsh).mono fun e W' h=>?_
 obtain⟨v,rfl,hp⟩:=h;exact ChangeSpec.post_blind hp
theorem zkh (os:Os) (args:Array Value):laidMetH Tryz.prog Rows.decidedRow.laid ((World.laidAll Tryz.prog os Rows.decidedRow.laid).forCall (fun _ _=>0) ⟨#[],args,[]⟩).memory:=by
 rw[MakeChecks.laidMetH_plain _ _ _ (by kernel_rfl)];exact laidMet_laidAll _ (by kernel_rfl) (by kernel_rfl)
theorem lifted (os:Os) (started:os.Started) (H:Type) (enc:TypeId×Value→H) :
 ReturnsInHanded {} Tryz.checked os 7 .any (fun w args=>(Rows.decidedSpec.pre enc Tryz.prog Tryz.f7 Rows.decidedRow.domain false w args∧laidMetH Tryz.prog Rows.decidedRow.laid w)∧sizedMet enc Tryz.prog Tryz.f7 (OpenSpec.ofChange Rows.decidedSpec) false w args)
  (Rows.decidedSpec.post enc Tryz.prog Tryz.f7 false true false false):=by
 refine zcb (C:=Tryz.checked) (X:=fun w _=>laidMetH Tryz.prog Rows.decidedRow.laid w) (fun _ _ _ hh h=>h.of_heap hh) own started (by kernel_rfl) Tryz.func7
  (ChangeSpec.witness_shaped (enc:=enc) (C:=Tryz.checked) (os:=os) (X:=fun w _=>laidMetH Tryz.prog Rows.decidedRow.laid w) false (World.laidAll Tryz.prog os Rows.decidedRow.laid) #[.string ⟨#[]⟩,.int .i64 0,.int .i64 0,.agg #[.int .i64 0,.int .i64 0,.int .i64 0,.int .i64 0]] 8 (World.laidAll_os _ _ _) (World.shaped_of_ZipB (by kernel_rfl) (by kernel_rfl)) (by kernel_rfl) (by kernel_rfl) (by kernel_rfl) (zkh os _)) ?_
 intro W base args ds gs before hval0 hW hL hsh;have hgl:=zmQ hL hsh;clear hL hsh;have hval:∀(j:Nat) t v,Tryz.f7.params[j]?=some t→args[j]?=some v→Value.okWide Tryz.prog W .any base t v:=hval0
 have hW':=hW;obtain⟨p,q,hA0,hV,rfl,hfz,hnd⟩:=hW;have hA:DataW.TrodAll enc Tryz.prog W 0 (fun _=>true) true Tryz.f7.params.toList args.toList ds p:=hA0;rw[Tryz.params7] at hA hval;obtain⟨v0,vs0,d0,ds0,p0,q0,hargs,rfl,rfl,h0,r0⟩:=trodAll_cons hA;obtain⟨v1,vs1,d1,ds1,p1,q1,rfl,rfl,rfl,h1,r1⟩:=trodAll_cons r0;obtain⟨v2,vs2,d2,ds2,p2,q2,rfl,rfl,rfl,h2,r2⟩:=trodAll_cons r1;obtain⟨v3,vs3,d3,ds3,p3,q3,rfl,rfl,rfl,h3,r3⟩:=trodAll_cons r2;obtain⟨rfl,rfl,rfl⟩:=trodAll_nil r3;obtain rfl:args=#[v0,v1,v2,v3]:=by cases args;simp_all
 obtain⟨rfl,rfl⟩:=trodVars_none hV;obtain⟨a0,rfl,rfl,rfl,w0⟩:=open_string Tryz.underlying9 (hval 0 9 v0 rfl rfl) h0;obtain⟨a1,rfl,rfl,rfl,w1⟩:=open_int Tryz.underlying3 (hval 1 3 v1 rfl rfl) h1;obtain⟨a2,rfl,rfl,rfl,w2⟩:=open_int Tryz.underlying3 (hval 2 3 v2 rfl rfl) h2;obtain⟨cs,rfl,hsz,_⟩:∃cs,v3=.agg cs∧cs.size=Tryz.prog.cellsOf 36∧Row.okWide Tryz.prog W .any base 36 cs:=by
  have:=hval 3 36 v3 rfl rfl;simpa [Value.okWide,Tryz.underlying36] using this
 rw[cellsSt] at hsz;obtain⟨l⟩:=cs;obtain⟨c0,c1,c2,c3,rfl⟩:=list4 l hsz;obtain⟨fuel,hf⟩:=h3;obtain⟨y0,y1,y2,y3,m,hx,hy0,hy1,hy2,hy3⟩:=trod_array4 Tryz.underlying36 cellsI hf;obtain⟨x0,e0,rfl,b0⟩:=DataW.trod_int Tryz.underlying3 hy0;obtain⟨x1,e1,rfl,b1⟩:=DataW.trod_int Tryz.underlying3 hy1;obtain⟨x2,e2,rfl,b2⟩:=DataW.trod_int Tryz.underlying3 hy2;obtain⟨x3,e3,rfl,b3⟩:=DataW.trod_int Tryz.underlying3 hy3;simp at e0 e1 e2 e3;subst e0 e1 e2 e3;simp only[Prod.mk.injEq] at hx;obtain⟨rfl,rfl⟩:=hx;clear hA0 hval0;simp only[List.append_nil] at hW';have hin:∀x∈[x0,x1,x2,x3],-9223372036854775808≤x∧x≤9223372036854775807:=by
  intro x hx;simp only[List.mem_cons,List.not_mem_nil,or_false] at hx;rcases hx with rfl|rfl|rfl|rfl
  ·exact in64 b0
  ·exact in64 b1
  ·exact in64 b2
  ·exact in64 b3
 refine(Vl.zgO a0 a1 a2 x0 x1 x2 x3 (in64 w1) (in64 w2) hin w0 W hgl).mono fun e W' ⟨he,bel⟩=>?_
 subst he;have rdA:∀sp:Nat→Bool,DataW.Trod enc Tryz.prog W' 0 sp true 36 (.agg #[.int .i64 x0,.int .i64 x1,.int .i64 x2,.int .i64 x3]) (DataW.agg [.lit (.int .i64 x0),.lit (.int .i64 x1),.lit (.int .i64 x2),.lit (.int .i64 x3)]) []:=fun sp=>⟨2,by simp[DataW.trod,Value.cells,Tryz.underlying36,Tryz.underlying3,cellsSt,cellsI,b0,b1,b2,b3,show List.range 4=[0,1,2,3] from rfl]⟩
 exact⟨_,rfl,_,_,_,[],_,[],hW',trodAll_mk1 (shut_bool Tryz.underlying4 _),(trodAll_cons_mk (shut_string Tryz.underlying9 w0) (trodAll_cons_mk (shut_int Tryz.underlying3 w1) (trodAll_cons_mk (shut_int Tryz.underlying3 w2) (trodAll_cons_mk (rdA _) trodAll_mk0)))),rfl,bel.frame _,fun h=>by cases h⟩
theorem zcA {a:Assume} {C:Checked} {os:Os} {f:FuncId} {r:Reach} {Pre:World→Array Value→Prop} {Post:World→Array Value→Value→World→Prop} (h:ReturnsInHanded a C os f r Pre Post):ReturnsInLeavingWide a C os f r Pre Post :=
 fun enter=>(h enter).mono (fun _ _ _ ⟨hq,hh,he⟩=>⟨hh,onlyLeaving_of_quiet hq,he⟩) (fun _ h=>h)
theorem over:Rows.decidedRow.holds Tryz.pinned (OpenSpec.ofChange Rows.decidedSpec) :=
 OpenClaim.holds_of_wide_leaving 7 Tryz.f7 rfl rfl rfl rfl rfl rfl rfl ⟨rfl,rfl,rfl,rfl,rfl⟩ rfl rfl rfl rfl rfl oName Tryz.func7 oFacts oInst oWrap
  (fun os started H enc _=>zcA (lifted os started H enc))
end DecidedEnd
theorem ziW {p:Pinned} {s:OpenSpec} {c:OpenClaim} (kinds:List LaidKind) (har:Bool×String) (hc:c.holds p s) (hw:c.wfByText s=true) (htie:c.laidByTextAt .later p kinds true)
 (hst:c.start=.entering) (hnb:c.noBlocks=false∧c.again=false) (hm:p.checked.prog.mainIs=some (har.1,har.2.toList)) (hn:(!har.1&&har.2.isEmpty&&!true)=false)
 (hl:∀f fn,p.checked.prog.funcNamed c.func=some f→p.checked.prog.funcs[f]?=some fn→true=p.checked.prog.looks []∧∀(j:Nat) t,fn.params[j]?=some t→p.checked.prog.wantsStandIn t=false)
 (hg:true=c.goesBy p.checked.prog) :
 Claim7.holds p (.plain s) {stood:={row:=c,standIns:=[],harness:=har,looks:=true},kinds:=[],alts:=[],goes:=true,laidByText:=true,laidKinds:=kinds,laidTests:=true,laidLooks:=.later}:=by
 have h6:Claim7.isSixth {stood:={row:=c,standIns:=[],harness:=har,looks:=true},kinds:=[]}=false:=by simp[Claim7.isSixth]
 exact⟨Claim7.tied_new_at .later kinds true (Claim7.new_of_sixth hc har true hst hnb hm h6 hl) hw,(fun D hD=>by cases hD),htie,(fun h=>by cases h),hg⟩
theorem decided_holds:Rows.DecidedCardSaid :=
 ziW [.data,.data,.data,.data,.sentinel,.sentinel,.pinned] (true,"8703e678e03a29aedbfb1a13c548837b4900a7980f57df075a6bb9ba3c390c21") DecidedEnd.over (by kernel_rfl) decided_row_tie rfl ⟨rfl,rfl⟩ (by kernel_rfl) rfl
  (fun f fn hf hfn=>by
   obtain rfl:f=7:=Option.some.inj ((show Tryz.prog.funcNamed Rows.decidedRow.func=some 7 by kernel_rfl).symm.trans hf) |>.symm
   obtain rfl:fn=Tryz.f7:=(Option.some.inj (Tryz.func7.symm.trans hfn)).symm;exact⟨by kernel_rfl,fun j t ht=>by
    rw[Tryz.params7] at ht;have hm:t∈[9,3,36]:=by simpa using Array.mem_of_getElem? ht
    have hall:([9,3,36].all fun u=>!(Tryz.prog.wantsStandIn u))=true:=by kernel_rfl
    exact(show Tryz.prog.wantsStandIn t=false by simpa using List.all_eq_true.1 hall t hm)⟩)
  (by kernel_rfl)
#print axioms decided_holds
end Go.Proofs.YtkinoehmcfhgbaaGreatDoor
