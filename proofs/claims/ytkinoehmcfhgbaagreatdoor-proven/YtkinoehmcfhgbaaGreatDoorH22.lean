/-
  The walk of the prover's Prove.
  The walk of prover.New.
  The call Prove: what the program answers.
-/
import Derived.Test.YtkinoehmcfhgbaaGreatDoorH6
import Derived.Test.YtkinoehmcfhgbaaGreatDoorZ8
set_option linter.unusedVariables false
set_option linter.unusedSimpArgs false
namespace Go.Proofs.YtkinoehmcfhgbaaGreatDoor.Vl
open Go.RowKit

/-- How the search for a condition ends. -/
def prE (ys : List Sym) (bu : Nat) : En := (sch (uqs ys) (gad (uqs ys) ys.length ys 2 0).1 bu bu (fun _ => 0) bno).1
/-- What Prove answers: the verdict, the model, the proofs. -/
def prA (ys : List Sym) (bu : Nat) : Int × (Int × Int × Int × Int) × List (List UInt8) :=
  if (prE ys bu).v = 1 then (1, (prE ys bu).md, []) else if (prE ys bu).v = 0 ∧ cfm ys (prE ys bu).pf = true then (0, (0, 0, 0, 0), [(prE ys bu).pf]) else (2, (0, 0, 0, 0), [])
def ansV (v : Int) (m : Int × Int × Int × Int) (pv : Value) : Value := .agg #[.int .i64 v, .int .i64 0, .int .i64 m.1, .int .i64 m.2.1, .int .i64 m.2.2.1, .int .i64 m.2.2.2, pv]
theorem Tryz.infoAns : (Tryz.prog.info? 51).map (·.size) = some 7 := by kernel_rfl
theorem SX.pars {s : ByteArray} {ys : List Sym} (h : pars s = some ys) : SX (uqs ys) (gad (uqs ys) ys.length ys 2 0).1 := by
  have P := PC.pars h
  exact ⟨P.ok, by have := pars_few h; omega, P.gl, P.tr.pos, P.gw⟩
set_option maxRecDepth 100000 in
set_option maxHeartbeats 4000000 in
theorem prove_any {s : ByteArray} {ys : List Sym} (hp : pars s = some ys) (w0 w : World) (pb kb mb km : Nat) (lv vW0 vA0 : Value) (l0 : List UInt8) (n0 : Nat) (f0 : Atm → Int) (bu : Nat) (hI : PvI w0 w pb kb mb) (hkn : KnAt w kb vW0 vA0 l0 km) (ham : AM w km n0 f0) (hk0 : w0.heap.size ≤ km) (hkk : kb ≠ km) (hkp : km ≠ pb) (hkm : km ≠ mb) (hs : Syms w0.heap.size w0 lv ys) (hcp : ∀ b cap, lv = .slice (some ⟨b, 0, none⟩) ys.length cap → ys.length ≤ cap) (hbu : bu ≤ 20000) (hgl : Gl w0) (hgt : Gt w0) :
    Calls Tryz.prog 56 #[.pointer (some ⟨pb, 0, none⟩), lv, .int .i64 (bu : Int)] w fun e w' => ∃ pv, e = .returned (ansV (prA ys bu).1 (prA ys bu).2.1 pv) ∧ w'.ownsRow w0.heap.size 9 1 pv (prA ys bu).2.2.length ((prA ys bu).2.2.map strV) ∧ Below w0.heap.size w0 w' := by
  have hb1 := below_alloc w (.cells #[.int .i64 0, .int .i64 0, .int .i64 0, .int .i64 0, .int .i64 0, .int .i64 0, .slice none 0 0] 51)
  have hI1 : PvI w0 (w.alloc (.cells #[.int .i64 0, .int .i64 0, .int .i64 0, .int .i64 0, .int .i64 0, .int .i64 0, .slice none 0 0] 51)) pb kb mb := by
    obtain ⟨v1, v2, s0, v5, v6, hbox⟩ := hI.box
    obtain ⟨n, f, hnm⟩ := hI.nm
    exact ⟨hI.h0.trans (hb1.mono hI.h0.size), hI.hp, hI.hm, hI.hk, hI.hpm, hI.hkp, hI.hkm, Nat.lt_of_lt_of_le hI.kl hb1.size, ⟨v1, v2, s0, v5, v6, hbox.below hb1⟩, ⟨n, f, hnm.fr (M := []) (FrX.of_below hb1) List.not_mem_nil⟩⟩
  have hrs1 : Blk (w.alloc (.cells #[.int .i64 0, .int .i64 0, .int .i64 0, .int .i64 0, .int .i64 0, .int .i64 0, .slice none 0 0] 51)) w.heap.size 51 [.int .i64 0, .int .i64 0, .int .i64 0, .int .i64 0, .int .i64 0, .int .i64 0, .slice none 0 0] := heap_alloc_new w _
  have CB : Hid _ := begin_any hp w0 _ pb kb mb lv bu hI1 hs hcp hbu
  have CC : Hid (∀ X vW1 vA1 l1 n1 f1 P, Below w0.heap.size w0 X → KnAt X kb vW1 vA1 l1 km → AM X km n1 f1 → P.length ≤ maxLen → Calls Tryz.prog 53 #[.pointer (some ⟨kb, 0, none⟩), lv, .string ⟨P.toArray⟩] X fun e w' => e = .returned (.bool (cfm ys P)) ∧ FrK kb km X w') := fun X vW1 vA1 l1 n1 f1 P h0 h1 h2 h3 => (confirms_any hp w0 X kb km vW1 vA1 lv l1 P n1 f1 hgl h0 hI.hk hk0 hkk h1 h2 hs h3).mono fun e w' ⟨a, b, _⟩ => ⟨a, b⟩
  have hsx := SX.pars hp
  have HSC : Hid (∀ D, SrC w0 D (uqs ys) (gad (uqs ys) ys.length ys 2 0).1 bu) := fun D => search_any w0 D _ _ hsx hgt bu
  have HSI : Hid (SI (uqs ys) (fun _ => 0) bno) := SI.start _
  have HE : Hid (sch (uqs ys) (gad (uqs ys) ys.length ys 2 0).1 bu bu (fun _ => 0) bno = (prE ys bu, (sch (uqs ys) (gad (uqs ys) ys.length ys 2 0).1 bu bu (fun _ => 0) bno).2)) := rfl
  have HPA : Hid (prA ys bu = if (prE ys bu).v = 1 then (1, (prE ys bu).md, []) else if (prE ys bu).v = 0 ∧ cfm ys (prE ys bu).pf = true then (0, (0, 0, 0, 0), [(prE ys bu).pf]) else (2, (0, 0, 0, 0), [])) := rfl
  generalize prA ys bu = PA at *
  generalize prE ys bu = E at *
  generalize (gad (uqs ys) ys.length ys 2 0).1 = g at *
  generalize uqs ys = us at *
  have hpl : pb < w.heap.size := by obtain ⟨_, _, _, _, _, hb⟩ := hI.box; exact hb.lt
  have hml : mb < w.heap.size := by obtain ⟨_, _, hb⟩ := hI.nm; exact hb.lt
  have hkl := hI.kl
  have hkml := ham.lt
  have hhp := hI.hp
  have hhm := hI.hm
  have hhk := hI.hk
  have h00 := hI.h0
  have h00s := h00.size
  have hkp' := hI.hkp
  have hkm' := hI.hkm
  have hlv : ∃ lb lc, lv = .slice (some ⟨lb, 0, none⟩) ys.length lc := by obtain ⟨b, cap, e, _⟩ := hs; exact ⟨b, cap, e⟩
  obtain ⟨lb, lc, rfl⟩ := hlv
  have HKN : Hid _ := hkn
  have HAM : Hid _ := ham
  have HB1 : Hid _ := hb1
  have HR1 : Hid _ := hrs1
  clear hI hI1 hs hcp hsx hkn ham hrs1 hgl hgt
  go_enter Tryz.func56, Tryz.ntmps56
  go_wp2_with fail
  refine Calls.mono CB.out ?_
  rintro e w2 ⟨rfl, tb, qb, gb, qa, ca, cg, ats, parts, hP2, hf2, htb, hqb⟩
  rw [World.size_alloc] at htb hqb
  have CN : Hid _ := noBounds_any w2
  go_wp2_with (go_at_call 89; refine Calls.mono CN.out ?_; rintro e w3 ⟨cs, rfl, hcs, hb3⟩)
  have CS := HSC.out ⟨pb, mb, tb, qb, gb, kb, qa, ca, cg⟩ w3 bu 0 (fun _ => 0) ats parts bno cs (Nat.le_refl _) (hP2.below hb3) hcs HSI.out (by omega)
  rw [HE.out] at CS
  dsimp only at CS
  refine Calls.mono CS ?_
  clear CS
  rintro e w4 ⟨ws, n', A', ats', parts', rfl, hSR, hpf, hP4, _, _, hfr4⟩
  dsimp only at hfr4 ⊢
  have hMn : ∀ m, m < w.heap.size → m ≠ pb → m ≠ mb → m ∉ PD.M ⟨pb, mb, tb, qb, gb, kb, qa, ca, cg⟩ := fun m h1 h2 h3 h4 => by
    simp only [PD.M, List.mem_cons, List.not_mem_nil, or_false] at h4
    omega
  have hF14 : ∀ m, m < w.heap.size + 1 → m ≠ pb → m ≠ mb → m ∉ PD.M ⟨pb, mb, tb, qb, gb, kb, qa, ca, cg⟩ → w4.heap[m]? = (w.alloc (.cells #[.int .i64 0, .int .i64 0, .int .i64 0, .int .i64 0, .int .i64 0, .int .i64 0, .slice none 0 0] 51)).heap[m]? := fun m h1 h2 h3 h4 => by
    have hm1 : m < (w.alloc (.cells #[.int .i64 0, .int .i64 0, .int .i64 0, .int .i64 0, .int .i64 0, .int .i64 0, .slice none 0 0] 51)).heap.size := by simp; omega
    have e1 := hf2.block m hm1 (by simp [h2, h3])
    have hm2 : m < w2.heap.size := Nat.lt_of_lt_of_le hm1 hf2.size
    have e2 := hb3.block m hm2
    exact ((hfr4.block m (Nat.lt_of_lt_of_le hm2 hb3.size) h4).trans e2).trans e1
  have htql : tb ≠ w.heap.size ∧ qb ≠ w.heap.size := ⟨by omega, by omega⟩
  have hrs4 : Blk w4 w.heap.size 51 [.int .i64 0, .int .i64 0, .int .i64 0, .int .i64 0, .int .i64 0, .int .i64 0, .slice none 0 0] := (hF14 w.heap.size (by omega) (by omega) (by omega) (by simp only [PD.M, List.mem_cons, List.not_mem_nil, or_false]; omega)).trans HR1.out
  have hkn4 : KnAt w4 kb vW0 vA0 l0 km := (hF14 kb (by omega) hkp' hkm' (hMn _ hkl hkp' hkm')).trans (KnAt.below HKN.out HB1.out)
  have ham4 : AM w4 km n0 f0 := by
    obtain ⟨Dw, ⟨es, clock, hbb, r⟩, q2, q3⟩ := AM.below HAM.out HB1.out
    exact ⟨Dw, ⟨es, clock, (hF14 km (by omega) hkp hkm (hMn _ hkml hkp hkm)).trans hbb, r⟩, q2, q3⟩
  clear hF14 hMn hf2 hP2 hb3 hcs hfr4 htql CN CB HSC HSI HE
  have hrl4 := hrs4.lt
  have hcl := enC_len E.v E.pf E.md hSR.len
  have hone := all_oneCell_toArray (enC_one E.v E.pf ws E.md)
  have hcz : (enC E.v E.pf ws E.md).toArray.size = 15 := by rw [List.size_toArray]; exact hcl
  have hiB : (Tryz.prog.info? 186).map (·.size) = some (enC E.v E.pf ws E.md).toArray.size := by rw [hcz]; exact Tryz.infoEnd
  have hnb : Blk (w4.alloc (.cells #[.int .i64 0, .string ⟨#[]⟩, .int .u64 0, .int .u64 0, .int .u64 0, .int .u64 0, .int .u64 0, .int .u64 0, .int .u64 0, .int .u64 0, .int .u64 0, .int .i64 0, .int .i64 0, .int .i64 0, .int .i64 0] 186)) w4.heap.size 186 (enC 0 [] z9 (0, 0, 0, 0)) := heap_alloc_new w4 _
  have hth : (w4.alloc (.cells #[.int .i64 0, .string ⟨#[]⟩, .int .u64 0, .int .u64 0, .int .u64 0, .int .u64 0, .int .u64 0, .int .u64 0, .int .u64 0, .int .u64 0, .int .u64 0, .int .i64 0, .int .i64 0, .int .i64 0, .int .i64 0] 186)).there w4.heap.size 0 (enC E.v E.pf ws E.md).toArray.size := by
    rw [hcz]
    exact (hnb.row (enC_one _ _ _ _)).there 0 15 (by rw [enC_len 0 [] (0, 0, 0, 0) rfl]; omega)
  obtain ⟨W5, hW5⟩ : ∃ W5, (w4.alloc (.cells #[.int .i64 0, .string ⟨#[]⟩, .int .u64 0, .int .u64 0, .int .u64 0, .int .u64 0, .int .u64 0, .int .u64 0, .int .u64 0, .int .u64 0, .int .u64 0, .int .i64 0, .int .i64 0, .int .i64 0, .int .i64 0] 186)).setCells w4.heap.size 0 (enC E.v E.pf ws E.md) = W5 := ⟨_, rfl⟩
  have h45 : Below w4.heap.size w4 W5 := by rw [← hW5]; exact below_cells0 w4 w4.heap.size _ 0 _ (below_alloc w4 _) (Nat.le_refl _)
  have hen5 : Blk W5 w4.heap.size 186 (enC E.v E.pf ws E.md) := by rw [← hW5]; exact hnb.setAll (by rw [hcl, enC_len 0 [] (0, 0, 0, 0) rfl])
  have hP5 := hP4.below h45
  have hrs5 := hrs4.below h45
  have hkn5 : KnAt W5 kb vW0 vA0 l0 km := hkn4.below h45
  have ham5 := ham4.below h45
  have h05 := hP5.h0
  obtain ⟨g0, g1, g2, g3, g4, g5, g6⟩ := hP5.cells
  dsimp only at g0
  have hv0 : W5.cell? ⟨w4.heap.size, 0, none⟩ = some (.int .i64 E.v) := hen5.cell rfl
  have hs0 : W5.cell? ⟨w4.heap.size, 1, none⟩ = some (.string ⟨E.pf.toArray⟩) := hen5.cell rfl
  have hw45 := h45.size
  have hel := hen5.lt
  clear hnb hP4 hP5 hrs4 hkn4 ham4 h45 hcl g1 g2 g3 g4 g5 g6
  by_cases hv1 : E.v = 1
  · have hvb : (E.v == 1) = true := by simpa using hv1
    have HA : Hid (PA = (1, E.md, [])) := by show _ = _; rw [HPA.out, if_pos hv1]
    clear hv1
    have hq : W5.rangeAt w4.heap.size 11 [.int .i64 E.md.1, .int .i64 E.md.2.1, .int .i64 E.md.2.2.1, .int .i64 E.md.2.2.2] := fun j v hv => by
      refine hen5.cell ?_
      obtain ⟨x0, x1, x2, x3, x4, x5, x6, x7, x8, hxo⟩ := list9 hSR.len
      rw [hxo]
      match j, hv with
      | 0, hv => cases hv; rfl
      | 1, hv => cases hv; rfl
      | 2, hv => cases hv; rfl
      | 3, hv => cases hv; rfl
    have n0' : W5.cell? ⟨w4.heap.size, 11, none⟩ = some (.int .i64 E.md.1) := hq 0 _ rfl
    have n1' : W5.cell? ⟨w4.heap.size, 12, none⟩ = some (.int .i64 E.md.2.1) := hq 1 _ rfl
    have n2' : W5.cell? ⟨w4.heap.size, 13, none⟩ = some (.int .i64 E.md.2.2.1) := hq 2 _ rfl
    have n3' : W5.cell? ⟨w4.heap.size, 14, none⟩ = some (.int .i64 E.md.2.2.2) := hq 3 _ rfl
    have hrsY := hrs5
    have r0 : W5.cell? ⟨w.heap.size, 0, none⟩ = some (.int .i64 0) := Blk.cell (i := 0) hrsY rfl
    have r1 : W5.cell? ⟨w.heap.size, 1, none⟩ = some (.int .i64 0) := Blk.cell (i := 1) hrsY rfl
    have r2 : W5.cell? ⟨w.heap.size, 2, none⟩ = some (.int .i64 0) := Blk.cell (i := 2) hrsY rfl
    have r3 : W5.cell? ⟨w.heap.size, 3, none⟩ = some (.int .i64 0) := Blk.cell (i := 3) hrsY rfl
    have r4 : W5.cell? ⟨w.heap.size, 4, none⟩ = some (.int .i64 0) := Blk.cell (i := 4) hrsY rfl
    have r5 : W5.cell? ⟨w.heap.size, 5, none⟩ = some (.int .i64 0) := Blk.cell (i := 5) hrsY rfl
    have r6 : W5.cell? ⟨w.heap.size, 6, none⟩ = some (.slice none 0 0) := Blk.cell (i := 6) hrsY rfl
    have hR7 := Blk.row hrsY (by intro v hv; simp at hv; rcases hv with rfl | rfl <;> rfl)
    have HRR : Hid (Av.Row W5 w.heap.size 7) := hR7
    clear hen5 hrs5 hrsY hR7 hkn5 ham5 hq
    have hon1 : (#[.int .i64 1, .int .i64 0, .int .i64 E.md.1, .int .i64 E.md.2.1, .int .i64 E.md.2.2.1, .int .i64 E.md.2.2.2, .slice none 0 0] : Array Value).all (·.oneCell') = true := by simp [Value.oneCell']
    obtain ⟨ce, HCE⟩ : ∃ ce : List Value, Hid (ce = [.int .i64 1, .int .i64 0, .int .i64 E.md.1, .int .i64 E.md.2.1, .int .i64 E.md.2.2.1, .int .i64 E.md.2.2.2, .slice none 0 0]) := ⟨_, rfl⟩
    have HF : Hid (Below w0.heap.size w0 (W5.setCells w.heap.size 0 ce)) := below_cellsN (by omega) _ 0 w0 W5 h05
    go_wp2_with (first | (refine wpList_store_mid rfl 186 (.tmp 7) (.tmp 14) rfl w4.heap.size 0 (enC E.v E.pf ws E.md).toArray rfl rfl ?_ hiB hone ?_; (exact hth); (rw [show (enC E.v E.pf ws E.md).toArray.toList = (enC E.v E.pf ws E.md) by simp, hW5])) | (refine wpList_store_mid rfl 51 (.tmp 6) (.tmp 21) rfl w.heap.size 0 #[.int .i64 1, .int .i64 0, .int .i64 E.md.1, .int .i64 E.md.2.1, .int .i64 E.md.2.2.1, .int .i64 E.md.2.2.2, .slice none 0 0] rfl rfl ?_ Tryz.infoAns hon1 ?_; (exact HRR.out.there 0 7 (by omega)); (rw [show (#[.int .i64 1, .int .i64 0, .int .i64 E.md.1, .int .i64 E.md.2.1, .int .i64 E.md.2.2.1, .int .i64 E.md.2.2.2, .slice none 0 0] : Array Value).toList = ce from HCE.out.symm])))
    exact Av.postN ce rfl rfl Tryz.underlying51 rfl Tryz.infoAns HRR.out (by rw [HCE.out]; rfl) (by rw [HA.out]; exact ⟨_, by rw [HCE.out]; rfl, World.ownsRow_nil _ _ _ _, HF.out⟩)
  · have hvb : (E.v == 1) = false := by simpa using hv1
    have hon2 : (#[.int .i64 2, .int .i64 0, .int .i64 0, .int .i64 0, .int .i64 0, .int .i64 0, .slice none 0 0] : Array Value).all (·.oneCell') = true := by simp [Value.oneCell']
    by_cases hvz : E.v = 0
    · have CCf : Hid _ := CC.out W5.drew vW0 vA0 l0 n0 f0 E.pf h05.drew (hkn5.below (Below.refl _ _).drew) (ham5.below (Below.refl _ _).drew) (by unfold maxLen; omega)
      have hvzb : (E.v == 0) = true := by simpa using hvz
      have HAA : Hid (PA = if cfm ys E.pf = true then (0, (0, 0, 0, 0), [E.pf]) else (2, (0, 0, 0, 0), [])) := by
        show _ = _
        rw [HPA.out, if_neg hv1]
        by_cases hc : cfm ys E.pf = true
        · rw [if_pos ⟨hvz, hc⟩, if_pos hc]
        · rw [if_neg (fun h => hc h.2), if_neg hc]
      have HRS5 : Hid _ := hrs5
      have HEN5 : Hid _ := hen5
      have H05 : Hid _ := h05
      clear hv1 hvz hkn5 ham5 hrs5 hen5 h05
      generalize cfm ys E.pf = cf at *
      go_wp2_with (refine wpList_store_mid rfl 186 (.tmp 7) (.tmp 14) rfl w4.heap.size 0 (enC E.v E.pf ws E.md).toArray rfl rfl ?_ hiB hone ?_; (exact hth); (rw [show (enC E.v E.pf ws E.md).toArray.toList = (enC E.v E.pf ws E.md) by simp, hW5]))
      have hkne : ¬ pb = kb := fun e => hkp' e.symm
      go_region_held3 (fun X => X.cell? ⟨w4.heap.size, 0, none⟩ = some (.int .i64 E.v) ∧ X.cell? ⟨w4.heap.size, 1, none⟩ = some (.string ⟨E.pf.toArray⟩) ∧ X.cell? ⟨pb, 0, none⟩ = some (.pointer (some ⟨kb, 0, none⟩))) (first | exact ⟨hv0, hs0, g0⟩ | exact ⟨y1, y2, y3⟩) (first | (go_at_call 53; refine Calls.mono CCf.out ?_; rintro e w6 ⟨rfl, hfk⟩; have y1 := (World.cell?_of_block (a := ⟨w4.heap.size, 0, none⟩) (hfk.block w4.heap.size hel (by omega) (by omega))).trans hv0; have y2 := (World.cell?_of_block (a := ⟨w4.heap.size, 1, none⟩) (hfk.block w4.heap.size hel (by omega) (by omega))).trans hs0; have y3 := (World.cell?_of_block (a := ⟨pb, 0, none⟩) (hfk.block pb (by show pb < W5.heap.size; omega) (by omega) (by omega))).trans g0))
      have h06 : Below w0.heap.size w0 w6 := FrK.below hfk (Below.drew H05.out) hhk hk0
      have hrs6 : Blk w6 w.heap.size 51 [.int .i64 0, .int .i64 0, .int .i64 0, .int .i64 0, .int .i64 0, .int .i64 0, .slice none 0 0] := (hfk.block w.heap.size (by show w.heap.size < W5.heap.size; omega) (by omega) (by omega)).trans HRS5.out
      have h06s := h06.size
      have hrl6 := hrs6.lt
      cases cf with
      | true =>
        have HA : Hid (PA = (0, (0, 0, 0, 0), [E.pf])) := HAA.out
        have hrsY := hrs6.below (below_alloc w6 (.cells #[.string ⟨E.pf.toArray⟩] 9))
        have r0 : (w6.alloc (.cells #[.string ⟨E.pf.toArray⟩] 9)).cell? ⟨w.heap.size, 0, none⟩ = some (.int .i64 0) := Blk.cell (i := 0) hrsY rfl
        have r1 : (w6.alloc (.cells #[.string ⟨E.pf.toArray⟩] 9)).cell? ⟨w.heap.size, 1, none⟩ = some (.int .i64 0) := Blk.cell (i := 1) hrsY rfl
        have r2 : (w6.alloc (.cells #[.string ⟨E.pf.toArray⟩] 9)).cell? ⟨w.heap.size, 2, none⟩ = some (.int .i64 0) := Blk.cell (i := 2) hrsY rfl
        have r3 : (w6.alloc (.cells #[.string ⟨E.pf.toArray⟩] 9)).cell? ⟨w.heap.size, 3, none⟩ = some (.int .i64 0) := Blk.cell (i := 3) hrsY rfl
        have r4 : (w6.alloc (.cells #[.string ⟨E.pf.toArray⟩] 9)).cell? ⟨w.heap.size, 4, none⟩ = some (.int .i64 0) := Blk.cell (i := 4) hrsY rfl
        have r5 : (w6.alloc (.cells #[.string ⟨E.pf.toArray⟩] 9)).cell? ⟨w.heap.size, 5, none⟩ = some (.int .i64 0) := Blk.cell (i := 5) hrsY rfl
        have r6 : (w6.alloc (.cells #[.string ⟨E.pf.toArray⟩] 9)).cell? ⟨w.heap.size, 6, none⟩ = some (.slice none 0 0) := Blk.cell (i := 6) hrsY rfl
        have hR7 := Blk.row hrsY (by intro v hv; simp at hv; rcases hv with rfl | rfl <;> rfl)
        have HRR : Hid (Av.Row (w6.alloc (.cells #[.string ⟨E.pf.toArray⟩] 9)) w.heap.size 7) := hR7
        obtain ⟨ce, HCE⟩ : ∃ ce : List Value, Hid (ce = [.int .i64 0, .int .i64 0, .int .i64 0, .int .i64 0, .int .i64 0, .int .i64 0, .slice (some ⟨w6.heap.size, 0, none⟩) 1 1]) := ⟨_, rfl⟩
        have HF : Hid (Below w0.heap.size w0 ((w6.alloc (.cells #[.string ⟨E.pf.toArray⟩] 9)).setCells w.heap.size 0 ce)) := below_cellsN (by omega) _ 0 w0 _ (h06.alloc h06s _)
        have HOW : Hid (((w6.alloc (.cells #[.string ⟨E.pf.toArray⟩] 9)).setCells w.heap.size 0 ce).ownsRow w0.heap.size 9 1 (.slice (some ⟨w6.heap.size, 0, none⟩) 1 1) 1 [strV E.pf]) := ⟨rfl, Or.inr ⟨w6.heap.size, 1, #[strV E.pf], rfl, h06s, Blk.otherAll (cs := [strV E.pf]) (by omega) ce 0 _ (heap_alloc_new w6 _), Nat.le_refl _, by decide, by simp, rfl⟩⟩
        have hon0 : (#[.int .i64 0, .int .i64 0, .int .i64 0, .int .i64 0, .int .i64 0, .int .i64 0, .slice (some ⟨w6.heap.size, 0, none⟩) 1 1] : Array Value).all (·.oneCell') = true := by simp [Value.oneCell']
        clear hrs6 hrsY hR7
        go_wp2_with (refine wpList_store_mid rfl 51 (.tmp 6) (.tmp 39) rfl w.heap.size 0 #[.int .i64 0, .int .i64 0, .int .i64 0, .int .i64 0, .int .i64 0, .int .i64 0, .slice (some ⟨w6.heap.size, 0, none⟩) 1 1] rfl rfl ?_ Tryz.infoAns hon0 ?_; (exact HRR.out.there 0 7 (by omega)); (rw [show (#[.int .i64 0, .int .i64 0, .int .i64 0, .int .i64 0, .int .i64 0, .int .i64 0, .slice (some ⟨w6.heap.size, 0, none⟩) 1 1] : Array Value).toList = ce from HCE.out.symm]))
        exact Av.postN ce rfl rfl Tryz.underlying51 rfl Tryz.infoAns HRR.out (by rw [HCE.out]; rfl) (by rw [HA.out]; exact ⟨_, by rw [HCE.out]; rfl, HOW.out, HF.out⟩)
      | false =>
        have HA : Hid (PA = (2, (0, 0, 0, 0), [])) := HAA.out
        have hrsY := hrs6
        have r0 : w6.cell? ⟨w.heap.size, 0, none⟩ = some (.int .i64 0) := Blk.cell (i := 0) hrsY rfl
        have r1 : w6.cell? ⟨w.heap.size, 1, none⟩ = some (.int .i64 0) := Blk.cell (i := 1) hrsY rfl
        have r2 : w6.cell? ⟨w.heap.size, 2, none⟩ = some (.int .i64 0) := Blk.cell (i := 2) hrsY rfl
        have r3 : w6.cell? ⟨w.heap.size, 3, none⟩ = some (.int .i64 0) := Blk.cell (i := 3) hrsY rfl
        have r4 : w6.cell? ⟨w.heap.size, 4, none⟩ = some (.int .i64 0) := Blk.cell (i := 4) hrsY rfl
        have r5 : w6.cell? ⟨w.heap.size, 5, none⟩ = some (.int .i64 0) := Blk.cell (i := 5) hrsY rfl
        have r6 : w6.cell? ⟨w.heap.size, 6, none⟩ = some (.slice none 0 0) := Blk.cell (i := 6) hrsY rfl
        have hR7 := Blk.row hrsY (by intro v hv; simp at hv; rcases hv with rfl | rfl <;> rfl)
        have HRR : Hid (Av.Row w6 w.heap.size 7) := hR7
        obtain ⟨ce, HCE⟩ : ∃ ce : List Value, Hid (ce = [.int .i64 2, .int .i64 0, .int .i64 0, .int .i64 0, .int .i64 0, .int .i64 0, .slice none 0 0]) := ⟨_, rfl⟩
        have HF : Hid (Below w0.heap.size w0 (w6.setCells w.heap.size 0 ce)) := below_cellsN (by omega) _ 0 w0 _ h06
        clear hrs6 hrsY hR7
        go_wp2_with (refine wpList_store_mid rfl 51 (.tmp 6) (.tmp 40) rfl w.heap.size 0 #[.int .i64 2, .int .i64 0, .int .i64 0, .int .i64 0, .int .i64 0, .int .i64 0, .slice none 0 0] rfl rfl ?_ Tryz.infoAns hon2 ?_; (exact HRR.out.there 0 7 (by omega)); (rw [show (#[.int .i64 2, .int .i64 0, .int .i64 0, .int .i64 0, .int .i64 0, .int .i64 0, .slice none 0 0] : Array Value).toList = ce from HCE.out.symm]))
        exact Av.postN ce rfl rfl Tryz.underlying51 rfl Tryz.infoAns HRR.out (by rw [HCE.out]; rfl) (by rw [HA.out]; exact ⟨_, by rw [HCE.out]; rfl, World.ownsRow_nil _ _ _ _, HF.out⟩)
    · have hvzb : (E.v == 0) = false := by simpa using hvz
      have HA : Hid (PA = (2, (0, 0, 0, 0), [])) := by show _ = _; rw [HPA.out, if_neg hv1, if_neg (fun h => hvz h.1)]
      clear hv1 hvz
      go_wp2_with (refine wpList_store_mid rfl 186 (.tmp 7) (.tmp 14) rfl w4.heap.size 0 (enC E.v E.pf ws E.md).toArray rfl rfl ?_ hiB hone ?_; (exact hth); (rw [show (enC E.v E.pf ws E.md).toArray.toList = (enC E.v E.pf ws E.md) by simp, hW5]))
      go_quiet (fail)
      have hrsY : Blk (W5.drewN nq) w.heap.size 51 [.int .i64 0, .int .i64 0, .int .i64 0, .int .i64 0, .int .i64 0, .int .i64 0, .slice none 0 0] := hrs5.below (below_drewN (Below.refl _ _) _)
      have r0 : (W5.drewN nq).cell? ⟨w.heap.size, 0, none⟩ = some (.int .i64 0) := Blk.cell (i := 0) hrsY rfl
      have r1 : (W5.drewN nq).cell? ⟨w.heap.size, 1, none⟩ = some (.int .i64 0) := Blk.cell (i := 1) hrsY rfl
      have r2 : (W5.drewN nq).cell? ⟨w.heap.size, 2, none⟩ = some (.int .i64 0) := Blk.cell (i := 2) hrsY rfl
      have r3 : (W5.drewN nq).cell? ⟨w.heap.size, 3, none⟩ = some (.int .i64 0) := Blk.cell (i := 3) hrsY rfl
      have r4 : (W5.drewN nq).cell? ⟨w.heap.size, 4, none⟩ = some (.int .i64 0) := Blk.cell (i := 4) hrsY rfl
      have r5 : (W5.drewN nq).cell? ⟨w.heap.size, 5, none⟩ = some (.int .i64 0) := Blk.cell (i := 5) hrsY rfl
      have r6 : (W5.drewN nq).cell? ⟨w.heap.size, 6, none⟩ = some (.slice none 0 0) := Blk.cell (i := 6) hrsY rfl
      have hR7 := Blk.row hrsY (by intro v hv; simp at hv; rcases hv with rfl | rfl <;> rfl)
      have HRR : Hid (Av.Row (W5.drewN nq) w.heap.size 7) := hR7
      obtain ⟨ce, HCE⟩ : ∃ ce : List Value, Hid (ce = [.int .i64 2, .int .i64 0, .int .i64 0, .int .i64 0, .int .i64 0, .int .i64 0, .slice none 0 0]) := ⟨_, rfl⟩
      have HF : Hid (Below w0.heap.size w0 ((W5.drewN nq).setCells w.heap.size 0 ce)) := below_cellsN (by omega) _ 0 w0 _ (below_drewN h05 _)
      clear hrs5 hrsY hR7
      go_wp2_with (refine wpList_store_mid rfl 51 (.tmp 6) (.tmp 40) rfl w.heap.size 0 #[.int .i64 2, .int .i64 0, .int .i64 0, .int .i64 0, .int .i64 0, .int .i64 0, .slice none 0 0] rfl rfl ?_ Tryz.infoAns hon2 ?_; (exact HRR.out.there 0 7 (by omega)); (rw [show (#[.int .i64 2, .int .i64 0, .int .i64 0, .int .i64 0, .int .i64 0, .int .i64 0, .slice none 0 0] : Array Value).toList = ce from HCE.out.symm]))
      exact Av.postN ce rfl rfl Tryz.underlying51 rfl Tryz.infoAns HRR.out (by rw [HCE.out]; rfl) (by rw [HA.out]; exact ⟨_, by rw [HCE.out]; rfl, World.ownsRow_nil _ _ _ _, HF.out⟩)
end Go.Proofs.YtkinoehmcfhgbaaGreatDoor.Vl
set_option linter.unusedVariables false
set_option linter.unusedSimpArgs false
namespace Go.Proofs.YtkinoehmcfhgbaaGreatDoor.Vl
open Go.RowKit

/-- A prover that has nothing assumed: its kernel, what is assumed, itself. -/
structure PNew (w w' : World) (kb km mb pb : Nat) : Prop where
  bel : Below w.heap.size w w'
  o1 : w.heap.size ≤ km
  o2 : km < kb
  o3 : kb < mb
  o4 : mb < pb
  kn : KnAt w' kb (.slice none 0 0) (.slice none 0 0) [] km
  am : AM w' km 0 (fun _ => 0)
  nm : NM w' mb 0 (fun _ => 0)
  box : Blk w' pb 180 [.pointer (some ⟨kb, 0, none⟩), .slice none 0 0, .slice none 0 0, .int .i64 0, .map (some mb), .slice none 0 0, .slice none 0 0]
set_option maxRecDepth 100000 in
set_option maxHeartbeats 2000000 in
theorem pnew_any (w : World) :
    Calls Tryz.prog 55 #[] w fun e w' => ∃ kb km mb pb, e = .returned (.pointer (some ⟨pb, 0, none⟩)) ∧ PNew w w' kb km mb pb := by
  have CN : Hid (Calls Tryz.prog 52 #[] w fun e w' => e = .returned (.pointer (some ⟨w.heap.size + 1, 0, none⟩)) ∧ KnAt w' (w.heap.size + 1) (.slice none 0 0) (.slice none 0 0) [] w.heap.size ∧ AM w' w.heap.size 0 (fun _ => 0) ∧ Below w.heap.size w w') := new_any w
  have hmm := @run_makeMap Tryz.prog
  go_enter Tryz.func55, Tryz.ntmps55
  go_wp2_with fail
  refine Calls.mono CN.out ?_
  rintro e w1 ⟨rfl, hk1, ha1, hb1⟩
  have hkl := hk1.lt
  have b2 := below_alloc w1 (.map #[] 0)
  have b3 : Below (w1.alloc (.map #[] 0)).heap.size (w1.alloc (.map #[] 0)) ((w1.alloc (.map #[] 0)).alloc (.cells #[.pointer (some ⟨w.heap.size + 1, 0, none⟩), .slice none 0 0, .slice none 0 0, .int .i64 0, .map (some w1.heap.size), .slice none 0 0, .slice none 0 0] 180)) := below_alloc _ _
  have b23 := b2.trans (b3.mono b2.size)
  have hnew := heap_alloc_new (w1.alloc (.map #[] 0)) (.cells #[.pointer (some ⟨w.heap.size + 1, 0, none⟩), .slice none 0 0, .slice none 0 0, .int .i64 0, .map (some w1.heap.size), .slice none 0 0, .slice none 0 0] 180)
  rw [World.size_alloc] at hnew
  have HN : Hid (PNew w ((w1.alloc (.map #[] 0)).alloc (.cells #[.pointer (some ⟨w.heap.size + 1, 0, none⟩), .slice none 0 0, .slice none 0 0, .int .i64 0, .map (some w1.heap.size), .slice none 0 0, .slice none 0 0] 180)) (w.heap.size + 1) w.heap.size w1.heap.size (w1.heap.size + 1)) := ⟨hb1.trans (b23.mono hb1.size), Nat.le_refl _, by omega, by omega, by omega, hk1.below b23, ha1.below b23, (NM.made w1).fr (M := []) (FrX.of_below b3) List.not_mem_nil, hnew⟩
  clear hk1 ha1 hb1 b2 b3 b23 hnew
  go_wp2_with fail
  go_ret
  exact ⟨_, _, _, _, by simp, HN.out⟩
end Go.Proofs.YtkinoehmcfhgbaaGreatDoor.Vl
set_option linter.unusedVariables false
set_option linter.unusedSimpArgs false
namespace Go.Proofs.YtkinoehmcfhgbaaGreatDoor.Vl
open Go.RowKit

/-- What the call answers: the answer, the error. -/
def cpA (p : Option (List Sym)) (bu : Int) : (Int × (Int × Int × Int × Int) × List (List UInt8)) × Int :=
  match p with
  | none => ((0, (0, 0, 0, 0), []), 7)
  | some ys => if 0 ≤ bu ∧ bu ≤ 20000 then (prA ys bu.toNat, 0) else ((0, (0, 0, 0, 0), []), 8)
theorem own_far {X : World} {base b n sz : Nat} {e : TypeId} {v : Value} {xs : List Value} (h : X.ownsRow base e sz v n xs) (hb : b < base) (o : Nat) (vs : List Value) : (X.setCells b o vs).ownsRow base e sz v n xs := by
  refine ⟨h.1, ?_⟩
  rcases h.2 with h | ⟨g, cap, cur, hv, hg, hh, r⟩
  · exact Or.inl h
  · have hB : Blk X g e cur.toList := by unfold Blk; rw [hh]
    have := Blk.otherAll (b := b) (by omega) vs o X hB
    unfold Blk at this
    exact Or.inr ⟨g, cap, cur, hv, hg, by rw [this], r⟩
theorem ansV_load {X : World} {b : Nat} {ce : List Value} (h : X.rangeAt b 0 ce) (hl : ce.length = 7) : (loadVar 51 ⟨b, 0, none⟩).run Tryz.prog X = .ok (.agg ce.toArray) X := run_loadVar_mid _ _ 0 51 ce _ h Tryz.underlying51 rfl (by rw [hl]; exact Tryz.infoAns)
set_option maxRecDepth 100000 in
theorem rightBudget_any (bu : Int) (w : World) : Calls Tryz.prog 54 #[.int .i64 bu] w fun e w' => e = .returned (.bool (decide (0 ≤ bu ∧ bu ≤ 20000))) ∧ w = w' := by
  by_cases h0 : 0 ≤ bu
  · by_cases h1 : bu ≤ 20000
    · rw [show decide (0 ≤ bu ∧ bu ≤ 20000) = true from decide_eq_true ⟨h0, h1⟩]
      go_enter Tryz.func54, Tryz.ntmps54
      go_wp2
      go_ret
      exact ⟨rfl, rfl⟩
    · rw [show decide (0 ≤ bu ∧ bu ≤ 20000) = false from decide_eq_false (fun h => h1 h.2)]
      go_enter Tryz.func54, Tryz.ntmps54
      go_wp2
      go_ret
      exact ⟨rfl, rfl⟩
  · rw [show decide (0 ≤ bu ∧ bu ≤ 20000) = false from decide_eq_false (fun h => h0 h.1)]
    go_enter Tryz.func54, Tryz.ntmps54
    go_wp2
    go_ret
    exact ⟨rfl, rfl⟩
set_option maxRecDepth 100000 in
set_option maxHeartbeats 4000000 in
theorem cprove_any (s : ByteArray) (bu : Int) (w : World) (hgl : Gl w) (hgt : Gt w) (hmax : s.size ≤ maxLen) :
    Calls Tryz.prog 27 #[.string s, .int .i64 bu] w fun e w' => ∃ pv, e = .returned (.tuple #[ansV (cpA (pars s) bu).1.1 (cpA (pars s) bu).1.2.1 pv, .int .i64 (cpA (pars s) bu).2]) ∧ w'.ownsRow w.heap.size 9 1 pv (cpA (pars s) bu).1.2.2.length ((cpA (pars s) bu).1.2.2.map strV) ∧ Below w.heap.size w w' := by
  have hb1 := below_alloc w (.cells #[.int .i64 0, .int .i64 0, .int .i64 0, .int .i64 0, .int .i64 0, .int .i64 0, .slice none 0 0] 51)
  have hrs1 : Blk (w.alloc (.cells #[.int .i64 0, .int .i64 0, .int .i64 0, .int .i64 0, .int .i64 0, .int .i64 0, .slice none 0 0] 51)) w.heap.size 51 [.int .i64 0, .int .i64 0, .int .i64 0, .int .i64 0, .int .i64 0, .int .i64 0, .slice none 0 0] := heap_alloc_new w _
  have CP : Hid (Calls Tryz.prog 46 #[.string s] (w.alloc (.cells #[.int .i64 0, .int .i64 0, .int .i64 0, .int .i64 0, .int .i64 0, .int .i64 0, .slice none 0 0] 51)) fun e w' => ParseEnd (w.alloc (.cells #[.int .i64 0, .int .i64 0, .int .i64 0, .int .i64 0, .int .i64 0, .int .i64 0, .slice none 0 0] 51)) (pars s) e w') := parse_any s _ (hgl.on hb1) hmax
  have CB : Hid (∀ X, Calls Tryz.prog 54 #[.int .i64 bu] X fun e w' => e = .returned (.bool (decide (0 ≤ bu ∧ bu ≤ 20000))) ∧ X = w') := fun X => rightBudget_any bu X
  have HONE : Hid (∀ v ∈ ([.int .i64 0, .int .i64 0, .int .i64 0, .int .i64 0, .int .i64 0, .int .i64 0, .slice none 0 0] : List Value), v.oneCell' = true) := fun v hv => by simp at hv; rcases hv with rfl | rfl <;> rfl
  cases hp : pars s with
  | none =>
    rw [hp] at CP
    have CP' : Hid (Calls Tryz.prog 46 #[.string s] (w.alloc (.cells #[.int .i64 0, .int .i64 0, .int .i64 0, .int .i64 0, .int .i64 0, .int .i64 0, .slice none 0 0] 51)) fun e w' => ∃ v, e = .returned (.tuple #[v, .bool false]) ∧ Below (w.alloc (.cells #[.int .i64 0, .int .i64 0, .int .i64 0, .int .i64 0, .int .i64 0, .int .i64 0, .slice none 0 0] 51)).heap.size (w.alloc (.cells #[.int .i64 0, .int .i64 0, .int .i64 0, .int .i64 0, .int .i64 0, .int .i64 0, .slice none 0 0] 51)) w') := CP.out.mono fun e w' h => by obtain ⟨v, h1, _, h2⟩ := h; exact ⟨v, h1, h2⟩
    clear CP
    go_enter Tryz.func27, Tryz.ntmps27
    go_wp2_with fail
    refine Calls.mono CP'.out ?_
    rintro e w1 ⟨v, rfl, hb2⟩
    have hbb : Below w.heap.size w w1 := hb1.trans (hb2.mono hb1.size)
    have hrsX := hrs1.below hb2
    have hR7 : Av.Row w1 w.heap.size 7 := Blk.row hrsX HONE.out
    have HRR : Hid (Av.Row w1 w.heap.size 7) := hR7
    obtain ⟨ce, HCE⟩ : ∃ ce : List Value, Hid (ce = [.int .i64 0, .int .i64 0, .int .i64 0, .int .i64 0, .int .i64 0, .int .i64 0, .slice none 0 0]) := ⟨_, rfl⟩
    have honA : (#[.int .i64 0, .int .i64 0, .int .i64 0, .int .i64 0, .int .i64 0, .int .i64 0, .slice none 0 0] : Array Value).all (·.oneCell') = true := by simp [Value.oneCell']
    have HLD : Hid ((loadVar 51 ⟨w.heap.size, 0, none⟩).run Tryz.prog (w1.setCells w.heap.size 0 ce) = .ok (.agg ce.toArray) (w1.setCells w.heap.size 0 ce)) := ansV_load (World.rangeAt_setCells_same w1 w.heap.size 0 ce (by rw [HCE.out]; exact hR7.there 0 7 (by omega))) (by rw [HCE.out]; rfl)
    have HF : Hid (Below w.heap.size w (w1.setCells w.heap.size 0 ce)) := below_cellsN (Nat.le_refl _) _ 0 w w1 hbb
    clear hrsX hR7 hrs1 hb1 hb2 hbb
    go_wp2_with (refine wpList_store_mid rfl 51 (.tmp 4) (.tmp 15) rfl w.heap.size 0 #[.int .i64 0, .int .i64 0, .int .i64 0, .int .i64 0, .int .i64 0, .int .i64 0, .slice none 0 0] rfl rfl ?_ Tryz.infoAns honA ?_; (exact HRR.out.there 0 7 (by omega)); (rw [show (#[.int .i64 0, .int .i64 0, .int .i64 0, .int .i64 0, .int .i64 0, .int .i64 0, .slice none 0 0] : Array Value).toList = ce from HCE.out.symm]))
    exact bodyPost_ret (results_c2 rfl rfl rfl HLD.out) rfl ⟨.slice none 0 0, by rw [HCE.out]; rfl, World.ownsRow_nil _ _ _ _, HF.out⟩
  | some ys =>
    rw [hp] at CP
    have hpos := wf_pos (pars_wf hp) (by decide)
    have CP' : Hid (Calls Tryz.prog 46 #[.string s] (w.alloc (.cells #[.int .i64 0, .int .i64 0, .int .i64 0, .int .i64 0, .int .i64 0, .int .i64 0, .slice none 0 0] 51)) fun e w' => ∃ v, e = .returned (.tuple #[v, .bool true]) ∧ w'.ownsRow (w.alloc (.cells #[.int .i64 0, .int .i64 0, .int .i64 0, .int .i64 0, .int .i64 0, .int .i64 0, .slice none 0 0] 51)).heap.size 136 4 v ys.length (vcells4 ys) ∧ Below (w.alloc (.cells #[.int .i64 0, .int .i64 0, .int .i64 0, .int .i64 0, .int .i64 0, .int .i64 0, .slice none 0 0] 51)).heap.size (w.alloc (.cells #[.int .i64 0, .int .i64 0, .int .i64 0, .int .i64 0, .int .i64 0, .int .i64 0, .slice none 0 0] 51)) w') := CP.out.mono fun e w' h => by obtain ⟨v, h1, h3, h2⟩ := h; exact ⟨v, h1, h3 ys rfl, h2⟩
    clear CP
    by_cases hbu : 0 ≤ bu ∧ bu ≤ 20000
    · have hd : decide (0 ≤ bu ∧ bu ≤ 20000) = true := decide_eq_true hbu
      rw [hd] at CB
      have HR : Hid (cpA (some ys) bu = (prA ys bu.toNat, 0)) := by show _ = _; unfold cpA; exact if_pos hbu
      obtain ⟨bn, rfl⟩ : ∃ bn : Nat, bu = (bn : Int) := ⟨bu.toNat, by omega⟩
      rw [Int.toNat_natCast] at HR
      have hbn : bn ≤ 20000 := by omega
      have CNW : Hid (∀ X, Calls Tryz.prog 55 #[] X fun e w' => ∃ kb km mb pb, e = .returned (.pointer (some ⟨pb, 0, none⟩)) ∧ PNew X w' kb km mb pb) := fun X => pnew_any X
      obtain ⟨⟨a0, ⟨a1, a2, a3, a4⟩, al⟩, hPA⟩ : ∃ x, prA ys bn = x := ⟨_, rfl⟩
      have HPA : Hid (prA ys bn = (a0, (a1, a2, a3, a4), al)) := hPA
      rw [HR.out, hPA]
      dsimp only [ansV]
      clear hbu hd hPA
      go_enter Tryz.func27, Tryz.ntmps27
      go_wp2_with fail
      refine Calls.mono CP'.out ?_
      rintro e w1 ⟨v, rfl, hown, hb2⟩
      have hbb : Below w.heap.size w w1 := hb1.trans (hb2.mono hb1.size)
      have hrs2 := hrs1.below hb2
      have hsy := own_syms hown hpos
      have hcap : ∀ b cap, v = .slice (some ⟨b, 0, none⟩) ys.length cap → ys.length ≤ cap := fun b cap e => by
        rcases hown.2 with ⟨h1, h2⟩ | ⟨g, cap', cur, hv, _, _, h3, _⟩
        · omega
        · rw [hv] at e
          cases e
          exact h3
      have hgl1 := hgl.on hbb
      have hgt1 := hgt.on hbb
      have hws := hrs2.lt
      obtain ⟨lb, lc, rfl⟩ : ∃ lb lc, v = .slice (some ⟨lb, 0, none⟩) ys.length lc := by obtain ⟨b, cap, e, _⟩ := hsy; exact ⟨b, cap, e⟩
      have HSY : Hid _ := hsy
      have HCAP : Hid _ := hcap
      clear hown hb2 hrs1 hsy hcap
      go_wp2_with (first
        | (go_at_call 54; refine Calls.mono (CB.out _) ?_; rintro e w9 ⟨rfl, rfl⟩)
        | (go_at_call 55; refine Calls.mono (CNW.out _) ?_; rintro e w2 ⟨kb, km, mb, pb, rfl, hN⟩))
      have hNs := hN.bel.size
      have hx1 := hN.o1
      have hx2 := hN.o2
      have hx3 := hN.o3
      have hx4 := hN.o4
      have CPV := prove_any hp w1 w2 pb kb mb km _ _ _ _ _ _ bn ⟨hN.bel, by omega, by omega, by omega, by omega, by omega, by omega, hN.kn.lt, ⟨_, _, _, _, _, hN.box⟩, ⟨_, _, hN.nm⟩⟩ hN.kn hN.am (by omega) (by omega) (by omega) (by omega) HSY.out HCAP.out hbn hgl1 hgt1
      rw [HPA.out] at CPV
      dsimp only [ansV] at CPV
      refine Calls.mono CPV ?_
      clear CPV
      rintro e w3 ⟨pv, rfl, hown3, hb3⟩
      have hrsX := hrs2.below hb3
      have hbw3 : Below w.heap.size w w3 := hbb.trans (hb3.mono hbb.size)
      have hown4 := own_base hown3 (show w.heap.size + 1 ≤ w1.heap.size by omega)
      have hpv1 : pv.oneCell' = true := by
        rcases hown3.2 with ⟨h1, _⟩ | ⟨g, cap', cur, hv, _⟩
        · rw [h1]; rfl
        · rw [hv]; rfl
      have hR7 : Av.Row w3 w.heap.size 7 := Blk.row hrsX HONE.out
      have HRR : Hid (Av.Row w3 w.heap.size 7) := hR7
      obtain ⟨ce, HCE⟩ : ∃ ce : List Value, Hid (ce = [.int .i64 a0, .int .i64 0, .int .i64 a1, .int .i64 a2, .int .i64 a3, .int .i64 a4, pv]) := ⟨_, rfl⟩
      have honA : (#[.int .i64 a0, .int .i64 0, .int .i64 a1, .int .i64 a2, .int .i64 a3, .int .i64 a4, pv] : Array Value).all (·.oneCell') = true := by have h := hpv1; simp [Value.oneCell'] at h ⊢; exact h
      have HLD : Hid ((loadVar 51 ⟨w.heap.size, 0, none⟩).run Tryz.prog (w3.setCells w.heap.size 0 ce) = .ok (.agg ce.toArray) (w3.setCells w.heap.size 0 ce)) := ansV_load (World.rangeAt_setCells_same w3 w.heap.size 0 ce (by rw [HCE.out]; exact hR7.there 0 7 (by omega))) (by rw [HCE.out]; rfl)
      have HOW : Hid ((w3.setCells w.heap.size 0 ce).ownsRow w.heap.size 9 1 pv al.length (al.map strV)) := own_base (own_far hown4 (by omega) 0 ce) (by omega)
      have HF : Hid (Below w.heap.size w (w3.setCells w.heap.size 0 ce)) := below_cellsN (Nat.le_refl _) _ 0 w w3 hbw3
      clear hrsX hR7 hrs2 hown3 hown4 hbw3 hb3 hN hbb
      go_wp2_with (refine wpList_store_mid rfl 51 (.tmp 4) (.tmp 23) rfl w.heap.size 0 #[.int .i64 a0, .int .i64 0, .int .i64 a1, .int .i64 a2, .int .i64 a3, .int .i64 a4, pv] rfl rfl ?_ Tryz.infoAns honA ?_; (exact HRR.out.there 0 7 (by omega)); (rw [show (#[.int .i64 a0, .int .i64 0, .int .i64 a1, .int .i64 a2, .int .i64 a3, .int .i64 a4, pv] : Array Value).toList = ce from HCE.out.symm]))
      exact bodyPost_ret (results_c2 rfl rfl rfl HLD.out) rfl ⟨pv, by rw [HCE.out]; rfl, HOW.out, HF.out⟩
    · have hd : decide (0 ≤ bu ∧ bu ≤ 20000) = false := decide_eq_false hbu
      rw [hd] at CB
      have HR : Hid (cpA (some ys) bu = ((0, (0, 0, 0, 0), []), 8)) := by show _ = _; unfold cpA; exact if_neg hbu
      rw [HR.out]
      clear hbu hd
      go_enter Tryz.func27, Tryz.ntmps27
      go_wp2_with fail
      refine Calls.mono CP'.out ?_
      rintro e w1 ⟨v, rfl, hown, hb2⟩
      have hbb : Below w.heap.size w w1 := hb1.trans (hb2.mono hb1.size)
      have hrsX := hrs1.below hb2
      have hR7 : Av.Row w1 w.heap.size 7 := Blk.row hrsX HONE.out
      have HRR : Hid (Av.Row w1 w.heap.size 7) := hR7
      obtain ⟨ce, HCE⟩ : ∃ ce : List Value, Hid (ce = [.int .i64 0, .int .i64 0, .int .i64 0, .int .i64 0, .int .i64 0, .int .i64 0, .slice none 0 0]) := ⟨_, rfl⟩
      have honA : (#[.int .i64 0, .int .i64 0, .int .i64 0, .int .i64 0, .int .i64 0, .int .i64 0, .slice none 0 0] : Array Value).all (·.oneCell') = true := by simp [Value.oneCell']
      have HLD : Hid ((loadVar 51 ⟨w.heap.size, 0, none⟩).run Tryz.prog (w1.setCells w.heap.size 0 ce) = .ok (.agg ce.toArray) (w1.setCells w.heap.size 0 ce)) := ansV_load (World.rangeAt_setCells_same w1 w.heap.size 0 ce (by rw [HCE.out]; exact hR7.there 0 7 (by omega))) (by rw [HCE.out]; rfl)
      have HF : Hid (Below w.heap.size w (w1.setCells w.heap.size 0 ce)) := below_cellsN (Nat.le_refl _) _ 0 w w1 hbb
      clear hrsX hR7 hrs1 hb1 hb2 hbb hown
      go_wp2_with (first | (go_at_call 54; refine Calls.mono (CB.out _) ?_; rintro e w9 ⟨rfl, rfl⟩) | (refine wpList_store_mid rfl 51 (.tmp 4) (.tmp 19) rfl w.heap.size 0 #[.int .i64 0, .int .i64 0, .int .i64 0, .int .i64 0, .int .i64 0, .int .i64 0, .slice none 0 0] rfl rfl ?_ Tryz.infoAns honA ?_; (exact HRR.out.there 0 7 (by omega)); (rw [show (#[.int .i64 0, .int .i64 0, .int .i64 0, .int .i64 0, .int .i64 0, .int .i64 0, .slice none 0 0] : Array Value).toList = ce from HCE.out.symm])))
      exact bodyPost_ret (results_c2 rfl rfl rfl HLD.out) rfl ⟨.slice none 0 0, by rw [HCE.out]; rfl, World.ownsRow_nil _ _ _ _, HF.out⟩
end Go.Proofs.YtkinoehmcfhgbaaGreatDoor.Vl
