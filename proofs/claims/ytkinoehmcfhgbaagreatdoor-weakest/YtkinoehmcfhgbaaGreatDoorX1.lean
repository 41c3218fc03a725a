/-
  The walks of the statements' pick, small, loops.
  The walks of the program's AtMost, Variable, operand, atMost, below.
-/
import Derived.Test.YtkinoehmcfhgbaaGreatDoorU1
import Derived.Test.YtkinoehmcfhgbaaGreatDoorM5
import Derived.Test.YtkinoehmcfhgbaaGreatDoorF1
import Derived.Test.YtkinoehmcfhgbaaGreatDoorQ5
import Derived.Deep.RegionHeld3
set_option linter.unusedVariables false
set_option linter.unusedSimpArgs false
namespace Go.Proofs.YtkinoehmcfhgbaaGreatDoor.Vl
open Go.RowKit

/-- Which of n things a number speaks of. -/
def pck (c n : Int) : Int := (if c < 0 then -(c + 1) else c).tmod n
theorem pck_range (c n : Int) (hn : 0 < n) : 0 ≤ pck c n ∧ pck c n < n := by
  unfold pck
  split
  · exact ⟨Int.tmod_nonneg _ (by omega), Int.tmod_lt_of_pos _ hn⟩
  · exact ⟨Int.tmod_nonneg _ (by omega), Int.tmod_lt_of_pos _ hn⟩
set_option maxRecDepth 100000 in
set_option maxHeartbeats 1000000 in
theorem pick_any (c n : Int) (h0 : -9223372036854775808 ≤ c) (h1 : c ≤ 9223372036854775807) (hn : 0 < n) (w : World) :
    Calls Tryz.prog 26 #[.int .i64 c, .int .i64 n] w fun e w' => e = .returned (.int .i64 (pck c n)) ∧ w = w' := by
  have hn0 : (n == 0) = false := beq_eq_false_iff_ne.2 (by omega)
  have hr := pck_range c n hn
  by_cases hc : c < 0
  · have w1 : IntKind.i64.wrap (c + 1) = c + 1 := IntWalk.i64_in _ (by omega)
    have w2 : IntKind.i64.wrap (-(c + 1)) = -(c + 1) := IntWalk.i64_in _ (by omega)
    have HP : Hid (pck c n = -(c + 1).tmod n) := by show _ = _; unfold pck; rw [if_pos hc, Int.neg_tmod]
    have HNN : Hid (0 < n) := hn
    clear hr
    go_enter Tryz.func26, Tryz.ntmps26
    go_wp2
    go_ret
    exact ⟨by rw [HP.out]; rfl, rfl⟩
  · have HP : Hid (pck c n = c % n) := by show _ = _; unfold pck; rw [if_neg hc, Int.tmod_eq_emod_of_nonneg (by omega)]
    clear hr
    go_enter Tryz.func26, Tryz.ntmps26
    go_wp2
    go_ret
    exact ⟨by rw [HP.out]; rfl, rfl⟩
theorem loadS (X : World) (B : Nat) (c0 c1 c2 c3 : Value) (h0 : X.cell? ⟨B, 0, none⟩ = some c0) (h1 : X.cell? ⟨B, 1, none⟩ = some c1) (h2 : X.cell? ⟨B, 2, none⟩ = some c2) (h3 : X.cell? ⟨B, 3, none⟩ = some c3) : (loadVar 36 ⟨B, 0, none⟩).run Tryz.prog X = .ok (.agg #[c0, c1, c2, c3]) X :=
  run_loadVar_mid _ _ 0 36 [c0, c1, c2, c3] _ (by
    intro j v hv
    match j, hv with
    | 0, hv => cases hv; exact h0
    | 1, hv => cases hv; exact h1
    | 2, hv => cases hv; exact h2
    | 3, hv => cases hv; exact h3) Tryz.underlying36 rfl (by kernel_rfl)
theorem results_cS {fn : Func} {tmps : Array Value} {w : World} {k : Nat} {t : TypeId} {a : Addr} {v : Value} (hf : fn.results = #[.cell k t]) (ht : tmps.getD k undef = .pointer (some a)) (hl : (loadVar t a).run Tryz.prog w = .ok v w) : (results fn tmps).run Tryz.prog w = .ok v w := by
  have ht' : (tmps[k]?.getD undef) = .pointer (some a) := by simpa using ht
  simp [results, hf, ht', hl, asAddr]
theorem gds_mk {z0 z1 z2 z3 : Int} (h0 : -1000000000 ≤ z0 ∧ z0 ≤ 1000000000) (h1 : -1000000000 ≤ z1 ∧ z1 ≤ 1000000000) (h2 : -1000000000 ≤ z2 ∧ z2 ≤ 1000000000) (h3 : -1000000000 ≤ z3 ∧ z3 ≤ 1000000000) : gds z0 z1 z2 z3 = true := by
  simp only [gds, gd, Bool.and_eq_true, decide_eq_true_eq]
  omega
set_option maxRecDepth 100000 in
set_option maxHeartbeats 2000000 in
theorem small_any (x1 x2 x3 x4 : Int) (hx : ∀ x ∈ [x1, x2, x3, x4], -9223372036854775808 ≤ x ∧ x ≤ 9223372036854775807) (w : World) :
    Calls Tryz.prog 18 #[.agg #[.int .i64 x1, .int .i64 x2, .int .i64 x3, .int .i64 x4]] w fun e w' => ∃ y1 y2 y3 y4, e = .returned (.agg #[.int .i64 y1, .int .i64 y2, .int .i64 y3, .int .i64 y4]) ∧ gds y1 y2 y3 y4 = true ∧ Below w.heap.size w w' := by
  have CP : Hid (∀ (c n : Int) (w : World), -9223372036854775808 ≤ c → c ≤ 9223372036854775807 → 0 < n → Calls Tryz.prog 26 #[.int .i64 c, .int .i64 n] w fun e w' => e = .returned (.int .i64 (pck c n)) ∧ w = w') := fun c n w a b d => pick_any c n a b d w
  have b1 := hx x1 (by simp)
  have b2 := hx x2 (by simp)
  have b3 := hx x3 (by simp)
  have b4 := hx x4 (by simp)
  have HX : Hid _ := hx
  clear hx
  go_enter Tryz.func18, Tryz.ntmps18
  go_wp2_with fail
  have hW : Below w.heap.size w (((w.alloc (.cells #[.int .i64 x1, .int .i64 x2, .int .i64 x3, .int .i64 x4] 36)).alloc (.cells #[.int .i64 0, .int .i64 0, .int .i64 0, .int .i64 0] 36)).alloc (.cells #[.int .i64 0, .int .i64 0, .int .i64 0, .int .i64 0] 36)) := ((below_alloc w _).alloc (by simp) _).alloc (by simp; omega) _
  have hS0 : (((w.alloc (.cells #[.int .i64 x1, .int .i64 x2, .int .i64 x3, .int .i64 x4] 36)).alloc (.cells #[.int .i64 0, .int .i64 0, .int .i64 0, .int .i64 0] 36)).alloc (.cells #[.int .i64 0, .int .i64 0, .int .i64 0, .int .i64 0] 36)).heap[w.heap.size]? = some (.cells #[.int .i64 x1, .int .i64 x2, .int .i64 x3, .int .i64 x4] 36 (0, 0)) := (Below.heap_alloc _ _ _ (by simp; omega)).trans ((Below.heap_alloc _ _ _ (by simp)).trans (heap_alloc_new _ _))
  have hS1 : (((w.alloc (.cells #[.int .i64 x1, .int .i64 x2, .int .i64 x3, .int .i64 x4] 36)).alloc (.cells #[.int .i64 0, .int .i64 0, .int .i64 0, .int .i64 0] 36)).alloc (.cells #[.int .i64 0, .int .i64 0, .int .i64 0, .int .i64 0] 36)).heap[w.heap.size + 1]? = some (.cells #[.int .i64 0, .int .i64 0, .int .i64 0, .int .i64 0] 36 (0, 0)) := (Below.heap_alloc _ _ _ (by simp)).trans (by have := heap_alloc_new (w.alloc (.cells #[.int .i64 x1, .int .i64 x2, .int .i64 x3, .int .i64 x4] 36)) (.cells #[.int .i64 0, .int .i64 0, .int .i64 0, .int .i64 0] 36); rwa [World.size_alloc] at this)
  have hS2 : (((w.alloc (.cells #[.int .i64 x1, .int .i64 x2, .int .i64 x3, .int .i64 x4] 36)).alloc (.cells #[.int .i64 0, .int .i64 0, .int .i64 0, .int .i64 0] 36)).alloc (.cells #[.int .i64 0, .int .i64 0, .int .i64 0, .int .i64 0] 36)).heap[w.heap.size + 2]? = some (.cells #[.int .i64 0, .int .i64 0, .int .i64 0, .int .i64 0] 36 (0, 0)) := by have := heap_alloc_new ((w.alloc (.cells #[.int .i64 x1, .int .i64 x2, .int .i64 x3, .int .i64 x4] 36)).alloc (.cells #[.int .i64 0, .int .i64 0, .int .i64 0, .int .i64 0] 36)) (.cells #[.int .i64 0, .int .i64 0, .int .i64 0, .int .i64 0] 36); rwa [World.size_alloc, World.size_alloc] at this
  generalize (((w.alloc (.cells #[.int .i64 x1, .int .i64 x2, .int .i64 x3, .int .i64 x4] 36)).alloc (.cells #[.int .i64 0, .int .i64 0, .int .i64 0, .int .i64 0] 36)).alloc (.cells #[.int .i64 0, .int .i64 0, .int .i64 0, .int .i64 0] 36)) = W0 at *
  have HS : Hid _ := (⟨hS0, hS1, hS2, hW⟩ : _ ∧ _ ∧ _ ∧ _)
  clear hS0 hS1 hS2 hW
  go_loopw [4] (fun s4 wr => ∃ (i : Nat) (z0 z1 z2 z3 : Int), s4 = .int .i64 (i : Int) ∧ i ≤ 4 ∧ (-1000000000 ≤ z0 ∧ z0 ≤ 1000000000) ∧ (-1000000000 ≤ z1 ∧ z1 ≤ 1000000000) ∧ (-1000000000 ≤ z2 ∧ z2 ≤ 1000000000) ∧ (-1000000000 ≤ z3 ∧ z3 ≤ 1000000000) ∧ wr.heap[w.heap.size]? = some (.cells #[.int .i64 x1, .int .i64 x2, .int .i64 x3, .int .i64 x4] 36 (0, 0)) ∧ wr.heap[w.heap.size + 1]? = some (.cells #[.int .i64 0, .int .i64 0, .int .i64 0, .int .i64 0] 36 (0, 0)) ∧ wr.heap[w.heap.size + 2]? = some (.cells #[.int .i64 z0, .int .i64 z1, .int .i64 z2, .int .i64 z3] 36 (0, 0)) ∧ Below w.heap.size w wr) (fun s4 _ => 4 - (intOf s4).toNat)
  case atStart => exact ⟨0, 0, 0, 0, 0, rfl, by omega, by omega, by omega, by omega, by omega, HS.out.1, HS.out.2.1, HS.out.2.2.1, HS.out.2.2.2⟩
  case round =>
    obtain ⟨i, z0, z1, z2, z3, rfl, hi, g0, g1, g2, g3, hA, hR, hO, hb⟩ := hrel
    have HA : Hid _ := hA
    have HR : Hid _ := hR
    have HO : Hid _ := hO
    have HB : Hid (Below w.heap.size w wr) := hb
    have fO : ∀ j, wr.frozen? ⟨w.heap.size + 2, j, none⟩ = false := fun j => Lib.frozen_of_heap hO j
    have fR : ∀ j, wr.frozen? ⟨w.heap.size + 1, j, none⟩ = false := fun j => Lib.frozen_of_heap hR j
    by_cases hlt : i < 4
    · have hc : i = 0 ∨ i = 1 ∨ i = 2 ∨ i = 3 := by omega
      rcases hc with rfl | rfl | rfl | rfl
      · have a0 : wr.cell? ⟨w.heap.size, 0, none⟩ = some (.int .i64 x1) := by have := Lib.cell_of_heap hA 0; simpa using this
        have o0 : wr.cell? ⟨w.heap.size + 2, 0, none⟩ = some (.int .i64 z0) := by have := Lib.cell_of_heap hO 0; simpa using this
        have f0 := fO 0
        have p1 := pck_range x1 20 (by omega)
        have p2 := pck_range x1 2000000001 (by omega)
        have C1 : Hid _ := fun (X : World) => CP.out x1 20 X b1.1 b1.2 (by omega)
        have C2 : Hid _ := fun (X : World) => CP.out x1 2000000001 X b1.1 b1.2 (by omega)
        have hne : ¬ w.heap.size = w.heap.size + 2 := by omega
        have HO1 : Hid ((wr.setCell ⟨w.heap.size + 2, 0, none⟩ (.int .i64 (pck x1 20 - 6))).heap[w.heap.size + 2]? = some (.cells #[.int .i64 (pck x1 20 - 6), .int .i64 z1, .int .i64 z2, .int .i64 z3] 36 (0, 0))) := heap_setCell_same wr (w.heap.size + 2) 0 _ _ _ hO
        have HB1 : Hid (Below w.heap.size w (wr.setCell ⟨w.heap.size + 2, 0, none⟩ (.int .i64 (pck x1 20 - 6)))) := hb.setCell (p := ⟨w.heap.size + 2, 0, none⟩) (by dsimp only; omega) _
        have HA1 : Hid ((wr.setCell ⟨w.heap.size + 2, 0, none⟩ (.int .i64 (pck x1 20 - 6))).heap[w.heap.size]? = some (.cells #[.int .i64 x1, .int .i64 x2, .int .i64 x3, .int .i64 x4] 36 (0, 0))) := (Below.heap_setCell wr ⟨w.heap.size + 2, 0, none⟩ _ _ (by dsimp only; omega)).trans hA
        have HR1 : Hid ((wr.setCell ⟨w.heap.size + 2, 0, none⟩ (.int .i64 (pck x1 20 - 6))).heap[w.heap.size + 1]? = some (.cells #[.int .i64 0, .int .i64 0, .int .i64 0, .int .i64 0] 36 (0, 0))) := (Below.heap_setCell wr ⟨w.heap.size + 2, 0, none⟩ _ _ (by dsimp only; omega)).trans hR
        have hr1 : (wr.setCell ⟨w.heap.size + 2, 0, none⟩ (.int .i64 (pck x1 20 - 6))).cell? ⟨w.heap.size, 0, none⟩ = some (.int .i64 x1) := by have := Lib.cell_of_heap HA1.out 0; simpa using this
        clear hA hR hO fO fR hb
        generalize pck x1 20 = P1 at *
        generalize pck x1 2000000001 = P2 at *
        by_cases hbig : 1000000 < x1 ∨ x1 < -1000000
        · go_wp2_with (first
            | (go_at_call_of 26 (Value.int IntKind.i64 20); refine (C1.out _).mono ?_; rintro e w' ⟨rfl, rfl⟩)
            | (go_at_call_of 26 (Value.int IntKind.i64 2000000001); refine (C2.out _).mono ?_; rintro e w' ⟨rfl, rfl⟩))
          all_goals exact ⟨⟨1, (P2 - 1000000000), z1, z2, z3, rfl, by omega, by omega, g1, g2, g3, (Below.heap_setCell _ ⟨w.heap.size + 2, 0, none⟩ _ _ (by dsimp only; omega)).trans HA1.out, (Below.heap_setCell _ ⟨w.heap.size + 2, 0, none⟩ _ _ (by dsimp only; omega)).trans HR1.out, heap_setCell_same _ (w.heap.size + 2) 0 _ _ _ HO1.out, HB1.out.setCell (p := ⟨w.heap.size + 2, 0, none⟩) (by dsimp only; omega) _⟩, by simp [intOf]⟩
        · go_wp2_with (first
            | (go_at_call_of 26 (Value.int IntKind.i64 20); refine (C1.out _).mono ?_; rintro e w' ⟨rfl, rfl⟩))
          all_goals exact ⟨⟨1, (P1 - 6), z1, z2, z3, rfl, by omega, by omega, g1, g2, g3, HA1.out, HR1.out, HO1.out, HB1.out⟩, by simp [intOf]⟩
      · have a0 : wr.cell? ⟨w.heap.size, 1, none⟩ = some (.int .i64 x2) := by have := Lib.cell_of_heap hA 1; simpa using this
        have o0 : wr.cell? ⟨w.heap.size + 2, 1, none⟩ = some (.int .i64 z1) := by have := Lib.cell_of_heap hO 1; simpa using this
        have f0 := fO 1
        have p1 := pck_range x2 20 (by omega)
        have p2 := pck_range x2 2000000001 (by omega)
        have C1 : Hid _ := fun (X : World) => CP.out x2 20 X b2.1 b2.2 (by omega)
        have C2 : Hid _ := fun (X : World) => CP.out x2 2000000001 X b2.1 b2.2 (by omega)
        have hne : ¬ w.heap.size = w.heap.size + 2 := by omega
        have HO1 : Hid ((wr.setCell ⟨w.heap.size + 2, 1, none⟩ (.int .i64 (pck x2 20 - 6))).heap[w.heap.size + 2]? = some (.cells #[.int .i64 z0, .int .i64 (pck x2 20 - 6), .int .i64 z2, .int .i64 z3] 36 (0, 0))) := heap_setCell_same wr (w.heap.size + 2) 1 _ _ _ hO
        have HB1 : Hid (Below w.heap.size w (wr.setCell ⟨w.heap.size + 2, 1, none⟩ (.int .i64 (pck x2 20 - 6)))) := hb.setCell (p := ⟨w.heap.size + 2, 1, none⟩) (by dsimp only; omega) _
        have HA1 : Hid ((wr.setCell ⟨w.heap.size + 2, 1, none⟩ (.int .i64 (pck x2 20 - 6))).heap[w.heap.size]? = some (.cells #[.int .i64 x1, .int .i64 x2, .int .i64 x3, .int .i64 x4] 36 (0, 0))) := (Below.heap_setCell wr ⟨w.heap.size + 2, 1, none⟩ _ _ (by dsimp only; omega)).trans hA
        have HR1 : Hid ((wr.setCell ⟨w.heap.size + 2, 1, none⟩ (.int .i64 (pck x2 20 - 6))).heap[w.heap.size + 1]? = some (.cells #[.int .i64 0, .int .i64 0, .int .i64 0, .int .i64 0] 36 (0, 0))) := (Below.heap_setCell wr ⟨w.heap.size + 2, 1, none⟩ _ _ (by dsimp only; omega)).trans hR
        have hr1 : (wr.setCell ⟨w.heap.size + 2, 1, none⟩ (.int .i64 (pck x2 20 - 6))).cell? ⟨w.heap.size, 1, none⟩ = some (.int .i64 x2) := by have := Lib.cell_of_heap HA1.out 1; simpa using this
        clear hA hR hO fO fR hb
        generalize pck x2 20 = P1 at *
        generalize pck x2 2000000001 = P2 at *
        by_cases hbig : 1000000 < x2 ∨ x2 < -1000000
        · go_wp2_with (first
            | (go_at_call_of 26 (Value.int IntKind.i64 20); refine (C1.out _).mono ?_; rintro e w' ⟨rfl, rfl⟩)
            | (go_at_call_of 26 (Value.int IntKind.i64 2000000001); refine (C2.out _).mono ?_; rintro e w' ⟨rfl, rfl⟩))
          all_goals exact ⟨⟨2, z0, (P2 - 1000000000), z2, z3, rfl, by omega, g0, by omega, g2, g3, (Below.heap_setCell _ ⟨w.heap.size + 2, 1, none⟩ _ _ (by dsimp only; omega)).trans HA1.out, (Below.heap_setCell _ ⟨w.heap.size + 2, 1, none⟩ _ _ (by dsimp only; omega)).trans HR1.out, heap_setCell_same _ (w.heap.size + 2) 1 _ _ _ HO1.out, HB1.out.setCell (p := ⟨w.heap.size + 2, 1, none⟩) (by dsimp only; omega) _⟩, by simp [intOf]⟩
        · go_wp2_with (first
            | (go_at_call_of 26 (Value.int IntKind.i64 20); refine (C1.out _).mono ?_; rintro e w' ⟨rfl, rfl⟩))
          all_goals exact ⟨⟨2, z0, (P1 - 6), z2, z3, rfl, by omega, g0, by omega, g2, g3, HA1.out, HR1.out, HO1.out, HB1.out⟩, by simp [intOf]⟩
      · have a0 : wr.cell? ⟨w.heap.size, 2, none⟩ = some (.int .i64 x3) := by have := Lib.cell_of_heap hA 2; simpa using this
        have o0 : wr.cell? ⟨w.heap.size + 2, 2, none⟩ = some (.int .i64 z2) := by have := Lib.cell_of_heap hO 2; simpa using this
        have f0 := fO 2
        have p1 := pck_range x3 20 (by omega)
        have p2 := pck_range x3 2000000001 (by omega)
        have C1 : Hid _ := fun (X : World) => CP.out x3 20 X b3.1 b3.2 (by omega)
        have C2 : Hid _ := fun (X : World) => CP.out x3 2000000001 X b3.1 b3.2 (by omega)
        have hne : ¬ w.heap.size = w.heap.size + 2 := by omega
        have HO1 : Hid ((wr.setCell ⟨w.heap.size + 2, 2, none⟩ (.int .i64 (pck x3 20 - 6))).heap[w.heap.size + 2]? = some (.cells #[.int .i64 z0, .int .i64 z1, .int .i64 (pck x3 20 - 6), .int .i64 z3] 36 (0, 0))) := heap_setCell_same wr (w.heap.size + 2) 2 _ _ _ hO
        have HB1 : Hid (Below w.heap.size w (wr.setCell ⟨w.heap.size + 2, 2, none⟩ (.int .i64 (pck x3 20 - 6)))) := hb.setCell (p := ⟨w.heap.size + 2, 2, none⟩) (by dsimp only; omega) _
        have HA1 : Hid ((wr.setCell ⟨w.heap.size + 2, 2, none⟩ (.int .i64 (pck x3 20 - 6))).heap[w.heap.size]? = some (.cells #[.int .i64 x1, .int .i64 x2, .int .i64 x3, .int .i64 x4] 36 (0, 0))) := (Below.heap_setCell wr ⟨w.heap.size + 2, 2, none⟩ _ _ (by dsimp only; omega)).trans hA
        have HR1 : Hid ((wr.setCell ⟨w.heap.size + 2, 2, none⟩ (.int .i64 (pck x3 20 - 6))).heap[w.heap.size + 1]? = some (.cells #[.int .i64 0, .int .i64 0, .int .i64 0, .int .i64 0] 36 (0, 0))) := (Below.heap_setCell wr ⟨w.heap.size + 2, 2, none⟩ _ _ (by dsimp only; omega)).trans hR
        have hr1 : (wr.setCell ⟨w.heap.size + 2, 2, none⟩ (.int .i64 (pck x3 20 - 6))).cell? ⟨w.heap.size, 2, none⟩ = some (.int .i64 x3) := by have := Lib.cell_of_heap HA1.out 2; simpa using this
        clear hA hR hO fO fR hb
        generalize pck x3 20 = P1 at *
        generalize pck x3 2000000001 = P2 at *
        by_cases hbig : 1000000 < x3 ∨ x3 < -1000000
        · go_wp2_with (first
            | (go_at_call_of 26 (Value.int IntKind.i64 20); refine (C1.out _).mono ?_; rintro e w' ⟨rfl, rfl⟩)
            | (go_at_call_of 26 (Value.int IntKind.i64 2000000001); refine (C2.out _).mono ?_; rintro e w' ⟨rfl, rfl⟩))
          all_goals exact ⟨⟨3, z0, z1, (P2 - 1000000000), z3, rfl, by omega, g0, g1, by omega, g3, (Below.heap_setCell _ ⟨w.heap.size + 2, 2, none⟩ _ _ (by dsimp only; omega)).trans HA1.out, (Below.heap_setCell _ ⟨w.heap.size + 2, 2, none⟩ _ _ (by dsimp only; omega)).trans HR1.out, heap_setCell_same _ (w.heap.size + 2) 2 _ _ _ HO1.out, HB1.out.setCell (p := ⟨w.heap.size + 2, 2, none⟩) (by dsimp only; omega) _⟩, by simp [intOf]⟩
        · go_wp2_with (first
            | (go_at_call_of 26 (Value.int IntKind.i64 20); refine (C1.out _).mono ?_; rintro e w' ⟨rfl, rfl⟩))
          all_goals exact ⟨⟨3, z0, z1, (P1 - 6), z3, rfl, by omega, g0, g1, by omega, g3, HA1.out, HR1.out, HO1.out, HB1.out⟩, by simp [intOf]⟩
      · have a0 : wr.cell? ⟨w.heap.size, 3, none⟩ = some (.int .i64 x4) := by have := Lib.cell_of_heap hA 3; simpa using this
        have o0 : wr.cell? ⟨w.heap.size + 2, 3, none⟩ = some (.int .i64 z3) := by have := Lib.cell_of_heap hO 3; simpa using this
        have f0 := fO 3
        have p1 := pck_range x4 20 (by omega)
        have p2 := pck_range x4 2000000001 (by omega)
        have C1 : Hid _ := fun (X : World) => CP.out x4 20 X b4.1 b4.2 (by omega)
        have C2 : Hid _ := fun (X : World) => CP.out x4 2000000001 X b4.1 b4.2 (by omega)
        have hne : ¬ w.heap.size = w.heap.size + 2 := by omega
        have HO1 : Hid ((wr.setCell ⟨w.heap.size + 2, 3, none⟩ (.int .i64 (pck x4 20 - 6))).heap[w.heap.size + 2]? = some (.cells #[.int .i64 z0, .int .i64 z1, .int .i64 z2, .int .i64 (pck x4 20 - 6)] 36 (0, 0))) := heap_setCell_same wr (w.heap.size + 2) 3 _ _ _ hO
        have HB1 : Hid (Below w.heap.size w (wr.setCell ⟨w.heap.size + 2, 3, none⟩ (.int .i64 (pck x4 20 - 6)))) := hb.setCell (p := ⟨w.heap.size + 2, 3, none⟩) (by dsimp only; omega) _
        have HA1 : Hid ((wr.setCell ⟨w.heap.size + 2, 3, none⟩ (.int .i64 (pck x4 20 - 6))).heap[w.heap.size]? = some (.cells #[.int .i64 x1, .int .i64 x2, .int .i64 x3, .int .i64 x4] 36 (0, 0))) := (Below.heap_setCell wr ⟨w.heap.size + 2, 3, none⟩ _ _ (by dsimp only; omega)).trans hA
        have HR1 : Hid ((wr.setCell ⟨w.heap.size + 2, 3, none⟩ (.int .i64 (pck x4 20 - 6))).heap[w.heap.size + 1]? = some (.cells #[.int .i64 0, .int .i64 0, .int .i64 0, .int .i64 0] 36 (0, 0))) := (Below.heap_setCell wr ⟨w.heap.size + 2, 3, none⟩ _ _ (by dsimp only; omega)).trans hR
        have hr1 : (wr.setCell ⟨w.heap.size + 2, 3, none⟩ (.int .i64 (pck x4 20 - 6))).cell? ⟨w.heap.size, 3, none⟩ = some (.int .i64 x4) := by have := Lib.cell_of_heap HA1.out 3; simpa using this
        clear hA hR hO fO fR hb
        generalize pck x4 20 = P1 at *
        generalize pck x4 2000000001 = P2 at *
        by_cases hbig : 1000000 < x4 ∨ x4 < -1000000
        · go_wp2_with (first
            | (go_at_call_of 26 (Value.int IntKind.i64 20); refine (C1.out _).mono ?_; rintro e w' ⟨rfl, rfl⟩)
            | (go_at_call_of 26 (Value.int IntKind.i64 2000000001); refine (C2.out _).mono ?_; rintro e w' ⟨rfl, rfl⟩))
          all_goals exact ⟨⟨4, z0, z1, z2, (P2 - 1000000000), rfl, by omega, g0, g1, g2, by omega, (Below.heap_setCell _ ⟨w.heap.size + 2, 3, none⟩ _ _ (by dsimp only; omega)).trans HA1.out, (Below.heap_setCell _ ⟨w.heap.size + 2, 3, none⟩ _ _ (by dsimp only; omega)).trans HR1.out, heap_setCell_same _ (w.heap.size + 2) 3 _ _ _ HO1.out, HB1.out.setCell (p := ⟨w.heap.size + 2, 3, none⟩) (by dsimp only; omega) _⟩, by simp [intOf]⟩
        · go_wp2_with (first
            | (go_at_call_of 26 (Value.int IntKind.i64 20); refine (C1.out _).mono ?_; rintro e w' ⟨rfl, rfl⟩))
          all_goals exact ⟨⟨4, z0, z1, z2, (P1 - 6), rfl, by omega, g0, g1, g2, by omega, HA1.out, HR1.out, HO1.out, HB1.out⟩, by simp [intOf]⟩
    · have hie : i = 4 := by omega
      subst hie
      have o0 : wr.cell? ⟨w.heap.size + 2, 0, none⟩ = some (.int .i64 z0) := by have := Lib.cell_of_heap hO 0; simpa using this
      have o1 : wr.cell? ⟨w.heap.size + 2, 1, none⟩ = some (.int .i64 z1) := by have := Lib.cell_of_heap hO 1; simpa using this
      have o2 : wr.cell? ⟨w.heap.size + 2, 2, none⟩ = some (.int .i64 z2) := by have := Lib.cell_of_heap hO 2; simpa using this
      have o3 : wr.cell? ⟨w.heap.size + 2, 3, none⟩ = some (.int .i64 z3) := by have := Lib.cell_of_heap hO 3; simpa using this
      have r0 : wr.cell? ⟨w.heap.size + 1, 0, none⟩ = some (.int .i64 0) := by have := Lib.cell_of_heap hR 0; simpa using this
      have r1 : wr.cell? ⟨w.heap.size + 1, 1, none⟩ = some (.int .i64 0) := by have := Lib.cell_of_heap hR 1; simpa using this
      have r2 : wr.cell? ⟨w.heap.size + 1, 2, none⟩ = some (.int .i64 0) := by have := Lib.cell_of_heap hR 2; simpa using this
      have r3 : wr.cell? ⟨w.heap.size + 1, 3, none⟩ = some (.int .i64 0) := by have := Lib.cell_of_heap hR 3; simpa using this
      have q0 := fR 0
      have q1 := fR 1
      have q2 := fR 2
      have q3 := fR 3
      clear hA hR hO fO fR
      go_wp2_with fail
      have hF : ((((wr.setCell ⟨w.heap.size + 1, 0, none⟩ (.int .i64 z0)).setCell ⟨w.heap.size + 1, 1, none⟩ (.int .i64 z1)).setCell ⟨w.heap.size + 1, 2, none⟩ (.int .i64 z2)).setCell ⟨w.heap.size + 1, 3, none⟩ (.int .i64 z3)).heap[w.heap.size + 1]? = some (.cells #[.int .i64 z0, .int .i64 z1, .int .i64 z2, .int .i64 z3] 36 (0, 0)) := heap_setCell_same _ (w.heap.size + 1) 3 _ _ _ (heap_setCell_same _ (w.heap.size + 1) 2 _ _ _ (heap_setCell_same _ (w.heap.size + 1) 1 _ _ _ (heap_setCell_same wr (w.heap.size + 1) 0 _ _ _ HR.out)))
      refine bodyPost_ret (results_cS rfl rfl (loadS _ (w.heap.size + 1) (.int .i64 z0) (.int .i64 z1) (.int .i64 z2) (.int .i64 z3) (by have := Lib.cell_of_heap hF 0; simpa using this) (by have := Lib.cell_of_heap hF 1; simpa using this) (by have := Lib.cell_of_heap hF 2; simpa using this) (by have := Lib.cell_of_heap hF 3; simpa using this))) rfl ⟨z0, z1, z2, z3, rfl, gds_mk g0 g1 g2 g3, ?_⟩
      exact (((HB.out.setCell (p := ⟨w.heap.size + 1, 0, none⟩) (by dsimp only; omega) _).setCell (p := ⟨w.heap.size + 1, 1, none⟩) (by dsimp only; omega) _).setCell (p := ⟨w.heap.size + 1, 2, none⟩) (by dsimp only; omega) _).setCell (p := ⟨w.heap.size + 1, 3, none⟩) (by dsimp only; omega) _
end Go.Proofs.YtkinoehmcfhgbaaGreatDoor.Vl
set_option linter.unusedVariables false
set_option linter.unusedSimpArgs false
namespace Go.Proofs.YtkinoehmcfhgbaaGreatDoor.Vl
open Go.RowKit
open Go.Proofs.YtkinoehmcfhgbaaGreatDoor.Av (results_cell)

/-- A symbol as a value. -/
def syV (y : Sym) : Value := .agg #[.int .i64 y.1, .int .i64 y.2.1, .int .i64 y.2.2.1, .int .i64 y.2.2.2]
theorem Tryz.infoSym : (Tryz.prog.info? 136).map (fun i => (i.zero, i.size, i.bytes)) = some (some (.agg #[.int .i64 0, .int .i64 0, .int .i64 0, .int .i64 0]), 4, 32) := by kernel_rfl
theorem Tryz.sizeSym : (Tryz.prog.info? 136).map (·.size) = some 4 := by kernel_rfl
theorem sym_ret {fn : Func} {R : Ending → World → Prop} {tmps : Array Value} {w : World} {k : Nat} (a b c d : Int) (hf : fn.results = #[.cell k 136]) (ht : tmps.getD k undef = .pointer (some ⟨w.heap.size, 0, none⟩))
    (hR : R (.returned (.agg #[.int .i64 a, .int .i64 b, .int .i64 c, .int .i64 d])) (w.alloc (.cells #[.int .i64 a, .int .i64 b, .int .i64 c, .int .i64 d] 136))) : bodyPost Tryz.prog fn R .ret ⟨tmps, []⟩ (w.alloc (.cells #[.int .i64 a, .int .i64 b, .int .i64 c, .int .i64 d] 136)) :=
  bodyPost_ret (results_cell hf ht (run_loadVar_mid _ w.heap.size 0 136 [.int .i64 a, .int .i64 b, .int .i64 c, .int .i64 d] _ (range_new w [.int .i64 a, .int .i64 b, .int .i64 c, .int .i64 d] 136) Tryz.underlying136 rfl Tryz.sizeSym)) rfl hR

set_option maxRecDepth 100000 in
set_option maxHeartbeats 1000000 in
theorem sAtMost_any (u v n : Int) (w : World) :
    Calls Tryz.prog 247 #[.int .i64 u, .int .i64 v, .int .i64 n] w fun e w' => e = .returned (syV (aty u v n)) ∧ Below w.heap.size w w' := by
  by_cases huv : u = v
  · have huv' : (u != v) = false := by simp [huv]
    by_cases hn : 0 ≤ n
    · have HS : Hid (aty u v n = (0, 0, 0, 0)) := by show _ = _; unfold aty; rw [if_pos huv, if_pos hn]
      clear huv
      go_enter Tryz.func247, Tryz.ntmps247
      go_wp2
      exact sym_ret 0 0 0 0 Tryz.results247 rfl ⟨by rw [HS.out]; rfl, below_alloc _ _⟩
    · have HS : Hid (aty u v n = (1, 0, 0, 0)) := by show _ = _; unfold aty; rw [if_pos huv, if_neg hn]
      clear huv
      go_enter Tryz.func247, Tryz.ntmps247
      go_wp2
      exact sym_ret 1 0 0 0 Tryz.results247 rfl ⟨by rw [HS.out]; rfl, below_alloc _ _⟩
  · have huv' : (u != v) = true := by simp [huv]
    have HS : Hid (aty u v n = (6, u, v, n)) := by show _ = _; unfold aty; rw [if_neg huv]
    clear huv
    go_enter Tryz.func247, Tryz.ntmps247
    go_wp2
    exact sym_ret 6 u v n Tryz.results247 rfl ⟨by rw [HS.out]; rfl, below_alloc _ _⟩

set_option maxHeartbeats 400000 in
theorem variableO_any (x : Int) (w : World) (h : -1 ≤ x ∧ x ≤ 3) : Calls Tryz.prog 182 #[.int .i64 x] w fun e w' => e = .returned (.int .i64 (x + 1)) ∧ w = w' := by
  obtain ⟨h1, h2⟩ := h
  go_enter Tryz.func182, Tryz.ntmps182
  go_wp2
  go_ret
  exact ⟨rfl, rfl⟩
set_option maxRecDepth 100000 in
set_option maxHeartbeats 1000000 in
theorem operand_any (a b : Int) (w : World) (h : -1 ≤ a ∧ a ≤ 3) : Calls Tryz.prog 211 #[.agg #[.int .i64 a, .int .i64 b]] w fun e w' => e = .returned (.int .i64 (a + 1)) ∧ Below w.heap.size w w' := by
  have C : Hid (∀ w, Calls Tryz.prog 182 #[.int .i64 a] w fun e w' => e = .returned (.int .i64 (a + 1)) ∧ w = w') := fun w => variableO_any a w h
  by_cases ha : a = -1
  · subst ha
    go_enter Tryz.func211, Tryz.ntmps211
    go_wp2
    go_ret
    exact ⟨rfl, below_alloc _ _⟩
  · have ha' : (a == -1) = false := by simp [ha]
    clear ha h
    go_enter Tryz.func211, Tryz.ntmps211
    go_wp2_with fail
    refine (C.out _).mono ?_
    rintro e w1 ⟨rfl, rfl⟩
    go_wp2_with fail
    go_ret
    exact ⟨rfl, below_alloc _ _⟩
/-- A condition as it lies in memory. -/
def cell4 (y : Sym) : List Value := [.int .i64 y.1, .int .i64 y.2.1, .int .i64 y.2.2.1, .int .i64 y.2.2.2]
def cells4 (l : List Sym) : List Value := l.flatMap cell4
def CondR (w : World) (v : Value) (ys : List Sym) : Prop := (v = .slice none 0 0 ∧ ys = []) ∨ ∃ b cap, v = .slice (some ⟨b, 0, none⟩) ys.length cap ∧ ys.length ≤ cap ∧ cap ≤ maxLen ∧ b < w.heap.size ∧ w.rangeAt b 0 (cells4 ys) ∧ ∃ cur fr, w.heap[b]? = some (.cells cur 136 fr)
theorem CondR.below {w w' : World} {v : Value} {ys : List Sym} (h : CondR w v ys) (hb : Below w.heap.size w w') : CondR w' v ys := by
  rcases h with h | ⟨b, cap, h1, h2, h3, h4, h5, cur, fr, h6⟩
  · exact Or.inl h
  · exact Or.inr ⟨b, cap, h1, h2, h3, Nat.lt_of_lt_of_le h4 hb.size, fun j u hu => (hb.cell (p := ⟨b, 0 + j, none⟩) h4).trans (h5 j u hu), cur, fr, (hb.block b h4).trans h6⟩
theorem condR_one (w : World) (y : Sym) : CondR (w.alloc (.cells #[.int .i64 y.1, .int .i64 y.2.1, .int .i64 y.2.2.1, .int .i64 y.2.2.2] 136)) (.slice (some ⟨w.heap.size, 0, none⟩) 1 1) [y] :=
  Or.inr ⟨w.heap.size, 1, rfl, Nat.le_refl _, by decide, by simp, range_new w [.int .i64 y.1, .int .i64 y.2.1, .int .i64 y.2.2.1, .int .i64 y.2.2.2] 136, _, _, heap_alloc_new w _⟩

def Tw4 (w w' : World) (B : Nat) (a1 a2 b1 b2 : Int) : Prop := Below w.heap.size w w' ∧ B + 1 < w'.heap.size ∧ w'.cell? ⟨B, 0, none⟩ = some (.int .i64 a1) ∧ w'.cell? ⟨B, 1, none⟩ = some (.int .i64 a2) ∧ w'.cell? ⟨B + 1, 0, none⟩ = some (.int .i64 b1) ∧ w'.cell? ⟨B + 1, 1, none⟩ = some (.int .i64 b2)
theorem Tw4.on {w X X' : World} {B : Nat} {a1 a2 b1 b2 : Int} (h : Tw4 w X B a1 a2 b1 b2) (hb : Below X.heap.size X X') : Tw4 w X' B a1 a2 b1 b2 := by
  obtain ⟨h0, h1, h2, h3, h4, h5⟩ := h
  have hB : B < X.heap.size := by omega
  exact ⟨h0.trans (hb.mono h0.size), Nat.lt_of_lt_of_le h1 hb.size, (hb.cell (p := ⟨B, 0, none⟩) hB).trans h2, (hb.cell (p := ⟨B, 1, none⟩) hB).trans h3, (hb.cell (p := ⟨B + 1, 0, none⟩) h1).trans h4, (hb.cell (p := ⟨B + 1, 1, none⟩) h1).trans h5⟩

set_option maxRecDepth 100000 in
set_option maxHeartbeats 2000000 in
theorem wAtMost_any (a1 a2 b1 b2 : Int) (w : World) (ha : tOk (a1, a2)) (hb : -1 ≤ b1 ∧ b1 ≤ 3 ∧ -1000 ≤ b2 ∧ b2 ≤ 999) :
    Calls Tryz.prog 215 #[.agg #[.int .i64 a1, .int .i64 a2], .agg #[.int .i64 b1, .int .i64 b2]] w fun e w' => ∃ v, e = .returned v ∧ CondR w' v [aty (a1 + 1) (b1 + 1) (b2 - a2)] ∧ Below w.heap.size w w' := by
  obtain ⟨h1, h2, h3, h4⟩ := ha
  obtain ⟨g1, g2, g3, g4⟩ := hb
  dsimp only at h1 h2 h3 h4
  have CA : Hid (∀ w, Calls Tryz.prog 211 #[.agg #[.int .i64 a1, .int .i64 a2]] w fun e w' => e = .returned (.int .i64 (a1 + 1)) ∧ Below w.heap.size w w') := fun w => operand_any a1 a2 w ⟨h1, h2⟩
  have CB : Hid (∀ w, Calls Tryz.prog 211 #[.agg #[.int .i64 b1, .int .i64 b2]] w fun e w' => e = .returned (.int .i64 (b1 + 1)) ∧ Below w.heap.size w w') := fun w => operand_any b1 b2 w ⟨g1, g2⟩
  have CS : Hid (∀ w, Calls Tryz.prog 247 #[.int .i64 (a1 + 1), .int .i64 (b1 + 1), .int .i64 (b2 - a2)] w fun e w' => e = .returned (syV (aty (a1 + 1) (b1 + 1) (b2 - a2))) ∧ Below w.heap.size w w') := fun w => sAtMost_any _ _ _ w
  have hv1 : IntKind.i64.wrap (b2 - a2) = b2 - a2 := by rw [IntKind.wrap_i64]; omega
  generalize aty (a1 + 1) (b1 + 1) (b2 - a2) = Y at *
  unfold syV at CS
  go_enter Tryz.func215, Tryz.ntmps215
  go_wp2_with fail
  have bb0 : Below w.heap.size w ((w.alloc (.cells #[.int .i64 a1, .int .i64 a2] 96)).alloc (.cells #[.int .i64 b1, .int .i64 b2] 96)) := (below_alloc w _).alloc (by simp) _
  generalize hW : ((w.alloc (.cells #[.int .i64 a1, .int .i64 a2] 96)).alloc (.cells #[.int .i64 b1, .int .i64 b2] 96)) = W at *
  have s0 : w.heap.size + 1 < W.heap.size := by rw [← hW]; simp
  have c0 : W.cell? ⟨w.heap.size, 0, none⟩ = some (.int .i64 a1) := by rw [← hW]; simp
  have c1 : W.cell? ⟨w.heap.size, 1, none⟩ = some (.int .i64 a2) := by rw [← hW]; simp
  have d0 : W.cell? ⟨w.heap.size + 1, 0, none⟩ = some (.int .i64 b1) := by rw [← hW]; simp
  have d1 : W.cell? ⟨w.heap.size + 1, 1, none⟩ = some (.int .i64 b2) := by rw [← hW]; simp
  have bb1 : Below w.heap.size w W.drew := bb0.drew
  have T0 : Tw4 w W.drew w.heap.size a1 a2 b1 b2 := ⟨bb1, s0, c0, c1, d0, d1⟩
  clear hW
  go_region_held3 (fun w' => Below w.heap.size w w' ∧ w.heap.size + 1 < w'.heap.size ∧ w'.cell? ⟨w.heap.size, 0, none⟩ = some (.int .i64 a1) ∧ w'.cell? ⟨w.heap.size, 1, none⟩ = some (.int .i64 a2) ∧ w'.cell? ⟨w.heap.size + 1, 0, none⟩ = some (.int .i64 b1) ∧ w'.cell? ⟨w.heap.size + 1, 1, none⟩ = some (.int .i64 b2)) (first | (refine ⟨?_, ?_, ?_, ?_, ?_, ?_⟩ <;> assumption) | exact ((‹Tw4 w _ w.heap.size a1 a2 b1 b2›).on (below_alloc _ _))) (first | (go_at_call 247; refine (CS.out _).mono ?_; rintro e w4 ⟨rfl, hb4⟩; have T3 := T2.on hb4; obtain ⟨t0, t1, t2, t3, t4, t5⟩ := id T3) | (go_at_call 211; first | (have hh := T1; refine (CB.out _).mono ?_; rintro e w3 ⟨rfl, hb3⟩; have T2 := T1.on hb3; clear hh; obtain ⟨t0, t1, t2, t3, t4, t5⟩ := id T2) | (refine (CA.out _).mono ?_; rintro e w3 ⟨rfl, hb3⟩; have T1 := T0.on hb3; obtain ⟨t0, t1, t2, t3, t4, t5⟩ := id T1)))
  go_wp2_with fail
  go_ret
  refine ⟨_, rfl, condR_one w4 Y, t0.alloc (by have := t0.size; omega) _⟩

set_option maxRecDepth 100000 in
set_option maxHeartbeats 2000000 in
theorem below_any (a1 a2 b1 b2 : Int) (w : World) (ha : tOk (a1, a2)) (hb : tOk (b1, b2)) :
    Calls Tryz.prog 214 #[.agg #[.int .i64 a1, .int .i64 a2], .agg #[.int .i64 b1, .int .i64 b2]] w fun e w' => ∃ v, e = .returned v ∧ CondR w' v [aty (a1 + 1) (b1 + 1) (b2 - a2 - 1)] ∧ Below w.heap.size w w' := by
  obtain ⟨g1, g2, g3, g4⟩ := hb
  dsimp only at g1 g2 g3 g4
  have CA : Hid (∀ w, Calls Tryz.prog 215 #[.agg #[.int .i64 a1, .int .i64 a2], .agg #[.int .i64 b1, .int .i64 (b2 - 1)]] w fun e w' => ∃ v, e = .returned v ∧ CondR w' v [aty (a1 + 1) (b1 + 1) (b2 - a2 - 1)] ∧ Below w.heap.size w w') := fun w => by
    have := wAtMost_any a1 a2 b1 (b2 - 1) w ha ⟨g1, g2, by omega, by omega⟩
    rwa [show b2 - 1 - a2 = b2 - a2 - 1 by omega] at this
  clear ha
  generalize aty (a1 + 1) (b1 + 1) (b2 - a2 - 1) = Y at *
  go_enter Tryz.func214, Tryz.ntmps214
  go_wp2_with fail
  refine (CA.out _).mono ?_
  rintro e w1 ⟨v, rfl, hc, hb⟩
  go_wp2_with fail
  go_ret
  exact ⟨_, rfl, hc, ((below_alloc w _).alloc (by simp) _).trans (hb.mono (by simp; omega))⟩
end Go.Proofs.YtkinoehmcfhgbaaGreatDoor.Vl
