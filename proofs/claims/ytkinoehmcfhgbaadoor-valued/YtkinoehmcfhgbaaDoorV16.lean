/-
  The walks of the program's Operand.value, Atom.holds and Symbol.holds.
-/
import Derived.Test.YtkinoehmcfhgbaaDoorV8
import Derived.Test.YtkinoehmcfhgbaaDoorV15
import Derived.Test.YtkinoehmcfhgbaaDoorV18
import Derived.Deep.RegionHeld3
set_option linter.unusedVariables false
set_option linter.unusedSimpArgs false
namespace Go.Proofs.YtkinoehmcfhgbaaDoor.Vl
open Go.RowKit

set_option maxRecDepth 100000 in
set_option maxHeartbeats 1000000 in
theorem value_any (i x1 x2 x3 x4 : Int) (w : World) (h : 0 ≤ i ∧ i ≤ 4) :
    Calls Tryd.prog 36 #[.int .i64 i, .agg #[.int .i64 x1, .int .i64 x2, .int .i64 x3, .int .i64 x4]] w fun e w' => e = .returned (.int .i64 (xv x1 x2 x3 x4 i)) ∧ Below w.heap.size w w' := by
  have hi : i = 0 ∨ i = 1 ∨ i = 2 ∨ i = 3 ∨ i = 4 := by omega
  rcases hi with rfl | rfl | rfl | rfl | rfl
  all_goals
    go_enter Tryd.func36, Tryd.ntmps36
    go_wp2
    go_ret
    exact ⟨rfl, below_alloc _ _⟩

/-- The cells of an atom and of a state, each in a block of its own. -/
def Two (w w' : World) (B : Nat) (a1 a2 a3 x1 x2 x3 x4 : Int) : Prop :=
  Below w.heap.size w w' ∧ B + 1 < w'.heap.size ∧ w'.cell? ⟨B, 0, none⟩ = some (.int .i64 a1) ∧ w'.cell? ⟨B, 1, none⟩ = some (.int .i64 a2) ∧ w'.cell? ⟨B, 2, none⟩ = some (.int .i64 a3) ∧
  w'.cell? ⟨B + 1, 0, none⟩ = some (.int .i64 x1) ∧ w'.cell? ⟨B + 1, 1, none⟩ = some (.int .i64 x2) ∧ w'.cell? ⟨B + 1, 2, none⟩ = some (.int .i64 x3) ∧ w'.cell? ⟨B + 1, 3, none⟩ = some (.int .i64 x4)

theorem Two.on {w X X' : World} {B : Nat} {a1 a2 a3 x1 x2 x3 x4 : Int} (h : Two w X B a1 a2 a3 x1 x2 x3 x4) (hb : Below X.heap.size X X') : Two w X' B a1 a2 a3 x1 x2 x3 x4 := by
  obtain ⟨h0, h1, c0, c1, c2, d0, d1, d2, d3⟩ := h
  have hB : B < X.heap.size := by omega
  exact ⟨h0.trans (hb.mono h0.size), Nat.lt_of_lt_of_le h1 hb.size, (hb.cell (p := ⟨B, 0, none⟩) hB).trans c0, (hb.cell (p := ⟨B, 1, none⟩) hB).trans c1, (hb.cell (p := ⟨B, 2, none⟩) hB).trans c2,
    (hb.cell (p := ⟨B + 1, 0, none⟩) h1).trans d0, (hb.cell (p := ⟨B + 1, 1, none⟩) h1).trans d1, (hb.cell (p := ⟨B + 1, 2, none⟩) h1).trans d2, (hb.cell (p := ⟨B + 1, 3, none⟩) h1).trans d3⟩

set_option maxRecDepth 100000 in
set_option maxHeartbeats 2000000 in
theorem aholds_any (a1 a2 a3 x1 x2 x3 x4 : Int) (w : World) (h1 : 0 ≤ a1 ∧ a1 ≤ 4) (h2 : 0 ≤ a2 ∧ a2 ≤ 4) (hg : gds x1 x2 x3 x4 = true) :
    Calls Tryd.prog 24 #[.agg #[.int .i64 a1, .int .i64 a2, .int .i64 a3], .agg #[.int .i64 x1, .int .i64 x2, .int .i64 x3, .int .i64 x4]] w fun e w' => e = .returned (.bool (hld x1 x2 x3 x4 (a1, a2, a3))) ∧ Below w.heap.size w w' := by
  have CV : Hid (∀ (i : Int) w, 0 ≤ i ∧ i ≤ 4 → Calls Tryd.prog 36 #[.int .i64 i, .agg #[.int .i64 x1, .int .i64 x2, .int .i64 x3, .int .i64 x4]] w fun e w' => e = .returned (.int .i64 (xv x1 x2 x3 x4 i)) ∧ Below w.heap.size w w') := fun i w h => value_any i x1 x2 x3 x4 w h
  have HH : Hid (hld x1 x2 x3 x4 (a1, a2, a3) = decide (xv x1 x2 x3 x4 a1 - xv x1 x2 x3 x4 a2 ≤ a3)) := rfl
  have hX := xv_range hg a1
  have hY := xv_range hg a2
  have A1 : Hid (0 ≤ a1 ∧ a1 ≤ 4) := h1
  have A2 : Hid (0 ≤ a2 ∧ a2 ≤ 4) := h2
  clear h1 h2 hg
  generalize hxv : xv x1 x2 x3 x4 = XV at *
  clear hxv
  go_enter Tryd.func24, Tryd.ntmps24
  go_wp2_with fail
  have b0 : Below w.heap.size w ((w.alloc (.cells #[.int .i64 a1, .int .i64 a2, .int .i64 a3] 52)).alloc (.cells #[.int .i64 x1, .int .i64 x2, .int .i64 x3, .int .i64 x4] 23)) := (below_alloc w _).alloc (by simp) _
  generalize hW : (w.alloc (.cells #[.int .i64 a1, .int .i64 a2, .int .i64 a3] 52)).alloc (.cells #[.int .i64 x1, .int .i64 x2, .int .i64 x3, .int .i64 x4] 23) = W at *
  have s0 : w.heap.size + 1 < W.heap.size := by rw [← hW]; simp
  have c0 : W.cell? ⟨w.heap.size, 0, none⟩ = some (.int .i64 a1) := by rw [← hW]; simp
  have c1 : W.cell? ⟨w.heap.size, 1, none⟩ = some (.int .i64 a2) := by rw [← hW]; simp
  have c2 : W.cell? ⟨w.heap.size, 2, none⟩ = some (.int .i64 a3) := by rw [← hW]; simp
  have d0 : W.cell? ⟨w.heap.size + 1, 0, none⟩ = some (.int .i64 x1) := by rw [← hW]; simp
  have d1 : W.cell? ⟨w.heap.size + 1, 1, none⟩ = some (.int .i64 x2) := by rw [← hW]; simp
  have d2 : W.cell? ⟨w.heap.size + 1, 2, none⟩ = some (.int .i64 x3) := by rw [← hW]; simp
  have d3 : W.cell? ⟨w.heap.size + 1, 3, none⟩ = some (.int .i64 x4) := by rw [← hW]; simp
  have b1 : Below w.heap.size w W.drew := b0.drew
  have T0 : Two w W.drew w.heap.size a1 a2 a3 x1 x2 x3 x4 := ⟨b1, s0, c0, c1, c2, d0, d1, d2, d3⟩
  clear hW
  go_region_held3 (fun w' => Below w.heap.size w w' ∧ w.heap.size + 1 < w'.heap.size ∧ w'.cell? ⟨w.heap.size, 0, none⟩ = some (.int .i64 a1) ∧ w'.cell? ⟨w.heap.size, 1, none⟩ = some (.int .i64 a2) ∧ w'.cell? ⟨w.heap.size, 2, none⟩ = some (.int .i64 a3) ∧ w'.cell? ⟨w.heap.size + 1, 0, none⟩ = some (.int .i64 x1) ∧ w'.cell? ⟨w.heap.size + 1, 1, none⟩ = some (.int .i64 x2) ∧ w'.cell? ⟨w.heap.size + 1, 2, none⟩ = some (.int .i64 x3) ∧ w'.cell? ⟨w.heap.size + 1, 3, none⟩ = some (.int .i64 x4)) (simp [*]) (first | (go_at_call 36; refine (CV.out _ _ ?_).mono ?_; (first | exact A1.out | exact A2.out); rintro e w3 ⟨rfl, hb3⟩; first | (have T2 := T1.on hb3; obtain ⟨t0, t1, t2, t3, t4, t5, t6, t7, t8⟩ := id T2) | (have T1 := T0.on hb3; obtain ⟨t0, t1, t2, t3, t4, t5, t6, t7, t8⟩ := id T1)))
  have hwr : IntKind.i64.wrap (XV a1 - XV a2) = XV a1 - XV a2 := IntWalk.i64_in _ (by omega)
  go_wp2_with fail
  go_ret
  refine ⟨?_, t0⟩
  rw [HH.out]
  first | rfl | (simp only [hwr]; rfl) | simp [hwr]

end Go.Proofs.YtkinoehmcfhgbaaDoor.Vl
