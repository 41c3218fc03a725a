/-
  The walks of the document's good, and of the program's inRange and MayBe: a state that may be.
-/
import Derived.Test.YtkinoehmcfhgbaaDoorV6
import Derived.OwnWalk
set_option linter.unusedVariables false
set_option linter.unusedSimpArgs false
namespace Go.Proofs.YtkinoehmcfhgbaaDoor.Vl
open Go.RowKit

def gd (x : Int) : Bool := decide (-1000000000 ≤ x) && decide (x ≤ 1000000000)
def gds (x1 x2 x3 x4 : Int) : Bool := gd x1 && (gd x2 && (gd x3 && gd x4))
def stV (x1 x2 x3 x4 : Int) : Value := .agg #[.int .i64 x1, .int .i64 x2, .int .i64 x3, .int .i64 x4]
theorem gd_yes {x : Int} (h : gd x = true) : ¬ x < -1000000000 ∧ ¬ 1000000000 < x := by unfold gd at h; simp at h; omega
theorem gd_no {x : Int} (h : gd x = false) : x < -1000000000 ∨ (¬ x < -1000000000 ∧ 1000000000 < x) := by unfold gd at h; simp at h; omega

set_option maxHeartbeats 400000 in
theorem inRange_any (x : Int) (w : World) :
    Calls Tryd.prog 21 #[.int .i64 x] w fun e w' => e = .returned (.bool (gd x)) ∧ w = w' := by
  go_enter Tryd.func21, Tryd.ntmps21
  go_wp2
  all_goals go_ret
  all_goals refine ⟨ret_bool ?_, rfl⟩
  all_goals (unfold gd; simp_all)
  all_goals omega

def At4 (x1 x2 x3 x4 : Int) (i : Value) : Prop := i = .int .i64 0 ∨ (i = .int .i64 1 ∧ gd x1 = true) ∨ (i = .int .i64 2 ∧ gd x1 = true ∧ gd x2 = true) ∨ (i = .int .i64 3 ∧ gd x1 = true ∧ gd x2 = true ∧ gd x3 = true) ∨ (i = .int .i64 4 ∧ gd x1 = true ∧ gd x2 = true ∧ gd x3 = true ∧ gd x4 = true)
theorem below4 (w : World) (o : Obj) : Below w.heap.size w (w.alloc o) := below_alloc w o

set_option maxRecDepth 100000 in
set_option maxHeartbeats 1000000 in
theorem good_any (x1 x2 x3 x4 : Int) (w : World) :
    Calls Tryd.prog 14 #[stV x1 x2 x3 x4] w fun e w' => e = .returned (.bool (gds x1 x2 x3 x4)) ∧ Below w.heap.size w w' := by
  unfold stV
  generalize hG : gds x1 x2 x3 x4 = G
  have HG : Hid (gds x1 x2 x3 x4 = G) := hG
  clear hG
  go_enter Tryd.func14, Tryd.ntmps14
  go_wp2
  go_loop [3] (fun i => At4 x1 x2 x3 x4 i) (fun i => 4 - (intOf i).toNat)
  case atStart => exact Or.inl rfl
  case round =>
    rcases hrel with rfl | ⟨rfl, h1⟩ | ⟨rfl, h1, h2⟩ | ⟨rfl, h1, h2, h3⟩ | ⟨rfl, h1, h2, h3, h4⟩
    · cases hx : gd x1 with
      | false =>
        rcases gd_no hx with hy | ⟨hy, hy'⟩
        all_goals
          go_wp2
          go_ret
          exact ⟨ret_bool (by rw [← HG.out]; simp [gds, hx]), below_alloc _ _⟩
      | true =>
        obtain ⟨hy, hy'⟩ := gd_yes hx
        go_wp2
        go_round
        case rel => exact Or.inr (Or.inl ⟨rfl, hx⟩)
        case measure => simp [intOf]
    · cases hx : gd x2 with
      | false =>
        rcases gd_no hx with hy | ⟨hy, hy'⟩
        all_goals
          go_wp2
          go_ret
          exact ⟨ret_bool (by rw [← HG.out]; simp [gds, hx]), below_alloc _ _⟩
      | true =>
        obtain ⟨hy, hy'⟩ := gd_yes hx
        go_wp2
        go_round
        case rel => exact Or.inr (Or.inr (Or.inl ⟨rfl, h1, hx⟩))
        case measure => simp [intOf]
    · cases hx : gd x3 with
      | false =>
        rcases gd_no hx with hy | ⟨hy, hy'⟩
        all_goals
          go_wp2
          go_ret
          exact ⟨ret_bool (by rw [← HG.out]; simp [gds, hx]), below_alloc _ _⟩
      | true =>
        obtain ⟨hy, hy'⟩ := gd_yes hx
        go_wp2
        go_round
        case rel => exact Or.inr (Or.inr (Or.inr (Or.inl ⟨rfl, h1, h2, hx⟩)))
        case measure => simp [intOf]
    · cases hx : gd x4 with
      | false =>
        rcases gd_no hx with hy | ⟨hy, hy'⟩
        all_goals
          go_wp2
          go_ret
          exact ⟨ret_bool (by rw [← HG.out]; simp [gds, hx]), below_alloc _ _⟩
      | true =>
        obtain ⟨hy, hy'⟩ := gd_yes hx
        go_wp2
        go_round
        case rel => exact Or.inr (Or.inr (Or.inr (Or.inr ⟨rfl, h1, h2, h3, hx⟩)))
        case measure => simp [intOf]
    · go_wp2
      go_ret
      exact ⟨ret_bool (by rw [← HG.out]; simp [gds, h1, h2, h3, h4]), below_alloc _ _⟩

theorem idx4_0 (x1 x2 x3 x4 : Int) (w : World) : Sem.run Tryd.prog (Instr.index 23 (.agg #[.int .i64 x1, .int .i64 x2, .int .i64 x3, .int .i64 x4]) (.int .i64 0)) w = .ok (.int .i64 x1) w := by kernel_rfl
theorem idx4_1 (x1 x2 x3 x4 : Int) (w : World) : Sem.run Tryd.prog (Instr.index 23 (.agg #[.int .i64 x1, .int .i64 x2, .int .i64 x3, .int .i64 x4]) (.int .i64 1)) w = .ok (.int .i64 x2) w := by kernel_rfl
theorem idx4_2 (x1 x2 x3 x4 : Int) (w : World) : Sem.run Tryd.prog (Instr.index 23 (.agg #[.int .i64 x1, .int .i64 x2, .int .i64 x3, .int .i64 x4]) (.int .i64 2)) w = .ok (.int .i64 x3) w := by kernel_rfl
theorem idx4_3 (x1 x2 x3 x4 : Int) (w : World) : Sem.run Tryd.prog (Instr.index 23 (.agg #[.int .i64 x1, .int .i64 x2, .int .i64 x3, .int .i64 x4]) (.int .i64 3)) w = .ok (.int .i64 x4) w := by kernel_rfl

set_option maxRecDepth 100000 in
set_option maxHeartbeats 1000000 in
theorem mayBe_any (x1 x2 x3 x4 : Int) (w : World) :
    Calls Tryd.prog 11 #[stV x1 x2 x3 x4] w fun e w' => e = .returned (.bool (gds x1 x2 x3 x4)) ∧ Below w.heap.size w w' := by
  unfold stV
  generalize hG : gds x1 x2 x3 x4 = G
  have HG : Hid (gds x1 x2 x3 x4 = G) := hG
  clear hG
  have CR : Hid (∀ x b w, gd x = b → Calls Tryd.prog 21 #[.int .i64 x] w fun e w' => e = .returned (.bool b) ∧ w = w') := fun x b w h => by rw [← h]; exact inRange_any x w
  have ix0 := idx4_0 x1 x2 x3 x4
  have ix1 := idx4_1 x1 x2 x3 x4
  have ix2 := idx4_2 x1 x2 x3 x4
  have ix3 := idx4_3 x1 x2 x3 x4
  go_enter Tryd.func11, Tryd.ntmps11
  go_wp2_with fail
  go_loop [6] (fun i => At4 x1 x2 x3 x4 i) (fun i => 4 - (intOf i).toNat)
  case atStart => exact Or.inl rfl
  case round =>
    rcases hrel with rfl | ⟨rfl, h1⟩ | ⟨rfl, h1, h2⟩ | ⟨rfl, h1, h2, h3⟩ | ⟨rfl, h1, h2, h3, h4⟩
    · cases hx : gd x1 with
      | false =>
        go_wp2_with (go_at_call 21; refine (CR.out x1 false _ hx).mono ?_; rintro e w' ⟨rfl, rfl⟩)
        go_ret
        exact ⟨ret_bool (by rw [← HG.out]; simp [gds, hx]), below_alloc _ _⟩
      | true =>
        go_wp2_with (go_at_call 21; refine (CR.out x1 true _ hx).mono ?_; rintro e w' ⟨rfl, rfl⟩)
        go_round
        case rel => exact Or.inr (Or.inl ⟨rfl, hx⟩)
        case measure => simp [intOf]
    · cases hx : gd x2 with
      | false =>
        go_wp2_with (go_at_call 21; refine (CR.out x2 false _ hx).mono ?_; rintro e w' ⟨rfl, rfl⟩)
        go_ret
        exact ⟨ret_bool (by rw [← HG.out]; simp [gds, hx]), below_alloc _ _⟩
      | true =>
        go_wp2_with (go_at_call 21; refine (CR.out x2 true _ hx).mono ?_; rintro e w' ⟨rfl, rfl⟩)
        go_round
        case rel => exact Or.inr (Or.inr (Or.inl ⟨rfl, h1, hx⟩))
        case measure => simp [intOf]
    · cases hx : gd x3 with
      | false =>
        go_wp2_with (go_at_call 21; refine (CR.out x3 false _ hx).mono ?_; rintro e w' ⟨rfl, rfl⟩)
        go_ret
        exact ⟨ret_bool (by rw [← HG.out]; simp [gds, hx]), below_alloc _ _⟩
      | true =>
        go_wp2_with (go_at_call 21; refine (CR.out x3 true _ hx).mono ?_; rintro e w' ⟨rfl, rfl⟩)
        go_round
        case rel => exact Or.inr (Or.inr (Or.inr (Or.inl ⟨rfl, h1, h2, hx⟩)))
        case measure => simp [intOf]
    · cases hx : gd x4 with
      | false =>
        go_wp2_with (go_at_call 21; refine (CR.out x4 false _ hx).mono ?_; rintro e w' ⟨rfl, rfl⟩)
        go_ret
        exact ⟨ret_bool (by rw [← HG.out]; simp [gds, hx]), below_alloc _ _⟩
      | true =>
        go_wp2_with (go_at_call 21; refine (CR.out x4 true _ hx).mono ?_; rintro e w' ⟨rfl, rfl⟩)
        go_round
        case rel => exact Or.inr (Or.inr (Or.inr (Or.inr ⟨rfl, h1, h2, h3, hx⟩)))
        case measure => simp [intOf]
    · go_wp2_with fail
      go_ret
      exact ⟨ret_bool (by rw [← HG.out]; simp [gds, h1, h2, h3, h4]), below_alloc _ _⟩
end Go.Proofs.YtkinoehmcfhgbaaDoor.Vl
