/-
  Proved here: Rows.CheckedSaid: whatever two texts it is given, the law avouchlaw.Checked returns true and leaves its arguments as they were: every Check answers the error and the place that the document's own machine answers. No condition.
-/
import Derived.Test.YtkinoehmcfhgbaaRows
import Derived.Test.YtkinoehmcfhgbaaChk
import Derived.ProofKit
import Derived.OpenShut
import Derived.ShutString
set_option linter.unusedVariables false
set_option linter.unusedSimpArgs false
namespace Go.Proofs.Ytkinoehmcfhgbaa
open Go.ChangeShapes Go.WideShapes Go.ChangeAt Go.RowKit
open Go.ChangeMaps (open_string shut_string)
namespace Av

theorem check_at (s : ByteArray) (r : Int × Int) (h : answer s = r) (w : World) :
    Calls Try.prog 5 #[.string s] w fun e w' => e = .returned (.tuple #[.int .i64 r.1, .int .i64 r.2]) ∧ Below w.heap.size w w' := by
  rw [← h]; exact check_c s w
theorem read_c (s : ByteArray) (w : World) :
    Calls Try.prog 13 #[.string s] w fun e w' => ∃ v, e = .returned (.tuple #[v, .int .i64 (answer s).1, .int .i64 (answer s).2]) ∧ Below w.heap.size w w' := by
  unfold answer
  by_cases h : s.size ≤ 300
  · rw [if_pos h]; exact (read_any s w h).mono fun e w' ⟨v, h1, _, h3⟩ => ⟨v, h1, h3⟩
  · rw [if_neg h]; exact (read_long s w h).mono fun e w' ⟨h1, h2⟩ => ⟨_, h1, by rw [h2]; exact Below.refl _ _⟩

set_option maxHeartbeats 400000 in
theorem num_c (n : Int) (w : World) :
    Calls Try.prog 6 #[.int .i64 n] w fun e w' => e = .returned (.int .i64 n) ∧ w = w' := by
  go_enter Try.func6, Try.ntmps6
  go_wp2
  go_ret
  exact ⟨rfl, rfl⟩

set_option maxRecDepth 100000 in
set_option maxHeartbeats 400000 in
theorem checks_c (s : ByteArray) (w : World) :
    Calls Try.prog 7 #[.string s] w fun e w' => e = .returned (.bool true) ∧ Below w.heap.size w w' := by
  have C1 : Hid (Calls Try.prog 5 #[.string s] w fun e w' => e = .returned (.tuple #[.int .i64 (answer s).1, .int .i64 (answer s).2]) ∧ Below w.heap.size w w') := check_c s w
  have C2 : Hid (∀ w, Calls Try.prog 13 #[.string s] w fun e w' => ∃ v, e = .returned (.tuple #[v, .int .i64 (answer s).1, .int .i64 (answer s).2]) ∧ Below w.heap.size w w') := fun w => read_c s w
  obtain ⟨A, B, hAB⟩ : ∃ A B, answer s = (A, B) := ⟨_, _, rfl⟩
  rw [hAB] at C1 C2
  clear hAB
  have e1 : (A == A) = true := by simp
  have e2 : (B == B) = true := by simp
  go_enter Try.func7, Try.ntmps7
  go_wp2_with fail
  refine C1.out.mono ?_
  rintro e w1 ⟨rfl, hb1⟩
  go_wp2_with fail
  refine (C2.out _).mono ?_
  rintro e w2 ⟨v2, rfl, hb2⟩
  go_wp2_with fail
  refine (num_c _ _).mono ?_
  rintro e w3 ⟨rfl, rfl⟩
  go_wp2_with fail
  go_ret
  exact ⟨by simp, hb1.trans (hb2.mono hb1.size)⟩

set_option maxRecDepth 100000 in
set_option maxHeartbeats 1000000 in
theorem checked_c (a0 a1 : ByteArray) (w : World) :
    Calls Try.prog 3 #[.string a0, .string a1] w fun e w' => e = .returned (.bool true) ∧ Below w.heap.size w w' := by
  have K1 : Hid (∀ s w, Calls Try.prog 7 #[.string s] w fun e w' => e = .returned (.bool true) ∧ Below w.heap.size w w') := checks_c
  go_enter Try.func3, Try.ntmps3
  go_wp2_with fail
  refine (check_at _ (2, 13) ?h1 _).mono ?_
  case h1 => kernel_rfl
  rintro e w1 ⟨rfl, hb1⟩
  go_wp2_with fail
  refine (check_at _ (0, 0) ?h2 _).mono ?_
  case h2 => kernel_rfl
  rintro e w2 ⟨rfl, hb2⟩
  go_wp2_with (go_at_call 6; refine (num_c _ _).mono ?_; rintro e w' ⟨rfl, rfl⟩)
  refine (K1.out _ _).mono ?_
  rintro e w3 ⟨rfl, hb3⟩
  go_wp2_with fail
  refine (K1.out _ _).mono ?_
  rintro e w4 ⟨rfl, hb4⟩
  go_wp2_with fail
  refine (K1.out _ _).mono ?_
  rintro e w5 ⟨rfl, hb5⟩
  go_wp2_with fail
  go_ret
  have k2 := hb1.trans (hb2.mono hb1.size)
  have k3 := k2.trans (hb3.mono k2.size)
  have k4 := k3.trans (hb4.mono k3.size)
  exact ⟨rfl, k4.trans (hb5.mono k4.size)⟩

end Av
end Go.Proofs.Ytkinoehmcfhgbaa
