/-
  The walk of the document's Value.
-/
import Derived.Test.YtkinoehmcfhgbaaDoorV8
set_option linter.unusedVariables false
set_option linter.unusedSimpArgs false
namespace Go.Proofs.YtkinoehmcfhgbaaDoor.Vl
open Go.RowKit

/-- What the document answers to Value. -/
def vAns (p : Option (List Sym)) (x1 x2 x3 x4 : Int) : Bool × Int := match p with
  | none => (false, 7)
  | some ys => if gds x1 x2 x3 x4 then (val x1 x2 x3 x4 ys, 0) else (false, 4)

set_option maxRecDepth 100000 in
set_option maxHeartbeats 2000000 in
theorem refValue_any (s : ByteArray) (x1 x2 x3 x4 : Int) (w : World) (hmax : s.size ≤ maxLen) :
    Calls Tryd.prog 7 #[.string s, stV x1 x2 x3 x4] w fun e w' => e = .returned (.tuple #[.bool (vAns (pars s) x1 x2 x3 x4).1, .int .i64 (vAns (pars s) x1 x2 x3 x4).2]) ∧ Below w.heap.size w w' := by
  have CA : Hid (∀ w, Calls Tryd.prog 13 #[.string s] w fun e w' => ∃ v, e = .returned (.tuple #[v, .bool (pars s).isSome]) ∧ Below w.heap.size w w') := fun w => (Atoms_any s w hmax).mono (fun e w' h => by obtain ⟨v, h1, _, h2⟩ := h; exact ⟨v, h1, h2⟩)
  have CG : Hid (∀ w, Calls Tryd.prog 14 #[.agg #[.int .i64 x1, .int .i64 x2, .int .i64 x3, .int .i64 x4]] w fun e w' => e = .returned (.bool (gds x1 x2 x3 x4)) ∧ Below w.heap.size w w') := fun w => good_any x1 x2 x3 x4 w
  cases hp : pars s with
  | none =>
    rw [hp] at CA
    have CA' : Hid (∀ w, Calls Tryd.prog 13 #[.string s] w fun e w' => ∃ v, e = .returned (.tuple #[v, .bool false]) ∧ Below w.heap.size w w') := CA
    clear CA
    unfold stV
    go_enter Tryd.func7, Tryd.ntmps7
    go_wp2_with (go_at_call 13; refine (CA'.out _).mono ?_; rintro e w1 ⟨v, rfl, hb1⟩)
    go_ret2
    exact ⟨rfl, (below_alloc w _).trans (hb1.mono (by simp))⟩
  | some ys =>
    rw [hp] at CA
    have CA' : Hid (∀ w, Calls Tryd.prog 13 #[.string s] w fun e w' => ∃ v, e = .returned (.tuple #[v, .bool true]) ∧ Below w.heap.size w w') := CA
    clear CA
    cases hg : gds x1 x2 x3 x4 with
    | false =>
      rw [hg] at CG
      have HR : Hid (vAns (some ys) x1 x2 x3 x4 = (false, 4)) := by show _ = _; simp [vAns, hg]
      unfold stV
      go_enter Tryd.func7, Tryd.ntmps7
      go_wp2_with (first
        | (go_at_call 13; refine (CA'.out _).mono ?_; rintro e w1 ⟨v, rfl, hb1⟩; have d0 : w1.cell? ⟨w.heap.size, 0, none⟩ = some (.int .i64 x1) := (hb1.cell (p := ⟨w.heap.size, 0, none⟩) (by simp)).trans (by simp); have d1 : w1.cell? ⟨w.heap.size, 1, none⟩ = some (.int .i64 x2) := (hb1.cell (p := ⟨w.heap.size, 1, none⟩) (by simp)).trans (by simp); have d2 : w1.cell? ⟨w.heap.size, 2, none⟩ = some (.int .i64 x3) := (hb1.cell (p := ⟨w.heap.size, 2, none⟩) (by simp)).trans (by simp); have d3 : w1.cell? ⟨w.heap.size, 3, none⟩ = some (.int .i64 x4) := (hb1.cell (p := ⟨w.heap.size, 3, none⟩) (by simp)).trans (by simp))
        | (go_at_call 14; refine (CG.out _).mono ?_; rintro e w2 ⟨rfl, hb2⟩))
      go_ret2
      have hs1 : w.heap.size + 1 ≤ w1.heap.size := by have := hb1.size; simpa using this
      exact ⟨by rw [HR.out]; rfl, ((below_alloc w _).trans (hb1.mono (by simp))).trans (hb2.mono (by omega))⟩
    | true =>
      rw [hg] at CG
      have HR : Hid (vAns (some ys) x1 x2 x3 x4 = (val x1 x2 x3 x4 ys, 0)) := by show _ = _; simp [vAns, hg]
      have CV : Hid (∀ w, Calls Tryd.prog 15 #[.string s, .agg #[.int .i64 x1, .int .i64 x2, .int .i64 x3, .int .i64 x4]] w fun e w' => e = .returned (.bool (val x1 x2 x3 x4 ys)) ∧ Below w.heap.size w w') := fun w => valued_any s x1 x2 x3 x4 ys w hmax hp hg
      generalize val x1 x2 x3 x4 ys = V at *
      unfold stV
      go_enter Tryd.func7, Tryd.ntmps7
      go_wp2_with (first
        | (go_at_call 13; refine (CA'.out _).mono ?_; rintro e w1 ⟨v, rfl, hb1⟩; have d0 : w1.cell? ⟨w.heap.size, 0, none⟩ = some (.int .i64 x1) := (hb1.cell (p := ⟨w.heap.size, 0, none⟩) (by simp)).trans (by simp); have d1 : w1.cell? ⟨w.heap.size, 1, none⟩ = some (.int .i64 x2) := (hb1.cell (p := ⟨w.heap.size, 1, none⟩) (by simp)).trans (by simp); have d2 : w1.cell? ⟨w.heap.size, 2, none⟩ = some (.int .i64 x3) := (hb1.cell (p := ⟨w.heap.size, 2, none⟩) (by simp)).trans (by simp); have d3 : w1.cell? ⟨w.heap.size, 3, none⟩ = some (.int .i64 x4) := (hb1.cell (p := ⟨w.heap.size, 3, none⟩) (by simp)).trans (by simp); have hs1 : w.heap.size < w1.heap.size := (by have := hb1.size; simp at this; omega))
        | (go_at_call 14; refine (CG.out _).mono ?_; rintro e w2 ⟨rfl, hb2⟩; have e0 := (hb2.cell (p := ⟨w.heap.size, 0, none⟩) hs1).trans d0; have e1 := (hb2.cell (p := ⟨w.heap.size, 1, none⟩) hs1).trans d1; have e2 := (hb2.cell (p := ⟨w.heap.size, 2, none⟩) hs1).trans d2; have e3 := (hb2.cell (p := ⟨w.heap.size, 3, none⟩) hs1).trans d3)
        | (go_at_call 15; refine (CV.out _).mono ?_; rintro e w3 ⟨rfl, hb3⟩))
      go_ret2
      exact ⟨by rw [HR.out]; rfl, (((below_alloc w _).trans (hb1.mono (by simp))).trans (hb2.mono (by omega))).trans (hb3.mono (by have := hb2.size; omega))⟩
end Go.Proofs.YtkinoehmcfhgbaaDoor.Vl
