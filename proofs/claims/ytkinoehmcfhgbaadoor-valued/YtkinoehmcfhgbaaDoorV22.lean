/-
  The walk of the program's Value: it answers what the document answers.
-/
import Derived.Test.YtkinoehmcfhgbaaDoorV9
import Derived.Test.YtkinoehmcfhgbaaDoorS4
set_option linter.unusedVariables false
set_option linter.unusedSimpArgs false
namespace Go.Proofs.YtkinoehmcfhgbaaDoor.Vl
open Go.RowKit

theorem syms_on {w w' : World} {v : Value} {ys : List Sym} (h : Syms w.heap.size w v ys) (hb : Below w.heap.size w w') : Syms w'.heap.size w' v ys := by
  obtain ⟨b, cap, h1, h2, h3⟩ := h.below hb
  exact ⟨b, cap, h1, Nat.lt_of_lt_of_le h2 hb.size, h3⟩
theorem cells4_at : ∀ (l : List Sym) (j : Nat) (y : Sym), l[j]? = some y → (cells4 l)[j * 4]? = some (.int .i64 y.1) ∧ (cells4 l)[j * 4 + 1]? = some (.int .i64 y.2.1) ∧ (cells4 l)[j * 4 + 2]? = some (.int .i64 y.2.2.1) ∧ (cells4 l)[j * 4 + 3]? = some (.int .i64 y.2.2.2)
  | [], j, a, h => by simp at h
  | x :: r, 0, a, h => by simp at h; subst h; simp [cells4, cell4]
  | x :: r, j + 1, a, h => by
    have := cells4_at r j a (by simpa using h)
    have e1 : (j + 1) * 4 = j * 4 + 4 := by omega
    simp only [cells4, List.flatMap_cons] at *
    rw [e1]
    refine ⟨?_, ?_, ?_, ?_⟩
    · rw [List.getElem?_append_right (by simp [cell4])]; simpa [cell4] using this.1
    · rw [List.getElem?_append_right (by simp [cell4])]; simpa [cell4, Nat.add_assoc] using this.2.1
    · rw [List.getElem?_append_right (by simp [cell4])]; simpa [cell4, Nat.add_assoc] using this.2.2.1
    · rw [List.getElem?_append_right (by simp [cell4])]; simpa [cell4, Nat.add_assoc] using this.2.2.2
theorem own_syms {w : World} {base : Nat} {v : Value} {ys : List Sym} (h : w.ownsRow base 54 4 v ys.length (cells4 ys)) (hn : 0 < ys.length) : Syms w.heap.size w v ys := by
  rcases h.2 with ⟨h1, h2⟩ | ⟨g, cap, cur, hv, hg, hh, h3, h4, h5, h6⟩
  · omega
  · have hlt : g < w.heap.size := by
      rcases Nat.lt_or_ge g w.heap.size with h | h
      · exact h
      · rw [Array.getElem?_eq_none h] at hh; cases hh
    refine ⟨g, cap, hv, hlt, fun j y hy => ?_⟩
    have hc := cells4_at ys j y hy
    have e : ∀ i u, (cells4 ys)[i]? = some u → w.cell? ⟨g, i, none⟩ = some u := by
      intro i u hu
      rw [← h6, List.getElem?_take] at hu
      split at hu
      · have : cur[i]? = some u := by simpa using hu
        simp [World.cell?, hh, this]
      · cases hu
    exact ⟨e _ _ hc.1, e _ _ hc.2.1, e _ _ hc.2.2.1, e _ _ hc.2.2.2⟩
set_option maxRecDepth 100000 in
set_option maxHeartbeats 2000000 in
theorem cvalue_any (s : ByteArray) (x1 x2 x3 x4 : Int) (w : World) (hgl : Gl w) (hmax : s.size ≤ maxLen) :
    Calls Tryd.prog 5 #[.string s, .agg #[.int .i64 x1, .int .i64 x2, .int .i64 x3, .int .i64 x4]] w fun e w' => e = .returned (.tuple #[.bool (vAns (pars s) x1 x2 x3 x4).1, .int .i64 (vAns (pars s) x1 x2 x3 x4).2]) ∧ Below w.heap.size w w' := by
  have CP : Hid (∀ w, Gl w → Calls Tryd.prog 10 #[.string s] w fun e w' => ParseEnd w (pars s) e w') := fun w h => parse_any s w h hmax
  have CG : Hid (∀ w, Calls Tryd.prog 11 #[.agg #[.int .i64 x1, .int .i64 x2, .int .i64 x3, .int .i64 x4]] w fun e w' => e = .returned (.bool (gds x1 x2 x3 x4)) ∧ Below w.heap.size w w') := fun w => mayBe_any x1 x2 x3 x4 w
  have hg0 : Gl (w.alloc (.cells #[.int .i64 x1, .int .i64 x2, .int .i64 x3, .int .i64 x4] 23)) := hgl.on (below_alloc _ _)
  cases hp : pars s with
  | none =>
    rw [hp] at CP
    have CP' : Hid (∀ w, Gl w → Calls Tryd.prog 10 #[.string s] w fun e w' => ∃ v, e = .returned (.tuple #[v, .bool false]) ∧ Below w.heap.size w w') := fun w h => (CP.out w h).mono fun e w' h => by obtain ⟨v, h1, _, h2⟩ := h; exact ⟨v, h1, h2⟩
    clear CP
    go_enter Tryd.func5, Tryd.ntmps5
    go_wp2_with (go_at_call 10; refine (CP'.out _ hg0).mono ?_; rintro e w1 ⟨v, rfl, hb1⟩)
    go_ret2
    exact ⟨rfl, (below_alloc w _).trans (hb1.mono (by simp))⟩
  | some ys =>
    rw [hp] at CP
    have hne : 0 < ys.length := by
      obtain ⟨r, _, hr1, _⟩ := val_trun x1 x2 x3 x4 hp
      cases ys with
      | nil => cases hr1
      | cons y r => simp
    have CP' : Hid (∀ w, Gl w → Calls Tryd.prog 10 #[.string s] w fun e w' => ∃ v, e = .returned (.tuple #[v, .bool true]) ∧ Syms w'.heap.size w' v ys ∧ Below w.heap.size w w') := fun w h => (CP.out w h).mono fun e w' h => by obtain ⟨v, h1, h3, h2⟩ := h; exact ⟨v, h1, own_syms (h3 ys rfl) hne, h2⟩
    clear CP
    cases hg : gds x1 x2 x3 x4 with
    | false =>
      rw [hg] at CG
      have HR : Hid (vAns (some ys) x1 x2 x3 x4 = (false, 4)) := by show _ = _; simp [vAns, hg]
      go_enter Tryd.func5, Tryd.ntmps5
      go_wp2_with (first
        | (go_at_call 10; refine (CP'.out _ hg0).mono ?_; rintro e w1 ⟨v, rfl, hS1, hb1⟩; have d0 : w1.cell? ⟨w.heap.size, 0, none⟩ = some (.int .i64 x1) := (hb1.cell (p := ⟨w.heap.size, 0, none⟩) (by simp)).trans (by simp); have d1 : w1.cell? ⟨w.heap.size, 1, none⟩ = some (.int .i64 x2) := (hb1.cell (p := ⟨w.heap.size, 1, none⟩) (by simp)).trans (by simp); have d2 : w1.cell? ⟨w.heap.size, 2, none⟩ = some (.int .i64 x3) := (hb1.cell (p := ⟨w.heap.size, 2, none⟩) (by simp)).trans (by simp); have d3 : w1.cell? ⟨w.heap.size, 3, none⟩ = some (.int .i64 x4) := (hb1.cell (p := ⟨w.heap.size, 3, none⟩) (by simp)).trans (by simp))
        | (go_at_call 11; refine (CG.out _).mono ?_; rintro e w2 ⟨rfl, hb2⟩))
      go_ret2
      have hs1 : w.heap.size + 1 ≤ w1.heap.size := by have := hb1.size; simpa using this
      exact ⟨by rw [HR.out]; rfl, ((below_alloc w _).trans (hb1.mono (by simp))).trans (hb2.mono (by omega))⟩
    | true =>
      rw [hg] at CG
      have HR : Hid (vAns (some ys) x1 x2 x3 x4 = (val x1 x2 x3 x4 ys, 0)) := by show _ = _; simp [vAns, hg]
      have CV : Hid (∀ w v, Syms w.heap.size w v ys → Calls Tryd.prog 12 #[v, .agg #[.int .i64 x1, .int .i64 x2, .int .i64 x3, .int .i64 x4]] w fun e w' => e = .returned (.bool (val x1 x2 x3 x4 ys)) ∧ Below w.heap.size w w') := fun w v h => cholds_any hp v x1 x2 x3 x4 w hg h
      generalize val x1 x2 x3 x4 ys = V at *
      go_enter Tryd.func5, Tryd.ntmps5
      go_wp2_with (first
        | (go_at_call 10; refine (CP'.out _ hg0).mono ?_; rintro e w1 ⟨v, rfl, hS1, hb1⟩; have d0 : w1.cell? ⟨w.heap.size, 0, none⟩ = some (.int .i64 x1) := (hb1.cell (p := ⟨w.heap.size, 0, none⟩) (by simp)).trans (by simp); have d1 : w1.cell? ⟨w.heap.size, 1, none⟩ = some (.int .i64 x2) := (hb1.cell (p := ⟨w.heap.size, 1, none⟩) (by simp)).trans (by simp); have d2 : w1.cell? ⟨w.heap.size, 2, none⟩ = some (.int .i64 x3) := (hb1.cell (p := ⟨w.heap.size, 2, none⟩) (by simp)).trans (by simp); have d3 : w1.cell? ⟨w.heap.size, 3, none⟩ = some (.int .i64 x4) := (hb1.cell (p := ⟨w.heap.size, 3, none⟩) (by simp)).trans (by simp); have hs1 : w.heap.size < w1.heap.size := (by have := hb1.size; simp at this; omega))
        | (go_at_call 11; refine (CG.out _).mono ?_; rintro e w2 ⟨rfl, hb2⟩; have e0 := (hb2.cell (p := ⟨w.heap.size, 0, none⟩) hs1).trans d0; have e1 := (hb2.cell (p := ⟨w.heap.size, 1, none⟩) hs1).trans d1; have e2 := (hb2.cell (p := ⟨w.heap.size, 2, none⟩) hs1).trans d2; have e3 := (hb2.cell (p := ⟨w.heap.size, 3, none⟩) hs1).trans d3; have hS2 := syms_on hS1 hb2)
        | (go_at_call 12; refine (CV.out _ _ hS2).mono ?_; rintro e w3 ⟨rfl, hb3⟩))
      go_ret2
      exact ⟨by rw [HR.out]; rfl, (((below_alloc w _).trans (hb1.mono (by simp))).trans (hb2.mono (by omega))).trans (hb3.mono (by have := hb2.size; omega))⟩

set_option maxHeartbeats 400000 in
theorem num_any (k : Int) (w : World) : Calls Tryd.prog 6 #[.int .i64 k] w fun e w' => e = .returned (.int .i64 k) ∧ w = w' := by
  go_enter Tryd.func6, Tryd.ntmps6
  go_wp2
  go_ret
  exact ⟨rfl, rfl⟩
theorem known : vAns (pars ⟨#[97, 45, 98, 60, 61, 48, 46]⟩) 1 2 0 0 = (true, 0) := by decide

set_option maxRecDepth 100000 in
set_option maxHeartbeats 2000000 in
theorem valued_c (s : ByteArray) (x1 x2 x3 x4 : Int) (w : World) (hgl : Gl w) (hmax : s.size ≤ maxLen) :
    Calls Tryd.prog 3 #[.string s, .agg #[.int .i64 x1, .int .i64 x2, .int .i64 x3, .int .i64 x4]] w fun e w' => e = .returned (.bool true) ∧ Below w.heap.size w w' := by
  have C0 : Hid (∀ w, Gl w → Calls Tryd.prog 5 #[.string ⟨#[97, 45, 98, 60, 61, 48, 46]⟩, .agg #[.int .i64 1, .int .i64 2, .int .i64 0, .int .i64 0]] w fun e w' => e = .returned (.tuple #[.bool true, .int .i64 0]) ∧ Below w.heap.size w w') := fun w h => by
    have := cvalue_any ⟨#[97, 45, 98, 60, 61, 48, 46]⟩ 1 2 0 0 w h (by decide)
    rw [known] at this
    exact this
  have C1 : Hid (∀ w, Gl w → Calls Tryd.prog 5 #[.string s, .agg #[.int .i64 x1, .int .i64 x2, .int .i64 x3, .int .i64 x4]] w fun e w' => e = .returned (.tuple #[.bool (vAns (pars s) x1 x2 x3 x4).1, .int .i64 (vAns (pars s) x1 x2 x3 x4).2]) ∧ Below w.heap.size w w') := fun w h => cvalue_any s x1 x2 x3 x4 w h hmax
  have C2 : Hid (∀ w, Calls Tryd.prog 7 #[.string s, .agg #[.int .i64 x1, .int .i64 x2, .int .i64 x3, .int .i64 x4]] w fun e w' => e = .returned (.tuple #[.bool (vAns (pars s) x1 x2 x3 x4).1, .int .i64 (vAns (pars s) x1 x2 x3 x4).2]) ∧ Below w.heap.size w w') := fun w => refValue_any s x1 x2 x3 x4 w hmax
  have CN : Hid (∀ k w, Calls Tryd.prog 6 #[.int .i64 k] w fun e w' => e = .returned (.int .i64 k) ∧ w = w') := num_any
  generalize (vAns (pars s) x1 x2 x3 x4).1 = V1 at *
  generalize (vAns (pars s) x1 x2 x3 x4).2 = V2 at *
  have hg0 : Gl (w.alloc (.cells #[.int .i64 x1, .int .i64 x2, .int .i64 x3, .int .i64 x4] 23)) := hgl.on (below_alloc _ _)
  go_enter Tryd.func3, Tryd.ntmps3
  go_wp2_with (go_at_call 5; refine (C0.out _ hg0).mono ?_; rintro e w1 ⟨rfl, hb1⟩)
  have hg1 := hg0.on hb1
  have hs1 : w.heap.size < w1.heap.size := by have := hb1.size; simp at this; omega
  have d0 : w1.cell? ⟨w.heap.size, 0, none⟩ = some (.int .i64 x1) := (hb1.cell (p := ⟨w.heap.size, 0, none⟩) (by simp)).trans (by simp)
  have d1 : w1.cell? ⟨w.heap.size, 1, none⟩ = some (.int .i64 x2) := (hb1.cell (p := ⟨w.heap.size, 1, none⟩) (by simp)).trans (by simp)
  have d2 : w1.cell? ⟨w.heap.size, 2, none⟩ = some (.int .i64 x3) := (hb1.cell (p := ⟨w.heap.size, 2, none⟩) (by simp)).trans (by simp)
  have d3 : w1.cell? ⟨w.heap.size, 3, none⟩ = some (.int .i64 x4) := (hb1.cell (p := ⟨w.heap.size, 3, none⟩) (by simp)).trans (by simp)
  have hB1 : Below w.heap.size w w1 := (below_alloc w _).trans (hb1.mono (by simp))
  clear C0 hb1
  go_wp2_with (first
    | (go_at_call 6; refine (CN.out _ _).mono ?_; rintro e w' ⟨rfl, rfl⟩)
    | (go_at_call 5; refine (C1.out _ hg1).mono ?_; rintro e w2 ⟨rfl, hb2⟩; have e0 := (hb2.cell (p := ⟨w.heap.size, 0, none⟩) hs1).trans d0; have e1 := (hb2.cell (p := ⟨w.heap.size, 1, none⟩) hs1).trans d1; have e2 := (hb2.cell (p := ⟨w.heap.size, 2, none⟩) hs1).trans d2; have e3 := (hb2.cell (p := ⟨w.heap.size, 3, none⟩) hs1).trans d3)
    | (go_at_call 7; refine (C2.out _).mono ?_; rintro e w3 ⟨rfl, hb3⟩))
  go_ret
  refine ⟨by simp, (hB1.trans (hb2.mono (by omega))).trans (hb3.mono (by have := hb2.size; omega))⟩
end Go.Proofs.YtkinoehmcfhgbaaDoor.Vl
