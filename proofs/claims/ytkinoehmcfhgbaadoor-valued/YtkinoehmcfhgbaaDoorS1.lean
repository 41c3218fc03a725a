/-
  The walks of the program's truthOf, Truth.Not, Both and Either.
-/
import Derived.Test.YtkinoehmcfhgbaaDoorS0
set_option linter.unusedVariables false
set_option linter.unusedSimpArgs false
namespace Go.Proofs.YtkinoehmcfhgbaaDoor.Vl
open Go.RowKit

set_option maxHeartbeats 400000 in
theorem truthOf_any (b : Bool) (w : World) : Calls Tryd.prog 23 #[.bool b] w fun e w' => e = .returned (.int .i8 (tof b)) ∧ w = w' := by
  cases b
  all_goals
    go_enter Tryd.func23, Tryd.ntmps23
    go_wp2
    go_ret
    exact ⟨rfl, rfl⟩
set_option maxHeartbeats 400000 in
theorem tnot_any (t : Int) (h : T3 t) (w : World) : Calls Tryd.prog 50 #[.int .i8 t] w fun e w' => e = .returned (.int .i8 (tnot t)) ∧ w = w' := by
  rcases h with rfl | rfl | rfl
  all_goals
    go_enter Tryd.func50, Tryd.ntmps50
    go_wp2
    go_ret
    exact ⟨rfl, rfl⟩
set_option maxHeartbeats 1000000 in
theorem tboth_any (t u : Int) (h : T3 t) (k : T3 u) (w : World) : Calls Tryd.prog 51 #[.int .i8 t, .int .i8 u] w fun e w' => e = .returned (.int .i8 (tboth t u)) ∧ w = w' := by
  rcases h with rfl | rfl | rfl <;> rcases k with rfl | rfl | rfl
  all_goals
    go_enter Tryd.func51, Tryd.ntmps51
    go_wp2
    go_ret
    exact ⟨rfl, rfl⟩
set_option maxHeartbeats 1000000 in
theorem teith_any (t u : Int) (h : T3 t) (k : T3 u) (w : World) : Calls Tryd.prog 52 #[.int .i8 t, .int .i8 u] w fun e w' => e = .returned (.int .i8 (teith t u)) ∧ w = w' := by
  have CN : Hid (∀ t w, T3 t → Calls Tryd.prog 50 #[.int .i8 t] w fun e w' => e = .returned (.int .i8 (tnot t)) ∧ w = w') := fun t w h => tnot_any t h w
  have CB : Hid (∀ t u w, T3 t → T3 u → Calls Tryd.prog 51 #[.int .i8 t, .int .i8 u] w fun e w' => e = .returned (.int .i8 (tboth t u)) ∧ w = w') := fun t u w h k => tboth_any t u h k w
  have HT : Hid (T3 t) := h
  have HU : Hid (T3 u) := k
  clear h k
  go_enter Tryd.func52, Tryd.ntmps52
  go_wp2_with (first
    | (go_at_call 50; refine (CN.out _ _ (by first | exact HT.out | exact HU.out | exact t3_both _ _)).mono ?_; rintro e w' ⟨rfl, rfl⟩)
    | (go_at_call 51; refine (CB.out _ _ _ (t3_not _) (t3_not _)).mono ?_; rintro e w' ⟨rfl, rfl⟩))
  go_ret
  exact ⟨rfl, rfl⟩
set_option maxHeartbeats 400000 in
theorem kparts_any (k : Int) (w : World) : Calls Tryd.prog 20 #[.int .i64 k] w fun e w' => e = .returned (.int .i64 (prt k)) ∧ w = w' := by
  by_cases h2 : k = 2
  · subst h2
    go_enter Tryd.func20, Tryd.ntmps20
    go_wp2
    go_ret
    exact ⟨rfl, rfl⟩
  by_cases h3 : k = 3
  · subst h3
    go_enter Tryd.func20, Tryd.ntmps20
    go_wp2
    go_ret
    exact ⟨rfl, rfl⟩
  by_cases h4 : k = 4
  · subst h4
    go_enter Tryd.func20, Tryd.ntmps20
    go_wp2
    go_ret
    exact ⟨rfl, rfl⟩
  by_cases h5 : k = 5
  · subst h5
    go_enter Tryd.func20, Tryd.ntmps20
    go_wp2
    go_ret
    exact ⟨rfl, rfl⟩
  · have e : prt k = 0 := by unfold prt; simp [h2, h3, h4, h5]
    go_enter Tryd.func20, Tryd.ntmps20
    go_wp2
    go_ret
    exact ⟨by rw [e]; rfl, rfl⟩
/-- A condition as it lies in memory. -/
def Syms (n0 : Nat) (w : World) (v : Value) (ys : List Sym) : Prop :=
  ∃ b cap, v = .slice (some ⟨b, 0, none⟩) ys.length cap ∧ b < n0 ∧ ∀ j y, ys[j]? = some y → w.cell? ⟨b, j * 4, none⟩ = some (.int .i64 y.1) ∧ w.cell? ⟨b, j * 4 + 1, none⟩ = some (.int .i64 y.2.1) ∧ w.cell? ⟨b, j * 4 + 2, none⟩ = some (.int .i64 y.2.2.1) ∧ w.cell? ⟨b, j * 4 + 3, none⟩ = some (.int .i64 y.2.2.2)
theorem Syms.below {n0 : Nat} {w w' : World} {v : Value} {ys : List Sym} (h : Syms n0 w v ys) (hb : Below n0 w w') : Syms n0 w' v ys := by
  obtain ⟨b, cap, h1, h2, h3⟩ := h
  exact ⟨b, cap, h1, h2, fun j y hy => ⟨(hb.cell (p := ⟨b, j * 4, none⟩) h2).trans (h3 j y hy).1, (hb.cell (p := ⟨b, j * 4 + 1, none⟩) h2).trans (h3 j y hy).2.1, (hb.cell (p := ⟨b, j * 4 + 2, none⟩) h2).trans (h3 j y hy).2.2.1, (hb.cell (p := ⟨b, j * 4 + 3, none⟩) h2).trans (h3 j y hy).2.2.2⟩⟩
theorem Syms.more {n0 n1 : Nat} {w : World} {v : Value} {ys : List Sym} (h : Syms n0 w v ys) (hn : n0 ≤ n1) : Syms n1 w v ys := by
  obtain ⟨b, cap, h1, h2, h3⟩ := h
  exact ⟨b, cap, h1, Nat.lt_of_lt_of_le h2 hn, h3⟩
def tv8 (t : Int) : Value := .int .i8 t
theorem rows_put8 (st : List Int) (p : Nat) (hp : p ≤ st.length) (V : Int) : ((V :: st.drop p).reverse.map tv8) = (st.reverse.map tv8).take (st.length - p) ++ [tv8 V] := by
  rw [List.reverse_cons, List.map_append, ← List.map_take, List.take_reverse, show st.length - (st.length - p) = p by omega]; rfl
theorem prt_one' {k : Int} (h : prt k = 1) : k = 2 := by
  unfold prt at h; split at h
  · rename_i e; simpa using e
  · split at h <;> omega
theorem prt_two' {k : Int} (h : prt k = 2) : k = 3 ∨ k = 4 ∨ k = 5 := by
  unfold prt at h; split at h
  · omega
  · split at h
    · rename_i e; simp at e; omega
    · omega
theorem Tryd.infoTruth : (Tryd.prog.info? 60).map (fun i => (i.zero, i.size, i.bytes)) = some (some (.int .i8 0), 1, 1) := by kernel_rfl
theorem one_i8 (x : Int) : ∀ u ∈ [Value.int .i8 x], u.oneCell' = true := by
  intro u hu; simp at hu; subst hu; rfl
end Go.Proofs.YtkinoehmcfhgbaaDoor.Vl
