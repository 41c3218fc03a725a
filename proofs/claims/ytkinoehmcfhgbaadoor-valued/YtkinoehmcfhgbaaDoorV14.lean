/-
  The walk of the program's cutSymbol.
-/
import Derived.Test.YtkinoehmcfhgbaaDoorV13
set_option linter.unusedVariables false
set_option linter.unusedSimpArgs false
namespace Go.Proofs.YtkinoehmcfhgbaaDoor.Vl
open Go.RowKit

theorem Tryd.sizeSym : (Tryd.prog.info? 54).map (·.size) = some 4 := by kernel_rfl
def set4 (X : World) (B : Nat) (c0 c1 c2 c3 : Value) : World := (((X.setCell ⟨B, 0, none⟩ c0).setCell ⟨B, 1, none⟩ c1).setCell ⟨B, 2, none⟩ c2).setCell ⟨B, 3, none⟩ c3
theorem load4 (X : World) (B : Nat) (c0 c1 c2 c3 : Value) (h0 : X.cell? ⟨B, 0, none⟩ = some c0) (h1 : X.cell? ⟨B, 1, none⟩ = some c1) (h2 : X.cell? ⟨B, 2, none⟩ = some c2) (h3 : X.cell? ⟨B, 3, none⟩ = some c3) : (loadVar 54 ⟨B, 0, none⟩).run Tryd.prog X = .ok (.agg #[c0, c1, c2, c3]) X :=
  run_loadVar_mid _ _ 0 54 [c0, c1, c2, c3] _ (by
    intro j v hv
    match j, hv with
    | 0, hv => cases hv; exact h0
    | 1, hv => cases hv; exact h1
    | 2, hv => cases hv; exact h2
    | 3, hv => cases hv; exact h3) Tryd.underlying54 rfl Tryd.sizeSym
theorem load_set4 (X : World) (B : Nat) (c0 c1 c2 c3 : Value) (h : ∀ j, j < 4 → ∃ u, X.cell? ⟨B, j, none⟩ = some u) : (loadVar 54 ⟨B, 0, none⟩).run Tryd.prog (set4 X B c0 c1 c2 c3) = .ok (.agg #[c0, c1, c2, c3]) (set4 X B c0 c1 c2 c3) := by
  unfold set4
  refine load4 _ B c0 c1 c2 c3 ?_ ?_ ?_ ?_
  · rw [set_other _ _ _ _ _ (by omega), set_other _ _ _ _ _ (by omega), set_other _ _ _ _ _ (by omega)]; exact set_same _ _ _ (h 0 (by omega))
  · rw [set_other _ _ _ _ _ (by omega), set_other _ _ _ _ _ (by omega)]; exact set_same _ _ _ (by rw [set_other _ _ _ _ _ (by omega)]; exact h 1 (by omega))
  · rw [set_other _ _ _ _ _ (by omega)]; exact set_same _ _ _ (by rw [set_other _ _ _ _ _ (by omega), set_other _ _ _ _ _ (by omega)]; exact h 2 (by omega))
  · exact set_same _ _ _ (by rw [set_other _ _ _ _ _ (by omega), set_other _ _ _ _ _ (by omega), set_other _ _ _ _ _ (by omega)]; exact h 3 (by omega))
theorem below_set4 {a X : World} {n B : Nat} (c0 c1 c2 c3 : Value) (h : Below n a X) (hB : n ≤ B) : Below n a (set4 X B c0 c1 c2 c3) :=
  (((h.setCell (p := ⟨B, 0, none⟩) hB c0).setCell (p := ⟨B, 1, none⟩) hB c1).setCell (p := ⟨B, 2, none⟩) hB c2).setCell (p := ⟨B, 3, none⟩) hB c3
theorem res4 (w : World) (t : TypeId) : Res w (w.alloc (.cells #[.int .i64 0, .int .i64 0, .int .i64 0, .int .i64 0] t)) 4 :=
  ⟨below_alloc _ _, by simp, fun j hj => by
    match j, hj with
    | 0, _ => simp
    | 1, _ => simp
    | 2, _ => simp
    | 3, _ => simp, fun j => by simp⟩
theorem Res.some4 {w W : World} (h : Res w W 4) : ∀ j, j < 4 → ∃ u, W.cell? ⟨w.heap.size, j, none⟩ = some u := fun j hj => ⟨_, h.2.2.1 j hj⟩
theorem mk_lew (c : Int) : -1 ≤ mk c ∧ mk c ≤ 5 := by
  unfold mk; repeat' split
  all_goals omega
def symV (y : Sym) : Value := .agg #[.int .i64 y.1, .int .i64 y.2.1, .int .i64 y.2.2.1, .int .i64 y.2.2.2]
def csymV : Option (Sym × List UInt8) → Value
  | none => .tuple #[symV (0, 0, 0, 0), .string ⟨#[]⟩, .bool false]
  | some (y, r) => .tuple #[symV y, .string ⟨r.toArray⟩, .bool true]

set_option maxRecDepth 100000 in
set_option maxHeartbeats 2000000 in
theorem cutSymbol_any (s : ByteArray) (w : World) (hg : Gl w) (hs : s.size ≤ 4000) (h0 : 0 < s.size) :
    Calls Tryd.prog 19 #[.string s] w fun e w' => e = .returned (csymV (csym s.data.toList)) ∧ Below w.heap.size w w' := by
  have hd : s.data.toList = s[0] :: rest s 1 := rest_cons s 0 h0
  have hg0 : Gl (w.alloc (.cells #[.int .i64 0, .int .i64 0, .int .i64 0, .int .i64 0] 54)) := hg.on (below_alloc _ _)
  have hr0 := res4 w 54
  have HC : Hid (csym s.data.toList = if (0 : Int) ≤ Lib.indexByte mks6 s[0] then some ((Lib.indexByte mks6 s[0], 0, 0, 0), rest s 1) else
    if (Lib.cut s.data.toList [46]).2.2 = true then (patm (Lib.cut s.data.toList [46]).1).map fun a => ((6, a), (Lib.cut s.data.toList [46]).2.1) else none) := by
    show _ = _; rw [hd]; rfl
  have CI : Hid (∀ w, Calls Tryd.prog 33 #[.string ⟨#[116, 102, 33, 38, 124, 62]⟩, .int .u8 (s[0].toNat : Int)] w fun e w' => e = .returned (.int .i64 (Lib.indexByte mks6 s[0])) ∧ w = w') := ib_mks s[0]
  have hir : (-1 : Int) ≤ Lib.indexByte mks6 s[0] ∧ Lib.indexByte mks6 s[0] ≤ 5 := by rw [mks_mk]; exact mk_lew _
  generalize Lib.indexByte mks6 s[0] = I at *
  clear hd
  by_cases hI : 0 ≤ I
  · have HC2 : Hid (csym s.data.toList = some ((I, 0, 0, 0), rest s 1)) := by show _ = _; rw [HC.out, if_pos hI]
    have HX : Hid ((⟨(rest s 1).toArray⟩ : ByteArray) = s.extract 1 s.size) := by
      show _ = _; rw [extract_str]
      congr 2
      rw [List.take_of_length_le (by rw [rest_len]; omega)]
    clear HC
    go_enter Tryd.func19, Tryd.ntmps19
    go_wp2_with (go_at_call 33; refine (CI.out _).mono ?_; rintro e w' ⟨rfl, rfl⟩)
    go_region
    go_wp2_with fail
    refine bodyPost_ret (results_c3 rfl rfl rfl rfl (load4 _ _ (.int .i64 I) (.int .i64 0) (.int .i64 0) (.int .i64 0) (by simp) (by simp) (by simp) (by simp))) rfl ⟨?_, (below_alloc _ _).drew⟩
    rw [HC2.out]
    simp only [csymV]
    rw [HX.out]; rfl
  · obtain ⟨X1, X2, E, hcut⟩ : ∃ x y z, Lib.cut s.data.toList [46] = (x, y, z) := ⟨_, _, _, rfl⟩
    have hx1 : X1.length ≤ 4000 := by
      have h1 : (Lib.cut s.data.toList [46]).1.length ≤ s.data.toList.length := by
        unfold Lib.cut; split
        · simp; omega
        · simp
      rw [hcut] at h1
      have h2 : s.data.toList.length = s.size := by simp
      exact Nat.le_trans h1 (by omega)
    have CC : Hid (∀ w, Gl w → Calls Tryd.prog 34 #[.string s, .string ⟨#[46]⟩] w fun e w' => e = .returned (.tuple #[.string ⟨X1.toArray⟩, .string ⟨X2.toArray⟩, .bool E]) ∧ Below w.heap.size w w') := fun w h => by
      have := cut_any s ⟨#[46]⟩ w h hs
      have e : (⟨#[46]⟩ : ByteArray).data.toList = [46] := rfl
      rw [e, hcut] at this
      exact this
    have CP0 : Hid (∀ w, Gl w → Calls Tryd.prog 35 #[.string ⟨X1.toArray⟩] w fun e w' => e = .returned (patV (patm X1)) ∧ Below w.heap.size w w') := fun w h => parseAtom_any ⟨X1.toArray⟩ w h (by show X1.toArray.size ≤ 4000; simpa using hx1)
    have HC2 : Hid (csym s.data.toList = if E = true then (patm X1).map fun a => ((6, a), X2) else none) := by show _ = _; rw [HC.out, if_neg hI, hcut]
    clear HC hcut
    generalize (⟨X1.toArray⟩ : ByteArray) = S1 at *
    cases hp : patm X1 with
    | none =>
      have HN : Hid (csym s.data.toList = none) := by show _ = _; rw [HC2.out, hp]; split <;> rfl
      rw [hp] at CP0
      have CP : Hid (∀ w, Gl w → Calls Tryd.prog 35 #[.string S1] w fun e w' => e = .returned (.tuple #[.agg #[.int .i64 0, .int .i64 0, .int .i64 0], .bool false]) ∧ Below w.heap.size w w') := CP0
      clear CP0 HC2 hp
      generalize (⟨X2.toArray⟩ : ByteArray) = S2 at *
      go_enter Tryd.func19, Tryd.ntmps19
      go_wp2_with (first
        | (go_at_call 33; refine (CI.out _).mono ?_; rintro e w' ⟨rfl, rfl⟩)
        | (go_at_call 34; refine (CC.out _ hg0).mono ?_; rintro e w1 ⟨rfl, hb1⟩; have hr1 := hr0.on hb1; have hg1 := hg0.on hb1)
        | (go_at_call 35; refine (CP.out _ hg1).mono ?_; rintro e w2 ⟨rfl, hb2⟩; have hr2 := hr1.on hb2; have hr3 := hr2.on (below_alloc w2 (.cells #[.int .i64 0, .int .i64 0, .int .i64 0] 52)); have y0 := hr3.2.2.1 0 (by omega); have y1 := hr3.2.2.1 1 (by omega); have y2 := hr3.2.2.1 2 (by omega); have y3 := hr3.2.2.1 3 (by omega); have f0 := hr3.2.2.2 0; have f1 := hr3.2.2.2 1; have f2 := hr3.2.2.2 2; have f3 := hr3.2.2.2 3; have hne : ¬ w2.heap.size = w.heap.size := (by have := hr2.2.1; omega); have hne' : ¬ w.heap.size = w2.heap.size := (by have := hr2.2.1; omega)))
      all_goals (exact bodyPost_ret (results_c3 rfl rfl rfl rfl (load_set4 _ _ _ _ _ _ hr3.some4)) rfl ⟨by rw [HN.out]; rfl, below_set4 _ _ _ _ hr3.1 (Nat.le_refl _)⟩)
    | some q =>
      obtain ⟨a1, a2, a3⟩ := q
      rw [hp] at CP0
      have CP : Hid (∀ w, Gl w → Calls Tryd.prog 35 #[.string S1] w fun e w' => e = .returned (.tuple #[.agg #[.int .i64 a1, .int .i64 a2, .int .i64 a3], .bool true]) ∧ Below w.heap.size w w') := CP0
      cases E with
      | false =>
        have HN : Hid (csym s.data.toList = none) := by show _ = _; rw [HC2.out]; rfl
        clear CP0 HC2 hp
        generalize (⟨X2.toArray⟩ : ByteArray) = S2 at *
        go_enter Tryd.func19, Tryd.ntmps19
        go_wp2_with (first
          | (go_at_call 33; refine (CI.out _).mono ?_; rintro e w' ⟨rfl, rfl⟩)
          | (go_at_call 34; refine (CC.out _ hg0).mono ?_; rintro e w1 ⟨rfl, hb1⟩; have hr1 := hr0.on hb1; have hg1 := hg0.on hb1)
          | (go_at_call 35; refine (CP.out _ hg1).mono ?_; rintro e w2 ⟨rfl, hb2⟩; have hr2 := hr1.on hb2; have hr3 := hr2.on (below_alloc w2 (.cells #[.int .i64 a1, .int .i64 a2, .int .i64 a3] 52)); have y0 := hr3.2.2.1 0 (by omega); have y1 := hr3.2.2.1 1 (by omega); have y2 := hr3.2.2.1 2 (by omega); have y3 := hr3.2.2.1 3 (by omega); have f0 := hr3.2.2.2 0; have f1 := hr3.2.2.2 1; have f2 := hr3.2.2.2 2; have f3 := hr3.2.2.2 3; have hne : ¬ w2.heap.size = w.heap.size := (by have := hr2.2.1; omega); have hne' : ¬ w.heap.size = w2.heap.size := (by have := hr2.2.1; omega)))
        exact bodyPost_ret (results_c3 rfl rfl rfl rfl (load_set4 _ _ _ _ _ _ hr3.some4)) rfl ⟨by rw [HN.out]; rfl, below_set4 _ _ _ _ hr3.1 (Nat.le_refl _)⟩
      | true =>
        have HN : Hid (csym s.data.toList = some ((6, a1, a2, a3), X2)) := by show _ = _; rw [HC2.out, hp]; rfl
        have HS2 : Hid (csymV (some ((6, a1, a2, a3), X2)) = .tuple #[.agg #[.int .i64 6, .int .i64 a1, .int .i64 a2, .int .i64 a3], .string ⟨X2.toArray⟩, .bool true]) := rfl
        clear CP0 HC2 hp
        generalize (⟨X2.toArray⟩ : ByteArray) = S2 at *
        go_enter Tryd.func19, Tryd.ntmps19
        go_wp2_with (first
          | (go_at_call 33; refine (CI.out _).mono ?_; rintro e w' ⟨rfl, rfl⟩)
          | (go_at_call 34; refine (CC.out _ hg0).mono ?_; rintro e w1 ⟨rfl, hb1⟩; have hr1 := hr0.on hb1; have hg1 := hg0.on hb1)
          | (go_at_call 35; refine (CP.out _ hg1).mono ?_; rintro e w2 ⟨rfl, hb2⟩; have hr2 := hr1.on hb2; have hr3 := hr2.on (below_alloc w2 (.cells #[.int .i64 a1, .int .i64 a2, .int .i64 a3] 52)); have y0 := hr3.2.2.1 0 (by omega); have y1 := hr3.2.2.1 1 (by omega); have y2 := hr3.2.2.1 2 (by omega); have y3 := hr3.2.2.1 3 (by omega); have f0 := hr3.2.2.2 0; have f1 := hr3.2.2.2 1; have f2 := hr3.2.2.2 2; have f3 := hr3.2.2.2 3; have hne : ¬ w2.heap.size = w.heap.size := (by have := hr2.2.1; omega); have hne' : ¬ w.heap.size = w2.heap.size := (by have := hr2.2.1; omega)))
        exact bodyPost_ret (results_c3 rfl rfl rfl rfl (load_set4 _ _ _ _ _ _ hr3.some4)) rfl ⟨by rw [HN.out, HS2.out]; rfl, below_set4 _ _ _ _ hr3.1 (Nat.le_refl _)⟩
end Go.Proofs.YtkinoehmcfhgbaaDoor.Vl
