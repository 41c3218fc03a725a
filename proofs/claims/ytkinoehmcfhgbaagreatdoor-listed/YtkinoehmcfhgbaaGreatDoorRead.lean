/-
  The walk of the document's own Read: a text's tokens, the error, the place.
  The walks of the document's readers of a program's tokens: s, term, letter.
  The walks of the document's letter, decimal, atom, compared.
  The walks of the document's atom and compared.
-/
import Derived.Test.YtkinoehmcfhgbaaGreatDoorOpn
import Derived.Test.YtkinoehmcfhgbaaGreatDoorF0
import Derived.Laws.BytesArg
set_option linter.unusedVariables false
set_option linter.unusedSimpArgs false
namespace Go.Proofs.YtkinoehmcfhgbaaGreatDoor.Av
open Go.RowKit

theorem toks_mem (f : Nat) : ∀ (i : Nat) (l : List UInt8) (t : List UInt8) (j : Nat), (t, j) ∈ toks f i l → t.length ≤ l.length := by
  induction f with
  | zero => intro i l t j h; simp [toks] at h
  | succ f ih =>
    intro i l t j h
    cases l with
    | nil => simp [toks] at h
    | cons a r =>
      simp only [toks] at h
      split at h
      · have := ih _ _ _ _ h; simp; omega
      · rw [List.mem_cons] at h
        rcases h with h | h
        · injection h with h1 _; subst h1; rw [List.length_take]; omega
        · have := ih _ _ _ _ h; simp at this ⊢; omega

theorem runM_zero (len : Nat) (l : List (List UInt8 × Nat)) : ∀ st d, (runM len l st d).1 = 0 → (runM len l st d).2 = 0 := by
  induction l with
  | nil => intro st d; simp only [runM]; split <;> simp
  | cons a r ih =>
    obtain ⟨t, i⟩ := a
    intro st d
    rw [runM_step]
    split
    · simp
    · repeat' split
      all_goals first | (simp; done) | exact ih _ _

set_option maxRecDepth 100000 in
set_option maxHeartbeats 1000000 in
theorem looked_nil (s : ByteArray) (w : World) (hs : s.size ≤ 300) :
    Calls Tryz.prog 63 #[.string s, .slice none 0 0] w fun e w' => e = .returned (.tuple #[.int .i64 2, .int .i64 (s.size : Int)]) ∧ Below w.heap.size w w' := by
  have C0 : Hid (∀ a b c d e f, Calls Tryz.prog 99 #[.slice none 0 0, .slice (some ⟨w.heap.size, 0, none⟩) 6 6] (w.alloc (.cells #[.string a, .string b, .string c, .string d, .string e, .string f] 9)) fun e' w' => ∃ v', e' = .returned v' ∧ Stk w' v' (a.data.toList :: b.data.toList :: c.data.toList :: d.data.toList :: e.data.toList :: f.data.toList :: []) ∧ Below w.heap.size w w') := fun a b c d e f => push6 _ [] w a b c d e f (Or.inl ⟨rfl, rfl⟩) (by simp)
  go_enter Tryz.func63, Tryz.ntmps63
  go_wp2_with (go_at_call 99; refine (C0.out _ _ _ _ _ _).mono ?_; rintro e w1 ⟨v1, rfl, hs1, hb1⟩)
  go_loopw [6, 7, 8, 9, 10, 11, 12, 13] (fun v dv iv _ _ _ _ _ wr => Stk wr v st0 ∧ iv = .int .i64 0 ∧ Below w.heap.size w wr) (fun _ _ iv _ _ _ _ _ _ => 0)
  case atStart => exact ⟨hs1, rfl, hb1⟩
  case round =>
    obtain ⟨hst, rfl, hnx⟩ := hrel
    have C1 : Hid (∀ b : ByteArray, Calls Tryz.prog 100 #[u6, .string b] wr fun e w' => OpnEnd wr (opn b.data.toList st0 0) e w') := fun b => opens_any b _ st0 wr hst (by decide)
    go_wp2_with fail
    refine (C1.out _).mono ?_
    rintro e w2 ⟨v2, rfl, hs2, hb2⟩
    have hs3 : Stk w2 v2 ([102, 114, 111, 109] :: [cFormula, [100, 111], cCommands, [116, 111], cFormula]) := hs2
    clear hs2
    have hnx2 := hnx.trans (hb2.mono hnx.size)
    generalize (opn (ByteArray.mk #[]).data.toList st0 0).2 = n at *
    obtain ⟨b2, cap2, rfl, hcp, hcm, _, _, _⟩ := hs3.top
    unfold maxLen at hcm
    go_wp2_with fail
    go_ret2
    exact ⟨rfl, hnx2⟩

theorem looked_any (s : ByteArray) (v : Value) (l : List (List UInt8 × Nat)) (w : World) (h : Tk2 w v l) (hs : s.size ≤ 300) (hl : l.length ≤ 300) (hsz : ∀ t i, (t, i) ∈ l → t.length ≤ 300) :
    Calls Tryz.prog 63 #[.string s, v] w fun e w' => e = .returned (.tuple #[.int .i64 (runM s.size l st0 0).1, .int .i64 (runM s.size l st0 0).2]) ∧ Below w.heap.size w w' := by
  have h' := h
  rcases h with ⟨rfl, rfl⟩ | ⟨g, cap, rfl, _⟩
  · exact looked_nil s w hs
  · exact looked_some s g cap l w h' hs hl hsz

/-- What the document answers of a text of at most 300 bytes: the error, the place. -/
def want (s : ByteArray) : Int × Int := runM s.size (tokAt 0 (rest s 0)) st0 0

set_option maxRecDepth 100000 in
set_option maxHeartbeats 1000000 in
theorem read_any (s : ByteArray) (w : World) (hs : s.size ≤ 300) :
    Calls Tryz.prog 37 #[.string s] w fun e w' => ∃ v, e = .returned (.tuple #[v, .int .i64 (want s).1, .int .i64 (want s).2]) ∧ ((want s).1 = 0 → Tk2 w' v (tokAt 0 (rest s 0))) ∧ Below w.heap.size w w' := by
  have hll : (tokAt 0 (rest s 0)).length ≤ 300 := by have := tokAt_len 0 (rest s 0); rw [rest_len] at this; omega
  have hmm : ∀ t i, (t, i) ∈ tokAt 0 (rest s 0) → t.length ≤ 300 := fun t i h => by
    have := toks_mem _ _ _ _ _ h; rw [rest_len] at this; omega
  have C1 : Hid (Calls Tryz.prog 62 #[.string s] w fun e w' => ∃ v, e = .returned v ∧ w'.ownsRow w.heap.size 206 2 v (tokAt 0 (rest s 0)).length (cells2 (tokAt 0 (rest s 0))) ∧ Below w.heap.size w w') := tokens_any s w hs
  have C2 : Hid (∀ (v : Value) (w : World), Tk2 w v (tokAt 0 (rest s 0)) → Calls Tryz.prog 63 #[.string s, v] w fun e w' => e = .returned (.tuple #[.int .i64 (want s).1, .int .i64 (want s).2]) ∧ Below w.heap.size w w') := fun v w h => looked_any s v _ w h hs hll hmm
  have H0 : Hid ((want s).1 = 0 → (want s).2 = 0) := runM_zero _ _ _ _
  clear hll hmm
  generalize want s = R at *
  generalize tokAt 0 (rest s 0) = T at *
  obtain ⟨R1, R2⟩ := R
  simp only at C2 H0 ⊢
  by_cases hR : R1 = 0
  · have HR : Hid (R2 = 0) := H0.out hR
    subst hR
    go_enter Tryz.func37, Tryz.ntmps37
    go_wp2_with (first | (go_at_call 62; refine C1.out.mono ?_; rintro e w1 ⟨v1, rfl, ho1, hb1⟩) | (go_at_call 63; refine (C2.out _ _ (own_tk2 ho1)).mono ?_; rintro e w2 ⟨rfl, hb2⟩))
    go_ret3
    exact ⟨v1, by rw [HR.out]; rfl, fun _ => (own_tk2 ho1).below hb2, hb1.trans (hb2.mono hb1.size)⟩
  · have hR' : (R1 != 0) = true := by simpa using hR
    go_enter Tryz.func37, Tryz.ntmps37
    go_wp2_with (first | (go_at_call 62; refine C1.out.mono ?_; rintro e w1 ⟨v1, rfl, ho1, hb1⟩) | (go_at_call 63; refine (C2.out _ _ (own_tk2 ho1)).mono ?_; rintro e w2 ⟨rfl, hb2⟩))
    go_ret3
    exact ⟨.slice none 0 0, rfl, fun h => absurd h hR, hb1.trans (hb2.mono hb1.size)⟩

set_option maxHeartbeats 400000 in
theorem read_long (s : ByteArray) (w : World) (hs : ¬ s.size ≤ 300) :
    Calls Tryz.prog 37 #[.string s] w fun e w' => e = .returned (.tuple #[.slice none 0 0, .int .i64 1, .int .i64 0]) ∧ w' = w := by
  have h : (300 : Int) < (s.size : Int) := by omega
  go_enter Tryz.func37, Tryz.ntmps37
  go_wp2_with fail
  go_ret3
  exact ⟨rfl, rfl⟩

end Go.Proofs.YtkinoehmcfhgbaaGreatDoor.Av
set_option linter.unusedVariables false
set_option linter.unusedSimpArgs false
namespace Go.Proofs.YtkinoehmcfhgbaaGreatDoor.Vl
open Go.RowKit
open Go.Proofs.YtkinoehmcfhgbaaGreatDoor.Av (vr rvariable_any Fm Rd Tg sAt trm trm_range rel rel_range vr_range)

/-- A program's tokens as they lie in memory. -/
def CodeAt (w : World) (cb : Nat) (toks : List (List UInt8 × Nat)) : Prop :=
  ∃ g cap, w.cell? ⟨cb, 0, none⟩ = some (.slice (some ⟨g, 0, none⟩) toks.length cap) ∧ toks.length ≤ cap ∧ cap ≤ maxLen ∧ g < w.heap.size ∧ cb < w.heap.size ∧ ∀ j t, toks[j]? = some t → w.cell? ⟨g, j * 2, none⟩ = some (.string ⟨t.1.toArray⟩)
theorem CodeAt.below {w w' : World} {cb : Nat} {toks : List (List UInt8 × Nat)} (h : CodeAt w cb toks) (hb : Below w.heap.size w w') : CodeAt w' cb toks := by
  obtain ⟨g, cap, h1, h2, h3, h4, h5, h6⟩ := h
  exact ⟨g, cap, (hb.cell (p := ⟨cb, 0, none⟩) h5).trans h1, h2, h3, Nat.lt_of_lt_of_le h4 hb.size, Nat.lt_of_lt_of_le h5 hb.size, fun j t ht => (hb.cell (p := ⟨g, j * 2, none⟩) h4).trans (h6 j t ht)⟩

set_option maxRecDepth 100000 in
set_option maxHeartbeats 1000000 in
theorem code_s (toks : List (List UInt8 × Nat)) (cb k : Nat) (w : World) (h : CodeAt w cb toks) (hk : k ≤ 2000) :
    Calls Tryz.prog 66 #[.pointer (some ⟨cb, 0, none⟩), .int .i64 (k : Int)] w fun e w' => e = .returned (.string ⟨(sAt toks k).toArray⟩) ∧ w = w' := by
  obtain ⟨g, cap, h1, h2, h3, h4, h5, h6⟩ := h
  by_cases hlt : k < toks.length
  · obtain ⟨t, ht⟩ : ∃ t, toks[k]? = some t := ⟨_, List.getElem?_eq_getElem hlt⟩
    have c1 := h6 k t ht
    have HS : Hid (sAt toks k = t.1) := by show _ = _; unfold sAt; rw [ht]; rfl
    have hlt' : (k : Int) < (toks.length : Int) := by omega
    clear h6 ht
    generalize t.1 = T at *
    go_enter Tryz.func66, Tryz.ntmps66
    go_wp2
    go_ret
    exact ⟨by rw [HS.out]; rfl, rfl⟩
  · have HS : Hid (sAt toks k = []) := by show _ = _; unfold sAt; rw [List.getElem?_eq_none (by omega)]; rfl
    have hlt' : ¬ (k : Int) < (toks.length : Int) := by omega
    clear h6
    go_enter Tryz.func66, Tryz.ntmps66
    go_wp2
    go_ret
    exact ⟨by rw [HS.out]; rfl, rfl⟩

theorem str_toList (l : List UInt8) : (⟨l.toArray⟩ : ByteArray).toList = l := by rw [ByteArray.toList_eq]
theorem trm_plus {toks : List (List UInt8 × Nat)} {k : Nat} (h1 : 0 ≤ vr (sAt toks k)) (h2 : (sAt toks (k + 1) == [43]) = true) : trm toks k = (vr (sAt toks k), Av.dg 999 (sAt toks (k + 2)), k + 3) := by
  unfold trm; rw [if_pos h1, if_pos h2]
theorem trm_minus {toks : List (List UInt8 × Nat)} {k : Nat} (h1 : 0 ≤ vr (sAt toks k)) (h2 : (sAt toks (k + 1) == [43]) = false) (h3 : (sAt toks (k + 1) == [45]) = true) : trm toks k = (vr (sAt toks k), -Av.dg 999 (sAt toks (k + 2)), k + 3) := by
  unfold trm; rw [if_pos h1, h2, if_neg (by decide), if_pos h3]
theorem trm_var {toks : List (List UInt8 × Nat)} {k : Nat} (h1 : 0 ≤ vr (sAt toks k)) (h2 : (sAt toks (k + 1) == [43]) = false) (h3 : (sAt toks (k + 1) == [45]) = false) : trm toks k = (vr (sAt toks k), 0, k + 1) := by
  unfold trm; rw [if_pos h1, h2, if_neg (by decide), h3, if_neg (by decide)]
theorem trm_neg {toks : List (List UInt8 × Nat)} {k : Nat} (h1 : ¬ 0 ≤ vr (sAt toks k)) (h2 : (sAt toks k == [45]) = true) : trm toks k = (-1, -Av.dg 999 (sAt toks (k + 1)), k + 2) := by
  unfold trm; rw [if_neg h1, if_pos h2]
theorem trm_num {toks : List (List UInt8 × Nat)} {k : Nat} (h1 : ¬ 0 ≤ vr (sAt toks k)) (h2 : (sAt toks k == [45]) = false) : trm toks k = (-1, Av.dg 999 (sAt toks k), k + 1) := by
  unfold trm; rw [if_neg h1, h2, if_neg (by decide)]

set_option maxRecDepth 100000 in
set_option maxHeartbeats 2000000 in
theorem code_term (toks : List (List UInt8 × Nat)) (cb k : Nat) (w : World) (h : CodeAt w cb toks) (hk : k ≤ 1000) (hl : ∀ j, (sAt toks j).length ≤ 300) :
    Calls Tryz.prog 103 #[.pointer (some ⟨cb, 0, none⟩), .int .i64 (k : Int)] w fun e w' => e = .returned (.tuple #[.int .i64 (trm toks k).1, .int .i64 (trm toks k).2.1, .int .i64 ((trm toks k).2.2 : Int)]) ∧ w = w' := by
  have CS : Hid (∀ j : Nat, j ≤ 2000 → Calls Tryz.prog 66 #[.pointer (some ⟨cb, 0, none⟩), .int .i64 (j : Int)] w fun e w' => e = .returned (.string ⟨(sAt toks j).toArray⟩) ∧ w = w') := fun j hj => code_s toks cb j w h hj
  have CS1 : Hid (Calls Tryz.prog 66 #[.pointer (some ⟨cb, 0, none⟩), .int .i64 ((k : Int) + 1)] w fun e w' => e = .returned (.string ⟨(sAt toks (k + 1)).toArray⟩) ∧ w = w') := CS.out (k + 1) (by omega)
  have CS2 : Hid (Calls Tryz.prog 66 #[.pointer (some ⟨cb, 0, none⟩), .int .i64 ((k : Int) + 2)] w fun e w' => e = .returned (.string ⟨(sAt toks (k + 2)).toArray⟩) ∧ w = w') := CS.out (k + 2) (by omega)
  have CV : Hid (∀ l : List UInt8, Calls Tryz.prog 145 #[.string ⟨l.toArray⟩] w fun e w' => e = .returned (.int .i64 (vr l)) ∧ w = w') := fun l => (rvariable_any ⟨l.toArray⟩ w).mono fun e w' h => by
    have e1 : (⟨l.toArray⟩ : ByteArray).data.toList = l := by simp
    refine ⟨?_, ?_⟩
    · first | (rw [h.1, e1]) | (rw [h.1]; simp)
    · first | exact h.2 | exact h.2.symm
  have CD : Hid (∀ j : Nat, Calls Tryz.prog 146 #[.string ⟨(sAt toks j).toArray⟩, .int .i64 999] w fun e w' => e = .returned (.int .i64 (Av.dg 999 (sAt toks j))) ∧ w = w') := fun j => (Av.digits_any ⟨(sAt toks j).toArray⟩ w 999 (by have := hl j; show (sAt toks j).toArray.size ≤ 300; simp; omega) (by omega) (by omega)).mono fun e w' h => by
    have e1 : (⟨(sAt toks j).toArray⟩ : ByteArray).data.toList = sAt toks j := by simp
    refine ⟨?_, ?_⟩
    · first | (rw [h.1, e1]) | (rw [h.1]; simp) | (rw [h.1]; rfl)
    · first | exact h.2 | exact h.2.symm
  have d0 := Av.dg_range 999 (by omega) (sAt toks k)
  have d1 := Av.dg_range 999 (by omega) (sAt toks (k + 1))
  have d2 := Av.dg_range 999 (by omega) (sAt toks (k + 2))
  have hv9 := vr_range (sAt toks k)
  have D0 := CD.out k
  have D1 := CD.out (k + 1)
  have D2 := CD.out (k + 2)
  clear h hl
  have CS0 : Hid (Calls Tryz.prog 66 #[.pointer (some ⟨cb, 0, none⟩), .int .i64 (k : Int)] w fun e w' => e = .returned (.string ⟨(sAt toks k).toArray⟩) ∧ w = w') := CS.out k (by omega)
  clear CS
  by_cases hv : 0 ≤ vr (sAt toks k)
  · cases hp : (sAt toks (k + 1) == [43])
    · cases hm : (sAt toks (k + 1) == [45])
      · have HT : Hid (trm toks k = _) := trm_var hv hp hm
        have HV := CV.out (sAt toks k)
        generalize trm toks k = R at *
        generalize Av.dg 999 (sAt toks (k + 2)) = N2 at *
        generalize vr (sAt toks k) = V at *
        go_enter Tryz.func103, Tryz.ntmps103
        go_wp2_with fail
        refine CS0.out.mono ?_
        rintro e w1 ⟨rfl, rfl⟩
        go_wp2_with fail
        refine HV.mono ?_
        rintro e w1 ⟨rfl, rfl⟩
        go_wp2_with fail
        refine CS2.out.mono ?_
        rintro e w1 ⟨rfl, rfl⟩
        go_wp2_with fail
        refine D2.mono ?_
        rintro e w1 ⟨rfl, rfl⟩
        go_wp2_with fail
        refine CS1.out.mono ?_
        rintro e w1 ⟨rfl, rfl⟩
        go_wp2_with fail
        go_ret3
        exact ⟨by rw [HT.out]; rfl, rfl⟩
      · have HT : Hid (trm toks k = _) := trm_minus hv hp hm
        have HV := CV.out (sAt toks k)
        generalize trm toks k = R at *
        generalize Av.dg 999 (sAt toks (k + 2)) = N2 at *
        generalize vr (sAt toks k) = V at *
        go_enter Tryz.func103, Tryz.ntmps103
        go_wp2_with fail
        refine CS0.out.mono ?_
        rintro e w1 ⟨rfl, rfl⟩
        go_wp2_with fail
        refine HV.mono ?_
        rintro e w1 ⟨rfl, rfl⟩
        go_wp2_with fail
        refine CS2.out.mono ?_
        rintro e w1 ⟨rfl, rfl⟩
        go_wp2_with fail
        refine D2.mono ?_
        rintro e w1 ⟨rfl, rfl⟩
        go_wp2_with fail
        refine CS1.out.mono ?_
        rintro e w1 ⟨rfl, rfl⟩
        go_wp2_with fail
        go_ret3
        exact ⟨by rw [HT.out]; rfl, rfl⟩
    · have HT : Hid (trm toks k = _) := trm_plus hv hp
      have HV := CV.out (sAt toks k)
      generalize trm toks k = R at *
      generalize Av.dg 999 (sAt toks (k + 2)) = N2 at *
      generalize vr (sAt toks k) = V at *
      go_enter Tryz.func103, Tryz.ntmps103
      go_wp2_with fail
      refine CS0.out.mono ?_
      rintro e w1 ⟨rfl, rfl⟩
      go_wp2_with fail
      refine HV.mono ?_
      rintro e w1 ⟨rfl, rfl⟩
      go_wp2_with fail
      refine CS2.out.mono ?_
      rintro e w1 ⟨rfl, rfl⟩
      go_wp2_with fail
      refine D2.mono ?_
      rintro e w1 ⟨rfl, rfl⟩
      go_wp2_with fail
      refine CS1.out.mono ?_
      rintro e w1 ⟨rfl, rfl⟩
      go_wp2_with fail
      go_ret3
      exact ⟨by rw [HT.out]; rfl, rfl⟩
  · cases hp : (sAt toks k == [45])
    · have HT : Hid (trm toks k = _) := trm_num hv hp
      have HV := CV.out (sAt toks k)
      generalize trm toks k = R at *
      generalize Av.dg 999 (sAt toks k) = N0 at *
      generalize vr (sAt toks k) = V at *
      go_enter Tryz.func103, Tryz.ntmps103
      go_wp2_with fail
      refine CS0.out.mono ?_
      rintro e w1 ⟨rfl, rfl⟩
      go_wp2_with fail
      refine HV.mono ?_
      rintro e w1 ⟨rfl, rfl⟩
      go_wp2_with fail
      refine CS0.out.mono ?_
      rintro e w1 ⟨rfl, rfl⟩
      go_wp2_with fail
      refine CS0.out.mono ?_
      rintro e w1 ⟨rfl, rfl⟩
      go_wp2_with fail
      refine D0.mono ?_
      rintro e w1 ⟨rfl, rfl⟩
      go_wp2_with fail
      go_ret3
      exact ⟨by rw [HT.out]; rfl, rfl⟩
    · have HT : Hid (trm toks k = _) := trm_neg hv hp
      have HV := CV.out (sAt toks k)
      generalize trm toks k = R at *
      generalize Av.dg 999 (sAt toks (k + 1)) = N1 at *
      generalize vr (sAt toks k) = V at *
      go_enter Tryz.func103, Tryz.ntmps103
      go_wp2_with fail
      refine CS0.out.mono ?_
      rintro e w1 ⟨rfl, rfl⟩
      go_wp2_with fail
      refine HV.mono ?_
      rintro e w1 ⟨rfl, rfl⟩
      go_wp2_with fail
      refine CS0.out.mono ?_
      rintro e w1 ⟨rfl, rfl⟩
      go_wp2_with fail
      refine CS1.out.mono ?_
      rintro e w1 ⟨rfl, rfl⟩
      go_wp2_with fail
      refine D1.mono ?_
      rintro e w1 ⟨rfl, rfl⟩
      go_wp2_with fail
      go_ret3
      exact ⟨by rw [HT.out]; rfl, rfl⟩
end Go.Proofs.YtkinoehmcfhgbaaGreatDoor.Vl
set_option linter.unusedVariables false
set_option linter.unusedSimpArgs false
namespace Go.Proofs.YtkinoehmcfhgbaaGreatDoor.Vl
open Go.RowKit
open Go.Proofs.YtkinoehmcfhgbaaGreatDoor.Av (vr rvariable_any Fm Rd Tg sAt trm trm_range rel rel_range vr_range)

def strV (l : List UInt8) : Value := .string ⟨l.toArray⟩
set_option maxHeartbeats 400000 in
theorem letter_any (v : Int) (w : World) (h0 : -1 ≤ v) (h3 : v ≤ 3) :
    Calls Tryz.prog 105 #[.int .i64 v] w fun e w' => e = .returned (strV [lt (v + 1)]) ∧ w = w' := by
  have hv : v = -1 ∨ v = 0 ∨ v = 1 ∨ v = 2 ∨ v = 3 := by omega
  rcases hv with rfl | rfl | rfl | rfl | rfl
  all_goals
    go_enter Tryz.func105, Tryz.ntmps105
    go_wp2
    go_ret
    exact ⟨rfl, rfl⟩

theorem conv1 (w : World) (x : Int) : Sem.run Tryz.prog (convert 122 9 (.slice (some ⟨w.heap.size, 0, none⟩) 1 1)) (w.alloc (.cells #[.int .u8 x] 5)) = .ok (strV [UInt8.ofNat x.toNat]) (w.alloc (.cells #[.int .u8 x] 5)) :=
  run_convert_bytes_arg _ 122 5 Tryz.underlying122 Tryz.underlying5 w.heap.size 0 1 1 [x] rfl (fun i hi => by
    have : i = 0 := by omega
    subst this
    rw [World.cell?_alloc_at _ _ _ _ rfl]; rfl) 9 Tryz.underlying9

theorem str_app (a b : List UInt8) : (⟨a.toArray⟩ : ByteArray) ++ ⟨b.toArray⟩ = ⟨(a ++ b).toArray⟩ := by
  rw [ByteArray.ext_iff, ByteArray.data_append]; simp
theorem strV_app (a b : List UInt8) : Value.string ((⟨a.toArray⟩ : ByteArray) ++ ⟨b.toArray⟩) = strV (a ++ b) := by rw [str_app]; rfl
theorem dig_u8 (m : Nat) (h : m < 10) : UInt8.ofNat ((48 : Int) + (m : Int)).toNat = UInt8.ofNat (48 + m) := by congr 1
theorem dig_u8a (m : Nat) (h : m < 10) : (48 : UInt8) + UInt8.ofNat m = UInt8.ofNat (48 + m) := by
  have : m = 0 ∨ m = 1 ∨ m = 2 ∨ m = 3 ∨ m = 4 ∨ m = 5 ∨ m = 6 ∨ m = 7 ∨ m = 8 ∨ m = 9 := by omega
  rcases this with rfl | rfl | rfl | rfl | rfl | rfl | rfl | rfl | rfl | rfl <;> rfl
set_option maxRecDepth 100000 in
set_option maxHeartbeats 1000000 in
theorem decimal_pos (n : Nat) (w : World) (hn : n ≤ 999999) :
    Calls Tryz.prog 218 #[.int .i64 (n : Int)] w fun e w' => e = .returned (strV (Lib.decDigits n)) ∧ Below w.heap.size w w' := by
  have h0 : ¬ (n : Int) < 0 := by omega
  have hln := dec_len 5 n (by omega)
  go_enter Tryz.func218, Tryz.ntmps218
  go_wp2
  go_loopw [0, 3] (fun i v wr => ∃ (m : Nat) (l : List UInt8), m ≤ n ∧ i = .int .i64 (m : Int) ∧ v = strV l ∧ Lib.decDigits n = Lib.decDigits m ++ l ∧ Below w.heap.size w wr) (fun i _ _ => (intOf i).toNat)
  case atStart => exact ⟨n, [], Nat.le_refl _, rfl, rfl, by simp, Below.refl _ _⟩
  case round =>
    obtain ⟨m, l, hm, rfl, rfl, hq, hb⟩ := hrel
    have hll : l.length ≤ 6 := by rw [hq] at hln; simp at hln; omega
    have Q : Hid (Lib.decDigits n = Lib.decDigits m ++ l) := hq
    clear hq
    have hbs := hb.size
    by_cases hlt : (9 : Int) < (m : Int)
    · have E : Hid (Lib.decDigits m = Lib.decDigits (m / 10) ++ [UInt8.ofNat (48 + m % 10)]) := by
        show _ = _
        rw [Lib.decDigits, dif_neg (by omega)]
      go_wp2
      rw [conv1]
      unfold strV
      go_wp2
      go_roundw
      case rel =>
        refine ⟨m / 10, UInt8.ofNat (48 + m % 10) :: l, by omega, by go_num, ?_, by rw [Q.out, E.out]; simp, hb.alloc (by omega) _⟩
        first | (rw [dig_u8a _ (by omega)]; exact strV_app [_] l) | (rw [← dig_u8a _ (by omega)]; exact strV_app [_] l)
      case measure => simp [intOf]; omega
    · have E : Hid (Lib.decDigits m = [UInt8.ofNat (48 + m)]) := by
        show _ = _
        rw [Lib.decDigits, dif_pos (by omega)]
      go_wp2
      rw [conv1]
      unfold strV
      go_wp2
      go_ret
      refine ⟨?_, hb.alloc (by omega) _⟩
      rw [Q.out, E.out]
      first | (rw [dig_u8a _ (by omega)]; exact congrArg _ (strV_app [_] l)) | (rw [dig_u8 _ (by omega)]; exact congrArg _ (strV_app [_] l)) | exact congrArg _ (strV_app [_] l)
set_option maxRecDepth 100000 in
set_option maxHeartbeats 1000000 in
theorem decimal_any (n : Int) (w : World) (h0 : -999999 ≤ n) (h1 : n ≤ 999999) :
    Calls Tryz.prog 218 #[.int .i64 n] w fun e w' => e = .returned (strV (Lib.itoa n)) ∧ Below w.heap.size w w' := by
  by_cases hn : n < 0
  · have HI : Hid (Lib.itoa n = 45 :: Lib.decDigits n.natAbs) := by show _ = _; unfold Lib.itoa; rw [if_pos hn]
    have hln := dec_len 5 n.natAbs (by omega)
    have C : Hid (Calls Tryz.prog 218 #[.int .i64 (-n)] w fun e w' => e = .returned (strV (Lib.decDigits n.natAbs)) ∧ Below w.heap.size w w') := by
      have := decimal_pos n.natAbs w (by omega)
      have e : ((n.natAbs : Nat) : Int) = -n := by omega
      rw [e] at this; exact this
    generalize Lib.decDigits n.natAbs = D at *
    go_enter Tryz.func218, Tryz.ntmps218
    go_wp2_with fail
    refine C.out.mono ?_
    unfold strV
    rintro e w1 ⟨rfl, hb⟩
    go_wp2
    go_ret
    refine ⟨?_, hb⟩
    rw [HI.out]
    exact congrArg _ (strV_app [45] D)
  · have HI : Hid (Lib.itoa n = Lib.decDigits n.toNat) := by show _ = _; unfold Lib.itoa; rw [if_neg hn]
    have := decimal_pos n.toNat w (by omega)
    have e : ((n.toNat : Nat) : Int) = n := by omega
    rw [e] at this; rw [HI.out]; exact this
end Go.Proofs.YtkinoehmcfhgbaaGreatDoor.Vl
set_option linter.unusedVariables false
set_option linter.unusedSimpArgs false
namespace Go.Proofs.YtkinoehmcfhgbaaGreatDoor.Vl
open Go.RowKit
open Go.Proofs.YtkinoehmcfhgbaaGreatDoor.Av (vr rvariable_any Fm Rd Tg sAt trm trm_range rel rel_range vr_range)

theorem lt_inj {a b : Int} (a0 : 0 ≤ a) (a4 : a ≤ 4) (b0 : 0 ≤ b) (b4 : b ≤ 4) (h : a ≠ b) : (lt a == lt b) = false := by
  have h1 := lt_plu a0 a4
  have h2 := lt_plu b0 b4
  rw [beq_eq_false_iff_ne]
  intro e
  rw [e, h2] at h1; exact h h1.symm
set_option maxRecDepth 100000 in
set_option maxHeartbeats 1000000 in
theorem atom_any (a b n : Int) (w : World) (a0 : 0 ≤ a) (a4 : a ≤ 4) (b0 : 0 ≤ b) (b4 : b ≤ 4) (h0 : -999999 ≤ n) (h1 : n ≤ 999999) :
    Calls Tryz.prog 149 #[strV [lt a], strV [lt b], .int .i64 n] w fun e w' => e = .returned (strV (sb (aty a b n))) ∧ Below w.heap.size w w' := by
  by_cases hab : a = b
  · subst hab
    by_cases hn : 0 ≤ n
    · have HS : Hid (sb (aty a a n) = [116]) := by show _ = _; unfold aty; rw [if_pos rfl, if_pos hn]; rfl
      generalize sb (aty a a n) = R at *
      generalize lt a = L at *
      unfold strV
      go_enter Tryz.func149, Tryz.ntmps149
      go_wp2
      go_ret
      exact ⟨by rw [HS.out]; rfl, Below.refl _ _⟩
    · have HS : Hid (sb (aty a a n) = [102]) := by show _ = _; unfold aty; rw [if_pos rfl, if_neg hn]; rfl
      generalize sb (aty a a n) = R at *
      generalize lt a = L at *
      unfold strV
      go_enter Tryz.func149, Tryz.ntmps149
      go_wp2
      go_ret
      exact ⟨by rw [HS.out]; rfl, Below.refl _ _⟩
  · have hx := lt_inj a0 a4 b0 b4 hab
    have HS : Hid (sb (aty a b n) = lt a :: 45 :: lt b :: 60 :: 61 :: (Lib.itoa n ++ [46])) := by show _ = _; unfold aty; rw [if_neg hab]; rfl
    have hil := itoa_len7 h0 h1
    have C : Hid (∀ w, Calls Tryz.prog 218 #[.int .i64 n] w fun e w' => e = .returned (strV (Lib.itoa n)) ∧ Below w.heap.size w w') := fun w => decimal_any n w h0 h1
    clear hab a0 a4 b0 b4
    generalize sb (aty a b n) = R at *
    generalize Lib.itoa n = D at *
    generalize lt a = L at *
    generalize lt b = M at *
    unfold strV
    go_enter Tryz.func149, Tryz.ntmps149
    go_wp2_with fail
    refine (C.out _).mono ?_
    unfold strV
    rintro e w1 ⟨rfl, hb⟩
    go_wp2
    go_ret
    refine ⟨?_, hb⟩
    rw [HS.out]
    have e1 : (⟨#[L]⟩ : ByteArray) ++ ⟨#[45]⟩ = ⟨[L, 45].toArray⟩ := str_app [L] [45]
    have e2 : (⟨[L, 45].toArray⟩ : ByteArray) ++ ⟨#[M]⟩ = ⟨[L, 45, M].toArray⟩ := str_app [L, 45] [M]
    have e3 : (⟨[L, 45, M].toArray⟩ : ByteArray) ++ ⟨#[60, 61]⟩ = ⟨[L, 45, M, 60, 61].toArray⟩ := str_app [L, 45, M] [60, 61]
    have e4 : (⟨[L, 45, M, 60, 61].toArray⟩ : ByteArray) ++ ⟨D.toArray⟩ = ⟨([L, 45, M, 60, 61] ++ D).toArray⟩ := str_app [L, 45, M, 60, 61] D
    have e5 : (⟨([L, 45, M, 60, 61] ++ D).toArray⟩ : ByteArray) ++ ⟨#[46]⟩ = ⟨(([L, 45, M, 60, 61] ++ D) ++ [46]).toArray⟩ := str_app ([L, 45, M, 60, 61] ++ D) [46]
    show Ending.returned (.string ((((⟨#[L]⟩ ++ ⟨#[45]⟩ ++ ⟨#[M]⟩) ++ ⟨#[60, 61]⟩) ++ ⟨D.toArray⟩) ++ ⟨#[46]⟩)) = _
    rw [e1, e2, e3, e4, e5]
    simp

theorem rel_lt {l : List UInt8} (h : (l == [60]) = true) : rel l = 0 := by unfold rel; rw [if_pos h]
theorem rel_le {l : List UInt8} (h : (l == [60]) = false) (h1 : (l == [60, 61]) = true) : rel l = 1 := by unfold rel; rw [h, if_neg (by decide), if_pos h1]
theorem rel_gt {l : List UInt8} (h : (l == [60]) = false) (h1 : (l == [60, 61]) = false) (h2 : (l == [62]) = true) : rel l = 3 := by unfold rel; rw [h, if_neg (by decide), h1, if_neg (by decide), if_pos h2]
theorem rel_ge {l : List UInt8} (h : (l == [60]) = false) (h1 : (l == [60, 61]) = false) (h2 : (l == [62]) = false) (h3 : (l == [62, 61]) = true) : rel l = 4 := by unfold rel; rw [h, if_neg (by decide), h1, if_neg (by decide), h2, if_neg (by decide), if_pos h3]
theorem rel_eq {l : List UInt8} (h : (l == [60]) = false) (h1 : (l == [60, 61]) = false) (h2 : (l == [62]) = false) (h3 : (l == [62, 61]) = false) : rel l = 2 := by unfold rel; rw [h, if_neg (by decide), h1, if_neg (by decide), h2, if_neg (by decide), h3, if_neg (by decide)]

set_option maxRecDepth 100000 in
set_option maxHeartbeats 2000000 in
theorem code_compared (toks : List (List UInt8 × Nat)) (cb k : Nat) (w : World) (h : CodeAt w cb toks) (hk : k ≤ 600) (hl : ∀ j, (sAt toks j).length ≤ 300) :
    Calls Tryz.prog 148 #[.pointer (some ⟨cb, 0, none⟩), .int .i64 (k : Int)] w fun e w' => e = .returned (.tuple #[strV (sbs (cms (rel (sAt toks (trm toks k).2.2)) ((trm toks k).1, (trm toks k).2.1) ((trm toks ((trm toks k).2.2 + 1)).1, (trm toks ((trm toks k).2.2 + 1)).2.1))), .int .i64 ((trm toks ((trm toks k).2.2 + 1)).2.2 : Int)]) ∧ Below w.heap.size w w' := by
  have r1 := trm_range toks k
  have r2 := trm_range toks ((trm toks k).2.2 + 1)
  have T1 : Hid (Calls Tryz.prog 103 #[.pointer (some ⟨cb, 0, none⟩), .int .i64 (k : Int)] w fun e w' => e = .returned (.tuple #[.int .i64 (trm toks k).1, .int .i64 (trm toks k).2.1, .int .i64 ((trm toks k).2.2 : Int)]) ∧ w = w') := code_term toks cb k w h (by omega) hl
  have T2 : Hid (Calls Tryz.prog 103 #[.pointer (some ⟨cb, 0, none⟩), .int .i64 (((trm toks k).2.2 : Int) + 1)] w fun e w' => e = .returned (.tuple #[.int .i64 (trm toks ((trm toks k).2.2 + 1)).1, .int .i64 (trm toks ((trm toks k).2.2 + 1)).2.1, .int .i64 ((trm toks ((trm toks k).2.2 + 1)).2.2 : Int)]) ∧ w = w') := code_term toks cb ((trm toks k).2.2 + 1) w h (by omega) hl
  have CS : Hid (Calls Tryz.prog 66 #[.pointer (some ⟨cb, 0, none⟩), .int .i64 ((trm toks k).2.2 : Int)] w fun e w' => e = .returned (.string ⟨(sAt toks (trm toks k).2.2).toArray⟩) ∧ w = w') := code_s toks cb _ w h (by omega)
  have CL : Hid (∀ v, -1 ≤ v → v ≤ 3 → Calls Tryz.prog 105 #[.int .i64 v] w fun e w' => e = .returned (.string ⟨[lt (v + 1)].toArray⟩) ∧ w = w') := fun v h0 h1 => letter_any v w h0 h1
  have CA : Hid (∀ (a b n : Int) (w : World), 0 ≤ a → a ≤ 4 → 0 ≤ b → b ≤ 4 → -9999 ≤ n → n ≤ 9999 → Calls Tryz.prog 149 #[.string ⟨[lt a].toArray⟩, .string ⟨[lt b].toArray⟩, .int .i64 n] w fun e w' => e = .returned (.string ⟨(sb (aty a b n)).toArray⟩) ∧ Below w.heap.size w w') := fun a b n w a0 a4 b0 b4 h0 h1 => atom_any a b n w a0 a4 b0 b4 (by omega) (by omega)
  clear h hl
  generalize trm toks ((trm toks k).2.2 + 1) = R2 at *
  generalize trm toks k = R1 at *
  obtain ⟨u, m, p⟩ := R1
  obtain ⟨v, n, q⟩ := R2
  dsimp only at *
  generalize sAt toks p = S at *
  have CU := CL.out u (by omega) (by omega)
  have CV := CL.out v (by omega) (by omega)
  unfold strV
  generalize hRR : sbs (cms (rel S) (u, m) (v, n)) = RR
  have HQ : Hid (RR = sbs (cms (rel S) (u, m) (v, n))) := hRR.symm
  clear hRR
  go_enter Tryz.func148, Tryz.ntmps148
  go_wp2_with fail
  refine T1.out.mono ?_
  rintro e w1 ⟨rfl, rfl⟩
  go_wp2_with fail
  refine CS.out.mono ?_
  rintro e w1 ⟨rfl, rfl⟩
  go_wp2_with fail
  refine T2.out.mono ?_
  rintro e w1 ⟨rfl, rfl⟩
  go_wp2_with fail
  refine CU.mono ?_
  rintro e w1 ⟨rfl, rfl⟩
  go_wp2_with fail
  refine CV.mono ?_
  rintro e w1 ⟨rfl, rfl⟩
  cases h1 : (S == [60])
  · cases h2 : (S == [60, 61])
    · cases h3 : (S == [62])
      · cases h4 : (S == [62, 61])
        · have HR : Hid (RR = ([38] ++ sb (aty (u + 1) (v + 1) (n - m))) ++ sb (aty (v + 1) (u + 1) (m - n))) := by
            show _ = _
            rw [HQ.out, rel_eq h1 h2 h3 h4]
            have e : cms 2 (u, m) (v, n) = [(3, 0, 0, 0), aty (u + 1) (v + 1) (n - m), aty (v + 1) (u + 1) (m - n)] := rfl
            rw [e, sbs_cons, sbs_cons, sbs_cons]
            have e2 : sbs [] = [] := rfl
            have e3 : sb (3, 0, 0, 0) = [38] := rfl
            rw [e2, e3]
            simp
          have hl1 := aty_len (u := u + 1) (v := v + 1) (n := n - m) (by omega) (by omega)
          have hl2 := aty_len (u := v + 1) (v := u + 1) (n := m - n) (by omega) (by omega)
          have CX := fun w => CA.out (u + 1) (v + 1) (n - m) w (by omega) (by omega) (by omega) (by omega) (by omega) (by omega)
          have CY := fun w => CA.out (v + 1) (u + 1) (m - n) w (by omega) (by omega) (by omega) (by omega) (by omega) (by omega)
          generalize sb (aty (u + 1) (v + 1) (n - m)) = X1 at *
          generalize sb (aty (v + 1) (u + 1) (m - n)) = X2 at *
          go_wp2_with fail
          refine (CX _).mono ?_
          rintro e w1 ⟨rfl, hb1⟩
          go_wp2_with fail
          refine (CY _).mono ?_
          rintro e w2 ⟨rfl, hb2⟩
          go_wp2
          go_ret2
          refine ⟨?_, hb1.trans (hb2.mono hb1.size)⟩
          rw [HR.out]
          have e1 : (⟨#[38]⟩ : ByteArray) ++ ⟨X1.toArray⟩ = ⟨([38] ++ X1).toArray⟩ := str_app [38] X1
          have e2 : (⟨([38] ++ X1).toArray⟩ : ByteArray) ++ ⟨X2.toArray⟩ = ⟨(([38] ++ X1) ++ X2).toArray⟩ := str_app ([38] ++ X1) X2
          show Ending.returned (.tuple #[.string ((⟨#[38]⟩ ++ ⟨X1.toArray⟩) ++ ⟨X2.toArray⟩), _]) = _
          rw [e1, e2]; rfl
        · have HR : Hid (RR = sb (aty (v + 1) (u + 1) (m - n))) := by show _ = _; rw [HQ.out, rel_ge h1 h2 h3 h4]; exact List.append_nil _
          have CX := CA.out (v + 1) (u + 1) (m - n) w (by omega) (by omega) (by omega) (by omega) (by omega) (by omega)
          generalize sb (aty (v + 1) (u + 1) (m - n)) = X1 at *
          go_wp2_with fail
          refine CX.mono ?_
          rintro e w1 ⟨rfl, hb1⟩
          go_wp2_with fail
          go_ret2
          exact ⟨by rw [HR.out]; rfl, hb1⟩
      · have HR : Hid (RR = sb (aty (v + 1) (u + 1) (m - n - 1))) := by show _ = _; rw [HQ.out, rel_gt h1 h2 h3]; exact List.append_nil _
        have CX := CA.out (v + 1) (u + 1) (m - n - 1) w (by omega) (by omega) (by omega) (by omega) (by omega) (by omega)
        generalize sb (aty (v + 1) (u + 1) (m - n - 1)) = X1 at *
        go_wp2_with fail
        refine CX.mono ?_
        rintro e w1 ⟨rfl, hb1⟩
        go_wp2_with fail
        go_ret2
        exact ⟨by rw [HR.out]; rfl, hb1⟩
    · have HR : Hid (RR = sb (aty (u + 1) (v + 1) (n - m))) := by show _ = _; rw [HQ.out, rel_le h1 h2]; exact List.append_nil _
      have CX := CA.out (u + 1) (v + 1) (n - m) w (by omega) (by omega) (by omega) (by omega) (by omega) (by omega)
      generalize sb (aty (u + 1) (v + 1) (n - m)) = X1 at *
      go_wp2_with fail
      refine CX.mono ?_
      rintro e w1 ⟨rfl, hb1⟩
      go_wp2_with fail
      go_ret2
      exact ⟨by rw [HR.out]; rfl, hb1⟩
  · have HR : Hid (RR = sb (aty (u + 1) (v + 1) (n - m - 1))) := by show _ = _; rw [HQ.out, rel_lt h1]; exact List.append_nil _
    have CX := CA.out (u + 1) (v + 1) (n - m - 1) w (by omega) (by omega) (by omega) (by omega) (by omega) (by omega)
    generalize sb (aty (u + 1) (v + 1) (n - m - 1)) = X1 at *
    go_wp2_with fail
    refine CX.mono ?_
    rintro e w1 ⟨rfl, hb1⟩
    go_wp2_with fail
    go_ret2
    exact ⟨by rw [HR.out]; rfl, hb1⟩
end Go.Proofs.YtkinoehmcfhgbaaGreatDoor.Vl
