/-
  The walk of the document's own Read: a text's tokens, the error, the place.
-/
import Derived.Test.YtkinoehmcfhgbaaLook
set_option linter.unusedVariables false
set_option linter.unusedSimpArgs false
namespace Go.Proofs.Ytkinoehmcfhgbaa.Av
open Go.RowKit

theorem toks_mem (f : Nat) : ∀ (i : Nat) (l : List UInt8) (t : List UInt8) (j : Nat), (t, j) ∈ toks f i l → t.length ≤ l.length := by
  induction f with
  | zero => intro i l t j h; simp [toks] at h
  | succ f ih =>
    intro i l t j h
    cases l with
    | nil => simp [toks] at h
    | cons a r =>
      simp only [toks] at h
      split at h
      · have := ih _ _ _ _ h; simp; omega
      · rw [List.mem_cons] at h
        rcases h with h | h
        · injection h with h1 _; subst h1; rw [List.length_take]; omega
        · have := ih _ _ _ _ h; simp at this ⊢; omega

theorem runM_zero (len : Nat) (l : List (List UInt8 × Nat)) : ∀ st d, (runM len l st d).1 = 0 → (runM len l st d).2 = 0 := by
  induction l with
  | nil => intro st d; simp only [runM]; split <;> simp
  | cons a r ih =>
    obtain ⟨t, i⟩ := a
    intro st d
    rw [runM_step]
    split
    · simp
    · repeat' split
      all_goals first | (simp; done) | exact ih _ _

set_option maxRecDepth 100000 in
set_option maxHeartbeats 1000000 in
theorem looked_nil (s : ByteArray) (w : World) (hs : s.size ≤ 300) :
    Calls Try.prog 25 #[.string s, .slice none 0 0] w fun e w' => e = .returned (.tuple #[.int .i64 2, .int .i64 (s.size : Int)]) ∧ Below w.heap.size w w' := by
  have C0 : Hid (∀ a b c d e f, Calls Try.prog 43 #[.slice none 0 0, .slice (some ⟨w.heap.size, 0, none⟩) 6 6] (w.alloc (.cells #[.string a, .string b, .string c, .string d, .string e, .string f] 9)) fun e' w' => ∃ v', e' = .returned v' ∧ Stk w' v' (a.data.toList :: b.data.toList :: c.data.toList :: d.data.toList :: e.data.toList :: f.data.toList :: []) ∧ Below w.heap.size w w') := fun a b c d e f => push6 _ [] w a b c d e f (Or.inl ⟨rfl, rfl⟩) (by simp)
  go_enter Try.func25, Try.ntmps25
  go_wp2_with (go_at_call 43; refine (C0.out _ _ _ _ _ _).mono ?_; rintro e w1 ⟨v1, rfl, hs1, hb1⟩)
  go_loopw [6, 7, 8, 9, 10, 11, 12, 13] (fun v dv iv _ _ _ _ _ wr => Stk wr v st0 ∧ iv = .int .i64 0 ∧ Below w.heap.size w wr) (fun _ _ iv _ _ _ _ _ _ => 0)
  case atStart => exact ⟨hs1, rfl, hb1⟩
  case round =>
    obtain ⟨hst, rfl, hnx⟩ := hrel
    have C1 : Hid (∀ b : ByteArray, Calls Try.prog 44 #[u6, .string b] wr fun e w' => OpnEnd wr (opn b.data.toList st0 0) e w') := fun b => opens_any b _ st0 wr hst (by decide)
    go_wp2_with fail
    refine (C1.out _).mono ?_
    rintro e w2 ⟨v2, rfl, hs2, hb2⟩
    have hs3 : Stk w2 v2 ([102, 114, 111, 109] :: [cFormula, [100, 111], cCommands, [116, 111], cFormula]) := hs2
    clear hs2
    have hnx2 := hnx.trans (hb2.mono hnx.size)
    generalize (opn (ByteArray.mk #[]).data.toList st0 0).2 = n at *
    obtain ⟨b2, cap2, rfl, hcp, hcm, _, _, _⟩ := hs3.top
    unfold maxLen at hcm
    go_wp2_with fail
    go_ret2
    exact ⟨rfl, hnx2⟩

theorem looked_any (s : ByteArray) (v : Value) (l : List (List UInt8 × Nat)) (w : World) (h : Tk2 w v l) (hs : s.size ≤ 300) (hl : l.length ≤ 300) (hsz : ∀ t i, (t, i) ∈ l → t.length ≤ 300) :
    Calls Try.prog 25 #[.string s, v] w fun e w' => e = .returned (.tuple #[.int .i64 (runM s.size l st0 0).1, .int .i64 (runM s.size l st0 0).2]) ∧ Below w.heap.size w w' := by
  have h' := h
  rcases h with ⟨rfl, rfl⟩ | ⟨g, cap, rfl, _⟩
  · exact looked_nil s w hs
  · exact looked_some s g cap l w h' hs hl hsz

/-- What the document answers of a text of at most 300 bytes: the error, the place. -/
def want (s : ByteArray) : Int × Int := runM s.size (tokAt 0 (rest s 0)) st0 0

set_option maxRecDepth 100000 in
set_option maxHeartbeats 1000000 in
theorem read_any (s : ByteArray) (w : World) (hs : s.size ≤ 300) :
    Calls Try.prog 13 #[.string s] w fun e w' => ∃ v, e = .returned (.tuple #[v, .int .i64 (want s).1, .int .i64 (want s).2]) ∧ ((want s).1 = 0 → Tk2 w' v (tokAt 0 (rest s 0))) ∧ Below w.heap.size w w' := by
  have hll : (tokAt 0 (rest s 0)).length ≤ 300 := by have := tokAt_len 0 (rest s 0); rw [rest_len] at this; omega
  have hmm : ∀ t i, (t, i) ∈ tokAt 0 (rest s 0) → t.length ≤ 300 := fun t i h => by
    have := toks_mem _ _ _ _ _ h; rw [rest_len] at this; omega
  have C1 : Hid (Calls Try.prog 24 #[.string s] w fun e w' => ∃ v, e = .returned v ∧ w'.ownsRow w.heap.size 106 2 v (tokAt 0 (rest s 0)).length (cells2 (tokAt 0 (rest s 0))) ∧ Below w.heap.size w w') := tokens_any s w hs
  have C2 : Hid (∀ (v : Value) (w : World), Tk2 w v (tokAt 0 (rest s 0)) → Calls Try.prog 25 #[.string s, v] w fun e w' => e = .returned (.tuple #[.int .i64 (want s).1, .int .i64 (want s).2]) ∧ Below w.heap.size w w') := fun v w h => looked_any s v _ w h hs hll hmm
  have H0 : Hid ((want s).1 = 0 → (want s).2 = 0) := runM_zero _ _ _ _
  clear hll hmm
  generalize want s = R at *
  generalize tokAt 0 (rest s 0) = T at *
  obtain ⟨R1, R2⟩ := R
  simp only at C2 H0 ⊢
  by_cases hR : R1 = 0
  · have HR : Hid (R2 = 0) := H0.out hR
    subst hR
    go_enter Try.func13, Try.ntmps13
    go_wp2_with (first | (go_at_call 24; refine C1.out.mono ?_; rintro e w1 ⟨v1, rfl, ho1, hb1⟩) | (go_at_call 25; refine (C2.out _ _ (own_tk2 ho1)).mono ?_; rintro e w2 ⟨rfl, hb2⟩))
    go_ret3
    exact ⟨v1, by rw [HR.out]; rfl, fun _ => (own_tk2 ho1).below hb2, hb1.trans (hb2.mono hb1.size)⟩
  · have hR' : (R1 != 0) = true := by simpa using hR
    go_enter Try.func13, Try.ntmps13
    go_wp2_with (first | (go_at_call 24; refine C1.out.mono ?_; rintro e w1 ⟨v1, rfl, ho1, hb1⟩) | (go_at_call 25; refine (C2.out _ _ (own_tk2 ho1)).mono ?_; rintro e w2 ⟨rfl, hb2⟩))
    go_ret3
    exact ⟨.slice none 0 0, rfl, fun h => absurd h hR, hb1.trans (hb2.mono hb1.size)⟩

set_option maxHeartbeats 400000 in
theorem read_long (s : ByteArray) (w : World) (hs : ¬ s.size ≤ 300) :
    Calls Try.prog 13 #[.string s] w fun e w' => e = .returned (.tuple #[.slice none 0 0, .int .i64 1, .int .i64 0]) ∧ w' = w := by
  have h : (300 : Int) < (s.size : Int) := by omega
  go_enter Try.func13, Try.ntmps13
  go_wp2_with fail
  go_ret3
  exact ⟨rfl, rfl⟩

end Go.Proofs.Ytkinoehmcfhgbaa.Av
