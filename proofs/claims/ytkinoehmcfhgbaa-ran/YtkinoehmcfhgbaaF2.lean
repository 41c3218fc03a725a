/-
  Runs: plain words alone.
  The walk of the document's own Read: a text's tokens, the error, the place.
  The walks of the document's readers of a program's tokens: s, term, letter.
  The walks of the parser's methods addend, term, relation: with what they read.
  Formulas and commands as they lie in memory.
-/
import Derived.Test.YtkinoehmcfhgbaaFin
import Derived.Test.YtkinoehmcfhgbaaPush
import Derived.Deep.MidRow
set_option linter.unusedVariables false
set_option linter.unusedSimpArgs false
namespace Go.Proofs.Ytkinoehmcfhgbaa.Vl
open Go.RowKit
open Go.Proofs.Ytkinoehmcfhgbaa.Av (Fm Cm)

/-- A run: the four variables, the steps, how it has ended (-1: it has not). -/
structure RS where
  x1 : Int
  x2 : Int
  x3 : Int
  x4 : Int
  n : Int
  e : Int
def RS.ev (s : RS) (f : Fm) : Bool := Vl.ev s.x1 s.x2 s.x3 s.x4 f
def RS.tv (s : RS) (t : Int × Int) : Int := Vl.tv s.x1 s.x2 s.x3 s.x4 t
def RS.set (s : RS) (x v : Int) : RS := if x = 0 then { s with x1 := v } else if x = 1 then { s with x2 := v } else if x = 2 then { s with x3 := v } else { s with x4 := v }
def stp (fuel : Int) (s : RS) : RS := if s.n = fuel then { s with e := 1 } else { s with n := s.n + 1 }
def asgn (fuel : Int) (x : Int) (t : Int × Int) (s : RS) : RS :=
  if s.n = fuel then { s with e := 1 } else if gd (s.tv t) then { s.set x (s.tv t) with n := s.n + 1 } else { s with e := 2 }
def whl (fuel : Int) (f : Fm) (body : RS → RS) : Nat → RS → RS
  | 0, s => s
  | m + 1, s => if 0 ≤ (stp fuel s).e then stp fuel s else if (stp fuel s).ev f then (if 0 ≤ (body (stp fuel s)).e then body (stp fuel s) else whl fuel f body m (body (stp fuel s))) else stp fuel s
def ex (fuel : Int) : Cm → RS → RS
  | .skip, s => stp fuel s
  | .asg x t, s => asgn fuel x t s
  | .ite f a b, s => if 0 ≤ (stp fuel s).e then stp fuel s else if (stp fuel s).ev f then ex fuel a (stp fuel s) else ex fuel b (stp fuel s)
  | .loop f g a, s => whl fuel f (ex fuel a) (fuel.toNat + 1) s
  | .seq a b, s => if 0 ≤ (ex fuel a s).e then ex fuel a s else ex fuel b (ex fuel a s)
/-- What is so of a run that goes on, or has ended. -/
def Inv (fuel : Int) (s : RS) : Prop := 0 ≤ s.n ∧ s.n ≤ fuel ∧ gds s.x1 s.x2 s.x3 s.x4 = true ∧ -1 ≤ s.e ∧ s.e ≤ 2
theorem inv_stp {fuel : Int} {s : RS} (h : Inv fuel s) : Inv fuel (stp fuel s) ∧ s.n ≤ (stp fuel s).n ∧ ((stp fuel s).e < 0 → (stp fuel s).n = s.n + 1) := by
  obtain ⟨h1, h2, h3, h4, h5⟩ := h
  unfold stp
  split
  · exact ⟨⟨h1, h2, h3, by dsimp only; decide, by dsimp only; decide⟩, Int.le_refl _, fun h => by dsimp only at h; omega⟩
  · exact ⟨⟨by dsimp only; omega, by dsimp only; omega, h3, h4, h5⟩, by dsimp only; omega, fun _ => rfl⟩
theorem gds_set {s : RS} {x v : Int} (h : gds s.x1 s.x2 s.x3 s.x4 = true) (hv : gd v = true) : gds (s.set x v).x1 (s.set x v).x2 (s.set x v).x3 (s.set x v).x4 = true := by
  unfold gds at *
  simp only [Bool.and_eq_true] at *
  obtain ⟨a, b, c, d⟩ := h
  unfold RS.set
  split
  · exact ⟨hv, b, c, d⟩
  · split
    · exact ⟨a, hv, c, d⟩
    · split
      · exact ⟨a, b, hv, d⟩
      · exact ⟨a, b, c, hv⟩
theorem set_n (s : RS) (x v : Int) : (s.set x v).n = s.n ∧ (s.set x v).e = s.e := by
  unfold RS.set
  split
  · exact ⟨rfl, rfl⟩
  · split
    · exact ⟨rfl, rfl⟩
    · split <;> exact ⟨rfl, rfl⟩
theorem inv_asgn {fuel : Int} {s : RS} (h : Inv fuel s) (x : Int) (t : Int × Int) : Inv fuel (asgn fuel x t s) ∧ s.n ≤ (asgn fuel x t s).n := by
  obtain ⟨h1, h2, h3, h4, h5⟩ := h
  have hs := set_n s x (s.tv t)
  unfold asgn
  split
  · exact ⟨⟨h1, h2, h3, by dsimp only; decide, by dsimp only; decide⟩, Int.le_refl _⟩
  · split
    · rename_i hv
      exact ⟨⟨by dsimp only; omega, by dsimp only; omega, gds_set h3 hv, by dsimp only; omega, by dsimp only; omega⟩, by dsimp only; omega⟩
    · exact ⟨⟨h1, h2, h3, by dsimp only; decide, by dsimp only; decide⟩, Int.le_refl _⟩
theorem inv_whl {fuel : Int} {f : Fm} {body : RS → RS} (hb : ∀ s, Inv fuel s → Inv fuel (body s) ∧ s.n ≤ (body s).n) : ∀ (m : Nat) (s : RS), Inv fuel s → Inv fuel (whl fuel f body m s) ∧ s.n ≤ (whl fuel f body m s).n
  | 0, s, h => ⟨h, Int.le_refl _⟩
  | m + 1, s, h => by
    have h1 := inv_stp h
    have h2 := hb _ h1.1
    simp only [whl]
    split
    · exact ⟨h1.1, h1.2.1⟩
    · split
      · split
        · exact ⟨h2.1, by omega⟩
        · have h3 := inv_whl (f := f) hb m _ h2.1
          exact ⟨h3.1, by omega⟩
      · exact ⟨h1.1, h1.2.1⟩
theorem inv_ex {fuel : Int} : ∀ (c : Cm) (s : RS), Inv fuel s → Inv fuel (ex fuel c s) ∧ s.n ≤ (ex fuel c s).n
  | .skip, s, h => ⟨(inv_stp h).1, (inv_stp h).2.1⟩
  | .asg x t, s, h => inv_asgn h x t
  | .ite f a b, s, h => by
    have h1 := inv_stp h
    have h2 := inv_ex a _ h1.1
    have h3 := inv_ex b _ h1.1
    simp only [ex]
    split
    · exact ⟨h1.1, h1.2.1⟩
    · split
      · exact ⟨h2.1, by omega⟩
      · exact ⟨h3.1, by omega⟩
  | .loop f g a, s, h => inv_whl (fun s hs => inv_ex a s hs) _ s h
  | .seq a b, s, h => by
    have h1 := inv_ex a s h
    have h2 := inv_ex b _ h1.1
    simp only [ex]
    split
    · exact h1
    · exact ⟨h2.1, by omega⟩
/-- Enough rounds are enough. -/
theorem whl_more {fuel : Int} {f : Fm} {body : RS → RS} (hb : ∀ s, Inv fuel s → Inv fuel (body s) ∧ s.n ≤ (body s).n) : ∀ (m k : Nat) (s : RS), Inv fuel s → fuel - s.n < m → fuel - s.n < k → whl fuel f body m s = whl fuel f body k s
  | 0, k, s, h, hm, hk => by have := h.2.1; omega
  | m + 1, 0, s, h, hm, hk => by have := h.2.1; omega
  | m + 1, k + 1, s, h, hm, hk => by
    have h1 := inv_stp h
    have h2 := hb _ h1.1
    simp only [whl]
    split
    · rfl
    · rename_i hs
      have h3 := h1.2.2 (by omega)
      split
      · split
        · rfl
        · exact whl_more hb m k _ h2.1 (by omega) (by omega)
      · rfl
/-- One round of a loop, whatever has gone ahead of it. -/
theorem whl_step {fuel : Int} {f : Fm} {body : RS → RS} (hb : ∀ s, Inv fuel s → Inv fuel (body s) ∧ s.n ≤ (body s).n) (s : RS) (h : Inv fuel s) : whl fuel f body (fuel.toNat + 1) s =
    if 0 ≤ (stp fuel s).e then stp fuel s else if (stp fuel s).ev f then (if 0 ≤ (body (stp fuel s)).e then body (stp fuel s) else whl fuel f body (fuel.toNat + 1) (body (stp fuel s))) else stp fuel s := by
  have h1 := inv_stp h
  have h2 := hb _ h1.1
  have hn := h.1
  have hn2 := h.2.1
  rw [whl]
  split
  · rfl
  · rename_i hs
    have h3 := h1.2.2 (by omega)
    split
    · split
      · rfl
      · exact whl_more hb fuel.toNat (fuel.toNat + 1) _ h2.1 (by omega) (by omega)
    · rfl
/-- How a run has ended, as it is answered: 0 where it has come to its end. -/
def kn (s : RS) : Int := if s.e < 0 then 0 else s.e
end Go.Proofs.Ytkinoehmcfhgbaa.Vl
set_option linter.unusedVariables false
set_option linter.unusedSimpArgs false
namespace Go.Proofs.Ytkinoehmcfhgbaa.Av
open Go.RowKit

theorem toks_mem (f : Nat) : ∀ (i : Nat) (l : List UInt8) (t : List UInt8) (j : Nat), (t, j) ∈ toks f i l → t.length ≤ l.length := by
  induction f with
  | zero => intro i l t j h; simp [toks] at h
  | succ f ih =>
    intro i l t j h
    cases l with
    | nil => simp [toks] at h
    | cons a r =>
      simp only [toks] at h
      split at h
      · have := ih _ _ _ _ h; simp; omega
      · rw [List.mem_cons] at h
        rcases h with h | h
        · injection h with h1 _; subst h1; rw [List.length_take]; omega
        · have := ih _ _ _ _ h; simp at this ⊢; omega

theorem runM_zero (len : Nat) (l : List (List UInt8 × Nat)) : ∀ st d, (runM len l st d).1 = 0 → (runM len l st d).2 = 0 := by
  induction l with
  | nil => intro st d; simp only [runM]; split <;> simp
  | cons a r ih =>
    obtain ⟨t, i⟩ := a
    intro st d
    rw [runM_step]
    split
    · simp
    · repeat' split
      all_goals first | (simp; done) | exact ih _ _

set_option maxRecDepth 100000 in
set_option maxHeartbeats 1000000 in
theorem looked_nil (s : ByteArray) (w : World) (hs : s.size ≤ 300) :
    Calls Try.prog 25 #[.string s, .slice none 0 0] w fun e w' => e = .returned (.tuple #[.int .i64 2, .int .i64 (s.size : Int)]) ∧ Below w.heap.size w w' := by
  have C0 : Hid (∀ a b c d e f, Calls Try.prog 43 #[.slice none 0 0, .slice (some ⟨w.heap.size, 0, none⟩) 6 6] (w.alloc (.cells #[.string a, .string b, .string c, .string d, .string e, .string f] 9)) fun e' w' => ∃ v', e' = .returned v' ∧ Stk w' v' (a.data.toList :: b.data.toList :: c.data.toList :: d.data.toList :: e.data.toList :: f.data.toList :: []) ∧ Below w.heap.size w w') := fun a b c d e f => push6 _ [] w a b c d e f (Or.inl ⟨rfl, rfl⟩) (by simp)
  go_enter Try.func25, Try.ntmps25
  go_wp2_with (go_at_call 43; refine (C0.out _ _ _ _ _ _).mono ?_; rintro e w1 ⟨v1, rfl, hs1, hb1⟩)
  go_loopw [6, 7, 8, 9, 10, 11, 12, 13] (fun v dv iv _ _ _ _ _ wr => Stk wr v st0 ∧ iv = .int .i64 0 ∧ Below w.heap.size w wr) (fun _ _ iv _ _ _ _ _ _ => 0)
  case atStart => exact ⟨hs1, rfl, hb1⟩
  case round =>
    obtain ⟨hst, rfl, hnx⟩ := hrel
    have C1 : Hid (∀ b : ByteArray, Calls Try.prog 44 #[u6, .string b] wr fun e w' => OpnEnd wr (opn b.data.toList st0 0) e w') := fun b => opens_any b _ st0 wr hst (by decide)
    go_wp2_with fail
    refine (C1.out _).mono ?_
    rintro e w2 ⟨v2, rfl, hs2, hb2⟩
    have hs3 : Stk w2 v2 ([102, 114, 111, 109] :: [cFormula, [100, 111], cCommands, [116, 111], cFormula]) := hs2
    clear hs2
    have hnx2 := hnx.trans (hb2.mono hnx.size)
    generalize (opn (ByteArray.mk #[]).data.toList st0 0).2 = n at *
    obtain ⟨b2, cap2, rfl, hcp, hcm, _, _, _⟩ := hs3.top
    unfold maxLen at hcm
    go_wp2_with fail
    go_ret2
    exact ⟨rfl, hnx2⟩

theorem looked_any (s : ByteArray) (v : Value) (l : List (List UInt8 × Nat)) (w : World) (h : Tk2 w v l) (hs : s.size ≤ 300) (hl : l.length ≤ 300) (hsz : ∀ t i, (t, i) ∈ l → t.length ≤ 300) :
    Calls Try.prog 25 #[.string s, v] w fun e w' => e = .returned (.tuple #[.int .i64 (runM s.size l st0 0).1, .int .i64 (runM s.size l st0 0).2]) ∧ Below w.heap.size w w' := by
  have h' := h
  rcases h with ⟨rfl, rfl⟩ | ⟨g, cap, rfl, _⟩
  · exact looked_nil s w hs
  · exact looked_some s g cap l w h' hs hl hsz

/-- What the document answers of a text of at most 300 bytes: the error, the place. -/
def want (s : ByteArray) : Int × Int := runM s.size (tokAt 0 (rest s 0)) st0 0

set_option maxRecDepth 100000 in
set_option maxHeartbeats 1000000 in
theorem read_any (s : ByteArray) (w : World) (hs : s.size ≤ 300) :
    Calls Try.prog 13 #[.string s] w fun e w' => ∃ v, e = .returned (.tuple #[v, .int .i64 (want s).1, .int .i64 (want s).2]) ∧ ((want s).1 = 0 → Tk2 w' v (tokAt 0 (rest s 0))) ∧ Below w.heap.size w w' := by
  have hll : (tokAt 0 (rest s 0)).length ≤ 300 := by have := tokAt_len 0 (rest s 0); rw [rest_len] at this; omega
  have hmm : ∀ t i, (t, i) ∈ tokAt 0 (rest s 0) → t.length ≤ 300 := fun t i h => by
    have := toks_mem _ _ _ _ _ h; rw [rest_len] at this; omega
  have C1 : Hid (Calls Try.prog 24 #[.string s] w fun e w' => ∃ v, e = .returned v ∧ w'.ownsRow w.heap.size 106 2 v (tokAt 0 (rest s 0)).length (cells2 (tokAt 0 (rest s 0))) ∧ Below w.heap.size w w') := tokens_any s w hs
  have C2 : Hid (∀ (v : Value) (w : World), Tk2 w v (tokAt 0 (rest s 0)) → Calls Try.prog 25 #[.string s, v] w fun e w' => e = .returned (.tuple #[.int .i64 (want s).1, .int .i64 (want s).2]) ∧ Below w.heap.size w w') := fun v w h => looked_any s v _ w h hs hll hmm
  have H0 : Hid ((want s).1 = 0 → (want s).2 = 0) := runM_zero _ _ _ _
  clear hll hmm
  generalize want s = R at *
  generalize tokAt 0 (rest s 0) = T at *
  obtain ⟨R1, R2⟩ := R
  simp only at C2 H0 ⊢
  by_cases hR : R1 = 0
  · have HR : Hid (R2 = 0) := H0.out hR
    subst hR
    go_enter Try.func13, Try.ntmps13
    go_wp2_with (first | (go_at_call 24; refine C1.out.mono ?_; rintro e w1 ⟨v1, rfl, ho1, hb1⟩) | (go_at_call 25; refine (C2.out _ _ (own_tk2 ho1)).mono ?_; rintro e w2 ⟨rfl, hb2⟩))
    go_ret3
    exact ⟨v1, by rw [HR.out]; rfl, fun _ => (own_tk2 ho1).below hb2, hb1.trans (hb2.mono hb1.size)⟩
  · have hR' : (R1 != 0) = true := by simpa using hR
    go_enter Try.func13, Try.ntmps13
    go_wp2_with (first | (go_at_call 24; refine C1.out.mono ?_; rintro e w1 ⟨v1, rfl, ho1, hb1⟩) | (go_at_call 25; refine (C2.out _ _ (own_tk2 ho1)).mono ?_; rintro e w2 ⟨rfl, hb2⟩))
    go_ret3
    exact ⟨.slice none 0 0, rfl, fun h => absurd h hR, hb1.trans (hb2.mono hb1.size)⟩

set_option maxHeartbeats 400000 in
theorem read_long (s : ByteArray) (w : World) (hs : ¬ s.size ≤ 300) :
    Calls Try.prog 13 #[.string s] w fun e w' => e = .returned (.tuple #[.slice none 0 0, .int .i64 1, .int .i64 0]) ∧ w' = w := by
  have h : (300 : Int) < (s.size : Int) := by omega
  go_enter Try.func13, Try.ntmps13
  go_wp2_with fail
  go_ret3
  exact ⟨rfl, rfl⟩

end Go.Proofs.Ytkinoehmcfhgbaa.Av
set_option linter.unusedVariables false
set_option linter.unusedSimpArgs false
namespace Go.Proofs.Ytkinoehmcfhgbaa.Vl
open Go.RowKit
open Go.Proofs.Ytkinoehmcfhgbaa.Av (vr rvariable_any Fm Rd Tg sAt trm trm_range rel rel_range vr_range)

/-- A program's tokens as they lie in memory. -/
def CodeAt (w : World) (cb : Nat) (toks : List (List UInt8 × Nat)) : Prop :=
  ∃ g cap, w.cell? ⟨cb, 0, none⟩ = some (.slice (some ⟨g, 0, none⟩) toks.length cap) ∧ toks.length ≤ cap ∧ cap ≤ maxLen ∧ g < w.heap.size ∧ cb < w.heap.size ∧ ∀ j t, toks[j]? = some t → w.cell? ⟨g, j * 2, none⟩ = some (.string ⟨t.1.toArray⟩)
theorem CodeAt.below {w w' : World} {cb : Nat} {toks : List (List UInt8 × Nat)} (h : CodeAt w cb toks) (hb : Below w.heap.size w w') : CodeAt w' cb toks := by
  obtain ⟨g, cap, h1, h2, h3, h4, h5, h6⟩ := h
  exact ⟨g, cap, (hb.cell (p := ⟨cb, 0, none⟩) h5).trans h1, h2, h3, Nat.lt_of_lt_of_le h4 hb.size, Nat.lt_of_lt_of_le h5 hb.size, fun j t ht => (hb.cell (p := ⟨g, j * 2, none⟩) h4).trans (h6 j t ht)⟩

set_option maxRecDepth 100000 in
set_option maxHeartbeats 1000000 in
theorem code_s (toks : List (List UInt8 × Nat)) (cb k : Nat) (w : World) (h : CodeAt w cb toks) (hk : k ≤ 2000) :
    Calls Try.prog 33 #[.pointer (some ⟨cb, 0, none⟩), .int .i64 (k : Int)] w fun e w' => e = .returned (.string ⟨(sAt toks k).toArray⟩) ∧ w = w' := by
  obtain ⟨g, cap, h1, h2, h3, h4, h5, h6⟩ := h
  by_cases hlt : k < toks.length
  · obtain ⟨t, ht⟩ : ∃ t, toks[k]? = some t := ⟨_, List.getElem?_eq_getElem hlt⟩
    have c1 := h6 k t ht
    have HS : Hid (sAt toks k = t.1) := by show _ = _; unfold sAt; rw [ht]; rfl
    have hlt' : (k : Int) < (toks.length : Int) := by omega
    clear h6 ht
    generalize t.1 = T at *
    go_enter Try.func33, Try.ntmps33
    go_wp2
    go_ret
    exact ⟨by rw [HS.out]; rfl, rfl⟩
  · have HS : Hid (sAt toks k = []) := by show _ = _; unfold sAt; rw [List.getElem?_eq_none (by omega)]; rfl
    have hlt' : ¬ (k : Int) < (toks.length : Int) := by omega
    clear h6
    go_enter Try.func33, Try.ntmps33
    go_wp2
    go_ret
    exact ⟨by rw [HS.out]; rfl, rfl⟩

theorem str_toList (l : List UInt8) : (⟨l.toArray⟩ : ByteArray).toList = l := by rw [ByteArray.toList_eq]
theorem trm_plus {toks : List (List UInt8 × Nat)} {k : Nat} (h1 : 0 ≤ vr (sAt toks k)) (h2 : (sAt toks (k + 1) == [43]) = true) : trm toks k = (vr (sAt toks k), Av.dg 999 (sAt toks (k + 2)), k + 3) := by
  unfold trm; rw [if_pos h1, if_pos h2]
theorem trm_minus {toks : List (List UInt8 × Nat)} {k : Nat} (h1 : 0 ≤ vr (sAt toks k)) (h2 : (sAt toks (k + 1) == [43]) = false) (h3 : (sAt toks (k + 1) == [45]) = true) : trm toks k = (vr (sAt toks k), -Av.dg 999 (sAt toks (k + 2)), k + 3) := by
  unfold trm; rw [if_pos h1, h2, if_neg (by decide), if_pos h3]
theorem trm_var {toks : List (List UInt8 × Nat)} {k : Nat} (h1 : 0 ≤ vr (sAt toks k)) (h2 : (sAt toks (k + 1) == [43]) = false) (h3 : (sAt toks (k + 1) == [45]) = false) : trm toks k = (vr (sAt toks k), 0, k + 1) := by
  unfold trm; rw [if_pos h1, h2, if_neg (by decide), h3, if_neg (by decide)]
theorem trm_neg {toks : List (List UInt8 × Nat)} {k : Nat} (h1 : ¬ 0 ≤ vr (sAt toks k)) (h2 : (sAt toks k == [45]) = true) : trm toks k = (-1, -Av.dg 999 (sAt toks (k + 1)), k + 2) := by
  unfold trm; rw [if_neg h1, if_pos h2]
theorem trm_num {toks : List (List UInt8 × Nat)} {k : Nat} (h1 : ¬ 0 ≤ vr (sAt toks k)) (h2 : (sAt toks k == [45]) = false) : trm toks k = (-1, Av.dg 999 (sAt toks k), k + 1) := by
  unfold trm; rw [if_neg h1, h2, if_neg (by decide)]

set_option maxRecDepth 100000 in
set_option maxHeartbeats 2000000 in
theorem code_term (toks : List (List UInt8 × Nat)) (cb k : Nat) (w : World) (h : CodeAt w cb toks) (hk : k ≤ 1000) (hl : ∀ j, (sAt toks j).length ≤ 300) :
    Calls Try.prog 49 #[.pointer (some ⟨cb, 0, none⟩), .int .i64 (k : Int)] w fun e w' => e = .returned (.tuple #[.int .i64 (trm toks k).1, .int .i64 (trm toks k).2.1, .int .i64 ((trm toks k).2.2 : Int)]) ∧ w = w' := by
  have CS : Hid (∀ j : Nat, j ≤ 2000 → Calls Try.prog 33 #[.pointer (some ⟨cb, 0, none⟩), .int .i64 (j : Int)] w fun e w' => e = .returned (.string ⟨(sAt toks j).toArray⟩) ∧ w = w') := fun j hj => code_s toks cb j w h hj
  have CS1 : Hid (Calls Try.prog 33 #[.pointer (some ⟨cb, 0, none⟩), .int .i64 ((k : Int) + 1)] w fun e w' => e = .returned (.string ⟨(sAt toks (k + 1)).toArray⟩) ∧ w = w') := CS.out (k + 1) (by omega)
  have CS2 : Hid (Calls Try.prog 33 #[.pointer (some ⟨cb, 0, none⟩), .int .i64 ((k : Int) + 2)] w fun e w' => e = .returned (.string ⟨(sAt toks (k + 2)).toArray⟩) ∧ w = w') := CS.out (k + 2) (by omega)
  have CV : Hid (∀ l : List UInt8, Calls Try.prog 50 #[.string ⟨l.toArray⟩] w fun e w' => e = .returned (.int .i64 (vr l)) ∧ w = w') := fun l => (rvariable_any ⟨l.toArray⟩ w).mono fun e w' h => by
    have e1 : (⟨l.toArray⟩ : ByteArray).data.toList = l := by simp
    refine ⟨?_, ?_⟩
    · first | (rw [h.1, e1]) | (rw [h.1]; simp)
    · first | exact h.2 | exact h.2.symm
  have CD : Hid (∀ j : Nat, Calls Try.prog 65 #[.string ⟨(sAt toks j).toArray⟩, .int .i64 999] w fun e w' => e = .returned (.int .i64 (Av.dg 999 (sAt toks j))) ∧ w = w') := fun j => (Av.digits_any ⟨(sAt toks j).toArray⟩ w 999 (by have := hl j; show (sAt toks j).toArray.size ≤ 300; simp; omega) (by omega) (by omega)).mono fun e w' h => by
    have e1 : (⟨(sAt toks j).toArray⟩ : ByteArray).data.toList = sAt toks j := by simp
    refine ⟨?_, ?_⟩
    · first | (rw [h.1, e1]) | (rw [h.1]; simp) | (rw [h.1]; rfl)
    · first | exact h.2 | exact h.2.symm
  have d0 := Av.dg_range 999 (by omega) (sAt toks k)
  have d1 := Av.dg_range 999 (by omega) (sAt toks (k + 1))
  have d2 := Av.dg_range 999 (by omega) (sAt toks (k + 2))
  have hv9 := vr_range (sAt toks k)
  have D0 := CD.out k
  have D1 := CD.out (k + 1)
  have D2 := CD.out (k + 2)
  clear h hl
  have CS0 : Hid (Calls Try.prog 33 #[.pointer (some ⟨cb, 0, none⟩), .int .i64 (k : Int)] w fun e w' => e = .returned (.string ⟨(sAt toks k).toArray⟩) ∧ w = w') := CS.out k (by omega)
  clear CS
  by_cases hv : 0 ≤ vr (sAt toks k)
  · cases hp : (sAt toks (k + 1) == [43])
    · cases hm : (sAt toks (k + 1) == [45])
      · have HT : Hid (trm toks k = _) := trm_var hv hp hm
        have HV := CV.out (sAt toks k)
        generalize trm toks k = R at *
        generalize Av.dg 999 (sAt toks (k + 2)) = N2 at *
        generalize vr (sAt toks k) = V at *
        go_enter Try.func49, Try.ntmps49
        go_wp2_with fail
        refine CS0.out.mono ?_
        rintro e w1 ⟨rfl, rfl⟩
        go_wp2_with fail
        refine HV.mono ?_
        rintro e w1 ⟨rfl, rfl⟩
        go_wp2_with fail
        refine CS2.out.mono ?_
        rintro e w1 ⟨rfl, rfl⟩
        go_wp2_with fail
        refine D2.mono ?_
        rintro e w1 ⟨rfl, rfl⟩
        go_wp2_with fail
        refine CS1.out.mono ?_
        rintro e w1 ⟨rfl, rfl⟩
        go_wp2_with fail
        go_ret3
        exact ⟨by rw [HT.out]; rfl, rfl⟩
      · have HT : Hid (trm toks k = _) := trm_minus hv hp hm
        have HV := CV.out (sAt toks k)
        generalize trm toks k = R at *
        generalize Av.dg 999 (sAt toks (k + 2)) = N2 at *
        generalize vr (sAt toks k) = V at *
        go_enter Try.func49, Try.ntmps49
        go_wp2_with fail
        refine CS0.out.mono ?_
        rintro e w1 ⟨rfl, rfl⟩
        go_wp2_with fail
        refine HV.mono ?_
        rintro e w1 ⟨rfl, rfl⟩
        go_wp2_with fail
        refine CS2.out.mono ?_
        rintro e w1 ⟨rfl, rfl⟩
        go_wp2_with fail
        refine D2.mono ?_
        rintro e w1 ⟨rfl, rfl⟩
        go_wp2_with fail
        refine CS1.out.mono ?_
        rintro e w1 ⟨rfl, rfl⟩
        go_wp2_with fail
        go_ret3
        exact ⟨by rw [HT.out]; rfl, rfl⟩
    · have HT : Hid (trm toks k = _) := trm_plus hv hp
      have HV := CV.out (sAt toks k)
      generalize trm toks k = R at *
      generalize Av.dg 999 (sAt toks (k + 2)) = N2 at *
      generalize vr (sAt toks k) = V at *
      go_enter Try.func49, Try.ntmps49
      go_wp2_with fail
      refine CS0.out.mono ?_
      rintro e w1 ⟨rfl, rfl⟩
      go_wp2_with fail
      refine HV.mono ?_
      rintro e w1 ⟨rfl, rfl⟩
      go_wp2_with fail
      refine CS2.out.mono ?_
      rintro e w1 ⟨rfl, rfl⟩
      go_wp2_with fail
      refine D2.mono ?_
      rintro e w1 ⟨rfl, rfl⟩
      go_wp2_with fail
      refine CS1.out.mono ?_
      rintro e w1 ⟨rfl, rfl⟩
      go_wp2_with fail
      go_ret3
      exact ⟨by rw [HT.out]; rfl, rfl⟩
  · cases hp : (sAt toks k == [45])
    · have HT : Hid (trm toks k = _) := trm_num hv hp
      have HV := CV.out (sAt toks k)
      generalize trm toks k = R at *
      generalize Av.dg 999 (sAt toks k) = N0 at *
      generalize vr (sAt toks k) = V at *
      go_enter Try.func49, Try.ntmps49
      go_wp2_with fail
      refine CS0.out.mono ?_
      rintro e w1 ⟨rfl, rfl⟩
      go_wp2_with fail
      refine HV.mono ?_
      rintro e w1 ⟨rfl, rfl⟩
      go_wp2_with fail
      refine CS0.out.mono ?_
      rintro e w1 ⟨rfl, rfl⟩
      go_wp2_with fail
      refine CS0.out.mono ?_
      rintro e w1 ⟨rfl, rfl⟩
      go_wp2_with fail
      refine D0.mono ?_
      rintro e w1 ⟨rfl, rfl⟩
      go_wp2_with fail
      go_ret3
      exact ⟨by rw [HT.out]; rfl, rfl⟩
    · have HT : Hid (trm toks k = _) := trm_neg hv hp
      have HV := CV.out (sAt toks k)
      generalize trm toks k = R at *
      generalize Av.dg 999 (sAt toks (k + 1)) = N1 at *
      generalize vr (sAt toks k) = V at *
      go_enter Try.func49, Try.ntmps49
      go_wp2_with fail
      refine CS0.out.mono ?_
      rintro e w1 ⟨rfl, rfl⟩
      go_wp2_with fail
      refine HV.mono ?_
      rintro e w1 ⟨rfl, rfl⟩
      go_wp2_with fail
      refine CS0.out.mono ?_
      rintro e w1 ⟨rfl, rfl⟩
      go_wp2_with fail
      refine CS1.out.mono ?_
      rintro e w1 ⟨rfl, rfl⟩
      go_wp2_with fail
      refine D1.mono ?_
      rintro e w1 ⟨rfl, rfl⟩
      go_wp2_with fail
      go_ret3
      exact ⟨by rw [HT.out]; rfl, rfl⟩
end Go.Proofs.Ytkinoehmcfhgbaa.Vl
set_option linter.unusedVariables false
set_option linter.unusedSimpArgs false
namespace Go.Proofs.Ytkinoehmcfhgbaa.Av
open Go.RowKit

variable {toks : List (List UInt8 × Nat)} {len : Nat}

/-- What a method of the parser ends with: a value, a state, and what the document's machine says of it. -/
def PPost (b tb cap : Nat) (toks : List (List UInt8 × Nat)) (len : Nat) (σ : PSt) (w : World) (shape : Value → Prop) (sem : PSt → Prop) (R : World → Value → PSt → Prop) (e : Ending) (w' : World) : Prop :=
  ∃ v σ', e = .returned v ∧ shape v ∧ At w' b tb cap (T3 toks len) σ' ∧ Goes toks.length σ σ' ∧ Kp b w w' ∧ sem σ' ∧ (σ'.e = 0 → R w' v σ')
def intV (v : Value) : Prop := ∃ n : Int, v = .int .i64 n
def termV (v : Value) : Prop := ∃ m n : Int, v = .agg #[.int .i64 m, .int .i64 n]
def formV (v : Value) : Prop := ∃ (k : Int) (p : Option Addr) (n c : Nat) (r a1 a2 a3 a4 : Int), v = .agg #[.int .i64 k, .slice p n c, .int .i64 r, .int .i64 a1, .int .i64 a2, .int .i64 a3, .int .i64 a4]

theorem Ok.lt {σ : PSt} (h : Ok toks.length σ) : σ.pos < (T3 toks len).length := by rw [T3_len]; have := h.1; omega
theorem T3_small (h : toks.length ≤ 300) : (T3 toks len).length ≤ 1000 := by rw [T3_len]; omega

theorem take_c (hn : toks.length ≤ 300) (b tb cap : Nat) (k : Int) (w : World) (σ : PSt) (h : At w b tb cap (T3 toks len) σ) (ho : Ok toks.length σ) :
    Calls Try.prog 64 #[.pointer (some ⟨b, 0, none⟩), .int .i64 k] w fun e w' => e = .returned (.bool (decide (kd (T3 toks len) σ.pos = k))) ∧ At w' b tb cap (T3 toks len) (if kd (T3 toks len) σ.pos = k then σ.adv (T3 toks len) else σ) ∧ Kp b w w' :=
  take_any w b tb cap _ σ k h ho.lt (T3_small hn)
theorem expect_c (hn : toks.length ≤ 300) (b tb cap : Nat) (k : Int) (w : World) (σ : PSt) (h : At w b tb cap (T3 toks len) σ) (ho : Ok toks.length σ) :
    Calls Try.prog 39 #[.pointer (some ⟨b, 0, none⟩), .int .i64 k] w fun e w' => ∃ n : Int, e = .returned (.int .i64 n) ∧ At w' b tb cap (T3 toks len) (σ.exp (T3 toks len) k) ∧ Kp b w w' :=
  (expect_any w b tb cap _ σ k h ho.lt (T3_small hn)).mono fun e w' ⟨h1, h2, h3⟩ => ⟨_, h1, h2, h3⟩
theorem peek_c (b tb cap : Nat) (w : World) (σ : PSt) (h : At w b tb cap (T3 toks len) σ) (ho : Ok toks.length σ) :
    Calls Try.prog 58 #[.pointer (some ⟨b, 0, none⟩)] w fun e w' => e = .returned (.int .i64 (kd (T3 toks len) σ.pos)) ∧ ∃ n, w' = w.drewN n :=
  peek_any w b tb cap _ σ h ho.lt
theorem advance_c (hn : toks.length ≤ 300) (b tb cap : Nat) (w : World) (σ : PSt) (h : At w b tb cap (T3 toks len) σ) (ho : Ok toks.length σ) :
    Calls Try.prog 60 #[.pointer (some ⟨b, 0, none⟩)] w fun e w' => ∃ x y z : Int, e = .returned (.agg #[.int .i64 x, .int .i64 y, .int .i64 z]) ∧ At w' b tb cap (T3 toks len) (σ.adv (T3 toks len)) ∧ Kp b w w' :=
  (advance_any w b tb cap _ σ h ho.lt (T3_small hn)).mono fun e w' ⟨h1, h2, h3⟩ => ⟨_, _, _, h1, h2, h3⟩
theorem expect_v (hn : toks.length ≤ 300) (b tb cap : Nat) (k : Int) (w : World) (σ : PSt) (h : At w b tb cap (T3 toks len) σ) (ho : Ok toks.length σ) :
    Calls Try.prog 39 #[.pointer (some ⟨b, 0, none⟩), .int .i64 k] w fun e w' => ∃ n : Int, (kd (T3 toks len) σ.pos = k → n = vlu (T3 toks len) σ.pos) ∧ e = .returned (.int .i64 n) ∧ At w' b tb cap (T3 toks len) (σ.exp (T3 toks len) k) ∧ Kp b w w' :=
  (expect_any w b tb cap _ σ k h ho.lt (T3_small hn)).mono fun e w' ⟨h1, h2, h3⟩ => ⟨_, fun hk => if_pos hk, h1, h2, h3⟩
theorem advance_v (hn : toks.length ≤ 300) (b tb cap : Nat) (w : World) (σ : PSt) (h : At w b tb cap (T3 toks len) σ) (ho : Ok toks.length σ) :
    Calls Try.prog 60 #[.pointer (some ⟨b, 0, none⟩)] w fun e w' => ∃ x y z : Int, z = vlu (T3 toks len) σ.pos ∧ e = .returned (.agg #[.int .i64 x, .int .i64 y, .int .i64 z]) ∧ At w' b tb cap (T3 toks len) (σ.adv (T3 toks len)) ∧ Kp b w w' :=
  (advance_any w b tb cap _ σ h ho.lt (T3_small hn)).mono fun e w' ⟨h1, h2, h3⟩ => ⟨_, _, _, rfl, h1, h2, h3⟩
/-- What is added to a variable: the number, the place behind it. -/
def adn (toks : List (List UInt8 × Nat)) (k : Nat) : Int × Nat := if sAt toks k == [43] then (dg 999 (sAt toks (k + 1)), k + 2) else if sAt toks k == [45] then (-dg 999 (sAt toks (k + 1)), k + 2) else (0, k)
theorem trm_adn {k : Nat} (h : 0 ≤ vr (sAt toks k)) : trm toks k = (vr (sAt toks k), (adn toks (k + 1)).1, (adn toks (k + 1)).2) := by
  unfold trm adn
  rw [if_pos h]
  split
  · rfl
  · split <;> rfl
theorem exp_ok (hk : AllTok toks) {σ : PSt} {k : Int} (h : (σ.exp (T3 toks len) k).e = 0) : kd (T3 toks len) σ.pos = k ∧ σ.e = 0 ∧ (k ≠ 0 → (σ.exp (T3 toks len) k).pos = σ.pos + 1) := by
  unfold PSt.exp at h ⊢
  by_cases hc : kd (T3 toks len) σ.pos = k
  · rw [if_pos hc] at h ⊢
    exact ⟨hc, (adv_e _ _).1 ▸ h, fun h0 => adv_pos _ _ (by rw [hc]; exact h0)⟩
  · rw [if_neg hc] at h
    exact absurd h (ref_ne _ _ _ (by decide))
theorem wrap_neg {x : Int} (h0 : -1 ≤ x) (h1 : x ≤ 999) : wrap64 (-x) = -x := by
  first | exact IntWalk.i64_in _ (by omega) | (unfold wrap64; omega) | simp [wrap64, go_sem]; omega
/-- A number behind the next token. -/
theorem num_next (hk : AllTok toks) {σ : PSt} (ho : Ok toks.length σ) (h0 : kd (T3 toks len) σ.pos ≠ 0) (h : ((σ.adv (T3 toks len)).exp (T3 toks len) 29).e = 0) :
    kd (T3 toks len) (σ.adv (T3 toks len)).pos = 29 ∧ vlu (T3 toks len) (σ.adv (T3 toks len)).pos = dg 999 (sAt toks (σ.pos + 1)) ∧ ((σ.adv (T3 toks len)).exp (T3 toks len) 29).pos = σ.pos + 2 := by
  obtain ⟨h1, h2, h3⟩ := exp_ok hk h
  have e := adv_pos (T3 toks len) σ h0
  have g := (goes_adv (len := len) hk ho).1
  refine ⟨h1, ?_, by rw [h3 (by decide), e]⟩
  rw [← e]; exact num_at hk g.1 h1
theorem refuse_c (hn : toks.length ≤ 300) (b tb cap : Nat) (err : Int) (w : World) (σ : PSt) (h : At w b tb cap (T3 toks len) σ) (ho : Ok toks.length σ) :
    Calls Try.prog 59 #[.pointer (some ⟨b, 0, none⟩), .int .i64 err] w fun e w' => e = .returned (.tuple #[]) ∧ At w' b tb cap (T3 toks len) (σ.ref (T3 toks len) err) ∧ Kp b w w' :=
  refuse_any w b tb cap _ σ err h ho.lt (T3_small hn)
theorem enter_c (hk : AllTok toks) (hn : toks.length ≤ 300) (b tb cap : Nat) (w : World) (σ : PSt) (h : At w b tb cap (T3 toks len) σ) (ho : Ok toks.length σ) (hkd : kd (T3 toks len) σ.pos ≠ 0) :
    Calls Try.prog 87 #[.pointer (some ⟨b, 0, none⟩)] w fun e w' => e = .returned (.tuple #[]) ∧ At w' b tb cap (T3 toks len) (σ.ent (T3 toks len)) ∧ Kp b w w' :=
  enter_any w b tb cap _ σ h ho.lt (T3_small hn) (ho.2.2 (kd_lt hk ho hkd).2)
theorem leave_c (b tb cap : Nat) (w : World) (σ : PSt) (h : At w b tb cap (T3 toks len) σ) :
    Calls Try.prog 88 #[.pointer (some ⟨b, 0, none⟩)] w fun e w' => e = .returned (.tuple #[]) ∧ At w' b tb cap (T3 toks len) σ.lv ∧ Kp b w w' := leave_at w b tb cap _ σ h

theorem take_yes (hn : toks.length ≤ 300) (b tb cap : Nat) (k : Int) (w : World) (σ : PSt) (h : At w b tb cap (T3 toks len) σ) (ho : Ok toks.length σ) (hk : kd (T3 toks len) σ.pos = k) :
    Calls Try.prog 64 #[.pointer (some ⟨b, 0, none⟩), .int .i64 k] w fun e w' => e = .returned (.bool true) ∧ At w' b tb cap (T3 toks len) (σ.adv (T3 toks len)) ∧ Kp b w w' := by
  have := take_c (len := len) hn b tb cap k w σ h ho
  rw [decide_eq_true hk, if_pos hk] at this; exact this
theorem take_no (hn : toks.length ≤ 300) (b tb cap : Nat) (k : Int) (w : World) (σ : PSt) (h : At w b tb cap (T3 toks len) σ) (ho : Ok toks.length σ) (hk : ¬ kd (T3 toks len) σ.pos = k) :
    Calls Try.prog 64 #[.pointer (some ⟨b, 0, none⟩), .int .i64 k] w fun e w' => e = .returned (.bool false) ∧ At w' b tb cap (T3 toks len) σ ∧ Kp b w w' := by
  have := take_c (len := len) hn b tb cap k w σ h ho
  rw [decide_eq_false hk, if_neg hk] at this; exact this

set_option maxRecDepth 100000 in
set_option maxHeartbeats 1000000 in
theorem addend_c (hk : AllTok toks) (hn : toks.length ≤ 300) (b tb cap : Nat) (w : World) (σ : PSt) (h : At w b tb cap (T3 toks len) σ) (ho : Ok toks.length σ) :
    Calls Try.prog 94 #[.pointer (some ⟨b, 0, none⟩)] w (PPost b tb cap toks len σ w intV (fun σ' => ∀ st, fin toks len σ (cMoreTerm :: st) = fin toks len σ' st) (fun _ v σ' => v = .int .i64 (adn toks σ.pos).1 ∧ σ'.pos = (adn toks σ.pos).2)) := by
  have H : Hid (At w b tb cap (T3 toks len) σ) := h
  have HO : Hid (Ok toks.length σ) := ho
  have g1 := goes_adv (len := len) hk ho
  have HO1 : Hid (Ok toks.length (σ.adv (T3 toks len))) := g1.1
  have HG : Hid (Goes toks.length σ ((σ.adv (T3 toks len)).exp (T3 toks len) 29)) := g1.trans (goes_exp hk g1.1 29)
  by_cases k1 : kd (T3 toks len) σ.pos = 11
  · have HK : Hid (kd (T3 toks len) σ.pos = 11) := k1
    have HS : Hid (∀ st, fin toks len σ (cMoreTerm :: st) = fin toks len ((σ.adv (T3 toks len)).exp (T3 toks len) 29) st) := fun st => by rw [fin_plus hk ho k1, fin_number hk g1.1]
    have HR : Hid (((σ.adv (T3 toks len)).exp (T3 toks len) 29).e = 0 → kd (T3 toks len) (σ.adv (T3 toks len)).pos = 29 ∧ vlu (T3 toks len) (σ.adv (T3 toks len)).pos = (adn toks σ.pos).1 ∧ ((σ.adv (T3 toks len)).exp (T3 toks len) 29).pos = (adn toks σ.pos).2) := fun he => by
      obtain ⟨a1, a2, a3⟩ := num_next hk ho (by omega) he
      have e1 := (lit_at (len := len) hk ho.1 (c := [43]) (n := 11) (by decide)).1 k1
      have ea : adn toks σ.pos = (dg 999 (sAt toks (σ.pos + 1)), σ.pos + 2) := by unfold adn; rw [e1]; rfl
      rw [ea]; exact ⟨a1, a2, a3⟩
    clear h ho g1 k1
    go_enter Try.func94, Try.ntmps94
    go_wp2_with fail
    refine (take_yes hn b tb cap 11 _ σ H.out HO.out HK.out).mono ?_
    rintro e w1 ⟨rfl, hA1, hK1⟩
    go_wp2_with fail
    refine (expect_v hn b tb cap 29 _ _ hA1 HO1.out).mono ?_
    rintro e w2 ⟨x, hx, rfl, hA2, hK2⟩
    go_wp2_with fail
    go_ret
    exact ⟨_, _, rfl, ⟨x, rfl⟩, hA2, HG.out, hK1.trans hK2, HS.out, fun he => ⟨by rw [hx (HR.out he).1, (HR.out he).2.1]; rfl, (HR.out he).2.2⟩⟩
  · have HK : Hid (¬ kd (T3 toks len) σ.pos = 11) := k1
    by_cases k2 : kd (T3 toks len) σ.pos = 12
    · have HK2 : Hid (kd (T3 toks len) σ.pos = 12) := k2
      have HS : Hid (∀ st, fin toks len σ (cMoreTerm :: st) = fin toks len ((σ.adv (T3 toks len)).exp (T3 toks len) 29) st) := fun st => by rw [fin_minus hk ho k2, fin_number hk g1.1]
      have HR : Hid (((σ.adv (T3 toks len)).exp (T3 toks len) 29).e = 0 → kd (T3 toks len) (σ.adv (T3 toks len)).pos = 29 ∧ wrap64 (-vlu (T3 toks len) (σ.adv (T3 toks len)).pos) = (adn toks σ.pos).1 ∧ ((σ.adv (T3 toks len)).exp (T3 toks len) 29).pos = (adn toks σ.pos).2) := fun he => by
        obtain ⟨a1, a2, a3⟩ := num_next hk ho (by omega) he
        have e1 := (lit_at (len := len) hk ho.1 (c := [45]) (n := 12) (by decide)).1 k2
        have ea : adn toks σ.pos = (-dg 999 (sAt toks (σ.pos + 1)), σ.pos + 2) := by unfold adn; rw [e1]; rfl
        have hd := dg_range 999 (by omega) (sAt toks (σ.pos + 1))
        rw [ea, a2, wrap_neg hd.1 hd.2]; exact ⟨a1, rfl, a3⟩
      clear h ho g1 k1 k2
      go_enter Try.func94, Try.ntmps94
      go_wp2_with fail
      refine (take_no hn b tb cap 11 _ σ H.out HO.out HK.out).mono ?_
      rintro e w1 ⟨rfl, hA1, hK1⟩
      go_wp2_with fail
      refine (take_yes hn b tb cap 12 _ σ hA1 HO.out HK2.out).mono ?_
      rintro e w2 ⟨rfl, hA2, hK2⟩
      go_wp2_with fail
      refine (expect_v hn b tb cap 29 _ _ hA2 HO1.out).mono ?_
      rintro e w3 ⟨x, hx, rfl, hA3, hK3⟩
      go_wp2_with fail
      go_ret
      exact ⟨_, _, rfl, ⟨_, rfl⟩, hA3, HG.out, (hK1.trans hK2).trans hK3, HS.out, fun he => ⟨by rw [← (HR.out he).2.1, ← hx (HR.out he).1]; rfl, (HR.out he).2.2⟩⟩
    · have HK2 : Hid (¬ kd (T3 toks len) σ.pos = 12) := k2
      have HS : Hid (∀ st, fin toks len σ (cMoreTerm :: st) = fin toks len σ st) := fun st => fin_popT hk ho.1 k1 k2 st
      have HR : Hid (adn toks σ.pos = (0, σ.pos)) := by
        show _ = _
        have e1 : (sAt toks σ.pos == [43]) = false := by rw [beq_eq_false_iff_ne]; exact fun e => k1 ((lit_at (len := len) hk ho.1 (c := [43]) (n := 11) (by decide)).2 e)
        have e2 : (sAt toks σ.pos == [45]) = false := by rw [beq_eq_false_iff_ne]; exact fun e => k2 ((lit_at (len := len) hk ho.1 (c := [45]) (n := 12) (by decide)).2 e)
        unfold adn; rw [e1, e2]; rfl
      clear h ho g1 k1 k2
      go_enter Try.func94, Try.ntmps94
      go_wp2_with fail
      refine (take_no hn b tb cap 11 _ σ H.out HO.out HK.out).mono ?_
      rintro e w1 ⟨rfl, hA1, hK1⟩
      go_wp2_with fail
      refine (take_no hn b tb cap 12 _ σ hA1 HO.out HK2.out).mono ?_
      rintro e w2 ⟨rfl, hA2, hK2⟩
      go_wp2_with fail
      go_ret
      exact ⟨_, _, rfl, ⟨_, rfl⟩, hA2, Goes.refl HO.out, hK1.trans hK2, HS.out, fun he => by rw [HR.out]; exact ⟨rfl, rfl⟩⟩

theorem At.other {w : World} {b tb cap : Nat} {T : List (Int × Int × Int)} {σ : PSt} (h : At w b tb cap T σ) (k o : Nat) (u : Value) (h1 : b < k) (h2 : tb < k) : At (w.setCell ⟨k, o, none⟩ u) b tb cap T σ := by
  have hc : ∀ j, (w.setCell ⟨k, o, none⟩ u).cell? ⟨b, j, none⟩ = w.cell? ⟨b, j, none⟩ := fun j => World.cell?_of_block (Below.heap_setCell w ⟨k, o, none⟩ u b (by show b ≠ k; omega))
  have ht : ∀ j, (w.setCell ⟨k, o, none⟩ u).cell? ⟨tb, j, none⟩ = w.cell? ⟨tb, j, none⟩ := fun j => World.cell?_of_block (Below.heap_setCell w ⟨k, o, none⟩ u tb (by show tb ≠ k; omega))
  have hs : (w.setCell ⟨k, o, none⟩ u).heap.size = w.heap.size := by simp [World.setCell]
  exact ⟨by rw [hs]; exact h.hb, by rw [hs]; exact h.htb, h.hne, h.hcap, h.hcm, (hc 0).trans h.c0, (hc 1).trans h.c1, (hc 2).trans h.c2, (hc 3).trans h.c3, (hc 4).trans h.c4, h.frz _ _, fun j hj => by
    obtain ⟨a1, a2, a3⟩ := h.toks j hj
    exact ⟨(ht _).trans a1, (ht _).trans a2, (ht _).trans a3⟩⟩
theorem Kp.fresh {b : Nat} {w w' : World} (h : Kp b w w') (k o : Nat) (u : Value) (hk : w.heap.size ≤ k) : Kp b w (w'.setCell ⟨k, o, none⟩ u) := h.setCell (p := ⟨k, o, none⟩) (Or.inr hk) u

/-- A block that a method made itself reads, behind a call, as it did. -/
theorem kcell {b B : Nat} {W w1 : World} (hk : Kp b W w1) (hb : b < B) : (∀ k o, B ≤ k → k < W.heap.size → w1.cell? ⟨k, o, none⟩ = W.cell? ⟨k, o, none⟩) ∧ (∀ k o, B ≤ k → k < W.heap.size → w1.frozen? ⟨k, o, none⟩ = W.frozen? ⟨k, o, none⟩) :=
  ⟨fun k o h1 h2 => hk.cell (p := ⟨k, o, none⟩) h2 (by show k ≠ b; omega), fun k o h1 h2 => hk.frozen (p := ⟨k, o, none⟩) h2 (by show k ≠ b; omega)⟩

set_option maxRecDepth 100000 in
set_option maxHeartbeats 1000000 in
theorem relation_c (hk : AllTok toks) (hn : toks.length ≤ 300) (b tb cap : Nat) (w : World) (σ : PSt) (h : At w b tb cap (T3 toks len) σ) (ho : Ok toks.length σ) :
    Calls Try.prog 93 #[.pointer (some ⟨b, 0, none⟩)] w (PPost b tb cap toks len σ w intV (fun σ' => ∀ st, fin toks len σ (cRelation :: st) = fin toks len σ' st) (fun _ v σ' => v = .int .i64 (rel (sAt toks σ.pos)) ∧ σ'.pos = σ.pos + 1)) := by
  have H : Hid (At w b tb cap (T3 toks len) σ) := h
  have HO : Hid (Ok toks.length σ) := ho
  have HS0 : Hid (∀ st, fin toks len σ (cRelation :: st) = _) := fun st => fin_relation (len := len) hk ho st
  by_cases k1 : 6 ≤ kd (T3 toks len) σ.pos ∧ kd (T3 toks len) σ.pos ≤ 10
  · have HG : Hid (Goes toks.length σ (σ.adv (T3 toks len))) := goes_adv (len := len) hk ho
    have HS : Hid (∀ st, fin toks len σ (cRelation :: st) = fin toks len (σ.adv (T3 toks len)) st) := fun st => by rw [HS0.out st, if_pos k1]
    obtain ⟨K, hKe⟩ : ∃ K, kd (T3 toks len) σ.pos = K := ⟨_, rfl⟩
    have HK : Hid (kd (T3 toks len) σ.pos = K) := hKe
    have HR : Hid (rel (sAt toks σ.pos) = (if K = 6 then 0 else if K = 7 then 1 else if K = 8 then 2 else if K = 9 then 3 else 4) ∧ (σ.adv (T3 toks len)).pos = σ.pos + 1) := by
      have hp : (σ.adv (T3 toks len)).pos = σ.pos + 1 := adv_pos _ _ (by omega)
      refine ⟨?_, hp⟩
      have l6 := (lit_at (len := len) hk ho.1 (c := [60]) (n := 6) (by decide)).1
      have l7 := (lit_at (len := len) hk ho.1 (c := [60, 61]) (n := 7) (by decide)).1
      have l8 := (lit_at (len := len) hk ho.1 (c := [61]) (n := 8) (by decide)).1
      have l9 := (lit_at (len := len) hk ho.1 (c := [62]) (n := 9) (by decide)).1
      have l10 := (lit_at (len := len) hk ho.1 (c := [62, 61]) (n := 10) (by decide)).1
      rw [hKe] at l6 l7 l8 l9 l10 k1
      have hc : K = 6 ∨ K = 7 ∨ K = 8 ∨ K = 9 ∨ K = 10 := by omega
      rcases hc with rfl | rfl | rfl | rfl | rfl
      · rw [l6 rfl]; rfl
      · rw [l7 rfl]; rfl
      · rw [l8 rfl]; rfl
      · rw [l9 rfl]; rfl
      · rw [l10 rfl]; rfl
    rw [hKe] at k1
    have hc : K = 6 ∨ K = 7 ∨ K = 8 ∨ K = 9 ∨ K = 10 := by omega
    clear h ho HS0 k1 hKe
    rcases hc with rfl | rfl | rfl | rfl | rfl
    all_goals
      go_enter Try.func93, Try.ntmps93
      go_wp2_with fail
      refine (peek_c b tb cap _ σ H.out HO.out).mono ?_
      rw [HK.out]
      rintro e w1 ⟨rfl, nq, rfl⟩
      go_wp2_with fail
      refine (advance_c hn b tb cap _ σ (H.out.drewN _) HO.out).mono ?_
      rintro e w2 ⟨x, y, z, rfl, hA2, hK2⟩
      go_wp2_with fail
      go_ret
      exact ⟨_, _, rfl, ⟨_, rfl⟩, hA2, HG.out, ((Kp.refl _ _).drewN _).trans hK2, HS.out, fun _ => ⟨by rw [HR.out.1]; rfl, HR.out.2⟩⟩
  · have g1 := goes_ref (len := len) ho 2 (by omega)
    have he : (σ.ref (T3 toks len) 2).adv (T3 toks len) = σ.ref (T3 toks len) 2 := by
      unfold PSt.adv; rw [if_pos (by rw [ref_pos]; exact kd_end _ _)]
    have HO1 : Hid (Ok toks.length (σ.ref (T3 toks len) 2)) := g1.1
    have HG : Hid (Goes toks.length σ ((σ.ref (T3 toks len) 2).adv (T3 toks len))) := by rw [he]; exact g1
    have HS : Hid (∀ st, fin toks len σ (cRelation :: st) = fin toks len ((σ.ref (T3 toks len) 2).adv (T3 toks len)) st) := fun st => by rw [HS0.out st, if_neg k1, he]
    obtain ⟨K, hKe⟩ : ∃ K, kd (T3 toks len) σ.pos = K := ⟨_, rfl⟩
    have HK : Hid (kd (T3 toks len) σ.pos = K) := hKe
    rw [hKe] at k1
    have b6 : (K == 6) = false := by rw [beq_eq_false_iff_ne]; omega
    have b7 : (K == 7) = false := by rw [beq_eq_false_iff_ne]; omega
    have b8 : (K == 8) = false := by rw [beq_eq_false_iff_ne]; omega
    have b9 : (K == 9) = false := by rw [beq_eq_false_iff_ne]; omega
    have b10 : (K == 10) = false := by rw [beq_eq_false_iff_ne]; omega
    have HE : Hid (((σ.ref (T3 toks len) 2).adv (T3 toks len)).e ≠ 0) := by rw [he]; exact ref_ne _ _ _ (by decide)
    clear h ho HS0 k1 hKe g1 he
    go_enter Try.func93, Try.ntmps93
    go_wp2_with fail
    refine (peek_c b tb cap _ σ H.out HO.out).mono ?_
    rw [HK.out]
    rintro e w1 ⟨rfl, nq, rfl⟩
    go_wp2_with fail
    refine (refuse_c hn b tb cap 2 _ σ (H.out.drewN _) HO.out).mono ?_
    rintro e w2 ⟨rfl, hA2, hK2⟩
    go_wp2_with fail
    refine (advance_c hn b tb cap _ _ hA2 HO1.out).mono ?_
    rintro e w3 ⟨x, y, z, rfl, hA3, hK3⟩
    go_wp2_with fail
    go_ret
    exact ⟨_, _, rfl, ⟨_, rfl⟩, hA3, HG.out, (((Kp.refl _ _).drewN _).trans hK2).trans hK3, HS.out, fun h => absurd h HE.out⟩

set_option maxRecDepth 100000 in
set_option maxHeartbeats 1000000 in
theorem term_c (hk : AllTok toks) (hn : toks.length ≤ 300) (b tb cap : Nat) (w : World) (σ : PSt) (h : At w b tb cap (T3 toks len) σ) (ho : Ok toks.length σ) :
    Calls Try.prog 90 #[.pointer (some ⟨b, 0, none⟩)] w (PPost b tb cap toks len σ w termV (fun σ' => ∀ st, fin toks len σ (cTerm :: st) = fin toks len σ' st) (fun _ v σ' => v = .agg #[.int .i64 (trm toks σ.pos).1, .int .i64 (trm toks σ.pos).2.1] ∧ σ'.pos = (trm toks σ.pos).2.2)) := by
  have H : Hid (At w b tb cap (T3 toks len) σ) := h
  have HO : Hid (Ok toks.length σ) := ho
  have hb := h.hb
  have htb := h.htb
  have g1 := goes_adv (len := len) hk ho
  have HO1 : Hid (Ok toks.length (σ.adv (T3 toks len))) := g1.1
  by_cases k1 : kd (T3 toks len) σ.pos = 28
  · have HK : Hid (kd (T3 toks len) σ.pos = 28) := k1
    have HG : Hid (Goes toks.length σ (σ.adv (T3 toks len))) := g1
    have HS : Hid (∀ st, fin toks len σ (cTerm :: st) = fin toks len (σ.adv (T3 toks len)) (cMoreTerm :: st)) := fun st => fin_termV hk ho k1 st
    have HT : Hid (trm toks σ.pos = (vlu (T3 toks len) σ.pos, (adn toks (σ.adv (T3 toks len)).pos).1, (adn toks (σ.adv (T3 toks len)).pos).2)) := by
      show _ = _
      have hv := var_at (len := len) hk ho.1
      rw [trm_adn (hv.2.1 k1), hv.1 k1, adv_pos _ _ (by omega)]
    clear h ho g1 k1
    go_enter Try.func90, Try.ntmps90
    go_wp2_with fail
    refine (peek_c b tb cap _ σ (H.out.alloc _) HO.out).mono ?_
    rw [HK.out]
    rintro e w1 ⟨rfl, nq, rfl⟩
    go_wp2_with fail
    refine (advance_v hn b tb cap _ σ ((H.out.alloc _).drewN _) HO.out).mono ?_
    rintro e w2 ⟨x, y, z, hz, rfl, hA2, hK2⟩
    have HZ : Hid (z = vlu (T3 toks len) σ.pos) := hz
    clear hz
    have hft := field_tok x y z
    go_wp2_with fail
    refine (addend_c hk hn b tb cap _ _ hA2 HO1.out).mono ?_
    rintro e w3 ⟨v, σ3, rfl, ⟨m, rfl⟩, hA3, hG3, hK3, hS3, hR3⟩
    have HR3 : Hid _ := hR3
    clear hR3
    obtain ⟨hc2, hf2⟩ := kcell hK2 hb
    obtain ⟨hc3, hf3⟩ := kcell hK3 hb
    have hz2 : w.heap.size + 1 ≤ w2.heap.size := by have := hK2.size; simpa using this
    have hz3 : w2.heap.size ≤ w3.heap.size := hK3.size
    have hzz : w.heap.size < w2.heap.size := by omega
    have hzy : w.heap.size < w3.heap.size := by omega
    have HS3 : Hid _ := hS3
    clear hS3
    go_wp2_with fail
    refine bodyPost_ret (v := .agg #[.int .i64 z, .int .i64 m]) (by simp [results, Try.results90, go_sem, hc2, hc3, hzz, hzy]) rfl ⟨_, σ3, rfl, ⟨z, m, rfl⟩, (hA3.other _ _ _ hb htb).other _ _ _ hb htb, HG.out.trans hG3, ?_, fun st => (HS.out st).trans (HS3.out st), fun he => by obtain ⟨e1, e2⟩ := HR3.out he; rw [HT.out]; exact ⟨by rw [← HZ.out]; cases e1; rfl, e2⟩⟩
    exact (((((Kp.refl b w).alloc _).drewN nq).trans (hK2.trans hK3)).fresh _ _ _ (Nat.le_refl _)).fresh _ _ _ (Nat.le_refl _)
  · have HK : Hid (¬ kd (T3 toks len) σ.pos = 28) := k1
    obtain ⟨K, hKe⟩ : ∃ K, kd (T3 toks len) σ.pos = K := ⟨_, rfl⟩
    have HKe : Hid (kd (T3 toks len) σ.pos = K) := hKe
    have b28 : (K == 28) = false := by rw [beq_eq_false_iff_ne, ← hKe]; exact k1
    clear hKe
    by_cases k2 : kd (T3 toks len) σ.pos = 12
    · have HK2 : Hid (kd (T3 toks len) σ.pos = 12) := k2
      have HG : Hid (Goes toks.length σ ((σ.adv (T3 toks len)).exp (T3 toks len) 29)) := g1.trans (goes_exp hk g1.1 29)
      have HS : Hid (∀ st, fin toks len σ (cTerm :: st) = fin toks len ((σ.adv (T3 toks len)).exp (T3 toks len) 29) st) := fun st => by rw [fin_termM hk ho k2, fin_number hk g1.1]
      have HR : Hid (((σ.adv (T3 toks len)).exp (T3 toks len) 29).e = 0 → kd (T3 toks len) (σ.adv (T3 toks len)).pos = 29 ∧ trm toks σ.pos = (-1, wrap64 (-vlu (T3 toks len) (σ.adv (T3 toks len)).pos), ((σ.adv (T3 toks len)).exp (T3 toks len) 29).pos)) := fun he => by
        obtain ⟨a1, a2, a3⟩ := num_next hk ho (by omega) he
        have e1 := (lit_at (len := len) hk ho.1 (c := [45]) (n := 12) (by decide)).1 k2
        have hd := dg_range 999 (by omega) (sAt toks (σ.pos + 1))
        have ea : trm toks σ.pos = (-1, -dg 999 (sAt toks (σ.pos + 1)), σ.pos + 2) := by unfold trm; rw [e1]; rfl
        rw [ea, a2, wrap_neg hd.1 hd.2, a3]; exact ⟨a1, rfl⟩
      clear h ho g1 k1 k2
      go_enter Try.func90, Try.ntmps90
      go_wp2_with fail
      refine (peek_c b tb cap _ σ (H.out.alloc _) HO.out).mono ?_
      rw [HKe.out]
      rintro e w1 ⟨rfl, nq, rfl⟩
      go_wp2_with fail
      refine (take_yes hn b tb cap 12 _ σ ((H.out.alloc _).drewN _) HO.out HK2.out).mono ?_
      rintro e w2 ⟨rfl, hA2, hK2⟩
      go_wp2_with fail
      refine (expect_v hn b tb cap 29 _ _ hA2 HO1.out).mono ?_
      rintro e w3 ⟨m, hx, rfl, hA3, hK3⟩
      have HX : Hid _ := hx
      clear hx
      obtain ⟨hc2, hf2⟩ := kcell hK2 hb
      obtain ⟨hc3, hf3⟩ := kcell hK3 hb
      have hz2 : w.heap.size + 1 ≤ w2.heap.size := by have := hK2.size; simpa using this
      have hz3 : w2.heap.size ≤ w3.heap.size := hK3.size
      have hzz : w.heap.size < w2.heap.size := by omega
      have hzy : w.heap.size < w3.heap.size := by omega
      go_wp2_with fail
      refine bodyPost_ret (v := .agg #[.int .i64 (-1), .int .i64 (wrap64 (-m))]) (by simp [results, Try.results90, go_sem, hc2, hc3, hzz, hzy]) rfl ⟨_, _, rfl, ⟨_, _, rfl⟩, (hA3.other _ _ _ hb htb).other _ _ _ hb htb, HG.out, ?_, HS.out, fun he => by obtain ⟨e1, e2⟩ := HR.out he; rw [e2, ← HX.out e1]; exact ⟨rfl, rfl⟩⟩
      exact (((((Kp.refl b w).alloc _).drewN nq).trans (hK2.trans hK3)).fresh _ _ _ (Nat.le_refl _)).fresh _ _ _ (Nat.le_refl _)
    · have HK2 : Hid (¬ kd (T3 toks len) σ.pos = 12) := k2
      have HG : Hid (Goes toks.length σ (σ.exp (T3 toks len) 29)) := goes_exp hk ho 29
      have HS : Hid (∀ st, fin toks len σ (cTerm :: st) = fin toks len (σ.exp (T3 toks len) 29) st) := fun st => fin_termN hk ho k1 k2 st
      have HR : Hid ((σ.exp (T3 toks len) 29).e = 0 → kd (T3 toks len) σ.pos = 29 ∧ trm toks σ.pos = (-1, vlu (T3 toks len) σ.pos, (σ.exp (T3 toks len) 29).pos)) := fun he => by
        obtain ⟨a1, a2, a3⟩ := exp_ok hk he
        have e1 : (sAt toks σ.pos == [45]) = false := by rw [beq_eq_false_iff_ne]; exact fun e => k2 ((lit_at (len := len) hk ho.1 (c := [45]) (n := 12) (by decide)).2 e)
        have ea : trm toks σ.pos = (-1, dg 999 (sAt toks σ.pos), σ.pos + 1) := by unfold trm; rw [if_neg (fun e => k1 ((var_at (len := len) hk ho.1).2.2 e)), e1]; rfl
        rw [ea, num_at hk ho.1 a1, a3 (by decide)]; exact ⟨a1, rfl⟩
      clear h ho g1 k1 k2
      go_enter Try.func90, Try.ntmps90
      go_wp2_with fail
      refine (peek_c b tb cap _ σ (H.out.alloc _) HO.out).mono ?_
      rw [HKe.out]
      rintro e w1 ⟨rfl, nq, rfl⟩
      go_wp2_with fail
      refine (take_no hn b tb cap 12 _ σ ((H.out.alloc _).drewN _) HO.out HK2.out).mono ?_
      rintro e w2 ⟨rfl, hA2, hK2⟩
      go_wp2_with fail
      refine (expect_v hn b tb cap 29 _ _ hA2 HO.out).mono ?_
      rintro e w3 ⟨m, hx, rfl, hA3, hK3⟩
      have HX : Hid _ := hx
      clear hx
      obtain ⟨hc2, hf2⟩ := kcell hK2 hb
      obtain ⟨hc3, hf3⟩ := kcell hK3 hb
      have hz2 : w.heap.size + 1 ≤ w2.heap.size := by have := hK2.size; simpa using this
      have hz3 : w2.heap.size ≤ w3.heap.size := hK3.size
      have hzz : w.heap.size < w2.heap.size := by omega
      have hzy : w.heap.size < w3.heap.size := by omega
      go_wp2_with fail
      refine bodyPost_ret (v := .agg #[.int .i64 (-1), .int .i64 m]) (by simp [results, Try.results90, go_sem, hc2, hc3, hzz, hzy]) rfl ⟨_, _, rfl, ⟨_, _, rfl⟩, (hA3.other _ _ _ hb htb).other _ _ _ hb htb, HG.out, ?_, HS.out, fun he => by obtain ⟨e1, e2⟩ := HR.out he; rw [e2, ← HX.out e1]; exact ⟨rfl, rfl⟩⟩
      exact (((((Kp.refl b w).alloc _).drewN nq).trans (hK2.trans hK3)).fresh _ _ _ (Nat.le_refl _)).fresh _ _ _ (Nat.le_refl _)

end Go.Proofs.Ytkinoehmcfhgbaa.Av
set_option linter.unusedVariables false
set_option linter.unusedSimpArgs false
namespace Go.Proofs.Ytkinoehmcfhgbaa.Av
open Go.RowKit

def fv (k : Int) (p : Option Addr) (n c : Nat) (r a1 a2 a3 a4 : Int) : List Value := [.int .i64 k, .slice p n c, .int .i64 r, .int .i64 a1, .int .i64 a2, .int .i64 a3, .int .i64 a4]
/-- A formula's seven cells; its parts lie in blocks of which P is so. -/
def IsF (w : World) (P : Nat → Prop) : Fm → List Value → Prop
  | .tt, v => ∃ (p : Option Addr) (n c : Nat) (r a1 a2 a3 a4 : Int), v = fv 0 p n c r a1 a2 a3 a4
  | .ff, v => ∃ (p : Option Addr) (n c : Nat) (r a1 a2 a3 a4 : Int), v = fv 1 p n c r a1 a2 a3 a4
  | .cmp r a b, v => ∃ (p : Option Addr) (n c : Nat), v = fv 2 p n c r a.1 a.2 b.1 b.2
  | .no f, v => ∃ (g c : Nat) (r a1 a2 a3 a4 : Int) (u : List Value), v = fv 3 (some ⟨g, 0, none⟩) 1 c r a1 a2 a3 a4 ∧ P g ∧ g < w.heap.size ∧ 1 ≤ c ∧ c ≤ maxLen ∧ w.rangeAt g 0 u ∧ IsF w P f u
  | .and f h, v => ∃ (g c : Nat) (r a1 a2 a3 a4 : Int) (u1 u2 : List Value), v = fv 4 (some ⟨g, 0, none⟩) 2 c r a1 a2 a3 a4 ∧ P g ∧ g < w.heap.size ∧ 2 ≤ c ∧ c ≤ maxLen ∧ w.rangeAt g 0 u1 ∧ w.rangeAt g 7 u2 ∧ IsF w P f u1 ∧ IsF w P h u2
  | .or f h, v => ∃ (g c : Nat) (r a1 a2 a3 a4 : Int) (u1 u2 : List Value), v = fv 5 (some ⟨g, 0, none⟩) 2 c r a1 a2 a3 a4 ∧ P g ∧ g < w.heap.size ∧ 2 ≤ c ∧ c ≤ maxLen ∧ w.rangeAt g 0 u1 ∧ w.rangeAt g 7 u2 ∧ IsF w P f u1 ∧ IsF w P h u2
/-- What lies in blocks of which P is so is as it was. -/
def Same (P : Nat → Prop) (w w' : World) : Prop := w.heap.size ≤ w'.heap.size ∧ ∀ g o, P g → g < w.heap.size → w'.cell? ⟨g, o, none⟩ = w.cell? ⟨g, o, none⟩
theorem Same.refl (P : Nat → Prop) (w : World) : Same P w w := ⟨Nat.le_refl _, fun _ _ _ _ => rfl⟩
theorem Same.trans {P : Nat → Prop} {a b c : World} (h : Same P a b) (k : Same P b c) : Same P a c := ⟨Nat.le_trans h.1 k.1, fun g o h1 h2 => (k.2 g o h1 (Nat.lt_of_lt_of_le h2 h.1)).trans (h.2 g o h1 h2)⟩
theorem Same.mono {P P' : Nat → Prop} {a b : World} (h : Same P a b) (hl : ∀ g, P' g → g < a.heap.size → P g) : Same P' a b := ⟨h.1, fun g o h1 h2 => h.2 g o (hl g h1 h2) h2⟩
theorem Kp.same {b : Nat} {P : Nat → Prop} {w w' : World} (h : Kp b w w') (hb : ¬ P b) : Same P w w' := ⟨h.size, fun g o h1 h2 => h.cell (p := ⟨g, o, none⟩) h2 (by show g ≠ b; intro e; subst e; exact hb h1)⟩
theorem below_same {P : Nat → Prop} {w w' : World} (h : Below w.heap.size w w') : Same P w w' := ⟨h.size, fun g o h1 h2 => h.cell (p := ⟨g, o, none⟩) h2⟩
theorem same_alloc (P : Nat → Prop) (w : World) (o : Obj) : Same P w (w.alloc o) := below_same (below_alloc w o)
theorem same_drew (P : Nat → Prop) (w : World) : Same P w w.drew := ⟨Nat.le_refl _, fun _ _ _ _ => rfl⟩
theorem same_set (P : Nat → Prop) (w : World) (B o : Nat) (u : Value) (h : ¬ P B) : Same P w (w.setCell ⟨B, o, none⟩ u) := ⟨by simp [World.setCell], fun g j h1 h2 => World.cell?_of_block (Below.heap_setCell w ⟨B, o, none⟩ u g (by show g ≠ B; intro e; subst e; exact h h1))⟩
theorem same_sets (P : Nat → Prop) (B : Nat) (h : ¬ P B) : ∀ (vs : List Value) (o : Nat) (w : World), Same P w (w.setCells B o vs)
  | [], o, w => Same.refl _ _
  | v :: vs, o, w => (same_set P w B o v h).trans (same_sets P B h vs (o + 1) _)
theorem range_same {P : Nat → Prop} {g o : Nat} {w w' : World} {cs : List Value} (h : w.rangeAt g o cs) (hs : Same P w w') (h1 : P g) (h2 : g < w.heap.size) : w'.rangeAt g o cs := fun j v hv => (hs.2 g (o + j) h1 h2).trans (h j v hv)
theorem IsF.same {P : Nat → Prop} {w w' : World} (hs : Same P w w') : ∀ {f : Fm} {v : List Value}, IsF w P f v → IsF w' P f v
  | .tt, _, h => h
  | .ff, _, h => h
  | .cmp _ _ _, _, h => h
  | .no f, _, ⟨g, c, r, a1, a2, a3, a4, u, e, h1, h2, h3, h4, h5, h6⟩ => ⟨g, c, r, a1, a2, a3, a4, u, e, h1, Nat.lt_of_lt_of_le h2 hs.1, h3, h4, range_same h5 hs h1 h2, IsF.same hs h6⟩
  | .and f h, _, ⟨g, c, r, a1, a2, a3, a4, u1, u2, e, h1, h2, h3, h4, h5, h6, h7, h8⟩ => ⟨g, c, r, a1, a2, a3, a4, u1, u2, e, h1, Nat.lt_of_lt_of_le h2 hs.1, h3, h4, range_same h5 hs h1 h2, range_same h6 hs h1 h2, IsF.same hs h7, IsF.same hs h8⟩
  | .or f h, _, ⟨g, c, r, a1, a2, a3, a4, u1, u2, e, h1, h2, h3, h4, h5, h6, h7, h8⟩ => ⟨g, c, r, a1, a2, a3, a4, u1, u2, e, h1, Nat.lt_of_lt_of_le h2 hs.1, h3, h4, range_same h5 hs h1 h2, range_same h6 hs h1 h2, IsF.same hs h7, IsF.same hs h8⟩
theorem IsF.mono {P P' : Nat → Prop} {w : World} (hl : ∀ g, P g → g < w.heap.size → P' g) : ∀ {f : Fm} {v : List Value}, IsF w P f v → IsF w P' f v
  | .tt, _, h => h
  | .ff, _, h => h
  | .cmp _ _ _, _, h => h
  | .no f, _, ⟨g, c, r, a1, a2, a3, a4, u, e, h1, h2, h3, h4, h5, h6⟩ => ⟨g, c, r, a1, a2, a3, a4, u, e, hl g h1 h2, h2, h3, h4, h5, IsF.mono hl h6⟩
  | .and f h, _, ⟨g, c, r, a1, a2, a3, a4, u1, u2, e, h1, h2, h3, h4, h5, h6, h7, h8⟩ => ⟨g, c, r, a1, a2, a3, a4, u1, u2, e, hl g h1 h2, h2, h3, h4, h5, h6, IsF.mono hl h7, IsF.mono hl h8⟩
  | .or f h, _, ⟨g, c, r, a1, a2, a3, a4, u1, u2, e, h1, h2, h3, h4, h5, h6, h7, h8⟩ => ⟨g, c, r, a1, a2, a3, a4, u1, u2, e, hl g h1 h2, h2, h3, h4, h5, h6, IsF.mono hl h7, IsF.mono hl h8⟩
theorem IsF.shape {P : Nat → Prop} {w : World} : ∀ {f : Fm} {v : List Value}, IsF w P f v → ∃ (k : Int) (p : Option Addr) (n c : Nat) (r a1 a2 a3 a4 : Int), v = fv k p n c r a1 a2 a3 a4
  | .tt, _, ⟨p, n, c, r, a1, a2, a3, a4, e⟩ => ⟨_, _, _, _, _, _, _, _, _, e⟩
  | .ff, _, ⟨p, n, c, r, a1, a2, a3, a4, e⟩ => ⟨_, _, _, _, _, _, _, _, _, e⟩
  | .cmp _ _ _, _, ⟨p, n, c, e⟩ => ⟨_, _, _, _, _, _, _, _, _, e⟩
  | .no f, _, ⟨g, c, r, a1, a2, a3, a4, u, e, _⟩ => ⟨_, _, _, _, _, _, _, _, _, e⟩
  | .and f h, _, ⟨g, c, r, a1, a2, a3, a4, u1, u2, e, _⟩ => ⟨_, _, _, _, _, _, _, _, _, e⟩
  | .or f h, _, ⟨g, c, r, a1, a2, a3, a4, u1, u2, e, _⟩ => ⟨_, _, _, _, _, _, _, _, _, e⟩
theorem IsF.len {P : Nat → Prop} {w : World} {f : Fm} {v : List Value} (h : IsF w P f v) : v.length = 7 := by
  obtain ⟨k, p, n, c, r, a1, a2, a3, a4, e⟩ := h.shape
  rw [e]; rfl
/-- What a reader of formulas answers. -/
def FR (toks : List (List UInt8 × Nat)) (t : Tg) (k : Nat) (P : Nat → Prop) (w' : World) (v : Value) (σ' : PSt) : Prop := ∃ f cs, v = .agg cs.toArray ∧ Rd toks t k f σ'.pos ∧ IsF w' P f cs
theorem FR.same {toks : List (List UInt8 × Nat)} {t : Tg} {k : Nat} {P P' : Nat → Prop} {w w' : World} {v : Value} {σ' : PSt} (h : FR toks t k P w v σ') (hs : Same P w w') (hl : ∀ g, P g → g < w'.heap.size → P' g) : FR toks t k P' w' v σ' := by
  obtain ⟨f, cs, h1, h2, h3⟩ := h
  exact ⟨f, cs, h1, h2, (h3.same hs).mono hl⟩

/-- A list of commands' cells. -/
def Lst (w : World) (P : Nat → Prop) (g n c : Nat) (ys : List (List Value)) : Prop := P g ∧ g < w.heap.size ∧ ys.length = n ∧ n ≤ c ∧ c ≤ maxLen ∧ w.rangeAt g 0 ys.flatten ∧ ∀ y ∈ ys, y.length = 20
theorem Lst.same {P : Nat → Prop} {g n c : Nat} {w w' : World} {ys : List (List Value)} (h : Lst w P g n c ys) (hs : Same P w w') : Lst w' P g n c ys := by
  obtain ⟨h1, h2, h3, h4, h5, h6, h7⟩ := h
  exact ⟨h1, Nat.lt_of_lt_of_le h2 hs.1, h3, h4, h5, range_same h6 hs h1 h2, h7⟩
theorem Lst.mono {P P' : Nat → Prop} {g n c : Nat} {w : World} {ys : List (List Value)} (h : Lst w P g n c ys) (hl : ∀ g, P g → g < w.heap.size → P' g) : Lst w P' g n c ys := by
  obtain ⟨h1, h2, h3, h4, h5, h6, h7⟩ := h
  exact ⟨hl g h1 h2, h2, h3, h4, h5, h6, h7⟩
def IsC (w : World) (P : Nat → Prop) : Cm → List (List Value) → Prop
  | .skip, xs => ∃ y, xs = [y] ∧ y.length = 20 ∧ y[0]? = some (.int .i64 0)
  | .asg x t, xs => ∃ y, xs = [y] ∧ y.length = 20 ∧ y[0]? = some (.int .i64 1) ∧ y[1]? = some (.int .i64 x) ∧ y[2]? = some (.int .i64 t.1) ∧ y[3]? = some (.int .i64 t.2)
  | .ite f a b, xs => ∃ y, xs = [y] ∧ y.length = 20 ∧ y[0]? = some (.int .i64 2) ∧ IsF w P f ((y.drop 4).take 7) ∧
      (∃ g n c ys, y[18]? = some (.slice (some ⟨g, 0, none⟩) n c) ∧ Lst w P g n c ys ∧ IsC w P a ys) ∧ (∃ g n c ys, y[19]? = some (.slice (some ⟨g, 0, none⟩) n c) ∧ Lst w P g n c ys ∧ IsC w P b ys)
  | .loop f h a, xs => ∃ y, xs = [y] ∧ y.length = 20 ∧ y[0]? = some (.int .i64 3) ∧ IsF w P f ((y.drop 4).take 7) ∧ IsF w P h ((y.drop 11).take 7) ∧
      (∃ g n c ys, y[18]? = some (.slice (some ⟨g, 0, none⟩) n c) ∧ Lst w P g n c ys ∧ IsC w P a ys)
  | .seq a b, xs => ∃ y ys, xs = y :: ys ∧ IsC w P a [y] ∧ IsC w P b ys
theorem IsC.same {P : Nat → Prop} {w w' : World} (hs : Same P w w') : ∀ {c : Cm} {xs : List (List Value)}, IsC w P c xs → IsC w' P c xs
  | .skip, _, h => h
  | .asg _ _, _, h => h
  | .ite f a b, _, ⟨y, e, hl, h0, hf, ⟨g, n, c, ys, h1, h2, h3⟩, ⟨g', n', c', ys', h1', h2', h3'⟩⟩ => ⟨y, e, hl, h0, hf.same hs, ⟨g, n, c, ys, h1, h2.same hs, IsC.same hs h3⟩, ⟨g', n', c', ys', h1', h2'.same hs, IsC.same hs h3'⟩⟩
  | .loop f h a, _, ⟨y, e, hl, h0, hf, hg, ⟨g, n, c, ys, h1, h2, h3⟩⟩ => ⟨y, e, hl, h0, hf.same hs, hg.same hs, ⟨g, n, c, ys, h1, h2.same hs, IsC.same hs h3⟩⟩
  | .seq a b, _, ⟨y, ys, e, h1, h2⟩ => ⟨y, ys, e, IsC.same hs h1, IsC.same hs h2⟩
theorem IsC.mono {P P' : Nat → Prop} {w : World} (hm : ∀ g, P g → g < w.heap.size → P' g) : ∀ {c : Cm} {xs : List (List Value)}, IsC w P c xs → IsC w P' c xs
  | .skip, _, h => h
  | .asg _ _, _, h => h
  | .ite f a b, _, ⟨y, e, hl, h0, hf, ⟨g, n, c, ys, h1, h2, h3⟩, ⟨g', n', c', ys', h1', h2', h3'⟩⟩ => ⟨y, e, hl, h0, hf.mono hm, ⟨g, n, c, ys, h1, h2.mono hm, IsC.mono hm h3⟩, ⟨g', n', c', ys', h1', h2'.mono hm, IsC.mono hm h3'⟩⟩
  | .loop f h a, _, ⟨y, e, hl, h0, hf, hg, ⟨g, n, c, ys, h1, h2, h3⟩⟩ => ⟨y, e, hl, h0, hf.mono hm, hg.mono hm, ⟨g, n, c, ys, h1, h2.mono hm, IsC.mono hm h3⟩⟩
  | .seq a b, _, ⟨y, ys, e, h1, h2⟩ => ⟨y, ys, e, IsC.mono hm h1, IsC.mono hm h2⟩
/-- What a reader of a command, of commands answers. -/
def CR (toks : List (List UInt8 × Nat)) (k : Nat) (P : Nat → Prop) (w' : World) (v : Value) (σ' : PSt) : Prop := ∃ c y, v = .agg (List.toArray y) ∧ Rc toks false k c σ'.pos ∧ IsC w' P c [y]
def CsR (toks : List (List UInt8 × Nat)) (k : Nat) (P : Nat → Prop) (w' : World) (v : Value) (σ' : PSt) : Prop := ∃ c g n cap ys, v = .slice (some ⟨g, 0, none⟩) n cap ∧ Rc toks true k c σ'.pos ∧ Lst w' P g n cap ys ∧ IsC w' P c ys
end Go.Proofs.Ytkinoehmcfhgbaa.Av
