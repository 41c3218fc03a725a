/-
  A symbol of a condition as the program cuts it off, and as the document reads it: the same. Plain words alone.
-/
import Derived.Test.YtkinoehmcfhgbaaDoorV10
set_option linter.unusedVariables false
set_option linter.unusedSimpArgs false
namespace Go.Proofs.YtkinoehmcfhgbaaDoor.Vl
open Go.RowKit

def ops5 : List UInt8 := [48, 97, 98, 99, 100]
def mks6 : List UInt8 := [116, 102, 33, 38, 124, 62]
/-- An atom without its point, as the program reads it. -/
def patm (l : List UInt8) : Option Atm :=
  match Lib.cut l [60, 61] with
  | (sides, num, found) =>
    if !found || sides.length != 3 || !(sides.getD 1 0 == 45) || (sides.getD 0 0 == sides.getD 2 0) then none else
    match bndX num with
    | none => none
    | some n => if Lib.indexByte ops5 (sides.getD 0 0) < 0 ∨ Lib.indexByte ops5 (sides.getD 2 0) < 0 then none else some (Lib.indexByte ops5 (sides.getD 0 0), Lib.indexByte ops5 (sides.getD 2 0), n)
/-- A symbol and what stands behind it, as the program cuts it off. -/
def csym : List UInt8 → Option (Sym × List UInt8)
  | [] => none
  | c :: r => if 0 ≤ Lib.indexByte mks6 c then some ((Lib.indexByte mks6 c, 0, 0, 0), r) else
    if (Lib.cut (c :: r) [46]).2.2 = true then (patm (Lib.cut (c :: r) [46]).1).map fun a => ((6, a), (Lib.cut (c :: r) [46]).2.1) else none

theorem ib_no (b c : UInt8) (l : List UInt8) (h : (b == c) = false) (hl : Lib.indexByte l c = -1) : Lib.indexByte (b :: l) c = -1 := by
  simp [Lib.indexByte, h, hl]
theorem mks_mk (c : UInt8) : Lib.indexByte mks6 c = mk (c.toNat : Int) := by
  by_cases h1 : c = 116
  · subst h1; rfl
  by_cases h2 : c = 102
  · subst h2; rfl
  by_cases h3 : c = 33
  · subst h3; rfl
  by_cases h4 : c = 38
  · subst h4; rfl
  by_cases h5 : c = 124
  · subst h5; rfl
  by_cases h6 : c = 62
  · subst h6; rfl
  have e1 : ((c.toNat : Int) == 116) = (c == 116) := u8_beq c 116 (by omega)
  have e2 : ((c.toNat : Int) == 102) = (c == 102) := u8_beq c 102 (by omega)
  have e3 : ((c.toNat : Int) == 33) = (c == 33) := u8_beq c 33 (by omega)
  have e4 : ((c.toNat : Int) == 38) = (c == 38) := u8_beq c 38 (by omega)
  have e5 : ((c.toNat : Int) == 124) = (c == 124) := u8_beq c 124 (by omega)
  have e6 : ((c.toNat : Int) == 62) = (c == 62) := u8_beq c 62 (by omega)
  have m1 : (c == 116) = false := by rw [beq_eq_false_iff_ne]; exact h1
  have m2 : (c == 102) = false := by rw [beq_eq_false_iff_ne]; exact h2
  have m3 : (c == 33) = false := by rw [beq_eq_false_iff_ne]; exact h3
  have m4 : (c == 38) = false := by rw [beq_eq_false_iff_ne]; exact h4
  have m5 : (c == 124) = false := by rw [beq_eq_false_iff_ne]; exact h5
  have m6 : (c == 62) = false := by rw [beq_eq_false_iff_ne]; exact h6
  have hr : mk (c.toNat : Int) = -1 := by
    unfold mk; simp only [e1, e2, e3, e4, e5, e6, m1, m2, m3, m4, m5, m6, Bool.false_eq_true, if_false]
  rw [hr]
  unfold mks6
  exact ib_no _ _ _ (by rw [Bool.beq_comm]; exact m1) (ib_no _ _ _ (by rw [Bool.beq_comm]; exact m2) (ib_no _ _ _ (by rw [Bool.beq_comm]; exact m3) (ib_no _ _ _ (by rw [Bool.beq_comm]; exact m4) (ib_no _ _ _ (by rw [Bool.beq_comm]; exact m5) (ib_no _ _ _ (by rw [Bool.beq_comm]; exact m6) rfl)))))
theorem ops_plu (c : UInt8) : Lib.indexByte ops5 c = plu c := by
  have e1 : ((c.toNat : Int) == 48) = (c == 48) := u8_beq c 48 (by omega)
  have e2 : ((c.toNat : Int) == 97) = (c == 97) := u8_beq c 97 (by omega)
  have e3 : ((c.toNat : Int) == 98) = (c == 98) := u8_beq c 98 (by omega)
  have e4 : ((c.toNat : Int) == 99) = (c == 99) := u8_beq c 99 (by omega)
  have e5 : ((c.toNat : Int) == 100) = (c == 100) := u8_beq c 100 (by omega)
  unfold plu plc ops5
  by_cases h1 : c = 48
  · subst h1; rfl
  by_cases h2 : c = 97
  · subst h2; rfl
  by_cases h3 : c = 98
  · subst h3; rfl
  by_cases h4 : c = 99
  · subst h4; rfl
  by_cases h5 : c = 100
  · subst h5; rfl
  have m1 : (c == 48) = false := by rw [beq_eq_false_iff_ne]; exact h1
  have m2 : (c == 97) = false := by rw [beq_eq_false_iff_ne]; exact h2
  have m3 : (c == 98) = false := by rw [beq_eq_false_iff_ne]; exact h3
  have m4 : (c == 99) = false := by rw [beq_eq_false_iff_ne]; exact h4
  have m5 : (c == 100) = false := by rw [beq_eq_false_iff_ne]; exact h5
  simp only [e1, e2, e3, e4, e5, m1, m2, m3, m4, m5, Bool.or_self, Bool.false_eq_true, if_false]
  exact ib_no _ _ _ (by rw [Bool.beq_comm]; exact m1) (ib_no _ _ _ (by rw [Bool.beq_comm]; exact m2) (ib_no _ _ _ (by rw [Bool.beq_comm]; exact m3) (ib_no _ _ _ (by rw [Bool.beq_comm]; exact m4) (ib_no _ _ _ (by rw [Bool.beq_comm]; exact m5) rfl))))
theorem plu_inj {a c : UInt8} (ha : 0 ≤ plu a) (h : plu a = plu c) : a = c := by
  unfold plu plc at *
  simp only [beq_iff_eq, Bool.or_eq_true] at *
  apply UInt8.toNat_inj.1
  repeat' split at h
  all_goals simp_all
  all_goals omega
theorem plu_not {a : UInt8} (ha : 0 ≤ plu a) : a ≠ 46 ∧ a ≠ 60 ∧ a ≠ 45 := by
  refine ⟨?_, ?_, ?_⟩ <;> intro e <;> subst e <;> exact absurd ha (by decide)

/-- The one form of an atom. -/
def Form (l : List UInt8) (a c : UInt8) (n : Int) (tail : List UInt8) : Prop :=
  l = a :: 45 :: c :: 60 :: 61 :: (Lib.itoa n ++ 46 :: tail) ∧ 0 ≤ plu a ∧ 0 ≤ plu c ∧ plu a ≠ plu c ∧ -999999 ≤ n ∧ n ≤ 999999
theorem atm_form {l : List UInt8} {q : Atm} {k : Nat} (h : atm l = some (q, k)) : ∃ a c n tail, Form l a c n tail ∧ q = (plu a, plu c, n) ∧ tail = l.drop k := by
  match l, h with
  | a :: b :: c :: d :: e :: r, h =>
    simp only [atm] at h
    split at h
    · cases h
    · rename_i h1
      cases hb : bnd r with
      | none => rw [hb] at h; cases h
      | some p =>
        obtain ⟨n, j⟩ := p
        rw [hb] at h
        simp only at h
        split at h
        · cases h
        · rename_i h2
          simp only [Bool.or_eq_true, Bool.not_eq_true', beq_eq_false_iff_ne, not_or, ne_eq, Decidable.not_not, List.cons.injEq, and_true] at h1
          simp only [Bool.or_eq_true, decide_eq_true_eq, Bool.not_eq_true', beq_eq_false_iff_ne, beq_iff_eq, not_or, ne_eq, Decidable.not_not] at h2
          obtain ⟨⟨⟨c1, c2⟩, c3⟩, c4⟩ := h2
          obtain ⟨⟨_, hb45⟩, hd60, he61⟩ := h1
          subst hb45 hd60 he61
          obtain ⟨i1, i2, i3⟩ := itoa_bnd hb
          cases h
          have hj : j < r.length := by
            rcases Nat.lt_or_ge j r.length with hj | hj
            · exact hj
            · rw [List.getD_eq_getElem?_getD, List.getElem?_eq_none hj] at c4; exact absurd c4 (by decide)
          refine ⟨a, c, n, r.drop (j + 1), ⟨?_, by omega, by omega, c3, i2, i3⟩, rfl, ?_⟩
          · have hr : r = r.take j ++ 46 :: r.drop (j + 1) := by
              conv => lhs; rw [← List.take_append_drop j r]
              congr 1
              rw [List.drop_eq_getElem_cons hj]
              congr 1
              rw [List.getD_eq_getElem?_getD, List.getElem?_eq_getElem hj] at c4
              exact c4
            rw [i1] at hr
            rw [← hr]
          · show r.drop (j + 1) = (a :: 45 :: c :: 60 :: 61 :: r).drop (6 + j)
            rw [show 6 + j = (j + 1) + 1 + 1 + 1 + 1 + 1 by omega]
            simp only [List.drop_succ_cons]
theorem form_atm {l : List UInt8} {a c : UInt8} {n : Int} {tail : List UInt8} (h : Form l a c n tail) : ∃ k, atm l = some ((plu a, plu c, n), k) ∧ tail = l.drop k := by
  obtain ⟨rfl, h1, h2, h3, h4, h5⟩ := h
  have hb := bnd_itoa n h4 h5 tail
  refine ⟨6 + (Lib.itoa n).length, ?_, ?_⟩
  · have he : (Lib.itoa n ++ 46 :: tail).isEmpty = false := by simp
    simp only [atm, he, hb]
    have hg : (Lib.itoa n ++ 46 :: tail).getD (Lib.itoa n).length 0 = 46 := by
      rw [List.getD_eq_getElem?_getD, List.getElem?_append_right (Nat.le_refl _)]; simp
    rw [hg]
    have d1 : decide (plu a < 0) = false := by simp; omega
    have d2 : decide (plu c < 0) = false := by simp; omega
    have d3 : (plu a == plu c) = false := by simpa using h3
    rw [d1, d2, d3]; rfl
  · rw [show 6 + (Lib.itoa n).length = ((Lib.itoa n).length + 1) + 1 + 1 + 1 + 1 + 1 by omega]
    simp only [List.drop_succ_cons]
    rw [List.drop_append, List.drop_eq_nil_of_le (by omega)]
    simp
theorem itoa_no (n : Int) (h0 : -999999 ≤ n) (h1 : n ≤ 999999) : ∀ x ∈ Lib.itoa n, x ≠ 46 := by
  intro x hx e
  subst e
  unfold Lib.itoa at hx
  split at hx
  · rcases List.mem_cons.1 hx with h | h
    · exact absurd h (by decide)
    · have := dec_dig _ (by omega) 46 h; cases this
  · have := dec_dig _ (by omega) 46 hx; cases this
theorem cut_dot (x tail : List UInt8) (h : ∀ c ∈ x, c ≠ 46) : Lib.cut (x ++ 46 :: tail) [46] = (x, tail, true) := by
  have hi : Lib.index (x ++ 46 :: tail) [46] = x.length := by
    refine Lib.index_first (by simp) ?_ ?_
    · unfold Lib.occAt; simp [List.isPrefixOf]
    · intro j hj
      unfold Lib.occAt
      rw [List.drop_append_of_le_length (by omega), List.drop_eq_getElem_cons hj]
      simp only [List.cons_append, List.isPrefixOf, Bool.and_true, beq_eq_false_iff_ne]
      exact fun e => h _ (List.getElem_mem hj) e.symm
  unfold Lib.cut
  rw [hi, if_pos (by omega)]
  simp
theorem cut_back {l sep x y : List UInt8} (h : Lib.cut l sep = (x, y, true)) : l = x ++ sep ++ y := by
  unfold Lib.cut at h
  split at h
  · rename_i h0
    rcases Lib.index_spec l sep with ⟨h1, _⟩ | ⟨i, h1, h2, h3, _⟩
    · omega
    · rw [h1, Int.toNat_natCast] at h
      injection h with hx h
      injection h with hy _
      unfold Lib.occAt at h3
      rw [List.isPrefixOf_iff_prefix] at h3
      obtain ⟨t, ht⟩ := h3
      have : y = t := by
        rw [← hy, ← List.drop_drop, ← ht]; simp
      rw [← hx, this, List.append_assoc, ht, List.take_append_drop]
  · cases h
theorem cut_le (a c : UInt8) (num : List UInt8) (ha : a ≠ 60) (hc : c ≠ 60) : Lib.cut (a :: 45 :: c :: 60 :: 61 :: num) [60, 61] = ([a, 45, c], num, true) := by
  have hi : Lib.index (a :: 45 :: c :: 60 :: 61 :: num) [60, 61] = ((3 : Nat) : Int) := by
    refine Lib.index_first (by simp) rfl ?_
    intro j hj
    have ha' : (60 == a) = false := by rw [beq_eq_false_iff_ne]; exact fun e => ha e.symm
    have hc' : (60 == c) = false := by rw [beq_eq_false_iff_ne]; exact fun e => hc e.symm
    match j, hj with
    | 0, _ => simp [Lib.occAt, List.isPrefixOf, ha']
    | 1, _ => simp [Lib.occAt, List.isPrefixOf]
    | 2, _ => simp [Lib.occAt, List.isPrefixOf, hc']
  unfold Lib.cut
  rw [hi, if_pos (by omega)]
  rfl
theorem patm_form {a c : UInt8} {n : Int} (h1 : 0 ≤ plu a) (h2 : 0 ≤ plu c) (h3 : plu a ≠ plu c) (h4 : -999999 ≤ n) (h5 : n ≤ 999999) : patm (a :: 45 :: c :: 60 :: 61 :: Lib.itoa n) = some (plu a, plu c, n) := by
  unfold patm
  rw [cut_le a c _ (plu_not h1).2.1 (plu_not h2).2.1]
  have hac : (a == c) = false := by rw [beq_eq_false_iff_ne]; intro e; subst e; exact h3 rfl
  simp only [List.length_cons, List.length_nil, List.getD_cons_zero, List.getD_cons_succ, hac, bndX_itoa n h4 h5, ops_plu]
  rw [if_neg (by decide), if_neg (by omega)]
theorem form_patm {l : List UInt8} {q : Atm} (h : patm l = some q) : ∃ a c n, l = a :: 45 :: c :: 60 :: 61 :: Lib.itoa n ∧ q = (plu a, plu c, n) ∧ 0 ≤ plu a ∧ 0 ≤ plu c ∧ plu a ≠ plu c ∧ -999999 ≤ n ∧ n ≤ 999999 := by
  unfold patm at h
  match hcut : Lib.cut l [60, 61], h with
  | (sides, num, found), h =>
    simp only at h
    split at h
    · cases h
    · rename_i h1
      cases hb : bndX num with
      | none => rw [hb] at h; cases h
      | some n =>
        rw [hb] at h
        simp only at h
        split at h
        · cases h
        · rename_i h2
          simp only [Bool.or_eq_true, Bool.not_eq_true', bne_iff_ne, beq_eq_false_iff_ne, beq_iff_eq, not_or, ne_eq, Decidable.not_not, Bool.not_eq_false] at h1
          obtain ⟨⟨⟨f1, f2⟩, f3⟩, f4⟩ := h1
          subst f1
          match sides, f2 with
          | [a, b, c], _ =>
            simp only [List.getD_cons_zero, List.getD_cons_succ] at f3 f4 h2 h
            subst f3
            obtain ⟨i1, i2, i3⟩ := itoa_bndX hb
            have hl := cut_back hcut
            rw [ops_plu, ops_plu] at h2 h
            cases h
            refine ⟨a, c, n, by rw [hl, i1]; rfl, rfl, by omega, by omega, fun e => f4 (plu_inj (by omega) e), i2, i3⟩
/-- The two readers cut off the same. -/
theorem csym_sym (c : UInt8) (r : List UInt8) : csym (c :: r) = (sym (c :: r)).map fun q => (q.1, (c :: r).drop q.2) := by
  simp only [csym, sym, mks_mk]
  split
  · simp
  · rename_i hm
    cases ha : atm (c :: r) with
    | some q =>
      obtain ⟨q, k⟩ := q
      obtain ⟨a, c', n, tail, hf, rfl, ht⟩ := atm_form ha
      obtain ⟨hl, h1, h2, h3, h4, h5⟩ := hf
      have hcut : Lib.cut (c :: r) [46] = (a :: 45 :: c' :: 60 :: 61 :: Lib.itoa n, tail, true) := by
        rw [hl]
        refine cut_dot (a :: 45 :: c' :: 60 :: 61 :: Lib.itoa n) tail ?_
        intro x hx
        simp only [List.mem_cons] at hx
        rcases hx with rfl | rfl | rfl | rfl | rfl | hx
        · exact (plu_not h1).1
        · decide
        · exact (plu_not h2).1
        · decide
        · decide
        · exact itoa_no n h4 h5 x hx
      rw [hcut]
      simp only [if_true, patm_form h1 h2 h3 h4 h5, Option.map_some, ht]
    | none =>
      simp only [Option.map_none]
      split
      · rename_i hc
        cases hp : patm (Lib.cut (c :: r) [46]).1 with
        | none => rfl
        | some q =>
          exfalso
          obtain ⟨a, c', n, h0, rfl, h1, h2, h3, h4, h5⟩ := form_patm hp
          have hb := cut_back (l := c :: r) (sep := [46]) (x := (Lib.cut (c :: r) [46]).1) (y := (Lib.cut (c :: r) [46]).2.1) (by rw [← hc])
          rw [h0] at hb
          have hf : Form (c :: r) a c' n (Lib.cut (c :: r) [46]).2.1 := ⟨hb.trans (by simp), h1, h2, h3, h4, h5⟩
          obtain ⟨k, hk, _⟩ := form_atm hf
          rw [ha] at hk; cases hk
      · rfl
end Go.Proofs.YtkinoehmcfhgbaaDoor.Vl
