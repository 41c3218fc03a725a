/-
  The walks of the document's readers of conditions: bound, atomAt, number.
-/
import Derived.Test.YtkinoehmcfhgbaaDoorV0
import Derived.BigQuiet
import Derived.Deep.QuietTactic
set_option linter.unusedVariables false
set_option linter.unusedSimpArgs false
namespace Go.Proofs.YtkinoehmcfhgbaaDoor.Vl
open Go.RowKit

def bndV (at_ : Nat) : Option (Int × Nat) → Value
  | none => .tuple #[.int .i64 0, .int .i64 0, .bool false]
  | some (n, k) => .tuple #[.int .i64 n, .int .i64 ((at_ + k : Nat) : Int), .bool true]
theorem sgd_cons (s : ByteArray) (k : Nat) (h : k < s.size) : sgd (rest s k) = if ((s[k].toNat : Int) == 45) then 1 else 0 := by
  have e : ((s[k].toNat : Int) == 45) = (s[k] == 45) := u8_beq s[k] 45 (by omega)
  rw [e, rest_cons s k h]; rfl
theorem sgd_end (s : ByteArray) (k : Nat) (h : ¬ k < s.size) : sgd (rest s k) = 0 := by
  rw [rest_end s k (by omega)]; rfl
theorem dlen_more (s : ByteArray) (k : Nat) (h : k < s.size) (h1 : 48 ≤ (s[k].toNat : Int)) (h2 : (s[k].toNat : Int) ≤ 57) : dlen (rest s k) = dlen (rest s (k + 1)) + 1 := by
  rw [rest_cons s k h]; simp [dlen, isd, h1, h2]
theorem dlen_stop (s : ByteArray) (k : Nat) (h : k < s.size) (h1 : ¬ (48 ≤ (s[k].toNat : Int) ∧ (s[k].toNat : Int) ≤ 57)) : dlen (rest s k) = 0 := by
  have : isd s[k] = false := by
    cases hc : isd s[k] with
    | false => rfl
    | true => unfold isd at hc; simp at hc; omega
  rw [rest_cons s k h, dlen, this]; rfl
theorem dlen_end (s : ByteArray) (k : Nat) (h : ¬ k < s.size) : dlen (rest s k) = 0 := by
  rw [rest_end s k (by omega)]; rfl

/-- What bound answers, of the number read. -/
def bndR (at_ g : Nat) (to_ : Nat) (n : Int) : Value :=
  if n < 0 ∨ (g = 1 ∧ n = 0) then .tuple #[.int .i64 0, .int .i64 0, .bool false] else .tuple #[.int .i64 (if g = 1 then -n else n), .int .i64 (to_ : Int), .bool true]
theorem bndV_eq (s : ByteArray) (k g : Nat) (hg : sgd (rest s k) = g) :
    bndV k (bnd (rest s k)) = bndR k g (k + g + dlen (rest s (k + g))) (dg 999999 ((rest s (k + g)).take (dlen (rest s (k + g))))) := by
  unfold bnd
  rw [hg, rest_drop]
  unfold bndR
  split
  · rfl
  · simp only [bndV, Nat.add_assoc]

set_option maxHeartbeats 1000000 in
theorem bound_any (s : ByteArray) (k : Nat) (w : World) (hs : s.size ≤ 4000) (hk : k ≤ s.size) :
    Calls Tryd.prog 39 #[.string s, .int .i64 (k : Int)] w fun e w' => e = .returned (bndV k (bnd (rest s k))) ∧ w = w' := by
  obtain ⟨g, hg, hg1, hkg⟩ : ∃ g, sgd (rest s k) = g ∧ g ≤ 1 ∧ k + g ≤ s.size := by
    by_cases h : k < s.size
    · refine ⟨_, rfl, ?_, ?_⟩ <;> rw [sgd_cons s k h] <;> split <;> omega
    · refine ⟨_, rfl, ?_, ?_⟩ <;> rw [sgd_end s k h] <;> omega
  have H : Hid (bndV k (bnd (rest s k)) = bndR k g (k + g + dlen (rest s (k + g))) (dg 999999 ((rest s (k + g)).take (dlen (rest s (k + g)))))) := bndV_eq s k g hg
  have CD : Hid (∀ t w, t ≤ s.size → Calls Tryd.prog 46 #[.string (s.extract (k + g) t), .int .i64 999999] w fun e w' => e = .returned (.int .i64 (dg 999999 ((rest s (k + g)).take (t - (k + g))))) ∧ w = w') := fun t w ht => by
    have := digits_any (s.extract (k + g) t) w 999999 (by have := ByteArray.size_extract (a := s) (b := k + g) (e := t); omega) (by omega) (by omega)
    rwa [extract_rest] at this
  have hcase : (¬ k < s.size ∧ g = 0) ∨ (∃ h : k < s.size, ((s[k].toNat : Int) == 45) = true ∧ g = 1) ∨ (∃ h : k < s.size, ((s[k].toNat : Int) == 45) = false ∧ g = 0) := by
    by_cases h : k < s.size
    · rw [sgd_cons s k h] at hg
      cases hc : ((s[k].toNat : Int) == 45) with
      | true => rw [hc] at hg; exact Or.inr (Or.inl ⟨h, hc, by simpa using hg.symm⟩)
      | false => rw [hc] at hg; exact Or.inr (Or.inr ⟨h, hc, by simpa using hg.symm⟩)
    · rw [sgd_end s k h] at hg; exact Or.inl ⟨h, hg.symm⟩
  clear hg
  rcases hcase with ⟨hc1, rfl⟩ | ⟨hc1, hc2, rfl⟩ | ⟨hc1, hc2, rfl⟩
  · go_enter Tryd.func39, Tryd.ntmps39
    go_wp2
    go_loop [7] (fun t => ∃ j : Nat, t = .int .i64 (j : Int) ∧ k + 0 ≤ j ∧ j ≤ s.size ∧ dlen (rest s (k + 0)) = (j - (k + 0)) + dlen (rest s j)) (fun t => s.size - (intOf t).toNat)
    case atStart => exact ⟨k + 0, by simp, by omega, by omega, by omega⟩
    case round =>
      obtain ⟨j, rfl, hj1, hj2, hq⟩ := hrel
      have Q : Hid (dlen (rest s (k + 0)) = (j - (k + 0)) + dlen (rest s j)) := hq
      clear hq
      have C1 : Hid (∀ w, Calls Tryd.prog 46 #[.string (s.extract (k + 0) j), .int .i64 999999] w fun e w' => e = .returned (.int .i64 (dg 999999 ((rest s (k + 0)).take (j - (k + 0))))) ∧ w = w') := fun w => CD.out j w hj2
      obtain ⟨hn0, hn9⟩ := dg_range 999999 (by omega) ((rest s (k + 0)).take (j - (k + 0)))
      generalize hn : dg 999999 ((rest s (k + 0)).take (j - (k + 0))) = n at *
      have HN : Hid (dg 999999 ((rest s (k + 0)).take (j - (k + 0))) = n) := hn
      clear hn
      by_cases hlt : j < s.size
      · by_cases hd : 48 ≤ (s[j].toNat : Int) ∧ (s[j].toNat : Int) ≤ 57
        · obtain ⟨hd1, hd2⟩ := hd
          go_wp2
          go_round
          case rel => exact ⟨j + 1, by go_num, by omega, by omega, by rw [Q.out, dlen_more s j hlt hd1 hd2]; omega⟩
          case measure => simp [intOf]; omega
        · have hz : Hid (dlen (rest s (k + 0)) = j - (k + 0)) := by show _ = _; rw [Q.out, dlen_stop s j hlt hd]; rfl
          have hd' : ((s[j].toNat : Int) < 48) ∨ (48 ≤ (s[j].toNat : Int) ∧ ¬ (s[j].toNat : Int) ≤ 57) := by omega
          clear hd
          rcases hd' with hd | ⟨hd, hd'⟩
          all_goals (
          go_wp2_with (first | (go_at_call 46; refine (C1.out _).mono ?_; rintro e w' ⟨rfl, rfl⟩))
          all_goals refine bodyPost_ret (results_tmp3 rfl _ _ _) rfl ?_
          all_goals refine ⟨?_, rfl⟩
          all_goals rw [H.out, hz.out, HN.out]
          all_goals (unfold bndR; first | (rw [if_pos (by simp_all; done)]; rfl) | (rw [if_neg (by simp_all; try omega)]; simp_all; try omega)))
      · have hz : Hid (dlen (rest s (k + 0)) = j - (k + 0)) := by show _ = _; rw [Q.out, dlen_end s j hlt]; rfl
        (
          go_wp2_with (first | (go_at_call 46; refine (C1.out _).mono ?_; rintro e w' ⟨rfl, rfl⟩))
          all_goals refine bodyPost_ret (results_tmp3 rfl _ _ _) rfl ?_
          all_goals refine ⟨?_, rfl⟩
          all_goals rw [H.out, hz.out, HN.out]
          all_goals (unfold bndR; first | (rw [if_pos (by simp_all; done)]; rfl) | (rw [if_neg (by simp_all; try omega)]; simp_all; try omega)))
  · go_enter Tryd.func39, Tryd.ntmps39
    go_wp2
    go_loop [7] (fun t => ∃ j : Nat, t = .int .i64 (j : Int) ∧ k + 1 ≤ j ∧ j ≤ s.size ∧ dlen (rest s (k + 1)) = (j - (k + 1)) + dlen (rest s j)) (fun t => s.size - (intOf t).toNat)
    case atStart => exact ⟨k + 1, by simp, by omega, by omega, by omega⟩
    case round =>
      obtain ⟨j, rfl, hj1, hj2, hq⟩ := hrel
      have Q : Hid (dlen (rest s (k + 1)) = (j - (k + 1)) + dlen (rest s j)) := hq
      clear hq
      have C1 : Hid (∀ w, Calls Tryd.prog 46 #[.string (s.extract (k + 1) j), .int .i64 999999] w fun e w' => e = .returned (.int .i64 (dg 999999 ((rest s (k + 1)).take (j - (k + 1))))) ∧ w = w') := fun w => CD.out j w hj2
      obtain ⟨hn0, hn9⟩ := dg_range 999999 (by omega) ((rest s (k + 1)).take (j - (k + 1)))
      generalize hn : dg 999999 ((rest s (k + 1)).take (j - (k + 1))) = n at *
      have HN : Hid (dg 999999 ((rest s (k + 1)).take (j - (k + 1))) = n) := hn
      clear hn
      by_cases hlt : j < s.size
      · by_cases hd : 48 ≤ (s[j].toNat : Int) ∧ (s[j].toNat : Int) ≤ 57
        · obtain ⟨hd1, hd2⟩ := hd
          go_wp2
          go_round
          case rel => exact ⟨j + 1, by go_num, by omega, by omega, by rw [Q.out, dlen_more s j hlt hd1 hd2]; omega⟩
          case measure => simp [intOf]; omega
        · have hz : Hid (dlen (rest s (k + 1)) = j - (k + 1)) := by show _ = _; rw [Q.out, dlen_stop s j hlt hd]; rfl
          have hd' : ((s[j].toNat : Int) < 48) ∨ (48 ≤ (s[j].toNat : Int) ∧ ¬ (s[j].toNat : Int) ≤ 57) := by omega
          clear hd
          rcases hd' with hd | ⟨hd, hd'⟩
          all_goals (
          go_wp2_with (first | (go_at_call 46; refine (C1.out _).mono ?_; rintro e w' ⟨rfl, rfl⟩))
          all_goals refine bodyPost_ret (results_tmp3 rfl _ _ _) rfl ?_
          all_goals refine ⟨?_, rfl⟩
          all_goals rw [H.out, hz.out, HN.out]
          all_goals (unfold bndR; first | (rw [if_pos (by simp_all; done)]; rfl) | (rw [if_neg (by simp_all; try omega)]; simp_all; try omega)))
      · have hz : Hid (dlen (rest s (k + 1)) = j - (k + 1)) := by show _ = _; rw [Q.out, dlen_end s j hlt]; rfl
        (
          go_wp2_with (first | (go_at_call 46; refine (C1.out _).mono ?_; rintro e w' ⟨rfl, rfl⟩))
          all_goals refine bodyPost_ret (results_tmp3 rfl _ _ _) rfl ?_
          all_goals refine ⟨?_, rfl⟩
          all_goals rw [H.out, hz.out, HN.out]
          all_goals (unfold bndR; first | (rw [if_pos (by simp_all; done)]; rfl) | (rw [if_neg (by simp_all; try omega)]; simp_all; try omega)))
  · go_enter Tryd.func39, Tryd.ntmps39
    go_wp2
    go_loop [7] (fun t => ∃ j : Nat, t = .int .i64 (j : Int) ∧ k + 0 ≤ j ∧ j ≤ s.size ∧ dlen (rest s (k + 0)) = (j - (k + 0)) + dlen (rest s j)) (fun t => s.size - (intOf t).toNat)
    case atStart => exact ⟨k + 0, by simp, by omega, by omega, by omega⟩
    case round =>
      obtain ⟨j, rfl, hj1, hj2, hq⟩ := hrel
      have Q : Hid (dlen (rest s (k + 0)) = (j - (k + 0)) + dlen (rest s j)) := hq
      clear hq
      have C1 : Hid (∀ w, Calls Tryd.prog 46 #[.string (s.extract (k + 0) j), .int .i64 999999] w fun e w' => e = .returned (.int .i64 (dg 999999 ((rest s (k + 0)).take (j - (k + 0))))) ∧ w = w') := fun w => CD.out j w hj2
      obtain ⟨hn0, hn9⟩ := dg_range 999999 (by omega) ((rest s (k + 0)).take (j - (k + 0)))
      generalize hn : dg 999999 ((rest s (k + 0)).take (j - (k + 0))) = n at *
      have HN : Hid (dg 999999 ((rest s (k + 0)).take (j - (k + 0))) = n) := hn
      clear hn
      by_cases hlt : j < s.size
      · by_cases hd : 48 ≤ (s[j].toNat : Int) ∧ (s[j].toNat : Int) ≤ 57
        · obtain ⟨hd1, hd2⟩ := hd
          go_wp2
          go_round
          case rel => exact ⟨j + 1, by go_num, by omega, by omega, by rw [Q.out, dlen_more s j hlt hd1 hd2]; omega⟩
          case measure => simp [intOf]; omega
        · have hz : Hid (dlen (rest s (k + 0)) = j - (k + 0)) := by show _ = _; rw [Q.out, dlen_stop s j hlt hd]; rfl
          have hd' : ((s[j].toNat : Int) < 48) ∨ (48 ≤ (s[j].toNat : Int) ∧ ¬ (s[j].toNat : Int) ≤ 57) := by omega
          clear hd
          rcases hd' with hd | ⟨hd, hd'⟩
          all_goals (
          go_wp2_with (first | (go_at_call 46; refine (C1.out _).mono ?_; rintro e w' ⟨rfl, rfl⟩))
          all_goals refine bodyPost_ret (results_tmp3 rfl _ _ _) rfl ?_
          all_goals refine ⟨?_, rfl⟩
          all_goals rw [H.out, hz.out, HN.out]
          all_goals (unfold bndR; first | (rw [if_pos (by simp_all; done)]; rfl) | (rw [if_neg (by simp_all; try omega)]; simp_all; try omega)))
      · have hz : Hid (dlen (rest s (k + 0)) = j - (k + 0)) := by show _ = _; rw [Q.out, dlen_end s j hlt]; rfl
        (
          go_wp2_with (first | (go_at_call 46; refine (C1.out _).mono ?_; rintro e w' ⟨rfl, rfl⟩))
          all_goals refine bodyPost_ret (results_tmp3 rfl _ _ _) rfl ?_
          all_goals refine ⟨?_, rfl⟩
          all_goals rw [H.out, hz.out, HN.out]
          all_goals (unfold bndR; first | (rw [if_pos (by simp_all; done)]; rfl) | (rw [if_neg (by simp_all; try omega)]; simp_all; try omega)))

/-- What atomAt answers. -/
def atmV (at_ : Nat) : Option (Atm × Nat) → Value
  | none => .tuple #[.agg #[.int .i64 0, .int .i64 0, .int .i64 0], .int .i64 0, .bool false]
  | some (a, k) => .tuple #[.agg #[.int .i64 a.1, .int .i64 a.2.1, .int .i64 a.2.2], .int .i64 ((at_ + k : Nat) : Int), .bool true]
theorem atm_long (s : ByteArray) (k : Nat) (h : k + 5 < s.size) : atm (rest s k) =
    if !((s[k + 1].toNat : Int) == 45) || !((s.extract (k + 3) (k + 5)).toList == [60, 61]) then none else
    match bnd (rest s (k + 5)) with
    | none => none
    | some (n, j) => if decide (plc s[k].toNat < 0) || decide (plc s[k + 2].toNat < 0) || (plc s[k].toNat == plc s[k + 2].toNat) || !(((rest s (k + 5)).getD j 0) == 46) then none else some ((plc s[k].toNat, plc s[k + 2].toNat, n), 6 + j) := by
  have e1 : ((s[k + 1].toNat : Int) == 45) = (s[k + 1] == 45) := u8_beq s[k + 1] 45 (by omega)
  have e2 : (s.extract (k + 3) (k + 5)).toList = [s[k + 3], s[k + 4]] := by
    rw [ByteArray.toList_eq, extract_rest, rest_cons s (k + 3) (by omega), rest_cons s (k + 3 + 1) (by omega)]
    have : k + 5 - (k + 3) = 2 := by omega
    rw [this]; rfl
  have e3 : (rest s (k + 5)).isEmpty = false := by rw [rest_cons s (k + 5) h]; rfl
  rw [e1, e2, rest_cons s k (by omega), rest_cons s (k + 1) (by omega), rest_cons s (k + 1 + 1) (by omega), rest_cons s (k + 1 + 1 + 1) (by omega), rest_cons s (k + 1 + 1 + 1 + 1) (by omega)]
  simp only [atm, plu]
  rw [e3, Bool.false_or]
  rfl
theorem atm_short (s : ByteArray) (k : Nat) (h : ¬ k + 5 < s.size) : atm (rest s k) = none := by
  have hl := rest_len s k
  match hr : rest s k, hl with
  | [], _ => rfl
  | [_], _ => rfl
  | [_, _], _ => rfl
  | [_, _, _], _ => rfl
  | [_, _, _, _], _ => rfl
  | [_, _, _, _, _], _ => rfl
  | a :: b :: c :: d :: e :: f :: r, hl => simp only [List.length_cons] at hl; omega
theorem point_at (s : ByteArray) (k j : Nat) : ((rest s k).getD j 0 == 46) = if h : k + j < s.size then ((s[k + j].toNat : Int) == 46) else false := by
  rw [List.getD_eq_getElem?_getD]
  split
  · rename_i h
    have e : ((s[k + j].toNat : Int) == 46) = (s[k + j] == 46) := u8_beq s[k + j] 46 (by omega)
    rw [e]
    have : (rest s k)[j]? = some s[k + j] := by
      unfold rest
      rw [List.getElem?_drop, List.getElem?_eq_getElem (by simpa using h)]; rfl
    rw [this]; rfl
  · rename_i h
    have : (rest s k)[j]? = none := by rw [List.getElem?_eq_none_iff, rest_len]; omega
    rw [this]; rfl
end Go.Proofs.YtkinoehmcfhgbaaDoor.Vl
