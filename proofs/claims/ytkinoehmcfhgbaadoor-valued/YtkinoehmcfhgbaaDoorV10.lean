/-
  Numbers and atoms as the program reads them, and as the document does: plain words alone.
-/
import Derived.Test.YtkinoehmcfhgbaaDoorV4
import Derived.Lib.AtoiAll
import Derived.Lib.ItoaNum
import Derived.Lib.ItoaMem
import Derived.Lib.IndexMore
set_option linter.unusedVariables false
set_option linter.unusedSimpArgs false
namespace Go.Proofs.YtkinoehmcfhgbaaDoor.Vl
open Go.RowKit

/- What the program reads. -/
def bndX (l : List UInt8) : Option Int := match Lib.atoiAll l with
  | .ok v => if Lib.itoa v = l ∧ -999999 ≤ v ∧ v ≤ 999999 then some v else none
  | _ => none

theorem dgo_append (m : Int) : ∀ (a b : List UInt8) (v : Int), 0 ≤ v → 0 ≤ dgo m a v → dgo m (a ++ b) v = dgo m b (dgo m a v)
  | [], b, v, _, _ => rfl
  | c :: r, b, v, hv, h => by
    simp only [dgo, List.cons_append] at h ⊢
    split
    · rename_i hc; rw [if_pos hc] at h; omega
    · rename_i hc
      rw [if_neg hc] at h
      split
      · rename_i hm; rw [if_pos hm] at h; omega
      · rename_i hm
        rw [if_neg hm] at h
        exact dgo_append m r b _ (by omega) h
theorem dgo_ge (m : Int) : ∀ (a : List UInt8) (v : Int), 0 ≤ v → 0 ≤ dgo m a v → v ≤ dgo m a v
  | [], v, _, _ => Int.le_refl _
  | c :: r, v, hv, h => by
    simp only [dgo] at h ⊢
    split
    · rename_i hc; rw [if_pos hc] at h; omega
    · rename_i hc
      rw [if_neg hc] at h
      split
      · rename_i hm; rw [if_pos hm] at h; omega
      · rename_i hm
        rw [if_neg hm] at h
        have := dgo_ge m r _ (by omega) h
        omega
theorem dgo_dig (m : Int) : ∀ (a : List UInt8) (v : Int), 0 ≤ dgo m a v → ∀ c ∈ a, isd c = true
  | [], v, _ => by intro c hc; cases hc
  | c :: r, v, h => by
    simp only [dgo] at h
    split at h
    · omega
    · rename_i hc
      split at h
      · omega
      · intro d hd
        rcases List.mem_cons.1 hd with rfl | hd
        · unfold isd; simp; omega
        · exact dgo_dig m r _ h d hd
theorem dgo_pref (m : Int) : ∀ (a b : List UInt8) (v : Int), 0 ≤ dgo m (a ++ b) v → 0 ≤ v → 0 ≤ dgo m a v
  | [], b, v, _, hv => hv
  | c :: r, b, v, h, hv => by
    simp only [dgo, List.cons_append] at h ⊢
    split
    · rename_i hc; rw [if_pos hc] at h; omega
    · rename_i hc
      rw [if_neg hc] at h
      split
      · rename_i hm; rw [if_pos hm] at h; omega
      · rename_i hm
        rw [if_neg hm] at h
        exact dgo_pref m r b _ h (by omega)
theorem u8_of (d : UInt8) (k : Nat) (hk : k < 10) (h : (d.toNat : Int) - 48 = (k : Int)) : UInt8.ofNat (48 + k) = d := by
  apply UInt8.toNat_inj.1
  simp
  omega
/-- Digits with no 0 too many are the numeral of their value. -/
theorem dec_of (m : Int) : ∀ (n : Nat) (ds : List UInt8), ds.length = n → ds ≠ [] → (ds.headD 0 ≠ 48 ∨ ds.length = 1) → 0 ≤ dgo m ds 0 → Lib.decDigits (dgo m ds 0).toNat = ds
  | 0, ds, hl, hne, _, _ => absurd (List.length_eq_zero_iff.1 hl) hne
  | n + 1, ds, hl, hne, hh, h0 => by
    rcases List.eq_nil_or_concat ds with rfl | ⟨a, d, rfl⟩
    · exact absurd rfl hne
    · rw [List.concat_eq_append] at *
      have hp := dgo_pref m a [d] 0 h0 (Int.le_refl _)
      have ha := dgo_append m a [d] 0 (Int.le_refl _) hp
      have hd := dgo_dig m _ _ h0 d (by simp)
      have hd' : 48 ≤ (d.toNat : Int) ∧ (d.toNat : Int) ≤ 57 := by unfold isd at hd; simpa using hd
      have hv : dgo m (a ++ [d]) 0 = dgo m a 0 * 10 + ((d.toNat : Int) - 48) := by
        rw [ha]; rw [ha] at h0
        simp only [dgo] at h0 ⊢
        split
        · rename_i h; omega
        · split
          · rename_i h1 h2; rw [if_neg h1, if_pos h2] at h0; omega
          · rfl
      rw [hv]
      cases a with
      | nil =>
        have e : dgo m [] 0 = 0 := rfl
        rw [e]
        rw [Lib.decDigits, dif_pos (by omega)]
        simp only [List.nil_append]
        congr 1
        exact u8_of d _ (by omega) (by omega)
      | cons c r =>
        have hc : c ≠ 48 := by
          rcases hh with hh | hh
          · simpa using hh
          · simp at hh
        have hy : 1 ≤ dgo m (c :: r) 0 := by
          have hcd := dgo_dig m _ _ hp c (by simp)
          have hcd' : 48 ≤ (c.toNat : Int) ∧ (c.toNat : Int) ≤ 57 := by unfold isd at hcd; simpa using hcd
          have hc' : (c.toNat : Int) ≠ 48 := by
            intro e; apply hc
            apply UInt8.toNat_inj.1
            have : c.toNat = 48 := by omega
            rw [this]; rfl
          simp only [dgo] at hp ⊢
          rw [if_neg (by omega)] at hp ⊢
          split
          · rename_i h; rw [if_pos h] at hp; omega
          · rename_i h
            rw [if_neg h] at hp
            have := dgo_ge m r _ (by omega) hp
            omega
        rw [Lib.decDigits, dif_neg (by omega)]
        have e1 : (dgo m (c :: r) 0 * 10 + ((d.toNat : Int) - 48)).toNat / 10 = (dgo m (c :: r) 0).toNat := by omega
        have e2 : (dgo m (c :: r) 0 * 10 + ((d.toNat : Int) - 48)).toNat % 10 = d.toNat - 48 := by omega
        rw [e1, e2, dec_of m n (c :: r) (by simpa using hl) (by simp) (Or.inl (by simpa using hc)) hp]
        congr 1
        rw [u8_of d (d.toNat - 48) (by omega) (by omega)]
theorem u8_dig (k : Nat) (hk : k < 10) : ((UInt8.ofNat (48 + k)).toNat : Int) = 48 + (k : Int) := by
  simp; omega
/-- The numeral of a number is read as that number. -/
theorem dgo_dec (m : Int) : ∀ (u : Nat), (u : Int) ≤ m → dgo m (Lib.decDigits u) 0 = (u : Int) := by
  intro u
  induction u using Nat.strongRecOn with
  | _ u ih =>
    intro hu
    by_cases h : u < 10
    · rw [Lib.decDigits, dif_pos h]
      have := u8_dig u h
      simp only [dgo]
      rw [if_neg (by omega), if_neg (by omega)]; omega
    · rw [Lib.decDigits, dif_neg h]
      have h1 := ih (u / 10) (by omega) (by omega)
      rw [dgo_append m _ _ _ (Int.le_refl _) (by omega), h1]
      have := u8_dig (u % 10) (by omega)
      simp only [dgo]
      rw [if_neg (by omega), if_neg (by omega)]; omega
theorem dec_head : ∀ (u : Nat), Lib.decDigits u ≠ [] ∧ (1 ≤ u → (Lib.decDigits u).headD 0 ≠ 48) := by
  intro u
  induction u using Nat.strongRecOn with
  | _ u ih =>
    by_cases h : u < 10
    · rw [Lib.decDigits, dif_pos h]
      refine ⟨by simp, fun h1 e => ?_⟩
      simp only [List.headD_cons] at e
      have h2 := u8_dig u h
      rw [e] at h2
      have : ((48 : UInt8).toNat : Int) = 48 := rfl
      omega
    · rw [Lib.decDigits, dif_neg h]
      have h1 := ih (u / 10) (by omega)
      refine ⟨by simp, fun _ => ?_⟩
      match hd : Lib.decDigits (u / 10), h1 with
      | [], h1 => exact absurd rfl h1.1
      | c :: r, h1 => exact h1.2 (by omega)
theorem dg_dec (u : Nat) (hu : (u : Int) ≤ 999999) : dg 999999 (Lib.decDigits u) = (u : Int) := by
  have h1 := dgo_dec 999999 u hu
  have h2 := dec_head u
  match hd : Lib.decDigits u, h1, h2 with
  | [], _, h2 => exact absurd rfl h2.1
  | c :: r, h1, h2 =>
    rw [dgo_zero, if_neg, h1]
    intro hc
    simp only [Bool.and_eq_true, beq_iff_eq, Bool.not_eq_true', List.isEmpty_eq_false_iff] at hc
    by_cases hu1 : 1 ≤ u
    · exact h2.2 hu1 (by simpa using hc.1)
    · have : u = 0 := by omega
      subst this
      rw [Lib.decDigits, dif_pos (by omega)] at hd
      cases hd
      exact hc.2 rfl
theorem dlen_app : ∀ (a b : List UInt8), (∀ c ∈ a, isd c = true) → dlen (a ++ b) = a.length + dlen b
  | [], b, _ => by simp
  | c :: r, b, h => by
    have := dlen_app r b (fun d hd => h d (by simp [hd]))
    simp only [List.cons_append, dlen, h c (by simp), if_true, List.length_cons]; omega
theorem dlen_take : ∀ (l : List UInt8), ∀ c ∈ l.take (dlen l), isd c = true
  | [] => by simp [dlen]
  | c :: r => by
    simp only [dlen]
    split
    · rename_i h
      intro d hd
      rw [List.take_succ_cons] at hd
      rcases List.mem_cons.1 hd with rfl | hd
      · exact h
      · exact dlen_take r d hd
    · simp
theorem dlen_dot (tail : List UInt8) : dlen (46 :: tail) = 0 := rfl
theorem dec_dig (u : Nat) (hu : (u : Int) ≤ 999999) : ∀ c ∈ Lib.decDigits u, isd c = true :=
  dgo_dig 999999 _ 0 (by rw [dgo_dec 999999 u hu]; omega)
theorem isd_45 : isd 45 = false := rfl
theorem sgd_c (c : UInt8) (r : List UInt8) : sgd (c :: r) = if (c == 45) = true then 1 else 0 := rfl
/-- The numeral of a number, with a point behind it, is read as that number. -/
theorem bnd_itoa (n : Int) (h0 : -999999 ≤ n) (h1 : n ≤ 999999) (tail : List UInt8) : bnd (Lib.itoa n ++ 46 :: tail) = some (n, (Lib.itoa n).length) := by
  unfold Lib.itoa
  split
  · rename_i hn
    have hu : ((n.natAbs : Nat) : Int) ≤ 999999 := by omega
    have hs : sgd (45 :: Lib.decDigits n.natAbs ++ 46 :: tail) = 1 := rfl
    unfold bnd
    rw [hs]
    have hd : (45 :: Lib.decDigits n.natAbs ++ 46 :: tail).drop 1 = Lib.decDigits n.natAbs ++ 46 :: tail := rfl
    rw [hd, dlen_app _ _ (dec_dig _ hu), dlen_dot, Nat.add_zero, List.take_left' rfl, dg_dec _ hu, if_neg (by omega), if_pos rfl]
    simp only [List.length_cons]
    congr 2
    · omega
    · omega
  · rename_i hn
    have hu : ((n.toNat : Nat) : Int) ≤ 999999 := by omega
    have hs : sgd (Lib.decDigits n.toNat ++ 46 :: tail) = 0 := by
      have h2 := dec_head n.toNat
      have h3 := dec_dig n.toNat hu
      match hd : Lib.decDigits n.toNat, h2, h3 with
      | [], h2, _ => exact absurd rfl h2.1
      | c :: r, _, h3 =>
        show sgd (c :: (r ++ 46 :: tail)) = 0
        rw [sgd_c, if_neg]
        intro e
        rw [beq_iff_eq] at e
        have := h3 c (by simp)
        rw [e] at this; cases this
    unfold bnd
    rw [hs, List.drop_zero, dlen_app _ _ (dec_dig _ hu), dlen_dot, Nat.add_zero, List.take_left' rfl, dg_dec _ hu, if_neg (by omega), if_neg (by omega)]
    congr 2
    · omega
    · omega
/-- A number that is read is the numeral of what it is read as. -/
theorem itoa_bnd {l : List UInt8} {n : Int} {k : Nat} (h : bnd l = some (n, k)) : l.take k = Lib.itoa n ∧ -999999 ≤ n ∧ n ≤ 999999 := by
  have hr := bnd_range h
  refine ⟨?_, hr.1, hr.2.1⟩
  unfold bnd at h
  split at h
  · cases h
  · rename_i hc
    generalize hds : (l.drop (sgd l)).take (dlen (l.drop (sgd l))) = ds at *
    have hdg : 0 ≤ dg 999999 ds := by omega
    have hdec : Lib.decDigits (dg 999999 ds).toNat = ds := by
      cases ds with
      | nil => exact absurd hdg (by decide)
      | cons c r =>
        rw [dgo_zero] at hdg ⊢
        split at hdg
        · omega
        · rename_i h48
          rw [if_neg h48]
          refine dec_of 999999 _ (c :: r) rfl (by simp) ?_ hdg
          by_cases hc48 : c = 48
          · right
            subst hc48
            simp only [beq_self_eq_true, Bool.true_and, Bool.not_eq_true', List.isEmpty_eq_false_iff, ne_eq, Decidable.not_not] at h48
            rw [h48]; rfl
          · left; simpa using hc48
    have hk : l.take (sgd l + dlen (l.drop (sgd l))) = l.take (sgd l) ++ ds := by rw [List.take_add, hds]
    rcases Nat.lt_or_ge (sgd l) 1 with hs | hs
    · have hs0 : sgd l = 0 := by omega
      rw [if_neg (by omega)] at h
      have hkk := hk
      injection h with h; injection h with h1 h2
      rw [← h2, hkk, hs0, List.take_zero, List.nil_append, ← h1]
      unfold Lib.itoa
      rw [if_neg (by omega), hdec]
    · have hs1 : sgd l = 1 := by unfold sgd at hs ⊢; split at hs <;> simp_all
      rw [if_pos hs1] at h
      injection h with h; injection h with h1 h2
      have hl : l.take 1 = [45] := by
        cases l with
        | nil => cases hs1
        | cons c r =>
          rw [sgd_c] at hs1
          split at hs1
          · rename_i e; rw [beq_iff_eq] at e; rw [e]; rfl
          · cases hs1
      rw [← h2, hk, hs1, hl, ← h1]
      unfold Lib.itoa
      have hpos : 0 < dg 999999 ds := by
        rcases Int.lt_or_le 0 (dg 999999 ds) with h | h
        · exact h
        · exact absurd (Or.inr ⟨hs1, by omega⟩) hc
      rw [if_pos (by omega)]
      have : (-dg 999999 ds).natAbs = (dg 999999 ds).toNat := by omega
      rw [this, hdec]; rfl
theorem uint_dgo : ∀ (l : List UInt8) (v : Nat), 0 ≤ dgo 999999 l (v : Int) → Lib.parseUint10 v l = .ok (dgo 999999 l (v : Int)).toNat
  | [], v, _ => by simp [Lib.parseUint10, dgo]
  | c :: r, v, h => by
    simp only [dgo] at h ⊢
    split
    · rename_i hc; rw [if_pos hc] at h; omega
    · rename_i hc
      rw [if_neg hc] at h
      split
      · rename_i hm; rw [if_pos hm] at h; omega
      · rename_i hm
        rw [if_neg hm] at h
        have e : ((v : Int) * 10 + ((c.toNat : Int) - 48)) = ((v * 10 + (c.toNat - 48) : Nat) : Int) := by omega
        rw [e] at h hm ⊢
        simp only [Lib.parseUint10]
        rw [if_pos (by omega), if_neg (by omega), if_neg (by omega)]
        exact uint_dgo r _ h
theorem mag_dec (u : Nat) (hu : (u : Int) ≤ 999999) : Lib.parseMag (Lib.decDigits u) = .ok u := by
  unfold Lib.parseMag
  rw [if_neg (dec_head u).1]
  have h1 := dgo_dec 999999 u hu
  have := uint_dgo (Lib.decDigits u) 0 (by rw [show ((0 : Nat) : Int) = 0 from rfl, h1]; omega)
  rw [this, show ((0 : Nat) : Int) = 0 from rfl, h1]; simp
theorem atoi_itoa (n : Int) (h0 : -999999 ≤ n) (h1 : n ≤ 999999) : Lib.atoiAll (Lib.itoa n) = .ok n := by
  unfold Lib.itoa
  split
  · rename_i hn
    have hu : ((n.natAbs : Nat) : Int) ≤ 999999 := by omega
    unfold Lib.atoiAll
    simp only
    rw [show (if UInt8.toNat 45 = 43 ∨ UInt8.toNat 45 = 45 then Lib.decDigits n.natAbs else 45 :: Lib.decDigits n.natAbs) = Lib.decDigits n.natAbs from if_pos (Or.inr rfl), mag_dec _ hu]
    simp only
    rw [if_neg (by simp), if_neg (by omega), if_pos (show UInt8.toNat 45 = 45 from rfl)]
    congr 1; omega
  · rename_i hn
    have hu : ((n.toNat : Nat) : Int) ≤ 999999 := by omega
    have h2 := dec_head n.toNat
    have h3 := dec_dig n.toNat hu
    have h4 := mag_dec _ hu
    match hd : Lib.decDigits n.toNat, h2, h3, h4 with
    | [], h2, _, _ => exact absurd rfl h2.1
    | c :: r, _, h3, h4 =>
      have hc := h3 c (by simp)
      have hc' : 48 ≤ (c.toNat : Int) ∧ (c.toNat : Int) ≤ 57 := by unfold isd at hc; simpa using hc
      unfold Lib.atoiAll
      simp only
      rw [if_neg (by omega), h4]
      simp only
      rw [if_neg (by omega), if_neg (by omega), if_neg (by omega)]
      congr 1; omega
theorem bndX_itoa (n : Int) (h0 : -999999 ≤ n) (h1 : n ≤ 999999) : bndX (Lib.itoa n) = some n := by
  unfold bndX
  rw [atoi_itoa n h0 h1]
  simp [h0, h1]
theorem itoa_bndX {l : List UInt8} {n : Int} (h : bndX l = some n) : l = Lib.itoa n ∧ -999999 ≤ n ∧ n ≤ 999999 := by
  unfold bndX at h
  split at h
  · split at h
    · rename_i hc; cases h; exact ⟨hc.1.symm, hc.2⟩
    · cases h
  · cases h
end Go.Proofs.YtkinoehmcfhgbaaDoor.Vl
