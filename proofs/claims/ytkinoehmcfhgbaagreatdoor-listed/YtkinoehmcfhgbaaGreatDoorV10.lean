/-
  Numbers and atoms as the program reads them, and as the document does: plain words alone.
  Plain definitions and facts on bytes, tokens and kinds of tokens (no Go, no program): what the walks of this seat say is said in these words.
-/
import Derived.Test.YtkinoehmcfhgbaaGreatDoorV4
import Derived.Lib.AtoiAll
import Derived.Lib.ItoaNum
import Derived.Lib.ItoaMem
import Derived.Lib.IndexMore
set_option linter.unusedVariables false
set_option linter.unusedSimpArgs false
namespace Go.Proofs.YtkinoehmcfhgbaaGreatDoor.Vl
open Go.RowKit

/- What the program reads. -/
def bndX (l : List UInt8) : Option Int := match Lib.atoiAll l with
  | .ok v => if Lib.itoa v = l ∧ -999999 ≤ v ∧ v ≤ 999999 then some v else none
  | _ => none

theorem dgo_append (m : Int) : ∀ (a b : List UInt8) (v : Int), 0 ≤ v → 0 ≤ dgo m a v → dgo m (a ++ b) v = dgo m b (dgo m a v)
  | [], b, v, _, _ => rfl
  | c :: r, b, v, hv, h => by
    simp only [dgo, List.cons_append] at h ⊢
    split
    · rename_i hc; rw [if_pos hc] at h; omega
    · rename_i hc
      rw [if_neg hc] at h
      split
      · rename_i hm; rw [if_pos hm] at h; omega
      · rename_i hm
        rw [if_neg hm] at h
        exact dgo_append m r b _ (by omega) h
theorem dgo_ge (m : Int) : ∀ (a : List UInt8) (v : Int), 0 ≤ v → 0 ≤ dgo m a v → v ≤ dgo m a v
  | [], v, _, _ => Int.le_refl _
  | c :: r, v, hv, h => by
    simp only [dgo] at h ⊢
    split
    · rename_i hc; rw [if_pos hc] at h; omega
    · rename_i hc
      rw [if_neg hc] at h
      split
      · rename_i hm; rw [if_pos hm] at h; omega
      · rename_i hm
        rw [if_neg hm] at h
        have := dgo_ge m r _ (by omega) h
        omega
theorem dgo_dig (m : Int) : ∀ (a : List UInt8) (v : Int), 0 ≤ dgo m a v → ∀ c ∈ a, isd c = true
  | [], v, _ => by intro c hc; cases hc
  | c :: r, v, h => by
    simp only [dgo] at h
    split at h
    · omega
    · rename_i hc
      split at h
      · omega
      · intro d hd
        rcases List.mem_cons.1 hd with rfl | hd
        · unfold isd; simp; omega
        · exact dgo_dig m r _ h d hd
theorem dgo_pref (m : Int) : ∀ (a b : List UInt8) (v : Int), 0 ≤ dgo m (a ++ b) v → 0 ≤ v → 0 ≤ dgo m a v
  | [], b, v, _, hv => hv
  | c :: r, b, v, h, hv => by
    simp only [dgo, List.cons_append] at h ⊢
    split
    · rename_i hc; rw [if_pos hc] at h; omega
    · rename_i hc
      rw [if_neg hc] at h
      split
      · rename_i hm; rw [if_pos hm] at h; omega
      · rename_i hm
        rw [if_neg hm] at h
        exact dgo_pref m r b _ h (by omega)
theorem u8_of (d : UInt8) (k : Nat) (hk : k < 10) (h : (d.toNat : Int) - 48 = (k : Int)) : UInt8.ofNat (48 + k) = d := by
  apply UInt8.toNat_inj.1
  simp
  omega
/-- Digits with no 0 too many are the numeral of their value. -/
theorem dec_of (m : Int) : ∀ (n : Nat) (ds : List UInt8), ds.length = n → ds ≠ [] → (ds.headD 0 ≠ 48 ∨ ds.length = 1) → 0 ≤ dgo m ds 0 → Lib.decDigits (dgo m ds 0).toNat = ds
  | 0, ds, hl, hne, _, _ => absurd (List.length_eq_zero_iff.1 hl) hne
  | n + 1, ds, hl, hne, hh, h0 => by
    rcases List.eq_nil_or_concat ds with rfl | ⟨a, d, rfl⟩
    · exact absurd rfl hne
    · rw [List.concat_eq_append] at *
      have hp := dgo_pref m a [d] 0 h0 (Int.le_refl _)
      have ha := dgo_append m a [d] 0 (Int.le_refl _) hp
      have hd := dgo_dig m _ _ h0 d (by simp)
      have hd' : 48 ≤ (d.toNat : Int) ∧ (d.toNat : Int) ≤ 57 := by unfold isd at hd; simpa using hd
      have hv : dgo m (a ++ [d]) 0 = dgo m a 0 * 10 + ((d.toNat : Int) - 48) := by
        rw [ha]; rw [ha] at h0
        simp only [dgo] at h0 ⊢
        split
        · rename_i h; omega
        · split
          · rename_i h1 h2; rw [if_neg h1, if_pos h2] at h0; omega
          · rfl
      rw [hv]
      cases a with
      | nil =>
        have e : dgo m [] 0 = 0 := rfl
        rw [e]
        rw [Lib.decDigits, dif_pos (by omega)]
        simp only [List.nil_append]
        congr 1
        exact u8_of d _ (by omega) (by omega)
      | cons c r =>
        have hc : c ≠ 48 := by
          rcases hh with hh | hh
          · simpa using hh
          · simp at hh
        have hy : 1 ≤ dgo m (c :: r) 0 := by
          have hcd := dgo_dig m _ _ hp c (by simp)
          have hcd' : 48 ≤ (c.toNat : Int) ∧ (c.toNat : Int) ≤ 57 := by unfold isd at hcd; simpa using hcd
          have hc' : (c.toNat : Int) ≠ 48 := by
            intro e; apply hc
            apply UInt8.toNat_inj.1
            have : c.toNat = 48 := by omega
            rw [this]; rfl
          simp only [dgo] at hp ⊢
          rw [if_neg (by omega)] at hp ⊢
          split
          · rename_i h; rw [if_pos h] at hp; omega
          · rename_i h
            rw [if_neg h] at hp
            have := dgo_ge m r _ (by omega) hp
            omega
        rw [Lib.decDigits, dif_neg (by omega)]
        have e1 : (dgo m (c :: r) 0 * 10 + ((d.toNat : Int) - 48)).toNat / 10 = (dgo m (c :: r) 0).toNat := by omega
        have e2 : (dgo m (c :: r) 0 * 10 + ((d.toNat : Int) - 48)).toNat % 10 = d.toNat - 48 := by omega
        rw [e1, e2, dec_of m n (c :: r) (by simpa using hl) (by simp) (Or.inl (by simpa using hc)) hp]
        congr 1
        rw [u8_of d (d.toNat - 48) (by omega) (by omega)]
theorem u8_dig (k : Nat) (hk : k < 10) : ((UInt8.ofNat (48 + k)).toNat : Int) = 48 + (k : Int) := by
  simp; omega
/-- The numeral of a number is read as that number. -/
theorem dgo_dec (m : Int) : ∀ (u : Nat), (u : Int) ≤ m → dgo m (Lib.decDigits u) 0 = (u : Int) := by
  intro u
  induction u using Nat.strongRecOn with
  | _ u ih =>
    intro hu
    by_cases h : u < 10
    · rw [Lib.decDigits, dif_pos h]
      have := u8_dig u h
      simp only [dgo]
      rw [if_neg (by omega), if_neg (by omega)]; omega
    · rw [Lib.decDigits, dif_neg h]
      have h1 := ih (u / 10) (by omega) (by omega)
      rw [dgo_append m _ _ _ (Int.le_refl _) (by omega), h1]
      have := u8_dig (u % 10) (by omega)
      simp only [dgo]
      rw [if_neg (by omega), if_neg (by omega)]; omega
theorem dec_head : ∀ (u : Nat), Lib.decDigits u ≠ [] ∧ (1 ≤ u → (Lib.decDigits u).headD 0 ≠ 48) := by
  intro u
  induction u using Nat.strongRecOn with
  | _ u ih =>
    by_cases h : u < 10
    · rw [Lib.decDigits, dif_pos h]
      refine ⟨by simp, fun h1 e => ?_⟩
      simp only [List.headD_cons] at e
      have h2 := u8_dig u h
      rw [e] at h2
      have : ((48 : UInt8).toNat : Int) = 48 := rfl
      omega
    · rw [Lib.decDigits, dif_neg h]
      have h1 := ih (u / 10) (by omega)
      refine ⟨by simp, fun _ => ?_⟩
      match hd : Lib.decDigits (u / 10), h1 with
      | [], h1 => exact absurd rfl h1.1
      | c :: r, h1 => exact h1.2 (by omega)
theorem dg_dec (u : Nat) (hu : (u : Int) ≤ 999999) : dg 999999 (Lib.decDigits u) = (u : Int) := by
  have h1 := dgo_dec 999999 u hu
  have h2 := dec_head u
  match hd : Lib.decDigits u, h1, h2 with
  | [], _, h2 => exact absurd rfl h2.1
  | c :: r, h1, h2 =>
    rw [dgo_zero, if_neg, h1]
    intro hc
    simp only [Bool.and_eq_true, beq_iff_eq, Bool.not_eq_true', List.isEmpty_eq_false_iff] at hc
    by_cases hu1 : 1 ≤ u
    · exact h2.2 hu1 (by simpa using hc.1)
    · have : u = 0 := by omega
      subst this
      rw [Lib.decDigits, dif_pos (by omega)] at hd
      cases hd
      exact hc.2 rfl
theorem dlen_app : ∀ (a b : List UInt8), (∀ c ∈ a, isd c = true) → dlen (a ++ b) = a.length + dlen b
  | [], b, _ => by simp
  | c :: r, b, h => by
    have := dlen_app r b (fun d hd => h d (by simp [hd]))
    simp only [List.cons_append, dlen, h c (by simp), if_true, List.length_cons]; omega
theorem dlen_take : ∀ (l : List UInt8), ∀ c ∈ l.take (dlen l), isd c = true
  | [] => by simp [dlen]
  | c :: r => by
    simp only [dlen]
    split
    · rename_i h
      intro d hd
      rw [List.take_succ_cons] at hd
      rcases List.mem_cons.1 hd with rfl | hd
      · exact h
      · exact dlen_take r d hd
    · simp
theorem dlen_dot (tail : List UInt8) : dlen (46 :: tail) = 0 := rfl
theorem dec_dig (u : Nat) (hu : (u : Int) ≤ 999999) : ∀ c ∈ Lib.decDigits u, isd c = true :=
  dgo_dig 999999 _ 0 (by rw [dgo_dec 999999 u hu]; omega)
theorem isd_45 : isd 45 = false := rfl
theorem sgd_c (c : UInt8) (r : List UInt8) : sgd (c :: r) = if (c == 45) = true then 1 else 0 := rfl
/-- The numeral of a number, with a point behind it, is read as that number. -/
theorem bnd_itoa (n : Int) (h0 : -999999 ≤ n) (h1 : n ≤ 999999) (tail : List UInt8) : bnd (Lib.itoa n ++ 46 :: tail) = some (n, (Lib.itoa n).length) := by
  unfold Lib.itoa
  split
  · rename_i hn
    have hu : ((n.natAbs : Nat) : Int) ≤ 999999 := by omega
    have hs : sgd (45 :: Lib.decDigits n.natAbs ++ 46 :: tail) = 1 := rfl
    unfold bnd
    rw [hs]
    have hd : (45 :: Lib.decDigits n.natAbs ++ 46 :: tail).drop 1 = Lib.decDigits n.natAbs ++ 46 :: tail := rfl
    rw [hd, dlen_app _ _ (dec_dig _ hu), dlen_dot, Nat.add_zero, List.take_left' rfl, dg_dec _ hu, if_neg (by omega), if_pos rfl]
    simp only [List.length_cons]
    congr 2
    · omega
    · omega
  · rename_i hn
    have hu : ((n.toNat : Nat) : Int) ≤ 999999 := by omega
    have hs : sgd (Lib.decDigits n.toNat ++ 46 :: tail) = 0 := by
      have h2 := dec_head n.toNat
      have h3 := dec_dig n.toNat hu
      match hd : Lib.decDigits n.toNat, h2, h3 with
      | [], h2, _ => exact absurd rfl h2.1
      | c :: r, _, h3 =>
        show sgd (c :: (r ++ 46 :: tail)) = 0
        rw [sgd_c, if_neg]
        intro e
        rw [beq_iff_eq] at e
        have := h3 c (by simp)
        rw [e] at this; cases this
    unfold bnd
    rw [hs, List.drop_zero, dlen_app _ _ (dec_dig _ hu), dlen_dot, Nat.add_zero, List.take_left' rfl, dg_dec _ hu, if_neg (by omega), if_neg (by omega)]
    congr 2
    · omega
    · omega
/-- A number that is read is the numeral of what it is read as. -/
theorem itoa_bnd {l : List UInt8} {n : Int} {k : Nat} (h : bnd l = some (n, k)) : l.take k = Lib.itoa n ∧ -999999 ≤ n ∧ n ≤ 999999 := by
  have hr := bnd_range h
  refine ⟨?_, hr.1, hr.2.1⟩
  unfold bnd at h
  split at h
  · cases h
  · rename_i hc
    generalize hds : (l.drop (sgd l)).take (dlen (l.drop (sgd l))) = ds at *
    have hdg : 0 ≤ dg 999999 ds := by omega
    have hdec : Lib.decDigits (dg 999999 ds).toNat = ds := by
      cases ds with
      | nil => exact absurd hdg (by decide)
      | cons c r =>
        rw [dgo_zero] at hdg ⊢
        split at hdg
        · omega
        · rename_i h48
          rw [if_neg h48]
          refine dec_of 999999 _ (c :: r) rfl (by simp) ?_ hdg
          by_cases hc48 : c = 48
          · right
            subst hc48
            simp only [beq_self_eq_true, Bool.true_and, Bool.not_eq_true', List.isEmpty_eq_false_iff, ne_eq, Decidable.not_not] at h48
            rw [h48]; rfl
          · left; simpa using hc48
    have hk : l.take (sgd l + dlen (l.drop (sgd l))) = l.take (sgd l) ++ ds := by rw [List.take_add, hds]
    rcases Nat.lt_or_ge (sgd l) 1 with hs | hs
    · have hs0 : sgd l = 0 := by omega
      rw [if_neg (by omega)] at h
      have hkk := hk
      injection h with h; injection h with h1 h2
      rw [← h2, hkk, hs0, List.take_zero, List.nil_append, ← h1]
      unfold Lib.itoa
      rw [if_neg (by omega), hdec]
    · have hs1 : sgd l = 1 := by unfold sgd at hs ⊢; split at hs <;> simp_all
      rw [if_pos hs1] at h
      injection h with h; injection h with h1 h2
      have hl : l.take 1 = [45] := by
        cases l with
        | nil => cases hs1
        | cons c r =>
          rw [sgd_c] at hs1
          split at hs1
          · rename_i e; rw [beq_iff_eq] at e; rw [e]; rfl
          · cases hs1
      rw [← h2, hk, hs1, hl, ← h1]
      unfold Lib.itoa
      have hpos : 0 < dg 999999 ds := by
        rcases Int.lt_or_le 0 (dg 999999 ds) with h | h
        · exact h
        · exact absurd (Or.inr ⟨hs1, by omega⟩) hc
      rw [if_pos (by omega)]
      have : (-dg 999999 ds).natAbs = (dg 999999 ds).toNat := by omega
      rw [this, hdec]; rfl
theorem uint_dgo : ∀ (l : List UInt8) (v : Nat), 0 ≤ dgo 999999 l (v : Int) → Lib.parseUint10 v l = .ok (dgo 999999 l (v : Int)).toNat
  | [], v, _ => by simp [Lib.parseUint10, dgo]
  | c :: r, v, h => by
    simp only [dgo] at h ⊢
    split
    · rename_i hc; rw [if_pos hc] at h; omega
    · rename_i hc
      rw [if_neg hc] at h
      split
      · rename_i hm; rw [if_pos hm] at h; omega
      · rename_i hm
        rw [if_neg hm] at h
        have e : ((v : Int) * 10 + ((c.toNat : Int) - 48)) = ((v * 10 + (c.toNat - 48) : Nat) : Int) := by omega
        rw [e] at h hm ⊢
        simp only [Lib.parseUint10]
        rw [if_pos (by omega), if_neg (by omega), if_neg (by omega)]
        exact uint_dgo r _ h
theorem mag_dec (u : Nat) (hu : (u : Int) ≤ 999999) : Lib.parseMag (Lib.decDigits u) = .ok u := by
  unfold Lib.parseMag
  rw [if_neg (dec_head u).1]
  have h1 := dgo_dec 999999 u hu
  have := uint_dgo (Lib.decDigits u) 0 (by rw [show ((0 : Nat) : Int) = 0 from rfl, h1]; omega)
  rw [this, show ((0 : Nat) : Int) = 0 from rfl, h1]; simp
theorem atoi_itoa (n : Int) (h0 : -999999 ≤ n) (h1 : n ≤ 999999) : Lib.atoiAll (Lib.itoa n) = .ok n := by
  unfold Lib.itoa
  split
  · rename_i hn
    have hu : ((n.natAbs : Nat) : Int) ≤ 999999 := by omega
    unfold Lib.atoiAll
    simp only
    rw [show (if UInt8.toNat 45 = 43 ∨ UInt8.toNat 45 = 45 then Lib.decDigits n.natAbs else 45 :: Lib.decDigits n.natAbs) = Lib.decDigits n.natAbs from if_pos (Or.inr rfl), mag_dec _ hu]
    simp only
    rw [if_neg (by simp), if_neg (by omega), if_pos (show UInt8.toNat 45 = 45 from rfl)]
    congr 1; omega
  · rename_i hn
    have hu : ((n.toNat : Nat) : Int) ≤ 999999 := by omega
    have h2 := dec_head n.toNat
    have h3 := dec_dig n.toNat hu
    have h4 := mag_dec _ hu
    match hd : Lib.decDigits n.toNat, h2, h3, h4 with
    | [], h2, _, _ => exact absurd rfl h2.1
    | c :: r, _, h3, h4 =>
      have hc := h3 c (by simp)
      have hc' : 48 ≤ (c.toNat : Int) ∧ (c.toNat : Int) ≤ 57 := by unfold isd at hc; simpa using hc
      unfold Lib.atoiAll
      simp only
      rw [if_neg (by omega), h4]
      simp only
      rw [if_neg (by omega), if_neg (by omega), if_neg (by omega)]
      congr 1; omega
theorem bndX_itoa (n : Int) (h0 : -999999 ≤ n) (h1 : n ≤ 999999) : bndX (Lib.itoa n) = some n := by
  unfold bndX
  rw [atoi_itoa n h0 h1]
  simp [h0, h1]
theorem itoa_bndX {l : List UInt8} {n : Int} (h : bndX l = some n) : l = Lib.itoa n ∧ -999999 ≤ n ∧ n ≤ 999999 := by
  unfold bndX at h
  split at h
  · split at h
    · rename_i hc; cases h; exact ⟨hc.1.symm, hc.2⟩
    · cases h
  · cases h
end Go.Proofs.YtkinoehmcfhgbaaGreatDoor.Vl
namespace Go.Proofs.YtkinoehmcfhgbaaGreatDoor.Av

def blank (c : UInt8) : Bool := c == 32 || c == 10
def sg2 : List UInt8 → Bool
  | a :: b :: _ => (a == 58 && b == 61) || (a == 60 && b == 61) || (a == 62 && b == 61)
  | _ => false
def sg1 (a : UInt8) : Bool := a == 40 || a == 41 || a == 59 || a == 60 || a == 61 || a == 62 || a == 43 || a == 45
/-- How many bytes the sign has that begins here. -/
def sgn (l : List UInt8) : Nat := if sg2 l then 2 else match l with
  | [] => 0
  | a :: _ => if sg1 a then 1 else 0
/-- How many bytes of a word go on here. -/
def wlen : List UInt8 → Nat
  | [] => 0
  | a :: r => if blank a || decide (0 < sgn (a :: r)) then 0 else wlen r + 1
def tlen (l : List UInt8) : Nat := if 0 < sgn l then sgn l else 1 + wlen l.tail
def toks : Nat → Nat → List UInt8 → List (List UInt8 × Nat)
  | 0, _, _ => []
  | _ + 1, _, [] => []
  | f + 1, i, a :: r => if blank a then toks f (i + 1) r else ((a :: r).take (tlen (a :: r)), i) :: toks f (i + tlen (a :: r)) ((a :: r).drop (tlen (a :: r)))

def kw (l : List UInt8) : Int :=
  if l == [102, 114, 111, 109] then 13 else if l == [100, 111] then 14 else if l == [116, 111] then 15 else if l == [115, 107, 105, 112] then 16 else
  if l == [105, 102] then 17 else if l == [116, 104, 101, 110] then 18 else if l == [101, 108, 115, 101] then 19 else if l == [101, 110, 100] then 20 else
  if l == [119, 104, 105, 108, 101] then 21 else if l == [107, 101, 101, 112] then 22 else if l == [111, 114] then 23 else if l == [97, 110, 100] then 24 else
  if l == [110, 111, 116] then 25 else if l == [116, 114, 117, 101] then 26 else if l == [102, 97, 108, 115, 101] then 27 else 1
def vr (l : List UInt8) : Int := if l == [97] then 0 else if l == [98] then 1 else if l == [99] then 2 else if l == [100] then 3 else -1
def dgo (m : Int) : List UInt8 → Int → Int
  | [], v => v
  | c :: r, v => if (c.toNat : Int) < 48 ∨ 57 < (c.toNat : Int) then -1 else if m < v * 10 + ((c.toNat : Int) - 48) then -1 else dgo m r (v * 10 + ((c.toNat : Int) - 48))
def dg (m : Int) (l : List UInt8) : Int := match l with
  | [] => -1
  | c :: r => if c == 48 && !r.isEmpty then -1 else dgo m (c :: r) 0
def wk (l : List UInt8) : Int × Int := if kw l ≠ 1 then (kw l, 0) else if 0 ≤ vr l then (28, vr l) else if 0 ≤ dg 999 l then (29, dg 999 l) else (1, 0)
def lk : List UInt8 → Int
  | a :: b :: _ => if a == 58 && b == 61 then 5 else if a == 60 && b == 61 then 7 else if a == 62 && b == 61 then 10 else 1
  | _ => 1
def sk (a : Int) : Int := if a == 40 then 2 else if a == 41 then 3 else if a == 59 then 4 else if a == 60 then 6 else if a == 61 then 8 else if a == 62 then 9 else if a == 43 then 11 else if a == 45 then 12 else 1
/-- The program's kind of a token, and its value. -/
def tk (l : List UInt8) : Int × Int := if 0 < sgn l then ((if sg2 l then lk l else sk (l.headD 0).toNat), 0) else wk l

theorem kw_range (l : List UInt8) : 1 ≤ kw l ∧ kw l ≤ 27 := by
  unfold kw; repeat' split
  all_goals omega

theorem vr_range (l : List UInt8) : -1 ≤ vr l ∧ vr l ≤ 3 := by
  unfold vr; repeat' split
  all_goals omega

theorem lk_ne (l : List UInt8) : lk l ≠ 1 ↔ sg2 l = true := by
  match l with
  | [] => simp [lk, sg2]
  | [a] => simp [lk, sg2]
  | a :: b :: r =>
    simp only [lk, sg2]
    by_cases h1 : (a == 58 && b == 61) = true
    · simp [h1]
    · by_cases h2 : (a == 60 && b == 61) = true
      · simp [h1, h2]
      · by_cases h3 : (a == 62 && b == 61) = true
        · simp [h1, h2, h3]
        · simp [h1, h2, h3]

theorem u8_beq (a : UInt8) (n : Nat) (h : n < 256) : ((a.toNat : Int) == (n : Int)) = (a == UInt8.ofNat n) := by
  rw [Bool.eq_iff_iff]
  simp only [beq_iff_eq]
  constructor
  · intro e
    have : a.toNat = n := by omega
    apply UInt8.toNat_inj.1
    rw [this]; simp; omega
  · intro e; subst e; simp; omega

theorem sk_ne (a : UInt8) : sk a.toNat ≠ 1 ↔ sg1 a = true := by
  unfold sk sg1
  have e1 := u8_beq a 40 (by omega)
  have e2 := u8_beq a 41 (by omega)
  have e3 := u8_beq a 59 (by omega)
  have e4 := u8_beq a 60 (by omega)
  have e5 := u8_beq a 61 (by omega)
  have e6 := u8_beq a 62 (by omega)
  have e7 := u8_beq a 43 (by omega)
  have e8 := u8_beq a 45 (by omega)
  simp only [show ((40 : Nat) : Int) = 40 from rfl, show ((41 : Nat) : Int) = 41 from rfl, show ((59 : Nat) : Int) = 59 from rfl, show ((60 : Nat) : Int) = 60 from rfl, show ((61 : Nat) : Int) = 61 from rfl, show ((62 : Nat) : Int) = 62 from rfl, show ((43 : Nat) : Int) = 43 from rfl, show ((45 : Nat) : Int) = 45 from rfl] at e1 e2 e3 e4 e5 e6 e7 e8
  rw [e1, e2, e3, e4, e5, e6, e7, e8]
  show _ ↔ (a == UInt8.ofNat 40 || a == UInt8.ofNat 41 || a == UInt8.ofNat 59 || a == UInt8.ofNat 60 || a == UInt8.ofNat 61 || a == UInt8.ofNat 62 || a == UInt8.ofNat 43 || a == UInt8.ofNat 45) = true
  repeat' split
  all_goals simp_all

theorem sgn_le (l : List UInt8) : sgn l ≤ l.length ∧ sgn l ≤ 2 := by
  unfold sgn
  split
  · rename_i h
    match l, h with
    | a :: b :: r, _ => simp
  · match l with
    | [] => simp
    | a :: r => simp only; split <;> simp

theorem wlen_le (l : List UInt8) : wlen l ≤ l.length := by
  induction l with
  | nil => simp [wlen]
  | cons a r ih => unfold wlen; split <;> simp <;> omega

theorem tlen_pos (l : List UInt8) : 0 < tlen l := by unfold tlen; split <;> omega
theorem tlen_le (a : UInt8) (r : List UInt8) : tlen (a :: r) ≤ (a :: r).length := by
  unfold tlen
  split
  · exact (sgn_le _).1
  · have := wlen_le r; simp; omega

theorem toks_fuel (f : Nat) : ∀ (g i : Nat) (l : List UInt8), l.length ≤ f → l.length ≤ g → toks f i l = toks g i l := by
  induction f with
  | zero =>
    intro g i l h1 h2
    have : l = [] := by cases l <;> simp_all
    subst this
    cases g <;> simp [toks]
  | succ f ih =>
    intro g i l h1 h2
    cases l with
    | nil => cases g <;> simp [toks]
    | cons a r =>
      cases g with
      | zero => simp at h2
      | succ g =>
        have hp := tlen_pos (a :: r)
        simp only [toks]
        split
        · exact ih _ _ _ (by simp at h1; omega) (by simp at h2; omega)
        · rw [ih g _ _ (by simp at h1 ⊢; omega) (by simp at h2 ⊢; omega)]

/-- The tokens of what is left of a text, from a place on. -/
def tokAt (i : Nat) (l : List UInt8) : List (List UInt8 × Nat) := toks l.length i l
theorem tokAt_nil (i : Nat) : tokAt i [] = [] := rfl
theorem tokAt_blank (i : Nat) (a : UInt8) (r : List UInt8) (h : blank a = true) : tokAt i (a :: r) = tokAt (i + 1) r := by
  simp [tokAt, toks, h]
theorem tokAt_tok (i : Nat) (a : UInt8) (r : List UInt8) (h : blank a = false) :
    tokAt i (a :: r) = ((a :: r).take (tlen (a :: r)), i) :: tokAt (i + tlen (a :: r)) ((a :: r).drop (tlen (a :: r))) := by
  have hp := tlen_pos (a :: r)
  simp only [tokAt, toks, List.length_cons, h, Bool.false_eq_true, if_false]
  rw [toks_fuel r.length ((a :: r).drop (tlen (a :: r))).length _ _ (by simp; omega) (Nat.le_refl _)]

theorem toks_len (f : Nat) : ∀ (i : Nat) (l : List UInt8), (toks f i l).length ≤ l.length := by
  induction f with
  | zero => intro i l; simp [toks]
  | succ f ih =>
    intro i l
    cases l with
    | nil => simp [toks]
    | cons a r =>
      have hp := tlen_pos (a :: r)
      simp only [toks]
      split
      · have := ih (i + 1) r; simp; omega
      · have := ih (i + tlen (a :: r)) ((a :: r).drop (tlen (a :: r)))
        simp at this ⊢; omega
theorem tokAt_len (i : Nat) (l : List UInt8) : (tokAt i l).length ≤ l.length := toks_len _ _ _

end Go.Proofs.YtkinoehmcfhgbaaGreatDoor.Av
