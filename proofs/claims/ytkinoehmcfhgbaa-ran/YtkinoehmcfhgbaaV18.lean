/-
  What a condition comes to at a state, as the program reckons it, is what the document says: plain words alone.
  Numbers and atoms as the program reads them, and as the document does: plain words alone.
  Plain definitions and facts on bytes, tokens and kinds of tokens (no Go, no program): what the walks of this seat say is said in these words.
  The walks of the program's package token: each call returns what the plain words of Pl say.
  The walks of the program's package token, the rest: tokenAt, Scan.
-/
import Derived.Test.YtkinoehmcfhgbaaV5
import Derived.Test.YtkinoehmcfhgbaaV0
import Derived.Lib.AtoiAll
import Derived.Lib.ItoaNum
import Derived.Lib.ItoaMem
import Derived.Lib.IndexMore
import Derived.Test.YtkinoehmcfhgbaaRows
import Derived.WalkKit
import Derived.WalkSpells
import Derived.WalkLawsBesides
import Derived.Lib.Strings
set_option linter.unusedVariables false
set_option linter.unusedSimpArgs false
namespace Go.Proofs.Ytkinoehmcfhgbaa.Vl
open Go.RowKit

/-- The value of a symbol by those of its parts: the first part's (on top), the second's. -/
def bval (x1 x2 x3 x4 : Int) (y : Sym) (t u : Bool) : Bool :=
  if y.1 = 0 then true else if y.1 = 2 then !t else if y.1 = 3 then t && u else if y.1 = 4 then t || u else if y.1 = 5 then !t || u else if y.1 = 6 then hld x1 x2 x3 x4 y.2 else false
/-- One symbol: its parts' values lie on the stack (the first part's on top). -/
def bst (x1 x2 x3 x4 : Int) (y : Sym) (st : List Bool) : List Bool := bval x1 x2 x3 x4 y (st.headD false) (st.tail.headD false) :: st.drop (prt y.1).toNat
def brun (x1 x2 x3 x4 : Int) (ys : List Sym) : List Bool := ys.foldr (bst x1 x2 x3 x4) []
theorem brun_cons (x1 x2 x3 x4 : Int) (y : Sym) (r : List Sym) : brun x1 x2 x3 x4 (y :: r) = bst x1 x2 x3 x4 y (brun x1 x2 x3 x4 r) := rfl
theorem brun_le (x1 x2 x3 x4 : Int) : ∀ ys : List Sym, (brun x1 x2 x3 x4 ys).length ≤ ys.length
  | [] => Nat.le_refl _
  | y :: r => by
    have h2 := brun_le x1 x2 x3 x4 r
    rw [brun_cons, List.length_cons]; unfold bst; simp; omega
theorem brun_len {s : ByteArray} (x1 x2 x3 x4 : Int) : ∀ (ys : List Sym) (k : Nat) (m : Int) (ps : List Nat), Pos s k m ys ps → 0 ≤ m → ((brun x1 x2 x3 x4 ys).length : Int) = m
  | [], k, m, ps, h, _ => by obtain ⟨_, _, rfl⟩ := h; rfl
  | y :: r, k, m, ps, h, hm => by
    obtain ⟨j, ps', rfl, hk, hm0, hs, hp⟩ := h
    have hpr := prt_range y.1
    have ih := brun_len x1 x2 x3 x4 r (k + j) _ ps' hp (by omega)
    rw [brun_cons]; unfold bst
    rw [List.length_cons, List.length_drop]; omega
theorem bpos_at {s : ByteArray} (x1 x2 x3 x4 : Int) : ∀ (ys : List Sym) (k : Nat) (m : Int) (ps : List Nat), Pos s k m ys ps → 0 ≤ m → ∀ n, n < ys.length →
    ∃ y, ys[n]? = some y ∧ 0 ≤ y.1 ∧ y.1 ≤ 6 ∧ (y.1 = 6 → okA y.2) ∧ prt y.1 ≤ (brun x1 x2 x3 x4 (ys.drop (n + 1))).length
  | [], k, m, ps, h, _ => by intro n hn; simp at hn
  | y :: r, k, m, ps, h, hm => by
    have hok := pos_ok (y :: r) k m ps h
    obtain ⟨j, ps', rfl, hk, hm0, hs, hp⟩ := h
    have hpr := prt_range y.1
    intro n hn
    cases n with
    | zero =>
      have := brun_len x1 x2 x3 x4 r (k + j) _ ps' hp (by omega)
      have hr := kind_range hk hs
      exact ⟨y, rfl, hr.1, hr.2, hok y (by simp), by simp only [Nat.zero_add, List.drop_succ_cons, List.drop_zero]; omega⟩
    | succ n =>
      obtain ⟨z, h1, h2, h3, h4, h5⟩ := bpos_at x1 x2 x3 x4 r (k + j) _ ps' hp (by omega) n (by simpa using hn)
      exact ⟨z, by simpa using h1, h2, h3, h4, by simpa using h5⟩
theorem bi_tbl_and (a b : Bool) : tbl 38 (bi a) (bi b) = bi (a && b) := by cases a <;> cases b <;> rfl
theorem bi_tbl_or (a b : Bool) : tbl 124 (bi a) (bi b) = bi (a || b) := by cases a <;> cases b <;> rfl
theorem bi_tbl_imp (a b : Bool) : tbl 62 (bi a) (bi b) = bi (!a || b) := by cases a <;> cases b <;> rfl
theorem bi_not (a : Bool) : (if bi a < 2 then 1 - bi a else bi a) = bi (!a) := by cases a <;> rfl
theorem wst_bst (x1 x2 x3 x4 : Int) (ls : List Atm) (bs : List Int) (y : Sym) (st : List Bool) (h0 : 0 ≤ y.1) (h6 : y.1 ≤ 6) (hd : prt y.1 ≤ st.length)
    (ha : y.1 = 6 → bs.getD (nmb ls y.2 0).toNat 0 = bi (hld x1 x2 x3 x4 y.2)) : wst ls bs y (st.map bi) = (bst x1 x2 x3 x4 y st).map bi := by
  obtain ⟨q, a⟩ := y
  dsimp only at *
  have hq : q = 0 ∨ q = 1 ∨ q = 6 ∨ q = 2 ∨ q = 3 ∨ q = 4 ∨ q = 5 := by omega
  rcases hq with rfl | rfl | rfl | rfl | rfl | rfl | rfl
  · rfl
  · rfl
  · show bs.getD (nmb ls a 0).toNat 0 :: st.map bi = bi (hld x1 x2 x3 x4 a) :: st.map bi
    rw [ha rfl]
  · match st, hd with
    | [], h => exact absurd h (by decide)
    | x :: r, _ =>
      show (if bi x < 2 then 1 - bi x else bi x) :: r.map bi = bi (!x) :: r.map bi
      rw [bi_not]
  · match st, hd with
    | [], h => exact absurd h (by decide)
    | [x], h => simp [prt] at h
    | x :: z :: r, _ =>
      show tbl 38 (bi x) (bi z) :: r.map bi = bi (x && z) :: r.map bi
      rw [bi_tbl_and]
  · match st, hd with
    | [], h => exact absurd h (by decide)
    | [x], h => simp [prt] at h
    | x :: z :: r, _ =>
      show tbl 124 (bi x) (bi z) :: r.map bi = bi (x || z) :: r.map bi
      rw [bi_tbl_or]
  · match st, hd with
    | [], h => exact absurd h (by decide)
    | [x], h => simp [prt] at h
    | x :: z :: r, _ =>
      show tbl 62 (bi x) (bi z) :: r.map bi = bi (!x || z) :: r.map bi
      rw [bi_tbl_imp]
theorem wrun_brun {s : ByteArray} (x1 x2 x3 x4 : Int) (ls : List Atm) (bs : List Int) : ∀ (ys : List Sym) (k : Nat) (m : Int) (ps : List Nat), Pos s k m ys ps → 0 ≤ m →
    (∀ y ∈ ys, y.1 = 6 → bs.getD (nmb ls y.2 0).toNat 0 = bi (hld x1 x2 x3 x4 y.2)) → wrun ls bs ys = (brun x1 x2 x3 x4 ys).map bi
  | [], k, m, ps, h, _, _ => rfl
  | y :: r, k, m, ps, h, hm, ha => by
    obtain ⟨j, ps', rfl, hk, hm0, hs, hp⟩ := h
    have hpr := prt_range y.1
    have hr := kind_range hk hs
    have hl := brun_len x1 x2 x3 x4 r (k + j) _ ps' hp (by omega)
    rw [wrun_cons, brun_cons, wrun_brun x1 x2 x3 x4 ls bs r (k + j) _ ps' hp (by omega) (fun z hz => ha z (by simp [hz]))]
    exact wst_bst x1 x2 x3 x4 ls bs y _ hr.1 hr.2 (by omega) (ha y (by simp))
theorem nmb_get : ∀ (l : List Atm) (a : Atm) (i : Int), a ∈ l → l[(nmb l a i - i).toNat]? = some a
  | [], a, i, h => by cases h
  | x :: r, a, i, h => by
    simp only [nmb]
    split
    · rename_i e; subst e; simp
    · rename_i e
      have ha : a ∈ r := by
        rcases List.mem_cons.1 h with h | h
        · exact absurd h.symm e
        · exact h
      have ih := nmb_get r a (i + 1) ha
      rcases nmb_mem r a (i + 1) with ⟨_, h2⟩ | ⟨_, h2, h3⟩
      · exact absurd ha h2
      · have e2 : (nmb r a (i + 1) - i).toNat = (nmb r a (i + 1) - (i + 1)).toNat + 1 := by omega
        rw [e2, List.getElem?_cons_succ]; exact ih
theorem val_brun {s : ByteArray} {ys : List Sym} (x1 x2 x3 x4 : Int) (h : pars s = some ys) : ∃ b, brun x1 x2 x3 x4 ys = [b] ∧ val x1 x2 x3 x4 ys = b := by
  obtain ⟨hs, hp, _, _⟩ := pars_facts h
  obtain ⟨ps, hps⟩ := pos_of s ys 0 1 (Nat.zero_le _) hp
  have hl := brun_len x1 x2 x3 x4 ys 0 1 ps hps (by omega)
  have hw := wrun_brun x1 x2 x3 x4 (uqs ys) (bys x1 x2 x3 x4 (uqs ys)) ys 0 1 ps hps (by omega) (fun y hy h6 => by
    have hm : y.2 ∈ uqs ys := (foldA_sub ys []).2 y hy h6
    have hg := nmb_get (uqs ys) y.2 0 hm
    rw [Int.sub_zero] at hg
    unfold bys
    rw [List.getD_eq_getElem?_getD, List.getElem?_map, hg]; rfl)
  match hb : brun x1 x2 x3 x4 ys, hl with
  | [], h => simp at h
  | [b], _ =>
    refine ⟨b, rfl, ?_⟩
    unfold val
    rw [hw, hb]
    cases b <;> rfl
  | x :: z :: r, h => simp at h; omega
end Go.Proofs.Ytkinoehmcfhgbaa.Vl
set_option linter.unusedVariables false
set_option linter.unusedSimpArgs false
namespace Go.Proofs.Ytkinoehmcfhgbaa.Vl
open Go.RowKit

/- What the program reads. -/
def bndX (l : List UInt8) : Option Int := match Lib.atoiAll l with
  | .ok v => if Lib.itoa v = l ∧ -999999 ≤ v ∧ v ≤ 999999 then some v else none
  | _ => none

theorem dgo_append (m : Int) : ∀ (a b : List UInt8) (v : Int), 0 ≤ v → 0 ≤ dgo m a v → dgo m (a ++ b) v = dgo m b (dgo m a v)
  | [], b, v, _, _ => rfl
  | c :: r, b, v, hv, h => by
    simp only [dgo, List.cons_append] at h ⊢
    split
    · rename_i hc; rw [if_pos hc] at h; omega
    · rename_i hc
      rw [if_neg hc] at h
      split
      · rename_i hm; rw [if_pos hm] at h; omega
      · rename_i hm
        rw [if_neg hm] at h
        exact dgo_append m r b _ (by omega) h
theorem dgo_ge (m : Int) : ∀ (a : List UInt8) (v : Int), 0 ≤ v → 0 ≤ dgo m a v → v ≤ dgo m a v
  | [], v, _, _ => Int.le_refl _
  | c :: r, v, hv, h => by
    simp only [dgo] at h ⊢
    split
    · rename_i hc; rw [if_pos hc] at h; omega
    · rename_i hc
      rw [if_neg hc] at h
      split
      · rename_i hm; rw [if_pos hm] at h; omega
      · rename_i hm
        rw [if_neg hm] at h
        have := dgo_ge m r _ (by omega) h
        omega
theorem dgo_dig (m : Int) : ∀ (a : List UInt8) (v : Int), 0 ≤ dgo m a v → ∀ c ∈ a, isd c = true
  | [], v, _ => by intro c hc; cases hc
  | c :: r, v, h => by
    simp only [dgo] at h
    split at h
    · omega
    · rename_i hc
      split at h
      · omega
      · intro d hd
        rcases List.mem_cons.1 hd with rfl | hd
        · unfold isd; simp; omega
        · exact dgo_dig m r _ h d hd
theorem dgo_pref (m : Int) : ∀ (a b : List UInt8) (v : Int), 0 ≤ dgo m (a ++ b) v → 0 ≤ v → 0 ≤ dgo m a v
  | [], b, v, _, hv => hv
  | c :: r, b, v, h, hv => by
    simp only [dgo, List.cons_append] at h ⊢
    split
    · rename_i hc; rw [if_pos hc] at h; omega
    · rename_i hc
      rw [if_neg hc] at h
      split
      · rename_i hm; rw [if_pos hm] at h; omega
      · rename_i hm
        rw [if_neg hm] at h
        exact dgo_pref m r b _ h (by omega)
theorem u8_of (d : UInt8) (k : Nat) (hk : k < 10) (h : (d.toNat : Int) - 48 = (k : Int)) : UInt8.ofNat (48 + k) = d := by
  apply UInt8.toNat_inj.1
  simp
  omega
/-- Digits with no 0 too many are the numeral of their value. -/
theorem dec_of (m : Int) : ∀ (n : Nat) (ds : List UInt8), ds.length = n → ds ≠ [] → (ds.headD 0 ≠ 48 ∨ ds.length = 1) → 0 ≤ dgo m ds 0 → Lib.decDigits (dgo m ds 0).toNat = ds
  | 0, ds, hl, hne, _, _ => absurd (List.length_eq_zero_iff.1 hl) hne
  | n + 1, ds, hl, hne, hh, h0 => by
    rcases List.eq_nil_or_concat ds with rfl | ⟨a, d, rfl⟩
    · exact absurd rfl hne
    · rw [List.concat_eq_append] at *
      have hp := dgo_pref m a [d] 0 h0 (Int.le_refl _)
      have ha := dgo_append m a [d] 0 (Int.le_refl _) hp
      have hd := dgo_dig m _ _ h0 d (by simp)
      have hd' : 48 ≤ (d.toNat : Int) ∧ (d.toNat : Int) ≤ 57 := by unfold isd at hd; simpa using hd
      have hv : dgo m (a ++ [d]) 0 = dgo m a 0 * 10 + ((d.toNat : Int) - 48) := by
        rw [ha]; rw [ha] at h0
        simp only [dgo] at h0 ⊢
        split
        · rename_i h; omega
        · split
          · rename_i h1 h2; rw [if_neg h1, if_pos h2] at h0; omega
          · rfl
      rw [hv]
      cases a with
      | nil =>
        have e : dgo m [] 0 = 0 := rfl
        rw [e]
        rw [Lib.decDigits, dif_pos (by omega)]
        simp only [List.nil_append]
        congr 1
        exact u8_of d _ (by omega) (by omega)
      | cons c r =>
        have hc : c ≠ 48 := by
          rcases hh with hh | hh
          · simpa using hh
          · simp at hh
        have hy : 1 ≤ dgo m (c :: r) 0 := by
          have hcd := dgo_dig m _ _ hp c (by simp)
          have hcd' : 48 ≤ (c.toNat : Int) ∧ (c.toNat : Int) ≤ 57 := by unfold isd at hcd; simpa using hcd
          have hc' : (c.toNat : Int) ≠ 48 := by
            intro e; apply hc
            apply UInt8.toNat_inj.1
            have : c.toNat = 48 := by omega
            rw [this]; rfl
          simp only [dgo] at hp ⊢
          rw [if_neg (by omega)] at hp ⊢
          split
          · rename_i h; rw [if_pos h] at hp; omega
          · rename_i h
            rw [if_neg h] at hp
            have := dgo_ge m r _ (by omega) hp
            omega
        rw [Lib.decDigits, dif_neg (by omega)]
        have e1 : (dgo m (c :: r) 0 * 10 + ((d.toNat : Int) - 48)).toNat / 10 = (dgo m (c :: r) 0).toNat := by omega
        have e2 : (dgo m (c :: r) 0 * 10 + ((d.toNat : Int) - 48)).toNat % 10 = d.toNat - 48 := by omega
        rw [e1, e2, dec_of m n (c :: r) (by simpa using hl) (by simp) (Or.inl (by simpa using hc)) hp]
        congr 1
        rw [u8_of d (d.toNat - 48) (by omega) (by omega)]
theorem u8_dig (k : Nat) (hk : k < 10) : ((UInt8.ofNat (48 + k)).toNat : Int) = 48 + (k : Int) := by
  simp; omega
/-- The numeral of a number is read as that number. -/
theorem dgo_dec (m : Int) : ∀ (u : Nat), (u : Int) ≤ m → dgo m (Lib.decDigits u) 0 = (u : Int) := by
  intro u
  induction u using Nat.strongRecOn with
  | _ u ih =>
    intro hu
    by_cases h : u < 10
    · rw [Lib.decDigits, dif_pos h]
      have := u8_dig u h
      simp only [dgo]
      rw [if_neg (by omega), if_neg (by omega)]; omega
    · rw [Lib.decDigits, dif_neg h]
      have h1 := ih (u / 10) (by omega) (by omega)
      rw [dgo_append m _ _ _ (Int.le_refl _) (by omega), h1]
      have := u8_dig (u % 10) (by omega)
      simp only [dgo]
      rw [if_neg (by omega), if_neg (by omega)]; omega
theorem dec_head : ∀ (u : Nat), Lib.decDigits u ≠ [] ∧ (1 ≤ u → (Lib.decDigits u).headD 0 ≠ 48) := by
  intro u
  induction u using Nat.strongRecOn with
  | _ u ih =>
    by_cases h : u < 10
    · rw [Lib.decDigits, dif_pos h]
      refine ⟨by simp, fun h1 e => ?_⟩
      simp only [List.headD_cons] at e
      have h2 := u8_dig u h
      rw [e] at h2
      have : ((48 : UInt8).toNat : Int) = 48 := rfl
      omega
    · rw [Lib.decDigits, dif_neg h]
      have h1 := ih (u / 10) (by omega)
      refine ⟨by simp, fun _ => ?_⟩
      match hd : Lib.decDigits (u / 10), h1 with
      | [], h1 => exact absurd rfl h1.1
      | c :: r, h1 => exact h1.2 (by omega)
theorem dg_dec (u : Nat) (hu : (u : Int) ≤ 999999) : dg 999999 (Lib.decDigits u) = (u : Int) := by
  have h1 := dgo_dec 999999 u hu
  have h2 := dec_head u
  match hd : Lib.decDigits u, h1, h2 with
  | [], _, h2 => exact absurd rfl h2.1
  | c :: r, h1, h2 =>
    rw [dgo_zero, if_neg, h1]
    intro hc
    simp only [Bool.and_eq_true, beq_iff_eq, Bool.not_eq_true', List.isEmpty_eq_false_iff] at hc
    by_cases hu1 : 1 ≤ u
    · exact h2.2 hu1 (by simpa using hc.1)
    · have : u = 0 := by omega
      subst this
      rw [Lib.decDigits, dif_pos (by omega)] at hd
      cases hd
      exact hc.2 rfl
theorem dlen_app : ∀ (a b : List UInt8), (∀ c ∈ a, isd c = true) → dlen (a ++ b) = a.length + dlen b
  | [], b, _ => by simp
  | c :: r, b, h => by
    have := dlen_app r b (fun d hd => h d (by simp [hd]))
    simp only [List.cons_append, dlen, h c (by simp), if_true, List.length_cons]; omega
theorem dlen_take : ∀ (l : List UInt8), ∀ c ∈ l.take (dlen l), isd c = true
  | [] => by simp [dlen]
  | c :: r => by
    simp only [dlen]
    split
    · rename_i h
      intro d hd
      rw [List.take_succ_cons] at hd
      rcases List.mem_cons.1 hd with rfl | hd
      · exact h
      · exact dlen_take r d hd
    · simp
theorem dlen_dot (tail : List UInt8) : dlen (46 :: tail) = 0 := rfl
theorem dec_dig (u : Nat) (hu : (u : Int) ≤ 999999) : ∀ c ∈ Lib.decDigits u, isd c = true :=
  dgo_dig 999999 _ 0 (by rw [dgo_dec 999999 u hu]; omega)
theorem isd_45 : isd 45 = false := rfl
theorem sgd_c (c : UInt8) (r : List UInt8) : sgd (c :: r) = if (c == 45) = true then 1 else 0 := rfl
/-- The numeral of a number, with a point behind it, is read as that number. -/
theorem bnd_itoa (n : Int) (h0 : -999999 ≤ n) (h1 : n ≤ 999999) (tail : List UInt8) : bnd (Lib.itoa n ++ 46 :: tail) = some (n, (Lib.itoa n).length) := by
  unfold Lib.itoa
  split
  · rename_i hn
    have hu : ((n.natAbs : Nat) : Int) ≤ 999999 := by omega
    have hs : sgd (45 :: Lib.decDigits n.natAbs ++ 46 :: tail) = 1 := rfl
    unfold bnd
    rw [hs]
    have hd : (45 :: Lib.decDigits n.natAbs ++ 46 :: tail).drop 1 = Lib.decDigits n.natAbs ++ 46 :: tail := rfl
    rw [hd, dlen_app _ _ (dec_dig _ hu), dlen_dot, Nat.add_zero, List.take_left' rfl, dg_dec _ hu, if_neg (by omega), if_pos rfl]
    simp only [List.length_cons]
    congr 2
    · omega
    · omega
  · rename_i hn
    have hu : ((n.toNat : Nat) : Int) ≤ 999999 := by omega
    have hs : sgd (Lib.decDigits n.toNat ++ 46 :: tail) = 0 := by
      have h2 := dec_head n.toNat
      have h3 := dec_dig n.toNat hu
      match hd : Lib.decDigits n.toNat, h2, h3 with
      | [], h2, _ => exact absurd rfl h2.1
      | c :: r, _, h3 =>
        show sgd (c :: (r ++ 46 :: tail)) = 0
        rw [sgd_c, if_neg]
        intro e
        rw [beq_iff_eq] at e
        have := h3 c (by simp)
        rw [e] at this; cases this
    unfold bnd
    rw [hs, List.drop_zero, dlen_app _ _ (dec_dig _ hu), dlen_dot, Nat.add_zero, List.take_left' rfl, dg_dec _ hu, if_neg (by omega), if_neg (by omega)]
    congr 2
    · omega
    · omega
/-- A number that is read is the numeral of what it is read as. -/
theorem itoa_bnd {l : List UInt8} {n : Int} {k : Nat} (h : bnd l = some (n, k)) : l.take k = Lib.itoa n ∧ -999999 ≤ n ∧ n ≤ 999999 := by
  have hr := bnd_range h
  refine ⟨?_, hr.1, hr.2.1⟩
  unfold bnd at h
  split at h
  · cases h
  · rename_i hc
    generalize hds : (l.drop (sgd l)).take (dlen (l.drop (sgd l))) = ds at *
    have hdg : 0 ≤ dg 999999 ds := by omega
    have hdec : Lib.decDigits (dg 999999 ds).toNat = ds := by
      cases ds with
      | nil => exact absurd hdg (by decide)
      | cons c r =>
        rw [dgo_zero] at hdg ⊢
        split at hdg
        · omega
        · rename_i h48
          rw [if_neg h48]
          refine dec_of 999999 _ (c :: r) rfl (by simp) ?_ hdg
          by_cases hc48 : c = 48
          · right
            subst hc48
            simp only [beq_self_eq_true, Bool.true_and, Bool.not_eq_true', List.isEmpty_eq_false_iff, ne_eq, Decidable.not_not] at h48
            rw [h48]; rfl
          · left; simpa using hc48
    have hk : l.take (sgd l + dlen (l.drop (sgd l))) = l.take (sgd l) ++ ds := by rw [List.take_add, hds]
    rcases Nat.lt_or_ge (sgd l) 1 with hs | hs
    · have hs0 : sgd l = 0 := by omega
      rw [if_neg (by omega)] at h
      have hkk := hk
      injection h with h; injection h with h1 h2
      rw [← h2, hkk, hs0, List.take_zero, List.nil_append, ← h1]
      unfold Lib.itoa
      rw [if_neg (by omega), hdec]
    · have hs1 : sgd l = 1 := by unfold sgd at hs ⊢; split at hs <;> simp_all
      rw [if_pos hs1] at h
      injection h with h; injection h with h1 h2
      have hl : l.take 1 = [45] := by
        cases l with
        | nil => cases hs1
        | cons c r =>
          rw [sgd_c] at hs1
          split at hs1
          · rename_i e; rw [beq_iff_eq] at e; rw [e]; rfl
          · cases hs1
      rw [← h2, hk, hs1, hl, ← h1]
      unfold Lib.itoa
      have hpos : 0 < dg 999999 ds := by
        rcases Int.lt_or_le 0 (dg 999999 ds) with h | h
        · exact h
        · exact absurd (Or.inr ⟨hs1, by omega⟩) hc
      rw [if_pos (by omega)]
      have : (-dg 999999 ds).natAbs = (dg 999999 ds).toNat := by omega
      rw [this, hdec]; rfl
theorem uint_dgo : ∀ (l : List UInt8) (v : Nat), 0 ≤ dgo 999999 l (v : Int) → Lib.parseUint10 v l = .ok (dgo 999999 l (v : Int)).toNat
  | [], v, _ => by simp [Lib.parseUint10, dgo]
  | c :: r, v, h => by
    simp only [dgo] at h ⊢
    split
    · rename_i hc; rw [if_pos hc] at h; omega
    · rename_i hc
      rw [if_neg hc] at h
      split
      · rename_i hm; rw [if_pos hm] at h; omega
      · rename_i hm
        rw [if_neg hm] at h
        have e : ((v : Int) * 10 + ((c.toNat : Int) - 48)) = ((v * 10 + (c.toNat - 48) : Nat) : Int) := by omega
        rw [e] at h hm ⊢
        simp only [Lib.parseUint10]
        rw [if_pos (by omega), if_neg (by omega), if_neg (by omega)]
        exact uint_dgo r _ h
theorem mag_dec (u : Nat) (hu : (u : Int) ≤ 999999) : Lib.parseMag (Lib.decDigits u) = .ok u := by
  unfold Lib.parseMag
  rw [if_neg (dec_head u).1]
  have h1 := dgo_dec 999999 u hu
  have := uint_dgo (Lib.decDigits u) 0 (by rw [show ((0 : Nat) : Int) = 0 from rfl, h1]; omega)
  rw [this, show ((0 : Nat) : Int) = 0 from rfl, h1]; simp
theorem atoi_itoa (n : Int) (h0 : -999999 ≤ n) (h1 : n ≤ 999999) : Lib.atoiAll (Lib.itoa n) = .ok n := by
  unfold Lib.itoa
  split
  · rename_i hn
    have hu : ((n.natAbs : Nat) : Int) ≤ 999999 := by omega
    unfold Lib.atoiAll
    simp only
    rw [show (if UInt8.toNat 45 = 43 ∨ UInt8.toNat 45 = 45 then Lib.decDigits n.natAbs else 45 :: Lib.decDigits n.natAbs) = Lib.decDigits n.natAbs from if_pos (Or.inr rfl), mag_dec _ hu]
    simp only
    rw [if_neg (by simp), if_neg (by omega), if_pos (show UInt8.toNat 45 = 45 from rfl)]
    congr 1; omega
  · rename_i hn
    have hu : ((n.toNat : Nat) : Int) ≤ 999999 := by omega
    have h2 := dec_head n.toNat
    have h3 := dec_dig n.toNat hu
    have h4 := mag_dec _ hu
    match hd : Lib.decDigits n.toNat, h2, h3, h4 with
    | [], h2, _, _ => exact absurd rfl h2.1
    | c :: r, _, h3, h4 =>
      have hc := h3 c (by simp)
      have hc' : 48 ≤ (c.toNat : Int) ∧ (c.toNat : Int) ≤ 57 := by unfold isd at hc; simpa using hc
      unfold Lib.atoiAll
      simp only
      rw [if_neg (by omega), h4]
      simp only
      rw [if_neg (by omega), if_neg (by omega), if_neg (by omega)]
      congr 1; omega
theorem bndX_itoa (n : Int) (h0 : -999999 ≤ n) (h1 : n ≤ 999999) : bndX (Lib.itoa n) = some n := by
  unfold bndX
  rw [atoi_itoa n h0 h1]
  simp [h0, h1]
theorem itoa_bndX {l : List UInt8} {n : Int} (h : bndX l = some n) : l = Lib.itoa n ∧ -999999 ≤ n ∧ n ≤ 999999 := by
  unfold bndX at h
  split at h
  · split at h
    · rename_i hc; cases h; exact ⟨hc.1.symm, hc.2⟩
    · cases h
  · cases h
end Go.Proofs.Ytkinoehmcfhgbaa.Vl
namespace Go.Proofs.Ytkinoehmcfhgbaa.Av

def blank (c : UInt8) : Bool := c == 32 || c == 10
def sg2 : List UInt8 → Bool
  | a :: b :: _ => (a == 58 && b == 61) || (a == 60 && b == 61) || (a == 62 && b == 61)
  | _ => false
def sg1 (a : UInt8) : Bool := a == 40 || a == 41 || a == 59 || a == 60 || a == 61 || a == 62 || a == 43 || a == 45
/-- How many bytes the sign has that begins here. -/
def sgn (l : List UInt8) : Nat := if sg2 l then 2 else match l with
  | [] => 0
  | a :: _ => if sg1 a then 1 else 0
/-- How many bytes of a word go on here. -/
def wlen : List UInt8 → Nat
  | [] => 0
  | a :: r => if blank a || decide (0 < sgn (a :: r)) then 0 else wlen r + 1
def tlen (l : List UInt8) : Nat := if 0 < sgn l then sgn l else 1 + wlen l.tail
def toks : Nat → Nat → List UInt8 → List (List UInt8 × Nat)
  | 0, _, _ => []
  | _ + 1, _, [] => []
  | f + 1, i, a :: r => if blank a then toks f (i + 1) r else ((a :: r).take (tlen (a :: r)), i) :: toks f (i + tlen (a :: r)) ((a :: r).drop (tlen (a :: r)))

def kw (l : List UInt8) : Int :=
  if l == [102, 114, 111, 109] then 13 else if l == [100, 111] then 14 else if l == [116, 111] then 15 else if l == [115, 107, 105, 112] then 16 else
  if l == [105, 102] then 17 else if l == [116, 104, 101, 110] then 18 else if l == [101, 108, 115, 101] then 19 else if l == [101, 110, 100] then 20 else
  if l == [119, 104, 105, 108, 101] then 21 else if l == [107, 101, 101, 112] then 22 else if l == [111, 114] then 23 else if l == [97, 110, 100] then 24 else
  if l == [110, 111, 116] then 25 else if l == [116, 114, 117, 101] then 26 else if l == [102, 97, 108, 115, 101] then 27 else 1
def vr (l : List UInt8) : Int := if l == [97] then 0 else if l == [98] then 1 else if l == [99] then 2 else if l == [100] then 3 else -1
def dgo (m : Int) : List UInt8 → Int → Int
  | [], v => v
  | c :: r, v => if (c.toNat : Int) < 48 ∨ 57 < (c.toNat : Int) then -1 else if m < v * 10 + ((c.toNat : Int) - 48) then -1 else dgo m r (v * 10 + ((c.toNat : Int) - 48))
def dg (m : Int) (l : List UInt8) : Int := match l with
  | [] => -1
  | c :: r => if c == 48 && !r.isEmpty then -1 else dgo m (c :: r) 0
def wk (l : List UInt8) : Int × Int := if kw l ≠ 1 then (kw l, 0) else if 0 ≤ vr l then (28, vr l) else if 0 ≤ dg 999 l then (29, dg 999 l) else (1, 0)
def lk : List UInt8 → Int
  | a :: b :: _ => if a == 58 && b == 61 then 5 else if a == 60 && b == 61 then 7 else if a == 62 && b == 61 then 10 else 1
  | _ => 1
def sk (a : Int) : Int := if a == 40 then 2 else if a == 41 then 3 else if a == 59 then 4 else if a == 60 then 6 else if a == 61 then 8 else if a == 62 then 9 else if a == 43 then 11 else if a == 45 then 12 else 1
/-- The program's kind of a token, and its value. -/
def tk (l : List UInt8) : Int × Int := if 0 < sgn l then ((if sg2 l then lk l else sk (l.headD 0).toNat), 0) else wk l

theorem kw_range (l : List UInt8) : 1 ≤ kw l ∧ kw l ≤ 27 := by
  unfold kw; repeat' split
  all_goals omega

theorem vr_range (l : List UInt8) : -1 ≤ vr l ∧ vr l ≤ 3 := by
  unfold vr; repeat' split
  all_goals omega

theorem lk_ne (l : List UInt8) : lk l ≠ 1 ↔ sg2 l = true := by
  match l with
  | [] => simp [lk, sg2]
  | [a] => simp [lk, sg2]
  | a :: b :: r =>
    simp only [lk, sg2]
    by_cases h1 : (a == 58 && b == 61) = true
    · simp [h1]
    · by_cases h2 : (a == 60 && b == 61) = true
      · simp [h1, h2]
      · by_cases h3 : (a == 62 && b == 61) = true
        · simp [h1, h2, h3]
        · simp [h1, h2, h3]

theorem u8_beq (a : UInt8) (n : Nat) (h : n < 256) : ((a.toNat : Int) == (n : Int)) = (a == UInt8.ofNat n) := by
  rw [Bool.eq_iff_iff]
  simp only [beq_iff_eq]
  constructor
  · intro e
    have : a.toNat = n := by omega
    apply UInt8.toNat_inj.1
    rw [this]; simp; omega
  · intro e; subst e; simp; omega

theorem sk_ne (a : UInt8) : sk a.toNat ≠ 1 ↔ sg1 a = true := by
  unfold sk sg1
  have e1 := u8_beq a 40 (by omega)
  have e2 := u8_beq a 41 (by omega)
  have e3 := u8_beq a 59 (by omega)
  have e4 := u8_beq a 60 (by omega)
  have e5 := u8_beq a 61 (by omega)
  have e6 := u8_beq a 62 (by omega)
  have e7 := u8_beq a 43 (by omega)
  have e8 := u8_beq a 45 (by omega)
  simp only [show ((40 : Nat) : Int) = 40 from rfl, show ((41 : Nat) : Int) = 41 from rfl, show ((59 : Nat) : Int) = 59 from rfl, show ((60 : Nat) : Int) = 60 from rfl, show ((61 : Nat) : Int) = 61 from rfl, show ((62 : Nat) : Int) = 62 from rfl, show ((43 : Nat) : Int) = 43 from rfl, show ((45 : Nat) : Int) = 45 from rfl] at e1 e2 e3 e4 e5 e6 e7 e8
  rw [e1, e2, e3, e4, e5, e6, e7, e8]
  show _ ↔ (a == UInt8.ofNat 40 || a == UInt8.ofNat 41 || a == UInt8.ofNat 59 || a == UInt8.ofNat 60 || a == UInt8.ofNat 61 || a == UInt8.ofNat 62 || a == UInt8.ofNat 43 || a == UInt8.ofNat 45) = true
  repeat' split
  all_goals simp_all

theorem sgn_le (l : List UInt8) : sgn l ≤ l.length ∧ sgn l ≤ 2 := by
  unfold sgn
  split
  · rename_i h
    match l, h with
    | a :: b :: r, _ => simp
  · match l with
    | [] => simp
    | a :: r => simp only; split <;> simp

theorem wlen_le (l : List UInt8) : wlen l ≤ l.length := by
  induction l with
  | nil => simp [wlen]
  | cons a r ih => unfold wlen; split <;> simp <;> omega

theorem tlen_pos (l : List UInt8) : 0 < tlen l := by unfold tlen; split <;> omega
theorem tlen_le (a : UInt8) (r : List UInt8) : tlen (a :: r) ≤ (a :: r).length := by
  unfold tlen
  split
  · exact (sgn_le _).1
  · have := wlen_le r; simp; omega

theorem toks_fuel (f : Nat) : ∀ (g i : Nat) (l : List UInt8), l.length ≤ f → l.length ≤ g → toks f i l = toks g i l := by
  induction f with
  | zero =>
    intro g i l h1 h2
    have : l = [] := by cases l <;> simp_all
    subst this
    cases g <;> simp [toks]
  | succ f ih =>
    intro g i l h1 h2
    cases l with
    | nil => cases g <;> simp [toks]
    | cons a r =>
      cases g with
      | zero => simp at h2
      | succ g =>
        have hp := tlen_pos (a :: r)
        simp only [toks]
        split
        · exact ih _ _ _ (by simp at h1; omega) (by simp at h2; omega)
        · rw [ih g _ _ (by simp at h1 ⊢; omega) (by simp at h2 ⊢; omega)]

/-- The tokens of what is left of a text, from a place on. -/
def tokAt (i : Nat) (l : List UInt8) : List (List UInt8 × Nat) := toks l.length i l
theorem tokAt_nil (i : Nat) : tokAt i [] = [] := rfl
theorem tokAt_blank (i : Nat) (a : UInt8) (r : List UInt8) (h : blank a = true) : tokAt i (a :: r) = tokAt (i + 1) r := by
  simp [tokAt, toks, h]
theorem tokAt_tok (i : Nat) (a : UInt8) (r : List UInt8) (h : blank a = false) :
    tokAt i (a :: r) = ((a :: r).take (tlen (a :: r)), i) :: tokAt (i + tlen (a :: r)) ((a :: r).drop (tlen (a :: r))) := by
  have hp := tlen_pos (a :: r)
  simp only [tokAt, toks, List.length_cons, h, Bool.false_eq_true, if_false]
  rw [toks_fuel r.length ((a :: r).drop (tlen (a :: r))).length _ _ (by simp; omega) (Nat.le_refl _)]

theorem toks_len (f : Nat) : ∀ (i : Nat) (l : List UInt8), (toks f i l).length ≤ l.length := by
  induction f with
  | zero => intro i l; simp [toks]
  | succ f ih =>
    intro i l
    cases l with
    | nil => simp [toks]
    | cons a r =>
      have hp := tlen_pos (a :: r)
      simp only [toks]
      split
      · have := ih (i + 1) r; simp; omega
      · have := ih (i + tlen (a :: r)) ((a :: r).drop (tlen (a :: r)))
        simp at this ⊢; omega
theorem tokAt_len (i : Nat) (l : List UInt8) : (tokAt i l).length ≤ l.length := toks_len _ _ _

end Go.Proofs.Ytkinoehmcfhgbaa.Av
set_option linter.unusedVariables false
namespace Go.Proofs.Ytkinoehmcfhgbaa.Av
open Go.RowKit

theorem ret_int {k : IntKind} {a b : Int} (h : a = b) : Ending.returned (.int k a) = .returned (.int k b) := by rw [h]
theorem ret_bool {a b : Bool} (h : a = b) : Ending.returned (.bool a) = .returned (.bool b) := by rw [h]
theorem ret_int2 {a b c d : Int} (h : a = c) (h' : b = d) : Ending.returned (.tuple #[.int .i64 a, .int .i64 b]) = .returned (.tuple #[.int .i64 c, .int .i64 d]) := by rw [h, h']

/-- The bytes of a text from a place on. -/
def rest (s : ByteArray) (k : Nat) : List UInt8 := s.data.toList.drop k
theorem rest_cons (s : ByteArray) (k : Nat) (h : k < s.size) : rest s k = s[k] :: rest s (k + 1) := by
  unfold rest
  rw [List.drop_eq_getElem_cons (by simpa using h)]; rfl
theorem rest_end (s : ByteArray) (k : Nat) (h : s.size ≤ k) : rest s k = [] := by
  unfold rest; rw [List.drop_eq_nil_iff]; simpa using h
theorem rest_len (s : ByteArray) (k : Nat) : (rest s k).length = s.size - k := by
  unfold rest; rw [List.length_drop]; simp
theorem rest_drop (s : ByteArray) (k n : Nat) : (rest s k).drop n = rest s (k + n) := by
  unfold rest; rw [List.drop_drop]
theorem extract_rest (s : ByteArray) (k e : Nat) : (s.extract k e).data.toList = (rest s k).take (e - k) := by
  unfold rest; rw [Lib.extract_data]
theorem beq_nat_u8 (c : UInt8) (n : Nat) (h : n < 256) : ((c.toNat : Int) == (n : Int)) = (c == UInt8.ofNat n) := u8_beq c n h
theorem blank_int (c : UInt8) : ((c.toNat : Int) == 32 || (c.toNat : Int) == 10) = blank c := by
  have e1 := u8_beq c 32 (by omega)
  have e2 := u8_beq c 10 (by omega)
  have e1' : ((c.toNat : Int) == 32) = (c == 32) := e1
  have e2' : ((c.toNat : Int) == 10) = (c == 10) := e2
  rw [e1', e2']; rfl

set_option maxHeartbeats 400000 in
theorem isBlank_any (c : Int) (w : World) :
    Calls Try.prog 37 #[.int .u8 c] w fun e w' => e = .returned (.bool (c == 32 || c == 10)) ∧ w' = w := by
  go_enter Try.func37, Try.ntmps37
  go_wp2
  all_goals go_ret
  · exact ⟨by simp_all, rfl⟩
  · exact ⟨rfl, rfl⟩
theorem isBlank_byte (c : UInt8) (w : World) :
    Calls Try.prog 37 #[.int .u8 (c.toNat : Int)] w fun e w' => e = .returned (.bool (blank c)) ∧ w' = w := by
  rw [← blank_int]; exact isBlank_any _ _

set_option maxHeartbeats 400000 in
theorem short_any (c : Int) (w : World) :
    Calls Try.prog 75 #[.int .u8 c] w fun e w' => e = .returned (.int .i64 (sk c)) ∧ w' = w := by
  go_enter Try.func75, Try.ntmps75
  go_wp2
  all_goals go_ret
  all_goals exact ⟨ret_int (by simp only [sk, *, if_true, Bool.false_eq_true, if_false]), rfl⟩

set_option maxHeartbeats 400000 in
theorem keyword_any (s : ByteArray) (w : World) :
    Calls Try.prog 76 #[.string s] w fun e w' => e = .returned (.int .i64 (kw s.data.toList)) ∧ w' = w := by
  rw [← ByteArray.toList_eq]
  go_enter Try.func76, Try.ntmps76
  go_wp2
  all_goals go_ret
  all_goals exact ⟨ret_int (by simp only [kw, *, if_true, Bool.false_eq_true, if_false]), rfl⟩

def pfx (p s : ByteArray) : Bool := p.data.toList.isPrefixOf s.data.toList
theorem pfx_yes (p s : ByteArray) : ((s.extract 0 p.size).toList == p.toList) = pfx p s := by
  unfold pfx
  rw [ByteArray.toList_eq, ByteArray.toList_eq, Lib.extract_data]
  rw [Bool.eq_iff_iff, List.isPrefixOf_iff_prefix, List.prefix_iff_eq_take]
  simp only [List.drop_zero, Nat.sub_zero, beq_iff_eq]
  have : p.data.toList.length = p.size := by simp
  rw [this]
  exact ⟨fun h => h.symm, fun h => h.symm⟩
theorem pfx_no (p s : ByteArray) (h : ¬ (p.size : Int) ≤ (s.size : Int)) : false = pfx p s := by
  unfold pfx
  symm
  rw [Bool.eq_false_iff]
  intro hh
  rw [List.isPrefixOf_iff_prefix] at hh
  have := hh.length_le
  have e1 : p.data.toList.length = p.size := by simp
  have e2 : s.data.toList.length = s.size := by simp
  omega

set_option maxHeartbeats 400000 in
theorem prefixLite_any (s p : ByteArray) (w : World) (hs : s.size ≤ maxLen) (hp : p.size ≤ maxLen) :
    Calls Try.prog 92 #[.string s, .string p] w fun e w' => e = .returned (.bool (pfx p s)) ∧ w' = w := by
  unfold maxLen at hs hp
  by_cases h : (p.size : Int) ≤ (s.size : Int)
  · go_enter Try.func92, Try.ntmps92
    go_wp2
    go_ret
    exact ⟨ret_bool (pfx_yes p s), rfl⟩
  · have H : Hid (false = pfx p s) := pfx_no p s h
    go_enter Try.func92, Try.ntmps92
    go_wp2
    go_ret
    exact ⟨ret_bool H.out, rfl⟩

set_option maxHeartbeats 400000 in
theorem prefix_any (s p : ByteArray) (w : World) (hs : s.size ≤ maxLen) (hp : p.size ≤ maxLen) :
    Calls Try.prog 86 #[.string s, .string p] w fun e w' => e = .returned (.bool (pfx p s)) ∧ w' = w := by
  go_enter Try.func86, Try.ntmps86
  go_wp2_with (go_at_call 92; refine (prefixLite_any _ _ _ hs hp).mono ?_; rintro e w' ⟨rfl, rfl⟩)
  go_ret
  exact ⟨rfl, rfl⟩

theorem pfx2 (a b : UInt8) (s : ByteArray) : pfx ⟨#[a, b]⟩ s = (match s.data.toList with | x :: y :: _ => x == a && y == b | _ => false) := by
  unfold pfx
  match h : s.data.toList with
  | [] => simp [List.isPrefixOf]
  | [x] => simp [List.isPrefixOf]
  | x :: y :: r =>
    simp only [List.isPrefixOf]
    rw [Bool.eq_iff_iff]; simp; constructor <;> (rintro ⟨h1, h2⟩; exact ⟨h1.symm, h2.symm⟩)

theorem lk_pfx (s : ByteArray) : lk s.data.toList = if pfx ⟨#[58, 61]⟩ s then 5 else if pfx ⟨#[60, 61]⟩ s then 7 else if pfx ⟨#[62, 61]⟩ s then 10 else 1 := by
  rw [pfx2, pfx2, pfx2]
  match h : s.data.toList with
  | [] => simp [lk]
  | [x] => simp [lk]
  | x :: y :: r => simp [lk]

set_option maxHeartbeats 400000 in
theorem long_any (s : ByteArray) (w : World) (hs : s.size ≤ maxLen) :
    Calls Try.prog 74 #[.string s] w fun e w' => e = .returned (.int .i64 (lk s.data.toList)) ∧ w' = w := by
  have H : Hid (lk s.data.toList = if pfx ⟨#[58, 61]⟩ s then 5 else if pfx ⟨#[60, 61]⟩ s then 7 else if pfx ⟨#[62, 61]⟩ s then 10 else 1) := lk_pfx s
  have P : ∀ (p : ByteArray) (w : World), p.size ≤ maxLen → Calls Try.prog 86 #[.string s, .string p] w fun e w' => e = .returned (.bool (pfx p s)) ∧ w' = w := fun p w hp => prefix_any s p w hs hp
  have Q : Hid (∀ (p : ByteArray) (w : World), p.size ≤ maxLen → Calls Try.prog 86 #[.string s, .string p] w fun e w' => e = .returned (.bool (pfx p s)) ∧ w' = w) := P
  clear P
  go_enter Try.func74, Try.ntmps74
  go_wp2_with (go_at_call 86; refine (Q.out _ _ (by decide)).mono ?_; rintro e w' ⟨rfl, rfl⟩)
  all_goals go_ret
  all_goals exact ⟨ret_int (by rw [H.out]; simp only [*, if_true, Bool.false_eq_true, if_false]), rfl⟩

theorem vr_no (s : ByteArray) (h : s.size ≠ 1) : vr s.data.toList = -1 := by
  have e : s.data.toList.length = s.size := by simp
  unfold vr
  repeat' split
  all_goals (first | rfl | (rename_i h1; rw [beq_iff_eq.1 h1] at e; simp at e; omega))
theorem one_byte (s : ByteArray) (h : s.size = 1) : s.data.toList = [s[0]'(by omega)] := by
  have h1 := rest_cons s 0 (by omega)
  rw [rest_end s 1 (by omega)] at h1
  exact h1
theorem vr_one (c : UInt8) : vr [c] = if (c.toNat : Int) < 97 ∨ 101 ≤ (c.toNat : Int) then -1 else (c.toNat : Int) - 97 := by
  have e1 : ((c.toNat : Int) == 97) = (c == 97) := u8_beq c 97 (by omega)
  have e2 : ((c.toNat : Int) == 98) = (c == 98) := u8_beq c 98 (by omega)
  have e3 : ((c.toNat : Int) == 99) = (c == 99) := u8_beq c 99 (by omega)
  have e4 : ((c.toNat : Int) == 100) = (c == 100) := u8_beq c 100 (by omega)
  have b : ∀ d : UInt8, ([c] == [d]) = (c == d) := fun d => by simp
  unfold vr
  rw [b, b, b, b, ← e1, ← e2, ← e3, ← e4]
  repeat' split
  all_goals (simp at *; try omega)

set_option maxHeartbeats 400000 in
theorem variable_any (s : ByteArray) (w : World) (hs : s.size ≤ 300) :
    Calls Try.prog 77 #[.string s] w fun e w' => e = .returned (.int .i64 (vr s.data.toList)) ∧ w' = w := by
  by_cases h : s.size = 1
  · have h1 : ((s.size : Int) != 1) = false := by simp [h]
    have h0 : 0 < s.size := by omega
    have H : Hid (vr s.data.toList = if ((s[0]'h0).toNat : Int) < 97 ∨ 101 ≤ ((s[0]'h0).toNat : Int) then -1 else ((s[0]'h0).toNat : Int) - 97) := by
      show vr s.data.toList = _
      rw [one_byte s h]; exact vr_one _
    clear h
    go_enter Try.func77, Try.ntmps77
    go_wp2
    all_goals go_ret
    all_goals exact ⟨ret_int (by rw [H.out]; first | rw [if_pos (by omega)] | rw [if_neg (by omega)]), rfl⟩
  · have h1 : ((s.size : Int) != 1) = true := by simp; omega
    have H : Hid (vr s.data.toList = -1) := vr_no s h
    go_enter Try.func77, Try.ntmps77
    go_wp2
    go_ret
    exact ⟨ret_int H.out.symm, rfl⟩

theorem dgo_step (m : Int) (c : UInt8) (r : List UInt8) (v : Int) : dgo m (c :: r) v = if (c.toNat : Int) < 48 ∨ 57 < (c.toNat : Int) then -1 else if m < v * 10 + ((c.toNat : Int) - 48) then -1 else dgo m r (v * 10 + ((c.toNat : Int) - 48)) := rfl

set_option maxHeartbeats 400000 in
theorem number_any (s : ByteArray) (w : World) (hs : s.size ≤ 300) (h0 : 0 < s.size) :
    Calls Try.prog 78 #[.string s] w fun e w' => e = .returned (.int .i64 (dg 999 s.data.toList)) ∧ w' = w := by
  have hd : s.data.toList = s[0] :: rest s 1 := rest_cons s 0 h0
  have hl : (rest s 1).length = s.size - 1 := rest_len s 1
  have e48 : ((s[0].toNat : Int) == 48) = (s[0] == 48) := u8_beq s[0] 48 (by omega)
  by_cases h : (1 < s.size) ∧ ((s[0].toNat : Int) == 48) = true
  · obtain ⟨h1, h2⟩ := h
    have H : Hid (dg 999 s.data.toList = -1) := by
      show dg 999 s.data.toList = -1
      rw [e48] at h2
      have : (rest s 1).isEmpty = false := by
        rw [List.isEmpty_eq_false_iff]; intro h; rw [h] at hl; simp at hl; omega
      rw [hd]; show (if (s[0] == 48 && !(rest s 1).isEmpty) = true then (-1 : Int) else dgo 999 (s[0] :: rest s 1) 0) = -1
      rw [h2, this]; rfl
    clear hd hl e48
    have h1' : (1 : Int) < (s.size : Int) := by omega
    go_enter Try.func78, Try.ntmps78
    go_wp2
    go_ret
    exact ⟨ret_int H.out.symm, rfl⟩
  · have H : Hid (dg 999 s.data.toList = dgo 999 (rest s 0) 0) := by
      show dg 999 s.data.toList = dgo 999 s.data.toList 0
      have : (s[0] == 48 && !(rest s 1).isEmpty) = false := by
        rw [← e48]
        by_cases h1 : 1 < s.size
        · have : ((s[0].toNat : Int) == 48) = false := by
            rw [Bool.eq_false_iff]; intro h2; exact h ⟨h1, h2⟩
          simp [this]
        · have : rest s 1 = [] := by rw [← List.length_eq_zero_iff]; omega
          simp [this]
      rw [hd]; show (if (s[0] == 48 && !(rest s 1).isEmpty) = true then (-1 : Int) else dgo 999 (s[0] :: rest s 1) 0) = dgo 999 (s[0] :: rest s 1) 0
      rw [this]; rfl
    have hh : ¬ ((1 : Int) < (s.size : Int)) ∨ ((1 : Int) < (s.size : Int) ∧ ((s[0].toNat : Int) == 48) = false) := by
      by_cases h1 : 1 < s.size
      · right; exact ⟨by omega, by rw [Bool.eq_false_iff]; intro h2; exact h ⟨h1, h2⟩⟩
      · left; omega
    clear hd hl e48 h
    rcases hh with hh | ⟨hh, hh'⟩
    all_goals
      go_enter Try.func78, Try.ntmps78
      go_wp2
      go_loop [3, 4] (fun v i => ∃ (k : Nat) (n : Int), k ≤ s.size ∧ i = .int .i64 k ∧ v = .int .i64 n ∧ 0 ≤ n ∧ n ≤ 999 ∧ dgo 999 (rest s 0) 0 = dgo 999 (rest s k) n) (fun _ i => s.size - (intOf i).toNat)
      case atStart => exact ⟨0, 0, Nat.zero_le _, rfl, rfl, by omega, by omega, rfl⟩
      case round =>
        obtain ⟨k, n, hk, rfl, rfl, hn0, hn9, hq⟩ := hrel
        have Q : Hid (dgo 999 (rest s 0) 0 = dgo 999 (rest s k) n) := hq
        clear hq
        by_cases hlt : k < s.size
        · have hb : s[k].toNat < 256 := UInt8.toNat_lt _
          have E : Hid (dgo 999 (rest s k) n = if (s[k].toNat : Int) < 48 ∨ 57 < (s[k].toNat : Int) then -1 else if 999 < n * 10 + ((s[k].toNat : Int) - 48) then -1 else dgo 999 (rest s (k + 1)) (n * 10 + ((s[k].toNat : Int) - 48))) := by
            show _ = _
            rw [rest_cons s k hlt]; rfl
          go_wp2
          case roundEnd =>
            go_round
            case rel => exact ⟨k + 1, _, by omega, by go_num, rfl, by omega, by omega, by rw [Q.out, E.out, if_neg (by omega), if_neg (by omega)]⟩
            case measure => simp [intOf]; omega
          all_goals go_ret
          · exact ⟨ret_int (by rw [H.out, Q.out, E.out, if_pos (by omega)]), rfl⟩
          · exact ⟨ret_int (by rw [H.out, Q.out, E.out, if_neg (by omega), if_pos (by omega)]), rfl⟩
          · exact ⟨ret_int (by rw [H.out, Q.out, E.out, if_pos (by omega)]), rfl⟩
        · go_wp2
          go_ret
          exact ⟨ret_int (by rw [H.out, Q.out, rest_end s k (by omega)]; rfl), rfl⟩

set_option maxHeartbeats 400000 in
theorem wordKind_any (s : ByteArray) (w : World) (hs : s.size ≤ 300) (h0 : 0 < s.size) :
    Calls Try.prog 57 #[.string s] w fun e w' => e = .returned (.tuple #[.int .i64 (wk s.data.toList).1, .int .i64 (wk s.data.toList).2]) ∧ w' = w := by
  obtain ⟨K, hK⟩ : ∃ K, kw s.data.toList = K := ⟨_, rfl⟩
  obtain ⟨V, hV⟩ : ∃ V, vr s.data.toList = V := ⟨_, rfl⟩
  obtain ⟨D, hD⟩ : ∃ D, dg 999 s.data.toList = D := ⟨_, rfl⟩
  have C1 : Hid (∀ w, Calls Try.prog 76 #[.string s] w fun e w' => e = .returned (.int .i64 K) ∧ w' = w) := fun w => by rw [← hK]; exact keyword_any s w
  have C2 : Hid (∀ w, Calls Try.prog 77 #[.string s] w fun e w' => e = .returned (.int .i64 V) ∧ w' = w) := fun w => by rw [← hV]; exact variable_any s w hs
  have C3 : Hid (∀ w, Calls Try.prog 78 #[.string s] w fun e w' => e = .returned (.int .i64 D) ∧ w' = w) := fun w => by rw [← hD]; exact number_any s w hs h0
  have E : Hid (wk s.data.toList = if K ≠ 1 then (K, 0) else if 0 ≤ V then (28, V) else if 0 ≤ D then (29, D) else (1, 0)) := by
    show wk s.data.toList = _
    unfold wk; rw [hK, hV, hD]
  clear hK hV hD
  generalize wk s.data.toList = R at *
  go_enter Try.func57, Try.ntmps57
  go_wp2_with (first | (go_at_call 76; refine (C1.out _).mono ?_; rintro e w' ⟨rfl, rfl⟩) | (go_at_call 77; refine (C2.out _).mono ?_; rintro e w' ⟨rfl, rfl⟩) | (go_at_call 78; refine (C3.out _).mono ?_; rintro e w' ⟨rfl, rfl⟩))
  all_goals go_ret2
  all_goals refine ⟨?_, rfl⟩
  all_goals rw [E.out]
  · rw [if_pos (by simpa using ‹(K != 1) = true›)]; rfl
  · rw [if_neg (by simpa using ‹(K != 1) = false›), if_pos (by omega)]; rfl
  · rw [if_neg (by simpa using ‹(K != 1) = false›), if_neg (by omega), if_pos (by omega)]; rfl
  · rw [if_neg (by simpa using ‹(K != 1) = false›), if_neg (by omega), if_neg (by omega)]; rfl

def syk (l : List UInt8) : Int := if sg2 l then lk l else sk ((l.headD 0).toNat : Int)
theorem extract_end (s : ByteArray) (k : Nat) : (s.extract k s.size).data.toList = rest s k := by
  rw [extract_rest, List.take_of_length_le]; rw [rest_len]; omega

set_option maxHeartbeats 400000 in
theorem symbolAt_any (s : ByteArray) (k : Nat) (w : World) (hs : s.size ≤ 300) (h0 : k < s.size) :
    Calls Try.prog 55 #[.string s, .int .i64 (k : Int)] w fun e w' => e = .returned (.tuple #[.int .i64 (syk (rest s k)), .int .i64 (sgn (rest s k))]) ∧ w' = w := by
  obtain ⟨K, hK⟩ : ∃ K, lk (rest s k) = K := ⟨_, rfl⟩
  obtain ⟨V, hV⟩ : ∃ V, sk (s[k].toNat : Int) = V := ⟨_, rfl⟩
  have C1 : Hid (∀ w, Calls Try.prog 74 #[.string (s.extract k s.size)] w fun e w' => e = .returned (.int .i64 K) ∧ w' = w) := fun w => by
    rw [← hK, ← extract_end]; exact long_any _ w (by simp; unfold maxLen; omega)
  have C2 : Hid (∀ w, Calls Try.prog 75 #[.int .u8 (s[k].toNat : Int)] w fun e w' => e = .returned (.int .i64 V) ∧ w' = w) := fun w => by rw [← hV]; exact short_any _ w
  have E1 : Hid ((K != 1) = true → syk (rest s k) = K ∧ sgn (rest s k) = 2) := by
    intro h
    have h2 : sg2 (rest s k) = true := (lk_ne _).1 (by rw [hK]; simpa using h)
    exact ⟨by unfold syk; rw [if_pos h2, hK], by unfold sgn; rw [if_pos h2]⟩
  have E2 : Hid ((K != 1) = false → (V != 1) = true → syk (rest s k) = V ∧ sgn (rest s k) = 1) := by
    intro h h'
    have h2 : ¬ sg2 (rest s k) = true := fun hh => (lk_ne _).2 hh (by rw [hK]; simpa using h)
    have h3 : sg1 s[k] = true := (sk_ne _).1 (by rw [hV]; simpa using h')
    rw [rest_cons s k h0] at h2 ⊢
    exact ⟨by unfold syk; rw [if_neg h2]; exact hV, by unfold sgn; rw [if_neg h2]; simp [h3]⟩
  have E3 : Hid ((K != 1) = false → (V != 1) = false → syk (rest s k) = 1 ∧ sgn (rest s k) = 0) := by
    intro h h'
    have h2 : ¬ sg2 (rest s k) = true := fun hh => (lk_ne _).2 hh (by rw [hK]; simpa using h)
    have h3 : ¬ sg1 s[k] = true := fun hh => (sk_ne _).2 hh (by rw [hV]; simpa using h')
    rw [rest_cons s k h0] at h2 ⊢
    exact ⟨by unfold syk; rw [if_neg h2]; simp only [List.headD_cons]; rw [hV]; simpa using h', by unfold sgn; rw [if_neg h2]; simp [h3]⟩
  clear hK hV
  generalize syk (rest s k) = R at *
  generalize sgn (rest s k) = T at *
  go_enter Try.func55, Try.ntmps55
  go_wp2_with (first | (go_at_call 74; refine (C1.out _).mono ?_; rintro e w' ⟨rfl, rfl⟩) | (go_at_call 75; refine (C2.out _).mono ?_; rintro e w' ⟨rfl, rfl⟩))
  all_goals go_ret2
  all_goals refine ⟨?_, rfl⟩
  · obtain ⟨a, b⟩ := E1.out (by assumption); rw [a, b]; rfl
  · obtain ⟨a, b⟩ := E2.out (by assumption) (by assumption); rw [a, b]; rfl
  · obtain ⟨a, b⟩ := E3.out (by assumption) (by assumption); rw [a, b]; rfl

set_option maxHeartbeats 400000 in
theorem wordEnd_any (s : ByteArray) (k : Nat) (w : World) (hs : s.size ≤ 300) (h0 : k < s.size) :
    Calls Try.prog 56 #[.string s, .int .i64 (k : Int)] w fun e w' => e = .returned (.int .i64 ((k + 1 + wlen (rest s (k + 1)) : Nat) : Int)) ∧ w' = w := by
  have hwl : wlen (rest s (k + 1)) ≤ s.size - (k + 1) := by have := wlen_le (rest s (k + 1)); rw [rest_len] at this; exact this
  generalize hN : k + 1 + wlen (rest s (k + 1)) = N
  have HN : Hid (k + 1 + wlen (rest s (k + 1)) = N) := hN
  have hNs : N ≤ s.size := by omega
  clear hN hwl
  go_enter Try.func56, Try.ntmps56
  go_wp2_with fail
  go_loop [5] (fun i => ∃ e : Nat, k < e ∧ e ≤ N ∧ i = .int .i64 e ∧ N = e + wlen (rest s e)) (fun i => s.size - (intOf i).toNat)
  case atStart => exact ⟨k + 1, by omega, by have := HN.out; omega, by go_num, HN.out.symm⟩
  case round =>
    obtain ⟨e, hk, he, rfl, hq⟩ := hrel
    have Q : Hid (N = e + wlen (rest s e)) := hq
    clear hq
    by_cases hlt : e < s.size
    · have C1 : Hid (∀ w, Calls Try.prog 37 #[.int .u8 (s[e].toNat : Int)] w fun e' w' => e' = .returned (.bool (blank s[e])) ∧ w' = w) := fun w => isBlank_byte _ _
      have C2 : Hid (∀ w, Calls Try.prog 55 #[.string s, .int .i64 (e : Int)] w fun e' w' => e' = .returned (.tuple #[.int .i64 (syk (rest s e)), .int .i64 (sgn (rest s e))]) ∧ w' = w) := fun w => symbolAt_any s e w hs hlt
      have E : Hid (wlen (rest s e) = if blank s[e] || decide (0 < sgn (rest s e)) then 0 else wlen (rest s (e + 1)) + 1) := by
        show _ = _
        rw [rest_cons s e hlt]; rfl
      have hsg := (sgn_le (rest s e)).2
      generalize blank s[e] = B at *
      generalize sgn (rest s e) = G at *
      generalize syk (rest s e) = Y at *
      cases B
      · by_cases hG : 0 < G
        · go_wp2_with (first | (go_at_call 37; refine (C1.out _).mono ?_; rintro e' w' ⟨rfl, rfl⟩) | (go_at_call 55; refine (C2.out _).mono ?_; rintro e' w' ⟨rfl, rfl⟩))
          go_ret
          exact ⟨ret_int (by have h1 := E.out; have h2 := Q.out; simp [hG] at h1; omega), rfl⟩
        · go_wp2_with (first | (go_at_call 37; refine (C1.out _).mono ?_; rintro e' w' ⟨rfl, rfl⟩) | (go_at_call 55; refine (C2.out _).mono ?_; rintro e' w' ⟨rfl, rfl⟩))
          have h1 := E.out
          have h2 := Q.out
          have hG0 : G = 0 := by omega
          simp [hG0] at h1
          go_round
          case rel => exact ⟨e + 1, by omega, by omega, by go_num, by omega⟩
          case measure => simp [intOf]; omega
      · go_wp2_with (first | (go_at_call 37; refine (C1.out _).mono ?_; rintro e' w' ⟨rfl, rfl⟩) | (go_at_call 55; refine (C2.out _).mono ?_; rintro e' w' ⟨rfl, rfl⟩))
        go_ret
        exact ⟨ret_int (by have h1 := E.out; have h2 := Q.out; simp at h1; omega), rfl⟩
    · go_wp2_with fail
      go_ret
      exact ⟨ret_int (by have h2 := Q.out; omega), rfl⟩

end Go.Proofs.Ytkinoehmcfhgbaa.Av
set_option linter.unusedVariables false
namespace Go.Proofs.Ytkinoehmcfhgbaa.Av
open Go.RowKit

theorem sg2_take (l : List UInt8) (n : Nat) (h : sg2 (l.take n) = true) : sg2 l = true := by
  match l, n, h with
  | a :: b :: r, n + 2, h => simpa [sg2] using h
  | a :: b :: r, 1, h => simp [sg2] at h
  | a :: b :: r, 0, h => simp [sg2] at h
  | [a], 0, h => simp [sg2] at h
  | [a], n + 1, h => simp [sg2] at h
  | [], n, h => simp [sg2] at h

theorem tk_sign (l : List UInt8) (h : 0 < sgn l) : tk (l.take (tlen l)) = (syk l, 0) := by
  have ht : tlen l = sgn l := by unfold tlen; rw [if_pos h]
  rw [ht]
  by_cases h2 : sg2 l = true
  · match l, h2 with
    | a :: b :: r, h2 =>
      have e : sgn (a :: b :: r) = 2 := by unfold sgn; rw [if_pos h2]
      rw [e]
      have h2' : sg2 [a, b] = true := by simpa [sg2] using h2
      have e' : sgn [a, b] = 2 := by unfold sgn; rw [if_pos h2']
      show tk [a, b] = _
      unfold tk syk; rw [e', if_pos h2', if_pos h2]; rfl
  · match l with
    | [] => simp [sgn, sg2] at h
    | a :: r =>
      have h1 : sg1 a = true := by
        cases hs : sg1 a with
        | true => rfl
        | false => unfold sgn at h; rw [if_neg h2] at h; simp [hs] at h
      have e : sgn (a :: r) = 1 := by unfold sgn; rw [if_neg h2]; simp [h1]
      rw [e]
      have e' : sgn [a] = 1 := by simp [sgn, sg2, h1]
      show tk [a] = _
      unfold tk syk; rw [e', if_neg h2]; simp [sg2]

theorem tk_word (a : UInt8) (r : List UInt8) (h : ¬ 0 < sgn (a :: r)) : tk ((a :: r).take (tlen (a :: r))) = wk ((a :: r).take (tlen (a :: r))) := by
  have ht : tlen (a :: r) = 1 + wlen r := by unfold tlen; rw [if_neg h]; rfl
  have h2 : ¬ sg2 (a :: r) = true := by
    intro hh; unfold sgn at h; rw [if_pos hh] at h; omega
  have h1 : ¬ sg1 a = true := by
    intro hh; unfold sgn at h; rw [if_neg h2] at h; simp [hh] at h
  have e : (a :: r).take (tlen (a :: r)) = a :: r.take (wlen r) := by rw [ht, Nat.add_comm]; rfl
  have h2' : ¬ sg2 (a :: r.take (wlen r)) = true := by
    intro hh; rw [← e] at hh; exact h2 (sg2_take _ _ hh)
  rw [e]
  have : sgn (a :: r.take (wlen r)) = 0 := by unfold sgn; rw [if_neg h2']; simp [h1]
  unfold tk; rw [this]; simp

theorem bcell {W w1 : World} (hb : Below W.heap.size W w1) : (∀ b o, b < W.heap.size → w1.cell? ⟨b, o, none⟩ = W.cell? ⟨b, o, none⟩) ∧ (∀ b o, b < W.heap.size → w1.frozen? ⟨b, o, none⟩ = W.frozen? ⟨b, o, none⟩) :=
  ⟨fun b o h => hb.cell (p := ⟨b, o, none⟩) h, fun b o h => hb.frozen (p := ⟨b, o, none⟩) h⟩

set_option maxHeartbeats 400000 in
theorem tokenAt_any (s : ByteArray) (k : Nat) (w : World) (hs : s.size ≤ 300) (h0 : k < s.size) :
    Calls Try.prog 38 #[.string s, .int .i64 (k : Int)] w fun e w' => e = .returned (.tuple #[.agg #[.int .i64 (tk ((rest s k).take (tlen (rest s k)))).1, .int .i64 (k : Int), .int .i64 (tk ((rest s k).take (tlen (rest s k)))).2], .int .i64 (tlen (rest s k) : Int)]) ∧ Below w.heap.size w w' := by
  by_cases hg : 0 < sgn (rest s k)
  · have ht : tlen (rest s k) = sgn (rest s k) := by unfold tlen; rw [if_pos hg]
    rw [tk_sign _ hg, ht]
    have C1 : Hid (∀ w, Calls Try.prog 55 #[.string s, .int .i64 (k : Int)] w fun e' w' => e' = .returned (.tuple #[.int .i64 (syk (rest s k)), .int .i64 (sgn (rest s k))]) ∧ w' = w) := fun w => symbolAt_any s k w hs h0
    clear ht
    generalize syk (rest s k) = Y at *
    generalize sgn (rest s k) = G at *
    go_enter Try.func38, Try.ntmps38
    go_wp2_with (go_at_call 55; refine (C1.out _).mono ?_; rintro e' w' ⟨rfl, rfl⟩)
    exact bodyPost_ret (v := .tuple #[.agg #[.int .i64 Y, .int .i64 (k : Int), .int .i64 0], .int .i64 (G : Int)]) (by simp [results, Try.results38, go_sem]) rfl ⟨rfl, (Below.refl _ _).alloc (Nat.le_refl _) _⟩
  · have hc := rest_cons s k h0
    have ht : tlen (rest s k) = 1 + wlen (rest s (k + 1)) := by unfold tlen; rw [if_neg hg, hc]; rfl
    have hw : tk ((rest s k).take (tlen (rest s k))) = wk ((rest s k).take (tlen (rest s k))) := by
      rw [hc] at hg ⊢; exact tk_word _ _ hg
    rw [hw]
    have hwl : wlen (rest s (k + 1)) ≤ s.size - (k + 1) := by have := wlen_le (rest s (k + 1)); rw [rest_len] at this; exact this
    have hx : (s.extract k (k + tlen (rest s k))).data.toList = (rest s k).take (tlen (rest s k)) := by rw [extract_rest]; congr 1; omega
    have hxs : (s.extract k (k + tlen (rest s k))).size = tlen (rest s k) := by simp; omega
    have C1 : Hid (∀ w, Calls Try.prog 55 #[.string s, .int .i64 (k : Int)] w fun e' w' => e' = .returned (.tuple #[.int .i64 (syk (rest s k)), .int .i64 (sgn (rest s k))]) ∧ w' = w) := fun w => symbolAt_any s k w hs h0
    have C2 : Hid (∀ w, Calls Try.prog 56 #[.string s, .int .i64 (k : Int)] w fun e' w' => e' = .returned (.int .i64 ((k + tlen (rest s k) : Nat) : Int)) ∧ w' = w) := fun w => by
      have := wordEnd_any s k w hs h0
      rw [ht, ← Nat.add_assoc]; exact this
    have C3 : Hid (∀ w, Calls Try.prog 57 #[.string (s.extract k (k + tlen (rest s k)))] w fun e' w' => e' = .returned (.tuple #[.int .i64 (wk ((rest s k).take (tlen (rest s k)))).1, .int .i64 (wk ((rest s k).take (tlen (rest s k)))).2]) ∧ w' = w) := fun w => by
      rw [← hx]; exact wordKind_any _ w (by omega) (by omega)
    have hT0 : 0 < tlen (rest s k) := tlen_pos _
    have hT : k + tlen (rest s k) ≤ s.size := by omega
    clear hx hxs hw ht hwl hc
    generalize wk ((rest s k).take (tlen (rest s k))) = R at *
    generalize tlen (rest s k) = T at *
    generalize syk (rest s k) = Y at *
    generalize sgn (rest s k) = G at *
    go_enter Try.func38, Try.ntmps38
    go_wp2_with (first | (go_at_call 55; refine (C1.out _).mono ?_; rintro e' w' ⟨rfl, rfl⟩) | (go_at_call 56; refine (C2.out _).mono ?_; rintro e' w' ⟨rfl, rfl⟩) | (go_at_call 57; refine (C3.out _).mono ?_; rintro e' w' ⟨rfl, rfl⟩))
    exact bodyPost_ret (v := .tuple #[.agg #[.int .i64 R.1, .int .i64 (k : Int), .int .i64 R.2], .int .i64 (T : Int)]) (by simp [results, Try.results38, go_sem]; try omega) rfl ⟨rfl, (Below.refl _ _).alloc (Nat.le_refl _) _⟩

theorem Try.infoTok : (Try.prog.info? 97).map (fun i => (i.zero, i.size, i.bytes)) = some (some (.agg #[.int .i64 0, .int .i64 0, .int .i64 0]), 3, 24) := by kernel_rfl

/-- The program's three cells of a token. -/
def cell3 (t : List UInt8 × Nat) : List Value := [.int .i64 (tk t.1).1, .int .i64 (t.2 : Int), .int .i64 (tk t.1).2]
def cells3 (l : List (List UInt8 × Nat)) : List Value := l.flatMap cell3
theorem cells3_len (l : List (List UInt8 × Nat)) : (cells3 l).length = l.length * 3 := by
  induction l with
  | nil => rfl
  | cons a r ih => simp only [cells3, List.flatMap_cons, List.length_append, List.length_cons] at ih ⊢; rw [ih]; simp [cell3]; omega

theorem own_below {w w1 : World} {base : Nat} {e : TypeId} {size : Nat} {v : Value} {n : Nat} {xs : List Value} (h : w.ownsRow base e size v n xs) (hb : Below w.heap.size w w1) : w1.ownsRow base e size v n xs := by
  obtain ⟨h1, h2⟩ := h
  refine ⟨h1, ?_⟩
  rcases h2 with h2 | ⟨g, cap, cur, hv, hg, hh, r⟩
  · exact Or.inl h2
  · have : g < w.heap.size := by
      rcases Nat.lt_or_ge g w.heap.size with h | h
      · exact h
      · rw [Array.getElem?_eq_none h] at hh; cases hh
    exact Or.inr ⟨g, cap, cur, hv, hg, by rw [hb.block g this]; exact hh, r⟩
theorem own_block {w : World} {base : Nat} {e : TypeId} {size : Nat} {v : Value} {n : Nat} {xs : List Value} (h : w.ownsRow base e size v n xs) : ∀ k, v.ownBlock = some k → base ≤ k := by
  intro k hk
  rcases h.2 with ⟨rfl, _⟩ | ⟨g, cap, cur, rfl, hg, _⟩
  · simp [Value.ownBlock] at hk
  · simp [Value.ownBlock] at hk; omega
theorem three_new (w : World) (a b c : Value) (t : TypeId) : ∀ j u, [a, b, c][j]? = some u → (w.alloc (.cells #[a, b, c] t)).cell? ((⟨w.heap.size, 0, none⟩ : Addr).add j) = some u := by
  intro j u h
  match j, h with
  | 0, h => simp at h; subst h; simp [Addr.add]
  | 1, h => simp at h; subst h; simp [Addr.add]
  | 2, h => simp at h; subst h; simp [Addr.add]

theorem three_new2 (w : World) (B : Nat) (hB : B = w.heap.size) (a b c : Value) (t : TypeId) : ∀ j u, [a, b, c][j]? = some u → (w.alloc (.cells #[a, b, c] t)).cell? ((⟨B, 0, none⟩ : Addr).add j) = some u := by
  subst hB; exact three_new w a b c t

set_option maxHeartbeats 400000 in
theorem scan_any (s : ByteArray) (w : World) (hs : s.size ≤ 300) :
    Calls Try.prog 22 #[.string s] w fun e w' => ∃ v, e = .returned v ∧ w'.ownsRow w.heap.size 97 3 v ((tokAt 0 (rest s 0)).length + 1) (cells3 (tokAt 0 (rest s 0)) ++ [.int .i64 0, .int .i64 (s.size : Int), .int .i64 0]) ∧ Below w.heap.size w w' := by
  obtain ⟨i0, hi, hz0, hz1, hz2⟩ := info_parts Try.infoTok
  go_enter Try.func22, Try.ntmps22
  go_wp2_with fail
  go_loopw [3, 4] (fun v i wr => ∃ (k : Nat) (ds : List (List UInt8 × Nat)), k ≤ s.size ∧ i = .int .i64 k ∧ wr.ownsRow w.heap.size 97 3 v ds.length (cells3 ds) ∧ tokAt 0 (rest s 0) = ds ++ tokAt k (rest s k) ∧ Below w.heap.size w wr) (fun _ i _ => s.size - (intOf i).toNat)
  case atStart => exact ⟨0, [], Nat.zero_le _, rfl, World.ownsRow_nil _ _ _ _, rfl, Below.refl _ _⟩
  case round =>
    obtain ⟨k, ds, hk, rfl, hown, hq, hnx⟩ := hrel
    have Q : Hid (tokAt 0 (rest s 0) = ds ++ tokAt k (rest s k)) := hq
    clear hq
    by_cases hlt : k < s.size
    · have C1 : Hid (∀ w, Calls Try.prog 37 #[.int .u8 (s[k].toNat : Int)] w fun e' w' => e' = .returned (.bool (blank s[k])) ∧ w' = w) := fun w => isBlank_byte _ _
      have hdl : ds.length ≤ 300 := by
        have hl := tokAt_len 0 (rest s 0)
        rw [rest_len, Q.out, List.length_append] at hl; omega
      have hsz := hnx.size
      obtain ⟨B, hB⟩ : ∃ B, blank s[k] = B := ⟨_, rfl⟩
      rw [hB] at C1
      cases B
      · have C2 : Hid (∀ w, Calls Try.prog 38 #[.string s, .int .i64 (k : Int)] w fun e w' => e = .returned (.tuple #[.agg #[.int .i64 (tk ((rest s k).take (tlen (rest s k)))).1, .int .i64 (k : Int), .int .i64 (tk ((rest s k).take (tlen (rest s k)))).2], .int .i64 (tlen (rest s k) : Int)]) ∧ Below w.heap.size w w') := fun w => tokenAt_any s k w hs hlt
        have hT : k + tlen (rest s k) ≤ s.size := by
          have := tlen_le s[k] (rest s (k + 1)); rw [← rest_cons s k hlt, rest_len] at this; omega
        have hT0 : 0 < tlen (rest s k) := tlen_pos _
        have Q2 : Hid (tokAt 0 (rest s 0) = (ds ++ [((rest s k).take (tlen (rest s k)), k)]) ++ tokAt (k + tlen (rest s k)) (rest s (k + tlen (rest s k)))) := by
          show _ = _
          have e := tokAt_tok k s[k] (rest s (k + 1)) hB
          rw [← rest_cons s k hlt, rest_drop] at e
          rw [Q.out, e, List.append_assoc]; rfl
        clear hB
        obtain ⟨t, ht⟩ : ∃ t, (rest s k).take (tlen (rest s k)) = t := ⟨_, rfl⟩
        rw [ht] at C2 Q2
        clear ht
        generalize tlen (rest s k) = T at *
        go_wp2_with fail
        refine (C1.out _).mono ?_
        rintro e' w' ⟨rfl, rfl⟩
        go_wp2_with fail
        refine (C2.out _).mono ?_
        rintro e' w1 ⟨rfl, hb1⟩
        have hown1 := own_below hown hb1
        have hnx1 := hnx.trans (hb1.mono hsz)
        have hsz1 := hb1.size
        clear hown hb1 C1 C2
        go_wp2_with (at_builtin; refine wpList_append_own _ rfl _ _ 71 rfl w.heap.size 97 i0 (.agg #[.int .i64 0, .int .i64 0, .int .i64 0]) 3 24 Try.underlying71 hi hz0 hz1 hz2 rfl (by decide) _ _ _ rfl ((hown1.alloc _).alloc _) ⟨w1.heap.size + 1, 0, none⟩ 1 1 (cell3 (t, k)) rfl rfl ?c1 ?c2 ?c3 ?c4 ?c5 ?_)
        case c1 => exact three_new2 _ _ (by simp) _ _ _ _
        case c2 => intro u hu; simp [cell3] at hu; rcases hu with rfl | rfl | rfl <;> rfl
        case c3 => unfold maxLen; omega
        case c4 => omega
        case c5 => simp; omega
        · intro v' w2 hown2 hgrow _
          have hb2 := ((hnx1.alloc (by omega) _).alloc (by simp; omega) _).grown hgrow (by simp; omega) (own_block hown1)
          clear hown1 hgrow
          go_wp2_with fail
          go_roundw
          case rel => exact ⟨k + T, ds ++ [(t, k)], by omega, by go_num, by simpa [cells3] using hown2, Q2.out, hb2⟩
          case measure => simp [intOf]; omega
      · have Q2 : Hid (tokAt 0 (rest s 0) = ds ++ tokAt (k + 1) (rest s (k + 1))) := by
          show _ = _
          rw [Q.out, rest_cons s k hlt, tokAt_blank _ _ _ hB]
        clear hB
        go_wp2_with (go_at_call 37; refine (C1.out _).mono ?_; rintro e' w' ⟨rfl, rfl⟩)
        go_roundw
        case rel => exact ⟨k + 1, ds, by omega, by go_num, hown, Q2.out, hnx⟩
        case measure => simp [intOf]; omega
    · have hl := tokAt_len 0 (rest s 0)
      rw [rest_len] at hl
      have hd : tokAt 0 (rest s 0) = ds := by rw [Q.out, rest_end s k (by omega), tokAt_nil, List.append_nil]
      have hdl : ds.length ≤ 300 := by rw [← hd]; omega
      clear hl
      have HD : Hid (tokAt 0 (rest s 0) = ds) := hd
      clear hd
      go_wp2_with (at_builtin; refine wpList_append_own _ rfl _ _ 71 rfl w.heap.size 97 i0 (.agg #[.int .i64 0, .int .i64 0, .int .i64 0]) 3 24 Try.underlying71 hi hz0 hz1 hz2 rfl (by decide) _ _ _ rfl (hown.alloc _) ⟨wr.heap.size, 0, none⟩ 1 1 [.int .i64 0, .int .i64 (s.size : Int), .int .i64 0] rfl rfl ?d1 ?d2 ?d3 ?d4 ?d5 ?_)
      case d1 => exact three_new _ _ _ _ _
      case d2 => intro u hu; simp at hu; rcases hu with rfl | rfl | rfl <;> rfl
      case d3 => unfold maxLen; omega
      case d4 => omega
      case d5 => have := hnx.size; simp; omega
      · intro v' w1 hown' hgrow _
        go_wp2_with fail
        go_ret
        refine ⟨v', rfl, ?_, ?_⟩
        · rw [HD.out]; exact hown'
        · exact (hnx.alloc hnx.size _).grown hgrow (by have := hnx.size; simp; omega) (own_block hown)

end Go.Proofs.Ytkinoehmcfhgbaa.Av
