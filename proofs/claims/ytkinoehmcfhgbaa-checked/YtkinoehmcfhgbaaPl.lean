/-
  Plain definitions and facts on bytes, tokens and kinds of tokens (no Go, no program): what the walks of this seat say is said in these words.
-/
namespace Go.Proofs.Ytkinoehmcfhgbaa.Av

def blank (c : UInt8) : Bool := c == 32 || c == 10
def sg2 : List UInt8 → Bool
  | a :: b :: _ => (a == 58 && b == 61) || (a == 60 && b == 61) || (a == 62 && b == 61)
  | _ => false
def sg1 (a : UInt8) : Bool := a == 40 || a == 41 || a == 59 || a == 60 || a == 61 || a == 62 || a == 43 || a == 45
/-- How many bytes the sign has that begins here. -/
def sgn (l : List UInt8) : Nat := if sg2 l then 2 else match l with
  | [] => 0
  | a :: _ => if sg1 a then 1 else 0
/-- How many bytes of a word go on here. -/
def wlen : List UInt8 → Nat
  | [] => 0
  | a :: r => if blank a || decide (0 < sgn (a :: r)) then 0 else wlen r + 1
def tlen (l : List UInt8) : Nat := if 0 < sgn l then sgn l else 1 + wlen l.tail
def toks : Nat → Nat → List UInt8 → List (List UInt8 × Nat)
  | 0, _, _ => []
  | _ + 1, _, [] => []
  | f + 1, i, a :: r => if blank a then toks f (i + 1) r else ((a :: r).take (tlen (a :: r)), i) :: toks f (i + tlen (a :: r)) ((a :: r).drop (tlen (a :: r)))

def kw (l : List UInt8) : Int :=
  if l == [102, 114, 111, 109] then 13 else if l == [100, 111] then 14 else if l == [116, 111] then 15 else if l == [115, 107, 105, 112] then 16 else
  if l == [105, 102] then 17 else if l == [116, 104, 101, 110] then 18 else if l == [101, 108, 115, 101] then 19 else if l == [101, 110, 100] then 20 else
  if l == [119, 104, 105, 108, 101] then 21 else if l == [107, 101, 101, 112] then 22 else if l == [111, 114] then 23 else if l == [97, 110, 100] then 24 else
  if l == [110, 111, 116] then 25 else if l == [116, 114, 117, 101] then 26 else if l == [102, 97, 108, 115, 101] then 27 else 1
def vr (l : List UInt8) : Int := if l == [97] then 0 else if l == [98] then 1 else if l == [99] then 2 else if l == [100] then 3 else -1
def dgo (m : Int) : List UInt8 → Int → Int
  | [], v => v
  | c :: r, v => if (c.toNat : Int) < 48 ∨ 57 < (c.toNat : Int) then -1 else if m < v * 10 + ((c.toNat : Int) - 48) then -1 else dgo m r (v * 10 + ((c.toNat : Int) - 48))
def dg (m : Int) (l : List UInt8) : Int := match l with
  | [] => -1
  | c :: r => if c == 48 && !r.isEmpty then -1 else dgo m (c :: r) 0
def wk (l : List UInt8) : Int × Int := if kw l ≠ 1 then (kw l, 0) else if 0 ≤ vr l then (28, vr l) else if 0 ≤ dg 999 l then (29, dg 999 l) else (1, 0)
def lk : List UInt8 → Int
  | a :: b :: _ => if a == 58 && b == 61 then 5 else if a == 60 && b == 61 then 7 else if a == 62 && b == 61 then 10 else 1
  | _ => 1
def sk (a : Int) : Int := if a == 40 then 2 else if a == 41 then 3 else if a == 59 then 4 else if a == 60 then 6 else if a == 61 then 8 else if a == 62 then 9 else if a == 43 then 11 else if a == 45 then 12 else 1
/-- The program's kind of a token, and its value. -/
def tk (l : List UInt8) : Int × Int := if 0 < sgn l then ((if sg2 l then lk l else sk (l.headD 0).toNat), 0) else wk l

theorem kw_range (l : List UInt8) : 1 ≤ kw l ∧ kw l ≤ 27 := by
  unfold kw; repeat' split
  all_goals omega

theorem vr_range (l : List UInt8) : -1 ≤ vr l ∧ vr l ≤ 3 := by
  unfold vr; repeat' split
  all_goals omega

theorem lk_ne (l : List UInt8) : lk l ≠ 1 ↔ sg2 l = true := by
  match l with
  | [] => simp [lk, sg2]
  | [a] => simp [lk, sg2]
  | a :: b :: r =>
    simp only [lk, sg2]
    by_cases h1 : (a == 58 && b == 61) = true
    · simp [h1]
    · by_cases h2 : (a == 60 && b == 61) = true
      · simp [h1, h2]
      · by_cases h3 : (a == 62 && b == 61) = true
        · simp [h1, h2, h3]
        · simp [h1, h2, h3]

theorem u8_beq (a : UInt8) (n : Nat) (h : n < 256) : ((a.toNat : Int) == (n : Int)) = (a == UInt8.ofNat n) := by
  rw [Bool.eq_iff_iff]
  simp only [beq_iff_eq]
  constructor
  · intro e
    have : a.toNat = n := by omega
    apply UInt8.toNat_inj.1
    rw [this]; simp; omega
  · intro e; subst e; simp; omega

theorem sk_ne (a : UInt8) : sk a.toNat ≠ 1 ↔ sg1 a = true := by
  unfold sk sg1
  have e1 := u8_beq a 40 (by omega)
  have e2 := u8_beq a 41 (by omega)
  have e3 := u8_beq a 59 (by omega)
  have e4 := u8_beq a 60 (by omega)
  have e5 := u8_beq a 61 (by omega)
  have e6 := u8_beq a 62 (by omega)
  have e7 := u8_beq a 43 (by omega)
  have e8 := u8_beq a 45 (by omega)
  simp only [show ((40 : Nat) : Int) = 40 from rfl, show ((41 : Nat) : Int) = 41 from rfl, show ((59 : Nat) : Int) = 59 from rfl, show ((60 : Nat) : Int) = 60 from rfl, show ((61 : Nat) : Int) = 61 from rfl, show ((62 : Nat) : Int) = 62 from rfl, show ((43 : Nat) : Int) = 43 from rfl, show ((45 : Nat) : Int) = 45 from rfl] at e1 e2 e3 e4 e5 e6 e7 e8
  rw [e1, e2, e3, e4, e5, e6, e7, e8]
  show _ ↔ (a == UInt8.ofNat 40 || a == UInt8.ofNat 41 || a == UInt8.ofNat 59 || a == UInt8.ofNat 60 || a == UInt8.ofNat 61 || a == UInt8.ofNat 62 || a == UInt8.ofNat 43 || a == UInt8.ofNat 45) = true
  repeat' split
  all_goals simp_all

theorem sgn_le (l : List UInt8) : sgn l ≤ l.length ∧ sgn l ≤ 2 := by
  unfold sgn
  split
  · rename_i h
    match l, h with
    | a :: b :: r, _ => simp
  · match l with
    | [] => simp
    | a :: r => simp only; split <;> simp

theorem wlen_le (l : List UInt8) : wlen l ≤ l.length := by
  induction l with
  | nil => simp [wlen]
  | cons a r ih => unfold wlen; split <;> simp <;> omega

theorem tlen_pos (l : List UInt8) : 0 < tlen l := by unfold tlen; split <;> omega
theorem tlen_le (a : UInt8) (r : List UInt8) : tlen (a :: r) ≤ (a :: r).length := by
  unfold tlen
  split
  · exact (sgn_le _).1
  · have := wlen_le r; simp; omega

theorem toks_fuel (f : Nat) : ∀ (g i : Nat) (l : List UInt8), l.length ≤ f → l.length ≤ g → toks f i l = toks g i l := by
  induction f with
  | zero =>
    intro g i l h1 h2
    have : l = [] := by cases l <;> simp_all
    subst this
    cases g <;> simp [toks]
  | succ f ih =>
    intro g i l h1 h2
    cases l with
    | nil => cases g <;> simp [toks]
    | cons a r =>
      cases g with
      | zero => simp at h2
      | succ g =>
        have hp := tlen_pos (a :: r)
        simp only [toks]
        split
        · exact ih _ _ _ (by simp at h1; omega) (by simp at h2; omega)
        · rw [ih g _ _ (by simp at h1 ⊢; omega) (by simp at h2 ⊢; omega)]

/-- The tokens of what is left of a text, from a place on. -/
def tokAt (i : Nat) (l : List UInt8) : List (List UInt8 × Nat) := toks l.length i l
theorem tokAt_nil (i : Nat) : tokAt i [] = [] := rfl
theorem tokAt_blank (i : Nat) (a : UInt8) (r : List UInt8) (h : blank a = true) : tokAt i (a :: r) = tokAt (i + 1) r := by
  simp [tokAt, toks, h]
theorem tokAt_tok (i : Nat) (a : UInt8) (r : List UInt8) (h : blank a = false) :
    tokAt i (a :: r) = ((a :: r).take (tlen (a :: r)), i) :: tokAt (i + tlen (a :: r)) ((a :: r).drop (tlen (a :: r))) := by
  have hp := tlen_pos (a :: r)
  simp only [tokAt, toks, List.length_cons, h, Bool.false_eq_true, if_false]
  rw [toks_fuel r.length ((a :: r).drop (tlen (a :: r))).length _ _ (by simp; omega) (Nat.le_refl _)]

theorem toks_len (f : Nat) : ∀ (i : Nat) (l : List UInt8), (toks f i l).length ≤ l.length := by
  induction f with
  | zero => intro i l; simp [toks]
  | succ f ih =>
    intro i l
    cases l with
    | nil => simp [toks]
    | cons a r =>
      have hp := tlen_pos (a :: r)
      simp only [toks]
      split
      · have := ih (i + 1) r; simp; omega
      · have := ih (i + tlen (a :: r)) ((a :: r).drop (tlen (a :: r)))
        simp at this ⊢; omega
theorem tokAt_len (i : Nat) (l : List UInt8) : (tokAt i l).length ≤ l.length := toks_len _ _ _

end Go.Proofs.Ytkinoehmcfhgbaa.Av
