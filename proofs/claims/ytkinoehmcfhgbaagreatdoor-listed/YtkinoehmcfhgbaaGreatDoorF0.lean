/-
  Programs as trees, and how they stand in tokens: plain words alone.
  Formulas as conditions: their symbols, the bytes of these, what they come to at a state: plain words alone.
-/
import Derived.Test.YtkinoehmcfhgbaaGreatDoorFin2
import Derived.Test.YtkinoehmcfhgbaaGreatDoorV7
import Derived.Test.YtkinoehmcfhgbaaGreatDoorV10
set_option linter.unusedVariables false
set_option linter.unusedSimpArgs false
namespace Go.Proofs.YtkinoehmcfhgbaaGreatDoor.Av
open Go.RowKit

/-- The text of the token at a place; behind the last one the empty text. -/
def sAt (toks : List (List UInt8 × Nat)) (k : Nat) : List UInt8 := (toks[k]?.map (·.1)).getD []
/-- The TERM at a place: its variable, its number, the place behind it. -/
def trm (toks : List (List UInt8 × Nat)) (k : Nat) : Int × Int × Nat :=
  if 0 ≤ vr (sAt toks k) then
    (if sAt toks (k + 1) == [43] then (vr (sAt toks k), dg 999 (sAt toks (k + 2)), k + 3) else if sAt toks (k + 1) == [45] then (vr (sAt toks k), -dg 999 (sAt toks (k + 2)), k + 3) else (vr (sAt toks k), 0, k + 1))
  else if sAt toks k == [45] then (-1, -dg 999 (sAt toks (k + 1)), k + 2) else (-1, dg 999 (sAt toks k), k + 1)
theorem dgo_range (m : Int) (hm : 0 ≤ m) : ∀ (l : List UInt8) (v : Int), 0 ≤ v → v ≤ m → -1 ≤ dgo m l v ∧ dgo m l v ≤ m
  | [], v, h0, h1 => by simp only [dgo]; omega
  | c :: r, v, h0, h1 => by
    simp only [dgo]
    split
    · omega
    · split
      · omega
      · exact dgo_range m hm r _ (by omega) (by omega)
theorem dg_range (m : Int) (hm : 0 ≤ m) (l : List UInt8) : -1 ≤ dg m l ∧ dg m l ≤ m := by
  cases l with
  | nil => simp only [dg]; omega
  | cons c r =>
    simp only [dg]
    split
    · omega
    · exact dgo_range m hm _ 0 (by omega) hm
theorem trm_range (toks : List (List UInt8 × Nat)) (k : Nat) : -1 ≤ (trm toks k).1 ∧ (trm toks k).1 ≤ 3 ∧ -999 ≤ (trm toks k).2.1 ∧ (trm toks k).2.1 ≤ 999 ∧ k + 1 ≤ (trm toks k).2.2 ∧ (trm toks k).2.2 ≤ k + 3 := by
  have h1 := vr_range (sAt toks k)
  have d0 := dg_range 999 (by omega) (sAt toks k)
  have d1 := dg_range 999 (by omega) (sAt toks (k + 1))
  have d2 := dg_range 999 (by omega) (sAt toks (k + 2))
  unfold trm
  repeat' split
  all_goals dsimp only
  all_goals omega

/-- Formulas. -/
inductive Fm where
  | tt
  | ff
  | cmp (r : Int) (a b : Int × Int)
  | no (f : Fm)
  | and (f g : Fm)
  | or (f g : Fm)
/-- What is read: a FACTOR, a PART, a FORMULA; what goes on behind a part, behind a formula. -/
inductive Tg where
  | fac
  | part
  | form
  | partL (f : Fm)
  | formL (f : Fm)
/-- The relations, as the program numbers them. -/
def rel (l : List UInt8) : Int := if l == [60] then 0 else if l == [60, 61] then 1 else if l == [62] then 3 else if l == [62, 61] then 4 else 2
theorem rel_range (l : List UInt8) : 0 ≤ rel l ∧ rel l ≤ 4 := by
  unfold rel
  repeat' split
  all_goals omega

/-- How a formula stands in tokens. -/
inductive Rd (toks : List (List UInt8 × Nat)) : Tg → Nat → Fm → Nat → Prop
  | tru {k : Nat} : sAt toks k = [116, 114, 117, 101] → Rd toks .fac k .tt (k + 1)
  | fls {k : Nat} : sAt toks k = [102, 97, 108, 115, 101] → Rd toks .fac k .ff (k + 1)
  | no {k k' : Nat} {f : Fm} : sAt toks k = [110, 111, 116] → Rd toks .fac (k + 1) f k' → Rd toks .fac k (.no f) k'
  | par {k k' : Nat} {f : Fm} : sAt toks k = [40] → Rd toks .form (k + 1) f k' → Rd toks .fac k f (k' + 1)
  | cmp {k : Nat} : sAt toks k ≠ [116, 114, 117, 101] → sAt toks k ≠ [102, 97, 108, 115, 101] → sAt toks k ≠ [110, 111, 116] → sAt toks k ≠ [40] →
      Rd toks .fac k (.cmp (rel (sAt toks (trm toks k).2.2)) ((trm toks k).1, (trm toks k).2.1) ((trm toks ((trm toks k).2.2 + 1)).1, (trm toks ((trm toks k).2.2 + 1)).2.1)) (trm toks ((trm toks k).2.2 + 1)).2.2
  | part {k k1 k' : Nat} {f g : Fm} : Rd toks .fac k f k1 → Rd toks (.partL f) k1 g k' → Rd toks .part k g k'
  | partS {k k1 k' : Nat} {f g h : Fm} : sAt toks k = [97, 110, 100] → Rd toks .fac (k + 1) g k1 → Rd toks (.partL (.and f g)) k1 h k' → Rd toks (.partL f) k h k'
  | partE {k : Nat} {f : Fm} : sAt toks k ≠ [97, 110, 100] → Rd toks (.partL f) k f k
  | form {k k1 k' : Nat} {f g : Fm} : Rd toks .part k f k1 → Rd toks (.formL f) k1 g k' → Rd toks .form k g k'
  | formS {k k1 k' : Nat} {f g h : Fm} : sAt toks k = [111, 114] → Rd toks .part (k + 1) g k1 → Rd toks (.formL (.or f g)) k1 h k' → Rd toks (.formL f) k h k'
  | formE {k : Nat} {f : Fm} : sAt toks k ≠ [111, 114] → Rd toks (.formL f) k f k

/-- A reading goes on: of a factor, a part, a formula by at least a token. -/
theorem Rd.le {toks : List (List UInt8 × Nat)} {t : Tg} {k k' : Nat} {f : Fm} (h : Rd toks t k f k') : k ≤ k' ∧ ((t = .fac ∨ t = .part ∨ t = .form) → k + 1 ≤ k') := by
  induction h with
  | tru _ => exact ⟨by omega, fun _ => by omega⟩
  | fls _ => exact ⟨by omega, fun _ => by omega⟩
  | no _ _ ih => exact ⟨by have := ih.1; omega, fun _ => by have := ih.1; omega⟩
  | par _ _ ih => exact ⟨by have := ih.1; omega, fun _ => by have := ih.1; omega⟩
  | @cmp k _ _ _ _ =>
    have h1 := trm_range toks k
    have h2 := trm_range toks ((trm toks k).2.2 + 1)
    exact ⟨by omega, fun _ => by omega⟩
  | part _ _ h1 h2 => have := h1.2 (Or.inl rfl); exact ⟨by have := h2.1; omega, fun _ => by have := h2.1; omega⟩
  | partS _ _ _ h1 h2 => exact ⟨by have := h2.1; have := h1.1; omega, fun h => by rcases h with h | h | h <;> cases h⟩
  | partE _ => exact ⟨Nat.le_refl _, fun h => by rcases h with h | h | h <;> cases h⟩
  | form _ _ h1 h2 => have := h1.2 (Or.inr (Or.inl rfl)); exact ⟨by have := h2.1; omega, fun _ => by have := h2.1; omega⟩
  | formS _ _ _ h1 h2 => exact ⟨by have := h2.1; have := h1.1; omega, fun h => by rcases h with h | h | h <;> cases h⟩
  | formE _ => exact ⟨Nat.le_refl _, fun h => by rcases h with h | h | h <;> cases h⟩

/-- Commands; several in a row lie to the right. -/
inductive Cm where
  | skip
  | asg (x : Int) (t : Int × Int)
  | ite (f : Fm) (a b : Cm)
  | loop (f g : Fm) (a : Cm)
  | seq (a b : Cm)
/-- How a COMMAND (false), COMMANDS (true) stand in tokens. -/
inductive Rc (toks : List (List UInt8 × Nat)) : Bool → Nat → Cm → Nat → Prop
  | skip {k : Nat} : sAt toks k = [115, 107, 105, 112] → Rc toks false k .skip (k + 1)
  | asg {k : Nat} : 0 ≤ vr (sAt toks k) → Rc toks false k (.asg (vr (sAt toks k)) ((trm toks (k + 2)).1, (trm toks (k + 2)).2.1)) (trm toks (k + 2)).2.2
  | ite {k k1 k2 k3 : Nat} {f : Fm} {a b : Cm} : sAt toks k = [105, 102] → Rd toks .form (k + 1) f k1 → Rc toks true (k1 + 1) a k2 → Rc toks true (k2 + 1) b k3 → Rc toks false k (.ite f a b) (k3 + 1)
  | loop {k k1 k2 k3 : Nat} {f g : Fm} {a : Cm} : sAt toks k = [119, 104, 105, 108, 101] → Rd toks .form (k + 1) f k1 → Rd toks .form (k1 + 1) g k2 → Rc toks true (k2 + 1) a k3 → Rc toks false k (.loop f g a) (k3 + 1)
  | one {k k' : Nat} {c : Cm} : Rc toks false k c k' → sAt toks k' ≠ [59] → Rc toks true k c k'
  | seq {k k1 k' : Nat} {c r : Cm} : Rc toks false k c k1 → sAt toks k1 = [59] → Rc toks true (k1 + 1) r k' → Rc toks true k (.seq c r) k'
theorem Rc.le {toks : List (List UInt8 × Nat)} {t : Bool} {k k' : Nat} {c : Cm} (h : Rc toks t k c k') : k + 1 ≤ k' := by
  induction h with
  | skip _ => omega
  | @asg k _ => have h2 := trm_range toks (k + 2); omega
  | ite _ h1 _ _ h2 h3 => have := h1.le.1; omega
  | loop _ h1 h2 _ h3 => have := h1.le.1; have := h2.le.1; omega
  | one _ _ h => exact h
  | seq _ _ _ h1 h2 => omega

variable {toks : List (List UInt8 × Nat)} {len : Nat}
/-- The token at a place, as the program has it and as the document. -/
theorem sAt_tok (hk : AllTok toks) {k : Nat} (h : k ≤ toks.length) :
    (∃ t, Tokish t ∧ k < toks.length ∧ sAt toks k = t ∧ kd (T3 toks len) k = (tk t).1 ∧ vlu (T3 toks len) k = (tk t).2) ∨ (k = toks.length ∧ sAt toks k = [] ∧ kd (T3 toks len) k = 0) := by
  by_cases hl : k < toks.length
  · obtain ⟨⟨t, i⟩, ht⟩ : ∃ t, toks[k]? = some t := ⟨_, List.getElem?_eq_getElem hl⟩
    have h3 := T3_tok (len := len) ht
    refine Or.inl ⟨t, hk t i (List.mem_of_getElem? ht), hl, ?_, ?_, ?_⟩
    · unfold sAt; rw [ht]; rfl
    · unfold kd; rw [h3]
    · unfold vlu; rw [h3]
  · have e : k = toks.length := by omega
    subst e
    exact Or.inr ⟨rfl, by unfold sAt; rw [List.getElem?_eq_none (Nat.le_refl _)]; rfl, kd_end toks len⟩
theorem lits_ne : ∀ x ∈ syms ++ kws, x.1 ≠ [] := by decide
theorem lit_at (hk : AllTok toks) {k : Nat} (h : k ≤ toks.length) {c : List UInt8} {n : Int} (hc : (c, n) ∈ syms ++ kws) : kd (T3 toks len) k = n ↔ sAt toks k = c := by
  rcases sAt_tok (len := len) hk h with ⟨t, ht, hl, hs, h1, h2⟩ | ⟨e, hs, h1⟩
  · rw [h1, hs]; exact kind_lit t c n ht hc
  · rw [h1, hs]
    have := sk_range _ hc
    have h9 := lits_ne _ hc
    exact ⟨fun e => by dsimp only at this; omega, fun e => absurd e.symm h9⟩
theorem tk_var (t : List UInt8) (h : Tokish t) (h8 : (tk t).1 = 28) : (tk t).2 = vr t := by
  unfold tk at h8 ⊢
  by_cases hs : 0 < sgn t
  · obtain ⟨k, hk⟩ := sym_cases t h hs
    have := (syms_kind _ hk).1
    have h9 := sk_range (t, k) (by simp [hk])
    have e : (tk t).1 = 28 := by unfold tk; exact h8
    rw [this] at e; dsimp only at e h9; omega
  · rw [if_neg hs] at h8 ⊢
    unfold wk at h8 ⊢
    have := kw_range t
    split at h8
    · dsimp only at h8; omega
    · rename_i hkw
      rw [if_neg hkw]
      split at h8
      · rename_i hv; rw [if_pos hv]
      · split at h8 <;> simp at h8
theorem tk_num (t : List UInt8) (h : Tokish t) (h8 : (tk t).1 = 29) : (tk t).2 = dg 999 t := by
  unfold tk at h8 ⊢
  by_cases hs : 0 < sgn t
  · obtain ⟨k, hk⟩ := sym_cases t h hs
    have := (syms_kind _ hk).1
    have h9 := sk_range (t, k) (by simp [hk])
    have e : (tk t).1 = 29 := by unfold tk; exact h8
    rw [this] at e; dsimp only at e h9; omega
  · rw [if_neg hs] at h8 ⊢
    unfold wk at h8 ⊢
    have := kw_range t
    split at h8
    · dsimp only at h8; omega
    · rename_i hkw
      rw [if_neg hkw]
      split at h8
      · simp at h8
      · rename_i hv
        rw [if_neg hv]
        split at h8
        · rename_i hd; rw [if_pos hd]
        · simp at h8
theorem var_at (hk : AllTok toks) {k : Nat} (h : k ≤ toks.length) : (kd (T3 toks len) k = 28 → vlu (T3 toks len) k = vr (sAt toks k)) ∧ (kd (T3 toks len) k = 28 ↔ 0 ≤ vr (sAt toks k)) := by
  rcases sAt_tok (len := len) hk h with ⟨t, ht, hl, hs, h1, h2⟩ | ⟨e, hs, h1⟩
  · rw [h1, h2, hs]; exact ⟨tk_var t ht, kind_var t ht⟩
  · rw [h1, hs]; exact ⟨fun e => by omega, fun e => by omega, fun e => absurd e (by decide)⟩
theorem num_at (hk : AllTok toks) {k : Nat} (h : k ≤ toks.length) (h9 : kd (T3 toks len) k = 29) : vlu (T3 toks len) k = dg 999 (sAt toks k) := by
  rcases sAt_tok (len := len) hk h with ⟨t, ht, hl, hs, h1, h2⟩ | ⟨e, hs, h1⟩
  · rw [h2, hs]; exact tk_num t ht (by rw [← h1]; exact h9)
  · omega
end Go.Proofs.YtkinoehmcfhgbaaGreatDoor.Av
set_option linter.unusedVariables false
set_option linter.unusedSimpArgs false
namespace Go.Proofs.YtkinoehmcfhgbaaGreatDoor.Vl
open Go.RowKit
open Go.Proofs.YtkinoehmcfhgbaaGreatDoor.Av (Fm Rd Tg sAt trm trm_range rel rel_range)

/-- The letter of a place: 0 to 4. -/
def lt (p : Int) : UInt8 := if p = 0 then 48 else if p = 1 then 97 else if p = 2 then 98 else if p = 3 then 99 else 100
theorem lt_plu {p : Int} (h0 : 0 ≤ p) (h4 : p ≤ 4) : plu (lt p) = p := by
  have : p = 0 ∨ p = 1 ∨ p = 2 ∨ p = 3 ∨ p = 4 := by omega
  rcases this with rfl | rfl | rfl | rfl | rfl <;> rfl
theorem lt_mk {p : Int} (h0 : 0 ≤ p) (h4 : p ≤ 4) : mk ((lt p).toNat : Int) = -1 := by
  have : p = 0 ∨ p = 1 ∨ p = 2 ∨ p = 3 ∨ p = 4 := by omega
  rcases this with rfl | rfl | rfl | rfl | rfl <;> rfl
/-- The bytes of a symbol. -/
def sb (y : Sym) : List UInt8 :=
  if y.1 = 0 then [116] else if y.1 = 1 then [102] else if y.1 = 2 then [33] else if y.1 = 3 then [38] else if y.1 = 4 then [124] else if y.1 = 5 then [62] else
  lt y.2.1 :: 45 :: lt y.2.2.1 :: 60 :: 61 :: (Lib.itoa y.2.2.2 ++ [46])
def sbs (ys : List Sym) : List UInt8 := ys.flatMap sb
theorem sbs_append (a b : List Sym) : sbs (a ++ b) = sbs a ++ sbs b := by unfold sbs; rw [List.flatMap_append]
theorem sbs_cons (y : Sym) (b : List Sym) : sbs (y :: b) = sb y ++ sbs b := rfl
/-- Symbols as they are written. -/
def Good (y : Sym) : Prop := 0 ≤ y.1 ∧ y.1 ≤ 6 ∧ (y.1 ≠ 6 → y.2 = (0, 0, 0)) ∧ (y.1 = 6 → 0 ≤ y.2.1 ∧ y.2.1 ≤ 4 ∧ 0 ≤ y.2.2.1 ∧ y.2.2.1 ≤ 4 ∧ y.2.1 ≠ y.2.2.1 ∧ -999999 ≤ y.2.2.2 ∧ y.2.2.2 ≤ 999999)
theorem sb_ne (y : Sym) : ∃ c r, sb y = c :: r := by
  unfold sb
  repeat' split
  all_goals exact ⟨_, _, rfl⟩
theorem sym_sb {y : Sym} (h : Good y) (l : List UInt8) : sym (sb y ++ l) = some (y, (sb y).length) := by
  obtain ⟨q, u, v, n⟩ := y
  obtain ⟨h0, h6, ho, ha⟩ := h
  dsimp only at *
  have hq : q = 0 ∨ q = 1 ∨ q = 2 ∨ q = 3 ∨ q = 4 ∨ q = 5 ∨ q = 6 := by omega
  rcases hq with rfl | rfl | rfl | rfl | rfl | rfl | rfl
  iterate 6
    · have := ho (by decide)
      cases this; rfl
  · obtain ⟨a1, a2, a3, a4, a5, a6, a7⟩ := ha rfl
    have e : sb (6, u, v, n) = lt u :: 45 :: lt v :: 60 :: 61 :: (Lib.itoa n ++ [46]) := rfl
    rw [e]
    show sym (lt u :: (45 :: lt v :: 60 :: 61 :: (Lib.itoa n ++ [46]) ++ l)) = _
    have e2 : 45 :: lt v :: 60 :: 61 :: (Lib.itoa n ++ [46]) ++ l = 45 :: lt v :: 60 :: 61 :: (Lib.itoa n ++ 46 :: l) := by simp
    rw [e2]
    simp only [sym]
    rw [lt_mk a1 a2, if_neg (by decide)]
    have hne : (Lib.itoa n ++ 46 :: l).isEmpty = false := by cases hh : Lib.itoa n <;> rfl
    have hg : (Lib.itoa n ++ 46 :: l).getD (Lib.itoa n).length 0 = 46 := by simp
    simp only [atm]
    rw [bnd_itoa n a6 a7 l, hne]
    dsimp only
    rw [hg, lt_plu a1 a2, lt_plu a3 a4]
    have p1 : decide (u < 0) = false := by simp; omega
    have p2 : decide (v < 0) = false := by simp; omega
    have p3 : (u == v) = false := by simp; exact a5
    rw [p1, p2, p3]
    simp
    omega
theorem prsA_sb {y : Sym} (h : Good y) (m : Int) (hm : m ≠ 0) (l : List UInt8) : prsA m (sb y ++ l) = (prsA (m + prt y.1 - 1) l).map (y :: ·) := by
  obtain ⟨c, r, hc⟩ := sb_ne y
  have hs := sym_sb h l
  rw [hc] at hs ⊢
  rw [List.cons_append] at hs ⊢
  rw [prsA_some m c (r ++ l) y _ hm hs]
  congr 2
  rw [← List.cons_append]; exact List.drop_left

/-- u less v is at most n, as a symbol. -/
def aty (u v n : Int) : Sym := if u = v then (if 0 ≤ n then (0, 0, 0, 0) else (1, 0, 0, 0)) else (6, u, v, n)
def cms (r : Int) (a b : Int × Int) : List Sym :=
  if r = 0 then [aty (a.1 + 1) (b.1 + 1) (b.2 - a.2 - 1)] else if r = 1 then [aty (a.1 + 1) (b.1 + 1) (b.2 - a.2)] else if r = 3 then [aty (b.1 + 1) (a.1 + 1) (a.2 - b.2 - 1)] else if r = 4 then [aty (b.1 + 1) (a.1 + 1) (a.2 - b.2)]
  else [(3, 0, 0, 0), aty (a.1 + 1) (b.1 + 1) (b.2 - a.2), aty (b.1 + 1) (a.1 + 1) (a.2 - b.2)]
/-- The symbols of a formula. -/
def fsy : Fm → List Sym
  | .tt => [(0, 0, 0, 0)]
  | .ff => [(1, 0, 0, 0)]
  | .cmp r a b => cms r a b
  | .no f => (2, 0, 0, 0) :: fsy f
  | .and f g => (3, 0, 0, 0) :: (fsy f ++ fsy g)
  | .or f g => (4, 0, 0, 0) :: (fsy f ++ fsy g)
/-- The value of a term; does a comparison, a formula hold? -/
def tv (x1 x2 x3 x4 : Int) (a : Int × Int) : Int := xv x1 x2 x3 x4 (a.1 + 1) + a.2
def cmpB (r l m : Int) : Bool := if r = 0 then decide (l < m) else if r = 1 then decide (l ≤ m) else if r = 2 then decide (l = m) else if r = 3 then decide (m < l) else decide (m ≤ l)
def ev (x1 x2 x3 x4 : Int) : Fm → Bool
  | .tt => true
  | .ff => false
  | .cmp r a b => cmpB r (tv x1 x2 x3 x4 a) (tv x1 x2 x3 x4 b)
  | .no f => !ev x1 x2 x3 x4 f
  | .and f g => ev x1 x2 x3 x4 f && ev x1 x2 x3 x4 g
  | .or f g => ev x1 x2 x3 x4 f || ev x1 x2 x3 x4 g
/-- Numbers and variables as they may be. -/
def tOk (a : Int × Int) : Prop := -1 ≤ a.1 ∧ a.1 ≤ 3 ∧ -999 ≤ a.2 ∧ a.2 ≤ 999
def fOk : Fm → Prop
  | .cmp r a b => 0 ≤ r ∧ r ≤ 4 ∧ tOk a ∧ tOk b
  | .no f => fOk f
  | .and f g => fOk f ∧ fOk g
  | .or f g => fOk f ∧ fOk g
  | _ => True
theorem aty_good {u v n : Int} (h0 : 0 ≤ u) (h1 : u ≤ 4) (h2 : 0 ≤ v) (h3 : v ≤ 4) (h4 : -999999 ≤ n) (h5 : n ≤ 999999) : Good (aty u v n) := by
  unfold aty
  split
  · split
    · exact ⟨by decide, by decide, fun _ => rfl, fun h => absurd h (by decide)⟩
    · exact ⟨by decide, by decide, fun _ => rfl, fun h => absurd h (by decide)⟩
  · rename_i h; exact ⟨by dsimp only; decide, by dsimp only; decide, fun e => absurd rfl e, fun _ => ⟨h0, h1, h2, h3, h, h4, h5⟩⟩
theorem aty_prt (u v n : Int) : prt (aty u v n).1 = 0 := by
  unfold aty
  split
  · split <;> rfl
  · rfl
theorem prsA_aty {u v n : Int} (h0 : 0 ≤ u) (h1 : u ≤ 4) (h2 : 0 ≤ v) (h3 : v ≤ 4) (h4 : -999999 ≤ n) (h5 : n ≤ 999999) (m : Int) (hm : m ≠ 0) (l : List UInt8) : prsA m (sb (aty u v n) ++ l) = (prsA (m - 1) l).map (aty u v n :: ·) := by
  rw [prsA_sb (aty_good h0 h1 h2 h3 h4 h5) m hm l, aty_prt, Int.add_zero]
theorem good_mark {q : Int} (h0 : 0 ≤ q) (h5 : q ≤ 5) : Good (q, 0, 0, 0) := ⟨h0, by dsimp only; omega, fun _ => rfl, fun h => by dsimp only at h; omega⟩
theorem map_app {ys zs : List Sym} (o : Option (List Sym)) : (o.map (zs ++ ·)).map (ys ++ ·) = o.map ((ys ++ zs) ++ ·) := by cases o <;> simp
theorem map_cons (y : Sym) {zs : List Sym} (o : Option (List Sym)) : (o.map (zs ++ ·)).map (y :: ·) = o.map ((y :: zs) ++ ·) := by cases o <;> simp
theorem prsA_cms {r : Int} {a b : Int × Int} (ha : tOk a) (hb : tOk b) (m : Int) (hm : 0 < m) (l : List UInt8) : prsA m (sbs (cms r a b) ++ l) = (prsA (m - 1) l).map (cms r a b ++ ·) := by
  obtain ⟨a1, a2, a3, a4⟩ := ha
  obtain ⟨b1, b2, b3, b4⟩ := hb
  have one : ∀ u v n, 0 ≤ u → u ≤ 4 → 0 ≤ v → v ≤ 4 → -999999 ≤ n → n ≤ 999999 → prsA m (sbs [aty u v n] ++ l) = (prsA (m - 1) l).map ([aty u v n] ++ ·) := fun u v n h0 h1 h2 h3 h4 h5 => by
    show prsA m ((sb (aty u v n) ++ []) ++ l) = _
    rw [List.append_nil, prsA_aty h0 h1 h2 h3 h4 h5 m (by omega)]; rfl
  unfold cms
  split
  · exact one _ _ _ (by omega) (by omega) (by omega) (by omega) (by omega) (by omega)
  · split
    · exact one _ _ _ (by omega) (by omega) (by omega) (by omega) (by omega) (by omega)
    · split
      · exact one _ _ _ (by omega) (by omega) (by omega) (by omega) (by omega) (by omega)
      · split
        · exact one _ _ _ (by omega) (by omega) (by omega) (by omega) (by omega) (by omega)
        · rw [sbs_cons, sbs_cons, sbs_cons, List.append_assoc, List.append_assoc, List.append_assoc, prsA_sb (good_mark (q := 3) (by decide) (by decide)) m (by omega)]
          show Option.map _ (prsA (m + 2 - 1) _) = _
          rw [prsA_aty (by omega) (by omega) (by omega) (by omega) (by omega) (by omega) _ (by omega), prsA_aty (by omega) (by omega) (by omega) (by omega) (by omega) (by omega) _ (by omega)]
          have e : m + 2 - 1 - 1 - 1 = m - 1 := by omega
          rw [e]
          show Option.map _ (Option.map _ (Option.map _ (prsA (m - 1) l))) = _
          cases prsA (m - 1) l <;> rfl
/-- The bytes of a formula's symbols are read as these symbols. -/
theorem prsA_fsy : ∀ (f : Fm), fOk f → ∀ (m : Int), 0 < m → ∀ l, prsA m (sbs (fsy f) ++ l) = (prsA (m - 1) l).map (fsy f ++ ·)
  | .tt, _, m, hm, l => by
    show prsA m (sb (0, 0, 0, 0) ++ l) = _
    rw [prsA_sb (good_mark (q := 0) (by decide) (by decide)) m (by omega)]
    have e : m + prt (0 : Int) - 1 = m - 1 := by show m + 0 - 1 = _; omega
    dsimp only; rw [e]; rfl
  | .ff, _, m, hm, l => by
    show prsA m (sb (1, 0, 0, 0) ++ l) = _
    rw [prsA_sb (good_mark (q := 1) (by decide) (by decide)) m (by omega)]
    have e : m + prt (1 : Int) - 1 = m - 1 := by show m + 0 - 1 = _; omega
    dsimp only; rw [e]; rfl
  | .cmp r a b, h, m, hm, l => prsA_cms h.2.2.1 h.2.2.2 m hm l
  | .no f, h, m, hm, l => by
    show prsA m (sbs ((2, 0, 0, 0) :: fsy f) ++ l) = Option.map (((2, 0, 0, 0) :: fsy f) ++ ·) _
    rw [sbs_cons, List.append_assoc, prsA_sb (good_mark (q := 2) (by decide) (by decide)) m (by omega)]
    have e : m + prt (2 : Int) - 1 = m := by show m + 1 - 1 = _; omega
    dsimp only; rw [e, prsA_fsy f h m hm l, map_cons]
  | .and f g, h, m, hm, l => by
    show prsA m (sbs ((3, 0, 0, 0) :: (fsy f ++ fsy g)) ++ l) = Option.map (((3, 0, 0, 0) :: (fsy f ++ fsy g)) ++ ·) _
    rw [sbs_cons, sbs_append, List.append_assoc, List.append_assoc, prsA_sb (good_mark (q := 3) (by decide) (by decide)) m (by omega)]
    have e : m + prt (3 : Int) - 1 = m + 1 := by show m + 2 - 1 = _; omega
    dsimp only; rw [e, prsA_fsy f h.1 (m + 1) (by omega), show m + 1 - 1 = m by omega, prsA_fsy g h.2 m hm, map_app, map_cons]
  | .or f g, h, m, hm, l => by
    show prsA m (sbs ((4, 0, 0, 0) :: (fsy f ++ fsy g)) ++ l) = Option.map (((4, 0, 0, 0) :: (fsy f ++ fsy g)) ++ ·) _
    rw [sbs_cons, sbs_append, List.append_assoc, List.append_assoc, prsA_sb (good_mark (q := 4) (by decide) (by decide)) m (by omega)]
    have e : m + prt (4 : Int) - 1 = m + 1 := by show m + 2 - 1 = _; omega
    dsimp only; rw [e, prsA_fsy f h.1 (m + 1) (by omega), show m + 1 - 1 = m by omega, prsA_fsy g h.2 m hm, map_app, map_cons]
theorem brun_aty (x1 x2 x3 x4 u v n : Int) (r : List Sym) : brun x1 x2 x3 x4 (aty u v n :: r) = decide (xv x1 x2 x3 x4 u - xv x1 x2 x3 x4 v ≤ n) :: brun x1 x2 x3 x4 r := by
  rw [brun_cons]
  unfold aty
  split
  · rename_i h; subst h
    split
    · rename_i h; show true :: _ = _; rw [decide_eq_true (by omega)]; rfl
    · rename_i h; show false :: _ = _; rw [decide_eq_false (by omega)]; rfl
  · rfl
theorem brun_cms (x1 x2 x3 x4 r : Int) (a b : Int × Int) (h0 : 0 ≤ r) (h4 : r ≤ 4) (l : List Sym) : brun x1 x2 x3 x4 (cms r a b ++ l) = cmpB r (tv x1 x2 x3 x4 a) (tv x1 x2 x3 x4 b) :: brun x1 x2 x3 x4 l := by
  have hr : r = 0 ∨ r = 1 ∨ r = 3 ∨ r = 4 ∨ r = 2 := by omega
  unfold tv
  rcases hr with rfl | rfl | rfl | rfl | rfl
  · show brun x1 x2 x3 x4 (aty (a.1 + 1) (b.1 + 1) (b.2 - a.2 - 1) :: l) = decide (_ < _) :: _
    rw [brun_aty]; congr 1; rw [decide_eq_decide]; omega
  · show brun x1 x2 x3 x4 (aty (a.1 + 1) (b.1 + 1) (b.2 - a.2) :: l) = decide (_ ≤ _) :: _
    rw [brun_aty]; congr 1; rw [decide_eq_decide]; omega
  · show brun x1 x2 x3 x4 (aty (b.1 + 1) (a.1 + 1) (a.2 - b.2 - 1) :: l) = decide (_ < _) :: _
    rw [brun_aty]; congr 1; rw [decide_eq_decide]; omega
  · show brun x1 x2 x3 x4 (aty (b.1 + 1) (a.1 + 1) (a.2 - b.2) :: l) = decide (_ ≤ _) :: _
    rw [brun_aty]; congr 1; rw [decide_eq_decide]; omega
  · show brun x1 x2 x3 x4 ((3, 0, 0, 0) :: aty (a.1 + 1) (b.1 + 1) (b.2 - a.2) :: aty (b.1 + 1) (a.1 + 1) (a.2 - b.2) :: l) = decide (_ = _) :: _
    rw [brun_cons, brun_aty, brun_aty]
    show (decide _ && decide _) :: brun x1 x2 x3 x4 l = _
    congr 1; rw [← Bool.decide_and, decide_eq_decide]; omega
theorem brun_fsy (x1 x2 x3 x4 : Int) : ∀ (f : Fm), fOk f → ∀ l, brun x1 x2 x3 x4 (fsy f ++ l) = ev x1 x2 x3 x4 f :: brun x1 x2 x3 x4 l
  | .tt, _, l => rfl
  | .ff, _, l => rfl
  | .cmp r a b, h, l => brun_cms x1 x2 x3 x4 r a b h.1 h.2.1 l
  | .no f, h, l => by
    show brun x1 x2 x3 x4 ((2, 0, 0, 0) :: (fsy f ++ l)) = _
    rw [brun_cons, brun_fsy x1 x2 x3 x4 f h l]; rfl
  | .and f g, h, l => by
    show brun x1 x2 x3 x4 ((3, 0, 0, 0) :: ((fsy f ++ fsy g) ++ l)) = _
    rw [brun_cons, List.append_assoc, brun_fsy x1 x2 x3 x4 f h.1, brun_fsy x1 x2 x3 x4 g h.2]; rfl
  | .or f g, h, l => by
    show brun x1 x2 x3 x4 ((4, 0, 0, 0) :: ((fsy f ++ fsy g) ++ l)) = _
    rw [brun_cons, List.append_assoc, brun_fsy x1 x2 x3 x4 f h.1, brun_fsy x1 x2 x3 x4 g h.2]; rfl
/-- The text of a formula as a condition. -/
def ftx (f : Fm) : ByteArray := ⟨(sbs (fsy f)).toArray⟩
theorem pars_ftx {f : Fm} (h : fOk f) (hl : (sbs (fsy f)).length ≤ 4000) : pars (ftx f) = some (fsy f) := by
  have e : (ftx f).size = (sbs (fsy f)).length := by show (sbs (fsy f)).toArray.size = _; simp
  unfold pars
  rw [if_neg (by omega)]
  show prsA 1 (sbs (fsy f)).toArray.toList = _
  have := prsA_fsy f h 1 (by decide) []
  rw [List.append_nil] at this
  rw [List.toList_toArray, this]
  show Option.map _ (prsA 0 []) = _
  rw [prsA_nil]; simp
theorem val_ftx {f : Fm} (h : fOk f) (hl : (sbs (fsy f)).length ≤ 4000) (x1 x2 x3 x4 : Int) : val x1 x2 x3 x4 (fsy f) = ev x1 x2 x3 x4 f := by
  obtain ⟨b, h1, h2⟩ := val_brun x1 x2 x3 x4 (pars_ftx h hl)
  have := brun_fsy x1 x2 x3 x4 f h []
  rw [List.append_nil, h1] at this
  rw [h2]; exact (List.cons.inj this).1

/- A formula in tokens: what it is made of may be, and its text is short. -/
theorem dec_len : ∀ (k u : Nat), u < 10 ^ (k + 1) → (Lib.decDigits u).length ≤ k + 1
  | 0, u, h => by
    unfold Lib.decDigits
    rw [dif_pos (by omega)]; simp
  | k + 1, u, h => by
    unfold Lib.decDigits
    split
    · simp
    · have := dec_len k (u / 10) (by rw [Nat.pow_succ] at h; omega)
      simp; omega
theorem itoa_len {n : Int} (h0 : -9999 ≤ n) (h1 : n ≤ 9999) : (Lib.itoa n).length ≤ 5 := by
  unfold Lib.itoa
  split
  · have := dec_len 3 n.natAbs (by omega); simp; omega
  · have := dec_len 3 n.toNat (by omega); omega
theorem itoa_len7 {n : Int} (h0 : -999999 ≤ n) (h1 : n ≤ 999999) : (Lib.itoa n).length ≤ 7 := by
  unfold Lib.itoa
  split
  · have := dec_len 5 n.natAbs (by omega); simp; omega
  · have := dec_len 5 n.toNat (by omega); omega
theorem aty_len {u v n : Int} (h0 : -9999 ≤ n) (h1 : n ≤ 9999) : (sb (aty u v n)).length ≤ 11 := by
  unfold aty
  split
  · split
    · show 1 ≤ 11; omega
    · show 1 ≤ 11; omega
  · show (lt u :: 45 :: lt v :: 60 :: 61 :: (Lib.itoa n ++ [46])).length ≤ 11
    have := itoa_len h0 h1
    simp; omega
theorem aty_len13 {u v n : Int} (h0 : -999999 ≤ n) (h1 : n ≤ 999999) : (sb (aty u v n)).length ≤ 13 := by
  unfold aty
  split
  · split
    · show 1 ≤ 13; omega
    · show 1 ≤ 13; omega
  · show (lt u :: 45 :: lt v :: 60 :: 61 :: (Lib.itoa n ++ [46])).length ≤ 13
    have := itoa_len7 h0 h1
    simp; omega
theorem cms_len {r : Int} {a b : Int × Int} (ha : tOk a) (hb : tOk b) : (sbs (cms r a b)).length ≤ 23 := by
  obtain ⟨a1, a2, a3, a4⟩ := ha
  obtain ⟨b1, b2, b3, b4⟩ := hb
  have one : ∀ u v n : Int, -9999 ≤ n → n ≤ 9999 → (sbs [aty u v n]).length ≤ 23 := fun u v n h0 h1 => by
    have := aty_len (u := u) (v := v) h0 h1
    show (sb (aty u v n) ++ []).length ≤ 23
    rw [List.append_nil]; omega
  unfold cms
  split
  · exact one _ _ _ (by omega) (by omega)
  · split
    · exact one _ _ _ (by omega) (by omega)
    · split
      · exact one _ _ _ (by omega) (by omega)
      · split
        · exact one _ _ _ (by omega) (by omega)
        · have h1 := aty_len (u := a.1 + 1) (v := b.1 + 1) (n := b.2 - a.2) (by omega) (by omega)
          have h2 := aty_len (u := b.1 + 1) (v := a.1 + 1) (n := a.2 - b.2) (by omega) (by omega)
          have e : (sb (3, 0, 0, 0)).length = 1 := rfl
          have e2 : (sbs []).length = 0 := rfl
          rw [sbs_cons, sbs_cons, sbs_cons, List.length_append, List.length_append, List.length_append, e, e2]
          omega
theorem trm_ok (toks : List (List UInt8 × Nat)) (k : Nat) : tOk ((trm toks k).1, (trm toks k).2.1) := by
  have := trm_range toks k; exact ⟨this.1, this.2.1, this.2.2.1, this.2.2.2.1⟩
def tgF : Tg → Option Fm
  | .partL f => some f
  | .formL f => some f
  | _ => none
theorem rd_ok {toks : List (List UInt8 × Nat)} {t : Tg} {k k' : Nat} {f : Fm} (h : Rd toks t k f k') : (∀ g, tgF t = some g → fOk g) → fOk f := by
  induction h with
  | tru _ => intro _; exact trivial
  | fls _ => intro _; exact trivial
  | no _ _ ih => intro _; exact ih (fun g h => by cases h)
  | par _ _ ih => intro _; exact ih (fun g h => by cases h)
  | cmp _ _ _ _ => intro _; exact ⟨(rel_range _).1, (rel_range _).2, trm_ok _ _, trm_ok _ _⟩
  | part _ _ h1 h2 => intro _; exact h2 (fun g h => by cases h; exact h1 (fun g h => by cases h))
  | partS _ _ _ h1 h2 => intro hg; exact h2 (fun g h => by cases h; exact ⟨hg _ rfl, h1 (fun g h => by cases h)⟩)
  | partE _ => intro hg; exact hg _ rfl
  | form _ _ h1 h2 => intro _; exact h2 (fun g h => by cases h; exact h1 (fun g h => by cases h))
  | formS _ _ _ h1 h2 => intro hg; exact h2 (fun g h => by cases h; exact ⟨hg _ rfl, h1 (fun g h => by cases h)⟩)
  | formE _ => intro hg; exact hg _ rfl
def tgL : Tg → Nat
  | .partL f => (sbs (fsy f)).length
  | .formL f => (sbs (fsy f)).length
  | _ => 0
theorem bin_len (q : Int) (hq : (sb (q, 0, 0, 0)).length = 1) (f g : Fm) : (sbs ((q, 0, 0, 0) :: (fsy f ++ fsy g))).length = 1 + (sbs (fsy f)).length + (sbs (fsy g)).length := by
  rw [sbs_cons, sbs_append, List.length_append, List.length_append, hq]; omega
theorem rd_len {toks : List (List UInt8 × Nat)} {t : Tg} {k k' : Nat} {f : Fm} (h : Rd toks t k f k') : (sbs (fsy f)).length + 8 * k ≤ tgL t + 8 * k' := by
  induction h with
  | tru _ => show 1 + _ ≤ _; omega
  | fls _ => show 1 + _ ≤ _; omega
  | no _ _ ih =>
    show (sbs ((2, 0, 0, 0) :: fsy _)).length + _ ≤ _
    have e : (sb (2, 0, 0, 0)).length = 1 := rfl
    rw [sbs_cons, List.length_append, e]; simp only [tgL] at ih ⊢; omega
  | par _ _ ih => simp only [tgL] at ih ⊢; omega
  | @cmp k _ _ _ _ =>
    have h1 := trm_range toks k
    have h2 := trm_range toks ((trm toks k).2.2 + 1)
    have h3 := cms_len (r := rel (sAt toks (trm toks k).2.2)) (trm_ok toks k) (trm_ok toks ((trm toks k).2.2 + 1))
    show (sbs (cms _ _ _)).length + _ ≤ _
    omega
  | part _ _ h1 h2 => simp only [tgL] at *; omega
  | @partS k k1 k' f g h _ _ _ h1 h2 =>
    simp only [tgL] at *
    have : (sbs (fsy (.and f g))).length = 1 + (sbs (fsy f)).length + (sbs (fsy g)).length := bin_len 3 rfl f g
    omega
  | partE _ => exact Nat.le_refl _
  | form _ _ h1 h2 => simp only [tgL] at *; omega
  | @formS k k1 k' f g h _ _ _ h1 h2 =>
    simp only [tgL] at *
    have : (sbs (fsy (.or f g))).length = 1 + (sbs (fsy f)).length + (sbs (fsy g)).length := bin_len 4 rfl f g
    omega
  | formE _ => exact Nat.le_refl _
end Go.Proofs.YtkinoehmcfhgbaaGreatDoor.Vl
