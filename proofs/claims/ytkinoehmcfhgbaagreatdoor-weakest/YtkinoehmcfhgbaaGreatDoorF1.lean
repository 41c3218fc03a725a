/-
  Formulas as conditions: their symbols, the bytes of these, what they come to at a state: plain words alone.
  Runs: plain words alone.
  What must hold ahead of commands, the conditions of a program, and whether they are short enough: plain words.
-/
import Derived.Test.YtkinoehmcfhgbaaGreatDoorV8
import Derived.Test.YtkinoehmcfhgbaaGreatDoorFin2
set_option linter.unusedVariables false
set_option linter.unusedSimpArgs false
namespace Go.Proofs.YtkinoehmcfhgbaaGreatDoor.Vl
open Go.RowKit
open Go.Proofs.YtkinoehmcfhgbaaGreatDoor.Av (Fm Rd Tg sAt trm trm_range rel rel_range)

/-- The letter of a place: 0 to 4. -/
def lt (p : Int) : UInt8 := if p = 0 then 48 else if p = 1 then 97 else if p = 2 then 98 else if p = 3 then 99 else 100
theorem lt_plu {p : Int} (h0 : 0 ≤ p) (h4 : p ≤ 4) : plu (lt p) = p := by
  have : p = 0 ∨ p = 1 ∨ p = 2 ∨ p = 3 ∨ p = 4 := by omega
  rcases this with rfl | rfl | rfl | rfl | rfl <;> rfl
theorem lt_mk {p : Int} (h0 : 0 ≤ p) (h4 : p ≤ 4) : mk ((lt p).toNat : Int) = -1 := by
  have : p = 0 ∨ p = 1 ∨ p = 2 ∨ p = 3 ∨ p = 4 := by omega
  rcases this with rfl | rfl | rfl | rfl | rfl <;> rfl
/-- The bytes of a symbol. -/
def sb (y : Sym) : List UInt8 :=
  if y.1 = 0 then [116] else if y.1 = 1 then [102] else if y.1 = 2 then [33] else if y.1 = 3 then [38] else if y.1 = 4 then [124] else if y.1 = 5 then [62] else
  lt y.2.1 :: 45 :: lt y.2.2.1 :: 60 :: 61 :: (Lib.itoa y.2.2.2 ++ [46])
def sbs (ys : List Sym) : List UInt8 := ys.flatMap sb
theorem sbs_append (a b : List Sym) : sbs (a ++ b) = sbs a ++ sbs b := by unfold sbs; rw [List.flatMap_append]
theorem sbs_cons (y : Sym) (b : List Sym) : sbs (y :: b) = sb y ++ sbs b := rfl
/-- Symbols as they are written. -/
def Good (y : Sym) : Prop := 0 ≤ y.1 ∧ y.1 ≤ 6 ∧ (y.1 ≠ 6 → y.2 = (0, 0, 0)) ∧ (y.1 = 6 → 0 ≤ y.2.1 ∧ y.2.1 ≤ 4 ∧ 0 ≤ y.2.2.1 ∧ y.2.2.1 ≤ 4 ∧ y.2.1 ≠ y.2.2.1 ∧ -999999 ≤ y.2.2.2 ∧ y.2.2.2 ≤ 999999)
theorem sb_ne (y : Sym) : ∃ c r, sb y = c :: r := by
  unfold sb
  repeat' split
  all_goals exact ⟨_, _, rfl⟩
theorem sym_sb {y : Sym} (h : Good y) (l : List UInt8) : sym (sb y ++ l) = some (y, (sb y).length) := by
  obtain ⟨q, u, v, n⟩ := y
  obtain ⟨h0, h6, ho, ha⟩ := h
  dsimp only at *
  have hq : q = 0 ∨ q = 1 ∨ q = 2 ∨ q = 3 ∨ q = 4 ∨ q = 5 ∨ q = 6 := by omega
  rcases hq with rfl | rfl | rfl | rfl | rfl | rfl | rfl
  iterate 6
    · have := ho (by decide)
      cases this; rfl
  · obtain ⟨a1, a2, a3, a4, a5, a6, a7⟩ := ha rfl
    have e : sb (6, u, v, n) = lt u :: 45 :: lt v :: 60 :: 61 :: (Lib.itoa n ++ [46]) := rfl
    rw [e]
    show sym (lt u :: (45 :: lt v :: 60 :: 61 :: (Lib.itoa n ++ [46]) ++ l)) = _
    have e2 : 45 :: lt v :: 60 :: 61 :: (Lib.itoa n ++ [46]) ++ l = 45 :: lt v :: 60 :: 61 :: (Lib.itoa n ++ 46 :: l) := by simp
    rw [e2]
    simp only [sym]
    rw [lt_mk a1 a2, if_neg (by decide)]
    have hne : (Lib.itoa n ++ 46 :: l).isEmpty = false := by cases hh : Lib.itoa n <;> rfl
    have hg : (Lib.itoa n ++ 46 :: l).getD (Lib.itoa n).length 0 = 46 := by simp
    simp only [atm]
    rw [bnd_itoa n a6 a7 l, hne]
    dsimp only
    rw [hg, lt_plu a1 a2, lt_plu a3 a4]
    have p1 : decide (u < 0) = false := by simp; omega
    have p2 : decide (v < 0) = false := by simp; omega
    have p3 : (u == v) = false := by simp; exact a5
    rw [p1, p2, p3]
    simp
    omega
theorem prsA_sb {y : Sym} (h : Good y) (m : Int) (hm : m ≠ 0) (l : List UInt8) : prsA m (sb y ++ l) = (prsA (m + prt y.1 - 1) l).map (y :: ·) := by
  obtain ⟨c, r, hc⟩ := sb_ne y
  have hs := sym_sb h l
  rw [hc] at hs ⊢
  rw [List.cons_append] at hs ⊢
  rw [prsA_some m c (r ++ l) y _ hm hs]
  congr 2
  rw [← List.cons_append]; exact List.drop_left

/-- u less v is at most n, as a symbol. -/
def aty (u v n : Int) : Sym := if u = v then (if 0 ≤ n then (0, 0, 0, 0) else (1, 0, 0, 0)) else (6, u, v, n)
def cms (r : Int) (a b : Int × Int) : List Sym :=
  if r = 0 then [aty (a.1 + 1) (b.1 + 1) (b.2 - a.2 - 1)] else if r = 1 then [aty (a.1 + 1) (b.1 + 1) (b.2 - a.2)] else if r = 3 then [aty (b.1 + 1) (a.1 + 1) (a.2 - b.2 - 1)] else if r = 4 then [aty (b.1 + 1) (a.1 + 1) (a.2 - b.2)]
  else [(3, 0, 0, 0), aty (a.1 + 1) (b.1 + 1) (b.2 - a.2), aty (b.1 + 1) (a.1 + 1) (a.2 - b.2)]
/-- The symbols of a formula. -/
def fsy : Fm → List Sym
  | .tt => [(0, 0, 0, 0)]
  | .ff => [(1, 0, 0, 0)]
  | .cmp r a b => cms r a b
  | .no f => (2, 0, 0, 0) :: fsy f
  | .and f g => (3, 0, 0, 0) :: (fsy f ++ fsy g)
  | .or f g => (4, 0, 0, 0) :: (fsy f ++ fsy g)
/-- The value of a term; does a comparison, a formula hold? -/
def tv (x1 x2 x3 x4 : Int) (a : Int × Int) : Int := xv x1 x2 x3 x4 (a.1 + 1) + a.2
def cmpB (r l m : Int) : Bool := if r = 0 then decide (l < m) else if r = 1 then decide (l ≤ m) else if r = 2 then decide (l = m) else if r = 3 then decide (m < l) else decide (m ≤ l)
def ev (x1 x2 x3 x4 : Int) : Fm → Bool
  | .tt => true
  | .ff => false
  | .cmp r a b => cmpB r (tv x1 x2 x3 x4 a) (tv x1 x2 x3 x4 b)
  | .no f => !ev x1 x2 x3 x4 f
  | .and f g => ev x1 x2 x3 x4 f && ev x1 x2 x3 x4 g
  | .or f g => ev x1 x2 x3 x4 f || ev x1 x2 x3 x4 g
/-- Numbers and variables as they may be. -/
def tOk (a : Int × Int) : Prop := -1 ≤ a.1 ∧ a.1 ≤ 3 ∧ -999 ≤ a.2 ∧ a.2 ≤ 999
def fOk : Fm → Prop
  | .cmp r a b => 0 ≤ r ∧ r ≤ 4 ∧ tOk a ∧ tOk b
  | .no f => fOk f
  | .and f g => fOk f ∧ fOk g
  | .or f g => fOk f ∧ fOk g
  | _ => True
theorem aty_good {u v n : Int} (h0 : 0 ≤ u) (h1 : u ≤ 4) (h2 : 0 ≤ v) (h3 : v ≤ 4) (h4 : -999999 ≤ n) (h5 : n ≤ 999999) : Good (aty u v n) := by
  unfold aty
  split
  · split
    · exact ⟨by decide, by decide, fun _ => rfl, fun h => absurd h (by decide)⟩
    · exact ⟨by decide, by decide, fun _ => rfl, fun h => absurd h (by decide)⟩
  · rename_i h; exact ⟨by dsimp only; decide, by dsimp only; decide, fun e => absurd rfl e, fun _ => ⟨h0, h1, h2, h3, h, h4, h5⟩⟩
theorem aty_prt (u v n : Int) : prt (aty u v n).1 = 0 := by
  unfold aty
  split
  · split <;> rfl
  · rfl
theorem prsA_aty {u v n : Int} (h0 : 0 ≤ u) (h1 : u ≤ 4) (h2 : 0 ≤ v) (h3 : v ≤ 4) (h4 : -999999 ≤ n) (h5 : n ≤ 999999) (m : Int) (hm : m ≠ 0) (l : List UInt8) : prsA m (sb (aty u v n) ++ l) = (prsA (m - 1) l).map (aty u v n :: ·) := by
  rw [prsA_sb (aty_good h0 h1 h2 h3 h4 h5) m hm l, aty_prt, Int.add_zero]
theorem good_mark {q : Int} (h0 : 0 ≤ q) (h5 : q ≤ 5) : Good (q, 0, 0, 0) := ⟨h0, by dsimp only; omega, fun _ => rfl, fun h => by dsimp only at h; omega⟩
theorem map_app {ys zs : List Sym} (o : Option (List Sym)) : (o.map (zs ++ ·)).map (ys ++ ·) = o.map ((ys ++ zs) ++ ·) := by cases o <;> simp
theorem map_cons (y : Sym) {zs : List Sym} (o : Option (List Sym)) : (o.map (zs ++ ·)).map (y :: ·) = o.map ((y :: zs) ++ ·) := by cases o <;> simp
theorem prsA_cms {r : Int} {a b : Int × Int} (ha : tOk a) (hb : tOk b) (m : Int) (hm : 0 < m) (l : List UInt8) : prsA m (sbs (cms r a b) ++ l) = (prsA (m - 1) l).map (cms r a b ++ ·) := by
  obtain ⟨a1, a2, a3, a4⟩ := ha
  obtain ⟨b1, b2, b3, b4⟩ := hb
  have one : ∀ u v n, 0 ≤ u → u ≤ 4 → 0 ≤ v → v ≤ 4 → -999999 ≤ n → n ≤ 999999 → prsA m (sbs [aty u v n] ++ l) = (prsA (m - 1) l).map ([aty u v n] ++ ·) := fun u v n h0 h1 h2 h3 h4 h5 => by
    show prsA m ((sb (aty u v n) ++ []) ++ l) = _
    rw [List.append_nil, prsA_aty h0 h1 h2 h3 h4 h5 m (by omega)]; rfl
  unfold cms
  split
  · exact one _ _ _ (by omega) (by omega) (by omega) (by omega) (by omega) (by omega)
  · split
    · exact one _ _ _ (by omega) (by omega) (by omega) (by omega) (by omega) (by omega)
    · split
      · exact one _ _ _ (by omega) (by omega) (by omega) (by omega) (by omega) (by omega)
      · split
        · exact one _ _ _ (by omega) (by omega) (by omega) (by omega) (by omega) (by omega)
        · rw [sbs_cons, sbs_cons, sbs_cons, List.append_assoc, List.append_assoc, List.append_assoc, prsA_sb (good_mark (q := 3) (by decide) (by decide)) m (by omega)]
          show Option.map _ (prsA (m + 2 - 1) _) = _
          rw [prsA_aty (by omega) (by omega) (by omega) (by omega) (by omega) (by omega) _ (by omega), prsA_aty (by omega) (by omega) (by omega) (by omega) (by omega) (by omega) _ (by omega)]
          have e : m + 2 - 1 - 1 - 1 = m - 1 := by omega
          rw [e]
          show Option.map _ (Option.map _ (Option.map _ (prsA (m - 1) l))) = _
          cases prsA (m - 1) l <;> rfl
/-- The bytes of a formula's symbols are read as these symbols. -/
theorem prsA_fsy : ∀ (f : Fm), fOk f → ∀ (m : Int), 0 < m → ∀ l, prsA m (sbs (fsy f) ++ l) = (prsA (m - 1) l).map (fsy f ++ ·)
  | .tt, _, m, hm, l => by
    show prsA m (sb (0, 0, 0, 0) ++ l) = _
    rw [prsA_sb (good_mark (q := 0) (by decide) (by decide)) m (by omega)]
    have e : m + prt (0 : Int) - 1 = m - 1 := by show m + 0 - 1 = _; omega
    dsimp only; rw [e]; rfl
  | .ff, _, m, hm, l => by
    show prsA m (sb (1, 0, 0, 0) ++ l) = _
    rw [prsA_sb (good_mark (q := 1) (by decide) (by decide)) m (by omega)]
    have e : m + prt (1 : Int) - 1 = m - 1 := by show m + 0 - 1 = _; omega
    dsimp only; rw [e]; rfl
  | .cmp r a b, h, m, hm, l => prsA_cms h.2.2.1 h.2.2.2 m hm l
  | .no f, h, m, hm, l => by
    show prsA m (sbs ((2, 0, 0, 0) :: fsy f) ++ l) = Option.map (((2, 0, 0, 0) :: fsy f) ++ ·) _
    rw [sbs_cons, List.append_assoc, prsA_sb (good_mark (q := 2) (by decide) (by decide)) m (by omega)]
    have e : m + prt (2 : Int) - 1 = m := by show m + 1 - 1 = _; omega
    dsimp only; rw [e, prsA_fsy f h m hm l, map_cons]
  | .and f g, h, m, hm, l => by
    show prsA m (sbs ((3, 0, 0, 0) :: (fsy f ++ fsy g)) ++ l) = Option.map (((3, 0, 0, 0) :: (fsy f ++ fsy g)) ++ ·) _
    rw [sbs_cons, sbs_append, List.append_assoc, List.append_assoc, prsA_sb (good_mark (q := 3) (by decide) (by decide)) m (by omega)]
    have e : m + prt (3 : Int) - 1 = m + 1 := by show m + 2 - 1 = _; omega
    dsimp only; rw [e, prsA_fsy f h.1 (m + 1) (by omega), show m + 1 - 1 = m by omega, prsA_fsy g h.2 m hm, map_app, map_cons]
  | .or f g, h, m, hm, l => by
    show prsA m (sbs ((4, 0, 0, 0) :: (fsy f ++ fsy g)) ++ l) = Option.map (((4, 0, 0, 0) :: (fsy f ++ fsy g)) ++ ·) _
    rw [sbs_cons, sbs_append, List.append_assoc, List.append_assoc, prsA_sb (good_mark (q := 4) (by decide) (by decide)) m (by omega)]
    have e : m + prt (4 : Int) - 1 = m + 1 := by show m + 2 - 1 = _; omega
    dsimp only; rw [e, prsA_fsy f h.1 (m + 1) (by omega), show m + 1 - 1 = m by omega, prsA_fsy g h.2 m hm, map_app, map_cons]
theorem brun_aty (x1 x2 x3 x4 u v n : Int) (r : List Sym) : brun x1 x2 x3 x4 (aty u v n :: r) = decide (xv x1 x2 x3 x4 u - xv x1 x2 x3 x4 v ≤ n) :: brun x1 x2 x3 x4 r := by
  rw [brun_cons]
  unfold aty
  split
  · rename_i h; subst h
    split
    · rename_i h; show true :: _ = _; rw [decide_eq_true (by omega)]; rfl
    · rename_i h; show false :: _ = _; rw [decide_eq_false (by omega)]; rfl
  · rfl
theorem brun_cms (x1 x2 x3 x4 r : Int) (a b : Int × Int) (h0 : 0 ≤ r) (h4 : r ≤ 4) (l : List Sym) : brun x1 x2 x3 x4 (cms r a b ++ l) = cmpB r (tv x1 x2 x3 x4 a) (tv x1 x2 x3 x4 b) :: brun x1 x2 x3 x4 l := by
  have hr : r = 0 ∨ r = 1 ∨ r = 3 ∨ r = 4 ∨ r = 2 := by omega
  unfold tv
  rcases hr with rfl | rfl | rfl | rfl | rfl
  · show brun x1 x2 x3 x4 (aty (a.1 + 1) (b.1 + 1) (b.2 - a.2 - 1) :: l) = decide (_ < _) :: _
    rw [brun_aty]; congr 1; rw [decide_eq_decide]; omega
  · show brun x1 x2 x3 x4 (aty (a.1 + 1) (b.1 + 1) (b.2 - a.2) :: l) = decide (_ ≤ _) :: _
    rw [brun_aty]; congr 1; rw [decide_eq_decide]; omega
  · show brun x1 x2 x3 x4 (aty (b.1 + 1) (a.1 + 1) (a.2 - b.2 - 1) :: l) = decide (_ < _) :: _
    rw [brun_aty]; congr 1; rw [decide_eq_decide]; omega
  · show brun x1 x2 x3 x4 (aty (b.1 + 1) (a.1 + 1) (a.2 - b.2) :: l) = decide (_ ≤ _) :: _
    rw [brun_aty]; congr 1; rw [decide_eq_decide]; omega
  · show brun x1 x2 x3 x4 ((3, 0, 0, 0) :: aty (a.1 + 1) (b.1 + 1) (b.2 - a.2) :: aty (b.1 + 1) (a.1 + 1) (a.2 - b.2) :: l) = decide (_ = _) :: _
    rw [brun_cons, brun_aty, brun_aty]
    show (decide _ && decide _) :: brun x1 x2 x3 x4 l = _
    congr 1; rw [← Bool.decide_and, decide_eq_decide]; omega
theorem brun_fsy (x1 x2 x3 x4 : Int) : ∀ (f : Fm), fOk f → ∀ l, brun x1 x2 x3 x4 (fsy f ++ l) = ev x1 x2 x3 x4 f :: brun x1 x2 x3 x4 l
  | .tt, _, l => rfl
  | .ff, _, l => rfl
  | .cmp r a b, h, l => brun_cms x1 x2 x3 x4 r a b h.1 h.2.1 l
  | .no f, h, l => by
    show brun x1 x2 x3 x4 ((2, 0, 0, 0) :: (fsy f ++ l)) = _
    rw [brun_cons, brun_fsy x1 x2 x3 x4 f h l]; rfl
  | .and f g, h, l => by
    show brun x1 x2 x3 x4 ((3, 0, 0, 0) :: ((fsy f ++ fsy g) ++ l)) = _
    rw [brun_cons, List.append_assoc, brun_fsy x1 x2 x3 x4 f h.1, brun_fsy x1 x2 x3 x4 g h.2]; rfl
  | .or f g, h, l => by
    show brun x1 x2 x3 x4 ((4, 0, 0, 0) :: ((fsy f ++ fsy g) ++ l)) = _
    rw [brun_cons, List.append_assoc, brun_fsy x1 x2 x3 x4 f h.1, brun_fsy x1 x2 x3 x4 g h.2]; rfl
/-- The text of a formula as a condition. -/
def ftx (f : Fm) : ByteArray := ⟨(sbs (fsy f)).toArray⟩
theorem pars_ftx {f : Fm} (h : fOk f) (hl : (sbs (fsy f)).length ≤ 4000) : pars (ftx f) = some (fsy f) := by
  have e : (ftx f).size = (sbs (fsy f)).length := by show (sbs (fsy f)).toArray.size = _; simp
  unfold pars
  rw [if_neg (by omega)]
  show prsA 1 (sbs (fsy f)).toArray.toList = _
  have := prsA_fsy f h 1 (by decide) []
  rw [List.append_nil] at this
  rw [List.toList_toArray, this]
  show Option.map _ (prsA 0 []) = _
  rw [prsA_nil]; simp
theorem val_ftx {f : Fm} (h : fOk f) (hl : (sbs (fsy f)).length ≤ 4000) (x1 x2 x3 x4 : Int) : val x1 x2 x3 x4 (fsy f) = ev x1 x2 x3 x4 f := by
  obtain ⟨b, h1, h2⟩ := val_brun x1 x2 x3 x4 (pars_ftx h hl)
  have := brun_fsy x1 x2 x3 x4 f h []
  rw [List.append_nil, h1] at this
  rw [h2]; exact (List.cons.inj this).1

/- A formula in tokens: what it is made of may be, and its text is short. -/
theorem dec_len : ∀ (k u : Nat), u < 10 ^ (k + 1) → (Lib.decDigits u).length ≤ k + 1
  | 0, u, h => by
    unfold Lib.decDigits
    rw [dif_pos (by omega)]; simp
  | k + 1, u, h => by
    unfold Lib.decDigits
    split
    · simp
    · have := dec_len k (u / 10) (by rw [Nat.pow_succ] at h; omega)
      simp; omega
theorem itoa_len {n : Int} (h0 : -9999 ≤ n) (h1 : n ≤ 9999) : (Lib.itoa n).length ≤ 5 := by
  unfold Lib.itoa
  split
  · have := dec_len 3 n.natAbs (by omega); simp; omega
  · have := dec_len 3 n.toNat (by omega); omega
theorem itoa_len7 {n : Int} (h0 : -999999 ≤ n) (h1 : n ≤ 999999) : (Lib.itoa n).length ≤ 7 := by
  unfold Lib.itoa
  split
  · have := dec_len 5 n.natAbs (by omega); simp; omega
  · have := dec_len 5 n.toNat (by omega); omega
theorem aty_len {u v n : Int} (h0 : -9999 ≤ n) (h1 : n ≤ 9999) : (sb (aty u v n)).length ≤ 11 := by
  unfold aty
  split
  · split
    · show 1 ≤ 11; omega
    · show 1 ≤ 11; omega
  · show (lt u :: 45 :: lt v :: 60 :: 61 :: (Lib.itoa n ++ [46])).length ≤ 11
    have := itoa_len h0 h1
    simp; omega
theorem aty_len13 {u v n : Int} (h0 : -999999 ≤ n) (h1 : n ≤ 999999) : (sb (aty u v n)).length ≤ 13 := by
  unfold aty
  split
  · split
    · show 1 ≤ 13; omega
    · show 1 ≤ 13; omega
  · show (lt u :: 45 :: lt v :: 60 :: 61 :: (Lib.itoa n ++ [46])).length ≤ 13
    have := itoa_len7 h0 h1
    simp; omega
theorem cms_len {r : Int} {a b : Int × Int} (ha : tOk a) (hb : tOk b) : (sbs (cms r a b)).length ≤ 23 := by
  obtain ⟨a1, a2, a3, a4⟩ := ha
  obtain ⟨b1, b2, b3, b4⟩ := hb
  have one : ∀ u v n : Int, -9999 ≤ n → n ≤ 9999 → (sbs [aty u v n]).length ≤ 23 := fun u v n h0 h1 => by
    have := aty_len (u := u) (v := v) h0 h1
    show (sb (aty u v n) ++ []).length ≤ 23
    rw [List.append_nil]; omega
  unfold cms
  split
  · exact one _ _ _ (by omega) (by omega)
  · split
    · exact one _ _ _ (by omega) (by omega)
    · split
      · exact one _ _ _ (by omega) (by omega)
      · split
        · exact one _ _ _ (by omega) (by omega)
        · have h1 := aty_len (u := a.1 + 1) (v := b.1 + 1) (n := b.2 - a.2) (by omega) (by omega)
          have h2 := aty_len (u := b.1 + 1) (v := a.1 + 1) (n := a.2 - b.2) (by omega) (by omega)
          have e : (sb (3, 0, 0, 0)).length = 1 := rfl
          have e2 : (sbs []).length = 0 := rfl
          rw [sbs_cons, sbs_cons, sbs_cons, List.length_append, List.length_append, List.length_append, e, e2]
          omega
theorem trm_ok (toks : List (List UInt8 × Nat)) (k : Nat) : tOk ((trm toks k).1, (trm toks k).2.1) := by
  have := trm_range toks k; exact ⟨this.1, this.2.1, this.2.2.1, this.2.2.2.1⟩
def tgF : Tg → Option Fm
  | .partL f => some f
  | .formL f => some f
  | _ => none
theorem rd_ok {toks : List (List UInt8 × Nat)} {t : Tg} {k k' : Nat} {f : Fm} (h : Rd toks t k f k') : (∀ g, tgF t = some g → fOk g) → fOk f := by
  induction h with
  | tru _ => intro _; exact trivial
  | fls _ => intro _; exact trivial
  | no _ _ ih => intro _; exact ih (fun g h => by cases h)
  | par _ _ ih => intro _; exact ih (fun g h => by cases h)
  | cmp _ _ _ _ => intro _; exact ⟨(rel_range _).1, (rel_range _).2, trm_ok _ _, trm_ok _ _⟩
  | part _ _ h1 h2 => intro _; exact h2 (fun g h => by cases h; exact h1 (fun g h => by cases h))
  | partS _ _ _ h1 h2 => intro hg; exact h2 (fun g h => by cases h; exact ⟨hg _ rfl, h1 (fun g h => by cases h)⟩)
  | partE _ => intro hg; exact hg _ rfl
  | form _ _ h1 h2 => intro _; exact h2 (fun g h => by cases h; exact h1 (fun g h => by cases h))
  | formS _ _ _ h1 h2 => intro hg; exact h2 (fun g h => by cases h; exact ⟨hg _ rfl, h1 (fun g h => by cases h)⟩)
  | formE _ => intro hg; exact hg _ rfl
def tgL : Tg → Nat
  | .partL f => (sbs (fsy f)).length
  | .formL f => (sbs (fsy f)).length
  | _ => 0
theorem bin_len (q : Int) (hq : (sb (q, 0, 0, 0)).length = 1) (f g : Fm) : (sbs ((q, 0, 0, 0) :: (fsy f ++ fsy g))).length = 1 + (sbs (fsy f)).length + (sbs (fsy g)).length := by
  rw [sbs_cons, sbs_append, List.length_append, List.length_append, hq]; omega
theorem rd_len {toks : List (List UInt8 × Nat)} {t : Tg} {k k' : Nat} {f : Fm} (h : Rd toks t k f k') : (sbs (fsy f)).length + 8 * k ≤ tgL t + 8 * k' := by
  induction h with
  | tru _ => show 1 + _ ≤ _; omega
  | fls _ => show 1 + _ ≤ _; omega
  | no _ _ ih =>
    show (sbs ((2, 0, 0, 0) :: fsy _)).length + _ ≤ _
    have e : (sb (2, 0, 0, 0)).length = 1 := rfl
    rw [sbs_cons, List.length_append, e]; simp only [tgL] at ih ⊢; omega
  | par _ _ ih => simp only [tgL] at ih ⊢; omega
  | @cmp k _ _ _ _ =>
    have h1 := trm_range toks k
    have h2 := trm_range toks ((trm toks k).2.2 + 1)
    have h3 := cms_len (r := rel (sAt toks (trm toks k).2.2)) (trm_ok toks k) (trm_ok toks ((trm toks k).2.2 + 1))
    show (sbs (cms _ _ _)).length + _ ≤ _
    omega
  | part _ _ h1 h2 => simp only [tgL] at *; omega
  | @partS k k1 k' f g h _ _ _ h1 h2 =>
    simp only [tgL] at *
    have : (sbs (fsy (.and f g))).length = 1 + (sbs (fsy f)).length + (sbs (fsy g)).length := bin_len 3 rfl f g
    omega
  | partE _ => exact Nat.le_refl _
  | form _ _ h1 h2 => simp only [tgL] at *; omega
  | @formS k k1 k' f g h _ _ _ h1 h2 =>
    simp only [tgL] at *
    have : (sbs (fsy (.or f g))).length = 1 + (sbs (fsy f)).length + (sbs (fsy g)).length := bin_len 4 rfl f g
    omega
  | formE _ => exact Nat.le_refl _
end Go.Proofs.YtkinoehmcfhgbaaGreatDoor.Vl
set_option linter.unusedVariables false
set_option linter.unusedSimpArgs false
namespace Go.Proofs.YtkinoehmcfhgbaaGreatDoor.Vl
open Go.RowKit
open Go.Proofs.YtkinoehmcfhgbaaGreatDoor.Av (Fm Cm)

/-- A run: the four variables, the steps, how it has ended (-1: it has not). -/
structure RS where
  x1 : Int
  x2 : Int
  x3 : Int
  x4 : Int
  n : Int
  e : Int
def RS.ev (s : RS) (f : Fm) : Bool := Vl.ev s.x1 s.x2 s.x3 s.x4 f
def RS.tv (s : RS) (t : Int × Int) : Int := Vl.tv s.x1 s.x2 s.x3 s.x4 t
def RS.set (s : RS) (x v : Int) : RS := if x = 0 then { s with x1 := v } else if x = 1 then { s with x2 := v } else if x = 2 then { s with x3 := v } else { s with x4 := v }
def stp (fuel : Int) (s : RS) : RS := if s.n = fuel then { s with e := 1 } else { s with n := s.n + 1 }
def asgn (fuel : Int) (x : Int) (t : Int × Int) (s : RS) : RS :=
  if s.n = fuel then { s with e := 1 } else if gd (s.tv t) then { s.set x (s.tv t) with n := s.n + 1 } else { s with e := 2 }
def whl (fuel : Int) (f : Fm) (body : RS → RS) : Nat → RS → RS
  | 0, s => s
  | m + 1, s => if 0 ≤ (stp fuel s).e then stp fuel s else if (stp fuel s).ev f then (if 0 ≤ (body (stp fuel s)).e then body (stp fuel s) else whl fuel f body m (body (stp fuel s))) else stp fuel s
def ex (fuel : Int) : Cm → RS → RS
  | .skip, s => stp fuel s
  | .asg x t, s => asgn fuel x t s
  | .ite f a b, s => if 0 ≤ (stp fuel s).e then stp fuel s else if (stp fuel s).ev f then ex fuel a (stp fuel s) else ex fuel b (stp fuel s)
  | .loop f g a, s => whl fuel f (ex fuel a) (fuel.toNat + 1) s
  | .seq a b, s => if 0 ≤ (ex fuel a s).e then ex fuel a s else ex fuel b (ex fuel a s)
/-- What is so of a run that goes on, or has ended. -/
def Inv (fuel : Int) (s : RS) : Prop := 0 ≤ s.n ∧ s.n ≤ fuel ∧ gds s.x1 s.x2 s.x3 s.x4 = true ∧ -1 ≤ s.e ∧ s.e ≤ 2
theorem inv_stp {fuel : Int} {s : RS} (h : Inv fuel s) : Inv fuel (stp fuel s) ∧ s.n ≤ (stp fuel s).n ∧ ((stp fuel s).e < 0 → (stp fuel s).n = s.n + 1) := by
  obtain ⟨h1, h2, h3, h4, h5⟩ := h
  unfold stp
  split
  · exact ⟨⟨h1, h2, h3, by dsimp only; decide, by dsimp only; decide⟩, Int.le_refl _, fun h => by dsimp only at h; omega⟩
  · exact ⟨⟨by dsimp only; omega, by dsimp only; omega, h3, h4, h5⟩, by dsimp only; omega, fun _ => rfl⟩
theorem gds_set {s : RS} {x v : Int} (h : gds s.x1 s.x2 s.x3 s.x4 = true) (hv : gd v = true) : gds (s.set x v).x1 (s.set x v).x2 (s.set x v).x3 (s.set x v).x4 = true := by
  unfold gds at *
  simp only [Bool.and_eq_true] at *
  obtain ⟨a, b, c, d⟩ := h
  unfold RS.set
  split
  · exact ⟨hv, b, c, d⟩
  · split
    · exact ⟨a, hv, c, d⟩
    · split
      · exact ⟨a, b, hv, d⟩
      · exact ⟨a, b, c, hv⟩
theorem set_n (s : RS) (x v : Int) : (s.set x v).n = s.n ∧ (s.set x v).e = s.e := by
  unfold RS.set
  split
  · exact ⟨rfl, rfl⟩
  · split
    · exact ⟨rfl, rfl⟩
    · split <;> exact ⟨rfl, rfl⟩
theorem inv_asgn {fuel : Int} {s : RS} (h : Inv fuel s) (x : Int) (t : Int × Int) : Inv fuel (asgn fuel x t s) ∧ s.n ≤ (asgn fuel x t s).n := by
  obtain ⟨h1, h2, h3, h4, h5⟩ := h
  have hs := set_n s x (s.tv t)
  unfold asgn
  split
  · exact ⟨⟨h1, h2, h3, by dsimp only; decide, by dsimp only; decide⟩, Int.le_refl _⟩
  · split
    · rename_i hv
      exact ⟨⟨by dsimp only; omega, by dsimp only; omega, gds_set h3 hv, by dsimp only; omega, by dsimp only; omega⟩, by dsimp only; omega⟩
    · exact ⟨⟨h1, h2, h3, by dsimp only; decide, by dsimp only; decide⟩, Int.le_refl _⟩
theorem inv_whl {fuel : Int} {f : Fm} {body : RS → RS} (hb : ∀ s, Inv fuel s → Inv fuel (body s) ∧ s.n ≤ (body s).n) : ∀ (m : Nat) (s : RS), Inv fuel s → Inv fuel (whl fuel f body m s) ∧ s.n ≤ (whl fuel f body m s).n
  | 0, s, h => ⟨h, Int.le_refl _⟩
  | m + 1, s, h => by
    have h1 := inv_stp h
    have h2 := hb _ h1.1
    simp only [whl]
    split
    · exact ⟨h1.1, h1.2.1⟩
    · split
      · split
        · exact ⟨h2.1, by omega⟩
        · have h3 := inv_whl (f := f) hb m _ h2.1
          exact ⟨h3.1, by omega⟩
      · exact ⟨h1.1, h1.2.1⟩
theorem inv_ex {fuel : Int} : ∀ (c : Cm) (s : RS), Inv fuel s → Inv fuel (ex fuel c s) ∧ s.n ≤ (ex fuel c s).n
  | .skip, s, h => ⟨(inv_stp h).1, (inv_stp h).2.1⟩
  | .asg x t, s, h => inv_asgn h x t
  | .ite f a b, s, h => by
    have h1 := inv_stp h
    have h2 := inv_ex a _ h1.1
    have h3 := inv_ex b _ h1.1
    simp only [ex]
    split
    · exact ⟨h1.1, h1.2.1⟩
    · split
      · exact ⟨h2.1, by omega⟩
      · exact ⟨h3.1, by omega⟩
  | .loop f g a, s, h => inv_whl (fun s hs => inv_ex a s hs) _ s h
  | .seq a b, s, h => by
    have h1 := inv_ex a s h
    have h2 := inv_ex b _ h1.1
    simp only [ex]
    split
    · exact h1
    · exact ⟨h2.1, by omega⟩
/-- Enough rounds are enough. -/
theorem whl_more {fuel : Int} {f : Fm} {body : RS → RS} (hb : ∀ s, Inv fuel s → Inv fuel (body s) ∧ s.n ≤ (body s).n) : ∀ (m k : Nat) (s : RS), Inv fuel s → fuel - s.n < m → fuel - s.n < k → whl fuel f body m s = whl fuel f body k s
  | 0, k, s, h, hm, hk => by have := h.2.1; omega
  | m + 1, 0, s, h, hm, hk => by have := h.2.1; omega
  | m + 1, k + 1, s, h, hm, hk => by
    have h1 := inv_stp h
    have h2 := hb _ h1.1
    simp only [whl]
    split
    · rfl
    · rename_i hs
      have h3 := h1.2.2 (by omega)
      split
      · split
        · rfl
        · exact whl_more hb m k _ h2.1 (by omega) (by omega)
      · rfl
/-- One round of a loop, whatever has gone ahead of it. -/
theorem whl_step {fuel : Int} {f : Fm} {body : RS → RS} (hb : ∀ s, Inv fuel s → Inv fuel (body s) ∧ s.n ≤ (body s).n) (s : RS) (h : Inv fuel s) : whl fuel f body (fuel.toNat + 1) s =
    if 0 ≤ (stp fuel s).e then stp fuel s else if (stp fuel s).ev f then (if 0 ≤ (body (stp fuel s)).e then body (stp fuel s) else whl fuel f body (fuel.toNat + 1) (body (stp fuel s))) else stp fuel s := by
  have h1 := inv_stp h
  have h2 := hb _ h1.1
  have hn := h.1
  have hn2 := h.2.1
  rw [whl]
  split
  · rfl
  · rename_i hs
    have h3 := h1.2.2 (by omega)
    split
    · split
      · rfl
      · exact whl_more hb fuel.toNat (fuel.toNat + 1) _ h2.1 (by omega) (by omega)
    · rfl
/-- How a run has ended, as it is answered: 0 where it has come to its end. -/
def kn (s : RS) : Int := if s.e < 0 then 0 else s.e
end Go.Proofs.YtkinoehmcfhgbaaGreatDoor.Vl
set_option linter.unusedVariables false
set_option linter.unusedSimpArgs false
namespace Go.Proofs.YtkinoehmcfhgbaaGreatDoor.Vl
open Go.RowKit
open Go.Proofs.YtkinoehmcfhgbaaGreatDoor.Av (Fm Rd Tg sAt trm trm_range rel rel_range Cm Rc vr vr_range)

/-- In an atom x is replaced by u and n. -/
def rpl (x u n : Int) (y : Sym) : Sym := if y.1 = 6 then (if y.2.1 = x then aty u y.2.2.1 (y.2.2.2 - n) else if y.2.2.1 = x then aty y.2.1 u (y.2.2.2 + n) else y) else y
/-- What must hold ahead of commands. -/
def wpc : Cm → List Sym → List Sym
  | .skip, q => q
  | .asg x t, q => q.map (rpl (x + 1) (t.1 + 1) t.2)
  | .ite f a b, q => (4, 0, 0, 0) :: (3, 0, 0, 0) :: (fsy f ++ (wpc a q ++ ((3, 0, 0, 0) :: (2, 0, 0, 0) :: (fsy f ++ wpc b q))))
  | .loop f g a, q => fsy g
  | .seq a b, q => wpc a (wpc b q)
/-- The two conditions of a loop. -/
def again (f g : Fm) (a : Cm) : List Sym := (5, 0, 0, 0) :: (3, 0, 0, 0) :: (fsy g ++ (fsy f ++ wpc a (fsy g)))
def leav (f g : Fm) (q : List Sym) : List Sym := (5, 0, 0, 0) :: (3, 0, 0, 0) :: (fsy g ++ ((2, 0, 0, 0) :: (fsy f ++ q)))
/-- How many bytes a condition has. -/
def bl (ys : List Sym) : Nat := (sbs ys).length
/-- Is all that is met on the way short enough? -/
def fit : Cm → List Sym → Bool
  | .skip, q => decide (bl q ≤ 4000)
  | .asg x t, q => decide (bl (wpc (.asg x t) q) ≤ 4000)
  | .ite f a b, q => fit a q && (fit b q && decide (bl (wpc (.ite f a b) q) ≤ 4000))
  | .loop f g a, q => fit a (fsy g) && (decide (bl (again f g a) ≤ 4000) && (decide (bl (leav f g q) ≤ 4000) && decide (bl (fsy g) ≤ 4000)))
  | .seq a b, q => fit b q && fit a (wpc b q)
/-- The conditions of the loops, in their order. -/
def cls : Cm → List Sym → List (List Sym)
  | .ite f a b, q => cls a q ++ cls b q
  | .loop f g a, q => again f g a :: leav f g q :: cls a (fsy g)
  | .seq a b, q => cls a (wpc b q) ++ cls b q
  | _, _ => []
theorem fit_le : ∀ (c : Cm) (q : List Sym), fit c q = true → bl (wpc c q) ≤ 4000
  | .skip, q, h => of_decide_eq_true h
  | .asg x t, q, h => of_decide_eq_true h
  | .ite f a b, q, h => by
    simp only [fit, Bool.and_eq_true] at h
    exact of_decide_eq_true h.2.2
  | .loop f g a, q, h => by
    simp only [fit, Bool.and_eq_true] at h
    exact of_decide_eq_true h.2.2.2
  | .seq a b, q, h => by
    simp only [fit, Bool.and_eq_true] at h
    exact fit_le a _ h.2

/-- Symbols whose atoms' numbers are at most K. -/
def Gd (K : Int) (ys : List Sym) : Prop := ∀ y ∈ ys, Good y ∧ (y.1 = 6 → -K ≤ y.2.2.2 ∧ y.2.2.2 ≤ K)
theorem Gd.mono {K L : Int} {ys : List Sym} (h : Gd K ys) (hl : K ≤ L) : Gd L ys := fun y hy => ⟨(h y hy).1, fun e => by have := (h y hy).2 e; omega⟩
theorem Gd.app {K : Int} {a b : List Sym} (h : Gd K a) (k : Gd K b) : Gd K (a ++ b) := fun y hy => by
  rcases List.mem_append.1 hy with h1 | h1
  · exact h y h1
  · exact k y h1
theorem Gd.mark {K : Int} {q : Int} (h0 : 0 ≤ q) (h5 : q ≤ 5) {b : List Sym} (k : Gd K b) : Gd K ((q, 0, 0, 0) :: b) := fun y hy => by
  rcases List.mem_cons.1 hy with rfl | h1
  · exact ⟨good_mark h0 h5, fun e => by dsimp only at e; omega⟩
  · exact k y h1
theorem Gd.nil {K : Int} : Gd K [] := fun y hy => by cases hy
theorem aty_gd {K u v n : Int} (h0 : 0 ≤ u) (h1 : u ≤ 4) (h2 : 0 ≤ v) (h3 : v ≤ 4) (h4 : -K ≤ n) (h5 : n ≤ K) (hK : K ≤ 999999) : Good (aty u v n) ∧ ((aty u v n).1 = 6 → -K ≤ (aty u v n).2.2.2 ∧ (aty u v n).2.2.2 ≤ K) := by
  refine ⟨aty_good h0 h1 h2 h3 (by omega) (by omega), fun e => ?_⟩
  unfold aty at e ⊢
  by_cases hu : u = v
  · rw [if_pos hu] at e
    split at e <;> (dsimp only at e; omega)
  · rw [if_neg hu]; exact ⟨h4, h5⟩
theorem gd_one {K : Int} {y : Sym} (h : Good y ∧ (y.1 = 6 → -K ≤ y.2.2.2 ∧ y.2.2.2 ≤ K)) : Gd K [y] := fun z hz => by
  rw [List.mem_singleton.1 hz]; exact h
theorem gd_cms {r : Int} {a b : Int × Int} (ha : tOk a) (hb : tOk b) : Gd 1999 (cms r a b) := by
  obtain ⟨a1, a2, a3, a4⟩ := ha
  obtain ⟨b1, b2, b3, b4⟩ := hb
  unfold cms
  split
  · exact gd_one (aty_gd (by omega) (by omega) (by omega) (by omega) (by omega) (by omega) (by omega))
  · split
    · exact gd_one (aty_gd (by omega) (by omega) (by omega) (by omega) (by omega) (by omega) (by omega))
    · split
      · exact gd_one (aty_gd (by omega) (by omega) (by omega) (by omega) (by omega) (by omega) (by omega))
      · split
        · exact gd_one (aty_gd (by omega) (by omega) (by omega) (by omega) (by omega) (by omega) (by omega))
        · exact Gd.mark (by omega) (by omega) (Gd.app (gd_one (aty_gd (by omega) (by omega) (by omega) (by omega) (by omega) (by omega) (by omega))) (gd_one (aty_gd (by omega) (by omega) (by omega) (by omega) (by omega) (by omega) (by omega))))
theorem gd_fsy : ∀ (f : Fm), fOk f → Gd 1999 (fsy f)
  | .tt, _ => Gd.mark (by omega) (by omega) Gd.nil
  | .ff, _ => Gd.mark (by omega) (by omega) Gd.nil
  | .cmp r a b, h => gd_cms h.2.2.1 h.2.2.2
  | .no f, h => Gd.mark (by omega) (by omega) (gd_fsy f h)
  | .and f g, h => Gd.mark (by omega) (by omega) (Gd.app (gd_fsy f h.1) (gd_fsy g h.2))
  | .or f g, h => Gd.mark (by omega) (by omega) (Gd.app (gd_fsy f h.1) (gd_fsy g h.2))
theorem rpl_gd {K x u n : Int} {y : Sym} (hu0 : 0 ≤ u) (hu4 : u ≤ 4) (hn : -999 ≤ n ∧ n ≤ 999) (hK : K + 999 ≤ 999999) (h : Good y ∧ (y.1 = 6 → -K ≤ y.2.2.2 ∧ y.2.2.2 ≤ K)) : Good (rpl x u n y) ∧ ((rpl x u n y).1 = 6 → -(K + 999) ≤ (rpl x u n y).2.2.2 ∧ (rpl x u n y).2.2.2 ≤ K + 999) := by
  unfold rpl
  by_cases h6 : y.1 = 6
  · obtain ⟨g0, g6, _, ga⟩ := h.1
    obtain ⟨a1, a2, a3, a4, a5, a6, a7⟩ := ga h6
    have hb := h.2 h6
    rw [if_pos h6]
    split
    · exact aty_gd hu0 hu4 a3 a4 (by omega) (by omega) hK
    · split
      · exact aty_gd a1 a2 hu0 hu4 (by omega) (by omega) hK
      · exact ⟨h.1, fun _ => by omega⟩
  · rw [if_neg h6]
    exact ⟨h.1, fun e => absurd e h6⟩
theorem gd_map {K x u n : Int} {ys : List Sym} (hu0 : 0 ≤ u) (hu4 : u ≤ 4) (hn : -999 ≤ n ∧ n ≤ 999) (hK : K + 999 ≤ 999999) (h : Gd K ys) : Gd (K + 999) (ys.map (rpl x u n)) := fun y hy => by
  obtain ⟨z, hz, rfl⟩ := List.mem_map.1 hy
  exact rpl_gd hu0 hu4 hn hK (h z hz)
/-- How great the numbers are ahead of a place. -/
def kb (k : Nat) : Int := 2000 + 1000 * (300 - (k : Int))
theorem gd_wpc {toks : List (List UInt8 × Nat)} {t : Bool} {k k' : Nat} {c : Cm} (h : Rc toks t k c k') : k' ≤ 300 → ∀ q, Gd (kb k') q → Gd (kb k) (wpc c q) := by
  induction h with
  | skip _ => intro hk q hq; exact hq.mono (by unfold kb; omega)
  | @asg k hv =>
    intro hk q hq
    have h1 := trm_range toks (k + 2)
    exact (gd_map (by dsimp only; omega) (by dsimp only; omega) ⟨by dsimp only; omega, by dsimp only; omega⟩ (by unfold kb; omega) hq).mono (by unfold kb; omega)
  | @ite k k1 k2 k3 f a b e r1 r2 r3 i1 i2 =>
    intro hk q hq
    have l1 := r1.le.1
    have l2 := r2.le
    have l3 := r3.le
    have gf : Gd (kb k) (fsy f) := (gd_fsy f (rd_ok r1 (fun g h => by cases h))).mono (by unfold kb; omega)
    exact Gd.mark (by omega) (by omega) (Gd.mark (by omega) (by omega) (gf.app (((i1 (by omega) q (hq.mono (by unfold kb; omega))).mono (by unfold kb; omega)).app (Gd.mark (by omega) (by omega) (Gd.mark (by omega) (by omega) (gf.app ((i2 (by omega) q (hq.mono (by unfold kb; omega))).mono (by unfold kb; omega))))))))
  | @loop k k1 k2 k3 f g a e r1 r2 r3 i1 =>
    intro hk q hq
    have l1 := r1.le.1
    have l2 := r2.le.1
    have l3 := r3.le
    exact (gd_fsy g (rd_ok r2 (fun g h => by cases h))).mono (by unfold kb; omega)
  | one _ _ ih => exact ih
  | @seq k k1 k' c r r1 _ r2 i1 i2 =>
    intro hk q hq
    have l2 := r2.le
    exact i1 (by omega) _ ((i2 hk q hq).mono (by unfold kb; omega))

/- The symbols as the document's reader of atoms meets them. -/
theorem atm_atom {y : Sym} (h : Good y) (h6 : y.1 = 6) (l : List UInt8) : atm (sb y ++ l) = some (y.2, (sb y).length) := by
  have hs := sym_sb h l
  obtain ⟨g0, g6, _, ga⟩ := h
  obtain ⟨a1, a2, _⟩ := ga h6
  obtain ⟨q, u, v, n⟩ := y
  dsimp only at *
  subst h6
  have e : sb (6, u, v, n) = lt u :: 45 :: lt v :: 60 :: 61 :: (Lib.itoa n ++ [46]) := rfl
  rw [e] at hs ⊢
  rw [List.cons_append] at hs ⊢
  simp only [sym] at hs
  rw [lt_mk a1 a2, if_neg (by decide)] at hs
  cases ha : atm (lt u :: (45 :: lt v :: 60 :: 61 :: (Lib.itoa n ++ [46]) ++ l)) with
  | none => rw [ha] at hs; cases hs
  | some p =>
    rw [ha] at hs
    simp only [Option.map_some, Option.some.injEq, Prod.mk.injEq] at hs
    obtain ⟨⟨_, h1⟩, h2⟩ := hs
    obtain ⟨p1, p2⟩ := p
    dsimp only at h1 h2
    rw [h1, h2]
theorem atm_no {y : Sym} (h : Good y) (h6 : y.1 ≠ 6) (l : List UInt8) : atm (sb y ++ l) = none ∧ (sb y).length = 1 := by
  obtain ⟨g0, g6, _, _⟩ := h
  obtain ⟨q, u, v, n⟩ := y
  dsimp only at *
  have key : ∀ (c : UInt8), 0 ≤ mk (c.toNat : Int) → atm ([c] ++ l) = none := by
    intro c hc
    cases ha : atm ([c] ++ l) with
    | none => rfl
    | some q =>
      have h1 := (atm_facts (a := q.1) (k := q.2) ha).2.2.2.2.2.2.2.2.2
      simp only [List.cons_append, List.headD_cons, plu] at h1
      have := mk_plc _ hc
      omega
  have hq : q = 0 ∨ q = 1 ∨ q = 2 ∨ q = 3 ∨ q = 4 ∨ q = 5 := by omega
  rcases hq with rfl | rfl | rfl | rfl | rfl | rfl
  · exact ⟨key 116 (by decide), rfl⟩
  · exact ⟨key 102 (by decide), rfl⟩
  · exact ⟨key 33 (by decide), rfl⟩
  · exact ⟨key 38 (by decide), rfl⟩
  · exact ⟨key 124 (by decide), rfl⟩
  · exact ⟨key 62 (by decide), rfl⟩
theorem good_len {y : Sym} (h : Good y) : 1 ≤ (sb y).length ∧ (sb y).length ≤ 13 := by
  obtain ⟨c, r, e⟩ := sb_ne y
  refine ⟨by rw [e]; simp, ?_⟩
  by_cases h6 : y.1 = 6
  · obtain ⟨g0, g6, _, ga⟩ := h
    obtain ⟨a1, a2, a3, a4, a5, a6, a7⟩ := ga h6
    obtain ⟨q, u, v, n⟩ := y
    dsimp only at *
    subst h6
    have := aty_len13 (u := u) (v := v) a6 a7
    unfold aty at this
    rw [if_neg a5] at this
    exact this
  · have := (atm_no h h6 []).2; omega
theorem bl_cons (y : Sym) (r : List Sym) : bl (y :: r) = (sb y).length + bl r := by unfold bl; rw [sbs_cons, List.length_append]
theorem bl_app (a b : List Sym) : bl (a ++ b) = bl a + bl b := by unfold bl; rw [sbs_append, List.length_append]
theorem bl_count {K : Int} : ∀ {ys : List Sym}, Gd K ys → ys.length ≤ bl ys ∧ bl ys ≤ 13 * ys.length
  | [], _ => ⟨Nat.le_refl _, Nat.le_refl _⟩
  | y :: r, h => by
    have h1 := good_len (h y List.mem_cons_self).1
    have h2 := bl_count (ys := r) (fun z hz => h z (List.mem_cons_of_mem _ hz))
    rw [bl_cons, List.length_cons]
    omega
theorem rest_sbs (a b : List Sym) : rest ⟨(sbs (a ++ b)).toArray⟩ (bl a) = sbs b := by
  unfold rest bl
  rw [sbs_append]
  simp
end Go.Proofs.YtkinoehmcfhgbaaGreatDoor.Vl
