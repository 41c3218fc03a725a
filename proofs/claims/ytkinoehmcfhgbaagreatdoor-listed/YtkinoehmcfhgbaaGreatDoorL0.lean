/-
  What must hold ahead of commands, the conditions of a program, and whether they are short enough: plain words.
-/
import Derived.Test.YtkinoehmcfhgbaaGreatDoorF0
set_option linter.unusedVariables false
set_option linter.unusedSimpArgs false
namespace Go.Proofs.YtkinoehmcfhgbaaGreatDoor.Vl
open Go.RowKit
open Go.Proofs.YtkinoehmcfhgbaaGreatDoor.Av (Fm Rd Tg sAt trm trm_range rel rel_range Cm Rc vr vr_range)

/-- In an atom x is replaced by u and n. -/
def rpl (x u n : Int) (y : Sym) : Sym := if y.1 = 6 then (if y.2.1 = x then aty u y.2.2.1 (y.2.2.2 - n) else if y.2.2.1 = x then aty y.2.1 u (y.2.2.2 + n) else y) else y
/-- What must hold ahead of commands. -/
def wpc : Cm → List Sym → List Sym
  | .skip, q => q
  | .asg x t, q => q.map (rpl (x + 1) (t.1 + 1) t.2)
  | .ite f a b, q => (4, 0, 0, 0) :: (3, 0, 0, 0) :: (fsy f ++ (wpc a q ++ ((3, 0, 0, 0) :: (2, 0, 0, 0) :: (fsy f ++ wpc b q))))
  | .loop f g a, q => fsy g
  | .seq a b, q => wpc a (wpc b q)
/-- The two conditions of a loop. -/
def again (f g : Fm) (a : Cm) : List Sym := (5, 0, 0, 0) :: (3, 0, 0, 0) :: (fsy g ++ (fsy f ++ wpc a (fsy g)))
def leav (f g : Fm) (q : List Sym) : List Sym := (5, 0, 0, 0) :: (3, 0, 0, 0) :: (fsy g ++ ((2, 0, 0, 0) :: (fsy f ++ q)))
/-- How many bytes a condition has. -/
def bl (ys : List Sym) : Nat := (sbs ys).length
/-- Is all that is met on the way short enough? -/
def fit : Cm → List Sym → Bool
  | .skip, q => decide (bl q ≤ 4000)
  | .asg x t, q => decide (bl (wpc (.asg x t) q) ≤ 4000)
  | .ite f a b, q => fit a q && (fit b q && decide (bl (wpc (.ite f a b) q) ≤ 4000))
  | .loop f g a, q => fit a (fsy g) && (decide (bl (again f g a) ≤ 4000) && (decide (bl (leav f g q) ≤ 4000) && decide (bl (fsy g) ≤ 4000)))
  | .seq a b, q => fit b q && fit a (wpc b q)
/-- The conditions of the loops, in their order. -/
def cls : Cm → List Sym → List (List Sym)
  | .ite f a b, q => cls a q ++ cls b q
  | .loop f g a, q => again f g a :: leav f g q :: cls a (fsy g)
  | .seq a b, q => cls a (wpc b q) ++ cls b q
  | _, _ => []
theorem fit_le : ∀ (c : Cm) (q : List Sym), fit c q = true → bl (wpc c q) ≤ 4000
  | .skip, q, h => of_decide_eq_true h
  | .asg x t, q, h => of_decide_eq_true h
  | .ite f a b, q, h => by
    simp only [fit, Bool.and_eq_true] at h
    exact of_decide_eq_true h.2.2
  | .loop f g a, q, h => by
    simp only [fit, Bool.and_eq_true] at h
    exact of_decide_eq_true h.2.2.2
  | .seq a b, q, h => by
    simp only [fit, Bool.and_eq_true] at h
    exact fit_le a _ h.2

/-- Symbols whose atoms' numbers are at most K. -/
def Gd (K : Int) (ys : List Sym) : Prop := ∀ y ∈ ys, Good y ∧ (y.1 = 6 → -K ≤ y.2.2.2 ∧ y.2.2.2 ≤ K)
theorem Gd.mono {K L : Int} {ys : List Sym} (h : Gd K ys) (hl : K ≤ L) : Gd L ys := fun y hy => ⟨(h y hy).1, fun e => by have := (h y hy).2 e; omega⟩
theorem Gd.app {K : Int} {a b : List Sym} (h : Gd K a) (k : Gd K b) : Gd K (a ++ b) := fun y hy => by
  rcases List.mem_append.1 hy with h1 | h1
  · exact h y h1
  · exact k y h1
theorem Gd.mark {K : Int} {q : Int} (h0 : 0 ≤ q) (h5 : q ≤ 5) {b : List Sym} (k : Gd K b) : Gd K ((q, 0, 0, 0) :: b) := fun y hy => by
  rcases List.mem_cons.1 hy with rfl | h1
  · exact ⟨good_mark h0 h5, fun e => by dsimp only at e; omega⟩
  · exact k y h1
theorem Gd.nil {K : Int} : Gd K [] := fun y hy => by cases hy
theorem aty_gd {K u v n : Int} (h0 : 0 ≤ u) (h1 : u ≤ 4) (h2 : 0 ≤ v) (h3 : v ≤ 4) (h4 : -K ≤ n) (h5 : n ≤ K) (hK : K ≤ 999999) : Good (aty u v n) ∧ ((aty u v n).1 = 6 → -K ≤ (aty u v n).2.2.2 ∧ (aty u v n).2.2.2 ≤ K) := by
  refine ⟨aty_good h0 h1 h2 h3 (by omega) (by omega), fun e => ?_⟩
  unfold aty at e ⊢
  by_cases hu : u = v
  · rw [if_pos hu] at e
    split at e <;> (dsimp only at e; omega)
  · rw [if_neg hu]; exact ⟨h4, h5⟩
theorem gd_one {K : Int} {y : Sym} (h : Good y ∧ (y.1 = 6 → -K ≤ y.2.2.2 ∧ y.2.2.2 ≤ K)) : Gd K [y] := fun z hz => by
  rw [List.mem_singleton.1 hz]; exact h
theorem gd_cms {r : Int} {a b : Int × Int} (ha : tOk a) (hb : tOk b) : Gd 1999 (cms r a b) := by
  obtain ⟨a1, a2, a3, a4⟩ := ha
  obtain ⟨b1, b2, b3, b4⟩ := hb
  unfold cms
  split
  · exact gd_one (aty_gd (by omega) (by omega) (by omega) (by omega) (by omega) (by omega) (by omega))
  · split
    · exact gd_one (aty_gd (by omega) (by omega) (by omega) (by omega) (by omega) (by omega) (by omega))
    · split
      · exact gd_one (aty_gd (by omega) (by omega) (by omega) (by omega) (by omega) (by omega) (by omega))
      · split
        · exact gd_one (aty_gd (by omega) (by omega) (by omega) (by omega) (by omega) (by omega) (by omega))
        · exact Gd.mark (by omega) (by omega) (Gd.app (gd_one (aty_gd (by omega) (by omega) (by omega) (by omega) (by omega) (by omega) (by omega))) (gd_one (aty_gd (by omega) (by omega) (by omega) (by omega) (by omega) (by omega) (by omega))))
theorem gd_fsy : ∀ (f : Fm), fOk f → Gd 1999 (fsy f)
  | .tt, _ => Gd.mark (by omega) (by omega) Gd.nil
  | .ff, _ => Gd.mark (by omega) (by omega) Gd.nil
  | .cmp r a b, h => gd_cms h.2.2.1 h.2.2.2
  | .no f, h => Gd.mark (by omega) (by omega) (gd_fsy f h)
  | .and f g, h => Gd.mark (by omega) (by omega) (Gd.app (gd_fsy f h.1) (gd_fsy g h.2))
  | .or f g, h => Gd.mark (by omega) (by omega) (Gd.app (gd_fsy f h.1) (gd_fsy g h.2))
theorem rpl_gd {K x u n : Int} {y : Sym} (hu0 : 0 ≤ u) (hu4 : u ≤ 4) (hn : -999 ≤ n ∧ n ≤ 999) (hK : K + 999 ≤ 999999) (h : Good y ∧ (y.1 = 6 → -K ≤ y.2.2.2 ∧ y.2.2.2 ≤ K)) : Good (rpl x u n y) ∧ ((rpl x u n y).1 = 6 → -(K + 999) ≤ (rpl x u n y).2.2.2 ∧ (rpl x u n y).2.2.2 ≤ K + 999) := by
  unfold rpl
  by_cases h6 : y.1 = 6
  · obtain ⟨g0, g6, _, ga⟩ := h.1
    obtain ⟨a1, a2, a3, a4, a5, a6, a7⟩ := ga h6
    have hb := h.2 h6
    rw [if_pos h6]
    split
    · exact aty_gd hu0 hu4 a3 a4 (by omega) (by omega) hK
    · split
      · exact aty_gd a1 a2 hu0 hu4 (by omega) (by omega) hK
      · exact ⟨h.1, fun _ => by omega⟩
  · rw [if_neg h6]
    exact ⟨h.1, fun e => absurd e h6⟩
theorem gd_map {K x u n : Int} {ys : List Sym} (hu0 : 0 ≤ u) (hu4 : u ≤ 4) (hn : -999 ≤ n ∧ n ≤ 999) (hK : K + 999 ≤ 999999) (h : Gd K ys) : Gd (K + 999) (ys.map (rpl x u n)) := fun y hy => by
  obtain ⟨z, hz, rfl⟩ := List.mem_map.1 hy
  exact rpl_gd hu0 hu4 hn hK (h z hz)
/-- How great the numbers are ahead of a place. -/
def kb (k : Nat) : Int := 2000 + 1000 * (300 - (k : Int))
theorem gd_wpc {toks : List (List UInt8 × Nat)} {t : Bool} {k k' : Nat} {c : Cm} (h : Rc toks t k c k') : k' ≤ 300 → ∀ q, Gd (kb k') q → Gd (kb k) (wpc c q) := by
  induction h with
  | skip _ => intro hk q hq; exact hq.mono (by unfold kb; omega)
  | @asg k hv =>
    intro hk q hq
    have h1 := trm_range toks (k + 2)
    exact (gd_map (by dsimp only; omega) (by dsimp only; omega) ⟨by dsimp only; omega, by dsimp only; omega⟩ (by unfold kb; omega) hq).mono (by unfold kb; omega)
  | @ite k k1 k2 k3 f a b e r1 r2 r3 i1 i2 =>
    intro hk q hq
    have l1 := r1.le.1
    have l2 := r2.le
    have l3 := r3.le
    have gf : Gd (kb k) (fsy f) := (gd_fsy f (rd_ok r1 (fun g h => by cases h))).mono (by unfold kb; omega)
    exact Gd.mark (by omega) (by omega) (Gd.mark (by omega) (by omega) (gf.app (((i1 (by omega) q (hq.mono (by unfold kb; omega))).mono (by unfold kb; omega)).app (Gd.mark (by omega) (by omega) (Gd.mark (by omega) (by omega) (gf.app ((i2 (by omega) q (hq.mono (by unfold kb; omega))).mono (by unfold kb; omega))))))))
  | @loop k k1 k2 k3 f g a e r1 r2 r3 i1 =>
    intro hk q hq
    have l1 := r1.le.1
    have l2 := r2.le.1
    have l3 := r3.le
    exact (gd_fsy g (rd_ok r2 (fun g h => by cases h))).mono (by unfold kb; omega)
  | one _ _ ih => exact ih
  | @seq k k1 k' c r r1 _ r2 i1 i2 =>
    intro hk q hq
    have l2 := r2.le
    exact i1 (by omega) _ ((i2 hk q hq).mono (by unfold kb; omega))

/- The symbols as the document's reader of atoms meets them. -/
theorem atm_atom {y : Sym} (h : Good y) (h6 : y.1 = 6) (l : List UInt8) : atm (sb y ++ l) = some (y.2, (sb y).length) := by
  have hs := sym_sb h l
  obtain ⟨g0, g6, _, ga⟩ := h
  obtain ⟨a1, a2, _⟩ := ga h6
  obtain ⟨q, u, v, n⟩ := y
  dsimp only at *
  subst h6
  have e : sb (6, u, v, n) = lt u :: 45 :: lt v :: 60 :: 61 :: (Lib.itoa n ++ [46]) := rfl
  rw [e] at hs ⊢
  rw [List.cons_append] at hs ⊢
  simp only [sym] at hs
  rw [lt_mk a1 a2, if_neg (by decide)] at hs
  cases ha : atm (lt u :: (45 :: lt v :: 60 :: 61 :: (Lib.itoa n ++ [46]) ++ l)) with
  | none => rw [ha] at hs; cases hs
  | some p =>
    rw [ha] at hs
    simp only [Option.map_some, Option.some.injEq, Prod.mk.injEq] at hs
    obtain ⟨⟨_, h1⟩, h2⟩ := hs
    obtain ⟨p1, p2⟩ := p
    dsimp only at h1 h2
    rw [h1, h2]
theorem atm_no {y : Sym} (h : Good y) (h6 : y.1 ≠ 6) (l : List UInt8) : atm (sb y ++ l) = none ∧ (sb y).length = 1 := by
  obtain ⟨g0, g6, _, _⟩ := h
  obtain ⟨q, u, v, n⟩ := y
  dsimp only at *
  have key : ∀ (c : UInt8), 0 ≤ mk (c.toNat : Int) → atm ([c] ++ l) = none := by
    intro c hc
    cases ha : atm ([c] ++ l) with
    | none => rfl
    | some q =>
      have h1 := (atm_facts (a := q.1) (k := q.2) ha).2.2.2.2.2.2.2.2.2
      simp only [List.cons_append, List.headD_cons, plu] at h1
      have := mk_plc _ hc
      omega
  have hq : q = 0 ∨ q = 1 ∨ q = 2 ∨ q = 3 ∨ q = 4 ∨ q = 5 := by omega
  rcases hq with rfl | rfl | rfl | rfl | rfl | rfl
  · exact ⟨key 116 (by decide), rfl⟩
  · exact ⟨key 102 (by decide), rfl⟩
  · exact ⟨key 33 (by decide), rfl⟩
  · exact ⟨key 38 (by decide), rfl⟩
  · exact ⟨key 124 (by decide), rfl⟩
  · exact ⟨key 62 (by decide), rfl⟩
theorem good_len {y : Sym} (h : Good y) : 1 ≤ (sb y).length ∧ (sb y).length ≤ 13 := by
  obtain ⟨c, r, e⟩ := sb_ne y
  refine ⟨by rw [e]; simp, ?_⟩
  by_cases h6 : y.1 = 6
  · obtain ⟨g0, g6, _, ga⟩ := h
    obtain ⟨a1, a2, a3, a4, a5, a6, a7⟩ := ga h6
    obtain ⟨q, u, v, n⟩ := y
    dsimp only at *
    subst h6
    have := aty_len13 (u := u) (v := v) a6 a7
    unfold aty at this
    rw [if_neg a5] at this
    exact this
  · have := (atm_no h h6 []).2; omega
theorem bl_cons (y : Sym) (r : List Sym) : bl (y :: r) = (sb y).length + bl r := by unfold bl; rw [sbs_cons, List.length_append]
theorem bl_app (a b : List Sym) : bl (a ++ b) = bl a + bl b := by unfold bl; rw [sbs_append, List.length_append]
theorem bl_count {K : Int} : ∀ {ys : List Sym}, Gd K ys → ys.length ≤ bl ys ∧ bl ys ≤ 13 * ys.length
  | [], _ => ⟨Nat.le_refl _, Nat.le_refl _⟩
  | y :: r, h => by
    have h1 := good_len (h y List.mem_cons_self).1
    have h2 := bl_count (ys := r) (fun z hz => h z (List.mem_cons_of_mem _ hz))
    rw [bl_cons, List.length_cons]
    omega
theorem rest_sbs (a b : List Sym) : rest ⟨(sbs (a ++ b)).toArray⟩ (bl a) = sbs b := by
  unfold rest bl
  rw [sbs_append]
  simp
end Go.Proofs.YtkinoehmcfhgbaaGreatDoor.Vl
