/-
  Runs: plain words alone.
-/
import Derived.Test.YtkinoehmcfhgbaaGreatDoorF0
set_option linter.unusedVariables false
set_option linter.unusedSimpArgs false
namespace Go.Proofs.YtkinoehmcfhgbaaGreatDoor.Vl
open Go.RowKit
open Go.Proofs.YtkinoehmcfhgbaaGreatDoor.Av (Fm Cm)

/-- A run: the four variables, the steps, how it has ended (-1: it has not). -/
structure RS where
  x1 : Int
  x2 : Int
  x3 : Int
  x4 : Int
  n : Int
  e : Int
def RS.ev (s : RS) (f : Fm) : Bool := Vl.ev s.x1 s.x2 s.x3 s.x4 f
def RS.tv (s : RS) (t : Int × Int) : Int := Vl.tv s.x1 s.x2 s.x3 s.x4 t
def RS.set (s : RS) (x v : Int) : RS := if x = 0 then { s with x1 := v } else if x = 1 then { s with x2 := v } else if x = 2 then { s with x3 := v } else { s with x4 := v }
def stp (fuel : Int) (s : RS) : RS := if s.n = fuel then { s with e := 1 } else { s with n := s.n + 1 }
def asgn (fuel : Int) (x : Int) (t : Int × Int) (s : RS) : RS :=
  if s.n = fuel then { s with e := 1 } else if gd (s.tv t) then { s.set x (s.tv t) with n := s.n + 1 } else { s with e := 2 }
def whl (fuel : Int) (f : Fm) (body : RS → RS) : Nat → RS → RS
  | 0, s => s
  | m + 1, s => if 0 ≤ (stp fuel s).e then stp fuel s else if (stp fuel s).ev f then (if 0 ≤ (body (stp fuel s)).e then body (stp fuel s) else whl fuel f body m (body (stp fuel s))) else stp fuel s
def ex (fuel : Int) : Cm → RS → RS
  | .skip, s => stp fuel s
  | .asg x t, s => asgn fuel x t s
  | .ite f a b, s => if 0 ≤ (stp fuel s).e then stp fuel s else if (stp fuel s).ev f then ex fuel a (stp fuel s) else ex fuel b (stp fuel s)
  | .loop f g a, s => whl fuel f (ex fuel a) (fuel.toNat + 1) s
  | .seq a b, s => if 0 ≤ (ex fuel a s).e then ex fuel a s else ex fuel b (ex fuel a s)
/-- What is so of a run that goes on, or has ended. -/
def Inv (fuel : Int) (s : RS) : Prop := 0 ≤ s.n ∧ s.n ≤ fuel ∧ gds s.x1 s.x2 s.x3 s.x4 = true ∧ -1 ≤ s.e ∧ s.e ≤ 2
theorem inv_stp {fuel : Int} {s : RS} (h : Inv fuel s) : Inv fuel (stp fuel s) ∧ s.n ≤ (stp fuel s).n ∧ ((stp fuel s).e < 0 → (stp fuel s).n = s.n + 1) := by
  obtain ⟨h1, h2, h3, h4, h5⟩ := h
  unfold stp
  split
  · exact ⟨⟨h1, h2, h3, by dsimp only; decide, by dsimp only; decide⟩, Int.le_refl _, fun h => by dsimp only at h; omega⟩
  · exact ⟨⟨by dsimp only; omega, by dsimp only; omega, h3, h4, h5⟩, by dsimp only; omega, fun _ => rfl⟩
theorem gds_set {s : RS} {x v : Int} (h : gds s.x1 s.x2 s.x3 s.x4 = true) (hv : gd v = true) : gds (s.set x v).x1 (s.set x v).x2 (s.set x v).x3 (s.set x v).x4 = true := by
  unfold gds at *
  simp only [Bool.and_eq_true] at *
  obtain ⟨a, b, c, d⟩ := h
  unfold RS.set
  split
  · exact ⟨hv, b, c, d⟩
  · split
    · exact ⟨a, hv, c, d⟩
    · split
      · exact ⟨a, b, hv, d⟩
      · exact ⟨a, b, c, hv⟩
theorem set_n (s : RS) (x v : Int) : (s.set x v).n = s.n ∧ (s.set x v).e = s.e := by
  unfold RS.set
  split
  · exact ⟨rfl, rfl⟩
  · split
    · exact ⟨rfl, rfl⟩
    · split <;> exact ⟨rfl, rfl⟩
theorem inv_asgn {fuel : Int} {s : RS} (h : Inv fuel s) (x : Int) (t : Int × Int) : Inv fuel (asgn fuel x t s) ∧ s.n ≤ (asgn fuel x t s).n := by
  obtain ⟨h1, h2, h3, h4, h5⟩ := h
  have hs := set_n s x (s.tv t)
  unfold asgn
  split
  · exact ⟨⟨h1, h2, h3, by dsimp only; decide, by dsimp only; decide⟩, Int.le_refl _⟩
  · split
    · rename_i hv
      exact ⟨⟨by dsimp only; omega, by dsimp only; omega, gds_set h3 hv, by dsimp only; omega, by dsimp only; omega⟩, by dsimp only; omega⟩
    · exact ⟨⟨h1, h2, h3, by dsimp only; decide, by dsimp only; decide⟩, Int.le_refl _⟩
theorem inv_whl {fuel : Int} {f : Fm} {body : RS → RS} (hb : ∀ s, Inv fuel s → Inv fuel (body s) ∧ s.n ≤ (body s).n) : ∀ (m : Nat) (s : RS), Inv fuel s → Inv fuel (whl fuel f body m s) ∧ s.n ≤ (whl fuel f body m s).n
  | 0, s, h => ⟨h, Int.le_refl _⟩
  | m + 1, s, h => by
    have h1 := inv_stp h
    have h2 := hb _ h1.1
    simp only [whl]
    split
    · exact ⟨h1.1, h1.2.1⟩
    · split
      · split
        · exact ⟨h2.1, by omega⟩
        · have h3 := inv_whl (f := f) hb m _ h2.1
          exact ⟨h3.1, by omega⟩
      · exact ⟨h1.1, h1.2.1⟩
theorem inv_ex {fuel : Int} : ∀ (c : Cm) (s : RS), Inv fuel s → Inv fuel (ex fuel c s) ∧ s.n ≤ (ex fuel c s).n
  | .skip, s, h => ⟨(inv_stp h).1, (inv_stp h).2.1⟩
  | .asg x t, s, h => inv_asgn h x t
  | .ite f a b, s, h => by
    have h1 := inv_stp h
    have h2 := inv_ex a _ h1.1
    have h3 := inv_ex b _ h1.1
    simp only [ex]
    split
    · exact ⟨h1.1, h1.2.1⟩
    · split
      · exact ⟨h2.1, by omega⟩
      · exact ⟨h3.1, by omega⟩
  | .loop f g a, s, h => inv_whl (fun s hs => inv_ex a s hs) _ s h
  | .seq a b, s, h => by
    have h1 := inv_ex a s h
    have h2 := inv_ex b _ h1.1
    simp only [ex]
    split
    · exact h1
    · exact ⟨h2.1, by omega⟩
/-- Enough rounds are enough. -/
theorem whl_more {fuel : Int} {f : Fm} {body : RS → RS} (hb : ∀ s, Inv fuel s → Inv fuel (body s) ∧ s.n ≤ (body s).n) : ∀ (m k : Nat) (s : RS), Inv fuel s → fuel - s.n < m → fuel - s.n < k → whl fuel f body m s = whl fuel f body k s
  | 0, k, s, h, hm, hk => by have := h.2.1; omega
  | m + 1, 0, s, h, hm, hk => by have := h.2.1; omega
  | m + 1, k + 1, s, h, hm, hk => by
    have h1 := inv_stp h
    have h2 := hb _ h1.1
    simp only [whl]
    split
    · rfl
    · rename_i hs
      have h3 := h1.2.2 (by omega)
      split
      · split
        · rfl
        · exact whl_more hb m k _ h2.1 (by omega) (by omega)
      · rfl
/-- One round of a loop, whatever has gone ahead of it. -/
theorem whl_step {fuel : Int} {f : Fm} {body : RS → RS} (hb : ∀ s, Inv fuel s → Inv fuel (body s) ∧ s.n ≤ (body s).n) (s : RS) (h : Inv fuel s) : whl fuel f body (fuel.toNat + 1) s =
    if 0 ≤ (stp fuel s).e then stp fuel s else if (stp fuel s).ev f then (if 0 ≤ (body (stp fuel s)).e then body (stp fuel s) else whl fuel f body (fuel.toNat + 1) (body (stp fuel s))) else stp fuel s := by
  have h1 := inv_stp h
  have h2 := hb _ h1.1
  have hn := h.1
  have hn2 := h.2.1
  rw [whl]
  split
  · rfl
  · rename_i hs
    have h3 := h1.2.2 (by omega)
    split
    · split
      · rfl
      · exact whl_more hb fuel.toNat (fuel.toNat + 1) _ h2.1 (by omega) (by omega)
    · rfl
/-- How a run has ended, as it is answered: 0 where it has come to its end. -/
def kn (s : RS) : Int := if s.e < 0 then 0 else s.e
end Go.Proofs.YtkinoehmcfhgbaaGreatDoor.Vl
