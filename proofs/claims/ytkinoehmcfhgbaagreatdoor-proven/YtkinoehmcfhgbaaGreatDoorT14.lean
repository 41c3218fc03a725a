/-
  The document's look at a proof, plain: how a cycle's numbers end, when it comes back; what is assumed as a list.
  Plain: the prover's search: what is known of the atoms, which literal is picked, how branches come together; more steps change nothing that was found with less.
  The prover: splitText; sets of atoms' numbers.
-/
import Derived.Test.YtkinoehmcfhgbaaGreatDoorS3k
import Derived.Test.YtkinoehmcfhgbaaGreatDoorN5
import Derived.Test.YtkinoehmcfhgbaaGreatDoorB0
import Derived.Laws.Bits64b
import Derived.Laws.Shifts
set_option linter.unusedVariables false
set_option linter.unusedSimpArgs false
namespace Go.Proofs.YtkinoehmcfhgbaaGreatDoor.Vl
open Go.RowKit

/-- The mark that ends a number in a cycle, as the document looks for it. -/
def stm : List UInt8 → UInt8
  | [] => 59
  | c :: r => if c = 59 then 59 else if c = 44 then 44 else stm r
theorem stm_two : ∀ l, stm l = 59 ∨ stm l = 44
  | [] => Or.inl rfl
  | c :: r => by
    unfold stm
    split
    · exact Or.inl rfl
    · split
      · exact Or.inr rfl
      · exact stm_two r
theorem isd_no {c : UInt8} (h : isd c = true) : c ≠ 59 ∧ c ≠ 44 := by
  unfold isd at h
  simp only [Bool.and_eq_true, decide_eq_true_eq] at h
  constructor <;> (rintro rfl; simp at h)
theorem stm_drop : ∀ l, stm l = stm (l.drop (dlen l))
  | [] => rfl
  | c :: r => by
    unfold dlen
    split
    · rename_i hc
      have := isd_no hc
      rw [List.drop_succ_cons, ← stm_drop r]
      conv => lhs; unfold stm
      rw [if_neg this.1, if_neg this.2]
    · rfl
/-- Where the document finds no number with the mark that it looks for, there is none. -/
theorem lks_no {us : List Atm} {f : Atm → Int} {k : Nat} {l : List UInt8} (h : ∀ n r, fig us.length l ≠ some (n, stm l :: r)) : lks us f (k + 1) l = none := by
  unfold lks
  split
  · rfl
  · rfl
  · rename_i n c r hf
    have e := (fig_lt hf).2.1
    have hs := stm_drop l
    rw [← e] at hs
    split
    · rfl
    · split
      · rename_i hc
        subst hc
        exact absurd hf (by rw [show stm l = 44 by rw [hs]; rfl] at h; exact h n r)
      · split
        · rename_i hc
          subst hc
          exact absurd hf (by rw [show stm l = 59 by rw [hs]; rfl] at h; exact h n r)
        · rfl
theorem lks_yes {us : List Atm} {f : Atm → Int} {k : Nat} {l : List UInt8} {n : Nat} {c : UInt8} {r : List UInt8} (h : fig us.length l = some (n, c :: r)) : lks us f (k + 1) l = lstp us f k (us.getD n (0, 0, 0)) (c :: r) := by
  simp only [lks, h, lstp]
/-- The document's look at a cycle: of the first i one whose right operand is not the next one's left one. -/
def dbad (ats : List Atm) (i : Nat) : Bool := (List.range i).any fun j => (ats.getD j (0, 0, 0)).2.1 != (ats.getD ((j + 1) % ats.length) (0, 0, 0)).1
theorem dbad_succ (ats : List Atm) (i : Nat) : dbad ats (i + 1) = (dbad ats i || ((ats.getD i (0, 0, 0)).2.1 != (ats.getD ((i + 1) % ats.length) (0, 0, 0)).1)) := by
  unfold dbad; rw [List.range_succ, List.any_append]; simp
def smI (ats : List Atm) (i : Nat) : Int := smB (ats.take i)
theorem smI_succ (ats : List Atm) (i : Nat) (a : Atm) (h : ats[i]? = some a) : smI ats (i + 1) = smI ats i + a.2.2 := by
  unfold smI smB
  rw [List.take_add_one, h]
  simp
theorem smI_all (ats : List Atm) : smI ats ats.length = smB ats := by unfold smI; rw [List.take_length]
theorem chn_iff : ∀ (ats : List Atm) (last : Atm), chn last ats = true ↔ ∀ j, j < ats.length → ((last :: ats).getD j (0, 0, 0)).2.1 = (ats.getD j (0, 0, 0)).1
  | [], last => by simp [chn]
  | x :: r, last => by
    unfold chn
    rw [Bool.and_eq_true, chn_iff r x]
    constructor
    · rintro ⟨h1, h2⟩ j hj
      cases j with
      | zero => simpa using h1
      | succ j => have := h2 j (by simpa using hj); simpa using this
    · intro h
      refine ⟨?_, fun j hj => ?_⟩
      · have := h 0 (by simp); simpa using this
      · have := h (j + 1) (by simpa using hj); simpa using this
theorem cyc_dbad (ats : List Atm) (hne : ats ≠ []) : cyc ats = !(dbad ats ats.length || decide (0 ≤ smB ats)) := by
  have hl : 0 < ats.length := List.length_pos_iff.2 hne
  have hlast : ats.getLastD (0, 0, 0) = ats.getD (ats.length - 1) (0, 0, 0) := by
    rw [List.getD_eq_getElem?_getD, List.getElem?_eq_getElem (by omega), List.getLastD_eq_getLast?, List.getLast?_eq_getElem?, List.getElem?_eq_getElem (by omega)]
  have e1 : chn (ats.getLastD (0, 0, 0)) ats = !dbad ats ats.length := by
    rw [Bool.eq_iff_iff, chn_iff]
    simp only [Bool.not_eq_true', dbad, List.any_eq_false, List.mem_range, bne_iff_ne, ne_eq, Decidable.not_not]
    constructor
    · intro h j hj
      by_cases hj1 : j + 1 < ats.length
      · have := h (j + 1) hj1
        rw [Nat.mod_eq_of_lt hj1]
        simpa using this
      · have e : j + 1 = ats.length := by omega
        have := h 0 hl
        rw [e, Nat.mod_self]
        rw [hlast, show ats.length - 1 = j by omega] at this
        simpa using this
    · intro h j hj
      cases j with
      | zero =>
        have := h (ats.length - 1) (by omega)
        rw [show ats.length - 1 + 1 = ats.length by omega, Nat.mod_self] at this
        rw [hlast]
        simpa using this
      | succ j =>
        have := h j (by omega)
        rw [Nat.mod_eq_of_lt (by omega)] at this
        simpa using this
  unfold cyc
  rw [e1]
  cases dbad ats ats.length
  · by_cases h : smB ats < 0
    · have : ¬ 0 ≤ smB ats := by omega
      simp [h, this]
    · have : 0 ≤ smB ats := by omega
      simp [h, this]
  · simp
/-- What is assumed, as the document's list has it. -/
def byl (us : List Atm) (f : Atm → Int) : List Int := us.map fun a => dt (f a)
theorem byl_len (us : List Atm) (f : Atm → Int) : (byl us f).length = us.length := by simp [byl]
theorem byl_set {us : List Atm} (hnd : us.Nodup) (f : Atm → Int) (j : Nat) (hj : j < us.length) (t : Int) : (byl us f).set j (dt t) = byl us (putA f (us.getD j (0, 0, 0)) t) := by
  unfold byl
  apply List.ext_getElem?
  intro i
  rw [List.getElem?_set, List.getElem?_map, List.getElem?_map]
  have ej : us.getD j (0, 0, 0) = us[j] := by rw [List.getD_eq_getElem?_getD, List.getElem?_eq_getElem hj]; rfl
  by_cases e : j = i
  · subst e
    rw [if_pos rfl, if_pos (by simpa using hj), List.getElem?_eq_getElem hj]
    simp only [Option.map_some, putA, ej, if_true]
  · rw [if_neg e]
    by_cases hi : i < us.length
    · rw [List.getElem?_eq_getElem hi]
      simp only [Option.map_some, putA, ej]
      rw [if_neg]
      intro h
      exact e ((List.getElem_inj hnd).1 h.symm)
    · rw [List.getElem?_eq_none (by omega)]; rfl
theorem byl_range {us : List Atm} {f : Atm → Int} : ∀ x ∈ byl us f, 0 ≤ x ∧ x ≤ 2 := by
  intro x hx
  simp only [byl, List.mem_map] at hx
  obtain ⟨a, _, rfl⟩ := hx
  unfold dt; repeat' split
  all_goals omega
theorem addA_nodup {l : List Atm} (h : l.Nodup) (y : Sym) : (addA l y).Nodup := by
  unfold addA
  split
  · split
    · rename_i h1
      rcases nmb_mem l y.2 0 with ⟨_, h2⟩ | ⟨_, h2, _⟩
      · rw [List.nodup_append]
        refine ⟨h, by simp, ?_⟩
        intro a ha b hb
        rw [List.mem_singleton] at hb
        subst hb
        rintro rfl
        exact h2 ha
      · omega
    · exact h
  · exact h
theorem foldA_nodup : ∀ (ds : List Sym) (l : List Atm), l.Nodup → (ds.foldl addA l).Nodup
  | [], l, h => h
  | d :: r, l, h => foldA_nodup r (addA l d) (addA_nodup h d)
theorem uqs_nodup (ys : List Sym) : (uqs ys).Nodup := foldA_nodup ys [] List.nodup_nil
end Go.Proofs.YtkinoehmcfhgbaaGreatDoor.Vl
set_option linter.unusedVariables false
set_option linter.unusedSimpArgs false
namespace Go.Proofs.YtkinoehmcfhgbaaGreatDoor.Vl
open Go.RowKit

/-- What follows of an atom by bounds. -/
def bim (b : Bd) (a : Atm) : Bool := match b a.1.toNat a.2.1.toNat with | some (m, _) => decide (m ≤ a.2.2) | none => false
def btr (b : Bd) (a : Atm) : Int := if bim b a then 1 else if bim b (ifA a 2) then 2 else 0
/-- By which assumed atoms an atom is of this truth. -/
def brs (b : Bd) (a : Atm) (t : Int) : List Nat := match b (ifA a t).1.toNat (ifA a t).2.1.toNat with | some (_, p) => p | none => []
/-- What is known of the atoms. -/
def lok (us : List Atm) (A : Nat → Int) (b : Bd) : List Int := (List.range us.length).map fun i => if A i ≠ 0 then A i else btr b (us.getD i (0, 0, 0))
/-- The literal to go on with. -/
def spk (parts : List Int) : Nat → List Pt → List Int → Pt → Bool → Pt
  | _, [], _, c, _ => c
  | p, x :: r, ro, c, f =>
    if parts.getD p 0 ≠ 0 ∨ ro.getD p 0 = 0 then spk parts (p + 1) r ro c f
    else if x.1 = 2 then spk parts (p + 1) r ((ro.set (p + 1) (ro.getD p 0)).set x.2.1.toNat (ro.getD p 0)) c f
    else if x.1 = 3 then (if parts.getD (p + 1) 0 = 2 ∨ parts.getD x.2.1.toNat 0 = 2 then spk parts (p + 1) r ((ro.set (p + 1) (ro.getD p 0)).set x.2.1.toNat (ro.getD p 0)) c f
      else spk parts (p + 1) r ((ro.set (p + 1) 1).set x.2.1.toNat 1) c f)
    else if x.1 = 4 then (if ro.getD p 0 = 2 then x else if f then spk parts (p + 1) r ro c f else spk parts (p + 1) r ro x true)
    else spk parts (p + 1) r ro c f
def pick0 (g : List Pt) (parts : List Int) : Pt := spk parts 0 g ((List.replicate g.length (0 : Int)).set 0 2) (0, 0, 0, 0) false
/-- How an end of a search is told. -/
structure En where
  v : Int
  pf : List UInt8
  nd : Nat → Bool
  md : Int × Int × Int × Int
def eUnk : En := ⟨2, [], fun _ => false, (0, 0, 0, 0)⟩
def bmd (b : Bd) : Int × Int × Int × Int := (bgr b 1 - bgr b 0, bgr b 2 - bgr b 0, bgr b 3 - bgr b 0, bgr b 4 - bgr b 0)
def setN (A : Nat → Int) (n : Nat) (t : Int) : Nat → Int := fun i => if i = n then t else A i
def bwa (b : Bd) (a : Atm) (t : Int) (num : Nat) : Bd := bwith b (ifA a t).1.toNat (ifA a t).2.1.toNat (ifA a t).2.2 num
/-- The search; how a branch is finished is given, and how two are put together. -/
def srch (us : List Atm) (g : List Pt) (fin : (Nat → Int) → Bd → En) (two : Nat → Int → En → En → En) : Nat → Nat → (Nat → Int) → Bd → En × Nat
  | 0, s, _, _ => (eUnk, s)
  | _ + 1, 0, _, _ => (eUnk, 0)
  | k + 1, s + 1, A, b =>
    if (gtr (lok us A b) 0 g).headD 0 = 1 then (⟨1, [], fun _ => false, bmd b⟩, s)
    else if (gtr (lok us A b) 0 g).headD 0 = 2 then (fin A b, s)
    else
      if (srch us g fin two k s (setN A (pick0 g (gtr (lok us A b) 0 g)).2.2.1.toNat (pick0 g (gtr (lok us A b) 0 g)).2.2.2) (bwa b (us.getD (pick0 g (gtr (lok us A b) 0 g)).2.2.1.toNat (0, 0, 0)) (pick0 g (gtr (lok us A b) 0 g)).2.2.2 (pick0 g (gtr (lok us A b) 0 g)).2.2.1.toNat)).1.v ≠ 0 ∨
         (srch us g fin two k s (setN A (pick0 g (gtr (lok us A b) 0 g)).2.2.1.toNat (pick0 g (gtr (lok us A b) 0 g)).2.2.2) (bwa b (us.getD (pick0 g (gtr (lok us A b) 0 g)).2.2.1.toNat (0, 0, 0)) (pick0 g (gtr (lok us A b) 0 g)).2.2.2 (pick0 g (gtr (lok us A b) 0 g)).2.2.1.toNat)).1.nd (pick0 g (gtr (lok us A b) 0 g)).2.2.1.toNat = false
      then srch us g fin two k s (setN A (pick0 g (gtr (lok us A b) 0 g)).2.2.1.toNat (pick0 g (gtr (lok us A b) 0 g)).2.2.2) (bwa b (us.getD (pick0 g (gtr (lok us A b) 0 g)).2.2.1.toNat (0, 0, 0)) (pick0 g (gtr (lok us A b) 0 g)).2.2.2 (pick0 g (gtr (lok us A b) 0 g)).2.2.1.toNat)
      else
        let h := srch us g fin two k s (setN A (pick0 g (gtr (lok us A b) 0 g)).2.2.1.toNat (pick0 g (gtr (lok us A b) 0 g)).2.2.2) (bwa b (us.getD (pick0 g (gtr (lok us A b) 0 g)).2.2.1.toNat (0, 0, 0)) (pick0 g (gtr (lok us A b) 0 g)).2.2.2 (pick0 g (gtr (lok us A b) 0 g)).2.2.1.toNat)
        let o := srch us g fin two k h.2 (setN A (pick0 g (gtr (lok us A b) 0 g)).2.2.1.toNat (tnot (pick0 g (gtr (lok us A b) 0 g)).2.2.2)) (bwa b (us.getD (pick0 g (gtr (lok us A b) 0 g)).2.2.1.toNat (0, 0, 0)) (tnot (pick0 g (gtr (lok us A b) 0 g)).2.2.2) (pick0 g (gtr (lok us A b) 0 g)).2.2.1.toNat)
        if o.1.v ≠ 0 ∨ o.1.nd (pick0 g (gtr (lok us A b) 0 g)).2.2.1.toNat = false then o
        else (two (pick0 g (gtr (lok us A b) 0 g)).2.2.1.toNat (pick0 g (gtr (lok us A b) 0 g)).2.2.2 h.1 o.1, o.2)
variable {us : List Atm} {g : List Pt} {fin : (Nat → Int) → Bd → En} {two : Nat → Int → En → En → En}
/-- One step of it, in words. -/
theorem srch_step (k s : Nat) (A : Nat → Int) (b : Bd) : srch us g fin two (k + 1) (s + 1) A b =
    (if (gtr (lok us A b) 0 g).headD 0 = 1 then (⟨1, [], fun _ => false, bmd b⟩, s)
    else if (gtr (lok us A b) 0 g).headD 0 = 2 then (fin A b, s)
    else
      let n := (pick0 g (gtr (lok us A b) 0 g)).2.2.1.toNat
      let w := (pick0 g (gtr (lok us A b) 0 g)).2.2.2
      let h := srch us g fin two k s (setN A n w) (bwa b (us.getD n (0, 0, 0)) w n)
      if h.1.v ≠ 0 ∨ h.1.nd n = false then h
      else
        let o := srch us g fin two k h.2 (setN A n (tnot w)) (bwa b (us.getD n (0, 0, 0)) (tnot w) n)
        if o.1.v ≠ 0 ∨ o.1.nd n = false then o else (two n w h.1 o.1, o.2)) := by
  rw [srch]
/- The literal that is picked is open. -/
theorem spk_open (parts : List Int) (G : List Pt) (hv : ∀ p x, G[p]? = some x → parts.getD p 0 = 0 → (x.1 = 4) ∨ ((x.1 = 2 ∨ x.1 = 3) ∧ p + 1 < G.length ∧ x.2.1.toNat < G.length ∧ p < x.2.1.toNat ∧ (parts.getD (p + 1) 0 = 0 ∨ parts.getD x.2.1.toNat 0 = 0))) :
    ∀ (rest : List Pt) (p : Nat) (ro : List Int) (c : Pt) (f : Bool), (∀ j, rest[j]? = G[p + j]?) → p + rest.length = G.length → ro.length = G.length → (f = true ∨ ∃ q, p ≤ q ∧ q < G.length ∧ parts.getD q 0 = 0 ∧ ro.getD q 0 ≠ 0) →
      (f = true → ∃ q, G[q]? = some c ∧ parts.getD q 0 = 0 ∧ c.1 = 4) → ∃ q, G[q]? = some (spk parts p rest ro c f) ∧ parts.getD q 0 = 0 ∧ (spk parts p rest ro c f).1 = 4
  | [], p, ro, c, f, hr, hl, hro, hq, hc => by
    rcases hq with hq | ⟨q, h1, h2, _⟩
    · exact hc hq
    · simp at hl; omega
  | x :: r, p, ro, c, f, hr, hl, hro, hq, hc => by
    have hx : G[p]? = some x := by have := hr 0; simpa using this.symm
    have hr' : ∀ j, r[j]? = G[p + 1 + j]? := fun j => by have := hr (j + 1); rw [show p + 1 + j = p + (j + 1) by omega, ← this]; simp
    have hl' : p + 1 + r.length = G.length := by simp only [List.length_cons] at hl; omega
    have hpl : p < G.length := by simp only [List.length_cons] at hl; omega
    unfold spk
    by_cases h0 : parts.getD p 0 ≠ 0 ∨ ro.getD p 0 = 0
    · rw [if_pos h0]
      refine spk_open parts G hv r (p + 1) ro c f hr' hl' hro ?_ hc
      rcases hq with hq | ⟨q, h1, h2, h3, h4⟩
      · exact Or.inl hq
      · by_cases e : p = q
        · subst e; rcases h0 with h0 | h0
          · exact absurd h3 h0
          · exact absurd h0 h4
        · exact Or.inr ⟨q, by omega, h2, h3, h4⟩
    · rw [if_neg h0]
      have h1 : parts.getD p 0 = 0 := by
        by_cases e : parts.getD p 0 = 0
        · exact e
        · exact absurd (Or.inl e) h0
      have h2 : ro.getD p 0 ≠ 0 := fun e => h0 (Or.inr e)
      have keep : ∀ v : Int, v ≠ 0 → p + 1 < G.length → x.2.1.toNat < G.length → p < x.2.1.toNat → (parts.getD (p + 1) 0 = 0 ∨ parts.getD x.2.1.toNat 0 = 0) → ∃ q, p + 1 ≤ q ∧ q < G.length ∧ parts.getD q 0 = 0 ∧ ((ro.set (p + 1) v).set x.2.1.toNat v).getD q 0 ≠ 0 := by
        intro v hv0 a1 a2 a3 a4
        rcases a4 with a4 | a4
        · refine ⟨p + 1, Nat.le_refl _, a1, a4, ?_⟩
          rw [List.getD_eq_getElem?_getD, List.getElem?_set]
          split
          · rw [if_pos (by simp; omega)]; exact hv0
          · rw [List.getElem?_set, if_pos rfl, if_pos (by omega)]; exact hv0
        · refine ⟨x.2.1.toNat, by omega, a2, a4, ?_⟩
          rw [List.getD_eq_getElem?_getD, List.getElem?_set, if_pos rfl, if_pos (by simp; omega)]
          exact hv0
      rcases hv p x hx h1 with hk | ⟨hk, a1, a2, a3, a4⟩
      · rw [if_neg (by omega), if_neg (by omega), if_pos hk]
        split
        · exact ⟨p, hx, h1, hk⟩
        · split
          · rename_i hff
            exact spk_open parts G hv r (p + 1) ro c f hr' hl' hro (Or.inl hff) hc
          · exact spk_open parts G hv r (p + 1) ro x true hr' hl' hro (Or.inl rfl) (fun _ => ⟨p, hx, h1, hk⟩)
      · by_cases k2 : x.1 = 2
        · rw [if_pos k2]
          exact spk_open parts G hv r (p + 1) _ c f hr' hl' (by simp [hro]) (Or.inr (keep _ h2 a1 a2 a3 a4)) hc
        · have k3 : x.1 = 3 := by omega
          rw [if_neg k2, if_pos k3]
          split
          · exact spk_open parts G hv r (p + 1) _ c f hr' hl' (by simp [hro]) (Or.inr (keep _ h2 a1 a2 a3 a4)) hc
          · exact spk_open parts G hv r (p + 1) _ c f hr' hl' (by simp [hro]) (Or.inr (keep 1 (by decide) a1 a2 a3 a4)) hc
end Go.Proofs.YtkinoehmcfhgbaaGreatDoor.Vl
set_option linter.unusedVariables false
set_option linter.unusedSimpArgs false
namespace Go.Proofs.YtkinoehmcfhgbaaGreatDoor.Vl
open Go.RowKit

/-- A proof by two branches. -/
def spt (n : Nat) (h f : List UInt8) : List UInt8 := if 200000 < h.length then h else if 200000 < f.length then f else 63 :: (Lib.itoa n ++ 58 :: (h ++ f))

attribute [local go_sem high] run_catO
set_option maxRecDepth 100000 in
set_option maxHeartbeats 2000000 in
theorem splitText_any (n : Nat) (h f : List UInt8) (w : World) (hn : n ≤ 4000) (h1 : h.length ≤ 10000000) (h2 : f.length ≤ 10000000) (hg : Gt w) :
    Calls Tryz.prog 188 #[.int .i64 n, .string ⟨h.toArray⟩, .string ⟨f.toArray⟩] w fun e w' => e = .returned (.string ⟨(spt n h f).toArray⟩) ∧ Below w.heap.size w w' := by
  have hz1 : (⟨h.toArray⟩ : ByteArray).size = h.length := by simp [ByteArray.size]
  have hz2 : (⟨f.toArray⟩ : ByteArray).size = f.length := by simp [ByteArray.size]
  by_cases e1 : 200000 < h.length
  · have e1' : (200000 : Int) < (h.length : Int) := by omega
    go_enter Tryz.func188, Tryz.ntmps188
    go_wp2
    go_ret
    exact ⟨by unfold spt; rw [if_pos e1]; rfl, Below.refl _ _⟩
  · have e1' : ¬ (200000 : Int) < (h.length : Int) := by omega
    by_cases e2 : 200000 < f.length
    · have e2' : (200000 : Int) < (f.length : Int) := by omega
      go_enter Tryz.func188, Tryz.ntmps188
      go_wp2
      go_ret
      exact ⟨by unfold spt; rw [if_neg e1, if_pos e2]; rfl, Below.refl _ _⟩
    · have e2' : ¬ (200000 : Int) < (f.length : Int) := by omega
      have hil := itoa_len7 (n := (n : Int)) (by omega) (by omega)
      have CI : Hid (∀ X, Below w.heap.size w X → Calls Tryz.prog 144 #[.int .i64 n] X fun e w' => e = .returned (.string ⟨(Lib.itoa n).toArray⟩) ∧ Below X.heap.size X w') := fun X hX => itoaN_any n (by omega) (by omega) X (hg.on hX)
      have hs : spt n h f = 63 :: (Lib.itoa n ++ 58 :: (h ++ f)) := by unfold spt; rw [if_neg e1, if_neg e2]
      rw [hs]
      clear hs
      generalize Lib.itoa (n : Int) = D at *
      have q1 : Sh ⟨#[63]⟩ := by unfold Sh; show 1 ≤ 100000000; omega
      have q2 : Sh ⟨D.toArray⟩ := sh_l (by omega)
      have hDz : (⟨D.toArray⟩ : ByteArray).size = D.length := by simp [ByteArray.size]
      have q3 : Sh ((⟨#[63]⟩ : ByteArray) ++ ⟨D.toArray⟩) := sh_app (by rw [hDz]; show 1 + D.length ≤ 100000000; omega)
      have q4 : Sh ⟨#[58]⟩ := by unfold Sh; show 1 ≤ 100000000; omega
      have q5 : Sh ((⟨#[63]⟩ : ByteArray) ++ ⟨D.toArray⟩ ++ ⟨#[58]⟩) := sh_app (by rw [ByteArray.size_append', hDz]; show 1 + D.length + 1 ≤ 100000000; omega)
      have q6 : Sh ⟨h.toArray⟩ := sh_l (by omega)
      have q7 : Sh ((⟨#[63]⟩ : ByteArray) ++ ⟨D.toArray⟩ ++ ⟨#[58]⟩ ++ ⟨h.toArray⟩) := sh_app (by rw [ByteArray.size_append', ByteArray.size_append', hDz, hz1]; show 1 + D.length + 1 + h.length ≤ 100000000; omega)
      have q8 : Sh ⟨f.toArray⟩ := sh_l (by omega)
      clear hDz
      go_enter Tryz.func188, Tryz.ntmps188
      go_wp2_with (first | (go_at_call 144; refine Calls.mono (CI.out _ (Below.refl _ _)) ?_; rintro e w3 ⟨rfl, hb3⟩))
      go_ret
      refine ⟨?_, hb3⟩
      have a1 : (⟨#[63]⟩ : ByteArray) ++ ⟨D.toArray⟩ = ⟨([63] ++ D).toArray⟩ := str_app [63] D
      have a2 : (⟨([63] ++ D).toArray⟩ : ByteArray) ++ ⟨#[58]⟩ = ⟨(([63] ++ D) ++ [58]).toArray⟩ := str_app ([63] ++ D) [58]
      rw [a1, a2, str_app, str_app]
      simp

/-- A set of numbers, in nine words. -/
structure SetR (ws : List Nat) (nd : Nat → Bool) : Prop where
  len : ws.length = 9
  lt : ∀ x ∈ ws, x < 18446744073709551616
  bit : ∀ n, n < 576 → (ws.getD (n / 64) 0).testBit (n % 64) = nd n
def SetAt (w : World) (b o : Nat) (ws : List Nat) : Prop := b < w.heap.size ∧ ∀ (i x : Nat), ws[i]? = some x → w.cell? ⟨b, o + i, none⟩ = some (.int .u64 (x : Int))
set_option maxRecDepth 100000 in
set_option maxHeartbeats 2000000 in
theorem has_any (w : World) (b o n : Nat) (ws : List Nat) (nd : Nat → Bool) (hs : SetR ws nd) (ha : SetAt w b o ws) (hn : n < 576) :
    Calls Tryz.prog 184 #[.pointer (some ⟨b, o, none⟩), .int .i64 n] w fun e w' => e = .returned (.bool (nd n)) ∧ w = w' := by
  have hq : (n : Int).tdiv 64 = ((n / 64 : Nat) : Int) := rfl
  have hr : (n : Int).tmod 64 = ((n % 64 : Nat) : Int) := rfl
  have hlt : n / 64 < ws.length := by rw [hs.len]; omega
  have hc := ha.2 (n / 64) _ (List.getElem?_eq_getElem hlt)
  have hb := hs.bit n hn
  have hx := hs.lt _ (List.getElem_mem hlt)
  rw [List.getD_eq_getElem?_getD, List.getElem?_eq_getElem hlt] at hb
  dsimp only [Option.getD_some] at hb
  generalize ws[n / 64] = x at *
  have hq9 : ((n / 64 : Nat) : Int) < 9 := by omega
  have hr64 : n % 64 < 64 := by omega
  generalize n / 64 = q at *
  generalize n % 64 = r at *
  go_enter Tryz.func184, Tryz.ntmps184
  go_wp2
  go_ret
  refine ⟨?_, rfl⟩
  have e : bits .and .u64 ((x : Int) / 2 ^ r) 1 = (((x / 2 ^ r) &&& 1 : Nat) : Int) := by
    have h := bits_and_u64_nat (x / 2 ^ r) 1 (Nat.lt_of_le_of_lt (Nat.div_le_self _ _) hx) (by decide)
    rw [← h]
    congr 1
  show Ending.returned (.bool (bits .and .u64 ((x : Int) / 2 ^ r) 1 == 1)) = _
  rw [e, ← hb, Nat.and_one_is_mod, Nat.testBit_eq_decide_div_mod_eq]
  congr 2
  rcases Nat.mod_two_eq_zero_or_one (x / 2 ^ r) with h | h <;> rw [h] <;> rfl

/-- A number more. -/
def adw (ws : List Nat) (n : Nat) : List Nat := ws.set (n / 64) (ws.getD (n / 64) 0 ||| 2 ^ (n % 64))
theorem SetR.add {ws : List Nat} {nd : Nat → Bool} (h : SetR ws nd) (n : Nat) (hn : n < 576) : SetR (adw ws n) (fun i => nd i || i == n) := by
  have hlt : n / 64 < ws.length := by rw [h.len]; omega
  have h64 : n % 64 < 64 := by omega
  refine ⟨by unfold adw; rw [List.length_set, h.len], fun x hx => ?_, fun i hi => ?_⟩
  · rcases List.mem_or_eq_of_mem_set hx with hx | rfl
    · exact h.lt x hx
    · have h1 : ws.getD (n / 64) 0 < 2 ^ 64 := by
        rw [List.getD_eq_getElem?_getD, List.getElem?_eq_getElem hlt]
        exact h.lt _ (List.getElem_mem hlt)
      have h2 : 2 ^ (n % 64) < 2 ^ 64 := Nat.pow_lt_pow_right (by decide) h64
      exact Nat.or_lt_two_pow h1 h2
  · have hb := h.bit i hi
    rw [← hb]
    unfold adw
    by_cases e : n / 64 = i / 64
    · rw [List.getD_eq_getElem?_getD, List.getElem?_set, if_pos e, if_pos hlt, Option.getD_some, Nat.testBit_or, Nat.testBit_two_pow, e]
      congr 1
      rw [Bool.eq_iff_iff]
      simp
      omega
    · rw [List.getD_eq_getElem?_getD, List.getElem?_set, if_neg e, ← List.getD_eq_getElem?_getD]
      have : (i == n) = false := by rw [beq_eq_false_iff_ne]; omega
      rw [this, Bool.or_false]
set_option maxRecDepth 100000 in
set_option maxHeartbeats 2000000 in
theorem add_any (w : World) (b o n : Nat) (ws : List Nat) (nd : Nat → Bool) (hs : SetR ws nd) (ha : SetAt w b o ws) (hfr : ∀ i, w.frozen? ⟨b, i, none⟩ = false) (hn : n < 576) :
    Calls Tryz.prog 185 #[.pointer (some ⟨b, o, none⟩), .int .i64 n] w fun e w' => e = .returned (.tuple #[]) ∧ w' = (w.setCell ⟨b, o + n / 64, none⟩ (.int .u64 ((ws.getD (n / 64) 0 ||| 2 ^ (n % 64) : Nat) : Int))).drew := by
  have hq : (n : Int).tdiv 64 = ((n / 64 : Nat) : Int) := rfl
  have hr : (n : Int).tmod 64 = ((n % 64 : Nat) : Int) := rfl
  have hlt : n / 64 < ws.length := by rw [hs.len]; omega
  have hc := ha.2 (n / 64) _ (List.getElem?_eq_getElem hlt)
  have hx := hs.lt _ (List.getElem_mem hlt)
  rw [List.getD_eq_getElem?_getD, List.getElem?_eq_getElem hlt]
  dsimp only [Option.getD_some]
  generalize ws[n / 64] = x at *
  have hq9 : ((n / 64 : Nat) : Int) < 9 := by omega
  have hr64 : n % 64 < 64 := by omega
  generalize n / 64 = q at *
  generalize n % 64 = r at *
  have hfq := hfr (o + q)
  have he : bits .or .u64 (x : Int) (IntKind.u64.wrap (2 ^ r)) = ((x ||| 2 ^ r : Nat) : Int) := by
    have h2 : 2 ^ r < 2 ^ 64 := Nat.pow_lt_pow_right (by decide) hr64
    rw [← bits_or_u64_nat x (2 ^ r) hx h2]
    congr 1
    have h3 : (2 : Int) ^ r = ((2 ^ r : Nat) : Int) := by simp
    rw [IntKind.wrap_u64, h3]
    generalize 2 ^ r = y at *
    omega
  go_enter Tryz.func185, Tryz.ntmps185
  go_wp2
  go_region
  go_wp2
  go_end0
  exact ⟨rfl, rfl⟩

end Go.Proofs.YtkinoehmcfhgbaaGreatDoor.Vl
