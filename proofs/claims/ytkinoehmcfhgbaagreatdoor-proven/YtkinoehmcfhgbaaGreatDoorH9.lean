/-
  The walk of the prover's weight.
-/
import Derived.Test.YtkinoehmcfhgbaaGreatDoorZ8
import Derived.Test.YtkinoehmcfhgbaaGreatDoorY2
set_option linter.unusedVariables false
set_option linter.unusedSimpArgs false
namespace Go.Proofs.YtkinoehmcfhgbaaGreatDoor.Vl
open Go.RowKit

set_option maxRecDepth 100000 in
set_option maxHeartbeats 4000000 in
theorem weight_any (w0 w : World) (D : PD) (us : List Atm) (g : List Pt) (s n : Nat) (A : Nat → Int) (ats parts : List Int) (kb : Nat) (B : Bd) (i : Nat) (h : PvS w0 w D us g s n A ats parts) (hB : BdAt w kb 0 B) (hok : ∀ a ∈ us, okA a) (hus : us.length ≤ 4000) (h3 : ∀ t ∈ ats, T3 t) (hi : i < us.length)
    (hby : ∀ a ∈ us, ∀ t, (brs B a t).length ≤ 4000) :
    Calls Tryz.prog 265 #[.pointer (some ⟨D.pb, 0, none⟩), .int .i64 (i : Int), .pointer (some ⟨kb, 0, none⟩)] w fun e w' => e = .returned (.int .i64 (gwt us A ats B i)) ∧ Below w.heap.size w w' := by
  have HP : Hid (PvS w0 w D us g s n A ats parts) := h
  have hlk := NM.look h.am i (by omega)
  obtain ⟨c0, c1, c2, c3, c4, c5, c6⟩ := h.cells
  have htc := h.tcell hi
  have hatm := h.atm
  obtain ⟨pb, mb, tb, qb, gb, kk, qa, ca, cg⟩ := D
  dsimp only at *
  rcases hatm with ⟨_, he⟩ | ⟨b, cap, hv, hc1, hc2, hb, hcells⟩
  · rw [he] at hi; simp at hi
  · cases hv
    obtain ⟨⟨a1, a2, a3⟩, hx⟩ : ∃ x, us[i]? = some x := ⟨_, List.getElem?_eq_getElem hi⟩
    obtain ⟨z1, z2, z3⟩ := hcells i _ hx
    dsimp only at z1 z2 z3
    have hoa := hok _ (List.mem_of_getElem? hx)
    have hi' : (i : Int) < (us.length : Int) := by omega
    have HE : Hid (gwt us A ats B i = if A i ≠ 0 then 1 else 2 + ((brs B (a1, a2, a3) (ats.getD i 0)).length : Int)) := by
      show _ = _
      unfold gwt
      rw [List.getD_eq_getElem?_getD (l := us), hx, Option.getD_some]
    have ht3 : T3 (ats.getD i 0) := by
      rw [List.getD_eq_getElem?_getD]
      cases he : ats[i]? with
      | none => exact Or.inl rfl
      | some t => exact h3 t (List.mem_of_getElem? he)
    have hbl := hby _ (List.mem_of_getElem? hx) (ats.getD i 0)
    have CR : Hid (∀ X, Below w.heap.size w X → Calls Tryz.prog 186 #[.pointer (some ⟨kb, 0, none⟩), .agg #[.int .i64 a1, .int .i64 a2, .int .i64 a3], .int .i8 (ats.getD i 0)] X fun e w' => ∃ v, e = .returned v ∧ IntsR w' v ((brs B (a1, a2, a3) (ats.getD i 0)).map fun (n : Nat) => (n : Int)) ∧ Below X.heap.size X w') := fun X hX => by
      obtain ⟨o1, o2, o3, o4, o5, o6⟩ := hoa
      dsimp only at *
      obtain ⟨l, rfl⟩ : ∃ l : Nat, a1 = (l : Int) := ⟨a1.toNat, by omega⟩
      obtain ⟨r, rfl⟩ : ∃ r : Nat, a2 = (r : Int) := ⟨a2.toNat, by omega⟩
      exact reason_any X kb B l r a3 _ (hB.below hX) (by omega) (by omega) ⟨o5, o6⟩ ht3
    have hbd := (Below.refl w.heap.size w).drew
    have HLT : Hid (pb < w.heap.size ∧ tb < w.heap.size) := ⟨HP.out.box.lt, HP.out.tr.lt⟩
    clear h hcells hx
    by_cases hAi : A i ≠ 0
    · have hd : decide (A i ≠ 0) = true := decide_eq_true hAi
      rw [hd] at hlk
      have HV : Hid (gwt us A ats B i = 1) := by show _ = _; rw [HE.out, if_pos hAi]
      clear hAi hd HE
      generalize A i = ai at *
      go_enter Tryz.func265, Tryz.ntmps265
      go_wp2_with fail
      go_ret
      exact ⟨by rw [HV.out]; rfl, Below.refl _ _⟩
    · have hd : decide (A i ≠ 0) = false := decide_eq_false hAi
      rw [hd] at hlk
      have HV : Hid (gwt us A ats B i = 2 + ((brs B (a1, a2, a3) (ats.getD i 0)).length : Int)) := by show _ = _; rw [HE.out, if_neg hAi]
      clear hAi hd HE
      generalize A i = ai at *
      go_enter Tryz.func265, Tryz.ntmps265
      generalize brs B (a1, a2, a3) (ats.getD i 0) = L at *
      generalize ats.getD i 0 = t at *
      have hw2 : IntKind.i64.wrap (2 + (L.length : Int)) = 2 + (L.length : Int) := IntWalk.i64_in _ (by omega)
      go_wp2_with fail
      go_region_held3 (fun X => X.cell? ⟨pb, 1, none⟩ = some (.slice (some ⟨b, 0, none⟩) us.length ca) ∧ X.cell? ⟨pb, 5, none⟩ = some (.slice (some ⟨tb, 0, none⟩) us.length us.length) ∧ X.cell? ⟨b, i * 3, none⟩ = some (.int .i64 a1) ∧ X.cell? ⟨b, i * 3 + 1, none⟩ = some (.int .i64 a2) ∧ X.cell? ⟨b, i * 3 + 2, none⟩ = some (.int .i64 a3) ∧ X.cell? ⟨tb, i, none⟩ = some (.int .i8 t)) (first | exact ⟨c1, c5, z1, z2, z3, htc⟩ | exact ⟨y1, y2, y3, y4, y5, y6⟩) (first | (go_at_call 186; refine (CR.out _ hbd).mono ?_; rintro e w3 ⟨v, rfl, hv3, hb3⟩; obtain ⟨vp, vc, rfl⟩ : ∃ p c, v = .slice p L.length c := (by rcases hv3 with ⟨rfl, e⟩ | ⟨q, c, rfl, _⟩; exact ⟨none, 0, by rw [List.map_eq_nil_iff.1 e]; rfl⟩; exact ⟨_, _, by rw [List.length_map]⟩); have y1 := (hb3.cell (p := ⟨pb, 1, none⟩) HLT.out.1).trans c1; have y2 := (hb3.cell (p := ⟨pb, 5, none⟩) HLT.out.1).trans c5; have y3 := (hb3.cell (p := ⟨b, i * 3, none⟩) hb).trans z1; have y4 := (hb3.cell (p := ⟨b, i * 3 + 1, none⟩) hb).trans z2; have y5 := (hb3.cell (p := ⟨b, i * 3 + 2, none⟩) hb).trans z3; have y6 := (hb3.cell (p := ⟨tb, i, none⟩) HLT.out.2).trans htc))
      go_wp2_with fail
      go_ret
      exact ⟨by rw [HV.out]; rfl, hbd.trans (hb3.mono hbd.size)⟩
end Go.Proofs.YtkinoehmcfhgbaaGreatDoor.Vl
