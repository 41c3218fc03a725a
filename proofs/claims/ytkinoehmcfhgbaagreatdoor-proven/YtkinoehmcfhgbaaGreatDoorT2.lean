/-
  The walk of the document's figure: an atom's number within a proof.
-/
import Derived.Test.YtkinoehmcfhgbaaGreatDoorN5
import Derived.Deep.QuietTactic
import Derived.BigQuiet
import Derived.Deep.RegionHeld3
set_option linter.unusedVariables false
set_option linter.unusedSimpArgs false
namespace Go.Proofs.YtkinoehmcfhgbaaGreatDoor.Vl
open Go.RowKit

/-- The document's Look in memory. -/
def LkAt (w : World) (b : Nat) (s : ByteArray) (vL vB : Value) (P : ByteArray) (k : Nat) (bad : Bool) : Prop :=
  w.heap[b]? = some (.cells #[.string s, vL, vB, .string P, .int .i64 (k : Int), .bool bad] 169 (0, 0))
variable {w w' : World} {b k : Nat} {s P : ByteArray} {vL vB : Value} {bad : Bool}
theorem LkAt.cells (h : LkAt w b s vL vB P k bad) : w.cell? ⟨b, 0, none⟩ = some (.string s) ∧ w.cell? ⟨b, 1, none⟩ = some vL ∧ w.cell? ⟨b, 2, none⟩ = some vB ∧ w.cell? ⟨b, 3, none⟩ = some (.string P) ∧ w.cell? ⟨b, 4, none⟩ = some (.int .i64 (k : Int)) ∧ w.cell? ⟨b, 5, none⟩ = some (.bool bad) := by
  unfold LkAt at h
  simp [World.cell?, h]
theorem LkAt.free (h : LkAt w b s vL vB P k bad) (o : Nat) : w.frozen? ⟨b, o, none⟩ = false := Lib.frozen_of_heap h o
theorem LkAt.goto (h : LkAt w b s vL vB P k bad) (j : Nat) : LkAt (w.setCell ⟨b, 4, none⟩ (.int .i64 (j : Int))) b s vL vB P j bad := heap_setCell_same w b 4 _ _ _ h
theorem LkAt.spoil (h : LkAt w b s vL vB P k bad) (x : Bool) : LkAt (w.setCell ⟨b, 5, none⟩ (.bool x)) b s vL vB P k x := heap_setCell_same w b 5 _ _ _ h
theorem grown_cell (w : World) (b o : Nat) (v : Value) : w.grownBy (w.setCell ⟨b, o, none⟩ v) (some b) := ⟨rfl, rfl, rfl, by simp [World.setCell], fun j _ hj => Below.heap_setCell w ⟨b, o, none⟩ v j (fun e => hj (by rw [e]))⟩
theorem LkAt.dspoil (h : LkAt w b s vL vB P k bad) (n : Nat) (x : Bool) : LkAt ((w.drewN n).setCell ⟨b, 5, none⟩ (.bool x)) b s vL vB P k x := LkAt.spoil (w := w.drewN n) h x
theorem LkAt.dgoto (h : LkAt w b s vL vB P k bad) (n j : Nat) : LkAt ((w.drewN n).setCell ⟨b, 4, none⟩ (.int .i64 ((j : Int) + 1))) b s vL vB P (j + 1) bad := LkAt.goto (w := w.drewN n) h (j + 1)
theorem grown_to {w wr : World} {b : Nat} (hg : w.grownBy wr (some b)) (n o : Nat) (v : Value) : w.grownBy ((wr.drewN n).setCell ⟨b, o, none⟩ v) (some b) := by
  have h1 : w.grownBy (wr.drewN n) (some b) := hg.trans ⟨rfl, rfl, rfl, Nat.le_refl _, fun _ _ _ => rfl⟩
  exact h1.trans (grown_cell _ _ _ _)
theorem dlen_at : ∀ (l : List UInt8) (j : Nat), j < dlen l → ∃ c, l[j]? = some c ∧ isd c = true
  | [], j, h => by simp [dlen] at h
  | c :: r, j, h => by
    unfold dlen at h
    split at h
    · rename_i hc
      cases j with
      | zero => exact ⟨c, rfl, hc⟩
      | succ j =>
        obtain ⟨d, h1, h2⟩ := dlen_at r j (by omega)
        exact ⟨d, by simpa using h1, h2⟩
    · omega
theorem dlen_next : ∀ (l : List UInt8) (c : UInt8), l[dlen l]? = some c → isd c = false
  | [], c, h => by simp [dlen] at h
  | d :: r, c, h => by
    unfold dlen at h
    split at h
    · rename_i hc
      exact dlen_next r c (by simpa using h)
    · rename_i hc
      simp at h
      subst h
      simpa using hc
/-- Where the Look stands. -/
def lkPos (w : World) (b : Nat) : Nat := match w.cell? ⟨b, 4, none⟩ with | some (.int _ x) => x.toNat | _ => 0
theorem lkPos_of (h : LkAt w b s vL vB P k bad) : lkPos w b = k := by unfold lkPos; rw [h.cells.2.2.2.2.1]; simp
theorem rest_get (P : ByteArray) (k j : Nat) (h : k + j < P.size) : (rest P k)[j]? = some P[k + j] := by
  unfold rest
  rw [List.getElem?_drop]
  simp [h]
  rfl

set_option maxRecDepth 100000 in
set_option maxHeartbeats 4000000 in
theorem figure_any (w : World) (b k N cap : Nat) (s P : ByteArray) (q : Option Addr) (vB : Value) (en : UInt8) (hP : P.size ≤ 200000) (hk : k ≤ P.size) (hN : N ≤ 4000) (h : LkAt w b s (.slice q N cap) vB P k false) :
    Calls Tryz.prog 121 #[.pointer (some ⟨b, 0, none⟩), .int .u8 (en.toNat : Int)] w fun e w' => w.grownBy w' (some b) ∧
      ((∃ n r, fig N (rest P k) = some (n, en :: r) ∧ r = rest P (k + dlen (rest P k) + 1) ∧ e = .returned (.int .i64 (n : Int)) ∧ LkAt w' b s (.slice q N cap) vB P (k + dlen (rest P k) + 1) false) ∨
       ((∀ n r, fig N (rest P k) ≠ some (n, en :: r)) ∧ e = .returned (.int .i64 0) ∧ ∃ k', LkAt w' b s (.slice q N cap) vB P k' true)) := by
  have hdl : k + dlen (rest P k) ≤ P.size := by have := dlen_le (rest P k); rw [rest_len] at this; omega
  have HL : Hid _ := h
  obtain ⟨c0, c1, c2, c3, c4, c5⟩ := h.cells
  go_enter Tryz.func121, Tryz.ntmps121
  go_wp2_with fail
  clear c0 c1 c2 c3 c4 c5 h
  go_loopw [] (fun wr => ∃ j : Nat, j ≤ dlen (rest P k) ∧ LkAt wr b s (.slice q N cap) vB P (k + j) false ∧ w.grownBy wr (some b)) (fun wr => P.size - lkPos wr b)
  case atStart => exact ⟨0, Nat.zero_le _, HL.out, World.grownBy.refl _ _⟩
  case round =>
    obtain ⟨j, hj, hA, hg⟩ := hrel
    obtain ⟨c0, c1, c2, c3, c4, c5⟩ := hA.cells
    have f4 := hA.free 4
    have f5 := hA.free 5
    obtain ⟨t, ht⟩ : ∃ t, t = k + j := ⟨_, rfl⟩
    rw [← ht] at hA c4
    by_cases hlt : j < dlen (rest P k)
    · obtain ⟨c, h1, h2⟩ := dlen_at _ _ hlt
      have hin : t < P.size := by omega
      have hin' : (t : Int) < (P.size : Int) := by omega
      rw [rest_get P k j (by omega)] at h1
      have hcc : P[t] = c := by subst ht; exact Option.some.inj h1
      unfold isd at h2
      rw [Bool.and_eq_true] at h2
      have g1 : (48 : Int) ≤ (P[t].toNat : Int) := by rw [hcc]; exact of_decide_eq_true h2.1
      have g2 : (P[t].toNat : Int) ≤ (57 : Int) := by rw [hcc]; exact of_decide_eq_true h2.2
      have HA : Hid _ := hA
      have HG : Hid (w.grownBy wr (some b)) := hg
      have HT : Hid (t = k + j) := ht
      clear hg h1 h2 hcc ht
      go_wp2_with fail
      go_quiet (fail)
      go_wp2_with fail
      have hA2 : LkAt (wr.drewN nq) b s (.slice q N cap) vB P t false := HA.out
      have hA3 := hA2.goto (t + 1)
      have e1 : ((t : Int) + 1) = ((t + 1 : Nat) : Int) := rfl
      rw [e1]
      refine ⟨⟨j + 1, by omega, ?_, ?_⟩, ?_⟩
      · rw [show k + (j + 1) = t + 1 by have := HT.out; omega]; exact hA3
      · have g0 : w.grownBy (wr.drewN nq) (some b) := HG.out.trans ⟨rfl, rfl, rfl, Nat.le_refl _, fun _ _ _ => rfl⟩
        exact g0.trans (grown_cell _ _ _ _)
      · have hA4 : LkAt wr b s (.slice q N cap) vB P t false := HA.out
        rw [lkPos_of hA3, lkPos_of hA4]; omega
    · have hjd : j = dlen (rest P k) := by omega
      have CD : Hid (∀ X, Calls Tryz.prog 146 #[.string (P.extract k t), .int .i64 4000] X fun e w' => e = .returned (.int .i64 (dg 4000 ((rest P k).take (dlen (rest P k))))) ∧ w' = X) := fun X => by
        have := digits_any (P.extract k t) X 4000 (by have := ByteArray.size_extract (a := P) (b := k) (e := t); omega) (by omega) (by omega)
        rw [extract_rest, show t - k = dlen (rest P k) by omega] at this
        exact this.mono fun e w' h => ⟨h.1, h.2.symm⟩
      have HF : Hid (∀ n r, fig N (rest P k) = some (n, r) → r = rest P t ∧ (n : Int) = dg 4000 ((rest P k).take (dlen (rest P k))) ∧ n < N) := fun n r h => by
        obtain ⟨h1, h2, h3⟩ := fig_lt h
        exact ⟨by rw [h2, rest_drop, ← hjd, ← ht], h3, h1⟩
      have HF2 : Hid (0 ≤ dg 4000 ((rest P k).take (dlen (rest P k))) → dg 4000 ((rest P k).take (dlen (rest P k))) < (N : Int) → fig N (rest P k) = some ((dg 4000 ((rest P k).take (dlen (rest P k)))).toNat, rest P t)) := fun h1 h2 => by
        unfold fig
        rw [if_pos ⟨h1, h2⟩, rest_drop, ← hjd, ← ht]
      have hnd : ∀ (h : t < P.size), ¬ ((48 : Int) ≤ (P[t].toNat : Int) ∧ (P[t].toNat : Int) ≤ 57) := fun h ⟨a1, a2⟩ => by
        have h1 := dlen_next (rest P k) P[t] (by rw [← hjd, rest_get P k j (by omega)]; subst ht; rfl)
        unfold isd at h1
        rw [decide_eq_true a1, decide_eq_true a2] at h1
        cases h1
      have hkt : k ≤ t := by omega
      have htp : t ≤ P.size := by omega
      have hkt' : (k : Int) ≤ (t : Int) := by omega
      have htp' : (t : Int) ≤ (P.size : Int) := by omega
      have HA : Hid (LkAt wr b s (.slice q N cap) vB P t false) := hA
      have HG : Hid (w.grownBy wr (some b)) := hg
      have HT : Hid (t = k + dlen (rest P k)) := by show _ = _; omega
      generalize dg 4000 ((rest P k).take (dlen (rest P k))) = D at *
      clear hg hA ht hjd hlt hj
      have hcase : (¬ t < P.size) ∨ (∃ h : t < P.size, (P[t].toNat : Int) < 48) ∨ (∃ h : t < P.size, (48 : Int) ≤ (P[t].toNat : Int) ∧ 57 < (P[t].toNat : Int)) := by
        by_cases h : t < P.size
        · have := hnd h
          by_cases h2 : (P[t].toNat : Int) < 48
          · exact Or.inr (Or.inl ⟨h, h2⟩)
          · exact Or.inr (Or.inr ⟨h, by omega, by omega⟩)
        · exact Or.inl h
      clear hnd
      rcases hcase with hz | ⟨hz, hz1⟩ | ⟨hz, hz1, hz2⟩
      · have d1 : decide ((t : Int) < (P.size : Int)) = false := decide_eq_false (by omega)
        go_wp2_with fail
        go_quiet (fail)
        go_wp2_with fail
        have c3' : (wr.drewN nq).drew.cell? ⟨b, 3, none⟩ = some (.string P) := c3
        have c4' : (wr.drewN nq).drew.cell? ⟨b, 4, none⟩ = some (.int .i64 (t : Int)) := c4
        go_region_held3 (fun X => X.cell? ⟨b, 3, none⟩ = some (.string P) ∧ X.cell? ⟨b, 4, none⟩ = some (.int .i64 (t : Int))) (simp [*]) (first | (go_at_call 146; refine Calls.mono (CD.out _) ?_; rintro e w' ⟨rfl, rfl⟩))
        go_wp2_with fail
        rcases (show D < 0 ∨ (0 ≤ D ∧ (N : Int) ≤ D) ∨ (0 ≤ D ∧ D < (N : Int)) by omega) with dA | ⟨dA, dB⟩ | ⟨dA, dB⟩
        · have e1 : decide (D < 0) = true := decide_eq_true dA
          go_quiet (fail)
          go_wp2_with fail
          go_ret
          refine ⟨grown_to HG.out _ _ _, Or.inr ⟨fun n r h => ?_, rfl, t, HA.out.dspoil _ true⟩⟩
          obtain ⟨x1, x2, x3⟩ := HF.out _ _ h
          omega
        · have e1 : decide (D < 0) = false := decide_eq_false (by omega)
          have e2 : decide ((N : Int) ≤ D) = true := decide_eq_true dB
          go_quiet (fail)
          go_wp2_with fail
          go_ret
          refine ⟨grown_to HG.out _ _ _, Or.inr ⟨fun n r h => ?_, rfl, t, HA.out.dspoil _ true⟩⟩
          obtain ⟨x1, x2, x3⟩ := HF.out _ _ h
          omega
        · have e0 : True := trivial
          have e1 : decide (D < 0) = false := decide_eq_false (by omega)
          have e2 : decide ((N : Int) ≤ D) = false := decide_eq_false (by omega)
          have e3 : decide ((P.size : Int) ≤ (t : Int)) = true := decide_eq_true (by omega)
          go_quiet (fail)
          go_wp2_with fail
          go_ret
          refine ⟨grown_to HG.out _ _ _, Or.inr ⟨fun n r h => ?_, rfl, t, HA.out.dspoil _ true⟩⟩
          obtain ⟨x1, x2, x3⟩ := HF.out _ _ h
          rw [rest_end P t (by omega)] at x1; cases x1
      · have d1 : decide ((t : Int) < (P.size : Int)) = true := decide_eq_true (by omega)
        have hzi : (t : Int) < (P.size : Int) := by omega
        have d2 : decide ((48 : Int) ≤ (P[t].toNat : Int)) = false := decide_eq_false (by omega)
        go_wp2_with fail
        go_quiet (fail)
        go_wp2_with fail
        have c3' : (wr.drewN nq).drew.cell? ⟨b, 3, none⟩ = some (.string P) := c3
        have c4' : (wr.drewN nq).drew.cell? ⟨b, 4, none⟩ = some (.int .i64 (t : Int)) := c4
        go_region_held3 (fun X => X.cell? ⟨b, 3, none⟩ = some (.string P) ∧ X.cell? ⟨b, 4, none⟩ = some (.int .i64 (t : Int))) (simp [*]) (first | (go_at_call 146; refine Calls.mono (CD.out _) ?_; rintro e w' ⟨rfl, rfl⟩))
        go_wp2_with fail
        rcases (show D < 0 ∨ (0 ≤ D ∧ (N : Int) ≤ D) ∨ (0 ≤ D ∧ D < (N : Int)) by omega) with dA | ⟨dA, dB⟩ | ⟨dA, dB⟩
        · have e1 : decide (D < 0) = true := decide_eq_true dA
          go_quiet (fail)
          go_wp2_with fail
          go_ret
          refine ⟨grown_to HG.out _ _ _, Or.inr ⟨fun n r h => ?_, rfl, t, HA.out.dspoil _ true⟩⟩
          obtain ⟨x1, x2, x3⟩ := HF.out _ _ h
          omega
        · have e1 : decide (D < 0) = false := decide_eq_false (by omega)
          have e2 : decide ((N : Int) ≤ D) = true := decide_eq_true dB
          go_quiet (fail)
          go_wp2_with fail
          go_ret
          refine ⟨grown_to HG.out _ _ _, Or.inr ⟨fun n r h => ?_, rfl, t, HA.out.dspoil _ true⟩⟩
          obtain ⟨x1, x2, x3⟩ := HF.out _ _ h
          omega
        · have e0 : True := trivial
          have e1 : decide (D < 0) = false := decide_eq_false (by omega)
          have e2 : decide ((N : Int) ≤ D) = false := decide_eq_false (by omega)
          have e3 : decide ((P.size : Int) ≤ (t : Int)) = false := decide_eq_false (by omega)
          have htq : (t : Int) < (P.size : Int) := by omega
          cases hce : ((P[t].toNat : Int) == (en.toNat : Int))
          · have hce2 : ((P[t].toNat : Int) != (en.toNat : Int)) = true := by rw [bne, hce]; rfl
            go_quiet (fail)
            go_wp2_with fail
            go_ret
            refine ⟨grown_to HG.out _ _ _, Or.inr ⟨fun n r h => ?_, rfl, t, HA.out.dspoil _ true⟩⟩
            obtain ⟨x1, x2, x3⟩ := HF.out _ _ h
            rw [rest_cons P t hz] at x1
            injection x1 with x4 _
            rw [x4] at hce
            simp at hce
          · have hce2 : ((P[t].toNat : Int) != (en.toNat : Int)) = false := by rw [bne, hce]; rfl
            go_quiet (fail)
            go_wp2_with fail
            go_ret
            have hen : P[t] = en := by
              have := Int.ofNat.inj (of_decide_eq_true hce)
              exact UInt8.toNat_inj.1 this
            refine ⟨grown_to HG.out _ _ _, Or.inl ⟨D.toNat, rest P (t + 1), ?_, ?_, ?_, ?_⟩⟩
            · rw [HF2.out dA dB, rest_cons P t hz, hen]
            · rw [HT.out]
            · rw [show ((D.toNat : Nat) : Int) = D by omega]; rfl
            · rw [← HT.out]; exact HA.out.dgoto _ t
      · have d1 : decide ((t : Int) < (P.size : Int)) = true := decide_eq_true (by omega)
        have hzi : (t : Int) < (P.size : Int) := by omega
        have d2 : decide ((48 : Int) ≤ (P[t].toNat : Int)) = true := decide_eq_true hz1
        have d3 : decide ((P[t].toNat : Int) ≤ (57 : Int)) = false := decide_eq_false (by omega)
        go_wp2_with fail
        go_quiet (fail)
        go_wp2_with fail
        have c3' : (wr.drewN nq).drew.cell? ⟨b, 3, none⟩ = some (.string P) := c3
        have c4' : (wr.drewN nq).drew.cell? ⟨b, 4, none⟩ = some (.int .i64 (t : Int)) := c4
        go_region_held3 (fun X => X.cell? ⟨b, 3, none⟩ = some (.string P) ∧ X.cell? ⟨b, 4, none⟩ = some (.int .i64 (t : Int))) (simp [*]) (first | (go_at_call 146; refine Calls.mono (CD.out _) ?_; rintro e w' ⟨rfl, rfl⟩))
        go_wp2_with fail
        rcases (show D < 0 ∨ (0 ≤ D ∧ (N : Int) ≤ D) ∨ (0 ≤ D ∧ D < (N : Int)) by omega) with dA | ⟨dA, dB⟩ | ⟨dA, dB⟩
        · have e1 : decide (D < 0) = true := decide_eq_true dA
          go_quiet (fail)
          go_wp2_with fail
          go_ret
          refine ⟨grown_to HG.out _ _ _, Or.inr ⟨fun n r h => ?_, rfl, t, HA.out.dspoil _ true⟩⟩
          obtain ⟨x1, x2, x3⟩ := HF.out _ _ h
          omega
        · have e1 : decide (D < 0) = false := decide_eq_false (by omega)
          have e2 : decide ((N : Int) ≤ D) = true := decide_eq_true dB
          go_quiet (fail)
          go_wp2_with fail
          go_ret
          refine ⟨grown_to HG.out _ _ _, Or.inr ⟨fun n r h => ?_, rfl, t, HA.out.dspoil _ true⟩⟩
          obtain ⟨x1, x2, x3⟩ := HF.out _ _ h
          omega
        · have e0 : True := trivial
          have e1 : decide (D < 0) = false := decide_eq_false (by omega)
          have e2 : decide ((N : Int) ≤ D) = false := decide_eq_false (by omega)
          have e3 : decide ((P.size : Int) ≤ (t : Int)) = false := decide_eq_false (by omega)
          have htq : (t : Int) < (P.size : Int) := by omega
          cases hce : ((P[t].toNat : Int) == (en.toNat : Int))
          · have hce2 : ((P[t].toNat : Int) != (en.toNat : Int)) = true := by rw [bne, hce]; rfl
            go_quiet (fail)
            go_wp2_with fail
            go_ret
            refine ⟨grown_to HG.out _ _ _, Or.inr ⟨fun n r h => ?_, rfl, t, HA.out.dspoil _ true⟩⟩
            obtain ⟨x1, x2, x3⟩ := HF.out _ _ h
            rw [rest_cons P t hz] at x1
            injection x1 with x4 _
            rw [x4] at hce
            simp at hce
          · have hce2 : ((P[t].toNat : Int) != (en.toNat : Int)) = false := by rw [bne, hce]; rfl
            go_quiet (fail)
            go_wp2_with fail
            go_ret
            have hen : P[t] = en := by
              have := Int.ofNat.inj (of_decide_eq_true hce)
              exact UInt8.toNat_inj.1 this
            refine ⟨grown_to HG.out _ _ _, Or.inl ⟨D.toNat, rest P (t + 1), ?_, ?_, ?_, ?_⟩⟩
            · rw [HF2.out dA dB, rest_cons P t hz, hen]
            · rw [HT.out]
            · rw [show ((D.toNat : Nat) : Int) = D by omega]; rfl
            · rw [← HT.out]; exact HA.out.dgoto _ t
end Go.Proofs.YtkinoehmcfhgbaaGreatDoor.Vl
