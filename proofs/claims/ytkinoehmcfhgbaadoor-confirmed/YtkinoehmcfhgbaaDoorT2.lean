/-
  The walk of the document's figure: an atom's number within a proof.
  The walk of the program's cycle.
  The walk of the program's proof, where split's contract is given.
-/
import Derived.Test.YtkinoehmcfhgbaaDoorT1
import Derived.Deep.QuietTactic
import Derived.BigQuiet
import Derived.Deep.RegionHeld3
import Derived.Test.YtkinoehmcfhgbaaDoorT7
import Derived.Deep.MidRow
set_option linter.unusedVariables false
set_option linter.unusedSimpArgs false
namespace Go.Proofs.YtkinoehmcfhgbaaDoor.Vl
open Go.RowKit

/-- The document's Look in memory. -/
def LkAt (w : World) (b : Nat) (s : ByteArray) (vL vB : Value) (P : ByteArray) (k : Nat) (bad : Bool) : Prop :=
  w.heap[b]? = some (.cells #[.string s, vL, vB, .string P, .int .i64 (k : Int), .bool bad] 48 (0, 0))
variable {w w' : World} {b k : Nat} {s P : ByteArray} {vL vB : Value} {bad : Bool}
theorem LkAt.cells (h : LkAt w b s vL vB P k bad) : w.cell? ⟨b, 0, none⟩ = some (.string s) ∧ w.cell? ⟨b, 1, none⟩ = some vL ∧ w.cell? ⟨b, 2, none⟩ = some vB ∧ w.cell? ⟨b, 3, none⟩ = some (.string P) ∧ w.cell? ⟨b, 4, none⟩ = some (.int .i64 (k : Int)) ∧ w.cell? ⟨b, 5, none⟩ = some (.bool bad) := by
  unfold LkAt at h
  simp [World.cell?, h]
theorem LkAt.free (h : LkAt w b s vL vB P k bad) (o : Nat) : w.frozen? ⟨b, o, none⟩ = false := Lib.frozen_of_heap h o
theorem LkAt.goto (h : LkAt w b s vL vB P k bad) (j : Nat) : LkAt (w.setCell ⟨b, 4, none⟩ (.int .i64 (j : Int))) b s vL vB P j bad := heap_setCell_same w b 4 _ _ _ h
theorem LkAt.spoil (h : LkAt w b s vL vB P k bad) (x : Bool) : LkAt (w.setCell ⟨b, 5, none⟩ (.bool x)) b s vL vB P k x := heap_setCell_same w b 5 _ _ _ h
theorem grown_cell (w : World) (b o : Nat) (v : Value) : w.grownBy (w.setCell ⟨b, o, none⟩ v) (some b) := ⟨rfl, rfl, rfl, by simp [World.setCell], fun j _ hj => Below.heap_setCell w ⟨b, o, none⟩ v j (fun e => hj (by rw [e]))⟩
theorem LkAt.dspoil (h : LkAt w b s vL vB P k bad) (n : Nat) (x : Bool) : LkAt ((w.drewN n).setCell ⟨b, 5, none⟩ (.bool x)) b s vL vB P k x := LkAt.spoil (w := w.drewN n) h x
theorem LkAt.dgoto (h : LkAt w b s vL vB P k bad) (n j : Nat) : LkAt ((w.drewN n).setCell ⟨b, 4, none⟩ (.int .i64 ((j : Int) + 1))) b s vL vB P (j + 1) bad := LkAt.goto (w := w.drewN n) h (j + 1)
theorem grown_to {w wr : World} {b : Nat} (hg : w.grownBy wr (some b)) (n o : Nat) (v : Value) : w.grownBy ((wr.drewN n).setCell ⟨b, o, none⟩ v) (some b) := by
  have h1 : w.grownBy (wr.drewN n) (some b) := hg.trans ⟨rfl, rfl, rfl, Nat.le_refl _, fun _ _ _ => rfl⟩
  exact h1.trans (grown_cell _ _ _ _)
theorem dlen_at : ∀ (l : List UInt8) (j : Nat), j < dlen l → ∃ c, l[j]? = some c ∧ isd c = true
  | [], j, h => by simp [dlen] at h
  | c :: r, j, h => by
    unfold dlen at h
    split at h
    · rename_i hc
      cases j with
      | zero => exact ⟨c, rfl, hc⟩
      | succ j =>
        obtain ⟨d, h1, h2⟩ := dlen_at r j (by omega)
        exact ⟨d, by simpa using h1, h2⟩
    · omega
theorem dlen_next : ∀ (l : List UInt8) (c : UInt8), l[dlen l]? = some c → isd c = false
  | [], c, h => by simp [dlen] at h
  | d :: r, c, h => by
    unfold dlen at h
    split at h
    · rename_i hc
      exact dlen_next r c (by simpa using h)
    · rename_i hc
      simp at h
      subst h
      simpa using hc
/-- Where the Look stands. -/
def lkPos (w : World) (b : Nat) : Nat := match w.cell? ⟨b, 4, none⟩ with | some (.int _ x) => x.toNat | _ => 0
theorem lkPos_of (h : LkAt w b s vL vB P k bad) : lkPos w b = k := by unfold lkPos; rw [h.cells.2.2.2.2.1]; simp
theorem rest_get (P : ByteArray) (k j : Nat) (h : k + j < P.size) : (rest P k)[j]? = some P[k + j] := by
  unfold rest
  rw [List.getElem?_drop]
  simp [h]
  rfl

set_option maxRecDepth 100000 in
set_option maxHeartbeats 4000000 in
theorem figure_any (w : World) (b k N cap : Nat) (s P : ByteArray) (q : Option Addr) (vB : Value) (en : UInt8) (hP : P.size ≤ 200000) (hk : k ≤ P.size) (hN : N ≤ 4000) (h : LkAt w b s (.slice q N cap) vB P k false) :
    Calls Tryd.prog 32 #[.pointer (some ⟨b, 0, none⟩), .int .u8 (en.toNat : Int)] w fun e w' => w.grownBy w' (some b) ∧
      ((∃ n r, fig N (rest P k) = some (n, en :: r) ∧ r = rest P (k + dlen (rest P k) + 1) ∧ e = .returned (.int .i64 (n : Int)) ∧ LkAt w' b s (.slice q N cap) vB P (k + dlen (rest P k) + 1) false) ∨
       ((∀ n r, fig N (rest P k) ≠ some (n, en :: r)) ∧ e = .returned (.int .i64 0) ∧ ∃ k', LkAt w' b s (.slice q N cap) vB P k' true)) := by
  have hdl : k + dlen (rest P k) ≤ P.size := by have := dlen_le (rest P k); rw [rest_len] at this; omega
  have HL : Hid _ := h
  obtain ⟨c0, c1, c2, c3, c4, c5⟩ := h.cells
  go_enter Tryd.func32, Tryd.ntmps32
  go_wp2_with fail
  clear c0 c1 c2 c3 c4 c5 h
  go_loopw [] (fun wr => ∃ j : Nat, j ≤ dlen (rest P k) ∧ LkAt wr b s (.slice q N cap) vB P (k + j) false ∧ w.grownBy wr (some b)) (fun wr => P.size - lkPos wr b)
  case atStart => exact ⟨0, Nat.zero_le _, HL.out, World.grownBy.refl _ _⟩
  case round =>
    obtain ⟨j, hj, hA, hg⟩ := hrel
    obtain ⟨c0, c1, c2, c3, c4, c5⟩ := hA.cells
    have f4 := hA.free 4
    have f5 := hA.free 5
    obtain ⟨t, ht⟩ : ∃ t, t = k + j := ⟨_, rfl⟩
    rw [← ht] at hA c4
    by_cases hlt : j < dlen (rest P k)
    · obtain ⟨c, h1, h2⟩ := dlen_at _ _ hlt
      have hin : t < P.size := by omega
      have hin' : (t : Int) < (P.size : Int) := by omega
      rw [rest_get P k j (by omega)] at h1
      have hcc : P[t] = c := by subst ht; exact Option.some.inj h1
      unfold isd at h2
      rw [Bool.and_eq_true] at h2
      have g1 : (48 : Int) ≤ (P[t].toNat : Int) := by rw [hcc]; exact of_decide_eq_true h2.1
      have g2 : (P[t].toNat : Int) ≤ (57 : Int) := by rw [hcc]; exact of_decide_eq_true h2.2
      have HA : Hid _ := hA
      have HG : Hid (w.grownBy wr (some b)) := hg
      have HT : Hid (t = k + j) := ht
      clear hg h1 h2 hcc ht
      go_wp2_with fail
      go_quiet (fail)
      go_wp2_with fail
      have hA2 : LkAt (wr.drewN nq) b s (.slice q N cap) vB P t false := HA.out
      have hA3 := hA2.goto (t + 1)
      have e1 : ((t : Int) + 1) = ((t + 1 : Nat) : Int) := rfl
      rw [e1]
      refine ⟨⟨j + 1, by omega, ?_, ?_⟩, ?_⟩
      · rw [show k + (j + 1) = t + 1 by have := HT.out; omega]; exact hA3
      · have g0 : w.grownBy (wr.drewN nq) (some b) := HG.out.trans ⟨rfl, rfl, rfl, Nat.le_refl _, fun _ _ _ => rfl⟩
        exact g0.trans (grown_cell _ _ _ _)
      · have hA4 : LkAt wr b s (.slice q N cap) vB P t false := HA.out
        rw [lkPos_of hA3, lkPos_of hA4]; omega
    · have hjd : j = dlen (rest P k) := by omega
      have CD : Hid (∀ X, Calls Tryd.prog 46 #[.string (P.extract k t), .int .i64 4000] X fun e w' => e = .returned (.int .i64 (dg 4000 ((rest P k).take (dlen (rest P k))))) ∧ w' = X) := fun X => by
        have := digits_any (P.extract k t) X 4000 (by have := ByteArray.size_extract (a := P) (b := k) (e := t); omega) (by omega) (by omega)
        rw [extract_rest, show t - k = dlen (rest P k) by omega] at this
        exact this.mono fun e w' h => ⟨h.1, h.2.symm⟩
      have HF : Hid (∀ n r, fig N (rest P k) = some (n, r) → r = rest P t ∧ (n : Int) = dg 4000 ((rest P k).take (dlen (rest P k))) ∧ n < N) := fun n r h => by
        obtain ⟨h1, h2, h3⟩ := fig_lt h
        exact ⟨by rw [h2, rest_drop, ← hjd, ← ht], h3, h1⟩
      have HF2 : Hid (0 ≤ dg 4000 ((rest P k).take (dlen (rest P k))) → dg 4000 ((rest P k).take (dlen (rest P k))) < (N : Int) → fig N (rest P k) = some ((dg 4000 ((rest P k).take (dlen (rest P k)))).toNat, rest P t)) := fun h1 h2 => by
        unfold fig
        rw [if_pos ⟨h1, h2⟩, rest_drop, ← hjd, ← ht]
      have hnd : ∀ (h : t < P.size), ¬ ((48 : Int) ≤ (P[t].toNat : Int) ∧ (P[t].toNat : Int) ≤ 57) := fun h ⟨a1, a2⟩ => by
        have h1 := dlen_next (rest P k) P[t] (by rw [← hjd, rest_get P k j (by omega)]; subst ht; rfl)
        unfold isd at h1
        rw [decide_eq_true a1, decide_eq_true a2] at h1
        cases h1
      have hkt : k ≤ t := by omega
      have htp : t ≤ P.size := by omega
      have hkt' : (k : Int) ≤ (t : Int) := by omega
      have htp' : (t : Int) ≤ (P.size : Int) := by omega
      have HA : Hid (LkAt wr b s (.slice q N cap) vB P t false) := hA
      have HG : Hid (w.grownBy wr (some b)) := hg
      have HT : Hid (t = k + dlen (rest P k)) := by show _ = _; omega
      generalize dg 4000 ((rest P k).take (dlen (rest P k))) = D at *
      clear hg hA ht hjd hlt hj
      have hcase : (¬ t < P.size) ∨ (∃ h : t < P.size, (P[t].toNat : Int) < 48) ∨ (∃ h : t < P.size, (48 : Int) ≤ (P[t].toNat : Int) ∧ 57 < (P[t].toNat : Int)) := by
        by_cases h : t < P.size
        · have := hnd h
          by_cases h2 : (P[t].toNat : Int) < 48
          · exact Or.inr (Or.inl ⟨h, h2⟩)
          · exact Or.inr (Or.inr ⟨h, by omega, by omega⟩)
        · exact Or.inl h
      clear hnd
      rcases hcase with hz | ⟨hz, hz1⟩ | ⟨hz, hz1, hz2⟩
      · have d1 : decide ((t : Int) < (P.size : Int)) = false := decide_eq_false (by omega)
        go_wp2_with fail
        go_quiet (fail)
        go_wp2_with fail
        have c3' : (wr.drewN nq).drew.cell? ⟨b, 3, none⟩ = some (.string P) := c3
        have c4' : (wr.drewN nq).drew.cell? ⟨b, 4, none⟩ = some (.int .i64 (t : Int)) := c4
        go_region_held3 (fun X => X.cell? ⟨b, 3, none⟩ = some (.string P) ∧ X.cell? ⟨b, 4, none⟩ = some (.int .i64 (t : Int))) (simp [*]) (first | (go_at_call 46; refine Calls.mono (CD.out _) ?_; rintro e w' ⟨rfl, rfl⟩))
        go_wp2_with fail
        rcases (show D < 0 ∨ (0 ≤ D ∧ (N : Int) ≤ D) ∨ (0 ≤ D ∧ D < (N : Int)) by omega) with dA | ⟨dA, dB⟩ | ⟨dA, dB⟩
        · have e1 : decide (D < 0) = true := decide_eq_true dA
          go_quiet (fail)
          go_wp2_with fail
          go_ret
          refine ⟨grown_to HG.out _ _ _, Or.inr ⟨fun n r h => ?_, rfl, t, HA.out.dspoil _ true⟩⟩
          obtain ⟨x1, x2, x3⟩ := HF.out _ _ h
          omega
        · have e1 : decide (D < 0) = false := decide_eq_false (by omega)
          have e2 : decide ((N : Int) ≤ D) = true := decide_eq_true dB
          go_quiet (fail)
          go_wp2_with fail
          go_ret
          refine ⟨grown_to HG.out _ _ _, Or.inr ⟨fun n r h => ?_, rfl, t, HA.out.dspoil _ true⟩⟩
          obtain ⟨x1, x2, x3⟩ := HF.out _ _ h
          omega
        · have e0 : True := trivial
          have e1 : decide (D < 0) = false := decide_eq_false (by omega)
          have e2 : decide ((N : Int) ≤ D) = false := decide_eq_false (by omega)
          have e3 : decide ((P.size : Int) ≤ (t : Int)) = true := decide_eq_true (by omega)
          go_quiet (fail)
          go_wp2_with fail
          go_ret
          refine ⟨grown_to HG.out _ _ _, Or.inr ⟨fun n r h => ?_, rfl, t, HA.out.dspoil _ true⟩⟩
          obtain ⟨x1, x2, x3⟩ := HF.out _ _ h
          rw [rest_end P t (by omega)] at x1; cases x1
      · have d1 : decide ((t : Int) < (P.size : Int)) = true := decide_eq_true (by omega)
        have hzi : (t : Int) < (P.size : Int) := by omega
        have d2 : decide ((48 : Int) ≤ (P[t].toNat : Int)) = false := decide_eq_false (by omega)
        go_wp2_with fail
        go_quiet (fail)
        go_wp2_with fail
        have c3' : (wr.drewN nq).drew.cell? ⟨b, 3, none⟩ = some (.string P) := c3
        have c4' : (wr.drewN nq).drew.cell? ⟨b, 4, none⟩ = some (.int .i64 (t : Int)) := c4
        go_region_held3 (fun X => X.cell? ⟨b, 3, none⟩ = some (.string P) ∧ X.cell? ⟨b, 4, none⟩ = some (.int .i64 (t : Int))) (simp [*]) (first | (go_at_call 46; refine Calls.mono (CD.out _) ?_; rintro e w' ⟨rfl, rfl⟩))
        go_wp2_with fail
        rcases (show D < 0 ∨ (0 ≤ D ∧ (N : Int) ≤ D) ∨ (0 ≤ D ∧ D < (N : Int)) by omega) with dA | ⟨dA, dB⟩ | ⟨dA, dB⟩
        · have e1 : decide (D < 0) = true := decide_eq_true dA
          go_quiet (fail)
          go_wp2_with fail
          go_ret
          refine ⟨grown_to HG.out _ _ _, Or.inr ⟨fun n r h => ?_, rfl, t, HA.out.dspoil _ true⟩⟩
          obtain ⟨x1, x2, x3⟩ := HF.out _ _ h
          omega
        · have e1 : decide (D < 0) = false := decide_eq_false (by omega)
          have e2 : decide ((N : Int) ≤ D) = true := decide_eq_true dB
          go_quiet (fail)
          go_wp2_with fail
          go_ret
          refine ⟨grown_to HG.out _ _ _, Or.inr ⟨fun n r h => ?_, rfl, t, HA.out.dspoil _ true⟩⟩
          obtain ⟨x1, x2, x3⟩ := HF.out _ _ h
          omega
        · have e0 : True := trivial
          have e1 : decide (D < 0) = false := decide_eq_false (by omega)
          have e2 : decide ((N : Int) ≤ D) = false := decide_eq_false (by omega)
          have e3 : decide ((P.size : Int) ≤ (t : Int)) = false := decide_eq_false (by omega)
          have htq : (t : Int) < (P.size : Int) := by omega
          cases hce : ((P[t].toNat : Int) == (en.toNat : Int))
          · have hce2 : ((P[t].toNat : Int) != (en.toNat : Int)) = true := by rw [bne, hce]; rfl
            go_quiet (fail)
            go_wp2_with fail
            go_ret
            refine ⟨grown_to HG.out _ _ _, Or.inr ⟨fun n r h => ?_, rfl, t, HA.out.dspoil _ true⟩⟩
            obtain ⟨x1, x2, x3⟩ := HF.out _ _ h
            rw [rest_cons P t hz] at x1
            injection x1 with x4 _
            rw [x4] at hce
            simp at hce
          · have hce2 : ((P[t].toNat : Int) != (en.toNat : Int)) = false := by rw [bne, hce]; rfl
            go_quiet (fail)
            go_wp2_with fail
            go_ret
            have hen : P[t] = en := by
              have := Int.ofNat.inj (of_decide_eq_true hce)
              exact UInt8.toNat_inj.1 this
            refine ⟨grown_to HG.out _ _ _, Or.inl ⟨D.toNat, rest P (t + 1), ?_, ?_, ?_, ?_⟩⟩
            · rw [HF2.out dA dB, rest_cons P t hz, hen]
            · rw [HT.out]
            · rw [show ((D.toNat : Nat) : Int) = D by omega]; rfl
            · rw [← HT.out]; exact HA.out.dgoto _ t
      · have d1 : decide ((t : Int) < (P.size : Int)) = true := decide_eq_true (by omega)
        have hzi : (t : Int) < (P.size : Int) := by omega
        have d2 : decide ((48 : Int) ≤ (P[t].toNat : Int)) = true := decide_eq_true hz1
        have d3 : decide ((P[t].toNat : Int) ≤ (57 : Int)) = false := decide_eq_false (by omega)
        go_wp2_with fail
        go_quiet (fail)
        go_wp2_with fail
        have c3' : (wr.drewN nq).drew.cell? ⟨b, 3, none⟩ = some (.string P) := c3
        have c4' : (wr.drewN nq).drew.cell? ⟨b, 4, none⟩ = some (.int .i64 (t : Int)) := c4
        go_region_held3 (fun X => X.cell? ⟨b, 3, none⟩ = some (.string P) ∧ X.cell? ⟨b, 4, none⟩ = some (.int .i64 (t : Int))) (simp [*]) (first | (go_at_call 46; refine Calls.mono (CD.out _) ?_; rintro e w' ⟨rfl, rfl⟩))
        go_wp2_with fail
        rcases (show D < 0 ∨ (0 ≤ D ∧ (N : Int) ≤ D) ∨ (0 ≤ D ∧ D < (N : Int)) by omega) with dA | ⟨dA, dB⟩ | ⟨dA, dB⟩
        · have e1 : decide (D < 0) = true := decide_eq_true dA
          go_quiet (fail)
          go_wp2_with fail
          go_ret
          refine ⟨grown_to HG.out _ _ _, Or.inr ⟨fun n r h => ?_, rfl, t, HA.out.dspoil _ true⟩⟩
          obtain ⟨x1, x2, x3⟩ := HF.out _ _ h
          omega
        · have e1 : decide (D < 0) = false := decide_eq_false (by omega)
          have e2 : decide ((N : Int) ≤ D) = true := decide_eq_true dB
          go_quiet (fail)
          go_wp2_with fail
          go_ret
          refine ⟨grown_to HG.out _ _ _, Or.inr ⟨fun n r h => ?_, rfl, t, HA.out.dspoil _ true⟩⟩
          obtain ⟨x1, x2, x3⟩ := HF.out _ _ h
          omega
        · have e0 : True := trivial
          have e1 : decide (D < 0) = false := decide_eq_false (by omega)
          have e2 : decide ((N : Int) ≤ D) = false := decide_eq_false (by omega)
          have e3 : decide ((P.size : Int) ≤ (t : Int)) = false := decide_eq_false (by omega)
          have htq : (t : Int) < (P.size : Int) := by omega
          cases hce : ((P[t].toNat : Int) == (en.toNat : Int))
          · have hce2 : ((P[t].toNat : Int) != (en.toNat : Int)) = true := by rw [bne, hce]; rfl
            go_quiet (fail)
            go_wp2_with fail
            go_ret
            refine ⟨grown_to HG.out _ _ _, Or.inr ⟨fun n r h => ?_, rfl, t, HA.out.dspoil _ true⟩⟩
            obtain ⟨x1, x2, x3⟩ := HF.out _ _ h
            rw [rest_cons P t hz] at x1
            injection x1 with x4 _
            rw [x4] at hce
            simp at hce
          · have hce2 : ((P[t].toNat : Int) != (en.toNat : Int)) = false := by rw [bne, hce]; rfl
            go_quiet (fail)
            go_wp2_with fail
            go_ret
            have hen : P[t] = en := by
              have := Int.ofNat.inj (of_decide_eq_true hce)
              exact UInt8.toNat_inj.1 this
            refine ⟨grown_to HG.out _ _ _, Or.inl ⟨D.toNat, rest P (t + 1), ?_, ?_, ?_, ?_⟩⟩
            · rw [HF2.out dA dB, rest_cons P t hz, hen]
            · rw [HT.out]
            · rw [show ((D.toNat : Nat) : Int) = D by omega]; rfl
            · rw [← HT.out]; exact HA.out.dgoto _ t
end Go.Proofs.YtkinoehmcfhgbaaDoor.Vl
set_option linter.unusedVariables false
set_option linter.unusedSimpArgs false
namespace Go.Proofs.YtkinoehmcfhgbaaDoor.Vl
open Go.RowKit

theorem ats_cells {w : World} {base : Nat} {v : Value} {ats : List Atm} (h : w.ownsRow base 52 3 v ats.length (cells3 ats)) (hn : 0 < ats.length) :
    ∃ g cap, v = .slice (some ⟨g, 0, none⟩) ats.length cap ∧ base ≤ g ∧ g < w.heap.size ∧ ∀ j a, ats[j]? = some a → w.cell? ⟨g, j * 3, none⟩ = some (.int .i64 a.1) ∧ w.cell? ⟨g, j * 3 + 1, none⟩ = some (.int .i64 a.2.1) ∧ w.cell? ⟨g, j * 3 + 2, none⟩ = some (.int .i64 a.2.2) := by
  rcases h.2 with ⟨h1, h2⟩ | ⟨g, cap, cur, hv, hg, hh, h3, h4, h5, h6⟩
  · omega
  · refine ⟨g, cap, hv, hg, (Array.getElem?_eq_some_iff.1 hh).1, fun j a ha => ?_⟩
    have hc := cells3_at ats j a ha
    have e : ∀ i u, (cells3 ats)[i]? = some u → w.cell? ⟨g, i, none⟩ = some u := by
      intro i u hu
      rw [← h6, List.getElem?_take] at hu
      split at hu
      · have : cur[i]? = some u := by simpa using hu
        simp [World.cell?, hh, this]
      · cases hu
    exact ⟨e _ _ hc.1, e _ _ hc.2.1, e _ _ hc.2.2⟩
/-- The one ahead of place j: the last one ahead of the first. -/
def prv (ats : List Atm) (j : Nat) : Atm := if j = 0 then ats.getLastD (0, 0, 0) else ats.getD (j - 1) (0, 0, 0)
theorem chn_drop (ats : List Atm) (j : Nat) (a : Atm) (h : ats[j]? = some a) : chn (prv ats j) (ats.drop j) = ((prv ats j).2.1 == a.1 && chn (prv ats (j + 1)) (ats.drop (j + 1))) := by
  have hl := (List.getElem?_eq_some_iff.1 h).1
  have e : ats.drop j = a :: ats.drop (j + 1) := by
    rw [List.drop_eq_getElem_cons hl]
    congr 1
    rw [List.getElem?_eq_getElem hl] at h
    exact Option.some.inj h
  have e2 : prv ats (j + 1) = a := by
    unfold prv
    rw [if_neg (by omega), show j + 1 - 1 = j by omega, List.getD_eq_getElem?_getD, h]; rfl
  rw [e, e2]; rfl
theorem smB_take (ats : List Atm) (j : Nat) (a : Atm) (h : ats[j]? = some a) : smB (ats.take (j + 1)) = smB (ats.take j) + a.2.2 := by
  unfold smB
  rw [List.take_add_one, h]
  simp

set_option maxRecDepth 100000 in
set_option maxHeartbeats 4000000 in
theorem kcycle_any {w0 : World} {b mb : Nat} {vW : Value} {ys : List Sym} {q : Option Addr} {cap : Nat} {us : List Atm} {n : Nat} {f : Atm → Int} (w : World) (l : List UInt8) (h : KS w0 w b mb vW ys q cap us l n f) (hgl : Gl w0) (hl : l.length ≤ 200000) (hN : us.length ≤ 4000) (hok : ∀ a ∈ us, okA a) (hf3 : ∀ a, T3 (f a)) (hbd : ∀ ats r, lks us f (l.length + 1) l = some (ats, r) → ∀ a ∈ ats, -1000000 ≤ a.2.2 ∧ a.2.2 ≤ 1000000) :
    Calls Tryd.prog 44 #[.pointer (some ⟨b, 0, none⟩)] w fun e w' => FrK b mb w w' ∧ ∃ l', KS w0 w' b mb vW ys q cap us l' n f ∧
      ((∃ ats r, lks us f (l.length + 1) l = some (ats, r) ∧ l' = r ∧ e = .returned (.bool (cyc ats))) ∨ (lks us f (l.length + 1) l = none ∧ e = .returned (.bool false))) := by
  have hlen : ∀ ats r, lks us f (l.length + 1) l = some (ats, r) → ats ≠ [] ∧ ats.length ≤ 200000 := fun ats r he => by
    obtain ⟨_, h1, h2⟩ := lks_len _ _ _ _ he
    exact ⟨h1, by omega⟩
  have CA : Hid _ := assumptions_any w l h hgl hl hN hok hf3
  have hbw := h.kn.lt
  have hmw := h.am.lt
  have HLN : Hid _ := hlen
  have HBD : Hid _ := hbd
  clear h hlen hbd hf3 hok
  go_enter Tryd.func44, Tryd.ntmps44
  go_wp2_with fail
  refine Calls.mono CA.out ?_
  rintro e w1 ⟨hf1, v, l', hk1, hcs⟩
  rcases hcs with ⟨ats, r, hlk, rfl, rfl, hown⟩ | ⟨hlk, rfl⟩
  · obtain ⟨hne, hal⟩ := HLN.out _ _ hlk
    have hpos : 0 < ats.length := List.length_pos_iff.2 hne
    obtain ⟨g, vc, rfl, hg1, hg2, hcells⟩ := ats_cells hown hpos
    have hlast : ats[ats.length - 1]? = some (prv ats 0) := by
      unfold prv
      rw [if_pos rfl, List.getLastD_eq_getLast?, List.getLast?_eq_getElem?]
      rw [List.getElem?_eq_getElem (by omega)]; rfl
    obtain ⟨z0, z1, z2⟩ := hcells _ _ hlast
    have HCE : Hid _ := hcells
    have HK1 : Hid (KS w0 w1 b mb vW ys q cap us l' n f) := hk1
    have HF1 : Hid (FrK b mb w w1) := hf1
    have HB : Hid _ := HBD.out _ _ hlk
    have HLK : Hid (lks us f (l.length + 1) l = some (ats, l')) := hlk
    have hsub : IntKind.i64.wrap ((ats.length : Int) - 1) = ((ats.length - 1 : Nat) : Int) := by rw [IntWalk.i64_in _ (by omega)]; omega
    have hidx : ((ats.length - 1 : Nat) : Int) < (ats.length : Int) := by omega
    clear hown hk1 hf1 hcells hlk hlast
    obtain ⟨⟨p1, p2, p3⟩, hpr⟩ : ∃ p, prv ats 0 = p := ⟨_, rfl⟩
    rw [hpr] at z0 z1 z2
    have HPR : Hid (prv ats 0 = (p1, p2, p3)) := hpr
    clear hpr
    dsimp only at z0 z1 z2
    go_wp2_with fail
    go_region
    go_wp2_with fail
    have hX0 : Below w1.heap.size w1 (w1.alloc (.cells #[.int .i64 p1, .int .i64 p2, .int .i64 p3] 52)).drew := (below_alloc _ _).drew
    have hL0 : (w1.alloc (.cells #[.int .i64 p1, .int .i64 p2, .int .i64 p3] 52)).drew.heap[w1.heap.size]? = some (.cells #[.int .i64 p1, .int .i64 p2, .int .i64 p3] 52 (0, 0)) := heap_alloc_new _ _
    clear z0 z1 z2
    have HB2 : Hid (∀ (j : Nat) (a : Atm), ats[j]? = some a → -1000000 ≤ a.2.2 ∧ a.2.2 ≤ 1000000) := fun j a ha => HB.out a (List.mem_of_getElem? ha)
    have HSB : Hid (∀ j, j ≤ ats.length → -1000000 * (j : Int) ≤ smB (ats.take j) ∧ smB (ats.take j) ≤ 1000000 * (j : Int)) := fun j => by
      induction j with
      | zero => intro _; simp [smB]
      | succ j ih =>
        intro hj
        have := ih (by omega)
        obtain ⟨a, ha⟩ : ∃ a, ats[j]? = some a := ⟨_, List.getElem?_eq_getElem (by omega)⟩
        have hb := HB2.out j a ha
        rw [smB_take ats j a ha]
        constructor <;> (push_cast; omega)
    go_loopw [5, 8, 24] (fun s5 s8 s24 wr => ∃ (j : Nat) (o1 o2 o3 : Int), j ≤ ats.length ∧ s24 = .int .i64 (j : Int) ∧ s5 = .int .i64 (smB (ats.take j)) ∧ chn (prv ats 0) ats = chn (prv ats j) (ats.drop j) ∧ prv ats j = (o1, o2, o3) ∧ wr.heap[w1.heap.size]? = some (.cells #[.int .i64 o1, .int .i64 o2, .int .i64 o3] 52 (0, 0)) ∧ Below w1.heap.size w1 wr) (fun _ _ s24 _ => ats.length - (intOf s24).toNat)
    case atStart => exact ⟨0, p1, p2, p3, Nat.zero_le _, rfl, rfl, rfl, HPR.out, hL0, hX0⟩
    case round =>
      obtain ⟨j, o1, o2, o3, hj, rfl, rfl, hch, hpv, hLb, hbr⟩ := hrel
      have HCH : Hid _ := hch
      have HPV : Hid (prv ats j = (o1, o2, o3)) := hpv
      have hsj := HSB.out j hj
      clear hch hpv
      by_cases hlt : j < ats.length
      · obtain ⟨⟨a1, a2, a3⟩, ha⟩ : ∃ a, ats[j]? = some a := ⟨_, List.getElem?_eq_getElem hlt⟩
        obtain ⟨y0, y1, y2⟩ := HCE.out j _ ha
        dsimp only at y0 y1 y2
        have b3 := HB2.out j _ ha
        dsimp only at b3
        have hST := smB_take ats j _ ha
        dsimp only at hST
        have hCD := chn_drop ats j _ ha
        rw [HPV.out] at hCD
        dsimp only at hCD
        have x0 := (hbr.cell (p := ⟨g, j * 3, none⟩) hg2).trans y0
        have x1 := (hbr.cell (p := ⟨g, j * 3 + 1, none⟩) hg2).trans y1
        have x2 := (hbr.cell (p := ⟨g, j * 3 + 2, none⟩) hg2).trans y2
        have hlt' : (j : Int) < (ats.length : Int) := by omega
        have hsb := hbr.size
        have hLlt : w1.heap.size < wr.heap.size := (Array.getElem?_eq_some_iff.1 hLb).1
        have q0 : (wr.alloc (.cells #[.int .i64 a1, .int .i64 a2, .int .i64 a3] 52)).cell? ⟨w1.heap.size, 0, none⟩ = some (.int .i64 o1) := ((below_alloc wr _).cell (p := ⟨w1.heap.size, 0, none⟩) hLlt).trans (by simp [World.cell?, hLb])
        have q1 : (wr.alloc (.cells #[.int .i64 a1, .int .i64 a2, .int .i64 a3] 52)).cell? ⟨w1.heap.size, 1, none⟩ = some (.int .i64 o2) := ((below_alloc wr _).cell (p := ⟨w1.heap.size, 1, none⟩) hLlt).trans (by simp [World.cell?, hLb])
        have q2 : (wr.alloc (.cells #[.int .i64 a1, .int .i64 a2, .int .i64 a3] 52)).cell? ⟨w1.heap.size, 2, none⟩ = some (.int .i64 o3) := ((below_alloc wr _).cell (p := ⟨w1.heap.size, 2, none⟩) hLlt).trans (by simp [World.cell?, hLb])
        have qh : (wr.alloc (.cells #[.int .i64 a1, .int .i64 a2, .int .i64 a3] 52)).heap[w1.heap.size]? = some (.cells #[.int .i64 o1, .int .i64 o2, .int .i64 o3] 52 (0, 0)) := (Below.heap_alloc _ _ _ hLlt).trans hLb
        have qf : ∀ o, (wr.alloc (.cells #[.int .i64 a1, .int .i64 a2, .int .i64 a3] 52)).frozen? ⟨w1.heap.size, o, none⟩ = false := fun o => Lib.frozen_of_heap qh o
        have qf0 := qf 0
        have qf1 := qf 1
        have qf2 := qf 2
        have hwr : IntKind.i64.wrap (smB (ats.take j) + a3) = smB (ats.take j) + a3 := IntWalk.i64_in _ (by omega)
        have hbe : Below w1.heap.size w1 (wr.alloc (.cells #[.int .i64 a1, .int .i64 a2, .int .i64 a3] 52)) := hbr.alloc hsb _
        have HQH : Hid _ := qh
        have HBE : Hid _ := hbe
        have HSJ : Hid (smB (ats.take (j + 1)) = smB (ats.take j) + a3) := hST
        have HCD : Hid (chn (o1, o2, o3) (ats.drop j) = (o2 == a1 && chn (prv ats (j + 1)) (ats.drop (j + 1)))) := hCD
        have HPN : Hid (prv ats (j + 1) = (a1, a2, a3)) := by
          show _ = _
          unfold prv
          rw [if_neg (by omega), show j + 1 - 1 = j by omega, List.getD_eq_getElem?_getD, ha]; rfl
        clear qf hLb qh hbe hST hCD ha y0 y1 y2
        generalize smB (ats.take j) = SM at *
        cases heq : (o2 == a1)
        · have hnq : o2 ≠ a1 := by simpa using heq
          have hnq2 : (o2 != a1) = true := by simpa using hnq
          go_wp2_with fail
          go_ret
          refine ⟨HF1.out.trans (.of_below HBE.out), _, HK1.out.below HBE.out, Or.inl ⟨ats, _, HLK.out, rfl, ?_⟩⟩
          have : cyc ats = false := by
            unfold cyc
            rw [show ats.getLastD (0, 0, 0) = prv ats 0 from rfl, HCH.out, HPV.out, HCD.out, heq]; rfl
          rw [this]; rfl
        · have hnq2 : (o2 != a1) = false := by rw [bne, heq]; rfl
          have hth : (wr.alloc (.cells #[.int .i64 a1, .int .i64 a2, .int .i64 a3] 52)).there w1.heap.size 0 3 := fun i hi => by
            match i, hi with
            | 0, _ => exact ⟨by rw [q0]; rfl, qf0⟩
            | 1, _ => exact ⟨by rw [q1]; rfl, qf1⟩
            | 2, _ => exact ⟨by rw [q2]; rfl, qf2⟩
          clear q2 qf0 qf1 qf2
          have h1c : (#[Value.int .i64 a1, .int .i64 a2, .int .i64 a3] : Array Value).all (·.oneCell') = true := by simp [Value.oneCell']
          go_wp2_with (refine wpList_store_mid rfl 52 (.tmp 6) (.tmp 37) rfl w1.heap.size 0 #[.int .i64 a1, .int .i64 a2, .int .i64 a3] rfl rfl ?_ ?_ ?_ ?_; (exact hth); (exact Tryd.sizeLAtm); (exact h1c))
          refine ⟨⟨j + 1, a1, a2, a3, by omega, by push_cast; rfl, by rw [HSJ.out], ?_, HPN.out, ?_, ?_⟩, ?_⟩
          · rw [HCH.out, HPV.out, HCD.out, heq]; rfl
          · exact heap_setCell_same _ _ 2 _ _ _ (heap_setCell_same _ _ 1 _ _ _ (heap_setCell_same _ _ 0 _ _ _ HQH.out))
          · exact ((HBE.out.setCell (p := ⟨w1.heap.size, 0, none⟩) (Nat.le_refl _) _).setCell (p := ⟨w1.heap.size, 1, none⟩) (Nat.le_refl _) _).setCell (p := ⟨w1.heap.size, 2, none⟩) (Nat.le_refl _) _
          · simp only [intOf]; omega
      · have hlt' : ¬ (j : Int) < (ats.length : Int) := by omega
        have hje : j = ats.length := by omega
        subst hje
        rw [List.take_length] at *
        go_wp2_with fail
        go_ret
        refine ⟨HF1.out.trans (.of_below hbr), _, HK1.out.below hbr, Or.inl ⟨ats, _, HLK.out, rfl, ?_⟩⟩
        have : cyc ats = decide (smB ats < 0) := by
          unfold cyc
          rw [show ats.getLastD (0, 0, 0) = prv ats 0 from rfl, HCH.out, List.drop_length]; rfl
        rw [this]; rfl
  · go_wp2_with fail
    go_ret
    exact ⟨hf1, l', hk1, Or.inr ⟨hlk, rfl⟩⟩
end Go.Proofs.YtkinoehmcfhgbaaDoor.Vl
set_option linter.unusedVariables false
set_option linter.unusedSimpArgs false
namespace Go.Proofs.YtkinoehmcfhgbaaDoor.Vl
open Go.RowKit

theorem lks_bd {us : List Atm} {f : Atm → Int} (hok : ∀ a ∈ us, okA a) : ∀ (k : Nat) (l : List UInt8) (ats : List Atm) (r : List UInt8), lks us f k l = some (ats, r) → ∀ a ∈ ats, -1000000 ≤ a.2.2 ∧ a.2.2 ≤ 1000000
  | 0, l, ats, r, h => by cases h
  | k + 1, l, ats, r, h => by
    unfold lks at h
    split at h
    · cases h
    · cases h
    · rename_i n c r' hf
      have hn := (fig_lt hf).1
      have ho := okA_getD hok n hn
      have hb : -1000000 ≤ (ifA (us.getD n (0, 0, 0)) (f (us.getD n (0, 0, 0)))).2.2 ∧ (ifA (us.getD n (0, 0, 0)) (f (us.getD n (0, 0, 0)))).2.2 ≤ 1000000 := by
        unfold okA at ho
        unfold ifA
        split <;> first | omega | (dsimp only; omega)
      split at h
      · cases h
      · split at h
        · obtain ⟨⟨ats', r2⟩, h2, h3⟩ := Option.map_eq_some_iff.1 h
          injection h3 with h4 h5
          subst h4 h5
          intro a ha
          rcases List.mem_cons.1 ha with rfl | ha
          · exact hb
          · exact lks_bd hok k r' ats' r2 h2 a ha
        · split at h
          · injection h with h
            injection h with h4 h5
            subst h4 h5
            intro a ha
            rcases List.mem_cons.1 ha with rfl | ha
            · exact hb
            · cases ha
          · cases h
/-- What is behind a split's mark. -/
def spl (us : List Atm) (ys : List Sym) (k : Nat) (f : Atm → Int) (r : List UInt8) : Option (List UInt8) :=
  match fig us.length r with
  | none => none
  | some (n, []) => none
  | some (n, d :: r1) => if f (us.getD n (0, 0, 0)) = 0 ∧ d = 58 then
      (match chk us ys k (putA f (us.getD n (0, 0, 0)) 1) r1 with
      | none => none
      | some r2 => chk us ys k (putA f (us.getD n (0, 0, 0)) 2) r2)
    else none
theorem chk_dot (us : List Atm) (ys : List Sym) (k : Nat) (f : Atm → Int) (r : List UInt8) : chk us ys (k + 1) f (46 :: r) = if (trun f ys).headD 0 = 1 then some r else none := by simp [chk]
theorem chk_bang (us : List Atm) (ys : List Sym) (k : Nat) (f : Atm → Int) (r : List UInt8) : chk us ys (k + 1) f (33 :: r) = (match lks us f (r.length + 1) r with | some (ats, r') => if cyc ats then some r' else none | none => none) := by simp [chk]; rfl
theorem chk_ask (us : List Atm) (ys : List Sym) (k : Nat) (f : Atm → Int) (r : List UInt8) : chk us ys (k + 1) f (63 :: r) = spl us ys k f r := by simp [chk, spl]; rfl
/-- How a look at a part of a proof ends. -/
def PE (w0 w : World) (b mb : Nat) (vW : Value) (ys : List Sym) (q : Option Addr) (cap : Nat) (us : List Atm) (m : Nat) (f : Atm → Int) (res : Option (List UInt8)) : Ending → World → Prop := fun e w' =>
  FrK b mb w w' ∧ ∃ l' n' f', KS w0 w' b mb vW ys q cap us l' n' f' ∧ ((∃ r, res = some r ∧ l' = r ∧ f' = f ∧ n' + r.length ≤ m ∧ e = .returned (.bool true)) ∨ (res = none ∧ e = .returned (.bool false)))
theorem is1_cons {c : UInt8} {l : List UInt8} (h : is1 c l = true) : ∃ r, l = c :: r ∧ tk1 c l = r := by
  cases l with
  | nil => simp [is1] at h
  | cons d r => simp [is1] at h; subst h; exact ⟨r, rfl, by simp [tk1]⟩
theorem tk1_of {c : UInt8} {l : List UInt8} (h : is1 c l = false) : tk1 c l = l := by
  cases l with
  | nil => rfl
  | cons d r => simp [is1] at h; simp [tk1, h]

set_option maxRecDepth 100000 in
set_option maxHeartbeats 4000000 in
theorem kproof_of {w0 : World} {b mb : Nat} {vW : Value} {s : ByteArray} {ys : List Sym} {q : Option Addr} {cap : Nat} {us : List Atm} {n : Nat} {f : Atm → Int} (hp : pars s = some ys) (w : World) (k : Nat) (l : List UInt8) (h : KS w0 w b mb vW ys q cap us l n f) (hgl : Gl w0) (hl : l.length ≤ 200000) (hN : us.length ≤ 4000) (hok : ∀ a ∈ us, okA a) (hf3 : ∀ a, T3 (f a))
    (hsp : ∀ W r, r.length < l.length → KS w0 W b mb vW ys q cap us r n f → Calls Tryd.prog 45 #[.pointer (some ⟨b, 0, none⟩)] W (PE w0 W b mb vW ys q cap us (n + 1 + r.length) f (spl us ys k f r))) :
    Calls Tryd.prog 30 #[.pointer (some ⟨b, 0, none⟩)] w (PE w0 w b mb vW ys q cap us (n + l.length) f (chk us ys (k + 1) f l)) := by
  have HSP : Hid _ := hsp
  obtain ⟨T, hT⟩ : ∃ T, (trun f ys).headD 0 = T := ⟨_, rfl⟩
  have HT : Hid ((trun f ys).headD 0 = T) := hT
  have HSE : Hid (∀ W r, KS w0 W b mb vW ys q cap us r n f → Calls Tryd.prog 43 #[vW, .map (some mb)] W fun e w' => e = .returned (.int .i8 T) ∧ Below W.heap.size W w') := fun W r hk => hT ▸ settled_any hp vW mb n f hf3 W hk.c.sw hk.am
  have HCY : Hid (∀ W r, r.length ≤ 200000 → KS w0 W b mb vW ys q cap us r n f → Calls Tryd.prog 44 #[.pointer (some ⟨b, 0, none⟩)] W fun e w' => FrK b mb W w' ∧ ∃ l', KS w0 w' b mb vW ys q cap us l' n f ∧
      ((∃ ats r', lks us f (r.length + 1) r = some (ats, r') ∧ l' = r' ∧ e = .returned (.bool (cyc ats))) ∨ (lks us f (r.length + 1) r = none ∧ e = .returned (.bool false)))) := fun W r hr hk => kcycle_any W r hk hgl hr hN hok hf3 (fun ats r' he => lks_bd hok _ _ _ _ he)
  have TK : Hid _ := fun (c : UInt8) => takeK h c hl
  clear hsp h hf3 hok hp hT
  go_enter Tryd.func30, Tryd.ntmps30
  go_wp2_with fail
  refine Calls.mono (TK.out 46) ?_
  rintro e w1 ⟨rfl, K1, F1⟩
  cases h1 : is1 46 l
  · rw [tk1_of h1] at K1
    have HF1 : Hid (FrK b mb w w1) := F1
    have HK1 : Hid (KS w0 w1 b mb vW ys q cap us l n f) := K1
    clear F1 K1 TK
    go_wp2_with fail
    refine Calls.mono (takeK HK1.out 33 hl) ?_
    rintro e w2 ⟨rfl, K2, F2⟩
    cases h2 : is1 33 l
    · rw [tk1_of h2] at K2
      have HF2 : Hid (FrK b mb w w2) := HF1.out.trans F2
      have HK2 : Hid (KS w0 w2 b mb vW ys q cap us l n f) := K2
      clear F2 K2 HK1 HF1
      go_wp2_with fail
      refine Calls.mono (takeK HK2.out 63 hl) ?_
      rintro e w3 ⟨rfl, K3, F3⟩
      cases h3 : is1 63 l
      · have HF3 : Hid (FrK b mb w w3) := HF2.out.trans F3
        have HK3 : Hid (KS w0 w3 b mb vW ys q cap us (tk1 63 l) n f) := K3
        have HC : Hid (chk us ys (k + 1) f l = none) := by
          show _ = _
          cases l with
          | nil => rfl
          | cons d r =>
            simp [is1] at h1 h2 h3
            simp [chk, h1, h2, h3]
        clear F3 K3 HK2 HF2 h1 h2 h3
        go_wp2_with fail
        go_ret
        exact ⟨HF3.out, _, _, _, HK3.out, Or.inr ⟨HC.out, rfl⟩⟩
      · obtain ⟨r, rfl, er⟩ := is1_cons h3
        rw [er] at K3
        have HF3 : Hid (FrK b mb w w3) := HF2.out.trans F3
        have HK3 : Hid (KS w0 w3 b mb vW ys q cap us r n f) := K3
        clear F3 K3 HK2 HF2 h1 h2 h3 er
        rw [chk_ask]
        go_wp2_with fail
        refine Calls.mono (HSP.out _ r (by simp) HK3.out) ?_
        rintro e w4 ⟨F4, l', n', f', K4, ⟨r', e1, e2, e3, e4, rfl⟩ | ⟨e1, rfl⟩⟩
        · have HX : Hid (PE w0 w b mb vW ys q cap us (n + (63 :: r).length) f (spl us ys k f r) (.returned (.bool true)) w4) := ⟨HF3.out.trans F4, l', n', f', K4, Or.inl ⟨r', e1, e2, e3, by simp only [List.length_cons]; omega, rfl⟩⟩
          clear F4 K4 e1 e2 e3 e4
          go_wp2_with fail
          go_ret
          exact HX.out
        · have HX : Hid (PE w0 w b mb vW ys q cap us (n + (63 :: r).length) f (spl us ys k f r) (.returned (.bool false)) w4) := ⟨HF3.out.trans F4, l', n', f', K4, Or.inr ⟨e1, rfl⟩⟩
          clear F4 K4 e1
          go_wp2_with fail
          go_ret
          exact HX.out
    · obtain ⟨r, rfl, er⟩ := is1_cons h2
      rw [er] at K2
      have HF2 : Hid (FrK b mb w w2) := HF1.out.trans F2
      have HK2 : Hid (KS w0 w2 b mb vW ys q cap us r n f) := K2
      clear F2 K2 HK1 HF1 h1 h2 er
      rw [chk_bang]
      go_wp2_with fail
      refine Calls.mono (HCY.out _ r (by simp only [List.length_cons] at hl; omega) HK2.out) ?_
      rintro e w4 ⟨F4, l', K4, ⟨ats, r', e1, e2, rfl⟩ | ⟨e1, rfl⟩⟩
      · have hr' := (lks_len _ _ _ _ e1).1
        have HX : Hid (PE w0 w b mb vW ys q cap us (n + (33 :: r).length) f (match lks us f (r.length + 1) r with | some (ats, r') => if cyc ats then some r' else none | none => none) (.returned (.bool (cyc ats))) w4) := by
          show PE _ _ _ _ _ _ _ _ _ _ _ _ _ _
          rw [e1]
          dsimp only
          refine ⟨HF2.out.trans F4, l', n, f, K4, ?_⟩
          cases hc : cyc ats
          · exact Or.inr ⟨by simp, rfl⟩
          · exact Or.inl ⟨r', by simp, e2, rfl, by simp only [List.length_cons]; omega, rfl⟩
        clear F4 K4 e1 e2
        generalize cyc ats = C at *
        go_wp2_with fail
        go_ret
        exact HX.out
      · have HX : Hid (PE w0 w b mb vW ys q cap us (n + (33 :: r).length) f (match lks us f (r.length + 1) r with | some (ats, r') => if cyc ats then some r' else none | none => none) (.returned (.bool false)) w4) := by
          show PE _ _ _ _ _ _ _ _ _ _ _ _ _ _
          rw [e1]
          exact ⟨HF2.out.trans F4, l', n, f, K4, Or.inr ⟨rfl, rfl⟩⟩
        clear F4 K4 e1
        go_wp2_with fail
        go_ret
        exact HX.out
  · obtain ⟨r, rfl, er⟩ := is1_cons h1
    rw [er] at K1
    obtain ⟨c0, _, _, c3⟩ := K1.kn.cells
    have HF1 : Hid (FrK b mb w w1) := F1
    have HK1 : Hid (KS w0 w1 b mb vW ys q cap us r n f) := K1
    clear F1 K1 TK h1 er
    have HKD : Hid (KS w0 w1.drew b mb vW ys q cap us r n f) := HK1.out.below (Below.refl _ _).drew
    go_wp2_with fail
    go_region_with (first | (go_at_call 43; refine Calls.mono (HSE.out _ r HKD.out) ?_; rintro e w4 ⟨rfl, hb4⟩))
    all_goals
      have K4 := HKD.out.below hb4
      have HX : Hid (PE w0 w b mb vW ys q cap us (n + (46 :: r).length) f (if T = 1 then some r else none) (.returned (.bool (T == 1))) w4) := by
        refine ⟨(HF1.out.trans (.of_below (Below.refl _ _).drew)).trans (.of_below hb4), r, n, f, K4, ?_⟩
        by_cases hT1 : T = 1
        · subst hT1; exact Or.inl ⟨r, by simp, rfl, rfl, by simp only [List.length_cons]; omega, rfl⟩
        · exact Or.inr ⟨by simp [hT1], by simp [hT1]⟩
      clear K4 hb4
      go_wp2_with fail
      go_ret
      rw [chk_dot, HT.out]
      exact HX.out
end Go.Proofs.YtkinoehmcfhgbaaDoor.Vl
