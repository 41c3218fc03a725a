/-
  The walks of the document's runs: command.
  The walks of the document's runs: assignments; commands, whole.
  The walk of the document's Holds.
-/
import Derived.Test.YtkinoehmcfhgbaaW3
import Derived.Test.YtkinoehmcfhgbaaQ9
set_option linter.unusedVariables false
set_option linter.unusedSimpArgs false
namespace Go.Proofs.Ytkinoehmcfhgbaa.Vl
open Go.RowKit
open Go.Proofs.Ytkinoehmcfhgbaa.Av (vr rvariable_any Fm Rd Tg sAt trm trm_range rel rel_range vr_range Cm Rc Kp set_other)

set_option maxRecDepth 100000 in
set_option maxHeartbeats 1000000 in
theorem com_skip (toks : List (List UInt8 × Nat)) (rb cb : Nat) (fuel : Int) (k : Nat) (w : World) (s : RS) (hf : fuel ≤ 10000) (hk : k ≤ 300) (h1 : sAt toks k = [115, 107, 105, 112]) (ha : RunAt w rb cb toks fuel s) (hi : Inv fuel s) :
    Calls Try.prog 31 #[.pointer (some ⟨rb, 0, none⟩), .int .i64 (k : Int)] w fun e w' => e = .returned (.tuple #[]) ∧ RunAt w' rb cb toks fuel (stp fuel s) ∧ Kp rb w w' := by
  have CS : Hid (Calls Try.prog 33 #[.pointer (some ⟨cb, 0, none⟩), .int .i64 (k : Int)] w fun e w' => e = .returned (.string ⟨(sAt toks k).toArray⟩) ∧ w = w') := code_s toks cb k w (ha.code.at ha.hb) (by omega)
  have C2 : Hid (Calls Try.prog 47 #[.pointer (some ⟨rb, 0, none⟩)] w fun e w' => e = .returned (.bool (!(s.n == fuel))) ∧ RunAt w' rb cb toks fuel (stp fuel s) ∧ Kp rb w w') := run_step w rb cb fuel s ha ⟨hi.1, hi.2.1⟩ hf
  have c0 := ha.c0
  rw [h1] at CS
  clear h1 ha hi
  go_enter Try.func31, Try.ntmps31
  go_wp2_with fail
  refine CS.out.mono ?_
  rintro e w2 ⟨rfl, rfl⟩
  go_wp2_with fail
  refine C2.out.mono ?_
  rintro e w2 ⟨rfl, A2, K2⟩
  go_wp2_with fail
  go_end0
  exact ⟨rfl, A2, K2⟩

set_option maxRecDepth 100000 in
set_option maxHeartbeats 1000000 in
theorem com_if (toks : List (List UInt8 × Nat)) (rb cb : Nat) (fuel : Int) (n k k1 k2 k3 : Nat) (f : Fm) (a b : Cm) (w : World) (s : RS) (hf : fuel ≤ 10000) (hl : ∀ j, (sAt toks j).length ≤ 300) (IH : AllR toks rb cb fuel n)
    (hk : k3 ≤ 300) (hkn : k3 ≤ k + n) (h1 : sAt toks k = [105, 102]) (h2 : Rd toks .form (k + 1) f k1) (h3 : Rc toks true (k1 + 1) a k2) (h4 : Rc toks true (k2 + 1) b k3) (ha : RunAt w rb cb toks fuel s) (hi : Inv fuel s) (he0 : s.e < 0) :
    Calls Try.prog 31 #[.pointer (some ⟨rb, 0, none⟩), .int .i64 (k : Int)] w fun e w' => e = .returned (.tuple #[]) ∧ RunAt w' rb cb toks fuel (ex fuel (.ite f a b) s) ∧ Kp rb w w' := by
  have l2 := h2.le.1
  have l3 := h3.le
  have l4 := h4.le
  have CS : Hid (Calls Try.prog 33 #[.pointer (some ⟨cb, 0, none⟩), .int .i64 (k : Int)] w fun e w' => e = .returned (.string ⟨(sAt toks k).toArray⟩) ∧ w = w') := code_s toks cb k w (ha.code.at ha.hb) (by omega)
  have C2 : Hid (Calls Try.prog 48 #[.pointer (some ⟨rb, 0, none⟩), .int .i64 ((k : Int) + 1)] w fun e w' => e = .returned (.tuple #[.bool (!(s.n == fuel) && (stp fuel s).ev f), .int .i64 (k1 : Int)]) ∧ RunAt w' rb cb toks fuel (stp fuel s) ∧ Kp rb w w') := run_asks w rb cb fuel s (k + 1) k1 f ha hi hf hl h2 (by omega)
  have CK : Hid (∀ w, CodeAt w cb toks → Calls Try.prog 30 #[.pointer (some ⟨cb, 0, none⟩), .int .i64 ((k1 : Int) + 1)] w fun e w' => e = .returned (.int .i64 (k2 : Int)) ∧ Below w.heap.size w w') := fun w hc => all_any toks cb hl (k1 + 1) k2 a w h3 (by omega) hc
  have c0 := ha.c0
  have hi1 := (inv_stp hi).1
  rw [h1] at CS
  have hE : Hid (ex fuel (.ite f a b) s = if 0 ≤ (stp fuel s).e then stp fuel s else if (stp fuel s).ev f then ex fuel a (stp fuel s) else ex fuel b (stp fuel s)) := rfl
  generalize ex fuel (.ite f a b) s = R at *
  cases hq : (s.n == fuel)
  · have hne : s.n ≠ fuel := by simpa using hq
    have he1 : (stp fuel s).e < 0 := by unfold stp; rw [if_neg hne]; exact he0
    rw [hq] at C2
    cases hv : (stp fuel s).ev f
    · rw [hv] at C2
      have CB : Hid (∀ w, RunAt w rb cb toks fuel (stp fuel s) → Calls Try.prog 19 #[.pointer (some ⟨rb, 0, none⟩), .int .i64 ((k2 : Int) + 1)] w fun e w' => e = .returned (.tuple #[]) ∧ RunAt w' rb cb toks fuel (ex fuel b (stp fuel s)) ∧ Kp rb w w') := fun w ha => IH (k2 + 1) k3 b w (stp fuel s) h4 (by omega) (by omega) ha hi1 he1
      have HR : Hid (R = ex fuel b (stp fuel s)) := by show _ = _; rw [hE.out, if_neg (by omega), hv]; rfl
      clear h1 h2 h3 h4 ha hi hE hi1 hv IH hl
      generalize ex fuel b (stp fuel s) = R2 at *
      generalize stp fuel s = s1 at *
      go_enter Try.func31, Try.ntmps31
      go_wp2_with fail
      refine CS.out.mono ?_
      rintro e w2 ⟨rfl, rfl⟩
      go_wp2_with fail
      refine C2.out.mono ?_
      rintro e w2 ⟨rfl, A2, K2⟩
      go_wp2_with fail
      refine (CK.out _ (A2.code.at A2.hb)).mono ?_
      rintro e w3 ⟨rfl, hb3⟩
      have A3 := A2.below hb3
      have K3 := K2.trans (Kp.of_below hb3)
      have c7 := A3.c7
      go_wp2_with fail
      refine (CB.out _ A3).mono ?_
      rintro e w4 ⟨rfl, A4, K4⟩
      go_wp2_with fail
      (first | go_end0 | (refine bodyPost_ret (results_none rfl _ _ _) rfl ?_))
      exact ⟨rfl, by rw [HR.out]; exact A4, K3.trans K4⟩
    · rw [hv] at C2
      have CB : Hid (∀ w, RunAt w rb cb toks fuel (stp fuel s) → Calls Try.prog 19 #[.pointer (some ⟨rb, 0, none⟩), .int .i64 ((k1 : Int) + 1)] w fun e w' => e = .returned (.tuple #[]) ∧ RunAt w' rb cb toks fuel (ex fuel a (stp fuel s)) ∧ Kp rb w w') := fun w ha => IH (k1 + 1) k2 a w (stp fuel s) h3 (by omega) (by omega) ha hi1 he1
      have HR : Hid (R = ex fuel a (stp fuel s)) := by show _ = _; rw [hE.out, if_neg (by omega), hv]; rfl
      clear h1 h2 h3 h4 ha hi hE hi1 hv IH hl
      generalize ex fuel a (stp fuel s) = R2 at *
      generalize stp fuel s = s1 at *
      go_enter Try.func31, Try.ntmps31
      go_wp2_with fail
      refine CS.out.mono ?_
      rintro e w2 ⟨rfl, rfl⟩
      go_wp2_with fail
      refine C2.out.mono ?_
      rintro e w2 ⟨rfl, A2, K2⟩
      go_wp2_with fail
      refine (CK.out _ (A2.code.at A2.hb)).mono ?_
      rintro e w3 ⟨rfl, hb3⟩
      have A3 := A2.below hb3
      have K3 := K2.trans (Kp.of_below hb3)
      have c7 := A3.c7
      go_wp2_with fail
      refine (CB.out _ A3).mono ?_
      rintro e w4 ⟨rfl, A4, K4⟩
      go_wp2_with fail
      (first | go_end0 | (refine bodyPost_ret (results_none rfl _ _ _) rfl ?_))
      exact ⟨rfl, by rw [HR.out]; exact A4, K3.trans K4⟩
  · have hne : s.n = fuel := by simpa using hq
    have he1 : 0 ≤ (stp fuel s).e := by unfold stp; rw [if_pos hne]; dsimp only; decide
    rw [hq] at C2
    have HR : Hid (R = stp fuel s) := by show _ = _; rw [hE.out, if_pos he1]
    clear h1 h2 h3 h4 ha hi hE hi1 IH hl
    generalize (stp fuel s).ev f = V at *
    generalize stp fuel s = s1 at *
    go_enter Try.func31, Try.ntmps31
    go_wp2_with fail
    refine CS.out.mono ?_
    rintro e w2 ⟨rfl, rfl⟩
    go_wp2_with fail
    refine C2.out.mono ?_
    rintro e w2 ⟨rfl, A2, K2⟩
    go_wp2_with fail
    refine (CK.out _ (A2.code.at A2.hb)).mono ?_
    rintro e w3 ⟨rfl, hb3⟩
    have A3 := A2.below hb3
    have K3 := K2.trans (Kp.of_below hb3)
    have c7 := A3.c7
    go_wp2_with fail
    (first | go_end0 | (refine bodyPost_ret (results_none rfl _ _ _) rfl ?_))
    exact ⟨rfl, by rw [HR.out]; exact A3, K3⟩

set_option maxRecDepth 100000 in
set_option maxHeartbeats 1000000 in
theorem com_while (toks : List (List UInt8 × Nat)) (rb cb : Nat) (fuel : Int) (n k k1 k2 k3 : Nat) (f g : Fm) (a : Cm) (w : World) (s : RS) (hf : fuel ≤ 10000) (hl : ∀ j, (sAt toks j).length ≤ 300) (IH : AllR toks rb cb fuel n)
    (hk : k3 ≤ 300) (hkn : k3 ≤ k + n) (h1 : sAt toks k = [119, 104, 105, 108, 101]) (h2 : Rd toks .form (k + 1) f k1) (h3 : Rd toks .form (k1 + 1) g k2) (h4 : Rc toks true (k2 + 1) a k3) (ha : RunAt w rb cb toks fuel s) (hi : Inv fuel s) (he0 : s.e < 0) :
    Calls Try.prog 31 #[.pointer (some ⟨rb, 0, none⟩), .int .i64 (k : Int)] w fun e w' => e = .returned (.tuple #[]) ∧ RunAt w' rb cb toks fuel (ex fuel (.loop f g a) s) ∧ Kp rb w w' := by
  have l2 := h2.le.1
  have l3 := h3.le.1
  have l4 := h4.le
  have CS : Hid (Calls Try.prog 33 #[.pointer (some ⟨cb, 0, none⟩), .int .i64 (k : Int)] w fun e w' => e = .returned (.string ⟨(sAt toks k).toArray⟩) ∧ w = w') := code_s toks cb k w (ha.code.at ha.hb) (by omega)
  have C2 : Hid (∀ w s, RunAt w rb cb toks fuel s → Inv fuel s → Calls Try.prog 48 #[.pointer (some ⟨rb, 0, none⟩), .int .i64 ((k : Int) + 1)] w fun e w' => e = .returned (.tuple #[.bool (!(s.n == fuel) && (stp fuel s).ev f), .int .i64 (k1 : Int)]) ∧ RunAt w' rb cb toks fuel (stp fuel s) ∧ Kp rb w w') := fun w s ha hi => run_asks w rb cb fuel s (k + 1) k1 f ha hi hf hl h2 (by omega)
  have CK : Hid (∀ w, CodeAt w cb toks → Calls Try.prog 20 #[.pointer (some ⟨cb, 0, none⟩), .int .i64 ((k1 : Int) + 1)] w fun e w' => e = .returned (.tuple #[.string (ftx g), .int .i64 (k2 : Int)]) ∧ Below w.heap.size w w') := fun w hc => formula_any toks cb hl (k1 + 1) k2 g w h3 (by omega) hc
  have CB : Hid (∀ w s, RunAt w rb cb toks fuel s → Inv fuel s → s.e < 0 → Calls Try.prog 19 #[.pointer (some ⟨rb, 0, none⟩), .int .i64 ((k2 : Int) + 1)] w fun e w' => e = .returned (.tuple #[]) ∧ RunAt w' rb cb toks fuel (ex fuel a s) ∧ Kp rb w w') := fun w s ha hi he => IH (k2 + 1) k3 a w s h4 (by omega) (by omega) ha hi he
  have hbd : Hid (∀ s, Inv fuel s → Inv fuel (ex fuel a s) ∧ s.n ≤ (ex fuel a s).n) := fun s h => inv_ex a s h
  have c0 := ha.c0
  rw [h1] at CS
  have HI : Hid (Inv fuel s) := hi
  have HE : Hid (ex fuel (.loop f g a) s = if 0 ≤ s.e then s else whl fuel f (ex fuel a) (fuel.toNat + 1) s) := by show _ = _; rw [if_neg (by omega)]; rfl
  have HA : Hid (RunAt w rb cb toks fuel s) := ha
  clear h1 h2 h3 h4 ha hi IH hl
  generalize ex fuel (.loop f g a) s = R at *
  generalize ftx g = G at *
  go_enter Try.func31, Try.ntmps31
  go_wp2_with fail
  refine CS.out.mono ?_
  rintro e w2 ⟨rfl, rfl⟩
  go_wp2_with fail
  go_loopg [8, 9, 10, 11] (if 0 ≤ s.e then 0 else 1 + (fuel - s.n).toNat) (fun gm _ _ _ _ wr => ∃ (s2 : RS), gm = (if 0 ≤ s2.e then 0 else 1 + (fuel - s2.n).toNat) ∧ Hid (Inv fuel s2) ∧ Hid (R = if 0 ≤ s2.e then s2 else whl fuel f (ex fuel a) (fuel.toNat + 1) s2) ∧ RunAt wr rb cb toks fuel s2 ∧ Kp rb w wr)
  case atStart => exact ⟨s, rfl, HI, HE, HA.out, Kp.refl _ _⟩
  case round =>
    obtain ⟨s2, hgm, HI2, HR, hA, hK⟩ := hrel
    have c7 := hA.c7
    by_cases he : s2.e < 0
    · have hst := whl_step (f := f) hbd.out s2 HI2.out
      have HW : Hid (R = if 0 ≤ (stp fuel s2).e then stp fuel s2 else if (stp fuel s2).ev f then (if 0 ≤ (ex fuel a (stp fuel s2)).e then ex fuel a (stp fuel s2) else whl fuel f (ex fuel a) (fuel.toNat + 1) (ex fuel a (stp fuel s2))) else stp fuel s2) := by
        show _ = _
        rw [HR.out, if_neg (by omega), hst]
      clear hst HR HE
      have hi1 := inv_stp HI2.out
      have hin := HI2.out.2.1
      have HI3 : Hid (Inv fuel (stp fuel s2)) := hi1.1
      have hC2 := C2.out wr s2 hA HI2.out
      cases hq : (s2.n == fuel)
      · have hne : s2.n ≠ fuel := by simpa using hq
        have he1 : (stp fuel s2).e < 0 := by unfold stp; rw [if_neg hne]; exact he
        have hn1 := hi1.2.2 he1
        rw [hq] at hC2
        clear hi1
        cases hv : (stp fuel s2).ev f
        · have HR : Hid (R = stp fuel s2) := by show _ = _; rw [HW.out, if_neg (by omega), hv]; rfl
          rw [hv] at hC2
          have HC2 : Hid _ := hC2
          clear hC2 HW hv
          generalize stp fuel s2 = s3 at *
          go_wp2_with fail
          refine Calls.mono HC2.out ?_
          rintro e w2 ⟨rfl, A2, K2⟩
          go_wp2_with fail
          refine (CK.out _ (A2.code.at A2.hb)).mono ?_
          rintro e w3 ⟨rfl, hb3⟩
          have A3 := A2.below hb3
          have K3 := K2.trans (Kp.of_below hb3)
          have c7' := A3.c7
          go_wp2_with fail
          (first | go_end0 | (refine bodyPost_ret (results_none rfl _ _ _) rfl ?_))
          exact ⟨rfl, by rw [HR.out]; exact A3, hK.trans K3⟩
        · have HR : Hid (R = if 0 ≤ (ex fuel a (stp fuel s2)).e then ex fuel a (stp fuel s2) else whl fuel f (ex fuel a) (fuel.toNat + 1) (ex fuel a (stp fuel s2))) := by show _ = _; rw [HW.out, if_neg (by omega), hv]; rfl
          rw [hv] at hC2
          have HC2 : Hid _ := hC2
          have hb4 := hbd.out _ HI3.out
          have HI4 : Hid (Inv fuel (ex fuel a (stp fuel s2))) := hb4.1
          have hn4 := hb4.2
          have hn5 := hb4.1.2.1
          have HC4 : Hid (∀ w, RunAt w rb cb toks fuel (stp fuel s2) → Calls Try.prog 19 #[.pointer (some ⟨rb, 0, none⟩), .int .i64 ((k2 : Int) + 1)] w fun e w' => e = .returned (.tuple #[]) ∧ RunAt w' rb cb toks fuel (ex fuel a (stp fuel s2)) ∧ Kp rb w w') := fun w ha => CB.out w (stp fuel s2) ha HI3.out he1
          clear hC2 HW hv hb4
          generalize ex fuel a (stp fuel s2) = s4 at *
          generalize stp fuel s2 = s3 at *
          go_wp2_with fail
          refine Calls.mono HC2.out ?_
          rintro e w2 ⟨rfl, A2, K2⟩
          go_wp2_with fail
          refine (CK.out _ (A2.code.at A2.hb)).mono ?_
          rintro e w3 ⟨rfl, hb3⟩
          have A3 := A2.below hb3
          have K3 := K2.trans (Kp.of_below hb3)
          have c7' := A3.c7
          go_wp2_with fail
          refine (HC4.out _ A3).mono ?_
          rintro e w4 ⟨rfl, A4, K4⟩
          go_wp2_with fail
          go_roundg (if 0 ≤ s4.e then 0 else 1 + (fuel - s4.n).toNat)
          case rel => exact ⟨s4, rfl, HI4, HR, A4, (hK.trans K3).trans K4⟩
          case measure =>
            have e1 : (if 0 ≤ s2.e then 0 else 1 + (fuel - s2.n).toNat) = 1 + (fuel - s2.n).toNat := if_neg (by omega)
            rw [hgm, e1]
            split <;> omega
      · have hne : s2.n = fuel := by simpa using hq
        have he1 : 0 ≤ (stp fuel s2).e := by unfold stp; rw [if_pos hne]; dsimp only; decide
        have HR : Hid (R = stp fuel s2) := by show _ = _; rw [HW.out, if_pos he1]
        rw [hq] at hC2
        have HC2 : Hid _ := hC2
        clear hC2 HW hi1
        generalize (stp fuel s2).ev f = V at *
        generalize stp fuel s2 = s3 at *
        go_wp2_with fail
        refine Calls.mono HC2.out ?_
        rintro e w2 ⟨rfl, A2, K2⟩
        go_wp2_with fail
        refine (CK.out _ (A2.code.at A2.hb)).mono ?_
        rintro e w3 ⟨rfl, hb3⟩
        have A3 := A2.below hb3
        have K3 := K2.trans (Kp.of_below hb3)
        have c7' := A3.c7
        go_wp2_with fail
        (first | go_end0 | (refine bodyPost_ret (results_none rfl _ _ _) rfl ?_))
        exact ⟨rfl, by rw [HR.out]; exact A3, hK.trans K3⟩
    · have hR : R = s2 := by rw [HR.out, if_pos (by omega)]
      subst hR
      clear HR HE
      go_wp2_with fail
      (first | go_end0 | (refine bodyPost_ret (results_none rfl _ _ _) rfl ?_))
      exact ⟨rfl, hA, hK⟩

theorem xv_at {s : RS} {v : Int} (h0 : 0 ≤ v) (h3 : v ≤ 3) : xv s.x1 s.x2 s.x3 s.x4 (v + 1) = if v = 0 then s.x1 else if v = 1 then s.x2 else if v = 2 then s.x3 else s.x4 := by
  have : v = 0 ∨ v = 1 ∨ v = 2 ∨ v = 3 := by omega
  rcases this with rfl | rfl | rfl | rfl <;> rfl
/-- What an assignment comes to, in three ways. -/
theorem asgn_cases (fuel : Int) (x : Int) (t : Int × Int) (s : RS) : (s.n = fuel ∧ asgn fuel x t s = stp fuel s) ∨ (s.n ≠ fuel ∧ gd (s.tv t) = false ∧ asgn fuel x t s = { s with e := 2 }) ∨ (s.n ≠ fuel ∧ gd (s.tv t) = true ∧ asgn fuel x t s = (stp fuel s).set x (s.tv t)) := by
  by_cases h : s.n = fuel
  · exact Or.inl ⟨h, by unfold asgn stp; rw [if_pos h, if_pos h]⟩
  · cases hg : gd (s.tv t)
    · exact Or.inr (Or.inl ⟨h, rfl, by unfold asgn; rw [if_neg h, hg]; rfl⟩)
    · refine Or.inr (Or.inr ⟨h, rfl, ?_⟩)
      unfold asgn stp RS.set
      rw [if_neg h, hg, if_neg h, if_pos rfl]
      split
      · rfl
      · split
        · rfl
        · split <;> rfl
end Go.Proofs.Ytkinoehmcfhgbaa.Vl
set_option linter.unusedVariables false
set_option linter.unusedSimpArgs false
namespace Go.Proofs.Ytkinoehmcfhgbaa.Vl
open Go.RowKit
open Go.Proofs.Ytkinoehmcfhgbaa.Av (vr rvariable_any Fm Rd Tg sAt trm trm_range rel rel_range vr_range Cm Rc Kp set_other)

theorem tv_none (s : RS) (n : Int) : s.tv (-1, n) = n := by show (0 : Int) + n = n; omega
theorem tv_0 (s : RS) (n : Int) : s.tv (0, n) = s.x1 + n := rfl
theorem tv_1 (s : RS) (n : Int) : s.tv (1, n) = s.x2 + n := rfl
theorem tv_2 (s : RS) (n : Int) : s.tv (2, n) = s.x3 + n := rfl
theorem tv_3 (s : RS) (n : Int) : s.tv (3, n) = s.x4 + n := rfl
theorem gds_all {x1 x2 x3 x4 : Int} (h : gds x1 x2 x3 x4 = true) : (-1000000000 ≤ x1 ∧ x1 ≤ 1000000000) ∧ (-1000000000 ≤ x2 ∧ x2 ≤ 1000000000) ∧ (-1000000000 ≤ x3 ∧ x3 ≤ 1000000000) ∧ (-1000000000 ≤ x4 ∧ x4 ≤ 1000000000) := by
  unfold gds gd at h
  simp only [Bool.and_eq_true, decide_eq_true_eq] at h
  omega
theorem gd_iff (x : Int) : (gd x = true ↔ (¬ 1000000000 < x ∧ ¬ x < -1000000000)) ∧ (gd x = false ↔ (1000000000 < x ∨ (¬ 1000000000 < x ∧ x < -1000000000))) := by
  unfold gd
  constructor
  · simp only [Bool.and_eq_true, decide_eq_true_eq]; omega
  · rw [Bool.and_eq_false_iff, decide_eq_false_iff_not, decide_eq_false_iff_not]; omega

theorem variable_l (l : List UInt8) (w : World) : Calls Try.prog 50 #[.string ⟨l.toArray⟩] w fun e w' => e = .returned (.int .i64 (vr l)) ∧ w = w' := (rvariable_any ⟨l.toArray⟩ w).mono fun e w' h => by
  have e1 : (⟨l.toArray⟩ : ByteArray).data.toList = l := by simp
  refine ⟨?_, ?_⟩
  · first | (rw [h.1, e1]) | (rw [h.1]; simp)
  · first | exact h.2 | exact h.2.symm

set_option maxRecDepth 100000 in
set_option maxHeartbeats 8000000 in
theorem com_asg (toks : List (List UInt8 × Nat)) (rb cb : Nat) (fuel : Int) (k : Nat) (w : World) (s : RS) (hf : fuel ≤ 10000) (hl : ∀ j, (sAt toks j).length ≤ 300) (hk : k ≤ 300) (hv : 0 ≤ vr (sAt toks k)) (ha : RunAt w rb cb toks fuel s) (hi : Inv fuel s) :
    Calls Try.prog 31 #[.pointer (some ⟨rb, 0, none⟩), .int .i64 (k : Int)] w fun e w' => e = .returned (.tuple #[]) ∧ RunAt w' rb cb toks fuel (asgn fuel (vr (sAt toks k)) ((trm toks (k + 2)).1, (trm toks (k + 2)).2.1) s) ∧ Kp rb w w' := by
  have CS : Hid (Calls Try.prog 33 #[.pointer (some ⟨cb, 0, none⟩), .int .i64 (k : Int)] w fun e w' => e = .returned (.string ⟨(sAt toks k).toArray⟩) ∧ w = w') := code_s toks cb k w (ha.code.at ha.hb) (by omega)
  have r2 := trm_range toks (k + 2)
  have CT : Hid (Calls Try.prog 49 #[.pointer (some ⟨cb, 0, none⟩), .int .i64 ((k : Int) + 2)] w fun e w' => e = .returned (.tuple #[.int .i64 (trm toks (k + 2)).1, .int .i64 (trm toks (k + 2)).2.1, .int .i64 ((trm toks (k + 2)).2.2 : Int)]) ∧ w = w') := code_term toks cb (k + 2) w (ha.code.at ha.hb) (by omega) hl
  have C2 : Hid (∀ w, RunAt w rb cb toks fuel s → Calls Try.prog 47 #[.pointer (some ⟨rb, 0, none⟩)] w fun e w' => e = .returned (.bool (!(s.n == fuel))) ∧ RunAt w' rb cb toks fuel (stp fuel s) ∧ Kp rb w w') := fun w ha => run_step w rb cb fuel s ha ⟨hi.1, hi.2.1⟩ hf
  obtain ⟨b1, b2, b3⟩ := vr_word hv
  have hg := gds_all hi.2.2.1
  have hi1 := hi.1
  have hi2 := hi.2.1
  have c0 := ha.c0
  have c1 := ha.c1
  have c2 := ha.c2
  have c3 := ha.c3
  have c4 := ha.c4
  have c5 := ha.c5
  have c6 := ha.c6
  have f7 := ha.f 7
  have HA : Hid (RunAt w rb cb toks fuel s) := ha
  have HC := asgn_cases fuel (vr (sAt toks k)) ((trm toks (k + 2)).1, (trm toks (k + 2)).2.1) s
  generalize asgn fuel (vr (sAt toks k)) ((trm toks (k + 2)).1, (trm toks (k + 2)).2.1) s = R at *
  generalize trm toks (k + 2) = T at *
  obtain ⟨v, m, q⟩ := T
  dsimp only at *
  rcases HC with ⟨hn, hR⟩ | ⟨hn, hgd, hR⟩ | ⟨hn, hgd, hR⟩
  · have hn' : (s.n == fuel) = true := by simpa using hn
    have hn2 : decide (s.n < fuel) = false := decide_eq_false (by omega)
    have HR : Hid (R = stp fuel s) := hR
    rw [hn'] at C2
    clear hR ha hi
    have hvv : v = -1 ∨ v = 0 ∨ v = 1 ∨ v = 2 ∨ v = 3 := by omega
    generalize stp fuel s = s1 at *
    generalize sAt toks k = S at *
    rcases hvv with rfl | rfl | rfl | rfl | rfl
    all_goals
      go_enter Try.func31, Try.ntmps31
      go_wp2_with fail
      refine CS.out.mono ?_
      rintro e w2 ⟨rfl, rfl⟩
      go_wp2_with fail
      refine CT.out.mono ?_
      rintro e w2 ⟨rfl, rfl⟩
      go_wp2_with fail
      all_goals go_quiet (fail)
      all_goals go_wp2_with fail
      all_goals refine (C2.out _ (HA.out.drewN _)).mono ?_
      all_goals rintro e w3 ⟨rfl, A3, K3⟩
      all_goals go_wp2_with fail
      all_goals (first | go_end0 | (refine bodyPost_ret (results_none rfl _ _ _) rfl ?_))
      all_goals exact ⟨rfl, by rw [HR.out]; exact A3, ((Kp.refl _ _).drewN _).trans K3⟩
  · have hn2 : s.n < fuel := by omega
    have HR : Hid (R = { s with e := 2 }) := hR
    have c7 := HA.out.c7
    clear hR ha hi C2
    have hvv : v = -1 ∨ v = 0 ∨ v = 1 ∨ v = 2 ∨ v = 3 := by omega
    generalize sAt toks k = S at *
    rcases hvv with rfl | rfl | rfl | rfl | rfl
    · rw [tv_none, (gd_iff _).2] at hgd
      rcases hgd with hgd | ⟨hgd, hgd2⟩
      all_goals
        omega
    · rw [tv_0, (gd_iff _).2] at hgd
      rw [Int.add_comm] at hgd
      rcases hgd with hgd | ⟨hgd, hgd2⟩
      all_goals
        go_enter Try.func31, Try.ntmps31
        go_wp2_with fail
        refine CS.out.mono ?_
        rintro e w2 ⟨rfl, rfl⟩
        go_wp2_with fail
        refine CT.out.mono ?_
        rintro e w2 ⟨rfl, rfl⟩
        go_wp2_with fail
        go_quiet (fail)
        go_wp2_with fail
        (first | go_end0 | (refine bodyPost_ret (results_none rfl _ _ _) rfl ?_))
        exact ⟨rfl, by rw [HR.out]; exact (HA.out.drewN _).put 7 2 (by decide) rfl rfl rfl rfl rfl (by decide) rfl (by decide), ((Kp.refl _ _).drewN _).setCell (Or.inl rfl) _⟩
    · rw [tv_1, (gd_iff _).2] at hgd
      rw [Int.add_comm] at hgd
      rcases hgd with hgd | ⟨hgd, hgd2⟩
      all_goals
        go_enter Try.func31, Try.ntmps31
        go_wp2_with fail
        refine CS.out.mono ?_
        rintro e w2 ⟨rfl, rfl⟩
        go_wp2_with fail
        refine CT.out.mono ?_
        rintro e w2 ⟨rfl, rfl⟩
        go_wp2_with fail
        go_quiet (fail)
        go_wp2_with fail
        (first | go_end0 | (refine bodyPost_ret (results_none rfl _ _ _) rfl ?_))
        exact ⟨rfl, by rw [HR.out]; exact (HA.out.drewN _).put 7 2 (by decide) rfl rfl rfl rfl rfl (by decide) rfl (by decide), ((Kp.refl _ _).drewN _).setCell (Or.inl rfl) _⟩
    · rw [tv_2, (gd_iff _).2] at hgd
      rw [Int.add_comm] at hgd
      rcases hgd with hgd | ⟨hgd, hgd2⟩
      all_goals
        go_enter Try.func31, Try.ntmps31
        go_wp2_with fail
        refine CS.out.mono ?_
        rintro e w2 ⟨rfl, rfl⟩
        go_wp2_with fail
        refine CT.out.mono ?_
        rintro e w2 ⟨rfl, rfl⟩
        go_wp2_with fail
        go_quiet (fail)
        go_wp2_with fail
        (first | go_end0 | (refine bodyPost_ret (results_none rfl _ _ _) rfl ?_))
        exact ⟨rfl, by rw [HR.out]; exact (HA.out.drewN _).put 7 2 (by decide) rfl rfl rfl rfl rfl (by decide) rfl (by decide), ((Kp.refl _ _).drewN _).setCell (Or.inl rfl) _⟩
    · rw [tv_3, (gd_iff _).2] at hgd
      rw [Int.add_comm] at hgd
      rcases hgd with hgd | ⟨hgd, hgd2⟩
      all_goals
        go_enter Try.func31, Try.ntmps31
        go_wp2_with fail
        refine CS.out.mono ?_
        rintro e w2 ⟨rfl, rfl⟩
        go_wp2_with fail
        refine CT.out.mono ?_
        rintro e w2 ⟨rfl, rfl⟩
        go_wp2_with fail
        go_quiet (fail)
        go_wp2_with fail
        (first | go_end0 | (refine bodyPost_ret (results_none rfl _ _ _) rfl ?_))
        exact ⟨rfl, by rw [HR.out]; exact (HA.out.drewN _).put 7 2 (by decide) rfl rfl rfl rfl rfl (by decide) rfl (by decide), ((Kp.refl _ _).drewN _).setCell (Or.inl rfl) _⟩
  · have hn' : (s.n == fuel) = false := by simpa using hn
    have hn2 : s.n < fuel := by omega
    have HR : Hid (R = (stp fuel s).set (vr (sAt toks k)) (s.tv (v, m))) := hR
    rw [hn'] at C2
    clear hR ha hi
    have hvv : v = -1 ∨ v = 0 ∨ v = 1 ∨ v = 2 ∨ v = 3 := by omega
    have hxr := vr_range (sAt toks k)
    have hxx : vr (sAt toks k) = 0 ∨ vr (sAt toks k) = 1 ∨ vr (sAt toks k) = 2 ∨ vr (sAt toks k) = 3 := by omega
    have CS3 : Hid (∀ w, RunAt w rb cb toks fuel (stp fuel s) → Calls Try.prog 33 #[.pointer (some ⟨cb, 0, none⟩), .int .i64 (k : Int)] w fun e w' => e = .returned (.string ⟨(sAt toks k).toArray⟩) ∧ w = w') := fun w ha => code_s toks cb k w (ha.code.at ha.hb) (by omega)
    have CV3 : Hid (∀ w, Calls Try.prog 50 #[.string ⟨(sAt toks k).toArray⟩] w fun e w' => e = .returned (.int .i64 (vr (sAt toks k))) ∧ w = w') := fun w => variable_l _ w
    generalize stp fuel s = s1 at *
    generalize vr (sAt toks k) = X at *
    generalize sAt toks k = S at *
    rcases hvv with rfl | rfl | rfl | rfl | rfl
    · have HT : Hid (s.tv (-1, m) = m) := by show _ = _; rw [tv_none]
      rw [HT.out, (gd_iff _).1] at hgd
      rw [HT.out] at HR
      obtain ⟨g1, g2⟩ := hgd
      rcases hxx with rfl | rfl | rfl | rfl
      · go_enter Try.func31, Try.ntmps31
        go_wp2_with fail
        refine CS.out.mono ?_
        rintro e w2 ⟨rfl, rfl⟩
        go_wp2_with fail
        refine CT.out.mono ?_
        rintro e w2 ⟨rfl, rfl⟩
        go_wp2_with fail
        go_quiet (fail)
        go_wp2_with fail
        refine (C2.out _ (HA.out.drewN _)).mono ?_
        rintro e w3 ⟨rfl, A3, K3⟩
        have hK3 := ((Kp.refl rb w).drewN nq).trans K3
        have d1 := A3.c1
        have f1 := A3.f 1
        go_wp2_with fail
        go_region_with (first | (go_at_call 33; refine (CS3.out _ (by first | exact A3 | exact A3.drew)).mono ?_; rintro e w5 ⟨rfl, rfl⟩) | (go_at_call 50; refine (CV3.out _).mono ?_; rintro e w5 ⟨rfl, rfl⟩))
        all_goals go_wp2_with fail
        all_goals (first | go_end0 | (refine bodyPost_ret (results_none rfl _ _ _) rfl ?_))
        all_goals exact ⟨rfl, by rw [HR.out]; exact (A3.drew).put 1 _ (by decide) rfl rfl rfl rfl rfl (by decide) rfl (by decide), hK3.drew.setCell (Or.inl rfl) _⟩
      · go_enter Try.func31, Try.ntmps31
        go_wp2_with fail
        refine CS.out.mono ?_
        rintro e w2 ⟨rfl, rfl⟩
        go_wp2_with fail
        refine CT.out.mono ?_
        rintro e w2 ⟨rfl, rfl⟩
        go_wp2_with fail
        go_quiet (fail)
        go_wp2_with fail
        refine (C2.out _ (HA.out.drewN _)).mono ?_
        rintro e w3 ⟨rfl, A3, K3⟩
        have hK3 := ((Kp.refl rb w).drewN nq).trans K3
        have d1 := A3.c2
        have f1 := A3.f 2
        go_wp2_with fail
        go_region_with (first | (go_at_call 33; refine (CS3.out _ (by first | exact A3 | exact A3.drew)).mono ?_; rintro e w5 ⟨rfl, rfl⟩) | (go_at_call 50; refine (CV3.out _).mono ?_; rintro e w5 ⟨rfl, rfl⟩))
        all_goals go_wp2_with fail
        all_goals (first | go_end0 | (refine bodyPost_ret (results_none rfl _ _ _) rfl ?_))
        all_goals exact ⟨rfl, by rw [HR.out]; exact (A3.drew).put 2 _ (by decide) rfl rfl rfl rfl rfl (by decide) rfl (by decide), hK3.drew.setCell (Or.inl rfl) _⟩
      · go_enter Try.func31, Try.ntmps31
        go_wp2_with fail
        refine CS.out.mono ?_
        rintro e w2 ⟨rfl, rfl⟩
        go_wp2_with fail
        refine CT.out.mono ?_
        rintro e w2 ⟨rfl, rfl⟩
        go_wp2_with fail
        go_quiet (fail)
        go_wp2_with fail
        refine (C2.out _ (HA.out.drewN _)).mono ?_
        rintro e w3 ⟨rfl, A3, K3⟩
        have hK3 := ((Kp.refl rb w).drewN nq).trans K3
        have d1 := A3.c3
        have f1 := A3.f 3
        go_wp2_with fail
        go_region_with (first | (go_at_call 33; refine (CS3.out _ (by first | exact A3 | exact A3.drew)).mono ?_; rintro e w5 ⟨rfl, rfl⟩) | (go_at_call 50; refine (CV3.out _).mono ?_; rintro e w5 ⟨rfl, rfl⟩))
        all_goals go_wp2_with fail
        all_goals (first | go_end0 | (refine bodyPost_ret (results_none rfl _ _ _) rfl ?_))
        all_goals exact ⟨rfl, by rw [HR.out]; exact (A3.drew).put 3 _ (by decide) rfl rfl rfl rfl rfl (by decide) rfl (by decide), hK3.drew.setCell (Or.inl rfl) _⟩
      · go_enter Try.func31, Try.ntmps31
        go_wp2_with fail
        refine CS.out.mono ?_
        rintro e w2 ⟨rfl, rfl⟩
        go_wp2_with fail
        refine CT.out.mono ?_
        rintro e w2 ⟨rfl, rfl⟩
        go_wp2_with fail
        go_quiet (fail)
        go_wp2_with fail
        refine (C2.out _ (HA.out.drewN _)).mono ?_
        rintro e w3 ⟨rfl, A3, K3⟩
        have hK3 := ((Kp.refl rb w).drewN nq).trans K3
        have d1 := A3.c4
        have f1 := A3.f 4
        go_wp2_with fail
        go_region_with (first | (go_at_call 33; refine (CS3.out _ (by first | exact A3 | exact A3.drew)).mono ?_; rintro e w5 ⟨rfl, rfl⟩) | (go_at_call 50; refine (CV3.out _).mono ?_; rintro e w5 ⟨rfl, rfl⟩))
        all_goals go_wp2_with fail
        all_goals (first | go_end0 | (refine bodyPost_ret (results_none rfl _ _ _) rfl ?_))
        all_goals exact ⟨rfl, by rw [HR.out]; exact (A3.drew).put 4 _ (by decide) rfl rfl rfl rfl rfl (by decide) rfl (by decide), hK3.drew.setCell (Or.inl rfl) _⟩
    · have HT : Hid (s.tv (0, m) = m + s.x1) := by show _ = _; rw [tv_0]; omega
      rw [HT.out, (gd_iff _).1] at hgd
      rw [HT.out] at HR
      obtain ⟨g1, g2⟩ := hgd
      rcases hxx with rfl | rfl | rfl | rfl
      · go_enter Try.func31, Try.ntmps31
        go_wp2_with fail
        refine CS.out.mono ?_
        rintro e w2 ⟨rfl, rfl⟩
        go_wp2_with fail
        refine CT.out.mono ?_
        rintro e w2 ⟨rfl, rfl⟩
        go_wp2_with fail
        go_quiet (fail)
        go_wp2_with fail
        refine (C2.out _ (HA.out.drewN _)).mono ?_
        rintro e w3 ⟨rfl, A3, K3⟩
        have hK3 := ((Kp.refl rb w).drewN nq).trans K3
        have d1 := A3.c1
        have f1 := A3.f 1
        go_wp2_with fail
        go_region_with (first | (go_at_call 33; refine (CS3.out _ (by first | exact A3 | exact A3.drew)).mono ?_; rintro e w5 ⟨rfl, rfl⟩) | (go_at_call 50; refine (CV3.out _).mono ?_; rintro e w5 ⟨rfl, rfl⟩))
        all_goals go_wp2_with fail
        all_goals (first | go_end0 | (refine bodyPost_ret (results_none rfl _ _ _) rfl ?_))
        all_goals exact ⟨rfl, by rw [HR.out]; exact (A3.drew).put 1 _ (by decide) rfl rfl rfl rfl rfl (by decide) rfl (by decide), hK3.drew.setCell (Or.inl rfl) _⟩
      · go_enter Try.func31, Try.ntmps31
        go_wp2_with fail
        refine CS.out.mono ?_
        rintro e w2 ⟨rfl, rfl⟩
        go_wp2_with fail
        refine CT.out.mono ?_
        rintro e w2 ⟨rfl, rfl⟩
        go_wp2_with fail
        go_quiet (fail)
        go_wp2_with fail
        refine (C2.out _ (HA.out.drewN _)).mono ?_
        rintro e w3 ⟨rfl, A3, K3⟩
        have hK3 := ((Kp.refl rb w).drewN nq).trans K3
        have d1 := A3.c2
        have f1 := A3.f 2
        go_wp2_with fail
        go_region_with (first | (go_at_call 33; refine (CS3.out _ (by first | exact A3 | exact A3.drew)).mono ?_; rintro e w5 ⟨rfl, rfl⟩) | (go_at_call 50; refine (CV3.out _).mono ?_; rintro e w5 ⟨rfl, rfl⟩))
        all_goals go_wp2_with fail
        all_goals (first | go_end0 | (refine bodyPost_ret (results_none rfl _ _ _) rfl ?_))
        all_goals exact ⟨rfl, by rw [HR.out]; exact (A3.drew).put 2 _ (by decide) rfl rfl rfl rfl rfl (by decide) rfl (by decide), hK3.drew.setCell (Or.inl rfl) _⟩
      · go_enter Try.func31, Try.ntmps31
        go_wp2_with fail
        refine CS.out.mono ?_
        rintro e w2 ⟨rfl, rfl⟩
        go_wp2_with fail
        refine CT.out.mono ?_
        rintro e w2 ⟨rfl, rfl⟩
        go_wp2_with fail
        go_quiet (fail)
        go_wp2_with fail
        refine (C2.out _ (HA.out.drewN _)).mono ?_
        rintro e w3 ⟨rfl, A3, K3⟩
        have hK3 := ((Kp.refl rb w).drewN nq).trans K3
        have d1 := A3.c3
        have f1 := A3.f 3
        go_wp2_with fail
        go_region_with (first | (go_at_call 33; refine (CS3.out _ (by first | exact A3 | exact A3.drew)).mono ?_; rintro e w5 ⟨rfl, rfl⟩) | (go_at_call 50; refine (CV3.out _).mono ?_; rintro e w5 ⟨rfl, rfl⟩))
        all_goals go_wp2_with fail
        all_goals (first | go_end0 | (refine bodyPost_ret (results_none rfl _ _ _) rfl ?_))
        all_goals exact ⟨rfl, by rw [HR.out]; exact (A3.drew).put 3 _ (by decide) rfl rfl rfl rfl rfl (by decide) rfl (by decide), hK3.drew.setCell (Or.inl rfl) _⟩
      · go_enter Try.func31, Try.ntmps31
        go_wp2_with fail
        refine CS.out.mono ?_
        rintro e w2 ⟨rfl, rfl⟩
        go_wp2_with fail
        refine CT.out.mono ?_
        rintro e w2 ⟨rfl, rfl⟩
        go_wp2_with fail
        go_quiet (fail)
        go_wp2_with fail
        refine (C2.out _ (HA.out.drewN _)).mono ?_
        rintro e w3 ⟨rfl, A3, K3⟩
        have hK3 := ((Kp.refl rb w).drewN nq).trans K3
        have d1 := A3.c4
        have f1 := A3.f 4
        go_wp2_with fail
        go_region_with (first | (go_at_call 33; refine (CS3.out _ (by first | exact A3 | exact A3.drew)).mono ?_; rintro e w5 ⟨rfl, rfl⟩) | (go_at_call 50; refine (CV3.out _).mono ?_; rintro e w5 ⟨rfl, rfl⟩))
        all_goals go_wp2_with fail
        all_goals (first | go_end0 | (refine bodyPost_ret (results_none rfl _ _ _) rfl ?_))
        all_goals exact ⟨rfl, by rw [HR.out]; exact (A3.drew).put 4 _ (by decide) rfl rfl rfl rfl rfl (by decide) rfl (by decide), hK3.drew.setCell (Or.inl rfl) _⟩
    · have HT : Hid (s.tv (1, m) = m + s.x2) := by show _ = _; rw [tv_1]; omega
      rw [HT.out, (gd_iff _).1] at hgd
      rw [HT.out] at HR
      obtain ⟨g1, g2⟩ := hgd
      rcases hxx with rfl | rfl | rfl | rfl
      · go_enter Try.func31, Try.ntmps31
        go_wp2_with fail
        refine CS.out.mono ?_
        rintro e w2 ⟨rfl, rfl⟩
        go_wp2_with fail
        refine CT.out.mono ?_
        rintro e w2 ⟨rfl, rfl⟩
        go_wp2_with fail
        go_quiet (fail)
        go_wp2_with fail
        refine (C2.out _ (HA.out.drewN _)).mono ?_
        rintro e w3 ⟨rfl, A3, K3⟩
        have hK3 := ((Kp.refl rb w).drewN nq).trans K3
        have d1 := A3.c1
        have f1 := A3.f 1
        go_wp2_with fail
        go_region_with (first | (go_at_call 33; refine (CS3.out _ (by first | exact A3 | exact A3.drew)).mono ?_; rintro e w5 ⟨rfl, rfl⟩) | (go_at_call 50; refine (CV3.out _).mono ?_; rintro e w5 ⟨rfl, rfl⟩))
        all_goals go_wp2_with fail
        all_goals (first | go_end0 | (refine bodyPost_ret (results_none rfl _ _ _) rfl ?_))
        all_goals exact ⟨rfl, by rw [HR.out]; exact (A3.drew).put 1 _ (by decide) rfl rfl rfl rfl rfl (by decide) rfl (by decide), hK3.drew.setCell (Or.inl rfl) _⟩
      · go_enter Try.func31, Try.ntmps31
        go_wp2_with fail
        refine CS.out.mono ?_
        rintro e w2 ⟨rfl, rfl⟩
        go_wp2_with fail
        refine CT.out.mono ?_
        rintro e w2 ⟨rfl, rfl⟩
        go_wp2_with fail
        go_quiet (fail)
        go_wp2_with fail
        refine (C2.out _ (HA.out.drewN _)).mono ?_
        rintro e w3 ⟨rfl, A3, K3⟩
        have hK3 := ((Kp.refl rb w).drewN nq).trans K3
        have d1 := A3.c2
        have f1 := A3.f 2
        go_wp2_with fail
        go_region_with (first | (go_at_call 33; refine (CS3.out _ (by first | exact A3 | exact A3.drew)).mono ?_; rintro e w5 ⟨rfl, rfl⟩) | (go_at_call 50; refine (CV3.out _).mono ?_; rintro e w5 ⟨rfl, rfl⟩))
        all_goals go_wp2_with fail
        all_goals (first | go_end0 | (refine bodyPost_ret (results_none rfl _ _ _) rfl ?_))
        all_goals exact ⟨rfl, by rw [HR.out]; exact (A3.drew).put 2 _ (by decide) rfl rfl rfl rfl rfl (by decide) rfl (by decide), hK3.drew.setCell (Or.inl rfl) _⟩
      · go_enter Try.func31, Try.ntmps31
        go_wp2_with fail
        refine CS.out.mono ?_
        rintro e w2 ⟨rfl, rfl⟩
        go_wp2_with fail
        refine CT.out.mono ?_
        rintro e w2 ⟨rfl, rfl⟩
        go_wp2_with fail
        go_quiet (fail)
        go_wp2_with fail
        refine (C2.out _ (HA.out.drewN _)).mono ?_
        rintro e w3 ⟨rfl, A3, K3⟩
        have hK3 := ((Kp.refl rb w).drewN nq).trans K3
        have d1 := A3.c3
        have f1 := A3.f 3
        go_wp2_with fail
        go_region_with (first | (go_at_call 33; refine (CS3.out _ (by first | exact A3 | exact A3.drew)).mono ?_; rintro e w5 ⟨rfl, rfl⟩) | (go_at_call 50; refine (CV3.out _).mono ?_; rintro e w5 ⟨rfl, rfl⟩))
        all_goals go_wp2_with fail
        all_goals (first | go_end0 | (refine bodyPost_ret (results_none rfl _ _ _) rfl ?_))
        all_goals exact ⟨rfl, by rw [HR.out]; exact (A3.drew).put 3 _ (by decide) rfl rfl rfl rfl rfl (by decide) rfl (by decide), hK3.drew.setCell (Or.inl rfl) _⟩
      · go_enter Try.func31, Try.ntmps31
        go_wp2_with fail
        refine CS.out.mono ?_
        rintro e w2 ⟨rfl, rfl⟩
        go_wp2_with fail
        refine CT.out.mono ?_
        rintro e w2 ⟨rfl, rfl⟩
        go_wp2_with fail
        go_quiet (fail)
        go_wp2_with fail
        refine (C2.out _ (HA.out.drewN _)).mono ?_
        rintro e w3 ⟨rfl, A3, K3⟩
        have hK3 := ((Kp.refl rb w).drewN nq).trans K3
        have d1 := A3.c4
        have f1 := A3.f 4
        go_wp2_with fail
        go_region_with (first | (go_at_call 33; refine (CS3.out _ (by first | exact A3 | exact A3.drew)).mono ?_; rintro e w5 ⟨rfl, rfl⟩) | (go_at_call 50; refine (CV3.out _).mono ?_; rintro e w5 ⟨rfl, rfl⟩))
        all_goals go_wp2_with fail
        all_goals (first | go_end0 | (refine bodyPost_ret (results_none rfl _ _ _) rfl ?_))
        all_goals exact ⟨rfl, by rw [HR.out]; exact (A3.drew).put 4 _ (by decide) rfl rfl rfl rfl rfl (by decide) rfl (by decide), hK3.drew.setCell (Or.inl rfl) _⟩
    · have HT : Hid (s.tv (2, m) = m + s.x3) := by show _ = _; rw [tv_2]; omega
      rw [HT.out, (gd_iff _).1] at hgd
      rw [HT.out] at HR
      obtain ⟨g1, g2⟩ := hgd
      rcases hxx with rfl | rfl | rfl | rfl
      · go_enter Try.func31, Try.ntmps31
        go_wp2_with fail
        refine CS.out.mono ?_
        rintro e w2 ⟨rfl, rfl⟩
        go_wp2_with fail
        refine CT.out.mono ?_
        rintro e w2 ⟨rfl, rfl⟩
        go_wp2_with fail
        go_quiet (fail)
        go_wp2_with fail
        refine (C2.out _ (HA.out.drewN _)).mono ?_
        rintro e w3 ⟨rfl, A3, K3⟩
        have hK3 := ((Kp.refl rb w).drewN nq).trans K3
        have d1 := A3.c1
        have f1 := A3.f 1
        go_wp2_with fail
        go_region_with (first | (go_at_call 33; refine (CS3.out _ (by first | exact A3 | exact A3.drew)).mono ?_; rintro e w5 ⟨rfl, rfl⟩) | (go_at_call 50; refine (CV3.out _).mono ?_; rintro e w5 ⟨rfl, rfl⟩))
        all_goals go_wp2_with fail
        all_goals (first | go_end0 | (refine bodyPost_ret (results_none rfl _ _ _) rfl ?_))
        all_goals exact ⟨rfl, by rw [HR.out]; exact (A3.drew).put 1 _ (by decide) rfl rfl rfl rfl rfl (by decide) rfl (by decide), hK3.drew.setCell (Or.inl rfl) _⟩
      · go_enter Try.func31, Try.ntmps31
        go_wp2_with fail
        refine CS.out.mono ?_
        rintro e w2 ⟨rfl, rfl⟩
        go_wp2_with fail
        refine CT.out.mono ?_
        rintro e w2 ⟨rfl, rfl⟩
        go_wp2_with fail
        go_quiet (fail)
        go_wp2_with fail
        refine (C2.out _ (HA.out.drewN _)).mono ?_
        rintro e w3 ⟨rfl, A3, K3⟩
        have hK3 := ((Kp.refl rb w).drewN nq).trans K3
        have d1 := A3.c2
        have f1 := A3.f 2
        go_wp2_with fail
        go_region_with (first | (go_at_call 33; refine (CS3.out _ (by first | exact A3 | exact A3.drew)).mono ?_; rintro e w5 ⟨rfl, rfl⟩) | (go_at_call 50; refine (CV3.out _).mono ?_; rintro e w5 ⟨rfl, rfl⟩))
        all_goals go_wp2_with fail
        all_goals (first | go_end0 | (refine bodyPost_ret (results_none rfl _ _ _) rfl ?_))
        all_goals exact ⟨rfl, by rw [HR.out]; exact (A3.drew).put 2 _ (by decide) rfl rfl rfl rfl rfl (by decide) rfl (by decide), hK3.drew.setCell (Or.inl rfl) _⟩
      · go_enter Try.func31, Try.ntmps31
        go_wp2_with fail
        refine CS.out.mono ?_
        rintro e w2 ⟨rfl, rfl⟩
        go_wp2_with fail
        refine CT.out.mono ?_
        rintro e w2 ⟨rfl, rfl⟩
        go_wp2_with fail
        go_quiet (fail)
        go_wp2_with fail
        refine (C2.out _ (HA.out.drewN _)).mono ?_
        rintro e w3 ⟨rfl, A3, K3⟩
        have hK3 := ((Kp.refl rb w).drewN nq).trans K3
        have d1 := A3.c3
        have f1 := A3.f 3
        go_wp2_with fail
        go_region_with (first | (go_at_call 33; refine (CS3.out _ (by first | exact A3 | exact A3.drew)).mono ?_; rintro e w5 ⟨rfl, rfl⟩) | (go_at_call 50; refine (CV3.out _).mono ?_; rintro e w5 ⟨rfl, rfl⟩))
        all_goals go_wp2_with fail
        all_goals (first | go_end0 | (refine bodyPost_ret (results_none rfl _ _ _) rfl ?_))
        all_goals exact ⟨rfl, by rw [HR.out]; exact (A3.drew).put 3 _ (by decide) rfl rfl rfl rfl rfl (by decide) rfl (by decide), hK3.drew.setCell (Or.inl rfl) _⟩
      · go_enter Try.func31, Try.ntmps31
        go_wp2_with fail
        refine CS.out.mono ?_
        rintro e w2 ⟨rfl, rfl⟩
        go_wp2_with fail
        refine CT.out.mono ?_
        rintro e w2 ⟨rfl, rfl⟩
        go_wp2_with fail
        go_quiet (fail)
        go_wp2_with fail
        refine (C2.out _ (HA.out.drewN _)).mono ?_
        rintro e w3 ⟨rfl, A3, K3⟩
        have hK3 := ((Kp.refl rb w).drewN nq).trans K3
        have d1 := A3.c4
        have f1 := A3.f 4
        go_wp2_with fail
        go_region_with (first | (go_at_call 33; refine (CS3.out _ (by first | exact A3 | exact A3.drew)).mono ?_; rintro e w5 ⟨rfl, rfl⟩) | (go_at_call 50; refine (CV3.out _).mono ?_; rintro e w5 ⟨rfl, rfl⟩))
        all_goals go_wp2_with fail
        all_goals (first | go_end0 | (refine bodyPost_ret (results_none rfl _ _ _) rfl ?_))
        all_goals exact ⟨rfl, by rw [HR.out]; exact (A3.drew).put 4 _ (by decide) rfl rfl rfl rfl rfl (by decide) rfl (by decide), hK3.drew.setCell (Or.inl rfl) _⟩
    · have HT : Hid (s.tv (3, m) = m + s.x4) := by show _ = _; rw [tv_3]; omega
      rw [HT.out, (gd_iff _).1] at hgd
      rw [HT.out] at HR
      obtain ⟨g1, g2⟩ := hgd
      rcases hxx with rfl | rfl | rfl | rfl
      · go_enter Try.func31, Try.ntmps31
        go_wp2_with fail
        refine CS.out.mono ?_
        rintro e w2 ⟨rfl, rfl⟩
        go_wp2_with fail
        refine CT.out.mono ?_
        rintro e w2 ⟨rfl, rfl⟩
        go_wp2_with fail
        go_quiet (fail)
        go_wp2_with fail
        refine (C2.out _ (HA.out.drewN _)).mono ?_
        rintro e w3 ⟨rfl, A3, K3⟩
        have hK3 := ((Kp.refl rb w).drewN nq).trans K3
        have d1 := A3.c1
        have f1 := A3.f 1
        go_wp2_with fail
        go_region_with (first | (go_at_call 33; refine (CS3.out _ (by first | exact A3 | exact A3.drew)).mono ?_; rintro e w5 ⟨rfl, rfl⟩) | (go_at_call 50; refine (CV3.out _).mono ?_; rintro e w5 ⟨rfl, rfl⟩))
        all_goals go_wp2_with fail
        all_goals (first | go_end0 | (refine bodyPost_ret (results_none rfl _ _ _) rfl ?_))
        all_goals exact ⟨rfl, by rw [HR.out]; exact (A3.drew).put 1 _ (by decide) rfl rfl rfl rfl rfl (by decide) rfl (by decide), hK3.drew.setCell (Or.inl rfl) _⟩
      · go_enter Try.func31, Try.ntmps31
        go_wp2_with fail
        refine CS.out.mono ?_
        rintro e w2 ⟨rfl, rfl⟩
        go_wp2_with fail
        refine CT.out.mono ?_
        rintro e w2 ⟨rfl, rfl⟩
        go_wp2_with fail
        go_quiet (fail)
        go_wp2_with fail
        refine (C2.out _ (HA.out.drewN _)).mono ?_
        rintro e w3 ⟨rfl, A3, K3⟩
        have hK3 := ((Kp.refl rb w).drewN nq).trans K3
        have d1 := A3.c2
        have f1 := A3.f 2
        go_wp2_with fail
        go_region_with (first | (go_at_call 33; refine (CS3.out _ (by first | exact A3 | exact A3.drew)).mono ?_; rintro e w5 ⟨rfl, rfl⟩) | (go_at_call 50; refine (CV3.out _).mono ?_; rintro e w5 ⟨rfl, rfl⟩))
        all_goals go_wp2_with fail
        all_goals (first | go_end0 | (refine bodyPost_ret (results_none rfl _ _ _) rfl ?_))
        all_goals exact ⟨rfl, by rw [HR.out]; exact (A3.drew).put 2 _ (by decide) rfl rfl rfl rfl rfl (by decide) rfl (by decide), hK3.drew.setCell (Or.inl rfl) _⟩
      · go_enter Try.func31, Try.ntmps31
        go_wp2_with fail
        refine CS.out.mono ?_
        rintro e w2 ⟨rfl, rfl⟩
        go_wp2_with fail
        refine CT.out.mono ?_
        rintro e w2 ⟨rfl, rfl⟩
        go_wp2_with fail
        go_quiet (fail)
        go_wp2_with fail
        refine (C2.out _ (HA.out.drewN _)).mono ?_
        rintro e w3 ⟨rfl, A3, K3⟩
        have hK3 := ((Kp.refl rb w).drewN nq).trans K3
        have d1 := A3.c3
        have f1 := A3.f 3
        go_wp2_with fail
        go_region_with (first | (go_at_call 33; refine (CS3.out _ (by first | exact A3 | exact A3.drew)).mono ?_; rintro e w5 ⟨rfl, rfl⟩) | (go_at_call 50; refine (CV3.out _).mono ?_; rintro e w5 ⟨rfl, rfl⟩))
        all_goals go_wp2_with fail
        all_goals (first | go_end0 | (refine bodyPost_ret (results_none rfl _ _ _) rfl ?_))
        all_goals exact ⟨rfl, by rw [HR.out]; exact (A3.drew).put 3 _ (by decide) rfl rfl rfl rfl rfl (by decide) rfl (by decide), hK3.drew.setCell (Or.inl rfl) _⟩
      · go_enter Try.func31, Try.ntmps31
        go_wp2_with fail
        refine CS.out.mono ?_
        rintro e w2 ⟨rfl, rfl⟩
        go_wp2_with fail
        refine CT.out.mono ?_
        rintro e w2 ⟨rfl, rfl⟩
        go_wp2_with fail
        go_quiet (fail)
        go_wp2_with fail
        refine (C2.out _ (HA.out.drewN _)).mono ?_
        rintro e w3 ⟨rfl, A3, K3⟩
        have hK3 := ((Kp.refl rb w).drewN nq).trans K3
        have d1 := A3.c4
        have f1 := A3.f 4
        go_wp2_with fail
        go_region_with (first | (go_at_call 33; refine (CS3.out _ (by first | exact A3 | exact A3.drew)).mono ?_; rintro e w5 ⟨rfl, rfl⟩) | (go_at_call 50; refine (CV3.out _).mono ?_; rintro e w5 ⟨rfl, rfl⟩))
        all_goals go_wp2_with fail
        all_goals (first | go_end0 | (refine bodyPost_ret (results_none rfl _ _ _) rfl ?_))
        all_goals exact ⟨rfl, by rw [HR.out]; exact (A3.drew).put 4 _ (by decide) rfl rfl rfl rfl rfl (by decide) rfl (by decide), hK3.drew.setCell (Or.inl rfl) _⟩

theorem run_command (toks : List (List UInt8 × Nat)) (rb cb : Nat) (fuel : Int) (n : Nat) (hf : fuel ≤ 10000) (hl : ∀ j, (sAt toks j).length ≤ 300) (IH : ∀ m, m < n → AllR toks rb cb fuel m) : ComR toks rb cb fuel n := by
  intro k k' c w s hr hn hk ha hi he
  have l0 := hr.le
  cases hr with
  | skip h1 => exact com_skip toks rb cb fuel k w s hf (by omega) h1 ha hi
  | asg h1 => exact com_asg toks rb cb fuel k w s hf hl (by omega) h1 ha hi
  | ite h1 h2 h3 h4 => exact com_if toks rb cb fuel (n - 1) k _ _ _ _ _ _ w s hf hl (IH (n - 1) (by omega)) (by omega) (by omega) h1 h2 h3 h4 ha hi he
  | loop h1 h2 h3 h4 => exact com_while toks rb cb fuel (n - 1) k _ _ _ _ _ _ w s hf hl (IH (n - 1) (by omega)) (by omega) (by omega) h1 h2 h3 h4 ha hi he
theorem runs (toks : List (List UInt8 × Nat)) (rb cb : Nat) (fuel : Int) (hf : fuel ≤ 10000) (hl : ∀ j, (sAt toks j).length ≤ 300) (n : Nat) : AllR toks rb cb fuel n := by
  induction n using Nat.strongRecOn with
  | ind n ih => exact run_all toks rb cb fuel n hl (run_command toks rb cb fuel n hf hl ih)
end Go.Proofs.Ytkinoehmcfhgbaa.Vl
set_option linter.unusedVariables false
set_option linter.unusedSimpArgs false
namespace Go.Proofs.Ytkinoehmcfhgbaa.Vl
open Go.RowKit
open Go.Proofs.Ytkinoehmcfhgbaa.Av (vr Fm Rd Tg sAt Cm Rc Kp set_other Tk2 want tokAt read_any read_long answer)

set_option maxRecDepth 100000 in
set_option maxHeartbeats 1000000 in
theorem refHolds_any (s : ByteArray) (behind : Bool) (x1 x2 x3 x4 : Int) (p q : Fm) (c : Cm) (w : World) (hP : (answer s).1 = 0 → Prg (tokAt 0 (Av.rest s 0)) p c q) :
    Calls Try.prog 11 #[.string s, .bool behind, .agg #[.int .i64 x1, .int .i64 x2, .int .i64 x3, .int .i64 x4]] w fun e w' => e = .returned (.tuple #[.bool (hAns s behind x1 x2 x3 x4 p q).1, .int .i64 (hAns s behind x1 x2 x3 x4 p q).2.1, .int .i64 (hAns s behind x1 x2 x3 x4 p q).2.2]) ∧ Below w.heap.size w w' := by
  have C1 : Hid (∀ w, Calls Try.prog 13 #[.string s] w fun e w' => ∃ v, e = .returned (.tuple #[v, .int .i64 (answer s).1, .int .i64 (answer s).2]) ∧ ((answer s).1 = 0 → Tk2 w' v (tokAt 0 (Av.rest s 0))) ∧ Below w.heap.size w w') := fun w => read2 s w
  have CG : Hid (∀ w, Calls Try.prog 17 #[.agg #[.int .i64 x1, .int .i64 x2, .int .i64 x3, .int .i64 x4]] w fun e w' => e = .returned (.bool (gds x1 x2 x3 x4)) ∧ Below w.heap.size w w') := fun w => good_any x1 x2 x3 x4 w
  by_cases h0 : (answer s).1 = 0
  · have hs := answer_long h0
    obtain ⟨k1, k2, k3, r1, r2, r3, hk3⟩ := hP h0
    have hl := sAt_len s hs
    have htl : (tokAt 0 (Av.rest s 0)).length ≤ 300 := by have := Av.tokAt_len 0 (Av.rest s 0); have := Av.rest_len s 0; omega
    have e1 := r1.le.2 (by simp)
    have e2 := r2.le
    have e3 := r3.le.2 (by simp)
    cases hg : gds x1 x2 x3 x4
    · have HR : Hid (hAns s behind x1 x2 x3 x4 p q = (false, 4, 0)) := by
        show _ = _
        unfold hAns
        rw [if_neg (by omega), if_pos hg]
      rw [hg] at CG
      clear r1 r2 r3 hP hl
      generalize hAns s behind x1 x2 x3 x4 p q = R at *
      generalize tokAt 0 (Av.rest s 0) = toks at *
      generalize answer s = W at *
      go_enter Try.func11, Try.ntmps11
      go_wp2_with fail
      refine (C1.out _).mono ?_
      rintro e w2 ⟨v, rfl, hT, hb2⟩
      have hbb := (below_alloc w (.cells #[.int .i64 x1, .int .i64 x2, .int .i64 x3, .int .i64 x4] 29)).trans (hb2.mono (by simp))
      have d0 : w2.cell? ⟨w.heap.size, 0, none⟩ = some (.int .i64 x1) := (hb2.cell (p := ⟨w.heap.size, 0, none⟩) (by simp)).trans (by rw [World.cell?_alloc_at _ _ _ _ rfl]; rfl)
      have d1 : w2.cell? ⟨w.heap.size, 1, none⟩ = some (.int .i64 x2) := (hb2.cell (p := ⟨w.heap.size, 1, none⟩) (by simp)).trans (by rw [World.cell?_alloc_at _ _ _ _ rfl]; rfl)
      have d2 : w2.cell? ⟨w.heap.size, 2, none⟩ = some (.int .i64 x3) := (hb2.cell (p := ⟨w.heap.size, 2, none⟩) (by simp)).trans (by rw [World.cell?_alloc_at _ _ _ _ rfl]; rfl)
      have d3 : w2.cell? ⟨w.heap.size, 3, none⟩ = some (.int .i64 x4) := (hb2.cell (p := ⟨w.heap.size, 3, none⟩) (by simp)).trans (by rw [World.cell?_alloc_at _ _ _ _ rfl]; rfl)
      have HBB : Hid (Below w.heap.size w w2) := hbb
      clear hT hb2 hbb
      go_wp2_with fail
      refine (CG.out _).mono ?_
      rintro e w3 ⟨rfl, hb3⟩
      go_wp2_with fail
      go_ret3
      exact ⟨by (rw [HR.out]) <;> rfl, HBB.out.trans (hb3.mono HBB.out.size)⟩
    · have HR : Hid (hAns s behind x1 x2 x3 x4 p q = (ev x1 x2 x3 x4 (if behind then q else p), 0, 0)) := by
        show _ = _
        unfold hAns
        rw [if_neg (by omega), if_neg (by rw [hg]; decide)]
      rw [hg] at CG
      have CP : Hid (∀ w B, CodeAt w B (tokAt 0 (Av.rest s 0)) → Calls Try.prog 18 #[.pointer (some ⟨B, 0, none⟩)] w fun e w' => e = .returned (.tuple #[.int .i64 1, .int .i64 ((k1 : Int) + 1), .int .i64 ((k2 : Int) + 1)]) ∧ Below w.heap.size w w') := fun w B hc => parts_any _ B hl k1 k2 p c w r1 r2 (by omega) hc
      have CF : Hid (∀ w B, CodeAt w B (tokAt 0 (Av.rest s 0)) → Calls Try.prog 20 #[.pointer (some ⟨B, 0, none⟩), .int .i64 1] w fun e w' => e = .returned (.tuple #[.string (ftx p), .int .i64 (k1 : Int)]) ∧ Below w.heap.size w w') := fun w B hc => formula_any _ B hl 1 k1 p w r1 (by omega) hc
      have CQ : Hid (∀ w B, CodeAt w B (tokAt 0 (Av.rest s 0)) → Calls Try.prog 20 #[.pointer (some ⟨B, 0, none⟩), .int .i64 ((k2 : Int) + 1)] w fun e w' => e = .returned (.tuple #[.string (ftx q), .int .i64 (k3 : Int)]) ∧ Below w.heap.size w w') := fun w B hc => formula_any _ B hl (k2 + 1) k3 q w r3 (by omega) hc
      have CV : Hid (∀ w, Calls Try.prog 21 #[.string (ftx p), .agg #[.int .i64 x1, .int .i64 x2, .int .i64 x3, .int .i64 x4]] w fun e w' => e = .returned (.bool (ev x1 x2 x3 x4 p)) ∧ Below w.heap.size w w') := fun w => valued_f p _ _ _ _ w (rd_ok r1 (fun g h => by cases h)) (by have := rd_len r1; simp only [tgL] at this; omega) hg
      have CW : Hid (∀ w, Calls Try.prog 21 #[.string (ftx q), .agg #[.int .i64 x1, .int .i64 x2, .int .i64 x3, .int .i64 x4]] w fun e w' => e = .returned (.bool (ev x1 x2 x3 x4 q)) ∧ Below w.heap.size w w') := fun w => valued_f q _ _ _ _ w (rd_ok r3 (fun g h => by cases h)) (by have := rd_len r3; simp only [tgL] at this; omega) hg
      have HZ : Hid ((answer s).1 = 0) := h0
      have htp : 0 < (tokAt 0 (Av.rest s 0)).length := by omega
      clear r1 r2 r3 hP hl
      generalize hAns s behind x1 x2 x3 x4 p q = R at *
      generalize tokAt 0 (Av.rest s 0) = toks at *
      generalize answer s = W at *
      cases behind
      · have HX : Hid (R = (ev x1 x2 x3 x4 p, 0, 0)) := HR.out
        have CX := CF
        have CY := CV
        clear CF CQ CV CW HR
        generalize ftx p = PX at *
        generalize ev x1 x2 x3 x4 p = VX at *
        go_enter Try.func11, Try.ntmps11
        go_wp2_with fail
        refine (C1.out _).mono ?_
        rintro e w2 ⟨v, rfl, hT, hb2⟩
        have hT2 := hT HZ.out
        obtain ⟨tg, tc, rfl⟩ := tk2_slice hT2 htp
        have hs2 : w.heap.size < w2.heap.size := by have := hb2.size; simp at this; omega
        have hbb := (below_alloc w (.cells #[.int .i64 x1, .int .i64 x2, .int .i64 x3, .int .i64 x4] 29)).trans (hb2.mono (by simp))
        have d0 : w2.cell? ⟨w.heap.size, 0, none⟩ = some (.int .i64 x1) := (hb2.cell (p := ⟨w.heap.size, 0, none⟩) (by simp)).trans (by rw [World.cell?_alloc_at _ _ _ _ rfl]; rfl)
        have d1 : w2.cell? ⟨w.heap.size, 1, none⟩ = some (.int .i64 x2) := (hb2.cell (p := ⟨w.heap.size, 1, none⟩) (by simp)).trans (by rw [World.cell?_alloc_at _ _ _ _ rfl]; rfl)
        have d2 : w2.cell? ⟨w.heap.size, 2, none⟩ = some (.int .i64 x3) := (hb2.cell (p := ⟨w.heap.size, 2, none⟩) (by simp)).trans (by rw [World.cell?_alloc_at _ _ _ _ rfl]; rfl)
        have d3 : w2.cell? ⟨w.heap.size, 3, none⟩ = some (.int .i64 x4) := (hb2.cell (p := ⟨w.heap.size, 3, none⟩) (by simp)).trans (by rw [World.cell?_alloc_at _ _ _ _ rfl]; rfl)
        have HBB : Hid (Below w.heap.size w w2) := hbb
        have HT2 : Hid (Tk2 w2 (.slice (some ⟨tg, 0, none⟩) toks.length tc) toks) := hT2
        clear hT hb2 hbb hT2
        go_wp2_with fail
        refine (CG.out _).mono ?_
        rintro e w3 ⟨rfl, hb3⟩
        have HC3 : Hid (CodeAt (w3.alloc (.cells #[.slice (some ⟨tg, 0, none⟩) toks.length tc] 61)) w3.heap.size toks) := tk2_at (HT2.out.below hb3) htp _
        have e0 := (hb3.cell (p := ⟨w.heap.size, 0, none⟩) hs2).trans d0
        have e1 := (hb3.cell (p := ⟨w.heap.size, 1, none⟩) hs2).trans d1
        have e2 := (hb3.cell (p := ⟨w.heap.size, 2, none⟩) hs2).trans d2
        have e3 := (hb3.cell (p := ⟨w.heap.size, 3, none⟩) hs2).trans d3
        have hs3 : w.heap.size < w3.heap.size := by have := hb3.size; omega
        have HB3 : Hid (Below w.heap.size w (w3.alloc (.cells #[.slice (some ⟨tg, 0, none⟩) toks.length tc] 61))) := (HBB.out.trans (hb3.mono HBB.out.size)).alloc (by omega) _
        clear d0 d1 d2 d3 hb3 HBB HT2
        go_wp2_with fail
        refine (CP.out _ _ HC3.out).mono ?_
        rintro e w4 ⟨rfl, hb4⟩
        have HC4 : Hid (CodeAt w4 w3.heap.size toks) := HC3.out.below hb4
        have HB4 : Hid (Below w.heap.size w w4) := HB3.out.trans (hb4.mono HB3.out.size)
        have f0 : w4.cell? ⟨w.heap.size, 0, none⟩ = some (.int .i64 x1) := (hb4.cell (p := ⟨w.heap.size, 0, none⟩) (by simp; omega)).trans ((below_alloc w3 _).cell (p := ⟨w.heap.size, 0, none⟩) hs3 |>.trans e0)
        have f1 : w4.cell? ⟨w.heap.size, 1, none⟩ = some (.int .i64 x2) := (hb4.cell (p := ⟨w.heap.size, 1, none⟩) (by simp; omega)).trans ((below_alloc w3 _).cell (p := ⟨w.heap.size, 1, none⟩) hs3 |>.trans e1)
        have f2 : w4.cell? ⟨w.heap.size, 2, none⟩ = some (.int .i64 x3) := (hb4.cell (p := ⟨w.heap.size, 2, none⟩) (by simp; omega)).trans ((below_alloc w3 _).cell (p := ⟨w.heap.size, 2, none⟩) hs3 |>.trans e2)
        have f3 : w4.cell? ⟨w.heap.size, 3, none⟩ = some (.int .i64 x4) := (hb4.cell (p := ⟨w.heap.size, 3, none⟩) (by simp; omega)).trans ((below_alloc w3 _).cell (p := ⟨w.heap.size, 3, none⟩) hs3 |>.trans e3)
        have hs4 : w.heap.size < w4.heap.size := by have := hb4.size; simp at this; omega
        clear e0 e1 e2 e3 hb4 HC3 HB3
        go_wp2_with fail
        refine (CX.out _ _ HC4.out).mono ?_
        rintro e w5 ⟨rfl, hb5⟩
        have HB5 : Hid (Below w.heap.size w w5) := HB4.out.trans (hb5.mono HB4.out.size)
        have g0 := (hb5.cell (p := ⟨w.heap.size, 0, none⟩) hs4).trans f0
        have g1 := (hb5.cell (p := ⟨w.heap.size, 1, none⟩) hs4).trans f1
        have g2 := (hb5.cell (p := ⟨w.heap.size, 2, none⟩) hs4).trans f2
        have g3 := (hb5.cell (p := ⟨w.heap.size, 3, none⟩) hs4).trans f3
        clear f0 f1 f2 f3 hb5 HC4 HB4
        go_wp2_with fail
        refine (CY.out _).mono ?_
        rintro e w6 ⟨rfl, hb6⟩
        go_wp2_with fail
        go_ret3
        exact ⟨by (rw [HX.out]) <;> rfl, HB5.out.trans (hb6.mono HB5.out.size)⟩
      · have HX : Hid (R = (ev x1 x2 x3 x4 q, 0, 0)) := HR.out
        have CX := CQ
        have CY := CW
        clear CF CQ CV CW HR
        generalize ftx q = PX at *
        generalize ev x1 x2 x3 x4 q = VX at *
        go_enter Try.func11, Try.ntmps11
        go_wp2_with fail
        refine (C1.out _).mono ?_
        rintro e w2 ⟨v, rfl, hT, hb2⟩
        have hT2 := hT HZ.out
        obtain ⟨tg, tc, rfl⟩ := tk2_slice hT2 htp
        have hs2 : w.heap.size < w2.heap.size := by have := hb2.size; simp at this; omega
        have hbb := (below_alloc w (.cells #[.int .i64 x1, .int .i64 x2, .int .i64 x3, .int .i64 x4] 29)).trans (hb2.mono (by simp))
        have d0 : w2.cell? ⟨w.heap.size, 0, none⟩ = some (.int .i64 x1) := (hb2.cell (p := ⟨w.heap.size, 0, none⟩) (by simp)).trans (by rw [World.cell?_alloc_at _ _ _ _ rfl]; rfl)
        have d1 : w2.cell? ⟨w.heap.size, 1, none⟩ = some (.int .i64 x2) := (hb2.cell (p := ⟨w.heap.size, 1, none⟩) (by simp)).trans (by rw [World.cell?_alloc_at _ _ _ _ rfl]; rfl)
        have d2 : w2.cell? ⟨w.heap.size, 2, none⟩ = some (.int .i64 x3) := (hb2.cell (p := ⟨w.heap.size, 2, none⟩) (by simp)).trans (by rw [World.cell?_alloc_at _ _ _ _ rfl]; rfl)
        have d3 : w2.cell? ⟨w.heap.size, 3, none⟩ = some (.int .i64 x4) := (hb2.cell (p := ⟨w.heap.size, 3, none⟩) (by simp)).trans (by rw [World.cell?_alloc_at _ _ _ _ rfl]; rfl)
        have HBB : Hid (Below w.heap.size w w2) := hbb
        have HT2 : Hid (Tk2 w2 (.slice (some ⟨tg, 0, none⟩) toks.length tc) toks) := hT2
        clear hT hb2 hbb hT2
        go_wp2_with fail
        refine (CG.out _).mono ?_
        rintro e w3 ⟨rfl, hb3⟩
        have HC3 : Hid (CodeAt (w3.alloc (.cells #[.slice (some ⟨tg, 0, none⟩) toks.length tc] 61)) w3.heap.size toks) := tk2_at (HT2.out.below hb3) htp _
        have e0 := (hb3.cell (p := ⟨w.heap.size, 0, none⟩) hs2).trans d0
        have e1 := (hb3.cell (p := ⟨w.heap.size, 1, none⟩) hs2).trans d1
        have e2 := (hb3.cell (p := ⟨w.heap.size, 2, none⟩) hs2).trans d2
        have e3 := (hb3.cell (p := ⟨w.heap.size, 3, none⟩) hs2).trans d3
        have hs3 : w.heap.size < w3.heap.size := by have := hb3.size; omega
        have HB3 : Hid (Below w.heap.size w (w3.alloc (.cells #[.slice (some ⟨tg, 0, none⟩) toks.length tc] 61))) := (HBB.out.trans (hb3.mono HBB.out.size)).alloc (by omega) _
        clear d0 d1 d2 d3 hb3 HBB HT2
        go_wp2_with fail
        refine (CP.out _ _ HC3.out).mono ?_
        rintro e w4 ⟨rfl, hb4⟩
        have HC4 : Hid (CodeAt w4 w3.heap.size toks) := HC3.out.below hb4
        have HB4 : Hid (Below w.heap.size w w4) := HB3.out.trans (hb4.mono HB3.out.size)
        have f0 : w4.cell? ⟨w.heap.size, 0, none⟩ = some (.int .i64 x1) := (hb4.cell (p := ⟨w.heap.size, 0, none⟩) (by simp; omega)).trans ((below_alloc w3 _).cell (p := ⟨w.heap.size, 0, none⟩) hs3 |>.trans e0)
        have f1 : w4.cell? ⟨w.heap.size, 1, none⟩ = some (.int .i64 x2) := (hb4.cell (p := ⟨w.heap.size, 1, none⟩) (by simp; omega)).trans ((below_alloc w3 _).cell (p := ⟨w.heap.size, 1, none⟩) hs3 |>.trans e1)
        have f2 : w4.cell? ⟨w.heap.size, 2, none⟩ = some (.int .i64 x3) := (hb4.cell (p := ⟨w.heap.size, 2, none⟩) (by simp; omega)).trans ((below_alloc w3 _).cell (p := ⟨w.heap.size, 2, none⟩) hs3 |>.trans e2)
        have f3 : w4.cell? ⟨w.heap.size, 3, none⟩ = some (.int .i64 x4) := (hb4.cell (p := ⟨w.heap.size, 3, none⟩) (by simp; omega)).trans ((below_alloc w3 _).cell (p := ⟨w.heap.size, 3, none⟩) hs3 |>.trans e3)
        have hs4 : w.heap.size < w4.heap.size := by have := hb4.size; simp at this; omega
        clear e0 e1 e2 e3 hb4 HC3 HB3
        go_wp2_with fail
        refine (CX.out _ _ HC4.out).mono ?_
        rintro e w5 ⟨rfl, hb5⟩
        have HB5 : Hid (Below w.heap.size w w5) := HB4.out.trans (hb5.mono HB4.out.size)
        have g0 := (hb5.cell (p := ⟨w.heap.size, 0, none⟩) hs4).trans f0
        have g1 := (hb5.cell (p := ⟨w.heap.size, 1, none⟩) hs4).trans f1
        have g2 := (hb5.cell (p := ⟨w.heap.size, 2, none⟩) hs4).trans f2
        have g3 := (hb5.cell (p := ⟨w.heap.size, 3, none⟩) hs4).trans f3
        clear f0 f1 f2 f3 hb5 HC4 HB4
        go_wp2_with fail
        refine (CY.out _).mono ?_
        rintro e w6 ⟨rfl, hb6⟩
        go_wp2_with fail
        go_ret3
        exact ⟨by (rw [HX.out]) <;> rfl, HB5.out.trans (hb6.mono HB5.out.size)⟩
  · have h0' : ((answer s).1 != 0) = true := by simpa using h0
    have HR : Hid (hAns s behind x1 x2 x3 x4 p q = (false, (answer s).1, (answer s).2)) := by
      show _ = _
      unfold hAns
      rw [if_pos h0]
    clear hP h0 CG
    generalize hAns s behind x1 x2 x3 x4 p q = R at *
    generalize tokAt 0 (Av.rest s 0) = toks at *
    generalize answer s = W at *
    go_enter Try.func11, Try.ntmps11
    go_wp2_with fail
    refine (C1.out _).mono ?_
    rintro e w2 ⟨v, rfl, hT, hb2⟩
    have hbb := (below_alloc w (.cells #[.int .i64 x1, .int .i64 x2, .int .i64 x3, .int .i64 x4] 29)).trans (hb2.mono (by simp))
    clear hT
    go_wp2_with fail
    go_ret3
    exact ⟨by (rw [HR.out]) <;> rfl, hbb⟩
end Go.Proofs.Ytkinoehmcfhgbaa.Vl
