/-
  What the statement Weakest sees, plain.
  The walk of the statement Weakest.
-/
import Derived.Test.YtkinoehmcfhgbaaGreatDoorV15
import Derived.Deep.RegionHeld3
set_option linter.unusedVariables false
set_option linter.unusedSimpArgs false
namespace Go.Proofs.YtkinoehmcfhgbaaGreatDoor.Vl
open Go.RowKit
open Go.Proofs.YtkinoehmcfhgbaaGreatDoor.Av (vr Fm Rd Tg sAt Cm Rc tokAt answer)

/-- What Weakest sees of Conditions, Run, Holds. -/
def WkSees (s : ByteArray) (y1 y2 y3 y4 : Int) (L : List (List UInt8)) (ce : Int) (R : RS) (re : Int) (hv : Bool) (he : Int) : Prop :=
  (ce ≠ 0 ∧ ce ≠ 6 ∧ re = ce ∧ he = ce ∧ L = []) ∨ (ce = 6 ∧ re = 0 ∧ he = 0 ∧ L = []) ∨ (ce = 0 ∧ re = 0 ∧ he = 0 ∧ 1 < L.length ∧ L.length ≤ 4000) ∨
  (ce = 0 ∧ re = 0 ∧ he = 0 ∧ L.length = 1 ∧ kn R = 2) ∨
  (ce = 0 ∧ re = 0 ∧ he = 0 ∧ ∃ l0 b, L = [l0] ∧ kn R = 0 ∧ l0.length ≤ 4000 ∧ (∀ p q c, ((answer s).1 = 0 → Prg (tokAt 0 (Av.rest s 0)) p c q) → hAns s true R.x1 R.x2 R.x3 R.x4 p q = (b, 0, 0)) ∧ vAns (pars ⟨l0.toArray⟩) y1 y2 y3 y4 = ((!hv || b), 0))
theorem wk_sees (s : ByteArray) {y1 y2 y3 y4 : Int} (hg : gds y1 y2 y3 y4 = true) {p p' p'' q q' q'' : Fm} {c c' c'' : Cm} (h1 : (answer s).1 = 0 → Prg (tokAt 0 (Av.rest s 0)) p c q) (h2 : (answer s).1 = 0 → Prg (tokAt 0 (Av.rest s 0)) p' c' q') (h3 : (answer s).1 = 0 → Prg (tokAt 0 (Av.rest s 0)) p'' c'' q'') :
    WkSees s y1 y2 y3 y4 (cAns s p c q).1 (cAns s p c q).2.1 (dAns s y1 y2 y3 y4 10000 c').1 (dAns s y1 y2 y3 y4 10000 c').2.1 (hAns s false y1 y2 y3 y4 p'' q'').1 (hAns s false y1 y2 y3 y4 p'' q'').2.1 := by
  by_cases h0 : (answer s).1 = 0
  · obtain ⟨rfl, rfl, rfl⟩ := (h1 h0).det (h2 h0)
    obtain ⟨rfl, rfl, rfl⟩ := (h1 h0).det (h3 h0)
    have hd : dAns s y1 y2 y3 y4 10000 c = (ex 10000 c { x1 := y1, x2 := y2, x3 := y3, x4 := y4, n := 0, e := -1 }, 0, 0) := by
      unfold dAns
      rw [if_neg (fun h => h h0), if_neg (by rw [hg]; decide), if_neg (by omega)]
    have hh : hAns s false y1 y2 y3 y4 p q = (ev y1 y2 y3 y4 p, 0, 0) := by
      unfold hAns
      rw [if_neg (fun h => h h0), if_neg (by rw [hg]; decide)]; rfl
    rw [hd, hh, cAns_fits s p c q h0]
    have htl : (tokAt 0 (Av.rest s 0)).length ≤ 300 := by have := answer_long h0; have := Av.tokAt_len 0 (Av.rest s 0); have := Av.rest_len s 0; omega
    cases hf : fits p c q
    · exact Or.inr (Or.inl ⟨rfl, rfl, rfl, rfl⟩)
    · have hpg := h1 h0
      have hgood := conds_good hpg htl hf
      obtain ⟨k1, k2, k3, r1, r2, r3, hk3⟩ := hpg
      have l1 := r1.le.1
      have l3 := r3.le.1
      have hsz := rc_szc r2
      have hok := rc_okk r2
      have op : fOk p := rd_ok r1 (fun g h => by cases h)
      have oq : fOk q := rd_ok r3 (fun g h => by cases h)
      rw [if_pos rfl]
      have e1 : (texts p c q).length = (cls c (fsy q)).length + 1 := by unfold texts; simp
      by_cases hL : (cls c (fsy q)).length = 0
      · have hn : noL c = true := (cls_noL c (fsy q)).1 (List.length_eq_zero_iff.1 hL)
        have hst := ex_steps 10000 c hn { x1 := y1, x2 := y2, x3 := y3, x4 := y4, n := 0, e := -1 } (by dsimp only; decide) (by dsimp only; omega)
        have hinv := (inv_ex (fuel := 10000) c { x1 := y1, x2 := y2, x3 := y3, x4 := y4, n := 0, e := -1 } ⟨by dsimp only; decide, by dsimp only; decide, hg, by dsimp only; decide, by dsimp only; decide⟩).1
        rcases hst.2.2 with he | he
        · right; right; right; right
          refine ⟨rfl, rfl, rfl, sbs (one p c q), (ex 10000 c { x1 := y1, x2 := y2, x3 := y3, x4 := y4, n := 0, e := -1 }).ev q, ?_, ?_, ?_, ?_, ?_⟩
          · show texts p c q = _
            unfold texts
            rw [List.length_eq_zero_iff.1 hL]; rfl
          · unfold kn; rw [if_pos he]
          · have := (hgood (one p c q) (by unfold conds; exact List.mem_cons_self)).2.1
            unfold bl at this
            exact this
          · intro p3 q3 c3 hp3
            obtain ⟨rfl, rfl, rfl⟩ := (h1 h0).det (hp3 h0)
            unfold hAns
            rw [if_neg (fun h => h h0), if_neg (by rw [hinv.2.2.1]; decide)]; rfl
          · have hwc : Wc (one p c q) := Wc.two rfl (wc_fsy p) (wc_wpc c _ (wc_fsy q))
            obtain ⟨g1, g2, g3⟩ := hgood (one p c q) (by unfold conds; exact List.mem_cons_self)
            have hpr := pars_wc g1 hwc g2
            rw [hpr]
            obtain ⟨b, b1, b2⟩ := val_brun y1 y2 y3 y4 hpr
            have h5 := one_run op oq hok hn 10000 { x1 := y1, x2 := y2, x3 := y3, x4 := y4, n := 0, e := -1 } he
            have h6 : brun y1 y2 y3 y4 (one p c q) = [!(ev y1 y2 y3 y4 p) || (ex 10000 c { x1 := y1, x2 := y2, x3 := y3, x4 := y4, n := 0, e := -1 }).ev q] := h5
            rw [b1] at h6
            have h7 : b = (!(ev y1 y2 y3 y4 p) || (ex 10000 c { x1 := y1, x2 := y2, x3 := y3, x4 := y4, n := 0, e := -1 }).ev q) := (List.cons.inj h6).1
            unfold vAns
            dsimp only
            rw [if_pos hg, b2, h7]
        · right; right; right; left
          exact ⟨rfl, rfl, rfl, by show (texts p c q).length = 1; omega, by unfold kn; dsimp only; rw [he]; rfl⟩
      · right; right; left
        refine ⟨rfl, rfl, rfl, by show 1 < (texts p c q).length; omega, ?_⟩
        show (texts p c q).length ≤ 4000
        have h1 := rc_sz r2
        have h2 := nlo_le c
        have h3 := pL_len c (fsy q)
        unfold fits at hf
        rw [Bool.and_eq_true] at hf
        have h4 := ((walk_is c (fsy q)).2 hf.1).2
        rw [h4, List.length_reverse] at h3
        omega
  · have hd : dAns s y1 y2 y3 y4 10000 c' = (r0, (answer s).1, (answer s).2) := by unfold dAns; rw [if_pos h0]
    have hh : hAns s false y1 y2 y3 y4 p'' q'' = (false, (answer s).1, (answer s).2) := by unfold hAns; rw [if_pos h0]
    have hc : cAns s p c q = ([], (answer s).1, (answer s).2) := by unfold cAns; rw [if_pos h0]
    rw [hd, hh, hc]
    exact Or.inl ⟨h0, (answer_err s).1, rfl, rfl, rfl⟩
end Go.Proofs.YtkinoehmcfhgbaaGreatDoor.Vl
set_option linter.unusedVariables false
set_option linter.unusedSimpArgs false
namespace Go.Proofs.YtkinoehmcfhgbaaGreatDoor.Vl
open Go.RowKit
open Go.Proofs.YtkinoehmcfhgbaaGreatDoor.Av (vr Fm Rd Tg sAt Cm Rc tokAt answer)

set_option maxHeartbeats 400000 in
theorem loops_any (q : Option Addr) (n c : Nat) (w : World) : Calls Tryz.prog 21 #[.slice q n c] w fun e w' => e = .returned (.bool ((n : Int) != 1)) ∧ w = w' := by
  go_enter Tryz.func21, Tryz.ntmps21
  go_wp2
  go_ret
  exact ⟨rfl, rfl⟩

set_option maxRecDepth 100000 in
set_option maxHeartbeats 8000000 in
theorem weakest_c (s : ByteArray) (x1 x2 x3 x4 : Int) (hx : ∀ x ∈ [x1, x2, x3, x4], -9223372036854775808 ≤ x ∧ x ≤ 9223372036854775807) (w : World) (hgl : Gl w) :
    Calls Tryz.prog 4 #[.string s, .agg #[.int .i64 x1, .int .i64 x2, .int .i64 x3, .int .i64 x4]] w fun e w' => e = .returned (.bool true) ∧ Below w.heap.size w w' := by
  have K0 : Hid (∀ w, Gl w → Calls Tryz.prog 17 #[] w fun e w' => ∃ v, e = .returned (.tuple #[v, .bool true]) ∧ Below w.heap.size w w') := ran_any
  have K1 : Hid (∀ w, Calls Tryz.prog 18 #[.agg #[.int .i64 x1, .int .i64 x2, .int .i64 x3, .int .i64 x4]] w fun e w' => ∃ y1 y2 y3 y4, e = .returned (.agg #[.int .i64 y1, .int .i64 y2, .int .i64 y3, .int .i64 y4]) ∧ gds y1 y2 y3 y4 = true ∧ Below w.heap.size w w') := small_any x1 x2 x3 x4 hx
  have KL : Hid _ := loops_any
  have HGL : Hid (Gl w) := hgl
  have hg0 : Gl (w.alloc (.cells #[.int .i64 x1, .int .i64 x2, .int .i64 x3, .int .i64 x4] 36)) := hgl.on (below_alloc _ _)
  clear hx
  go_enter Tryz.func4, Tryz.ntmps4
  go_wp2_with fail
  refine Calls.mono (K0.out _ hg0) ?_
  rintro e w1 ⟨v0, rfl, hb1⟩
  have d0 : w1.cell? ⟨w.heap.size, 0, none⟩ = some (.int .i64 x1) := (hb1.cell (p := ⟨w.heap.size, 0, none⟩) (by simp)).trans (by simp)
  have d1 : w1.cell? ⟨w.heap.size, 1, none⟩ = some (.int .i64 x2) := (hb1.cell (p := ⟨w.heap.size, 1, none⟩) (by simp)).trans (by simp)
  have d2 : w1.cell? ⟨w.heap.size, 2, none⟩ = some (.int .i64 x3) := (hb1.cell (p := ⟨w.heap.size, 2, none⟩) (by simp)).trans (by simp)
  have d3 : w1.cell? ⟨w.heap.size, 3, none⟩ = some (.int .i64 x4) := (hb1.cell (p := ⟨w.heap.size, 3, none⟩) (by simp)).trans (by simp)
  have HB1 : Hid (Below w.heap.size w w1) := (below_alloc w _).trans (hb1.mono (by simp))
  clear hb1 hg0 K0
  go_wp2_with fail
  refine Calls.mono (K1.out _) ?_
  rintro e w2 ⟨y1, y2, y3, y4, rfl, hgy, hb2⟩
  have HB2 : Hid (Below w.heap.size w (w2.alloc (.cells #[.int .i64 y1, .int .i64 y2, .int .i64 y3, .int .i64 y4] 36))) := ((HB1.out.trans (hb2.mono HB1.out.size)).alloc (by have := HB1.out.size; have := hb2.size; omega) _)
  have CC : Hid _ := ccond_any s (w2.alloc (.cells #[.int .i64 y1, .int .i64 y2, .int .i64 y3, .int .i64 y4] 36)) (gt_gl (HGL.out.on HB2.out))
  have HGY : Hid (gds y1 y2 y3 y4 = true) := hgy
  clear hgy hb2 HB1 d0 d1 d2 d3 K1
  go_wp2_with fail
  refine Calls.mono CC.out ?_
  rintro e w3 ⟨p, c, q, hP, v, rfl, ho, hb3⟩
  have e0 : w3.cell? ⟨w2.heap.size, 0, none⟩ = some (.int .i64 y1) := (hb3.cell (p := ⟨w2.heap.size, 0, none⟩) (by simp)).trans (by simp)
  have e1 : w3.cell? ⟨w2.heap.size, 1, none⟩ = some (.int .i64 y2) := (hb3.cell (p := ⟨w2.heap.size, 1, none⟩) (by simp)).trans (by simp)
  have e2 : w3.cell? ⟨w2.heap.size, 2, none⟩ = some (.int .i64 y3) := (hb3.cell (p := ⟨w2.heap.size, 2, none⟩) (by simp)).trans (by simp)
  have e3 : w3.cell? ⟨w2.heap.size, 3, none⟩ = some (.int .i64 y4) := (hb3.cell (p := ⟨w2.heap.size, 3, none⟩) (by simp)).trans (by simp)
  have hs3 : w2.heap.size < w3.heap.size := by have := hb3.size; simp at this; omega
  have HB3 : Hid (Below w.heap.size w w3) := HB2.out.trans (hb3.mono HB2.out.size)
  have HO3 : Hid _ := ho
  obtain ⟨va, vc, rfl⟩ := own_shape ho
  have CR : Hid _ := crun_any s y1 y2 y3 y4 10000 w3
  clear CC hb3 ho HB2
  go_wp2_with fail
  refine Calls.mono CR.out ?_
  rintro e w4 ⟨p', c', q', hP', rfl, hb4⟩
  rw [oV_ar]
  have i0 := (hb4.cell (p := ⟨w2.heap.size, 0, none⟩) hs3).trans e0
  have i1 := (hb4.cell (p := ⟨w2.heap.size, 1, none⟩) hs3).trans e1
  have i2 := (hb4.cell (p := ⟨w2.heap.size, 2, none⟩) hs3).trans e2
  have i3 := (hb4.cell (p := ⟨w2.heap.size, 3, none⟩) hs3).trans e3
  have hs4 : w2.heap.size < w4.heap.size := Nat.lt_of_lt_of_le hs3 hb4.size
  have HB4 : Hid (Below w.heap.size w w4) := HB3.out.trans (hb4.mono HB3.out.size)
  have HO4 : Hid _ := ownsRow_below HO3.out hb4
  have CH : Hid (∀ X, _) := fun X => chol_any s false y1 y2 y3 y4 X
  have CH2 : Hid (∀ a1 a2 a3 a4 X, _) := fun a1 a2 a3 a4 X => chol_any s true a1 a2 a3 a4 X
  have SEE : Hid (∀ p'' c'' q'', _ → _) := fun p'' c'' q'' (h3 : (answer s).1 = 0 → Prg (tokAt 0 (Av.rest s 0)) p'' c'' q'') => wk_sees s HGY.out hP hP' h3
  clear hP hP' HO3 CR hb4 e0 e1 e2 e3 HB3
  generalize cAns s p c q = CA at *
  obtain ⟨L, ce, cpl⟩ := CA
  generalize dAns s y1 y2 y3 y4 10000 c' = DA at *
  obtain ⟨R, re, rp⟩ := DA
  dsimp only at *
  go_wp2_with fail
  refine Calls.mono (CH.out _) ?_
  rintro e w5 ⟨p'', c'', q'', hP'', rfl, hb5⟩
  have hsee := SEE.out p'' c'' q'' hP''
  generalize hAns s false y1 y2 y3 y4 p'' q'' = HA at *
  obtain ⟨hv, he, hpl⟩ := HA
  dsimp only at *
  have hs45 : w4.heap.size < w5.heap.size := by have := hb5.size; simp at this; omega
  have hbb : Below w4.heap.size w4 w5 := (below_alloc w4 _).trans (hb5.mono (by simp))
  have j0 := (hbb.cell (p := ⟨w2.heap.size, 0, none⟩) hs4).trans i0
  have j1 := (hbb.cell (p := ⟨w2.heap.size, 1, none⟩) hs4).trans i1
  have j2 := (hbb.cell (p := ⟨w2.heap.size, 2, none⟩) hs4).trans i2
  have j3 := (hbb.cell (p := ⟨w2.heap.size, 3, none⟩) hs4).trans i3
  have o0 : w5.cell? ⟨w4.heap.size, 0, none⟩ = some (.int .i64 (kn R)) := (hb5.cell (p := ⟨w4.heap.size, 0, none⟩) (by simp)).trans (by simp)
  have o1 : w5.cell? ⟨w4.heap.size, 1, none⟩ = some (.int .i64 R.x1) := (hb5.cell (p := ⟨w4.heap.size, 1, none⟩) (by simp)).trans (by simp)
  have o2 : w5.cell? ⟨w4.heap.size, 2, none⟩ = some (.int .i64 R.x2) := (hb5.cell (p := ⟨w4.heap.size, 2, none⟩) (by simp)).trans (by simp)
  have o3 : w5.cell? ⟨w4.heap.size, 3, none⟩ = some (.int .i64 R.x3) := (hb5.cell (p := ⟨w4.heap.size, 3, none⟩) (by simp)).trans (by simp)
  have o4 : w5.cell? ⟨w4.heap.size, 4, none⟩ = some (.int .i64 R.x4) := (hb5.cell (p := ⟨w4.heap.size, 4, none⟩) (by simp)).trans (by simp)
  have HB5 : Hid (Below w.heap.size w w5) := HB4.out.trans (hbb.mono HB4.out.size)
  have HO5 : Hid _ := ownsRow_below HO4.out hbb
  clear hb5 hbb i0 i1 i2 i3 SEE CH HO4 HB4 hP''
  unfold WkSees at hsee
  rcases hsee with ⟨h1, h2, rfl, rfl, rfl⟩ | ⟨rfl, rfl, rfl, rfl⟩ | ⟨rfl, rfl, rfl, h1, h2⟩ | ⟨rfl, rfl, rfl, h1, h2⟩ | ⟨rfl, rfl, rfl, l0, b, rfl, h2, h3, h4, h5⟩
  · have g1 : (he != 0) = true := by simp [h1]
    have g2 : (he != 6) = true := by simp [h2]
    go_wp2_with fail
    go_ret
    exact ⟨rfl, HB5.out⟩
  · go_wp2_with fail
    go_ret
    exact ⟨rfl, HB5.out⟩
  · have g1 : ((L.length : Int) == 0) = false := beq_eq_false_iff_ne.2 (by omega)
    have g2 : ((L.length : Int) != 1) = true := bne_iff_ne.2 (by omega)
    go_wp2_with (go_at_call 21; refine (KL.out _ _ _ _).mono ?_; rintro e w' ⟨rfl, rfl⟩)
    go_ret
    exact ⟨rfl, HB5.out⟩
  · rw [h2] at o0
    rw [h1]
    go_wp2_with (go_at_call 21; refine (KL.out _ _ _ _).mono ?_; rintro e w' ⟨rfl, rfl⟩)
    go_ret
    exact ⟨rfl, HB5.out⟩
  · rw [h2] at o0
    obtain ⟨g, cp, hgv, hg1, hg2, hg3, hg4, hg5, hg6⟩ := own_facts HO5.out (by simp)
    cases hgv
    have l1 := hg5 0 (strV l0) rfl
    have CV : Hid (∀ X, Gl X → Calls Tryz.prog 22 #[.string ⟨l0.toArray⟩, .agg #[.int .i64 y1, .int .i64 y2, .int .i64 y3, .int .i64 y4]] X fun e w' => e = .returned (.tuple #[.bool (!hv || b), .int .i64 0]) ∧ Below X.heap.size X w') := fun X hX => by
      have := cvalue_any ⟨l0.toArray⟩ y1 y2 y3 y4 X hX (by show l0.toArray.size ≤ _; rw [List.size_toArray]; unfold maxLen; omega)
      rw [h5] at this
      exact this
    have HH4 : Hid _ := h4
    have e1 : (([l0].length : Nat) : Int) = 1 := rfl
    unfold strV at l1
    generalize (⟨l0.toArray⟩ : ByteArray) = S0 at *
    clear hg5 hg6 h4 h5 HO5
    go_wp2_with (go_at_call 21; refine (KL.out _ _ _ _).mono ?_; rintro e w' ⟨rfl, rfl⟩)
    refine Calls.mono (CH2.out _ _ _ _ _) ?_
    rintro e w6 ⟨p3, c3, q3, hP3, rfl, hb6⟩
    have hx6 := HH4.out p3 q3 c3 hP3
    rw [hx6]
    have HB6 : Hid (Below w.heap.size w w6) := HB5.out.trans (hb6.mono HB5.out.size)
    have hs25 : w2.heap.size < w5.heap.size := by omega
    have k0 : w6.drew.cell? ⟨w2.heap.size, 0, none⟩ = some (.int .i64 y1) := (hb6.cell (p := ⟨w2.heap.size, 0, none⟩) hs25).trans j0
    have k1 : w6.drew.cell? ⟨w2.heap.size, 1, none⟩ = some (.int .i64 y2) := (hb6.cell (p := ⟨w2.heap.size, 1, none⟩) hs25).trans j1
    have k2 : w6.drew.cell? ⟨w2.heap.size, 2, none⟩ = some (.int .i64 y3) := (hb6.cell (p := ⟨w2.heap.size, 2, none⟩) hs25).trans j2
    have k3 : w6.drew.cell? ⟨w2.heap.size, 3, none⟩ = some (.int .i64 y4) := (hb6.cell (p := ⟨w2.heap.size, 3, none⟩) hs25).trans j3
    have k4 : w6.drew.cell? ⟨g, 0, none⟩ = some (.string S0) := (hb6.cell (p := ⟨g, 0, none⟩) hg2).trans l1
    have n0 := (hb6.cell (p := ⟨w4.heap.size, 0, none⟩) hs45).trans o0
    have hg6 : Gl w6.drew := HGL.out.on (HB6.out.drew)
    clear hx6 hb6 o0 o1 o2 o3 o4 j0 j1 j2 j3 l1
    go_wp2_with fail
    go_region_with (go_at_call 22; refine (CV.out _ hg6).mono ?_; rintro e w7 ⟨rfl, hb7⟩; have m0 : w7.cell? ⟨w4.heap.size, 0, none⟩ = some (.int .i64 0) := (hb7.cell (p := ⟨w4.heap.size, 0, none⟩) (by show w4.heap.size < w6.heap.size; exact World.block_lt_of_cell? _ _ n0)).trans n0)
    all_goals
      cases hv
      all_goals
        go_wp2_with fail
        go_ret
        exact ⟨by simp, HB6.out.drew.trans (hb7.mono HB6.out.drew.size)⟩
end Go.Proofs.YtkinoehmcfhgbaaGreatDoor.Vl
