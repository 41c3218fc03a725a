/-
  The walk of the program's Condition.Holds, whole.
-/
import Derived.Test.YtmpbgbdhpahpjaaDoorV19
set_option linter.unusedVariables false
set_option linter.unusedSimpArgs false
namespace Go.Proofs.YtmpbgbdhpahpjaaDoor.Vl
open Go.RowKit Go.Shelf
attribute [local go_sem] Oper.semAt_some

theorem prt_one {k : Int} (h : prt k = 1) : k = 2 := by
  unfold prt at h; split at h
  · rename_i e; simpa using e
  · split at h <;> omega
theorem prt_two {k : Int} (h : prt k = 2) : k = 3 ∨ k = 4 ∨ k = 5 := by
  unfold prt at h; split at h
  · omega
  · split at h
    · rename_i e; simp at e; omega
    · omega

set_option maxRecDepth 100000 in
set_option maxHeartbeats 8000000 in
theorem cholds_in (b cap : Nat) (ys : List Sym) (x1 x2 x3 x4 : Int) (w : World) (hlen : ys.length ≤ 4000) (hg : gds x1 x2 x3 x4 = true)
    (hI : Syms w.heap.size w (.slice (some ⟨b, 0, none⟩) ys.length cap) ys)
    (hval : ∀ n, n < ys.length → ∃ y, ys[n]? = some y ∧ 0 ≤ y.1 ∧ y.1 ≤ 6 ∧ (y.1 = 6 → okA y.2) ∧ prt y.1 ≤ (brun x1 x2 x3 x4 (ys.drop (n + 1))).length) (hone : ∃ r, brun x1 x2 x3 x4 ys = [r]) :
    CallsIn Fence.wide 9 Tryd.prog 9 #[.slice (some ⟨b, 0, none⟩) ys.length cap, .agg #[.int .i64 x1, .int .i64 x2, .int .i64 x3, .int .i64 x4]] w fun e W' => e = .returned (.bool ((brun x1 x2 x3 x4 ys).headD false)) ∧ Below w.heap.size w W' := by
  refine callsIn_of_wp_marks Tryd.func9 rfl trivial ?_ rfl
  simp only [Tryd.ntmps9, List.size_toArray, List.length_cons, List.length_nil, Nat.reduceAdd, Nat.reduceSub, Array.replicate_succ, Array.replicate_zero, List.push_toArray, List.append_toArray, List.nil_append, List.cons_append]
  gi_wp2_with (refine ⟨trivial, ?_⟩; gi_at_call 16; refine (back_in _ _ _ _ _).mono ?_; rintro e w' ⟨rfl, rfl⟩)
  obtain ⟨W0, hW0⟩ : ∃ W0, ((w.alloc (.cells #[.int .i64 x1, .int .i64 x2, .int .i64 x3, .int .i64 x4] 23)).alloc (.cells #[.slice none 0 0] 49)).alloc (.cells #[.slice (some ⟨b, 0, none⟩) ys.length cap] 32) = W0 := ⟨_, rfl⟩
  have hsz : W0.heap.size = w.heap.size + 3 := by rw [← hW0]; simp
  have hB0 : Below w.heap.size w W0 := by rw [← hW0]; exact ((below_alloc w _).alloc (by simp) _).alloc (by simp; omega) _
  have hV0 : Boxed W0 (w.heap.size + 1) 49 (.slice none 0 0) := by
    rw [← hW0]
    have := (Boxed.new (w.alloc (.cells #[.int .i64 x1, .int .i64 x2, .int .i64 x3, .int .i64 x4] 23)) 49 (.slice none 0 0)).alloc (.cells #[.slice (some ⟨b, 0, none⟩) ys.length cap] 32)
    rwa [World.size_alloc] at this
  have hS0 : Boxed W0 (w.heap.size + 2) 32 (.slice (some ⟨b, 0, none⟩) ys.length cap) := by
    rw [← hW0]
    have := Boxed.new ((w.alloc (.cells #[.int .i64 x1, .int .i64 x2, .int .i64 x3, .int .i64 x4] 23)).alloc (.cells #[.slice none 0 0] 49)) 32 (.slice (some ⟨b, 0, none⟩) ys.length cap)
    rwa [World.size_alloc, World.size_alloc] at this
  have d0 : W0.cell? ⟨w.heap.size, 0, none⟩ = some (.int .i64 x1) := by rw [← hW0]; exact ((below_alloc _ _).cell (p := ⟨w.heap.size, 0, none⟩) (by simp; omega)).trans (((below_alloc _ _).cell (p := ⟨w.heap.size, 0, none⟩) (by simp)).trans (by simp))
  have d1 : W0.cell? ⟨w.heap.size, 1, none⟩ = some (.int .i64 x2) := by rw [← hW0]; exact ((below_alloc _ _).cell (p := ⟨w.heap.size, 1, none⟩) (by simp; omega)).trans (((below_alloc _ _).cell (p := ⟨w.heap.size, 1, none⟩) (by simp)).trans (by simp))
  have d2 : W0.cell? ⟨w.heap.size, 2, none⟩ = some (.int .i64 x3) := by rw [← hW0]; exact ((below_alloc _ _).cell (p := ⟨w.heap.size, 2, none⟩) (by simp; omega)).trans (((below_alloc _ _).cell (p := ⟨w.heap.size, 2, none⟩) (by simp)).trans (by simp))
  have d3 : W0.cell? ⟨w.heap.size, 3, none⟩ = some (.int .i64 x4) := by rw [← hW0]; exact ((below_alloc _ _).cell (p := ⟨w.heap.size, 3, none⟩) (by simp; omega)).trans (((below_alloc _ _).cell (p := ⟨w.heap.size, 3, none⟩) (by simp)).trans (by simp))
  rw [hW0]
  clear hW0
  refine range_runs (by omega) (gf := 24) (lb := #[.pointer (some ⟨w.heap.size + 1 + 1, 0, none⟩)]) rfl (enters_of Tryd.func24 (by kernel_rfl) rfl)
    (back_runs (9 - 1) (by omega) (w.heap.size + 1 + 1) w.heap.size (.slice (some ⟨b, 0, none⟩) ys.length cap) ys hlen W0 (by omega) (by omega) hS0.cell (hI.below hB0)) (fun h k => h.trans k)
    (fun W l o o' hl h ho => kpB_put _ _ W l o o' (by omega) (by omega) h) (fun _ => rfl)
    (fun pre W => Inv w ys x1 x2 x3 x4 pre W) (inv_own w ys x1 x2 x3 x4 hsz)
    ⟨⟨ys.length, Nat.le_refl _, (cameK_len ys).symm, ⟨_, hV0, by rw [List.drop_length]; exact World.ownsRow_nil _ _ _ _, trivial⟩, d0, d1, d2, d3⟩, hB0, by omega⟩
    (fun x a' W => ∃ Bx, w.heap.size + 2 < Bx ∧ W.cell? ⟨Bx, 0, none⟩ = some (.int .i64 x.2.1) ∧ W.cell? ⟨Bx, 1, none⟩ = some (.int .i64 x.2.2.1) ∧ W.cell? ⟨Bx, 2, none⟩ = some (.int .i64 x.2.2.2.1) ∧ W.cell? ⟨Bx, 3, none⟩ = some (.int .i64 x.2.2.2.2) ∧ a' = { tmps := #[.slice (some ⟨b, 0, none⟩) ys.length cap, .agg #[.int .i64 x1, .int .i64 x2, .int .i64 x3, .int .i64 x4], undef, .pointer (some ⟨w.heap.size, 0, none⟩), .bool false, .pointer (some ⟨w.heap.size + 1, 0, none⟩), undef, .pointer (some ⟨Bx, 0, none⟩), undef, undef, .slice (some ⟨b, 0, none⟩) ys.length cap, .func (.func 24) #[] #[.pointer (some ⟨w.heap.size + 1 + 1, 0, none⟩)], .int .i64 (x.1 : Int), symV x.2, undef, undef, undef, undef, undef, undef, undef, undef, undef, undef, undef, undef, undef, undef, undef, undef, undef, undef, undef, undef, undef], defers := [] })
    (fun x a' s X Y row hs hg hr => by
      obtain ⟨Bx, h1, c0, c1, c2, c3, h2⟩ := hs
      exact ⟨Bx, h1, cell_kept c0 hg (fun r e => (hr r e).2), cell_kept c1 hg (fun r e => (hr r e).2), cell_kept c2 hg (fun r e => (hr r e).2), cell_kept c3 hg (fun r e => (hr r e).2), h2⟩)
    ?assign ?body ?done
  case assign =>
    rintro l pre ⟨k, y0, y1, y2, y3⟩ W K hinv hnx hK
    have hbs := hinv.2.1.size
    have hz3 := hinv.2.2
    simp only [enc2, symV]
    gi_wp2
    refine hK _ _ ((KeepsOthers.alloc _ _).from _) ⟨(Below.refl _ W).alloc hbs _, ?_⟩ (inv_alloc hinv _) ⟨W.heap.size, ?_, by simp, by simp, by simp, by simp, rfl⟩
    · exact (below_alloc W _).cell (p := ⟨w.heap.size + 1 + 1, 0, none⟩) (by dsimp only; omega)
    · omega
  case body =>
    rintro l pre ⟨k, y0, y1, y2, y3⟩ a' W ⟨⟨k', hk', hpre, ⟨v, hv, hrow, _⟩, c0, c1, c2, c3⟩, hB, hz3⟩ ⟨hn1, hn2, hn3⟩ ⟨Bx, hBx, s0, s1, s2, s3, rfl⟩
    dsimp only at hn1 hn2 hn3 s0 s1 s2 s3
    obtain rfl : k' = k + 1 := by
      have e := congrArg List.length (hpre.symm.trans hn1)
      rw [cameK_length, cameK_length] at e; omega
    obtain ⟨y, hy1, hy2, hy3, hy4, hy5⟩ := hval k hn2
    rw [hn3] at hy1
    cases hy1
    dsimp only at hy2 hy3 hy4 hy5
    have HC : Hid (cameK ys k = pre ++ [(k, (y0, y1, y2, y3))]) := by show _ = _; rw [hpre]; exact cameK_step ys k hn2 _ hn3
    have hdrop : ys.drop k = (y0, y1, y2, y3) :: ys.drop (k + 1) := by
      rw [List.drop_eq_getElem_cons hn2]
      congr 1
      rw [List.getElem?_eq_getElem hn2] at hn3
      exact Option.some.inj hn3
    have HD : Hid (brun x1 x2 x3 x4 (ys.drop k) = bst x1 x2 x3 x4 (y0, y1, y2, y3) (brun x1 x2 x3 x4 (ys.drop (k + 1)))) := by show _ = _; rw [hdrop, brun_cons]
    have hle := brun_le x1 x2 x3 x4 (ys.drop (k + 1))
    have hll : (ys.drop (k + 1)).length ≤ 4000 := by rw [List.length_drop]; omega
    clear hdrop hpre hn1 hn3
    generalize brun x1 x2 x3 x4 (ys.drop (k + 1)) = st at *
    have hpr := prt_range y0
    generalize hp0 : prt y0 = p0 at *
    have CPt : Hid (∀ n w, CallsIn (Fence.wide.inRound l) n Tryd.prog 14 #[.int .i64 y0] w fun e w' => e = .returned (.int .i64 p0) ∧ w = w') := fun n w => CallsIn.inRound l (callsIn_wide.2 (by rw [← hp0]; exact parts_any y0 w))
    have HP0 : Hid (prt y0 = p0) := hp0
    clear hp0
    obtain ⟨q, c, rfl⟩ := own_shape hrow
    have cv := hv.cell
    refine wpIn_block ?_
    have hmx : Tryd.prog.follows .mixedOrders = true := by kernel_rfl
    have hsub : IntKind.i64.wrap ((st.length : Int) - p0) = (st.length : Int) - p0 := IntWalk.i64_in _ (by omega)
    refine wpIn_seq (wpIn_mono (Q := fun e a w' => e = Exit.normal ∧ w' = W.drew ∧ a = { tmps := #[.slice (some ⟨b, 0, none⟩) ys.length cap, .agg #[.int .i64 x1, .int .i64 x2, .int .i64 x3, .int .i64 x4], undef, .pointer (some ⟨w.heap.size, 0, none⟩), .bool false, .pointer (some ⟨w.heap.size + 1, 0, none⟩), undef, .pointer (some ⟨Bx, 0, none⟩), .int .i64 ((st.length : Int) - p0), undef, .slice (some ⟨b, 0, none⟩) ys.length cap, .func (.func 24) #[] #[.pointer (some ⟨w.heap.size + 1 + 1, 0, none⟩)], .int .i64 (k : Int), symV (y0, y1, y2, y3), .slice q st.length c, .int .i64 (st.length : Int), .pointer (some ⟨Bx, 0, none⟩), .int .i64 y0, .int .i64 p0, .int .i64 ((st.length : Int) - p0), undef, undef, undef, undef, undef, undef, undef, undef, undef, undef, undef, undef, undef, undef, undef], defers := [] }) ?r4 ?n4)
    case r4 =>
      gi_region_with_o (refine ⟨trivial, ?_⟩; gi_at_call 14; refine (CPt.out _ _).mono ?_; rintro e w' ⟨rfl, rfl⟩)
      all_goals exact ⟨rfl, rfl, rfl⟩
    case n4 =>
      rintro e a w' ⟨rfl, rfl, rfl⟩
      have hcW : ∀ (B j : Nat) (v : Value), W.cell? ⟨B, j, none⟩ = some v → W.drew.cell? ⟨B, j, none⟩ = some v := fun _ _ _ h => h
      obtain ⟨R, hR, hRL⟩ : ∃ R : Nat, (st.length : Int) - p0 = (R : Int) ∧ R ≤ st.length := ⟨st.length - p0.toNat, by omega, by omega⟩
      have HV : Hid (brun x1 x2 x3 x4 (ys.drop k) = bval x1 x2 x3 x4 (y0, y1, y2, y3) (st.headD false) (st.tail.headD false) :: st.drop (prt y0).toNat) := HD.out
      clear HD
      generalize hVV : bval x1 x2 x3 x4 (y0, y1, y2, y3) (st.headD false) (st.tail.headD false) = VV at *
      have HVV : Hid _ := hVV
      clear hVV
      show Code.wpIn _ _ _ _ _ _ _
      refine wpIn_seq (wpIn_mono (Q := fun e a w' => e = Exit.normal ∧ Below W.heap.size W w' ∧ ∃ u14 u15 u16 u17 u18 u19 u20 u21 u22 u23 u24 u25 : Value, a = { tmps := #[.slice (some ⟨b, 0, none⟩) ys.length cap, .agg #[.int .i64 x1, .int .i64 x2, .int .i64 x3, .int .i64 x4], undef, .pointer (some ⟨w.heap.size, 0, none⟩), .bool false, .pointer (some ⟨w.heap.size + 1, 0, none⟩), undef, .pointer (some ⟨Bx, 0, none⟩), .int .i64 (R : Int), .bool VV, .slice (some ⟨b, 0, none⟩) ys.length cap, .func (.func 24) #[] #[.pointer (some ⟨w.heap.size + 1 + 1, 0, none⟩)], .int .i64 (k : Int), symV (y0, y1, y2, y3), u14, u15, u16, u17, u18, u19, u20, u21, u22, u23, u24, u25, undef, undef, undef, undef, undef, undef, undef, undef, undef], defers := [] }) ?r5 ?n5)
      case r5 =>
        rw [hR]
        have CH : Hid (∀ n w pv, PartsAt w pv y0 (st.headD false) (st.tail.headD false) → CallsIn (Fence.wide.inRound l) n Tryd.prog 17 #[.agg #[.int .i64 y0, .int .i64 y1, .int .i64 y2, .int .i64 y3], .agg #[.int .i64 x1, .int .i64 x2, .int .i64 x3, .int .i64 x4], pv] w fun e w' => e = .returned (.bool VV) ∧ Below w.heap.size w w') := fun n w pv h => CallsIn.inRound l (callsIn_wide.2 (by rw [← HVV.out]; exact sholds_any y0 y1 y2 y3 x1 x2 x3 x4 pv _ _ w ⟨hy2, hy3⟩ hy4 hg h))
        have hLc : st.length ≤ c := by
          rcases hrow.2 with ⟨h1, h2⟩ | ⟨g, cap', cur, h1, hgb, hgh, hg3, hg4, hg5, hg6⟩
          · injection h1 with e1 e2 e3; omega
          · injection h1 with e1 e2 e3; omega
        by_cases hcl : c = R
        · have hno : ∀ w pv, PartsAt w pv y0 (st.headD false) (st.tail.headD false) := fun w pv => by
            have h0 : prt y0 = 0 := by rw [HP0.out]; omega
            constructor
            · intro h; subst h; cases h0
            · rintro (h | h | h) <;> subst h <;> cases h0
          have hRl : R = st.length := by omega
          subst hRl
          subst hcl
          gi_region_with_o (refine ⟨trivial, ?_⟩; gi_at_call 17; refine (CH.out _ _ _ (hno _ _)).mono ?_; rintro e w3 ⟨rfl, hb3⟩)
          all_goals exact ⟨rfl, (Below.refl _ W).drew.drew.trans hb3, _, _, _, _, _, _, _, _, _, _, _, _, rfl⟩
        · have hpt : PartsAt W.drew.drew (.slice (Option.map (fun x => x.add R) q) (st.length - R) (c - R)) y0 (st.headD false) (st.tail.headD false) := by
            constructor
            · intro h
              subst h
              have h1 : p0 = 1 := HP0.out.symm
              obtain ⟨t, r, rfl⟩ : ∃ t r, st = t :: r := by
                cases st with
                | nil => simp at hy5; omega
                | cons t r => exact ⟨t, r, rfl⟩
              obtain ⟨g, cap', e, hgb, hgl, hg3, hg4, hg5, hg6⟩ := own_facts hrow (by simp)
              injection e with e1 e2 e3
              subst e1
              have hl1 : (t :: r).length = r.length + 1 := rfl
              have hRe : R = r.length := by omega
              refine ⟨g, R, c - R, ?_, hgl, ?_⟩
              · rw [hl1, hRe, show r.length + 1 - r.length = 1 by omega]; simp [Addr.add]; intro h; subst h; rfl
              · rw [hRe]; exact hg5 r.length (.bool t) (by simp)
            · intro h
              have h1 : p0 = 2 := by rcases h with h | h | h <;> subst h <;> exact HP0.out.symm
              obtain ⟨t, u, r, rfl⟩ : ∃ t u r, st = t :: u :: r := by
                match st, hy5 with
                | [], h => simp at h; omega
                | [t], h => simp at h; omega
                | t :: u :: r, _ => exact ⟨t, u, r, rfl⟩
              obtain ⟨g, cap', e, hgb, hgl, hg3, hg4, hg5, hg6⟩ := own_facts hrow (by simp)
              injection e with e1 e2 e3
              subst e1
              have hl1 : (t :: u :: r).length = r.length + 2 := rfl
              have hRe : R = r.length := by omega
              refine ⟨g, R, c - R, ?_, hgl, ?_, ?_⟩
              · rw [hl1, hRe, show r.length + 2 - r.length = 2 by omega]; simp [Addr.add]; intro h; subst h; rfl
              · rw [hRe]; exact hg5 r.length (.bool u) (by simp)
              · rw [hRe]; exact hg5 (r.length + 1) (.bool t) (by simp)
          gi_region_with_o (refine ⟨trivial, ?_⟩; gi_at_call 17; refine (CH.out _ _ _ (hpt)).mono ?_; rintro e w3 ⟨rfl, hb3⟩)
          all_goals exact ⟨rfl, (Below.refl _ W).drew.drew.trans hb3, _, _, _, _, _, _, _, _, _, _, _, _, rfl⟩
      case n5 =>
        rintro e a w' ⟨rfl, hbw, u14, u15, u16, u17, u18, u19, u20, u21, u22, u23, u24, u25, rfl⟩
        have hv2 := boxed_on hv hbw
        have hrow2 := ownsRow_below hrow hbw
        have cv2 := hv2.cell
        have fv2 := hv2.frozen
        obtain ⟨i0, hi, hz0, hz1, hz2⟩ := info_parts Tryd.infoBool
        have hbs := hbw.size
        have hst : st.length ≤ 4000 := by omega
        show Code.wpIn _ _ _ _ _ _ _
        rcases hrow2.2 with ⟨h1, h2⟩ | ⟨g, cap', cur, h1, hgb, hgh, hg3, hg4, hg5, hg6⟩
        · have hq : q = none ∧ c = 0 := by injection h1 with e1 e2 e3; exact ⟨e1, e3⟩
          obtain ⟨rfl, rfl⟩ := hq
          have hst0 : st = [] := List.length_eq_zero_iff.1 h2
          have hR0 : R = 0 := by omega
          subst hst0 hR0
          have hne5 : ∀ z : Option Nat, some (w.heap.size + 1) = none → False := fun _ e => by cases e
          gi_wp2_with (gi_at_builtin; refine wpListIn_append_own _ rfl _ _ 49 rfl (w.heap.size + 3) 4 i0 (.bool false) 1 1 Tryd.underlying49 hi hz0 hz1 hz2 rfl (by decide) _ _ _ rfl (hrow2.alloc _) ⟨w'.heap.size, 0, none⟩ 1 1 [.bool VV] rfl rfl (cell_one_new _ _ _) (by simp [Value.oneCell']) (by unfold maxLen; simp; try omega) (by simp; try omega) (by simp; omega) ?_; intro v' w1 hown' hgrow _; obtain ⟨g', cap2, rfl⟩ := ownsRow_succ hown'; have hvb := (hv2.alloc _).kept hgrow (fun e => hne5 none e); have hc1 := hvb.cell; have hf1 := hvb.frozen)
          obtain ⟨k1, k2, k3, k4, k5, k6, k7⟩ := fin6 (n := W0.heap.size) hbw hB hz3 hv2 hrow2 hown' hgrow c0 c1 c2 c3
          refine ⟨trivial, k1, k2, ⟨⟨k, by omega, HC.out.symm, ⟨_, k3, ?_, trivial⟩, k5⟩, k6, k7⟩⟩
          rw [HV.out, rows_put _ _ (by have := HP0.out; omega)]
          simpa using k4
        · have hq : q = some ⟨g, 0, none⟩ ∧ c = cap' := by injection h1 with e1 e2 e3; exact ⟨e1, e3⟩
          obtain ⟨rfl, rfl⟩ := hq
          have hrow3 := own_take hrow2 R hRL
          have hne5 : some (w.heap.size + 1) = some g → False := fun e => by cases e; omega
          have hRc : R ≤ c := by omega
          gi_wp2_with (gi_at_builtin; refine wpListIn_append_own _ rfl _ _ 49 rfl (w.heap.size + 3) 4 i0 (.bool false) 1 1 Tryd.underlying49 hi hz0 hz1 hz2 rfl (by decide) _ _ _ rfl (hrow3.alloc _) ⟨w'.heap.size, 0, none⟩ 1 1 [.bool VV] rfl rfl (cell_one_new _ _ _) (by simp [Value.oneCell']) (by unfold maxLen; simp; try omega) (by simp; try omega) (by simp; omega) ?_; intro v' w1 hown' hgrow _; obtain ⟨g', cap2, rfl⟩ := ownsRow_succ hown'; have hvb := (hv2.alloc _).kept hgrow (fun e => hne5 e); have hc1 := hvb.cell; have hf1 := hvb.frozen)
          obtain ⟨k1, k2, k3, k4, k5, k6, k7⟩ := fin6 (n := W0.heap.size) hbw hB hz3 hv2 hrow3 hown' hgrow c0 c1 c2 c3
          refine ⟨trivial, k1, k2, ⟨⟨k, by omega, HC.out.symm, ⟨_, k3, ?_, trivial⟩, k5⟩, k6, k7⟩⟩
          rw [HV.out, rows_put _ _ (by have := HP0.out; omega)]
          have hRp : st.length - (prt y0).toNat = R := by have := HP0.out; omega
          rw [hRp]
          have hln : (VV :: st.drop (prt y0).toNat).length = R + 1 := by rw [List.length_cons, List.length_drop, hRp]
          rw [hln]
          exact k4
  case done =>
    rintro D xs W hD rfl ⟨⟨k, hk, hp, ⟨v, hv, hrow, _⟩, c0, c1, c2, c3⟩, hB, hz3⟩ hK
    obtain rfl : k = 0 := by
      have e := congrArg List.length hp
      rw [cameK_length, cameK_length] at e; omega
    rw [List.drop_zero] at hrow
    obtain ⟨r, hr⟩ := hone
    have HR : Hid (brun x1 x2 x3 x4 ys = [r]) := hr
    rw [hr] at hrow
    clear hr
    obtain ⟨g, cap', rfl, hg1, hg2, hg3, hg4, hg5, hg6⟩ := own_facts hrow (by simp)
    have cv := hv.cell
    have cg : W.cell? ⟨g, 0, none⟩ = some (.bool r) := hg5 0 _ rfl
    clear hg5 hg6
    gi_wp2
    refine ⟨by simp, .inl ⟨_, _, rfl, run_takeDeferred hK, ?_⟩⟩
    exact ⟨_, results_tmp rfl _ _ _, by rw [HR.out]; rfl, hB.trans (belowK_b (w := w) (Nat.le_refl _) W D _ _ (by omega) hK rfl rfl)⟩
end Go.Proofs.YtmpbgbdhpahpjaaDoor.Vl
