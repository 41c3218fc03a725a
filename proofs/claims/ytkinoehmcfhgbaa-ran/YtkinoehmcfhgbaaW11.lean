/-
  The walk of the document's Do.
  Of the law Ran: the document's example, and the law's walk.
  The walk of the law Ran.
-/
import Derived.Test.YtkinoehmcfhgbaaW8
import Derived.Test.YtkinoehmcfhgbaaM5
import Derived.ChangeKeysEq
set_option linter.unusedVariables false
set_option linter.unusedSimpArgs false
namespace Go.Proofs.Ytkinoehmcfhgbaa.Vl
open Go.RowKit
open Go.Proofs.Ytkinoehmcfhgbaa.Av (vr Fm Rd Tg sAt Cm Rc Kp set_other Tk2 want tokAt answer post3 post3d below_cells Row Row.new Row.kpOld)

theorem run_new {w3 : World} {v : Value} {t u : TypeId} {toks : List (List UInt8 × Nat)} {x1 x2 x3 x4 fuel : Int} (hc : CodeAt (w3.alloc (.cells #[v] t)) w3.heap.size toks) :
    RunAt ((w3.alloc (.cells #[v] t)).alloc (.cells #[.pointer (some ⟨w3.heap.size, 0, none⟩), .int .i64 x1, .int .i64 x2, .int .i64 x3, .int .i64 x4, .int .i64 0, .int .i64 fuel, .int .i64 (-1)] u)) (w3.heap.size + 1) w3.heap.size toks fuel { x1 := x1, x2 := x2, x3 := x3, x4 := x4, n := 0, e := -1 } := by
  obtain ⟨g, cap, h1, h2, h3, h4, h5, h6⟩ := hc.below (below_alloc _ (.cells #[.pointer (some ⟨w3.heap.size, 0, none⟩), .int .i64 x1, .int .i64 x2, .int .i64 x3, .int .i64 x4, .int .i64 0, .int .i64 fuel, .int .i64 (-1)] u))
  obtain ⟨g', cap', q1, q2, q3, q4, q5, q6⟩ := hc
  have hsz : (w3.alloc (.cells #[v] t)).heap.size = w3.heap.size + 1 := by simp
  have e : (w3.alloc (.cells #[v] t)).cell? ⟨w3.heap.size, 0, none⟩ = ((w3.alloc (.cells #[v] t)).alloc (.cells #[.pointer (some ⟨w3.heap.size, 0, none⟩), .int .i64 x1, .int .i64 x2, .int .i64 x3, .int .i64 x4, .int .i64 0, .int .i64 fuel, .int .i64 (-1)] u)).cell? ⟨w3.heap.size, 0, none⟩ := ((below_alloc _ _).cell (p := ⟨w3.heap.size, 0, none⟩) q5).symm
  have eg : g = g' := by
    rw [q1, h1] at e
    have := Option.some.inj e
    injection this with a b c
    injection a with a
    injection a with a
    exact a.symm
  exact ⟨⟨g, cap, h1, h2, h3, by rw [eg, ← hsz]; exact q4, by omega, h6⟩, by simp, by simp, by simp, by simp, by simp, by simp, by simp, by simp, by simp, fun o => by simp⟩

set_option maxRecDepth 100000 in
set_option maxHeartbeats 2000000 in
theorem refDo_any (s : ByteArray) (x1 x2 x3 x4 fuel : Int) (p q : Fm) (c : Cm) (w : World) (hP : (answer s).1 = 0 → Prg (tokAt 0 (Av.rest s 0)) p c q) :
    Calls Try.prog 10 #[.string s, .agg #[.int .i64 x1, .int .i64 x2, .int .i64 x3, .int .i64 x4], .int .i64 fuel] w fun e w' => e = .returned (.tuple #[.agg (oV (dAns s x1 x2 x3 x4 fuel c).1).toArray, .int .i64 (dAns s x1 x2 x3 x4 fuel c).2.1, .int .i64 (dAns s x1 x2 x3 x4 fuel c).2.2]) ∧ Below w.heap.size w w' := by
  have C1 : Hid (∀ w, Calls Try.prog 13 #[.string s] w fun e w' => ∃ v, e = .returned (.tuple #[v, .int .i64 (answer s).1, .int .i64 (answer s).2]) ∧ ((answer s).1 = 0 → Tk2 w' v (tokAt 0 (Av.rest s 0))) ∧ Below w.heap.size w w') := fun w => read2 s w
  have CG : Hid (∀ w, Calls Try.prog 17 #[.agg #[.int .i64 x1, .int .i64 x2, .int .i64 x3, .int .i64 x4]] w fun e w' => e = .returned (.bool (gds x1 x2 x3 x4)) ∧ Below w.heap.size w w') := fun w => good_any x1 x2 x3 x4 w
  have HR0 : Hid (Row ((w.alloc (.cells #[.int .i64 x1, .int .i64 x2, .int .i64 x3, .int .i64 x4] 29)).alloc (.cells #[.int .i64 0, .int .i64 0, .int .i64 0, .int .i64 0, .int .i64 0, .int .i64 0] 31)) (w.heap.size + 1) 6) := by
    have := row6 (w.alloc (.cells #[.int .i64 x1, .int .i64 x2, .int .i64 x3, .int .i64 x4] 29))
    rw [show (w.alloc (.cells #[.int .i64 x1, .int .i64 x2, .int .i64 x3, .int .i64 x4] 29)).heap.size = w.heap.size + 1 by simp] at this
    exact this
  by_cases h0 : (answer s).1 = 0
  · have h0' : ((answer s).1 != 0) = false := by simp [h0]
    cases hg : gds x1 x2 x3 x4
    · have HR : Hid (dAns s x1 x2 x3 x4 fuel c = (r0, 4, 0)) := by
        show _ = _
        unfold dAns
        rw [if_neg (by omega), if_pos hg]
      rw [hg] at CG
      clear hP
      generalize dAns s x1 x2 x3 x4 fuel c = R at *
      generalize tokAt 0 (Av.rest s 0) = toks at *
      generalize answer s = W at *
      go_enter Try.func10, Try.ntmps10
      go_wp2_with fail
      refine (C1.out _).mono ?_
      rintro e w2 ⟨v, rfl, hT, hb2⟩
      have HB2 : Hid (Below w.heap.size w w2) := (two_newO w _ _).trans (hb2.mono (two_newO w _ _).size)
      have HR2 : Hid (Row w2 (w.heap.size + 1) 6) := HR0.out.below hb2 (by simp)
      have hs2 : w.heap.size + 1 < w2.heap.size := by have := hb2.size; simp at this; omega
      obtain ⟨d0, d1, d2, d3⟩ := st_cells hb2
      clear hT hb2
      go_wp2_with fail
      refine (CG.out _).mono ?_
      rintro e w3 ⟨rfl, hb3⟩
      have HB3 : Hid (Below w.heap.size w w3) := HB2.out.trans (hb3.mono HB2.out.size)
      have HR3 : Hid (Row w3 (w.heap.size + 1) 6) := HR2.out.below hb3 hs2
      clear d0 d1 d2 d3 hb3
      have hth := HR3.out.there 0 6 (by omega)
      go_wp2_with (refine wpList_store_mid rfl 31 (.tmp 6) (.tmp 33) rfl (w.heap.size + 1) 0 #[.int .i64 0, .int .i64 0, .int .i64 0, .int .i64 0, .int .i64 0, .int .i64 0] rfl rfl ?_ ?_ ?_ ?_; (exact hth); (exact Try.infoOut); (exact zero6a))
      exact post3 [.int .i64 0, .int .i64 0, .int .i64 0, .int .i64 0, .int .i64 0, .int .i64 0] Try.results10 rfl rfl rfl Try.underlying31 rfl Try.infoOut HR3.out rfl ⟨by (rw [HR.out]) <;> rfl, below_cells (by omega) _ _ _ (HB3.out)⟩
    · by_cases hf : fuel < 0 ∨ 10000 < fuel
      · have HR : Hid (dAns s x1 x2 x3 x4 fuel c = (r0, 5, 0)) := by
          show _ = _
          unfold dAns
          rw [if_neg (by omega), if_neg (by rw [hg]; decide), if_pos hf]
        rw [hg] at CG
        clear hP
        generalize dAns s x1 x2 x3 x4 fuel c = R at *
        generalize tokAt 0 (Av.rest s 0) = toks at *
        generalize answer s = W at *
        have hw : fuel < 0 ∨ (¬ fuel < 0 ∧ 10000 < fuel) := by omega
        clear hf
        rcases hw with hf | ⟨hf1, hf⟩
        · go_enter Try.func10, Try.ntmps10
          go_wp2_with fail
          refine (C1.out _).mono ?_
          rintro e w2 ⟨v, rfl, hT, hb2⟩
          have HB2 : Hid (Below w.heap.size w w2) := (two_newO w _ _).trans (hb2.mono (two_newO w _ _).size)
          have HR2 : Hid (Row w2 (w.heap.size + 1) 6) := HR0.out.below hb2 (by simp)
          have hs2 : w.heap.size + 1 < w2.heap.size := by have := hb2.size; simp at this; omega
          obtain ⟨d0, d1, d2, d3⟩ := st_cells hb2
          clear hT hb2
          go_wp2_with fail
          refine (CG.out _).mono ?_
          rintro e w3 ⟨rfl, hb3⟩
          have HB3 : Hid (Below w.heap.size w w3) := HB2.out.trans (hb3.mono HB2.out.size)
          have HR3 : Hid (Row w3 (w.heap.size + 1) 6) := HR2.out.below hb3 hs2
          clear d0 d1 d2 d3 hb3
          have hth := HR3.out.there 0 6 (by omega)
          go_wp2_with (refine wpList_store_mid rfl 31 (.tmp 6) (.tmp 40) rfl (w.heap.size + 1) 0 #[.int .i64 0, .int .i64 0, .int .i64 0, .int .i64 0, .int .i64 0, .int .i64 0] rfl rfl ?_ ?_ ?_ ?_; (exact hth); (exact Try.infoOut); (exact zero6a))
          exact post3 [.int .i64 0, .int .i64 0, .int .i64 0, .int .i64 0, .int .i64 0, .int .i64 0] Try.results10 rfl rfl rfl Try.underlying31 rfl Try.infoOut HR3.out rfl ⟨by (rw [HR.out]) <;> rfl, below_cells (by omega) _ _ _ (HB3.out)⟩
        · go_enter Try.func10, Try.ntmps10
          go_wp2_with fail
          refine (C1.out _).mono ?_
          rintro e w2 ⟨v, rfl, hT, hb2⟩
          have HB2 : Hid (Below w.heap.size w w2) := (two_newO w _ _).trans (hb2.mono (two_newO w _ _).size)
          have HR2 : Hid (Row w2 (w.heap.size + 1) 6) := HR0.out.below hb2 (by simp)
          have hs2 : w.heap.size + 1 < w2.heap.size := by have := hb2.size; simp at this; omega
          obtain ⟨d0, d1, d2, d3⟩ := st_cells hb2
          clear hT hb2
          go_wp2_with fail
          refine (CG.out _).mono ?_
          rintro e w3 ⟨rfl, hb3⟩
          have HB3 : Hid (Below w.heap.size w w3) := HB2.out.trans (hb3.mono HB2.out.size)
          have HR3 : Hid (Row w3 (w.heap.size + 1) 6) := HR2.out.below hb3 hs2
          clear d0 d1 d2 d3 hb3
          have hth := HR3.out.there 0 6 (by omega)
          go_wp2_with (refine wpList_store_mid rfl 31 (.tmp 6) (.tmp 40) rfl (w.heap.size + 1) 0 #[.int .i64 0, .int .i64 0, .int .i64 0, .int .i64 0, .int .i64 0, .int .i64 0] rfl rfl ?_ ?_ ?_ ?_; (exact hth); (exact Try.infoOut); (exact zero6a))
          exact post3 [.int .i64 0, .int .i64 0, .int .i64 0, .int .i64 0, .int .i64 0, .int .i64 0] Try.results10 rfl rfl rfl Try.underlying31 rfl Try.infoOut HR3.out rfl ⟨by (rw [HR.out]) <;> rfl, below_cells (by omega) _ _ _ (HB3.out)⟩
      · have hff : ¬ fuel < 0 := by omega
        have hff2 : ¬ 10000 < fuel := by omega
        have HR : Hid (dAns s x1 x2 x3 x4 fuel c = (ex fuel c { x1 := x1, x2 := x2, x3 := x3, x4 := x4, n := 0, e := -1 }, 0, 0)) := by
          show _ = _
          unfold dAns
          rw [if_neg (by omega), if_neg (by rw [hg]; decide), if_neg hf]
        rw [hg] at CG
        have hs := answer_long h0
        obtain ⟨k1, k2, k3, r1, r2, r3, hk3⟩ := hP h0
        have hl := sAt_len s hs
        have htl : (tokAt 0 (Av.rest s 0)).length ≤ 300 := by have := Av.tokAt_len 0 (Av.rest s 0); have := Av.rest_len s 0; omega
        have e1 := r1.le.2 (by simp)
        have e2 := r2.le
        have e3 := r3.le.2 (by simp)
        have htp : 0 < (tokAt 0 (Av.rest s 0)).length := by omega
        have CP : Hid (∀ w B, CodeAt w B (tokAt 0 (Av.rest s 0)) → Calls Try.prog 18 #[.pointer (some ⟨B, 0, none⟩)] w fun e w' => e = .returned (.tuple #[.int .i64 1, .int .i64 ((k1 : Int) + 1), .int .i64 ((k2 : Int) + 1)]) ∧ Below w.heap.size w w') := fun w B hc => parts_any _ B hl k1 k2 p c w r1 r2 (by omega) hc
        have hin : Inv fuel { x1 := x1, x2 := x2, x3 := x3, x4 := x4, n := 0, e := -1 } := ⟨by dsimp only; omega, by dsimp only; omega, hg, by dsimp only; omega, by dsimp only; omega⟩
        have CA : Hid (∀ w rb cb, RunAt w rb cb (tokAt 0 (Av.rest s 0)) fuel { x1 := x1, x2 := x2, x3 := x3, x4 := x4, n := 0, e := -1 } → Calls Try.prog 19 #[.pointer (some ⟨rb, 0, none⟩), .int .i64 ((k1 : Int) + 1)] w fun e w' => e = .returned (.tuple #[]) ∧ RunAt w' rb cb (tokAt 0 (Av.rest s 0)) fuel (ex fuel c { x1 := x1, x2 := x2, x3 := x3, x4 := x4, n := 0, e := -1 }) ∧ Kp rb w w') := fun w rb cb ha => runs _ rb cb fuel (by omega) hl k2 (k1 + 1) k2 c w _ r2 (by omega) (by omega) ha hin (by dsimp only; omega)
        have HZ : Hid ((answer s).1 = 0) := h0
        clear r1 r2 r3 hP hl hin e1 e2 e3 hk3 hs h0
        generalize dAns s x1 x2 x3 x4 fuel c = R at *
        generalize tokAt 0 (Av.rest s 0) = toks at *
        generalize answer s = W at *
        generalize hEX : ex fuel c { x1 := x1, x2 := x2, x3 := x3, x4 := x4, n := 0, e := -1 } = E at *
        clear hEX
        go_enter Try.func10, Try.ntmps10
        go_wp2_with fail
        refine (C1.out _).mono ?_
        rintro e w2 ⟨v, rfl, hT, hb2⟩
        have HB2 : Hid (Below w.heap.size w w2) := (two_newO w _ _).trans (hb2.mono (two_newO w _ _).size)
        have HR2 : Hid (Row w2 (w.heap.size + 1) 6) := HR0.out.below hb2 (by simp)
        have hs2 : w.heap.size + 1 < w2.heap.size := by have := hb2.size; simp at this; omega
        obtain ⟨d0, d1, d2, d3⟩ := st_cells hb2
        have hT2 := hT HZ.out
        obtain ⟨tg, tc, rfl⟩ := tk2_slice hT2 htp
        have HT2 : Hid (Tk2 w2 (.slice (some ⟨tg, 0, none⟩) toks.length tc) toks) := hT2
        clear hT hb2 hT2
        go_wp2_with fail
        refine (CG.out _).mono ?_
        rintro e w3 ⟨rfl, hb3⟩
        have hc3 : CodeAt (w3.alloc (.cells #[.slice (some ⟨tg, 0, none⟩) toks.length tc] 61)) w3.heap.size toks := tk2_at (HT2.out.below hb3) htp _
        have e0 := (hb3.cell (p := ⟨w.heap.size, 0, none⟩) (by show w.heap.size < _; omega)).trans d0
        have e1 := (hb3.cell (p := ⟨w.heap.size, 1, none⟩) (by show w.heap.size < _; omega)).trans d1
        have e2 := (hb3.cell (p := ⟨w.heap.size, 2, none⟩) (by show w.heap.size < _; omega)).trans d2
        have e3 := (hb3.cell (p := ⟨w.heap.size, 3, none⟩) (by show w.heap.size < _; omega)).trans d3
        have hs3 : w.heap.size + 1 < w3.heap.size := by have := hb3.size; omega
        have HB3 : Hid (Below w.heap.size w w3) := HB2.out.trans (hb3.mono HB2.out.size)
        have HR3 : Hid (Row w3 (w.heap.size + 1) 6) := HR2.out.below hb3 hs2
        have HRA : Hid (RunAt (w3.alloc (.cells #[.slice (some ⟨tg, 0, none⟩) toks.length tc] 61) |>.alloc (.cells #[.pointer (some ⟨w3.heap.size, 0, none⟩), .int .i64 x1, .int .i64 x2, .int .i64 x3, .int .i64 x4, .int .i64 0, .int .i64 fuel, .int .i64 (-1)] 64)) (w3.heap.size + 1) w3.heap.size toks fuel { x1 := x1, x2 := x2, x3 := x3, x4 := x4, n := 0, e := -1 }) := run_new hc3
        have HC3 : Hid (CodeAt (w3.alloc (.cells #[.slice (some ⟨tg, 0, none⟩) toks.length tc] 61) |>.alloc (.cells #[.pointer (some ⟨w3.heap.size, 0, none⟩), .int .i64 x1, .int .i64 x2, .int .i64 x3, .int .i64 x4, .int .i64 0, .int .i64 fuel, .int .i64 (-1)] 64)) w3.heap.size toks) := hc3.below (below_alloc _ _)
        have g0 := ((below_alloc w3 (.cells #[.slice (some ⟨tg, 0, none⟩) toks.length tc] 61)).cell (p := ⟨w.heap.size, 0, none⟩) (by show w.heap.size < _; omega)).trans e0
        have g1 := ((below_alloc w3 (.cells #[.slice (some ⟨tg, 0, none⟩) toks.length tc] 61)).cell (p := ⟨w.heap.size, 1, none⟩) (by show w.heap.size < _; omega)).trans e1
        have g2 := ((below_alloc w3 (.cells #[.slice (some ⟨tg, 0, none⟩) toks.length tc] 61)).cell (p := ⟨w.heap.size, 2, none⟩) (by show w.heap.size < _; omega)).trans e2
        have g3 := ((below_alloc w3 (.cells #[.slice (some ⟨tg, 0, none⟩) toks.length tc] 61)).cell (p := ⟨w.heap.size, 3, none⟩) (by show w.heap.size < _; omega)).trans e3
        clear d0 d1 d2 d3 hb3 HT2 HB2 HR2 hc3 e0 e1 e2 e3
        go_wp2_with fail
        refine (CP.out _ _ HC3.out).mono ?_
        rintro e w4 ⟨rfl, hb4⟩
        have HA4 : Hid (RunAt w4 (w3.heap.size + 1) w3.heap.size toks fuel { x1 := x1, x2 := x2, x3 := x3, x4 := x4, n := 0, e := -1 }) := HRA.out.below hb4
        have hs4 : w3.heap.size + 1 < w4.heap.size := by have := hb4.size; simp at this; omega
        have HB4 : Hid (Below w.heap.size w w4) := ((HB3.out.alloc (by omega) _).alloc (by simp; omega) _).trans (hb4.mono (by simp; omega))
        have HR4 : Hid (Row w4 (w.heap.size + 1) 6) := (((HR3.out.alloc hs3 _).alloc (by simp; omega) _)).below hb4 (by simp; omega)
        clear g0 g1 g2 g3 hb4 HRA HC3 HB3 HR3
        go_wp2_with fail
        refine (CA.out _ _ _ HA4.out).mono ?_
        rintro e w5 ⟨rfl, A5, K5⟩
        have HB5 : Hid (Below w.heap.size w w5) := Kp.below HB4.out K5 (by omega)
        have HR5 : Hid (Row w5 (w.heap.size + 1) 6) := HR4.out.kpOld K5 (by omega) (by omega)
        have c7 := A5.c7
        have f7 := A5.f 7
        have HA5 : Hid (RunAt w5 (w3.heap.size + 1) w3.heap.size toks fuel E) := A5
        clear A5 K5 HB4 HR4 HA4
        by_cases hE : E.e < 0
        · have HO6 : Hid (oV E = [.int .i64 0, .int .i64 E.x1, .int .i64 E.x2, .int .i64 E.x3, .int .i64 E.x4, .int .i64 E.n]) := by
            show _ = _
            unfold oV kn
            rw [if_pos hE]
          have hEd : decide (E.e < 0) = true := decide_eq_true hE
          have h6 : RunAt (w5.setCell ⟨w3.heap.size + 1, 7, none⟩ (.int .i64 0)) (w3.heap.size + 1) w3.heap.size toks fuel { E with e := 0 } := HA5.out.put 7 0 (by decide) rfl rfl rfl rfl rfl (by decide) rfl (by decide)
          have hr6 : Row (w5.setCell ⟨w3.heap.size + 1, 7, none⟩ (.int .i64 0)) (w.heap.size + 1) 6 := HR5.out.other _ _ _ (by omega)
          have hb6 : Below w.heap.size w (w5.setCell ⟨w3.heap.size + 1, 7, none⟩ (.int .i64 0)) := HB5.out.setCell (p := ⟨w3.heap.size + 1, 7, none⟩) (by show w.heap.size ≤ w3.heap.size + 1; omega) _
          go_wp2_with fail
          generalize hw6 : w5.setCell ⟨w3.heap.size + 1, 7, none⟩ (.int .i64 0) = w6 at *
          generalize hs6 : ({ E with e := 0 } : RS) = s6 at *
          have HA6 : Hid (RunAt w6 (w3.heap.size + 1) w3.heap.size toks fuel s6) := h6
          have HR6 : Hid (Row w6 (w.heap.size + 1) 6) := hr6
          have HB6 : Hid (Below w.heap.size w w6) := hb6
          have HO6 : Hid (oV E = [.int .i64 s6.e, .int .i64 s6.x1, .int .i64 s6.x2, .int .i64 s6.x3, .int .i64 s6.x4, .int .i64 s6.n]) := by rw [← hs6]; exact HO6.out
          clear h6 hr6 hb6 c7 f7 hw6 hs6 HA5 HR5 HB5
          have c1 := HA6.out.c1
          have c2 := HA6.out.c2
          have c3 := HA6.out.c3
          have c4 := HA6.out.c4
          have c5 := HA6.out.c5
          have c7 := HA6.out.c7
          have hne1 : ¬ w.heap.size + 1 = w3.heap.size + 1 := by omega
          have hne2 : ¬ w3.heap.size + 1 = w.heap.size + 1 := by omega
          obtain ⟨⟨u0, z0⟩, f0⟩ := HR6.out.cell 0 (by omega)
          obtain ⟨⟨u1, z1⟩, f1⟩ := HR6.out.cell 1 (by omega)
          obtain ⟨⟨u2, z2⟩, f2⟩ := HR6.out.cell 2 (by omega)
          obtain ⟨⟨u3, z3⟩, f3⟩ := HR6.out.cell 3 (by omega)
          obtain ⟨⟨u4, z4⟩, f4⟩ := HR6.out.cell 4 (by omega)
          obtain ⟨⟨u5, z5⟩, f5⟩ := HR6.out.cell 5 (by omega)
          go_region
          go_wp2_with fail
          exact post3d (X := w6) (B := w.heap.size + 1) [.int .i64 s6.e, .int .i64 s6.x1, .int .i64 s6.x2, .int .i64 s6.x3, .int .i64 s6.x4, .int .i64 s6.n] Try.results10 rfl rfl rfl Try.underlying31 rfl Try.infoOut HR6.out rfl ⟨by rw [HR.out]; (rw [HO6.out]) <;> rfl, (below_cells (by omega) _ _ _ HB6.out).drew⟩
        · have HO6 : Hid (oV E = [.int .i64 E.e, .int .i64 E.x1, .int .i64 E.x2, .int .i64 E.x3, .int .i64 E.x4, .int .i64 E.n]) := by
            show _ = _
            unfold oV kn
            rw [if_neg hE]
          have hEd : decide (E.e < 0) = false := decide_eq_false hE
          go_wp2_with fail
          have HA6 := HA5
          have HR6 := HR5
          have HB6 := HB5
          clear HA5 HR5 HB5 c7 f7
          generalize w5 = w6 at *
          generalize E = s6 at *
          have c1 := HA6.out.c1
          have c2 := HA6.out.c2
          have c3 := HA6.out.c3
          have c4 := HA6.out.c4
          have c5 := HA6.out.c5
          have c7 := HA6.out.c7
          have hne1 : ¬ w.heap.size + 1 = w3.heap.size + 1 := by omega
          have hne2 : ¬ w3.heap.size + 1 = w.heap.size + 1 := by omega
          obtain ⟨⟨u0, z0⟩, f0⟩ := HR6.out.cell 0 (by omega)
          obtain ⟨⟨u1, z1⟩, f1⟩ := HR6.out.cell 1 (by omega)
          obtain ⟨⟨u2, z2⟩, f2⟩ := HR6.out.cell 2 (by omega)
          obtain ⟨⟨u3, z3⟩, f3⟩ := HR6.out.cell 3 (by omega)
          obtain ⟨⟨u4, z4⟩, f4⟩ := HR6.out.cell 4 (by omega)
          obtain ⟨⟨u5, z5⟩, f5⟩ := HR6.out.cell 5 (by omega)
          go_region
          go_wp2_with fail
          exact post3d (X := w6) (B := w.heap.size + 1) [.int .i64 s6.e, .int .i64 s6.x1, .int .i64 s6.x2, .int .i64 s6.x3, .int .i64 s6.x4, .int .i64 s6.n] Try.results10 rfl rfl rfl Try.underlying31 rfl Try.infoOut HR6.out rfl ⟨by rw [HR.out]; (rw [HO6.out]) <;> rfl, (below_cells (by omega) _ _ _ HB6.out).drew⟩
  · have h0' : ((answer s).1 != 0) = true := by simpa using h0
    have HR : Hid (dAns s x1 x2 x3 x4 fuel c = (r0, (answer s).1, (answer s).2)) := by
      show _ = _
      unfold dAns
      rw [if_pos h0]
    clear hP CG h0
    generalize dAns s x1 x2 x3 x4 fuel c = R at *
    generalize tokAt 0 (Av.rest s 0) = toks at *
    generalize answer s = W at *
    go_enter Try.func10, Try.ntmps10
    go_wp2_with fail
    refine (C1.out _).mono ?_
    rintro e w2 ⟨v, rfl, hT, hb2⟩
    have HB2 : Hid (Below w.heap.size w w2) := (two_newO w _ _).trans (hb2.mono (two_newO w _ _).size)
    have HR2 : Hid (Row w2 (w.heap.size + 1) 6) := HR0.out.below hb2 (by simp)
    have hs2 : w.heap.size + 1 < w2.heap.size := by have := hb2.size; simp at this; omega
    obtain ⟨d0, d1, d2, d3⟩ := st_cells hb2
    clear hT hb2 d0 d1 d2 d3
    have hth := HR2.out.there 0 6 (by omega)
    go_wp2_with (refine wpList_store_mid rfl 31 (.tmp 6) (.tmp 26) rfl (w.heap.size + 1) 0 #[.int .i64 0, .int .i64 0, .int .i64 0, .int .i64 0, .int .i64 0, .int .i64 0] rfl rfl ?_ ?_ ?_ ?_; (exact hth); (exact Try.infoOut); (exact zero6a))
    exact post3 [.int .i64 0, .int .i64 0, .int .i64 0, .int .i64 0, .int .i64 0, .int .i64 0] Try.results10 rfl rfl rfl Try.underlying31 rfl Try.infoOut HR2.out rfl ⟨by (rw [HR.out]) <;> rfl, below_cells (by omega) _ _ _ (HB2.out)⟩
end Go.Proofs.Ytkinoehmcfhgbaa.Vl
set_option linter.unusedVariables false
set_option linter.unusedSimpArgs false
namespace Go.Proofs.Ytkinoehmcfhgbaa.Vl
open Go.RowKit
open Go.Proofs.Ytkinoehmcfhgbaa.Av (vr Fm Rd Tg sAt Cm Rc tokAt answer)

theorem cnt_run : dAns cnt 0 2 0 0 9 cntC = ({ x1 := 2, x2 := 2, x3 := 0, x4 := 0, n := 5, e := -1 }, 0, 0) := by kernel_rfl
theorem cnt_holds : hAns cnt true 2 2 0 0 cntP cntQ = (true, 0, 0) := by kernel_rfl
theorem crun_cnt (w : World) : Calls Try.prog 8 #[.string cnt, .agg #[.int .i64 0, .int .i64 2, .int .i64 0, .int .i64 0], .int .i64 9] w fun e w' => e = .returned (.tuple #[.agg #[.int .i64 0, .int .i64 2, .int .i64 2, .int .i64 0, .int .i64 0, .int .i64 5], .int .i64 0, .int .i64 0]) ∧ Below w.heap.size w w' := by
  refine (crun_any cnt 0 2 0 0 9 w).mono ?_
  rintro e w' ⟨p, c, q, hP, he, hb⟩
  obtain ⟨rfl, rfl, rfl⟩ := cnt_prg.det (hP (by rw [cnt_ans]))
  rw [cnt_run] at he
  exact ⟨he, hb⟩
theorem chol_cnt (w : World) : Calls Try.prog 9 #[.string cnt, .bool true, .agg #[.int .i64 2, .int .i64 2, .int .i64 0, .int .i64 0]] w fun e w' => e = .returned (.tuple #[.bool true, .int .i64 0, .int .i64 0]) ∧ Below w.heap.size w w' := by
  refine (chol_any cnt true 2 2 0 0 w).mono ?_
  rintro e w' ⟨p, c, q, hP, he, hb⟩
  obtain ⟨rfl, rfl, rfl⟩ := cnt_prg.det (hP (by rw [cnt_ans]))
  rw [cnt_holds] at he
  exact ⟨he, hb⟩
theorem hAns_det {s : ByteArray} {b : Bool} {x1 x2 x3 x4 : Int} {p q p' q' : Fm} {c c' : Cm} (h : (answer s).1 = 0 → Prg (tokAt 0 (Av.rest s 0)) p c q) (h' : (answer s).1 = 0 → Prg (tokAt 0 (Av.rest s 0)) p' c' q') : hAns s b x1 x2 x3 x4 p' q' = hAns s b x1 x2 x3 x4 p q := by
  by_cases h0 : (answer s).1 = 0
  · obtain ⟨rfl, rfl, rfl⟩ := (h h0).det (h' h0)
    rfl
  · unfold hAns
    rw [if_pos h0, if_pos h0]
set_option maxHeartbeats 400000 in
theorem num_any (k : Int) (w : World) : Calls Try.prog 6 #[.int .i64 k] w fun e w' => e = .returned (.int .i64 k) ∧ w = w' := by
  go_enter Try.func6, Try.ntmps6
  go_wp2
  go_ret
  exact ⟨rfl, rfl⟩
end Go.Proofs.Ytkinoehmcfhgbaa.Vl
set_option linter.unusedVariables false
set_option linter.unusedSimpArgs false
namespace Go.Proofs.Ytkinoehmcfhgbaa.Vl
open Go.RowKit
open Go.Proofs.Ytkinoehmcfhgbaa.Av (vr Fm Rd Tg sAt Cm Rc tokAt answer)

theorem eqIn4 (d : Nat) (w : World) (x1 x2 x3 x4 y1 y2 y3 y4 : Int) : (Op.equalIn (d + 1 + 1) 29 (.agg #[.int .i64 x1, .int .i64 x2, .int .i64 x3, .int .i64 x4]) (.agg #[.int .i64 y1, .int .i64 y2, .int .i64 y3, .int .i64 y4])).run Try.prog w = .ok (x1 == y1 && (x2 == y2 && (x3 == y3 && x4 == y4))) w := by
  have e1 : ∃ i, Try.prog.info? 3 = some i := Option.isSome_iff_exists.1 (by kernel_rfl)
  obtain ⟨i, hi⟩ := e1
  have e2 : Try.prog.cellsOf 3 = 1 := by kernel_rfl
  rw [run_equalIn_array w (d + 1) _ _ Try.underlying29 hi, e2]
  simp [Op.eqItems, part, run_equalIn_int, Try.underlying3, show List.range 4 = [0, 1, 2, 3] from rfl]
  by_cases h1 : x1 = y1 <;> by_cases h2 : x2 = y2 <;> by_cases h3 : x3 = y3 <;> by_cases h4 : x4 = y4 <;> simp [h1, h2, h3, h4]
theorem neq4 (w : World) (x1 x2 x3 x4 y1 y2 y3 y4 : Int) : (binOp .neq 29 (.agg #[.int .i64 x1, .int .i64 x2, .int .i64 x3, .int .i64 x4]) (.agg #[.int .i64 y1, .int .i64 y2, .int .i64 y3, .int .i64 y4])).run Try.prog w = .ok (.bool (!(x1 == y1 && (x2 == y2 && (x3 == y3 && x4 == y4))))) w := by
  rw [run_neq_struct, show (10000 : Nat) = 9998 + 1 + 1 from rfl, eqIn4]
  rfl
theorem eql6 (w : World) (k x1 x2 x3 x4 n l y1 y2 y3 y4 m : Int) : (binOp .eql 31 (.agg #[.int .i64 k, .int .i64 x1, .int .i64 x2, .int .i64 x3, .int .i64 x4, .int .i64 n]) (.agg #[.int .i64 l, .int .i64 y1, .int .i64 y2, .int .i64 y3, .int .i64 y4, .int .i64 m])).run Try.prog w = .ok (.bool (k == l && ((x1 == y1 && (x2 == y2 && (x3 == y3 && x4 == y4))) && n == m))) w := by
  have e1 : Try.prog.underlying 31 = some (.struct (Try.prog.fieldsOf 31)) := by kernel_rfl
  have e2 : Try.prog.stoodInHeld 31 = false := by kernel_rfl
  have e3 := fun w => eqIn4 9997 w x1 x2 x3 x4 y1 y2 y3 y4
  rw [run_eql_struct, run_equalIn_agg _ 9999 _ _ _ e1 e2]
  simp only [Program.fieldsOf, Try.underlying31]
  simp [Op.eqFields, part, run_equalIn_int, Try.underlying3, e3]
  by_cases h0 : k = l <;> by_cases h1 : x1 = y1 <;> by_cases h2 : x2 = y2 <;> by_cases h3 : x3 = y3 <;> by_cases h4 : x4 = y4 <;> by_cases h5 : n = m <;> simp [h0, h1, h2, h3, h4, h5]
theorem eql6s (w : World) (k x1 x2 x3 x4 n : Int) : (binOp .eql 31 (.agg #[.int .i64 k, .int .i64 x1, .int .i64 x2, .int .i64 x3, .int .i64 x4, .int .i64 n]) (.agg #[.int .i64 k, .int .i64 x1, .int .i64 x2, .int .i64 x3, .int .i64 x4, .int .i64 n])).run Try.prog w = .ok (.bool true) w := by
  rw [eql6]; simp

set_option maxRecDepth 100000 in
set_option maxHeartbeats 2000000 in
theorem ran_c (s : ByteArray) (x1 x2 x3 x4 fuel : Int) (behind : Bool) (w : World) :
    Calls Try.prog 4 #[.string s, .agg #[.int .i64 x1, .int .i64 x2, .int .i64 x3, .int .i64 x4], .int .i64 fuel, .bool behind] w fun e w' => e = .returned (.bool true) ∧ Below w.heap.size w w' := by
  have K1 : Hid (∀ w, Calls Try.prog 8 #[.string cnt, .agg #[.int .i64 0, .int .i64 2, .int .i64 0, .int .i64 0], .int .i64 9] w fun e w' => e = .returned (.tuple #[.agg #[.int .i64 0, .int .i64 2, .int .i64 2, .int .i64 0, .int .i64 0, .int .i64 5], .int .i64 0, .int .i64 0]) ∧ Below w.heap.size w w') := crun_cnt
  have K2 : Hid (∀ w, Calls Try.prog 9 #[.string cnt, .bool true, .agg #[.int .i64 2, .int .i64 2, .int .i64 0, .int .i64 0]] w fun e w' => e = .returned (.tuple #[.bool true, .int .i64 0, .int .i64 0]) ∧ Below w.heap.size w w') := chol_cnt
  have CN : Hid (∀ k w, Calls Try.prog 6 #[.int .i64 k] w fun e w' => e = .returned (.int .i64 k) ∧ w = w') := num_any
  have C1 : Hid (∀ w, Calls Try.prog 8 #[.string s, .agg #[.int .i64 x1, .int .i64 x2, .int .i64 x3, .int .i64 x4], .int .i64 fuel] w fun e w' => ∃ p c q, ((answer s).1 = 0 → Prg (tokAt 0 (Av.rest s 0)) p c q) ∧ e = .returned (.tuple #[.agg (oV (dAns s x1 x2 x3 x4 fuel c).1).toArray, .int .i64 (dAns s x1 x2 x3 x4 fuel c).2.1, .int .i64 (dAns s x1 x2 x3 x4 fuel c).2.2]) ∧ Below w.heap.size w w') := fun w => crun_any s x1 x2 x3 x4 fuel w
  have C2 : Hid (∀ p c q w, ((answer s).1 = 0 → Prg (tokAt 0 (Av.rest s 0)) p c q) → Calls Try.prog 10 #[.string s, .agg #[.int .i64 x1, .int .i64 x2, .int .i64 x3, .int .i64 x4], .int .i64 fuel] w fun e w' => e = .returned (.tuple #[.agg (oV (dAns s x1 x2 x3 x4 fuel c).1).toArray, .int .i64 (dAns s x1 x2 x3 x4 fuel c).2.1, .int .i64 (dAns s x1 x2 x3 x4 fuel c).2.2]) ∧ Below w.heap.size w w') := fun p c q w h => refDo_any s x1 x2 x3 x4 fuel p q c w h
  have C3 : Hid (∀ p c q, ((answer s).1 = 0 → Prg (tokAt 0 (Av.rest s 0)) p c q) → ∀ w, Calls Try.prog 9 #[.string s, .bool behind, .agg #[.int .i64 x1, .int .i64 x2, .int .i64 x3, .int .i64 x4]] w fun e w' => e = .returned (.tuple #[.bool (hAns s behind x1 x2 x3 x4 p q).1, .int .i64 (hAns s behind x1 x2 x3 x4 p q).2.1, .int .i64 (hAns s behind x1 x2 x3 x4 p q).2.2]) ∧ Below w.heap.size w w') := fun p c q h w => (chol_any s behind x1 x2 x3 x4 w).mono fun e w' ⟨p', c', q', h', he, hb⟩ => ⟨by rw [he, hAns_det h h'], hb⟩
  have C4 : Hid (∀ p c q, ((answer s).1 = 0 → Prg (tokAt 0 (Av.rest s 0)) p c q) → ∀ w, Calls Try.prog 11 #[.string s, .bool behind, .agg #[.int .i64 x1, .int .i64 x2, .int .i64 x3, .int .i64 x4]] w fun e w' => e = .returned (.tuple #[.bool (hAns s behind x1 x2 x3 x4 p q).1, .int .i64 (hAns s behind x1 x2 x3 x4 p q).2.1, .int .i64 (hAns s behind x1 x2 x3 x4 p q).2.2]) ∧ Below w.heap.size w w') := fun p c q h w => refHolds_any s behind x1 x2 x3 x4 p q c w h
  go_enter Try.func4, Try.ntmps4
  go_wp2_with fail
  refine Calls.mono (K1.out _) ?_
  rintro e w1 ⟨rfl, hb1⟩
  have hs1 : w.heap.size < w1.heap.size := by have := hb1.size; simp at this; omega
  have d0 : w1.cell? ⟨w.heap.size, 0, none⟩ = some (.int .i64 x1) := (hb1.cell (p := ⟨w.heap.size, 0, none⟩) (by simp)).trans (by simp)
  have d1 : w1.cell? ⟨w.heap.size, 1, none⟩ = some (.int .i64 x2) := (hb1.cell (p := ⟨w.heap.size, 1, none⟩) (by simp)).trans (by simp)
  have d2 : w1.cell? ⟨w.heap.size, 2, none⟩ = some (.int .i64 x3) := (hb1.cell (p := ⟨w.heap.size, 2, none⟩) (by simp)).trans (by simp)
  have d3 : w1.cell? ⟨w.heap.size, 3, none⟩ = some (.int .i64 x4) := (hb1.cell (p := ⟨w.heap.size, 3, none⟩) (by simp)).trans (by simp)
  have HB1 : Hid (Below w.heap.size w w1) := (below_alloc w _).trans (hb1.mono (by simp))
  clear hb1 K1
  go_wp2_with fail
  refine Calls.mono (K2.out _) ?_
  rintro e w2 ⟨rfl, hb2⟩
  have z0 : w2.cell? ⟨w1.heap.size, 0, none⟩ = some (.int .i64 0) := (hb2.cell (p := ⟨w1.heap.size, 0, none⟩) (by simp)).trans (by simp)
  have z1 : w2.cell? ⟨w1.heap.size, 1, none⟩ = some (.int .i64 2) := (hb2.cell (p := ⟨w1.heap.size, 1, none⟩) (by simp)).trans (by simp)
  have z2 : w2.cell? ⟨w1.heap.size, 2, none⟩ = some (.int .i64 2) := (hb2.cell (p := ⟨w1.heap.size, 2, none⟩) (by simp)).trans (by simp)
  have z3 : w2.cell? ⟨w1.heap.size, 3, none⟩ = some (.int .i64 0) := (hb2.cell (p := ⟨w1.heap.size, 3, none⟩) (by simp)).trans (by simp)
  have z4 : w2.cell? ⟨w1.heap.size, 4, none⟩ = some (.int .i64 0) := (hb2.cell (p := ⟨w1.heap.size, 4, none⟩) (by simp)).trans (by simp)
  have z5 : w2.cell? ⟨w1.heap.size, 5, none⟩ = some (.int .i64 5) := (hb2.cell (p := ⟨w1.heap.size, 5, none⟩) (by simp)).trans (by simp)
  have hb12 : Below w1.heap.size w1 w2 := (below_alloc w1 _).trans (hb2.mono (by simp))
  have e0 := (hb12.cell (p := ⟨w.heap.size, 0, none⟩) hs1).trans d0
  have e1 := (hb12.cell (p := ⟨w.heap.size, 1, none⟩) hs1).trans d1
  have e2 := (hb12.cell (p := ⟨w.heap.size, 2, none⟩) hs1).trans d2
  have e3 := (hb12.cell (p := ⟨w.heap.size, 3, none⟩) hs1).trans d3
  have HB2 : Hid (Below w.heap.size w w2) := HB1.out.trans (hb12.mono HB1.out.size)
  have hs2 : w.heap.size < w2.heap.size := by have := hb12.size; omega
  have hs21 : w1.heap.size < w2.heap.size := by have := hb2.size; simp at this; omega
  clear hb2 hb12 d0 d1 d2 d3 K2 HB1
  have hq := fun w => neq4 w 2 2 0 0 2 2 0 0
  go_wp2_with (go_at_call 6; refine (CN.out _ _).mono ?_; rintro e w' ⟨rfl, rfl⟩)
  clear z0 z1 z2 z3 z4 z5 hq
  refine Calls.mono (C1.out _) ?_
  rintro e w3 ⟨p, c, q, hP, rfl, hb3⟩
  have D2 : Hid (∀ w, Calls Try.prog 10 #[.string s, .agg #[.int .i64 x1, .int .i64 x2, .int .i64 x3, .int .i64 x4], .int .i64 fuel] w fun e w' => e = .returned (.tuple #[.agg (oV (dAns s x1 x2 x3 x4 fuel c).1).toArray, .int .i64 (dAns s x1 x2 x3 x4 fuel c).2.1, .int .i64 (dAns s x1 x2 x3 x4 fuel c).2.2]) ∧ Below w.heap.size w w') := fun w => C2.out p c q w hP
  have D3 : Hid (∀ w, Calls Try.prog 9 #[.string s, .bool behind, .agg #[.int .i64 x1, .int .i64 x2, .int .i64 x3, .int .i64 x4]] w fun e w' => e = .returned (.tuple #[.bool (hAns s behind x1 x2 x3 x4 p q).1, .int .i64 (hAns s behind x1 x2 x3 x4 p q).2.1, .int .i64 (hAns s behind x1 x2 x3 x4 p q).2.2]) ∧ Below w.heap.size w w') := C3.out p c q hP
  have D4 : Hid (∀ w, Calls Try.prog 11 #[.string s, .bool behind, .agg #[.int .i64 x1, .int .i64 x2, .int .i64 x3, .int .i64 x4]] w fun e w' => e = .returned (.tuple #[.bool (hAns s behind x1 x2 x3 x4 p q).1, .int .i64 (hAns s behind x1 x2 x3 x4 p q).2.1, .int .i64 (hAns s behind x1 x2 x3 x4 p q).2.2]) ∧ Below w.heap.size w w') := C4.out p c q hP
  clear C1 C2 C3 C4 hP
  rw [oV_ar] at D2
  rw [oV_ar]
  generalize dAns s x1 x2 x3 x4 fuel c = E at *
  generalize hAns s behind x1 x2 x3 x4 p q = F at *
  obtain ⟨E, E1, E2⟩ := E
  obtain ⟨F, F1, F2⟩ := F
  dsimp only at D2 D3 D4
  dsimp only
  generalize kn E = K at *
  have HB3 : Hid (Below w.heap.size w w3) := HB2.out.trans (hb3.mono HB2.out.size)
  have d0 := (hb3.cell (p := ⟨w.heap.size, 0, none⟩) hs2).trans e0
  have d1 := (hb3.cell (p := ⟨w.heap.size, 1, none⟩) hs2).trans e1
  have d2 := (hb3.cell (p := ⟨w.heap.size, 2, none⟩) hs2).trans e2
  have d3 := (hb3.cell (p := ⟨w.heap.size, 3, none⟩) hs2).trans e3
  have hs3 : w.heap.size < w3.heap.size := by have := hb3.size; omega
  clear hb3 e0 e1 e2 e3 HB2
  go_wp2_with fail
  refine (D2.out _).mono ?_
  rintro e w4 ⟨rfl, hb4⟩
  have o0 : w4.cell? ⟨w3.heap.size, 0, none⟩ = some (.int .i64 (K)) := (hb4.cell (p := ⟨w3.heap.size, 0, none⟩) (by simp)).trans (by simp)
  have o1 : w4.cell? ⟨w3.heap.size, 1, none⟩ = some (.int .i64 (E.x1)) := (hb4.cell (p := ⟨w3.heap.size, 1, none⟩) (by simp)).trans (by simp)
  have o2 : w4.cell? ⟨w3.heap.size, 2, none⟩ = some (.int .i64 (E.x2)) := (hb4.cell (p := ⟨w3.heap.size, 2, none⟩) (by simp)).trans (by simp)
  have o3 : w4.cell? ⟨w3.heap.size, 3, none⟩ = some (.int .i64 (E.x3)) := (hb4.cell (p := ⟨w3.heap.size, 3, none⟩) (by simp)).trans (by simp)
  have o4 : w4.cell? ⟨w3.heap.size, 4, none⟩ = some (.int .i64 (E.x4)) := (hb4.cell (p := ⟨w3.heap.size, 4, none⟩) (by simp)).trans (by simp)
  have o5 : w4.cell? ⟨w3.heap.size, 5, none⟩ = some (.int .i64 (E.n)) := (hb4.cell (p := ⟨w3.heap.size, 5, none⟩) (by simp)).trans (by simp)
  have hb34 : Below w3.heap.size w3 w4 := (below_alloc w3 _).trans (hb4.mono (by simp))
  have HB4 : Hid (Below w.heap.size w w4) := HB3.out.trans (hb34.mono HB3.out.size)
  have hs34 : w3.heap.size < w4.heap.size := by have := hb4.size; simp at this; omega
  have e0 := (hb34.cell (p := ⟨w.heap.size, 0, none⟩) hs3).trans d0
  have e1 := (hb34.cell (p := ⟨w.heap.size, 1, none⟩) hs3).trans d1
  have e2 := (hb34.cell (p := ⟨w.heap.size, 2, none⟩) hs3).trans d2
  have e3 := (hb34.cell (p := ⟨w.heap.size, 3, none⟩) hs3).trans d3
  have hs4 : w.heap.size < w4.heap.size := by omega
  clear hb4 hb34 d0 d1 d2 d3 HB3 D2
  go_wp2_with fail
  refine (D3.out _).mono ?_
  rintro e w5 ⟨rfl, hb5⟩
  have hb45 : Below w4.heap.size w4 w5 := (below_alloc w4 _).trans (hb5.mono (by simp))
  have q0 : w5.cell? ⟨w4.heap.size, 0, none⟩ = some (.int .i64 (K)) := (hb5.cell (p := ⟨w4.heap.size, 0, none⟩) (by simp)).trans (by simp)
  have r0 := (hb45.cell (p := ⟨w3.heap.size, 0, none⟩) hs34).trans o0
  have q1 : w5.cell? ⟨w4.heap.size, 1, none⟩ = some (.int .i64 (E.x1)) := (hb5.cell (p := ⟨w4.heap.size, 1, none⟩) (by simp)).trans (by simp)
  have r1 := (hb45.cell (p := ⟨w3.heap.size, 1, none⟩) hs34).trans o1
  have q2 : w5.cell? ⟨w4.heap.size, 2, none⟩ = some (.int .i64 (E.x2)) := (hb5.cell (p := ⟨w4.heap.size, 2, none⟩) (by simp)).trans (by simp)
  have r2 := (hb45.cell (p := ⟨w3.heap.size, 2, none⟩) hs34).trans o2
  have q3 : w5.cell? ⟨w4.heap.size, 3, none⟩ = some (.int .i64 (E.x3)) := (hb5.cell (p := ⟨w4.heap.size, 3, none⟩) (by simp)).trans (by simp)
  have r3 := (hb45.cell (p := ⟨w3.heap.size, 3, none⟩) hs34).trans o3
  have q4 : w5.cell? ⟨w4.heap.size, 4, none⟩ = some (.int .i64 (E.x4)) := (hb5.cell (p := ⟨w4.heap.size, 4, none⟩) (by simp)).trans (by simp)
  have r4 := (hb45.cell (p := ⟨w3.heap.size, 4, none⟩) hs34).trans o4
  have q5 : w5.cell? ⟨w4.heap.size, 5, none⟩ = some (.int .i64 (E.n)) := (hb5.cell (p := ⟨w4.heap.size, 5, none⟩) (by simp)).trans (by simp)
  have r5 := (hb45.cell (p := ⟨w3.heap.size, 5, none⟩) hs34).trans o5
  have HB5 : Hid (Below w.heap.size w w5) := HB4.out.trans (hb45.mono HB4.out.size)
  have hs45 : w4.heap.size < w5.heap.size := by have := hb5.size; simp at this; omega
  have d0 := (hb45.cell (p := ⟨w.heap.size, 0, none⟩) hs4).trans e0
  have d1 := (hb45.cell (p := ⟨w.heap.size, 1, none⟩) hs4).trans e1
  have d2 := (hb45.cell (p := ⟨w.heap.size, 2, none⟩) hs4).trans e2
  have d3 := (hb45.cell (p := ⟨w.heap.size, 3, none⟩) hs4).trans e3
  clear hb5 hb45 e0 e1 e2 e3 HB4 D3 o0 o1 o2 o3 o4 o5
  go_wp2_with fail
  refine (D4.out _).mono ?_
  rintro e w6 ⟨rfl, hb6⟩
  have hs35 : w3.heap.size < w5.heap.size := by omega
  have s0 := (hb6.cell (p := ⟨w4.heap.size, 0, none⟩) hs45).trans q0
  have t0 := (hb6.cell (p := ⟨w3.heap.size, 0, none⟩) hs35).trans r0
  have s1 := (hb6.cell (p := ⟨w4.heap.size, 1, none⟩) hs45).trans q1
  have t1 := (hb6.cell (p := ⟨w3.heap.size, 1, none⟩) hs35).trans r1
  have s2 := (hb6.cell (p := ⟨w4.heap.size, 2, none⟩) hs45).trans q2
  have t2 := (hb6.cell (p := ⟨w3.heap.size, 2, none⟩) hs35).trans r2
  have s3 := (hb6.cell (p := ⟨w4.heap.size, 3, none⟩) hs45).trans q3
  have t3 := (hb6.cell (p := ⟨w3.heap.size, 3, none⟩) hs35).trans r3
  have s4 := (hb6.cell (p := ⟨w4.heap.size, 4, none⟩) hs45).trans q4
  have t4 := (hb6.cell (p := ⟨w3.heap.size, 4, none⟩) hs35).trans r4
  have s5 := (hb6.cell (p := ⟨w4.heap.size, 5, none⟩) hs45).trans q5
  have t5 := (hb6.cell (p := ⟨w3.heap.size, 5, none⟩) hs35).trans r5
  have HB6 : Hid (Below w.heap.size w w6) := HB5.out.trans (hb6.mono HB5.out.size)
  clear hb6 d0 d1 d2 d3 q0 q1 q2 q3 q4 q5 r0 r1 r2 r3 r4 r5 D4 HB5
  have hq := fun w => eql6s w K E.x1 E.x2 E.x3 E.x4 E.n
  generalize E.x1 = v1 at *
  generalize E.x2 = v2 at *
  generalize E.x3 = v3 at *
  generalize E.x4 = v4 at *
  generalize E.n = v5 at *
  go_wp2_with (go_at_call 6; refine (CN.out _ _).mono ?_; rintro e w' ⟨rfl, rfl⟩)
  go_ret
  exact ⟨rfl, HB6.out⟩
end Go.Proofs.Ytkinoehmcfhgbaa.Vl
