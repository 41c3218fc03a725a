/-
  The walk of the program's machine.Run.
-/
import Derived.Test.YtkinoehmcfhgbaaGreatDoorQ9
import Derived.Test.YtkinoehmcfhgbaaGreatDoorM3
set_option linter.unusedVariables false
set_option linter.unusedSimpArgs false
namespace Go.Proofs.YtkinoehmcfhgbaaGreatDoor.Vl
open Go.RowKit
open Go.Proofs.YtkinoehmcfhgbaaGreatDoor.Av (vr Fm Rd Tg sAt Cm Rc Kp set_other Tk2 want tokAt answer postN post3 post3d below_cells Row Row.new Row.kpOld Row.far Row.cells row15 Same below_same IsF IsC Lst PrR range_eq all_mem parse_c ParseEnd fv results_cell)

theorem postNd {fn : Func} {R : Ending → World → Prop} {tmps : Array Value} {X : World} {B k n : Nat} {t : TypeId} {d : TypeDesc} (cs : List Value) (hf : fn.results = #[.cell k t]) (ht : tmps.getD k undef = .pointer (some ⟨B, 0, none⟩))
    (hu : Tryz.prog.underlying t = some d) (hd : d.isRow = true) (hi : (Tryz.prog.info? t).map (·.size) = some n) (hx : Row X B n) (hl : cs.length = n)
    (hR : R (.returned (.agg cs.toArray)) (X.setCells B 0 cs).drew) : bodyPost Tryz.prog fn R .ret ⟨tmps, []⟩ (X.setCells B 0 cs).drew :=
  bodyPost_ret (results_cell hf ht (run_loadVar_mid _ B 0 t cs d ((World.rangeAt_drew _ _ _ _).2 (World.rangeAt_setCells_same X B 0 cs (by rw [hl]; exact hx.there 0 n (by omega)))) hu hd (by rw [hl]; exact hi))) rfl hR

theorem PR.new (w : World) (fuel x1 x2 x3 x4 : Int) (t : TypeId) : PR (w.alloc (.cells #[.int .i64 fuel, .int .i64 0, .int .i64 x1, .int .i64 x2, .int .i64 x3, .int .i64 x4, .int .i64 0] t)) w.heap.size fuel { x1 := x1, x2 := x2, x3 := x3, x4 := x4, n := 0, e := -1 } := by
  refine ⟨by simp, ?_, ?_, ?_, ?_, ?_, ?_, ?_, fun o => by simp⟩
  all_goals (rw [World.cell?_alloc_at _ _ _ _ rfl]; rfl)
theorem oV_ar (s : RS) : (Value.agg (oV s).toArray) = .agg #[.int .i64 (kn s), .int .i64 s.x1, .int .i64 s.x2, .int .i64 s.x3, .int .i64 s.x4, .int .i64 s.n] := rfl

set_option maxRecDepth 100000 in
set_option maxHeartbeats 2000000 in
theorem mrun_any {P : Nat → Prop} (c : Cm) (g k m : Nat) (ys : List (List Value)) (x1 x2 x3 x4 fuel : Int) (w : World) (hL : Lst w P g k m ys) (hI : IsC w P c ys) (ho : cOk c) (hg : gds x1 x2 x3 x4 = true) (hf : 0 ≤ fuel ∧ fuel ≤ 10000) :
    Calls Tryz.prog 44 #[.slice (some ⟨g, 0, none⟩) k m, .agg #[.int .i64 x1, .int .i64 x2, .int .i64 x3, .int .i64 x4], .int .i64 fuel] w fun e w' => e = .returned (.agg (oV (ex fuel c { x1 := x1, x2 := x2, x3 := x3, x4 := x4, n := 0, e := -1 })).toArray) ∧ Below w.heap.size w w' := by
  have hin : Inv fuel { x1 := x1, x2 := x2, x3 := x3, x4 := x4, n := 0, e := -1 } := ⟨by dsimp only; omega, by dsimp only; omega, hg, by dsimp only; omega, by dsimp only; omega⟩
  have CA : Hid (∀ X rb, Below w.heap.size w X → w.heap.size ≤ rb → PR X rb fuel { x1 := x1, x2 := x2, x3 := x3, x4 := x4, n := 0, e := -1 } → Calls Tryz.prog 72 #[.pointer (some ⟨rb, 0, none⟩), .slice (some ⟨g, 0, none⟩) k m] X fun e w' => e = .returned (.bool (decide ((ex fuel c { x1 := x1, x2 := x2, x3 := x3, x4 := x4, n := 0, e := -1 }).e < 0))) ∧ PR w' rb fuel (ex fuel c { x1 := x1, x2 := x2, x3 := x3, x4 := x4, n := 0, e := -1 }) ∧ Kp rb X w') := fun X rb hs hrb hp =>
    runs_m (fun g => g < w.heap.size) rb fuel (by omega) hf.2 (csz c) c X _ g k m ys (Nat.le_refl _) ho ((hL.mono (fun g _ h => h)).same (below_same hs)) ((hI.mono (fun g _ h => h)).same (below_same hs)) hp hin (by show (-1 : Int) < 0; decide)
  rw [oV_ar]
  clear hL hI hin hg
  generalize ex fuel c { x1 := x1, x2 := x2, x3 := x3, x4 := x4, n := 0, e := -1 } = E at *
  have HR0 : Hid (Row ((w.alloc (.cells #[.int .i64 x1, .int .i64 x2, .int .i64 x3, .int .i64 x4] 36)).alloc (.cells #[.int .i64 0, .int .i64 0, .int .i64 0, .int .i64 0, .int .i64 0, .int .i64 0] 41)) (w.heap.size + 1) 6) := by
    have := row6 (w.alloc (.cells #[.int .i64 x1, .int .i64 x2, .int .i64 x3, .int .i64 x4] 36))
    rw [show (w.alloc (.cells #[.int .i64 x1, .int .i64 x2, .int .i64 x3, .int .i64 x4] 36)).heap.size = w.heap.size + 1 by simp] at this
    exact this
  have HW : Hid (Below w.heap.size w (((w.alloc (.cells #[.int .i64 x1, .int .i64 x2, .int .i64 x3, .int .i64 x4] 36)).alloc (.cells #[.int .i64 0, .int .i64 0, .int .i64 0, .int .i64 0, .int .i64 0, .int .i64 0] 41)).alloc (.cells #[.int .i64 fuel, .int .i64 0, .int .i64 x1, .int .i64 x2, .int .i64 x3, .int .i64 x4, .int .i64 0] 151)) ∧ Row (((w.alloc (.cells #[.int .i64 x1, .int .i64 x2, .int .i64 x3, .int .i64 x4] 36)).alloc (.cells #[.int .i64 0, .int .i64 0, .int .i64 0, .int .i64 0, .int .i64 0, .int .i64 0] 41)).alloc (.cells #[.int .i64 fuel, .int .i64 0, .int .i64 x1, .int .i64 x2, .int .i64 x3, .int .i64 x4, .int .i64 0] 151)) (w.heap.size + 1) 6 ∧ PR (((w.alloc (.cells #[.int .i64 x1, .int .i64 x2, .int .i64 x3, .int .i64 x4] 36)).alloc (.cells #[.int .i64 0, .int .i64 0, .int .i64 0, .int .i64 0, .int .i64 0, .int .i64 0] 41)).alloc (.cells #[.int .i64 fuel, .int .i64 0, .int .i64 x1, .int .i64 x2, .int .i64 x3, .int .i64 x4, .int .i64 0] 151)) (w.heap.size + 1 + 1) fuel { x1 := x1, x2 := x2, x3 := x3, x4 := x4, n := 0, e := -1 }) := by
    refine ⟨((below_alloc w _).alloc (by simp) _).alloc (by simp; omega) _, HR0.out.alloc (by simp) _, ?_⟩
    have := PR.new ((w.alloc (.cells #[.int .i64 x1, .int .i64 x2, .int .i64 x3, .int .i64 x4] 36)).alloc (.cells #[.int .i64 0, .int .i64 0, .int .i64 0, .int .i64 0, .int .i64 0, .int .i64 0] 41)) fuel x1 x2 x3 x4 151
    rw [show ((w.alloc (.cells #[.int .i64 x1, .int .i64 x2, .int .i64 x3, .int .i64 x4] 36)).alloc (.cells #[.int .i64 0, .int .i64 0, .int .i64 0, .int .i64 0, .int .i64 0, .int .i64 0] 41)).heap.size = w.heap.size + 1 + 1 by simp] at this
    exact this
  go_enter Tryz.func44, Tryz.ntmps44
  go_wp2_with fail
  generalize (((w.alloc (.cells #[.int .i64 x1, .int .i64 x2, .int .i64 x3, .int .i64 x4] 36)).alloc (.cells #[.int .i64 0, .int .i64 0, .int .i64 0, .int .i64 0, .int .i64 0, .int .i64 0] 41)).alloc (.cells #[.int .i64 fuel, .int .i64 0, .int .i64 x1, .int .i64 x2, .int .i64 x3, .int .i64 x4, .int .i64 0] 151)) = W1 at *
  obtain ⟨hB1, hR1, hP1⟩ := HW.out
  refine (CA.out _ _ hB1 (by omega) hP1).mono ?_
  rintro e w4 ⟨rfl, A4, K4⟩
  have hs1 : w.heap.size + 1 + 1 < W1.heap.size := hP1.hb
  have HB4 : Hid (Below w.heap.size w w4) := Kp.below hB1 K4 (by omega)
  have HR4 : Hid (Row w4 (w.heap.size + 1) 6) := hR1.kpOld K4 (by omega) (by omega)
  have c1 := A4.c1
  have c2 := A4.c2
  have c3 := A4.c3
  have c4 := A4.c4
  have c5 := A4.c5
  have c6 := A4.c6
  have hs4 : w.heap.size + 1 + 1 < w4.heap.size := A4.hb
  clear A4 K4 hB1 hR1 hP1 HW HR0 CA
  obtain ⟨⟨u0, z0⟩, f0⟩ := HR4.out.cell 0 (by omega)
  obtain ⟨⟨u1, z1⟩, f1⟩ := HR4.out.cell 1 (by omega)
  obtain ⟨⟨u2, z2⟩, f2⟩ := HR4.out.cell 2 (by omega)
  obtain ⟨⟨u3, z3⟩, f3⟩ := HR4.out.cell 3 (by omega)
  obtain ⟨⟨u4, z4⟩, f4⟩ := HR4.out.cell 4 (by omega)
  obtain ⟨⟨u5, z5⟩, f5⟩ := HR4.out.cell 5 (by omega)
  generalize hK : kn E = K at *
  go_wp2_with fail
  exact postN (X := w4) (B := w.heap.size + 1) [.int .i64 K, .int .i64 E.x1, .int .i64 E.x2, .int .i64 E.x3, .int .i64 E.x4, .int .i64 E.n] Tryz.results44 rfl Tryz.underlying41 rfl Tryz.infoOut HR4.out rfl ⟨by rw [hK], below_cells (by omega) _ _ _ HB4.out⟩
end Go.Proofs.YtkinoehmcfhgbaaGreatDoor.Vl
