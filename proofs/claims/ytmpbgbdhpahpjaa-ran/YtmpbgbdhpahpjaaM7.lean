/-
  The walk of the law Ran.
-/
import Derived.Test.YtmpbgbdhpahpjaaM5
import Derived.ChangeKeysEq
set_option linter.unusedVariables false
set_option linter.unusedSimpArgs false
namespace Go.Proofs.Ytmpbgbdhpahpjaa.Vl
open Go.RowKit
open Go.Proofs.Ytmpbgbdhpahpjaa.Av (vr Fm Rd Tg sAt Cm Rc tokAt answer)

theorem eqIn4 (d : Nat) (w : World) (x1 x2 x3 x4 y1 y2 y3 y4 : Int) : (Op.equalIn (d + 1 + 1) 29 (.agg #[.int .i64 x1, .int .i64 x2, .int .i64 x3, .int .i64 x4]) (.agg #[.int .i64 y1, .int .i64 y2, .int .i64 y3, .int .i64 y4])).run Try.prog w = .ok (x1 == y1 && (x2 == y2 && (x3 == y3 && x4 == y4))) w := by
  have e1 : ∃ i, Try.prog.info? 3 = some i := Option.isSome_iff_exists.1 (by kernel_rfl)
  obtain ⟨i, hi⟩ := e1
  have e2 : Try.prog.cellsOf 3 = 1 := by kernel_rfl
  rw [run_equalIn_array w (d + 1) _ _ Try.underlying29 hi, e2]
  simp [Op.eqItems, part, run_equalIn_int, Try.underlying3, show List.range 4 = [0, 1, 2, 3] from rfl]
  by_cases h1 : x1 = y1 <;> by_cases h2 : x2 = y2 <;> by_cases h3 : x3 = y3 <;> by_cases h4 : x4 = y4 <;> simp [h1, h2, h3, h4]
theorem neq4 (w : World) (x1 x2 x3 x4 y1 y2 y3 y4 : Int) : (binOp .neq 29 (.agg #[.int .i64 x1, .int .i64 x2, .int .i64 x3, .int .i64 x4]) (.agg #[.int .i64 y1, .int .i64 y2, .int .i64 y3, .int .i64 y4])).run Try.prog w = .ok (.bool (!(x1 == y1 && (x2 == y2 && (x3 == y3 && x4 == y4))))) w := by
  rw [run_neq_struct, show (10000 : Nat) = 9998 + 1 + 1 from rfl, eqIn4]
  rfl
theorem eql6 (w : World) (k x1 x2 x3 x4 n l y1 y2 y3 y4 m : Int) : (binOp .eql 31 (.agg #[.int .i64 k, .int .i64 x1, .int .i64 x2, .int .i64 x3, .int .i64 x4, .int .i64 n]) (.agg #[.int .i64 l, .int .i64 y1, .int .i64 y2, .int .i64 y3, .int .i64 y4, .int .i64 m])).run Try.prog w = .ok (.bool (k == l && ((x1 == y1 && (x2 == y2 && (x3 == y3 && x4 == y4))) && n == m))) w := by
  have e1 : Try.prog.underlying 31 = some (.struct (Try.prog.fieldsOf 31)) := by kernel_rfl
  have e2 : Try.prog.stoodInHeld 31 = false := by kernel_rfl
  have e3 := fun w => eqIn4 9997 w x1 x2 x3 x4 y1 y2 y3 y4
  rw [run_eql_struct, run_equalIn_agg _ 9999 _ _ _ e1 e2]
  simp only [Program.fieldsOf, Try.underlying31]
  simp [Op.eqFields, part, run_equalIn_int, Try.underlying3, e3]
  by_cases h0 : k = l <;> by_cases h1 : x1 = y1 <;> by_cases h2 : x2 = y2 <;> by_cases h3 : x3 = y3 <;> by_cases h4 : x4 = y4 <;> by_cases h5 : n = m <;> simp [h0, h1, h2, h3, h4, h5]
theorem eql6s (w : World) (k x1 x2 x3 x4 n : Int) : (binOp .eql 31 (.agg #[.int .i64 k, .int .i64 x1, .int .i64 x2, .int .i64 x3, .int .i64 x4, .int .i64 n]) (.agg #[.int .i64 k, .int .i64 x1, .int .i64 x2, .int .i64 x3, .int .i64 x4, .int .i64 n])).run Try.prog w = .ok (.bool true) w := by
  rw [eql6]; simp

set_option maxRecDepth 100000 in
set_option maxHeartbeats 2000000 in
theorem ran_c (s : ByteArray) (x1 x2 x3 x4 fuel : Int) (behind : Bool) (w : World) :
    Calls Try.prog 4 #[.string s, .agg #[.int .i64 x1, .int .i64 x2, .int .i64 x3, .int .i64 x4], .int .i64 fuel, .bool behind] w fun e w' => e = .returned (.bool true) ∧ Below w.heap.size w w' := by
  have K1 : Hid (∀ w, Calls Try.prog 8 #[.string cnt, .agg #[.int .i64 0, .int .i64 2, .int .i64 0, .int .i64 0], .int .i64 9] w fun e w' => e = .returned (.tuple #[.agg #[.int .i64 0, .int .i64 2, .int .i64 2, .int .i64 0, .int .i64 0, .int .i64 5], .int .i64 0, .int .i64 0]) ∧ Below w.heap.size w w') := crun_cnt
  have K2 : Hid (∀ w, Calls Try.prog 9 #[.string cnt, .bool true, .agg #[.int .i64 2, .int .i64 2, .int .i64 0, .int .i64 0]] w fun e w' => e = .returned (.tuple #[.bool true, .int .i64 0, .int .i64 0]) ∧ Below w.heap.size w w') := chol_cnt
  have CN : Hid (∀ k w, Calls Try.prog 6 #[.int .i64 k] w fun e w' => e = .returned (.int .i64 k) ∧ w = w') := num_any
  have C1 : Hid (∀ w, Calls Try.prog 8 #[.string s, .agg #[.int .i64 x1, .int .i64 x2, .int .i64 x3, .int .i64 x4], .int .i64 fuel] w fun e w' => ∃ p c q, ((answer s).1 = 0 → Prg (tokAt 0 (Av.rest s 0)) p c q) ∧ e = .returned (.tuple #[.agg (oV (dAns s x1 x2 x3 x4 fuel c).1).toArray, .int .i64 (dAns s x1 x2 x3 x4 fuel c).2.1, .int .i64 (dAns s x1 x2 x3 x4 fuel c).2.2]) ∧ Below w.heap.size w w') := fun w => crun_any s x1 x2 x3 x4 fuel w
  have C2 : Hid (∀ p c q w, ((answer s).1 = 0 → Prg (tokAt 0 (Av.rest s 0)) p c q) → Calls Try.prog 10 #[.string s, .agg #[.int .i64 x1, .int .i64 x2, .int .i64 x3, .int .i64 x4], .int .i64 fuel] w fun e w' => e = .returned (.tuple #[.agg (oV (dAns s x1 x2 x3 x4 fuel c).1).toArray, .int .i64 (dAns s x1 x2 x3 x4 fuel c).2.1, .int .i64 (dAns s x1 x2 x3 x4 fuel c).2.2]) ∧ Below w.heap.size w w') := fun p c q w h => refDo_any s x1 x2 x3 x4 fuel p q c w h
  have C3 : Hid (∀ p c q, ((answer s).1 = 0 → Prg (tokAt 0 (Av.rest s 0)) p c q) → ∀ w, Calls Try.prog 9 #[.string s, .bool behind, .agg #[.int .i64 x1, .int .i64 x2, .int .i64 x3, .int .i64 x4]] w fun e w' => e = .returned (.tuple #[.bool (hAns s behind x1 x2 x3 x4 p q).1, .int .i64 (hAns s behind x1 x2 x3 x4 p q).2.1, .int .i64 (hAns s behind x1 x2 x3 x4 p q).2.2]) ∧ Below w.heap.size w w') := fun p c q h w => (chol_any s behind x1 x2 x3 x4 w).mono fun e w' ⟨p', c', q', h', he, hb⟩ => ⟨by rw [he, hAns_det h h'], hb⟩
  have C4 : Hid (∀ p c q, ((answer s).1 = 0 → Prg (tokAt 0 (Av.rest s 0)) p c q) → ∀ w, Calls Try.prog 11 #[.string s, .bool behind, .agg #[.int .i64 x1, .int .i64 x2, .int .i64 x3, .int .i64 x4]] w fun e w' => e = .returned (.tuple #[.bool (hAns s behind x1 x2 x3 x4 p q).1, .int .i64 (hAns s behind x1 x2 x3 x4 p q).2.1, .int .i64 (hAns s behind x1 x2 x3 x4 p q).2.2]) ∧ Below w.heap.size w w') := fun p c q h w => refHolds_any s behind x1 x2 x3 x4 p q c w h
  go_enter Try.func4, Try.ntmps4
  go_wp2_with fail
  refine Calls.mono (K1.out _) ?_
  rintro e w1 ⟨rfl, hb1⟩
  have hs1 : w.heap.size < w1.heap.size := by have := hb1.size; simp at this; omega
  have d0 : w1.cell? ⟨w.heap.size, 0, none⟩ = some (.int .i64 x1) := (hb1.cell (p := ⟨w.heap.size, 0, none⟩) (by simp)).trans (by simp)
  have d1 : w1.cell? ⟨w.heap.size, 1, none⟩ = some (.int .i64 x2) := (hb1.cell (p := ⟨w.heap.size, 1, none⟩) (by simp)).trans (by simp)
  have d2 : w1.cell? ⟨w.heap.size, 2, none⟩ = some (.int .i64 x3) := (hb1.cell (p := ⟨w.heap.size, 2, none⟩) (by simp)).trans (by simp)
  have d3 : w1.cell? ⟨w.heap.size, 3, none⟩ = some (.int .i64 x4) := (hb1.cell (p := ⟨w.heap.size, 3, none⟩) (by simp)).trans (by simp)
  have HB1 : Hid (Below w.heap.size w w1) := (below_alloc w _).trans (hb1.mono (by simp))
  clear hb1 K1
  go_wp2_with fail
  refine Calls.mono (K2.out _) ?_
  rintro e w2 ⟨rfl, hb2⟩
  have z0 : w2.cell? ⟨w1.heap.size, 0, none⟩ = some (.int .i64 0) := (hb2.cell (p := ⟨w1.heap.size, 0, none⟩) (by simp)).trans (by simp)
  have z1 : w2.cell? ⟨w1.heap.size, 1, none⟩ = some (.int .i64 2) := (hb2.cell (p := ⟨w1.heap.size, 1, none⟩) (by simp)).trans (by simp)
  have z2 : w2.cell? ⟨w1.heap.size, 2, none⟩ = some (.int .i64 2) := (hb2.cell (p := ⟨w1.heap.size, 2, none⟩) (by simp)).trans (by simp)
  have z3 : w2.cell? ⟨w1.heap.size, 3, none⟩ = some (.int .i64 0) := (hb2.cell (p := ⟨w1.heap.size, 3, none⟩) (by simp)).trans (by simp)
  have z4 : w2.cell? ⟨w1.heap.size, 4, none⟩ = some (.int .i64 0) := (hb2.cell (p := ⟨w1.heap.size, 4, none⟩) (by simp)).trans (by simp)
  have z5 : w2.cell? ⟨w1.heap.size, 5, none⟩ = some (.int .i64 5) := (hb2.cell (p := ⟨w1.heap.size, 5, none⟩) (by simp)).trans (by simp)
  have hb12 : Below w1.heap.size w1 w2 := (below_alloc w1 _).trans (hb2.mono (by simp))
  have e0 := (hb12.cell (p := ⟨w.heap.size, 0, none⟩) hs1).trans d0
  have e1 := (hb12.cell (p := ⟨w.heap.size, 1, none⟩) hs1).trans d1
  have e2 := (hb12.cell (p := ⟨w.heap.size, 2, none⟩) hs1).trans d2
  have e3 := (hb12.cell (p := ⟨w.heap.size, 3, none⟩) hs1).trans d3
  have HB2 : Hid (Below w.heap.size w w2) := HB1.out.trans (hb12.mono HB1.out.size)
  have hs2 : w.heap.size < w2.heap.size := by have := hb12.size; omega
  have hs21 : w1.heap.size < w2.heap.size := by have := hb2.size; simp at this; omega
  clear hb2 hb12 d0 d1 d2 d3 K2 HB1
  have hq := fun w => neq4 w 2 2 0 0 2 2 0 0
  go_wp2_with (go_at_call 6; refine (CN.out _ _).mono ?_; rintro e w' ⟨rfl, rfl⟩)
  clear z0 z1 z2 z3 z4 z5 hq
  refine Calls.mono (C1.out _) ?_
  rintro e w3 ⟨p, c, q, hP, rfl, hb3⟩
  have D2 : Hid (∀ w, Calls Try.prog 10 #[.string s, .agg #[.int .i64 x1, .int .i64 x2, .int .i64 x3, .int .i64 x4], .int .i64 fuel] w fun e w' => e = .returned (.tuple #[.agg (oV (dAns s x1 x2 x3 x4 fuel c).1).toArray, .int .i64 (dAns s x1 x2 x3 x4 fuel c).2.1, .int .i64 (dAns s x1 x2 x3 x4 fuel c).2.2]) ∧ Below w.heap.size w w') := fun w => C2.out p c q w hP
  have D3 : Hid (∀ w, Calls Try.prog 9 #[.string s, .bool behind, .agg #[.int .i64 x1, .int .i64 x2, .int .i64 x3, .int .i64 x4]] w fun e w' => e = .returned (.tuple #[.bool (hAns s behind x1 x2 x3 x4 p q).1, .int .i64 (hAns s behind x1 x2 x3 x4 p q).2.1, .int .i64 (hAns s behind x1 x2 x3 x4 p q).2.2]) ∧ Below w.heap.size w w') := C3.out p c q hP
  have D4 : Hid (∀ w, Calls Try.prog 11 #[.string s, .bool behind, .agg #[.int .i64 x1, .int .i64 x2, .int .i64 x3, .int .i64 x4]] w fun e w' => e = .returned (.tuple #[.bool (hAns s behind x1 x2 x3 x4 p q).1, .int .i64 (hAns s behind x1 x2 x3 x4 p q).2.1, .int .i64 (hAns s behind x1 x2 x3 x4 p q).2.2]) ∧ Below w.heap.size w w') := C4.out p c q hP
  clear C1 C2 C3 C4 hP
  rw [oV_ar] at D2
  rw [oV_ar]
  generalize dAns s x1 x2 x3 x4 fuel c = E at *
  generalize hAns s behind x1 x2 x3 x4 p q = F at *
  obtain ⟨E, E1, E2⟩ := E
  obtain ⟨F, F1, F2⟩ := F
  dsimp only at D2 D3 D4
  dsimp only
  generalize kn E = K at *
  have HB3 : Hid (Below w.heap.size w w3) := HB2.out.trans (hb3.mono HB2.out.size)
  have d0 := (hb3.cell (p := ⟨w.heap.size, 0, none⟩) hs2).trans e0
  have d1 := (hb3.cell (p := ⟨w.heap.size, 1, none⟩) hs2).trans e1
  have d2 := (hb3.cell (p := ⟨w.heap.size, 2, none⟩) hs2).trans e2
  have d3 := (hb3.cell (p := ⟨w.heap.size, 3, none⟩) hs2).trans e3
  have hs3 : w.heap.size < w3.heap.size := by have := hb3.size; omega
  clear hb3 e0 e1 e2 e3 HB2
  go_wp2_with fail
  refine (D2.out _).mono ?_
  rintro e w4 ⟨rfl, hb4⟩
  have o0 : w4.cell? ⟨w3.heap.size, 0, none⟩ = some (.int .i64 (K)) := (hb4.cell (p := ⟨w3.heap.size, 0, none⟩) (by simp)).trans (by simp)
  have o1 : w4.cell? ⟨w3.heap.size, 1, none⟩ = some (.int .i64 (E.x1)) := (hb4.cell (p := ⟨w3.heap.size, 1, none⟩) (by simp)).trans (by simp)
  have o2 : w4.cell? ⟨w3.heap.size, 2, none⟩ = some (.int .i64 (E.x2)) := (hb4.cell (p := ⟨w3.heap.size, 2, none⟩) (by simp)).trans (by simp)
  have o3 : w4.cell? ⟨w3.heap.size, 3, none⟩ = some (.int .i64 (E.x3)) := (hb4.cell (p := ⟨w3.heap.size, 3, none⟩) (by simp)).trans (by simp)
  have o4 : w4.cell? ⟨w3.heap.size, 4, none⟩ = some (.int .i64 (E.x4)) := (hb4.cell (p := ⟨w3.heap.size, 4, none⟩) (by simp)).trans (by simp)
  have o5 : w4.cell? ⟨w3.heap.size, 5, none⟩ = some (.int .i64 (E.n)) := (hb4.cell (p := ⟨w3.heap.size, 5, none⟩) (by simp)).trans (by simp)
  have hb34 : Below w3.heap.size w3 w4 := (below_alloc w3 _).trans (hb4.mono (by simp))
  have HB4 : Hid (Below w.heap.size w w4) := HB3.out.trans (hb34.mono HB3.out.size)
  have hs34 : w3.heap.size < w4.heap.size := by have := hb4.size; simp at this; omega
  have e0 := (hb34.cell (p := ⟨w.heap.size, 0, none⟩) hs3).trans d0
  have e1 := (hb34.cell (p := ⟨w.heap.size, 1, none⟩) hs3).trans d1
  have e2 := (hb34.cell (p := ⟨w.heap.size, 2, none⟩) hs3).trans d2
  have e3 := (hb34.cell (p := ⟨w.heap.size, 3, none⟩) hs3).trans d3
  have hs4 : w.heap.size < w4.heap.size := by omega
  clear hb4 hb34 d0 d1 d2 d3 HB3 D2
  go_wp2_with fail
  refine (D3.out _).mono ?_
  rintro e w5 ⟨rfl, hb5⟩
  have hb45 : Below w4.heap.size w4 w5 := (below_alloc w4 _).trans (hb5.mono (by simp))
  have q0 : w5.cell? ⟨w4.heap.size, 0, none⟩ = some (.int .i64 (K)) := (hb5.cell (p := ⟨w4.heap.size, 0, none⟩) (by simp)).trans (by simp)
  have r0 := (hb45.cell (p := ⟨w3.heap.size, 0, none⟩) hs34).trans o0
  have q1 : w5.cell? ⟨w4.heap.size, 1, none⟩ = some (.int .i64 (E.x1)) := (hb5.cell (p := ⟨w4.heap.size, 1, none⟩) (by simp)).trans (by simp)
  have r1 := (hb45.cell (p := ⟨w3.heap.size, 1, none⟩) hs34).trans o1
  have q2 : w5.cell? ⟨w4.heap.size, 2, none⟩ = some (.int .i64 (E.x2)) := (hb5.cell (p := ⟨w4.heap.size, 2, none⟩) (by simp)).trans (by simp)
  have r2 := (hb45.cell (p := ⟨w3.heap.size, 2, none⟩) hs34).trans o2
  have q3 : w5.cell? ⟨w4.heap.size, 3, none⟩ = some (.int .i64 (E.x3)) := (hb5.cell (p := ⟨w4.heap.size, 3, none⟩) (by simp)).trans (by simp)
  have r3 := (hb45.cell (p := ⟨w3.heap.size, 3, none⟩) hs34).trans o3
  have q4 : w5.cell? ⟨w4.heap.size, 4, none⟩ = some (.int .i64 (E.x4)) := (hb5.cell (p := ⟨w4.heap.size, 4, none⟩) (by simp)).trans (by simp)
  have r4 := (hb45.cell (p := ⟨w3.heap.size, 4, none⟩) hs34).trans o4
  have q5 : w5.cell? ⟨w4.heap.size, 5, none⟩ = some (.int .i64 (E.n)) := (hb5.cell (p := ⟨w4.heap.size, 5, none⟩) (by simp)).trans (by simp)
  have r5 := (hb45.cell (p := ⟨w3.heap.size, 5, none⟩) hs34).trans o5
  have HB5 : Hid (Below w.heap.size w w5) := HB4.out.trans (hb45.mono HB4.out.size)
  have hs45 : w4.heap.size < w5.heap.size := by have := hb5.size; simp at this; omega
  have d0 := (hb45.cell (p := ⟨w.heap.size, 0, none⟩) hs4).trans e0
  have d1 := (hb45.cell (p := ⟨w.heap.size, 1, none⟩) hs4).trans e1
  have d2 := (hb45.cell (p := ⟨w.heap.size, 2, none⟩) hs4).trans e2
  have d3 := (hb45.cell (p := ⟨w.heap.size, 3, none⟩) hs4).trans e3
  clear hb5 hb45 e0 e1 e2 e3 HB4 D3 o0 o1 o2 o3 o4 o5
  go_wp2_with fail
  refine (D4.out _).mono ?_
  rintro e w6 ⟨rfl, hb6⟩
  have hs35 : w3.heap.size < w5.heap.size := by omega
  have s0 := (hb6.cell (p := ⟨w4.heap.size, 0, none⟩) hs45).trans q0
  have t0 := (hb6.cell (p := ⟨w3.heap.size, 0, none⟩) hs35).trans r0
  have s1 := (hb6.cell (p := ⟨w4.heap.size, 1, none⟩) hs45).trans q1
  have t1 := (hb6.cell (p := ⟨w3.heap.size, 1, none⟩) hs35).trans r1
  have s2 := (hb6.cell (p := ⟨w4.heap.size, 2, none⟩) hs45).trans q2
  have t2 := (hb6.cell (p := ⟨w3.heap.size, 2, none⟩) hs35).trans r2
  have s3 := (hb6.cell (p := ⟨w4.heap.size, 3, none⟩) hs45).trans q3
  have t3 := (hb6.cell (p := ⟨w3.heap.size, 3, none⟩) hs35).trans r3
  have s4 := (hb6.cell (p := ⟨w4.heap.size, 4, none⟩) hs45).trans q4
  have t4 := (hb6.cell (p := ⟨w3.heap.size, 4, none⟩) hs35).trans r4
  have s5 := (hb6.cell (p := ⟨w4.heap.size, 5, none⟩) hs45).trans q5
  have t5 := (hb6.cell (p := ⟨w3.heap.size, 5, none⟩) hs35).trans r5
  have HB6 : Hid (Below w.heap.size w w6) := HB5.out.trans (hb6.mono HB5.out.size)
  clear hb6 d0 d1 d2 d3 q0 q1 q2 q3 q4 q5 r0 r1 r2 r3 r4 r5 D4 HB5
  have hq := fun w => eql6s w K E.x1 E.x2 E.x3 E.x4 E.n
  generalize E.x1 = v1 at *
  generalize E.x2 = v2 at *
  generalize E.x3 = v3 at *
  generalize E.x4 = v4 at *
  generalize E.n = v5 at *
  go_wp2_with (go_at_call 6; refine (CN.out _ _).mono ?_; rintro e w' ⟨rfl, rfl⟩)
  go_ret
  exact ⟨rfl, HB6.out⟩
end Go.Proofs.Ytmpbgbdhpahpjaa.Vl
