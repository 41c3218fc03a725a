/-
  The walk of the program's formula: a formula as a condition.
  The program's walk at 'if'.
-/
import Derived.Test.YtkinoehmcfhgbaaGreatDoorN7
import Derived.Test.YtkinoehmcfhgbaaGreatDoorM1
set_option linter.unusedVariables false
set_option linter.unusedSimpArgs false
namespace Go.Proofs.YtkinoehmcfhgbaaGreatDoor.Vl
open Go.RowKit
open Go.Proofs.YtkinoehmcfhgbaaGreatDoor.Av (Fm IsF fv Same below_same)

def TwP (w w' : World) (B : Nat) (g c : Nat) (k : Int) (p : Option Addr) (n m : Nat) (r a1 a2 a3 a4 : Int) (k' : Int) (p' : Option Addr) (n' m' : Nat) (r' b1 b2 b3 b4 : Int) : Prop := Below w.heap.size w w' ∧ B < w'.heap.size ∧ w'.cell? ⟨B, 1, none⟩ = some (.slice (some ⟨g, 0, none⟩) 2 c) ∧ g < w'.heap.size ∧ w'.cell? ⟨g, 0, none⟩ = some (.int .i64 k) ∧ w'.cell? ⟨g, 1, none⟩ = some (.slice p n m) ∧ w'.cell? ⟨g, 2, none⟩ = some (.int .i64 r) ∧ w'.cell? ⟨g, 3, none⟩ = some (.int .i64 a1) ∧ w'.cell? ⟨g, 4, none⟩ = some (.int .i64 a2) ∧ w'.cell? ⟨g, 5, none⟩ = some (.int .i64 a3) ∧ w'.cell? ⟨g, 6, none⟩ = some (.int .i64 a4) ∧ w'.cell? ⟨g, 7, none⟩ = some (.int .i64 k') ∧ w'.cell? ⟨g, 8, none⟩ = some (.slice p' n' m') ∧ w'.cell? ⟨g, 9, none⟩ = some (.int .i64 r') ∧ w'.cell? ⟨g, 10, none⟩ = some (.int .i64 b1) ∧ w'.cell? ⟨g, 11, none⟩ = some (.int .i64 b2) ∧ w'.cell? ⟨g, 12, none⟩ = some (.int .i64 b3) ∧ w'.cell? ⟨g, 13, none⟩ = some (.int .i64 b4)
theorem TwP.on {w X X' : World} {B g c : Nat} {k : Int} {p : Option Addr} {n m : Nat} {r a1 a2 a3 a4 : Int} {k' : Int} {p' : Option Addr} {n' m' : Nat} {r' b1 b2 b3 b4 : Int} (h : TwP w X B g c k p n m r a1 a2 a3 a4 k' p' n' m' r' b1 b2 b3 b4) (hb : Below X.heap.size X X') : TwP w X' B g c k p n m r a1 a2 a3 a4 k' p' n' m' r' b1 b2 b3 b4 := by
  obtain ⟨h0, h1, h2, h3, h4, h5, h6, h7, h8, h9, h10, h11, h12, h13, h14, h15, h16, h17⟩ := h
  exact ⟨h0.trans (hb.mono h0.size), Nat.lt_of_lt_of_le h1 hb.size, (hb.cell (p := ⟨B, 1, none⟩) h1).trans h2, Nat.lt_of_lt_of_le h3 hb.size, (hb.cell (p := ⟨g, 0, none⟩) h3).trans h4, (hb.cell (p := ⟨g, 1, none⟩) h3).trans h5, (hb.cell (p := ⟨g, 2, none⟩) h3).trans h6, (hb.cell (p := ⟨g, 3, none⟩) h3).trans h7, (hb.cell (p := ⟨g, 4, none⟩) h3).trans h8, (hb.cell (p := ⟨g, 5, none⟩) h3).trans h9, (hb.cell (p := ⟨g, 6, none⟩) h3).trans h10, (hb.cell (p := ⟨g, 7, none⟩) h3).trans h11, (hb.cell (p := ⟨g, 8, none⟩) h3).trans h12, (hb.cell (p := ⟨g, 9, none⟩) h3).trans h13, (hb.cell (p := ⟨g, 10, none⟩) h3).trans h14, (hb.cell (p := ⟨g, 11, none⟩) h3).trans h15, (hb.cell (p := ⟨g, 12, none⟩) h3).trans h16, (hb.cell (p := ⟨g, 13, none⟩) h3).trans h17⟩

theorem parts_nil (w : World) : PartsR w (.slice none 0 0) [] := Or.inl ⟨rfl, rfl⟩
set_option maxRecDepth 100000 in
set_option maxHeartbeats 1000000 in
theorem form_leaf (k : Int) (hk : k = 0 ∨ k = 1) (p : Option Addr) (n m : Nat) (r a1 a2 a3 a4 : Int) (w : World) :
    Calls Tryz.prog 92 #[.agg #[.int .i64 k, .slice p n m, .int .i64 r, .int .i64 a1, .int .i64 a2, .int .i64 a3, .int .i64 a4]] w fun e w' => ∃ v, e = .returned v ∧ CondR w' v [(k, 0, 0, 0)] ∧ Below w.heap.size w w' := by
  have CO : Hid (∀ X, Calls Tryz.prog 94 #[.int .i64 k, .slice none 0 0] X fun e w' => ∃ v', e = .returned v' ∧ CondR w' v' [(k, 0, 0, 0)] ∧ Below X.heap.size X w') := fun X => of_any k _ [] X (parts_nil X) (by simp) (by simp)
  rcases hk with rfl | rfl
  all_goals
    go_enter Tryz.func92, Tryz.ntmps92
    go_wp2_with fail
    refine (CO.out _).mono ?_
    rintro e w1 ⟨v, rfl, hc, hb1⟩
    go_wp2_with fail
    go_ret
    exact ⟨_, rfl, hc, (below_alloc w _).trans (hb1.mono (by simp))⟩
set_option maxRecDepth 100000 in
set_option maxHeartbeats 1000000 in
theorem form_cmp (p : Option Addr) (n m : Nat) (r a1 a2 a3 a4 : Int) (w : World) (hr : 0 ≤ r ∧ r ≤ 4) (ha : tOk (a1, a2)) (hb : tOk (a3, a4)) :
    Calls Tryz.prog 92 #[.agg #[.int .i64 2, .slice p n m, .int .i64 r, .int .i64 a1, .int .i64 a2, .int .i64 a3, .int .i64 a4]] w fun e w' => ∃ v, e = .returned v ∧ CondR w' v (cms r (a1, a2) (a3, a4)) ∧ Below w.heap.size w w' := by
  have CO : Hid (∀ X, Calls Tryz.prog 141 #[.agg #[.int .i64 2, .slice p n m, .int .i64 r, .int .i64 a1, .int .i64 a2, .int .i64 a3, .int .i64 a4]] X fun e w' => ∃ v', e = .returned v' ∧ CondR w' v' (cms r (a1, a2) (a3, a4)) ∧ Below X.heap.size X w') := fun X => comparison_any 2 p n m r a1 a2 a3 a4 X hr ha hb
  clear hr ha hb
  generalize cms r (a1, a2) (a3, a4) = CM at *
  go_enter Tryz.func92, Tryz.ntmps92
  go_wp2_with fail
  refine (CO.out _).mono ?_
  rintro e w1 ⟨v, rfl, hc, hb1⟩
  go_wp2_with fail
  go_ret
  exact ⟨_, rfl, hc, (below_alloc w _).trans (hb1.mono (by simp))⟩
set_option maxRecDepth 100000 in
set_option maxHeartbeats 2000000 in
theorem form_no (g c : Nat) (fr e1 e2 e3 e4 : Int) (k : Int) (p : Option Addr) (n m : Nat) (r a1 a2 a3 a4 : Int) (Y : List Sym) (w : World) (hgs : g < w.heap.size) (hc : 1 ≤ c ∧ c ≤ maxLen) (hu0 : w.cell? ⟨g, 0, none⟩ = some (.int .i64 k)) (hu1 : w.cell? ⟨g, 1, none⟩ = some (.slice p n m)) (hu2 : w.cell? ⟨g, 2, none⟩ = some (.int .i64 r)) (hu3 : w.cell? ⟨g, 3, none⟩ = some (.int .i64 a1)) (hu4 : w.cell? ⟨g, 4, none⟩ = some (.int .i64 a2)) (hu5 : w.cell? ⟨g, 5, none⟩ = some (.int .i64 a3)) (hu6 : w.cell? ⟨g, 6, none⟩ = some (.int .i64 a4)) (hY : Y.length ≤ 80000) (C1 : ∀ X, Below w.heap.size w X → Calls Tryz.prog 92 #[.agg #[.int .i64 k, .slice p n m, .int .i64 r, .int .i64 a1, .int .i64 a2, .int .i64 a3, .int .i64 a4]] X fun e w' => ∃ v, e = .returned v ∧ CondR w' v Y ∧ Below X.heap.size X w') :
    Calls Tryz.prog 92 #[.agg #[.int .i64 3, .slice (some ⟨g, 0, none⟩) 1 c, .int .i64 fr, .int .i64 e1, .int .i64 e2, .int .i64 e3, .int .i64 e4]] w fun e w' => ∃ v, e = .returned v ∧ CondR w' v ((2, 0, 0, 0) :: Y) ∧ Below w.heap.size w w' := by
  have HC1 : Hid _ := C1
  have CO : Hid (∀ X g m, PartsR X (.slice (some ⟨g, 0, none⟩) 1 m) [Y] → Calls Tryz.prog 94 #[.int .i64 2, .slice (some ⟨g, 0, none⟩) 1 m] X fun e w' => ∃ v', e = .returned v' ∧ CondR w' v' ((2, 0, 0, 0) :: Y) ∧ Below X.heap.size X w') := fun X g m hX => by
    have := of_any 2 _ _ X hX (by simp; omega) (by simp)
    simpa only [List.flatten_cons, List.flatten_nil, List.append_nil] using this
  clear C1
  obtain ⟨hc1, hc2⟩ := hc
  have hne : ¬ g = w.heap.size := by omega
  have hne' : ¬ w.heap.size = g := by omega
  have hb0 := below_alloc w (.cells #[.int .i64 3, .slice (some ⟨g, 0, none⟩) 1 c, .int .i64 fr, .int .i64 e1, .int .i64 e2, .int .i64 e3, .int .i64 e4] 98)
  have C1 : Hid _ := HC1.out _ hb0
  go_enter Tryz.func92, Tryz.ntmps92
  go_wp2_with fail
  refine Calls.mono C1.out ?_
  rintro e w1 ⟨v, rfl, hv, hb1⟩
  have hB1 : Below w.heap.size w w1 := hb0.trans (hb1.mono (by simp))
  obtain ⟨xa, xc, rfl⟩ := hv.shape
  have HPP : Hid _ := parts_one w1 _ Y 75 hv
  clear hb1 C1 HC1
  go_wp2_with fail
  refine Calls.mono (CO.out _ _ _ HPP.out) ?_
  rintro e w2 ⟨v2, rfl, hc2, hb2⟩
  go_wp2_with fail
  go_ret
  exact ⟨_, rfl, hc2, (hB1.alloc hB1.size _).trans (hb2.mono (by have := hB1.size; simp; omega))⟩

set_option maxRecDepth 100000 in
set_option maxHeartbeats 4000000 in
theorem form_and (g c : Nat) (fr e1 e2 e3 e4 : Int) (k : Int) (p : Option Addr) (n m : Nat) (r a1 a2 a3 a4 : Int) (k' : Int) (p' : Option Addr) (n' m' : Nat) (r' b1 b2 b3 b4 : Int) (Y Z : List Sym) (w : World) (hgs : g < w.heap.size) (hc : 2 ≤ c ∧ c ≤ maxLen) (hu0 : w.cell? ⟨g, 0, none⟩ = some (.int .i64 k)) (hu1 : w.cell? ⟨g, 1, none⟩ = some (.slice p n m)) (hu2 : w.cell? ⟨g, 2, none⟩ = some (.int .i64 r)) (hu3 : w.cell? ⟨g, 3, none⟩ = some (.int .i64 a1)) (hu4 : w.cell? ⟨g, 4, none⟩ = some (.int .i64 a2)) (hu5 : w.cell? ⟨g, 5, none⟩ = some (.int .i64 a3)) (hu6 : w.cell? ⟨g, 6, none⟩ = some (.int .i64 a4)) (hv0 : w.cell? ⟨g, 7, none⟩ = some (.int .i64 k')) (hv1 : w.cell? ⟨g, 8, none⟩ = some (.slice p' n' m')) (hv2 : w.cell? ⟨g, 9, none⟩ = some (.int .i64 r')) (hv3 : w.cell? ⟨g, 10, none⟩ = some (.int .i64 b1)) (hv4 : w.cell? ⟨g, 11, none⟩ = some (.int .i64 b2)) (hv5 : w.cell? ⟨g, 12, none⟩ = some (.int .i64 b3)) (hv6 : w.cell? ⟨g, 13, none⟩ = some (.int .i64 b4)) (hY : Y.length + Z.length ≤ 80000) (C1 : ∀ X, Below w.heap.size w X → Calls Tryz.prog 92 #[.agg #[.int .i64 k, .slice p n m, .int .i64 r, .int .i64 a1, .int .i64 a2, .int .i64 a3, .int .i64 a4]] X fun e w' => ∃ v, e = .returned v ∧ CondR w' v Y ∧ Below X.heap.size X w') (C2 : ∀ X, Below w.heap.size w X → Calls Tryz.prog 92 #[.agg #[.int .i64 k', .slice p' n' m', .int .i64 r', .int .i64 b1, .int .i64 b2, .int .i64 b3, .int .i64 b4]] X fun e w' => ∃ v, e = .returned v ∧ CondR w' v Z ∧ Below X.heap.size X w') :
    Calls Tryz.prog 92 #[.agg #[.int .i64 4, .slice (some ⟨g, 0, none⟩) 2 c, .int .i64 fr, .int .i64 e1, .int .i64 e2, .int .i64 e3, .int .i64 e4]] w fun e w' => ∃ v, e = .returned v ∧ CondR w' v ((3, 0, 0, 0) :: (Y ++ Z)) ∧ Below w.heap.size w w' := by
  have HC1 : Hid _ := C1
  have HC2 : Hid _ := C2
  have CO : Hid (∀ X g m, PartsR X (.slice (some ⟨g, 0, none⟩) 2 m) [Y, Z] → Calls Tryz.prog 94 #[.int .i64 3, .slice (some ⟨g, 0, none⟩) 2 m] X fun e w' => ∃ v', e = .returned v' ∧ CondR w' v' ((3, 0, 0, 0) :: (Y ++ Z)) ∧ Below X.heap.size X w') := fun X g m hX => by
    have := of_any 3 _ _ X hX (by simp only [List.flatten_cons, List.flatten_nil, List.append_nil, List.length_append]; omega) (by simp)
    simpa only [List.flatten_cons, List.flatten_nil, List.append_nil] using this
  clear C1 C2
  obtain ⟨hc1, hc2⟩ := hc
  generalize (3, 0, 0, 0) :: (Y ++ Z) = R at *
  have hne : ¬ g = w.heap.size := by omega
  have hne' : ¬ w.heap.size = g := by omega
  go_enter Tryz.func92, Tryz.ntmps92
  go_wp2_with fail
  have bb0 : Below w.heap.size w (w.alloc (.cells #[.int .i64 4, .slice (some ⟨g, 0, none⟩) 2 c, .int .i64 fr, .int .i64 e1, .int .i64 e2, .int .i64 e3, .int .i64 e4] 98)) := below_alloc w _
  generalize hW : (w.alloc (.cells #[.int .i64 4, .slice (some ⟨g, 0, none⟩) 2 c, .int .i64 fr, .int .i64 e1, .int .i64 e2, .int .i64 e3, .int .i64 e4] 98)) = W at *
  have s0 : w.heap.size < W.heap.size := by rw [← hW]; simp
  have s1 : g < W.heap.size := by omega
  have c1 : W.cell? ⟨w.heap.size, 1, none⟩ = some (.slice (some ⟨g, 0, none⟩) 2 c) := by rw [← hW]; simp
  have z0 : W.cell? ⟨g, 0, none⟩ = some (.int .i64 k) := (bb0.cell (p := ⟨g, 0, none⟩) hgs).trans hu0
  have z1 : W.cell? ⟨g, 1, none⟩ = some (.slice p n m) := (bb0.cell (p := ⟨g, 1, none⟩) hgs).trans hu1
  have z2 : W.cell? ⟨g, 2, none⟩ = some (.int .i64 r) := (bb0.cell (p := ⟨g, 2, none⟩) hgs).trans hu2
  have z3 : W.cell? ⟨g, 3, none⟩ = some (.int .i64 a1) := (bb0.cell (p := ⟨g, 3, none⟩) hgs).trans hu3
  have z4 : W.cell? ⟨g, 4, none⟩ = some (.int .i64 a2) := (bb0.cell (p := ⟨g, 4, none⟩) hgs).trans hu4
  have z5 : W.cell? ⟨g, 5, none⟩ = some (.int .i64 a3) := (bb0.cell (p := ⟨g, 5, none⟩) hgs).trans hu5
  have z6 : W.cell? ⟨g, 6, none⟩ = some (.int .i64 a4) := (bb0.cell (p := ⟨g, 6, none⟩) hgs).trans hu6
  have z7 : W.cell? ⟨g, 7, none⟩ = some (.int .i64 k') := (bb0.cell (p := ⟨g, 7, none⟩) hgs).trans hv0
  have z8 : W.cell? ⟨g, 8, none⟩ = some (.slice p' n' m') := (bb0.cell (p := ⟨g, 8, none⟩) hgs).trans hv1
  have z9 : W.cell? ⟨g, 9, none⟩ = some (.int .i64 r') := (bb0.cell (p := ⟨g, 9, none⟩) hgs).trans hv2
  have z10 : W.cell? ⟨g, 10, none⟩ = some (.int .i64 b1) := (bb0.cell (p := ⟨g, 10, none⟩) hgs).trans hv3
  have z11 : W.cell? ⟨g, 11, none⟩ = some (.int .i64 b2) := (bb0.cell (p := ⟨g, 11, none⟩) hgs).trans hv4
  have z12 : W.cell? ⟨g, 12, none⟩ = some (.int .i64 b3) := (bb0.cell (p := ⟨g, 12, none⟩) hgs).trans hv5
  have z13 : W.cell? ⟨g, 13, none⟩ = some (.int .i64 b4) := (bb0.cell (p := ⟨g, 13, none⟩) hgs).trans hv6
  have bb1 : Below w.heap.size w W.drew := bb0.drew
  have T0 : TwP w W.drew w.heap.size g c k p n m r a1 a2 a3 a4 k' p' n' m' r' b1 b2 b3 b4 := ⟨bb1, s0, c1, s1, z0, z1, z2, z3, z4, z5, z6, z7, z8, z9, z10, z11, z12, z13⟩
  clear hW hu0 hu1 hu2 hu3 hu4 hu5 hu6 hv0 hv1 hv2 hv3 hv4 hv5 hv6
  go_region_held3 (fun w' => Below w.heap.size w w' ∧ w.heap.size < w'.heap.size ∧ w'.cell? ⟨w.heap.size, 1, none⟩ = some (.slice (some ⟨g, 0, none⟩) 2 c) ∧ g < w'.heap.size ∧ w'.cell? ⟨g, 0, none⟩ = some (.int .i64 k) ∧ w'.cell? ⟨g, 1, none⟩ = some (.slice p n m) ∧ w'.cell? ⟨g, 2, none⟩ = some (.int .i64 r) ∧ w'.cell? ⟨g, 3, none⟩ = some (.int .i64 a1) ∧ w'.cell? ⟨g, 4, none⟩ = some (.int .i64 a2) ∧ w'.cell? ⟨g, 5, none⟩ = some (.int .i64 a3) ∧ w'.cell? ⟨g, 6, none⟩ = some (.int .i64 a4) ∧ w'.cell? ⟨g, 7, none⟩ = some (.int .i64 k') ∧ w'.cell? ⟨g, 8, none⟩ = some (.slice p' n' m') ∧ w'.cell? ⟨g, 9, none⟩ = some (.int .i64 r') ∧ w'.cell? ⟨g, 10, none⟩ = some (.int .i64 b1) ∧ w'.cell? ⟨g, 11, none⟩ = some (.int .i64 b2) ∧ w'.cell? ⟨g, 12, none⟩ = some (.int .i64 b3) ∧ w'.cell? ⟨g, 13, none⟩ = some (.int .i64 b4)) (first | (refine ⟨?_, ?_, ?_, ?_, ?_, ?_, ?_, ?_, ?_, ?_, ?_, ?_, ?_, ?_, ?_, ?_, ?_, ?_⟩ <;> assumption) | exact (T2.on (below_alloc _ _))) (first | (go_at_call 94; refine Calls.mono (CO.out _ _ _ (parts_two _ _ _ Y Z 75 hc1' hc2')) ?_; rintro e w4 ⟨v4, rfl, hc4, hb4⟩; have T3 := (T2.on (below_alloc _ _)).on hb4; obtain ⟨t0, t1, t2, t3, t4, t5, t6, t7, t8, t9, t10, t11, t12, t13, t14, t15, t16, t17⟩ := id T3) | (go_at_call 92; first | (have hh := T1; refine Calls.mono (HC2.out _ T1.1) ?_; rintro e w3 ⟨v2, rfl, hc2', hb3⟩; obtain ⟨xa2, xc2, rfl⟩ := hc2'.shape; have T2 := T1.on hb3; have hc1' := hc1''.below hb3; clear hh; obtain ⟨t0, t1, t2, t3, t4, t5, t6, t7, t8, t9, t10, t11, t12, t13, t14, t15, t16, t17⟩ := id T2) | (refine Calls.mono (HC1.out _ T0.1) ?_; rintro e w3 ⟨v1, rfl, hc1'', hb3⟩; obtain ⟨xa1, xc1, rfl⟩ := hc1''.shape; have T1 := T0.on hb3; obtain ⟨t0, t1, t2, t3, t4, t5, t6, t7, t8, t9, t10, t11, t12, t13, t14, t15, t16, t17⟩ := id T1)))
  go_wp2_with fail
  go_ret
  exact ⟨_, rfl, hc4, t0⟩

set_option maxRecDepth 100000 in
set_option maxHeartbeats 4000000 in
theorem form_or (g c : Nat) (fr e1 e2 e3 e4 : Int) (k : Int) (p : Option Addr) (n m : Nat) (r a1 a2 a3 a4 : Int) (k' : Int) (p' : Option Addr) (n' m' : Nat) (r' b1 b2 b3 b4 : Int) (Y Z : List Sym) (w : World) (hgs : g < w.heap.size) (hc : 2 ≤ c ∧ c ≤ maxLen) (hu0 : w.cell? ⟨g, 0, none⟩ = some (.int .i64 k)) (hu1 : w.cell? ⟨g, 1, none⟩ = some (.slice p n m)) (hu2 : w.cell? ⟨g, 2, none⟩ = some (.int .i64 r)) (hu3 : w.cell? ⟨g, 3, none⟩ = some (.int .i64 a1)) (hu4 : w.cell? ⟨g, 4, none⟩ = some (.int .i64 a2)) (hu5 : w.cell? ⟨g, 5, none⟩ = some (.int .i64 a3)) (hu6 : w.cell? ⟨g, 6, none⟩ = some (.int .i64 a4)) (hv0 : w.cell? ⟨g, 7, none⟩ = some (.int .i64 k')) (hv1 : w.cell? ⟨g, 8, none⟩ = some (.slice p' n' m')) (hv2 : w.cell? ⟨g, 9, none⟩ = some (.int .i64 r')) (hv3 : w.cell? ⟨g, 10, none⟩ = some (.int .i64 b1)) (hv4 : w.cell? ⟨g, 11, none⟩ = some (.int .i64 b2)) (hv5 : w.cell? ⟨g, 12, none⟩ = some (.int .i64 b3)) (hv6 : w.cell? ⟨g, 13, none⟩ = some (.int .i64 b4)) (hY : Y.length + Z.length ≤ 80000) (C1 : ∀ X, Below w.heap.size w X → Calls Tryz.prog 92 #[.agg #[.int .i64 k, .slice p n m, .int .i64 r, .int .i64 a1, .int .i64 a2, .int .i64 a3, .int .i64 a4]] X fun e w' => ∃ v, e = .returned v ∧ CondR w' v Y ∧ Below X.heap.size X w') (C2 : ∀ X, Below w.heap.size w X → Calls Tryz.prog 92 #[.agg #[.int .i64 k', .slice p' n' m', .int .i64 r', .int .i64 b1, .int .i64 b2, .int .i64 b3, .int .i64 b4]] X fun e w' => ∃ v, e = .returned v ∧ CondR w' v Z ∧ Below X.heap.size X w') :
    Calls Tryz.prog 92 #[.agg #[.int .i64 5, .slice (some ⟨g, 0, none⟩) 2 c, .int .i64 fr, .int .i64 e1, .int .i64 e2, .int .i64 e3, .int .i64 e4]] w fun e w' => ∃ v, e = .returned v ∧ CondR w' v ((4, 0, 0, 0) :: (Y ++ Z)) ∧ Below w.heap.size w w' := by
  have HC1 : Hid _ := C1
  have HC2 : Hid _ := C2
  have CO : Hid (∀ X g m, PartsR X (.slice (some ⟨g, 0, none⟩) 2 m) [Y, Z] → Calls Tryz.prog 94 #[.int .i64 4, .slice (some ⟨g, 0, none⟩) 2 m] X fun e w' => ∃ v', e = .returned v' ∧ CondR w' v' ((4, 0, 0, 0) :: (Y ++ Z)) ∧ Below X.heap.size X w') := fun X g m hX => by
    have := of_any 4 _ _ X hX (by simp only [List.flatten_cons, List.flatten_nil, List.append_nil, List.length_append]; omega) (by simp)
    simpa only [List.flatten_cons, List.flatten_nil, List.append_nil] using this
  clear C1 C2
  obtain ⟨hc1, hc2⟩ := hc
  generalize (4, 0, 0, 0) :: (Y ++ Z) = R at *
  have hne : ¬ g = w.heap.size := by omega
  have hne' : ¬ w.heap.size = g := by omega
  go_enter Tryz.func92, Tryz.ntmps92
  go_wp2_with fail
  have bb0 : Below w.heap.size w (w.alloc (.cells #[.int .i64 5, .slice (some ⟨g, 0, none⟩) 2 c, .int .i64 fr, .int .i64 e1, .int .i64 e2, .int .i64 e3, .int .i64 e4] 98)) := below_alloc w _
  generalize hW : (w.alloc (.cells #[.int .i64 5, .slice (some ⟨g, 0, none⟩) 2 c, .int .i64 fr, .int .i64 e1, .int .i64 e2, .int .i64 e3, .int .i64 e4] 98)) = W at *
  have s0 : w.heap.size < W.heap.size := by rw [← hW]; simp
  have s1 : g < W.heap.size := by omega
  have c1 : W.cell? ⟨w.heap.size, 1, none⟩ = some (.slice (some ⟨g, 0, none⟩) 2 c) := by rw [← hW]; simp
  have z0 : W.cell? ⟨g, 0, none⟩ = some (.int .i64 k) := (bb0.cell (p := ⟨g, 0, none⟩) hgs).trans hu0
  have z1 : W.cell? ⟨g, 1, none⟩ = some (.slice p n m) := (bb0.cell (p := ⟨g, 1, none⟩) hgs).trans hu1
  have z2 : W.cell? ⟨g, 2, none⟩ = some (.int .i64 r) := (bb0.cell (p := ⟨g, 2, none⟩) hgs).trans hu2
  have z3 : W.cell? ⟨g, 3, none⟩ = some (.int .i64 a1) := (bb0.cell (p := ⟨g, 3, none⟩) hgs).trans hu3
  have z4 : W.cell? ⟨g, 4, none⟩ = some (.int .i64 a2) := (bb0.cell (p := ⟨g, 4, none⟩) hgs).trans hu4
  have z5 : W.cell? ⟨g, 5, none⟩ = some (.int .i64 a3) := (bb0.cell (p := ⟨g, 5, none⟩) hgs).trans hu5
  have z6 : W.cell? ⟨g, 6, none⟩ = some (.int .i64 a4) := (bb0.cell (p := ⟨g, 6, none⟩) hgs).trans hu6
  have z7 : W.cell? ⟨g, 7, none⟩ = some (.int .i64 k') := (bb0.cell (p := ⟨g, 7, none⟩) hgs).trans hv0
  have z8 : W.cell? ⟨g, 8, none⟩ = some (.slice p' n' m') := (bb0.cell (p := ⟨g, 8, none⟩) hgs).trans hv1
  have z9 : W.cell? ⟨g, 9, none⟩ = some (.int .i64 r') := (bb0.cell (p := ⟨g, 9, none⟩) hgs).trans hv2
  have z10 : W.cell? ⟨g, 10, none⟩ = some (.int .i64 b1) := (bb0.cell (p := ⟨g, 10, none⟩) hgs).trans hv3
  have z11 : W.cell? ⟨g, 11, none⟩ = some (.int .i64 b2) := (bb0.cell (p := ⟨g, 11, none⟩) hgs).trans hv4
  have z12 : W.cell? ⟨g, 12, none⟩ = some (.int .i64 b3) := (bb0.cell (p := ⟨g, 12, none⟩) hgs).trans hv5
  have z13 : W.cell? ⟨g, 13, none⟩ = some (.int .i64 b4) := (bb0.cell (p := ⟨g, 13, none⟩) hgs).trans hv6
  have bb1 : Below w.heap.size w W.drew := bb0.drew
  have T0 : TwP w W.drew w.heap.size g c k p n m r a1 a2 a3 a4 k' p' n' m' r' b1 b2 b3 b4 := ⟨bb1, s0, c1, s1, z0, z1, z2, z3, z4, z5, z6, z7, z8, z9, z10, z11, z12, z13⟩
  clear hW hu0 hu1 hu2 hu3 hu4 hu5 hu6 hv0 hv1 hv2 hv3 hv4 hv5 hv6
  go_region_held3 (fun w' => Below w.heap.size w w' ∧ w.heap.size < w'.heap.size ∧ w'.cell? ⟨w.heap.size, 1, none⟩ = some (.slice (some ⟨g, 0, none⟩) 2 c) ∧ g < w'.heap.size ∧ w'.cell? ⟨g, 0, none⟩ = some (.int .i64 k) ∧ w'.cell? ⟨g, 1, none⟩ = some (.slice p n m) ∧ w'.cell? ⟨g, 2, none⟩ = some (.int .i64 r) ∧ w'.cell? ⟨g, 3, none⟩ = some (.int .i64 a1) ∧ w'.cell? ⟨g, 4, none⟩ = some (.int .i64 a2) ∧ w'.cell? ⟨g, 5, none⟩ = some (.int .i64 a3) ∧ w'.cell? ⟨g, 6, none⟩ = some (.int .i64 a4) ∧ w'.cell? ⟨g, 7, none⟩ = some (.int .i64 k') ∧ w'.cell? ⟨g, 8, none⟩ = some (.slice p' n' m') ∧ w'.cell? ⟨g, 9, none⟩ = some (.int .i64 r') ∧ w'.cell? ⟨g, 10, none⟩ = some (.int .i64 b1) ∧ w'.cell? ⟨g, 11, none⟩ = some (.int .i64 b2) ∧ w'.cell? ⟨g, 12, none⟩ = some (.int .i64 b3) ∧ w'.cell? ⟨g, 13, none⟩ = some (.int .i64 b4)) (first | (refine ⟨?_, ?_, ?_, ?_, ?_, ?_, ?_, ?_, ?_, ?_, ?_, ?_, ?_, ?_, ?_, ?_, ?_, ?_⟩ <;> assumption) | exact (T2.on (below_alloc _ _))) (first | (go_at_call 94; refine Calls.mono (CO.out _ _ _ (parts_two _ _ _ Y Z 75 hc1' hc2')) ?_; rintro e w4 ⟨v4, rfl, hc4, hb4⟩; have T3 := (T2.on (below_alloc _ _)).on hb4; obtain ⟨t0, t1, t2, t3, t4, t5, t6, t7, t8, t9, t10, t11, t12, t13, t14, t15, t16, t17⟩ := id T3) | (go_at_call 92; first | (have hh := T1; refine Calls.mono (HC2.out _ T1.1) ?_; rintro e w3 ⟨v2, rfl, hc2', hb3⟩; obtain ⟨xa2, xc2, rfl⟩ := hc2'.shape; have T2 := T1.on hb3; have hc1' := hc1''.below hb3; clear hh; obtain ⟨t0, t1, t2, t3, t4, t5, t6, t7, t8, t9, t10, t11, t12, t13, t14, t15, t16, t17⟩ := id T2) | (refine Calls.mono (HC1.out _ T0.1) ?_; rintro e w3 ⟨v1, rfl, hc1'', hb3⟩; obtain ⟨xa1, xc1, rfl⟩ := hc1''.shape; have T1 := T0.on hb3; obtain ⟨t0, t1, t2, t3, t4, t5, t6, t7, t8, t9, t10, t11, t12, t13, t14, t15, t16, t17⟩ := id T1)))
  go_wp2_with fail
  go_ret
  exact ⟨_, rfl, hc4, t0⟩

theorem form_any {P : Nat → Prop} : ∀ (f : Fm) (cs : List Value) (w : World), IsF w P f cs → fOk f → (fsy f).length ≤ 50000 →
    Calls Tryz.prog 92 #[.agg cs.toArray] w fun e w' => ∃ v, e = .returned v ∧ CondR w' v (fsy f) ∧ Below w.heap.size w w'
  | .tt, cs, w, ⟨p, n, c, r, a1, a2, a3, a4, e⟩, _, _ => by subst e; exact form_leaf 0 (Or.inl rfl) p n c r a1 a2 a3 a4 w
  | .ff, cs, w, ⟨p, n, c, r, a1, a2, a3, a4, e⟩, _, _ => by subst e; exact form_leaf 1 (Or.inr rfl) p n c r a1 a2 a3 a4 w
  | .cmp r a b, cs, w, ⟨p, n, c, e⟩, ho, _ => by subst e; exact form_cmp p n c r a.1 a.2 b.1 b.2 w ⟨ho.1, ho.2.1⟩ ho.2.2.1 ho.2.2.2
  | .no f, cs, w, ⟨g, c, r, a1, a2, a3, a4, u, e, h1, h2, h3, h4, h5, h6⟩, ho, hl => by
    subst e
    obtain ⟨k, p, n, m, r', b1, b2, b3, b4, eu⟩ := h6.shape
    subst eu
    obtain ⟨z0, z1, z2, z3, z4, z5, z6⟩ := range7 h5
    have hl' : (fsy f).length + 1 ≤ 50000 := hl
    exact form_no g c r a1 a2 a3 a4 k p n m r' b1 b2 b3 b4 (fsy f) w h2 ⟨h3, h4⟩ z0 z1 z2 z3 z4 z5 z6 (by omega) (fun X hX => form_any f _ X (h6.same (below_same hX)) ho (by omega))
  | .and f h, cs, w, ⟨g, c, r, a1, a2, a3, a4, u1, u2, e, h1, h2, h3, h4, h5, h6, h7, h8⟩, ho, hl => by
    subst e
    obtain ⟨k, p, n, m, r', b1, b2, b3, b4, eu⟩ := h7.shape
    subst eu
    obtain ⟨k', p', n', m', r'', d1, d2, d3, d4, eu⟩ := h8.shape
    subst eu
    obtain ⟨z0, z1, z2, z3, z4, z5, z6⟩ := range7 h5
    obtain ⟨y0, y1, y2, y3, y4, y5, y6⟩ := range7 h6
    have hl' : (fsy f ++ fsy h).length + 1 ≤ 50000 := hl
    rw [List.length_append] at hl'
    exact form_and g c r a1 a2 a3 a4 k p n m r' b1 b2 b3 b4 k' p' n' m' r'' d1 d2 d3 d4 (fsy f) (fsy h) w h2 ⟨h3, h4⟩ z0 z1 z2 z3 z4 z5 z6 y0 y1 y2 y3 y4 y5 y6 (by omega) (fun X hX => form_any f _ X (h7.same (below_same hX)) ho.1 (by omega)) (fun X hX => form_any h _ X (h8.same (below_same hX)) ho.2 (by omega))
  | .or f h, cs, w, ⟨g, c, r, a1, a2, a3, a4, u1, u2, e, h1, h2, h3, h4, h5, h6, h7, h8⟩, ho, hl => by
    subst e
    obtain ⟨k, p, n, m, r', b1, b2, b3, b4, eu⟩ := h7.shape
    subst eu
    obtain ⟨k', p', n', m', r'', d1, d2, d3, d4, eu⟩ := h8.shape
    subst eu
    obtain ⟨z0, z1, z2, z3, z4, z5, z6⟩ := range7 h5
    obtain ⟨y0, y1, y2, y3, y4, y5, y6⟩ := range7 h6
    have hl' : (fsy f ++ fsy h).length + 1 ≤ 50000 := hl
    rw [List.length_append] at hl'
    exact form_or g c r a1 a2 a3 a4 k p n m r' b1 b2 b3 b4 k' p' n' m' r'' d1 d2 d3 d4 (fsy f) (fsy h) w h2 ⟨h3, h4⟩ z0 z1 z2 z3 z4 z5 z6 y0 y1 y2 y3 y4 y5 y6 (by omega) (fun X hX => form_any f _ X (h7.same (below_same hX)) ho.1 (by omega)) (fun X hX => form_any h _ X (h8.same (below_same hX)) ho.2 (by omega))
end Go.Proofs.YtkinoehmcfhgbaaGreatDoor.Vl
set_option linter.unusedVariables false
set_option linter.unusedSimpArgs false
namespace Go.Proofs.YtkinoehmcfhgbaaGreatDoor.Vl
open Go.RowKit
open Go.Proofs.YtkinoehmcfhgbaaGreatDoor.Av (Fm Cm Rc IsF IsC Lst Same fv)

theorem WkAt.cond {w0 w w' : World} {wb : Nat} {tl : Bool} {L : List (List Sym)} {v : Value} {q : List Sym} (h : WkAt w0 w wb tl L) (hc : CondR w v q) (hf : FrS wb w w') : CondR w' v q := by
  obtain ⟨tv, _, hh, _⟩ := h.hv
  exact hc.fr hf hh (fun k hk => (h.lb k hk).2.2)
theorem WkAt.old {w0 w : World} {wb : Nat} {tl : Bool} {L : List (List Sym)} {g o : Nat} {u : Value} (h : WkAt w0 w wb tl L) (hg : g < w0.heap.size) (hc : w0.cell? ⟨g, o, none⟩ = some u) : w.cell? ⟨g, o, none⟩ = some u := (h.b0.cell (p := ⟨g, o, none⟩) hg).trans hc

set_option maxRecDepth 100000 in
set_option maxHeartbeats 2000000 in
theorem choice_w (w0 : World) (wb : Nat) (v : Value) (w : World) (g o : Nat) (tl tl1 tl2 : Bool) (L L1 L2 : List (List Sym)) (F Q1 Q2 : List Sym) (g1 n1 c1 g2 n2 c2 : Nat) (k : Int) (p : Option Addr) (n m : Nat) (r a1 a2 a3 a4 : Int)
    (hg : g < w0.heap.size) (hA : WkAt w0 w wb tl L) (hF : F.length ≤ 30000) (hQ1 : Q1.length ≤ 4000) (hQ2 : Q2.length ≤ 4000)
    (z4 : w0.cell? ⟨g, o + 4, none⟩ = some (.int .i64 k)) (z5 : w0.cell? ⟨g, o + 5, none⟩ = some (.slice p n m)) (z6 : w0.cell? ⟨g, o + 6, none⟩ = some (.int .i64 r)) (z7 : w0.cell? ⟨g, o + 7, none⟩ = some (.int .i64 a1)) (z8 : w0.cell? ⟨g, o + 8, none⟩ = some (.int .i64 a2)) (z9 : w0.cell? ⟨g, o + 9, none⟩ = some (.int .i64 a3)) (z10 : w0.cell? ⟨g, o + 10, none⟩ = some (.int .i64 a4))
    (z18 : w0.cell? ⟨g, o + 18, none⟩ = some (.slice (some ⟨g1, 0, none⟩) n1 c1)) (z19 : w0.cell? ⟨g, o + 19, none⟩ = some (.slice (some ⟨g2, 0, none⟩) n2 c2))
    (C2 : Calls Tryz.prog 91 #[.pointer (some ⟨wb, 0, none⟩), .slice (some ⟨g2, 0, none⟩) n2 c2, v] w fun e w' => ∃ v', e = .returned v' ∧ CondR w' v' Q2 ∧ WkAt w0 w' wb tl2 L2 ∧ FrS wb w w')
    (C1 : ∀ X, WkAt w0 X wb tl2 L2 → FrS wb w X → Calls Tryz.prog 91 #[.pointer (some ⟨wb, 0, none⟩), .slice (some ⟨g1, 0, none⟩) n1 c1, v] X fun e w' => ∃ v', e = .returned v' ∧ CondR w' v' Q1 ∧ WkAt w0 w' wb tl1 L1 ∧ FrS wb X w')
    (CF : ∀ X, Below w0.heap.size w0 X → Calls Tryz.prog 92 #[.agg #[.int .i64 k, .slice p n m, .int .i64 r, .int .i64 a1, .int .i64 a2, .int .i64 a3, .int .i64 a4]] X fun e w' => ∃ v, e = .returned v ∧ CondR w' v F ∧ Below X.heap.size X w') :
    Calls Tryz.prog 212 #[.pointer (some ⟨wb, 0, none⟩), .pointer (some ⟨g, o, none⟩), v] w fun e w' => ∃ v', e = .returned v' ∧ CondR w' v' ((4, 0, 0, 0) :: (3, 0, 0, 0) :: (F ++ (Q1 ++ ((3, 0, 0, 0) :: (2, 0, 0, 0) :: (F ++ Q2))))) ∧ WkAt w0 w' wb tl1 L1 ∧ FrS wb w w' := by
  have H2 : Hid _ := C2
  have H1 : Hid _ := C1
  have HF : Hid _ := CF
  have HE : Hid (((4 : Int), (0 : Int), (0 : Int), (0 : Int)) :: (3, 0, 0, 0) :: (F ++ (Q1 ++ ((3, 0, 0, 0) :: (2, 0, 0, 0) :: (F ++ Q2)))) = (4, 0, 0, 0) :: [(3, 0, 0, 0) :: [F, Q1].flatten, (3, 0, 0, 0) :: [(2, 0, 0, 0) :: [F].flatten, Q2].flatten].flatten) := by
    show _ = _
    simp only [List.flatten_cons, List.flatten_nil, List.append_nil, List.cons_append, List.append_assoc]
  have y19 := hA.old hg z19
  have y18 := hA.old hg z18
  clear C1 C2 CF
  go_enter Tryz.func212, Tryz.ntmps212
  go_wp2_with fail
  refine Calls.mono H2.out ?_
  rintro e w1 ⟨v1, rfl, hc1, hA1, hF1⟩
  obtain ⟨pa1, pc1, rfl⟩ := hc1.shape
  have x18 := hA1.old hg z18
  go_wp2_with fail
  refine Calls.mono (H1.out _ hA1 hF1) ?_
  rintro e w2 ⟨v2, rfl, hc2, hA2, hF2⟩
  obtain ⟨pa2, pc2, rfl⟩ := hc2.shape
  have hc1b := hA1.cond hc1 hF2
  have x4 := hA2.old hg z4
  have x5 := hA2.old hg z5
  have x6 := hA2.old hg z6
  have x7 := hA2.old hg z7
  have x8 := hA2.old hg z8
  have x9 := hA2.old hg z9
  have x10 := hA2.old hg z10
  go_wp2_with fail
  refine Calls.mono (HF.out _ hA2.b0) ?_
  rintro e w3 ⟨v3, rfl, hc3, hb3⟩
  obtain ⟨pa3, pc3, rfl⟩ := hc3.shape
  go_wp2_with fail
  refine Calls.mono (of_any 3 _ _ _ (parts_two w3 _ _ F Q1 75 hc3 (hc2.below hb3)) (by simp only [List.flatten_cons, List.flatten_nil, List.append_nil, List.length_append, List.length_cons]; omega) (by simp)) ?_
  rintro e w4 ⟨v4, rfl, hc4, hb4⟩
  obtain ⟨R4, E4⟩ : ∃ R : List Sym, Hid (R = (3, 0, 0, 0) :: [F, Q1].flatten) := ⟨_, rfl⟩
  rw [← E4.out] at hc4
  have l4 : R4.length ≤ 34001 := by rw [E4.out]; simp only [List.flatten_cons, List.flatten_nil, List.append_nil, List.length_append, List.length_cons]; omega
  have b34 := (below_alloc w3 (.cells #[.slice pa3 F.length pc3, .slice pa2 Q1.length pc2] 75)).trans (hb4.mono (by simp))
  obtain ⟨pa4, pc4, rfl⟩ := hc4.shape
  go_wp2_with fail
  refine Calls.mono (of_any 2 _ _ _ (parts_one w4 _ F 75 (hc3.below b34)) (by simp only [List.flatten_cons, List.flatten_nil, List.append_nil, List.length_append, List.length_cons]; omega) (by simp)) ?_
  rintro e w5 ⟨v5, rfl, hc5, hb5⟩
  obtain ⟨R5, E5⟩ : ∃ R : List Sym, Hid (R = (2, 0, 0, 0) :: [F].flatten) := ⟨_, rfl⟩
  rw [← E5.out] at hc5
  have l5 : R5.length ≤ 30001 := by rw [E5.out]; simp only [List.flatten_cons, List.flatten_nil, List.append_nil, List.length_append, List.length_cons]; omega
  have b45 := (below_alloc w4 (.cells #[.slice pa3 F.length pc3] 75)).trans (hb5.mono (by simp))
  obtain ⟨pa5, pc5, rfl⟩ := hc5.shape
  have hc1d := ((hc1b.below hb3).below b34).below b45
  go_wp2_with fail
  refine Calls.mono (of_any 3 _ _ _ (parts_two w5 _ _ R5 Q2 75 hc5 hc1d) (by simp only [List.flatten_cons, List.flatten_nil, List.append_nil, List.length_append, List.length_cons]; omega) (by simp)) ?_
  rintro e w6 ⟨v6, rfl, hc6, hb6⟩
  obtain ⟨R6, E6⟩ : ∃ R : List Sym, Hid (R = (3, 0, 0, 0) :: [R5, Q2].flatten) := ⟨_, rfl⟩
  rw [← E6.out] at hc6
  have l6 : R6.length ≤ 34002 := by rw [E6.out]; simp only [List.flatten_cons, List.flatten_nil, List.append_nil, List.length_append, List.length_cons]; omega
  have b56 := (below_alloc w5 (.cells #[.slice pa5 R5.length pc5, .slice pa1 Q2.length pc1] 75)).trans (hb6.mono (by simp))
  obtain ⟨pa6, pc6, rfl⟩ := hc6.shape
  have hc4d := (hc4.below b45).below b56
  go_wp2_with fail
  refine Calls.mono (of_any 4 _ _ _ (parts_two w6 _ _ R4 R6 75 hc4d hc6) (by simp only [List.flatten_cons, List.flatten_nil, List.append_nil, List.length_append, List.length_cons]; omega) (by simp)) ?_
  rintro e w7 ⟨v7, rfl, hc7, hb7⟩
  have b67 : Below w6.heap.size w6 w7 := (below_alloc w6 _).trans (hb7.mono (by simp))
  go_wp2_with fail
  go_ret
  refine ⟨_, rfl, ?_, ((((hA2.below hb3).below b34).below b45).below b56).below b67, (hF1.trans hF2).trans ((FrS.of_below hb3).trans ((FrS.of_below b34).trans ((FrS.of_below b45).trans ((FrS.of_below b56).trans (FrS.of_below b67)))))⟩
  rw [HE.out, ← E4.out, ← E5.out, ← E6.out]
  exact hc7
end Go.Proofs.YtkinoehmcfhgbaaGreatDoor.Vl
