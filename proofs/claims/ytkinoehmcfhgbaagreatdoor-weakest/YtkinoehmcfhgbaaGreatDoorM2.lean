/-
  The walks of the program's hasFuel, step, assign.
-/
import Derived.Test.YtkinoehmcfhgbaaGreatDoorM1
set_option linter.unusedVariables false
set_option linter.unusedSimpArgs false
namespace Go.Proofs.YtkinoehmcfhgbaaGreatDoor.Vl
open Go.RowKit
open Go.Proofs.YtkinoehmcfhgbaaGreatDoor.Av (Fm Cm Kp set_other)

/-- The program's run lies at block rb. -/
structure PR (w : World) (rb : Nat) (fuel : Int) (s : RS) : Prop where
  hb : rb < w.heap.size
  c0 : w.cell? ⟨rb, 0, none⟩ = some (.int .i64 fuel)
  c1 : w.cell? ⟨rb, 1, none⟩ = some (.int .i64 (kn s))
  c2 : w.cell? ⟨rb, 2, none⟩ = some (.int .i64 s.x1)
  c3 : w.cell? ⟨rb, 3, none⟩ = some (.int .i64 s.x2)
  c4 : w.cell? ⟨rb, 4, none⟩ = some (.int .i64 s.x3)
  c5 : w.cell? ⟨rb, 5, none⟩ = some (.int .i64 s.x4)
  c6 : w.cell? ⟨rb, 6, none⟩ = some (.int .i64 s.n)
  f : ∀ o, w.frozen? ⟨rb, o, none⟩ = false
theorem PR.below {w w' : World} {rb : Nat} {fuel : Int} {s : RS} (h : PR w rb fuel s) (k : Below w.heap.size w w') : PR w' rb fuel s :=
  have c : ∀ o, w'.cell? ⟨rb, o, none⟩ = w.cell? ⟨rb, o, none⟩ := fun o => k.cell (p := ⟨rb, o, none⟩) h.hb
  ⟨Nat.lt_of_lt_of_le h.hb k.size, (c 0).trans h.c0, (c 1).trans h.c1, (c 2).trans h.c2, (c 3).trans h.c3, (c 4).trans h.c4, (c 5).trans h.c5, (c 6).trans h.c6, fun o => (k.frozen (p := ⟨rb, o, none⟩) h.hb).trans (h.f o)⟩
theorem PR.drewN {w : World} {rb : Nat} {fuel : Int} {s : RS} (h : PR w rb fuel s) (n : Nat) : PR (w.drewN n) rb fuel s := h.below (below_drewN (Below.refl _ _) n)
theorem PR.drew {w : World} {rb : Nat} {fuel : Int} {s : RS} (h : PR w rb fuel s) : PR w.drew rb fuel s := h.below (Below.refl _ _).drew
theorem PR.alloc {w : World} {rb : Nat} {fuel : Int} {s : RS} (h : PR w rb fuel s) (o : Obj) : PR (w.alloc o) rb fuel s := h.below (below_alloc w o)
theorem pset_frz {b : Nat} (w : World) (a : Addr) (u : Value) (h : ∀ o, w.frozen? ⟨b, o, none⟩ = false) : ∀ o, (w.setCell a u).frozen? ⟨b, o, none⟩ = false := fun o => by
  rw [World.frozen?_setCell]; exact h o
theorem pset_size (w : World) (a : Addr) (u : Value) : (w.setCell a u).heap.size = w.heap.size := by simp [World.setCell]
/-- One cell of the run is written. -/
theorem PR.put {w : World} {rb : Nat} {fuel : Int} {s s' : RS} (h : PR w rb fuel s) (j : Nat) (v : Int) (h0 : j ≠ 0)
    (h1 : (if j = 1 then v else kn s) = kn s') (h2 : (if j = 2 then v else s.x1) = s'.x1) (h3 : (if j = 3 then v else s.x2) = s'.x2) (h4 : (if j = 4 then v else s.x3) = s'.x3) (h5 : (if j = 5 then v else s.x4) = s'.x4) (h6 : (if j = 6 then v else s.n) = s'.n) :
    PR (w.setCell ⟨rb, j, none⟩ (.int .i64 v)) rb fuel s' := by
  have key : ∀ (o : Nat) (x y : Int), w.cell? ⟨rb, o, none⟩ = some (.int .i64 x) → (if j = o then v else x) = y → (w.setCell ⟨rb, j, none⟩ (.int .i64 v)).cell? ⟨rb, o, none⟩ = some (.int .i64 y) := fun o x y hc e => by
    by_cases hj : j = o
    · subst hj; rw [if_pos rfl] at e; subst e; exact World.cell?_setCell_same _ _ _ hc
    · rw [if_neg hj] at e; subst e; rw [set_other _ _ _ _ _ hj]; exact hc
  exact ⟨by rw [pset_size]; exact h.hb, by rw [set_other _ _ _ _ _ h0]; exact h.c0, key 1 _ _ h.c1 h1, key 2 _ _ h.c2 h2, key 3 _ _ h.c3 h3, key 4 _ _ h.c4 h4, key 5 _ _ h.c5 h5, key 6 _ _ h.c6 h6, pset_frz _ _ _ h.f⟩

/-- A run that has looked at its fuel. -/
def hfu (fuel : Int) (s : RS) : RS := if s.n = fuel then { s with e := 1 } else s

set_option maxRecDepth 100000 in
set_option maxHeartbeats 1000000 in
theorem hasFuel_any (w : World) (rb : Nat) (fuel : Int) (s : RS) (h : PR w rb fuel s) (hn : s.n ≤ fuel) :
    Calls Tryz.prog 228 #[.pointer (some ⟨rb, 0, none⟩)] w fun e w' => e = .returned (.bool (!(s.n == fuel))) ∧ PR w' rb fuel (hfu fuel s) ∧ Kp rb w w' := by
  have H : Hid (PR w rb fuel s) := h
  have c0 := h.c0
  have c1 := h.c1
  have c6 := h.c6
  have f1 := h.f 1
  cases he : (s.n == fuel)
  · have hne : s.n ≠ fuel := by simpa using he
    have hlt : decide (s.n < fuel) = true := by simp; omega
    have HS : Hid (hfu fuel s = s) := by show _ = _; unfold hfu; rw [if_neg hne]
    clear h he
    generalize hN : s.n = N at *
    generalize kn s = K at *
    go_enter Tryz.func228, Tryz.ntmps228
    go_wp2
    go_quiet (fail)
    go_wp2
    go_ret
    refine ⟨rfl, ?_, ?_⟩
    · rw [HS.out]
      exact H.out.drewN _
    · exact (Kp.refl _ _).drewN _
  · have hne : s.n = fuel := by simpa using he
    have hlt : decide (s.n < fuel) = false := by simp; omega
    have HS : Hid (hfu fuel s = { s with e := 1 }) := by show _ = _; unfold hfu; rw [if_pos hne]
    clear h he
    generalize hN : s.n = N at *
    generalize hK : kn s = K at *
    go_enter Tryz.func228, Tryz.ntmps228
    go_wp2
    go_quiet (fail)
    go_wp2
    go_ret
    refine ⟨rfl, ?_, ?_⟩
    · rw [HS.out]
      exact (H.out.drewN _).put 1 1 (by decide) rfl rfl rfl rfl rfl hN
    · exact ((Kp.refl _ _).drewN _).setCell (Or.inl rfl) _

theorem stp_e {fuel : Int} {s : RS} (he : s.e < 0) : decide ((stp fuel s).e < 0) = !(s.n == fuel) := by
  unfold stp
  by_cases h : s.n = fuel
  · rw [if_pos h]; simp [h]
  · rw [if_neg h]; simp [h, he]

set_option maxRecDepth 100000 in
set_option maxHeartbeats 1000000 in
theorem step_any (w : World) (rb : Nat) (fuel : Int) (s : RS) (h : PR w rb fuel s) (hn : 0 ≤ s.n ∧ s.n ≤ fuel) (hf : fuel ≤ 10000) (hs : s.e < 0) :
    Calls Tryz.prog 163 #[.pointer (some ⟨rb, 0, none⟩)] w fun e w' => e = .returned (.bool (decide ((stp fuel s).e < 0))) ∧ PR w' rb fuel (stp fuel s) ∧ Kp rb w w' := by
  rw [stp_e hs]
  have C := hasFuel_any w rb fuel s h hn.2
  cases he : (s.n == fuel)
  · have hne : s.n ≠ fuel := by simpa using he
    rw [he, show hfu fuel s = s by unfold hfu; rw [if_neg hne]] at C
    have HC : Hid _ := C
    have HS : Hid (stp fuel s = { s with n := s.n + 1 }) := by show _ = _; unfold stp; rw [if_neg hne]
    have hn' : s.n ≤ 10000 := by omega
    clear h C he
    go_enter Tryz.func163, Tryz.ntmps163
    go_wp2_with fail
    refine Calls.mono HC.out ?_
    rintro e w1 ⟨rfl, hA, hK⟩
    have c6 := hA.c6
    have f6 := hA.f 6
    have HA : Hid (PR w1 rb fuel s) := hA
    clear hA
    generalize hN : s.n = N at *
    go_wp2_with fail
    go_ret
    refine ⟨rfl, ?_, ?_⟩
    · rw [HS.out]
      exact HA.out.put 6 (N + 1) (by decide) rfl rfl rfl rfl rfl (if_pos rfl)
    · exact hK.setCell (Or.inl rfl) _
  · have hne : s.n = fuel := by simpa using he
    have e2 : hfu fuel s = stp fuel s := by unfold hfu stp; rw [if_pos hne, if_pos hne]
    rw [he, e2] at C
    have HC : Hid _ := C
    clear h C he e2
    generalize stp fuel s = S at *
    go_enter Tryz.func163, Tryz.ntmps163
    go_wp2_with fail
    refine Calls.mono HC.out ?_
    rintro e w1 ⟨rfl, hA, hK⟩
    go_wp2_with fail
    go_ret
    exact ⟨rfl, hA, hK⟩
theorem kn_set (s : RS) (x v : Int) : kn (s.set x v) = kn s := by unfold kn; rw [(set_n s x v).2]
theorem asgn_way (fuel : Int) (x : Int) (t : Int × Int) (s : RS) : (s.n = fuel ∧ asgn fuel x t s = { s with e := 1 }) ∨ (s.n ≠ fuel ∧ gd (s.tv t) = false ∧ asgn fuel x t s = { s with e := 2 }) ∨ (s.n ≠ fuel ∧ gd (s.tv t) = true ∧ asgn fuel x t s = stp fuel (s.set x (s.tv t))) := by
  unfold asgn
  by_cases h : s.n = fuel
  · exact Or.inl ⟨h, if_pos h⟩
  · cases hg : gd (s.tv t)
    · exact Or.inr (Or.inl ⟨h, rfl, by rw [if_neg h]; rfl⟩)
    · refine Or.inr (Or.inr ⟨h, rfl, ?_⟩)
      rw [if_neg h, if_pos rfl]
      unfold stp
      rw [(set_n s x (s.tv t)).1, if_neg h]

set_option maxRecDepth 100000 in
set_option maxHeartbeats 2000000 in
theorem assign_any (w : World) (rb : Nat) (fuel : Int) (s : RS) (x t1 t2 : Int) (h : PR w rb fuel s) (hi : Inv fuel s) (hf : fuel ≤ 10000) (hs : s.e < 0) (hx : 0 ≤ x ∧ x ≤ 3) (ht : tOk (t1, t2)) :
    Calls Tryz.prog 160 #[.pointer (some ⟨rb, 0, none⟩), .int .i64 x, .agg #[.int .i64 t1, .int .i64 t2]] w fun e w' => e = .returned (.bool (decide ((asgn fuel x (t1, t2) s).e < 0))) ∧ PR w' rb fuel (asgn fuel x (t1, t2) s) ∧ Kp rb w w' := by
  have C := hasFuel_any (w.alloc (.cells #[.int .i64 t1, .int .i64 t2] 96)) rb fuel s (h.alloc _) hi.2.1
  have KW : Hid (Kp rb w (w.alloc (.cells #[.int .i64 t1, .int .i64 t2] 96))) := (Kp.refl _ _).alloc _
  have hrb := h.hb
  have CV : Hid (∀ w, Calls Tryz.prog 74 #[.agg #[.int .i64 t1, .int .i64 t2], .agg #[.int .i64 s.x1, .int .i64 s.x2, .int .i64 s.x3, .int .i64 s.x4]] w fun e w' => e = .returned (.int .i64 (s.tv (t1, t2))) ∧ Below w.heap.size w w') := fun w => valueOf_any t1 t2 _ _ _ _ w ht hi.2.2.1
  have CR : Hid (∀ w, Calls Tryz.prog 71 #[.int .i64 (s.tv (t1, t2))] w fun e w' => e = .returned (.bool (gd (s.tv (t1, t2)))) ∧ w = w') := fun w => inRange_any _ w
  rcases asgn_way fuel x (t1, t2) s with ⟨h1, e1⟩ | ⟨h1, h2, e1⟩ | ⟨h1, h2, e1⟩
  · rw [e1]
    rw [show (s.n == fuel) = true by simp [h1], show hfu fuel s = { s with e := 1 } by unfold hfu; rw [if_pos h1]] at C
    have HC : Hid _ := C
    clear h hi C CV CR e1
    go_enter Tryz.func160, Tryz.ntmps160
    go_wp2_with fail
    refine Calls.mono HC.out ?_
    rintro e w1 ⟨rfl, hA, hK⟩
    go_wp2_with fail
    go_ret
    exact ⟨rfl, hA, KW.out.trans hK⟩
  all_goals
    rw [show (s.n == fuel) = false by simp [h1], show hfu fuel s = s by unfold hfu; rw [if_neg h1]] at C
    rw [h2] at CR
    have HC : Hid _ := C
  · rw [e1]
    clear h hi C e1 h2
    generalize s.tv (t1, t2) = T at *
    go_enter Tryz.func160, Tryz.ntmps160
    go_wp2_with fail
    refine Calls.mono HC.out ?_
    rintro e w1 ⟨rfl, hA, hK⟩
    have HA : Hid (PR w1 rb fuel s) := hA
    have HK1 : Hid (Kp rb w w1) := KW.out.trans hK
    have z1 : w1.cell? ⟨w.heap.size, 0, none⟩ = some (.int .i64 t1) := (hK.cell (p := ⟨w.heap.size, 0, none⟩) (by simp) (by show w.heap.size ≠ rb; omega)).trans (by simp)
    have z2 : w1.cell? ⟨w.heap.size, 1, none⟩ = some (.int .i64 t2) := (hK.cell (p := ⟨w.heap.size, 1, none⟩) (by simp) (by show w.heap.size ≠ rb; omega)).trans (by simp)
    have c2 := hA.c2
    have c3 := hA.c3
    have c4 := hA.c4
    have c5 := hA.c5
    clear hA hK
    go_wp2_with fail
    go_region_with (first | (go_at_call 74; refine (CV.out _).mono ?_; rintro e w2 ⟨rfl, hb2⟩))
    all_goals
      have A2 := HA.out.drew.below hb2
      have HK2 : Hid (Kp rb w w2) := HK1.out.drew.trans (Kp.of_below hb2)
      have c1' := A2.c1
      have f1' := A2.f 1
      have HA2 : Hid (PR w2 rb fuel s) := A2
      clear A2 hb2
      go_wp2_with fail
      refine (CR.out _).mono ?_
      rintro e w3 ⟨rfl, rfl⟩
      go_wp2_with fail
      go_ret
      exact ⟨rfl, HA2.out.put 1 2 (by decide) rfl rfl rfl rfl rfl rfl, HK2.out.setCell (Or.inl rfl) _⟩
  · have hss := set_n s x (s.tv (t1, t2))
    have hks := kn_set s x (s.tv (t1, t2))
    have CS : Hid (∀ w, PR w rb fuel (s.set x (s.tv (t1, t2))) → Calls Tryz.prog 163 #[.pointer (some ⟨rb, 0, none⟩)] w fun e w' => e = .returned (.bool (decide ((stp fuel (s.set x (s.tv (t1, t2)))).e < 0))) ∧ PR w' rb fuel (stp fuel (s.set x (s.tv (t1, t2)))) ∧ Kp rb w w') := fun w hp => step_any w rb fuel _ hp (by rw [hss.1]; exact ⟨hi.1, hi.2.1⟩) hf (by rw [hss.2]; exact hs)
    have HP : Hid (∀ w, PR w rb fuel s → PR (w.setCell ⟨rb, (2 + x).toNat, none⟩ (.int .i64 (s.tv (t1, t2)))) rb fuel (s.set x (s.tv (t1, t2)))) := fun w hp => by
      have hxx : x = 0 ∨ x = 1 ∨ x = 2 ∨ x = 3 := by omega
      rcases hxx with rfl | rfl | rfl | rfl
      · exact hp.put 2 _ (by decide) hks.symm rfl rfl rfl rfl rfl
      · exact hp.put 3 _ (by decide) hks.symm rfl rfl rfl rfl rfl
      · exact hp.put 4 _ (by decide) hks.symm rfl rfl rfl rfl rfl
      · exact hp.put 5 _ (by decide) hks.symm rfl rfl rfl rfl rfl
    rw [e1]
    clear h hi C e1 h2 hss hks
    generalize stp fuel (s.set x (s.tv (t1, t2))) = SS at *
    generalize s.set x (s.tv (t1, t2)) = S1 at *
    generalize s.tv (t1, t2) = T at *
    have hxx : x = 0 ∨ x = 1 ∨ x = 2 ∨ x = 3 := by omega
    clear hx
    rcases hxx with rfl | rfl | rfl | rfl
    all_goals
      go_enter Tryz.func160, Tryz.ntmps160
      go_wp2_with fail
      refine Calls.mono HC.out ?_
      rintro e w1 ⟨rfl, hA, hK⟩
      have HA : Hid (PR w1 rb fuel s) := hA
      have HK1 : Hid (Kp rb w w1) := KW.out.trans hK
      have z1 : w1.cell? ⟨w.heap.size, 0, none⟩ = some (.int .i64 t1) := (hK.cell (p := ⟨w.heap.size, 0, none⟩) (by simp) (by show w.heap.size ≠ rb; omega)).trans (by simp)
      have z2 : w1.cell? ⟨w.heap.size, 1, none⟩ = some (.int .i64 t2) := (hK.cell (p := ⟨w.heap.size, 1, none⟩) (by simp) (by show w.heap.size ≠ rb; omega)).trans (by simp)
      have c2 := hA.c2
      have c3 := hA.c3
      have c4 := hA.c4
      have c5 := hA.c5
      clear hA hK
      go_wp2_with fail
      go_region_with (first | (go_at_call 74; refine (CV.out _).mono ?_; rintro e w2 ⟨rfl, hb2⟩))
      all_goals
        have A2 := HA.out.drew.below hb2
        have HK2 : Hid (Kp rb w w2) := HK1.out.drew.trans (Kp.of_below hb2)
        have c2' := A2.c2
        have c3' := A2.c3
        have c4' := A2.c4
        have c5' := A2.c5
        have hfz := A2.f
        have HP2 := HP.out _ A2
        clear A2 hb2
        go_wp2_with fail
        refine (CR.out _).mono ?_
        rintro e w3 ⟨rfl, rfl⟩
        go_wp2_with fail
        refine (CS.out _ HP2).mono ?_
        rintro e w4 ⟨rfl, A4, K4⟩
        go_wp2_with fail
        go_ret
        exact ⟨rfl, A4, (HK2.out.setCell (Or.inl rfl) _).trans K4⟩
end Go.Proofs.YtkinoehmcfhgbaaGreatDoor.Vl
