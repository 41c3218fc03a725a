/-
  The walk of the program's parseAtom.
  The walk of the program's cutSymbol.
-/
import Derived.Test.YtkinoehmcfhgbaaGreatDoorS3
set_option linter.unusedVariables false
set_option linter.unusedSimpArgs false
namespace Go.Proofs.YtkinoehmcfhgbaaGreatDoor.Vl
open Go.RowKit

theorem set_other (w : World) (b i j : Nat) (u : Value) (h : i ≠ j) : (w.setCell ⟨b, i, none⟩ u).cell? ⟨b, j, none⟩ = w.cell? ⟨b, j, none⟩ := by
  apply World.cell?_setCell_other
  intro e; injection e with _ e2 _; exact h e2
theorem set_same (w : World) (a : Addr) (u : Value) (h : ∃ v, w.cell? a = some v) : (w.setCell a u).cell? a = some u := by obtain ⟨v, h⟩ := h; exact World.cell?_setCell_same _ _ _ h
theorem results_c2 {fn : Func} {tmps : Array Value} {w : World} {k i : Nat} {t : TypeId} {a : Addr} {v x : Value} (hf : fn.results = #[.cell k t, .tmp i]) (ht : tmps.getD k undef = .pointer (some a)) (hx : tmps.getD i undef = x) (hl : (loadVar t a).run Tryz.prog w = .ok v w) : (results fn tmps).run Tryz.prog w = .ok (.tuple #[v, x]) w := by
  have ht' : (tmps[k]?.getD undef) = .pointer (some a) := by simpa using ht
  have hx' : (tmps[i]?.getD undef) = x := by simpa using hx
  simp [results, hf, ht', hx', hl, asAddr]
theorem Tryz.sizeLAtm : (Tryz.prog.info? 134).map (·.size) = some 3 := by kernel_rfl
theorem load3 (X : World) (B : Nat) (c0 c1 c2 : Value) (h0 : X.cell? ⟨B, 0, none⟩ = some c0) (h1 : X.cell? ⟨B, 1, none⟩ = some c1) (h2 : X.cell? ⟨B, 2, none⟩ = some c2) : (loadVar 134 ⟨B, 0, none⟩).run Tryz.prog X = .ok (.agg #[c0, c1, c2]) X :=
  run_loadVar_mid _ _ 0 134 [c0, c1, c2] _ (by
    intro j v hv
    match j, hv with
    | 0, hv => cases hv; exact h0
    | 1, hv => cases hv; exact h1
    | 2, hv => cases hv; exact h2) Tryz.underlying134 rfl Tryz.sizeLAtm
def set3 (X : World) (B : Nat) (c0 c1 c2 : Value) : World := ((X.setCell ⟨B, 0, none⟩ c0).setCell ⟨B, 1, none⟩ c1).setCell ⟨B, 2, none⟩ c2
theorem load_set3 (X : World) (B : Nat) (c0 c1 c2 : Value) (h : ∀ j, j < 3 → ∃ u, X.cell? ⟨B, j, none⟩ = some u) : (loadVar 134 ⟨B, 0, none⟩).run Tryz.prog (set3 X B c0 c1 c2) = .ok (.agg #[c0, c1, c2]) (set3 X B c0 c1 c2) := by
  unfold set3
  refine load3 _ B c0 c1 c2 ?_ ?_ ?_
  · rw [set_other _ _ _ _ _ (by omega), set_other _ _ _ _ _ (by omega)]; exact set_same _ _ _ (h 0 (by omega))
  · rw [set_other _ _ _ _ _ (by omega)]; exact set_same _ _ _ (by rw [set_other _ _ _ _ _ (by omega)]; exact h 1 (by omega))
  · exact set_same _ _ _ (by rw [set_other _ _ _ _ _ (by omega), set_other _ _ _ _ _ (by omega)]; exact h 2 (by omega))
theorem below_set3 {a X : World} {n B : Nat} (c0 c1 c2 : Value) (h : Below n a X) (hB : n ≤ B) : Below n a (set3 X B c0 c1 c2) :=
  ((h.setCell (p := ⟨B, 0, none⟩) hB c0).setCell (p := ⟨B, 1, none⟩) hB c1).setCell (p := ⟨B, 2, none⟩) hB c2

def patV : Option Atm → Value
  | none => .tuple #[.agg #[.int .i64 0, .int .i64 0, .int .i64 0], .bool false]
  | some a => .tuple #[.agg #[.int .i64 a.1, .int .i64 a.2.1, .int .i64 a.2.2], .bool true]
theorem ib_ops (x : UInt8) (w : World) : Calls Tryz.prog 112 #[.string ⟨#[48, 97, 98, 99, 100]⟩, .int .u8 (x.toNat : Int)] w fun e w' => e = .returned (.int .i64 (Lib.indexByte ops5 x)) ∧ w = w' :=
  (c_index ⟨#[48, 97, 98, 99, 100]⟩ (x.toNat : Int) w).mono fun e w' h => by
    obtain ⟨h1, h2⟩ := h
    refine ⟨?_, h2.symm⟩
    rw [h1, Int.toNat_natCast]
    have : x.toNat.toUInt8 = x := by simp
    rw [this]; rfl
theorem ib_mks (x : UInt8) (w : World) : Calls Tryz.prog 112 #[.string ⟨#[116, 102, 33, 38, 124, 62]⟩, .int .u8 (x.toNat : Int)] w fun e w' => e = .returned (.int .i64 (Lib.indexByte mks6 x)) ∧ w = w' :=
  (c_index ⟨#[116, 102, 33, 38, 124, 62]⟩ (x.toNat : Int) w).mono fun e w' h => by
    obtain ⟨h1, h2⟩ := h
    refine ⟨?_, h2.symm⟩
    rw [h1, Int.toNat_natCast]
    have : x.toNat.toUInt8 = x := by simp
    rw [this]; rfl

/-- What lies in the result's block while a call runs. -/
def Res (w W : World) (n : Nat) : Prop := Below w.heap.size w W ∧ w.heap.size < W.heap.size ∧ (∀ j, j < n → W.cell? ⟨w.heap.size, j, none⟩ = some (.int .i64 0)) ∧ ∀ j, W.frozen? ⟨w.heap.size, j, none⟩ = false
theorem Res.on {w W W' : World} {n : Nat} (h : Res w W n) (hb : Below W.heap.size W W') : Res w W' n :=
  ⟨h.1.trans (hb.mono h.1.size), Nat.lt_of_lt_of_le h.2.1 hb.size, fun j hj => (hb.cell (p := ⟨w.heap.size, j, none⟩) h.2.1).trans (h.2.2.1 j hj), fun j => (hb.frozen (p := ⟨w.heap.size, j, none⟩) h.2.1).trans (h.2.2.2 j)⟩
theorem res3 (w : World) (t : TypeId) : Res w (w.alloc (.cells #[.int .i64 0, .int .i64 0, .int .i64 0] t)) 3 :=
  ⟨below_alloc _ _, by simp, fun j hj => by
    match j, hj with
    | 0, _ => simp
    | 1, _ => simp
    | 2, _ => simp, fun j => by simp⟩
theorem Res.some3 {w W : World} (h : Res w W 3) : ∀ j, j < 3 → ∃ u, W.cell? ⟨w.heap.size, j, none⟩ = some u := fun j hj => ⟨_, h.2.2.1 j hj⟩

set_option maxRecDepth 100000 in
set_option maxHeartbeats 2000000 in
theorem parseAtom_any (s : ByteArray) (w : World) (hg : Gl w) (hs : s.size ≤ 4000) :
    Calls Tryz.prog 114 #[.string s] w fun e w' => e = .returned (patV (patm s.data.toList)) ∧ Below w.heap.size w w' := by
  obtain ⟨sides, num, found, hcut⟩ : ∃ x y z, Lib.cut s.data.toList [60, 61] = (x, y, z) := ⟨_, _, _, rfl⟩
  have CC : Hid (∀ w, Gl w → Calls Tryz.prog 113 #[.string s, .string ⟨#[60, 61]⟩] w fun e w' => e = .returned (.tuple #[.string ⟨sides.toArray⟩, .string ⟨num.toArray⟩, .bool found]) ∧ Below w.heap.size w w') := fun w h => by
    have := cut_any s ⟨#[60, 61]⟩ w h hs
    have e : (⟨#[60, 61]⟩ : ByteArray).data.toList = [60, 61] := rfl
    rw [e, hcut] at this
    exact this
  have hg0 : Gl (w.alloc (.cells #[.int .i64 0, .int .i64 0, .int .i64 0] 134)) := hg.on (below_alloc _ _)
  have hr0 := res3 w 134
  have hnum : num.length ≤ 4000 := by
    have h1 : (Lib.cut s.data.toList [60, 61]).2.1.length ≤ s.data.toList.length := by
      unfold Lib.cut; split
      · simp
      · simp
    rw [hcut] at h1
    have h2 : s.data.toList.length = s.size := by simp
    exact Nat.le_trans h1 (by omega)
  cases found with
  | false =>
    have HP : Hid (patm s.data.toList = none) := by show _ = _; unfold patm; rw [hcut]; rfl
    clear hcut
    go_enter Tryz.func114, Tryz.ntmps114
    go_wp2_with (go_at_call 113; refine (CC.out _ hg0).mono ?_; rintro e w1 ⟨rfl, hb1⟩; have hr1 := hr0.on hb1; have y0 := hr1.2.2.1 0 (by omega); have y1 := hr1.2.2.1 1 (by omega); have y2 := hr1.2.2.1 2 (by omega); have f0 := hr1.2.2.2 0; have f1 := hr1.2.2.2 1; have f2 := hr1.2.2.2 2)
    go_quiet (fail)
    go_wp2_with fail
    have hr2 := hr1.on (below_drewN (Below.refl _ w1) nq)
    exact bodyPost_ret (results_c2 rfl rfl rfl (load_set3 (w1.drewN nq) _ _ _ _ hr2.some3)) rfl ⟨by rw [HP.out]; rfl, below_set3 _ _ _ hr2.1 (Nat.le_refl _)⟩
  | true =>
    by_cases hlen : sides.length = 3
    · match sides, hlen with
      | [a, b, c], _ =>
        obtain ⟨S, hSd, z0, z1, z2, z3, q0, q1, q2⟩ : ∃ S : ByteArray, S = ⟨#[a, b, c]⟩ ∧ ∃ (z0 : 0 < S.size) (z1 : 1 < S.size) (z2 : 2 < S.size), ((S.size : Int) != 3) = false ∧ S[0] = a ∧ S[1] = b ∧ S[2] = c :=
          ⟨⟨#[a, b, c]⟩, rfl, (show 0 < 3 by omega), (show 1 < 3 by omega), (show 2 < 3 by omega), rfl, rfl, rfl, rfl⟩
        have CC' : Hid (∀ w, Gl w → Calls Tryz.prog 113 #[.string s, .string ⟨#[60, 61]⟩] w fun e w' => e = .returned (.tuple #[.string S, .string ⟨num.toArray⟩, .bool true]) ∧ Below w.heap.size w w') := by rw [hSd]; exact CC
        clear CC
        have CC := CC'
        clear CC' hSd
        have HP0 : Hid (patm s.data.toList = if !(b == 45) || (a == c) then none else match bndX num with
            | none => none
            | some n => if Lib.indexByte ops5 a < 0 ∨ Lib.indexByte ops5 c < 0 then none else some (Lib.indexByte ops5 a, Lib.indexByte ops5 c, n)) := by
          show _ = _; unfold patm; rw [hcut]; rfl
        clear hcut
        have zi1 : (1 : Int) < (S.size : Int) := by omega
        have zi2 : (2 : Int) < (S.size : Int) := by omega
        cases hb45 : (b == 45) with
        | false =>
          have hx : ((S[1].toNat : Int) != 45) = true := by
            have e : ((S[1].toNat : Int) == 45) = (S[1] == 45) := u8_beq S[1] 45 (by omega)
            rw [bne, e, q1, hb45]; rfl
          have HP : Hid (patm s.data.toList = none) := by show _ = _; rw [HP0.out, hb45]; rfl
          clear q0 q1 q2 HP0
          go_enter Tryz.func114, Tryz.ntmps114
          go_wp2_with (go_at_call 113; refine (CC.out _ hg0).mono ?_; rintro e w1 ⟨rfl, hb1⟩; have hr1 := hr0.on hb1; have y0 := hr1.2.2.1 0 (by omega); have y1 := hr1.2.2.1 1 (by omega); have y2 := hr1.2.2.1 2 (by omega); have f0 := hr1.2.2.2 0; have f1 := hr1.2.2.2 1; have f2 := hr1.2.2.2 2)
          go_quiet (fail)
          go_wp2_with fail
          have hr2 := hr1.on (below_drewN (Below.refl _ w1) nq)
          exact bodyPost_ret (results_c2 rfl rfl rfl (load_set3 (w1.drewN nq) _ _ _ _ hr2.some3)) rfl ⟨by rw [HP.out]; rfl, below_set3 _ _ _ hr2.1 (Nat.le_refl _)⟩
        | true =>
          have hx : ((S[1].toNat : Int) != 45) = false := by
            have e : ((S[1].toNat : Int) == 45) = (S[1] == 45) := u8_beq S[1] 45 (by omega)
            rw [bne, e, q1, hb45]; rfl
          have hxe : ((S[0].toNat : Int) == (S[2].toNat : Int)) = (a == c) := by
            rw [q0, q2, Bool.eq_iff_iff, beq_iff_eq, beq_iff_eq]
            constructor
            · intro h; exact UInt8.toNat_inj.1 (by omega)
            · intro h; rw [h]
          cases hac : (a == c) with
          | true =>
            rw [hac] at hxe
            have HP : Hid (patm s.data.toList = none) := by show _ = _; rw [HP0.out, hb45, hac]; rfl
            clear q0 q1 q2 HP0
            go_enter Tryz.func114, Tryz.ntmps114
            go_wp2_with (go_at_call 113; refine (CC.out _ hg0).mono ?_; rintro e w1 ⟨rfl, hb1⟩; have hr1 := hr0.on hb1; have y0 := hr1.2.2.1 0 (by omega); have y1 := hr1.2.2.1 1 (by omega); have y2 := hr1.2.2.1 2 (by omega); have f0 := hr1.2.2.2 0; have f1 := hr1.2.2.2 1; have f2 := hr1.2.2.2 2)
            go_quiet (fail)
            go_wp2_with fail
            have hr2 := hr1.on (below_drewN (Below.refl _ w1) nq)
            exact bodyPost_ret (results_c2 rfl rfl rfl (load_set3 (w1.drewN nq) _ _ _ _ hr2.some3)) rfl ⟨by rw [HP.out]; rfl, below_set3 _ _ _ hr2.1 (Nat.le_refl _)⟩
          | false =>
            rw [hac] at hxe
            have HP1 : Hid (patm s.data.toList = match bndX num with
              | none => none
              | some n => if Lib.indexByte ops5 a < 0 ∨ Lib.indexByte ops5 c < 0 then none else some (Lib.indexByte ops5 a, Lib.indexByte ops5 c, n)) := by show _ = _; rw [HP0.out, hb45, hac]; rfl
            have CL : Hid (∀ w, Calls Tryz.prog 112 #[.string ⟨#[48, 97, 98, 99, 100]⟩, .int .u8 (S[0].toNat : Int)] w fun e w' => e = .returned (.int .i64 (Lib.indexByte ops5 a)) ∧ w = w') := fun w => by rw [← q0]; exact ib_ops S[0] w
            have CR : Hid (∀ w, Calls Tryz.prog 112 #[.string ⟨#[48, 97, 98, 99, 100]⟩, .int .u8 (S[2].toNat : Int)] w fun e w' => e = .returned (.int .i64 (Lib.indexByte ops5 c)) ∧ w = w') := fun w => by rw [← q2]; exact ib_ops S[2] w
            have CB : Hid (∀ w, Gl w → Calls Tryz.prog 166 #[.string ⟨num.toArray⟩] w fun e w' => e = .returned (.tuple #[.int .i64 ((bndX num).getD 0), .bool (bndX num).isSome]) ∧ Below w.heap.size w w') := fun w h => parseBound_any ⟨num.toArray⟩ w h (by show num.toArray.size ≤ 4000; simpa using hnum)
            clear HP0
            have HQ0 : Hid (Lib.indexByte ops5 S[0] = Lib.indexByte ops5 a) := by show _ = _; rw [q0]
            have HQ2 : Hid (Lib.indexByte ops5 S[2] = Lib.indexByte ops5 c) := by show _ = _; rw [q2]
            have CIB : Hid (∀ (x : UInt8) w, Calls Tryz.prog 112 #[.string ⟨#[48, 97, 98, 99, 100]⟩, .int .u8 (x.toNat : Int)] w fun e w' => e = .returned (.int .i64 (Lib.indexByte ops5 x)) ∧ w = w') := ib_ops
            rw [← HQ0.out, ← HQ2.out] at HP1
            generalize hib : Lib.indexByte ops5 = IB at *
            clear hib
            generalize (⟨num.toArray⟩ : ByteArray) = NN at *
            clear q0 q1 q2 hb45 hac CL CR HQ0 HQ2
            cases hB : bndX num with
            | none =>
              rw [hB] at HP1 CB
              have HP : Hid (patm s.data.toList = none) := HP1
              have CB' : Hid (∀ w, Gl w → Calls Tryz.prog 166 #[.string NN] w fun e w' => e = .returned (.tuple #[.int .i64 0, .bool false]) ∧ Below w.heap.size w w') := CB
              clear CB HP1
              go_enter Tryz.func114, Tryz.ntmps114
              go_wp2_with (first | (go_at_call 113; refine (CC.out _ hg0).mono ?_; rintro e w1 ⟨rfl, hb1⟩; have hr1 := hr0.on hb1))
              go_quiet (fail)
              have hb1' : Below (w.alloc (.cells #[.int .i64 0, .int .i64 0, .int .i64 0] 134)).heap.size (w.alloc (.cells #[.int .i64 0, .int .i64 0, .int .i64 0] 134)) (w1.drewN nq) := below_drewN hb1 nq
              have hr2 := hr0.on hb1'
              have hg2 := hg0.on hb1'
              clear hr1 hb1 hb1'
              generalize w1.drewN nq = W at *
              go_wp2_with (first
                | (go_at_call 112; refine (CIB.out _ _).mono ?_; rintro e w' ⟨rfl, rfl⟩)
                | (go_at_call 166; refine (CB'.out _ hg2).mono ?_; rintro e w3 ⟨rfl, hb3⟩; have hr3 := hr2.on hb3; have y0 := hr3.2.2.1 0 (by omega); have y1 := hr3.2.2.1 1 (by omega); have y2 := hr3.2.2.1 2 (by omega); have f0 := hr3.2.2.2 0; have f1 := hr3.2.2.2 1; have f2 := hr3.2.2.2 2))
              all_goals exact bodyPost_ret (results_c2 rfl rfl rfl (load_set3 w3 _ _ _ _ hr3.some3)) rfl ⟨by rw [HP.out]; rfl, below_set3 _ _ _ hr3.1 (Nat.le_refl _)⟩
            | some n =>
              rw [hB] at HP1 CB
              have HP : Hid (patm s.data.toList = if IB S[0] < 0 ∨ IB S[2] < 0 then none else some (IB S[0], IB S[2], n)) := HP1
              have CB' : Hid (∀ w, Gl w → Calls Tryz.prog 166 #[.string NN] w fun e w' => e = .returned (.tuple #[.int .i64 n, .bool true]) ∧ Below w.heap.size w w') := CB
              clear CB HP1
              by_cases hL : IB S[0] < 0
              · have HP2 : Hid (patm s.data.toList = none) := by show _ = _; rw [HP.out, if_pos (Or.inl hL)]
                go_enter Tryz.func114, Tryz.ntmps114
                go_wp2_with (first | (go_at_call 113; refine (CC.out _ hg0).mono ?_; rintro e w1 ⟨rfl, hb1⟩; have hr1 := hr0.on hb1))
                go_quiet (fail)
                have hb1' : Below (w.alloc (.cells #[.int .i64 0, .int .i64 0, .int .i64 0] 134)).heap.size (w.alloc (.cells #[.int .i64 0, .int .i64 0, .int .i64 0] 134)) (w1.drewN nq) := below_drewN hb1 nq
                have hr2 := hr0.on hb1'
                have hg2 := hg0.on hb1'
                clear hr1 hb1 hb1'
                generalize w1.drewN nq = W at *
                go_wp2_with (first
                  | (go_at_call 112; refine (CIB.out _ _).mono ?_; rintro e w' ⟨rfl, rfl⟩)
                  | (go_at_call 166; refine (CB'.out _ hg2).mono ?_; rintro e w3 ⟨rfl, hb3⟩; have hr3 := hr2.on hb3; have y0 := hr3.2.2.1 0 (by omega); have y1 := hr3.2.2.1 1 (by omega); have y2 := hr3.2.2.1 2 (by omega); have f0 := hr3.2.2.2 0; have f1 := hr3.2.2.2 1; have f2 := hr3.2.2.2 2))
                exact bodyPost_ret (results_c2 rfl rfl rfl (load_set3 w3 _ _ _ _ hr3.some3)) rfl ⟨by rw [HP2.out]; rfl, below_set3 _ _ _ hr3.1 (Nat.le_refl _)⟩
              · by_cases hR : IB S[2] < 0
                · have HP2 : Hid (patm s.data.toList = none) := by show _ = _; rw [HP.out, if_pos (Or.inr hR)]
                  go_enter Tryz.func114, Tryz.ntmps114
                  go_wp2_with (first | (go_at_call 113; refine (CC.out _ hg0).mono ?_; rintro e w1 ⟨rfl, hb1⟩; have hr1 := hr0.on hb1))
                  go_quiet (fail)
                  have hb1' : Below (w.alloc (.cells #[.int .i64 0, .int .i64 0, .int .i64 0] 134)).heap.size (w.alloc (.cells #[.int .i64 0, .int .i64 0, .int .i64 0] 134)) (w1.drewN nq) := below_drewN hb1 nq
                  have hr2 := hr0.on hb1'
                  have hg2 := hg0.on hb1'
                  clear hr1 hb1 hb1'
                  generalize w1.drewN nq = W at *
                  go_wp2_with (first
                    | (go_at_call 112; refine (CIB.out _ _).mono ?_; rintro e w' ⟨rfl, rfl⟩)
                    | (go_at_call 166; refine (CB'.out _ hg2).mono ?_; rintro e w3 ⟨rfl, hb3⟩; have hr3 := hr2.on hb3; have y0 := hr3.2.2.1 0 (by omega); have y1 := hr3.2.2.1 1 (by omega); have y2 := hr3.2.2.1 2 (by omega); have f0 := hr3.2.2.2 0; have f1 := hr3.2.2.2 1; have f2 := hr3.2.2.2 2))
                  exact bodyPost_ret (results_c2 rfl rfl rfl (load_set3 w3 _ _ _ _ hr3.some3)) rfl ⟨by rw [HP2.out]; rfl, below_set3 _ _ _ hr3.1 (Nat.le_refl _)⟩
                · have HP2 : Hid (patm s.data.toList = some (IB S[0], IB S[2], n)) := by show _ = _; rw [HP.out, if_neg (by omega)]
                  go_enter Tryz.func114, Tryz.ntmps114
                  go_wp2_with (first | (go_at_call 113; refine (CC.out _ hg0).mono ?_; rintro e w1 ⟨rfl, hb1⟩; have hr1 := hr0.on hb1))
                  go_quiet (fail)
                  have hb1' : Below (w.alloc (.cells #[.int .i64 0, .int .i64 0, .int .i64 0] 134)).heap.size (w.alloc (.cells #[.int .i64 0, .int .i64 0, .int .i64 0] 134)) (w1.drewN nq) := below_drewN hb1 nq
                  have hr2 := hr0.on hb1'
                  have hg2 := hg0.on hb1'
                  clear hr1 hb1 hb1'
                  generalize w1.drewN nq = W at *
                  go_wp2_with (first
                    | (go_at_call 112; refine (CIB.out _ _).mono ?_; rintro e w' ⟨rfl, rfl⟩)
                    | (go_at_call 166; refine (CB'.out _ hg2).mono ?_; rintro e w3 ⟨rfl, hb3⟩; have hr3 := hr2.on hb3; have y0 := hr3.2.2.1 0 (by omega); have y1 := hr3.2.2.1 1 (by omega); have y2 := hr3.2.2.1 2 (by omega); have f0 := hr3.2.2.2 0; have f1 := hr3.2.2.2 1; have f2 := hr3.2.2.2 2))
                  exact bodyPost_ret (results_c2 rfl rfl rfl (load_set3 w3 _ _ _ _ hr3.some3)) rfl ⟨by rw [HP2.out]; rfl, below_set3 _ _ _ hr3.1 (Nat.le_refl _)⟩
    · have HP : Hid (patm s.data.toList = none) := by
        show _ = _; unfold patm; rw [hcut]
        have : (sides.length != 3) = true := by simpa using hlen
        simp [this]
      have hz : ((⟨sides.toArray⟩ : ByteArray).size : Int) ≠ 3 := by
        show ((sides.toArray.size : Nat) : Int) ≠ 3
        simp; omega
      generalize (⟨sides.toArray⟩ : ByteArray) = S at *
      have hz1 : ((S.size : Int) != 3) = true := by simpa using hz
      have hz2 : ((S.size : Int) == 3) = false := by simpa using hz
      clear hcut hlen
      go_enter Tryz.func114, Tryz.ntmps114
      go_wp2_with (go_at_call 113; refine (CC.out _ hg0).mono ?_; rintro e w1 ⟨rfl, hb1⟩; have hr1 := hr0.on hb1; have y0 := hr1.2.2.1 0 (by omega); have y1 := hr1.2.2.1 1 (by omega); have y2 := hr1.2.2.1 2 (by omega); have f0 := hr1.2.2.2 0; have f1 := hr1.2.2.2 1; have f2 := hr1.2.2.2 2)
      go_quiet (fail)
      go_wp2_with fail
      have hr2 := hr1.on (below_drewN (Below.refl _ w1) nq)
      exact bodyPost_ret (results_c2 rfl rfl rfl (load_set3 (w1.drewN nq) _ _ _ _ hr2.some3)) rfl ⟨by rw [HP.out]; rfl, below_set3 _ _ _ hr2.1 (Nat.le_refl _)⟩
end Go.Proofs.YtkinoehmcfhgbaaGreatDoor.Vl
set_option linter.unusedVariables false
set_option linter.unusedSimpArgs false
namespace Go.Proofs.YtkinoehmcfhgbaaGreatDoor.Vl
open Go.RowKit

theorem Tryz.sizeVSym : (Tryz.prog.info? 136).map (·.size) = some 4 := by kernel_rfl
def vset4 (X : World) (B : Nat) (c0 c1 c2 c3 : Value) : World := (((X.setCell ⟨B, 0, none⟩ c0).setCell ⟨B, 1, none⟩ c1).setCell ⟨B, 2, none⟩ c2).setCell ⟨B, 3, none⟩ c3
theorem load4 (X : World) (B : Nat) (c0 c1 c2 c3 : Value) (h0 : X.cell? ⟨B, 0, none⟩ = some c0) (h1 : X.cell? ⟨B, 1, none⟩ = some c1) (h2 : X.cell? ⟨B, 2, none⟩ = some c2) (h3 : X.cell? ⟨B, 3, none⟩ = some c3) : (loadVar 136 ⟨B, 0, none⟩).run Tryz.prog X = .ok (.agg #[c0, c1, c2, c3]) X :=
  run_loadVar_mid _ _ 0 136 [c0, c1, c2, c3] _ (by
    intro j v hv
    match j, hv with
    | 0, hv => cases hv; exact h0
    | 1, hv => cases hv; exact h1
    | 2, hv => cases hv; exact h2
    | 3, hv => cases hv; exact h3) Tryz.underlying136 rfl Tryz.sizeVSym
theorem load_set4 (X : World) (B : Nat) (c0 c1 c2 c3 : Value) (h : ∀ j, j < 4 → ∃ u, X.cell? ⟨B, j, none⟩ = some u) : (loadVar 136 ⟨B, 0, none⟩).run Tryz.prog (vset4 X B c0 c1 c2 c3) = .ok (.agg #[c0, c1, c2, c3]) (vset4 X B c0 c1 c2 c3) := by
  unfold vset4
  refine load4 _ B c0 c1 c2 c3 ?_ ?_ ?_ ?_
  · rw [set_other _ _ _ _ _ (by omega), set_other _ _ _ _ _ (by omega), set_other _ _ _ _ _ (by omega)]; exact set_same _ _ _ (h 0 (by omega))
  · rw [set_other _ _ _ _ _ (by omega), set_other _ _ _ _ _ (by omega)]; exact set_same _ _ _ (by rw [set_other _ _ _ _ _ (by omega)]; exact h 1 (by omega))
  · rw [set_other _ _ _ _ _ (by omega)]; exact set_same _ _ _ (by rw [set_other _ _ _ _ _ (by omega), set_other _ _ _ _ _ (by omega)]; exact h 2 (by omega))
  · exact set_same _ _ _ (by rw [set_other _ _ _ _ _ (by omega), set_other _ _ _ _ _ (by omega), set_other _ _ _ _ _ (by omega)]; exact h 3 (by omega))
theorem below_set4 {a X : World} {n B : Nat} (c0 c1 c2 c3 : Value) (h : Below n a X) (hB : n ≤ B) : Below n a (vset4 X B c0 c1 c2 c3) :=
  (((h.setCell (p := ⟨B, 0, none⟩) hB c0).setCell (p := ⟨B, 1, none⟩) hB c1).setCell (p := ⟨B, 2, none⟩) hB c2).setCell (p := ⟨B, 3, none⟩) hB c3
theorem res4 (w : World) (t : TypeId) : Res w (w.alloc (.cells #[.int .i64 0, .int .i64 0, .int .i64 0, .int .i64 0] t)) 4 :=
  ⟨below_alloc _ _, by simp, fun j hj => by
    match j, hj with
    | 0, _ => simp
    | 1, _ => simp
    | 2, _ => simp
    | 3, _ => simp, fun j => by simp⟩
theorem Res.some4 {w W : World} (h : Res w W 4) : ∀ j, j < 4 → ∃ u, W.cell? ⟨w.heap.size, j, none⟩ = some u := fun j hj => ⟨_, h.2.2.1 j hj⟩
theorem mk_lew (c : Int) : -1 ≤ mk c ∧ mk c ≤ 5 := by
  unfold mk; repeat' split
  all_goals omega
def symV (y : Sym) : Value := .agg #[.int .i64 y.1, .int .i64 y.2.1, .int .i64 y.2.2.1, .int .i64 y.2.2.2]
def csymV : Option (Sym × List UInt8) → Value
  | none => .tuple #[symV (0, 0, 0, 0), .string ⟨#[]⟩, .bool false]
  | some (y, r) => .tuple #[symV y, .string ⟨r.toArray⟩, .bool true]

set_option maxRecDepth 100000 in
set_option maxHeartbeats 2000000 in
theorem cutSymbol_any (s : ByteArray) (w : World) (hg : Gl w) (hs : s.size ≤ 4000) (h0 : 0 < s.size) :
    Calls Tryz.prog 75 #[.string s] w fun e w' => e = .returned (csymV (csym s.data.toList)) ∧ Below w.heap.size w w' := by
  have hd : s.data.toList = s[0] :: rest s 1 := rest_cons s 0 h0
  have hg0 : Gl (w.alloc (.cells #[.int .i64 0, .int .i64 0, .int .i64 0, .int .i64 0] 136)) := hg.on (below_alloc _ _)
  have hr0 := res4 w 136
  have HC : Hid (csym s.data.toList = if (0 : Int) ≤ Lib.indexByte mks6 s[0] then some ((Lib.indexByte mks6 s[0], 0, 0, 0), rest s 1) else
    if (Lib.cut s.data.toList [46]).2.2 = true then (patm (Lib.cut s.data.toList [46]).1).map fun a => ((6, a), (Lib.cut s.data.toList [46]).2.1) else none) := by
    show _ = _; rw [hd]; rfl
  have CI : Hid (∀ w, Calls Tryz.prog 112 #[.string ⟨#[116, 102, 33, 38, 124, 62]⟩, .int .u8 (s[0].toNat : Int)] w fun e w' => e = .returned (.int .i64 (Lib.indexByte mks6 s[0])) ∧ w = w') := ib_mks s[0]
  have hir : (-1 : Int) ≤ Lib.indexByte mks6 s[0] ∧ Lib.indexByte mks6 s[0] ≤ 5 := by rw [mks_mk]; exact mk_lew _
  generalize Lib.indexByte mks6 s[0] = I at *
  clear hd
  by_cases hI : 0 ≤ I
  · have HC2 : Hid (csym s.data.toList = some ((I, 0, 0, 0), rest s 1)) := by show _ = _; rw [HC.out, if_pos hI]
    have HX : Hid ((⟨(rest s 1).toArray⟩ : ByteArray) = s.extract 1 s.size) := by
      show _ = _; rw [extract_str]
      congr 2
      rw [List.take_of_length_le (by rw [rest_len]; omega)]
    clear HC
    go_enter Tryz.func75, Tryz.ntmps75
    go_wp2_with (go_at_call 112; refine (CI.out _).mono ?_; rintro e w' ⟨rfl, rfl⟩)
    go_region
    go_wp2_with fail
    refine bodyPost_ret (results_c3 rfl rfl rfl rfl (load4 _ _ (.int .i64 I) (.int .i64 0) (.int .i64 0) (.int .i64 0) (by simp) (by simp) (by simp) (by simp))) rfl ⟨?_, (below_alloc _ _).drew⟩
    rw [HC2.out]
    simp only [csymV]
    rw [HX.out]; rfl
  · obtain ⟨X1, X2, E, hcut⟩ : ∃ x y z, Lib.cut s.data.toList [46] = (x, y, z) := ⟨_, _, _, rfl⟩
    have hx1 : X1.length ≤ 4000 := by
      have h1 : (Lib.cut s.data.toList [46]).1.length ≤ s.data.toList.length := by
        unfold Lib.cut; split
        · simp; omega
        · simp
      rw [hcut] at h1
      have h2 : s.data.toList.length = s.size := by simp
      exact Nat.le_trans h1 (by omega)
    have CC : Hid (∀ w, Gl w → Calls Tryz.prog 113 #[.string s, .string ⟨#[46]⟩] w fun e w' => e = .returned (.tuple #[.string ⟨X1.toArray⟩, .string ⟨X2.toArray⟩, .bool E]) ∧ Below w.heap.size w w') := fun w h => by
      have := cut_any s ⟨#[46]⟩ w h hs
      have e : (⟨#[46]⟩ : ByteArray).data.toList = [46] := rfl
      rw [e, hcut] at this
      exact this
    have CP0 : Hid (∀ w, Gl w → Calls Tryz.prog 114 #[.string ⟨X1.toArray⟩] w fun e w' => e = .returned (patV (patm X1)) ∧ Below w.heap.size w w') := fun w h => parseAtom_any ⟨X1.toArray⟩ w h (by show X1.toArray.size ≤ 4000; simpa using hx1)
    have HC2 : Hid (csym s.data.toList = if E = true then (patm X1).map fun a => ((6, a), X2) else none) := by show _ = _; rw [HC.out, if_neg hI, hcut]
    clear HC hcut
    generalize (⟨X1.toArray⟩ : ByteArray) = S1 at *
    cases hp : patm X1 with
    | none =>
      have HN : Hid (csym s.data.toList = none) := by show _ = _; rw [HC2.out, hp]; split <;> rfl
      rw [hp] at CP0
      have CP : Hid (∀ w, Gl w → Calls Tryz.prog 114 #[.string S1] w fun e w' => e = .returned (.tuple #[.agg #[.int .i64 0, .int .i64 0, .int .i64 0], .bool false]) ∧ Below w.heap.size w w') := CP0
      clear CP0 HC2 hp
      generalize (⟨X2.toArray⟩ : ByteArray) = S2 at *
      go_enter Tryz.func75, Tryz.ntmps75
      go_wp2_with (first
        | (go_at_call 112; refine (CI.out _).mono ?_; rintro e w' ⟨rfl, rfl⟩)
        | (go_at_call 113; refine (CC.out _ hg0).mono ?_; rintro e w1 ⟨rfl, hb1⟩; have hr1 := hr0.on hb1; have hg1 := hg0.on hb1)
        | (go_at_call 114; refine (CP.out _ hg1).mono ?_; rintro e w2 ⟨rfl, hb2⟩; have hr2 := hr1.on hb2; have hr3 := hr2.on (below_alloc w2 (.cells #[.int .i64 0, .int .i64 0, .int .i64 0] 134)); have y0 := hr3.2.2.1 0 (by omega); have y1 := hr3.2.2.1 1 (by omega); have y2 := hr3.2.2.1 2 (by omega); have y3 := hr3.2.2.1 3 (by omega); have f0 := hr3.2.2.2 0; have f1 := hr3.2.2.2 1; have f2 := hr3.2.2.2 2; have f3 := hr3.2.2.2 3; have hne : ¬ w2.heap.size = w.heap.size := (by have := hr2.2.1; omega); have hne' : ¬ w.heap.size = w2.heap.size := (by have := hr2.2.1; omega)))
      all_goals (exact bodyPost_ret (results_c3 rfl rfl rfl rfl (load_set4 _ _ _ _ _ _ hr3.some4)) rfl ⟨by rw [HN.out]; rfl, below_set4 _ _ _ _ hr3.1 (Nat.le_refl _)⟩)
    | some q =>
      obtain ⟨a1, a2, a3⟩ := q
      rw [hp] at CP0
      have CP : Hid (∀ w, Gl w → Calls Tryz.prog 114 #[.string S1] w fun e w' => e = .returned (.tuple #[.agg #[.int .i64 a1, .int .i64 a2, .int .i64 a3], .bool true]) ∧ Below w.heap.size w w') := CP0
      cases E with
      | false =>
        have HN : Hid (csym s.data.toList = none) := by show _ = _; rw [HC2.out]; rfl
        clear CP0 HC2 hp
        generalize (⟨X2.toArray⟩ : ByteArray) = S2 at *
        go_enter Tryz.func75, Tryz.ntmps75
        go_wp2_with (first
          | (go_at_call 112; refine (CI.out _).mono ?_; rintro e w' ⟨rfl, rfl⟩)
          | (go_at_call 113; refine (CC.out _ hg0).mono ?_; rintro e w1 ⟨rfl, hb1⟩; have hr1 := hr0.on hb1; have hg1 := hg0.on hb1)
          | (go_at_call 114; refine (CP.out _ hg1).mono ?_; rintro e w2 ⟨rfl, hb2⟩; have hr2 := hr1.on hb2; have hr3 := hr2.on (below_alloc w2 (.cells #[.int .i64 a1, .int .i64 a2, .int .i64 a3] 134)); have y0 := hr3.2.2.1 0 (by omega); have y1 := hr3.2.2.1 1 (by omega); have y2 := hr3.2.2.1 2 (by omega); have y3 := hr3.2.2.1 3 (by omega); have f0 := hr3.2.2.2 0; have f1 := hr3.2.2.2 1; have f2 := hr3.2.2.2 2; have f3 := hr3.2.2.2 3; have hne : ¬ w2.heap.size = w.heap.size := (by have := hr2.2.1; omega); have hne' : ¬ w.heap.size = w2.heap.size := (by have := hr2.2.1; omega)))
        exact bodyPost_ret (results_c3 rfl rfl rfl rfl (load_set4 _ _ _ _ _ _ hr3.some4)) rfl ⟨by rw [HN.out]; rfl, below_set4 _ _ _ _ hr3.1 (Nat.le_refl _)⟩
      | true =>
        have HN : Hid (csym s.data.toList = some ((6, a1, a2, a3), X2)) := by show _ = _; rw [HC2.out, hp]; rfl
        have HS2 : Hid (csymV (some ((6, a1, a2, a3), X2)) = .tuple #[.agg #[.int .i64 6, .int .i64 a1, .int .i64 a2, .int .i64 a3], .string ⟨X2.toArray⟩, .bool true]) := rfl
        clear CP0 HC2 hp
        generalize (⟨X2.toArray⟩ : ByteArray) = S2 at *
        go_enter Tryz.func75, Tryz.ntmps75
        go_wp2_with (first
          | (go_at_call 112; refine (CI.out _).mono ?_; rintro e w' ⟨rfl, rfl⟩)
          | (go_at_call 113; refine (CC.out _ hg0).mono ?_; rintro e w1 ⟨rfl, hb1⟩; have hr1 := hr0.on hb1; have hg1 := hg0.on hb1)
          | (go_at_call 114; refine (CP.out _ hg1).mono ?_; rintro e w2 ⟨rfl, hb2⟩; have hr2 := hr1.on hb2; have hr3 := hr2.on (below_alloc w2 (.cells #[.int .i64 a1, .int .i64 a2, .int .i64 a3] 134)); have y0 := hr3.2.2.1 0 (by omega); have y1 := hr3.2.2.1 1 (by omega); have y2 := hr3.2.2.1 2 (by omega); have y3 := hr3.2.2.1 3 (by omega); have f0 := hr3.2.2.2 0; have f1 := hr3.2.2.2 1; have f2 := hr3.2.2.2 2; have f3 := hr3.2.2.2 3; have hne : ¬ w2.heap.size = w.heap.size := (by have := hr2.2.1; omega); have hne' : ¬ w.heap.size = w2.heap.size := (by have := hr2.2.1; omega)))
        exact bodyPost_ret (results_c3 rfl rfl rfl rfl (load_set4 _ _ _ _ _ _ hr3.some4)) rfl ⟨by rw [HN.out, HS2.out]; rfl, below_set4 _ _ _ _ hr3.1 (Nat.le_refl _)⟩
end Go.Proofs.YtkinoehmcfhgbaaGreatDoor.Vl
