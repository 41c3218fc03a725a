/-
  The walks of the document's atomAt and number.
-/
import Derived.Test.YtkinoehmcfhgbaaDoorV1
import Derived.Deep.MidRow
set_option linter.unusedVariables false
set_option linter.unusedSimpArgs false
namespace Go.Proofs.YtkinoehmcfhgbaaDoor.Vl
open Go.RowKit

def atV (a : Atm) : Value := .agg #[.int .i64 a.1, .int .i64 a.2.1, .int .i64 a.2.2]
theorem results_c3 {fn : Func} {tmps : Array Value} {w : World} {k i j : Nat} {t : TypeId} {a : Addr} {v x y : Value} (hf : fn.results = #[.cell k t, .tmp i, .tmp j]) (ht : tmps.getD k undef = .pointer (some a)) (hx : tmps.getD i undef = x) (hy : tmps.getD j undef = y) (hl : (loadVar t a).run Tryd.prog w = .ok v w) : (results fn tmps).run Tryd.prog w = .ok (.tuple #[v, x, y]) w := by
  have ht' : (tmps[k]?.getD undef) = .pointer (some a) := by simpa using ht
  have hx' : (tmps[i]?.getD undef) = x := by simpa using hx
  have hy' : (tmps[j]?.getD undef) = y := by simpa using hy
  simp [results, hf, ht', hx', hy', hl, asAddr]
theorem Tryd.infoAtm : (Tryd.prog.info? 65).map (fun i => (i.zero, i.size, i.bytes)) = some (some (.agg #[.int .i64 0, .int .i64 0, .int .i64 0]), 3, 24) := by kernel_rfl
theorem Tryd.sizeAtm : (Tryd.prog.info? 65).map (·.size) = some 3 := by kernel_rfl
theorem range_new (w : World) (cs : List Value) (t : TypeId) : (w.alloc (.cells cs.toArray t)).rangeAt w.heap.size 0 cs := by
  intro j v hv
  rw [World.cell?_alloc_at _ _ _ _ rfl]; simpa using hv
theorem atm_load (w : World) (x y z : Int) : (loadVar 65 ⟨w.heap.size, 0, none⟩).run Tryd.prog (w.alloc (.cells #[.int .i64 x, .int .i64 y, .int .i64 z] 65)) = .ok (atV (x, y, z)) (w.alloc (.cells #[.int .i64 x, .int .i64 y, .int .i64 z] 65)) :=
  run_loadVar_mid _ _ 0 65 [.int .i64 x, .int .i64 y, .int .i64 z] _ (range_new w [.int .i64 x, .int .i64 y, .int .i64 z] _) Tryd.underlying65 rfl Tryd.sizeAtm
theorem below_alloc (w : World) (o : Obj) : Below w.heap.size w (w.alloc o) := (Below.refl _ w).alloc (Nat.le_refl _) o

set_option maxRecDepth 100000 in
set_option maxHeartbeats 1000000 in
theorem atomAt_any (s : ByteArray) (k : Nat) (w : World) (hs : s.size ≤ 4000) (hk : k ≤ s.size) :
    Calls Tryd.prog 26 #[.string s, .int .i64 (k : Int)] w fun e w' => e = .returned (atmV k (atm (rest s k))) ∧ Below w.heap.size w w' := by
  by_cases hlt : k + 5 < s.size
  · have hl : ¬ (s.size : Int) ≤ (k : Int) + 5 := by omega
    have hl1 : (k : Int) < (s.size : Int) := by omega
    have hl2 : ((k : Int) + 1) < (s.size : Int) := by omega
    have hl3 : ((k : Int) + 2) < (s.size : Int) := by omega
    have hl4 : ((k : Int) + 5) ≤ (s.size : Int) := by omega
    have H : Hid _ := atm_long s k hlt
    cases hx1 : ((s[k + 1].toNat : Int) == 45)
    case false =>
      have hx1' : ((s[k + 1].toNat : Int) != 45) = true := by rw [bne, hx1]; rfl
      have HN : Hid (atm (rest s k) = none) := by show _ = _; rw [H.out, hx1]; rfl
      go_enter Tryd.func26, Tryd.ntmps26
      go_wp2
      refine bodyPost_ret (results_c3 rfl rfl rfl rfl (atm_load w 0 0 0)) rfl ⟨?_, below_alloc _ _⟩
      rw [HN.out]; rfl
    case true =>
      have hx1' : ((s[k + 1].toNat : Int) != 45) = false := by rw [bne, hx1]; rfl
      cases hx2 : ((s.extract (k + 3) (k + 5)).toList == [60, 61])
      case false =>
        have hx2' : ((s.extract (k + 3) (k + 5)).toList != [60, 61]) = true := by rw [bne, hx2]; rfl
        have HN : Hid (atm (rest s k) = none) := by show _ = _; rw [H.out, hx1, hx2]; rfl
        go_enter Tryd.func26, Tryd.ntmps26
        go_wp2
        refine bodyPost_ret (results_c3 rfl rfl rfl rfl (atm_load w 0 0 0)) rfl ⟨?_, below_alloc _ _⟩
        rw [HN.out]; rfl
      case true =>
        have hx2' : ((s.extract (k + 3) (k + 5)).toList != [60, 61]) = false := by rw [bne, hx2]; rfl
        have C3 : Hid (∀ w, Calls Tryd.prog 39 #[.string s, .int .i64 ((k : Int) + 5)] w fun e w' => e = .returned (bndV (k + 5) (bnd (rest s (k + 5)))) ∧ w = w') := fun w => bound_any s (k + 5) w hs (by omega)
        cases hb : bnd (rest s (k + 5)) with
        | none =>
          have HN : Hid (atm (rest s k) = none) := by show _ = _; rw [H.out, hx1, hx2, hb]; rfl
          rw [hb] at C3
          have C3' : Hid (∀ w, Calls Tryd.prog 39 #[.string s, .int .i64 ((k : Int) + 5)] w fun e w' => e = .returned (.tuple #[.int .i64 0, .int .i64 0, .bool false]) ∧ w = w') := C3
          clear H C3
          go_enter Tryd.func26, Tryd.ntmps26
          go_wp2_with (first | (go_at_call 38; refine (place_any _ _).mono ?_; rintro e w' ⟨rfl, rfl⟩) | (go_at_call 39; refine (C3'.out _).mono ?_; rintro e w' ⟨rfl, rfl⟩))
          all_goals (refine bodyPost_ret (results_c3 rfl rfl rfl rfl (atm_load w 0 0 0)) rfl ⟨?_, below_alloc _ _⟩; rw [HN.out]; rfl)
        | some q =>
          obtain ⟨n, j⟩ := q
          obtain ⟨hn1, hn2, hj⟩ := bnd_range hb
          have hj' : (j : Int) ≤ 4000 := by rw [rest_len] at hj; omega
          rw [hb] at C3
          have C3' : Hid (∀ w, Calls Tryd.prog 39 #[.string s, .int .i64 ((k : Int) + 5)] w fun e w' => e = .returned (.tuple #[.int .i64 n, .int .i64 ((k + 5 + j : Nat) : Int), .bool true]) ∧ w = w') := C3
          by_cases hin : k + 5 + j < s.size
          · have hin' : ¬ (s.size : Int) ≤ ((k + 5 + j : Nat) : Int) := by omega
            have H2 : Hid (atm (rest s k) = if decide (plc s[k].toNat < 0) || decide (plc s[k + 2].toNat < 0) || (plc s[k].toNat == plc s[k + 2].toNat) || !((s[k + 5 + j].toNat : Int) == 46) then none else some ((plc s[k].toNat, plc s[k + 2].toNat, n), 6 + j)) := by
              show _ = _; rw [H.out, hx1, hx2, hb]; simp only [point_at]; rw [dif_pos hin]; rfl
            clear H C3 hb
            generalize hm : k + 5 + j = m at *
            have HM : Hid (k + 5 + j = m) := hm
            have hm4 : (m : Int) < 4000 := by omega
            clear hm
            cases hD : (decide (plc s[k].toNat < 0) || decide (plc s[k + 2].toNat < 0) || (plc s[k].toNat == plc s[k + 2].toNat) || !((s[m].toNat : Int) == 46)) with
            | false =>
              have HS : Hid (atm (rest s k) = some ((plc s[k].toNat, plc s[k + 2].toNat, n), 6 + j)) := by show _ = _; rw [H2.out, hD]; rfl
              clear H2
              simp only [Bool.or_eq_false_iff, decide_eq_false_iff_not, Bool.not_eq_false'] at hD
              obtain ⟨⟨⟨d1, d2⟩, d3⟩, d4⟩ := hD
              have d3' : ¬ plc s[k].toNat = plc s[k + 2].toNat := by simpa using d3
              have d4' : ((s[m].toNat : Int) != 46) = false := by rw [bne, d4]; rfl
              go_enter Tryd.func26, Tryd.ntmps26
              go_wp2_with (first | (go_at_call 38; refine (place_any _ _).mono ?_; rintro e w' ⟨rfl, rfl⟩) | (go_at_call 39; refine (C3'.out _).mono ?_; rintro e w' ⟨rfl, rfl⟩))
              refine bodyPost_ret (results_c3 rfl rfl rfl rfl (atm_load w _ _ _)) rfl ⟨?_, below_alloc _ _⟩
              have hh : ((k + (6 + j) : Nat) : Int) = (m : Int) + 1 := by have := HM.out; omega
              rw [HS.out]
              show Ending.returned (.tuple #[_, .int .i64 ((m : Int) + 1), .bool true]) = _
              simp only [atmV, atV]; rw [hh]
            | true =>
              have HN : Hid (atm (rest s k) = none) := by show _ = _; rw [H2.out, hD]; rfl
              have HD : Hid _ := hD
              clear H2 hD
              go_enter Tryd.func26, Tryd.ntmps26
              go_wp2_with (first | (go_at_call 38; refine (place_any _ _).mono ?_; rintro e w' ⟨rfl, rfl⟩) | (go_at_call 39; refine (C3'.out _).mono ?_; rintro e w' ⟨rfl, rfl⟩))
              all_goals first
                | (refine bodyPost_ret (results_c3 rfl rfl rfl rfl (atm_load w 0 0 0)) rfl ⟨?_, below_alloc _ _⟩; rw [HN.out]; rfl)
                | (exfalso; have hD := HD.out; simp only [Bool.or_eq_true, decide_eq_true_eq, Bool.not_eq_true', beq_iff_eq, beq_eq_false_iff_ne, bne_eq_false_iff_eq] at *; omega)
          · have hin' : (s.size : Int) ≤ ((k + 5 + j : Nat) : Int) := by omega
            have HN : Hid (atm (rest s k) = none) := by
              show _ = _; rw [H.out, hx1, hx2, hb]; simp only [point_at]; rw [dif_neg hin]; simp
            clear H C3 hb
            go_enter Tryd.func26, Tryd.ntmps26
            go_wp2_with (first | (go_at_call 38; refine (place_any _ _).mono ?_; rintro e w' ⟨rfl, rfl⟩) | (go_at_call 39; refine (C3'.out _).mono ?_; rintro e w' ⟨rfl, rfl⟩))
            all_goals (refine bodyPost_ret (results_c3 rfl rfl rfl rfl (atm_load w 0 0 0)) rfl ⟨?_, below_alloc _ _⟩; rw [HN.out]; rfl)
  · have HN : Hid (atm (rest s k) = none) := atm_short s k hlt
    have hl : (s.size : Int) ≤ (k : Int) + 5 := by omega
    go_enter Tryd.func26, Tryd.ntmps26
    go_wp2
    refine bodyPost_ret (results_c3 rfl rfl rfl rfl (atm_load w 0 0 0)) rfl ⟨?_, below_alloc _ _⟩
    rw [HN.out]; rfl

end Go.Proofs.YtkinoehmcfhgbaaDoor.Vl
