/-
  The walks of the document's atomAt and number.
  The walk of the document's number: which one an atom of a list is.
-/
import Derived.Test.YtkinoehmcfhgbaaGreatDoorV0
import Derived.Deep.MidRow
import Derived.Laws.StructEq
set_option linter.unusedVariables false
set_option linter.unusedSimpArgs false
namespace Go.Proofs.YtkinoehmcfhgbaaGreatDoor.Vl
open Go.RowKit

def atV (a : Atm) : Value := .agg #[.int .i64 a.1, .int .i64 a.2.1, .int .i64 a.2.2]
theorem results_c3 {fn : Func} {tmps : Array Value} {w : World} {k i j : Nat} {t : TypeId} {a : Addr} {v x y : Value} (hf : fn.results = #[.cell k t, .tmp i, .tmp j]) (ht : tmps.getD k undef = .pointer (some a)) (hx : tmps.getD i undef = x) (hy : tmps.getD j undef = y) (hl : (loadVar t a).run Tryz.prog w = .ok v w) : (results fn tmps).run Tryz.prog w = .ok (.tuple #[v, x, y]) w := by
  have ht' : (tmps[k]?.getD undef) = .pointer (some a) := by simpa using ht
  have hx' : (tmps[i]?.getD undef) = x := by simpa using hx
  have hy' : (tmps[j]?.getD undef) = y := by simpa using hy
  simp [results, hf, ht', hx', hy', hl, asAddr]
theorem Tryz.infoAtm : (Tryz.prog.info? 236).map (fun i => (i.zero, i.size, i.bytes)) = some (some (.agg #[.int .i64 0, .int .i64 0, .int .i64 0]), 3, 24) := by kernel_rfl
theorem Tryz.sizeAtm : (Tryz.prog.info? 236).map (·.size) = some 3 := by kernel_rfl
theorem range_new (w : World) (cs : List Value) (t : TypeId) : (w.alloc (.cells cs.toArray t)).rangeAt w.heap.size 0 cs := by
  intro j v hv
  rw [World.cell?_alloc_at _ _ _ _ rfl]; simpa using hv
theorem atm_load (w : World) (x y z : Int) : (loadVar 236 ⟨w.heap.size, 0, none⟩).run Tryz.prog (w.alloc (.cells #[.int .i64 x, .int .i64 y, .int .i64 z] 236)) = .ok (atV (x, y, z)) (w.alloc (.cells #[.int .i64 x, .int .i64 y, .int .i64 z] 236)) :=
  run_loadVar_mid _ _ 0 236 [.int .i64 x, .int .i64 y, .int .i64 z] _ (range_new w [.int .i64 x, .int .i64 y, .int .i64 z] _) Tryz.underlying236 rfl Tryz.sizeAtm
theorem below_alloc (w : World) (o : Obj) : Below w.heap.size w (w.alloc o) := (Below.refl _ w).alloc (Nat.le_refl _) o

set_option maxRecDepth 100000 in
set_option maxHeartbeats 1000000 in
theorem atomAt_any (s : ByteArray) (k : Nat) (w : World) (hs : s.size ≤ 4000) (hk : k ≤ s.size) :
    Calls Tryz.prog 117 #[.string s, .int .i64 (k : Int)] w fun e w' => e = .returned (atmV k (atm (rest s k))) ∧ Below w.heap.size w w' := by
  by_cases hlt : k + 5 < s.size
  · have hl : ¬ (s.size : Int) ≤ (k : Int) + 5 := by omega
    have hl1 : (k : Int) < (s.size : Int) := by omega
    have hl2 : ((k : Int) + 1) < (s.size : Int) := by omega
    have hl3 : ((k : Int) + 2) < (s.size : Int) := by omega
    have hl4 : ((k : Int) + 5) ≤ (s.size : Int) := by omega
    have H : Hid _ := atm_long s k hlt
    cases hx1 : ((s[k + 1].toNat : Int) == 45)
    case false =>
      have hx1' : ((s[k + 1].toNat : Int) != 45) = true := by rw [bne, hx1]; rfl
      have HN : Hid (atm (rest s k) = none) := by show _ = _; rw [H.out, hx1]; rfl
      go_enter Tryz.func117, Tryz.ntmps117
      go_wp2
      refine bodyPost_ret (results_c3 rfl rfl rfl rfl (atm_load w 0 0 0)) rfl ⟨?_, below_alloc _ _⟩
      rw [HN.out]; rfl
    case true =>
      have hx1' : ((s[k + 1].toNat : Int) != 45) = false := by rw [bne, hx1]; rfl
      cases hx2 : ((s.extract (k + 3) (k + 5)).toList == [60, 61])
      case false =>
        have hx2' : ((s.extract (k + 3) (k + 5)).toList != [60, 61]) = true := by rw [bne, hx2]; rfl
        have HN : Hid (atm (rest s k) = none) := by show _ = _; rw [H.out, hx1, hx2]; rfl
        go_enter Tryz.func117, Tryz.ntmps117
        go_wp2
        refine bodyPost_ret (results_c3 rfl rfl rfl rfl (atm_load w 0 0 0)) rfl ⟨?_, below_alloc _ _⟩
        rw [HN.out]; rfl
      case true =>
        have hx2' : ((s.extract (k + 3) (k + 5)).toList != [60, 61]) = false := by rw [bne, hx2]; rfl
        have C3 : Hid (∀ w, Calls Tryz.prog 171 #[.string s, .int .i64 ((k : Int) + 5)] w fun e w' => e = .returned (bndV (k + 5) (bnd (rest s (k + 5)))) ∧ w = w') := fun w => bound_any s (k + 5) w hs (by omega)
        cases hb : bnd (rest s (k + 5)) with
        | none =>
          have HN : Hid (atm (rest s k) = none) := by show _ = _; rw [H.out, hx1, hx2, hb]; rfl
          rw [hb] at C3
          have C3' : Hid (∀ w, Calls Tryz.prog 171 #[.string s, .int .i64 ((k : Int) + 5)] w fun e w' => e = .returned (.tuple #[.int .i64 0, .int .i64 0, .bool false]) ∧ w = w') := C3
          clear H C3
          go_enter Tryz.func117, Tryz.ntmps117
          go_wp2_with (first | (go_at_call 170; refine (place_any _ _).mono ?_; rintro e w' ⟨rfl, rfl⟩) | (go_at_call 171; refine (C3'.out _).mono ?_; rintro e w' ⟨rfl, rfl⟩))
          all_goals (refine bodyPost_ret (results_c3 rfl rfl rfl rfl (atm_load w 0 0 0)) rfl ⟨?_, below_alloc _ _⟩; rw [HN.out]; rfl)
        | some q =>
          obtain ⟨n, j⟩ := q
          obtain ⟨hn1, hn2, hj⟩ := bnd_range hb
          have hj' : (j : Int) ≤ 4000 := by rw [rest_len] at hj; omega
          rw [hb] at C3
          have C3' : Hid (∀ w, Calls Tryz.prog 171 #[.string s, .int .i64 ((k : Int) + 5)] w fun e w' => e = .returned (.tuple #[.int .i64 n, .int .i64 ((k + 5 + j : Nat) : Int), .bool true]) ∧ w = w') := C3
          by_cases hin : k + 5 + j < s.size
          · have hin' : ¬ (s.size : Int) ≤ ((k + 5 + j : Nat) : Int) := by omega
            have H2 : Hid (atm (rest s k) = if decide (plc s[k].toNat < 0) || decide (plc s[k + 2].toNat < 0) || (plc s[k].toNat == plc s[k + 2].toNat) || !((s[k + 5 + j].toNat : Int) == 46) then none else some ((plc s[k].toNat, plc s[k + 2].toNat, n), 6 + j)) := by
              show _ = _; rw [H.out, hx1, hx2, hb]; simp only [point_at]; rw [dif_pos hin]; rfl
            clear H C3 hb
            generalize hm : k + 5 + j = m at *
            have HM : Hid (k + 5 + j = m) := hm
            have hm4 : (m : Int) < 4000 := by omega
            clear hm
            cases hD : (decide (plc s[k].toNat < 0) || decide (plc s[k + 2].toNat < 0) || (plc s[k].toNat == plc s[k + 2].toNat) || !((s[m].toNat : Int) == 46)) with
            | false =>
              have HS : Hid (atm (rest s k) = some ((plc s[k].toNat, plc s[k + 2].toNat, n), 6 + j)) := by show _ = _; rw [H2.out, hD]; rfl
              clear H2
              simp only [Bool.or_eq_false_iff, decide_eq_false_iff_not, Bool.not_eq_false'] at hD
              obtain ⟨⟨⟨d1, d2⟩, d3⟩, d4⟩ := hD
              have d3' : ¬ plc s[k].toNat = plc s[k + 2].toNat := by simpa using d3
              have d4' : ((s[m].toNat : Int) != 46) = false := by rw [bne, d4]; rfl
              go_enter Tryz.func117, Tryz.ntmps117
              go_wp2_with (first | (go_at_call 170; refine (place_any _ _).mono ?_; rintro e w' ⟨rfl, rfl⟩) | (go_at_call 171; refine (C3'.out _).mono ?_; rintro e w' ⟨rfl, rfl⟩))
              refine bodyPost_ret (results_c3 rfl rfl rfl rfl (atm_load w _ _ _)) rfl ⟨?_, below_alloc _ _⟩
              have hh : ((k + (6 + j) : Nat) : Int) = (m : Int) + 1 := by have := HM.out; omega
              rw [HS.out]
              show Ending.returned (.tuple #[_, .int .i64 ((m : Int) + 1), .bool true]) = _
              simp only [atmV, atV]; rw [hh]
            | true =>
              have HN : Hid (atm (rest s k) = none) := by show _ = _; rw [H2.out, hD]; rfl
              have HD : Hid _ := hD
              clear H2 hD
              go_enter Tryz.func117, Tryz.ntmps117
              go_wp2_with (first | (go_at_call 170; refine (place_any _ _).mono ?_; rintro e w' ⟨rfl, rfl⟩) | (go_at_call 171; refine (C3'.out _).mono ?_; rintro e w' ⟨rfl, rfl⟩))
              all_goals first
                | (refine bodyPost_ret (results_c3 rfl rfl rfl rfl (atm_load w 0 0 0)) rfl ⟨?_, below_alloc _ _⟩; rw [HN.out]; rfl)
                | (exfalso; have hD := HD.out; simp only [Bool.or_eq_true, decide_eq_true_eq, Bool.not_eq_true', beq_iff_eq, beq_eq_false_iff_ne, bne_eq_false_iff_eq] at *; omega)
          · have hin' : (s.size : Int) ≤ ((k + 5 + j : Nat) : Int) := by omega
            have HN : Hid (atm (rest s k) = none) := by
              show _ = _; rw [H.out, hx1, hx2, hb]; simp only [point_at]; rw [dif_neg hin]; simp
            clear H C3 hb
            go_enter Tryz.func117, Tryz.ntmps117
            go_wp2_with (first | (go_at_call 170; refine (place_any _ _).mono ?_; rintro e w' ⟨rfl, rfl⟩) | (go_at_call 171; refine (C3'.out _).mono ?_; rintro e w' ⟨rfl, rfl⟩))
            all_goals (refine bodyPost_ret (results_c3 rfl rfl rfl rfl (atm_load w 0 0 0)) rfl ⟨?_, below_alloc _ _⟩; rw [HN.out]; rfl)
  · have HN : Hid (atm (rest s k) = none) := atm_short s k hlt
    have hl : (s.size : Int) ≤ (k : Int) + 5 := by omega
    go_enter Tryz.func117, Tryz.ntmps117
    go_wp2
    refine bodyPost_ret (results_c3 rfl rfl rfl rfl (atm_load w 0 0 0)) rfl ⟨?_, below_alloc _ _⟩
    rw [HN.out]; rfl

end Go.Proofs.YtkinoehmcfhgbaaGreatDoor.Vl
set_option linter.unusedVariables false
set_option linter.unusedSimpArgs false
namespace Go.Proofs.YtkinoehmcfhgbaaGreatDoor.Vl
open Go.RowKit

/- Lists of atoms in memory. -/
def cell3 (a : Atm) : List Value := [.int .i64 a.1, .int .i64 a.2.1, .int .i64 a.2.2]
def cells3 (l : List Atm) : List Value := l.flatMap cell3
theorem cells3_len : ∀ l : List Atm, (cells3 l).length = l.length * 3
  | [] => rfl
  | a :: r => by
    have := cells3_len r
    simp only [cells3, List.flatMap_cons, List.length_append, List.length_cons] at *
    rw [this]; simp [cell3]; omega
theorem cells3_at : ∀ (l : List Atm) (j : Nat) (a : Atm), l[j]? = some a → (cells3 l)[j * 3]? = some (.int .i64 a.1) ∧ (cells3 l)[j * 3 + 1]? = some (.int .i64 a.2.1) ∧ (cells3 l)[j * 3 + 2]? = some (.int .i64 a.2.2)
  | [], j, a, h => by simp at h
  | x :: r, 0, a, h => by simp at h; subst h; simp [cells3, cell3]
  | x :: r, j + 1, a, h => by
    have := cells3_at r j a (by simpa using h)
    have e1 : (j + 1) * 3 = j * 3 + 3 := by omega
    simp only [cells3, List.flatMap_cons] at *
    rw [e1]
    refine ⟨?_, ?_, ?_⟩
    · rw [List.getElem?_append_right (by simp [cell3])]; simpa [cell3] using this.1
    · rw [List.getElem?_append_right (by simp [cell3])]; simpa [cell3, Nat.add_assoc] using this.2.1
    · rw [List.getElem?_append_right (by simp [cell3])]; simpa [cell3, Nat.add_assoc] using this.2.2
/-- A list of atoms, as it lies in memory. -/
def Atms (w : World) (v : Value) (ls : List Atm) : Prop :=
  (v = .slice none 0 0 ∧ ls = []) ∨ ∃ b cap, v = .slice (some ⟨b, 0, none⟩) ls.length cap ∧ ls.length ≤ cap ∧ cap ≤ maxLen ∧ b < w.heap.size ∧ ∀ j a, ls[j]? = some a → w.cell? ⟨b, j * 3, none⟩ = some (.int .i64 a.1) ∧ w.cell? ⟨b, j * 3 + 1, none⟩ = some (.int .i64 a.2.1) ∧ w.cell? ⟨b, j * 3 + 2, none⟩ = some (.int .i64 a.2.2)
theorem Atms.below {w w' : World} {v : Value} {ls : List Atm} (h : Atms w v ls) (hb : Below w.heap.size w w') : Atms w' v ls := by
  rcases h with h | ⟨b, cap, h1, h2, h3, h4, h5⟩
  · exact Or.inl h
  · exact Or.inr ⟨b, cap, h1, h2, h3, Nat.lt_of_lt_of_le h4 hb.size, fun j t ht => ⟨(hb.cell (p := ⟨b, j * 3, none⟩) h4).trans (h5 j t ht).1, (hb.cell (p := ⟨b, j * 3 + 1, none⟩) h4).trans (h5 j t ht).2.1, (hb.cell (p := ⟨b, j * 3 + 2, none⟩) h4).trans (h5 j t ht).2.2⟩⟩
theorem own_atms {w : World} {base : Nat} {v : Value} {ls : List Atm} (h : w.ownsRow base 236 3 v ls.length (cells3 ls)) : Atms w v ls := by
  rcases h.2 with ⟨h1, h2⟩ | ⟨g, cap, cur, hv, hg, hh, h3, h4, h5, h6⟩
  · exact Or.inl ⟨h1, by cases ls <;> simp_all⟩
  · have hlt : g < w.heap.size := by
      rcases Nat.lt_or_ge g w.heap.size with h | h
      · exact h
      · rw [Array.getElem?_eq_none h] at hh; cases hh
    refine Or.inr ⟨g, cap, hv, h3, h4, hlt, fun j a ha => ?_⟩
    have hj : j < ls.length := by
      rcases Nat.lt_or_ge j ls.length with h | h
      · exact h
      · rw [List.getElem?_eq_none h] at ha; cases ha
    have hc := cells3_at ls j a ha
    have e : ∀ i u, (cells3 ls)[i]? = some u → w.cell? ⟨g, i, none⟩ = some u := by
      intro i u hu
      rw [← h6, List.getElem?_take] at hu
      split at hu
      · have : cur[i]? = some u := by simpa using hu
        simp [World.cell?, hh, this]
      · cases hu
    exact ⟨e _ _ hc.1, e _ _ hc.2.1, e _ _ hc.2.2⟩
/-- Which one an atom is; -1: it is not there. -/
def nmb : List Atm → Atm → Int → Int
  | [], _, _ => -1
  | x :: r, a, i => if x = a then i else nmb r a (i + 1)

theorem eq_atm (w : World) (x y z a b c : Int) : (binOp .eql 236 (.agg #[.int .i64 x, .int .i64 y, .int .i64 z]) (.agg #[.int .i64 a, .int .i64 b, .int .i64 c])).run Tryz.prog w = .ok (.bool (x == a && (y == b && z == c))) w := by
  have e1 : Tryz.prog.underlying 236 = some (.struct (Tryz.prog.fieldsOf 236)) := by kernel_rfl
  have e2 : Tryz.prog.stoodInHeld 236 = false := by kernel_rfl
  rw [run_eql_struct, run_equalIn_agg _ 9999 _ _ _ e1 e2]
  simp only [Program.fieldsOf, Tryz.underlying236]
  simp [Op.eqFields, part, run_equalIn_int, Tryz.underlying3]
  by_cases h1 : x = a <;> by_cases h2 : y = b <;> by_cases h3 : z = c <;> simp [h1, h2, h3]

set_option maxRecDepth 100000 in
set_option maxHeartbeats 1000000 in
theorem number_any (v : Value) (ls : List Atm) (a : Atm) (w : World) (hl : Atms w v ls) (hn : ls.length ≤ 4000) :
    Calls Tryz.prog 118 #[v, atV a] w fun e w' => e = .returned (.int .i64 (nmb ls a 0)) ∧ Below w.heap.size w w' := by
  obtain ⟨a1, a2, a3⟩ := a
  unfold atV
  dsimp only
  rcases hl with ⟨rfl, rfl⟩ | ⟨b, cap, rfl, hc1, hc2, hb, hcells⟩
  · go_enter Tryz.func118, Tryz.ntmps118
    go_wp2
    go_loop [5] (fun i => i = .int .i64 0) (fun i => 0)
    case atStart => rfl
    case round =>
      obtain rfl := hrel
      go_wp2
      go_ret
      exact ⟨rfl, below_alloc _ _⟩
  · have HC : Hid _ := hcells
    clear hcells
    have hbne : ¬ b = w.heap.size := by omega
    go_enter Tryz.func118, Tryz.ntmps118
    go_wp2
    have hB := below_alloc w (.cells #[.int .i64 a1, .int .i64 a2, .int .i64 a3] 236)
    have c1 : (w.alloc (.cells #[.int .i64 a1, .int .i64 a2, .int .i64 a3] 236)).cell? ⟨w.heap.size, 0, none⟩ = some (.int .i64 a1) := by simp
    have c2 : (w.alloc (.cells #[.int .i64 a1, .int .i64 a2, .int .i64 a3] 236)).cell? ⟨w.heap.size, 1, none⟩ = some (.int .i64 a2) := by simp
    have c3 : (w.alloc (.cells #[.int .i64 a1, .int .i64 a2, .int .i64 a3] 236)).cell? ⟨w.heap.size, 2, none⟩ = some (.int .i64 a3) := by simp
    have HWs : w.heap.size < (w.alloc (.cells #[.int .i64 a1, .int .i64 a2, .int .i64 a3] 236)).heap.size := by simp
    generalize w.alloc (.cells #[.int .i64 a1, .int .i64 a2, .int .i64 a3] 236) = W at *
    have hWs : w.heap.size < W.heap.size := HWs
    clear HWs
    go_loopw [5] (fun i wr => ∃ k : Nat, i = .int .i64 (k : Int) ∧ k ≤ ls.length ∧ nmb ls (a1, a2, a3) 0 = nmb (ls.drop k) (a1, a2, a3) k ∧ Below W.heap.size W wr) (fun i _ => ls.length - (intOf i).toNat)
    case atStart => exact ⟨0, rfl, Nat.zero_le _, rfl, Below.refl _ _⟩
    case round =>
      obtain ⟨k, rfl, hk, hq, hBr⟩ := hrel
      have Q : Hid _ := hq
      clear hq
      by_cases hlt : k < ls.length
      · obtain ⟨⟨x1, x2, x3⟩, hx⟩ : ∃ x, ls[k]? = some x := ⟨_, List.getElem?_eq_getElem hlt⟩
        obtain ⟨z1, z2, z3⟩ := HC.out k _ hx
        have E : Hid (nmb (ls.drop k) (a1, a2, a3) k = if (x1 == a1 && (x2 == a2 && x3 == a3)) = true then (k : Int) else nmb (ls.drop (k + 1)) (a1, a2, a3) ((k + 1 : Nat) : Int)) := by
          show _ = _
          have : ls[k] = (x1, x2, x3) := by rw [List.getElem?_eq_getElem hlt] at hx; exact Option.some.inj hx
          rw [List.drop_eq_getElem_cons hlt, this, nmb]
          simp [Prod.ext_iff]
        have hlt' : (k : Int) < (ls.length : Int) := by omega
        clear hx
        have hbW : b < W.heap.size := Nat.lt_trans hb hWs
        have y1 := (hBr.cell (p := ⟨b, k * 3, none⟩) hbW).trans ((hB.cell (p := ⟨b, k * 3, none⟩) hb).trans z1)
        have y2 := (hBr.cell (p := ⟨b, k * 3 + 1, none⟩) hbW).trans ((hB.cell (p := ⟨b, k * 3 + 1, none⟩) hb).trans z2)
        have y3 := (hBr.cell (p := ⟨b, k * 3 + 2, none⟩) hbW).trans ((hB.cell (p := ⟨b, k * 3 + 2, none⟩) hb).trans z3)
        have v1 := (hBr.cell (p := ⟨w.heap.size, 0, none⟩) hWs).trans c1
        have v2 := (hBr.cell (p := ⟨w.heap.size, 1, none⟩) hWs).trans c2
        have v3 := (hBr.cell (p := ⟨w.heap.size, 2, none⟩) hWs).trans c3
        clear z1 z2 z3 c1 c2 c3
        have heq := fun w => eq_atm w x1 x2 x3 a1 a2 a3
        go_wp2
        all_goals (go_quiet (fail))
        cases hE : (x1 == a1 && (x2 == a2 && x3 == a3)) with
        | false =>
          go_wp2
          go_roundw
          case rel => exact ⟨k + 1, by go_num, by omega, by rw [Q.out, E.out, hE]; rfl, below_drewN hBr _⟩
          case measure => simp [intOf]; omega
        | true =>
          go_wp2
          go_ret
          refine ⟨ret_int ?_, hB.trans ((below_drewN hBr _).mono (by omega))⟩
          rw [Q.out, E.out, hE]; rfl
      · have hlt' : ¬ (k : Int) < (ls.length : Int) := by omega
        go_wp2
        go_ret
        refine ⟨ret_int ?_, hB.trans (hBr.mono (by omega))⟩
        rw [Q.out, List.drop_eq_nil_of_le (by omega)]; rfl
end Go.Proofs.YtkinoehmcfhgbaaGreatDoor.Vl
