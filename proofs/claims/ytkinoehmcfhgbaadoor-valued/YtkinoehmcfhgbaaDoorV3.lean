/-
  The walk of the document's number: which one an atom of a list is.
-/
import Derived.Test.YtkinoehmcfhgbaaDoorV2
import Derived.Laws.StructEq
set_option linter.unusedVariables false
set_option linter.unusedSimpArgs false
namespace Go.Proofs.YtkinoehmcfhgbaaDoor.Vl
open Go.RowKit

/- Lists of atoms in memory. -/
def cell3 (a : Atm) : List Value := [.int .i64 a.1, .int .i64 a.2.1, .int .i64 a.2.2]
def cells3 (l : List Atm) : List Value := l.flatMap cell3
theorem cells3_len : ∀ l : List Atm, (cells3 l).length = l.length * 3
  | [] => rfl
  | a :: r => by
    have := cells3_len r
    simp only [cells3, List.flatMap_cons, List.length_append, List.length_cons] at *
    rw [this]; simp [cell3]; omega
theorem cells3_at : ∀ (l : List Atm) (j : Nat) (a : Atm), l[j]? = some a → (cells3 l)[j * 3]? = some (.int .i64 a.1) ∧ (cells3 l)[j * 3 + 1]? = some (.int .i64 a.2.1) ∧ (cells3 l)[j * 3 + 2]? = some (.int .i64 a.2.2)
  | [], j, a, h => by simp at h
  | x :: r, 0, a, h => by simp at h; subst h; simp [cells3, cell3]
  | x :: r, j + 1, a, h => by
    have := cells3_at r j a (by simpa using h)
    have e1 : (j + 1) * 3 = j * 3 + 3 := by omega
    simp only [cells3, List.flatMap_cons] at *
    rw [e1]
    refine ⟨?_, ?_, ?_⟩
    · rw [List.getElem?_append_right (by simp [cell3])]; simpa [cell3] using this.1
    · rw [List.getElem?_append_right (by simp [cell3])]; simpa [cell3, Nat.add_assoc] using this.2.1
    · rw [List.getElem?_append_right (by simp [cell3])]; simpa [cell3, Nat.add_assoc] using this.2.2
/-- A list of atoms, as it lies in memory. -/
def Atms (w : World) (v : Value) (ls : List Atm) : Prop :=
  (v = .slice none 0 0 ∧ ls = []) ∨ ∃ b cap, v = .slice (some ⟨b, 0, none⟩) ls.length cap ∧ ls.length ≤ cap ∧ cap ≤ maxLen ∧ b < w.heap.size ∧ ∀ j a, ls[j]? = some a → w.cell? ⟨b, j * 3, none⟩ = some (.int .i64 a.1) ∧ w.cell? ⟨b, j * 3 + 1, none⟩ = some (.int .i64 a.2.1) ∧ w.cell? ⟨b, j * 3 + 2, none⟩ = some (.int .i64 a.2.2)
theorem Atms.below {w w' : World} {v : Value} {ls : List Atm} (h : Atms w v ls) (hb : Below w.heap.size w w') : Atms w' v ls := by
  rcases h with h | ⟨b, cap, h1, h2, h3, h4, h5⟩
  · exact Or.inl h
  · exact Or.inr ⟨b, cap, h1, h2, h3, Nat.lt_of_lt_of_le h4 hb.size, fun j t ht => ⟨(hb.cell (p := ⟨b, j * 3, none⟩) h4).trans (h5 j t ht).1, (hb.cell (p := ⟨b, j * 3 + 1, none⟩) h4).trans (h5 j t ht).2.1, (hb.cell (p := ⟨b, j * 3 + 2, none⟩) h4).trans (h5 j t ht).2.2⟩⟩
theorem own_atms {w : World} {base : Nat} {v : Value} {ls : List Atm} (h : w.ownsRow base 65 3 v ls.length (cells3 ls)) : Atms w v ls := by
  rcases h.2 with ⟨h1, h2⟩ | ⟨g, cap, cur, hv, hg, hh, h3, h4, h5, h6⟩
  · exact Or.inl ⟨h1, by cases ls <;> simp_all⟩
  · have hlt : g < w.heap.size := by
      rcases Nat.lt_or_ge g w.heap.size with h | h
      · exact h
      · rw [Array.getElem?_eq_none h] at hh; cases hh
    refine Or.inr ⟨g, cap, hv, h3, h4, hlt, fun j a ha => ?_⟩
    have hj : j < ls.length := by
      rcases Nat.lt_or_ge j ls.length with h | h
      · exact h
      · rw [List.getElem?_eq_none h] at ha; cases ha
    have hc := cells3_at ls j a ha
    have e : ∀ i u, (cells3 ls)[i]? = some u → w.cell? ⟨g, i, none⟩ = some u := by
      intro i u hu
      rw [← h6, List.getElem?_take] at hu
      split at hu
      · have : cur[i]? = some u := by simpa using hu
        simp [World.cell?, hh, this]
      · cases hu
    exact ⟨e _ _ hc.1, e _ _ hc.2.1, e _ _ hc.2.2⟩
/-- Which one an atom is; -1: it is not there. -/
def nmb : List Atm → Atm → Int → Int
  | [], _, _ => -1
  | x :: r, a, i => if x = a then i else nmb r a (i + 1)

theorem eq_atm (w : World) (x y z a b c : Int) : (binOp .eql 65 (.agg #[.int .i64 x, .int .i64 y, .int .i64 z]) (.agg #[.int .i64 a, .int .i64 b, .int .i64 c])).run Tryd.prog w = .ok (.bool (x == a && (y == b && z == c))) w := by
  have e1 : Tryd.prog.underlying 65 = some (.struct (Tryd.prog.fieldsOf 65)) := by kernel_rfl
  have e2 : Tryd.prog.stoodInHeld 65 = false := by kernel_rfl
  rw [run_eql_struct, run_equalIn_agg _ 9999 _ _ _ e1 e2]
  simp only [Program.fieldsOf, Tryd.underlying65]
  simp [Op.eqFields, part, run_equalIn_int, Tryd.underlying3]
  by_cases h1 : x = a <;> by_cases h2 : y = b <;> by_cases h3 : z = c <;> simp [h1, h2, h3]

set_option maxRecDepth 100000 in
set_option maxHeartbeats 1000000 in
theorem number_any (v : Value) (ls : List Atm) (a : Atm) (w : World) (hl : Atms w v ls) (hn : ls.length ≤ 4000) :
    Calls Tryd.prog 27 #[v, atV a] w fun e w' => e = .returned (.int .i64 (nmb ls a 0)) ∧ Below w.heap.size w w' := by
  obtain ⟨a1, a2, a3⟩ := a
  unfold atV
  dsimp only
  rcases hl with ⟨rfl, rfl⟩ | ⟨b, cap, rfl, hc1, hc2, hb, hcells⟩
  · go_enter Tryd.func27, Tryd.ntmps27
    go_wp2
    go_loop [5] (fun i => i = .int .i64 0) (fun i => 0)
    case atStart => rfl
    case round =>
      obtain rfl := hrel
      go_wp2
      go_ret
      exact ⟨rfl, below_alloc _ _⟩
  · have HC : Hid _ := hcells
    clear hcells
    have hbne : ¬ b = w.heap.size := by omega
    go_enter Tryd.func27, Tryd.ntmps27
    go_wp2
    have hB := below_alloc w (.cells #[.int .i64 a1, .int .i64 a2, .int .i64 a3] 65)
    have c1 : (w.alloc (.cells #[.int .i64 a1, .int .i64 a2, .int .i64 a3] 65)).cell? ⟨w.heap.size, 0, none⟩ = some (.int .i64 a1) := by simp
    have c2 : (w.alloc (.cells #[.int .i64 a1, .int .i64 a2, .int .i64 a3] 65)).cell? ⟨w.heap.size, 1, none⟩ = some (.int .i64 a2) := by simp
    have c3 : (w.alloc (.cells #[.int .i64 a1, .int .i64 a2, .int .i64 a3] 65)).cell? ⟨w.heap.size, 2, none⟩ = some (.int .i64 a3) := by simp
    have HWs : w.heap.size < (w.alloc (.cells #[.int .i64 a1, .int .i64 a2, .int .i64 a3] 65)).heap.size := by simp
    generalize w.alloc (.cells #[.int .i64 a1, .int .i64 a2, .int .i64 a3] 65) = W at *
    have hWs : w.heap.size < W.heap.size := HWs
    clear HWs
    go_loopw [5] (fun i wr => ∃ k : Nat, i = .int .i64 (k : Int) ∧ k ≤ ls.length ∧ nmb ls (a1, a2, a3) 0 = nmb (ls.drop k) (a1, a2, a3) k ∧ Below W.heap.size W wr) (fun i _ => ls.length - (intOf i).toNat)
    case atStart => exact ⟨0, rfl, Nat.zero_le _, rfl, Below.refl _ _⟩
    case round =>
      obtain ⟨k, rfl, hk, hq, hBr⟩ := hrel
      have Q : Hid _ := hq
      clear hq
      by_cases hlt : k < ls.length
      · obtain ⟨⟨x1, x2, x3⟩, hx⟩ : ∃ x, ls[k]? = some x := ⟨_, List.getElem?_eq_getElem hlt⟩
        obtain ⟨z1, z2, z3⟩ := HC.out k _ hx
        have E : Hid (nmb (ls.drop k) (a1, a2, a3) k = if (x1 == a1 && (x2 == a2 && x3 == a3)) = true then (k : Int) else nmb (ls.drop (k + 1)) (a1, a2, a3) ((k + 1 : Nat) : Int)) := by
          show _ = _
          have : ls[k] = (x1, x2, x3) := by rw [List.getElem?_eq_getElem hlt] at hx; exact Option.some.inj hx
          rw [List.drop_eq_getElem_cons hlt, this, nmb]
          simp [Prod.ext_iff]
        have hlt' : (k : Int) < (ls.length : Int) := by omega
        clear hx
        have hbW : b < W.heap.size := Nat.lt_trans hb hWs
        have y1 := (hBr.cell (p := ⟨b, k * 3, none⟩) hbW).trans ((hB.cell (p := ⟨b, k * 3, none⟩) hb).trans z1)
        have y2 := (hBr.cell (p := ⟨b, k * 3 + 1, none⟩) hbW).trans ((hB.cell (p := ⟨b, k * 3 + 1, none⟩) hb).trans z2)
        have y3 := (hBr.cell (p := ⟨b, k * 3 + 2, none⟩) hbW).trans ((hB.cell (p := ⟨b, k * 3 + 2, none⟩) hb).trans z3)
        have v1 := (hBr.cell (p := ⟨w.heap.size, 0, none⟩) hWs).trans c1
        have v2 := (hBr.cell (p := ⟨w.heap.size, 1, none⟩) hWs).trans c2
        have v3 := (hBr.cell (p := ⟨w.heap.size, 2, none⟩) hWs).trans c3
        clear z1 z2 z3 c1 c2 c3
        have heq := fun w => eq_atm w x1 x2 x3 a1 a2 a3
        go_wp2
        all_goals (go_quiet (fail))
        cases hE : (x1 == a1 && (x2 == a2 && x3 == a3)) with
        | false =>
          go_wp2
          go_roundw
          case rel => exact ⟨k + 1, by go_num, by omega, by rw [Q.out, E.out, hE]; rfl, below_drewN hBr _⟩
          case measure => simp [intOf]; omega
        | true =>
          go_wp2
          go_ret
          refine ⟨ret_int ?_, hB.trans ((below_drewN hBr _).mono (by omega))⟩
          rw [Q.out, E.out, hE]; rfl
      · have hlt' : ¬ (k : Int) < (ls.length : Int) := by omega
        go_wp2
        go_ret
        refine ⟨ret_int ?_, hB.trans (hBr.mono (by omega))⟩
        rw [Q.out, List.drop_eq_nil_of_le (by omega)]; rfl
end Go.Proofs.YtkinoehmcfhgbaaDoor.Vl
