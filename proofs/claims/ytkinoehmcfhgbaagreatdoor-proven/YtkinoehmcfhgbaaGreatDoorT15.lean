/-
  The walks of slices.Index, slices.Contains at atoms, and of Condition.Atoms: a condition's atoms, each once.
  The walk of the document's Value.
  The walk of the program's cutSymbol.
-/
import Derived.Test.YtkinoehmcfhgbaaGreatDoorS3k
import Derived.Test.YtkinoehmcfhgbaaGreatDoorV8
import Derived.Test.YtkinoehmcfhgbaaGreatDoorV12
set_option linter.unusedVariables false
set_option linter.unusedSimpArgs false
namespace Go.Proofs.YtkinoehmcfhgbaaGreatDoor.Vl
open Go.RowKit

theorem eq_latm (w : World) (x y z a b c : Int) : (binOp .eql 134 (.agg #[.int .i64 x, .int .i64 y, .int .i64 z]) (.agg #[.int .i64 a, .int .i64 b, .int .i64 c])).run Tryz.prog w = .ok (.bool (x == a && (y == b && z == c))) w := by
  have e1 : Tryz.prog.underlying 134 = some (.struct (Tryz.prog.fieldsOf 134)) := by kernel_rfl
  have e2 : Tryz.prog.stoodInHeld 134 = false := by kernel_rfl
  rw [run_eql_struct, run_equalIn_agg _ 9999 _ _ _ e1 e2]
  simp only [Program.fieldsOf, Tryz.underlying134]
  simp [Op.eqFields, part, run_equalIn_int, Tryz.underlying3, Tryz.underlying132]
  by_cases h1 : x = a <;> by_cases h2 : y = b <;> by_cases h3 : z = c <;> simp [h1, h2, h3]
theorem own_latms {w : World} {base : Nat} {v : Value} {ls : List Atm} (h : w.ownsRow base 134 3 v ls.length (cells3 ls)) : Atms w v ls := by
  rcases h.2 with ⟨h1, h2⟩ | ⟨g, cap, cur, hv, hg, hh, h3, h4, h5, h6⟩
  · exact Or.inl ⟨h1, by cases ls <;> simp_all⟩
  · have hlt : g < w.heap.size := by
      rcases Nat.lt_or_ge g w.heap.size with h | h
      · exact h
      · rw [Array.getElem?_eq_none h] at hh; cases hh
    refine Or.inr ⟨g, cap, hv, h3, h4, hlt, fun j a ha => ?_⟩
    have hc := cells3_at ls j a ha
    have e : ∀ i u, (cells3 ls)[i]? = some u → w.cell? ⟨g, i, none⟩ = some u := by
      intro i u hu
      rw [← h6, List.getElem?_take] at hu
      split at hu
      · have : cur[i]? = some u := by simpa using hu
        simp [World.cell?, hh, this]
      · cases hu
    exact ⟨e _ _ hc.1, e _ _ hc.2.1, e _ _ hc.2.2⟩

set_option maxRecDepth 100000 in
set_option maxHeartbeats 1000000 in
theorem index_any (v : Value) (ls : List Atm) (a1 a2 a3 : Int) (w : World) (hl : Atms w v ls) (hn : ls.length ≤ 4000) :
    Calls Tryz.prog 173 #[v, .agg #[.int .i64 a1, .int .i64 a2, .int .i64 a3]] w fun e w' => e = .returned (.int .i64 (nmb ls (a1, a2, a3) 0)) ∧ Below w.heap.size w w' := by
  rcases hl with ⟨rfl, rfl⟩ | ⟨b, cap, rfl, hc1, hc2, hb, hcells⟩
  · go_enter Tryz.func173, Tryz.ntmps173
    go_wp2
    go_loop [5, 8] (fun s5 i => i = .int .i64 0) (fun s5 i => 0)
    case atStart => rfl
    case round =>
      obtain rfl := hrel
      go_wp2
      go_ret
      exact ⟨rfl, below_alloc _ _⟩
  · have HC : Hid _ := hcells
    clear hcells
    have hbne : ¬ b = w.heap.size := by omega
    go_enter Tryz.func173, Tryz.ntmps173
    go_wp2
    have hB := below_alloc w (.cells #[.int .i64 a1, .int .i64 a2, .int .i64 a3] 134)
    have c1 : (w.alloc (.cells #[.int .i64 a1, .int .i64 a2, .int .i64 a3] 134)).cell? ⟨w.heap.size, 0, none⟩ = some (.int .i64 a1) := by simp
    have c2 : (w.alloc (.cells #[.int .i64 a1, .int .i64 a2, .int .i64 a3] 134)).cell? ⟨w.heap.size, 1, none⟩ = some (.int .i64 a2) := by simp
    have c3 : (w.alloc (.cells #[.int .i64 a1, .int .i64 a2, .int .i64 a3] 134)).cell? ⟨w.heap.size, 2, none⟩ = some (.int .i64 a3) := by simp
    have HWs : w.heap.size < (w.alloc (.cells #[.int .i64 a1, .int .i64 a2, .int .i64 a3] 134)).heap.size := by simp
    generalize w.alloc (.cells #[.int .i64 a1, .int .i64 a2, .int .i64 a3] 134) = W at *
    have hWs : w.heap.size < W.heap.size := HWs
    clear HWs
    go_loopw [5, 8] (fun s5 i wr => ∃ k : Nat, i = .int .i64 (k : Int) ∧ k ≤ ls.length ∧ nmb ls (a1, a2, a3) 0 = nmb (ls.drop k) (a1, a2, a3) k ∧ Below W.heap.size W wr) (fun _ i _ => ls.length - (intOf i).toNat)
    case atStart => exact ⟨0, rfl, Nat.zero_le _, rfl, Below.refl _ _⟩
    case round =>
      obtain ⟨k, rfl, hk, hq, hBr⟩ := hrel
      have Q : Hid _ := hq
      clear hq
      by_cases hlt : k < ls.length
      · obtain ⟨⟨x1, x2, x3⟩, hx⟩ : ∃ x, ls[k]? = some x := ⟨_, List.getElem?_eq_getElem hlt⟩
        obtain ⟨z1, z2, z3⟩ := HC.out k _ hx
        have E : Hid (nmb (ls.drop k) (a1, a2, a3) k = if (a1 == x1 && (a2 == x2 && a3 == x3)) = true then (k : Int) else nmb (ls.drop (k + 1)) (a1, a2, a3) ((k + 1 : Nat) : Int)) := by
          show _ = _
          have : ls[k] = (x1, x2, x3) := by rw [List.getElem?_eq_getElem hlt] at hx; exact Option.some.inj hx
          rw [List.drop_eq_getElem_cons hlt, this, nmb]
          have e : ((x1, x2, x3) = (a1, a2, a3)) ↔ ((a1 == x1 && (a2 == x2 && a3 == x3)) = true) := by
            simp [Prod.ext_iff]
            constructor
            · rintro ⟨h1, h2, h3⟩; exact ⟨h1.symm, h2.symm, h3.symm⟩
            · rintro ⟨h1, h2, h3⟩; exact ⟨h1.symm, h2.symm, h3.symm⟩
          by_cases h : (x1, x2, x3) = (a1, a2, a3)
          · rw [if_pos h, if_pos (e.1 h)]
          · rw [if_neg h, if_neg (fun h2 => h (e.2 h2))]; rfl
        have hlt' : (k : Int) < (ls.length : Int) := by omega
        clear hx
        have hbW : b < W.heap.size := Nat.lt_trans hb hWs
        have y1 := (hBr.cell (p := ⟨b, k * 3, none⟩) hbW).trans ((hB.cell (p := ⟨b, k * 3, none⟩) hb).trans z1)
        have y2 := (hBr.cell (p := ⟨b, k * 3 + 1, none⟩) hbW).trans ((hB.cell (p := ⟨b, k * 3 + 1, none⟩) hb).trans z2)
        have y3 := (hBr.cell (p := ⟨b, k * 3 + 2, none⟩) hbW).trans ((hB.cell (p := ⟨b, k * 3 + 2, none⟩) hb).trans z3)
        have v1 := (hBr.cell (p := ⟨w.heap.size, 0, none⟩) hWs).trans c1
        have v2 := (hBr.cell (p := ⟨w.heap.size, 1, none⟩) hWs).trans c2
        have v3 := (hBr.cell (p := ⟨w.heap.size, 2, none⟩) hWs).trans c3
        clear z1 z2 z3 c1 c2 c3
        have heq := fun w => eq_latm w a1 a2 a3 x1 x2 x3
        go_wp2
        all_goals (go_quiet (fail))
        cases hE : (a1 == x1 && (a2 == x2 && a3 == x3)) with
        | false =>
          go_wp2
          go_roundw
          case rel => exact ⟨k + 1, by go_num, by omega, by rw [Q.out, E.out, hE]; rfl, below_drewN hBr _⟩
          case measure => simp [intOf]; omega
        | true =>
          go_wp2
          go_ret
          refine ⟨ret_int ?_, hB.trans ((below_drewN hBr _).mono (by omega))⟩
          rw [Q.out, E.out, hE]; rfl
      · have hlt' : ¬ (k : Int) < (ls.length : Int) := by omega
        go_wp2
        go_ret
        refine ⟨ret_int ?_, hB.trans (hBr.mono (by omega))⟩
        rw [Q.out, List.drop_eq_nil_of_le (by omega)]; rfl

set_option maxRecDepth 100000 in
set_option maxHeartbeats 1000000 in
theorem contains_any (v : Value) (ls : List Atm) (a1 a2 a3 : Int) (w : World) (hl : Atms w v ls) (hn : ls.length ≤ 4000) :
    Calls Tryz.prog 122 #[v, .agg #[.int .i64 a1, .int .i64 a2, .int .i64 a3]] w fun e w' => e = .returned (.bool (decide (0 ≤ nmb ls (a1, a2, a3) 0))) ∧ Below w.heap.size w w' := by
  have CI : Hid (∀ w, Atms w v ls → Calls Tryz.prog 173 #[v, .agg #[.int .i64 a1, .int .i64 a2, .int .i64 a3]] w fun e w' => e = .returned (.int .i64 (nmb ls (a1, a2, a3) 0)) ∧ Below w.heap.size w w') := fun w h => index_any v ls a1 a2 a3 w h hn
  have h2 : Atms (w.alloc (.cells #[.int .i64 a1, .int .i64 a2, .int .i64 a3] 134)) v ls := hl.below (below_alloc _ _)
  obtain ⟨q, c, rfl⟩ := atms_shape hl
  clear hl
  generalize nmb ls (a1, a2, a3) 0 = NN at *
  go_enter Tryz.func122, Tryz.ntmps122
  go_wp2_with (go_at_call 173; refine (CI.out _ h2).mono ?_; rintro e w1 ⟨rfl, hb1⟩)
  go_ret
  exact ⟨rfl, (below_alloc w _).trans (hb1.mono (by simp))⟩
theorem uqs_snoc6 (ds : List Sym) (a : Atm) : uqs (ds ++ [(6, a)]) = if nmb (uqs ds) a 0 < 0 then uqs ds ++ [a] else uqs ds := by rw [uqs_snoc, addA, if_pos rfl]
theorem uqs_snocN (ds : List Sym) (y : Sym) (h : y.1 ≠ 6) : uqs (ds ++ [y]) = uqs ds := by rw [uqs_snoc, addA, if_neg h]

set_option maxRecDepth 100000 in
set_option maxHeartbeats 2000000 in
theorem catoms_any (v : Value) (ys : List Sym) (w : World) (hs : Syms w.heap.size w v ys) (hy : ys.length ≤ 4000) :
    Calls Tryz.prog 85 #[v] w fun e w' => ∃ u, e = .returned u ∧ w'.ownsRow w.heap.size 134 3 u (uqs ys).length (cells3 (uqs ys)) ∧ Below w.heap.size w w' := by
  obtain ⟨b, cap, rfl, hb, hcells⟩ := hs
  have HC : Hid _ := hcells
  clear hcells
  obtain ⟨i0, hi, hz0, hz1, hz2⟩ := info_parts Tryz.infoLA
  go_enter Tryz.func85, Tryz.ntmps85
  go_wp2_with fail
  go_loopw [3, 5, 8] (fun u s5 i wr => ∃ k : Nat, i = .int .i64 (k : Int) ∧ k ≤ ys.length ∧ wr.ownsRow w.heap.size 134 3 u (uqs (ys.take k)).length (cells3 (uqs (ys.take k))) ∧ Below w.heap.size w wr) (fun _ _ i _ => ys.length - (intOf i).toNat)
  case atStart => exact ⟨0, rfl, Nat.zero_le _, World.ownsRow_nil _ _ _ _, Below.refl _ _⟩
  case round =>
    obtain ⟨k, rfl, hk, hown, hbw⟩ := hrel
    by_cases hlt : k < ys.length
    · obtain ⟨⟨q, a1, a2, a3⟩, hx⟩ : ∃ x, ys[k]? = some x := ⟨_, List.getElem?_eq_getElem hlt⟩
      obtain ⟨z0, z1, z2, z3⟩ := HC.out k _ hx
      dsimp only at z0 z1 z2 z3
      have hul : (uqs (ys.take k)).length ≤ 4000 := by
        have := foldA_len (ys.take k) []
        unfold uqs; simp at this; omega
      have ht : ys.take (k + 1) = ys.take k ++ [(q, a1, a2, a3)] := by rw [List.take_add_one, hx]; rfl
      have y0 := (hbw.cell (p := ⟨b, k * 4, none⟩) hb).trans z0
      have y1 := (hbw.cell (p := ⟨b, k * 4 + 1, none⟩) hb).trans z1
      have y2 := (hbw.cell (p := ⟨b, k * 4 + 2, none⟩) hb).trans z2
      have y3 := (hbw.cell (p := ⟨b, k * 4 + 3, none⟩) hb).trans z3
      have hlt' : (k : Int) < (ys.length : Int) := by omega
      have hsz := hbw.size
      have hbx : Below w.heap.size w (wr.alloc (.cells #[.int .i64 q, .int .i64 a1, .int .i64 a2, .int .i64 a3] 136)) := hbw.alloc hsz _
      have hox := hown.alloc (.cells #[.int .i64 q, .int .i64 a1, .int .i64 a2, .int .i64 a3] 136)
      have hat : Atms (wr.alloc (.cells #[.int .i64 q, .int .i64 a1, .int .i64 a2, .int .i64 a3] 136)) u3 (uqs (ys.take k)) := own_latms hox
      have HOX : Hid _ := hox
      have HBX : Hid _ := hbx
      have HT : Hid (ys.take (k + 1) = ys.take k ++ [(q, a1, a2, a3)]) := ht
      clear z0 z1 z2 z3 hx ht hown hbw hox hbx
      by_cases h6 : q = 6
      · subst h6
        have HU : Hid (uqs (ys.take (k + 1)) = if nmb (uqs (ys.take k)) (a1, a2, a3) 0 < 0 then uqs (ys.take k) ++ [(a1, a2, a3)] else uqs (ys.take k)) := by show _ = _; rw [HT.out, uqs_snoc6]
        generalize hU : uqs (ys.take k) = U at *
        have CN : Hid (∀ w, Atms w u3 U → Calls Tryz.prog 122 #[u3, .agg #[.int .i64 a1, .int .i64 a2, .int .i64 a3]] w fun e w' => e = .returned (.bool (decide (0 ≤ nmb U (a1, a2, a3) 0))) ∧ Below w.heap.size w w') := fun w h => contains_any u3 U a1 a2 a3 w h hul
        obtain ⟨qa, qc, eu⟩ := atms_shape hat
        subst eu
        clear hU
        have m0 : ∀ w2, Below (wr.heap.size + 1) (wr.alloc (.cells #[.int .i64 6, .int .i64 a1, .int .i64 a2, .int .i64 a3] 136)) w2 → w2.cell? ⟨wr.heap.size, 1, none⟩ = some (.int .i64 a1) ∧ w2.cell? ⟨wr.heap.size, 2, none⟩ = some (.int .i64 a2) ∧ w2.cell? ⟨wr.heap.size, 3, none⟩ = some (.int .i64 a3) := fun w2 h => ⟨(h.cell (p := ⟨wr.heap.size, 1, none⟩) (by simp)).trans (by simp), (h.cell (p := ⟨wr.heap.size, 2, none⟩) (by simp)).trans (by simp), (h.cell (p := ⟨wr.heap.size, 3, none⟩) (by simp)).trans (by simp)⟩
        have M0 : Hid _ := m0
        clear m0
        by_cases hneg : nmb U (a1, a2, a3) 0 < 0
        · have HU2 : Hid (uqs (ys.take (k + 1)) = U ++ [(a1, a2, a3)]) := by show _ = _; rw [HU.out, if_pos hneg]
          have hd : decide (0 ≤ nmb U (a1, a2, a3) 0) = false := decide_eq_false (by omega)
          rw [hd] at CN
          clear HU hd hneg
          go_wp2_with (first
            | (go_at_call 122; refine (CN.out _ hat).mono ?_; rintro e w2 ⟨rfl, hb2⟩; obtain ⟨n1, n2, n3⟩ := M0.out w2 (by simpa using hb2); have hw12 : wr.heap.size < w2.heap.size := (by have := hb2.size; simp at this; omega))
            | (at_builtin; refine wpList_append_own _ rfl _ _ 171 rfl w.heap.size 134 i0 (.agg #[.int .i64 0, .int .i64 0, .int .i64 0]) 3 24 Tryz.underlying171 hi hz0 hz1 hz2 rfl (by decide) _ _ _ rfl ((ownsRow_below HOX.out hb2).alloc _) ⟨w2.heap.size, 0, none⟩ 1 1 [.int .i64 a1, .int .i64 a2, .int .i64 a3] rfl rfl (three_new _ _ rfl _ _ _ _) (one_iii _ _ _) (by unfold maxLen; omega) (by omega) (by simp; omega) ?_))
          intro v' w3 hown3 hgrow _
          have hbb : Below w.heap.size w w2 := HBX.out.trans (hb2.mono (by simp; omega))
          have hb3 := (hbb.alloc hbb.size _).grown hgrow (by have := hbb.size; simp; omega) (own_block HOX.out)
          have HO3 : Hid _ := hown3
          have HB3 : Hid _ := hb3
          clear hgrow n1 n2 n3 hown3 hb3
          go_wp2_with fail
          go_roundw
          case rel => exact ⟨k + 1, by go_num, by omega, by rw [HU2.out, cells3_snoc, List.length_append]; exact HO3.out, HB3.out⟩
          case measure => simp [intOf]; omega
        · have HU2 : Hid (uqs (ys.take (k + 1)) = U) := by show _ = _; rw [HU.out, if_neg hneg]
          have hd : decide (0 ≤ nmb U (a1, a2, a3) 0) = true := decide_eq_true (by omega)
          rw [hd] at CN
          clear HU hd hneg
          go_wp2_with (go_at_call 122; refine (CN.out _ hat).mono ?_; rintro e w2 ⟨rfl, hb2⟩; obtain ⟨n1, n2, n3⟩ := M0.out w2 (by simpa using hb2))
          have hbb : Below w.heap.size w w2 := HBX.out.trans (hb2.mono (by simp; omega))
          go_roundw
          case rel => exact ⟨k + 1, by go_num, by omega, by rw [HU2.out]; exact ownsRow_below HOX.out hb2, hbb⟩
          case measure => simp [intOf]; omega
      · have HU2 : Hid (uqs (ys.take (k + 1)) = uqs (ys.take k)) := by show _ = _; rw [HT.out, uqs_snocN _ _ h6]
        have hq6 : (q == 6) = false := by simpa using h6
        go_wp2_with fail
        go_roundw
        case rel => exact ⟨k + 1, by go_num, by omega, by rw [HU2.out]; exact HOX.out, HBX.out⟩
        case measure => simp [intOf]; omega
    · have hke : k = ys.length := by omega
      subst hke
      rw [List.take_length] at hown
      have hlt' : ¬ ((ys.length : Nat) : Int) < (ys.length : Int) := by omega
      go_wp2_with fail
      go_ret
      exact ⟨_, rfl, hown, hbw⟩
end Go.Proofs.YtkinoehmcfhgbaaGreatDoor.Vl
set_option linter.unusedVariables false
set_option linter.unusedSimpArgs false
namespace Go.Proofs.YtkinoehmcfhgbaaGreatDoor.Vl
open Go.RowKit

/-- What the document answers to Value. -/
def vAns (p : Option (List Sym)) (x1 x2 x3 x4 : Int) : Bool × Int := match p with
  | none => (false, 7)
  | some ys => if gds x1 x2 x3 x4 then (val x1 x2 x3 x4 ys, 0) else (false, 4)

set_option maxRecDepth 100000 in
set_option maxHeartbeats 2000000 in
theorem refValue_any (s : ByteArray) (x1 x2 x3 x4 : Int) (w : World) (hmax : s.size ≤ maxLen) :
    Calls Tryz.prog 49 #[.string s, stV x1 x2 x3 x4] w fun e w' => e = .returned (.tuple #[.bool (vAns (pars s) x1 x2 x3 x4).1, .int .i64 (vAns (pars s) x1 x2 x3 x4).2]) ∧ Below w.heap.size w w' := by
  have CA : Hid (∀ w, Calls Tryz.prog 81 #[.string s] w fun e w' => ∃ v, e = .returned (.tuple #[v, .bool (pars s).isSome]) ∧ Below w.heap.size w w') := fun w => (Atoms_any s w hmax).mono (fun e w' h => by obtain ⟨v, h1, _, h2⟩ := h; exact ⟨v, h1, h2⟩)
  have CG : Hid (∀ w, Calls Tryz.prog 82 #[.agg #[.int .i64 x1, .int .i64 x2, .int .i64 x3, .int .i64 x4]] w fun e w' => e = .returned (.bool (gds x1 x2 x3 x4)) ∧ Below w.heap.size w w') := fun w => good_any x1 x2 x3 x4 w
  cases hp : pars s with
  | none =>
    rw [hp] at CA
    have CA' : Hid (∀ w, Calls Tryz.prog 81 #[.string s] w fun e w' => ∃ v, e = .returned (.tuple #[v, .bool false]) ∧ Below w.heap.size w w') := CA
    clear CA
    unfold stV
    go_enter Tryz.func49, Tryz.ntmps49
    go_wp2_with (go_at_call 81; refine (CA'.out _).mono ?_; rintro e w1 ⟨v, rfl, hb1⟩)
    go_ret2
    exact ⟨rfl, (below_alloc w _).trans (hb1.mono (by simp))⟩
  | some ys =>
    rw [hp] at CA
    have CA' : Hid (∀ w, Calls Tryz.prog 81 #[.string s] w fun e w' => ∃ v, e = .returned (.tuple #[v, .bool true]) ∧ Below w.heap.size w w') := CA
    clear CA
    cases hg : gds x1 x2 x3 x4 with
    | false =>
      rw [hg] at CG
      have HR : Hid (vAns (some ys) x1 x2 x3 x4 = (false, 4)) := by show _ = _; simp [vAns, hg]
      unfold stV
      go_enter Tryz.func49, Tryz.ntmps49
      go_wp2_with (first
        | (go_at_call 81; refine (CA'.out _).mono ?_; rintro e w1 ⟨v, rfl, hb1⟩; have d0 : w1.cell? ⟨w.heap.size, 0, none⟩ = some (.int .i64 x1) := (hb1.cell (p := ⟨w.heap.size, 0, none⟩) (by simp)).trans (by simp); have d1 : w1.cell? ⟨w.heap.size, 1, none⟩ = some (.int .i64 x2) := (hb1.cell (p := ⟨w.heap.size, 1, none⟩) (by simp)).trans (by simp); have d2 : w1.cell? ⟨w.heap.size, 2, none⟩ = some (.int .i64 x3) := (hb1.cell (p := ⟨w.heap.size, 2, none⟩) (by simp)).trans (by simp); have d3 : w1.cell? ⟨w.heap.size, 3, none⟩ = some (.int .i64 x4) := (hb1.cell (p := ⟨w.heap.size, 3, none⟩) (by simp)).trans (by simp))
        | (go_at_call 82; refine (CG.out _).mono ?_; rintro e w2 ⟨rfl, hb2⟩))
      go_ret2
      have hs1 : w.heap.size + 1 ≤ w1.heap.size := by have := hb1.size; simpa using this
      exact ⟨by rw [HR.out]; rfl, ((below_alloc w _).trans (hb1.mono (by simp))).trans (hb2.mono (by omega))⟩
    | true =>
      rw [hg] at CG
      have HR : Hid (vAns (some ys) x1 x2 x3 x4 = (val x1 x2 x3 x4 ys, 0)) := by show _ = _; simp [vAns, hg]
      have CV : Hid (∀ w, Calls Tryz.prog 83 #[.string s, .agg #[.int .i64 x1, .int .i64 x2, .int .i64 x3, .int .i64 x4]] w fun e w' => e = .returned (.bool (val x1 x2 x3 x4 ys)) ∧ Below w.heap.size w w') := fun w => valued_any s x1 x2 x3 x4 ys w hmax hp hg
      generalize val x1 x2 x3 x4 ys = V at *
      unfold stV
      go_enter Tryz.func49, Tryz.ntmps49
      go_wp2_with (first
        | (go_at_call 81; refine (CA'.out _).mono ?_; rintro e w1 ⟨v, rfl, hb1⟩; have d0 : w1.cell? ⟨w.heap.size, 0, none⟩ = some (.int .i64 x1) := (hb1.cell (p := ⟨w.heap.size, 0, none⟩) (by simp)).trans (by simp); have d1 : w1.cell? ⟨w.heap.size, 1, none⟩ = some (.int .i64 x2) := (hb1.cell (p := ⟨w.heap.size, 1, none⟩) (by simp)).trans (by simp); have d2 : w1.cell? ⟨w.heap.size, 2, none⟩ = some (.int .i64 x3) := (hb1.cell (p := ⟨w.heap.size, 2, none⟩) (by simp)).trans (by simp); have d3 : w1.cell? ⟨w.heap.size, 3, none⟩ = some (.int .i64 x4) := (hb1.cell (p := ⟨w.heap.size, 3, none⟩) (by simp)).trans (by simp); have hs1 : w.heap.size < w1.heap.size := (by have := hb1.size; simp at this; omega))
        | (go_at_call 82; refine (CG.out _).mono ?_; rintro e w2 ⟨rfl, hb2⟩; have e0 := (hb2.cell (p := ⟨w.heap.size, 0, none⟩) hs1).trans d0; have e1 := (hb2.cell (p := ⟨w.heap.size, 1, none⟩) hs1).trans d1; have e2 := (hb2.cell (p := ⟨w.heap.size, 2, none⟩) hs1).trans d2; have e3 := (hb2.cell (p := ⟨w.heap.size, 3, none⟩) hs1).trans d3)
        | (go_at_call 83; refine (CV.out _).mono ?_; rintro e w3 ⟨rfl, hb3⟩))
      go_ret2
      exact ⟨by rw [HR.out]; rfl, (((below_alloc w _).trans (hb1.mono (by simp))).trans (hb2.mono (by omega))).trans (hb3.mono (by have := hb2.size; omega))⟩
end Go.Proofs.YtkinoehmcfhgbaaGreatDoor.Vl
set_option linter.unusedVariables false
set_option linter.unusedSimpArgs false
namespace Go.Proofs.YtkinoehmcfhgbaaGreatDoor.Vl
open Go.RowKit

theorem Tryz.sizeVSym : (Tryz.prog.info? 136).map (·.size) = some 4 := by kernel_rfl
def vset4 (X : World) (B : Nat) (c0 c1 c2 c3 : Value) : World := (((X.setCell ⟨B, 0, none⟩ c0).setCell ⟨B, 1, none⟩ c1).setCell ⟨B, 2, none⟩ c2).setCell ⟨B, 3, none⟩ c3
theorem load4 (X : World) (B : Nat) (c0 c1 c2 c3 : Value) (h0 : X.cell? ⟨B, 0, none⟩ = some c0) (h1 : X.cell? ⟨B, 1, none⟩ = some c1) (h2 : X.cell? ⟨B, 2, none⟩ = some c2) (h3 : X.cell? ⟨B, 3, none⟩ = some c3) : (loadVar 136 ⟨B, 0, none⟩).run Tryz.prog X = .ok (.agg #[c0, c1, c2, c3]) X :=
  run_loadVar_mid _ _ 0 136 [c0, c1, c2, c3] _ (by
    intro j v hv
    match j, hv with
    | 0, hv => cases hv; exact h0
    | 1, hv => cases hv; exact h1
    | 2, hv => cases hv; exact h2
    | 3, hv => cases hv; exact h3) Tryz.underlying136 rfl Tryz.sizeVSym
theorem load_set4 (X : World) (B : Nat) (c0 c1 c2 c3 : Value) (h : ∀ j, j < 4 → ∃ u, X.cell? ⟨B, j, none⟩ = some u) : (loadVar 136 ⟨B, 0, none⟩).run Tryz.prog (vset4 X B c0 c1 c2 c3) = .ok (.agg #[c0, c1, c2, c3]) (vset4 X B c0 c1 c2 c3) := by
  unfold vset4
  refine load4 _ B c0 c1 c2 c3 ?_ ?_ ?_ ?_
  · rw [set_other _ _ _ _ _ (by omega), set_other _ _ _ _ _ (by omega), set_other _ _ _ _ _ (by omega)]; exact set_same _ _ _ (h 0 (by omega))
  · rw [set_other _ _ _ _ _ (by omega), set_other _ _ _ _ _ (by omega)]; exact set_same _ _ _ (by rw [set_other _ _ _ _ _ (by omega)]; exact h 1 (by omega))
  · rw [set_other _ _ _ _ _ (by omega)]; exact set_same _ _ _ (by rw [set_other _ _ _ _ _ (by omega), set_other _ _ _ _ _ (by omega)]; exact h 2 (by omega))
  · exact set_same _ _ _ (by rw [set_other _ _ _ _ _ (by omega), set_other _ _ _ _ _ (by omega), set_other _ _ _ _ _ (by omega)]; exact h 3 (by omega))
theorem below_set4 {a X : World} {n B : Nat} (c0 c1 c2 c3 : Value) (h : Below n a X) (hB : n ≤ B) : Below n a (vset4 X B c0 c1 c2 c3) :=
  (((h.setCell (p := ⟨B, 0, none⟩) hB c0).setCell (p := ⟨B, 1, none⟩) hB c1).setCell (p := ⟨B, 2, none⟩) hB c2).setCell (p := ⟨B, 3, none⟩) hB c3
theorem res4 (w : World) (t : TypeId) : Res w (w.alloc (.cells #[.int .i64 0, .int .i64 0, .int .i64 0, .int .i64 0] t)) 4 :=
  ⟨below_alloc _ _, by simp, fun j hj => by
    match j, hj with
    | 0, _ => simp
    | 1, _ => simp
    | 2, _ => simp
    | 3, _ => simp, fun j => by simp⟩
theorem Res.some4 {w W : World} (h : Res w W 4) : ∀ j, j < 4 → ∃ u, W.cell? ⟨w.heap.size, j, none⟩ = some u := fun j hj => ⟨_, h.2.2.1 j hj⟩
theorem mk_lew (c : Int) : -1 ≤ mk c ∧ mk c ≤ 5 := by
  unfold mk; repeat' split
  all_goals omega
def symV (y : Sym) : Value := .agg #[.int .i64 y.1, .int .i64 y.2.1, .int .i64 y.2.2.1, .int .i64 y.2.2.2]
def csymV : Option (Sym × List UInt8) → Value
  | none => .tuple #[symV (0, 0, 0, 0), .string ⟨#[]⟩, .bool false]
  | some (y, r) => .tuple #[symV y, .string ⟨r.toArray⟩, .bool true]

set_option maxRecDepth 100000 in
set_option maxHeartbeats 2000000 in
theorem cutSymbol_any (s : ByteArray) (w : World) (hg : Gl w) (hs : s.size ≤ 4000) (h0 : 0 < s.size) :
    Calls Tryz.prog 75 #[.string s] w fun e w' => e = .returned (csymV (csym s.data.toList)) ∧ Below w.heap.size w w' := by
  have hd : s.data.toList = s[0] :: rest s 1 := rest_cons s 0 h0
  have hg0 : Gl (w.alloc (.cells #[.int .i64 0, .int .i64 0, .int .i64 0, .int .i64 0] 136)) := hg.on (below_alloc _ _)
  have hr0 := res4 w 136
  have HC : Hid (csym s.data.toList = if (0 : Int) ≤ Lib.indexByte mks6 s[0] then some ((Lib.indexByte mks6 s[0], 0, 0, 0), rest s 1) else
    if (Lib.cut s.data.toList [46]).2.2 = true then (patm (Lib.cut s.data.toList [46]).1).map fun a => ((6, a), (Lib.cut s.data.toList [46]).2.1) else none) := by
    show _ = _; rw [hd]; rfl
  have CI : Hid (∀ w, Calls Tryz.prog 112 #[.string ⟨#[116, 102, 33, 38, 124, 62]⟩, .int .u8 (s[0].toNat : Int)] w fun e w' => e = .returned (.int .i64 (Lib.indexByte mks6 s[0])) ∧ w = w') := ib_mks s[0]
  have hir : (-1 : Int) ≤ Lib.indexByte mks6 s[0] ∧ Lib.indexByte mks6 s[0] ≤ 5 := by rw [mks_mk]; exact mk_lew _
  generalize Lib.indexByte mks6 s[0] = I at *
  clear hd
  by_cases hI : 0 ≤ I
  · have HC2 : Hid (csym s.data.toList = some ((I, 0, 0, 0), rest s 1)) := by show _ = _; rw [HC.out, if_pos hI]
    have HX : Hid ((⟨(rest s 1).toArray⟩ : ByteArray) = s.extract 1 s.size) := by
      show _ = _; rw [extract_str]
      congr 2
      rw [List.take_of_length_le (by rw [rest_len]; omega)]
    clear HC
    go_enter Tryz.func75, Tryz.ntmps75
    go_wp2_with (go_at_call 112; refine (CI.out _).mono ?_; rintro e w' ⟨rfl, rfl⟩)
    go_region
    go_wp2_with fail
    refine bodyPost_ret (results_c3 rfl rfl rfl rfl (load4 _ _ (.int .i64 I) (.int .i64 0) (.int .i64 0) (.int .i64 0) (by simp) (by simp) (by simp) (by simp))) rfl ⟨?_, (below_alloc _ _).drew⟩
    rw [HC2.out]
    simp only [csymV]
    rw [HX.out]; rfl
  · obtain ⟨X1, X2, E, hcut⟩ : ∃ x y z, Lib.cut s.data.toList [46] = (x, y, z) := ⟨_, _, _, rfl⟩
    have hx1 : X1.length ≤ 4000 := by
      have h1 : (Lib.cut s.data.toList [46]).1.length ≤ s.data.toList.length := by
        unfold Lib.cut; split
        · simp; omega
        · simp
      rw [hcut] at h1
      have h2 : s.data.toList.length = s.size := by simp
      exact Nat.le_trans h1 (by omega)
    have CC : Hid (∀ w, Gl w → Calls Tryz.prog 113 #[.string s, .string ⟨#[46]⟩] w fun e w' => e = .returned (.tuple #[.string ⟨X1.toArray⟩, .string ⟨X2.toArray⟩, .bool E]) ∧ Below w.heap.size w w') := fun w h => by
      have := cut_any s ⟨#[46]⟩ w h hs
      have e : (⟨#[46]⟩ : ByteArray).data.toList = [46] := rfl
      rw [e, hcut] at this
      exact this
    have CP0 : Hid (∀ w, Gl w → Calls Tryz.prog 114 #[.string ⟨X1.toArray⟩] w fun e w' => e = .returned (patV (patm X1)) ∧ Below w.heap.size w w') := fun w h => parseAtom_any ⟨X1.toArray⟩ w h (by show X1.toArray.size ≤ 4000; simpa using hx1)
    have HC2 : Hid (csym s.data.toList = if E = true then (patm X1).map fun a => ((6, a), X2) else none) := by show _ = _; rw [HC.out, if_neg hI, hcut]
    clear HC hcut
    generalize (⟨X1.toArray⟩ : ByteArray) = S1 at *
    cases hp : patm X1 with
    | none =>
      have HN : Hid (csym s.data.toList = none) := by show _ = _; rw [HC2.out, hp]; split <;> rfl
      rw [hp] at CP0
      have CP : Hid (∀ w, Gl w → Calls Tryz.prog 114 #[.string S1] w fun e w' => e = .returned (.tuple #[.agg #[.int .i64 0, .int .i64 0, .int .i64 0], .bool false]) ∧ Below w.heap.size w w') := CP0
      clear CP0 HC2 hp
      generalize (⟨X2.toArray⟩ : ByteArray) = S2 at *
      go_enter Tryz.func75, Tryz.ntmps75
      go_wp2_with (first
        | (go_at_call 112; refine (CI.out _).mono ?_; rintro e w' ⟨rfl, rfl⟩)
        | (go_at_call 113; refine (CC.out _ hg0).mono ?_; rintro e w1 ⟨rfl, hb1⟩; have hr1 := hr0.on hb1; have hg1 := hg0.on hb1)
        | (go_at_call 114; refine (CP.out _ hg1).mono ?_; rintro e w2 ⟨rfl, hb2⟩; have hr2 := hr1.on hb2; have hr3 := hr2.on (below_alloc w2 (.cells #[.int .i64 0, .int .i64 0, .int .i64 0] 134)); have y0 := hr3.2.2.1 0 (by omega); have y1 := hr3.2.2.1 1 (by omega); have y2 := hr3.2.2.1 2 (by omega); have y3 := hr3.2.2.1 3 (by omega); have f0 := hr3.2.2.2 0; have f1 := hr3.2.2.2 1; have f2 := hr3.2.2.2 2; have f3 := hr3.2.2.2 3; have hne : ¬ w2.heap.size = w.heap.size := (by have := hr2.2.1; omega); have hne' : ¬ w.heap.size = w2.heap.size := (by have := hr2.2.1; omega)))
      all_goals (exact bodyPost_ret (results_c3 rfl rfl rfl rfl (load_set4 _ _ _ _ _ _ hr3.some4)) rfl ⟨by rw [HN.out]; rfl, below_set4 _ _ _ _ hr3.1 (Nat.le_refl _)⟩)
    | some q =>
      obtain ⟨a1, a2, a3⟩ := q
      rw [hp] at CP0
      have CP : Hid (∀ w, Gl w → Calls Tryz.prog 114 #[.string S1] w fun e w' => e = .returned (.tuple #[.agg #[.int .i64 a1, .int .i64 a2, .int .i64 a3], .bool true]) ∧ Below w.heap.size w w') := CP0
      cases E with
      | false =>
        have HN : Hid (csym s.data.toList = none) := by show _ = _; rw [HC2.out]; rfl
        clear CP0 HC2 hp
        generalize (⟨X2.toArray⟩ : ByteArray) = S2 at *
        go_enter Tryz.func75, Tryz.ntmps75
        go_wp2_with (first
          | (go_at_call 112; refine (CI.out _).mono ?_; rintro e w' ⟨rfl, rfl⟩)
          | (go_at_call 113; refine (CC.out _ hg0).mono ?_; rintro e w1 ⟨rfl, hb1⟩; have hr1 := hr0.on hb1; have hg1 := hg0.on hb1)
          | (go_at_call 114; refine (CP.out _ hg1).mono ?_; rintro e w2 ⟨rfl, hb2⟩; have hr2 := hr1.on hb2; have hr3 := hr2.on (below_alloc w2 (.cells #[.int .i64 a1, .int .i64 a2, .int .i64 a3] 134)); have y0 := hr3.2.2.1 0 (by omega); have y1 := hr3.2.2.1 1 (by omega); have y2 := hr3.2.2.1 2 (by omega); have y3 := hr3.2.2.1 3 (by omega); have f0 := hr3.2.2.2 0; have f1 := hr3.2.2.2 1; have f2 := hr3.2.2.2 2; have f3 := hr3.2.2.2 3; have hne : ¬ w2.heap.size = w.heap.size := (by have := hr2.2.1; omega); have hne' : ¬ w.heap.size = w2.heap.size := (by have := hr2.2.1; omega)))
        exact bodyPost_ret (results_c3 rfl rfl rfl rfl (load_set4 _ _ _ _ _ _ hr3.some4)) rfl ⟨by rw [HN.out]; rfl, below_set4 _ _ _ _ hr3.1 (Nat.le_refl _)⟩
      | true =>
        have HN : Hid (csym s.data.toList = some ((6, a1, a2, a3), X2)) := by show _ = _; rw [HC2.out, hp]; rfl
        have HS2 : Hid (csymV (some ((6, a1, a2, a3), X2)) = .tuple #[.agg #[.int .i64 6, .int .i64 a1, .int .i64 a2, .int .i64 a3], .string ⟨X2.toArray⟩, .bool true]) := rfl
        clear CP0 HC2 hp
        generalize (⟨X2.toArray⟩ : ByteArray) = S2 at *
        go_enter Tryz.func75, Tryz.ntmps75
        go_wp2_with (first
          | (go_at_call 112; refine (CI.out _).mono ?_; rintro e w' ⟨rfl, rfl⟩)
          | (go_at_call 113; refine (CC.out _ hg0).mono ?_; rintro e w1 ⟨rfl, hb1⟩; have hr1 := hr0.on hb1; have hg1 := hg0.on hb1)
          | (go_at_call 114; refine (CP.out _ hg1).mono ?_; rintro e w2 ⟨rfl, hb2⟩; have hr2 := hr1.on hb2; have hr3 := hr2.on (below_alloc w2 (.cells #[.int .i64 a1, .int .i64 a2, .int .i64 a3] 134)); have y0 := hr3.2.2.1 0 (by omega); have y1 := hr3.2.2.1 1 (by omega); have y2 := hr3.2.2.1 2 (by omega); have y3 := hr3.2.2.1 3 (by omega); have f0 := hr3.2.2.2 0; have f1 := hr3.2.2.2 1; have f2 := hr3.2.2.2 2; have f3 := hr3.2.2.2 3; have hne : ¬ w2.heap.size = w.heap.size := (by have := hr2.2.1; omega); have hne' : ¬ w.heap.size = w2.heap.size := (by have := hr2.2.1; omega)))
        exact bodyPost_ret (results_c3 rfl rfl rfl rfl (load_set4 _ _ _ _ _ _ hr3.some4)) rfl ⟨by rw [HN.out, HS2.out]; rfl, below_set4 _ _ _ _ hr3.1 (Nat.le_refl _)⟩
end Go.Proofs.YtkinoehmcfhgbaaGreatDoor.Vl
