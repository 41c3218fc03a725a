/-
  The walk of the document's number: which one an atom of a list is.
  Conditions as lists of symbols; the walk of the document's Atoms.
  What a condition comes to by the values of its atoms: plain words, and lists of numbers in memory.
-/
import Derived.Test.YtkinoehmcfhgbaaGreatDoorV0
import Derived.Laws.StructEq
set_option linter.unusedVariables false
set_option linter.unusedSimpArgs false
namespace Go.Proofs.YtkinoehmcfhgbaaGreatDoor.Vl
open Go.RowKit

/- Lists of atoms in memory. -/
def cell3 (a : Atm) : List Value := [.int .i64 a.1, .int .i64 a.2.1, .int .i64 a.2.2]
def cells3 (l : List Atm) : List Value := l.flatMap cell3
theorem cells3_at : ∀ (l : List Atm) (j : Nat) (a : Atm), l[j]? = some a → (cells3 l)[j * 3]? = some (.int .i64 a.1) ∧ (cells3 l)[j * 3 + 1]? = some (.int .i64 a.2.1) ∧ (cells3 l)[j * 3 + 2]? = some (.int .i64 a.2.2)
  | [], j, a, h => by simp at h
  | x :: r, 0, a, h => by simp at h; subst h; simp [cells3, cell3]
  | x :: r, j + 1, a, h => by
    have := cells3_at r j a (by simpa using h)
    have e1 : (j + 1) * 3 = j * 3 + 3 := by omega
    simp only [cells3, List.flatMap_cons] at *
    rw [e1]
    refine ⟨?_, ?_, ?_⟩
    · rw [List.getElem?_append_right (by simp [cell3])]; simpa [cell3] using this.1
    · rw [List.getElem?_append_right (by simp [cell3])]; simpa [cell3, Nat.add_assoc] using this.2.1
    · rw [List.getElem?_append_right (by simp [cell3])]; simpa [cell3, Nat.add_assoc] using this.2.2
/-- A list of atoms, as it lies in memory. -/
def Atms (w : World) (v : Value) (ls : List Atm) : Prop :=
  (v = .slice none 0 0 ∧ ls = []) ∨ ∃ b cap, v = .slice (some ⟨b, 0, none⟩) ls.length cap ∧ ls.length ≤ cap ∧ cap ≤ maxLen ∧ b < w.heap.size ∧ ∀ j a, ls[j]? = some a → w.cell? ⟨b, j * 3, none⟩ = some (.int .i64 a.1) ∧ w.cell? ⟨b, j * 3 + 1, none⟩ = some (.int .i64 a.2.1) ∧ w.cell? ⟨b, j * 3 + 2, none⟩ = some (.int .i64 a.2.2)
theorem Atms.below {w w' : World} {v : Value} {ls : List Atm} (h : Atms w v ls) (hb : Below w.heap.size w w') : Atms w' v ls := by
  rcases h with h | ⟨b, cap, h1, h2, h3, h4, h5⟩
  · exact Or.inl h
  · exact Or.inr ⟨b, cap, h1, h2, h3, Nat.lt_of_lt_of_le h4 hb.size, fun j t ht => ⟨(hb.cell (p := ⟨b, j * 3, none⟩) h4).trans (h5 j t ht).1, (hb.cell (p := ⟨b, j * 3 + 1, none⟩) h4).trans (h5 j t ht).2.1, (hb.cell (p := ⟨b, j * 3 + 2, none⟩) h4).trans (h5 j t ht).2.2⟩⟩
theorem own_atms {w : World} {base : Nat} {v : Value} {ls : List Atm} (h : w.ownsRow base 236 3 v ls.length (cells3 ls)) : Atms w v ls := by
  rcases h.2 with ⟨h1, h2⟩ | ⟨g, cap, cur, hv, hg, hh, h3, h4, h5, h6⟩
  · exact Or.inl ⟨h1, by cases ls <;> simp_all⟩
  · have hlt : g < w.heap.size := by
      rcases Nat.lt_or_ge g w.heap.size with h | h
      · exact h
      · rw [Array.getElem?_eq_none h] at hh; cases hh
    refine Or.inr ⟨g, cap, hv, h3, h4, hlt, fun j a ha => ?_⟩
    have hj : j < ls.length := by
      rcases Nat.lt_or_ge j ls.length with h | h
      · exact h
      · rw [List.getElem?_eq_none h] at ha; cases ha
    have hc := cells3_at ls j a ha
    have e : ∀ i u, (cells3 ls)[i]? = some u → w.cell? ⟨g, i, none⟩ = some u := by
      intro i u hu
      rw [← h6, List.getElem?_take] at hu
      split at hu
      · have : cur[i]? = some u := by simpa using hu
        simp [World.cell?, hh, this]
      · cases hu
    exact ⟨e _ _ hc.1, e _ _ hc.2.1, e _ _ hc.2.2⟩
/-- Which one an atom is; -1: it is not there. -/
def nmb : List Atm → Atm → Int → Int
  | [], _, _ => -1
  | x :: r, a, i => if x = a then i else nmb r a (i + 1)

theorem eq_atm (w : World) (x y z a b c : Int) : (binOp .eql 236 (.agg #[.int .i64 x, .int .i64 y, .int .i64 z]) (.agg #[.int .i64 a, .int .i64 b, .int .i64 c])).run Tryz.prog w = .ok (.bool (x == a && (y == b && z == c))) w := by
  have e1 : Tryz.prog.underlying 236 = some (.struct (Tryz.prog.fieldsOf 236)) := by kernel_rfl
  have e2 : Tryz.prog.stoodInHeld 236 = false := by kernel_rfl
  rw [run_eql_struct, run_equalIn_agg _ 9999 _ _ _ e1 e2]
  simp only [Program.fieldsOf, Tryz.underlying236]
  simp [Op.eqFields, part, run_equalIn_int, Tryz.underlying3]
  by_cases h1 : x = a <;> by_cases h2 : y = b <;> by_cases h3 : z = c <;> simp [h1, h2, h3]

set_option maxRecDepth 100000 in
set_option maxHeartbeats 1000000 in
theorem number_any (v : Value) (ls : List Atm) (a : Atm) (w : World) (hl : Atms w v ls) (hn : ls.length ≤ 4000) :
    Calls Tryz.prog 118 #[v, atV a] w fun e w' => e = .returned (.int .i64 (nmb ls a 0)) ∧ Below w.heap.size w w' := by
  obtain ⟨a1, a2, a3⟩ := a
  unfold atV
  dsimp only
  rcases hl with ⟨rfl, rfl⟩ | ⟨b, cap, rfl, hc1, hc2, hb, hcells⟩
  · go_enter Tryz.func118, Tryz.ntmps118
    go_wp2
    go_loop [5] (fun i => i = .int .i64 0) (fun i => 0)
    case atStart => rfl
    case round =>
      obtain rfl := hrel
      go_wp2
      go_ret
      exact ⟨rfl, below_alloc _ _⟩
  · have HC : Hid _ := hcells
    clear hcells
    have hbne : ¬ b = w.heap.size := by omega
    go_enter Tryz.func118, Tryz.ntmps118
    go_wp2
    have hB := below_alloc w (.cells #[.int .i64 a1, .int .i64 a2, .int .i64 a3] 236)
    have c1 : (w.alloc (.cells #[.int .i64 a1, .int .i64 a2, .int .i64 a3] 236)).cell? ⟨w.heap.size, 0, none⟩ = some (.int .i64 a1) := by simp
    have c2 : (w.alloc (.cells #[.int .i64 a1, .int .i64 a2, .int .i64 a3] 236)).cell? ⟨w.heap.size, 1, none⟩ = some (.int .i64 a2) := by simp
    have c3 : (w.alloc (.cells #[.int .i64 a1, .int .i64 a2, .int .i64 a3] 236)).cell? ⟨w.heap.size, 2, none⟩ = some (.int .i64 a3) := by simp
    have HWs : w.heap.size < (w.alloc (.cells #[.int .i64 a1, .int .i64 a2, .int .i64 a3] 236)).heap.size := by simp
    generalize w.alloc (.cells #[.int .i64 a1, .int .i64 a2, .int .i64 a3] 236) = W at *
    have hWs : w.heap.size < W.heap.size := HWs
    clear HWs
    go_loopw [5] (fun i wr => ∃ k : Nat, i = .int .i64 (k : Int) ∧ k ≤ ls.length ∧ nmb ls (a1, a2, a3) 0 = nmb (ls.drop k) (a1, a2, a3) k ∧ Below W.heap.size W wr) (fun i _ => ls.length - (intOf i).toNat)
    case atStart => exact ⟨0, rfl, Nat.zero_le _, rfl, Below.refl _ _⟩
    case round =>
      obtain ⟨k, rfl, hk, hq, hBr⟩ := hrel
      have Q : Hid _ := hq
      clear hq
      by_cases hlt : k < ls.length
      · obtain ⟨⟨x1, x2, x3⟩, hx⟩ : ∃ x, ls[k]? = some x := ⟨_, List.getElem?_eq_getElem hlt⟩
        obtain ⟨z1, z2, z3⟩ := HC.out k _ hx
        have E : Hid (nmb (ls.drop k) (a1, a2, a3) k = if (x1 == a1 && (x2 == a2 && x3 == a3)) = true then (k : Int) else nmb (ls.drop (k + 1)) (a1, a2, a3) ((k + 1 : Nat) : Int)) := by
          show _ = _
          have : ls[k] = (x1, x2, x3) := by rw [List.getElem?_eq_getElem hlt] at hx; exact Option.some.inj hx
          rw [List.drop_eq_getElem_cons hlt, this, nmb]
          simp [Prod.ext_iff]
        have hlt' : (k : Int) < (ls.length : Int) := by omega
        clear hx
        have hbW : b < W.heap.size := Nat.lt_trans hb hWs
        have y1 := (hBr.cell (p := ⟨b, k * 3, none⟩) hbW).trans ((hB.cell (p := ⟨b, k * 3, none⟩) hb).trans z1)
        have y2 := (hBr.cell (p := ⟨b, k * 3 + 1, none⟩) hbW).trans ((hB.cell (p := ⟨b, k * 3 + 1, none⟩) hb).trans z2)
        have y3 := (hBr.cell (p := ⟨b, k * 3 + 2, none⟩) hbW).trans ((hB.cell (p := ⟨b, k * 3 + 2, none⟩) hb).trans z3)
        have v1 := (hBr.cell (p := ⟨w.heap.size, 0, none⟩) hWs).trans c1
        have v2 := (hBr.cell (p := ⟨w.heap.size, 1, none⟩) hWs).trans c2
        have v3 := (hBr.cell (p := ⟨w.heap.size, 2, none⟩) hWs).trans c3
        clear z1 z2 z3 c1 c2 c3
        have heq := fun w => eq_atm w x1 x2 x3 a1 a2 a3
        go_wp2
        all_goals (go_quiet (fail))
        cases hE : (x1 == a1 && (x2 == a2 && x3 == a3)) with
        | false =>
          go_wp2
          go_roundw
          case rel => exact ⟨k + 1, by go_num, by omega, by rw [Q.out, E.out, hE]; rfl, below_drewN hBr _⟩
          case measure => simp [intOf]; omega
        | true =>
          go_wp2
          go_ret
          refine ⟨ret_int ?_, hB.trans ((below_drewN hBr _).mono (by omega))⟩
          rw [Q.out, E.out, hE]; rfl
      · have hlt' : ¬ (k : Int) < (ls.length : Int) := by omega
        go_wp2
        go_ret
        refine ⟨ret_int ?_, hB.trans (hBr.mono (by omega))⟩
        rw [Q.out, List.drop_eq_nil_of_le (by omega)]; rfl
end Go.Proofs.YtkinoehmcfhgbaaGreatDoor.Vl
set_option linter.unusedVariables false
set_option linter.unusedSimpArgs false
namespace Go.Proofs.YtkinoehmcfhgbaaGreatDoor.Vl
open Go.RowKit

abbrev Sym := Int × Atm
/-- The kind of a mark; -1: it is none. -/
def mk (c : Int) : Int := if c == 116 then 0 else if c == 102 then 1 else if c == 33 then 2 else if c == 38 then 3 else if c == 124 then 4 else if c == 62 then 5 else -1
def sym : List UInt8 → Option (Sym × Nat)
  | [] => none
  | c :: r => if 0 ≤ mk (c.toNat : Int) then some ((mk (c.toNat : Int), 0, 0, 0), 1) else (atm (c :: r)).map fun q => ((6, q.1), q.2)
def prt (k : Int) : Int := if k == 2 then 1 else if k == 3 || k == 4 || k == 5 then 2 else 0
theorem prt_range (k : Int) : 0 ≤ prt k ∧ prt k ≤ 2 := by
  unfold prt; split
  · omega
  · split <;> omega
def prs : Nat → Int → List UInt8 → Option (List Sym)
  | _, m, [] => if m = 0 then some [] else none
  | 0, _, _ :: _ => none
  | f + 1, m, c :: r => if m = 0 then none else match sym (c :: r) with
    | none => none
    | some (y, k) => (prs f (m + prt y.1 - 1) ((c :: r).drop k)).map (y :: ·)
theorem sym_facts {l : List UInt8} {y : Sym} {k : Nat} (h : sym l = some (y, k)) : 1 ≤ k ∧ k ≤ l.length := by
  match l, h with
  | c :: r, h =>
    simp only [sym] at h
    split at h
    · cases h; simp
    · cases ha : atm (c :: r) with
      | none => rw [ha] at h; cases h
      | some q =>
        rw [ha] at h; cases h
        have := atm_facts (a := q.1) (k := q.2) ha
        omega
theorem prs_fuel : ∀ (f g : Nat) (m : Int) (l : List UInt8), l.length ≤ f → l.length ≤ g → prs f m l = prs g m l
  | f, g, m, [], _, _ => by cases f <;> cases g <;> rfl
  | 0, _, _, _ :: _, h, _ => by simp at h
  | _, 0, _, _ :: _, _, h => by simp at h
  | f + 1, g + 1, m, c :: r, h1, h2 => by
    simp only [prs]
    split
    · rfl
    · cases hs : sym (c :: r) with
      | none => rfl
      | some q =>
        obtain ⟨y, k⟩ := q
        have hf := sym_facts hs
        simp only
        rw [prs_fuel f g _ ((c :: r).drop k) (by rw [List.length_drop]; simp at h1 ⊢; omega) (by rw [List.length_drop]; simp at h2 ⊢; omega)]
/-- The symbols of a text of which m conditions are to come; none: it is not so. -/
def prsA (m : Int) (l : List UInt8) : Option (List Sym) := prs l.length m l
theorem prsA_nil (m : Int) : prsA m [] = if m = 0 then some [] else none := rfl
theorem prsA_zero (c : UInt8) (r : List UInt8) : prsA 0 (c :: r) = none := by unfold prsA; simp [prs]
theorem prsA_none (m : Int) (c : UInt8) (r : List UInt8) (h : sym (c :: r) = none) : prsA m (c :: r) = none := by
  unfold prsA; simp only [List.length_cons, prs, h]; split <;> rfl
theorem prsA_some (m : Int) (c : UInt8) (r : List UInt8) (y : Sym) (k : Nat) (hm : m ≠ 0) (h : sym (c :: r) = some (y, k)) : prsA m (c :: r) = (prsA (m + prt y.1 - 1) ((c :: r).drop k)).map (y :: ·) := by
  have hf := sym_facts h
  unfold prsA
  rw [show (c :: r).length = r.length + 1 from rfl, prs, if_neg hm, h]
  simp only
  rw [prs_fuel r.length _ _ ((c :: r).drop k) (by rw [List.length_drop]; simp; omega) (Nat.le_refl _)]
/-- The atoms of symbols, each once, in the order in which they come first. -/
def addA (l : List Atm) (y : Sym) : List Atm := if y.1 = 6 then (if nmb l y.2 0 < 0 then l ++ [y.2] else l) else l
def uqs (ds : List Sym) : List Atm := ds.foldl addA []
theorem uqs_snoc (ds : List Sym) (y : Sym) : uqs (ds ++ [y]) = addA (uqs ds) y := by unfold uqs; rw [List.foldl_append]; rfl
def pars (s : ByteArray) : Option (List Sym) := if 4000 < s.size then none else prsA 1 s.data.toList
theorem own_block {w : World} {base n : Nat} {e : TypeId} {sz : Nat} {v : Value} {xs : List Value} (h : w.ownsRow base e sz v n xs) : ∀ k, v.ownBlock = some k → base ≤ k := fun k hk => (h.lt k hk).1
theorem ownsRow_below {w w' : World} {base n : Nat} {e : TypeId} {sz : Nat} {v : Value} {xs : List Value} (h : w.ownsRow base e sz v n xs) (hb : Below w.heap.size w w') : w'.ownsRow base e sz v n xs :=
  h.kept (row := none) ⟨hb.os, hb.tape, hb.output, hb.size, fun k hk _ => hb.block k hk⟩ (by cases v.ownBlock <;> simp)
theorem mk_no (c : Int) (h : ¬ 0 ≤ mk c) : (c == 116) = false ∧ (c == 102) = false ∧ (c == 33) = false ∧ (c == 38) = false ∧ (c == 124) = false ∧ (c == 62) = false := by
  unfold mk at h
  repeat' (split at h; · omega)
  simp_all
theorem three_new (w : World) (B : Nat) (hB : B = w.heap.size) (a b c : Value) (t : TypeId) : ∀ j u, [a, b, c][j]? = some u → (w.alloc (.cells #[a, b, c] t)).cell? ((⟨B, 0, none⟩ : Addr).add j) = some u := by
  subst hB
  intro j u h
  match j, h with
  | 0, h => simp at h; subst h; simp [Addr.add]
  | 1, h => simp at h; subst h; simp [Addr.add]
  | 2, h => simp at h; subst h; simp [Addr.add]
theorem one_iii (x y z : Int) : ∀ u ∈ [Value.int .i64 x, .int .i64 y, .int .i64 z], u.oneCell' = true := by
  intro u hu; simp at hu; rcases hu with rfl | rfl | rfl <;> rfl
theorem cells3_snoc (l : List Atm) (a : Atm) : cells3 (l ++ [a]) = cells3 l ++ [.int .i64 a.1, .int .i64 a.2.1, .int .i64 a.2.2] := by simp [cells3, cell3]

def AtmsEnd (w : World) (p : Option (List Sym)) (e : Ending) (w' : World) : Prop :=
  ∃ v, e = .returned (.tuple #[v, .bool p.isSome]) ∧ (∀ ys, p = some ys → Atms w' v (uqs ys)) ∧ Below w.heap.size w w'
/-- A mark is met. -/
theorem step_mark (s : ByteArray) (k : Nat) (m : Int) (P : Option (List Sym)) (ds : List Sym) (h : k < s.size) (hm : m ≠ 0) (q : Int) (hq : mk (s[k].toNat : Int) = q) (h0 : 0 ≤ q)
    (hP : P = (prsA m (rest s k)).map (ds ++ ·)) : P = (prsA (m + prt q - 1) (rest s (k + 1))).map ((ds ++ [(q, 0, 0, 0)]) ++ ·) ∧ uqs (ds ++ [(q, 0, 0, 0)]) = uqs ds := by
  have hs : sym (s[k] :: rest s (k + 1)) = some ((q, 0, 0, 0), 1) := by
    simp only [sym, hq]; rw [if_pos h0]
  constructor
  · rw [hP, rest_cons s k h, prsA_some m _ _ _ _ hm hs]
    simp [Option.map_map, Function.comp_def]
  · rw [uqs_snoc, addA, if_neg]
    have : q ≤ 5 := by rw [← hq]; unfold mk; repeat' split
                       all_goals omega
    dsimp only; omega

set_option maxRecDepth 100000 in
set_option maxHeartbeats 2000000 in
theorem Atoms_any (s : ByteArray) (w : World) (hmax : s.size ≤ maxLen) :
    Calls Tryz.prog 81 #[.string s] w fun e w' => AtmsEnd w (pars s) e w' := by
  by_cases hlong : 4000 < s.size
  · have HP : Hid (pars s = none) := by show _ = _; unfold pars; rw [if_pos hlong]
    have hlong' : (4000 : Int) < (s.size : Int) := by omega
    go_enter Tryz.func81, Tryz.ntmps81
    go_wp2
    go_ret2
    exact ⟨_, by rw [HP.out]; rfl, fun ys h => by (rw [HP.out] at h; cases h), Below.refl _ _⟩
  · have HP : Hid (pars s = prsA 1 (rest s 0)) := by show _ = _; unfold pars; rw [if_neg hlong]; rfl
    have hlong' : ¬ (4000 : Int) < (s.size : Int) := by omega
    generalize pars s = P at *
    obtain ⟨i0, hi, hz0, hz1, hz2⟩ := info_parts Tryz.infoAtm
    go_enter Tryz.func81, Tryz.ntmps81
    go_wp2_with fail
    go_loopw [4, 5, 6] (fun v c i wr => ∃ (k : Nat) (m : Int) (ds : List Sym), k ≤ s.size ∧ i = .int .i64 (k : Int) ∧ c = .int .i64 m ∧ 0 ≤ m ∧ m ≤ k + 1 ∧ wr.ownsRow w.heap.size 236 3 v (uqs ds).length (cells3 (uqs ds)) ∧ (uqs ds).length ≤ k ∧ P = (prsA m (rest s k)).map (ds ++ ·) ∧ Below w.heap.size w wr) (fun _ _ i _ => s.size - (intOf i).toNat)
    case atStart => exact ⟨0, 1, [], Nat.zero_le _, rfl, rfl, by omega, by omega, World.ownsRow_nil _ _ _ _, Nat.le_refl _, by rw [HP.out]; simp, Below.refl _ _⟩
    case round =>
      obtain ⟨k, m, ds, hk, rfl, rfl, hm0, hm1, hown, hul, hq, hnx⟩ := hrel
      have Q : Hid (P = (prsA m (rest s k)).map (ds ++ ·)) := hq
      clear hq HP
      by_cases hlt : k < s.size
      · by_cases hz : m = 0
        · subst hz
          have HN : Hid (P = none) := by show _ = _; rw [Q.out, rest_cons s k hlt, prsA_zero]; rfl
          go_wp2_with fail
          go_ret2
          exact ⟨_, by rw [HN.out]; rfl, fun ys h => by (rw [HN.out] at h; cases h), hnx⟩
        · have hz' : (m == 0) = false := by simpa using hz
          by_cases hmk : 0 ≤ mk (s[k].toNat : Int)
          · have HM : Hid _ := hmk
            clear hmk
            go_wp2_with fail
            · have hmq : mk (s[k].toNat : Int) = 0 := by simp only [mk, *, if_true, Bool.false_eq_true, if_false]
              obtain ⟨S1, S2⟩ := step_mark s k m P ds hlt hz 0 hmq (by omega) Q.out
              have ee : m + prt 0 - 1 = m - 1 := by show m + 0 - 1 = m - 1; omega
              rw [ee] at S1
              go_roundw
              case rel => exact ⟨k + 1, m - 1, ds ++ [(0, 0, 0, 0)], by omega, by go_num, rfl, by omega, by omega, by rw [S2]; exact hown, by rw [S2]; omega, S1, hnx⟩
              case measure => simp [intOf]; omega
            · have hmq : mk (s[k].toNat : Int) = 1 := by simp only [mk, *, if_true, Bool.false_eq_true, if_false]
              obtain ⟨S1, S2⟩ := step_mark s k m P ds hlt hz 1 hmq (by omega) Q.out
              have ee : m + prt 1 - 1 = m - 1 := by show m + 0 - 1 = m - 1; omega
              rw [ee] at S1
              go_roundw
              case rel => exact ⟨k + 1, m - 1, ds ++ [(1, 0, 0, 0)], by omega, by go_num, rfl, by omega, by omega, by rw [S2]; exact hown, by rw [S2]; omega, S1, hnx⟩
              case measure => simp [intOf]; omega
            · have hmq : mk (s[k].toNat : Int) = 2 := by simp only [mk, *, if_true, Bool.false_eq_true, if_false]
              obtain ⟨S1, S2⟩ := step_mark s k m P ds hlt hz 2 hmq (by omega) Q.out
              have ee : m + prt 2 - 1 = m := by show m + 1 - 1 = m; omega
              rw [ee] at S1
              go_roundw
              case rel => exact ⟨k + 1, m, ds ++ [(2, 0, 0, 0)], by omega, by go_num, rfl, by omega, by omega, by rw [S2]; exact hown, by rw [S2]; omega, S1, hnx⟩
              case measure => simp [intOf]; omega
            · have hmq : mk (s[k].toNat : Int) = 3 := by simp only [mk, *, if_true, Bool.false_eq_true, if_false]
              obtain ⟨S1, S2⟩ := step_mark s k m P ds hlt hz 3 hmq (by omega) Q.out
              have ee : m + prt 3 - 1 = m + 1 := by show m + 2 - 1 = m + 1; omega
              rw [ee] at S1
              go_roundw
              case rel => exact ⟨k + 1, m + 1, ds ++ [(3, 0, 0, 0)], by omega, by go_num, rfl, by omega, by omega, by rw [S2]; exact hown, by rw [S2]; omega, S1, hnx⟩
              case measure => simp [intOf]; omega
            · have hmq : mk (s[k].toNat : Int) = 4 := by simp only [mk, *, if_true, Bool.false_eq_true, if_false]
              obtain ⟨S1, S2⟩ := step_mark s k m P ds hlt hz 4 hmq (by omega) Q.out
              have ee : m + prt 4 - 1 = m + 1 := by show m + 2 - 1 = m + 1; omega
              rw [ee] at S1
              go_roundw
              case rel => exact ⟨k + 1, m + 1, ds ++ [(4, 0, 0, 0)], by omega, by go_num, rfl, by omega, by omega, by rw [S2]; exact hown, by rw [S2]; omega, S1, hnx⟩
              case measure => simp [intOf]; omega
            · have hmq : mk (s[k].toNat : Int) = 5 := by simp only [mk, *, if_true, Bool.false_eq_true, if_false]
              obtain ⟨S1, S2⟩ := step_mark s k m P ds hlt hz 5 hmq (by omega) Q.out
              have ee : m + prt 5 - 1 = m + 1 := by show m + 2 - 1 = m + 1; omega
              rw [ee] at S1
              go_roundw
              case rel => exact ⟨k + 1, m + 1, ds ++ [(5, 0, 0, 0)], by omega, by go_num, rfl, by omega, by omega, by rw [S2]; exact hown, by rw [S2]; omega, S1, hnx⟩
              case measure => simp [intOf]; omega
            · exfalso
              have := HM.out
              simp only [mk, *, if_true, Bool.false_eq_true, if_false] at this
              omega
          · obtain ⟨g1, g2, g3, g4, g5, g6⟩ := mk_no _ hmk
            have CA : Hid (Calls Tryz.prog 117 #[.string s, .int .i64 (k : Int)] wr fun e w' => e = .returned (atmV k (atm (rest s k))) ∧ Below wr.heap.size wr w') := atomAt_any s k wr (by omega) (by omega)
            cases ha : atm (rest s k) with
            | none =>
              have HN : Hid (P = none) := by
                show _ = _
                have hs : sym (s[k] :: rest s (k + 1)) = none := by
                  simp only [sym]; rw [if_neg hmk, ← rest_cons s k hlt, ha]; rfl
                rw [Q.out, rest_cons s k hlt, prsA_none _ _ _ hs]; rfl
              rw [ha] at CA
              have CA' : Hid (Calls Tryz.prog 117 #[.string s, .int .i64 (k : Int)] wr fun e w' => e = .returned (.tuple #[.agg #[.int .i64 0, .int .i64 0, .int .i64 0], .int .i64 0, .bool false]) ∧ Below wr.heap.size wr w') := CA
              clear CA ha hmk
              go_wp2_with (first | (go_at_call 117; refine (CA'.out).mono ?_; rintro e w1 ⟨rfl, hb1⟩))
              go_ret2
              exact ⟨_, by rw [HN.out]; rfl, fun ys h => by (rw [HN.out] at h; cases h), (hnx.trans (hb1.mono hnx.size)).alloc (by have := hb1.size; have := hnx.size; omega) _⟩
            | some q =>
              obtain ⟨⟨a1, a2, a3⟩, j⟩ := q
              obtain ⟨-, -, -, -, -, -, -, hj1, hj2, -⟩ := atm_facts ha
              rw [rest_len] at hj2
              have Q2 : Hid (P = (prsA (m - 1) (rest s (k + j))).map ((ds ++ [(6, a1, a2, a3)]) ++ ·)) := by
                show _ = _
                have hs : sym (s[k] :: rest s (k + 1)) = some ((6, a1, a2, a3), j) := by
                  simp only [sym]; rw [if_neg hmk, ← rest_cons s k hlt, ha]; rfl
                rw [Q.out, rest_cons s k hlt, prsA_some m _ _ _ _ hz hs, ← rest_cons s k hlt, rest_drop]
                have ee : m + prt 6 - 1 = m - 1 := by show m + 0 - 1 = m - 1; omega
                simp [Option.map_map, Function.comp_def, ee]
              rw [ha] at CA
              have CA' : Hid (Calls Tryz.prog 117 #[.string s, .int .i64 (k : Int)] wr fun e w' => e = .returned (.tuple #[.agg #[.int .i64 a1, .int .i64 a2, .int .i64 a3], .int .i64 ((k + j : Nat) : Int), .bool true]) ∧ Below wr.heap.size wr w') := CA
              have HU : Hid (uqs (ds ++ [(6, a1, a2, a3)]) = if nmb (uqs ds) (a1, a2, a3) 0 < 0 then uqs ds ++ [(a1, a2, a3)] else uqs ds) := by
                show _ = _; rw [uqs_snoc, addA, if_pos rfl]
              clear CA ha hmk Q
              generalize hU : uqs ds = U at *
              generalize hJ : k + j = J at *
              have CN : Hid (∀ w, Atms w u4 U → Calls Tryz.prog 118 #[u4, .agg #[.int .i64 a1, .int .i64 a2, .int .i64 a3]] w fun e w' => e = .returned (.int .i64 (nmb U (a1, a2, a3) 0)) ∧ Below w.heap.size w w') := fun w h => number_any u4 U (a1, a2, a3) w h (by omega)
              clear hU
              by_cases hneg : nmb U (a1, a2, a3) 0 < 0
              · have HU2 : Hid (uqs (ds ++ [(6, a1, a2, a3)]) = U ++ [(a1, a2, a3)]) := by show _ = _; rw [HU.out, if_pos hneg]
                clear HU
                generalize nmb U (a1, a2, a3) 0 = nn at *
                go_wp2_with (first
                  | (go_at_call 117; refine (CA'.out).mono ?_; rintro e w1 ⟨rfl, hb1⟩; have hat : Atms (w1.alloc (.cells #[.int .i64 a1, .int .i64 a2, .int .i64 a3] 236)) u4 U := (own_atms (ownsRow_below hown hb1)).below (below_alloc _ _))
                  | (go_at_call 118; refine (CN.out _ hat).mono ?_; rintro e w2 ⟨rfl, hb2⟩; have hw12 : w1.heap.size < w2.heap.size := (by have := hb2.size; simp at this; omega); have y1 : w2.cell? ⟨w1.heap.size, 0, none⟩ = some (.int .i64 a1) := (hb2.cell (p := ⟨w1.heap.size, 0, none⟩) (by simp)).trans (by simp); have y2 : w2.cell? ⟨w1.heap.size, 1, none⟩ = some (.int .i64 a2) := (hb2.cell (p := ⟨w1.heap.size, 1, none⟩) (by simp)).trans (by simp); have y3 : w2.cell? ⟨w1.heap.size, 2, none⟩ = some (.int .i64 a3) := (hb2.cell (p := ⟨w1.heap.size, 2, none⟩) (by simp)).trans (by simp))
                  | (at_builtin; refine wpList_append_own _ rfl _ _ 163 rfl w.heap.size 236 i0 (.agg #[.int .i64 0, .int .i64 0, .int .i64 0]) 3 24 Tryz.underlying163 hi hz0 hz1 hz2 rfl (by decide) _ _ _ rfl ((ownsRow_below (ownsRow_below (ownsRow_below hown hb1) (below_alloc _ _)) hb2).alloc _) ⟨w2.heap.size, 0, none⟩ 1 1 [.int .i64 a1, .int .i64 a2, .int .i64 a3] rfl rfl (three_new _ _ rfl _ _ _ _) (one_iii _ _ _) (by unfold maxLen; omega) (by omega) (by have := hb1.size; have := hnx.size; simp; omega) ?_))
                intro v' w3 hown3 hgrow _
                have hb1s := hb1.size
                have hnxs := hnx.size
                have hbb : Below w.heap.size w w2 := (hnx.trans (hb1.mono hnxs)).trans (((below_alloc w1 _).mono (by omega)).trans (hb2.mono (by simp; omega)))
                have hb3 := (hbb.alloc (by omega) _).grown hgrow (by simp; omega) (own_block hown)
                clear hown hgrow y1 y2 y3
                go_wp2_with fail
                go_roundw
                case rel => exact ⟨J, m - 1, ds ++ [(6, a1, a2, a3)], by omega, rfl, rfl, by omega, by omega, by rw [HU2.out, cells3_snoc, List.length_append]; exact hown3, by rw [HU2.out]; simp; omega, Q2.out, hb3⟩
                case measure => simp [intOf]; omega
              · have HU2 : Hid (uqs (ds ++ [(6, a1, a2, a3)]) = U) := by show _ = _; rw [HU.out, if_neg hneg]
                clear HU
                generalize nmb U (a1, a2, a3) 0 = nn at *
                go_wp2_with (first
                  | (go_at_call 117; refine (CA'.out).mono ?_; rintro e w1 ⟨rfl, hb1⟩; have hat : Atms (w1.alloc (.cells #[.int .i64 a1, .int .i64 a2, .int .i64 a3] 236)) u4 U := (own_atms (ownsRow_below hown hb1)).below (below_alloc _ _))
                  | (go_at_call 118; refine (CN.out _ hat).mono ?_; rintro e w2 ⟨rfl, hb2⟩))
                have hb1s := hb1.size
                have hnxs := hnx.size
                have hbb : Below w.heap.size w w2 := (hnx.trans (hb1.mono hnxs)).trans (((below_alloc w1 _).mono (by omega)).trans (hb2.mono (by simp; omega)))
                go_roundw
                case rel => exact ⟨J, m - 1, ds ++ [(6, a1, a2, a3)], by omega, rfl, rfl, by omega, by omega, by rw [HU2.out]; exact ownsRow_below (ownsRow_below (ownsRow_below hown hb1) (below_alloc _ _)) hb2, by rw [HU2.out]; omega, Q2.out, hbb⟩
                case measure => simp [intOf]; omega
      · have Q2 : Hid (P = if m = 0 then some ds else none) := by
          show _ = _
          rw [Q.out, rest_end s k (by omega), prsA_nil]
          split <;> simp
        go_wp2_with fail
        go_ret2
        refine ⟨u4, by rw [Q2.out]; by_cases h : m = 0 <;> simp [h], fun ys h => ?_, hnx⟩
        rw [Q2.out] at h
        split at h
        · cases h; exact own_atms hown
        · cases h
end Go.Proofs.YtkinoehmcfhgbaaGreatDoor.Vl
set_option linter.unusedVariables false
set_option linter.unusedSimpArgs false
namespace Go.Proofs.YtkinoehmcfhgbaaGreatDoor.Vl
open Go.RowKit

def sgk (q : Int) : Int := if q == 3 then 38 else if q == 4 then 124 else 62
/-- One symbol: its parts' values lie on the stack (the first part's on top). -/
def wst (ls : List Atm) (bs : List Int) (y : Sym) (st : List Int) : List Int :=
  if y.1 = 0 then 1 :: st else if y.1 = 1 then 0 :: st else if y.1 = 6 then bs.getD (nmb ls y.2 0).toNat 0 :: st
  else if y.1 = 2 then (match st with | x :: r => (if x < 2 then 1 - x else x) :: r | [] => [])
  else match st with | x :: z :: r => tbl (sgk y.1) x z :: r | _ => []
def wrun (ls : List Atm) (bs : List Int) (ys : List Sym) : List Int := ys.foldr (wst ls bs) []
theorem wrun_cons (ls : List Atm) (bs : List Int) (y : Sym) (r : List Sym) : wrun ls bs (y :: r) = wst ls bs y (wrun ls bs r) := rfl

/-- The symbols of a text from a place on, and where each begins. -/
def Pos (s : ByteArray) : Nat → Int → List Sym → List Nat → Prop
  | k, m, [], ps => ps = [] ∧ k = s.size ∧ m = 0
  | k, m, y :: r, ps => ∃ j ps', ps = k :: ps' ∧ k < s.size ∧ m ≠ 0 ∧ sym (rest s k) = some (y, j) ∧ Pos s (k + j) (m + prt y.1 - 1) r ps'
theorem pos_of (s : ByteArray) : ∀ (ys : List Sym) (k : Nat) (m : Int), k ≤ s.size → prsA m (rest s k) = some ys → ∃ ps, Pos s k m ys ps := by
  intro ys
  induction ys with
  | nil =>
    intro k m hk h
    by_cases hlt : k < s.size
    · exfalso
      rw [rest_cons s k hlt] at h
      by_cases hm : m = 0
      · subst hm; rw [prsA_zero] at h; cases h
      · cases hs : sym (s[k] :: rest s (k + 1)) with
        | none => rw [prsA_none _ _ _ hs] at h; cases h
        | some q =>
          rw [prsA_some m _ _ q.1 q.2 hm hs] at h
          cases hq : prsA (m + prt q.1.1 - 1) ((s[k] :: rest s (k + 1)).drop q.2) <;> rw [hq] at h <;> cases h
    · rw [rest_end s k (by omega), prsA_nil] at h
      split at h
      · exact ⟨[], rfl, by omega, by assumption⟩
      · cases h
  | cons y r ih =>
    intro k m hk h
    by_cases hlt : k < s.size
    · rw [rest_cons s k hlt] at h
      by_cases hm : m = 0
      · subst hm; rw [prsA_zero] at h; cases h
      · cases hs : sym (s[k] :: rest s (k + 1)) with
        | none => rw [prsA_none _ _ _ hs] at h; cases h
        | some q =>
          obtain ⟨z, j⟩ := q
          have hf := sym_facts hs
          rw [prsA_some m _ _ z j hm hs, ← rest_cons s k hlt, rest_drop] at h
          cases hq : prsA (m + prt z.1 - 1) (rest s (k + j)) with
          | none => rw [hq] at h; cases h
          | some r' =>
            rw [hq] at h
            cases h
            have hl : (s[k] :: rest s (k + 1)).length = s.size - k := by rw [← rest_cons s k hlt, rest_len]
            obtain ⟨ps', hps⟩ := ih (k + j) _ (by omega) hq
            exact ⟨k :: ps', j, ps', rfl, hlt, hm, by rw [rest_cons s k hlt]; exact hs, hps⟩
    · rw [rest_end s k (by omega), prsA_nil] at h
      split at h <;> cases h
theorem sym_kind {s : ByteArray} {k : Nat} {y : Sym} {j : Nat} (hk : k < s.size) (h : sym (rest s k) = some (y, j)) :
    (0 ≤ mk (s[k].toNat : Int) ∧ y = (mk (s[k].toNat : Int), 0, 0, 0) ∧ j = 1) ∨ (¬ 0 ≤ mk (s[k].toNat : Int) ∧ ∃ a, y = (6, a) ∧ atm (rest s k) = some (a, j)) := by
  rw [rest_cons s k hk] at h
  simp only [sym] at h
  split at h
  · rename_i hm
    cases h; exact Or.inl ⟨hm, rfl, rfl⟩
  · rename_i hm
    rw [← rest_cons s k hk] at h
    cases ha : atm (rest s k) with
    | none => rw [ha] at h; cases h
    | some q => rw [ha] at h; cases h; exact Or.inr ⟨hm, q.1, rfl, rfl⟩
theorem mk_le (c : Int) : -1 ≤ mk c ∧ mk c ≤ 5 := by
  unfold mk; repeat' split
  all_goals omega
theorem kind_range {s : ByteArray} {k : Nat} {y : Sym} {j : Nat} (hk : k < s.size) (h : sym (rest s k) = some (y, j)) : 0 ≤ y.1 ∧ y.1 ≤ 6 := by
  rcases sym_kind hk h with ⟨h0, rfl, _⟩ | ⟨_, a, rfl, _⟩
  · have := mk_le (s[k].toNat : Int); dsimp only; omega
  · dsimp only; omega
theorem wst_len (ls : List Atm) (bs : List Int) (y : Sym) (st : List Int) (h0 : 0 ≤ y.1) (h6 : y.1 ≤ 6) (h : prt y.1 ≤ st.length) : ((wst ls bs y st).length : Int) = st.length - prt y.1 + 1 := by
  obtain ⟨q, a⟩ := y
  dsimp only at *
  have hq : q = 0 ∨ q = 1 ∨ q = 6 ∨ q = 2 ∨ q = 3 ∨ q = 4 ∨ q = 5 := by omega
  rcases hq with rfl | rfl | rfl | rfl | rfl | rfl | rfl
  · simp [wst, prt]
  · simp [wst, prt]
  · simp [wst, prt]
  · match st, h with
    | [], h => exact absurd h (by decide)
    | x :: r, _ => simp [wst, prt]
  all_goals
    match st, h with
    | [], h => exact absurd h (by decide)
    | [x], h => simp [prt] at h
    | x :: z :: r, _ => simp [wst, prt]; omega
theorem wrun_len {s : ByteArray} (ls : List Atm) (bs : List Int) : ∀ (ys : List Sym) (k : Nat) (m : Int) (ps : List Nat), Pos s k m ys ps → 0 ≤ m → ((wrun ls bs ys).length : Int) = m
  | [], k, m, ps, h, _ => by obtain ⟨_, _, rfl⟩ := h; rfl
  | y :: r, k, m, ps, h, hm => by
    obtain ⟨j, ps', rfl, hk, hm0, hs, hp⟩ := h
    have hr := kind_range hk hs
    have hpr := prt_range y.1
    have ih := wrun_len ls bs r (k + j) _ ps' hp (by omega)
    rw [wrun_cons, wst_len ls bs y _ hr.1 hr.2 (by omega), ih]; omega
theorem pos_at {s : ByteArray} (ls : List Atm) (bs : List Int) : ∀ (ys : List Sym) (k : Nat) (m : Int) (ps : List Nat), Pos s k m ys ps → 0 ≤ m → ps.length = ys.length ∧ ∀ n, n < ys.length →
    ∃ p y j, ps[n]? = some p ∧ ys[n]? = some y ∧ p < s.size ∧ sym (rest s p) = some (y, j) ∧ prt y.1 ≤ (wrun ls bs (ys.drop (n + 1))).length
  | [], k, m, ps, h, _ => by obtain ⟨rfl, _, _⟩ := h; exact ⟨rfl, fun n hn => absurd hn (by simp)⟩
  | y :: r, k, m, ps, h, hm => by
    obtain ⟨j, ps', rfl, hk, hm0, hs, hp⟩ := h
    have hpr := prt_range y.1
    have ih := pos_at ls bs r (k + j) _ ps' hp (by omega)
    refine ⟨by simp [ih.1], fun n hn => ?_⟩
    cases n with
    | zero =>
      have := wrun_len ls bs r (k + j) _ ps' hp (by omega)
      exact ⟨k, y, j, rfl, rfl, hk, hs, by simp only [Nat.zero_add, List.drop_succ_cons, List.drop_zero]; omega⟩
    | succ n =>
      obtain ⟨p, z, i, h1, h2, h3, h4, h5⟩ := ih.2 n (by simpa using hn)
      exact ⟨p, z, i, by simpa using h1, by simpa using h2, h3, h4, by simpa using h5⟩
theorem tbl_range (g x y : Int) : 0 ≤ tbl g x y ∧ tbl g x y ≤ 2 := by
  unfold tbl; repeat' split
  all_goals omega
theorem getD_range {bs : List Int} (h : ∀ x ∈ bs, 0 ≤ x ∧ x ≤ 2) (n : Nat) : 0 ≤ bs.getD n 0 ∧ bs.getD n 0 ≤ 2 := by
  rw [List.getD_eq_getElem?_getD]
  cases hn : bs[n]? with
  | none => simp
  | some x => exact h x (List.mem_of_getElem? hn)
theorem wst_range {ls : List Atm} {bs : List Int} (hb : ∀ x ∈ bs, 0 ≤ x ∧ x ≤ 2) (y : Sym) (st : List Int) (h : ∀ x ∈ st, 0 ≤ x ∧ x ≤ 2) : ∀ x ∈ wst ls bs y st, 0 ≤ x ∧ x ≤ 2 := by
  unfold wst
  split
  · intro x hx; simp at hx; rcases hx with rfl | hx
    · omega
    · exact h x hx
  · split
    · intro x hx; simp at hx; rcases hx with rfl | hx
      · omega
      · exact h x hx
    · split
      · intro x hx
        rcases List.mem_cons.1 hx with rfl | hx
        · exact getD_range hb _
        · exact h x hx
      · split
        · split
          · rename_i x r
            intro z hz
            have hx := h x (by simp)
            rcases List.mem_cons.1 hz with rfl | hz
            · split <;> omega
            · exact h z (by simp [hz])
          · intro x hx; cases hx
        · split
          · intro z hz
            rcases List.mem_cons.1 hz with rfl | hz
            · exact tbl_range _ _ _
            · exact h z (by simp [hz])
          · intro x hx; cases hx
theorem wrun_range {ls : List Atm} {bs : List Int} (hb : ∀ x ∈ bs, 0 ≤ x ∧ x ≤ 2) : ∀ ys : List Sym, ∀ x ∈ wrun ls bs ys, 0 ≤ x ∧ x ≤ 2
  | [] => by intro x hx; cases hx
  | y :: r => by rw [wrun_cons]; exact wst_range hb y _ (wrun_range hb r)

/- Lists of numbers in memory. -/
def iv (x : Int) : Value := .int .i64 x
def IntsR (w : World) (v : Value) (bs : List Int) : Prop :=
  (v = .slice none 0 0 ∧ bs = []) ∨ ∃ b cap, v = .slice (some ⟨b, 0, none⟩) bs.length cap ∧ bs.length ≤ cap ∧ cap ≤ maxLen ∧ b < w.heap.size ∧ ∀ j x, bs[j]? = some x → w.cell? ⟨b, j, none⟩ = some (iv x)
theorem IntsR.below {w w' : World} {v : Value} {ls : List Int} (h : IntsR w v ls) (hb : Below w.heap.size w w') : IntsR w' v ls := by
  rcases h with h | ⟨b, cap, h1, h2, h3, h4, h5⟩
  · exact Or.inl h
  · exact Or.inr ⟨b, cap, h1, h2, h3, Nat.lt_of_lt_of_le h4 hb.size, fun j t ht => (hb.cell (p := ⟨b, j, none⟩) h4).trans (h5 j t ht)⟩
theorem own_facts {w : World} {base n : Nat} {e : TypeId} {v : Value} {xs : List Value} (h : w.ownsRow base e 1 v n xs) (hn : 0 < n) :
    ∃ g cap, v = .slice (some ⟨g, 0, none⟩) n cap ∧ base ≤ g ∧ g < w.heap.size ∧ n ≤ cap ∧ cap ≤ maxLen ∧ (∀ j u, xs[j]? = some u → w.cell? ⟨g, j, none⟩ = some u) ∧ ∀ o, w.frozen? ⟨g, o, none⟩ = false := by
  rcases h.2 with ⟨h1, h2⟩ | ⟨g, cap, cur, hv, hg, hh, h3, h4, h5, h6⟩
  · omega
  · have hlt : g < w.heap.size := by
      rcases Nat.lt_or_ge g w.heap.size with h | h
      · exact h
      · rw [Array.getElem?_eq_none h] at hh; cases hh
    refine ⟨g, cap, hv, hg, hlt, h3, h4, fun j u hu => ?_, fun o => by simp [World.frozen?, hh]⟩
    rw [← h6, List.getElem?_take] at hu
    split at hu
    · have : cur[j]? = some u := by simpa using hu
      simp [World.cell?, hh, this]
    · cases hu
theorem own_take {w : World} {base n g cap : Nat} {e : TypeId} {xs : List Value} (h : w.ownsRow base e 1 (.slice (some ⟨g, 0, none⟩) n cap) n xs) (m : Nat) (hm : m ≤ n) : w.ownsRow base e 1 (.slice (some ⟨g, 0, none⟩) m cap) m (xs.take m) := by
  refine ⟨by rw [List.length_take, h.1]; omega, ?_⟩
  rcases h.2 with ⟨h1, h2⟩ | ⟨g', cap', cur, hv, hg, hh, h3, h4, h5, h6⟩
  · cases h1
  · cases hv
    exact Or.inr ⟨g, cap, cur, rfl, hg, hh, by omega, h4, h5, by rw [← h6, List.take_take]; congr 1; omega⟩
theorem own_set {w : World} {base n g cap : Nat} {e : TypeId} {xs : List Value} (h : w.ownsRow base e 1 (.slice (some ⟨g, 0, none⟩) n cap) n xs) (j : Nat) (u : Value) : (w.setCell ⟨g, j, none⟩ u).ownsRow base e 1 (.slice (some ⟨g, 0, none⟩) n cap) n (xs.set j u) := by
  refine ⟨by rw [List.length_set, h.1], ?_⟩
  rcases h.2 with ⟨h1, h2⟩ | ⟨g', cap', cur, hv, hg, hh, h3, h4, h5, h6⟩
  · cases h1
  · cases hv
    refine Or.inr ⟨g, cap, cur.setIfInBounds j u, rfl, hg, heap_setCell_same w g j cur e u hh, h3, h4, by simpa using h5, ?_⟩
    rw [← h6]
    simp [List.take_set]
theorem own_ints {w : World} {base : Nat} {v : Value} {ls : List Int} (h : w.ownsRow base 3 1 v ls.length (ls.map iv)) : IntsR w v ls := by
  by_cases hn : 0 < ls.length
  · obtain ⟨g, cap, rfl, _, h2, h3, h4, h5, _⟩ := own_facts h hn
    exact Or.inr ⟨g, cap, rfl, h3, h4, h2, fun j x hx => h5 j _ (by rw [List.getElem?_map, hx]; rfl)⟩
  · have hl : ls = [] := List.length_eq_zero_iff.1 (by omega)
    subst hl
    rcases h.2 with ⟨h1, h2⟩ | ⟨g, cap, cur, hv, hg, hh, h3, h4, h5, h6⟩
    · exact Or.inl ⟨h1, rfl⟩
    · have hlt : g < w.heap.size := by
        rcases Nat.lt_or_ge g w.heap.size with h | h
        · exact h
        · rw [Array.getElem?_eq_none h] at hh; cases hh
      exact Or.inr ⟨g, cap, hv, h3, h4, hlt, fun j x hx => by simp at hx⟩
theorem Tryz.infoInt : (Tryz.prog.info? 3).map (fun i => (i.zero, i.size, i.bytes)) = some (some (.int .i64 0), 1, 8) := by kernel_rfl
theorem one_new (w : World) (B : Nat) (hB : B = w.heap.size) (a : Value) (t : TypeId) : ∀ j u, [a][j]? = some u → (w.alloc (.cells #[a] t)).cell? ((⟨B, 0, none⟩ : Addr).add j) = some u := by
  subst hB
  intro j u h
  match j, h with
  | 0, h => simp at h; subst h; simp [Addr.add]
theorem one_i (x : Int) : ∀ u ∈ [Value.int .i64 x], u.oneCell' = true := by
  intro u hu; simp at hu; subst hu; rfl
end Go.Proofs.YtkinoehmcfhgbaaGreatDoor.Vl
