/-
  The walk of the program's Parse: a text is a condition just where the document says so, and its symbols lie in the list that comes out.
  The walks of the program's Operand.value, Atom.holds and Symbol.holds.
  The walk of the program's Condition.Holds.
  The walk of the program's Value: it answers what the document answers.
  The statements' ran: the document's example, run and turned into conditions; what Weakest needs, plain.
-/
import Derived.Test.YtkinoehmcfhgbaaGreatDoorV13
import Derived.Test.YtkinoehmcfhgbaaGreatDoorV8
import Derived.Deep.RegionHeld3
import Derived.Test.YtkinoehmcfhgbaaGreatDoorS3
import Derived.Test.YtkinoehmcfhgbaaGreatDoorN24
import Derived.Test.YtkinoehmcfhgbaaGreatDoorX1
import Derived.Laws.StructEq
set_option linter.unusedVariables false
set_option linter.unusedSimpArgs false
namespace Go.Proofs.YtkinoehmcfhgbaaGreatDoor.Vl
open Go.RowKit

set_option maxHeartbeats 400000 in
theorem vparts_any (k : Int) (w : World) :
    Calls Tryz.prog 76 #[.int .i64 k] w fun e w' => e = .returned (.int .i64 (prt k)) ∧ w = w' := by
  go_enter Tryz.func76, Tryz.ntmps76
  go_wp2
  all_goals go_ret
  all_goals refine ⟨ret_int ?_, rfl⟩
  all_goals simp_all [prt]

def vcell4 (y : Sym) : List Value := [.int .i64 y.1, .int .i64 y.2.1, .int .i64 y.2.2.1, .int .i64 y.2.2.2]
def vcells4 (l : List Sym) : List Value := l.flatMap vcell4
theorem vcells4_snoc (l : List Sym) (y : Sym) : vcells4 (l ++ [y]) = vcells4 l ++ vcell4 y := by simp [vcells4]
theorem Tryz.infoVSym : (Tryz.prog.info? 136).map (fun i => (i.zero, i.size, i.bytes)) = some (some (.agg #[.int .i64 0, .int .i64 0, .int .i64 0, .int .i64 0]), 4, 32) := by kernel_rfl
theorem four_new (w : World) (B : Nat) (hB : B = w.heap.size) (a b c d : Value) (t : TypeId) : ∀ j u, [a, b, c, d][j]? = some u → (w.alloc (.cells #[a, b, c, d] t)).cell? ((⟨B, 0, none⟩ : Addr).add j) = some u := by
  subst hB
  intro j u h
  match j, h with
  | 0, h => simp at h; subst h; simp [Addr.add]
  | 1, h => simp at h; subst h; simp [Addr.add]
  | 2, h => simp at h; subst h; simp [Addr.add]
  | 3, h => simp at h; subst h; simp [Addr.add]
theorem one_iiii (x y z t : Int) : ∀ u ∈ [Value.int .i64 x, .int .i64 y, .int .i64 z, .int .i64 t], u.oneCell' = true := by
  intro u hu; simp at hu; rcases hu with rfl | rfl | rfl | rfl <;> rfl

def tsz : Value → Nat
  | .string t => t.size
  | _ => 0
theorem tsz_str (t : ByteArray) : tsz (.string t) = t.size := rfl
def ParseEnd (w : World) (p : Option (List Sym)) (e : Ending) (w' : World) : Prop :=
  ∃ v, e = .returned (.tuple #[v, .bool p.isSome]) ∧ (∀ ys, p = some ys → w'.ownsRow w.heap.size 136 4 v ys.length (vcells4 ys)) ∧ Below w.heap.size w w'

set_option maxRecDepth 100000 in
set_option maxHeartbeats 2000000 in
theorem parse_any (s : ByteArray) (w : World) (hg : Gl w) (hmax : s.size ≤ maxLen) :
    Calls Tryz.prog 46 #[.string s] w fun e w' => ParseEnd w (pars s) e w' := by
  by_cases hlong : 4000 < s.size
  · have HP : Hid (pars s = none) := by show _ = _; unfold pars; rw [if_pos hlong]
    have hlong' : (4000 : Int) < (s.size : Int) := by omega
    go_enter Tryz.func46, Tryz.ntmps46
    go_wp2
    go_ret2
    exact ⟨_, by rw [HP.out]; rfl, fun ys h => by (rw [HP.out] at h; cases h), Below.refl _ _⟩
  · have HP : Hid (pars s = prsA 1 (rest s 0)) := by show _ = _; unfold pars; rw [if_neg hlong]; rfl
    have hlong' : ¬ (4000 : Int) < (s.size : Int) := by omega
    generalize pars s = P at *
    obtain ⟨i0, hi, hz0, hz1, hz2⟩ := info_parts Tryz.infoVSym
    go_enter Tryz.func46, Tryz.ntmps46
    go_wp2_with fail
    go_loopw [0, 4, 5] (fun tv v c wr => ∃ (t : ByteArray) (k : Nat) (m : Int) (ds : List Sym), k ≤ s.size ∧ tv = .string t ∧ t.data.toList = rest s k ∧ c = .int .i64 m ∧ 0 ≤ m ∧ m ≤ k + 1 ∧ wr.ownsRow w.heap.size 136 4 v ds.length (vcells4 ds) ∧ ds.length ≤ k ∧ P = (prsA m (rest s k)).map (ds ++ ·) ∧ Below w.heap.size w wr) (fun tv _ _ _ => tsz tv)
    case atStart => exact ⟨s, 0, 1, [], Nat.zero_le _, rfl, rfl, rfl, by omega, by omega, World.ownsRow_nil _ _ _ _, Nat.le_refl _, by rw [HP.out]; simp, Below.refl _ _⟩
    case round =>
      obtain ⟨t, k, m, ds, hk, rfl, ht, rfl, hm0, hm1, hown, hul, hq, hnx⟩ := hrel
      have Q : Hid (P = (prsA m (rest s k)).map (ds ++ ·)) := hq
      have HT : Hid (t.data.toList = rest s k) := ht
      have htl : t.size = s.size - k := by
        have : t.data.toList.length = t.size := by simp
        rw [← this, ht, rest_len]
      clear hq HP ht
      have hgr := hg.on hnx
      by_cases hlt : k < s.size
      · have ht0 : 0 < t.size := by omega
        have ht0' : (0 : Int) < (t.size : Int) := by omega
        have CS : Hid (Calls Tryz.prog 75 #[.string t] wr fun e w' => e = .returned (csymV (csym t.data.toList)) ∧ Below wr.heap.size wr w') := cutSymbol_any t wr hgr (by omega) ht0
        rw [HT.out, rest_cons s k hlt, csym_sym, ← rest_cons s k hlt] at CS
        have HTL : Hid (t.size = s.size - k) := htl
        clear htl
        cases hsy : sym (rest s k) with
        | none =>
          have HN : Hid (P = none) := by
            show _ = _
            rw [Q.out, rest_cons s k hlt, prsA_none _ _ _ (by rw [← rest_cons s k hlt]; exact hsy)]; rfl
          rw [hsy] at CS
          have CS' : Hid (Calls Tryz.prog 75 #[.string t] wr fun e w' => e = .returned (.tuple #[.agg #[.int .i64 0, .int .i64 0, .int .i64 0, .int .i64 0], .string ⟨#[]⟩, .bool false]) ∧ Below wr.heap.size wr w') := CS
          clear CS
          go_wp2_with (go_at_call 75; refine (CS'.out).mono ?_; rintro e w1 ⟨rfl, hb1⟩)
          all_goals go_ret2
          all_goals exact ⟨_, by rw [HN.out]; rfl, fun ys h => by (rw [HN.out] at h; cases h), (hnx.trans (hb1.mono hnx.size)).alloc (by have := hb1.size; have := hnx.size; omega) _⟩
        | some q =>
          obtain ⟨⟨y0, y1, y2, y3⟩, j⟩ := q
          have hj := sym_facts hsy
          rw [rest_len] at hj
          rw [hsy] at CS
          have hdr : (rest s k).drop j = rest s (k + j) := rest_drop s k j
          have CS' : Hid (Calls Tryz.prog 75 #[.string t] wr fun e w' => e = .returned (.tuple #[.agg #[.int .i64 y0, .int .i64 y1, .int .i64 y2, .int .i64 y3], .string ⟨(rest s (k + j)).toArray⟩, .bool true]) ∧ Below wr.heap.size wr w') := by rw [← hdr]; exact CS
          have HT2 : Hid ((⟨(rest s (k + j)).toArray⟩ : ByteArray).data.toList = rest s (k + j)) := rfl
          have HTS : Hid ((⟨(rest s (k + j)).toArray⟩ : ByteArray).size = s.size - (k + j)) := by
            show (rest s (k + j)).toArray.size = _; rw [List.size_toArray, rest_len]
          clear CS hdr
          generalize (⟨(rest s (k + j)).toArray⟩ : ByteArray) = T2 at *
          by_cases hz : m = 0
          · subst hz
            have HN : Hid (P = none) := by show _ = _; rw [Q.out, rest_cons s k hlt, prsA_zero]; rfl
            go_wp2_with (go_at_call 75; refine (CS'.out).mono ?_; rintro e w1 ⟨rfl, hb1⟩)
            go_ret2
            exact ⟨_, by rw [HN.out]; rfl, fun ys h => by (rw [HN.out] at h; cases h), (hnx.trans (hb1.mono hnx.size)).alloc (by have := hb1.size; have := hnx.size; omega) _⟩
          · have hz' : (m == 0) = false := by simpa using hz
            have Q2 : Hid (P = (prsA (m + (prt y0 - 1)) (rest s (k + j))).map ((ds ++ [(y0, y1, y2, y3)]) ++ ·)) := by
              show _ = _
              rw [Q.out, rest_cons s k hlt, prsA_some m _ _ (y0, y1, y2, y3) j hz (by rw [← rest_cons s k hlt]; exact hsy), ← rest_cons s k hlt, rest_drop]
              have ee : m + prt y0 - 1 = m + (prt y0 - 1) := by omega
              simp [Option.map_map, Function.comp_def, ee]
            have hpr := prt_range y0
            clear hsy
            generalize hpp : prt y0 = pp at *
            have CPt : Hid (∀ w, Calls Tryz.prog 76 #[.int .i64 y0] w fun e w' => e = .returned (.int .i64 pp) ∧ w = w') := fun w => by rw [← hpp]; exact vparts_any y0 w
            clear hpp
            go_wp2_with (first
              | (go_at_call 75; refine (CS'.out).mono ?_; rintro e w1 ⟨rfl, hb1⟩; have hown1 := (ownsRow_below hown hb1).alloc (.cells #[.int .i64 y0, .int .i64 y1, .int .i64 y2, .int .i64 y3] 136))
              | (at_builtin; refine wpList_append_own _ rfl _ _ 75 rfl w.heap.size 136 i0 (.agg #[.int .i64 0, .int .i64 0, .int .i64 0, .int .i64 0]) 4 32 Tryz.underlying75 hi hz0 hz1 hz2 rfl (by decide) _ _ _ rfl (hown1.alloc _) ⟨w1.heap.size + 1, 0, none⟩ 1 1 [.int .i64 y0, .int .i64 y1, .int .i64 y2, .int .i64 y3] rfl rfl (four_new _ _ (by simp) _ _ _ _ _) (one_iiii _ _ _ _) (by unfold maxLen; omega) (by omega) (by have := hb1.size; have := hnx.size; simp; omega) ?_))
            intro v' w3 hown3 hgrow _
            have hb1s := hb1.size
            have hnxs := hnx.size
            have hbb := (hnx.trans (hb1.mono hnxs)).alloc (by omega) (.cells #[.int .i64 y0, .int .i64 y1, .int .i64 y2, .int .i64 y3] 136)
            have hb3 := (hbb.alloc (by simp; omega) _).grown hgrow (by simp; omega) (own_block hown)
            have hy0 : w3.cell? ⟨w1.heap.size, 0, none⟩ = some (.int .i64 y0) := hgrow.cell (by simp) (by
              intro e
              have := (hown.lt _ e.symm).2
              simp at this; omega)
            clear hown hown1 hgrow hbb
            go_wp2_with (go_at_call 76; refine (CPt.out _).mono ?_; rintro e w' ⟨rfl, rfl⟩)
            go_roundw
            case rel => exact ⟨T2, k + j, m + (pp - 1), ds ++ [(y0, y1, y2, y3)], by omega, rfl, HT2.out, by go_num, by omega, by omega, by rw [vcells4_snoc, List.length_append]; exact hown3, by simp; omega, Q2.out, hb3⟩
            case measure => simp only [tsz_str]; have := HTS.out; have := HTL.out; simp [tsz_str]; omega
      · have ht0 : t.size = 0 := by omega
        have ht0' : ¬ (0 : Int) < (t.size : Int) := by omega
        have Q2 : Hid (P = if m = 0 then some ds else none) := by
          show _ = _
          rw [Q.out, rest_end s k (by omega), prsA_nil]
          split <;> simp
        clear htl ht0
        by_cases hz : m = 0
        · subst hz
          have HS : Hid (P = some ds) := by show _ = _; rw [Q2.out, if_pos rfl]
          go_wp2_with fail
          go_ret2
          exact ⟨u4, by rw [HS.out]; rfl, fun ys h => by (rw [HS.out] at h; cases h; exact hown), hnx⟩
        · have HN : Hid (P = none) := by show _ = _; rw [Q2.out, if_neg hz]
          have hz' : 0 < m := by omega
          go_wp2_with fail
          go_ret2
          exact ⟨_, by rw [HN.out]; rfl, fun ys h => by (rw [HN.out] at h; cases h), hnx⟩
end Go.Proofs.YtkinoehmcfhgbaaGreatDoor.Vl
set_option linter.unusedVariables false
set_option linter.unusedSimpArgs false
namespace Go.Proofs.YtkinoehmcfhgbaaGreatDoor.Vl
open Go.RowKit

set_option maxRecDepth 100000 in
set_option maxHeartbeats 1000000 in
theorem value_any (i x1 x2 x3 x4 : Int) (w : World) (h : 0 ≤ i ∧ i ≤ 4) :
    Calls Tryz.prog 115 #[.int .i64 i, .agg #[.int .i64 x1, .int .i64 x2, .int .i64 x3, .int .i64 x4]] w fun e w' => e = .returned (.int .i64 (xv x1 x2 x3 x4 i)) ∧ Below w.heap.size w w' := by
  have hi : i = 0 ∨ i = 1 ∨ i = 2 ∨ i = 3 ∨ i = 4 := by omega
  rcases hi with rfl | rfl | rfl | rfl | rfl
  all_goals
    go_enter Tryz.func115, Tryz.ntmps115
    go_wp2
    go_ret
    exact ⟨rfl, below_alloc _ _⟩

/-- The cells of an atom and of a state, each in a block of its own. -/
def Two (w w' : World) (B : Nat) (a1 a2 a3 x1 x2 x3 x4 : Int) : Prop :=
  Below w.heap.size w w' ∧ B + 1 < w'.heap.size ∧ w'.cell? ⟨B, 0, none⟩ = some (.int .i64 a1) ∧ w'.cell? ⟨B, 1, none⟩ = some (.int .i64 a2) ∧ w'.cell? ⟨B, 2, none⟩ = some (.int .i64 a3) ∧
  w'.cell? ⟨B + 1, 0, none⟩ = some (.int .i64 x1) ∧ w'.cell? ⟨B + 1, 1, none⟩ = some (.int .i64 x2) ∧ w'.cell? ⟨B + 1, 2, none⟩ = some (.int .i64 x3) ∧ w'.cell? ⟨B + 1, 3, none⟩ = some (.int .i64 x4)

theorem Two.on {w X X' : World} {B : Nat} {a1 a2 a3 x1 x2 x3 x4 : Int} (h : Two w X B a1 a2 a3 x1 x2 x3 x4) (hb : Below X.heap.size X X') : Two w X' B a1 a2 a3 x1 x2 x3 x4 := by
  obtain ⟨h0, h1, c0, c1, c2, d0, d1, d2, d3⟩ := h
  have hB : B < X.heap.size := by omega
  exact ⟨h0.trans (hb.mono h0.size), Nat.lt_of_lt_of_le h1 hb.size, (hb.cell (p := ⟨B, 0, none⟩) hB).trans c0, (hb.cell (p := ⟨B, 1, none⟩) hB).trans c1, (hb.cell (p := ⟨B, 2, none⟩) hB).trans c2,
    (hb.cell (p := ⟨B + 1, 0, none⟩) h1).trans d0, (hb.cell (p := ⟨B + 1, 1, none⟩) h1).trans d1, (hb.cell (p := ⟨B + 1, 2, none⟩) h1).trans d2, (hb.cell (p := ⟨B + 1, 3, none⟩) h1).trans d3⟩

set_option maxRecDepth 100000 in
set_option maxHeartbeats 2000000 in
theorem aholds_any (a1 a2 a3 x1 x2 x3 x4 : Int) (w : World) (h1 : 0 ≤ a1 ∧ a1 ≤ 4) (h2 : 0 ≤ a2 ∧ a2 ≤ 4) (hg : gds x1 x2 x3 x4 = true) :
    Calls Tryz.prog 79 #[.agg #[.int .i64 a1, .int .i64 a2, .int .i64 a3], .agg #[.int .i64 x1, .int .i64 x2, .int .i64 x3, .int .i64 x4]] w fun e w' => e = .returned (.bool (hld x1 x2 x3 x4 (a1, a2, a3))) ∧ Below w.heap.size w w' := by
  have CV : Hid (∀ (i : Int) w, 0 ≤ i ∧ i ≤ 4 → Calls Tryz.prog 115 #[.int .i64 i, .agg #[.int .i64 x1, .int .i64 x2, .int .i64 x3, .int .i64 x4]] w fun e w' => e = .returned (.int .i64 (xv x1 x2 x3 x4 i)) ∧ Below w.heap.size w w') := fun i w h => value_any i x1 x2 x3 x4 w h
  have HH : Hid (hld x1 x2 x3 x4 (a1, a2, a3) = decide (xv x1 x2 x3 x4 a1 - xv x1 x2 x3 x4 a2 ≤ a3)) := rfl
  have hX := xv_range hg a1
  have hY := xv_range hg a2
  have A1 : Hid (0 ≤ a1 ∧ a1 ≤ 4) := h1
  have A2 : Hid (0 ≤ a2 ∧ a2 ≤ 4) := h2
  clear h1 h2 hg
  generalize hxv : xv x1 x2 x3 x4 = XV at *
  clear hxv
  go_enter Tryz.func79, Tryz.ntmps79
  go_wp2_with fail
  have b0 : Below w.heap.size w ((w.alloc (.cells #[.int .i64 a1, .int .i64 a2, .int .i64 a3] 134)).alloc (.cells #[.int .i64 x1, .int .i64 x2, .int .i64 x3, .int .i64 x4] 36)) := (below_alloc w _).alloc (by simp) _
  generalize hW : (w.alloc (.cells #[.int .i64 a1, .int .i64 a2, .int .i64 a3] 134)).alloc (.cells #[.int .i64 x1, .int .i64 x2, .int .i64 x3, .int .i64 x4] 36) = W at *
  have s0 : w.heap.size + 1 < W.heap.size := by rw [← hW]; simp
  have c0 : W.cell? ⟨w.heap.size, 0, none⟩ = some (.int .i64 a1) := by rw [← hW]; simp
  have c1 : W.cell? ⟨w.heap.size, 1, none⟩ = some (.int .i64 a2) := by rw [← hW]; simp
  have c2 : W.cell? ⟨w.heap.size, 2, none⟩ = some (.int .i64 a3) := by rw [← hW]; simp
  have d0 : W.cell? ⟨w.heap.size + 1, 0, none⟩ = some (.int .i64 x1) := by rw [← hW]; simp
  have d1 : W.cell? ⟨w.heap.size + 1, 1, none⟩ = some (.int .i64 x2) := by rw [← hW]; simp
  have d2 : W.cell? ⟨w.heap.size + 1, 2, none⟩ = some (.int .i64 x3) := by rw [← hW]; simp
  have d3 : W.cell? ⟨w.heap.size + 1, 3, none⟩ = some (.int .i64 x4) := by rw [← hW]; simp
  have b1 : Below w.heap.size w W.drew := b0.drew
  have T0 : Two w W.drew w.heap.size a1 a2 a3 x1 x2 x3 x4 := ⟨b1, s0, c0, c1, c2, d0, d1, d2, d3⟩
  clear hW
  go_region_held3 (fun w' => Below w.heap.size w w' ∧ w.heap.size + 1 < w'.heap.size ∧ w'.cell? ⟨w.heap.size, 0, none⟩ = some (.int .i64 a1) ∧ w'.cell? ⟨w.heap.size, 1, none⟩ = some (.int .i64 a2) ∧ w'.cell? ⟨w.heap.size, 2, none⟩ = some (.int .i64 a3) ∧ w'.cell? ⟨w.heap.size + 1, 0, none⟩ = some (.int .i64 x1) ∧ w'.cell? ⟨w.heap.size + 1, 1, none⟩ = some (.int .i64 x2) ∧ w'.cell? ⟨w.heap.size + 1, 2, none⟩ = some (.int .i64 x3) ∧ w'.cell? ⟨w.heap.size + 1, 3, none⟩ = some (.int .i64 x4)) (simp [*]) (first | (go_at_call 115; refine (CV.out _ _ ?_).mono ?_; (first | exact A1.out | exact A2.out); rintro e w3 ⟨rfl, hb3⟩; first | (have T2 := T1.on hb3; obtain ⟨t0, t1, t2, t3, t4, t5, t6, t7, t8⟩ := id T2) | (have T1 := T0.on hb3; obtain ⟨t0, t1, t2, t3, t4, t5, t6, t7, t8⟩ := id T1)))
  have hwr : IntKind.i64.wrap (XV a1 - XV a2) = XV a1 - XV a2 := IntWalk.i64_in _ (by omega)
  go_wp2_with fail
  go_ret
  refine ⟨?_, t0⟩
  rw [HH.out]
  first | rfl | (simp only [hwr]; rfl) | simp [hwr]

end Go.Proofs.YtkinoehmcfhgbaaGreatDoor.Vl
set_option linter.unusedVariables false
set_option linter.unusedSimpArgs false
namespace Go.Proofs.YtkinoehmcfhgbaaGreatDoor.Vl
open Go.RowKit

/-- A state's cells. -/
def StAt (W : World) (B : Nat) (x1 x2 x3 x4 : Int) : Prop := B < W.heap.size ∧ W.cell? ⟨B, 0, none⟩ = some (.int .i64 x1) ∧ W.cell? ⟨B, 1, none⟩ = some (.int .i64 x2) ∧ W.cell? ⟨B, 2, none⟩ = some (.int .i64 x3) ∧ W.cell? ⟨B, 3, none⟩ = some (.int .i64 x4)
theorem StAt.on {W W' : World} {B : Nat} {x1 x2 x3 x4 : Int} (h : StAt W B x1 x2 x3 x4) (hb : Below W.heap.size W W') : StAt W' B x1 x2 x3 x4 := by
  obtain ⟨h0, a, b, c, d⟩ := h
  exact ⟨Nat.lt_of_lt_of_le h0 hb.size, (hb.cell (p := ⟨B, 0, none⟩) h0).trans a, (hb.cell (p := ⟨B, 1, none⟩) h0).trans b, (hb.cell (p := ⟨B, 2, none⟩) h0).trans c, (hb.cell (p := ⟨B, 3, none⟩) h0).trans d⟩

set_option maxRecDepth 100000 in
set_option maxHeartbeats 2000000 in
theorem hcl_any (a1 a2 a3 x1 x2 x3 x4 : Int) (B : Nat) (w : World) (hs : StAt w B x1 x2 x3 x4) (ho : okA (a1, a2, a3)) (hg : gds x1 x2 x3 x4 = true) :
    Calls Tryz.prog 77 #[.agg #[.int .i64 a1, .int .i64 a2, .int .i64 a3], .pointer (some ⟨B, 0, none⟩)] w fun e w' => e = .returned (.int .i8 (tof (hld x1 x2 x3 x4 (a1, a2, a3)))) ∧ Below w.heap.size w w' := by
  have hok := ho
  unfold okA at hok
  dsimp only at hok
  have CA : Hid (∀ w, Calls Tryz.prog 79 #[.agg #[.int .i64 a1, .int .i64 a2, .int .i64 a3], .agg #[.int .i64 x1, .int .i64 x2, .int .i64 x3, .int .i64 x4]] w fun e w' => e = .returned (.bool (hld x1 x2 x3 x4 (a1, a2, a3))) ∧ Below w.heap.size w w') := fun w => aholds_any a1 a2 a3 x1 x2 x3 x4 w ⟨by omega, by omega⟩ ⟨by omega, by omega⟩ hg
  have CT : Hid (∀ b w, Calls Tryz.prog 78 #[.bool b] w fun e w' => e = .returned (.int .i8 (tof b)) ∧ w = w') := truthOf_any
  obtain ⟨s0, s1, s2, s3, s4⟩ := hs.on (below_alloc w (.cells #[.int .i64 a1, .int .i64 a2, .int .i64 a3] 134))
  clear hs hok ho hg
  generalize hld x1 x2 x3 x4 (a1, a2, a3) = HL at *
  go_enter Tryz.func77, Tryz.ntmps77
  go_wp2_with (first
    | (go_at_call 79; refine (CA.out _).mono ?_; rintro e w3 ⟨rfl, hb3⟩)
    | (go_at_call 78; refine (CT.out _ _).mono ?_; rintro e w' ⟨rfl, rfl⟩))
  go_ret
  exact ⟨rfl, (below_alloc w _).trans (hb3.mono (by simp))⟩

set_option maxRecDepth 100000 in
set_option maxHeartbeats 2000000 in
theorem cholds_any {s : ByteArray} {ys : List Sym} (hp : pars s = some ys) (v : Value) (x1 x2 x3 x4 : Int) (w : World) (hg : gds x1 x2 x3 x4 = true) (hI : Syms w.heap.size w v ys) :
    Calls Tryz.prog 47 #[v, .agg #[.int .i64 x1, .int .i64 x2, .int .i64 x3, .int .i64 x4]] w fun e w' => e = .returned (.bool (val x1 x2 x3 x4 ys)) ∧ Below w.heap.size w w' := by
  obtain ⟨hs, hprs, _, _⟩ := pars_facts hp
  obtain ⟨ps, hps⟩ := pos_of s ys 0 1 (Nat.zero_le _) hprs
  have hl := pos_len ys 0 1 ps hps
  obtain ⟨t, ht3, hr1, hr2⟩ := val_trun x1 x2 x3 x4 hp
  obtain ⟨b, cap, rfl, hbs, hcs⟩ := id hI
  have CS : Hid (∀ W B, Below w.heap.size w W → StAt W B x1 x2 x3 x4 → Calls Tryz.prog 80 #[.slice (some ⟨b, 0, none⟩) ys.length cap, .func (.func 77) #[] #[.pointer (some ⟨B, 0, none⟩)]] W fun e w' => e = .returned (.int .i8 t) ∧ Below W.heap.size W w') := fun W B hW hst =>
    csettleH (fun a => tof (hld x1 x2 x3 x4 a)) (.pointer (some ⟨B, 0, none⟩)) (fun W => StAt W B x1 x2 x3 x4) (fun _ _ h hb => h.on hb) (fun a => t3_of _) b cap ys W (by omega) ((hI.below hW).more hW.size) (tpos_at _ ys 0 1 ps hps (by omega)) t hr1 hst (fun W a1 a2 a3 h ho => hcl_any a1 a2 a3 x1 x2 x3 x4 B W h ho hg)
  have hst : StAt (w.alloc (.cells #[.int .i64 x1, .int .i64 x2, .int .i64 x3, .int .i64 x4] 36)) w.heap.size x1 x2 x3 x4 := ⟨by simp, by simp, by simp, by simp, by simp⟩
  have HV : Hid (val x1 x2 x3 x4 ys = (t == 1)) := hr2
  have HST : Hid _ := hst
  clear hst hr1 hr2 hI hcs hps hprs hp hl
  go_enter Tryz.func47, Tryz.ntmps47
  go_wp2_with (go_at_call 80; refine (CS.out _ _ (below_alloc w _) HST.out).mono ?_; rintro e w3 ⟨rfl, hb3⟩)
  go_ret
  refine ⟨?_, (below_alloc w _).trans (hb3.mono (by simp))⟩
  rw [HV.out]; rfl
end Go.Proofs.YtkinoehmcfhgbaaGreatDoor.Vl
set_option linter.unusedVariables false
set_option linter.unusedSimpArgs false
namespace Go.Proofs.YtkinoehmcfhgbaaGreatDoor.Vl
open Go.RowKit

theorem syms_on {w w' : World} {v : Value} {ys : List Sym} (h : Syms w.heap.size w v ys) (hb : Below w.heap.size w w') : Syms w'.heap.size w' v ys := by
  obtain ⟨b, cap, h1, h2, h3⟩ := h.below hb
  exact ⟨b, cap, h1, Nat.lt_of_lt_of_le h2 hb.size, h3⟩
theorem vcells4_at : ∀ (l : List Sym) (j : Nat) (y : Sym), l[j]? = some y → (vcells4 l)[j * 4]? = some (.int .i64 y.1) ∧ (vcells4 l)[j * 4 + 1]? = some (.int .i64 y.2.1) ∧ (vcells4 l)[j * 4 + 2]? = some (.int .i64 y.2.2.1) ∧ (vcells4 l)[j * 4 + 3]? = some (.int .i64 y.2.2.2)
  | [], j, a, h => by simp at h
  | x :: r, 0, a, h => by simp at h; subst h; simp [vcells4, vcell4]
  | x :: r, j + 1, a, h => by
    have := vcells4_at r j a (by simpa using h)
    have e1 : (j + 1) * 4 = j * 4 + 4 := by omega
    simp only [vcells4, List.flatMap_cons] at *
    rw [e1]
    refine ⟨?_, ?_, ?_, ?_⟩
    · rw [List.getElem?_append_right (by simp [vcell4])]; simpa [vcell4] using this.1
    · rw [List.getElem?_append_right (by simp [vcell4])]; simpa [vcell4, Nat.add_assoc] using this.2.1
    · rw [List.getElem?_append_right (by simp [vcell4])]; simpa [vcell4, Nat.add_assoc] using this.2.2.1
    · rw [List.getElem?_append_right (by simp [vcell4])]; simpa [vcell4, Nat.add_assoc] using this.2.2.2
theorem own_syms {w : World} {base : Nat} {v : Value} {ys : List Sym} (h : w.ownsRow base 136 4 v ys.length (vcells4 ys)) (hn : 0 < ys.length) : Syms w.heap.size w v ys := by
  rcases h.2 with ⟨h1, h2⟩ | ⟨g, cap, cur, hv, hg, hh, h3, h4, h5, h6⟩
  · omega
  · have hlt : g < w.heap.size := by
      rcases Nat.lt_or_ge g w.heap.size with h | h
      · exact h
      · rw [Array.getElem?_eq_none h] at hh; cases hh
    refine ⟨g, cap, hv, hlt, fun j y hy => ?_⟩
    have hc := vcells4_at ys j y hy
    have e : ∀ i u, (vcells4 ys)[i]? = some u → w.cell? ⟨g, i, none⟩ = some u := by
      intro i u hu
      rw [← h6, List.getElem?_take] at hu
      split at hu
      · have : cur[i]? = some u := by simpa using hu
        simp [World.cell?, hh, this]
      · cases hu
    exact ⟨e _ _ hc.1, e _ _ hc.2.1, e _ _ hc.2.2.1, e _ _ hc.2.2.2⟩
set_option maxRecDepth 100000 in
set_option maxHeartbeats 2000000 in
theorem cvalue_any (s : ByteArray) (x1 x2 x3 x4 : Int) (w : World) (hgl : Gl w) (hmax : s.size ≤ maxLen) :
    Calls Tryz.prog 22 #[.string s, .agg #[.int .i64 x1, .int .i64 x2, .int .i64 x3, .int .i64 x4]] w fun e w' => e = .returned (.tuple #[.bool (vAns (pars s) x1 x2 x3 x4).1, .int .i64 (vAns (pars s) x1 x2 x3 x4).2]) ∧ Below w.heap.size w w' := by
  have CP : Hid (∀ w, Gl w → Calls Tryz.prog 46 #[.string s] w fun e w' => ParseEnd w (pars s) e w') := fun w h => parse_any s w h hmax
  have CG : Hid (∀ w, Calls Tryz.prog 43 #[.agg #[.int .i64 x1, .int .i64 x2, .int .i64 x3, .int .i64 x4]] w fun e w' => e = .returned (.bool (gds x1 x2 x3 x4)) ∧ Below w.heap.size w w') := fun w => mayBe_any x1 x2 x3 x4 w
  have hg0 : Gl (w.alloc (.cells #[.int .i64 x1, .int .i64 x2, .int .i64 x3, .int .i64 x4] 36)) := hgl.on (below_alloc _ _)
  cases hp : pars s with
  | none =>
    rw [hp] at CP
    have CP' : Hid (∀ w, Gl w → Calls Tryz.prog 46 #[.string s] w fun e w' => ∃ v, e = .returned (.tuple #[v, .bool false]) ∧ Below w.heap.size w w') := fun w h => (CP.out w h).mono fun e w' h => by obtain ⟨v, h1, _, h2⟩ := h; exact ⟨v, h1, h2⟩
    clear CP
    go_enter Tryz.func22, Tryz.ntmps22
    go_wp2_with (go_at_call 46; refine (CP'.out _ hg0).mono ?_; rintro e w1 ⟨v, rfl, hb1⟩)
    go_ret2
    exact ⟨rfl, (below_alloc w _).trans (hb1.mono (by simp))⟩
  | some ys =>
    rw [hp] at CP
    have hne : 0 < ys.length := by
      obtain ⟨r, _, hr1, _⟩ := val_trun x1 x2 x3 x4 hp
      cases ys with
      | nil => cases hr1
      | cons y r => simp
    have CP' : Hid (∀ w, Gl w → Calls Tryz.prog 46 #[.string s] w fun e w' => ∃ v, e = .returned (.tuple #[v, .bool true]) ∧ Syms w'.heap.size w' v ys ∧ Below w.heap.size w w') := fun w h => (CP.out w h).mono fun e w' h => by obtain ⟨v, h1, h3, h2⟩ := h; exact ⟨v, h1, own_syms (h3 ys rfl) hne, h2⟩
    clear CP
    cases hg : gds x1 x2 x3 x4 with
    | false =>
      rw [hg] at CG
      have HR : Hid (vAns (some ys) x1 x2 x3 x4 = (false, 4)) := by show _ = _; simp [vAns, hg]
      go_enter Tryz.func22, Tryz.ntmps22
      go_wp2_with (first
        | (go_at_call 46; refine (CP'.out _ hg0).mono ?_; rintro e w1 ⟨v, rfl, hS1, hb1⟩; have d0 : w1.cell? ⟨w.heap.size, 0, none⟩ = some (.int .i64 x1) := (hb1.cell (p := ⟨w.heap.size, 0, none⟩) (by simp)).trans (by simp); have d1 : w1.cell? ⟨w.heap.size, 1, none⟩ = some (.int .i64 x2) := (hb1.cell (p := ⟨w.heap.size, 1, none⟩) (by simp)).trans (by simp); have d2 : w1.cell? ⟨w.heap.size, 2, none⟩ = some (.int .i64 x3) := (hb1.cell (p := ⟨w.heap.size, 2, none⟩) (by simp)).trans (by simp); have d3 : w1.cell? ⟨w.heap.size, 3, none⟩ = some (.int .i64 x4) := (hb1.cell (p := ⟨w.heap.size, 3, none⟩) (by simp)).trans (by simp))
        | (go_at_call 43; refine (CG.out _).mono ?_; rintro e w2 ⟨rfl, hb2⟩))
      go_ret2
      have hs1 : w.heap.size + 1 ≤ w1.heap.size := by have := hb1.size; simpa using this
      exact ⟨by rw [HR.out]; rfl, ((below_alloc w _).trans (hb1.mono (by simp))).trans (hb2.mono (by omega))⟩
    | true =>
      rw [hg] at CG
      have HR : Hid (vAns (some ys) x1 x2 x3 x4 = (val x1 x2 x3 x4 ys, 0)) := by show _ = _; simp [vAns, hg]
      have CV : Hid (∀ w v, Syms w.heap.size w v ys → Calls Tryz.prog 47 #[v, .agg #[.int .i64 x1, .int .i64 x2, .int .i64 x3, .int .i64 x4]] w fun e w' => e = .returned (.bool (val x1 x2 x3 x4 ys)) ∧ Below w.heap.size w w') := fun w v h => cholds_any hp v x1 x2 x3 x4 w hg h
      generalize val x1 x2 x3 x4 ys = V at *
      go_enter Tryz.func22, Tryz.ntmps22
      go_wp2_with (first
        | (go_at_call 46; refine (CP'.out _ hg0).mono ?_; rintro e w1 ⟨v, rfl, hS1, hb1⟩; have d0 : w1.cell? ⟨w.heap.size, 0, none⟩ = some (.int .i64 x1) := (hb1.cell (p := ⟨w.heap.size, 0, none⟩) (by simp)).trans (by simp); have d1 : w1.cell? ⟨w.heap.size, 1, none⟩ = some (.int .i64 x2) := (hb1.cell (p := ⟨w.heap.size, 1, none⟩) (by simp)).trans (by simp); have d2 : w1.cell? ⟨w.heap.size, 2, none⟩ = some (.int .i64 x3) := (hb1.cell (p := ⟨w.heap.size, 2, none⟩) (by simp)).trans (by simp); have d3 : w1.cell? ⟨w.heap.size, 3, none⟩ = some (.int .i64 x4) := (hb1.cell (p := ⟨w.heap.size, 3, none⟩) (by simp)).trans (by simp); have hs1 : w.heap.size < w1.heap.size := (by have := hb1.size; simp at this; omega))
        | (go_at_call 43; refine (CG.out _).mono ?_; rintro e w2 ⟨rfl, hb2⟩; have e0 := (hb2.cell (p := ⟨w.heap.size, 0, none⟩) hs1).trans d0; have e1 := (hb2.cell (p := ⟨w.heap.size, 1, none⟩) hs1).trans d1; have e2 := (hb2.cell (p := ⟨w.heap.size, 2, none⟩) hs1).trans d2; have e3 := (hb2.cell (p := ⟨w.heap.size, 3, none⟩) hs1).trans d3; have hS2 := syms_on hS1 hb2)
        | (go_at_call 47; refine (CV.out _ _ hS2).mono ?_; rintro e w3 ⟨rfl, hb3⟩))
      go_ret2
      exact ⟨by rw [HR.out]; rfl, (((below_alloc w _).trans (hb1.mono (by simp))).trans (hb2.mono (by omega))).trans (hb3.mono (by have := hb2.size; omega))⟩

end Go.Proofs.YtkinoehmcfhgbaaGreatDoor.Vl
set_option linter.unusedVariables false
set_option linter.unusedSimpArgs false
namespace Go.Proofs.YtkinoehmcfhgbaaGreatDoor.Vl
open Go.RowKit
open Go.Proofs.YtkinoehmcfhgbaaGreatDoor.Av (vr Fm Rd Tg sAt Cm Rc tokAt answer)

theorem gt_gl {w : World} (h : Gl w) : Gt w := fun w' hb => (h w' hb).2.2.2
def cF1 : List UInt8 := [62, 38, 38, 97, 45, 48, 60, 61, 48, 46, 48, 45, 97, 60, 61, 48, 46, 48, 45, 98, 60, 61, 48, 46, 97, 45, 98, 60, 61, 48, 46]
def cS1 : List UInt8 := [62, 38, 97, 45, 98, 60, 61, 48, 46, 97, 45, 98, 60, 61, 45, 49, 46, 97, 45, 98, 60, 61, 45, 49, 46]
def cT1 : List UInt8 := [62, 38, 97, 45, 98, 60, 61, 48, 46, 33, 97, 45, 98, 60, 61, 45, 49, 46, 38, 97, 45, 98, 60, 61, 48, 46, 98, 45, 97, 60, 61, 48, 46]
theorem cnt_conds1 : cAns cnt cntP cntC cntQ = ([cF1, cS1, cT1], 0, 0) := by kernel_rfl
theorem cnt_run1 : dAns cnt 0 2 0 0 9 cntC = ({ x1 := 2, x2 := 2, x3 := 0, x4 := 0, n := 5, e := -1 }, 0, 0) := by kernel_rfl
theorem cnt_val1 : vAns (pars ⟨cF1.toArray⟩) 0 2 0 0 = (true, 0) := by kernel_rfl
theorem wcond_cnt (w : World) (hgt : Gt w) : Calls Tryz.prog 11 #[.string cnt] w fun e w' => ∃ v, e = .returned (.tuple #[v, .int .i64 0, .int .i64 0]) ∧ w'.ownsRow w.heap.size 9 1 v 3 ([cF1, cS1, cT1].map strV) ∧ Below w.heap.size w w' := by
  refine (ccond_any cnt w hgt).mono ?_
  rintro e w' ⟨p, c, q, hP, v, he, ho, hb⟩
  obtain ⟨rfl, rfl, rfl⟩ := cnt_prg.det (hP (by rw [cnt_ans]))
  rw [cnt_conds1] at he ho
  exact ⟨v, he, ho, hb⟩
theorem wrun_cnt (w : World) : Calls Tryz.prog 19 #[.string cnt, .agg #[.int .i64 0, .int .i64 2, .int .i64 0, .int .i64 0], .int .i64 9] w fun e w' => e = .returned (.tuple #[.agg #[.int .i64 0, .int .i64 2, .int .i64 2, .int .i64 0, .int .i64 0, .int .i64 5], .int .i64 0, .int .i64 0]) ∧ Below w.heap.size w w' := by
  refine (crun_any cnt 0 2 0 0 9 w).mono ?_
  rintro e w' ⟨p, c, q, hP, he, hb⟩
  obtain ⟨rfl, rfl, rfl⟩ := cnt_prg.det (hP (by rw [cnt_ans]))
  rw [cnt_run1] at he
  exact ⟨he, hb⟩
theorem eqInS (d : Nat) (w : World) (x1 x2 x3 x4 y1 y2 y3 y4 : Int) : (Op.equalIn (d + 1 + 1) 36 (.agg #[.int .i64 x1, .int .i64 x2, .int .i64 x3, .int .i64 x4]) (.agg #[.int .i64 y1, .int .i64 y2, .int .i64 y3, .int .i64 y4])).run Tryz.prog w = .ok (x1 == y1 && (x2 == y2 && (x3 == y3 && x4 == y4))) w := by
  have e1 : ∃ i, Tryz.prog.info? 3 = some i := Option.isSome_iff_exists.1 (by kernel_rfl)
  obtain ⟨i, hi⟩ := e1
  have e2 : Tryz.prog.cellsOf 3 = 1 := by kernel_rfl
  rw [run_equalIn_array w (d + 1) _ _ Tryz.underlying36 hi, e2]
  simp [Op.eqItems, part, run_equalIn_int, Tryz.underlying3, show List.range 4 = [0, 1, 2, 3] from rfl]
  by_cases h1 : x1 = y1 <;> by_cases h2 : x2 = y2 <;> by_cases h3 : x3 = y3 <;> by_cases h4 : x4 = y4 <;> simp [h1, h2, h3, h4]
theorem neqS (w : World) (x1 x2 x3 x4 y1 y2 y3 y4 : Int) : (binOp .neq 36 (.agg #[.int .i64 x1, .int .i64 x2, .int .i64 x3, .int .i64 x4]) (.agg #[.int .i64 y1, .int .i64 y2, .int .i64 y3, .int .i64 y4])).run Tryz.prog w = .ok (.bool (!(x1 == y1 && (x2 == y2 && (x3 == y3 && x4 == y4))))) w := by
  rw [run_neq_struct, show (10000 : Nat) = 9998 + 1 + 1 from rfl, eqInS]
  rfl
/-- A text is refused for its length, a token, or its depth. -/
theorem runM_err (len : Nat) : ∀ (ts : List (List UInt8 × Nat)) (st : List (List UInt8)) (d : Int), (Av.runM len ts st d).1 = 0 ∨ (Av.runM len ts st d).1 = 2 ∨ (Av.runM len ts st d).1 = 3
  | [], st, d => by
    unfold Av.runM
    split
    · exact Or.inl rfl
    · exact Or.inr (Or.inl rfl)
  | (t, i) :: ts, st, d => by
    unfold Av.runM
    split
    · rename_i e he
      unfold Av.stepM at he
      split at he
      · injection he with he; subst he; exact Or.inr (Or.inl rfl)
      · split at he
        · injection he with he; subst he; exact Or.inr (Or.inl rfl)
        · split at he
          · split at he
            · injection he with he; subst he; exact Or.inr (Or.inr rfl)
            · cases he
          · split at he <;> cases he
    · exact runM_err len ts _ _
theorem answer_err (s : ByteArray) : (answer s).1 ≠ 6 ∧ 0 ≤ (answer s).1 := by
  unfold answer
  split
  · unfold Av.want
    rcases runM_err s.size (tokAt 0 (Av.rest s 0)) Av.st0 0 with h | h | h <;> (rw [h]; exact ⟨by decide, by decide⟩)
  · exact ⟨by show (1 : Int) ≠ 6; decide, by show (0 : Int) ≤ 1; decide⟩

set_option maxRecDepth 100000 in
set_option maxHeartbeats 2000000 in
theorem ran_any (w : World) (hgl : Gl w) :
    Calls Tryz.prog 17 #[] w fun e w' => ∃ v, e = .returned (.tuple #[v, .bool true]) ∧ Below w.heap.size w w' := by
  have K1 : Hid (∀ w, Calls Tryz.prog 19 #[.string cnt, .agg #[.int .i64 0, .int .i64 2, .int .i64 0, .int .i64 0], .int .i64 9] w fun e w' => e = .returned (.tuple #[.agg #[.int .i64 0, .int .i64 2, .int .i64 2, .int .i64 0, .int .i64 0, .int .i64 5], .int .i64 0, .int .i64 0]) ∧ Below w.heap.size w w') := wrun_cnt
  have K2 : Hid (∀ w, Gl w → Calls Tryz.prog 11 #[.string cnt] w fun e w' => ∃ v, e = .returned (.tuple #[v, .int .i64 0, .int .i64 0]) ∧ w'.ownsRow w.heap.size 9 1 v 3 ([cF1, cS1, cT1].map strV) ∧ Below w.heap.size w w') := fun w h => wcond_cnt w (gt_gl h)
  have K3 : Hid (∀ w, Gl w → Calls Tryz.prog 22 #[.string ⟨cF1.toArray⟩, .agg #[.int .i64 0, .int .i64 2, .int .i64 0, .int .i64 0]] w fun e w' => e = .returned (.tuple #[.bool true, .int .i64 0]) ∧ Below w.heap.size w w') := fun w h => by
    have := cvalue_any ⟨cF1.toArray⟩ 0 2 0 0 w h (by decide)
    rw [cnt_val1] at this
    exact this
  have HGL : Hid (Gl w) := hgl
  go_enter Tryz.func17, Tryz.ntmps17
  go_wp2_with fail
  refine Calls.mono (K1.out _) ?_
  rintro e w1 ⟨rfl, hb1⟩
  have hW1 : Below w.heap.size w (w1.alloc (.cells #[.int .i64 0, .int .i64 2, .int .i64 2, .int .i64 0, .int .i64 0, .int .i64 5] 41)) := hb1.alloc hb1.size _
  have HW1 : Hid _ := hW1
  clear hb1
  go_wp2_with fail
  refine Calls.mono (K2.out _ (HGL.out.on HW1.out)) ?_
  rintro e w2 ⟨v, rfl, ho, hb2⟩
  have z0 : w2.cell? ⟨w1.heap.size, 0, none⟩ = some (.int .i64 0) := (hb2.cell (p := ⟨w1.heap.size, 0, none⟩) (by simp)).trans (by simp)
  have z1 : w2.cell? ⟨w1.heap.size, 1, none⟩ = some (.int .i64 2) := (hb2.cell (p := ⟨w1.heap.size, 1, none⟩) (by simp)).trans (by simp)
  have z2 : w2.cell? ⟨w1.heap.size, 2, none⟩ = some (.int .i64 2) := (hb2.cell (p := ⟨w1.heap.size, 2, none⟩) (by simp)).trans (by simp)
  have z3 : w2.cell? ⟨w1.heap.size, 3, none⟩ = some (.int .i64 0) := (hb2.cell (p := ⟨w1.heap.size, 3, none⟩) (by simp)).trans (by simp)
  have z4 : w2.cell? ⟨w1.heap.size, 4, none⟩ = some (.int .i64 0) := (hb2.cell (p := ⟨w1.heap.size, 4, none⟩) (by simp)).trans (by simp)
  have z5 : w2.cell? ⟨w1.heap.size, 5, none⟩ = some (.int .i64 5) := (hb2.cell (p := ⟨w1.heap.size, 5, none⟩) (by simp)).trans (by simp)
  obtain ⟨g, cp, rfl, hg1, hg2, hg3, hg4, hg5, hg6⟩ := own_facts ho (by omega)
  have l0 := hg5 0 (strV cF1) rfl
  unfold strV at l0
  have hq := fun w => neqS w 2 2 0 0 2 2 0 0
  have hW2 : Below w.heap.size w w2 := HW1.out.trans (hb2.mono HW1.out.size)
  have HW2 : Hid (Below w.heap.size w w2) := hW2
  generalize (⟨cF1.toArray⟩ : ByteArray) = SF at *
  clear ho hb2 hW1 hg5 hg6
  go_wp2_with fail
  refine Calls.mono (K3.out _ (HGL.out.on HW2.out)) ?_
  rintro e w3 ⟨rfl, hb3⟩
  go_wp2_with fail
  go_ret2
  exact ⟨_, rfl, HW2.out.trans (hb3.mono HW2.out.size)⟩
end Go.Proofs.YtkinoehmcfhgbaaGreatDoor.Vl
