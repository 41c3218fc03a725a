/-
  The walk of the program's Parse: a text is a condition just where the document says so, and its symbols lie in the list that comes out.
-/
import Derived.Test.YtkinoehmcfhgbaaDoorV14
set_option linter.unusedVariables false
set_option linter.unusedSimpArgs false
namespace Go.Proofs.YtkinoehmcfhgbaaDoor.Vl
open Go.RowKit

set_option maxHeartbeats 400000 in
theorem parts_any (k : Int) (w : World) :
    Calls Tryd.prog 20 #[.int .i64 k] w fun e w' => e = .returned (.int .i64 (prt k)) ∧ w = w' := by
  go_enter Tryd.func20, Tryd.ntmps20
  go_wp2
  all_goals go_ret
  all_goals refine ⟨ret_int ?_, rfl⟩
  all_goals simp_all [prt]

def cell4 (y : Sym) : List Value := [.int .i64 y.1, .int .i64 y.2.1, .int .i64 y.2.2.1, .int .i64 y.2.2.2]
def cells4 (l : List Sym) : List Value := l.flatMap cell4
theorem cells4_snoc (l : List Sym) (y : Sym) : cells4 (l ++ [y]) = cells4 l ++ cell4 y := by simp [cells4]
theorem Tryd.infoSym : (Tryd.prog.info? 54).map (fun i => (i.zero, i.size, i.bytes)) = some (some (.agg #[.int .i64 0, .int .i64 0, .int .i64 0, .int .i64 0]), 4, 32) := by kernel_rfl
theorem four_new (w : World) (B : Nat) (hB : B = w.heap.size) (a b c d : Value) (t : TypeId) : ∀ j u, [a, b, c, d][j]? = some u → (w.alloc (.cells #[a, b, c, d] t)).cell? ((⟨B, 0, none⟩ : Addr).add j) = some u := by
  subst hB
  intro j u h
  match j, h with
  | 0, h => simp at h; subst h; simp [Addr.add]
  | 1, h => simp at h; subst h; simp [Addr.add]
  | 2, h => simp at h; subst h; simp [Addr.add]
  | 3, h => simp at h; subst h; simp [Addr.add]
theorem one_iiii (x y z t : Int) : ∀ u ∈ [Value.int .i64 x, .int .i64 y, .int .i64 z, .int .i64 t], u.oneCell' = true := by
  intro u hu; simp at hu; rcases hu with rfl | rfl | rfl | rfl <;> rfl

def tsz : Value → Nat
  | .string t => t.size
  | _ => 0
theorem tsz_str (t : ByteArray) : tsz (.string t) = t.size := rfl
def ParseEnd (w : World) (p : Option (List Sym)) (e : Ending) (w' : World) : Prop :=
  ∃ v, e = .returned (.tuple #[v, .bool p.isSome]) ∧ (∀ ys, p = some ys → w'.ownsRow w.heap.size 54 4 v ys.length (cells4 ys)) ∧ Below w.heap.size w w'

set_option maxRecDepth 100000 in
set_option maxHeartbeats 2000000 in
theorem parse_any (s : ByteArray) (w : World) (hg : Gl w) (hmax : s.size ≤ maxLen) :
    Calls Tryd.prog 10 #[.string s] w fun e w' => ParseEnd w (pars s) e w' := by
  by_cases hlong : 4000 < s.size
  · have HP : Hid (pars s = none) := by show _ = _; unfold pars; rw [if_pos hlong]
    have hlong' : (4000 : Int) < (s.size : Int) := by omega
    go_enter Tryd.func10, Tryd.ntmps10
    go_wp2
    go_ret2
    exact ⟨_, by rw [HP.out]; rfl, fun ys h => by (rw [HP.out] at h; cases h), Below.refl _ _⟩
  · have HP : Hid (pars s = prsA 1 (rest s 0)) := by show _ = _; unfold pars; rw [if_neg hlong]; rfl
    have hlong' : ¬ (4000 : Int) < (s.size : Int) := by omega
    generalize pars s = P at *
    obtain ⟨i0, hi, hz0, hz1, hz2⟩ := info_parts Tryd.infoSym
    go_enter Tryd.func10, Tryd.ntmps10
    go_wp2_with fail
    go_loopw [0, 4, 5] (fun tv v c wr => ∃ (t : ByteArray) (k : Nat) (m : Int) (ds : List Sym), k ≤ s.size ∧ tv = .string t ∧ t.data.toList = rest s k ∧ c = .int .i64 m ∧ 0 ≤ m ∧ m ≤ k + 1 ∧ wr.ownsRow w.heap.size 54 4 v ds.length (cells4 ds) ∧ ds.length ≤ k ∧ P = (prsA m (rest s k)).map (ds ++ ·) ∧ Below w.heap.size w wr) (fun tv _ _ _ => tsz tv)
    case atStart => exact ⟨s, 0, 1, [], Nat.zero_le _, rfl, rfl, rfl, by omega, by omega, World.ownsRow_nil _ _ _ _, Nat.le_refl _, by rw [HP.out]; simp, Below.refl _ _⟩
    case round =>
      obtain ⟨t, k, m, ds, hk, rfl, ht, rfl, hm0, hm1, hown, hul, hq, hnx⟩ := hrel
      have Q : Hid (P = (prsA m (rest s k)).map (ds ++ ·)) := hq
      have HT : Hid (t.data.toList = rest s k) := ht
      have htl : t.size = s.size - k := by
        have : t.data.toList.length = t.size := by simp
        rw [← this, ht, rest_len]
      clear hq HP ht
      have hgr := hg.on hnx
      by_cases hlt : k < s.size
      · have ht0 : 0 < t.size := by omega
        have ht0' : (0 : Int) < (t.size : Int) := by omega
        have CS : Hid (Calls Tryd.prog 19 #[.string t] wr fun e w' => e = .returned (csymV (csym t.data.toList)) ∧ Below wr.heap.size wr w') := cutSymbol_any t wr hgr (by omega) ht0
        rw [HT.out, rest_cons s k hlt, csym_sym, ← rest_cons s k hlt] at CS
        have HTL : Hid (t.size = s.size - k) := htl
        clear htl
        cases hsy : sym (rest s k) with
        | none =>
          have HN : Hid (P = none) := by
            show _ = _
            rw [Q.out, rest_cons s k hlt, prsA_none _ _ _ (by rw [← rest_cons s k hlt]; exact hsy)]; rfl
          rw [hsy] at CS
          have CS' : Hid (Calls Tryd.prog 19 #[.string t] wr fun e w' => e = .returned (.tuple #[.agg #[.int .i64 0, .int .i64 0, .int .i64 0, .int .i64 0], .string ⟨#[]⟩, .bool false]) ∧ Below wr.heap.size wr w') := CS
          clear CS
          go_wp2_with (go_at_call 19; refine (CS'.out).mono ?_; rintro e w1 ⟨rfl, hb1⟩)
          all_goals go_ret2
          all_goals exact ⟨_, by rw [HN.out]; rfl, fun ys h => by (rw [HN.out] at h; cases h), (hnx.trans (hb1.mono hnx.size)).alloc (by have := hb1.size; have := hnx.size; omega) _⟩
        | some q =>
          obtain ⟨⟨y0, y1, y2, y3⟩, j⟩ := q
          have hj := sym_facts hsy
          rw [rest_len] at hj
          rw [hsy] at CS
          have hdr : (rest s k).drop j = rest s (k + j) := rest_drop s k j
          have CS' : Hid (Calls Tryd.prog 19 #[.string t] wr fun e w' => e = .returned (.tuple #[.agg #[.int .i64 y0, .int .i64 y1, .int .i64 y2, .int .i64 y3], .string ⟨(rest s (k + j)).toArray⟩, .bool true]) ∧ Below wr.heap.size wr w') := by rw [← hdr]; exact CS
          have HT2 : Hid ((⟨(rest s (k + j)).toArray⟩ : ByteArray).data.toList = rest s (k + j)) := rfl
          have HTS : Hid ((⟨(rest s (k + j)).toArray⟩ : ByteArray).size = s.size - (k + j)) := by
            show (rest s (k + j)).toArray.size = _; rw [List.size_toArray, rest_len]
          clear CS hdr
          generalize (⟨(rest s (k + j)).toArray⟩ : ByteArray) = T2 at *
          by_cases hz : m = 0
          · subst hz
            have HN : Hid (P = none) := by show _ = _; rw [Q.out, rest_cons s k hlt, prsA_zero]; rfl
            go_wp2_with (go_at_call 19; refine (CS'.out).mono ?_; rintro e w1 ⟨rfl, hb1⟩)
            go_ret2
            exact ⟨_, by rw [HN.out]; rfl, fun ys h => by (rw [HN.out] at h; cases h), (hnx.trans (hb1.mono hnx.size)).alloc (by have := hb1.size; have := hnx.size; omega) _⟩
          · have hz' : (m == 0) = false := by simpa using hz
            have Q2 : Hid (P = (prsA (m + (prt y0 - 1)) (rest s (k + j))).map ((ds ++ [(y0, y1, y2, y3)]) ++ ·)) := by
              show _ = _
              rw [Q.out, rest_cons s k hlt, prsA_some m _ _ (y0, y1, y2, y3) j hz (by rw [← rest_cons s k hlt]; exact hsy), ← rest_cons s k hlt, rest_drop]
              have ee : m + prt y0 - 1 = m + (prt y0 - 1) := by omega
              simp [Option.map_map, Function.comp_def, ee]
            have hpr := prt_range y0
            clear hsy
            generalize hpp : prt y0 = pp at *
            have CPt : Hid (∀ w, Calls Tryd.prog 20 #[.int .i64 y0] w fun e w' => e = .returned (.int .i64 pp) ∧ w = w') := fun w => by rw [← hpp]; exact parts_any y0 w
            clear hpp
            go_wp2_with (first
              | (go_at_call 19; refine (CS'.out).mono ?_; rintro e w1 ⟨rfl, hb1⟩; have hown1 := (ownsRow_below hown hb1).alloc (.cells #[.int .i64 y0, .int .i64 y1, .int .i64 y2, .int .i64 y3] 54))
              | (at_builtin; refine wpList_append_own _ rfl _ _ 35 rfl w.heap.size 54 i0 (.agg #[.int .i64 0, .int .i64 0, .int .i64 0, .int .i64 0]) 4 32 Tryd.underlying35 hi hz0 hz1 hz2 rfl (by decide) _ _ _ rfl (hown1.alloc _) ⟨w1.heap.size + 1, 0, none⟩ 1 1 [.int .i64 y0, .int .i64 y1, .int .i64 y2, .int .i64 y3] rfl rfl (four_new _ _ (by simp) _ _ _ _ _) (one_iiii _ _ _ _) (by unfold maxLen; omega) (by omega) (by have := hb1.size; have := hnx.size; simp; omega) ?_))
            intro v' w3 hown3 hgrow _
            have hb1s := hb1.size
            have hnxs := hnx.size
            have hbb := (hnx.trans (hb1.mono hnxs)).alloc (by omega) (.cells #[.int .i64 y0, .int .i64 y1, .int .i64 y2, .int .i64 y3] 54)
            have hb3 := (hbb.alloc (by simp; omega) _).grown hgrow (by simp; omega) (own_block hown)
            have hy0 : w3.cell? ⟨w1.heap.size, 0, none⟩ = some (.int .i64 y0) := hgrow.cell (by simp) (by
              intro e
              have := (hown.lt _ e.symm).2
              simp at this; omega)
            clear hown hown1 hgrow hbb
            go_wp2_with (go_at_call 20; refine (CPt.out _).mono ?_; rintro e w' ⟨rfl, rfl⟩)
            go_roundw
            case rel => exact ⟨T2, k + j, m + (pp - 1), ds ++ [(y0, y1, y2, y3)], by omega, rfl, HT2.out, by go_num, by omega, by omega, by rw [cells4_snoc, List.length_append]; exact hown3, by simp; omega, Q2.out, hb3⟩
            case measure => simp only [tsz_str]; have := HTS.out; have := HTL.out; simp [tsz_str]; omega
      · have ht0 : t.size = 0 := by omega
        have ht0' : ¬ (0 : Int) < (t.size : Int) := by omega
        have Q2 : Hid (P = if m = 0 then some ds else none) := by
          show _ = _
          rw [Q.out, rest_end s k (by omega), prsA_nil]
          split <;> simp
        clear htl ht0
        by_cases hz : m = 0
        · subst hz
          have HS : Hid (P = some ds) := by show _ = _; rw [Q2.out, if_pos rfl]
          go_wp2_with fail
          go_ret2
          exact ⟨u4, by rw [HS.out]; rfl, fun ys h => by (rw [HS.out] at h; cases h; exact hown), hnx⟩
        · have HN : Hid (P = none) := by show _ = _; rw [Q2.out, if_neg hz]
          have hz' : 0 < m := by omega
          go_wp2_with fail
          go_ret2
          exact ⟨_, by rw [HN.out]; rfl, fun ys h => by (rw [HN.out] at h; cases h), hnx⟩
end Go.Proofs.YtkinoehmcfhgbaaDoor.Vl
