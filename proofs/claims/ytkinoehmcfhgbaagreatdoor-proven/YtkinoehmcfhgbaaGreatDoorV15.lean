/-
  The walk of the program's Parse: a text is a condition just where the document says so, and its symbols lie in the list that comes out.
  The walk of the program's Value: it answers what the document answers.
  The walks of kernel.New, Confirms, and the call Confirm.
  The prover's bounds in memory; imply, truth, reason, greatest, state.
-/
import Derived.Test.YtkinoehmcfhgbaaGreatDoorT15
import Derived.Test.YtkinoehmcfhgbaaGreatDoorN5
import Derived.Test.YtkinoehmcfhgbaaGreatDoorV8
import Derived.Deep.RegionHeld3
import Derived.Test.YtkinoehmcfhgbaaGreatDoorT9
import Derived.Test.YtkinoehmcfhgbaaGreatDoorT14
set_option linter.unusedVariables false
set_option linter.unusedSimpArgs false
namespace Go.Proofs.YtkinoehmcfhgbaaGreatDoor.Vl
open Go.RowKit

set_option maxHeartbeats 400000 in
theorem vparts_any (k : Int) (w : World) :
    Calls Tryz.prog 76 #[.int .i64 k] w fun e w' => e = .returned (.int .i64 (prt k)) ∧ w = w' := by
  go_enter Tryz.func76, Tryz.ntmps76
  go_wp2
  all_goals go_ret
  all_goals refine ⟨ret_int ?_, rfl⟩
  all_goals simp_all [prt]

def vcell4 (y : Sym) : List Value := [.int .i64 y.1, .int .i64 y.2.1, .int .i64 y.2.2.1, .int .i64 y.2.2.2]
def vcells4 (l : List Sym) : List Value := l.flatMap vcell4
theorem vcells4_snoc (l : List Sym) (y : Sym) : vcells4 (l ++ [y]) = vcells4 l ++ vcell4 y := by simp [vcells4]
theorem Tryz.infoVSym : (Tryz.prog.info? 136).map (fun i => (i.zero, i.size, i.bytes)) = some (some (.agg #[.int .i64 0, .int .i64 0, .int .i64 0, .int .i64 0]), 4, 32) := by kernel_rfl
theorem four_new (w : World) (B : Nat) (hB : B = w.heap.size) (a b c d : Value) (t : TypeId) : ∀ j u, [a, b, c, d][j]? = some u → (w.alloc (.cells #[a, b, c, d] t)).cell? ((⟨B, 0, none⟩ : Addr).add j) = some u := by
  subst hB
  intro j u h
  match j, h with
  | 0, h => simp at h; subst h; simp [Addr.add]
  | 1, h => simp at h; subst h; simp [Addr.add]
  | 2, h => simp at h; subst h; simp [Addr.add]
  | 3, h => simp at h; subst h; simp [Addr.add]
theorem one_iiii (x y z t : Int) : ∀ u ∈ [Value.int .i64 x, .int .i64 y, .int .i64 z, .int .i64 t], u.oneCell' = true := by
  intro u hu; simp at hu; rcases hu with rfl | rfl | rfl | rfl <;> rfl

def tsz : Value → Nat
  | .string t => t.size
  | _ => 0
theorem tsz_str (t : ByteArray) : tsz (.string t) = t.size := rfl
def ParseEnd (w : World) (p : Option (List Sym)) (e : Ending) (w' : World) : Prop :=
  ∃ v, e = .returned (.tuple #[v, .bool p.isSome]) ∧ (∀ ys, p = some ys → w'.ownsRow w.heap.size 136 4 v ys.length (vcells4 ys)) ∧ Below w.heap.size w w'

set_option maxRecDepth 100000 in
set_option maxHeartbeats 2000000 in
theorem parse_any (s : ByteArray) (w : World) (hg : Gl w) (hmax : s.size ≤ maxLen) :
    Calls Tryz.prog 46 #[.string s] w fun e w' => ParseEnd w (pars s) e w' := by
  by_cases hlong : 4000 < s.size
  · have HP : Hid (pars s = none) := by show _ = _; unfold pars; rw [if_pos hlong]
    have hlong' : (4000 : Int) < (s.size : Int) := by omega
    go_enter Tryz.func46, Tryz.ntmps46
    go_wp2
    go_ret2
    exact ⟨_, by rw [HP.out]; rfl, fun ys h => by (rw [HP.out] at h; cases h), Below.refl _ _⟩
  · have HP : Hid (pars s = prsA 1 (rest s 0)) := by show _ = _; unfold pars; rw [if_neg hlong]; rfl
    have hlong' : ¬ (4000 : Int) < (s.size : Int) := by omega
    generalize pars s = P at *
    obtain ⟨i0, hi, hz0, hz1, hz2⟩ := info_parts Tryz.infoVSym
    go_enter Tryz.func46, Tryz.ntmps46
    go_wp2_with fail
    go_loopw [0, 4, 5] (fun tv v c wr => ∃ (t : ByteArray) (k : Nat) (m : Int) (ds : List Sym), k ≤ s.size ∧ tv = .string t ∧ t.data.toList = rest s k ∧ c = .int .i64 m ∧ 0 ≤ m ∧ m ≤ k + 1 ∧ wr.ownsRow w.heap.size 136 4 v ds.length (vcells4 ds) ∧ ds.length ≤ k ∧ P = (prsA m (rest s k)).map (ds ++ ·) ∧ Below w.heap.size w wr) (fun tv _ _ _ => tsz tv)
    case atStart => exact ⟨s, 0, 1, [], Nat.zero_le _, rfl, rfl, rfl, by omega, by omega, World.ownsRow_nil _ _ _ _, Nat.le_refl _, by rw [HP.out]; simp, Below.refl _ _⟩
    case round =>
      obtain ⟨t, k, m, ds, hk, rfl, ht, rfl, hm0, hm1, hown, hul, hq, hnx⟩ := hrel
      have Q : Hid (P = (prsA m (rest s k)).map (ds ++ ·)) := hq
      have HT : Hid (t.data.toList = rest s k) := ht
      have htl : t.size = s.size - k := by
        have : t.data.toList.length = t.size := by simp
        rw [← this, ht, rest_len]
      clear hq HP ht
      have hgr := hg.on hnx
      by_cases hlt : k < s.size
      · have ht0 : 0 < t.size := by omega
        have ht0' : (0 : Int) < (t.size : Int) := by omega
        have CS : Hid (Calls Tryz.prog 75 #[.string t] wr fun e w' => e = .returned (csymV (csym t.data.toList)) ∧ Below wr.heap.size wr w') := cutSymbol_any t wr hgr (by omega) ht0
        rw [HT.out, rest_cons s k hlt, csym_sym, ← rest_cons s k hlt] at CS
        have HTL : Hid (t.size = s.size - k) := htl
        clear htl
        cases hsy : sym (rest s k) with
        | none =>
          have HN : Hid (P = none) := by
            show _ = _
            rw [Q.out, rest_cons s k hlt, prsA_none _ _ _ (by rw [← rest_cons s k hlt]; exact hsy)]; rfl
          rw [hsy] at CS
          have CS' : Hid (Calls Tryz.prog 75 #[.string t] wr fun e w' => e = .returned (.tuple #[.agg #[.int .i64 0, .int .i64 0, .int .i64 0, .int .i64 0], .string ⟨#[]⟩, .bool false]) ∧ Below wr.heap.size wr w') := CS
          clear CS
          go_wp2_with (go_at_call 75; refine (CS'.out).mono ?_; rintro e w1 ⟨rfl, hb1⟩)
          all_goals go_ret2
          all_goals exact ⟨_, by rw [HN.out]; rfl, fun ys h => by (rw [HN.out] at h; cases h), (hnx.trans (hb1.mono hnx.size)).alloc (by have := hb1.size; have := hnx.size; omega) _⟩
        | some q =>
          obtain ⟨⟨y0, y1, y2, y3⟩, j⟩ := q
          have hj := sym_facts hsy
          rw [rest_len] at hj
          rw [hsy] at CS
          have hdr : (rest s k).drop j = rest s (k + j) := rest_drop s k j
          have CS' : Hid (Calls Tryz.prog 75 #[.string t] wr fun e w' => e = .returned (.tuple #[.agg #[.int .i64 y0, .int .i64 y1, .int .i64 y2, .int .i64 y3], .string ⟨(rest s (k + j)).toArray⟩, .bool true]) ∧ Below wr.heap.size wr w') := by rw [← hdr]; exact CS
          have HT2 : Hid ((⟨(rest s (k + j)).toArray⟩ : ByteArray).data.toList = rest s (k + j)) := rfl
          have HTS : Hid ((⟨(rest s (k + j)).toArray⟩ : ByteArray).size = s.size - (k + j)) := by
            show (rest s (k + j)).toArray.size = _; rw [List.size_toArray, rest_len]
          clear CS hdr
          generalize (⟨(rest s (k + j)).toArray⟩ : ByteArray) = T2 at *
          by_cases hz : m = 0
          · subst hz
            have HN : Hid (P = none) := by show _ = _; rw [Q.out, rest_cons s k hlt, prsA_zero]; rfl
            go_wp2_with (go_at_call 75; refine (CS'.out).mono ?_; rintro e w1 ⟨rfl, hb1⟩)
            go_ret2
            exact ⟨_, by rw [HN.out]; rfl, fun ys h => by (rw [HN.out] at h; cases h), (hnx.trans (hb1.mono hnx.size)).alloc (by have := hb1.size; have := hnx.size; omega) _⟩
          · have hz' : (m == 0) = false := by simpa using hz
            have Q2 : Hid (P = (prsA (m + (prt y0 - 1)) (rest s (k + j))).map ((ds ++ [(y0, y1, y2, y3)]) ++ ·)) := by
              show _ = _
              rw [Q.out, rest_cons s k hlt, prsA_some m _ _ (y0, y1, y2, y3) j hz (by rw [← rest_cons s k hlt]; exact hsy), ← rest_cons s k hlt, rest_drop]
              have ee : m + prt y0 - 1 = m + (prt y0 - 1) := by omega
              simp [Option.map_map, Function.comp_def, ee]
            have hpr := prt_range y0
            clear hsy
            generalize hpp : prt y0 = pp at *
            have CPt : Hid (∀ w, Calls Tryz.prog 76 #[.int .i64 y0] w fun e w' => e = .returned (.int .i64 pp) ∧ w = w') := fun w => by rw [← hpp]; exact vparts_any y0 w
            clear hpp
            go_wp2_with (first
              | (go_at_call 75; refine (CS'.out).mono ?_; rintro e w1 ⟨rfl, hb1⟩; have hown1 := (ownsRow_below hown hb1).alloc (.cells #[.int .i64 y0, .int .i64 y1, .int .i64 y2, .int .i64 y3] 136))
              | (at_builtin; refine wpList_append_own _ rfl _ _ 75 rfl w.heap.size 136 i0 (.agg #[.int .i64 0, .int .i64 0, .int .i64 0, .int .i64 0]) 4 32 Tryz.underlying75 hi hz0 hz1 hz2 rfl (by decide) _ _ _ rfl (hown1.alloc _) ⟨w1.heap.size + 1, 0, none⟩ 1 1 [.int .i64 y0, .int .i64 y1, .int .i64 y2, .int .i64 y3] rfl rfl (four_new _ _ (by simp) _ _ _ _ _) (one_iiii _ _ _ _) (by unfold maxLen; omega) (by omega) (by have := hb1.size; have := hnx.size; simp; omega) ?_))
            intro v' w3 hown3 hgrow _
            have hb1s := hb1.size
            have hnxs := hnx.size
            have hbb := (hnx.trans (hb1.mono hnxs)).alloc (by omega) (.cells #[.int .i64 y0, .int .i64 y1, .int .i64 y2, .int .i64 y3] 136)
            have hb3 := (hbb.alloc (by simp; omega) _).grown hgrow (by simp; omega) (own_block hown)
            have hy0 : w3.cell? ⟨w1.heap.size, 0, none⟩ = some (.int .i64 y0) := hgrow.cell (by simp) (by
              intro e
              have := (hown.lt _ e.symm).2
              simp at this; omega)
            clear hown hown1 hgrow hbb
            go_wp2_with (go_at_call 76; refine (CPt.out _).mono ?_; rintro e w' ⟨rfl, rfl⟩)
            go_roundw
            case rel => exact ⟨T2, k + j, m + (pp - 1), ds ++ [(y0, y1, y2, y3)], by omega, rfl, HT2.out, by go_num, by omega, by omega, by rw [vcells4_snoc, List.length_append]; exact hown3, by simp; omega, Q2.out, hb3⟩
            case measure => simp only [tsz_str]; have := HTS.out; have := HTL.out; simp [tsz_str]; omega
      · have ht0 : t.size = 0 := by omega
        have ht0' : ¬ (0 : Int) < (t.size : Int) := by omega
        have Q2 : Hid (P = if m = 0 then some ds else none) := by
          show _ = _
          rw [Q.out, rest_end s k (by omega), prsA_nil]
          split <;> simp
        clear htl ht0
        by_cases hz : m = 0
        · subst hz
          have HS : Hid (P = some ds) := by show _ = _; rw [Q2.out, if_pos rfl]
          go_wp2_with fail
          go_ret2
          exact ⟨u4, by rw [HS.out]; rfl, fun ys h => by (rw [HS.out] at h; cases h; exact hown), hnx⟩
        · have HN : Hid (P = none) := by show _ = _; rw [Q2.out, if_neg hz]
          have hz' : 0 < m := by omega
          go_wp2_with fail
          go_ret2
          exact ⟨_, by rw [HN.out]; rfl, fun ys h => by (rw [HN.out] at h; cases h), hnx⟩
end Go.Proofs.YtkinoehmcfhgbaaGreatDoor.Vl
set_option linter.unusedVariables false
set_option linter.unusedSimpArgs false
namespace Go.Proofs.YtkinoehmcfhgbaaGreatDoor.Vl
open Go.RowKit

theorem vcells4_at : ∀ (l : List Sym) (j : Nat) (y : Sym), l[j]? = some y → (vcells4 l)[j * 4]? = some (.int .i64 y.1) ∧ (vcells4 l)[j * 4 + 1]? = some (.int .i64 y.2.1) ∧ (vcells4 l)[j * 4 + 2]? = some (.int .i64 y.2.2.1) ∧ (vcells4 l)[j * 4 + 3]? = some (.int .i64 y.2.2.2)
  | [], j, a, h => by simp at h
  | x :: r, 0, a, h => by simp at h; subst h; simp [vcells4, vcell4]
  | x :: r, j + 1, a, h => by
    have := vcells4_at r j a (by simpa using h)
    have e1 : (j + 1) * 4 = j * 4 + 4 := by omega
    simp only [vcells4, List.flatMap_cons] at *
    rw [e1]
    refine ⟨?_, ?_, ?_, ?_⟩
    · rw [List.getElem?_append_right (by simp [vcell4])]; simpa [vcell4] using this.1
    · rw [List.getElem?_append_right (by simp [vcell4])]; simpa [vcell4, Nat.add_assoc] using this.2.1
    · rw [List.getElem?_append_right (by simp [vcell4])]; simpa [vcell4, Nat.add_assoc] using this.2.2.1
    · rw [List.getElem?_append_right (by simp [vcell4])]; simpa [vcell4, Nat.add_assoc] using this.2.2.2
theorem own_syms {w : World} {base : Nat} {v : Value} {ys : List Sym} (h : w.ownsRow base 136 4 v ys.length (vcells4 ys)) (hn : 0 < ys.length) : Syms w.heap.size w v ys := by
  rcases h.2 with ⟨h1, h2⟩ | ⟨g, cap, cur, hv, hg, hh, h3, h4, h5, h6⟩
  · omega
  · have hlt : g < w.heap.size := by
      rcases Nat.lt_or_ge g w.heap.size with h | h
      · exact h
      · rw [Array.getElem?_eq_none h] at hh; cases hh
    refine ⟨g, cap, hv, hlt, fun j y hy => ?_⟩
    have hc := vcells4_at ys j y hy
    have e : ∀ i u, (vcells4 ys)[i]? = some u → w.cell? ⟨g, i, none⟩ = some u := by
      intro i u hu
      rw [← h6, List.getElem?_take] at hu
      split at hu
      · have : cur[i]? = some u := by simpa using hu
        simp [World.cell?, hh, this]
      · cases hu
    exact ⟨e _ _ hc.1, e _ _ hc.2.1, e _ _ hc.2.2.1, e _ _ hc.2.2.2⟩
end Go.Proofs.YtkinoehmcfhgbaaGreatDoor.Vl
set_option linter.unusedVariables false
set_option linter.unusedSimpArgs false
namespace Go.Proofs.YtkinoehmcfhgbaaGreatDoor.Vl
open Go.RowKit

/-- Is a text a proof of a condition? -/
def cfm (ys : List Sym) (P : List UInt8) : Bool := decide (P.length ≤ 200000) && decide (chk (uqs ys) ys (P.length + 1) (fun _ => 0) P = some [])

set_option maxRecDepth 100000 in
set_option maxHeartbeats 1000000 in
theorem new_any (w : World) :
    Calls Tryz.prog 52 #[] w fun e w' => e = .returned (.pointer (some ⟨w.heap.size + 1, 0, none⟩)) ∧ KnAt w' (w.heap.size + 1) (.slice none 0 0) (.slice none 0 0) [] w.heap.size ∧ AM w' w.heap.size 0 (fun _ => 0) ∧ Below w.heap.size w w' := by
  have h1 := AM.made w
  have hb : Below (w.alloc (.map #[] 0)).heap.size (w.alloc (.map #[] 0)) ((w.alloc (.map #[] 0)).alloc (.cells #[.slice none 0 0, .slice none 0 0, .string ⟨#[]⟩, .map (some w.heap.size)] 173)) := below_alloc _ _
  have h2 : AM ((w.alloc (.map #[] 0)).alloc (.cells #[.slice none 0 0, .slice none 0 0, .string ⟨#[]⟩, .map (some w.heap.size)] 173)) w.heap.size 0 (fun _ => 0) := h1.below hb
  have h3 : KnAt ((w.alloc (.map #[] 0)).alloc (.cells #[.slice none 0 0, .slice none 0 0, .string ⟨#[]⟩, .map (some w.heap.size)] 173)) (w.heap.size + 1) (.slice none 0 0) (.slice none 0 0) [] w.heap.size := by
    unfold KnAt
    have := heap_alloc_new (w.alloc (.map #[] 0)) (.cells #[.slice none 0 0, .slice none 0 0, .string ⟨#[]⟩, .map (some w.heap.size)] 173)
    rw [World.size_alloc] at this
    exact this
  have H2 : Hid _ := h2
  have H3 : Hid _ := h3
  have H4 : Hid (Below w.heap.size w ((w.alloc (.map #[] 0)).alloc (.cells #[.slice none 0 0, .slice none 0 0, .string ⟨#[]⟩, .map (some w.heap.size)] 173))) := (below_alloc w _).trans (hb.mono (by simp))
  clear h1 h2 h3 hb
  have hmm := @run_makeMap Tryz.prog
  go_enter Tryz.func52, Tryz.ntmps52
  go_wp2_with fail
  go_ret
  exact ⟨by simp, H3.out, H2.out, H4.out⟩

theorem KnAt.fill {w : World} {b mb : Nat} {vW vA : Value} {l : List UInt8} (h : KnAt w b vW vA l mb) (vW' vA' : Value) (l' : List UInt8) : KnAt (((w.setCell ⟨b, 0, none⟩ vW').setCell ⟨b, 1, none⟩ vA').setCell ⟨b, 2, none⟩ (.string ⟨l'.toArray⟩)) b vW' vA' l' mb :=
  heap_setCell_same _ b 2 _ _ _ (heap_setCell_same _ b 1 _ _ _ (heap_setCell_same w b 0 _ _ _ h))
theorem grown3 (w : World) (b : Nat) (u v x : Value) : w.grownBy (((w.setCell ⟨b, 0, none⟩ u).setCell ⟨b, 1, none⟩ v).setCell ⟨b, 2, none⟩ x) (some b) := ((grown_cell' w b 0 u).trans (grown_cell' _ b 1 v)).trans (grown_cell' _ b 2 x)

set_option maxRecDepth 100000 in
set_option maxHeartbeats 4000000 in
theorem confirms_any {s : ByteArray} {ys : List Sym} (hp : pars s = some ys) (w0 w : World) (b mb : Nat) (vW0 vA0 vW : Value) (l0 P : List UInt8) (n : Nat) (f : Atm → Int) (hgl : Gl w0) (h0 : Below w0.heap.size w0 w) (hb : w0.heap.size ≤ b) (hm : w0.heap.size ≤ mb) (hbm : b ≠ mb)
    (hk : KnAt w b vW0 vA0 l0 mb) (ha : AM w mb n f) (hs : Syms w0.heap.size w0 vW ys) (hP : P.length ≤ maxLen) :
    Calls Tryz.prog 53 #[.pointer (some ⟨b, 0, none⟩), vW, .string ⟨P.toArray⟩] w fun e w' => e = .returned (.bool (cfm ys P)) ∧ FrK b mb w w' ∧ ∃ vW' vA' l' n' f', KnAt w' b vW' vA' l' mb ∧ AM w' mb n' f' := by
  obtain ⟨hs4, hprs, hul, hok⟩ := pars_facts hp
  have hyl : ys.length ≤ 4000 := by
    obtain ⟨ps, hps⟩ := pos_of s ys 0 1 (Nat.zero_le _) hprs
    have := pos_len ys 0 1 ps hps
    omega
  have hbw := hk.lt
  have hmw := ha.lt
  have HK : Hid (KnAt w b vW0 vA0 l0 mb) := hk
  have HA : Hid (AM w mb n f) := ha
  have eS : (⟨P.toArray⟩ : ByteArray).size = P.length := by simp [ByteArray.size]
  by_cases hlong : 200000 < P.length
  · have HR : Hid (cfm ys P = false) := by show _ = _; unfold cfm; rw [decide_eq_false (by omega)]; rfl
    have hl' : (200000 : Int) < ((⟨P.toArray⟩ : ByteArray).size : Int) := by rw [eS]; omega
    obtain ⟨bg, bc, rfl, _, _⟩ := hs
    go_enter Tryz.func53, Tryz.ntmps53
    go_wp2_with fail
    go_ret
    exact ⟨by rw [HR.out]; rfl, FrK.refl _ _ _, _, _, _, _, _, HK.out, HA.out⟩
  · have hl' : ¬ (200000 : Int) < ((⟨P.toArray⟩ : ByteArray).size : Int) := by rw [eS]; omega
    have hsw : Syms w.heap.size w vW ys := (hs.below h0).more h0.size
    have CA : Hid (Calls Tryz.prog 85 #[vW] w fun e w' => ∃ u, e = .returned u ∧ w'.ownsRow w.heap.size 134 3 u (uqs ys).length (cells3 (uqs ys)) ∧ Below w.heap.size w w') := catoms_any vW ys w hsw hyl
    have HSY : Hid (∃ g c, vW = .slice (some ⟨g, 0, none⟩) ys.length c ∧ g ≠ b ∧ g ≠ mb) := by
      obtain ⟨g, c, e1, e2, _⟩ := hs
      exact ⟨g, c, e1, by omega, by omega⟩
    have HS : Hid _ := hs
    obtain ⟨c0, c1, c2, c3⟩ := hk.cells
    have HR : Hid (cfm ys P = decide (chk (uqs ys) ys (P.length + 1) (fun _ => 0) P = some [])) := by show _ = _; unfold cfm; rw [decide_eq_true (by omega)]; rfl
    have HKP : Hid (∀ (W : World) (q : Option Addr) (cap : Nat), KS w0 W b mb vW ys q cap (uqs ys) P 0 (fun _ => 0) → Calls Tryz.prog 86 #[.pointer (some ⟨b, 0, none⟩)] W (PE w0 W b mb vW ys q cap (uqs ys) (0 + P.length) (fun _ => 0) (chk (uqs ys) ys (P.length + 1) (fun _ => 0) P))) := fun W q cap h => kproof_any hp hgl hul hok (P.length + 1) W P 0 (fun _ => 0) (fun _ => Or.inl rfl) (by omega) (by omega) h
    generalize hS0 : (⟨P.toArray⟩ : ByteArray) = S0 at *
    have HS0 : Hid ((⟨P.toArray⟩ : ByteArray) = S0) := hS0
    clear hS0
    generalize hCK : chk (uqs ys) ys (P.length + 1) (fun _ => 0) P = CK at *
    generalize uqs ys = us at *
    obtain ⟨bg, bc, rfl, hbg, _⟩ := hs
    clear hk ha hsw hCK hok
    go_enter Tryz.func53, Tryz.ntmps53
    go_wp2_with fail
    refine Calls.mono CA.out ?_
    rintro e w1 ⟨u, rfl, hown, hb1⟩
    have hat : Atms w1 u us := own_latms hown
    obtain ⟨qa, qc, rfl⟩ := atms_shape hat
    have hk1 : KnAt w1 b vW0 vA0 l0 mb := KnAt.below HK.out hb1
    have f0 := hk1.free 0
    have f1 := hk1.free 1
    have f2 := hk1.free 2
    obtain ⟨d0, d1, d2, d3⟩ := hk1.cells
    have hk2 := hk1.fill (.slice (some ⟨bg, 0, none⟩) ys.length bc) (.slice qa us.length qc) P
    have hg2 := grown3 w1 b (.slice (some ⟨bg, 0, none⟩) ys.length bc) (.slice qa us.length qc) (.string ⟨P.toArray⟩)
    rw [HS0.out] at hk2 hg2
    have ha2 : AM _ mb n f := (AM.below HA.out hb1).kept hg2 (fun e => hbm (by injection e with e; exact e.symm))
    obtain ⟨w3, hclr, ha3, hg3⟩ := AM.clear ha2 0
    have hF2 : FrK b mb w w3 := (FrK.of_below hb1).trans ((FrK.of_b hg2).trans (FrK.of_m hg3))
    have hk3 : KnAt w3 b (.slice (some ⟨bg, 0, none⟩) ys.length bc) (.slice qa us.length qc) P mb := KnAt.kept hk2 hg3 (fun e => hbm (by injection e))
    have hb03 : Below w0.heap.size w0 w3 := hF2.below h0 hb hm
    have hgq : ∀ g, qa = some ⟨g, 0, none⟩ → g ≠ b ∧ g ≠ mb := fun g e => by
      have := own_block hown g (by rw [e]; rfl)
      exact ⟨by omega, by omega⟩
    have hat3 : Atms w3 (.slice qa us.length qc) us := by
      rcases hat with h1 | ⟨g, c, h1, h2, h3, h4, h5⟩
      · exact Or.inl h1
      · obtain ⟨n1, n2⟩ := hgq g (by injection h1)
        have hF3 : FrK b mb w1 w3 := (FrK.of_b hg2).trans (FrK.of_m hg3)
        have e := hF3.block g h4 n1 n2
        have ec : ∀ o, w3.cell? ⟨g, o, none⟩ = w1.cell? ⟨g, o, none⟩ := fun o => World.cell?_of_block (a := ⟨g, o, none⟩) e
        exact Or.inr ⟨g, c, h1, h2, h3, Nat.lt_of_lt_of_le h4 hF3.size, fun j a ha => ⟨(ec _).trans (h5 j a ha).1, (ec _).trans (h5 j a ha).2.1, (ec _).trans (h5 j a ha).2.2⟩⟩
    have hKS : KS w0 w3 b mb (.slice (some ⟨bg, 0, none⟩) ys.length bc) ys qa qc us P 0 (fun _ => 0) := ⟨⟨hb03, hb, hm, hbm, hat3, hgq, HSY.out, (Syms.below HS.out hb03).more hb03.size⟩, hk3, ha3⟩
    have HC3 : Hid (KS w0 w3 b mb (.slice (some ⟨bg, 0, none⟩) ys.length bc) ys qa qc us P 0 (fun _ => 0)) := hKS
    have HF2 : Hid (FrK b mb w w3) := hF2
    have e3 := hk2.cells.2.2.2
    clear hk2 hk3 ha2 ha3 hg2 hg3 hKS hF2 hat3 hgq hb03 hat hown hk1
    go_wp2_with fail
    refine Calls.mono (HKP.out _ _ _ HC3.out) ?_
    rintro e w4 ⟨hF4, l', n', f', hK4, hcs⟩
    have HK4 : Hid (KS w0 w4 b mb (.slice (some ⟨bg, 0, none⟩) ys.length bc) ys qa qc us l' n' f') := hK4
    have HF4 : Hid (FrK b mb w w4) := HF2.out.trans hF4
    obtain ⟨x0, x1, x2, x3⟩ := hK4.kn.cells
    clear hF4 hK4
    rcases hcs with ⟨r, hres, rfl, rfl, hn, rfl⟩ | ⟨hres, rfl⟩
    · cases hr : l' with
      | nil =>
        subst hr
        have HRR : Hid (cfm ys P = true) := by show _ = _; rw [HR.out, hres]; rfl
        have x2' : w4.cell? ⟨b, 2, none⟩ = some (.string ⟨#[]⟩) := x2
        clear x2
        go_wp2_with fail
        go_ret
        exact ⟨by rw [HRR.out]; rfl, HF4.out, _, _, _, _, _, HK4.out.kn, HK4.out.am⟩
      | cons c r =>
        have HRR : Hid (cfm ys P = false) := by show _ = _; rw [HR.out, hres, hr]; rfl
        have hne : (⟨l'.toArray⟩ : ByteArray).toList.isEmpty = false := by
          rw [ByteArray.toList_eq]
          simp [hr]
        generalize (⟨l'.toArray⟩ : ByteArray) = S1 at *
        go_wp2_with fail
        go_ret
        exact ⟨by rw [HRR.out, ← hne]; rfl, HF4.out, _, _, _, _, _, HK4.out.kn, HK4.out.am⟩
    · have HRR : Hid (cfm ys P = false) := by show _ = _; rw [HR.out, hres]; rfl
      go_wp2_with fail
      go_ret
      exact ⟨by rw [HRR.out]; rfl, HF4.out, _, _, _, _, _, HK4.out.kn, HK4.out.am⟩
/-- What the document answers to Confirm. -/
def fAns (p : Option (List Sym)) (P : List UInt8) : Bool × Int := match p with
  | none => (false, 7)
  | some ys => (cfm ys P, 0)

end Go.Proofs.YtkinoehmcfhgbaaGreatDoor.Vl
set_option linter.unusedVariables false
set_option linter.unusedSimpArgs false
namespace Go.Proofs.YtkinoehmcfhgbaaGreatDoor.Vl
open Go.RowKit

def bkn (x : Option (Int × List Nat)) : Bool := x.isSome
def bmo (x : Option (Int × List Nat)) : Int := (x.map (·.1)).getD 0
def bby (x : Option (Int × List Nat)) : List Int := ((x.map (·.2)).getD ([] : List Nat)).map fun (n : Nat) => (n : Int)
/-- The bounds lie at block b from o on: three cells for each two operands. -/
def BdAt (w : World) (b o : Nat) (B : Bd) : Prop := b < w.heap.size ∧ ∀ i j, i < 5 → j < 5 →
  w.cell? ⟨b, o + i * 15 + j * 3, none⟩ = some (.bool (bkn (B i j))) ∧ w.cell? ⟨b, o + i * 15 + j * 3 + 1, none⟩ = some (.int .i64 (bmo (B i j))) ∧
  ∃ v, w.cell? ⟨b, o + i * 15 + j * 3 + 2, none⟩ = some v ∧ IntsR w v (bby (B i j))
theorem BdAt.below {w w' : World} {b o : Nat} {B : Bd} (h : BdAt w b o B) (hb : Below w.heap.size w w') : BdAt w' b o B :=
  ⟨Nat.lt_of_lt_of_le h.1 hb.size, fun i j hi hj => by
    obtain ⟨h1, h2, v, h3, h4⟩ := h.2 i j hi hj
    exact ⟨(hb.cell (p := ⟨b, _, none⟩) h.1).trans h1, (hb.cell (p := ⟨b, _, none⟩) h.1).trans h2, v, (hb.cell (p := ⟨b, _, none⟩) h.1).trans h3, h4.below hb⟩⟩
def bmi (B : Bd) (l r : Nat) (c : Int) : Bool := bkn (B l r) && decide (bmo (B l r) ≤ c)
theorem bim_bmi (B : Bd) (l r : Nat) (c : Int) : bim B ((l : Int), (r : Int), c) = bmi B l r c := by
  unfold bim bmi
  dsimp only [Int.toNat_natCast]
  cases B l r with
  | none => rfl
  | some x => obtain ⟨m, p⟩ := x; rfl
set_option maxRecDepth 100000 in
set_option maxHeartbeats 2000000 in
theorem imply_any (w : World) (b : Nat) (B : Bd) (l r : Nat) (c : Int) (h : BdAt w b 0 B) (hl : l < 5) (hr : r < 5) :
    Calls Tryz.prog 236 #[.pointer (some ⟨b, 0, none⟩), .agg #[.int .i64 l, .int .i64 r, .int .i64 c]] w fun e w' => e = .returned (.bool (bmi B l r c)) ∧ Below w.heap.size w w' := by
  obtain ⟨hb, hc⟩ := h
  obtain ⟨h1, h2, v, h3, h4⟩ := hc l r hl hr
  unfold bmi
  generalize bkn (B l r) = K at *
  generalize bmo (B l r) = M at *
  clear hc h3 h4
  have l5 : (l : Int) < 5 := by omega
  have r5 : (r : Int) < 5 := by omega
  rw [Nat.zero_add] at h1 h2
  have hbne : ¬ b = w.heap.size := by omega
  have hB := below_alloc w (.cells #[.int .i64 (l : Int), .int .i64 (r : Int), .int .i64 c] 134)
  cases K with
  | false =>
    go_enter Tryz.func236, Tryz.ntmps236
    go_wp2
    go_region
    go_wp2
    go_region
    go_wp2
    go_ret
    exact ⟨rfl, hB.drew.drew⟩
  | true =>
    go_enter Tryz.func236, Tryz.ntmps236
    go_wp2
    go_region
    go_wp2
    go_region
    go_wp2
    go_ret
    exact ⟨by rw [Bool.true_and]; rfl, hB.drew.drew⟩
theorem ifA_two (a : Atm) : ifA a 2 = (a.2.1, a.1, -a.2.2 - 1) := rfl
theorem btr_bmi (B : Bd) (l r : Nat) (c : Int) : btr B ((l : Int), (r : Int), c) = if bmi B l r c = true then 1 else if bmi B r l (-c - 1) = true then 2 else 0 := by
  unfold btr
  rw [bim_bmi, ifA_two]
  dsimp only
  rw [bim_bmi]
set_option maxRecDepth 100000 in
set_option maxHeartbeats 2000000 in
theorem truth_any (w : World) (b : Nat) (B : Bd) (l r : Nat) (c : Int) (h : BdAt w b 0 B) (hl : l < 5) (hr : r < 5) (hc : -999999 ≤ c ∧ c ≤ 999999) :
    Calls Tryz.prog 179 #[.pointer (some ⟨b, 0, none⟩), .agg #[.int .i64 l, .int .i64 r, .int .i64 c]] w fun e w' => e = .returned (.int .i8 (btr B ((l : Int), (r : Int), c))) ∧ Below w.heap.size w w' := by
  rw [btr_bmi]
  have C1 : Hid (∀ X, Below w.heap.size w X → Calls Tryz.prog 236 #[.pointer (some ⟨b, 0, none⟩), .agg #[.int .i64 l, .int .i64 r, .int .i64 c]] X fun e w' => e = .returned (.bool (bmi B l r c)) ∧ Below X.heap.size X w') := fun X hX => imply_any X b B l r c (h.below hX) hl hr
  have C2 : Hid (∀ X, Below w.heap.size w X → Calls Tryz.prog 236 #[.pointer (some ⟨b, 0, none⟩), .agg #[.int .i64 r, .int .i64 l, .int .i64 (-c - 1)]] X fun e w' => e = .returned (.bool (bmi B r l (-c - 1))) ∧ Below X.heap.size X w') := fun X hX => imply_any X b B r l (-c - 1) (h.below hX) hr hl
  have C3 : Hid (∀ X, Calls Tryz.prog 233 #[.agg #[.int .i64 l, .int .i64 r, .int .i64 c], .int .i8 2] X fun e w' => e = .returned (.agg #[.int .i64 r, .int .i64 l, .int .i64 (-c - 1)]) ∧ Below X.heap.size X w') := fun X => if_any l r c 2 (Or.inr (Or.inr rfl)) hc X
  generalize bmi B l r c = K1 at *
  generalize bmi B r l (-c - 1) = K2 at *
  generalize -c - 1 = c' at *
  have hB := below_alloc w (.cells #[.int .i64 (l : Int), .int .i64 (r : Int), .int .i64 c] 134)
  have hz0 : (w.alloc (.cells #[.int .i64 (l : Int), .int .i64 (r : Int), .int .i64 c] 134)).cell? ⟨w.heap.size, 0, none⟩ = some (.int .i64 l) := by simp
  have hz1 : (w.alloc (.cells #[.int .i64 (l : Int), .int .i64 (r : Int), .int .i64 c] 134)).cell? ⟨w.heap.size, 1, none⟩ = some (.int .i64 r) := by simp
  have hz2 : (w.alloc (.cells #[.int .i64 (l : Int), .int .i64 (r : Int), .int .i64 c] 134)).cell? ⟨w.heap.size, 2, none⟩ = some (.int .i64 c) := by simp
  have hzs : w.heap.size < (w.alloc (.cells #[.int .i64 (l : Int), .int .i64 (r : Int), .int .i64 c] 134)).heap.size := by simp
  clear h
  have arm : ∀ {w3 : World}, Below (w.alloc (.cells #[.int .i64 (l : Int), .int .i64 (r : Int), .int .i64 c] 134)).heap.size (w.alloc (.cells #[.int .i64 (l : Int), .int .i64 (r : Int), .int .i64 c] 134)) w3 → Below w.heap.size w w3 ∧ w3.cell? ⟨w.heap.size, 0, none⟩ = some (.int .i64 l) ∧ w3.cell? ⟨w.heap.size, 1, none⟩ = some (.int .i64 r) ∧ w3.cell? ⟨w.heap.size, 2, none⟩ = some (.int .i64 c) := fun {w3} hb3 =>
    ⟨hB.trans (hb3.mono hB.size), (hb3.cell (p := ⟨w.heap.size, 0, none⟩) hzs).trans hz0, (hb3.cell (p := ⟨w.heap.size, 1, none⟩) hzs).trans hz1, (hb3.cell (p := ⟨w.heap.size, 2, none⟩) hzs).trans hz2⟩
  have ARM : Hid _ := @arm
  clear arm
  cases K1 with
  | true =>
    go_enter Tryz.func179, Tryz.ntmps179
    go_wp2_with fail
    go_at_call 236
    refine Calls.mono (C1.out _ hB) ?_
    rintro e w3 ⟨rfl, hb3⟩
    go_wp2_with fail
    go_ret
    exact ⟨rfl, (ARM.out hb3).1⟩
  | false =>
    cases K2 with
    | true =>
      go_enter Tryz.func179, Tryz.ntmps179
      go_wp2_with fail
      go_at_call 236
      refine Calls.mono (C1.out _ hB) ?_
      rintro e w3 ⟨rfl, hb3⟩
      obtain ⟨hB3, y0, y1, y2⟩ := ARM.out hb3
      clear hz0 hz1 hz2 hzs ARM
      go_wp2_with fail
      go_at_call 233
      refine Calls.mono (C3.out _) ?_
      rintro e w4 ⟨rfl, hb4⟩
      have hB4 := hB3.trans (hb4.mono hB3.size)
      go_wp2_with fail
      go_at_call 236
      refine Calls.mono (C2.out _ hB4) ?_
      rintro e w5 ⟨rfl, hb5⟩
      go_wp2_with fail
      go_ret
      exact ⟨rfl, hB4.trans (hb5.mono hB4.size)⟩
    | false =>
      go_enter Tryz.func179, Tryz.ntmps179
      go_wp2_with fail
      go_at_call 236
      refine Calls.mono (C1.out _ hB) ?_
      rintro e w3 ⟨rfl, hb3⟩
      obtain ⟨hB3, y0, y1, y2⟩ := ARM.out hb3
      clear hz0 hz1 hz2 hzs ARM
      go_wp2_with fail
      go_at_call 233
      refine Calls.mono (C3.out _) ?_
      rintro e w4 ⟨rfl, hb4⟩
      have hB4 := hB3.trans (hb4.mono hB3.size)
      go_wp2_with fail
      go_at_call 236
      refine Calls.mono (C2.out _ hB4) ?_
      rintro e w5 ⟨rfl, hb5⟩
      go_wp2_with fail
      go_ret
      exact ⟨rfl, hB4.trans (hb5.mono hB4.size)⟩
set_option maxRecDepth 100000 in
set_option maxHeartbeats 2000000 in
theorem reason_any (w : World) (b : Nat) (B : Bd) (l r : Nat) (c t : Int) (h : BdAt w b 0 B) (hl : l < 5) (hr : r < 5) (hc : -999999 ≤ c ∧ c ≤ 999999) (ht : T3 t) :
    Calls Tryz.prog 186 #[.pointer (some ⟨b, 0, none⟩), .agg #[.int .i64 l, .int .i64 r, .int .i64 c], .int .i8 t] w fun e w' => ∃ v, e = .returned v ∧ IntsR w' v ((brs B ((l : Int), (r : Int), c) t).map fun (n : Nat) => (n : Int)) ∧ Below w.heap.size w w' := by
  obtain ⟨l', r', c', e1, e2, hl', hr', e3⟩ : ∃ (l' r' : Nat) (c' : Int), ifA ((l : Int), (r : Int), c) t = ((l' : Int), (r' : Int), c') ∧ ((brs B ((l : Int), (r : Int), c) t).map fun (n : Nat) => (n : Int)) = bby (B l' r') ∧ l' < 5 ∧ r' < 5 ∧ True := by
    have key : ∀ (x y : Nat) (z : Int), ifA ((l : Int), (r : Int), c) t = ((x : Int), (y : Int), z) → ((brs B ((l : Int), (r : Int), c) t).map fun (n : Nat) => (n : Int)) = bby (B x y) := by
      intro x y z e
      unfold brs
      rw [e]
      dsimp only [Int.toNat_natCast]
      cases B x y with
      | none => rfl
      | some p => rfl
    by_cases h2 : t = 2
    · subst h2
      exact ⟨r, l, -c - 1, rfl, key _ _ _ rfl, hr, hl, trivial⟩
    · have : ifA ((l : Int), (r : Int), c) t = ((l : Int), (r : Int), c) := by unfold ifA; rw [if_neg h2]
      exact ⟨l, r, c, this, key _ _ _ this, hl, hr, trivial⟩
  rw [e2]
  clear e2 e3
  have C3 : Hid (∀ X, Calls Tryz.prog 233 #[.agg #[.int .i64 l, .int .i64 r, .int .i64 c], .int .i8 t] X fun e w' => e = .returned (.agg #[.int .i64 l', .int .i64 r', .int .i64 c']) ∧ Below X.heap.size X w') := fun X => by
    have := if_any l r c t ht hc X
    rw [e1] at this
    exact this
  clear e1
  obtain ⟨hb, hcells⟩ := h
  obtain ⟨h1, h2, v, h3, h4⟩ := hcells l' r' hl' hr'
  have HI : Hid (IntsR w v (bby (B l' r'))) := h4
  clear hcells h1 h2 h4
  rw [Nat.zero_add] at h3
  have l5 : (l' : Int) < 5 := by omega
  have r5 : (r' : Int) < 5 := by omega
  have hB := below_alloc w (.cells #[.int .i64 (l : Int), .int .i64 (r : Int), .int .i64 c] 134)
  go_enter Tryz.func186, Tryz.ntmps186
  go_wp2_with (first | (go_at_call 233; refine Calls.mono (C3.out _) ?_; rintro e w4 ⟨rfl, hb4⟩))
  have hB4 := hB.trans (hb4.mono hB.size)
  have y3 := (hB4.cell (p := ⟨b, l' * 15 + r' * 3 + 2, none⟩) hb).trans h3
  have hb4' : b < w4.heap.size := Nat.lt_of_lt_of_le hb hB4.size
  have hbne : ¬ b = w4.heap.size := by omega
  clear h3
  have hB5 := hB4.trans ((below_alloc w4 (.cells #[.int .i64 (l' : Int), .int .i64 (r' : Int), .int .i64 c'] 134)).mono hB4.size)
  go_region
  go_wp2
  go_ret
  exact ⟨_, rfl, HI.out.below hB5.drew, hB5.drew⟩
end Go.Proofs.YtkinoehmcfhgbaaGreatDoor.Vl
