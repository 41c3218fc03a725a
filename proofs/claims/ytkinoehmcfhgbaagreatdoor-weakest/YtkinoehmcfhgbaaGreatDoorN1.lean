/-
  The walks of slices.Grow and slices.Concat at conditions.
  The walks of strings.Builder's copyCheck and WriteString.
-/
import Derived.Test.YtkinoehmcfhgbaaGreatDoorX1
import Derived.Lib.AppendZeros
import Derived.Laws.AppendOwnNone
import Derived.Lib.Builder
import Derived.Lib.AppendStr
import Derived.Laws.Externs
set_option linter.unusedVariables false
set_option linter.unusedSimpArgs false
namespace Go.Proofs.YtkinoehmcfhgbaaGreatDoor.Vl
open Go.RowKit

set_option maxRecDepth 100000 in
set_option maxHeartbeats 1000000 in
theorem grow_any (n : Nat) (w : World) (hn : n ≤ 100000) :
    Calls Tryz.prog 216 #[.slice none 0 0, .int .i64 (n : Int)] w fun e w' => ∃ v, e = .returned v ∧ w'.ownsRow w.heap.size 136 4 v 0 [] ∧ Below w.heap.size w w' := by
  obtain ⟨i0, hi, hz0, hz1, hz2⟩ := info_parts Tryz.infoSym
  have hn0 : ¬ (n : Int) < 0 := by omega
  by_cases h0 : 0 < n
  · have hp : (0 : Int) < (n : Int) := by omega
    have hr := Lib.run_append_nil_zeros (P := Tryz.prog) w 75 3 75 136 i0 _ .i64 .i64 Tryz.underlying75 Tryz.underlying3 hi hz0 n h0 (by omega) (by omega) (by rw [hz2]; omega)
    have hcg := grownCap_ge w n 0 136
    have hcm := grownCap_le_maxLen w n 0 136 (by unfold maxLen; omega)
    generalize grownCap w n 0 136 = cap at *
    go_enter Tryz.func216, Tryz.ntmps216
    go_wp2_with (at_builtin; refine Lib.wpList_append_run _ rfl _ _ _ _ rfl _ _ rfl rfl _ _ hr ?_)
    go_wp2_with fail
    go_ret
    refine ⟨_, rfl, ⟨rfl, Or.inr ⟨w.heap.size, cap, _, rfl, Nat.le_refl _, heap_alloc_new w _, Nat.zero_le _, hcm, ?_, rfl⟩⟩, (below_alloc w _).drew⟩
    rw [Array.size_append, size_zeroCells, size_zeroCells]
    simp
    omega
  · have hn1 : n = 0 := by omega
    subst hn1
    go_enter Tryz.func216, Tryz.ntmps216
    go_wp2
    go_ret
    exact ⟨_, rfl, World.ownsRow_nil _ _ _ _, Below.refl _ _⟩

/-- Conditions in a row, as they lie in memory. -/
def PartsR (w : World) (v : Value) (yss : List (List Sym)) : Prop := (v = .slice none 0 0 ∧ yss = []) ∨ ∃ (p cap : Nat) (vs : List Value), v = .slice (some ⟨p, 0, none⟩) yss.length cap ∧ yss.length ≤ cap ∧ cap ≤ maxLen ∧ p < w.heap.size ∧ vs.length = yss.length ∧ (∀ (j : Nat) (x : Value), vs[j]? = some x → w.cell? ⟨p, j, none⟩ = some x) ∧ ∀ (j : Nat) (x : Value) (ys : List Sym), vs[j]? = some x → yss[j]? = some ys → CondR w x ys
theorem PartsR.below {w w' : World} {v : Value} {yss : List (List Sym)} (h : PartsR w v yss) (hb : Below w.heap.size w w') : PartsR w' v yss := by
  rcases h with h | ⟨p, cap, vs, h1, h2, h3, h4, h5, h6, h7⟩
  · exact Or.inl h
  · exact Or.inr ⟨p, cap, vs, h1, h2, h3, Nat.lt_of_lt_of_le h4 hb.size, h5, fun j x hx => (hb.cell (p := ⟨p, j, none⟩) h4).trans (h6 j x hx), fun j x ys hx hy => (h7 j x ys hx hy).below hb⟩
theorem CondR.shape {w : World} {v : Value} {ys : List Sym} (h : CondR w v ys) : ∃ a cap, v = .slice a ys.length cap := by
  rcases h with ⟨rfl, rfl⟩ | ⟨b, cap, h1, _⟩
  · exact ⟨none, 0, rfl⟩
  · exact ⟨_, _, h1⟩
theorem cells4_len : ∀ l : List Sym, (cells4 l).length = l.length * 4
  | [] => rfl
  | x :: r => by simp only [cells4, List.flatMap_cons, List.length_append, List.length_cons]; have := cells4_len r; unfold cells4 at this; rw [this]; simp [cell4]; omega
theorem cells4_app (a b : List Sym) : cells4 (a ++ b) = cells4 a ++ cells4 b := by unfold cells4; rw [List.flatMap_append]
theorem cells4_one (l : List Sym) : ∀ u ∈ cells4 l, u.oneCell' = true := by
  intro u hu
  unfold cells4 at hu
  obtain ⟨y, _, hy⟩ := List.mem_flatMap.1 hu
  simp [cell4] at hy
  rcases hy with rfl | rfl | rfl | rfl <;> rfl
theorem own_cond {w : World} {base : Nat} {v : Value} {ys : List Sym} (h : w.ownsRow base 136 4 v ys.length (cells4 ys)) : CondR w v ys := by
  rcases h.2 with ⟨h1, h2⟩ | ⟨g, cap, cur, hv, hg, hh, h3, h4, h5, h6⟩
  · exact Or.inl ⟨h1, List.length_eq_zero_iff.1 h2⟩
  · have hlt : g < w.heap.size := by
      rcases Nat.lt_or_ge g w.heap.size with h | h
      · exact h
      · rw [Array.getElem?_eq_none h] at hh; cases hh
    refine Or.inr ⟨g, cap, hv, h3, h4, hlt, fun j u hu => ?_, _, _, hh⟩
    rw [← h6, List.getElem?_take] at hu
    split at hu
    · have : cur[j]? = some u := by simpa using hu
      simp [World.cell?, hh, this]
    · cases hu
theorem flat_take (yss : List (List Sym)) {k : Nat} {ys : List Sym} (h : yss[k]? = some ys) : (yss.take (k + 1)).flatten = (yss.take k).flatten ++ ys := by
  have hk : k < yss.length := by
    rcases Nat.lt_or_ge k yss.length with h' | h'
    · exact h'
    · rw [List.getElem?_eq_none h'] at h; cases h
  rw [List.take_add_one, List.flatten_append, h]
  simp
theorem flat_le (yss : List (List Sym)) (k : Nat) : (yss.take k).flatten.length ≤ yss.flatten.length := by
  conv => rhs; rw [← List.take_append_drop k yss, List.flatten_append, List.length_append]
  omega

set_option maxRecDepth 100000 in
set_option maxHeartbeats 2000000 in
theorem concat_any (v : Value) (yss : List (List Sym)) (w : World) (h : PartsR w v yss) (hl : yss.flatten.length ≤ 100000) (hm : yss.length ≤ 1000) :
    Calls Tryz.prog 142 #[v] w fun e w' => ∃ v', e = .returned v' ∧ CondR w' v' yss.flatten ∧ Below w.heap.size w w' := by
  obtain ⟨i0, hi, hz0, hz1, hz2⟩ := info_parts Tryz.infoSym
  have CG : Hid (∀ w, Calls Tryz.prog 216 #[.slice none 0 0, .int .i64 (yss.flatten.length : Int)] w fun e w' => ∃ v, e = .returned v ∧ w'.ownsRow w.heap.size 136 4 v 0 [] ∧ Below w.heap.size w w') := fun w => grow_any _ w hl
  obtain ⟨pa, cap, rfl⟩ : ∃ pa cap, v = .slice pa yss.length cap := by
    rcases h with ⟨rfl, rfl⟩ | ⟨p, cap, vs, rfl, _⟩
    · exact ⟨none, 0, rfl⟩
    · exact ⟨_, _, rfl⟩
  have HP : Hid (PartsR w (.slice pa yss.length cap) yss) := h
  have HFL : Hid (yss.take yss.length = yss) := List.take_length
  clear h
  go_enter Tryz.func142, Tryz.ntmps142
  go_wp2_with fail
  go_loopw [3, 11] (fun sz iv wr => ∃ k : Nat, iv = .int .i64 (k : Int) ∧ k ≤ yss.length ∧ sz = .int .i64 ((yss.take k).flatten.length : Int) ∧ Below w.heap.size w wr) (fun _ iv _ => yss.length - (intOf iv).toNat)
  case atStart => exact ⟨0, rfl, Nat.zero_le _, rfl, Below.refl _ _⟩
  case round =>
    obtain ⟨k, rfl, hk, rfl, hbr⟩ := hrel
    have hfl := flat_le yss k
    by_cases hlt : k < yss.length
    · have hlt' : (k : Int) < (yss.length : Int) := by omega
      obtain ⟨ys, hys⟩ : ∃ ys, yss[k]? = some ys := ⟨_, List.getElem?_eq_getElem hlt⟩
      have hft := flat_take yss hys
      have hfl2 := flat_le yss (k + 1)
      rcases HP.out with ⟨_, h0⟩ | ⟨p, cap', vs, hv, h2, h3, h4, h5, h6, h7⟩
      · rw [h0] at hlt; simp at hlt
      cases hv
      obtain ⟨x, hx⟩ : ∃ x, vs[k]? = some x := ⟨_, List.getElem?_eq_getElem (by omega)⟩
      obtain ⟨xa, xc, rfl⟩ := (h7 k x ys hx hys).shape
      have z := (hbr.cell (p := ⟨p, k, none⟩) h4).trans (h6 k _ hx)
      have hsum : (yss.take (k + 1)).flatten.length = (yss.take k).flatten.length + ys.length := by rw [hft, List.length_append]
      have HSU : Hid ((yss.take (k + 1)).flatten.length = (yss.take k).flatten.length + ys.length) := hsum
      have hb2 : (yss.take k).flatten.length + ys.length ≤ 100000 := by omega
      clear hft hfl2 h6 h7 hx hys hsum
      generalize (yss.take k).flatten.length = S at *
      go_wp2_with fail
      go_roundw
      case rel => exact ⟨k + 1, by go_num, by omega, by rw [HSU.out]; go_num, hbr⟩
      case measure => simp [intOf]; omega
    · have hke : k = yss.length := by omega
      subst hke
      have hlt' : ¬ (yss.length : Int) < (yss.length : Int) := by omega
      rw [HFL.out]
      obtain ⟨W1, hW1⟩ : ∃ W1, W1 = wr := ⟨_, rfl⟩
      subst hW1
      generalize hSS : yss.flatten.length = S at *
      have HSS : Hid (yss.flatten.length = S) := hSS
      clear hSS hfl
      go_wp2_with fail
      refine (CG.out _).mono ?_
      rintro e w2 ⟨nv, rfl, hown0, hb2⟩
      have HB2 : Hid (Below w.heap.size w w2) := hbr.trans (hb2.mono hbr.size)
      have hs12 := hb2.size
      have hww := hbr.size
      clear hb2 hbr
      go_wp2_with fail
      go_loopw [6, 27] (fun lv iv wr => ∃ k : Nat, iv = .int .i64 (k : Int) ∧ k ≤ yss.length ∧ wr.ownsRow W1.heap.size 136 4 lv (yss.take k).flatten.length (cells4 (yss.take k).flatten) ∧ Below w.heap.size w wr ∧ W1.heap.size ≤ wr.heap.size) (fun _ iv _ => yss.length - (intOf iv).toNat)
      case atStart => exact ⟨0, rfl, Nat.zero_le _, hown0, HB2.out, hs12⟩
      case round =>
        obtain ⟨k, rfl, hk, hown, hbr, hsr⟩ := hrel
        by_cases hlt2 : k < yss.length
        · have hlt3 : (k : Int) < (yss.length : Int) := by omega
          obtain ⟨ys, hys⟩ : ∃ ys, yss[k]? = some ys := ⟨_, List.getElem?_eq_getElem hlt2⟩
          have hft := flat_take yss hys
          have hfl2 := flat_le yss (k + 1)
          rw [HSS.out, hft, List.length_append] at hfl2
          rcases HP.out with ⟨_, h0⟩ | ⟨p, cap', vs, hv, h2, h3, h4, h5, h6, h7⟩
          · rw [h0] at hlt2; simp at hlt2
          cases hv
          obtain ⟨x, hx⟩ : ∃ x, vs[k]? = some x := ⟨_, List.getElem?_eq_getElem (by omega)⟩
          have z := (hbr.cell (p := ⟨p, k, none⟩) h4).trans (h6 k _ hx)
          have hcx := h7 k x ys hx hys
          have HFT : Hid ((yss.take (k + 1)).flatten = (yss.take k).flatten ++ ys) := hft
          clear hft h6 h7 hx hys hown0
          generalize hTK : (yss.take k).flatten = TK at *
          rcases hcx with ⟨rfl, rfl⟩ | ⟨b, xc, rfl, q2, q3, q4, q5, _⟩
          · go_wp2_with (at_builtin; refine wpList_append_own_none rfl _ _ 75 rfl W1.heap.size 136 i0 4 Tryz.underlying75 hi _ _ _ rfl hown rfl ?_)
            go_wp2_with fail
            go_roundw
            case rel => exact ⟨k + 1, by go_num, by omega, by rw [HFT.out, List.append_nil]; exact hown, hbr, hsr⟩
            case measure => simp [intOf]; omega
          · have hnews : ∀ j u, (cells4 ys)[j]? = some u → wr.cell? ((⟨b, 0, none⟩ : Addr).add j) = some u := fun j u hu => by
              rw [Addr.add_mid]
              exact (hbr.cell (p := ⟨b, 0 + j, none⟩) q4).trans (q5 j u hu)
            go_wp2_with (at_builtin; refine wpList_append_own _ rfl _ _ 75 rfl W1.heap.size 136 i0 (.agg #[.int .i64 0, .int .i64 0, .int .i64 0, .int .i64 0]) 4 32 Tryz.underlying75 hi hz0 hz1 hz2 rfl (by decide) _ _ _ rfl hown ⟨b, 0, none⟩ ys.length xc (cells4 ys) rfl (cells4_len ys) hnews (cells4_one ys) (by unfold maxLen; omega) (by omega) hsr ?_)
            intro v' w3 hown3 hgrow _
            have hb3 := hbr.grown hgrow hbr.size (fun j hj => by have := own_block hown j hj; omega)
            have hs3 := hgrow.size
            clear hown hgrow hnews
            go_wp2_with fail
            go_roundw
            case rel => exact ⟨k + 1, by go_num, by omega, by rw [HFT.out, cells4_app, List.length_append]; exact hown3, hb3, by omega⟩
            case measure => simp [intOf]; omega
        · have hke : k = yss.length := by omega
          subst hke
          have hlt3 : ¬ (yss.length : Int) < (yss.length : Int) := by omega
          rw [HFL.out] at hown
          go_wp2_with fail
          go_ret
          exact ⟨_, rfl, own_cond hown, hbr⟩
end Go.Proofs.YtkinoehmcfhgbaaGreatDoor.Vl
set_option linter.unusedVariables false
set_option linter.unusedSimpArgs false
namespace Go.Proofs.YtkinoehmcfhgbaaGreatDoor.Vl
open Go.RowKit

set_option maxRecDepth 100000 in
set_option maxHeartbeats 1000000 in
theorem copyCheck_any (B b : Nat) (p : Value) (bs : List Value) (w : World) (h : Lib.BuilderAt 130 5 B b p bs w) (hp : p = .pointer none ∨ p = .pointer (some ⟨b, 0, none⟩)) :
    Calls Tryz.prog 96 #[.pointer (some ⟨b, 0, none⟩)] w fun e w' => e = .returned (.tuple #[]) ∧ Lib.BuilderAt 130 5 B b (.pointer (some ⟨b, 0, none⟩)) bs w' ∧ Below B w w' := by
  have c0 := h.cell0
  have f0 := h.frozen0
  have hlt := h.lt
  have HB : Hid _ := h
  have hsh := h.shape
  obtain ⟨jT, hjT⟩ : ∃ j, Tryz.prog.info? 130 = some j := Option.isSome_iff_exists.1 (by kernel_rfl)
  have hjs : jT.size ≠ 0 := by
    have : (Tryz.prog.info? 130).map (·.size) = some 2 := by kernel_rfl
    rw [hjT] at this
    have h2 : jT.size = 2 := Option.some.inj this
    omega
  have q1 : (convert 128 275 (.pointer (some ⟨b, 0, none⟩))).run Tryz.prog w = .ok (.pointer (some ⟨b, 0, none⟩)) w := Lib.run_to_unsafe w ⟨b, 0, none⟩ Tryz.underlying128 Tryz.underlying275 hjT hjs hsh (show 0 < 2 by decide)
  have q2 : (convert 275 128 (.pointer (some ⟨b, 0, none⟩))).run Tryz.prog w = .ok (.pointer (some ⟨b, 0, none⟩)) w := Lib.run_from_unsafe w ⟨b, 0, none⟩ Tryz.underlying275 Tryz.underlying128 hjT hsh (by kernel_rfl)
  have q3 : (binOp .neq 128 (.pointer (some ⟨b, 0, none⟩)) (.pointer (some ⟨b, 0, none⟩))).run Tryz.prog w = .ok (.bool false) w := Lib.run_neq_ptr_same w ⟨b, 0, none⟩ Tryz.underlying128 hjT
  have q4 : (callFunc 143 #[.pointer (some ⟨b, 0, none⟩)]).run Tryz.prog w = .ok (.value (.pointer (some ⟨b, 0, none⟩))) w := by
    rw [run_callFunc_extern Tryz.func143 (by kernel_rfl) (by kernel_rfl) (by kernel_rfl) (e := Extern.AbiNoEscape.same) (by kernel_rfl), Lib.run_noEscape]
    rfl
  clear hsh hjs
  rcases hp with rfl | rfl
  · clear h
    go_enter Tryz.func96, Tryz.ntmps96
    go_wp2_with fail
    go_end0
    exact ⟨rfl, Lib.BuilderAt.used HB.out _, (Below.refl _ _).setCell (p := ⟨b, 0, none⟩) HB.out.1 _⟩
  · clear h
    go_enter Tryz.func96, Tryz.ntmps96
    go_wp2_with fail
    go_end0
    exact ⟨rfl, HB.out, Below.refl _ _⟩
theorem Tryz.infoByte : (Tryz.prog.info? 5).map (fun i => (i.zero, i.size, i.bytes)) = some (some (.int .u8 0), 1, 1) := by kernel_rfl

set_option maxRecDepth 100000 in
set_option maxHeartbeats 1000000 in
theorem writeString_any (B b : Nat) (bs : List Value) (s : ByteArray) (w : World) (h : Lib.IsBuilder 130 5 B b bs w) (hlen : bs.length + s.size ≤ 100000000) (hBw : B ≤ w.heap.size) :
    Calls Tryz.prog 59 #[.pointer (some ⟨b, 0, none⟩), .string s] w fun e w' => e = .returned (.tuple #[.int .i64 s.size, .nilIface]) ∧ Lib.BuilderAt 130 5 B b (.pointer (some ⟨b, 0, none⟩)) (bs ++ Lib.strCells s) w' ∧ Below B w w' := by
  obtain ⟨i0, hi, hz0, hz1, hz2⟩ := info_parts Tryz.infoByte
  have C1 : Hid (Calls Tryz.prog 96 #[.pointer (some ⟨b, 0, none⟩)] w fun e w' => e = .returned (.tuple #[]) ∧ Lib.BuilderAt 130 5 B b (.pointer (some ⟨b, 0, none⟩)) bs w' ∧ Below B w w') := by
    rcases h with h | h
    · exact copyCheck_any B b _ bs w h (Or.inl rfl)
    · exact copyCheck_any B b _ bs w h (Or.inr rfl)
  clear h
  go_enter Tryz.func59, Tryz.ntmps59
  go_wp2_with fail
  refine Calls.mono C1.out ?_
  rintro e w1 ⟨rfl, ⟨hB, v, hb, hown, hne⟩, hb1⟩
  have c1 := Lib.cell_of_heap hb 1
  simp at c1
  have hlt : b < w1.heap.size := by
    rcases Nat.lt_or_ge b w1.heap.size with h | h
    · exact h
    · rw [Array.getElem?_eq_none h] at hb; cases hb
  have hs1 := hb1.size
  have HH : Hid _ := hb
  clear hb
  obtain ⟨va, vn, vc, rfl⟩ : ∃ a n c, v = .slice a n c := by
    rcases hown.2 with ⟨rfl, _⟩ | ⟨g, cap, cur, rfl, _⟩
    · exact ⟨_, _, _, rfl⟩
    · exact ⟨_, _, _, rfl⟩
  go_wp2_with (at_builtin; refine Lib.wpList_append_own_string _ rfl _ _ 122 9 rfl B 5 i0 Tryz.underlying122 Tryz.underlying9 hi hz0 hz1 hz2 _ _ _ rfl hown s rfl (by unfold maxLen; omega) (by omega) (by omega) ?_)
  intro v' w2 hown2 hgrow _
  have hbk : w2.heap[b]? = some (.cells #[.pointer (some ⟨b, 0, none⟩), .slice va vn vc] 130 (0, 0)) := (hgrow.block b hlt (fun e => hne e.symm)).trans HH.out
  have f1 := Lib.frozen_of_heap hbk 1
  have c1' := Lib.cell_of_heap hbk 1
  simp at c1'
  have hlt2 : b < w2.heap.size := Nat.lt_of_lt_of_le hlt hgrow.size
  have HBA : Hid (Lib.BuilderAt 130 5 B b (.pointer (some ⟨b, 0, none⟩)) (bs ++ Lib.strCells s) (w2.setCell ⟨b, 1, none⟩ v')) := Lib.BuilderAt.put hB hbk (by rw [List.length_append, Lib.strCells_length]; exact hown2) (by decide)
  have HB2 : Hid (Below B w w2) := hb1.grown hgrow (by omega) (fun j hj => own_block hown j hj)
  obtain ⟨va', vn', vc', rfl⟩ : ∃ a n c, v' = .slice a n c := by
    rcases hown2.2 with ⟨rfl, _⟩ | ⟨g, cap, cur, rfl, _⟩
    · exact ⟨_, _, _, rfl⟩
    · exact ⟨_, _, _, rfl⟩
  clear hown hgrow hown2 hbk HH c1
  go_wp2_with fail
  go_ret2
  exact ⟨rfl, HBA.out, HB2.out.setCell (p := ⟨b, 1, none⟩) hB _⟩
end Go.Proofs.YtkinoehmcfhgbaaGreatDoor.Vl
