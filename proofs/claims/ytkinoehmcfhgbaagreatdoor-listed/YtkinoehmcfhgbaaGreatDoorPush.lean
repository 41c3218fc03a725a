/-
  The walk of the document's own push: a stack of texts, the new ones on top.
-/
import Derived.Test.YtkinoehmcfhgbaaGreatDoorRef
set_option linter.unusedVariables false
set_option linter.unusedSimpArgs false
namespace Go.Proofs.YtkinoehmcfhgbaaGreatDoor.Av
open Go.RowKit

def str (t : List UInt8) : Value := .string ⟨t.toArray⟩
/-- A list of texts as it lies in memory. -/
def Strs (w : World) (v : Value) (ls : List (List UInt8)) : Prop :=
  (v = .slice none 0 0 ∧ ls = []) ∨ ∃ b cap, v = .slice (some ⟨b, 0, none⟩) ls.length cap ∧ ls.length ≤ cap ∧ cap ≤ maxLen ∧ b < w.heap.size ∧ ∀ j t, ls[j]? = some t → w.cell? ⟨b, j, none⟩ = some (str t)
theorem Strs.below {w w' : World} {v : Value} {ls : List (List UInt8)} (h : Strs w v ls) (hb : Below w.heap.size w w') : Strs w' v ls := by
  rcases h with h | ⟨b, cap, h1, h2, h3, h4, h5⟩
  · exact Or.inl h
  · exact Or.inr ⟨b, cap, h1, h2, h3, Nat.lt_of_lt_of_le h4 hb.size, fun j t ht => (hb.cell (p := ⟨b, j, none⟩) h4).trans (h5 j t ht)⟩
theorem Strs.pop {w : World} {b cap n : Nat} {ls : List (List UInt8)} (h : Strs w (.slice (some ⟨b, 0, none⟩) n cap) ls) (m : Nat) (hm : m ≤ n) : Strs w (.slice (some ⟨b, 0, none⟩) m cap) (ls.take m) := by
  rcases h with ⟨h, _⟩ | ⟨b', cap', h1, h2, h3, h4, h5⟩
  · cases h
  · cases h1
    refine Or.inr ⟨b, cap, by rw [List.length_take, Nat.min_eq_left hm], by rw [List.length_take]; omega, h3, h4, fun j t ht => h5 j t ?_⟩
    rw [List.getElem?_take] at ht
    split at ht
    · exact ht
    · cases ht
theorem own_strs {w : World} {base : Nat} {v : Value} {ls : List (List UInt8)} (h : w.ownsRow base 9 1 v ls.length (ls.map str)) : Strs w v ls := by
  rcases h.2 with ⟨h1, h2⟩ | ⟨g, cap, cur, hv, hg, hh, h3, h4, h5, h6⟩
  · exact Or.inl ⟨h1, by cases ls <;> simp_all⟩
  · have hlt : g < w.heap.size := by
      rcases Nat.lt_or_ge g w.heap.size with h | h
      · exact h
      · rw [Array.getElem?_eq_none h] at hh; cases hh
    refine Or.inr ⟨g, cap, hv, h3, h4, hlt, fun j t ht => ?_⟩
    have hj : j < ls.length := by
      rcases Nat.lt_or_ge j ls.length with h | h
      · exact h
      · rw [List.getElem?_eq_none h] at ht; cases ht
    have e : cur[j]? = some (str t) := by
      have : (cur.toList.take (ls.length * 1))[j]? = some (str t) := by rw [h6, List.getElem?_map, ht]; rfl
      rw [List.getElem?_take] at this
      rw [if_pos (by omega)] at this
      simpa using this
    simp [World.cell?, hh, e]

theorem Tryz.infoStr : (Tryz.prog.info? 9).map (fun i => (i.zero, i.size, i.bytes)) = some (some (.string ByteArray.empty), 1, 16) := by kernel_rfl
theorem one_new2 (w : World) (B : Nat) (hB : B = w.heap.size) (a : Value) (t : TypeId) : ∀ j u, [a][j]? = some u → (w.alloc (.cells #[a] t)).cell? ((⟨B, 0, none⟩ : Addr).add j) = some u := by
  subst hB
  intro j u h
  match j, h with
  | 0, h => simp at h; subst h; simp [Addr.add]
theorem one_strs (l : List (List UInt8)) : ∀ u ∈ l.map str, u.oneCell' = true := by
  intro u hu; rw [List.mem_map] at hu; obtain ⟨t, _, rfl⟩ := hu; rfl

theorem Strs.facts {w : World} {b n cap : Nat} {ls : List (List UInt8)} (h : Strs w (.slice (some ⟨b, 0, none⟩) n cap) ls) : b < w.heap.size ∧ n = ls.length ∧ ∀ j t, ls[j]? = some t → w.cell? ⟨b, j, none⟩ = some (str t) := by
  rcases h with ⟨h, _⟩ | ⟨b', cap', h1, _, _, h4, h5⟩
  · cases h
  · cases h1; exact ⟨h4, rfl, h5⟩
theorem strs_cells {w : World} {b : Nat} {ls : List (List UInt8)} (h : ∀ j t, ls[j]? = some t → w.cell? ⟨b, j, none⟩ = some (str t)) : ∀ j u, (ls.map str)[j]? = some u → w.cell? ((⟨b, 0, none⟩ : Addr).add j) = some u := by
  intro j u hu
  rw [List.getElem?_map] at hu
  cases ht : ls[j]? with
  | none => rw [ht] at hu; cases hu
  | some t =>
    rw [ht] at hu; cases hu
    have e : (⟨b, 0, none⟩ : Addr).add j = ⟨b, j, none⟩ := by cases j <;> simp [Addr.add]
    rw [e]; exact h j t ht
theorem drop_rev (ms : List (List UInt8)) (j : Nat) (t : List UInt8) (h : ms[j]? = some t) : (ms.drop j).reverse = (ms.drop (j + 1)).reverse ++ [t] := by
  have hj : j < ms.length := by
    rcases Nat.lt_or_ge j ms.length with h' | h'
    · exact h'
    · rw [List.getElem?_eq_none h'] at h; cases h
  rw [List.drop_eq_getElem_cons hj, List.reverse_cons]
  rw [List.getElem?_eq_getElem hj] at h
  cases h; rfl

set_option maxRecDepth 100000 in
set_option maxHeartbeats 1000000 in
theorem push_any (v : Value) (mb mc : Nat) (ls ms : List (List UInt8)) (w : World) (hl : Strs w v ls) (hm : Strs w (.slice (some ⟨mb, 0, none⟩) ms.length mc) ms) (hls : ls.length ≤ 100000) (hms : ms.length ≤ 100) :
    Calls Tryz.prog 99 #[v, .slice (some ⟨mb, 0, none⟩) ms.length mc] w fun e w' => ∃ v, e = .returned v ∧ Strs w' v (ls ++ ms.reverse) ∧ Below w.heap.size w w' := by
  obtain ⟨i0, hi, hz0, hz1, hz2⟩ := info_parts Tryz.infoStr
  obtain ⟨hbm, _, hcm⟩ := hm.facts
  have HM : Hid (∀ j t, ms[j]? = some t → w.cell? ⟨mb, j, none⟩ = some (str t)) := hcm
  clear hcm hm
  rcases hl with ⟨rfl, rfl⟩ | ⟨b, cap, rfl, hc1, hc2, hbl, hcl⟩
  · go_enter Tryz.func99, Tryz.ntmps99
    go_wp2
    go_loopw [5, 6] (fun v i wr => ∃ (j : Nat) (q : Int), j ≤ ms.length ∧ i = .int .i64 q ∧ q = (j : Int) - 1 ∧ wr.ownsRow w.heap.size 9 1 v (([] : List (List UInt8)) ++ (ms.drop j).reverse).length ((([] : List (List UInt8)) ++ (ms.drop j).reverse).map str) ∧ Below w.heap.size w wr) (fun _ i _ => (intOf i + 1).toNat)
    case atStart => exact ⟨ms.length, _, Nat.le_refl _, rfl, rfl, by simpa using World.ownsRow_nil _ _ _ _, Below.refl _ _⟩
    case round =>
      obtain ⟨j, q, hj, rfl, hq, hown, hnx⟩ := hrel
      have hsz := hnx.size
      cases j with
      | zero =>
        have hq' : q = -1 := by omega
        subst hq'
        clear hq
        go_wp2_with fail
        go_ret
        exact ⟨_, rfl, own_strs (by simpa using hown), hnx⟩
      | succ j =>
        have hq' : q = (j : Int) := by omega
        subst hq'
        clear hq
        obtain ⟨t, ht⟩ : ∃ t, ms[j]? = some t := ⟨_, List.getElem?_eq_getElem (by omega)⟩
        have hcell : wr.cell? ⟨mb, j, none⟩ = some (.string ⟨t.toArray⟩) := (hnx.cell (p := ⟨mb, j, none⟩) hbm).trans (HM.out j t ht)
        have R : Hid ((ms.drop j).reverse = (ms.drop (j + 1)).reverse ++ [t]) := drop_rev ms j t ht
        clear ht
        have hlen : (([] : List (List UInt8)) ++ (ms.drop (j + 1)).reverse).length ≤ 100100 := by simp at hls ⊢; omega
        generalize hX : ([] : List (List UInt8)) ++ (ms.drop (j + 1)).reverse = X at *
        have HX : Hid (([] : List (List UInt8)) ++ (ms.drop (j + 1)).reverse = X) := hX
        clear hX
        go_wp2_with (at_builtin; refine wpList_append_own _ rfl _ _ 22 rfl w.heap.size 9 i0 (.string ByteArray.empty) 1 16 Tryz.underlying22 hi hz0 hz1 hz2 rfl (by decide) _ _ _ rfl (hown.alloc _) ⟨wr.heap.size, 0, none⟩ 1 1 [.string ⟨t.toArray⟩] rfl rfl (one_new2 _ _ rfl _ _) (one_strs [t]) (by unfold maxLen; omega) (by omega) (by simp; omega) ?_)
        intro v' w2 hown2 hgrow _
        have hb2 := (hnx.alloc (by omega) _).grown hgrow (by simp; omega) (own_block hown)
        clear hown hgrow hcell
        go_wp2_with fail
        go_roundw
        case rel => exact ⟨j, _, by omega, rfl, by omega, by rw [R.out, ← List.append_assoc, HX.out]; simpa [str] using hown2, hb2⟩
        case measure => simp [intOf]
  · have HL : Hid (∀ j t, ls[j]? = some t → w.cell? ⟨b, j, none⟩ = some (str t)) := hcl
    clear hcl
    go_enter Tryz.func99, Tryz.ntmps99
    go_wp2_with (at_builtin; refine wpList_append_own _ rfl _ _ 22 rfl w.heap.size 9 i0 (.string ByteArray.empty) 1 16 Tryz.underlying22 hi hz0 hz1 hz2 rfl (by decide) _ _ _ rfl (World.ownsRow_nil _ _ _ _) ⟨b, 0, none⟩ ls.length cap (ls.map str) rfl (by simp) (strs_cells HL.out) (one_strs _) (by unfold maxLen; omega) (by omega) (Nat.le_refl _) ?_)
    intro v1 w1 hown1 hgrow _
    have hb1 : Below w.heap.size w w1 := (Below.refl _ _).grown hgrow (Nat.le_refl _) (by intro k hk; simp [Value.ownBlock] at hk)
    clear hgrow HL
    go_wp2_with fail
    go_loopw [5, 6] (fun v i wr => ∃ (j : Nat) (q : Int), j ≤ ms.length ∧ i = .int .i64 q ∧ q = (j : Int) - 1 ∧ wr.ownsRow w.heap.size 9 1 v (ls ++ (ms.drop j).reverse).length ((ls ++ (ms.drop j).reverse).map str) ∧ Below w.heap.size w wr) (fun _ i _ => (intOf i + 1).toNat)
    case atStart => exact ⟨ms.length, _, Nat.le_refl _, rfl, rfl, by simpa using hown1, hb1⟩
    case round =>
      obtain ⟨j, q, hj, rfl, hq, hown, hnx⟩ := hrel
      have hsz := hnx.size
      cases j with
      | zero =>
        have hq' : q = -1 := by omega
        subst hq'
        clear hq
        go_wp2_with fail
        go_ret
        exact ⟨_, rfl, own_strs (by simpa using hown), hnx⟩
      | succ j =>
        have hq' : q = (j : Int) := by omega
        subst hq'
        clear hq
        obtain ⟨t, ht⟩ : ∃ t, ms[j]? = some t := ⟨_, List.getElem?_eq_getElem (by omega)⟩
        have hcell : wr.cell? ⟨mb, j, none⟩ = some (.string ⟨t.toArray⟩) := (hnx.cell (p := ⟨mb, j, none⟩) hbm).trans (HM.out j t ht)
        have R : Hid ((ms.drop j).reverse = (ms.drop (j + 1)).reverse ++ [t]) := drop_rev ms j t ht
        clear ht
        have hlen : (ls ++ (ms.drop (j + 1)).reverse).length ≤ 100100 := by simp at hls ⊢; omega
        generalize hX : ls ++ (ms.drop (j + 1)).reverse = X at *
        have HX : Hid (ls ++ (ms.drop (j + 1)).reverse = X) := hX
        clear hX
        go_wp2_with (at_builtin; refine wpList_append_own _ rfl _ _ 22 rfl w.heap.size 9 i0 (.string ByteArray.empty) 1 16 Tryz.underlying22 hi hz0 hz1 hz2 rfl (by decide) _ _ _ rfl (hown.alloc _) ⟨wr.heap.size, 0, none⟩ 1 1 [.string ⟨t.toArray⟩] rfl rfl (one_new2 _ _ rfl _ _) (one_strs [t]) (by unfold maxLen; omega) (by omega) (by simp; omega) ?_)
        intro v' w2 hown2 hgrow _
        have hb2 := (hnx.alloc (by omega) _).grown hgrow (by simp; omega) (own_block hown)
        clear hown hgrow hcell
        go_wp2_with fail
        go_roundw
        case rel => exact ⟨j, _, by omega, rfl, by omega, by rw [R.out, ← List.append_assoc, HX.out]; simpa [str] using hown2, hb2⟩
        case measure => simp [intOf]

end Go.Proofs.YtkinoehmcfhgbaaGreatDoor.Av
