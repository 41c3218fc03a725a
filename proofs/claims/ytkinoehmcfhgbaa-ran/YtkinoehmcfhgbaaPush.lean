/-
  The walk of the document's own push: a stack of texts, the new ones on top.
  The walk of the document's own starts: what a kind wants when a token begins it.
  The walk of the document's own opens: the kinds on top of what is wanted, taken apart for a token.
  The walks of the document's own looked and Read: what Check is to answer.
-/
import Derived.Test.YtkinoehmcfhgbaaPar0
import Derived.Deep.QuietTactic
import Derived.BigQuiet
import Derived.Deep.LoopGhost
import Derived.Deep.RegionHeld3
set_option linter.unusedVariables false
set_option linter.unusedSimpArgs false
namespace Go.Proofs.Ytkinoehmcfhgbaa.Av
open Go.RowKit

def str (t : List UInt8) : Value := .string ⟨t.toArray⟩
/-- A list of texts as it lies in memory. -/
def Strs (w : World) (v : Value) (ls : List (List UInt8)) : Prop :=
  (v = .slice none 0 0 ∧ ls = []) ∨ ∃ b cap, v = .slice (some ⟨b, 0, none⟩) ls.length cap ∧ ls.length ≤ cap ∧ cap ≤ maxLen ∧ b < w.heap.size ∧ ∀ j t, ls[j]? = some t → w.cell? ⟨b, j, none⟩ = some (str t)
theorem Strs.below {w w' : World} {v : Value} {ls : List (List UInt8)} (h : Strs w v ls) (hb : Below w.heap.size w w') : Strs w' v ls := by
  rcases h with h | ⟨b, cap, h1, h2, h3, h4, h5⟩
  · exact Or.inl h
  · exact Or.inr ⟨b, cap, h1, h2, h3, Nat.lt_of_lt_of_le h4 hb.size, fun j t ht => (hb.cell (p := ⟨b, j, none⟩) h4).trans (h5 j t ht)⟩
theorem Strs.pop {w : World} {b cap n : Nat} {ls : List (List UInt8)} (h : Strs w (.slice (some ⟨b, 0, none⟩) n cap) ls) (m : Nat) (hm : m ≤ n) : Strs w (.slice (some ⟨b, 0, none⟩) m cap) (ls.take m) := by
  rcases h with ⟨h, _⟩ | ⟨b', cap', h1, h2, h3, h4, h5⟩
  · cases h
  · cases h1
    refine Or.inr ⟨b, cap, by rw [List.length_take, Nat.min_eq_left hm], by rw [List.length_take]; omega, h3, h4, fun j t ht => h5 j t ?_⟩
    rw [List.getElem?_take] at ht
    split at ht
    · exact ht
    · cases ht
theorem own_strs {w : World} {base : Nat} {v : Value} {ls : List (List UInt8)} (h : w.ownsRow base 9 1 v ls.length (ls.map str)) : Strs w v ls := by
  rcases h.2 with ⟨h1, h2⟩ | ⟨g, cap, cur, hv, hg, hh, h3, h4, h5, h6⟩
  · exact Or.inl ⟨h1, by cases ls <;> simp_all⟩
  · have hlt : g < w.heap.size := by
      rcases Nat.lt_or_ge g w.heap.size with h | h
      · exact h
      · rw [Array.getElem?_eq_none h] at hh; cases hh
    refine Or.inr ⟨g, cap, hv, h3, h4, hlt, fun j t ht => ?_⟩
    have hj : j < ls.length := by
      rcases Nat.lt_or_ge j ls.length with h | h
      · exact h
      · rw [List.getElem?_eq_none h] at ht; cases ht
    have e : cur[j]? = some (str t) := by
      have : (cur.toList.take (ls.length * 1))[j]? = some (str t) := by rw [h6, List.getElem?_map, ht]; rfl
      rw [List.getElem?_take] at this
      rw [if_pos (by omega)] at this
      simpa using this
    simp [World.cell?, hh, e]

theorem Try.infoStr : (Try.prog.info? 9).map (fun i => (i.zero, i.size, i.bytes)) = some (some (.string ByteArray.empty), 1, 16) := by kernel_rfl
theorem one_new2 (w : World) (B : Nat) (hB : B = w.heap.size) (a : Value) (t : TypeId) : ∀ j u, [a][j]? = some u → (w.alloc (.cells #[a] t)).cell? ((⟨B, 0, none⟩ : Addr).add j) = some u := by
  subst hB
  intro j u h
  match j, h with
  | 0, h => simp at h; subst h; simp [Addr.add]
theorem one_strs (l : List (List UInt8)) : ∀ u ∈ l.map str, u.oneCell' = true := by
  intro u hu; rw [List.mem_map] at hu; obtain ⟨t, _, rfl⟩ := hu; rfl

theorem Strs.facts {w : World} {b n cap : Nat} {ls : List (List UInt8)} (h : Strs w (.slice (some ⟨b, 0, none⟩) n cap) ls) : b < w.heap.size ∧ n = ls.length ∧ ∀ j t, ls[j]? = some t → w.cell? ⟨b, j, none⟩ = some (str t) := by
  rcases h with ⟨h, _⟩ | ⟨b', cap', h1, _, _, h4, h5⟩
  · cases h
  · cases h1; exact ⟨h4, rfl, h5⟩
theorem strs_cells {w : World} {b : Nat} {ls : List (List UInt8)} (h : ∀ j t, ls[j]? = some t → w.cell? ⟨b, j, none⟩ = some (str t)) : ∀ j u, (ls.map str)[j]? = some u → w.cell? ((⟨b, 0, none⟩ : Addr).add j) = some u := by
  intro j u hu
  rw [List.getElem?_map] at hu
  cases ht : ls[j]? with
  | none => rw [ht] at hu; cases hu
  | some t =>
    rw [ht] at hu; cases hu
    have e : (⟨b, 0, none⟩ : Addr).add j = ⟨b, j, none⟩ := by cases j <;> simp [Addr.add]
    rw [e]; exact h j t ht
theorem drop_rev (ms : List (List UInt8)) (j : Nat) (t : List UInt8) (h : ms[j]? = some t) : (ms.drop j).reverse = (ms.drop (j + 1)).reverse ++ [t] := by
  have hj : j < ms.length := by
    rcases Nat.lt_or_ge j ms.length with h' | h'
    · exact h'
    · rw [List.getElem?_eq_none h'] at h; cases h
  rw [List.drop_eq_getElem_cons hj, List.reverse_cons]
  rw [List.getElem?_eq_getElem hj] at h
  cases h; rfl

set_option maxRecDepth 100000 in
set_option maxHeartbeats 1000000 in
theorem push_any (v : Value) (mb mc : Nat) (ls ms : List (List UInt8)) (w : World) (hl : Strs w v ls) (hm : Strs w (.slice (some ⟨mb, 0, none⟩) ms.length mc) ms) (hls : ls.length ≤ 100000) (hms : ms.length ≤ 100) :
    Calls Try.prog 43 #[v, .slice (some ⟨mb, 0, none⟩) ms.length mc] w fun e w' => ∃ v, e = .returned v ∧ Strs w' v (ls ++ ms.reverse) ∧ Below w.heap.size w w' := by
  obtain ⟨i0, hi, hz0, hz1, hz2⟩ := info_parts Try.infoStr
  obtain ⟨hbm, _, hcm⟩ := hm.facts
  have HM : Hid (∀ j t, ms[j]? = some t → w.cell? ⟨mb, j, none⟩ = some (str t)) := hcm
  clear hcm hm
  rcases hl with ⟨rfl, rfl⟩ | ⟨b, cap, rfl, hc1, hc2, hbl, hcl⟩
  · go_enter Try.func43, Try.ntmps43
    go_wp2
    go_loopw [5, 6] (fun v i wr => ∃ (j : Nat) (q : Int), j ≤ ms.length ∧ i = .int .i64 q ∧ q = (j : Int) - 1 ∧ wr.ownsRow w.heap.size 9 1 v (([] : List (List UInt8)) ++ (ms.drop j).reverse).length ((([] : List (List UInt8)) ++ (ms.drop j).reverse).map str) ∧ Below w.heap.size w wr) (fun _ i _ => (intOf i + 1).toNat)
    case atStart => exact ⟨ms.length, _, Nat.le_refl _, rfl, rfl, by simpa using World.ownsRow_nil _ _ _ _, Below.refl _ _⟩
    case round =>
      obtain ⟨j, q, hj, rfl, hq, hown, hnx⟩ := hrel
      have hsz := hnx.size
      cases j with
      | zero =>
        have hq' : q = -1 := by omega
        subst hq'
        clear hq
        go_wp2_with fail
        go_ret
        exact ⟨_, rfl, own_strs (by simpa using hown), hnx⟩
      | succ j =>
        have hq' : q = (j : Int) := by omega
        subst hq'
        clear hq
        obtain ⟨t, ht⟩ : ∃ t, ms[j]? = some t := ⟨_, List.getElem?_eq_getElem (by omega)⟩
        have hcell : wr.cell? ⟨mb, j, none⟩ = some (.string ⟨t.toArray⟩) := (hnx.cell (p := ⟨mb, j, none⟩) hbm).trans (HM.out j t ht)
        have R : Hid ((ms.drop j).reverse = (ms.drop (j + 1)).reverse ++ [t]) := drop_rev ms j t ht
        clear ht
        have hlen : (([] : List (List UInt8)) ++ (ms.drop (j + 1)).reverse).length ≤ 100100 := by simp at hls ⊢; omega
        generalize hX : ([] : List (List UInt8)) ++ (ms.drop (j + 1)).reverse = X at *
        have HX : Hid (([] : List (List UInt8)) ++ (ms.drop (j + 1)).reverse = X) := hX
        clear hX
        go_wp2_with (at_builtin; refine wpList_append_own _ rfl _ _ 107 rfl w.heap.size 9 i0 (.string ByteArray.empty) 1 16 Try.underlying107 hi hz0 hz1 hz2 rfl (by decide) _ _ _ rfl (hown.alloc _) ⟨wr.heap.size, 0, none⟩ 1 1 [.string ⟨t.toArray⟩] rfl rfl (one_new2 _ _ rfl _ _) (one_strs [t]) (by unfold maxLen; omega) (by omega) (by simp; omega) ?_)
        intro v' w2 hown2 hgrow _
        have hb2 := (hnx.alloc (by omega) _).grown hgrow (by simp; omega) (own_block hown)
        clear hown hgrow hcell
        go_wp2_with fail
        go_roundw
        case rel => exact ⟨j, _, by omega, rfl, by omega, by rw [R.out, ← List.append_assoc, HX.out]; simpa [str] using hown2, hb2⟩
        case measure => simp [intOf]
  · have HL : Hid (∀ j t, ls[j]? = some t → w.cell? ⟨b, j, none⟩ = some (str t)) := hcl
    clear hcl
    go_enter Try.func43, Try.ntmps43
    go_wp2_with (at_builtin; refine wpList_append_own _ rfl _ _ 107 rfl w.heap.size 9 i0 (.string ByteArray.empty) 1 16 Try.underlying107 hi hz0 hz1 hz2 rfl (by decide) _ _ _ rfl (World.ownsRow_nil _ _ _ _) ⟨b, 0, none⟩ ls.length cap (ls.map str) rfl (by simp) (strs_cells HL.out) (one_strs _) (by unfold maxLen; omega) (by omega) (Nat.le_refl _) ?_)
    intro v1 w1 hown1 hgrow _
    have hb1 : Below w.heap.size w w1 := (Below.refl _ _).grown hgrow (Nat.le_refl _) (by intro k hk; simp [Value.ownBlock] at hk)
    clear hgrow HL
    go_wp2_with fail
    go_loopw [5, 6] (fun v i wr => ∃ (j : Nat) (q : Int), j ≤ ms.length ∧ i = .int .i64 q ∧ q = (j : Int) - 1 ∧ wr.ownsRow w.heap.size 9 1 v (ls ++ (ms.drop j).reverse).length ((ls ++ (ms.drop j).reverse).map str) ∧ Below w.heap.size w wr) (fun _ i _ => (intOf i + 1).toNat)
    case atStart => exact ⟨ms.length, _, Nat.le_refl _, rfl, rfl, by simpa using hown1, hb1⟩
    case round =>
      obtain ⟨j, q, hj, rfl, hq, hown, hnx⟩ := hrel
      have hsz := hnx.size
      cases j with
      | zero =>
        have hq' : q = -1 := by omega
        subst hq'
        clear hq
        go_wp2_with fail
        go_ret
        exact ⟨_, rfl, own_strs (by simpa using hown), hnx⟩
      | succ j =>
        have hq' : q = (j : Int) := by omega
        subst hq'
        clear hq
        obtain ⟨t, ht⟩ : ∃ t, ms[j]? = some t := ⟨_, List.getElem?_eq_getElem (by omega)⟩
        have hcell : wr.cell? ⟨mb, j, none⟩ = some (.string ⟨t.toArray⟩) := (hnx.cell (p := ⟨mb, j, none⟩) hbm).trans (HM.out j t ht)
        have R : Hid ((ms.drop j).reverse = (ms.drop (j + 1)).reverse ++ [t]) := drop_rev ms j t ht
        clear ht
        have hlen : (ls ++ (ms.drop (j + 1)).reverse).length ≤ 100100 := by simp at hls ⊢; omega
        generalize hX : ls ++ (ms.drop (j + 1)).reverse = X at *
        have HX : Hid (ls ++ (ms.drop (j + 1)).reverse = X) := hX
        clear hX
        go_wp2_with (at_builtin; refine wpList_append_own _ rfl _ _ 107 rfl w.heap.size 9 i0 (.string ByteArray.empty) 1 16 Try.underlying107 hi hz0 hz1 hz2 rfl (by decide) _ _ _ rfl (hown.alloc _) ⟨wr.heap.size, 0, none⟩ 1 1 [.string ⟨t.toArray⟩] rfl rfl (one_new2 _ _ rfl _ _) (one_strs [t]) (by unfold maxLen; omega) (by omega) (by simp; omega) ?_)
        intro v' w2 hown2 hgrow _
        have hb2 := (hnx.alloc (by omega) _).grown hgrow (by simp; omega) (own_block hown)
        clear hown hgrow hcell
        go_wp2_with fail
        go_roundw
        case rel => exact ⟨j, _, by omega, rfl, by omega, by rw [R.out, ← List.append_assoc, HX.out]; simpa [str] using hown2, hb2⟩
        case measure => simp [intOf]

end Go.Proofs.Ytkinoehmcfhgbaa.Av
set_option linter.unusedVariables false
set_option linter.unusedSimpArgs false
namespace Go.Proofs.Ytkinoehmcfhgbaa.Av
open Go.RowKit

/-- A stack of texts as it lies in memory, its top last; told top first. -/
def Stk (w : World) (v : Value) (st : List (List UInt8)) : Prop := Strs w v st.reverse
theorem Stk.below {w w' : World} {v : Value} {st : List (List UInt8)} (h : Stk w v st) (hb : Below w.heap.size w w') : Stk w' v st := Strs.below h hb
theorem str_data (a : ByteArray) : str a.data.toList = .string a := by unfold str; simp
theorem lit2 (w : World) (a b : ByteArray) : Strs (w.alloc (.cells #[.string a, .string b] 9)) (.slice (some ⟨w.heap.size, 0, none⟩) 2 2) [a.data.toList, b.data.toList] := by
  refine Or.inr ⟨w.heap.size, 2, rfl, by simp, by decide, by simp, fun j t h => ?_⟩
  match j, h with
  | 0, h => simp at h; subst h; rw [str_data]; simp
  | 1, h => simp at h; subst h; rw [str_data]; simp
theorem lit6 (w : World) (a b c d e f : ByteArray) : Strs (w.alloc (.cells #[.string a, .string b, .string c, .string d, .string e, .string f] 9)) (.slice (some ⟨w.heap.size, 0, none⟩) 6 6) [a.data.toList, b.data.toList, c.data.toList, d.data.toList, e.data.toList, f.data.toList] := by
  refine Or.inr ⟨w.heap.size, 6, rfl, by simp, by decide, by simp, fun j t h => ?_⟩
  match j, h with
  | 0, h => simp at h; subst h; rw [str_data]; simp
  | 1, h => simp at h; subst h; rw [str_data]; simp
  | 2, h => simp at h; subst h; rw [str_data]; simp
  | 3, h => simp at h; subst h; rw [str_data]; simp
  | 4, h => simp at h; subst h; rw [str_data]; simp
  | 5, h => simp at h; subst h; rw [str_data]; simp
theorem lit1 (w : World) (a : ByteArray) : Strs (w.alloc (.cells #[.string a] 9)) (.slice (some ⟨w.heap.size, 0, none⟩) 1 1) [a.data.toList] := by
  refine Or.inr ⟨w.heap.size, 1, rfl, by simp, by decide, by simp, fun j t h => ?_⟩
  match j, h with
  | 0, h => simp at h; subst h; rw [str_data]; simp
theorem below_alloc (w : World) (o : Obj) : Below w.heap.size w (w.alloc o) := (Below.refl _ _).alloc (Nat.le_refl _) _

theorem push1 (v : Value) (st : List (List UInt8)) (w : World) (a : ByteArray) (h : Stk w v st) (hl : st.length ≤ 90000) :
    Calls Try.prog 43 #[v, .slice (some ⟨w.heap.size, 0, none⟩) 1 1] (w.alloc (.cells #[.string a] 9)) fun e w' => ∃ v', e = .returned v' ∧ Stk w' v' (a.data.toList :: st) ∧ Below w.heap.size w w' := by
  refine (push_any v w.heap.size 1 st.reverse [a.data.toList] _ (Strs.below h (below_alloc _ _)) (lit1 w a) (by simp; omega) (by simp)).mono ?_
  rintro e w' ⟨v', rfl, h1, h2⟩
  exact ⟨v', rfl, by unfold Stk; simpa using h1, (below_alloc _ _).trans (h2.mono (by simp))⟩
theorem push2 (v : Value) (st : List (List UInt8)) (w : World) (a b : ByteArray) (h : Stk w v st) (hl : st.length ≤ 90000) :
    Calls Try.prog 43 #[v, .slice (some ⟨w.heap.size, 0, none⟩) 2 2] (w.alloc (.cells #[.string a, .string b] 9)) fun e w' => ∃ v', e = .returned v' ∧ Stk w' v' (a.data.toList :: b.data.toList :: st) ∧ Below w.heap.size w w' := by
  refine (push_any v w.heap.size 2 st.reverse [a.data.toList, b.data.toList] _ (Strs.below h (below_alloc _ _)) (lit2 w a b) (by simp; omega) (by simp)).mono ?_
  rintro e w' ⟨v', rfl, h1, h2⟩
  exact ⟨v', rfl, by unfold Stk; simpa using h1, (below_alloc _ _).trans (h2.mono (by simp))⟩
theorem push6 (v : Value) (st : List (List UInt8)) (w : World) (a b c d e f : ByteArray) (h : Stk w v st) (hl : st.length ≤ 90000) :
    Calls Try.prog 43 #[v, .slice (some ⟨w.heap.size, 0, none⟩) 6 6] (w.alloc (.cells #[.string a, .string b, .string c, .string d, .string e, .string f] 9)) fun e' w' => ∃ v', e' = .returned v' ∧ Stk w' v' (a.data.toList :: b.data.toList :: c.data.toList :: d.data.toList :: e.data.toList :: f.data.toList :: st) ∧ Below w.heap.size w w' := by
  refine (push_any v w.heap.size 6 st.reverse [a.data.toList, b.data.toList, c.data.toList, d.data.toList, e.data.toList, f.data.toList] _ (Strs.below h (below_alloc _ _)) (lit6 w a b c d e f) (by simp; omega) (by simp)).mono ?_
  rintro e w' ⟨v', rfl, h1, h2⟩
  exact ⟨v', rfl, by unfold Stk; simpa using h1, (below_alloc _ _).trans (h2.mono (by simp))⟩

/-- What a walk of starts ends with. -/
def StsEnd (w : World) (r : List (List UInt8) × Bool) (e : Ending) (w' : World) : Prop := ∃ v', e = .returned (.tuple #[v', .bool r.2]) ∧ Stk w' v' r.1 ∧ Below w.heap.size w w'
theorem StsEnd.mk {w w' : World} {r : List (List UInt8) × Bool} {v' : Value} {b : Bool} {st : List (List UInt8)} (hr : r = (st, b)) (h : Stk w' v' st) (hb : Below w.heap.size w w') : StsEnd w r (.returned (.tuple #[v', .bool b])) w' := by
  subst hr; exact ⟨v', rfl, h, hb⟩

set_option maxRecDepth 100000 in
set_option maxHeartbeats 1000000 in
theorem starts_term (k s : ByteArray) (v : Value) (st : List (List UInt8)) (w : World) (hk : k.toList = [84, 69, 82, 77]) (h : Stk w v st) (hs : s.size ≤ 300) (hl : st.length ≤ 80000) :
    Calls Try.prog 45 #[.string k, .string s, v] w fun e w' => StsEnd w (stTerm s.data.toList st) e w' := by
  obtain ⟨V, hV⟩ : ∃ V, vr s.data.toList = V := ⟨_, rfl⟩
  obtain ⟨D, hD⟩ : ∃ D, dg 999 s.data.toList = D := ⟨_, rfl⟩
  have C1 : Hid (∀ w, Calls Try.prog 50 #[.string s] w fun e w' => e = .returned (.int .i64 V) ∧ w = w') := fun w => by rw [← hV]; exact (rvariable_any s w).mono fun _ _ h => ⟨h.1, h.2.symm⟩
  have C2 : Hid (∀ w, Calls Try.prog 65 #[.string s, .int .i64 999] w fun e w' => e = .returned (.int .i64 D) ∧ w = w') := fun w => by rw [← hD]; exact (digits_any s w 999 hs (by omega) (by omega)).mono fun _ _ h => ⟨h.1, h.2.symm⟩
  have C3 : Hid (∀ a, Calls Try.prog 43 #[v, .slice (some ⟨w.heap.size, 0, none⟩) 1 1] (w.alloc (.cells #[.string a] 9)) fun e w' => ∃ v', e = .returned v' ∧ Stk w' v' (a.data.toList :: st) ∧ Below w.heap.size w w') := fun a => push1 v st w a h (by omega)
  have E : Hid (stTerm s.data.toList st = if 0 ≤ V then (cMoreTerm :: st, true) else if s.toList == [45] then (cNumber :: st, true) else (st, decide (0 ≤ D))) := by
    show stTerm s.data.toList st = _
    unfold stTerm; rw [hV, hD, ByteArray.toList_eq]
  have HS : Hid (Stk w v st) := h
  clear hV hD h
  generalize stTerm s.data.toList st = R at *
  go_enter Try.func45, Try.ntmps45
  go_wp2_with (first | (go_at_call 50; refine (C1.out _).mono ?_; rintro e w' ⟨rfl, rfl⟩) | (go_at_call 65; refine (C2.out _).mono ?_; rintro e w' ⟨rfl, rfl⟩) | (go_at_call 43; refine (C3.out _).mono ?_; rintro e w1 ⟨v1, rfl, hs1, hb1⟩))
  all_goals go_ret2
  · exact StsEnd.mk (v' := v1) (b := true) (st := cMoreTerm :: st) (by rw [E.out, if_pos ‹_›]) hs1 hb1
  · exact StsEnd.mk (v' := v1) (b := true) (st := cNumber :: st) (by rw [E.out, if_neg (by omega), if_pos ‹_›]) hs1 hb1
  · exact StsEnd.mk (v' := v) (b := decide (0 ≤ D)) (st := st) (by rw [E.out, if_neg (by omega)]; simp only [*]; rfl) HS.out (Below.refl _ _)

set_option maxRecDepth 100000 in
set_option maxHeartbeats 1000000 in
theorem starts_number (k s : ByteArray) (v : Value) (st : List (List UInt8)) (w : World) (hk : k.toList = [78, 85, 77, 66, 69, 82]) (h : Stk w v st) (hs : s.size ≤ 300) :
    Calls Try.prog 45 #[.string k, .string s, v] w fun e w' => StsEnd w (st, decide (0 ≤ dg 999 s.data.toList)) e w' := by
  obtain ⟨V, hV⟩ : ∃ V, vr s.data.toList = V := ⟨_, rfl⟩
  obtain ⟨D, hD⟩ : ∃ D, dg 999 s.data.toList = D := ⟨_, rfl⟩
  have C1 : Hid (∀ w, Calls Try.prog 50 #[.string s] w fun e w' => e = .returned (.int .i64 V) ∧ w = w') := fun w => by rw [← hV]; exact (rvariable_any s w).mono fun _ _ h => ⟨h.1, h.2.symm⟩
  have C2 : Hid (∀ w, Calls Try.prog 65 #[.string s, .int .i64 999] w fun e w' => e = .returned (.int .i64 D) ∧ w = w') := fun w => by rw [← hD]; exact (digits_any s w 999 hs (by omega) (by omega)).mono fun _ _ h => ⟨h.1, h.2.symm⟩
  rw [hD]
  have HS : Hid (Stk w v st) := h
  clear hV hD h
  go_enter Try.func45, Try.ntmps45
  go_wp2_with (first | (go_at_call 50; refine (C1.out _).mono ?_; rintro e w' ⟨rfl, rfl⟩) | (go_at_call 65; refine (C2.out _).mono ?_; rintro e w' ⟨rfl, rfl⟩))
  go_ret2
  exact StsEnd.mk (v' := v) (b := decide (0 ≤ D)) (st := st) rfl HS.out (Below.refl _ _)

set_option maxRecDepth 100000 in
set_option maxHeartbeats 1000000 in
theorem starts_relation (k s : ByteArray) (v : Value) (st : List (List UInt8)) (w : World) (hk : k.toList = [82, 69, 76, 65, 84, 73, 79, 78]) (h : Stk w v st) (hs : s.size ≤ 300) :
    Calls Try.prog 45 #[.string k, .string s, v] w fun e w' => StsEnd w (st, rl s.data.toList) e w' := by
  obtain ⟨V, hV⟩ : ∃ V, vr s.data.toList = V := ⟨_, rfl⟩
  obtain ⟨D, hD⟩ : ∃ D, dg 999 s.data.toList = D := ⟨_, rfl⟩
  have C1 : Hid (∀ w, Calls Try.prog 50 #[.string s] w fun e w' => e = .returned (.int .i64 V) ∧ w = w') := fun w => by rw [← hV]; exact (rvariable_any s w).mono fun _ _ h => ⟨h.1, h.2.symm⟩
  have C2 : Hid (∀ w, Calls Try.prog 65 #[.string s, .int .i64 999] w fun e w' => e = .returned (.int .i64 D) ∧ w = w') := fun w => by rw [← hD]; exact (digits_any s w 999 hs (by omega) (by omega)).mono fun _ _ h => ⟨h.1, h.2.symm⟩
  have C3 : Hid (∀ w, Calls Try.prog 66 #[.string s] w fun e w' => e = .returned (.bool (rl s.data.toList)) ∧ w = w') := fun w => (relation_any s w).mono fun _ _ h => ⟨h.1, h.2.symm⟩
  have HS : Hid (Stk w v st) := h
  clear hV hD h
  generalize rl s.data.toList = R at *
  go_enter Try.func45, Try.ntmps45
  go_wp2_with (first | (go_at_call 50; refine (C1.out _).mono ?_; rintro e w' ⟨rfl, rfl⟩) | (go_at_call 65; refine (C2.out _).mono ?_; rintro e w' ⟨rfl, rfl⟩) | (go_at_call 66; refine (C3.out _).mono ?_; rintro e w' ⟨rfl, rfl⟩))
  go_ret2
  exact StsEnd.mk (v' := v) (b := R) (st := st) rfl HS.out (Below.refl _ _)

set_option maxRecDepth 100000 in
set_option maxHeartbeats 1000000 in
theorem starts_factor (k s : ByteArray) (v : Value) (st : List (List UInt8)) (w : World) (hk : k.toList = [70, 65, 67, 84, 79, 82]) (h : Stk w v st) (hs : s.size ≤ 300) (hl : st.length ≤ 70000) :
    Calls Try.prog 45 #[.string k, .string s, v] w fun e w' => StsEnd w (stFactor s.data.toList st) e w' := by
  obtain ⟨V, hV⟩ : ∃ V, vr s.data.toList = V := ⟨_, rfl⟩
  obtain ⟨D, hD⟩ : ∃ D, dg 999 s.data.toList = D := ⟨_, rfl⟩
  have C1 : Hid (∀ w, Calls Try.prog 50 #[.string s] w fun e w' => e = .returned (.int .i64 V) ∧ w = w') := fun w => by rw [← hV]; exact (rvariable_any s w).mono fun _ _ h => ⟨h.1, h.2.symm⟩
  have C2 : Hid (∀ w, Calls Try.prog 65 #[.string s, .int .i64 999] w fun e w' => e = .returned (.int .i64 D) ∧ w = w') := fun w => by rw [← hD]; exact (digits_any s w 999 hs (by omega) (by omega)).mono fun _ _ h => ⟨h.1, h.2.symm⟩
  have C3 : Hid (∀ a b, Calls Try.prog 43 #[v, .slice (some ⟨w.heap.size, 0, none⟩) 2 2] (w.alloc (.cells #[.string a, .string b] 9)) fun e w' => ∃ v', e = .returned v' ∧ Stk w' v' (a.data.toList :: b.data.toList :: st) ∧ Below w.heap.size w w') := fun a b => push2 v st w a b h (by omega)
  have C4 : Hid (∀ (v1 : Value) (w1 : World), Stk w1 v1 (cRelation :: cTerm :: st) → Calls Try.prog 45 #[.string ⟨#[84, 69, 82, 77]⟩, .string s, v1] w1 fun e w' => StsEnd w1 (stTerm s.data.toList (cRelation :: cTerm :: st)) e w') := fun v1 w1 h1 => starts_term _ s v1 _ w1 (by rw [ByteArray.toList_eq]) h1 hs (by simp; omega)
  have E : Hid (stFactor s.data.toList st = if s.toList == [116, 114, 117, 101] || s.toList == [102, 97, 108, 115, 101] then (st, true) else if s.toList == [110, 111, 116] then (cFactor :: cNotEnds :: st, true) else
      if s.toList == [40] then (cFormula :: [41] :: st, true) else stTerm s.data.toList (cRelation :: cTerm :: st)) := by
    show stFactor s.data.toList st = _
    unfold stFactor; rw [ByteArray.toList_eq]
  have HS : Hid (Stk w v st) := h
  clear hV hD h
  generalize stFactor s.data.toList st = R at *
  generalize stTerm s.data.toList (cRelation :: cTerm :: st) = R2 at *
  go_enter Try.func45, Try.ntmps45
  go_wp2_with (first | (go_at_call 50; refine (C1.out _).mono ?_; rintro e w' ⟨rfl, rfl⟩) | (go_at_call 65; refine (C2.out _).mono ?_; rintro e w' ⟨rfl, rfl⟩) | (go_at_call 43; refine (C3.out _ _).mono ?_; rintro e w1 ⟨v1, rfl, hs1, hb1⟩) | (go_at_call 45; refine (C4.out _ _ hs1).mono ?_; rintro e w2 ⟨v2, rfl, hs2, hb2⟩))
  all_goals go_ret2
  · exact StsEnd.mk (v' := v) (b := true) (st := st) (by rw [E.out]; simp [*]) HS.out (Below.refl _ _)
  · exact StsEnd.mk (v' := v) (b := true) (st := st) (by rw [E.out, if_pos (by simp only [Bool.or_eq_true]; assumption)]) HS.out (Below.refl _ _)
  · exact StsEnd.mk (v' := v1) (b := true) (st := cFactor :: cNotEnds :: st) (by rw [E.out]; simp [*]) hs1 hb1
  · exact StsEnd.mk (v' := v1) (b := true) (st := cFormula :: [41] :: st) (by rw [E.out]; simp [*]) hs1 hb1
  · exact StsEnd.mk (v' := v2) (b := R2.2) (st := R2.1) (by rw [E.out]; simp [*]) hs2 (hb1.trans (hb2.mono hb1.size))

set_option maxRecDepth 100000 in
set_option maxHeartbeats 1000000 in
theorem starts_other (k s : ByteArray) (v : Value) (st : List (List UInt8)) (w : World) (h1 : (k.toList == [67, 79, 77, 77, 65, 78, 68]) = false) (h2 : (k.toList == [70, 65, 67, 84, 79, 82]) = false) (h3 : (k.toList == [84, 69, 82, 77]) = false) (h4 : (k.toList == [82, 69, 76, 65, 84, 73, 79, 78]) = false) (h5 : (k.toList == [78, 85, 77, 66, 69, 82]) = false) (h0 : 0 < k.size) (h : Stk w v st) (hs : s.size ≤ 300) :
    Calls Try.prog 45 #[.string k, .string s, v] w fun e w' => StsEnd w (st, dflt k.data.toList s.data.toList) e w' := by
  obtain ⟨V, hV⟩ : ∃ V, vr s.data.toList = V := ⟨_, rfl⟩
  obtain ⟨D, hD⟩ : ∃ D, dg 999 s.data.toList = D := ⟨_, rfl⟩
  have C1 : Hid (∀ w, Calls Try.prog 50 #[.string s] w fun e w' => e = .returned (.int .i64 V) ∧ w = w') := fun w => by rw [← hV]; exact (rvariable_any s w).mono fun _ _ h => ⟨h.1, h.2.symm⟩
  have C2 : Hid (∀ w, Calls Try.prog 65 #[.string s, .int .i64 999] w fun e w' => e = .returned (.int .i64 D) ∧ w = w') := fun w => by rw [← hD]; exact (digits_any s w 999 hs (by omega) (by omega)).mono fun _ _ h => ⟨h.1, h.2.symm⟩
  have hd : k.data.toList = k[0] :: rest k 1 := rest_cons k 0 h0
  have HD : Hid (dflt k.data.toList s.data.toList = ((k.toList == s.toList) && (decide ((k[0].toNat : Int) < 65) || decide (90 < (k[0].toNat : Int))))) := by
    show dflt k.data.toList s.data.toList = _
    rw [ByteArray.toList_eq, ByteArray.toList_eq]; unfold dflt; rw [hd]; rfl
  have HS : Hid (Stk w v st) := h
  clear hV hD h hd
  generalize dflt k.data.toList s.data.toList = R at *
  cases hks : (k.toList == s.toList)
  · go_enter Try.func45, Try.ntmps45
    go_wp2_with (first | (go_at_call 50; refine (C1.out _).mono ?_; rintro e w' ⟨rfl, rfl⟩) | (go_at_call 65; refine (C2.out _).mono ?_; rintro e w' ⟨rfl, rfl⟩))
    go_quiet (fail)
    go_wp2_with fail
    go_ret2
    exact StsEnd.mk (v' := v) (b := false) (st := st) (by rw [HD.out, hks]; rfl) (HS.out.below (below_drewN (Below.refl _ _) _)) (below_drewN (Below.refl _ _) _)
  · by_cases hlo : (k[0].toNat : Int) < 65
    · go_enter Try.func45, Try.ntmps45
      go_wp2_with (first | (go_at_call 50; refine (C1.out _).mono ?_; rintro e w' ⟨rfl, rfl⟩) | (go_at_call 65; refine (C2.out _).mono ?_; rintro e w' ⟨rfl, rfl⟩))
      go_quiet (fail)
      go_wp2_with fail
      go_ret2
      exact StsEnd.mk (v' := v) (b := true) (st := st) (by rw [HD.out, hks, decide_eq_true hlo]; rfl) (HS.out.below (below_drewN (Below.refl _ _) _)) (below_drewN (Below.refl _ _) _)
    · go_enter Try.func45, Try.ntmps45
      go_wp2_with (first | (go_at_call 50; refine (C1.out _).mono ?_; rintro e w' ⟨rfl, rfl⟩) | (go_at_call 65; refine (C2.out _).mono ?_; rintro e w' ⟨rfl, rfl⟩))
      go_quiet (fail)
      go_wp2_with fail
      go_ret2
      exact StsEnd.mk (r := (st, R)) (v' := v) (b := (decide ((k[0].toNat : Int) < 65) || decide ((90 : Int) < (k[0].toNat : Int)))) (st := st) (by rw [HD.out, hks]; rfl) (HS.out.below (below_drewN (Below.refl _ _) _)) (below_drewN (Below.refl _ _) _)

set_option maxRecDepth 100000 in
set_option maxHeartbeats 2000000 in
theorem starts_command (k s : ByteArray) (v : Value) (st : List (List UInt8)) (w : World) (hk : k.toList = [67, 79, 77, 77, 65, 78, 68]) (h : Stk w v st) (hs : s.size ≤ 300) (hl : st.length ≤ 70000) :
    Calls Try.prog 45 #[.string k, .string s, v] w fun e w' => StsEnd w (stCommand s.data.toList st) e w' := by
  obtain ⟨V, hV⟩ : ∃ V, vr s.data.toList = V := ⟨_, rfl⟩
  obtain ⟨D, hD⟩ : ∃ D, dg 999 s.data.toList = D := ⟨_, rfl⟩
  have C1 : Hid (∀ w, Calls Try.prog 50 #[.string s] w fun e w' => e = .returned (.int .i64 V) ∧ w = w') := fun w => by rw [← hV]; exact (rvariable_any s w).mono fun _ _ h => ⟨h.1, h.2.symm⟩
  have C2 : Hid (∀ w, Calls Try.prog 65 #[.string s, .int .i64 999] w fun e w' => e = .returned (.int .i64 D) ∧ w = w') := fun w => by rw [← hD]; exact (digits_any s w 999 hs (by omega) (by omega)).mono fun _ _ h => ⟨h.1, h.2.symm⟩
  have C3 : Hid (∀ a b, Calls Try.prog 43 #[v, .slice (some ⟨w.heap.size, 0, none⟩) 2 2] (w.alloc (.cells #[.string a, .string b] 9)) fun e w' => ∃ v', e = .returned v' ∧ Stk w' v' (a.data.toList :: b.data.toList :: st) ∧ Below w.heap.size w w') := fun a b => push2 v st w a b h (by omega)
  have C6 : Hid (∀ a b c d e f, Calls Try.prog 43 #[v, .slice (some ⟨w.heap.size, 0, none⟩) 6 6] (w.alloc (.cells #[.string a, .string b, .string c, .string d, .string e, .string f] 9)) fun e' w' => ∃ v', e' = .returned v' ∧ Stk w' v' (a.data.toList :: b.data.toList :: c.data.toList :: d.data.toList :: e.data.toList :: f.data.toList :: st) ∧ Below w.heap.size w w') := fun a b c d e f => push6 v st w a b c d e f h (by omega)
  have hk' : k.data.toList = [67, 79, 77, 77, 65, 78, 68] := by rw [← ByteArray.toList_eq]; exact hk
  have h0 : 0 < k.size := by
    have : k.data.toList.length = k.size := by simp
    rw [hk'] at this; simp at this; omega
  have hk0 : (k[0].toNat : Int) = 67 := by
    have := rest_cons k 0 h0
    rw [show rest k 0 = k.data.toList from rfl, hk'] at this
    have e := (List.cons.inj this).1
    rw [← e]; rfl
  have E : Hid (stCommand s.data.toList st = if s.toList == [115, 107, 105, 112] then (st, true) else if 0 ≤ V then ([58, 61] :: cTerm :: st, true) else
      if s.toList == [105, 102] then (cFormula :: [116, 104, 101, 110] :: cCommands :: [101, 108, 115, 101] :: cCommands :: [101, 110, 100] :: st, true) else
      if s.toList == [119, 104, 105, 108, 101] then (cFormula :: [107, 101, 101, 112] :: cFormula :: [100, 111] :: cCommands :: [101, 110, 100] :: st, true) else (st, false)) := by
    show stCommand s.data.toList st = _
    unfold stCommand; rw [hV, ByteArray.toList_eq]
  have HS : Hid (Stk w v st) := h
  clear hV hD h hk'
  generalize stCommand s.data.toList st = R at *
  cases h1 : (s.toList == [115, 107, 105, 112])
  · by_cases h2 : 0 ≤ V
    · clear C6
      go_enter Try.func45, Try.ntmps45
      go_wp2_with (first | (go_at_call 50; refine (C1.out _).mono ?_; rintro e w' ⟨rfl, rfl⟩) | (go_at_call 65; refine (C2.out _).mono ?_; rintro e w' ⟨rfl, rfl⟩) | (go_at_call 43; refine (C3.out _ _).mono ?_; rintro e w1 ⟨v1, rfl, hs1, hb1⟩))
      go_ret2
      exact StsEnd.mk (v' := v1) (b := true) (st := [58, 61] :: cTerm :: st) (by rw [E.out, h1, if_pos h2]; rfl) hs1 hb1
    · cases h3 : (s.toList == [105, 102])
      · cases h4 : (s.toList == [119, 104, 105, 108, 101])
        · cases hks : ([67, 79, 77, 77, 65, 78, 68] == s.toList)
          · clear C3 C6
            go_enter Try.func45, Try.ntmps45
            go_wp2_with (first | (go_at_call 50; refine (C1.out _).mono ?_; rintro e w' ⟨rfl, rfl⟩) | (go_at_call 65; refine (C2.out _).mono ?_; rintro e w' ⟨rfl, rfl⟩))
            go_quiet (fail)
            go_wp2_with fail
            go_ret2
            exact StsEnd.mk (v' := v) (b := false) (st := st) (by rw [E.out, h1, if_neg (show ¬ 0 ≤ V by omega), h3, h4]; rfl) (HS.out.below (below_drewN (Below.refl _ _) _)) (below_drewN (Below.refl _ _) _)
          · clear C3 C6
            go_enter Try.func45, Try.ntmps45
            go_wp2_with (first | (go_at_call 50; refine (C1.out _).mono ?_; rintro e w' ⟨rfl, rfl⟩) | (go_at_call 65; refine (C2.out _).mono ?_; rintro e w' ⟨rfl, rfl⟩))
            go_quiet (fail)
            go_wp2_with fail
            go_ret2
            exact StsEnd.mk (v' := v) (b := false) (st := st) (by rw [E.out, h1, if_neg (show ¬ 0 ≤ V by omega), h3, h4]; rfl) (HS.out.below (below_drewN (Below.refl _ _) _)) (below_drewN (Below.refl _ _) _)
        · clear C3
          go_enter Try.func45, Try.ntmps45
          go_wp2_with (first | (go_at_call 50; refine (C1.out _).mono ?_; rintro e w' ⟨rfl, rfl⟩) | (go_at_call 65; refine (C2.out _).mono ?_; rintro e w' ⟨rfl, rfl⟩) | (go_at_call 43; refine (C6.out _ _ _ _ _ _).mono ?_; rintro e w1 ⟨v1, rfl, hs1, hb1⟩))
          go_ret2
          exact StsEnd.mk (v' := v1) (b := true) (st := cFormula :: [107, 101, 101, 112] :: cFormula :: [100, 111] :: cCommands :: [101, 110, 100] :: st) (by rw [E.out, h1, if_neg (show ¬ 0 ≤ V by omega), h3, h4]; rfl) hs1 hb1
      · clear C3
        go_enter Try.func45, Try.ntmps45
        go_wp2_with (first | (go_at_call 50; refine (C1.out _).mono ?_; rintro e w' ⟨rfl, rfl⟩) | (go_at_call 65; refine (C2.out _).mono ?_; rintro e w' ⟨rfl, rfl⟩) | (go_at_call 43; refine (C6.out _ _ _ _ _ _).mono ?_; rintro e w1 ⟨v1, rfl, hs1, hb1⟩))
        go_ret2
        exact StsEnd.mk (v' := v1) (b := true) (st := cFormula :: [116, 104, 101, 110] :: cCommands :: [101, 108, 115, 101] :: cCommands :: [101, 110, 100] :: st) (by rw [E.out, h1, if_neg (show ¬ 0 ≤ V by omega), h3]; rfl) hs1 hb1
  · clear C3 C6
    go_enter Try.func45, Try.ntmps45
    go_wp2_with (first | (go_at_call 50; refine (C1.out _).mono ?_; rintro e w' ⟨rfl, rfl⟩) | (go_at_call 65; refine (C2.out _).mono ?_; rintro e w' ⟨rfl, rfl⟩))
    go_ret2
    exact StsEnd.mk (v' := v) (b := true) (st := st) (by rw [E.out, h1]; rfl) HS.out (Below.refl _ _)

theorem starts_any (k s : ByteArray) (v : Value) (st : List (List UInt8)) (w : World) (h0 : 0 < k.size) (h : Stk w v st) (hs : s.size ≤ 300) (hl : st.length ≤ 70000) :
    Calls Try.prog 45 #[.string k, .string s, v] w fun e w' => StsEnd w (sts k.data.toList s.data.toList st) e w' := by
  unfold sts
  cases h1 : (k.data.toList == cCommand)
  · cases h2 : (k.data.toList == cFactor)
    · cases h3 : (k.data.toList == cTerm)
      · cases h4 : (k.data.toList == cRelation)
        · cases h5 : (k.data.toList == cNumber)
          · rw [← ByteArray.toList_eq] at h1 h2 h3 h4 h5
            exact starts_other k s v st w h1 h2 h3 h4 h5 h0 h hs
          · exact starts_number k s v st w (by rw [ByteArray.toList_eq]; exact beq_iff_eq.1 h5) h hs
        · exact starts_relation k s v st w (by rw [ByteArray.toList_eq]; exact beq_iff_eq.1 h4) h hs
      · exact starts_term k s v st w (by rw [ByteArray.toList_eq]; exact beq_iff_eq.1 h3) h hs (by omega)
    · exact starts_factor k s v st w (by rw [ByteArray.toList_eq]; exact beq_iff_eq.1 h2) h hs hl
  · exact starts_command k s v st w (by rw [ByteArray.toList_eq]; exact beq_iff_eq.1 h1) h hs hl

end Go.Proofs.Ytkinoehmcfhgbaa.Av
set_option linter.unusedVariables false
set_option linter.unusedSimpArgs false
namespace Go.Proofs.Ytkinoehmcfhgbaa.Av
open Go.RowKit

def wgt (k : List UInt8) : Nat := if k == cCommands || k == cFormula then 3 else 1
def mu (st : List (List UInt8)) : Nat := (st.map wgt).sum
theorem mu_cons (k : List UInt8) (r : List (List UInt8)) : mu (k :: r) = wgt k + mu r := by simp [mu]
theorem wgt_pos (k : List UInt8) : 1 ≤ wgt k := by unfold wgt; split <;> omega
theorem mu_pop (k : List UInt8) (r : List (List UInt8)) : mu r < mu (k :: r) := by rw [mu_cons]; have := wgt_pos k; omega

theorem mu_le (st : List (List UInt8)) : st.length ≤ mu st ∧ mu st ≤ 3 * st.length := by
  induction st with
  | nil => simp [mu]
  | cons k r ih =>
    rw [mu_cons]
    have h1 := wgt_pos k
    have h2 : wgt k ≤ 3 := by unfold wgt; split <;> omega
    simp only [List.length_cons]; omega
theorem Stk.top {w : World} {v : Value} {k : List UInt8} {r : List (List UInt8)} (h : Stk w v (k :: r)) : ∃ b cap, v = .slice (some ⟨b, 0, none⟩) (r.length + 1) cap ∧ r.length + 1 ≤ cap ∧ cap ≤ maxLen ∧ b < w.heap.size ∧ w.cell? ⟨b, r.length, none⟩ = some (str k) ∧ Stk w (.slice (some ⟨b, 0, none⟩) r.length cap) r := by
  have h' := h
  unfold Stk at h'
  rcases h' with ⟨_, h2⟩ | ⟨b, cap, h1, h2, h3, h4, h5⟩
  · simp at h2
  · have e : (k :: r).reverse.length = r.length + 1 := by simp
    rw [e] at h1 h2
    refine ⟨b, cap, h1, h2, h3, h4, h5 _ _ (by simp), ?_⟩
    unfold Stk at h ⊢
    subst h1
    have := Strs.pop h r.length (by omega)
    simpa using this
theorem Stk.bottom {w : World} {v : Value} (h : Stk w v []) : v = .slice none 0 0 ∨ ∃ b cap, v = .slice (some ⟨b, 0, none⟩) 0 cap := by
  rcases h with ⟨h, _⟩ | ⟨b, cap, h1, _⟩
  · exact Or.inl h
  · exact Or.inr ⟨b, cap, h1⟩

theorem opn_cons (s k : List UInt8) (r : List (List UInt8)) (e : Int) : opn s (k :: r) e =
    if k == cCommands then (cCommand :: cMoreCommands :: r, e) else
    if k == cMoreCommands then (if s == [59] then ([59] :: cCommands :: r, e) else opn s r e) else
    if k == cFormula then (cFactor :: cMoreFormula :: r, e) else
    if k == cMoreFormula then (if s == [111, 114] || s == [97, 110, 100] then (s :: cFormula :: r, e) else opn s r e) else
    if k == cMoreTerm then (if s == [43] || s == [45] then (s :: cNumber :: r, e) else opn s r e) else
    if k == cNotEnds then opn s r (e + 1) else (k :: r, e) := by rw [opn]
theorem str_box (k : List UInt8) : ∃ kb : ByteArray, str k = .string kb ∧ kb.toList = k := ⟨⟨k.toArray⟩, rfl, by rw [ByteArray.toList_eq]⟩
theorem opn_command (s : List UInt8) (r : List (List UInt8)) (e : Int) : opn s (cCommand :: r) e = (cCommand :: r, e) := by rw [opn_cons]; rfl
theorem opn_factor (s : List UInt8) (r : List (List UInt8)) (e : Int) : opn s (cFactor :: r) e = (cFactor :: r, e) := by rw [opn_cons]; rfl

def OpnEnd (w : World) (r : List (List UInt8) × Int) (e : Ending) (w' : World) : Prop := ∃ v', e = .returned (.tuple #[v', .int .i64 r.2]) ∧ Stk w' v' r.1 ∧ Below w.heap.size w w'
theorem OpnEnd.mk {w w' : World} {r : List (List UInt8) × Int} {v' : Value} {n : Int} {st : List (List UInt8)} (hr : r = (st, n)) (h : Stk w' v' st) (hb : Below w.heap.size w w') : OpnEnd w r (.returned (.tuple #[v', .int .i64 n])) w' := by
  subst hr; exact ⟨v', rfl, h, hb⟩

set_option maxRecDepth 100000 in
set_option maxHeartbeats 4000000 in
theorem opens_any (s : ByteArray) (v : Value) (st : List (List UInt8)) (w : World) (h : Stk w v st) (hl : st.length ≤ 20000) :
    Calls Try.prog 44 #[v, .string s] w fun e w' => OpnEnd w (opn s.data.toList st 0) e w' := by
  rw [← ByteArray.toList_eq]
  generalize hR : opn s.toList st 0 = R
  have HR : Hid (opn s.toList st 0 = R) := hR
  have HS : Hid (Stk w v st) := h
  clear hR h
  go_enter Try.func44, Try.ntmps44
  go_wp2_with fail
  go_loopg [0, 6, 7, 8] (mu st) (fun g v n _ _ wr => ∃ (st2 : List (List UInt8)) (q : Int), Stk wr v st2 ∧ n = .int .i64 q ∧ opn s.toList st2 q = R ∧ g = mu st2 ∧ 0 ≤ q ∧ q + mu st2 ≤ 60000 ∧ Below w.heap.size w wr)
  case atStart => exact ⟨st, 0, HS.out, rfl, HR.out, rfl, by omega, by have := (mu_le st).2; omega, Below.refl _ _⟩
  case round =>
    obtain ⟨st2, q, hst, rfl, hq, hg, hq0, hq1, hnx⟩ := hrel
    have Q : Hid (opn s.toList st2 q = R) := hq
    have G : Hid (gk = mu st2) := hg
    clear hq hg
    cases st2 with
    | nil =>
      have HS2 : Hid (Stk wr _ []) := hst
      rcases hst.bottom with rfl | ⟨b, cap, rfl⟩
      all_goals
        clear hst
        go_wp2_with fail
        go_ret2
        exact OpnEnd.mk (st := []) (n := q) (by rw [← Q.out]; rfl) HS2.out hnx
    | cons k r =>
      obtain ⟨b, cap, rfl, hcap, hcm, hbl, hcell, hrest⟩ := hst.top
      obtain ⟨kb, hkb, hkl⟩ := str_box k
      rw [hkb] at hcell
      have hQ := Q.out
      rw [opn_cons] at hQ
      rw [← hkl] at hQ
      have hm : r.length ≤ 60000 := by rw [mu_cons] at hq1; have := (mu_le r).1; omega
      have HS2 : Hid (Stk wr (.slice (some ⟨b, 0, none⟩) (r.length + 1) cap) (kb.toList :: r)) := by rw [hkl]; exact hst
      have HS1 : Hid (Stk wr (.slice (some ⟨b, 0, none⟩) r.length cap) r) := hrest
      have C3 : Hid (∀ a b', Calls Try.prog 43 #[.slice (some ⟨b, 0, none⟩) r.length cap, .slice (some ⟨wr.heap.size, 0, none⟩) 2 2] (wr.alloc (.cells #[.string a, .string b'] 9)) fun e w' => ∃ v', e = .returned v' ∧ Stk w' v' (a.data.toList :: b'.data.toList :: r) ∧ Below wr.heap.size wr w') := fun a b' => push2 _ r wr a b' hrest (by omega)
      have hg := G.out
      rw [mu_cons, ← hkl] at hg
      have hwp := wgt_pos kb.toList
      have G2 : Hid (gk = wgt kb.toList + mu r) := hg
      have hpop : Hid (mu r < gk) := by show mu r < gk; omega
      have hq2 : q + 1 + mu r ≤ 60000 := by rw [mu_cons] at hq1; have := wgt_pos k; omega
      have HQ1 : Hid (q + (wgt kb.toList + mu r : Nat) ≤ 60000) := by rw [mu_cons, ← hkl] at hq1; exact hq1
      have hsz := hnx.size
      have hq3 : q ≤ 60000 := by omega
      have HQ2 : Hid (q + 1 + mu r ≤ 60000) := hq2
      clear hq2
      clear Q G hst hrest hkb hkl hg hq1 hwp k
      unfold maxLen at hcm
      generalize hmm : r.length = m at *
      have HM : Hid (r.length = m) := hmm
      clear hmm
      cases c1 : (kb.toList == [67, 79, 77, 77, 65, 78, 68, 83])
      · skip
        cases c2 : (kb.toList == [77, 79, 82, 69, 45, 67, 79, 77, 77, 65, 78, 68, 83])
        · skip
          cases c3 : (kb.toList == [70, 79, 82, 77, 85, 76, 65])
          · skip
            cases c4 : (kb.toList == [77, 79, 82, 69, 45, 70, 79, 82, 77, 85, 76, 65])
            · skip
              cases c5 : (kb.toList == [77, 79, 82, 69, 45, 84, 69, 82, 77])
              · skip
                cases c6 : (kb.toList == [78, 79, 84, 45, 69, 78, 68, 83])
                · skip
                  rw [show (kb.toList == cCommands) = false from c1, show (kb.toList == cMoreCommands) = false from c2, show (kb.toList == cFormula) = false from c3, show (kb.toList == cMoreFormula) = false from c4, show (kb.toList == cMoreTerm) = false from c5, show (kb.toList == cNotEnds) = false from c6] at hQ
                  have HQ : Hid ((kb.toList :: r, q) = R) := hQ
                  clear hQ C3 hpop G2 HS1
                  go_wp2_with fail
                  go_ret2
                  exact OpnEnd.mk (st := kb.toList :: r) (n := q) HQ.out.symm HS2.out hnx
                · skip
                  rw [show (kb.toList == cCommands) = false from c1, show (kb.toList == cMoreCommands) = false from c2, show (kb.toList == cFormula) = false from c3, show (kb.toList == cMoreFormula) = false from c4, show (kb.toList == cMoreTerm) = false from c5, show (kb.toList == cNotEnds) = true from c6] at hQ
                  have HQ : Hid (opn s.toList r (q + 1) = R) := hQ
                  clear hQ C3
                  go_wp2_with fail
                  go_roundg (mu r)
                  case measure => exact hpop.out
                  case rel => exact ⟨r, _, HS1.out, rfl, HQ.out, rfl, by omega, by have := HQ2.out; omega, hnx⟩
              · skip
                rw [show (kb.toList == cCommands) = false from c1, show (kb.toList == cMoreCommands) = false from c2, show (kb.toList == cFormula) = false from c3, show (kb.toList == cMoreFormula) = false from c4, show (kb.toList == cMoreTerm) = true from c5] at hQ
                cases d1 : (s.toList == [43])
                · cases d2 : (s.toList == [45])
                  · skip
                    rw [d1, d2] at hQ
                    have HQ : Hid (opn s.toList r q = R) := hQ
                    clear hQ C3
                    go_wp2_with fail
                    go_roundg (mu r)
                    case measure => exact hpop.out
                    case rel => exact ⟨r, _, HS1.out, rfl, HQ.out, rfl, by omega, by have := HQ2.out; omega, hnx⟩
                  · skip
                    rw [d1, d2] at hQ
                    have HQ : Hid ((s.toList :: cNumber :: r, q) = R) := hQ
                    clear hQ hpop
                    go_wp2_with ((go_at_call 43; refine (C3.out _ _).mono ?_; rintro e w1 ⟨v1, rfl, hs1, hb1⟩))
                    go_ret2
                    exact OpnEnd.mk (st := s.toList :: cNumber :: r) (n := q) HQ.out.symm (by rw [ByteArray.toList_eq]; exact hs1) (hnx.trans (hb1.mono hsz))
                · skip
                  rw [d1] at hQ
                  have HQ : Hid ((s.toList :: cNumber :: r, q) = R) := hQ
                  clear hQ hpop
                  go_wp2_with ((go_at_call 43; refine (C3.out _ _).mono ?_; rintro e w1 ⟨v1, rfl, hs1, hb1⟩))
                  go_ret2
                  exact OpnEnd.mk (st := s.toList :: cNumber :: r) (n := q) HQ.out.symm (by rw [ByteArray.toList_eq]; exact hs1) (hnx.trans (hb1.mono hsz))
            · skip
              rw [show (kb.toList == cCommands) = false from c1, show (kb.toList == cMoreCommands) = false from c2, show (kb.toList == cFormula) = false from c3, show (kb.toList == cMoreFormula) = true from c4] at hQ
              cases d1 : (s.toList == [111, 114])
              · cases d2 : (s.toList == [97, 110, 100])
                · skip
                  rw [d1, d2] at hQ
                  have HQ : Hid (opn s.toList r q = R) := hQ
                  clear hQ C3
                  go_wp2_with fail
                  go_roundg (mu r)
                  case measure => exact hpop.out
                  case rel => exact ⟨r, _, HS1.out, rfl, HQ.out, rfl, by omega, by have := HQ2.out; omega, hnx⟩
                · skip
                  rw [d1, d2] at hQ
                  have HQ : Hid ((s.toList :: cFormula :: r, q) = R) := hQ
                  clear hQ hpop
                  go_wp2_with ((go_at_call 43; refine (C3.out _ _).mono ?_; rintro e w1 ⟨v1, rfl, hs1, hb1⟩))
                  go_ret2
                  exact OpnEnd.mk (st := s.toList :: cFormula :: r) (n := q) HQ.out.symm (by rw [ByteArray.toList_eq]; exact hs1) (hnx.trans (hb1.mono hsz))
              · skip
                rw [d1] at hQ
                have HQ : Hid ((s.toList :: cFormula :: r, q) = R) := hQ
                clear hQ hpop
                go_wp2_with ((go_at_call 43; refine (C3.out _ _).mono ?_; rintro e w1 ⟨v1, rfl, hs1, hb1⟩))
                go_ret2
                exact OpnEnd.mk (st := s.toList :: cFormula :: r) (n := q) HQ.out.symm (by rw [ByteArray.toList_eq]; exact hs1) (hnx.trans (hb1.mono hsz))
          · skip
            rw [show (kb.toList == cCommands) = false from c1, show (kb.toList == cMoreCommands) = false from c2, show (kb.toList == cFormula) = true from c3] at hQ
            have HQ : Hid ((cFactor :: cMoreFormula :: r, q) = R) := hQ
            have hw3 : Hid (wgt kb.toList = 3) := by show wgt kb.toList = 3; rw [beq_iff_eq.1 c3]; rfl
            clear hQ hpop
            go_wp2_with ((go_at_call 43; refine (C3.out _ _).mono ?_; rintro e w1 ⟨v1, rfl, hs1, hb1⟩))
            go_roundg (mu (cFactor :: cMoreFormula :: r))
            case measure => have := G2.out; have h3 := hw3.out; rw [mu_cons, mu_cons]; have e1 : wgt cFactor = 1 := rfl; have e2 : wgt cMoreFormula = 1 := rfl; omega
            case rel => exact ⟨cFactor :: cMoreFormula :: r, q, hs1, rfl, by rw [opn_factor]; exact HQ.out, rfl, hq0, by have h1 := HQ1.out; have h3 := hw3.out; rw [mu_cons, mu_cons]; have e1 : wgt cCommand = 1 := rfl; have e2 : wgt cMoreCommands = 1 := rfl; have e3 : wgt cFactor = 1 := rfl; have e4 : wgt cMoreFormula = 1 := rfl; omega, hnx.trans (hb1.mono hsz)⟩
        · skip
          rw [show (kb.toList == cCommands) = false from c1, show (kb.toList == cMoreCommands) = true from c2] at hQ
          cases d1 : (s.toList == [59])
          · skip
            rw [d1] at hQ
            have HQ : Hid (opn s.toList r q = R) := hQ
            clear hQ C3
            go_wp2_with fail
            go_roundg (mu r)
            case measure => exact hpop.out
            case rel => exact ⟨r, _, HS1.out, rfl, HQ.out, rfl, by omega, by have := HQ2.out; omega, hnx⟩
          · skip
            rw [d1] at hQ
            have HQ : Hid (([59] :: cCommands :: r, q) = R) := hQ
            clear hQ hpop
            go_wp2_with ((go_at_call 43; refine (C3.out _ _).mono ?_; rintro e w1 ⟨v1, rfl, hs1, hb1⟩))
            go_ret2
            exact OpnEnd.mk (st := [59] :: cCommands :: r) (n := q) HQ.out.symm hs1 (hnx.trans (hb1.mono hsz))
      · skip
        rw [show (kb.toList == cCommands) = true from c1] at hQ
        have HQ : Hid ((cCommand :: cMoreCommands :: r, q) = R) := hQ
        have hw3 : Hid (wgt kb.toList = 3) := by show wgt kb.toList = 3; rw [beq_iff_eq.1 c1]; rfl
        clear hQ hpop
        go_wp2_with ((go_at_call 43; refine (C3.out _ _).mono ?_; rintro e w1 ⟨v1, rfl, hs1, hb1⟩))
        go_roundg (mu (cCommand :: cMoreCommands :: r))
        case measure => have := G2.out; have h3 := hw3.out; rw [mu_cons, mu_cons]; have e1 : wgt cCommand = 1 := rfl; have e2 : wgt cMoreCommands = 1 := rfl; omega
        case rel => exact ⟨cCommand :: cMoreCommands :: r, q, hs1, rfl, by rw [opn_command]; exact HQ.out, rfl, hq0, by have h1 := HQ1.out; have h3 := hw3.out; rw [mu_cons, mu_cons]; have e1 : wgt cCommand = 1 := rfl; have e2 : wgt cMoreCommands = 1 := rfl; have e3 : wgt cFactor = 1 := rfl; have e4 : wgt cMoreFormula = 1 := rfl; omega, hnx.trans (hb1.mono hsz)⟩

end Go.Proofs.Ytkinoehmcfhgbaa.Av
set_option linter.unusedVariables false
set_option linter.unusedSimpArgs false
namespace Go.Proofs.Ytkinoehmcfhgbaa.Av
open Go.RowKit

/-- The document's tokens as they lie in memory. -/
def Tk2 (w : World) (v : Value) (l : List (List UInt8 × Nat)) : Prop :=
  (v = .slice none 0 0 ∧ l = []) ∨ ∃ g cap, v = .slice (some ⟨g, 0, none⟩) l.length cap ∧ l.length ≤ cap ∧ cap ≤ maxLen ∧ g < w.heap.size ∧ ∀ (j : Nat) (t : List UInt8) (i : Nat), l[j]? = some (t, i) → w.cell? ⟨g, j * 2, none⟩ = some (str t) ∧ w.cell? ⟨g, j * 2 + 1, none⟩ = some (.int .i64 (i : Int))
theorem Tk2.below {w w' : World} {v : Value} {l : List (List UInt8 × Nat)} (h : Tk2 w v l) (hb : Below w.heap.size w w') : Tk2 w' v l := by
  rcases h with h | ⟨b, cap, h1, h2, h3, h4, h5⟩
  · exact Or.inl h
  · exact Or.inr ⟨b, cap, h1, h2, h3, Nat.lt_of_lt_of_le h4 hb.size, fun j t i ht => ⟨(hb.cell (p := ⟨b, j * 2, none⟩) h4).trans (h5 j t i ht).1, (hb.cell (p := ⟨b, j * 2 + 1, none⟩) h4).trans (h5 j t i ht).2⟩⟩
theorem cells2_len (l : List (List UInt8 × Nat)) : (cells2 l).length = l.length * 2 := by
  induction l with
  | nil => rfl
  | cons a r ih => simp only [cells2, List.flatMap_cons, List.length_append, List.length_cons] at ih ⊢; rw [ih]; simp [cell2]; omega
theorem cells2_get (l : List (List UInt8 × Nat)) : ∀ (j : Nat) (t : List UInt8) (i : Nat), l[j]? = some (t, i) → (cells2 l)[j * 2]? = some (str t) ∧ (cells2 l)[j * 2 + 1]? = some (.int .i64 (i : Int)) := by
  induction l with
  | nil => intro j t i h; simp at h
  | cons a r ih =>
    intro j t i h
    cases j with
    | zero => simp at h; subst h; simp [cells2, cell2, str]
    | succ j =>
      simp at h
      have := ih j t i h
      have e1 : (j + 1) * 2 = j * 2 + 1 + 1 := by omega
      rw [e1]
      simpa [cells2, cell2] using this
theorem own_tk2 {w : World} {base : Nat} {v : Value} {l : List (List UInt8 × Nat)} (h : w.ownsRow base 106 2 v l.length (cells2 l)) : Tk2 w v l := by
  rcases h.2 with ⟨h1, h2⟩ | ⟨g, cap, cur, hv, hg, hh, h3, h4, h5, h6⟩
  · exact Or.inl ⟨h1, by cases l <;> simp_all⟩
  · have hlt : g < w.heap.size := by
      rcases Nat.lt_or_ge g w.heap.size with h | h
      · exact h
      · rw [Array.getElem?_eq_none h] at hh; cases hh
    refine Or.inr ⟨g, cap, hv, h3, h4, hlt, fun j t i ht => ?_⟩
    have hj : j < l.length := by
      rcases Nat.lt_or_ge j l.length with h | h
      · exact h
      · rw [List.getElem?_eq_none h] at ht; cases ht
    have key : ∀ (o : Nat) (u : Value), o < l.length * 2 → (cells2 l)[o]? = some u → w.cell? ⟨g, o, none⟩ = some u := by
      intro o u ho hu
      have : (cur.toList.take (l.length * 2))[o]? = some u := by rw [h6]; exact hu
      rw [List.getElem?_take, if_pos ho] at this
      simp [World.cell?, hh]
      simpa using this
    exact ⟨key _ _ (by omega) (cells2_get l j t i ht).1, key _ _ (by omega) (cells2_get l j t i ht).2⟩

theorem runM_cons (len : Nat) (t : List UInt8) (i : Nat) (ts : List (List UInt8 × Nat)) (st : List (List UInt8)) (d : Int) : runM len ((t, i) :: ts) st d = match stepM t i st d with
    | .inl e => e
    | .inr (st', d') => runM len ts st' d' := rfl

theorem deep_cases (x : List UInt8) : (deeper x = true ∧ ((x == [40]) = true ∨ ((x == [40]) = false ∧ (x == [110, 111, 116]) = true) ∨ ((x == [40]) = false ∧ (x == [110, 111, 116]) = false ∧ (x == [105, 102]) = true) ∨ ((x == [40]) = false ∧ (x == [110, 111, 116]) = false ∧ (x == [105, 102]) = false ∧ (x == [119, 104, 105, 108, 101]) = true))) ∨
    (deeper x = false ∧ (x == [40]) = false ∧ (x == [110, 111, 116]) = false ∧ (x == [105, 102]) = false ∧ (x == [119, 104, 105, 108, 101]) = false ∧ ((shut x = true ∧ ((x == [41]) = true ∨ ((x == [41]) = false ∧ (x == [101, 110, 100]) = true))) ∨ (shut x = false ∧ (x == [41]) = false ∧ (x == [101, 110, 100]) = false))) := by
  unfold deeper shut
  cases (x == [40]) <;> cases (x == [110, 111, 116]) <;> cases (x == [105, 102]) <;> cases (x == [119, 104, 105, 108, 101]) <;> cases (x == [41]) <;> cases (x == [101, 110, 100]) <;> simp

theorem runM_step (len : Nat) (t : List UInt8) (i : Nat) (ts : List (List UInt8 × Nat)) (st : List (List UInt8)) (d : Int) : runM len ((t, i) :: ts) st d = match opn t st 0 with
    | ([], _) => (2, (i : Int))
    | (k :: r, n) => if (sts k t r).2 = false then (2, (i : Int)) else if deeper t then (if 10 < d - n + 1 then (3, (i : Int)) else runM len ts (sts k t r).1 (d - n + 1)) else if shut t then runM len ts (sts k t r).1 (d - n - 1) else runM len ts (sts k t r).1 (d - n) := by
  rw [runM_cons]; unfold stepM
  match opn t st 0 with
  | ([], _) => rfl
  | (k :: r, n) =>
    simp only
    by_cases h1 : (sts k t r).2 = false
    · rw [if_pos h1, if_pos h1]
    · rw [if_neg h1, if_neg h1]
      by_cases h2 : deeper t = true
      · rw [if_pos h2, if_pos h2]
        by_cases h3 : 10 < d - n + 1
        · rw [if_pos h3, if_pos h3]
        · rw [if_neg h3, if_neg h3]
      · rw [if_neg h2, if_neg h2]
        by_cases h3 : shut t = true
        · rw [if_pos h3, if_pos h3]
        · rw [if_neg h3, if_neg h3]

def st0 : List (List UInt8) := [[102, 114, 111, 109], cFormula, [100, 111], cCommands, [116, 111], cFormula]

set_option maxRecDepth 100000 in
set_option maxHeartbeats 4000000 in
theorem looked_some (s : ByteArray) (g cap : Nat) (l : List (List UInt8 × Nat)) (w : World) (h : Tk2 w (.slice (some ⟨g, 0, none⟩) l.length cap) l) (hs : s.size ≤ 300) (hl : l.length ≤ 300) (hsz : ∀ t i, (t, i) ∈ l → t.length ≤ 300) :
    Calls Try.prog 25 #[.string s, .slice (some ⟨g, 0, none⟩) l.length cap] w fun e w' => e = .returned (.tuple #[.int .i64 (runM s.size l st0 0).1, .int .i64 (runM s.size l st0 0).2]) ∧ Below w.heap.size w w' := by
  generalize hR : runM s.size l st0 0 = R
  have HR : Hid (runM s.size l st0 0 = R) := hR
  have HT : Hid (Tk2 w (.slice (some ⟨g, 0, none⟩) l.length cap) l) := h
  clear hR h
  have C0 : Hid (∀ a b c d e f, Calls Try.prog 43 #[.slice none 0 0, .slice (some ⟨w.heap.size, 0, none⟩) 6 6] (w.alloc (.cells #[.string a, .string b, .string c, .string d, .string e, .string f] 9)) fun e' w' => ∃ v', e' = .returned v' ∧ Stk w' v' (a.data.toList :: b.data.toList :: c.data.toList :: d.data.toList :: e.data.toList :: f.data.toList :: []) ∧ Below w.heap.size w w') := fun a b c d e f => push6 _ [] w a b c d e f (Or.inl ⟨rfl, rfl⟩) (by simp)
  go_enter Try.func25, Try.ntmps25
  go_wp2_with (go_at_call 43; refine (C0.out _ _ _ _ _ _).mono ?_; rintro e w1 ⟨v1, rfl, hs1, hb1⟩)
  go_loopw [6, 7, 8, 9, 10, 11, 12, 13] (fun v dv iv _ _ _ _ _ wr => ∃ (k : Nat) (st : List (List UInt8)) (d : Int), k ≤ l.length ∧ Stk wr v st ∧ dv = .int .i64 d ∧ iv = .int .i64 (k : Int) ∧ runM s.size (l.drop k) st d = R ∧ st.length ≤ 6 + 7 * k ∧ Ne st ∧ -(3000 * (k : Int)) ≤ d ∧ d ≤ k ∧ Below w.heap.size w wr) (fun _ _ iv _ _ _ _ _ _ => l.length - (intOf iv).toNat)
  case atStart => exact ⟨0, st0, 0, Nat.zero_le _, hs1, rfl, rfl, HR.out, by decide, by unfold Ne; decide, by omega, by omega, hb1⟩
  case round =>
    obtain ⟨k, st, d, hk, hst, rfl, rfl, hq, hsl, hne, hd1, hd2, hnx⟩ := hrel
    have Q : Hid (runM s.size (l.drop k) st d = R) := hq
    clear hq
    by_cases hlt : k < l.length
    · obtain ⟨⟨t, i⟩, hti⟩ : ∃ x, l[k]? = some x := ⟨_, List.getElem?_eq_getElem hlt⟩
      have htk : Tk2 wr (.slice (some ⟨g, 0, none⟩) l.length cap) l := by
        rcases HT.out with h | ⟨b, c, h1, h2, h3, h4, h5⟩
        · exact Or.inl h
        · exact Or.inr ⟨b, c, h1, h2, h3, Nat.lt_of_lt_of_le h4 hnx.size, fun j t i ht => ⟨(hnx.cell (p := ⟨b, j * 2, none⟩) h4).trans (h5 j t i ht).1, (hnx.cell (p := ⟨b, j * 2 + 1, none⟩) h4).trans (h5 j t i ht).2⟩⟩
      obtain ⟨hcap, hgs, hc⟩ : l.length ≤ cap ∧ g < wr.heap.size ∧ (∀ (j : Nat) (t : List UInt8) (i : Nat), l[j]? = some (t, i) → wr.cell? ⟨g, j * 2, none⟩ = some (str t) ∧ wr.cell? ⟨g, j * 2 + 1, none⟩ = some (.int .i64 (i : Int))) := by
        rcases htk with ⟨h, _⟩ | ⟨b, c, h1, h2, h3, h4, h5⟩
        · cases h
        · cases h1; exact ⟨h2, h4, h5⟩
      obtain ⟨hc1, hc2⟩ := hc k t i hti
      have hmem : (t, i) ∈ l := List.mem_of_getElem? hti
      have htsz := hsz t i hmem
      obtain ⟨tb, htb, htl⟩ := str_box t
      rw [htb] at hc1
      have hQ := Q.out
      have hdrop : l.drop k = (t, i) :: l.drop (k + 1) := by
        rw [List.drop_eq_getElem_cons hlt]; rw [List.getElem?_eq_getElem hlt] at hti; rw [Option.some.inj hti]
      rw [hdrop, runM_step] at hQ
      have htbs : tb.size ≤ 300 := by
        have : tb.data.toList.length = tb.size := by simp
        rw [← ByteArray.toList_eq, htl] at this; omega
      rw [ByteArray.toList_eq] at htl
      have C1 : Hid (Calls Try.prog 44 #[u6, .string tb] wr fun e w' => OpnEnd wr (opn tb.data.toList st 0) e w') := opens_any tb _ st wr hst (by omega)
      have C2 : Hid (∀ (kb : ByteArray) (v : Value) (st : List (List UInt8)) (w : World), 0 < kb.size → Stk w v st → st.length ≤ 70000 → Calls Try.prog 45 #[.string kb, .string tb, v] w fun e w' => StsEnd w (sts kb.data.toList tb.data.toList st) e w') := fun kb v st w h1 h2 h3 => starts_any kb tb v st w h1 h2 htbs h3
      rw [← htl] at hQ
      have hol := opn_len tb.data.toList st 0
      have hoe := opn_end tb.data.toList st 0
      have hone := opn_ne tb.data.toList st 0 hne
      generalize ho : opn tb.data.toList st 0 = O at *
      clear ho htk hc hmem hti hdrop Q
      obtain ⟨O1, n⟩ := O
      simp only at hol hoe hone
      cases O1 with
      | nil =>
        simp only at hQ
        have HQ : Hid ((2, (i : Int)) = R) := hQ
        clear hQ
        go_wp2_with fail
        refine (C1.out).mono ?_
        rintro e w2 ⟨v2, rfl, hs2, hb2⟩
        have hcc := (hb2.cell (p := ⟨g, k * 2 + 1, none⟩) hgs).trans hc2
        simp only at hs2
        have hnx2 := hnx.trans (hb2.mono hnx.size)
        rcases hs2.bottom with rfl | ⟨b2, cap2, rfl⟩
        all_goals
          go_wp2_with fail
          go_quiet (fail)
          go_wp2_with fail
          go_ret2
          refine ⟨?_, below_drewN hnx2 _⟩
          rw [← HQ.out]; rfl
      | cons kk rr =>
        simp only at hQ
        have hkk := hone.head
        have hrn := sts_ne kk tb.data.toList rr hone.tail
        have hrl := sts_len kk tb.data.toList rr
        obtain ⟨kb, hkb, hkl⟩ := str_box kk
        rw [ByteArray.toList_eq] at hkl
        have hkb0 : 0 < kb.size := by
          have : kb.data.toList.length = kb.size := by simp
          rw [hkl] at this
          rcases Nat.eq_zero_or_pos kb.size with h | h
          · rw [h] at this; exact absurd (List.length_eq_zero_iff.1 this) hkk
          · exact h
        have hrr : rr.length ≤ 70000 := by simp only [List.length_cons] at hol; omega
        have C3 : Hid (∀ (v : Value) (w : World), Stk w v rr → Calls Try.prog 45 #[.string kb, .string tb, v] w fun e w' => StsEnd w (sts kk tb.data.toList rr) e w') := fun v w h => by rw [← hkl]; exact C2.out kb v rr w hkb0 h hrr
        clear C2
        go_wp2_with fail
        refine (C1.out).mono ?_
        rintro e w2 ⟨v2, rfl, hs2, hb2⟩
        have hcc := (hb2.cell (p := ⟨g, k * 2 + 1, none⟩) hgs).trans hc2
        have hnx2 := hnx.trans (hb2.mono hnx.size)
        have hgs2 := Nat.lt_of_lt_of_le hgs hb2.size
        simp only at hs2
        obtain ⟨b2, cap2, rfl, hcp, hcm, hb2l, hcell2, hrest2⟩ := hs2.top
        rw [hkb] at hcell2
        unfold maxLen at hcm
        have C4 : Hid (Calls Try.prog 45 #[.string kb, .string tb, .slice (some ⟨b2, 0, none⟩) rr.length cap2] w2.drew fun e w' => StsEnd w2.drew (sts kk tb.data.toList rr) e w') := C3.out _ _ (hrest2.below (Below.refl _ _).drew)
        clear C1 C3 hs2 hrest2 hb2 hc1 hc2 hst hkb
        generalize sts kk tb.data.toList rr = S at *
        generalize hmm : rr.length = m at *
        have HM : Hid (rr.length = m) := hmm
        clear hmm
        have hwr : IntKind.i64.wrap (m : Int) = (m : Int) := IntWalk.i64_in _ (by omega)
        have hi1 : (m : Int) < (m : Int) + 1 := by omega
        have hi2 : m ≤ cap2 := by omega
        have hi3 : ((m : Int) + 1 == 0) = false := by rw [beq_eq_false_iff_ne]; omega
        go_wp2_with fail
        go_region_held3 (fun w' => w'.cell? ⟨b2, m, none⟩ = some (.string kb)) (simp [*]) (first | (go_at_call 45; refine C4.out.mono ?_; rintro e w3 ⟨v3, rfl, hs3, hb3⟩; have hk3 : w3.cell? ⟨b2, m, none⟩ = some (.string kb) := (hb3.cell (p := ⟨b2, m, none⟩) hb2l).trans hcell2))
        obtain ⟨S1, S2⟩ := S
        simp only at hs3 hQ hrn hrl
        have hc3 : w3.cell? ⟨g, k * 2 + 1, none⟩ = some (.int .i64 (i : Int)) := (hb3.cell (p := ⟨g, k * 2 + 1, none⟩) hgs2).trans hcc
        have hnx3 : Below w.heap.size w w3 := (hnx2.drew).trans (hb3.mono hnx2.size)
        clear C4 hcc hb3 hnx2 hcell2 hk3 hwr
        cases S2
        · have HQ : Hid ((2, (i : Int)) = R) := hQ
          clear hQ
          go_wp2_with fail
          go_quiet (fail)
          go_wp2_with fail
          go_ret2
          refine ⟨?_, below_drewN hnx3 _⟩
          rw [← HQ.out]; rfl
        · have HQ : Hid ((if deeper tb.toList then (if 10 < d - n + 1 then (3, (i : Int)) else runM s.size (l.drop (k + 1)) S1 (d - n + 1)) else if shut tb.toList then runM s.size (l.drop (k + 1)) S1 (d - n - 1) else runM s.size (l.drop (k + 1)) S1 (d - n)) = R) := by rw [ByteArray.toList_eq]; exact hQ
          clear hQ
          have hm' := HM.out
          have hsl' : S1.length ≤ 6 + 7 * (k + 1) := by simp only [List.length_cons] at hol; omega
          have hn1 : 0 ≤ n := by omega
          have hn2 : n ≤ 3000 := by omega
          clear hm'
          rcases deep_cases tb.toList with ⟨hdp, hcs⟩ | ⟨hdp, f1, f2, f3, f4, ⟨hsh, hcs⟩ | ⟨hsh, f5, f6⟩⟩
          · by_cases hten : 10 < d - n + 1
            · have HQ2 : Hid ((3, (i : Int)) = R) := by
                show _ = R
                rw [← HQ.out, if_pos hdp, if_pos hten]
              clear HQ hdp
              rcases hcs with f1 | ⟨f1, f2⟩ | ⟨f1, f2, f3⟩ | ⟨f1, f2, f3, f4⟩
              all_goals
                go_wp2_with fail
                go_quiet (fail)
                go_wp2_with fail
                go_ret2
                refine ⟨?_, below_drewN hnx3 _⟩
                rw [← HQ2.out]; rfl
            · have HQ2 : Hid (runM s.size (l.drop (k + 1)) S1 (d - n + 1) = R) := by
                show _ = R
                rw [← HQ.out, if_pos hdp, if_neg hten]
              clear HQ hdp
              rcases hcs with f1 | ⟨f1, f2⟩ | ⟨f1, f2, f3⟩ | ⟨f1, f2, f3, f4⟩
              all_goals
                go_wp2_with fail
                go_roundw
                case rel => exact ⟨k + 1, S1, _, by omega, hs3, rfl, by go_num, HQ2.out, hsl', hrn, by omega, by omega, hnx3⟩
                case measure => simp [intOf]; omega
          · have HQ2 : Hid (runM s.size (l.drop (k + 1)) S1 (d - n - 1) = R) := by
              show _ = R
              rw [← HQ.out, hdp, hsh]; rfl
            clear HQ hdp hsh
            rcases hcs with f5 | ⟨f5, f6⟩
            all_goals
              go_wp2_with fail
              go_roundw
              case rel => exact ⟨k + 1, S1, _, by omega, hs3, rfl, by go_num, HQ2.out, hsl', hrn, by omega, by omega, hnx3⟩
              case measure => simp [intOf]; omega
          · have HQ2 : Hid (runM s.size (l.drop (k + 1)) S1 (d - n) = R) := by
              show _ = R
              rw [← HQ.out, hdp, hsh]; rfl
            clear HQ hdp hsh
            go_wp2_with fail
            go_roundw
            case rel => exact ⟨k + 1, S1, _, by omega, hs3, rfl, by go_num, HQ2.out, hsl', hrn, by omega, by omega, hnx3⟩
            case measure => simp [intOf]; omega
    · have C1 : Hid (∀ b : ByteArray, Calls Try.prog 44 #[u6, .string b] wr fun e w' => OpnEnd wr (opn b.data.toList st 0) e w') := fun b => opens_any b _ st wr hst (by omega)
      have hd : l.drop k = [] := List.drop_eq_nil_of_le (by omega)
      have HQ : Hid ((if (opn [] st 0).1.isEmpty then (0, 0) else (2, (s.size : Int))) = R) := by
        show _ = R
        rw [← Q.out, hd]; rfl
      clear Q hd
      go_wp2_with fail
      refine (C1.out _).mono ?_
      rintro e w2 ⟨v2, rfl, hs2, hb2⟩
      have hs3 : Stk w2 v2 (opn [] st 0).1 := hs2
      clear hs2
      have hnx2 := hnx.trans (hb2.mono hnx.size)
      have HN : Hid (∃ n, n = (opn (ByteArray.mk #[]).data.toList st 0).2) := ⟨_, rfl⟩
      generalize (opn (ByteArray.mk #[]).data.toList st 0).2 = n at *
      generalize ho : (opn [] st 0).1 = O at *
      cases O with
      | nil =>
        rcases hs3.bottom with rfl | ⟨b2, cap2, rfl⟩
        all_goals
          go_wp2_with fail
          go_ret2
          exact ⟨by rw [← HQ.out]; rfl, hnx2⟩
      | cons kk rr =>
        obtain ⟨b2, cap2, rfl, hcp, hcm, _, _, _⟩ := hs3.top
        unfold maxLen at hcm
        go_wp2_with fail
        go_ret2
        exact ⟨by rw [← HQ.out]; rfl, hnx2⟩

end Go.Proofs.Ytkinoehmcfhgbaa.Av
