/-
  The walk of the document's own starts: what a kind wants when a token begins it.
  The walk of the document's own opens: the kinds on top of what is wanted, taken apart for a token.
-/
import Derived.Test.YtkinoehmcfhgbaaGreatDoorRef
import Derived.Deep.QuietTactic
import Derived.BigQuiet
import Derived.Deep.LoopGhost
set_option linter.unusedVariables false
set_option linter.unusedSimpArgs false
namespace Go.Proofs.YtkinoehmcfhgbaaGreatDoor.Av
open Go.RowKit

/-- A stack of texts as it lies in memory, its top last; told top first. -/
def Stk (w : World) (v : Value) (st : List (List UInt8)) : Prop := Strs w v st.reverse
theorem Stk.below {w w' : World} {v : Value} {st : List (List UInt8)} (h : Stk w v st) (hb : Below w.heap.size w w') : Stk w' v st := Strs.below h hb
theorem str_data (a : ByteArray) : str a.data.toList = .string a := by unfold str; simp
theorem lit2 (w : World) (a b : ByteArray) : Strs (w.alloc (.cells #[.string a, .string b] 9)) (.slice (some ⟨w.heap.size, 0, none⟩) 2 2) [a.data.toList, b.data.toList] := by
  refine Or.inr ⟨w.heap.size, 2, rfl, by simp, by decide, by simp, fun j t h => ?_⟩
  match j, h with
  | 0, h => simp at h; subst h; rw [str_data]; simp
  | 1, h => simp at h; subst h; rw [str_data]; simp
theorem lit6 (w : World) (a b c d e f : ByteArray) : Strs (w.alloc (.cells #[.string a, .string b, .string c, .string d, .string e, .string f] 9)) (.slice (some ⟨w.heap.size, 0, none⟩) 6 6) [a.data.toList, b.data.toList, c.data.toList, d.data.toList, e.data.toList, f.data.toList] := by
  refine Or.inr ⟨w.heap.size, 6, rfl, by simp, by decide, by simp, fun j t h => ?_⟩
  match j, h with
  | 0, h => simp at h; subst h; rw [str_data]; simp
  | 1, h => simp at h; subst h; rw [str_data]; simp
  | 2, h => simp at h; subst h; rw [str_data]; simp
  | 3, h => simp at h; subst h; rw [str_data]; simp
  | 4, h => simp at h; subst h; rw [str_data]; simp
  | 5, h => simp at h; subst h; rw [str_data]; simp
theorem lit1 (w : World) (a : ByteArray) : Strs (w.alloc (.cells #[.string a] 9)) (.slice (some ⟨w.heap.size, 0, none⟩) 1 1) [a.data.toList] := by
  refine Or.inr ⟨w.heap.size, 1, rfl, by simp, by decide, by simp, fun j t h => ?_⟩
  match j, h with
  | 0, h => simp at h; subst h; rw [str_data]; simp
theorem below_alloc (w : World) (o : Obj) : Below w.heap.size w (w.alloc o) := (Below.refl _ _).alloc (Nat.le_refl _) _

theorem push1 (v : Value) (st : List (List UInt8)) (w : World) (a : ByteArray) (h : Stk w v st) (hl : st.length ≤ 90000) :
    Calls Tryz.prog 99 #[v, .slice (some ⟨w.heap.size, 0, none⟩) 1 1] (w.alloc (.cells #[.string a] 9)) fun e w' => ∃ v', e = .returned v' ∧ Stk w' v' (a.data.toList :: st) ∧ Below w.heap.size w w' := by
  refine (push_any v w.heap.size 1 st.reverse [a.data.toList] _ (Strs.below h (below_alloc _ _)) (lit1 w a) (by simp; omega) (by simp)).mono ?_
  rintro e w' ⟨v', rfl, h1, h2⟩
  exact ⟨v', rfl, by unfold Stk; simpa using h1, (below_alloc _ _).trans (h2.mono (by simp))⟩
theorem push2 (v : Value) (st : List (List UInt8)) (w : World) (a b : ByteArray) (h : Stk w v st) (hl : st.length ≤ 90000) :
    Calls Tryz.prog 99 #[v, .slice (some ⟨w.heap.size, 0, none⟩) 2 2] (w.alloc (.cells #[.string a, .string b] 9)) fun e w' => ∃ v', e = .returned v' ∧ Stk w' v' (a.data.toList :: b.data.toList :: st) ∧ Below w.heap.size w w' := by
  refine (push_any v w.heap.size 2 st.reverse [a.data.toList, b.data.toList] _ (Strs.below h (below_alloc _ _)) (lit2 w a b) (by simp; omega) (by simp)).mono ?_
  rintro e w' ⟨v', rfl, h1, h2⟩
  exact ⟨v', rfl, by unfold Stk; simpa using h1, (below_alloc _ _).trans (h2.mono (by simp))⟩
theorem push6 (v : Value) (st : List (List UInt8)) (w : World) (a b c d e f : ByteArray) (h : Stk w v st) (hl : st.length ≤ 90000) :
    Calls Tryz.prog 99 #[v, .slice (some ⟨w.heap.size, 0, none⟩) 6 6] (w.alloc (.cells #[.string a, .string b, .string c, .string d, .string e, .string f] 9)) fun e' w' => ∃ v', e' = .returned v' ∧ Stk w' v' (a.data.toList :: b.data.toList :: c.data.toList :: d.data.toList :: e.data.toList :: f.data.toList :: st) ∧ Below w.heap.size w w' := by
  refine (push_any v w.heap.size 6 st.reverse [a.data.toList, b.data.toList, c.data.toList, d.data.toList, e.data.toList, f.data.toList] _ (Strs.below h (below_alloc _ _)) (lit6 w a b c d e f) (by simp; omega) (by simp)).mono ?_
  rintro e w' ⟨v', rfl, h1, h2⟩
  exact ⟨v', rfl, by unfold Stk; simpa using h1, (below_alloc _ _).trans (h2.mono (by simp))⟩

/-- What a walk of starts ends with. -/
def StsEnd (w : World) (r : List (List UInt8) × Bool) (e : Ending) (w' : World) : Prop := ∃ v', e = .returned (.tuple #[v', .bool r.2]) ∧ Stk w' v' r.1 ∧ Below w.heap.size w w'
theorem StsEnd.mk {w w' : World} {r : List (List UInt8) × Bool} {v' : Value} {b : Bool} {st : List (List UInt8)} (hr : r = (st, b)) (h : Stk w' v' st) (hb : Below w.heap.size w w') : StsEnd w r (.returned (.tuple #[v', .bool b])) w' := by
  subst hr; exact ⟨v', rfl, h, hb⟩

set_option maxRecDepth 100000 in
set_option maxHeartbeats 1000000 in
theorem starts_term (k s : ByteArray) (v : Value) (st : List (List UInt8)) (w : World) (hk : k.toList = [84, 69, 82, 77]) (h : Stk w v st) (hs : s.size ≤ 300) (hl : st.length ≤ 80000) :
    Calls Tryz.prog 101 #[.string k, .string s, v] w fun e w' => StsEnd w (stTerm s.data.toList st) e w' := by
  obtain ⟨V, hV⟩ : ∃ V, vr s.data.toList = V := ⟨_, rfl⟩
  obtain ⟨D, hD⟩ : ∃ D, dg 999 s.data.toList = D := ⟨_, rfl⟩
  have C1 : Hid (∀ w, Calls Tryz.prog 145 #[.string s] w fun e w' => e = .returned (.int .i64 V) ∧ w = w') := fun w => by rw [← hV]; exact (rvariable_any s w).mono fun _ _ h => ⟨h.1, h.2.symm⟩
  have C2 : Hid (∀ w, Calls Tryz.prog 146 #[.string s, .int .i64 999] w fun e w' => e = .returned (.int .i64 D) ∧ w = w') := fun w => by rw [← hD]; exact (digits_any s w 999 hs (by omega) (by omega)).mono fun _ _ h => ⟨h.1, h.2.symm⟩
  have C3 : Hid (∀ a, Calls Tryz.prog 99 #[v, .slice (some ⟨w.heap.size, 0, none⟩) 1 1] (w.alloc (.cells #[.string a] 9)) fun e w' => ∃ v', e = .returned v' ∧ Stk w' v' (a.data.toList :: st) ∧ Below w.heap.size w w') := fun a => push1 v st w a h (by omega)
  have E : Hid (stTerm s.data.toList st = if 0 ≤ V then (cMoreTerm :: st, true) else if s.toList == [45] then (cNumber :: st, true) else (st, decide (0 ≤ D))) := by
    show stTerm s.data.toList st = _
    unfold stTerm; rw [hV, hD, ByteArray.toList_eq]
  have HS : Hid (Stk w v st) := h
  clear hV hD h
  generalize stTerm s.data.toList st = R at *
  go_enter Tryz.func101, Tryz.ntmps101
  go_wp2_with (first | (go_at_call 145; refine (C1.out _).mono ?_; rintro e w' ⟨rfl, rfl⟩) | (go_at_call 146; refine (C2.out _).mono ?_; rintro e w' ⟨rfl, rfl⟩) | (go_at_call 99; refine (C3.out _).mono ?_; rintro e w1 ⟨v1, rfl, hs1, hb1⟩))
  all_goals go_ret2
  · exact StsEnd.mk (v' := v1) (b := true) (st := cMoreTerm :: st) (by rw [E.out, if_pos ‹_›]) hs1 hb1
  · exact StsEnd.mk (v' := v1) (b := true) (st := cNumber :: st) (by rw [E.out, if_neg (by omega), if_pos ‹_›]) hs1 hb1
  · exact StsEnd.mk (v' := v) (b := decide (0 ≤ D)) (st := st) (by rw [E.out, if_neg (by omega)]; simp only [*]; rfl) HS.out (Below.refl _ _)

set_option maxRecDepth 100000 in
set_option maxHeartbeats 1000000 in
theorem starts_number (k s : ByteArray) (v : Value) (st : List (List UInt8)) (w : World) (hk : k.toList = [78, 85, 77, 66, 69, 82]) (h : Stk w v st) (hs : s.size ≤ 300) :
    Calls Tryz.prog 101 #[.string k, .string s, v] w fun e w' => StsEnd w (st, decide (0 ≤ dg 999 s.data.toList)) e w' := by
  obtain ⟨V, hV⟩ : ∃ V, vr s.data.toList = V := ⟨_, rfl⟩
  obtain ⟨D, hD⟩ : ∃ D, dg 999 s.data.toList = D := ⟨_, rfl⟩
  have C1 : Hid (∀ w, Calls Tryz.prog 145 #[.string s] w fun e w' => e = .returned (.int .i64 V) ∧ w = w') := fun w => by rw [← hV]; exact (rvariable_any s w).mono fun _ _ h => ⟨h.1, h.2.symm⟩
  have C2 : Hid (∀ w, Calls Tryz.prog 146 #[.string s, .int .i64 999] w fun e w' => e = .returned (.int .i64 D) ∧ w = w') := fun w => by rw [← hD]; exact (digits_any s w 999 hs (by omega) (by omega)).mono fun _ _ h => ⟨h.1, h.2.symm⟩
  rw [hD]
  have HS : Hid (Stk w v st) := h
  clear hV hD h
  go_enter Tryz.func101, Tryz.ntmps101
  go_wp2_with (first | (go_at_call 145; refine (C1.out _).mono ?_; rintro e w' ⟨rfl, rfl⟩) | (go_at_call 146; refine (C2.out _).mono ?_; rintro e w' ⟨rfl, rfl⟩))
  go_ret2
  exact StsEnd.mk (v' := v) (b := decide (0 ≤ D)) (st := st) rfl HS.out (Below.refl _ _)

set_option maxRecDepth 100000 in
set_option maxHeartbeats 1000000 in
theorem starts_relation (k s : ByteArray) (v : Value) (st : List (List UInt8)) (w : World) (hk : k.toList = [82, 69, 76, 65, 84, 73, 79, 78]) (h : Stk w v st) (hs : s.size ≤ 300) :
    Calls Tryz.prog 101 #[.string k, .string s, v] w fun e w' => StsEnd w (st, rl s.data.toList) e w' := by
  obtain ⟨V, hV⟩ : ∃ V, vr s.data.toList = V := ⟨_, rfl⟩
  obtain ⟨D, hD⟩ : ∃ D, dg 999 s.data.toList = D := ⟨_, rfl⟩
  have C1 : Hid (∀ w, Calls Tryz.prog 145 #[.string s] w fun e w' => e = .returned (.int .i64 V) ∧ w = w') := fun w => by rw [← hV]; exact (rvariable_any s w).mono fun _ _ h => ⟨h.1, h.2.symm⟩
  have C2 : Hid (∀ w, Calls Tryz.prog 146 #[.string s, .int .i64 999] w fun e w' => e = .returned (.int .i64 D) ∧ w = w') := fun w => by rw [← hD]; exact (digits_any s w 999 hs (by omega) (by omega)).mono fun _ _ h => ⟨h.1, h.2.symm⟩
  have C3 : Hid (∀ w, Calls Tryz.prog 147 #[.string s] w fun e w' => e = .returned (.bool (rl s.data.toList)) ∧ w = w') := fun w => (relation_any s w).mono fun _ _ h => ⟨h.1, h.2.symm⟩
  have HS : Hid (Stk w v st) := h
  clear hV hD h
  generalize rl s.data.toList = R at *
  go_enter Tryz.func101, Tryz.ntmps101
  go_wp2_with (first | (go_at_call 145; refine (C1.out _).mono ?_; rintro e w' ⟨rfl, rfl⟩) | (go_at_call 146; refine (C2.out _).mono ?_; rintro e w' ⟨rfl, rfl⟩) | (go_at_call 147; refine (C3.out _).mono ?_; rintro e w' ⟨rfl, rfl⟩))
  go_ret2
  exact StsEnd.mk (v' := v) (b := R) (st := st) rfl HS.out (Below.refl _ _)

set_option maxRecDepth 100000 in
set_option maxHeartbeats 1000000 in
theorem starts_factor (k s : ByteArray) (v : Value) (st : List (List UInt8)) (w : World) (hk : k.toList = [70, 65, 67, 84, 79, 82]) (h : Stk w v st) (hs : s.size ≤ 300) (hl : st.length ≤ 70000) :
    Calls Tryz.prog 101 #[.string k, .string s, v] w fun e w' => StsEnd w (stFactor s.data.toList st) e w' := by
  obtain ⟨V, hV⟩ : ∃ V, vr s.data.toList = V := ⟨_, rfl⟩
  obtain ⟨D, hD⟩ : ∃ D, dg 999 s.data.toList = D := ⟨_, rfl⟩
  have C1 : Hid (∀ w, Calls Tryz.prog 145 #[.string s] w fun e w' => e = .returned (.int .i64 V) ∧ w = w') := fun w => by rw [← hV]; exact (rvariable_any s w).mono fun _ _ h => ⟨h.1, h.2.symm⟩
  have C2 : Hid (∀ w, Calls Tryz.prog 146 #[.string s, .int .i64 999] w fun e w' => e = .returned (.int .i64 D) ∧ w = w') := fun w => by rw [← hD]; exact (digits_any s w 999 hs (by omega) (by omega)).mono fun _ _ h => ⟨h.1, h.2.symm⟩
  have C3 : Hid (∀ a b, Calls Tryz.prog 99 #[v, .slice (some ⟨w.heap.size, 0, none⟩) 2 2] (w.alloc (.cells #[.string a, .string b] 9)) fun e w' => ∃ v', e = .returned v' ∧ Stk w' v' (a.data.toList :: b.data.toList :: st) ∧ Below w.heap.size w w') := fun a b => push2 v st w a b h (by omega)
  have C4 : Hid (∀ (v1 : Value) (w1 : World), Stk w1 v1 (cRelation :: cTerm :: st) → Calls Tryz.prog 101 #[.string ⟨#[84, 69, 82, 77]⟩, .string s, v1] w1 fun e w' => StsEnd w1 (stTerm s.data.toList (cRelation :: cTerm :: st)) e w') := fun v1 w1 h1 => starts_term _ s v1 _ w1 (by rw [ByteArray.toList_eq]) h1 hs (by simp; omega)
  have E : Hid (stFactor s.data.toList st = if s.toList == [116, 114, 117, 101] || s.toList == [102, 97, 108, 115, 101] then (st, true) else if s.toList == [110, 111, 116] then (cFactor :: cNotEnds :: st, true) else
      if s.toList == [40] then (cFormula :: [41] :: st, true) else stTerm s.data.toList (cRelation :: cTerm :: st)) := by
    show stFactor s.data.toList st = _
    unfold stFactor; rw [ByteArray.toList_eq]
  have HS : Hid (Stk w v st) := h
  clear hV hD h
  generalize stFactor s.data.toList st = R at *
  generalize stTerm s.data.toList (cRelation :: cTerm :: st) = R2 at *
  go_enter Tryz.func101, Tryz.ntmps101
  go_wp2_with (first | (go_at_call 145; refine (C1.out _).mono ?_; rintro e w' ⟨rfl, rfl⟩) | (go_at_call 146; refine (C2.out _).mono ?_; rintro e w' ⟨rfl, rfl⟩) | (go_at_call 99; refine (C3.out _ _).mono ?_; rintro e w1 ⟨v1, rfl, hs1, hb1⟩) | (go_at_call 101; refine (C4.out _ _ hs1).mono ?_; rintro e w2 ⟨v2, rfl, hs2, hb2⟩))
  all_goals go_ret2
  · exact StsEnd.mk (v' := v) (b := true) (st := st) (by rw [E.out]; simp [*]) HS.out (Below.refl _ _)
  · exact StsEnd.mk (v' := v) (b := true) (st := st) (by rw [E.out, if_pos (by simp only [Bool.or_eq_true]; assumption)]) HS.out (Below.refl _ _)
  · exact StsEnd.mk (v' := v1) (b := true) (st := cFactor :: cNotEnds :: st) (by rw [E.out]; simp [*]) hs1 hb1
  · exact StsEnd.mk (v' := v1) (b := true) (st := cFormula :: [41] :: st) (by rw [E.out]; simp [*]) hs1 hb1
  · exact StsEnd.mk (v' := v2) (b := R2.2) (st := R2.1) (by rw [E.out]; simp [*]) hs2 (hb1.trans (hb2.mono hb1.size))

set_option maxRecDepth 100000 in
set_option maxHeartbeats 1000000 in
theorem starts_other (k s : ByteArray) (v : Value) (st : List (List UInt8)) (w : World) (h1 : (k.toList == [67, 79, 77, 77, 65, 78, 68]) = false) (h2 : (k.toList == [70, 65, 67, 84, 79, 82]) = false) (h3 : (k.toList == [84, 69, 82, 77]) = false) (h4 : (k.toList == [82, 69, 76, 65, 84, 73, 79, 78]) = false) (h5 : (k.toList == [78, 85, 77, 66, 69, 82]) = false) (h0 : 0 < k.size) (h : Stk w v st) (hs : s.size ≤ 300) :
    Calls Tryz.prog 101 #[.string k, .string s, v] w fun e w' => StsEnd w (st, dflt k.data.toList s.data.toList) e w' := by
  obtain ⟨V, hV⟩ : ∃ V, vr s.data.toList = V := ⟨_, rfl⟩
  obtain ⟨D, hD⟩ : ∃ D, dg 999 s.data.toList = D := ⟨_, rfl⟩
  have C1 : Hid (∀ w, Calls Tryz.prog 145 #[.string s] w fun e w' => e = .returned (.int .i64 V) ∧ w = w') := fun w => by rw [← hV]; exact (rvariable_any s w).mono fun _ _ h => ⟨h.1, h.2.symm⟩
  have C2 : Hid (∀ w, Calls Tryz.prog 146 #[.string s, .int .i64 999] w fun e w' => e = .returned (.int .i64 D) ∧ w = w') := fun w => by rw [← hD]; exact (digits_any s w 999 hs (by omega) (by omega)).mono fun _ _ h => ⟨h.1, h.2.symm⟩
  have hd : k.data.toList = k[0] :: rest k 1 := rest_cons k 0 h0
  have HD : Hid (dflt k.data.toList s.data.toList = ((k.toList == s.toList) && (decide ((k[0].toNat : Int) < 65) || decide (90 < (k[0].toNat : Int))))) := by
    show dflt k.data.toList s.data.toList = _
    rw [ByteArray.toList_eq, ByteArray.toList_eq]; unfold dflt; rw [hd]; rfl
  have HS : Hid (Stk w v st) := h
  clear hV hD h hd
  generalize dflt k.data.toList s.data.toList = R at *
  cases hks : (k.toList == s.toList)
  · go_enter Tryz.func101, Tryz.ntmps101
    go_wp2_with (first | (go_at_call 145; refine (C1.out _).mono ?_; rintro e w' ⟨rfl, rfl⟩) | (go_at_call 146; refine (C2.out _).mono ?_; rintro e w' ⟨rfl, rfl⟩))
    go_quiet (fail)
    go_wp2_with fail
    go_ret2
    exact StsEnd.mk (v' := v) (b := false) (st := st) (by rw [HD.out, hks]; rfl) (HS.out.below (below_drewN (Below.refl _ _) _)) (below_drewN (Below.refl _ _) _)
  · by_cases hlo : (k[0].toNat : Int) < 65
    · go_enter Tryz.func101, Tryz.ntmps101
      go_wp2_with (first | (go_at_call 145; refine (C1.out _).mono ?_; rintro e w' ⟨rfl, rfl⟩) | (go_at_call 146; refine (C2.out _).mono ?_; rintro e w' ⟨rfl, rfl⟩))
      go_quiet (fail)
      go_wp2_with fail
      go_ret2
      exact StsEnd.mk (v' := v) (b := true) (st := st) (by rw [HD.out, hks, decide_eq_true hlo]; rfl) (HS.out.below (below_drewN (Below.refl _ _) _)) (below_drewN (Below.refl _ _) _)
    · go_enter Tryz.func101, Tryz.ntmps101
      go_wp2_with (first | (go_at_call 145; refine (C1.out _).mono ?_; rintro e w' ⟨rfl, rfl⟩) | (go_at_call 146; refine (C2.out _).mono ?_; rintro e w' ⟨rfl, rfl⟩))
      go_quiet (fail)
      go_wp2_with fail
      go_ret2
      exact StsEnd.mk (r := (st, R)) (v' := v) (b := (decide ((k[0].toNat : Int) < 65) || decide ((90 : Int) < (k[0].toNat : Int)))) (st := st) (by rw [HD.out, hks]; rfl) (HS.out.below (below_drewN (Below.refl _ _) _)) (below_drewN (Below.refl _ _) _)

set_option maxRecDepth 100000 in
set_option maxHeartbeats 2000000 in
theorem starts_command (k s : ByteArray) (v : Value) (st : List (List UInt8)) (w : World) (hk : k.toList = [67, 79, 77, 77, 65, 78, 68]) (h : Stk w v st) (hs : s.size ≤ 300) (hl : st.length ≤ 70000) :
    Calls Tryz.prog 101 #[.string k, .string s, v] w fun e w' => StsEnd w (stCommand s.data.toList st) e w' := by
  obtain ⟨V, hV⟩ : ∃ V, vr s.data.toList = V := ⟨_, rfl⟩
  obtain ⟨D, hD⟩ : ∃ D, dg 999 s.data.toList = D := ⟨_, rfl⟩
  have C1 : Hid (∀ w, Calls Tryz.prog 145 #[.string s] w fun e w' => e = .returned (.int .i64 V) ∧ w = w') := fun w => by rw [← hV]; exact (rvariable_any s w).mono fun _ _ h => ⟨h.1, h.2.symm⟩
  have C2 : Hid (∀ w, Calls Tryz.prog 146 #[.string s, .int .i64 999] w fun e w' => e = .returned (.int .i64 D) ∧ w = w') := fun w => by rw [← hD]; exact (digits_any s w 999 hs (by omega) (by omega)).mono fun _ _ h => ⟨h.1, h.2.symm⟩
  have C3 : Hid (∀ a b, Calls Tryz.prog 99 #[v, .slice (some ⟨w.heap.size, 0, none⟩) 2 2] (w.alloc (.cells #[.string a, .string b] 9)) fun e w' => ∃ v', e = .returned v' ∧ Stk w' v' (a.data.toList :: b.data.toList :: st) ∧ Below w.heap.size w w') := fun a b => push2 v st w a b h (by omega)
  have C6 : Hid (∀ a b c d e f, Calls Tryz.prog 99 #[v, .slice (some ⟨w.heap.size, 0, none⟩) 6 6] (w.alloc (.cells #[.string a, .string b, .string c, .string d, .string e, .string f] 9)) fun e' w' => ∃ v', e' = .returned v' ∧ Stk w' v' (a.data.toList :: b.data.toList :: c.data.toList :: d.data.toList :: e.data.toList :: f.data.toList :: st) ∧ Below w.heap.size w w') := fun a b c d e f => push6 v st w a b c d e f h (by omega)
  have hk' : k.data.toList = [67, 79, 77, 77, 65, 78, 68] := by rw [← ByteArray.toList_eq]; exact hk
  have h0 : 0 < k.size := by
    have : k.data.toList.length = k.size := by simp
    rw [hk'] at this; simp at this; omega
  have hk0 : (k[0].toNat : Int) = 67 := by
    have := rest_cons k 0 h0
    rw [show rest k 0 = k.data.toList from rfl, hk'] at this
    have e := (List.cons.inj this).1
    rw [← e]; rfl
  have E : Hid (stCommand s.data.toList st = if s.toList == [115, 107, 105, 112] then (st, true) else if 0 ≤ V then ([58, 61] :: cTerm :: st, true) else
      if s.toList == [105, 102] then (cFormula :: [116, 104, 101, 110] :: cCommands :: [101, 108, 115, 101] :: cCommands :: [101, 110, 100] :: st, true) else
      if s.toList == [119, 104, 105, 108, 101] then (cFormula :: [107, 101, 101, 112] :: cFormula :: [100, 111] :: cCommands :: [101, 110, 100] :: st, true) else (st, false)) := by
    show stCommand s.data.toList st = _
    unfold stCommand; rw [hV, ByteArray.toList_eq]
  have HS : Hid (Stk w v st) := h
  clear hV hD h hk'
  generalize stCommand s.data.toList st = R at *
  cases h1 : (s.toList == [115, 107, 105, 112])
  · by_cases h2 : 0 ≤ V
    · clear C6
      go_enter Tryz.func101, Tryz.ntmps101
      go_wp2_with (first | (go_at_call 145; refine (C1.out _).mono ?_; rintro e w' ⟨rfl, rfl⟩) | (go_at_call 146; refine (C2.out _).mono ?_; rintro e w' ⟨rfl, rfl⟩) | (go_at_call 99; refine (C3.out _ _).mono ?_; rintro e w1 ⟨v1, rfl, hs1, hb1⟩))
      go_ret2
      exact StsEnd.mk (v' := v1) (b := true) (st := [58, 61] :: cTerm :: st) (by rw [E.out, h1, if_pos h2]; rfl) hs1 hb1
    · cases h3 : (s.toList == [105, 102])
      · cases h4 : (s.toList == [119, 104, 105, 108, 101])
        · cases hks : ([67, 79, 77, 77, 65, 78, 68] == s.toList)
          · clear C3 C6
            go_enter Tryz.func101, Tryz.ntmps101
            go_wp2_with (first | (go_at_call 145; refine (C1.out _).mono ?_; rintro e w' ⟨rfl, rfl⟩) | (go_at_call 146; refine (C2.out _).mono ?_; rintro e w' ⟨rfl, rfl⟩))
            go_quiet (fail)
            go_wp2_with fail
            go_ret2
            exact StsEnd.mk (v' := v) (b := false) (st := st) (by rw [E.out, h1, if_neg (show ¬ 0 ≤ V by omega), h3, h4]; rfl) (HS.out.below (below_drewN (Below.refl _ _) _)) (below_drewN (Below.refl _ _) _)
          · clear C3 C6
            go_enter Tryz.func101, Tryz.ntmps101
            go_wp2_with (first | (go_at_call 145; refine (C1.out _).mono ?_; rintro e w' ⟨rfl, rfl⟩) | (go_at_call 146; refine (C2.out _).mono ?_; rintro e w' ⟨rfl, rfl⟩))
            go_quiet (fail)
            go_wp2_with fail
            go_ret2
            exact StsEnd.mk (v' := v) (b := false) (st := st) (by rw [E.out, h1, if_neg (show ¬ 0 ≤ V by omega), h3, h4]; rfl) (HS.out.below (below_drewN (Below.refl _ _) _)) (below_drewN (Below.refl _ _) _)
        · clear C3
          go_enter Tryz.func101, Tryz.ntmps101
          go_wp2_with (first | (go_at_call 145; refine (C1.out _).mono ?_; rintro e w' ⟨rfl, rfl⟩) | (go_at_call 146; refine (C2.out _).mono ?_; rintro e w' ⟨rfl, rfl⟩) | (go_at_call 99; refine (C6.out _ _ _ _ _ _).mono ?_; rintro e w1 ⟨v1, rfl, hs1, hb1⟩))
          go_ret2
          exact StsEnd.mk (v' := v1) (b := true) (st := cFormula :: [107, 101, 101, 112] :: cFormula :: [100, 111] :: cCommands :: [101, 110, 100] :: st) (by rw [E.out, h1, if_neg (show ¬ 0 ≤ V by omega), h3, h4]; rfl) hs1 hb1
      · clear C3
        go_enter Tryz.func101, Tryz.ntmps101
        go_wp2_with (first | (go_at_call 145; refine (C1.out _).mono ?_; rintro e w' ⟨rfl, rfl⟩) | (go_at_call 146; refine (C2.out _).mono ?_; rintro e w' ⟨rfl, rfl⟩) | (go_at_call 99; refine (C6.out _ _ _ _ _ _).mono ?_; rintro e w1 ⟨v1, rfl, hs1, hb1⟩))
        go_ret2
        exact StsEnd.mk (v' := v1) (b := true) (st := cFormula :: [116, 104, 101, 110] :: cCommands :: [101, 108, 115, 101] :: cCommands :: [101, 110, 100] :: st) (by rw [E.out, h1, if_neg (show ¬ 0 ≤ V by omega), h3]; rfl) hs1 hb1
  · clear C3 C6
    go_enter Tryz.func101, Tryz.ntmps101
    go_wp2_with (first | (go_at_call 145; refine (C1.out _).mono ?_; rintro e w' ⟨rfl, rfl⟩) | (go_at_call 146; refine (C2.out _).mono ?_; rintro e w' ⟨rfl, rfl⟩))
    go_ret2
    exact StsEnd.mk (v' := v) (b := true) (st := st) (by rw [E.out, h1]; rfl) HS.out (Below.refl _ _)

theorem starts_any (k s : ByteArray) (v : Value) (st : List (List UInt8)) (w : World) (h0 : 0 < k.size) (h : Stk w v st) (hs : s.size ≤ 300) (hl : st.length ≤ 70000) :
    Calls Tryz.prog 101 #[.string k, .string s, v] w fun e w' => StsEnd w (sts k.data.toList s.data.toList st) e w' := by
  unfold sts
  cases h1 : (k.data.toList == cCommand)
  · cases h2 : (k.data.toList == cFactor)
    · cases h3 : (k.data.toList == cTerm)
      · cases h4 : (k.data.toList == cRelation)
        · cases h5 : (k.data.toList == cNumber)
          · rw [← ByteArray.toList_eq] at h1 h2 h3 h4 h5
            exact starts_other k s v st w h1 h2 h3 h4 h5 h0 h hs
          · exact starts_number k s v st w (by rw [ByteArray.toList_eq]; exact beq_iff_eq.1 h5) h hs
        · exact starts_relation k s v st w (by rw [ByteArray.toList_eq]; exact beq_iff_eq.1 h4) h hs
      · exact starts_term k s v st w (by rw [ByteArray.toList_eq]; exact beq_iff_eq.1 h3) h hs (by omega)
    · exact starts_factor k s v st w (by rw [ByteArray.toList_eq]; exact beq_iff_eq.1 h2) h hs hl
  · exact starts_command k s v st w (by rw [ByteArray.toList_eq]; exact beq_iff_eq.1 h1) h hs hl

end Go.Proofs.YtkinoehmcfhgbaaGreatDoor.Av
set_option linter.unusedVariables false
set_option linter.unusedSimpArgs false
namespace Go.Proofs.YtkinoehmcfhgbaaGreatDoor.Av
open Go.RowKit

def wgt (k : List UInt8) : Nat := if k == cCommands || k == cFormula then 3 else 1
def mu (st : List (List UInt8)) : Nat := (st.map wgt).sum
theorem mu_cons (k : List UInt8) (r : List (List UInt8)) : mu (k :: r) = wgt k + mu r := by simp [mu]
theorem wgt_pos (k : List UInt8) : 1 ≤ wgt k := by unfold wgt; split <;> omega
theorem mu_pop (k : List UInt8) (r : List (List UInt8)) : mu r < mu (k :: r) := by rw [mu_cons]; have := wgt_pos k; omega

theorem mu_le (st : List (List UInt8)) : st.length ≤ mu st ∧ mu st ≤ 3 * st.length := by
  induction st with
  | nil => simp [mu]
  | cons k r ih =>
    rw [mu_cons]
    have h1 := wgt_pos k
    have h2 : wgt k ≤ 3 := by unfold wgt; split <;> omega
    simp only [List.length_cons]; omega
theorem Stk.top {w : World} {v : Value} {k : List UInt8} {r : List (List UInt8)} (h : Stk w v (k :: r)) : ∃ b cap, v = .slice (some ⟨b, 0, none⟩) (r.length + 1) cap ∧ r.length + 1 ≤ cap ∧ cap ≤ maxLen ∧ b < w.heap.size ∧ w.cell? ⟨b, r.length, none⟩ = some (str k) ∧ Stk w (.slice (some ⟨b, 0, none⟩) r.length cap) r := by
  have h' := h
  unfold Stk at h'
  rcases h' with ⟨_, h2⟩ | ⟨b, cap, h1, h2, h3, h4, h5⟩
  · simp at h2
  · have e : (k :: r).reverse.length = r.length + 1 := by simp
    rw [e] at h1 h2
    refine ⟨b, cap, h1, h2, h3, h4, h5 _ _ (by simp), ?_⟩
    unfold Stk at h ⊢
    subst h1
    have := Strs.pop h r.length (by omega)
    simpa using this
theorem Stk.bottom {w : World} {v : Value} (h : Stk w v []) : v = .slice none 0 0 ∨ ∃ b cap, v = .slice (some ⟨b, 0, none⟩) 0 cap := by
  rcases h with ⟨h, _⟩ | ⟨b, cap, h1, _⟩
  · exact Or.inl h
  · exact Or.inr ⟨b, cap, h1⟩

theorem opn_cons (s k : List UInt8) (r : List (List UInt8)) (e : Int) : opn s (k :: r) e =
    if k == cCommands then (cCommand :: cMoreCommands :: r, e) else
    if k == cMoreCommands then (if s == [59] then ([59] :: cCommands :: r, e) else opn s r e) else
    if k == cFormula then (cFactor :: cMoreFormula :: r, e) else
    if k == cMoreFormula then (if s == [111, 114] || s == [97, 110, 100] then (s :: cFormula :: r, e) else opn s r e) else
    if k == cMoreTerm then (if s == [43] || s == [45] then (s :: cNumber :: r, e) else opn s r e) else
    if k == cNotEnds then opn s r (e + 1) else (k :: r, e) := by rw [opn]
theorem str_box (k : List UInt8) : ∃ kb : ByteArray, str k = .string kb ∧ kb.toList = k := ⟨⟨k.toArray⟩, rfl, by rw [ByteArray.toList_eq]⟩
theorem opn_command (s : List UInt8) (r : List (List UInt8)) (e : Int) : opn s (cCommand :: r) e = (cCommand :: r, e) := by rw [opn_cons]; rfl
theorem opn_factor (s : List UInt8) (r : List (List UInt8)) (e : Int) : opn s (cFactor :: r) e = (cFactor :: r, e) := by rw [opn_cons]; rfl

def OpnEnd (w : World) (r : List (List UInt8) × Int) (e : Ending) (w' : World) : Prop := ∃ v', e = .returned (.tuple #[v', .int .i64 r.2]) ∧ Stk w' v' r.1 ∧ Below w.heap.size w w'
theorem OpnEnd.mk {w w' : World} {r : List (List UInt8) × Int} {v' : Value} {n : Int} {st : List (List UInt8)} (hr : r = (st, n)) (h : Stk w' v' st) (hb : Below w.heap.size w w') : OpnEnd w r (.returned (.tuple #[v', .int .i64 n])) w' := by
  subst hr; exact ⟨v', rfl, h, hb⟩

set_option maxRecDepth 100000 in
set_option maxHeartbeats 4000000 in
theorem opens_any (s : ByteArray) (v : Value) (st : List (List UInt8)) (w : World) (h : Stk w v st) (hl : st.length ≤ 20000) :
    Calls Tryz.prog 100 #[v, .string s] w fun e w' => OpnEnd w (opn s.data.toList st 0) e w' := by
  rw [← ByteArray.toList_eq]
  generalize hR : opn s.toList st 0 = R
  have HR : Hid (opn s.toList st 0 = R) := hR
  have HS : Hid (Stk w v st) := h
  clear hR h
  go_enter Tryz.func100, Tryz.ntmps100
  go_wp2_with fail
  go_loopg [0, 6, 7, 8] (mu st) (fun g v n _ _ wr => ∃ (st2 : List (List UInt8)) (q : Int), Stk wr v st2 ∧ n = .int .i64 q ∧ opn s.toList st2 q = R ∧ g = mu st2 ∧ 0 ≤ q ∧ q + mu st2 ≤ 60000 ∧ Below w.heap.size w wr)
  case atStart => exact ⟨st, 0, HS.out, rfl, HR.out, rfl, by omega, by have := (mu_le st).2; omega, Below.refl _ _⟩
  case round =>
    obtain ⟨st2, q, hst, rfl, hq, hg, hq0, hq1, hnx⟩ := hrel
    have Q : Hid (opn s.toList st2 q = R) := hq
    have G : Hid (gk = mu st2) := hg
    clear hq hg
    cases st2 with
    | nil =>
      have HS2 : Hid (Stk wr _ []) := hst
      rcases hst.bottom with rfl | ⟨b, cap, rfl⟩
      all_goals
        clear hst
        go_wp2_with fail
        go_ret2
        exact OpnEnd.mk (st := []) (n := q) (by rw [← Q.out]; rfl) HS2.out hnx
    | cons k r =>
      obtain ⟨b, cap, rfl, hcap, hcm, hbl, hcell, hrest⟩ := hst.top
      obtain ⟨kb, hkb, hkl⟩ := str_box k
      rw [hkb] at hcell
      have hQ := Q.out
      rw [opn_cons] at hQ
      rw [← hkl] at hQ
      have hm : r.length ≤ 60000 := by rw [mu_cons] at hq1; have := (mu_le r).1; omega
      have HS2 : Hid (Stk wr (.slice (some ⟨b, 0, none⟩) (r.length + 1) cap) (kb.toList :: r)) := by rw [hkl]; exact hst
      have HS1 : Hid (Stk wr (.slice (some ⟨b, 0, none⟩) r.length cap) r) := hrest
      have C3 : Hid (∀ a b', Calls Tryz.prog 99 #[.slice (some ⟨b, 0, none⟩) r.length cap, .slice (some ⟨wr.heap.size, 0, none⟩) 2 2] (wr.alloc (.cells #[.string a, .string b'] 9)) fun e w' => ∃ v', e = .returned v' ∧ Stk w' v' (a.data.toList :: b'.data.toList :: r) ∧ Below wr.heap.size wr w') := fun a b' => push2 _ r wr a b' hrest (by omega)
      have hg := G.out
      rw [mu_cons, ← hkl] at hg
      have hwp := wgt_pos kb.toList
      have G2 : Hid (gk = wgt kb.toList + mu r) := hg
      have hpop : Hid (mu r < gk) := by show mu r < gk; omega
      have hq2 : q + 1 + mu r ≤ 60000 := by rw [mu_cons] at hq1; have := wgt_pos k; omega
      have HQ1 : Hid (q + (wgt kb.toList + mu r : Nat) ≤ 60000) := by rw [mu_cons, ← hkl] at hq1; exact hq1
      have hsz := hnx.size
      have hq3 : q ≤ 60000 := by omega
      have HQ2 : Hid (q + 1 + mu r ≤ 60000) := hq2
      clear hq2
      clear Q G hst hrest hkb hkl hg hq1 hwp k
      unfold maxLen at hcm
      generalize hmm : r.length = m at *
      have HM : Hid (r.length = m) := hmm
      clear hmm
      cases c1 : (kb.toList == [67, 79, 77, 77, 65, 78, 68, 83])
      · skip
        cases c2 : (kb.toList == [77, 79, 82, 69, 45, 67, 79, 77, 77, 65, 78, 68, 83])
        · skip
          cases c3 : (kb.toList == [70, 79, 82, 77, 85, 76, 65])
          · skip
            cases c4 : (kb.toList == [77, 79, 82, 69, 45, 70, 79, 82, 77, 85, 76, 65])
            · skip
              cases c5 : (kb.toList == [77, 79, 82, 69, 45, 84, 69, 82, 77])
              · skip
                cases c6 : (kb.toList == [78, 79, 84, 45, 69, 78, 68, 83])
                · skip
                  rw [show (kb.toList == cCommands) = false from c1, show (kb.toList == cMoreCommands) = false from c2, show (kb.toList == cFormula) = false from c3, show (kb.toList == cMoreFormula) = false from c4, show (kb.toList == cMoreTerm) = false from c5, show (kb.toList == cNotEnds) = false from c6] at hQ
                  have HQ : Hid ((kb.toList :: r, q) = R) := hQ
                  clear hQ C3 hpop G2 HS1
                  go_wp2_with fail
                  go_ret2
                  exact OpnEnd.mk (st := kb.toList :: r) (n := q) HQ.out.symm HS2.out hnx
                · skip
                  rw [show (kb.toList == cCommands) = false from c1, show (kb.toList == cMoreCommands) = false from c2, show (kb.toList == cFormula) = false from c3, show (kb.toList == cMoreFormula) = false from c4, show (kb.toList == cMoreTerm) = false from c5, show (kb.toList == cNotEnds) = true from c6] at hQ
                  have HQ : Hid (opn s.toList r (q + 1) = R) := hQ
                  clear hQ C3
                  go_wp2_with fail
                  go_roundg (mu r)
                  case measure => exact hpop.out
                  case rel => exact ⟨r, _, HS1.out, rfl, HQ.out, rfl, by omega, by have := HQ2.out; omega, hnx⟩
              · skip
                rw [show (kb.toList == cCommands) = false from c1, show (kb.toList == cMoreCommands) = false from c2, show (kb.toList == cFormula) = false from c3, show (kb.toList == cMoreFormula) = false from c4, show (kb.toList == cMoreTerm) = true from c5] at hQ
                cases d1 : (s.toList == [43])
                · cases d2 : (s.toList == [45])
                  · skip
                    rw [d1, d2] at hQ
                    have HQ : Hid (opn s.toList r q = R) := hQ
                    clear hQ C3
                    go_wp2_with fail
                    go_roundg (mu r)
                    case measure => exact hpop.out
                    case rel => exact ⟨r, _, HS1.out, rfl, HQ.out, rfl, by omega, by have := HQ2.out; omega, hnx⟩
                  · skip
                    rw [d1, d2] at hQ
                    have HQ : Hid ((s.toList :: cNumber :: r, q) = R) := hQ
                    clear hQ hpop
                    go_wp2_with ((go_at_call 99; refine (C3.out _ _).mono ?_; rintro e w1 ⟨v1, rfl, hs1, hb1⟩))
                    go_ret2
                    exact OpnEnd.mk (st := s.toList :: cNumber :: r) (n := q) HQ.out.symm (by rw [ByteArray.toList_eq]; exact hs1) (hnx.trans (hb1.mono hsz))
                · skip
                  rw [d1] at hQ
                  have HQ : Hid ((s.toList :: cNumber :: r, q) = R) := hQ
                  clear hQ hpop
                  go_wp2_with ((go_at_call 99; refine (C3.out _ _).mono ?_; rintro e w1 ⟨v1, rfl, hs1, hb1⟩))
                  go_ret2
                  exact OpnEnd.mk (st := s.toList :: cNumber :: r) (n := q) HQ.out.symm (by rw [ByteArray.toList_eq]; exact hs1) (hnx.trans (hb1.mono hsz))
            · skip
              rw [show (kb.toList == cCommands) = false from c1, show (kb.toList == cMoreCommands) = false from c2, show (kb.toList == cFormula) = false from c3, show (kb.toList == cMoreFormula) = true from c4] at hQ
              cases d1 : (s.toList == [111, 114])
              · cases d2 : (s.toList == [97, 110, 100])
                · skip
                  rw [d1, d2] at hQ
                  have HQ : Hid (opn s.toList r q = R) := hQ
                  clear hQ C3
                  go_wp2_with fail
                  go_roundg (mu r)
                  case measure => exact hpop.out
                  case rel => exact ⟨r, _, HS1.out, rfl, HQ.out, rfl, by omega, by have := HQ2.out; omega, hnx⟩
                · skip
                  rw [d1, d2] at hQ
                  have HQ : Hid ((s.toList :: cFormula :: r, q) = R) := hQ
                  clear hQ hpop
                  go_wp2_with ((go_at_call 99; refine (C3.out _ _).mono ?_; rintro e w1 ⟨v1, rfl, hs1, hb1⟩))
                  go_ret2
                  exact OpnEnd.mk (st := s.toList :: cFormula :: r) (n := q) HQ.out.symm (by rw [ByteArray.toList_eq]; exact hs1) (hnx.trans (hb1.mono hsz))
              · skip
                rw [d1] at hQ
                have HQ : Hid ((s.toList :: cFormula :: r, q) = R) := hQ
                clear hQ hpop
                go_wp2_with ((go_at_call 99; refine (C3.out _ _).mono ?_; rintro e w1 ⟨v1, rfl, hs1, hb1⟩))
                go_ret2
                exact OpnEnd.mk (st := s.toList :: cFormula :: r) (n := q) HQ.out.symm (by rw [ByteArray.toList_eq]; exact hs1) (hnx.trans (hb1.mono hsz))
          · skip
            rw [show (kb.toList == cCommands) = false from c1, show (kb.toList == cMoreCommands) = false from c2, show (kb.toList == cFormula) = true from c3] at hQ
            have HQ : Hid ((cFactor :: cMoreFormula :: r, q) = R) := hQ
            have hw3 : Hid (wgt kb.toList = 3) := by show wgt kb.toList = 3; rw [beq_iff_eq.1 c3]; rfl
            clear hQ hpop
            go_wp2_with ((go_at_call 99; refine (C3.out _ _).mono ?_; rintro e w1 ⟨v1, rfl, hs1, hb1⟩))
            go_roundg (mu (cFactor :: cMoreFormula :: r))
            case measure => have := G2.out; have h3 := hw3.out; rw [mu_cons, mu_cons]; have e1 : wgt cFactor = 1 := rfl; have e2 : wgt cMoreFormula = 1 := rfl; omega
            case rel => exact ⟨cFactor :: cMoreFormula :: r, q, hs1, rfl, by rw [opn_factor]; exact HQ.out, rfl, hq0, by have h1 := HQ1.out; have h3 := hw3.out; rw [mu_cons, mu_cons]; have e1 : wgt cCommand = 1 := rfl; have e2 : wgt cMoreCommands = 1 := rfl; have e3 : wgt cFactor = 1 := rfl; have e4 : wgt cMoreFormula = 1 := rfl; omega, hnx.trans (hb1.mono hsz)⟩
        · skip
          rw [show (kb.toList == cCommands) = false from c1, show (kb.toList == cMoreCommands) = true from c2] at hQ
          cases d1 : (s.toList == [59])
          · skip
            rw [d1] at hQ
            have HQ : Hid (opn s.toList r q = R) := hQ
            clear hQ C3
            go_wp2_with fail
            go_roundg (mu r)
            case measure => exact hpop.out
            case rel => exact ⟨r, _, HS1.out, rfl, HQ.out, rfl, by omega, by have := HQ2.out; omega, hnx⟩
          · skip
            rw [d1] at hQ
            have HQ : Hid (([59] :: cCommands :: r, q) = R) := hQ
            clear hQ hpop
            go_wp2_with ((go_at_call 99; refine (C3.out _ _).mono ?_; rintro e w1 ⟨v1, rfl, hs1, hb1⟩))
            go_ret2
            exact OpnEnd.mk (st := [59] :: cCommands :: r) (n := q) HQ.out.symm hs1 (hnx.trans (hb1.mono hsz))
      · skip
        rw [show (kb.toList == cCommands) = true from c1] at hQ
        have HQ : Hid ((cCommand :: cMoreCommands :: r, q) = R) := hQ
        have hw3 : Hid (wgt kb.toList = 3) := by show wgt kb.toList = 3; rw [beq_iff_eq.1 c1]; rfl
        clear hQ hpop
        go_wp2_with ((go_at_call 99; refine (C3.out _ _).mono ?_; rintro e w1 ⟨v1, rfl, hs1, hb1⟩))
        go_roundg (mu (cCommand :: cMoreCommands :: r))
        case measure => have := G2.out; have h3 := hw3.out; rw [mu_cons, mu_cons]; have e1 : wgt cCommand = 1 := rfl; have e2 : wgt cMoreCommands = 1 := rfl; omega
        case rel => exact ⟨cCommand :: cMoreCommands :: r, q, hs1, rfl, by rw [opn_command]; exact HQ.out, rfl, hq0, by have h1 := HQ1.out; have h3 := hw3.out; rw [mu_cons, mu_cons]; have e1 : wgt cCommand = 1 := rfl; have e2 : wgt cMoreCommands = 1 := rfl; have e3 : wgt cFactor = 1 := rfl; have e4 : wgt cMoreFormula = 1 := rfl; omega, hnx.trans (hb1.mono hsz)⟩

end Go.Proofs.YtkinoehmcfhgbaaGreatDoor.Av
