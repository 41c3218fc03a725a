/-
  The walk of the document's own starts: what a kind wants when a token begins it.
-/
import Derived.Test.YtkinoehmcfhgbaaGreatDoorPush
import Derived.Deep.QuietTactic
import Derived.BigQuiet
set_option linter.unusedVariables false
set_option linter.unusedSimpArgs false
namespace Go.Proofs.YtkinoehmcfhgbaaGreatDoor.Av
open Go.RowKit

/-- A stack of texts as it lies in memory, its top last; told top first. -/
def Stk (w : World) (v : Value) (st : List (List UInt8)) : Prop := Strs w v st.reverse
theorem Stk.below {w w' : World} {v : Value} {st : List (List UInt8)} (h : Stk w v st) (hb : Below w.heap.size w w') : Stk w' v st := Strs.below h hb
theorem str_data (a : ByteArray) : str a.data.toList = .string a := by unfold str; simp
theorem lit2 (w : World) (a b : ByteArray) : Strs (w.alloc (.cells #[.string a, .string b] 9)) (.slice (some ⟨w.heap.size, 0, none⟩) 2 2) [a.data.toList, b.data.toList] := by
  refine Or.inr ⟨w.heap.size, 2, rfl, by simp, by decide, by simp, fun j t h => ?_⟩
  match j, h with
  | 0, h => simp at h; subst h; rw [str_data]; simp
  | 1, h => simp at h; subst h; rw [str_data]; simp
theorem lit6 (w : World) (a b c d e f : ByteArray) : Strs (w.alloc (.cells #[.string a, .string b, .string c, .string d, .string e, .string f] 9)) (.slice (some ⟨w.heap.size, 0, none⟩) 6 6) [a.data.toList, b.data.toList, c.data.toList, d.data.toList, e.data.toList, f.data.toList] := by
  refine Or.inr ⟨w.heap.size, 6, rfl, by simp, by decide, by simp, fun j t h => ?_⟩
  match j, h with
  | 0, h => simp at h; subst h; rw [str_data]; simp
  | 1, h => simp at h; subst h; rw [str_data]; simp
  | 2, h => simp at h; subst h; rw [str_data]; simp
  | 3, h => simp at h; subst h; rw [str_data]; simp
  | 4, h => simp at h; subst h; rw [str_data]; simp
  | 5, h => simp at h; subst h; rw [str_data]; simp
theorem lit1 (w : World) (a : ByteArray) : Strs (w.alloc (.cells #[.string a] 9)) (.slice (some ⟨w.heap.size, 0, none⟩) 1 1) [a.data.toList] := by
  refine Or.inr ⟨w.heap.size, 1, rfl, by simp, by decide, by simp, fun j t h => ?_⟩
  match j, h with
  | 0, h => simp at h; subst h; rw [str_data]; simp
theorem below_alloc (w : World) (o : Obj) : Below w.heap.size w (w.alloc o) := (Below.refl _ _).alloc (Nat.le_refl _) _

theorem push1 (v : Value) (st : List (List UInt8)) (w : World) (a : ByteArray) (h : Stk w v st) (hl : st.length ≤ 90000) :
    Calls Tryz.prog 99 #[v, .slice (some ⟨w.heap.size, 0, none⟩) 1 1] (w.alloc (.cells #[.string a] 9)) fun e w' => ∃ v', e = .returned v' ∧ Stk w' v' (a.data.toList :: st) ∧ Below w.heap.size w w' := by
  refine (push_any v w.heap.size 1 st.reverse [a.data.toList] _ (Strs.below h (below_alloc _ _)) (lit1 w a) (by simp; omega) (by simp)).mono ?_
  rintro e w' ⟨v', rfl, h1, h2⟩
  exact ⟨v', rfl, by unfold Stk; simpa using h1, (below_alloc _ _).trans (h2.mono (by simp))⟩
theorem push2 (v : Value) (st : List (List UInt8)) (w : World) (a b : ByteArray) (h : Stk w v st) (hl : st.length ≤ 90000) :
    Calls Tryz.prog 99 #[v, .slice (some ⟨w.heap.size, 0, none⟩) 2 2] (w.alloc (.cells #[.string a, .string b] 9)) fun e w' => ∃ v', e = .returned v' ∧ Stk w' v' (a.data.toList :: b.data.toList :: st) ∧ Below w.heap.size w w' := by
  refine (push_any v w.heap.size 2 st.reverse [a.data.toList, b.data.toList] _ (Strs.below h (below_alloc _ _)) (lit2 w a b) (by simp; omega) (by simp)).mono ?_
  rintro e w' ⟨v', rfl, h1, h2⟩
  exact ⟨v', rfl, by unfold Stk; simpa using h1, (below_alloc _ _).trans (h2.mono (by simp))⟩
theorem push6 (v : Value) (st : List (List UInt8)) (w : World) (a b c d e f : ByteArray) (h : Stk w v st) (hl : st.length ≤ 90000) :
    Calls Tryz.prog 99 #[v, .slice (some ⟨w.heap.size, 0, none⟩) 6 6] (w.alloc (.cells #[.string a, .string b, .string c, .string d, .string e, .string f] 9)) fun e' w' => ∃ v', e' = .returned v' ∧ Stk w' v' (a.data.toList :: b.data.toList :: c.data.toList :: d.data.toList :: e.data.toList :: f.data.toList :: st) ∧ Below w.heap.size w w' := by
  refine (push_any v w.heap.size 6 st.reverse [a.data.toList, b.data.toList, c.data.toList, d.data.toList, e.data.toList, f.data.toList] _ (Strs.below h (below_alloc _ _)) (lit6 w a b c d e f) (by simp; omega) (by simp)).mono ?_
  rintro e w' ⟨v', rfl, h1, h2⟩
  exact ⟨v', rfl, by unfold Stk; simpa using h1, (below_alloc _ _).trans (h2.mono (by simp))⟩

/-- What a walk of starts ends with. -/
def StsEnd (w : World) (r : List (List UInt8) × Bool) (e : Ending) (w' : World) : Prop := ∃ v', e = .returned (.tuple #[v', .bool r.2]) ∧ Stk w' v' r.1 ∧ Below w.heap.size w w'
theorem StsEnd.mk {w w' : World} {r : List (List UInt8) × Bool} {v' : Value} {b : Bool} {st : List (List UInt8)} (hr : r = (st, b)) (h : Stk w' v' st) (hb : Below w.heap.size w w') : StsEnd w r (.returned (.tuple #[v', .bool b])) w' := by
  subst hr; exact ⟨v', rfl, h, hb⟩

set_option maxRecDepth 100000 in
set_option maxHeartbeats 1000000 in
theorem starts_term (k s : ByteArray) (v : Value) (st : List (List UInt8)) (w : World) (hk : k.toList = [84, 69, 82, 77]) (h : Stk w v st) (hs : s.size ≤ 300) (hl : st.length ≤ 80000) :
    Calls Tryz.prog 101 #[.string k, .string s, v] w fun e w' => StsEnd w (stTerm s.data.toList st) e w' := by
  obtain ⟨V, hV⟩ : ∃ V, vr s.data.toList = V := ⟨_, rfl⟩
  obtain ⟨D, hD⟩ : ∃ D, dg 999 s.data.toList = D := ⟨_, rfl⟩
  have C1 : Hid (∀ w, Calls Tryz.prog 145 #[.string s] w fun e w' => e = .returned (.int .i64 V) ∧ w = w') := fun w => by rw [← hV]; exact (rvariable_any s w).mono fun _ _ h => ⟨h.1, h.2.symm⟩
  have C2 : Hid (∀ w, Calls Tryz.prog 146 #[.string s, .int .i64 999] w fun e w' => e = .returned (.int .i64 D) ∧ w = w') := fun w => by rw [← hD]; exact (digits_any s w 999 hs (by omega) (by omega)).mono fun _ _ h => ⟨h.1, h.2.symm⟩
  have C3 : Hid (∀ a, Calls Tryz.prog 99 #[v, .slice (some ⟨w.heap.size, 0, none⟩) 1 1] (w.alloc (.cells #[.string a] 9)) fun e w' => ∃ v', e = .returned v' ∧ Stk w' v' (a.data.toList :: st) ∧ Below w.heap.size w w') := fun a => push1 v st w a h (by omega)
  have E : Hid (stTerm s.data.toList st = if 0 ≤ V then (cMoreTerm :: st, true) else if s.toList == [45] then (cNumber :: st, true) else (st, decide (0 ≤ D))) := by
    show stTerm s.data.toList st = _
    unfold stTerm; rw [hV, hD, ByteArray.toList_eq]
  have HS : Hid (Stk w v st) := h
  clear hV hD h
  generalize stTerm s.data.toList st = R at *
  go_enter Tryz.func101, Tryz.ntmps101
  go_wp2_with (first | (go_at_call 145; refine (C1.out _).mono ?_; rintro e w' ⟨rfl, rfl⟩) | (go_at_call 146; refine (C2.out _).mono ?_; rintro e w' ⟨rfl, rfl⟩) | (go_at_call 99; refine (C3.out _).mono ?_; rintro e w1 ⟨v1, rfl, hs1, hb1⟩))
  all_goals go_ret2
  · exact StsEnd.mk (v' := v1) (b := true) (st := cMoreTerm :: st) (by rw [E.out, if_pos ‹_›]) hs1 hb1
  · exact StsEnd.mk (v' := v1) (b := true) (st := cNumber :: st) (by rw [E.out, if_neg (by omega), if_pos ‹_›]) hs1 hb1
  · exact StsEnd.mk (v' := v) (b := decide (0 ≤ D)) (st := st) (by rw [E.out, if_neg (by omega)]; simp only [*]; rfl) HS.out (Below.refl _ _)

set_option maxRecDepth 100000 in
set_option maxHeartbeats 1000000 in
theorem starts_number (k s : ByteArray) (v : Value) (st : List (List UInt8)) (w : World) (hk : k.toList = [78, 85, 77, 66, 69, 82]) (h : Stk w v st) (hs : s.size ≤ 300) :
    Calls Tryz.prog 101 #[.string k, .string s, v] w fun e w' => StsEnd w (st, decide (0 ≤ dg 999 s.data.toList)) e w' := by
  obtain ⟨V, hV⟩ : ∃ V, vr s.data.toList = V := ⟨_, rfl⟩
  obtain ⟨D, hD⟩ : ∃ D, dg 999 s.data.toList = D := ⟨_, rfl⟩
  have C1 : Hid (∀ w, Calls Tryz.prog 145 #[.string s] w fun e w' => e = .returned (.int .i64 V) ∧ w = w') := fun w => by rw [← hV]; exact (rvariable_any s w).mono fun _ _ h => ⟨h.1, h.2.symm⟩
  have C2 : Hid (∀ w, Calls Tryz.prog 146 #[.string s, .int .i64 999] w fun e w' => e = .returned (.int .i64 D) ∧ w = w') := fun w => by rw [← hD]; exact (digits_any s w 999 hs (by omega) (by omega)).mono fun _ _ h => ⟨h.1, h.2.symm⟩
  rw [hD]
  have HS : Hid (Stk w v st) := h
  clear hV hD h
  go_enter Tryz.func101, Tryz.ntmps101
  go_wp2_with (first | (go_at_call 145; refine (C1.out _).mono ?_; rintro e w' ⟨rfl, rfl⟩) | (go_at_call 146; refine (C2.out _).mono ?_; rintro e w' ⟨rfl, rfl⟩))
  go_ret2
  exact StsEnd.mk (v' := v) (b := decide (0 ≤ D)) (st := st) rfl HS.out (Below.refl _ _)

set_option maxRecDepth 100000 in
set_option maxHeartbeats 1000000 in
theorem starts_relation (k s : ByteArray) (v : Value) (st : List (List UInt8)) (w : World) (hk : k.toList = [82, 69, 76, 65, 84, 73, 79, 78]) (h : Stk w v st) (hs : s.size ≤ 300) :
    Calls Tryz.prog 101 #[.string k, .string s, v] w fun e w' => StsEnd w (st, rl s.data.toList) e w' := by
  obtain ⟨V, hV⟩ : ∃ V, vr s.data.toList = V := ⟨_, rfl⟩
  obtain ⟨D, hD⟩ : ∃ D, dg 999 s.data.toList = D := ⟨_, rfl⟩
  have C1 : Hid (∀ w, Calls Tryz.prog 145 #[.string s] w fun e w' => e = .returned (.int .i64 V) ∧ w = w') := fun w => by rw [← hV]; exact (rvariable_any s w).mono fun _ _ h => ⟨h.1, h.2.symm⟩
  have C2 : Hid (∀ w, Calls Tryz.prog 146 #[.string s, .int .i64 999] w fun e w' => e = .returned (.int .i64 D) ∧ w = w') := fun w => by rw [← hD]; exact (digits_any s w 999 hs (by omega) (by omega)).mono fun _ _ h => ⟨h.1, h.2.symm⟩
  have C3 : Hid (∀ w, Calls Tryz.prog 147 #[.string s] w fun e w' => e = .returned (.bool (rl s.data.toList)) ∧ w = w') := fun w => (relation_any s w).mono fun _ _ h => ⟨h.1, h.2.symm⟩
  have HS : Hid (Stk w v st) := h
  clear hV hD h
  generalize rl s.data.toList = R at *
  go_enter Tryz.func101, Tryz.ntmps101
  go_wp2_with (first | (go_at_call 145; refine (C1.out _).mono ?_; rintro e w' ⟨rfl, rfl⟩) | (go_at_call 146; refine (C2.out _).mono ?_; rintro e w' ⟨rfl, rfl⟩) | (go_at_call 147; refine (C3.out _).mono ?_; rintro e w' ⟨rfl, rfl⟩))
  go_ret2
  exact StsEnd.mk (v' := v) (b := R) (st := st) rfl HS.out (Below.refl _ _)

set_option maxRecDepth 100000 in
set_option maxHeartbeats 1000000 in
theorem starts_factor (k s : ByteArray) (v : Value) (st : List (List UInt8)) (w : World) (hk : k.toList = [70, 65, 67, 84, 79, 82]) (h : Stk w v st) (hs : s.size ≤ 300) (hl : st.length ≤ 70000) :
    Calls Tryz.prog 101 #[.string k, .string s, v] w fun e w' => StsEnd w (stFactor s.data.toList st) e w' := by
  obtain ⟨V, hV⟩ : ∃ V, vr s.data.toList = V := ⟨_, rfl⟩
  obtain ⟨D, hD⟩ : ∃ D, dg 999 s.data.toList = D := ⟨_, rfl⟩
  have C1 : Hid (∀ w, Calls Tryz.prog 145 #[.string s] w fun e w' => e = .returned (.int .i64 V) ∧ w = w') := fun w => by rw [← hV]; exact (rvariable_any s w).mono fun _ _ h => ⟨h.1, h.2.symm⟩
  have C2 : Hid (∀ w, Calls Tryz.prog 146 #[.string s, .int .i64 999] w fun e w' => e = .returned (.int .i64 D) ∧ w = w') := fun w => by rw [← hD]; exact (digits_any s w 999 hs (by omega) (by omega)).mono fun _ _ h => ⟨h.1, h.2.symm⟩
  have C3 : Hid (∀ a b, Calls Tryz.prog 99 #[v, .slice (some ⟨w.heap.size, 0, none⟩) 2 2] (w.alloc (.cells #[.string a, .string b] 9)) fun e w' => ∃ v', e = .returned v' ∧ Stk w' v' (a.data.toList :: b.data.toList :: st) ∧ Below w.heap.size w w') := fun a b => push2 v st w a b h (by omega)
  have C4 : Hid (∀ (v1 : Value) (w1 : World), Stk w1 v1 (cRelation :: cTerm :: st) → Calls Tryz.prog 101 #[.string ⟨#[84, 69, 82, 77]⟩, .string s, v1] w1 fun e w' => StsEnd w1 (stTerm s.data.toList (cRelation :: cTerm :: st)) e w') := fun v1 w1 h1 => starts_term _ s v1 _ w1 (by rw [ByteArray.toList_eq]) h1 hs (by simp; omega)
  have E : Hid (stFactor s.data.toList st = if s.toList == [116, 114, 117, 101] || s.toList == [102, 97, 108, 115, 101] then (st, true) else if s.toList == [110, 111, 116] then (cFactor :: cNotEnds :: st, true) else
      if s.toList == [40] then (cFormula :: [41] :: st, true) else stTerm s.data.toList (cRelation :: cTerm :: st)) := by
    show stFactor s.data.toList st = _
    unfold stFactor; rw [ByteArray.toList_eq]
  have HS : Hid (Stk w v st) := h
  clear hV hD h
  generalize stFactor s.data.toList st = R at *
  generalize stTerm s.data.toList (cRelation :: cTerm :: st) = R2 at *
  go_enter Tryz.func101, Tryz.ntmps101
  go_wp2_with (first | (go_at_call 145; refine (C1.out _).mono ?_; rintro e w' ⟨rfl, rfl⟩) | (go_at_call 146; refine (C2.out _).mono ?_; rintro e w' ⟨rfl, rfl⟩) | (go_at_call 99; refine (C3.out _ _).mono ?_; rintro e w1 ⟨v1, rfl, hs1, hb1⟩) | (go_at_call 101; refine (C4.out _ _ hs1).mono ?_; rintro e w2 ⟨v2, rfl, hs2, hb2⟩))
  all_goals go_ret2
  · exact StsEnd.mk (v' := v) (b := true) (st := st) (by rw [E.out]; simp [*]) HS.out (Below.refl _ _)
  · exact StsEnd.mk (v' := v) (b := true) (st := st) (by rw [E.out, if_pos (by simp only [Bool.or_eq_true]; assumption)]) HS.out (Below.refl _ _)
  · exact StsEnd.mk (v' := v1) (b := true) (st := cFactor :: cNotEnds :: st) (by rw [E.out]; simp [*]) hs1 hb1
  · exact StsEnd.mk (v' := v1) (b := true) (st := cFormula :: [41] :: st) (by rw [E.out]; simp [*]) hs1 hb1
  · exact StsEnd.mk (v' := v2) (b := R2.2) (st := R2.1) (by rw [E.out]; simp [*]) hs2 (hb1.trans (hb2.mono hb1.size))

set_option maxRecDepth 100000 in
set_option maxHeartbeats 1000000 in
theorem starts_other (k s : ByteArray) (v : Value) (st : List (List UInt8)) (w : World) (h1 : (k.toList == [67, 79, 77, 77, 65, 78, 68]) = false) (h2 : (k.toList == [70, 65, 67, 84, 79, 82]) = false) (h3 : (k.toList == [84, 69, 82, 77]) = false) (h4 : (k.toList == [82, 69, 76, 65, 84, 73, 79, 78]) = false) (h5 : (k.toList == [78, 85, 77, 66, 69, 82]) = false) (h0 : 0 < k.size) (h : Stk w v st) (hs : s.size ≤ 300) :
    Calls Tryz.prog 101 #[.string k, .string s, v] w fun e w' => StsEnd w (st, dflt k.data.toList s.data.toList) e w' := by
  obtain ⟨V, hV⟩ : ∃ V, vr s.data.toList = V := ⟨_, rfl⟩
  obtain ⟨D, hD⟩ : ∃ D, dg 999 s.data.toList = D := ⟨_, rfl⟩
  have C1 : Hid (∀ w, Calls Tryz.prog 145 #[.string s] w fun e w' => e = .returned (.int .i64 V) ∧ w = w') := fun w => by rw [← hV]; exact (rvariable_any s w).mono fun _ _ h => ⟨h.1, h.2.symm⟩
  have C2 : Hid (∀ w, Calls Tryz.prog 146 #[.string s, .int .i64 999] w fun e w' => e = .returned (.int .i64 D) ∧ w = w') := fun w => by rw [← hD]; exact (digits_any s w 999 hs (by omega) (by omega)).mono fun _ _ h => ⟨h.1, h.2.symm⟩
  have hd : k.data.toList = k[0] :: rest k 1 := rest_cons k 0 h0
  have HD : Hid (dflt k.data.toList s.data.toList = ((k.toList == s.toList) && (decide ((k[0].toNat : Int) < 65) || decide (90 < (k[0].toNat : Int))))) := by
    show dflt k.data.toList s.data.toList = _
    rw [ByteArray.toList_eq, ByteArray.toList_eq]; unfold dflt; rw [hd]; rfl
  have HS : Hid (Stk w v st) := h
  clear hV hD h hd
  generalize dflt k.data.toList s.data.toList = R at *
  cases hks : (k.toList == s.toList)
  · go_enter Tryz.func101, Tryz.ntmps101
    go_wp2_with (first | (go_at_call 145; refine (C1.out _).mono ?_; rintro e w' ⟨rfl, rfl⟩) | (go_at_call 146; refine (C2.out _).mono ?_; rintro e w' ⟨rfl, rfl⟩))
    go_quiet (fail)
    go_wp2_with fail
    go_ret2
    exact StsEnd.mk (v' := v) (b := false) (st := st) (by rw [HD.out, hks]; rfl) (HS.out.below (below_drewN (Below.refl _ _) _)) (below_drewN (Below.refl _ _) _)
  · by_cases hlo : (k[0].toNat : Int) < 65
    · go_enter Tryz.func101, Tryz.ntmps101
      go_wp2_with (first | (go_at_call 145; refine (C1.out _).mono ?_; rintro e w' ⟨rfl, rfl⟩) | (go_at_call 146; refine (C2.out _).mono ?_; rintro e w' ⟨rfl, rfl⟩))
      go_quiet (fail)
      go_wp2_with fail
      go_ret2
      exact StsEnd.mk (v' := v) (b := true) (st := st) (by rw [HD.out, hks, decide_eq_true hlo]; rfl) (HS.out.below (below_drewN (Below.refl _ _) _)) (below_drewN (Below.refl _ _) _)
    · go_enter Tryz.func101, Tryz.ntmps101
      go_wp2_with (first | (go_at_call 145; refine (C1.out _).mono ?_; rintro e w' ⟨rfl, rfl⟩) | (go_at_call 146; refine (C2.out _).mono ?_; rintro e w' ⟨rfl, rfl⟩))
      go_quiet (fail)
      go_wp2_with fail
      go_ret2
      exact StsEnd.mk (r := (st, R)) (v' := v) (b := (decide ((k[0].toNat : Int) < 65) || decide ((90 : Int) < (k[0].toNat : Int)))) (st := st) (by rw [HD.out, hks]; rfl) (HS.out.below (below_drewN (Below.refl _ _) _)) (below_drewN (Below.refl _ _) _)

set_option maxRecDepth 100000 in
set_option maxHeartbeats 2000000 in
theorem starts_command (k s : ByteArray) (v : Value) (st : List (List UInt8)) (w : World) (hk : k.toList = [67, 79, 77, 77, 65, 78, 68]) (h : Stk w v st) (hs : s.size ≤ 300) (hl : st.length ≤ 70000) :
    Calls Tryz.prog 101 #[.string k, .string s, v] w fun e w' => StsEnd w (stCommand s.data.toList st) e w' := by
  obtain ⟨V, hV⟩ : ∃ V, vr s.data.toList = V := ⟨_, rfl⟩
  obtain ⟨D, hD⟩ : ∃ D, dg 999 s.data.toList = D := ⟨_, rfl⟩
  have C1 : Hid (∀ w, Calls Tryz.prog 145 #[.string s] w fun e w' => e = .returned (.int .i64 V) ∧ w = w') := fun w => by rw [← hV]; exact (rvariable_any s w).mono fun _ _ h => ⟨h.1, h.2.symm⟩
  have C2 : Hid (∀ w, Calls Tryz.prog 146 #[.string s, .int .i64 999] w fun e w' => e = .returned (.int .i64 D) ∧ w = w') := fun w => by rw [← hD]; exact (digits_any s w 999 hs (by omega) (by omega)).mono fun _ _ h => ⟨h.1, h.2.symm⟩
  have C3 : Hid (∀ a b, Calls Tryz.prog 99 #[v, .slice (some ⟨w.heap.size, 0, none⟩) 2 2] (w.alloc (.cells #[.string a, .string b] 9)) fun e w' => ∃ v', e = .returned v' ∧ Stk w' v' (a.data.toList :: b.data.toList :: st) ∧ Below w.heap.size w w') := fun a b => push2 v st w a b h (by omega)
  have C6 : Hid (∀ a b c d e f, Calls Tryz.prog 99 #[v, .slice (some ⟨w.heap.size, 0, none⟩) 6 6] (w.alloc (.cells #[.string a, .string b, .string c, .string d, .string e, .string f] 9)) fun e' w' => ∃ v', e' = .returned v' ∧ Stk w' v' (a.data.toList :: b.data.toList :: c.data.toList :: d.data.toList :: e.data.toList :: f.data.toList :: st) ∧ Below w.heap.size w w') := fun a b c d e f => push6 v st w a b c d e f h (by omega)
  have hk' : k.data.toList = [67, 79, 77, 77, 65, 78, 68] := by rw [← ByteArray.toList_eq]; exact hk
  have h0 : 0 < k.size := by
    have : k.data.toList.length = k.size := by simp
    rw [hk'] at this; simp at this; omega
  have hk0 : (k[0].toNat : Int) = 67 := by
    have := rest_cons k 0 h0
    rw [show rest k 0 = k.data.toList from rfl, hk'] at this
    have e := (List.cons.inj this).1
    rw [← e]; rfl
  have E : Hid (stCommand s.data.toList st = if s.toList == [115, 107, 105, 112] then (st, true) else if 0 ≤ V then ([58, 61] :: cTerm :: st, true) else
      if s.toList == [105, 102] then (cFormula :: [116, 104, 101, 110] :: cCommands :: [101, 108, 115, 101] :: cCommands :: [101, 110, 100] :: st, true) else
      if s.toList == [119, 104, 105, 108, 101] then (cFormula :: [107, 101, 101, 112] :: cFormula :: [100, 111] :: cCommands :: [101, 110, 100] :: st, true) else (st, false)) := by
    show stCommand s.data.toList st = _
    unfold stCommand; rw [hV, ByteArray.toList_eq]
  have HS : Hid (Stk w v st) := h
  clear hV hD h hk'
  generalize stCommand s.data.toList st = R at *
  cases h1 : (s.toList == [115, 107, 105, 112])
  · by_cases h2 : 0 ≤ V
    · clear C6
      go_enter Tryz.func101, Tryz.ntmps101
      go_wp2_with (first | (go_at_call 145; refine (C1.out _).mono ?_; rintro e w' ⟨rfl, rfl⟩) | (go_at_call 146; refine (C2.out _).mono ?_; rintro e w' ⟨rfl, rfl⟩) | (go_at_call 99; refine (C3.out _ _).mono ?_; rintro e w1 ⟨v1, rfl, hs1, hb1⟩))
      go_ret2
      exact StsEnd.mk (v' := v1) (b := true) (st := [58, 61] :: cTerm :: st) (by rw [E.out, h1, if_pos h2]; rfl) hs1 hb1
    · cases h3 : (s.toList == [105, 102])
      · cases h4 : (s.toList == [119, 104, 105, 108, 101])
        · cases hks : ([67, 79, 77, 77, 65, 78, 68] == s.toList)
          · clear C3 C6
            go_enter Tryz.func101, Tryz.ntmps101
            go_wp2_with (first | (go_at_call 145; refine (C1.out _).mono ?_; rintro e w' ⟨rfl, rfl⟩) | (go_at_call 146; refine (C2.out _).mono ?_; rintro e w' ⟨rfl, rfl⟩))
            go_quiet (fail)
            go_wp2_with fail
            go_ret2
            exact StsEnd.mk (v' := v) (b := false) (st := st) (by rw [E.out, h1, if_neg (show ¬ 0 ≤ V by omega), h3, h4]; rfl) (HS.out.below (below_drewN (Below.refl _ _) _)) (below_drewN (Below.refl _ _) _)
          · clear C3 C6
            go_enter Tryz.func101, Tryz.ntmps101
            go_wp2_with (first | (go_at_call 145; refine (C1.out _).mono ?_; rintro e w' ⟨rfl, rfl⟩) | (go_at_call 146; refine (C2.out _).mono ?_; rintro e w' ⟨rfl, rfl⟩))
            go_quiet (fail)
            go_wp2_with fail
            go_ret2
            exact StsEnd.mk (v' := v) (b := false) (st := st) (by rw [E.out, h1, if_neg (show ¬ 0 ≤ V by omega), h3, h4]; rfl) (HS.out.below (below_drewN (Below.refl _ _) _)) (below_drewN (Below.refl _ _) _)
        · clear C3
          go_enter Tryz.func101, Tryz.ntmps101
          go_wp2_with (first | (go_at_call 145; refine (C1.out _).mono ?_; rintro e w' ⟨rfl, rfl⟩) | (go_at_call 146; refine (C2.out _).mono ?_; rintro e w' ⟨rfl, rfl⟩) | (go_at_call 99; refine (C6.out _ _ _ _ _ _).mono ?_; rintro e w1 ⟨v1, rfl, hs1, hb1⟩))
          go_ret2
          exact StsEnd.mk (v' := v1) (b := true) (st := cFormula :: [107, 101, 101, 112] :: cFormula :: [100, 111] :: cCommands :: [101, 110, 100] :: st) (by rw [E.out, h1, if_neg (show ¬ 0 ≤ V by omega), h3, h4]; rfl) hs1 hb1
      · clear C3
        go_enter Tryz.func101, Tryz.ntmps101
        go_wp2_with (first | (go_at_call 145; refine (C1.out _).mono ?_; rintro e w' ⟨rfl, rfl⟩) | (go_at_call 146; refine (C2.out _).mono ?_; rintro e w' ⟨rfl, rfl⟩) | (go_at_call 99; refine (C6.out _ _ _ _ _ _).mono ?_; rintro e w1 ⟨v1, rfl, hs1, hb1⟩))
        go_ret2
        exact StsEnd.mk (v' := v1) (b := true) (st := cFormula :: [116, 104, 101, 110] :: cCommands :: [101, 108, 115, 101] :: cCommands :: [101, 110, 100] :: st) (by rw [E.out, h1, if_neg (show ¬ 0 ≤ V by omega), h3]; rfl) hs1 hb1
  · clear C3 C6
    go_enter Tryz.func101, Tryz.ntmps101
    go_wp2_with (first | (go_at_call 145; refine (C1.out _).mono ?_; rintro e w' ⟨rfl, rfl⟩) | (go_at_call 146; refine (C2.out _).mono ?_; rintro e w' ⟨rfl, rfl⟩))
    go_ret2
    exact StsEnd.mk (v' := v) (b := true) (st := st) (by rw [E.out, h1]; rfl) HS.out (Below.refl _ _)

theorem starts_any (k s : ByteArray) (v : Value) (st : List (List UInt8)) (w : World) (h0 : 0 < k.size) (h : Stk w v st) (hs : s.size ≤ 300) (hl : st.length ≤ 70000) :
    Calls Tryz.prog 101 #[.string k, .string s, v] w fun e w' => StsEnd w (sts k.data.toList s.data.toList st) e w' := by
  unfold sts
  cases h1 : (k.data.toList == cCommand)
  · cases h2 : (k.data.toList == cFactor)
    · cases h3 : (k.data.toList == cTerm)
      · cases h4 : (k.data.toList == cRelation)
        · cases h5 : (k.data.toList == cNumber)
          · rw [← ByteArray.toList_eq] at h1 h2 h3 h4 h5
            exact starts_other k s v st w h1 h2 h3 h4 h5 h0 h hs
          · exact starts_number k s v st w (by rw [ByteArray.toList_eq]; exact beq_iff_eq.1 h5) h hs
        · exact starts_relation k s v st w (by rw [ByteArray.toList_eq]; exact beq_iff_eq.1 h4) h hs
      · exact starts_term k s v st w (by rw [ByteArray.toList_eq]; exact beq_iff_eq.1 h3) h hs (by omega)
    · exact starts_factor k s v st w (by rw [ByteArray.toList_eq]; exact beq_iff_eq.1 h2) h hs hl
  · exact starts_command k s v st w (by rw [ByteArray.toList_eq]; exact beq_iff_eq.1 h1) h hs hl

end Go.Proofs.YtkinoehmcfhgbaaGreatDoor.Av
