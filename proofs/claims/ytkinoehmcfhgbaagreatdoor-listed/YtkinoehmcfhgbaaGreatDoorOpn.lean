/-
  The walk of the document's own opens: the kinds on top of what is wanted, taken apart for a token.
  The walks of the document's own looked and Read: what Check is to answer.
-/
import Derived.Test.YtkinoehmcfhgbaaGreatDoorSts
import Derived.Deep.LoopGhost
import Derived.Deep.RegionHeld3
set_option linter.unusedVariables false
set_option linter.unusedSimpArgs false
namespace Go.Proofs.YtkinoehmcfhgbaaGreatDoor.Av
open Go.RowKit

def wgt (k : List UInt8) : Nat := if k == cCommands || k == cFormula then 3 else 1
def mu (st : List (List UInt8)) : Nat := (st.map wgt).sum
theorem mu_cons (k : List UInt8) (r : List (List UInt8)) : mu (k :: r) = wgt k + mu r := by simp [mu]
theorem wgt_pos (k : List UInt8) : 1 ≤ wgt k := by unfold wgt; split <;> omega
theorem mu_pop (k : List UInt8) (r : List (List UInt8)) : mu r < mu (k :: r) := by rw [mu_cons]; have := wgt_pos k; omega

theorem mu_le (st : List (List UInt8)) : st.length ≤ mu st ∧ mu st ≤ 3 * st.length := by
  induction st with
  | nil => simp [mu]
  | cons k r ih =>
    rw [mu_cons]
    have h1 := wgt_pos k
    have h2 : wgt k ≤ 3 := by unfold wgt; split <;> omega
    simp only [List.length_cons]; omega
theorem Stk.top {w : World} {v : Value} {k : List UInt8} {r : List (List UInt8)} (h : Stk w v (k :: r)) : ∃ b cap, v = .slice (some ⟨b, 0, none⟩) (r.length + 1) cap ∧ r.length + 1 ≤ cap ∧ cap ≤ maxLen ∧ b < w.heap.size ∧ w.cell? ⟨b, r.length, none⟩ = some (str k) ∧ Stk w (.slice (some ⟨b, 0, none⟩) r.length cap) r := by
  have h' := h
  unfold Stk at h'
  rcases h' with ⟨_, h2⟩ | ⟨b, cap, h1, h2, h3, h4, h5⟩
  · simp at h2
  · have e : (k :: r).reverse.length = r.length + 1 := by simp
    rw [e] at h1 h2
    refine ⟨b, cap, h1, h2, h3, h4, h5 _ _ (by simp), ?_⟩
    unfold Stk at h ⊢
    subst h1
    have := Strs.pop h r.length (by omega)
    simpa using this
theorem Stk.bottom {w : World} {v : Value} (h : Stk w v []) : v = .slice none 0 0 ∨ ∃ b cap, v = .slice (some ⟨b, 0, none⟩) 0 cap := by
  rcases h with ⟨h, _⟩ | ⟨b, cap, h1, _⟩
  · exact Or.inl h
  · exact Or.inr ⟨b, cap, h1⟩

theorem opn_cons (s k : List UInt8) (r : List (List UInt8)) (e : Int) : opn s (k :: r) e =
    if k == cCommands then (cCommand :: cMoreCommands :: r, e) else
    if k == cMoreCommands then (if s == [59] then ([59] :: cCommands :: r, e) else opn s r e) else
    if k == cFormula then (cFactor :: cMoreFormula :: r, e) else
    if k == cMoreFormula then (if s == [111, 114] || s == [97, 110, 100] then (s :: cFormula :: r, e) else opn s r e) else
    if k == cMoreTerm then (if s == [43] || s == [45] then (s :: cNumber :: r, e) else opn s r e) else
    if k == cNotEnds then opn s r (e + 1) else (k :: r, e) := by rw [opn]
theorem str_box (k : List UInt8) : ∃ kb : ByteArray, str k = .string kb ∧ kb.toList = k := ⟨⟨k.toArray⟩, rfl, by rw [ByteArray.toList_eq]⟩
theorem opn_command (s : List UInt8) (r : List (List UInt8)) (e : Int) : opn s (cCommand :: r) e = (cCommand :: r, e) := by rw [opn_cons]; rfl
theorem opn_factor (s : List UInt8) (r : List (List UInt8)) (e : Int) : opn s (cFactor :: r) e = (cFactor :: r, e) := by rw [opn_cons]; rfl

def OpnEnd (w : World) (r : List (List UInt8) × Int) (e : Ending) (w' : World) : Prop := ∃ v', e = .returned (.tuple #[v', .int .i64 r.2]) ∧ Stk w' v' r.1 ∧ Below w.heap.size w w'
theorem OpnEnd.mk {w w' : World} {r : List (List UInt8) × Int} {v' : Value} {n : Int} {st : List (List UInt8)} (hr : r = (st, n)) (h : Stk w' v' st) (hb : Below w.heap.size w w') : OpnEnd w r (.returned (.tuple #[v', .int .i64 n])) w' := by
  subst hr; exact ⟨v', rfl, h, hb⟩

set_option maxRecDepth 100000 in
set_option maxHeartbeats 4000000 in
theorem opens_any (s : ByteArray) (v : Value) (st : List (List UInt8)) (w : World) (h : Stk w v st) (hl : st.length ≤ 20000) :
    Calls Tryz.prog 100 #[v, .string s] w fun e w' => OpnEnd w (opn s.data.toList st 0) e w' := by
  rw [← ByteArray.toList_eq]
  generalize hR : opn s.toList st 0 = R
  have HR : Hid (opn s.toList st 0 = R) := hR
  have HS : Hid (Stk w v st) := h
  clear hR h
  go_enter Tryz.func100, Tryz.ntmps100
  go_wp2_with fail
  go_loopg [0, 6, 7, 8] (mu st) (fun g v n _ _ wr => ∃ (st2 : List (List UInt8)) (q : Int), Stk wr v st2 ∧ n = .int .i64 q ∧ opn s.toList st2 q = R ∧ g = mu st2 ∧ 0 ≤ q ∧ q + mu st2 ≤ 60000 ∧ Below w.heap.size w wr)
  case atStart => exact ⟨st, 0, HS.out, rfl, HR.out, rfl, by omega, by have := (mu_le st).2; omega, Below.refl _ _⟩
  case round =>
    obtain ⟨st2, q, hst, rfl, hq, hg, hq0, hq1, hnx⟩ := hrel
    have Q : Hid (opn s.toList st2 q = R) := hq
    have G : Hid (gk = mu st2) := hg
    clear hq hg
    cases st2 with
    | nil =>
      have HS2 : Hid (Stk wr _ []) := hst
      rcases hst.bottom with rfl | ⟨b, cap, rfl⟩
      all_goals
        clear hst
        go_wp2_with fail
        go_ret2
        exact OpnEnd.mk (st := []) (n := q) (by rw [← Q.out]; rfl) HS2.out hnx
    | cons k r =>
      obtain ⟨b, cap, rfl, hcap, hcm, hbl, hcell, hrest⟩ := hst.top
      obtain ⟨kb, hkb, hkl⟩ := str_box k
      rw [hkb] at hcell
      have hQ := Q.out
      rw [opn_cons] at hQ
      rw [← hkl] at hQ
      have hm : r.length ≤ 60000 := by rw [mu_cons] at hq1; have := (mu_le r).1; omega
      have HS2 : Hid (Stk wr (.slice (some ⟨b, 0, none⟩) (r.length + 1) cap) (kb.toList :: r)) := by rw [hkl]; exact hst
      have HS1 : Hid (Stk wr (.slice (some ⟨b, 0, none⟩) r.length cap) r) := hrest
      have C3 : Hid (∀ a b', Calls Tryz.prog 99 #[.slice (some ⟨b, 0, none⟩) r.length cap, .slice (some ⟨wr.heap.size, 0, none⟩) 2 2] (wr.alloc (.cells #[.string a, .string b'] 9)) fun e w' => ∃ v', e = .returned v' ∧ Stk w' v' (a.data.toList :: b'.data.toList :: r) ∧ Below wr.heap.size wr w') := fun a b' => push2 _ r wr a b' hrest (by omega)
      have hg := G.out
      rw [mu_cons, ← hkl] at hg
      have hwp := wgt_pos kb.toList
      have G2 : Hid (gk = wgt kb.toList + mu r) := hg
      have hpop : Hid (mu r < gk) := by show mu r < gk; omega
      have hq2 : q + 1 + mu r ≤ 60000 := by rw [mu_cons] at hq1; have := wgt_pos k; omega
      have HQ1 : Hid (q + (wgt kb.toList + mu r : Nat) ≤ 60000) := by rw [mu_cons, ← hkl] at hq1; exact hq1
      have hsz := hnx.size
      have hq3 : q ≤ 60000 := by omega
      have HQ2 : Hid (q + 1 + mu r ≤ 60000) := hq2
      clear hq2
      clear Q G hst hrest hkb hkl hg hq1 hwp k
      unfold maxLen at hcm
      generalize hmm : r.length = m at *
      have HM : Hid (r.length = m) := hmm
      clear hmm
      cases c1 : (kb.toList == [67, 79, 77, 77, 65, 78, 68, 83])
      · skip
        cases c2 : (kb.toList == [77, 79, 82, 69, 45, 67, 79, 77, 77, 65, 78, 68, 83])
        · skip
          cases c3 : (kb.toList == [70, 79, 82, 77, 85, 76, 65])
          · skip
            cases c4 : (kb.toList == [77, 79, 82, 69, 45, 70, 79, 82, 77, 85, 76, 65])
            · skip
              cases c5 : (kb.toList == [77, 79, 82, 69, 45, 84, 69, 82, 77])
              · skip
                cases c6 : (kb.toList == [78, 79, 84, 45, 69, 78, 68, 83])
                · skip
                  rw [show (kb.toList == cCommands) = false from c1, show (kb.toList == cMoreCommands) = false from c2, show (kb.toList == cFormula) = false from c3, show (kb.toList == cMoreFormula) = false from c4, show (kb.toList == cMoreTerm) = false from c5, show (kb.toList == cNotEnds) = false from c6] at hQ
                  have HQ : Hid ((kb.toList :: r, q) = R) := hQ
                  clear hQ C3 hpop G2 HS1
                  go_wp2_with fail
                  go_ret2
                  exact OpnEnd.mk (st := kb.toList :: r) (n := q) HQ.out.symm HS2.out hnx
                · skip
                  rw [show (kb.toList == cCommands) = false from c1, show (kb.toList == cMoreCommands) = false from c2, show (kb.toList == cFormula) = false from c3, show (kb.toList == cMoreFormula) = false from c4, show (kb.toList == cMoreTerm) = false from c5, show (kb.toList == cNotEnds) = true from c6] at hQ
                  have HQ : Hid (opn s.toList r (q + 1) = R) := hQ
                  clear hQ C3
                  go_wp2_with fail
                  go_roundg (mu r)
                  case measure => exact hpop.out
                  case rel => exact ⟨r, _, HS1.out, rfl, HQ.out, rfl, by omega, by have := HQ2.out; omega, hnx⟩
              · skip
                rw [show (kb.toList == cCommands) = false from c1, show (kb.toList == cMoreCommands) = false from c2, show (kb.toList == cFormula) = false from c3, show (kb.toList == cMoreFormula) = false from c4, show (kb.toList == cMoreTerm) = true from c5] at hQ
                cases d1 : (s.toList == [43])
                · cases d2 : (s.toList == [45])
                  · skip
                    rw [d1, d2] at hQ
                    have HQ : Hid (opn s.toList r q = R) := hQ
                    clear hQ C3
                    go_wp2_with fail
                    go_roundg (mu r)
                    case measure => exact hpop.out
                    case rel => exact ⟨r, _, HS1.out, rfl, HQ.out, rfl, by omega, by have := HQ2.out; omega, hnx⟩
                  · skip
                    rw [d1, d2] at hQ
                    have HQ : Hid ((s.toList :: cNumber :: r, q) = R) := hQ
                    clear hQ hpop
                    go_wp2_with ((go_at_call 99; refine (C3.out _ _).mono ?_; rintro e w1 ⟨v1, rfl, hs1, hb1⟩))
                    go_ret2
                    exact OpnEnd.mk (st := s.toList :: cNumber :: r) (n := q) HQ.out.symm (by rw [ByteArray.toList_eq]; exact hs1) (hnx.trans (hb1.mono hsz))
                · skip
                  rw [d1] at hQ
                  have HQ : Hid ((s.toList :: cNumber :: r, q) = R) := hQ
                  clear hQ hpop
                  go_wp2_with ((go_at_call 99; refine (C3.out _ _).mono ?_; rintro e w1 ⟨v1, rfl, hs1, hb1⟩))
                  go_ret2
                  exact OpnEnd.mk (st := s.toList :: cNumber :: r) (n := q) HQ.out.symm (by rw [ByteArray.toList_eq]; exact hs1) (hnx.trans (hb1.mono hsz))
            · skip
              rw [show (kb.toList == cCommands) = false from c1, show (kb.toList == cMoreCommands) = false from c2, show (kb.toList == cFormula) = false from c3, show (kb.toList == cMoreFormula) = true from c4] at hQ
              cases d1 : (s.toList == [111, 114])
              · cases d2 : (s.toList == [97, 110, 100])
                · skip
                  rw [d1, d2] at hQ
                  have HQ : Hid (opn s.toList r q = R) := hQ
                  clear hQ C3
                  go_wp2_with fail
                  go_roundg (mu r)
                  case measure => exact hpop.out
                  case rel => exact ⟨r, _, HS1.out, rfl, HQ.out, rfl, by omega, by have := HQ2.out; omega, hnx⟩
                · skip
                  rw [d1, d2] at hQ
                  have HQ : Hid ((s.toList :: cFormula :: r, q) = R) := hQ
                  clear hQ hpop
                  go_wp2_with ((go_at_call 99; refine (C3.out _ _).mono ?_; rintro e w1 ⟨v1, rfl, hs1, hb1⟩))
                  go_ret2
                  exact OpnEnd.mk (st := s.toList :: cFormula :: r) (n := q) HQ.out.symm (by rw [ByteArray.toList_eq]; exact hs1) (hnx.trans (hb1.mono hsz))
              · skip
                rw [d1] at hQ
                have HQ : Hid ((s.toList :: cFormula :: r, q) = R) := hQ
                clear hQ hpop
                go_wp2_with ((go_at_call 99; refine (C3.out _ _).mono ?_; rintro e w1 ⟨v1, rfl, hs1, hb1⟩))
                go_ret2
                exact OpnEnd.mk (st := s.toList :: cFormula :: r) (n := q) HQ.out.symm (by rw [ByteArray.toList_eq]; exact hs1) (hnx.trans (hb1.mono hsz))
          · skip
            rw [show (kb.toList == cCommands) = false from c1, show (kb.toList == cMoreCommands) = false from c2, show (kb.toList == cFormula) = true from c3] at hQ
            have HQ : Hid ((cFactor :: cMoreFormula :: r, q) = R) := hQ
            have hw3 : Hid (wgt kb.toList = 3) := by show wgt kb.toList = 3; rw [beq_iff_eq.1 c3]; rfl
            clear hQ hpop
            go_wp2_with ((go_at_call 99; refine (C3.out _ _).mono ?_; rintro e w1 ⟨v1, rfl, hs1, hb1⟩))
            go_roundg (mu (cFactor :: cMoreFormula :: r))
            case measure => have := G2.out; have h3 := hw3.out; rw [mu_cons, mu_cons]; have e1 : wgt cFactor = 1 := rfl; have e2 : wgt cMoreFormula = 1 := rfl; omega
            case rel => exact ⟨cFactor :: cMoreFormula :: r, q, hs1, rfl, by rw [opn_factor]; exact HQ.out, rfl, hq0, by have h1 := HQ1.out; have h3 := hw3.out; rw [mu_cons, mu_cons]; have e1 : wgt cCommand = 1 := rfl; have e2 : wgt cMoreCommands = 1 := rfl; have e3 : wgt cFactor = 1 := rfl; have e4 : wgt cMoreFormula = 1 := rfl; omega, hnx.trans (hb1.mono hsz)⟩
        · skip
          rw [show (kb.toList == cCommands) = false from c1, show (kb.toList == cMoreCommands) = true from c2] at hQ
          cases d1 : (s.toList == [59])
          · skip
            rw [d1] at hQ
            have HQ : Hid (opn s.toList r q = R) := hQ
            clear hQ C3
            go_wp2_with fail
            go_roundg (mu r)
            case measure => exact hpop.out
            case rel => exact ⟨r, _, HS1.out, rfl, HQ.out, rfl, by omega, by have := HQ2.out; omega, hnx⟩
          · skip
            rw [d1] at hQ
            have HQ : Hid (([59] :: cCommands :: r, q) = R) := hQ
            clear hQ hpop
            go_wp2_with ((go_at_call 99; refine (C3.out _ _).mono ?_; rintro e w1 ⟨v1, rfl, hs1, hb1⟩))
            go_ret2
            exact OpnEnd.mk (st := [59] :: cCommands :: r) (n := q) HQ.out.symm hs1 (hnx.trans (hb1.mono hsz))
      · skip
        rw [show (kb.toList == cCommands) = true from c1] at hQ
        have HQ : Hid ((cCommand :: cMoreCommands :: r, q) = R) := hQ
        have hw3 : Hid (wgt kb.toList = 3) := by show wgt kb.toList = 3; rw [beq_iff_eq.1 c1]; rfl
        clear hQ hpop
        go_wp2_with ((go_at_call 99; refine (C3.out _ _).mono ?_; rintro e w1 ⟨v1, rfl, hs1, hb1⟩))
        go_roundg (mu (cCommand :: cMoreCommands :: r))
        case measure => have := G2.out; have h3 := hw3.out; rw [mu_cons, mu_cons]; have e1 : wgt cCommand = 1 := rfl; have e2 : wgt cMoreCommands = 1 := rfl; omega
        case rel => exact ⟨cCommand :: cMoreCommands :: r, q, hs1, rfl, by rw [opn_command]; exact HQ.out, rfl, hq0, by have h1 := HQ1.out; have h3 := hw3.out; rw [mu_cons, mu_cons]; have e1 : wgt cCommand = 1 := rfl; have e2 : wgt cMoreCommands = 1 := rfl; have e3 : wgt cFactor = 1 := rfl; have e4 : wgt cMoreFormula = 1 := rfl; omega, hnx.trans (hb1.mono hsz)⟩

end Go.Proofs.YtkinoehmcfhgbaaGreatDoor.Av
set_option linter.unusedVariables false
set_option linter.unusedSimpArgs false
namespace Go.Proofs.YtkinoehmcfhgbaaGreatDoor.Av
open Go.RowKit

/-- The document's tokens as they lie in memory. -/
def Tk2 (w : World) (v : Value) (l : List (List UInt8 × Nat)) : Prop :=
  (v = .slice none 0 0 ∧ l = []) ∨ ∃ g cap, v = .slice (some ⟨g, 0, none⟩) l.length cap ∧ l.length ≤ cap ∧ cap ≤ maxLen ∧ g < w.heap.size ∧ ∀ (j : Nat) (t : List UInt8) (i : Nat), l[j]? = some (t, i) → w.cell? ⟨g, j * 2, none⟩ = some (str t) ∧ w.cell? ⟨g, j * 2 + 1, none⟩ = some (.int .i64 (i : Int))
theorem Tk2.below {w w' : World} {v : Value} {l : List (List UInt8 × Nat)} (h : Tk2 w v l) (hb : Below w.heap.size w w') : Tk2 w' v l := by
  rcases h with h | ⟨b, cap, h1, h2, h3, h4, h5⟩
  · exact Or.inl h
  · exact Or.inr ⟨b, cap, h1, h2, h3, Nat.lt_of_lt_of_le h4 hb.size, fun j t i ht => ⟨(hb.cell (p := ⟨b, j * 2, none⟩) h4).trans (h5 j t i ht).1, (hb.cell (p := ⟨b, j * 2 + 1, none⟩) h4).trans (h5 j t i ht).2⟩⟩
theorem cells2_len (l : List (List UInt8 × Nat)) : (cells2 l).length = l.length * 2 := by
  induction l with
  | nil => rfl
  | cons a r ih => simp only [cells2, List.flatMap_cons, List.length_append, List.length_cons] at ih ⊢; rw [ih]; simp [cell2]; omega
theorem cells2_get (l : List (List UInt8 × Nat)) : ∀ (j : Nat) (t : List UInt8) (i : Nat), l[j]? = some (t, i) → (cells2 l)[j * 2]? = some (str t) ∧ (cells2 l)[j * 2 + 1]? = some (.int .i64 (i : Int)) := by
  induction l with
  | nil => intro j t i h; simp at h
  | cons a r ih =>
    intro j t i h
    cases j with
    | zero => simp at h; subst h; simp [cells2, cell2, str]
    | succ j =>
      simp at h
      have := ih j t i h
      have e1 : (j + 1) * 2 = j * 2 + 1 + 1 := by omega
      rw [e1]
      simpa [cells2, cell2] using this
theorem own_tk2 {w : World} {base : Nat} {v : Value} {l : List (List UInt8 × Nat)} (h : w.ownsRow base 206 2 v l.length (cells2 l)) : Tk2 w v l := by
  rcases h.2 with ⟨h1, h2⟩ | ⟨g, cap, cur, hv, hg, hh, h3, h4, h5, h6⟩
  · exact Or.inl ⟨h1, by cases l <;> simp_all⟩
  · have hlt : g < w.heap.size := by
      rcases Nat.lt_or_ge g w.heap.size with h | h
      · exact h
      · rw [Array.getElem?_eq_none h] at hh; cases hh
    refine Or.inr ⟨g, cap, hv, h3, h4, hlt, fun j t i ht => ?_⟩
    have hj : j < l.length := by
      rcases Nat.lt_or_ge j l.length with h | h
      · exact h
      · rw [List.getElem?_eq_none h] at ht; cases ht
    have key : ∀ (o : Nat) (u : Value), o < l.length * 2 → (cells2 l)[o]? = some u → w.cell? ⟨g, o, none⟩ = some u := by
      intro o u ho hu
      have : (cur.toList.take (l.length * 2))[o]? = some u := by rw [h6]; exact hu
      rw [List.getElem?_take, if_pos ho] at this
      simp [World.cell?, hh]
      simpa using this
    exact ⟨key _ _ (by omega) (cells2_get l j t i ht).1, key _ _ (by omega) (cells2_get l j t i ht).2⟩

theorem runM_cons (len : Nat) (t : List UInt8) (i : Nat) (ts : List (List UInt8 × Nat)) (st : List (List UInt8)) (d : Int) : runM len ((t, i) :: ts) st d = match stepM t i st d with
    | .inl e => e
    | .inr (st', d') => runM len ts st' d' := rfl

theorem deep_cases (x : List UInt8) : (deeper x = true ∧ ((x == [40]) = true ∨ ((x == [40]) = false ∧ (x == [110, 111, 116]) = true) ∨ ((x == [40]) = false ∧ (x == [110, 111, 116]) = false ∧ (x == [105, 102]) = true) ∨ ((x == [40]) = false ∧ (x == [110, 111, 116]) = false ∧ (x == [105, 102]) = false ∧ (x == [119, 104, 105, 108, 101]) = true))) ∨
    (deeper x = false ∧ (x == [40]) = false ∧ (x == [110, 111, 116]) = false ∧ (x == [105, 102]) = false ∧ (x == [119, 104, 105, 108, 101]) = false ∧ ((shut x = true ∧ ((x == [41]) = true ∨ ((x == [41]) = false ∧ (x == [101, 110, 100]) = true))) ∨ (shut x = false ∧ (x == [41]) = false ∧ (x == [101, 110, 100]) = false))) := by
  unfold deeper shut
  cases (x == [40]) <;> cases (x == [110, 111, 116]) <;> cases (x == [105, 102]) <;> cases (x == [119, 104, 105, 108, 101]) <;> cases (x == [41]) <;> cases (x == [101, 110, 100]) <;> simp

theorem runM_step (len : Nat) (t : List UInt8) (i : Nat) (ts : List (List UInt8 × Nat)) (st : List (List UInt8)) (d : Int) : runM len ((t, i) :: ts) st d = match opn t st 0 with
    | ([], _) => (2, (i : Int))
    | (k :: r, n) => if (sts k t r).2 = false then (2, (i : Int)) else if deeper t then (if 10 < d - n + 1 then (3, (i : Int)) else runM len ts (sts k t r).1 (d - n + 1)) else if shut t then runM len ts (sts k t r).1 (d - n - 1) else runM len ts (sts k t r).1 (d - n) := by
  rw [runM_cons]; unfold stepM
  match opn t st 0 with
  | ([], _) => rfl
  | (k :: r, n) =>
    simp only
    by_cases h1 : (sts k t r).2 = false
    · rw [if_pos h1, if_pos h1]
    · rw [if_neg h1, if_neg h1]
      by_cases h2 : deeper t = true
      · rw [if_pos h2, if_pos h2]
        by_cases h3 : 10 < d - n + 1
        · rw [if_pos h3, if_pos h3]
        · rw [if_neg h3, if_neg h3]
      · rw [if_neg h2, if_neg h2]
        by_cases h3 : shut t = true
        · rw [if_pos h3, if_pos h3]
        · rw [if_neg h3, if_neg h3]

def st0 : List (List UInt8) := [[102, 114, 111, 109], cFormula, [100, 111], cCommands, [116, 111], cFormula]

set_option maxRecDepth 100000 in
set_option maxHeartbeats 4000000 in
theorem looked_some (s : ByteArray) (g cap : Nat) (l : List (List UInt8 × Nat)) (w : World) (h : Tk2 w (.slice (some ⟨g, 0, none⟩) l.length cap) l) (hs : s.size ≤ 300) (hl : l.length ≤ 300) (hsz : ∀ t i, (t, i) ∈ l → t.length ≤ 300) :
    Calls Tryz.prog 63 #[.string s, .slice (some ⟨g, 0, none⟩) l.length cap] w fun e w' => e = .returned (.tuple #[.int .i64 (runM s.size l st0 0).1, .int .i64 (runM s.size l st0 0).2]) ∧ Below w.heap.size w w' := by
  generalize hR : runM s.size l st0 0 = R
  have HR : Hid (runM s.size l st0 0 = R) := hR
  have HT : Hid (Tk2 w (.slice (some ⟨g, 0, none⟩) l.length cap) l) := h
  clear hR h
  have C0 : Hid (∀ a b c d e f, Calls Tryz.prog 99 #[.slice none 0 0, .slice (some ⟨w.heap.size, 0, none⟩) 6 6] (w.alloc (.cells #[.string a, .string b, .string c, .string d, .string e, .string f] 9)) fun e' w' => ∃ v', e' = .returned v' ∧ Stk w' v' (a.data.toList :: b.data.toList :: c.data.toList :: d.data.toList :: e.data.toList :: f.data.toList :: []) ∧ Below w.heap.size w w') := fun a b c d e f => push6 _ [] w a b c d e f (Or.inl ⟨rfl, rfl⟩) (by simp)
  go_enter Tryz.func63, Tryz.ntmps63
  go_wp2_with (go_at_call 99; refine (C0.out _ _ _ _ _ _).mono ?_; rintro e w1 ⟨v1, rfl, hs1, hb1⟩)
  go_loopw [6, 7, 8, 9, 10, 11, 12, 13] (fun v dv iv _ _ _ _ _ wr => ∃ (k : Nat) (st : List (List UInt8)) (d : Int), k ≤ l.length ∧ Stk wr v st ∧ dv = .int .i64 d ∧ iv = .int .i64 (k : Int) ∧ runM s.size (l.drop k) st d = R ∧ st.length ≤ 6 + 7 * k ∧ Ne st ∧ -(3000 * (k : Int)) ≤ d ∧ d ≤ k ∧ Below w.heap.size w wr) (fun _ _ iv _ _ _ _ _ _ => l.length - (intOf iv).toNat)
  case atStart => exact ⟨0, st0, 0, Nat.zero_le _, hs1, rfl, rfl, HR.out, by decide, by unfold Ne; decide, by omega, by omega, hb1⟩
  case round =>
    obtain ⟨k, st, d, hk, hst, rfl, rfl, hq, hsl, hne, hd1, hd2, hnx⟩ := hrel
    have Q : Hid (runM s.size (l.drop k) st d = R) := hq
    clear hq
    by_cases hlt : k < l.length
    · obtain ⟨⟨t, i⟩, hti⟩ : ∃ x, l[k]? = some x := ⟨_, List.getElem?_eq_getElem hlt⟩
      have htk : Tk2 wr (.slice (some ⟨g, 0, none⟩) l.length cap) l := by
        rcases HT.out with h | ⟨b, c, h1, h2, h3, h4, h5⟩
        · exact Or.inl h
        · exact Or.inr ⟨b, c, h1, h2, h3, Nat.lt_of_lt_of_le h4 hnx.size, fun j t i ht => ⟨(hnx.cell (p := ⟨b, j * 2, none⟩) h4).trans (h5 j t i ht).1, (hnx.cell (p := ⟨b, j * 2 + 1, none⟩) h4).trans (h5 j t i ht).2⟩⟩
      obtain ⟨hcap, hgs, hc⟩ : l.length ≤ cap ∧ g < wr.heap.size ∧ (∀ (j : Nat) (t : List UInt8) (i : Nat), l[j]? = some (t, i) → wr.cell? ⟨g, j * 2, none⟩ = some (str t) ∧ wr.cell? ⟨g, j * 2 + 1, none⟩ = some (.int .i64 (i : Int))) := by
        rcases htk with ⟨h, _⟩ | ⟨b, c, h1, h2, h3, h4, h5⟩
        · cases h
        · cases h1; exact ⟨h2, h4, h5⟩
      obtain ⟨hc1, hc2⟩ := hc k t i hti
      have hmem : (t, i) ∈ l := List.mem_of_getElem? hti
      have htsz := hsz t i hmem
      obtain ⟨tb, htb, htl⟩ := str_box t
      rw [htb] at hc1
      have hQ := Q.out
      have hdrop : l.drop k = (t, i) :: l.drop (k + 1) := by
        rw [List.drop_eq_getElem_cons hlt]; rw [List.getElem?_eq_getElem hlt] at hti; rw [Option.some.inj hti]
      rw [hdrop, runM_step] at hQ
      have htbs : tb.size ≤ 300 := by
        have : tb.data.toList.length = tb.size := by simp
        rw [← ByteArray.toList_eq, htl] at this; omega
      rw [ByteArray.toList_eq] at htl
      have C1 : Hid (Calls Tryz.prog 100 #[u6, .string tb] wr fun e w' => OpnEnd wr (opn tb.data.toList st 0) e w') := opens_any tb _ st wr hst (by omega)
      have C2 : Hid (∀ (kb : ByteArray) (v : Value) (st : List (List UInt8)) (w : World), 0 < kb.size → Stk w v st → st.length ≤ 70000 → Calls Tryz.prog 101 #[.string kb, .string tb, v] w fun e w' => StsEnd w (sts kb.data.toList tb.data.toList st) e w') := fun kb v st w h1 h2 h3 => starts_any kb tb v st w h1 h2 htbs h3
      rw [← htl] at hQ
      have hol := opn_len tb.data.toList st 0
      have hoe := opn_end tb.data.toList st 0
      have hone := opn_ne tb.data.toList st 0 hne
      generalize ho : opn tb.data.toList st 0 = O at *
      clear ho htk hc hmem hti hdrop Q
      obtain ⟨O1, n⟩ := O
      simp only at hol hoe hone
      cases O1 with
      | nil =>
        simp only at hQ
        have HQ : Hid ((2, (i : Int)) = R) := hQ
        clear hQ
        go_wp2_with fail
        refine (C1.out).mono ?_
        rintro e w2 ⟨v2, rfl, hs2, hb2⟩
        have hcc := (hb2.cell (p := ⟨g, k * 2 + 1, none⟩) hgs).trans hc2
        simp only at hs2
        have hnx2 := hnx.trans (hb2.mono hnx.size)
        rcases hs2.bottom with rfl | ⟨b2, cap2, rfl⟩
        all_goals
          go_wp2_with fail
          go_quiet (fail)
          go_wp2_with fail
          go_ret2
          refine ⟨?_, below_drewN hnx2 _⟩
          rw [← HQ.out]; rfl
      | cons kk rr =>
        simp only at hQ
        have hkk := hone.head
        have hrn := sts_ne kk tb.data.toList rr hone.tail
        have hrl := sts_len kk tb.data.toList rr
        obtain ⟨kb, hkb, hkl⟩ := str_box kk
        rw [ByteArray.toList_eq] at hkl
        have hkb0 : 0 < kb.size := by
          have : kb.data.toList.length = kb.size := by simp
          rw [hkl] at this
          rcases Nat.eq_zero_or_pos kb.size with h | h
          · rw [h] at this; exact absurd (List.length_eq_zero_iff.1 this) hkk
          · exact h
        have hrr : rr.length ≤ 70000 := by simp only [List.length_cons] at hol; omega
        have C3 : Hid (∀ (v : Value) (w : World), Stk w v rr → Calls Tryz.prog 101 #[.string kb, .string tb, v] w fun e w' => StsEnd w (sts kk tb.data.toList rr) e w') := fun v w h => by rw [← hkl]; exact C2.out kb v rr w hkb0 h hrr
        clear C2
        go_wp2_with fail
        refine (C1.out).mono ?_
        rintro e w2 ⟨v2, rfl, hs2, hb2⟩
        have hcc := (hb2.cell (p := ⟨g, k * 2 + 1, none⟩) hgs).trans hc2
        have hnx2 := hnx.trans (hb2.mono hnx.size)
        have hgs2 := Nat.lt_of_lt_of_le hgs hb2.size
        simp only at hs2
        obtain ⟨b2, cap2, rfl, hcp, hcm, hb2l, hcell2, hrest2⟩ := hs2.top
        rw [hkb] at hcell2
        unfold maxLen at hcm
        have C4 : Hid (Calls Tryz.prog 101 #[.string kb, .string tb, .slice (some ⟨b2, 0, none⟩) rr.length cap2] w2.drew fun e w' => StsEnd w2.drew (sts kk tb.data.toList rr) e w') := C3.out _ _ (hrest2.below (Below.refl _ _).drew)
        clear C1 C3 hs2 hrest2 hb2 hc1 hc2 hst hkb
        generalize sts kk tb.data.toList rr = S at *
        generalize hmm : rr.length = m at *
        have HM : Hid (rr.length = m) := hmm
        clear hmm
        have hwr : IntKind.i64.wrap (m : Int) = (m : Int) := IntWalk.i64_in _ (by omega)
        have hi1 : (m : Int) < (m : Int) + 1 := by omega
        have hi2 : m ≤ cap2 := by omega
        have hi3 : ((m : Int) + 1 == 0) = false := by rw [beq_eq_false_iff_ne]; omega
        go_wp2_with fail
        go_region_held3 (fun w' => w'.cell? ⟨b2, m, none⟩ = some (.string kb)) (simp [*]) (first | (go_at_call 101; refine C4.out.mono ?_; rintro e w3 ⟨v3, rfl, hs3, hb3⟩; have hk3 : w3.cell? ⟨b2, m, none⟩ = some (.string kb) := (hb3.cell (p := ⟨b2, m, none⟩) hb2l).trans hcell2))
        obtain ⟨S1, S2⟩ := S
        simp only at hs3 hQ hrn hrl
        have hc3 : w3.cell? ⟨g, k * 2 + 1, none⟩ = some (.int .i64 (i : Int)) := (hb3.cell (p := ⟨g, k * 2 + 1, none⟩) hgs2).trans hcc
        have hnx3 : Below w.heap.size w w3 := (hnx2.drew).trans (hb3.mono hnx2.size)
        clear C4 hcc hb3 hnx2 hcell2 hk3 hwr
        cases S2
        · have HQ : Hid ((2, (i : Int)) = R) := hQ
          clear hQ
          go_wp2_with fail
          go_quiet (fail)
          go_wp2_with fail
          go_ret2
          refine ⟨?_, below_drewN hnx3 _⟩
          rw [← HQ.out]; rfl
        · have HQ : Hid ((if deeper tb.toList then (if 10 < d - n + 1 then (3, (i : Int)) else runM s.size (l.drop (k + 1)) S1 (d - n + 1)) else if shut tb.toList then runM s.size (l.drop (k + 1)) S1 (d - n - 1) else runM s.size (l.drop (k + 1)) S1 (d - n)) = R) := by rw [ByteArray.toList_eq]; exact hQ
          clear hQ
          have hm' := HM.out
          have hsl' : S1.length ≤ 6 + 7 * (k + 1) := by simp only [List.length_cons] at hol; omega
          have hn1 : 0 ≤ n := by omega
          have hn2 : n ≤ 3000 := by omega
          clear hm'
          rcases deep_cases tb.toList with ⟨hdp, hcs⟩ | ⟨hdp, f1, f2, f3, f4, ⟨hsh, hcs⟩ | ⟨hsh, f5, f6⟩⟩
          · by_cases hten : 10 < d - n + 1
            · have HQ2 : Hid ((3, (i : Int)) = R) := by
                show _ = R
                rw [← HQ.out, if_pos hdp, if_pos hten]
              clear HQ hdp
              rcases hcs with f1 | ⟨f1, f2⟩ | ⟨f1, f2, f3⟩ | ⟨f1, f2, f3, f4⟩
              all_goals
                go_wp2_with fail
                go_quiet (fail)
                go_wp2_with fail
                go_ret2
                refine ⟨?_, below_drewN hnx3 _⟩
                rw [← HQ2.out]; rfl
            · have HQ2 : Hid (runM s.size (l.drop (k + 1)) S1 (d - n + 1) = R) := by
                show _ = R
                rw [← HQ.out, if_pos hdp, if_neg hten]
              clear HQ hdp
              rcases hcs with f1 | ⟨f1, f2⟩ | ⟨f1, f2, f3⟩ | ⟨f1, f2, f3, f4⟩
              all_goals
                go_wp2_with fail
                go_roundw
                case rel => exact ⟨k + 1, S1, _, by omega, hs3, rfl, by go_num, HQ2.out, hsl', hrn, by omega, by omega, hnx3⟩
                case measure => simp [intOf]; omega
          · have HQ2 : Hid (runM s.size (l.drop (k + 1)) S1 (d - n - 1) = R) := by
              show _ = R
              rw [← HQ.out, hdp, hsh]; rfl
            clear HQ hdp hsh
            rcases hcs with f5 | ⟨f5, f6⟩
            all_goals
              go_wp2_with fail
              go_roundw
              case rel => exact ⟨k + 1, S1, _, by omega, hs3, rfl, by go_num, HQ2.out, hsl', hrn, by omega, by omega, hnx3⟩
              case measure => simp [intOf]; omega
          · have HQ2 : Hid (runM s.size (l.drop (k + 1)) S1 (d - n) = R) := by
              show _ = R
              rw [← HQ.out, hdp, hsh]; rfl
            clear HQ hdp hsh
            go_wp2_with fail
            go_roundw
            case rel => exact ⟨k + 1, S1, _, by omega, hs3, rfl, by go_num, HQ2.out, hsl', hrn, by omega, by omega, hnx3⟩
            case measure => simp [intOf]; omega
    · have C1 : Hid (∀ b : ByteArray, Calls Tryz.prog 100 #[u6, .string b] wr fun e w' => OpnEnd wr (opn b.data.toList st 0) e w') := fun b => opens_any b _ st wr hst (by omega)
      have hd : l.drop k = [] := List.drop_eq_nil_of_le (by omega)
      have HQ : Hid ((if (opn [] st 0).1.isEmpty then (0, 0) else (2, (s.size : Int))) = R) := by
        show _ = R
        rw [← Q.out, hd]; rfl
      clear Q hd
      go_wp2_with fail
      refine (C1.out _).mono ?_
      rintro e w2 ⟨v2, rfl, hs2, hb2⟩
      have hs3 : Stk w2 v2 (opn [] st 0).1 := hs2
      clear hs2
      have hnx2 := hnx.trans (hb2.mono hnx.size)
      have HN : Hid (∃ n, n = (opn (ByteArray.mk #[]).data.toList st 0).2) := ⟨_, rfl⟩
      generalize (opn (ByteArray.mk #[]).data.toList st 0).2 = n at *
      generalize ho : (opn [] st 0).1 = O at *
      cases O with
      | nil =>
        rcases hs3.bottom with rfl | ⟨b2, cap2, rfl⟩
        all_goals
          go_wp2_with fail
          go_ret2
          exact ⟨by rw [← HQ.out]; rfl, hnx2⟩
      | cons kk rr =>
        obtain ⟨b2, cap2, rfl, hcp, hcm, _, _, _⟩ := hs3.top
        unfold maxLen at hcm
        go_wp2_with fail
        go_ret2
        exact ⟨by rw [← HQ.out]; rfl, hnx2⟩

end Go.Proofs.YtkinoehmcfhgbaaGreatDoor.Av
