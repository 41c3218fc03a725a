/-
  The walk of the document's own opens: the kinds on top of what is wanted, taken apart for a token.
-/
import Derived.Test.YtkinoehmcfhgbaaSts
import Derived.Deep.LoopGhost
set_option linter.unusedVariables false
set_option linter.unusedSimpArgs false
namespace Go.Proofs.Ytkinoehmcfhgbaa.Av
open Go.RowKit

def wgt (k : List UInt8) : Nat := if k == cCommands || k == cFormula then 3 else 1
def mu (st : List (List UInt8)) : Nat := (st.map wgt).sum
theorem mu_cons (k : List UInt8) (r : List (List UInt8)) : mu (k :: r) = wgt k + mu r := by simp [mu]
theorem wgt_pos (k : List UInt8) : 1 ≤ wgt k := by unfold wgt; split <;> omega
theorem mu_pop (k : List UInt8) (r : List (List UInt8)) : mu r < mu (k :: r) := by rw [mu_cons]; have := wgt_pos k; omega

theorem mu_le (st : List (List UInt8)) : st.length ≤ mu st ∧ mu st ≤ 3 * st.length := by
  induction st with
  | nil => simp [mu]
  | cons k r ih =>
    rw [mu_cons]
    have h1 := wgt_pos k
    have h2 : wgt k ≤ 3 := by unfold wgt; split <;> omega
    simp only [List.length_cons]; omega
theorem Stk.top {w : World} {v : Value} {k : List UInt8} {r : List (List UInt8)} (h : Stk w v (k :: r)) : ∃ b cap, v = .slice (some ⟨b, 0, none⟩) (r.length + 1) cap ∧ r.length + 1 ≤ cap ∧ cap ≤ maxLen ∧ b < w.heap.size ∧ w.cell? ⟨b, r.length, none⟩ = some (str k) ∧ Stk w (.slice (some ⟨b, 0, none⟩) r.length cap) r := by
  have h' := h
  unfold Stk at h'
  rcases h' with ⟨_, h2⟩ | ⟨b, cap, h1, h2, h3, h4, h5⟩
  · simp at h2
  · have e : (k :: r).reverse.length = r.length + 1 := by simp
    rw [e] at h1 h2
    refine ⟨b, cap, h1, h2, h3, h4, h5 _ _ (by simp), ?_⟩
    unfold Stk at h ⊢
    subst h1
    have := Strs.pop h r.length (by omega)
    simpa using this
theorem Stk.bottom {w : World} {v : Value} (h : Stk w v []) : v = .slice none 0 0 ∨ ∃ b cap, v = .slice (some ⟨b, 0, none⟩) 0 cap := by
  rcases h with ⟨h, _⟩ | ⟨b, cap, h1, _⟩
  · exact Or.inl h
  · exact Or.inr ⟨b, cap, h1⟩

theorem opn_cons (s k : List UInt8) (r : List (List UInt8)) (e : Int) : opn s (k :: r) e =
    if k == cCommands then (cCommand :: cMoreCommands :: r, e) else
    if k == cMoreCommands then (if s == [59] then ([59] :: cCommands :: r, e) else opn s r e) else
    if k == cFormula then (cFactor :: cMoreFormula :: r, e) else
    if k == cMoreFormula then (if s == [111, 114] || s == [97, 110, 100] then (s :: cFormula :: r, e) else opn s r e) else
    if k == cMoreTerm then (if s == [43] || s == [45] then (s :: cNumber :: r, e) else opn s r e) else
    if k == cNotEnds then opn s r (e + 1) else (k :: r, e) := by rw [opn]
theorem str_box (k : List UInt8) : ∃ kb : ByteArray, str k = .string kb ∧ kb.toList = k := ⟨⟨k.toArray⟩, rfl, by rw [ByteArray.toList_eq]⟩
theorem opn_command (s : List UInt8) (r : List (List UInt8)) (e : Int) : opn s (cCommand :: r) e = (cCommand :: r, e) := by rw [opn_cons]; rfl
theorem opn_factor (s : List UInt8) (r : List (List UInt8)) (e : Int) : opn s (cFactor :: r) e = (cFactor :: r, e) := by rw [opn_cons]; rfl

def OpnEnd (w : World) (r : List (List UInt8) × Int) (e : Ending) (w' : World) : Prop := ∃ v', e = .returned (.tuple #[v', .int .i64 r.2]) ∧ Stk w' v' r.1 ∧ Below w.heap.size w w'
theorem OpnEnd.mk {w w' : World} {r : List (List UInt8) × Int} {v' : Value} {n : Int} {st : List (List UInt8)} (hr : r = (st, n)) (h : Stk w' v' st) (hb : Below w.heap.size w w') : OpnEnd w r (.returned (.tuple #[v', .int .i64 n])) w' := by
  subst hr; exact ⟨v', rfl, h, hb⟩

set_option maxRecDepth 100000 in
set_option maxHeartbeats 4000000 in
theorem opens_any (s : ByteArray) (v : Value) (st : List (List UInt8)) (w : World) (h : Stk w v st) (hl : st.length ≤ 20000) :
    Calls Try.prog 44 #[v, .string s] w fun e w' => OpnEnd w (opn s.data.toList st 0) e w' := by
  rw [← ByteArray.toList_eq]
  generalize hR : opn s.toList st 0 = R
  have HR : Hid (opn s.toList st 0 = R) := hR
  have HS : Hid (Stk w v st) := h
  clear hR h
  go_enter Try.func44, Try.ntmps44
  go_wp2_with fail
  go_loopg [0, 6, 7, 8] (mu st) (fun g v n _ _ wr => ∃ (st2 : List (List UInt8)) (q : Int), Stk wr v st2 ∧ n = .int .i64 q ∧ opn s.toList st2 q = R ∧ g = mu st2 ∧ 0 ≤ q ∧ q + mu st2 ≤ 60000 ∧ Below w.heap.size w wr)
  case atStart => exact ⟨st, 0, HS.out, rfl, HR.out, rfl, by omega, by have := (mu_le st).2; omega, Below.refl _ _⟩
  case round =>
    obtain ⟨st2, q, hst, rfl, hq, hg, hq0, hq1, hnx⟩ := hrel
    have Q : Hid (opn s.toList st2 q = R) := hq
    have G : Hid (gk = mu st2) := hg
    clear hq hg
    cases st2 with
    | nil =>
      have HS2 : Hid (Stk wr _ []) := hst
      rcases hst.bottom with rfl | ⟨b, cap, rfl⟩
      all_goals
        clear hst
        go_wp2_with fail
        go_ret2
        exact OpnEnd.mk (st := []) (n := q) (by rw [← Q.out]; rfl) HS2.out hnx
    | cons k r =>
      obtain ⟨b, cap, rfl, hcap, hcm, hbl, hcell, hrest⟩ := hst.top
      obtain ⟨kb, hkb, hkl⟩ := str_box k
      rw [hkb] at hcell
      have hQ := Q.out
      rw [opn_cons] at hQ
      rw [← hkl] at hQ
      have hm : r.length ≤ 60000 := by rw [mu_cons] at hq1; have := (mu_le r).1; omega
      have HS2 : Hid (Stk wr (.slice (some ⟨b, 0, none⟩) (r.length + 1) cap) (kb.toList :: r)) := by rw [hkl]; exact hst
      have HS1 : Hid (Stk wr (.slice (some ⟨b, 0, none⟩) r.length cap) r) := hrest
      have C3 : Hid (∀ a b', Calls Try.prog 43 #[.slice (some ⟨b, 0, none⟩) r.length cap, .slice (some ⟨wr.heap.size, 0, none⟩) 2 2] (wr.alloc (.cells #[.string a, .string b'] 9)) fun e w' => ∃ v', e = .returned v' ∧ Stk w' v' (a.data.toList :: b'.data.toList :: r) ∧ Below wr.heap.size wr w') := fun a b' => push2 _ r wr a b' hrest (by omega)
      have hg := G.out
      rw [mu_cons, ← hkl] at hg
      have hwp := wgt_pos kb.toList
      have G2 : Hid (gk = wgt kb.toList + mu r) := hg
      have hpop : Hid (mu r < gk) := by show mu r < gk; omega
      have hq2 : q + 1 + mu r ≤ 60000 := by rw [mu_cons] at hq1; have := wgt_pos k; omega
      have HQ1 : Hid (q + (wgt kb.toList + mu r : Nat) ≤ 60000) := by rw [mu_cons, ← hkl] at hq1; exact hq1
      have hsz := hnx.size
      have hq3 : q ≤ 60000 := by omega
      have HQ2 : Hid (q + 1 + mu r ≤ 60000) := hq2
      clear hq2
      clear Q G hst hrest hkb hkl hg hq1 hwp k
      unfold maxLen at hcm
      generalize hmm : r.length = m at *
      have HM : Hid (r.length = m) := hmm
      clear hmm
      cases c1 : (kb.toList == [67, 79, 77, 77, 65, 78, 68, 83])
      · skip
        cases c2 : (kb.toList == [77, 79, 82, 69, 45, 67, 79, 77, 77, 65, 78, 68, 83])
        · skip
          cases c3 : (kb.toList == [70, 79, 82, 77, 85, 76, 65])
          · skip
            cases c4 : (kb.toList == [77, 79, 82, 69, 45, 70, 79, 82, 77, 85, 76, 65])
            · skip
              cases c5 : (kb.toList == [77, 79, 82, 69, 45, 84, 69, 82, 77])
              · skip
                cases c6 : (kb.toList == [78, 79, 84, 45, 69, 78, 68, 83])
                · skip
                  rw [show (kb.toList == cCommands) = false from c1, show (kb.toList == cMoreCommands) = false from c2, show (kb.toList == cFormula) = false from c3, show (kb.toList == cMoreFormula) = false from c4, show (kb.toList == cMoreTerm) = false from c5, show (kb.toList == cNotEnds) = false from c6] at hQ
                  have HQ : Hid ((kb.toList :: r, q) = R) := hQ
                  clear hQ C3 hpop G2 HS1
                  go_wp2_with fail
                  go_ret2
                  exact OpnEnd.mk (st := kb.toList :: r) (n := q) HQ.out.symm HS2.out hnx
                · skip
                  rw [show (kb.toList == cCommands) = false from c1, show (kb.toList == cMoreCommands) = false from c2, show (kb.toList == cFormula) = false from c3, show (kb.toList == cMoreFormula) = false from c4, show (kb.toList == cMoreTerm) = false from c5, show (kb.toList == cNotEnds) = true from c6] at hQ
                  have HQ : Hid (opn s.toList r (q + 1) = R) := hQ
                  clear hQ C3
                  go_wp2_with fail
                  go_roundg (mu r)
                  case measure => exact hpop.out
                  case rel => exact ⟨r, _, HS1.out, rfl, HQ.out, rfl, by omega, by have := HQ2.out; omega, hnx⟩
              · skip
                rw [show (kb.toList == cCommands) = false from c1, show (kb.toList == cMoreCommands) = false from c2, show (kb.toList == cFormula) = false from c3, show (kb.toList == cMoreFormula) = false from c4, show (kb.toList == cMoreTerm) = true from c5] at hQ
                cases d1 : (s.toList == [43])
                · cases d2 : (s.toList == [45])
                  · skip
                    rw [d1, d2] at hQ
                    have HQ : Hid (opn s.toList r q = R) := hQ
                    clear hQ C3
                    go_wp2_with fail
                    go_roundg (mu r)
                    case measure => exact hpop.out
                    case rel => exact ⟨r, _, HS1.out, rfl, HQ.out, rfl, by omega, by have := HQ2.out; omega, hnx⟩
                  · skip
                    rw [d1, d2] at hQ
                    have HQ : Hid ((s.toList :: cNumber :: r, q) = R) := hQ
                    clear hQ hpop
                    go_wp2_with ((go_at_call 43; refine (C3.out _ _).mono ?_; rintro e w1 ⟨v1, rfl, hs1, hb1⟩))
                    go_ret2
                    exact OpnEnd.mk (st := s.toList :: cNumber :: r) (n := q) HQ.out.symm (by rw [ByteArray.toList_eq]; exact hs1) (hnx.trans (hb1.mono hsz))
                · skip
                  rw [d1] at hQ
                  have HQ : Hid ((s.toList :: cNumber :: r, q) = R) := hQ
                  clear hQ hpop
                  go_wp2_with ((go_at_call 43; refine (C3.out _ _).mono ?_; rintro e w1 ⟨v1, rfl, hs1, hb1⟩))
                  go_ret2
                  exact OpnEnd.mk (st := s.toList :: cNumber :: r) (n := q) HQ.out.symm (by rw [ByteArray.toList_eq]; exact hs1) (hnx.trans (hb1.mono hsz))
            · skip
              rw [show (kb.toList == cCommands) = false from c1, show (kb.toList == cMoreCommands) = false from c2, show (kb.toList == cFormula) = false from c3, show (kb.toList == cMoreFormula) = true from c4] at hQ
              cases d1 : (s.toList == [111, 114])
              · cases d2 : (s.toList == [97, 110, 100])
                · skip
                  rw [d1, d2] at hQ
                  have HQ : Hid (opn s.toList r q = R) := hQ
                  clear hQ C3
                  go_wp2_with fail
                  go_roundg (mu r)
                  case measure => exact hpop.out
                  case rel => exact ⟨r, _, HS1.out, rfl, HQ.out, rfl, by omega, by have := HQ2.out; omega, hnx⟩
                · skip
                  rw [d1, d2] at hQ
                  have HQ : Hid ((s.toList :: cFormula :: r, q) = R) := hQ
                  clear hQ hpop
                  go_wp2_with ((go_at_call 43; refine (C3.out _ _).mono ?_; rintro e w1 ⟨v1, rfl, hs1, hb1⟩))
                  go_ret2
                  exact OpnEnd.mk (st := s.toList :: cFormula :: r) (n := q) HQ.out.symm (by rw [ByteArray.toList_eq]; exact hs1) (hnx.trans (hb1.mono hsz))
              · skip
                rw [d1] at hQ
                have HQ : Hid ((s.toList :: cFormula :: r, q) = R) := hQ
                clear hQ hpop
                go_wp2_with ((go_at_call 43; refine (C3.out _ _).mono ?_; rintro e w1 ⟨v1, rfl, hs1, hb1⟩))
                go_ret2
                exact OpnEnd.mk (st := s.toList :: cFormula :: r) (n := q) HQ.out.symm (by rw [ByteArray.toList_eq]; exact hs1) (hnx.trans (hb1.mono hsz))
          · skip
            rw [show (kb.toList == cCommands) = false from c1, show (kb.toList == cMoreCommands) = false from c2, show (kb.toList == cFormula) = true from c3] at hQ
            have HQ : Hid ((cFactor :: cMoreFormula :: r, q) = R) := hQ
            have hw3 : Hid (wgt kb.toList = 3) := by show wgt kb.toList = 3; rw [beq_iff_eq.1 c3]; rfl
            clear hQ hpop
            go_wp2_with ((go_at_call 43; refine (C3.out _ _).mono ?_; rintro e w1 ⟨v1, rfl, hs1, hb1⟩))
            go_roundg (mu (cFactor :: cMoreFormula :: r))
            case measure => have := G2.out; have h3 := hw3.out; rw [mu_cons, mu_cons]; have e1 : wgt cFactor = 1 := rfl; have e2 : wgt cMoreFormula = 1 := rfl; omega
            case rel => exact ⟨cFactor :: cMoreFormula :: r, q, hs1, rfl, by rw [opn_factor]; exact HQ.out, rfl, hq0, by have h1 := HQ1.out; have h3 := hw3.out; rw [mu_cons, mu_cons]; have e1 : wgt cCommand = 1 := rfl; have e2 : wgt cMoreCommands = 1 := rfl; have e3 : wgt cFactor = 1 := rfl; have e4 : wgt cMoreFormula = 1 := rfl; omega, hnx.trans (hb1.mono hsz)⟩
        · skip
          rw [show (kb.toList == cCommands) = false from c1, show (kb.toList == cMoreCommands) = true from c2] at hQ
          cases d1 : (s.toList == [59])
          · skip
            rw [d1] at hQ
            have HQ : Hid (opn s.toList r q = R) := hQ
            clear hQ C3
            go_wp2_with fail
            go_roundg (mu r)
            case measure => exact hpop.out
            case rel => exact ⟨r, _, HS1.out, rfl, HQ.out, rfl, by omega, by have := HQ2.out; omega, hnx⟩
          · skip
            rw [d1] at hQ
            have HQ : Hid (([59] :: cCommands :: r, q) = R) := hQ
            clear hQ hpop
            go_wp2_with ((go_at_call 43; refine (C3.out _ _).mono ?_; rintro e w1 ⟨v1, rfl, hs1, hb1⟩))
            go_ret2
            exact OpnEnd.mk (st := [59] :: cCommands :: r) (n := q) HQ.out.symm hs1 (hnx.trans (hb1.mono hsz))
      · skip
        rw [show (kb.toList == cCommands) = true from c1] at hQ
        have HQ : Hid ((cCommand :: cMoreCommands :: r, q) = R) := hQ
        have hw3 : Hid (wgt kb.toList = 3) := by show wgt kb.toList = 3; rw [beq_iff_eq.1 c1]; rfl
        clear hQ hpop
        go_wp2_with ((go_at_call 43; refine (C3.out _ _).mono ?_; rintro e w1 ⟨v1, rfl, hs1, hb1⟩))
        go_roundg (mu (cCommand :: cMoreCommands :: r))
        case measure => have := G2.out; have h3 := hw3.out; rw [mu_cons, mu_cons]; have e1 : wgt cCommand = 1 := rfl; have e2 : wgt cMoreCommands = 1 := rfl; omega
        case rel => exact ⟨cCommand :: cMoreCommands :: r, q, hs1, rfl, by rw [opn_command]; exact HQ.out, rfl, hq0, by have h1 := HQ1.out; have h3 := hw3.out; rw [mu_cons, mu_cons]; have e1 : wgt cCommand = 1 := rfl; have e2 : wgt cMoreCommands = 1 := rfl; have e3 : wgt cFactor = 1 := rfl; have e4 : wgt cMoreFormula = 1 := rfl; omega, hnx.trans (hb1.mono hsz)⟩

end Go.Proofs.Ytkinoehmcfhgbaa.Av
