/-
  The walks of the document's own looked and Read: what Check is to answer.
-/
import Derived.Test.YtkinoehmcfhgbaaOpn
import Derived.Deep.RegionHeld3
set_option linter.unusedVariables false
set_option linter.unusedSimpArgs false
namespace Go.Proofs.Ytkinoehmcfhgbaa.Av
open Go.RowKit

/-- The document's tokens as they lie in memory. -/
def Tk2 (w : World) (v : Value) (l : List (List UInt8 × Nat)) : Prop :=
  (v = .slice none 0 0 ∧ l = []) ∨ ∃ g cap, v = .slice (some ⟨g, 0, none⟩) l.length cap ∧ l.length ≤ cap ∧ cap ≤ maxLen ∧ g < w.heap.size ∧ ∀ (j : Nat) (t : List UInt8) (i : Nat), l[j]? = some (t, i) → w.cell? ⟨g, j * 2, none⟩ = some (str t) ∧ w.cell? ⟨g, j * 2 + 1, none⟩ = some (.int .i64 (i : Int))
theorem Tk2.below {w w' : World} {v : Value} {l : List (List UInt8 × Nat)} (h : Tk2 w v l) (hb : Below w.heap.size w w') : Tk2 w' v l := by
  rcases h with h | ⟨b, cap, h1, h2, h3, h4, h5⟩
  · exact Or.inl h
  · exact Or.inr ⟨b, cap, h1, h2, h3, Nat.lt_of_lt_of_le h4 hb.size, fun j t i ht => ⟨(hb.cell (p := ⟨b, j * 2, none⟩) h4).trans (h5 j t i ht).1, (hb.cell (p := ⟨b, j * 2 + 1, none⟩) h4).trans (h5 j t i ht).2⟩⟩
theorem cells2_len (l : List (List UInt8 × Nat)) : (cells2 l).length = l.length * 2 := by
  induction l with
  | nil => rfl
  | cons a r ih => simp only [cells2, List.flatMap_cons, List.length_append, List.length_cons] at ih ⊢; rw [ih]; simp [cell2]; omega
theorem cells2_get (l : List (List UInt8 × Nat)) : ∀ (j : Nat) (t : List UInt8) (i : Nat), l[j]? = some (t, i) → (cells2 l)[j * 2]? = some (str t) ∧ (cells2 l)[j * 2 + 1]? = some (.int .i64 (i : Int)) := by
  induction l with
  | nil => intro j t i h; simp at h
  | cons a r ih =>
    intro j t i h
    cases j with
    | zero => simp at h; subst h; simp [cells2, cell2, str]
    | succ j =>
      simp at h
      have := ih j t i h
      have e1 : (j + 1) * 2 = j * 2 + 1 + 1 := by omega
      rw [e1]
      simpa [cells2, cell2] using this
theorem own_tk2 {w : World} {base : Nat} {v : Value} {l : List (List UInt8 × Nat)} (h : w.ownsRow base 106 2 v l.length (cells2 l)) : Tk2 w v l := by
  rcases h.2 with ⟨h1, h2⟩ | ⟨g, cap, cur, hv, hg, hh, h3, h4, h5, h6⟩
  · exact Or.inl ⟨h1, by cases l <;> simp_all⟩
  · have hlt : g < w.heap.size := by
      rcases Nat.lt_or_ge g w.heap.size with h | h
      · exact h
      · rw [Array.getElem?_eq_none h] at hh; cases hh
    refine Or.inr ⟨g, cap, hv, h3, h4, hlt, fun j t i ht => ?_⟩
    have hj : j < l.length := by
      rcases Nat.lt_or_ge j l.length with h | h
      · exact h
      · rw [List.getElem?_eq_none h] at ht; cases ht
    have key : ∀ (o : Nat) (u : Value), o < l.length * 2 → (cells2 l)[o]? = some u → w.cell? ⟨g, o, none⟩ = some u := by
      intro o u ho hu
      have : (cur.toList.take (l.length * 2))[o]? = some u := by rw [h6]; exact hu
      rw [List.getElem?_take, if_pos ho] at this
      simp [World.cell?, hh]
      simpa using this
    exact ⟨key _ _ (by omega) (cells2_get l j t i ht).1, key _ _ (by omega) (cells2_get l j t i ht).2⟩

theorem runM_cons (len : Nat) (t : List UInt8) (i : Nat) (ts : List (List UInt8 × Nat)) (st : List (List UInt8)) (d : Int) : runM len ((t, i) :: ts) st d = match stepM t i st d with
    | .inl e => e
    | .inr (st', d') => runM len ts st' d' := rfl

theorem deep_cases (x : List UInt8) : (deeper x = true ∧ ((x == [40]) = true ∨ ((x == [40]) = false ∧ (x == [110, 111, 116]) = true) ∨ ((x == [40]) = false ∧ (x == [110, 111, 116]) = false ∧ (x == [105, 102]) = true) ∨ ((x == [40]) = false ∧ (x == [110, 111, 116]) = false ∧ (x == [105, 102]) = false ∧ (x == [119, 104, 105, 108, 101]) = true))) ∨
    (deeper x = false ∧ (x == [40]) = false ∧ (x == [110, 111, 116]) = false ∧ (x == [105, 102]) = false ∧ (x == [119, 104, 105, 108, 101]) = false ∧ ((shut x = true ∧ ((x == [41]) = true ∨ ((x == [41]) = false ∧ (x == [101, 110, 100]) = true))) ∨ (shut x = false ∧ (x == [41]) = false ∧ (x == [101, 110, 100]) = false))) := by
  unfold deeper shut
  cases (x == [40]) <;> cases (x == [110, 111, 116]) <;> cases (x == [105, 102]) <;> cases (x == [119, 104, 105, 108, 101]) <;> cases (x == [41]) <;> cases (x == [101, 110, 100]) <;> simp

theorem runM_step (len : Nat) (t : List UInt8) (i : Nat) (ts : List (List UInt8 × Nat)) (st : List (List UInt8)) (d : Int) : runM len ((t, i) :: ts) st d = match opn t st 0 with
    | ([], _) => (2, (i : Int))
    | (k :: r, n) => if (sts k t r).2 = false then (2, (i : Int)) else if deeper t then (if 10 < d - n + 1 then (3, (i : Int)) else runM len ts (sts k t r).1 (d - n + 1)) else if shut t then runM len ts (sts k t r).1 (d - n - 1) else runM len ts (sts k t r).1 (d - n) := by
  rw [runM_cons]; unfold stepM
  match opn t st 0 with
  | ([], _) => rfl
  | (k :: r, n) =>
    simp only
    by_cases h1 : (sts k t r).2 = false
    · rw [if_pos h1, if_pos h1]
    · rw [if_neg h1, if_neg h1]
      by_cases h2 : deeper t = true
      · rw [if_pos h2, if_pos h2]
        by_cases h3 : 10 < d - n + 1
        · rw [if_pos h3, if_pos h3]
        · rw [if_neg h3, if_neg h3]
      · rw [if_neg h2, if_neg h2]
        by_cases h3 : shut t = true
        · rw [if_pos h3, if_pos h3]
        · rw [if_neg h3, if_neg h3]

def st0 : List (List UInt8) := [[102, 114, 111, 109], cFormula, [100, 111], cCommands, [116, 111], cFormula]

set_option maxRecDepth 100000 in
set_option maxHeartbeats 4000000 in
theorem looked_some (s : ByteArray) (g cap : Nat) (l : List (List UInt8 × Nat)) (w : World) (h : Tk2 w (.slice (some ⟨g, 0, none⟩) l.length cap) l) (hs : s.size ≤ 300) (hl : l.length ≤ 300) (hsz : ∀ t i, (t, i) ∈ l → t.length ≤ 300) :
    Calls Try.prog 25 #[.string s, .slice (some ⟨g, 0, none⟩) l.length cap] w fun e w' => e = .returned (.tuple #[.int .i64 (runM s.size l st0 0).1, .int .i64 (runM s.size l st0 0).2]) ∧ Below w.heap.size w w' := by
  generalize hR : runM s.size l st0 0 = R
  have HR : Hid (runM s.size l st0 0 = R) := hR
  have HT : Hid (Tk2 w (.slice (some ⟨g, 0, none⟩) l.length cap) l) := h
  clear hR h
  have C0 : Hid (∀ a b c d e f, Calls Try.prog 43 #[.slice none 0 0, .slice (some ⟨w.heap.size, 0, none⟩) 6 6] (w.alloc (.cells #[.string a, .string b, .string c, .string d, .string e, .string f] 9)) fun e' w' => ∃ v', e' = .returned v' ∧ Stk w' v' (a.data.toList :: b.data.toList :: c.data.toList :: d.data.toList :: e.data.toList :: f.data.toList :: []) ∧ Below w.heap.size w w') := fun a b c d e f => push6 _ [] w a b c d e f (Or.inl ⟨rfl, rfl⟩) (by simp)
  go_enter Try.func25, Try.ntmps25
  go_wp2_with (go_at_call 43; refine (C0.out _ _ _ _ _ _).mono ?_; rintro e w1 ⟨v1, rfl, hs1, hb1⟩)
  go_loopw [6, 7, 8, 9, 10, 11, 12, 13] (fun v dv iv _ _ _ _ _ wr => ∃ (k : Nat) (st : List (List UInt8)) (d : Int), k ≤ l.length ∧ Stk wr v st ∧ dv = .int .i64 d ∧ iv = .int .i64 (k : Int) ∧ runM s.size (l.drop k) st d = R ∧ st.length ≤ 6 + 7 * k ∧ Ne st ∧ -(3000 * (k : Int)) ≤ d ∧ d ≤ k ∧ Below w.heap.size w wr) (fun _ _ iv _ _ _ _ _ _ => l.length - (intOf iv).toNat)
  case atStart => exact ⟨0, st0, 0, Nat.zero_le _, hs1, rfl, rfl, HR.out, by decide, by unfold Ne; decide, by omega, by omega, hb1⟩
  case round =>
    obtain ⟨k, st, d, hk, hst, rfl, rfl, hq, hsl, hne, hd1, hd2, hnx⟩ := hrel
    have Q : Hid (runM s.size (l.drop k) st d = R) := hq
    clear hq
    by_cases hlt : k < l.length
    · obtain ⟨⟨t, i⟩, hti⟩ : ∃ x, l[k]? = some x := ⟨_, List.getElem?_eq_getElem hlt⟩
      have htk : Tk2 wr (.slice (some ⟨g, 0, none⟩) l.length cap) l := by
        rcases HT.out with h | ⟨b, c, h1, h2, h3, h4, h5⟩
        · exact Or.inl h
        · exact Or.inr ⟨b, c, h1, h2, h3, Nat.lt_of_lt_of_le h4 hnx.size, fun j t i ht => ⟨(hnx.cell (p := ⟨b, j * 2, none⟩) h4).trans (h5 j t i ht).1, (hnx.cell (p := ⟨b, j * 2 + 1, none⟩) h4).trans (h5 j t i ht).2⟩⟩
      obtain ⟨hcap, hgs, hc⟩ : l.length ≤ cap ∧ g < wr.heap.size ∧ (∀ (j : Nat) (t : List UInt8) (i : Nat), l[j]? = some (t, i) → wr.cell? ⟨g, j * 2, none⟩ = some (str t) ∧ wr.cell? ⟨g, j * 2 + 1, none⟩ = some (.int .i64 (i : Int))) := by
        rcases htk with ⟨h, _⟩ | ⟨b, c, h1, h2, h3, h4, h5⟩
        · cases h
        · cases h1; exact ⟨h2, h4, h5⟩
      obtain ⟨hc1, hc2⟩ := hc k t i hti
      have hmem : (t, i) ∈ l := List.mem_of_getElem? hti
      have htsz := hsz t i hmem
      obtain ⟨tb, htb, htl⟩ := str_box t
      rw [htb] at hc1
      have hQ := Q.out
      have hdrop : l.drop k = (t, i) :: l.drop (k + 1) := by
        rw [List.drop_eq_getElem_cons hlt]; rw [List.getElem?_eq_getElem hlt] at hti; rw [Option.some.inj hti]
      rw [hdrop, runM_step] at hQ
      have htbs : tb.size ≤ 300 := by
        have : tb.data.toList.length = tb.size := by simp
        rw [← ByteArray.toList_eq, htl] at this; omega
      rw [ByteArray.toList_eq] at htl
      have C1 : Hid (Calls Try.prog 44 #[u6, .string tb] wr fun e w' => OpnEnd wr (opn tb.data.toList st 0) e w') := opens_any tb _ st wr hst (by omega)
      have C2 : Hid (∀ (kb : ByteArray) (v : Value) (st : List (List UInt8)) (w : World), 0 < kb.size → Stk w v st → st.length ≤ 70000 → Calls Try.prog 45 #[.string kb, .string tb, v] w fun e w' => StsEnd w (sts kb.data.toList tb.data.toList st) e w') := fun kb v st w h1 h2 h3 => starts_any kb tb v st w h1 h2 htbs h3
      rw [← htl] at hQ
      have hol := opn_len tb.data.toList st 0
      have hoe := opn_end tb.data.toList st 0
      have hone := opn_ne tb.data.toList st 0 hne
      generalize ho : opn tb.data.toList st 0 = O at *
      clear ho htk hc hmem hti hdrop Q
      obtain ⟨O1, n⟩ := O
      simp only at hol hoe hone
      cases O1 with
      | nil =>
        simp only at hQ
        have HQ : Hid ((2, (i : Int)) = R) := hQ
        clear hQ
        go_wp2_with fail
        refine (C1.out).mono ?_
        rintro e w2 ⟨v2, rfl, hs2, hb2⟩
        have hcc := (hb2.cell (p := ⟨g, k * 2 + 1, none⟩) hgs).trans hc2
        simp only at hs2
        have hnx2 := hnx.trans (hb2.mono hnx.size)
        rcases hs2.bottom with rfl | ⟨b2, cap2, rfl⟩
        all_goals
          go_wp2_with fail
          go_quiet (fail)
          go_wp2_with fail
          go_ret2
          refine ⟨?_, below_drewN hnx2 _⟩
          rw [← HQ.out]; rfl
      | cons kk rr =>
        simp only at hQ
        have hkk := hone.head
        have hrn := sts_ne kk tb.data.toList rr hone.tail
        have hrl := sts_len kk tb.data.toList rr
        obtain ⟨kb, hkb, hkl⟩ := str_box kk
        rw [ByteArray.toList_eq] at hkl
        have hkb0 : 0 < kb.size := by
          have : kb.data.toList.length = kb.size := by simp
          rw [hkl] at this
          rcases Nat.eq_zero_or_pos kb.size with h | h
          · rw [h] at this; exact absurd (List.length_eq_zero_iff.1 this) hkk
          · exact h
        have hrr : rr.length ≤ 70000 := by simp only [List.length_cons] at hol; omega
        have C3 : Hid (∀ (v : Value) (w : World), Stk w v rr → Calls Try.prog 45 #[.string kb, .string tb, v] w fun e w' => StsEnd w (sts kk tb.data.toList rr) e w') := fun v w h => by rw [← hkl]; exact C2.out kb v rr w hkb0 h hrr
        clear C2
        go_wp2_with fail
        refine (C1.out).mono ?_
        rintro e w2 ⟨v2, rfl, hs2, hb2⟩
        have hcc := (hb2.cell (p := ⟨g, k * 2 + 1, none⟩) hgs).trans hc2
        have hnx2 := hnx.trans (hb2.mono hnx.size)
        have hgs2 := Nat.lt_of_lt_of_le hgs hb2.size
        simp only at hs2
        obtain ⟨b2, cap2, rfl, hcp, hcm, hb2l, hcell2, hrest2⟩ := hs2.top
        rw [hkb] at hcell2
        unfold maxLen at hcm
        have C4 : Hid (Calls Try.prog 45 #[.string kb, .string tb, .slice (some ⟨b2, 0, none⟩) rr.length cap2] w2.drew fun e w' => StsEnd w2.drew (sts kk tb.data.toList rr) e w') := C3.out _ _ (hrest2.below (Below.refl _ _).drew)
        clear C1 C3 hs2 hrest2 hb2 hc1 hc2 hst hkb
        generalize sts kk tb.data.toList rr = S at *
        generalize hmm : rr.length = m at *
        have HM : Hid (rr.length = m) := hmm
        clear hmm
        have hwr : IntKind.i64.wrap (m : Int) = (m : Int) := IntWalk.i64_in _ (by omega)
        have hi1 : (m : Int) < (m : Int) + 1 := by omega
        have hi2 : m ≤ cap2 := by omega
        have hi3 : ((m : Int) + 1 == 0) = false := by rw [beq_eq_false_iff_ne]; omega
        go_wp2_with fail
        go_region_held3 (fun w' => w'.cell? ⟨b2, m, none⟩ = some (.string kb)) (simp [*]) (first | (go_at_call 45; refine C4.out.mono ?_; rintro e w3 ⟨v3, rfl, hs3, hb3⟩; have hk3 : w3.cell? ⟨b2, m, none⟩ = some (.string kb) := (hb3.cell (p := ⟨b2, m, none⟩) hb2l).trans hcell2))
        obtain ⟨S1, S2⟩ := S
        simp only at hs3 hQ hrn hrl
        have hc3 : w3.cell? ⟨g, k * 2 + 1, none⟩ = some (.int .i64 (i : Int)) := (hb3.cell (p := ⟨g, k * 2 + 1, none⟩) hgs2).trans hcc
        have hnx3 : Below w.heap.size w w3 := (hnx2.drew).trans (hb3.mono hnx2.size)
        clear C4 hcc hb3 hnx2 hcell2 hk3 hwr
        cases S2
        · have HQ : Hid ((2, (i : Int)) = R) := hQ
          clear hQ
          go_wp2_with fail
          go_quiet (fail)
          go_wp2_with fail
          go_ret2
          refine ⟨?_, below_drewN hnx3 _⟩
          rw [← HQ.out]; rfl
        · have HQ : Hid ((if deeper tb.toList then (if 10 < d - n + 1 then (3, (i : Int)) else runM s.size (l.drop (k + 1)) S1 (d - n + 1)) else if shut tb.toList then runM s.size (l.drop (k + 1)) S1 (d - n - 1) else runM s.size (l.drop (k + 1)) S1 (d - n)) = R) := by rw [ByteArray.toList_eq]; exact hQ
          clear hQ
          have hm' := HM.out
          have hsl' : S1.length ≤ 6 + 7 * (k + 1) := by simp only [List.length_cons] at hol; omega
          have hn1 : 0 ≤ n := by omega
          have hn2 : n ≤ 3000 := by omega
          clear hm'
          rcases deep_cases tb.toList with ⟨hdp, hcs⟩ | ⟨hdp, f1, f2, f3, f4, ⟨hsh, hcs⟩ | ⟨hsh, f5, f6⟩⟩
          · by_cases hten : 10 < d - n + 1
            · have HQ2 : Hid ((3, (i : Int)) = R) := by
                show _ = R
                rw [← HQ.out, if_pos hdp, if_pos hten]
              clear HQ hdp
              rcases hcs with f1 | ⟨f1, f2⟩ | ⟨f1, f2, f3⟩ | ⟨f1, f2, f3, f4⟩
              all_goals
                go_wp2_with fail
                go_quiet (fail)
                go_wp2_with fail
                go_ret2
                refine ⟨?_, below_drewN hnx3 _⟩
                rw [← HQ2.out]; rfl
            · have HQ2 : Hid (runM s.size (l.drop (k + 1)) S1 (d - n + 1) = R) := by
                show _ = R
                rw [← HQ.out, if_pos hdp, if_neg hten]
              clear HQ hdp
              rcases hcs with f1 | ⟨f1, f2⟩ | ⟨f1, f2, f3⟩ | ⟨f1, f2, f3, f4⟩
              all_goals
                go_wp2_with fail
                go_roundw
                case rel => exact ⟨k + 1, S1, _, by omega, hs3, rfl, by go_num, HQ2.out, hsl', hrn, by omega, by omega, hnx3⟩
                case measure => simp [intOf]; omega
          · have HQ2 : Hid (runM s.size (l.drop (k + 1)) S1 (d - n - 1) = R) := by
              show _ = R
              rw [← HQ.out, hdp, hsh]; rfl
            clear HQ hdp hsh
            rcases hcs with f5 | ⟨f5, f6⟩
            all_goals
              go_wp2_with fail
              go_roundw
              case rel => exact ⟨k + 1, S1, _, by omega, hs3, rfl, by go_num, HQ2.out, hsl', hrn, by omega, by omega, hnx3⟩
              case measure => simp [intOf]; omega
          · have HQ2 : Hid (runM s.size (l.drop (k + 1)) S1 (d - n) = R) := by
              show _ = R
              rw [← HQ.out, hdp, hsh]; rfl
            clear HQ hdp hsh
            go_wp2_with fail
            go_roundw
            case rel => exact ⟨k + 1, S1, _, by omega, hs3, rfl, by go_num, HQ2.out, hsl', hrn, by omega, by omega, hnx3⟩
            case measure => simp [intOf]; omega
    · have C1 : Hid (∀ b : ByteArray, Calls Try.prog 44 #[u6, .string b] wr fun e w' => OpnEnd wr (opn b.data.toList st 0) e w') := fun b => opens_any b _ st wr hst (by omega)
      have hd : l.drop k = [] := List.drop_eq_nil_of_le (by omega)
      have HQ : Hid ((if (opn [] st 0).1.isEmpty then (0, 0) else (2, (s.size : Int))) = R) := by
        show _ = R
        rw [← Q.out, hd]; rfl
      clear Q hd
      go_wp2_with fail
      refine (C1.out _).mono ?_
      rintro e w2 ⟨v2, rfl, hs2, hb2⟩
      have hs3 : Stk w2 v2 (opn [] st 0).1 := hs2
      clear hs2
      have hnx2 := hnx.trans (hb2.mono hnx.size)
      have HN : Hid (∃ n, n = (opn (ByteArray.mk #[]).data.toList st 0).2) := ⟨_, rfl⟩
      generalize (opn (ByteArray.mk #[]).data.toList st 0).2 = n at *
      generalize ho : (opn [] st 0).1 = O at *
      cases O with
      | nil =>
        rcases hs3.bottom with rfl | ⟨b2, cap2, rfl⟩
        all_goals
          go_wp2_with fail
          go_ret2
          exact ⟨by rw [← HQ.out]; rfl, hnx2⟩
      | cons kk rr =>
        obtain ⟨b2, cap2, rfl, hcp, hcm, _, _, _⟩ := hs3.top
        unfold maxLen at hcm
        go_wp2_with fail
        go_ret2
        exact ⟨by rw [← HQ.out]; rfl, hnx2⟩

end Go.Proofs.Ytkinoehmcfhgbaa.Av
