/-
  The walks of the document's own looked and Read: what Check is to answer.
  Plain facts (no walk): the parser's state and the document's machine answer alike, rule by rule.
-/
import Derived.Test.YtkinoehmcfhgbaaGreatDoorSts
import Derived.Deep.RegionHeld3
import Derived.Test.YtkinoehmcfhgbaaGreatDoorTok2
import Derived.Test.YtkinoehmcfhgbaaGreatDoorMc
set_option linter.unusedVariables false
set_option linter.unusedSimpArgs false
namespace Go.Proofs.YtkinoehmcfhgbaaGreatDoor.Av
open Go.RowKit

/-- The document's tokens as they lie in memory. -/
def Tk2 (w : World) (v : Value) (l : List (List UInt8 × Nat)) : Prop :=
  (v = .slice none 0 0 ∧ l = []) ∨ ∃ g cap, v = .slice (some ⟨g, 0, none⟩) l.length cap ∧ l.length ≤ cap ∧ cap ≤ maxLen ∧ g < w.heap.size ∧ ∀ (j : Nat) (t : List UInt8) (i : Nat), l[j]? = some (t, i) → w.cell? ⟨g, j * 2, none⟩ = some (str t) ∧ w.cell? ⟨g, j * 2 + 1, none⟩ = some (.int .i64 (i : Int))
theorem Tk2.below {w w' : World} {v : Value} {l : List (List UInt8 × Nat)} (h : Tk2 w v l) (hb : Below w.heap.size w w') : Tk2 w' v l := by
  rcases h with h | ⟨b, cap, h1, h2, h3, h4, h5⟩
  · exact Or.inl h
  · exact Or.inr ⟨b, cap, h1, h2, h3, Nat.lt_of_lt_of_le h4 hb.size, fun j t i ht => ⟨(hb.cell (p := ⟨b, j * 2, none⟩) h4).trans (h5 j t i ht).1, (hb.cell (p := ⟨b, j * 2 + 1, none⟩) h4).trans (h5 j t i ht).2⟩⟩
theorem cells2_len (l : List (List UInt8 × Nat)) : (cells2 l).length = l.length * 2 := by
  induction l with
  | nil => rfl
  | cons a r ih => simp only [cells2, List.flatMap_cons, List.length_append, List.length_cons] at ih ⊢; rw [ih]; simp [cell2]; omega
theorem cells2_get (l : List (List UInt8 × Nat)) : ∀ (j : Nat) (t : List UInt8) (i : Nat), l[j]? = some (t, i) → (cells2 l)[j * 2]? = some (str t) ∧ (cells2 l)[j * 2 + 1]? = some (.int .i64 (i : Int)) := by
  induction l with
  | nil => intro j t i h; simp at h
  | cons a r ih =>
    intro j t i h
    cases j with
    | zero => simp at h; subst h; simp [cells2, cell2, str]
    | succ j =>
      simp at h
      have := ih j t i h
      have e1 : (j + 1) * 2 = j * 2 + 1 + 1 := by omega
      rw [e1]
      simpa [cells2, cell2] using this
theorem own_tk2 {w : World} {base : Nat} {v : Value} {l : List (List UInt8 × Nat)} (h : w.ownsRow base 206 2 v l.length (cells2 l)) : Tk2 w v l := by
  rcases h.2 with ⟨h1, h2⟩ | ⟨g, cap, cur, hv, hg, hh, h3, h4, h5, h6⟩
  · exact Or.inl ⟨h1, by cases l <;> simp_all⟩
  · have hlt : g < w.heap.size := by
      rcases Nat.lt_or_ge g w.heap.size with h | h
      · exact h
      · rw [Array.getElem?_eq_none h] at hh; cases hh
    refine Or.inr ⟨g, cap, hv, h3, h4, hlt, fun j t i ht => ?_⟩
    have hj : j < l.length := by
      rcases Nat.lt_or_ge j l.length with h | h
      · exact h
      · rw [List.getElem?_eq_none h] at ht; cases ht
    have key : ∀ (o : Nat) (u : Value), o < l.length * 2 → (cells2 l)[o]? = some u → w.cell? ⟨g, o, none⟩ = some u := by
      intro o u ho hu
      have : (cur.toList.take (l.length * 2))[o]? = some u := by rw [h6]; exact hu
      rw [List.getElem?_take, if_pos ho] at this
      simp [World.cell?, hh]
      simpa using this
    exact ⟨key _ _ (by omega) (cells2_get l j t i ht).1, key _ _ (by omega) (cells2_get l j t i ht).2⟩

theorem runM_cons (len : Nat) (t : List UInt8) (i : Nat) (ts : List (List UInt8 × Nat)) (st : List (List UInt8)) (d : Int) : runM len ((t, i) :: ts) st d = match stepM t i st d with
    | .inl e => e
    | .inr (st', d') => runM len ts st' d' := rfl

theorem deep_cases (x : List UInt8) : (deeper x = true ∧ ((x == [40]) = true ∨ ((x == [40]) = false ∧ (x == [110, 111, 116]) = true) ∨ ((x == [40]) = false ∧ (x == [110, 111, 116]) = false ∧ (x == [105, 102]) = true) ∨ ((x == [40]) = false ∧ (x == [110, 111, 116]) = false ∧ (x == [105, 102]) = false ∧ (x == [119, 104, 105, 108, 101]) = true))) ∨
    (deeper x = false ∧ (x == [40]) = false ∧ (x == [110, 111, 116]) = false ∧ (x == [105, 102]) = false ∧ (x == [119, 104, 105, 108, 101]) = false ∧ ((shut x = true ∧ ((x == [41]) = true ∨ ((x == [41]) = false ∧ (x == [101, 110, 100]) = true))) ∨ (shut x = false ∧ (x == [41]) = false ∧ (x == [101, 110, 100]) = false))) := by
  unfold deeper shut
  cases (x == [40]) <;> cases (x == [110, 111, 116]) <;> cases (x == [105, 102]) <;> cases (x == [119, 104, 105, 108, 101]) <;> cases (x == [41]) <;> cases (x == [101, 110, 100]) <;> simp

theorem runM_step (len : Nat) (t : List UInt8) (i : Nat) (ts : List (List UInt8 × Nat)) (st : List (List UInt8)) (d : Int) : runM len ((t, i) :: ts) st d = match opn t st 0 with
    | ([], _) => (2, (i : Int))
    | (k :: r, n) => if (sts k t r).2 = false then (2, (i : Int)) else if deeper t then (if 10 < d - n + 1 then (3, (i : Int)) else runM len ts (sts k t r).1 (d - n + 1)) else if shut t then runM len ts (sts k t r).1 (d - n - 1) else runM len ts (sts k t r).1 (d - n) := by
  rw [runM_cons]; unfold stepM
  match opn t st 0 with
  | ([], _) => rfl
  | (k :: r, n) =>
    simp only
    by_cases h1 : (sts k t r).2 = false
    · rw [if_pos h1, if_pos h1]
    · rw [if_neg h1, if_neg h1]
      by_cases h2 : deeper t = true
      · rw [if_pos h2, if_pos h2]
        by_cases h3 : 10 < d - n + 1
        · rw [if_pos h3, if_pos h3]
        · rw [if_neg h3, if_neg h3]
      · rw [if_neg h2, if_neg h2]
        by_cases h3 : shut t = true
        · rw [if_pos h3, if_pos h3]
        · rw [if_neg h3, if_neg h3]

def st0 : List (List UInt8) := [[102, 114, 111, 109], cFormula, [100, 111], cCommands, [116, 111], cFormula]

set_option maxRecDepth 100000 in
set_option maxHeartbeats 4000000 in
theorem looked_some (s : ByteArray) (g cap : Nat) (l : List (List UInt8 × Nat)) (w : World) (h : Tk2 w (.slice (some ⟨g, 0, none⟩) l.length cap) l) (hs : s.size ≤ 300) (hl : l.length ≤ 300) (hsz : ∀ t i, (t, i) ∈ l → t.length ≤ 300) :
    Calls Tryz.prog 63 #[.string s, .slice (some ⟨g, 0, none⟩) l.length cap] w fun e w' => e = .returned (.tuple #[.int .i64 (runM s.size l st0 0).1, .int .i64 (runM s.size l st0 0).2]) ∧ Below w.heap.size w w' := by
  generalize hR : runM s.size l st0 0 = R
  have HR : Hid (runM s.size l st0 0 = R) := hR
  have HT : Hid (Tk2 w (.slice (some ⟨g, 0, none⟩) l.length cap) l) := h
  clear hR h
  have C0 : Hid (∀ a b c d e f, Calls Tryz.prog 99 #[.slice none 0 0, .slice (some ⟨w.heap.size, 0, none⟩) 6 6] (w.alloc (.cells #[.string a, .string b, .string c, .string d, .string e, .string f] 9)) fun e' w' => ∃ v', e' = .returned v' ∧ Stk w' v' (a.data.toList :: b.data.toList :: c.data.toList :: d.data.toList :: e.data.toList :: f.data.toList :: []) ∧ Below w.heap.size w w') := fun a b c d e f => push6 _ [] w a b c d e f (Or.inl ⟨rfl, rfl⟩) (by simp)
  go_enter Tryz.func63, Tryz.ntmps63
  go_wp2_with (go_at_call 99; refine (C0.out _ _ _ _ _ _).mono ?_; rintro e w1 ⟨v1, rfl, hs1, hb1⟩)
  go_loopw [6, 7, 8, 9, 10, 11, 12, 13] (fun v dv iv _ _ _ _ _ wr => ∃ (k : Nat) (st : List (List UInt8)) (d : Int), k ≤ l.length ∧ Stk wr v st ∧ dv = .int .i64 d ∧ iv = .int .i64 (k : Int) ∧ runM s.size (l.drop k) st d = R ∧ st.length ≤ 6 + 7 * k ∧ Ne st ∧ -(3000 * (k : Int)) ≤ d ∧ d ≤ k ∧ Below w.heap.size w wr) (fun _ _ iv _ _ _ _ _ _ => l.length - (intOf iv).toNat)
  case atStart => exact ⟨0, st0, 0, Nat.zero_le _, hs1, rfl, rfl, HR.out, by decide, by unfold Ne; decide, by omega, by omega, hb1⟩
  case round =>
    obtain ⟨k, st, d, hk, hst, rfl, rfl, hq, hsl, hne, hd1, hd2, hnx⟩ := hrel
    have Q : Hid (runM s.size (l.drop k) st d = R) := hq
    clear hq
    by_cases hlt : k < l.length
    · obtain ⟨⟨t, i⟩, hti⟩ : ∃ x, l[k]? = some x := ⟨_, List.getElem?_eq_getElem hlt⟩
      have htk : Tk2 wr (.slice (some ⟨g, 0, none⟩) l.length cap) l := by
        rcases HT.out with h | ⟨b, c, h1, h2, h3, h4, h5⟩
        · exact Or.inl h
        · exact Or.inr ⟨b, c, h1, h2, h3, Nat.lt_of_lt_of_le h4 hnx.size, fun j t i ht => ⟨(hnx.cell (p := ⟨b, j * 2, none⟩) h4).trans (h5 j t i ht).1, (hnx.cell (p := ⟨b, j * 2 + 1, none⟩) h4).trans (h5 j t i ht).2⟩⟩
      obtain ⟨hcap, hgs, hc⟩ : l.length ≤ cap ∧ g < wr.heap.size ∧ (∀ (j : Nat) (t : List UInt8) (i : Nat), l[j]? = some (t, i) → wr.cell? ⟨g, j * 2, none⟩ = some (str t) ∧ wr.cell? ⟨g, j * 2 + 1, none⟩ = some (.int .i64 (i : Int))) := by
        rcases htk with ⟨h, _⟩ | ⟨b, c, h1, h2, h3, h4, h5⟩
        · cases h
        · cases h1; exact ⟨h2, h4, h5⟩
      obtain ⟨hc1, hc2⟩ := hc k t i hti
      have hmem : (t, i) ∈ l := List.mem_of_getElem? hti
      have htsz := hsz t i hmem
      obtain ⟨tb, htb, htl⟩ := str_box t
      rw [htb] at hc1
      have hQ := Q.out
      have hdrop : l.drop k = (t, i) :: l.drop (k + 1) := by
        rw [List.drop_eq_getElem_cons hlt]; rw [List.getElem?_eq_getElem hlt] at hti; rw [Option.some.inj hti]
      rw [hdrop, runM_step] at hQ
      have htbs : tb.size ≤ 300 := by
        have : tb.data.toList.length = tb.size := by simp
        rw [← ByteArray.toList_eq, htl] at this; omega
      rw [ByteArray.toList_eq] at htl
      have C1 : Hid (Calls Tryz.prog 100 #[u6, .string tb] wr fun e w' => OpnEnd wr (opn tb.data.toList st 0) e w') := opens_any tb _ st wr hst (by omega)
      have C2 : Hid (∀ (kb : ByteArray) (v : Value) (st : List (List UInt8)) (w : World), 0 < kb.size → Stk w v st → st.length ≤ 70000 → Calls Tryz.prog 101 #[.string kb, .string tb, v] w fun e w' => StsEnd w (sts kb.data.toList tb.data.toList st) e w') := fun kb v st w h1 h2 h3 => starts_any kb tb v st w h1 h2 htbs h3
      rw [← htl] at hQ
      have hol := opn_len tb.data.toList st 0
      have hoe := opn_end tb.data.toList st 0
      have hone := opn_ne tb.data.toList st 0 hne
      generalize ho : opn tb.data.toList st 0 = O at *
      clear ho htk hc hmem hti hdrop Q
      obtain ⟨O1, n⟩ := O
      simp only at hol hoe hone
      cases O1 with
      | nil =>
        simp only at hQ
        have HQ : Hid ((2, (i : Int)) = R) := hQ
        clear hQ
        go_wp2_with fail
        refine (C1.out).mono ?_
        rintro e w2 ⟨v2, rfl, hs2, hb2⟩
        have hcc := (hb2.cell (p := ⟨g, k * 2 + 1, none⟩) hgs).trans hc2
        simp only at hs2
        have hnx2 := hnx.trans (hb2.mono hnx.size)
        rcases hs2.bottom with rfl | ⟨b2, cap2, rfl⟩
        all_goals
          go_wp2_with fail
          go_quiet (fail)
          go_wp2_with fail
          go_ret2
          refine ⟨?_, below_drewN hnx2 _⟩
          rw [← HQ.out]; rfl
      | cons kk rr =>
        simp only at hQ
        have hkk := hone.head
        have hrn := sts_ne kk tb.data.toList rr hone.tail
        have hrl := sts_len kk tb.data.toList rr
        obtain ⟨kb, hkb, hkl⟩ := str_box kk
        rw [ByteArray.toList_eq] at hkl
        have hkb0 : 0 < kb.size := by
          have : kb.data.toList.length = kb.size := by simp
          rw [hkl] at this
          rcases Nat.eq_zero_or_pos kb.size with h | h
          · rw [h] at this; exact absurd (List.length_eq_zero_iff.1 this) hkk
          · exact h
        have hrr : rr.length ≤ 70000 := by simp only [List.length_cons] at hol; omega
        have C3 : Hid (∀ (v : Value) (w : World), Stk w v rr → Calls Tryz.prog 101 #[.string kb, .string tb, v] w fun e w' => StsEnd w (sts kk tb.data.toList rr) e w') := fun v w h => by rw [← hkl]; exact C2.out kb v rr w hkb0 h hrr
        clear C2
        go_wp2_with fail
        refine (C1.out).mono ?_
        rintro e w2 ⟨v2, rfl, hs2, hb2⟩
        have hcc := (hb2.cell (p := ⟨g, k * 2 + 1, none⟩) hgs).trans hc2
        have hnx2 := hnx.trans (hb2.mono hnx.size)
        have hgs2 := Nat.lt_of_lt_of_le hgs hb2.size
        simp only at hs2
        obtain ⟨b2, cap2, rfl, hcp, hcm, hb2l, hcell2, hrest2⟩ := hs2.top
        rw [hkb] at hcell2
        unfold maxLen at hcm
        have C4 : Hid (Calls Tryz.prog 101 #[.string kb, .string tb, .slice (some ⟨b2, 0, none⟩) rr.length cap2] w2.drew fun e w' => StsEnd w2.drew (sts kk tb.data.toList rr) e w') := C3.out _ _ (hrest2.below (Below.refl _ _).drew)
        clear C1 C3 hs2 hrest2 hb2 hc1 hc2 hst hkb
        generalize sts kk tb.data.toList rr = S at *
        generalize hmm : rr.length = m at *
        have HM : Hid (rr.length = m) := hmm
        clear hmm
        have hwr : IntKind.i64.wrap (m : Int) = (m : Int) := IntWalk.i64_in _ (by omega)
        have hi1 : (m : Int) < (m : Int) + 1 := by omega
        have hi2 : m ≤ cap2 := by omega
        have hi3 : ((m : Int) + 1 == 0) = false := by rw [beq_eq_false_iff_ne]; omega
        go_wp2_with fail
        go_region_held3 (fun w' => w'.cell? ⟨b2, m, none⟩ = some (.string kb)) (simp [*]) (first | (go_at_call 101; refine C4.out.mono ?_; rintro e w3 ⟨v3, rfl, hs3, hb3⟩; have hk3 : w3.cell? ⟨b2, m, none⟩ = some (.string kb) := (hb3.cell (p := ⟨b2, m, none⟩) hb2l).trans hcell2))
        obtain ⟨S1, S2⟩ := S
        simp only at hs3 hQ hrn hrl
        have hc3 : w3.cell? ⟨g, k * 2 + 1, none⟩ = some (.int .i64 (i : Int)) := (hb3.cell (p := ⟨g, k * 2 + 1, none⟩) hgs2).trans hcc
        have hnx3 : Below w.heap.size w w3 := (hnx2.drew).trans (hb3.mono hnx2.size)
        clear C4 hcc hb3 hnx2 hcell2 hk3 hwr
        cases S2
        · have HQ : Hid ((2, (i : Int)) = R) := hQ
          clear hQ
          go_wp2_with fail
          go_quiet (fail)
          go_wp2_with fail
          go_ret2
          refine ⟨?_, below_drewN hnx3 _⟩
          rw [← HQ.out]; rfl
        · have HQ : Hid ((if deeper tb.toList then (if 10 < d - n + 1 then (3, (i : Int)) else runM s.size (l.drop (k + 1)) S1 (d - n + 1)) else if shut tb.toList then runM s.size (l.drop (k + 1)) S1 (d - n - 1) else runM s.size (l.drop (k + 1)) S1 (d - n)) = R) := by rw [ByteArray.toList_eq]; exact hQ
          clear hQ
          have hm' := HM.out
          have hsl' : S1.length ≤ 6 + 7 * (k + 1) := by simp only [List.length_cons] at hol; omega
          have hn1 : 0 ≤ n := by omega
          have hn2 : n ≤ 3000 := by omega
          clear hm'
          rcases deep_cases tb.toList with ⟨hdp, hcs⟩ | ⟨hdp, f1, f2, f3, f4, ⟨hsh, hcs⟩ | ⟨hsh, f5, f6⟩⟩
          · by_cases hten : 10 < d - n + 1
            · have HQ2 : Hid ((3, (i : Int)) = R) := by
                show _ = R
                rw [← HQ.out, if_pos hdp, if_pos hten]
              clear HQ hdp
              rcases hcs with f1 | ⟨f1, f2⟩ | ⟨f1, f2, f3⟩ | ⟨f1, f2, f3, f4⟩
              all_goals
                go_wp2_with fail
                go_quiet (fail)
                go_wp2_with fail
                go_ret2
                refine ⟨?_, below_drewN hnx3 _⟩
                rw [← HQ2.out]; rfl
            · have HQ2 : Hid (runM s.size (l.drop (k + 1)) S1 (d - n + 1) = R) := by
                show _ = R
                rw [← HQ.out, if_pos hdp, if_neg hten]
              clear HQ hdp
              rcases hcs with f1 | ⟨f1, f2⟩ | ⟨f1, f2, f3⟩ | ⟨f1, f2, f3, f4⟩
              all_goals
                go_wp2_with fail
                go_roundw
                case rel => exact ⟨k + 1, S1, _, by omega, hs3, rfl, by go_num, HQ2.out, hsl', hrn, by omega, by omega, hnx3⟩
                case measure => simp [intOf]; omega
          · have HQ2 : Hid (runM s.size (l.drop (k + 1)) S1 (d - n - 1) = R) := by
              show _ = R
              rw [← HQ.out, hdp, hsh]; rfl
            clear HQ hdp hsh
            rcases hcs with f5 | ⟨f5, f6⟩
            all_goals
              go_wp2_with fail
              go_roundw
              case rel => exact ⟨k + 1, S1, _, by omega, hs3, rfl, by go_num, HQ2.out, hsl', hrn, by omega, by omega, hnx3⟩
              case measure => simp [intOf]; omega
          · have HQ2 : Hid (runM s.size (l.drop (k + 1)) S1 (d - n) = R) := by
              show _ = R
              rw [← HQ.out, hdp, hsh]; rfl
            clear HQ hdp hsh
            go_wp2_with fail
            go_roundw
            case rel => exact ⟨k + 1, S1, _, by omega, hs3, rfl, by go_num, HQ2.out, hsl', hrn, by omega, by omega, hnx3⟩
            case measure => simp [intOf]; omega
    · have C1 : Hid (∀ b : ByteArray, Calls Tryz.prog 100 #[u6, .string b] wr fun e w' => OpnEnd wr (opn b.data.toList st 0) e w') := fun b => opens_any b _ st wr hst (by omega)
      have hd : l.drop k = [] := List.drop_eq_nil_of_le (by omega)
      have HQ : Hid ((if (opn [] st 0).1.isEmpty then (0, 0) else (2, (s.size : Int))) = R) := by
        show _ = R
        rw [← Q.out, hd]; rfl
      clear Q hd
      go_wp2_with fail
      refine (C1.out _).mono ?_
      rintro e w2 ⟨v2, rfl, hs2, hb2⟩
      have hs3 : Stk w2 v2 (opn [] st 0).1 := hs2
      clear hs2
      have hnx2 := hnx.trans (hb2.mono hnx.size)
      have HN : Hid (∃ n, n = (opn (ByteArray.mk #[]).data.toList st 0).2) := ⟨_, rfl⟩
      generalize (opn (ByteArray.mk #[]).data.toList st 0).2 = n at *
      generalize ho : (opn [] st 0).1 = O at *
      cases O with
      | nil =>
        rcases hs3.bottom with rfl | ⟨b2, cap2, rfl⟩
        all_goals
          go_wp2_with fail
          go_ret2
          exact ⟨by rw [← HQ.out]; rfl, hnx2⟩
      | cons kk rr =>
        obtain ⟨b2, cap2, rfl, hcp, hcm, _, _, _⟩ := hs3.top
        unfold maxLen at hcm
        go_wp2_with fail
        go_ret2
        exact ⟨by rw [← HQ.out]; rfl, hnx2⟩

end Go.Proofs.YtkinoehmcfhgbaaGreatDoor.Av
set_option linter.unusedVariables false
set_option linter.unusedSimpArgs false
namespace Go.Proofs.YtkinoehmcfhgbaaGreatDoor.Av
open Go.RowKit

/-- What the document's machine answers from where the parser is, with so much wanted yet. -/
def fin (toks : List (List UInt8 × Nat)) (len : Nat) (σ : PSt) (st : List (List UInt8)) : Int × Int := if σ.e = 0 then runM len (toks.drop σ.pos) st σ.d else (σ.e, σ.pl)
def Ok (n : Nat) (σ : PSt) : Prop := σ.pos ≤ n ∧ (σ.e ≠ 0 → σ.pos = n) ∧ (σ.e = 0 → 0 ≤ σ.d ∧ σ.d ≤ 10)
def AllTok (toks : List (List UInt8 × Nat)) : Prop := ∀ t i, (t, i) ∈ toks → Tokish t
def PSt.lv (σ : PSt) : PSt := { σ with d := wrap64 (σ.d - 1) }
def PSt.exp (σ : PSt) (T : List (Int × Int × Int)) (k : Int) : PSt := if kd T σ.pos = k then σ.adv T else σ.ref T 2
def PSt.ent (σ : PSt) (T : List (Int × Int × Int)) : PSt := if σ.d = 10 then σ.ref T 3 else ({ σ with d := σ.d + 1 } : PSt).adv T

variable {toks : List (List UInt8 × Nat)} {len : Nat}

theorem T3_len (toks : List (List UInt8 × Nat)) (len : Nat) : (T3 toks len).length = toks.length + 1 := by simp [T3]
theorem T3_tok {j : Nat} {t : List UInt8} {i : Nat} (h : toks[j]? = some (t, i)) : (T3 toks len).getD j (0, 0, 0) = ((tk t).1, (i : Int), (tk t).2) := by
  have hj : j < toks.length := by
    rcases Nat.lt_or_ge j toks.length with h' | h'
    · exact h'
    · rw [List.getElem?_eq_none h'] at h; cases h
  unfold T3
  rw [List.getD_eq_getElem?_getD, List.getElem?_append_left (by simpa using hj), List.getElem?_map, h]; rfl
theorem T3_end : (T3 toks len).getD toks.length (0, 0, 0) = (0, (len : Int), 0) := by
  unfold T3
  rw [List.getD_eq_getElem?_getD, List.getElem?_append_right (by simp)]; simp

/-- Where the parser looks: at a token, or behind the last. -/
theorem look (h : AllTok toks) (σ : PSt) (hp : σ.pos ≤ toks.length) :
    (∃ (t : List UInt8) (i : Nat), σ.pos < toks.length ∧ Tokish t ∧ kd (T3 toks len) σ.pos = (tk t).1 ∧ plc (T3 toks len) σ.pos = (i : Int) ∧ toks.drop σ.pos = (t, i) :: toks.drop (σ.pos + 1)) ∨
    (σ.pos = toks.length ∧ kd (T3 toks len) σ.pos = 0 ∧ plc (T3 toks len) σ.pos = (len : Int) ∧ toks.drop σ.pos = []) := by
  rcases Nat.lt_or_ge σ.pos toks.length with hlt | hge
  · left
    obtain ⟨⟨t, i⟩, ht⟩ : ∃ x, toks[σ.pos]? = some x := ⟨_, List.getElem?_eq_getElem hlt⟩
    have e := T3_tok (len := len) ht
    refine ⟨t, i, hlt, h t i (List.mem_of_getElem? ht), ?_, ?_, ?_⟩
    · unfold kd; rw [e]
    · unfold plc; rw [e]
    · rw [List.drop_eq_getElem_cons hlt]; rw [List.getElem?_eq_getElem hlt] at ht; rw [Option.some.inj ht]
  · right
    have e : σ.pos = toks.length := by omega
    refine ⟨e, ?_, ?_, ?_⟩
    · unfold kd; rw [e, T3_end]
    · unfold plc; rw [e, T3_end]
    · rw [e]; exact List.drop_length

theorem tk_pos (t : List UInt8) (h : Tokish t) : 1 ≤ (tk t).1 := by
  by_cases hs : 0 < sgn t
  · obtain ⟨k, hk⟩ := sym_cases t h hs
    have h1 := (syms_kind _ hk).1
    have h2 := sk_range _ (List.mem_append_left _ hk)
    simp only at h1 h2; omega
  · have e : tk t = wk t := by unfold tk; rw [if_neg hs]
    rw [e]; unfold wk
    have := kw_range t
    repeat' split
    all_goals (simp; try omega)

theorem fin_err {σ : PSt} (h : ¬ σ.e = 0) (st : List (List UInt8)) : fin toks len σ st = (σ.e, σ.pl) := by unfold fin; rw [if_neg h]
theorem fin_ref {σ : PSt} (T : List (Int × Int × Int)) (h : σ.e = 0) (err : Int) (he : err ≠ 0) (st : List (List UInt8)) : fin toks len (σ.ref T err) st = (err, plc T σ.pos) := by
  unfold PSt.ref; rw [if_pos h]; unfold fin; rw [if_neg (by simpa using he)]
theorem fin_adv {σ : PSt} (T : List (Int × Int × Int)) (h : σ.e = 0) (hk : kd T σ.pos ≠ 0) (st : List (List UInt8)) : fin toks len (σ.adv T) st = runM len (toks.drop (σ.pos + 1)) st σ.d := by
  unfold PSt.adv; rw [if_neg hk]; unfold fin; simp only; rw [if_pos h]

theorem end_some (st : List (List UInt8)) (d : Int) (k : List UInt8) (r : List (List UInt8)) (m : Int) (h : opn [] st 0 = (k :: r, m)) : runM len [] st d = (2, (len : Int)) := by
  simp only [runM]; rw [h]; rfl

/-- Two stacks that open alike answer alike. -/
theorem fin_congr {A B : List (List UInt8)} (h : ∀ t, opn t A 0 = opn t B 0) (σ : PSt) : fin toks len σ A = fin toks len σ B := by
  unfold fin
  split
  · generalize toks.drop σ.pos = l
    cases l with
    | nil => simp only [runM]; rw [h]
    | cons a r => obtain ⟨t, i⟩ := a; rw [runM_step, runM_step, h]
  · rfl
theorem fin_formula (σ : PSt) (st : List (List UInt8)) : fin toks len σ (cFormula :: st) = fin toks len σ (cFactor :: cMoreFormula :: st) :=
  fin_congr (fun t => by rw [opn_cons, opn_factor]; rfl) σ
theorem fin_commands (σ : PSt) (st : List (List UInt8)) : fin toks len σ (cCommands :: st) = fin toks len σ (cCommand :: cMoreCommands :: st) :=
  fin_congr (fun t => by rw [opn_cons, opn_command]; rfl) σ

/-- Two stacks that open alike at the token that stands here. -/
theorem fin_congr_at (h : AllTok toks) {A B : List (List UInt8)} {σ : PSt} (hp : σ.pos ≤ toks.length) (hn : opn [] A 0 = opn [] B 0)
    (ht : ∀ t, Tokish t → kd (T3 toks len) σ.pos = (tk t).1 → opn t A 0 = opn t B 0) : fin toks len σ A = fin toks len σ B := by
  unfold fin
  split
  · rcases look (len := len) h σ hp with ⟨t, i, _, h1, h2, _, h4⟩ | ⟨_, _, _, h4⟩
    · rw [h4, runM_step, runM_step, ht t h1 h2]
    · rw [h4]; simp only [runM]; rw [hn]
  · rfl
theorem fin_popF (h : AllTok toks) {σ : PSt} (hp : σ.pos ≤ toks.length) (h1 : kd (T3 toks len) σ.pos ≠ 23) (h2 : kd (T3 toks len) σ.pos ≠ 24) (st : List (List UInt8)) : fin toks len σ (cMoreFormula :: st) = fin toks len σ st := by
  refine fin_congr_at h hp (by rw [opn_cons]; rfl) (fun t ht e => ?_)
  have a1 : t ≠ [111, 114] := fun hh => h1 (by rw [e]; exact (kind_lit t _ 23 ht (by decide)).2 hh)
  have a2 : t ≠ [97, 110, 100] := fun hh => h2 (by rw [e]; exact (kind_lit t _ 24 ht (by decide)).2 hh)
  rw [opn_cons]
  have b : (t == [111, 114] || t == [97, 110, 100]) = false := by simp [a1, a2]
  rw [b]; rfl
theorem fin_popC (h : AllTok toks) {σ : PSt} (hp : σ.pos ≤ toks.length) (h1 : kd (T3 toks len) σ.pos ≠ 4) (st : List (List UInt8)) : fin toks len σ (cMoreCommands :: st) = fin toks len σ st := by
  refine fin_congr_at h hp (by rw [opn_cons]; rfl) (fun t ht e => ?_)
  have a1 : t ≠ [59] := fun hh => h1 (by rw [e]; exact (kind_lit t _ 4 ht (by decide)).2 hh)
  rw [opn_cons]
  have b : (t == [59]) = false := by simp [a1]
  rw [b]; rfl
theorem fin_popT (h : AllTok toks) {σ : PSt} (hp : σ.pos ≤ toks.length) (h1 : kd (T3 toks len) σ.pos ≠ 11) (h2 : kd (T3 toks len) σ.pos ≠ 12) (st : List (List UInt8)) : fin toks len σ (cMoreTerm :: st) = fin toks len σ st := by
  refine fin_congr_at h hp (by rw [opn_cons]; rfl) (fun t ht e => ?_)
  have a1 : t ≠ [43] := fun hh => h1 (by rw [e]; exact (kind_lit t _ 11 ht (by decide)).2 hh)
  have a2 : t ≠ [45] := fun hh => h2 (by rw [e]; exact (kind_lit t _ 12 ht (by decide)).2 hh)
  rw [opn_cons]
  have b : (t == [43] || t == [45]) = false := by simp [a1, a2]
  rw [b]; rfl

/-- A token that stands here and opens what is wanted into k, r. -/
theorem fin_tok {σ : PSt} {t : List UInt8} {i : Nat} (he : σ.e = 0) (hd : toks.drop σ.pos = (t, i) :: toks.drop (σ.pos + 1)) {A r : List (List UInt8)} {k : List UInt8} (ho : opn t A 0 = (k :: r, 0)) :
    fin toks len σ A = if (sts k t r).2 = false then (2, (i : Int)) else if deeper t then (if 10 < σ.d + 1 then (3, (i : Int)) else runM len (toks.drop (σ.pos + 1)) (sts k t r).1 (σ.d + 1)) else if shut t then runM len (toks.drop (σ.pos + 1)) (sts k t r).1 (σ.d - 1) else runM len (toks.drop (σ.pos + 1)) (sts k t r).1 σ.d := by
  unfold fin; rw [if_pos he, hd, runM_step, ho]; simp

/-- A token that is neither deeper nor shuts: it goes on behind it, or is refused. -/
theorem fin_plain {σ : PSt} {A r : List (List UInt8)} {k : List UInt8} (he : σ.e = 0) {t : List UInt8} {i : Nat} (hkd : kd (T3 toks len) σ.pos = (tk t).1) (ht : Tokish t) (hd : toks.drop σ.pos = (t, i) :: toks.drop (σ.pos + 1))
    (hop : opn t A 0 = (k :: r, 0)) (hsts : (sts k t r).2 = true) (hdp : deeper t = false) (hsh : shut t = false) : fin toks len σ A = fin toks len (σ.adv (T3 toks len)) (sts k t r).1 := by
  rw [fin_tok he hd hop, hsts, hdp, hsh, fin_adv _ he (by rw [hkd]; have := tk_pos t ht; omega)]; rfl

theorem Ok.err {n : Nat} {σ : PSt} (h : Ok n σ) (he : ¬ σ.e = 0) : σ.pos = n := h.2.1 he
theorem ref_err (T : List (Int × Int × Int)) (σ : PSt) (err : Int) (he : ¬ σ.e = 0) : (σ.ref T err).e = σ.e ∧ (σ.ref T err).pl = σ.pl := by unfold PSt.ref; rw [if_neg he]; exact ⟨rfl, rfl⟩
theorem ref_ne (T : List (Int × Int × Int)) (σ : PSt) (err : Int) (h : err ≠ 0) : (σ.ref T err).e ≠ 0 := by
  unfold PSt.ref; split
  · exact h
  · rename_i hh; exact hh
theorem ref_pos (toks : List (List UInt8 × Nat)) (len : Nat) (σ : PSt) (err : Int) : (σ.ref (T3 toks len) err).pos = toks.length := by
  unfold PSt.ref; rw [T3_len]; split <;> rfl
theorem adv_e (T : List (Int × Int × Int)) (σ : PSt) : (σ.adv T).e = σ.e ∧ (σ.adv T).pl = σ.pl ∧ (σ.adv T).d = σ.d := by unfold PSt.adv; split <;> exact ⟨rfl, rfl, rfl⟩
theorem adv_pos (T : List (Int × Int × Int)) (σ : PSt) (h : kd T σ.pos ≠ 0) : (σ.adv T).pos = σ.pos + 1 := by unfold PSt.adv; rw [if_neg h]
theorem kd_end (toks : List (List UInt8 × Nat)) (len : Nat) : kd (T3 toks len) toks.length = 0 := by unfold kd; rw [T3_end]
theorem kd_lt (h : AllTok toks) {σ : PSt} (ho : Ok toks.length σ) (hk : kd (T3 toks len) σ.pos ≠ 0) : σ.pos < toks.length ∧ σ.e = 0 := by
  have h1 := ho.1
  have h2 : σ.pos ≠ toks.length := fun e => hk (by rw [e]; exact kd_end _ _)
  exact ⟨by omega, Classical.byContradiction fun he => h2 (ho.err he)⟩

/-- What a step of the parser keeps: it goes on, or is refused for good; the depth is what it was. -/
def Goes (n : Nat) (σ σ' : PSt) : Prop := Ok n σ' ∧ σ.pos ≤ σ'.pos ∧ (σ'.e = 0 → σ.e = 0 ∧ σ'.d = σ.d)
theorem Goes.refl {n : Nat} {σ : PSt} (h : Ok n σ) : Goes n σ σ := ⟨h, Nat.le_refl _, fun e => ⟨e, rfl⟩⟩
theorem Goes.trans {n : Nat} {a b c : PSt} (h : Goes n a b) (k : Goes n b c) : Goes n a c :=
  ⟨k.1, Nat.le_trans h.2.1 k.2.1, fun e => ⟨(h.2.2 (k.2.2 e).1).1, (k.2.2 e).2.trans (h.2.2 (k.2.2 e).1).2⟩⟩
theorem goes_ref {σ : PSt} (ho : Ok toks.length σ) (err : Int) (h : err ≠ 0) : Goes toks.length σ (σ.ref (T3 toks len) err) :=
  ⟨⟨by rw [ref_pos]; exact Nat.le_refl _, fun _ => ref_pos _ _ _ _, fun e => absurd e (ref_ne _ _ _ h)⟩, by rw [ref_pos]; exact ho.1, fun e => absurd e (ref_ne _ _ _ h)⟩
theorem goes_adv (h : AllTok toks) {σ : PSt} (ho : Ok toks.length σ) : Goes toks.length σ (σ.adv (T3 toks len)) := by
  by_cases hk : kd (T3 toks len) σ.pos = 0
  · have : σ.adv (T3 toks len) = σ := by unfold PSt.adv; rw [if_pos hk]
    rw [this]; exact Goes.refl ho
  · obtain ⟨h1, h2⟩ := kd_lt h ho hk
    obtain ⟨e1, e2, e3⟩ := adv_e (T3 toks len) σ
    have e4 := adv_pos (T3 toks len) σ hk
    exact ⟨⟨by omega, fun hh => absurd (e1.trans h2) hh, fun _ => by rw [e3]; exact ho.2.2 h2⟩, by omega, fun _ => ⟨h2, e3⟩⟩
theorem goes_exp (h : AllTok toks) {σ : PSt} (ho : Ok toks.length σ) (k : Int) : Goes toks.length σ (σ.exp (T3 toks len) k) := by
  unfold PSt.exp; split
  · exact goes_adv h ho
  · exact goes_ref ho 2 (by omega)

theorem fin_end {σ : PSt} {A : List (List UInt8)} (he : σ.e = 0) (hd : toks.drop σ.pos = []) (hA : ∃ k r m, opn [] A 0 = (k :: r, m)) : fin toks len σ A = (2, (len : Int)) := by
  obtain ⟨k, r, m, hA⟩ := hA
  unfold fin; rw [if_pos he, hd]; exact end_some _ _ k r m hA

/-- The rule of a token that must stand here: yes says whether it may. -/
theorem fin_must (h : AllTok toks) {σ : PSt} (ho : Ok toks.length σ) {k : List UInt8} {st : List (List UInt8)} (B : List UInt8 → List (List UInt8)) (yes : Prop) [Decidable yes]
    (hop : ∀ t, opn t (k :: st) 0 = (k :: st, 0))
    (hy : ∀ t, Tokish t → kd (T3 toks len) σ.pos = (tk t).1 → (yes ↔ (sts k t st).2 = true))
    (hn : kd (T3 toks len) σ.pos = 0 → ¬ yes)
    (hb : ∀ t, Tokish t → kd (T3 toks len) σ.pos = (tk t).1 → yes → deeper t = false ∧ shut t = false ∧ (sts k t st).1 = B t)
    (C : List (List UInt8)) (hc : ∀ t, Tokish t → kd (T3 toks len) σ.pos = (tk t).1 → yes → B t = C) :
    fin toks len σ (k :: st) = if yes then fin toks len (σ.adv (T3 toks len)) C else fin toks len (σ.ref (T3 toks len) 2) st := by
  by_cases he : σ.e = 0
  · rcases look (len := len) h σ ho.1 with ⟨t, i, hlt, h1, h2, h3, h4⟩ | ⟨h1, h2, h3, h4⟩
    · by_cases hyes : yes
      · rw [if_pos hyes]
        obtain ⟨g1, g2, g3⟩ := hb t h1 h2 hyes
        rw [fin_plain he h2 h1 h4 (hop t) ((hy t h1 h2).1 hyes) g1 g2, g3, hc t h1 h2 hyes]
      · rw [if_neg hyes, fin_ref _ he 2 (by omega), h3, fin_tok he h4 (hop t)]
        have : (sts k t st).2 = false := by
          cases hh : (sts k t st).2 with
          | false => rfl
          | true => exact absurd ((hy t h1 h2).2 hh) hyes
        rw [if_pos this]
    · rw [if_neg (hn h2), fin_ref _ he 2 (by omega), h3]
      exact fin_end he h4 ⟨k, st, 0, hop []⟩
  · have hpos := ho.err he
    rw [if_neg (hn (by rw [hpos]; exact kd_end _ _)), fin_err he]
    obtain ⟨r1, r2⟩ := ref_err (T3 toks len) σ 2 he
    rw [fin_err (by rw [r1]; exact he), r1, r2]

theorem lit_sts {c : List UInt8} {k : Int} (hc : (c, k) ∈ syms ++ kws) (t : List UInt8) (st : List (List UInt8)) : sts c t st = (st, c == t) ∧ opn t (c :: st) 0 = (c :: st, 0) := by
  have key : ∀ x ∈ syms ++ kws, (x.1 == cCommand) = false ∧ (x.1 == cFactor) = false ∧ (x.1 == cTerm) = false ∧ (x.1 == cRelation) = false ∧ (x.1 == cNumber) = false ∧ (x.1 == cCommands) = false ∧ (x.1 == cMoreCommands) = false ∧ (x.1 == cFormula) = false ∧ (x.1 == cMoreFormula) = false ∧ (x.1 == cMoreTerm) = false ∧ (x.1 == cNotEnds) = false ∧ (decide (((x.1.headD 0).toNat : Int) < 65) || decide (90 < ((x.1.headD 0).toNat : Int))) = true := by decide
  obtain ⟨k1, k2, k3, k4, k5, k6, k7, k8, k9, k10, k11, k12⟩ := key _ hc
  simp only at k1 k2 k3 k4 k5 k6 k7 k8 k9 k10 k11 k12
  refine ⟨?_, ?_⟩
  · unfold sts; rw [k1, k2, k3, k4, k5]; simp only [Bool.false_eq_true, if_false]
    unfold dflt; rw [k12, Bool.and_true]
  · rw [opn_cons, k6, k7, k8, k9, k10, k11]; simp

/-- A literal that must stand here. -/
theorem fin_exp (h : AllTok toks) {σ : PSt} (ho : Ok toks.length σ) {c : List UInt8} {k : Int} (hc : (c, k) ∈ syms ++ kws) (hd : deeper c = false) (hs : shut c = false) (st : List (List UInt8)) :
    fin toks len σ (c :: st) = fin toks len (σ.exp (T3 toks len) k) st := by
  have hr := sk_range _ hc
  simp only at hr
  have := fin_must h ho (k := c) (st := st) (fun _ => st) (kd (T3 toks len) σ.pos = k) (fun t => (lit_sts hc t st).2)
    (fun t ht e => by rw [e, (lit_sts hc t st).1, kind_lit t c k ht hc]; simp only [beq_iff_eq]; exact ⟨fun x => x.symm, fun x => x.symm⟩)
    (fun e => by omega)
    (fun t ht e y => by rw [e, kind_lit t c k ht hc] at y; subst y; exact ⟨hd, hs, by rw [(lit_sts hc _ st).1]⟩)
    st (fun _ _ _ _ => rfl)
  rw [this]; unfold PSt.exp; split <;> rfl

end Go.Proofs.YtkinoehmcfhgbaaGreatDoor.Av
