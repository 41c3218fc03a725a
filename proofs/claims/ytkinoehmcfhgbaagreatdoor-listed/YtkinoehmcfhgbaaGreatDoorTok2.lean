/-
  The walks of the program's package token, the rest: tokenAt, Scan.
-/
import Derived.Test.YtkinoehmcfhgbaaGreatDoorTok
set_option linter.unusedVariables false
namespace Go.Proofs.YtkinoehmcfhgbaaGreatDoor.Av
open Go.RowKit

theorem sg2_take (l : List UInt8) (n : Nat) (h : sg2 (l.take n) = true) : sg2 l = true := by
  match l, n, h with
  | a :: b :: r, n + 2, h => simpa [sg2] using h
  | a :: b :: r, 1, h => simp [sg2] at h
  | a :: b :: r, 0, h => simp [sg2] at h
  | [a], 0, h => simp [sg2] at h
  | [a], n + 1, h => simp [sg2] at h
  | [], n, h => simp [sg2] at h

theorem tk_sign (l : List UInt8) (h : 0 < sgn l) : tk (l.take (tlen l)) = (syk l, 0) := by
  have ht : tlen l = sgn l := by unfold tlen; rw [if_pos h]
  rw [ht]
  by_cases h2 : sg2 l = true
  · match l, h2 with
    | a :: b :: r, h2 =>
      have e : sgn (a :: b :: r) = 2 := by unfold sgn; rw [if_pos h2]
      rw [e]
      have h2' : sg2 [a, b] = true := by simpa [sg2] using h2
      have e' : sgn [a, b] = 2 := by unfold sgn; rw [if_pos h2']
      show tk [a, b] = _
      unfold tk syk; rw [e', if_pos h2', if_pos h2]; rfl
  · match l with
    | [] => simp [sgn, sg2] at h
    | a :: r =>
      have h1 : sg1 a = true := by
        cases hs : sg1 a with
        | true => rfl
        | false => unfold sgn at h; rw [if_neg h2] at h; simp [hs] at h
      have e : sgn (a :: r) = 1 := by unfold sgn; rw [if_neg h2]; simp [h1]
      rw [e]
      have e' : sgn [a] = 1 := by simp [sgn, sg2, h1]
      show tk [a] = _
      unfold tk syk; rw [e', if_neg h2]; simp [sg2]

theorem tk_word (a : UInt8) (r : List UInt8) (h : ¬ 0 < sgn (a :: r)) : tk ((a :: r).take (tlen (a :: r))) = wk ((a :: r).take (tlen (a :: r))) := by
  have ht : tlen (a :: r) = 1 + wlen r := by unfold tlen; rw [if_neg h]; rfl
  have h2 : ¬ sg2 (a :: r) = true := by
    intro hh; unfold sgn at h; rw [if_pos hh] at h; omega
  have h1 : ¬ sg1 a = true := by
    intro hh; unfold sgn at h; rw [if_neg h2] at h; simp [hh] at h
  have e : (a :: r).take (tlen (a :: r)) = a :: r.take (wlen r) := by rw [ht, Nat.add_comm]; rfl
  have h2' : ¬ sg2 (a :: r.take (wlen r)) = true := by
    intro hh; rw [← e] at hh; exact h2 (sg2_take _ _ hh)
  rw [e]
  have : sgn (a :: r.take (wlen r)) = 0 := by unfold sgn; rw [if_neg h2']; simp [h1]
  unfold tk; rw [this]; simp

theorem bcell {W w1 : World} (hb : Below W.heap.size W w1) : (∀ b o, b < W.heap.size → w1.cell? ⟨b, o, none⟩ = W.cell? ⟨b, o, none⟩) ∧ (∀ b o, b < W.heap.size → w1.frozen? ⟨b, o, none⟩ = W.frozen? ⟨b, o, none⟩) :=
  ⟨fun b o h => hb.cell (p := ⟨b, o, none⟩) h, fun b o h => hb.frozen (p := ⟨b, o, none⟩) h⟩

set_option maxHeartbeats 400000 in
theorem tokenAt_any (s : ByteArray) (k : Nat) (w : World) (hs : s.size ≤ 300) (h0 : k < s.size) :
    Calls Tryz.prog 107 #[.string s, .int .i64 (k : Int)] w fun e w' => e = .returned (.tuple #[.agg #[.int .i64 (tk ((rest s k).take (tlen (rest s k)))).1, .int .i64 (k : Int), .int .i64 (tk ((rest s k).take (tlen (rest s k)))).2], .int .i64 (tlen (rest s k) : Int)]) ∧ Below w.heap.size w w' := by
  by_cases hg : 0 < sgn (rest s k)
  · have ht : tlen (rest s k) = sgn (rest s k) := by unfold tlen; rw [if_pos hg]
    rw [tk_sign _ hg, ht]
    have C1 : Hid (∀ w, Calls Tryz.prog 150 #[.string s, .int .i64 (k : Int)] w fun e' w' => e' = .returned (.tuple #[.int .i64 (syk (rest s k)), .int .i64 (sgn (rest s k))]) ∧ w' = w) := fun w => symbolAt_any s k w hs h0
    clear ht
    generalize syk (rest s k) = Y at *
    generalize sgn (rest s k) = G at *
    go_enter Tryz.func107, Tryz.ntmps107
    go_wp2_with (go_at_call 150; refine (C1.out _).mono ?_; rintro e' w' ⟨rfl, rfl⟩)
    exact bodyPost_ret (v := .tuple #[.agg #[.int .i64 Y, .int .i64 (k : Int), .int .i64 0], .int .i64 (G : Int)]) (by simp [results, Tryz.results107, go_sem]) rfl ⟨rfl, (Below.refl _ _).alloc (Nat.le_refl _) _⟩
  · have hc := rest_cons s k h0
    have ht : tlen (rest s k) = 1 + wlen (rest s (k + 1)) := by unfold tlen; rw [if_neg hg, hc]; rfl
    have hw : tk ((rest s k).take (tlen (rest s k))) = wk ((rest s k).take (tlen (rest s k))) := by
      rw [hc] at hg ⊢; exact tk_word _ _ hg
    rw [hw]
    have hwl : wlen (rest s (k + 1)) ≤ s.size - (k + 1) := by have := wlen_le (rest s (k + 1)); rw [rest_len] at this; exact this
    have hx : (s.extract k (k + tlen (rest s k))).data.toList = (rest s k).take (tlen (rest s k)) := by rw [extract_rest]; congr 1; omega
    have hxs : (s.extract k (k + tlen (rest s k))).size = tlen (rest s k) := by simp; omega
    have C1 : Hid (∀ w, Calls Tryz.prog 150 #[.string s, .int .i64 (k : Int)] w fun e' w' => e' = .returned (.tuple #[.int .i64 (syk (rest s k)), .int .i64 (sgn (rest s k))]) ∧ w' = w) := fun w => symbolAt_any s k w hs h0
    have C2 : Hid (∀ w, Calls Tryz.prog 151 #[.string s, .int .i64 (k : Int)] w fun e' w' => e' = .returned (.int .i64 ((k + tlen (rest s k) : Nat) : Int)) ∧ w' = w) := fun w => by
      have := wordEnd_any s k w hs h0
      rw [ht, ← Nat.add_assoc]; exact this
    have C3 : Hid (∀ w, Calls Tryz.prog 152 #[.string (s.extract k (k + tlen (rest s k)))] w fun e' w' => e' = .returned (.tuple #[.int .i64 (wk ((rest s k).take (tlen (rest s k)))).1, .int .i64 (wk ((rest s k).take (tlen (rest s k)))).2]) ∧ w' = w) := fun w => by
      rw [← hx]; exact wordKind_any _ w (by omega) (by omega)
    have hT0 : 0 < tlen (rest s k) := tlen_pos _
    have hT : k + tlen (rest s k) ≤ s.size := by omega
    clear hx hxs hw ht hwl hc
    generalize wk ((rest s k).take (tlen (rest s k))) = R at *
    generalize tlen (rest s k) = T at *
    generalize syk (rest s k) = Y at *
    generalize sgn (rest s k) = G at *
    go_enter Tryz.func107, Tryz.ntmps107
    go_wp2_with (first | (go_at_call 150; refine (C1.out _).mono ?_; rintro e' w' ⟨rfl, rfl⟩) | (go_at_call 151; refine (C2.out _).mono ?_; rintro e' w' ⟨rfl, rfl⟩) | (go_at_call 152; refine (C3.out _).mono ?_; rintro e' w' ⟨rfl, rfl⟩))
    exact bodyPost_ret (v := .tuple #[.agg #[.int .i64 R.1, .int .i64 (k : Int), .int .i64 R.2], .int .i64 (T : Int)]) (by simp [results, Tryz.results107, go_sem]; try omega) rfl ⟨rfl, (Below.refl _ _).alloc (Nat.le_refl _) _⟩

theorem Tryz.infoTok : (Tryz.prog.info? 216).map (fun i => (i.zero, i.size, i.bytes)) = some (some (.agg #[.int .i64 0, .int .i64 0, .int .i64 0]), 3, 24) := by kernel_rfl

/-- The program's three cells of a token. -/
def cell3 (t : List UInt8 × Nat) : List Value := [.int .i64 (tk t.1).1, .int .i64 (t.2 : Int), .int .i64 (tk t.1).2]
def cells3 (l : List (List UInt8 × Nat)) : List Value := l.flatMap cell3
theorem cells3_len (l : List (List UInt8 × Nat)) : (cells3 l).length = l.length * 3 := by
  induction l with
  | nil => rfl
  | cons a r ih => simp only [cells3, List.flatMap_cons, List.length_append, List.length_cons] at ih ⊢; rw [ih]; simp [cell3]; omega

theorem own_below {w w1 : World} {base : Nat} {e : TypeId} {size : Nat} {v : Value} {n : Nat} {xs : List Value} (h : w.ownsRow base e size v n xs) (hb : Below w.heap.size w w1) : w1.ownsRow base e size v n xs := by
  obtain ⟨h1, h2⟩ := h
  refine ⟨h1, ?_⟩
  rcases h2 with h2 | ⟨g, cap, cur, hv, hg, hh, r⟩
  · exact Or.inl h2
  · have : g < w.heap.size := by
      rcases Nat.lt_or_ge g w.heap.size with h | h
      · exact h
      · rw [Array.getElem?_eq_none h] at hh; cases hh
    exact Or.inr ⟨g, cap, cur, hv, hg, by rw [hb.block g this]; exact hh, r⟩
theorem own_block {w : World} {base : Nat} {e : TypeId} {size : Nat} {v : Value} {n : Nat} {xs : List Value} (h : w.ownsRow base e size v n xs) : ∀ k, v.ownBlock = some k → base ≤ k := by
  intro k hk
  rcases h.2 with ⟨rfl, _⟩ | ⟨g, cap, cur, rfl, hg, _⟩
  · simp [Value.ownBlock] at hk
  · simp [Value.ownBlock] at hk; omega
theorem three_new (w : World) (a b c : Value) (t : TypeId) : ∀ j u, [a, b, c][j]? = some u → (w.alloc (.cells #[a, b, c] t)).cell? ((⟨w.heap.size, 0, none⟩ : Addr).add j) = some u := by
  intro j u h
  match j, h with
  | 0, h => simp at h; subst h; simp [Addr.add]
  | 1, h => simp at h; subst h; simp [Addr.add]
  | 2, h => simp at h; subst h; simp [Addr.add]

theorem three_new2 (w : World) (B : Nat) (hB : B = w.heap.size) (a b c : Value) (t : TypeId) : ∀ j u, [a, b, c][j]? = some u → (w.alloc (.cells #[a, b, c] t)).cell? ((⟨B, 0, none⟩ : Addr).add j) = some u := by
  subst hB; exact three_new w a b c t

set_option maxHeartbeats 400000 in
theorem scan_any (s : ByteArray) (w : World) (hs : s.size ≤ 300) :
    Calls Tryz.prog 69 #[.string s] w fun e w' => ∃ v, e = .returned v ∧ w'.ownsRow w.heap.size 216 3 v ((tokAt 0 (rest s 0)).length + 1) (cells3 (tokAt 0 (rest s 0)) ++ [.int .i64 0, .int .i64 (s.size : Int), .int .i64 0]) ∧ Below w.heap.size w w' := by
  obtain ⟨i0, hi, hz0, hz1, hz2⟩ := info_parts Tryz.infoTok
  go_enter Tryz.func69, Tryz.ntmps69
  go_wp2_with fail
  go_loopw [3, 4] (fun v i wr => ∃ (k : Nat) (ds : List (List UInt8 × Nat)), k ≤ s.size ∧ i = .int .i64 k ∧ wr.ownsRow w.heap.size 216 3 v ds.length (cells3 ds) ∧ tokAt 0 (rest s 0) = ds ++ tokAt k (rest s k) ∧ Below w.heap.size w wr) (fun _ i _ => s.size - (intOf i).toNat)
  case atStart => exact ⟨0, [], Nat.zero_le _, rfl, World.ownsRow_nil _ _ _ _, rfl, Below.refl _ _⟩
  case round =>
    obtain ⟨k, ds, hk, rfl, hown, hq, hnx⟩ := hrel
    have Q : Hid (tokAt 0 (rest s 0) = ds ++ tokAt k (rest s k)) := hq
    clear hq
    by_cases hlt : k < s.size
    · have C1 : Hid (∀ w, Calls Tryz.prog 106 #[.int .u8 (s[k].toNat : Int)] w fun e' w' => e' = .returned (.bool (blank s[k])) ∧ w' = w) := fun w => isBlank_byte _ _
      have hdl : ds.length ≤ 300 := by
        have hl := tokAt_len 0 (rest s 0)
        rw [rest_len, Q.out, List.length_append] at hl; omega
      have hsz := hnx.size
      obtain ⟨B, hB⟩ : ∃ B, blank s[k] = B := ⟨_, rfl⟩
      rw [hB] at C1
      cases B
      · have C2 : Hid (∀ w, Calls Tryz.prog 107 #[.string s, .int .i64 (k : Int)] w fun e w' => e = .returned (.tuple #[.agg #[.int .i64 (tk ((rest s k).take (tlen (rest s k)))).1, .int .i64 (k : Int), .int .i64 (tk ((rest s k).take (tlen (rest s k)))).2], .int .i64 (tlen (rest s k) : Int)]) ∧ Below w.heap.size w w') := fun w => tokenAt_any s k w hs hlt
        have hT : k + tlen (rest s k) ≤ s.size := by
          have := tlen_le s[k] (rest s (k + 1)); rw [← rest_cons s k hlt, rest_len] at this; omega
        have hT0 : 0 < tlen (rest s k) := tlen_pos _
        have Q2 : Hid (tokAt 0 (rest s 0) = (ds ++ [((rest s k).take (tlen (rest s k)), k)]) ++ tokAt (k + tlen (rest s k)) (rest s (k + tlen (rest s k)))) := by
          show _ = _
          have e := tokAt_tok k s[k] (rest s (k + 1)) hB
          rw [← rest_cons s k hlt, rest_drop] at e
          rw [Q.out, e, List.append_assoc]; rfl
        clear hB
        obtain ⟨t, ht⟩ : ∃ t, (rest s k).take (tlen (rest s k)) = t := ⟨_, rfl⟩
        rw [ht] at C2 Q2
        clear ht
        generalize tlen (rest s k) = T at *
        go_wp2_with fail
        refine (C1.out _).mono ?_
        rintro e' w' ⟨rfl, rfl⟩
        go_wp2_with fail
        refine (C2.out _).mono ?_
        rintro e' w1 ⟨rfl, hb1⟩
        have hown1 := own_below hown hb1
        have hnx1 := hnx.trans (hb1.mono hsz)
        have hsz1 := hb1.size
        clear hown hb1 C1 C2
        go_wp2_with (at_builtin; refine wpList_append_own _ rfl _ _ 145 rfl w.heap.size 216 i0 (.agg #[.int .i64 0, .int .i64 0, .int .i64 0]) 3 24 Tryz.underlying145 hi hz0 hz1 hz2 rfl (by decide) _ _ _ rfl ((hown1.alloc _).alloc _) ⟨w1.heap.size + 1, 0, none⟩ 1 1 (cell3 (t, k)) rfl rfl ?c1 ?c2 ?c3 ?c4 ?c5 ?_)
        case c1 => exact three_new2 _ _ (by simp) _ _ _ _
        case c2 => intro u hu; simp [cell3] at hu; rcases hu with rfl | rfl | rfl <;> rfl
        case c3 => unfold maxLen; omega
        case c4 => omega
        case c5 => simp; omega
        · intro v' w2 hown2 hgrow _
          have hb2 := ((hnx1.alloc (by omega) _).alloc (by simp; omega) _).grown hgrow (by simp; omega) (own_block hown1)
          clear hown1 hgrow
          go_wp2_with fail
          go_roundw
          case rel => exact ⟨k + T, ds ++ [(t, k)], by omega, by go_num, by simpa [cells3] using hown2, Q2.out, hb2⟩
          case measure => simp [intOf]; omega
      · have Q2 : Hid (tokAt 0 (rest s 0) = ds ++ tokAt (k + 1) (rest s (k + 1))) := by
          show _ = _
          rw [Q.out, rest_cons s k hlt, tokAt_blank _ _ _ hB]
        clear hB
        go_wp2_with (go_at_call 106; refine (C1.out _).mono ?_; rintro e' w' ⟨rfl, rfl⟩)
        go_roundw
        case rel => exact ⟨k + 1, ds, by omega, by go_num, hown, Q2.out, hnx⟩
        case measure => simp [intOf]; omega
    · have hl := tokAt_len 0 (rest s 0)
      rw [rest_len] at hl
      have hd : tokAt 0 (rest s 0) = ds := by rw [Q.out, rest_end s k (by omega), tokAt_nil, List.append_nil]
      have hdl : ds.length ≤ 300 := by rw [← hd]; omega
      clear hl
      have HD : Hid (tokAt 0 (rest s 0) = ds) := hd
      clear hd
      go_wp2_with (at_builtin; refine wpList_append_own _ rfl _ _ 145 rfl w.heap.size 216 i0 (.agg #[.int .i64 0, .int .i64 0, .int .i64 0]) 3 24 Tryz.underlying145 hi hz0 hz1 hz2 rfl (by decide) _ _ _ rfl (hown.alloc _) ⟨wr.heap.size, 0, none⟩ 1 1 [.int .i64 0, .int .i64 (s.size : Int), .int .i64 0] rfl rfl ?d1 ?d2 ?d3 ?d4 ?d5 ?_)
      case d1 => exact three_new _ _ _ _ _
      case d2 => intro u hu; simp at hu; rcases hu with rfl | rfl | rfl <;> rfl
      case d3 => unfold maxLen; omega
      case d4 => omega
      case d5 => have := hnx.size; simp; omega
      · intro v' w1 hown' hgrow _
        go_wp2_with fail
        go_ret
        refine ⟨v', rfl, ?_, ?_⟩
        · rw [HD.out]; exact hown'
        · exact (hnx.alloc hnx.size _).grown hgrow (by have := hnx.size; simp; omega) (own_block hown)

end Go.Proofs.YtkinoehmcfhgbaaGreatDoor.Av
