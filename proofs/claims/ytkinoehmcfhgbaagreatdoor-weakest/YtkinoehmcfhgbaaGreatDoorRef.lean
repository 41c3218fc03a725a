/-
  The walks of the document's own answer (package avouchref), what it reads of a text: sign, variable, digits, relation, Tokens.
  The walk of the document's own push: a stack of texts, the new ones on top.
-/
import Derived.Test.YtkinoehmcfhgbaaGreatDoorTok2
import Derived.Test.YtkinoehmcfhgbaaGreatDoorMc
set_option linter.unusedVariables false
set_option linter.unusedSimpArgs false
namespace Go.Proofs.YtkinoehmcfhgbaaGreatDoor.Av
open Go.RowKit

theorem sgn_u8 (s : ByteArray) (k : Nat) (h0 : k < s.size) (h2 : ¬ sg2 (rest s k) = true) :
    sgn (rest s k) = if ((s[k].toNat : Int) == 40) || ((s[k].toNat : Int) == 41) || ((s[k].toNat : Int) == 59) || ((s[k].toNat : Int) == 60) || ((s[k].toNat : Int) == 61) || ((s[k].toNat : Int) == 62) || ((s[k].toNat : Int) == 43) || ((s[k].toNat : Int) == 45) then 1 else 0 := by
  have e1 : ((s[k].toNat : Int) == 40) = (s[k] == 40) := u8_beq s[k] 40 (by omega)
  have e2 : ((s[k].toNat : Int) == 41) = (s[k] == 41) := u8_beq s[k] 41 (by omega)
  have e3 : ((s[k].toNat : Int) == 59) = (s[k] == 59) := u8_beq s[k] 59 (by omega)
  have e4 : ((s[k].toNat : Int) == 60) = (s[k] == 60) := u8_beq s[k] 60 (by omega)
  have e5 : ((s[k].toNat : Int) == 61) = (s[k] == 61) := u8_beq s[k] 61 (by omega)
  have e6 : ((s[k].toNat : Int) == 62) = (s[k] == 62) := u8_beq s[k] 62 (by omega)
  have e7 : ((s[k].toNat : Int) == 43) = (s[k] == 43) := u8_beq s[k] 43 (by omega)
  have e8 : ((s[k].toNat : Int) == 45) = (s[k] == 45) := u8_beq s[k] 45 (by omega)
  rw [e1, e2, e3, e4, e5, e6, e7, e8]
  rw [rest_cons s k h0] at h2 ⊢
  unfold sgn; rw [if_neg h2]; rfl

theorem sg2_two (s : ByteArray) (k : Nat) (h : k + 2 ≤ s.size) : sg2 (rest s k) = (((s.extract k (k + 2)).toList == [58, 61]) || ((s.extract k (k + 2)).toList == [60, 61]) || ((s.extract k (k + 2)).toList == [62, 61])) := by
  rw [ByteArray.toList_eq, extract_rest, rest_cons s k (by omega), rest_cons s (k + 1) (by omega)]
  simp [sg2]
theorem sg2_one (s : ByteArray) (k : Nat) (h : ¬ k + 2 ≤ s.size) : sg2 (rest s k) = false := by
  by_cases h0 : k < s.size
  · rw [rest_cons s k h0, rest_end s (k + 1) (by omega)]; rfl
  · rw [rest_end s k (by omega)]; rfl

theorem sgn_two (s : ByteArray) (k : Nat) (h : k + 2 ≤ s.size) : ((sgn (rest s k) : Nat) : Int) = if (((s.extract k (k + 2)).toList == [58, 61]) || ((s.extract k (k + 2)).toList == [60, 61]) || ((s.extract k (k + 2)).toList == [62, 61])) then 2 else if ((s[k].toNat : Int) == 40) || ((s[k].toNat : Int) == 41) || ((s[k].toNat : Int) == 59) || ((s[k].toNat : Int) == 60) || ((s[k].toNat : Int) == 61) || ((s[k].toNat : Int) == 62) || ((s[k].toNat : Int) == 43) || ((s[k].toNat : Int) == 45) then 1 else 0 := by
  rw [← sg2_two s k h]
  by_cases h2 : sg2 (rest s k) = true
  · rw [if_pos h2]; unfold sgn; rw [if_pos h2]; rfl
  · rw [if_neg h2, sgn_u8 s k (by omega) h2]; split <;> rfl
theorem sgn_one (s : ByteArray) (k : Nat) (h0 : k < s.size) (h : ¬ k + 2 ≤ s.size) : ((sgn (rest s k) : Nat) : Int) = if ((s[k].toNat : Int) == 40) || ((s[k].toNat : Int) == 41) || ((s[k].toNat : Int) == 59) || ((s[k].toNat : Int) == 60) || ((s[k].toNat : Int) == 61) || ((s[k].toNat : Int) == 62) || ((s[k].toNat : Int) == 43) || ((s[k].toNat : Int) == 45) then 1 else 0 := by
  rw [sgn_u8 s k h0 (by rw [sg2_one s k h]; simp)]; split <;> rfl

set_option maxHeartbeats 1000000 in
theorem sign_any (s : ByteArray) (k : Nat) (w : World) (hs : s.size ≤ 300) (h0 : k < s.size) :
    Calls Tryz.prog 98 #[.string s, .int .i64 (k : Int)] w fun e w' => e = .returned (.int .i64 (sgn (rest s k) : Int)) ∧ w' = w := by
  by_cases h : k + 2 ≤ s.size
  · have H := sgn_two s k h
    generalize ((sgn (rest s k) : Nat) : Int) = G at *
    have H2 : Hid _ := H
    clear H
    have h' : (k : Int) + 2 ≤ (s.size : Int) := by omega
    go_enter Tryz.func98, Tryz.ntmps98
    go_wp2
    all_goals go_ret
    all_goals refine ⟨ret_int ?_, rfl⟩
    all_goals rw [H2.out]
    all_goals first | (simp only [*, Bool.or_true, Bool.true_or, Bool.or_false, Bool.or_self, if_true, Bool.false_eq_true, if_false]; done) | (exfalso; simp_all; done)
  · have H := sgn_one s k h0 h
    generalize ((sgn (rest s k) : Nat) : Int) = G at *
    have H2 : Hid _ := H
    clear H
    have h' : ¬ ((k : Int) + 2 ≤ (s.size : Int)) := by omega
    go_enter Tryz.func98, Tryz.ntmps98
    go_wp2
    all_goals go_ret
    all_goals refine ⟨ret_int ?_, rfl⟩
    all_goals rw [H2.out]
    all_goals first | (simp only [*, Bool.or_true, Bool.true_or, Bool.or_false, Bool.or_self, if_true, Bool.false_eq_true, if_false]; done) | (exfalso; simp_all; done)

set_option maxHeartbeats 400000 in
theorem rvariable_any (s : ByteArray) (w : World) :
    Calls Tryz.prog 145 #[.string s] w fun e w' => e = .returned (.int .i64 (vr s.data.toList)) ∧ w' = w := by
  rw [← ByteArray.toList_eq]
  go_enter Tryz.func145, Tryz.ntmps145
  go_wp2
  all_goals go_ret
  all_goals exact ⟨ret_int (by simp only [vr, *, if_true, Bool.false_eq_true, if_false]), rfl⟩

set_option maxHeartbeats 400000 in
theorem relation_any (s : ByteArray) (w : World) :
    Calls Tryz.prog 147 #[.string s] w fun e w' => e = .returned (.bool (rl s.data.toList)) ∧ w' = w := by
  rw [← ByteArray.toList_eq]
  generalize hR : rl s.toList = R
  have E : Hid (rl s.toList = R) := hR
  clear hR
  go_enter Tryz.func147, Tryz.ntmps147
  go_wp2
  all_goals go_ret
  all_goals refine ⟨ret_bool ?_, rfl⟩
  all_goals rw [← E.out]
  all_goals first | rfl | (simp [rl, *]; done)

theorem dgo_zero (c : UInt8) (r : List UInt8) (m : Int) : dg m (c :: r) = if c == 48 && !r.isEmpty then -1 else dgo m (c :: r) 0 := rfl

set_option maxHeartbeats 1000000 in
theorem digits_any (s : ByteArray) (w : World) (m : Int) (hs : s.size ≤ 300) (hm : 0 ≤ m) (hm9 : m ≤ 999999) :
    Calls Tryz.prog 146 #[.string s, .int .i64 m] w fun e w' => e = .returned (.int .i64 (dg m s.data.toList)) ∧ w' = w := by
  by_cases h0 : 0 < s.size
  · have hd : s.data.toList = s[0] :: rest s 1 := rest_cons s 0 h0
    have hne : (s.toList.isEmpty) = false := by rw [ByteArray.toList_eq, hd]; rfl
    have hl : (rest s 1).length = s.size - 1 := rest_len s 1
    have e48 : ((s[0].toNat : Int) == 48) = (s[0] == 48) := u8_beq s[0] 48 (by omega)
    by_cases hA : ((s[0].toNat : Int) == 48) = true ∧ (1 : Int) < (s.size : Int)
    · obtain ⟨h2, h1⟩ := hA
      have H : Hid (dg m s.data.toList = -1) := by
        show dg m s.data.toList = -1
        have : (rest s 1).isEmpty = false := by
          rw [List.isEmpty_eq_false_iff]; intro h; rw [h] at hl; simp at hl; omega
        rw [hd, dgo_zero, ← e48, h2, this]; rfl
      clear hd hl e48
      go_enter Tryz.func146, Tryz.ntmps146
      go_wp2
      go_ret
      exact ⟨ret_int H.out.symm, rfl⟩
    · have H : Hid (dg m s.data.toList = dgo m (rest s 0) 0) := by
        show dg m s.data.toList = dgo m s.data.toList 0
        have : (s[0] == 48 && !(rest s 1).isEmpty) = false := by
          rw [← e48]
          by_cases h1 : (1 : Int) < (s.size : Int)
          · have : ((s[0].toNat : Int) == 48) = false := by
              rw [Bool.eq_false_iff]; intro h2; exact hA ⟨h2, h1⟩
            rw [this]; rfl
          · have : rest s 1 = [] := by rw [← List.length_eq_zero_iff]; omega
            rw [this]; simp
        rw [hd, dgo_zero, this]; rfl
      have hh : (((s[0].toNat : Int) == 48) = true ∧ ¬ (1 : Int) < (s.size : Int)) ∨ ((s[0].toNat : Int) == 48) = false := by
        cases hc : ((s[0].toNat : Int) == 48) with
        | false => exact Or.inr rfl
        | true => exact Or.inl ⟨rfl, fun h1 => hA ⟨hc, h1⟩⟩
      clear hd hl e48 hA
      rcases hh with ⟨hh, hh'⟩ | hh
      all_goals
        go_enter Tryz.func146, Tryz.ntmps146
        go_wp2
        go_loop [5, 6] (fun v i => ∃ (k : Nat) (n : Int), k ≤ s.size ∧ i = .int .i64 k ∧ v = .int .i64 n ∧ 0 ≤ n ∧ n ≤ m ∧ dgo m (rest s 0) 0 = dgo m (rest s k) n) (fun _ i => s.size - (intOf i).toNat)
        case atStart => exact ⟨0, 0, Nat.zero_le _, rfl, rfl, by omega, by omega, rfl⟩
        case round =>
          obtain ⟨k, n, hk, rfl, rfl, hn0, hn9, hq⟩ := hrel
          have Q : Hid (dgo m (rest s 0) 0 = dgo m (rest s k) n) := hq
          clear hq
          by_cases hlt : k < s.size
          · have hb : s[k].toNat < 256 := UInt8.toNat_lt _
            have E : Hid (dgo m (rest s k) n = if (s[k].toNat : Int) < 48 ∨ 57 < (s[k].toNat : Int) then -1 else if m < n * 10 + ((s[k].toNat : Int) - 48) then -1 else dgo m (rest s (k + 1)) (n * 10 + ((s[k].toNat : Int) - 48))) := by
              show _ = _
              rw [rest_cons s k hlt]; rfl
            go_wp2
            case roundEnd =>
              go_round
              case rel => exact ⟨k + 1, _, by omega, by go_num, rfl, by omega, by omega, by rw [Q.out, E.out, if_neg (by omega), if_neg (by omega), Int.mul_comm n 10]⟩
              case measure => simp [intOf]; omega
            all_goals go_ret
            · exact ⟨ret_int (by rw [H.out, Q.out, E.out, if_pos (by omega)]), rfl⟩
            · exact ⟨ret_int (by rw [H.out, Q.out, E.out, if_neg (by omega), if_pos (by omega)]), rfl⟩
            · exact ⟨ret_int (by rw [H.out, Q.out, E.out, if_pos (by omega)]), rfl⟩
          · go_wp2
            go_ret
            exact ⟨ret_int (by rw [H.out, Q.out, rest_end s k (by omega)]; rfl), rfl⟩
  · have H : Hid (dg m s.data.toList = -1) := by
      show dg m s.data.toList = -1
      have : s.data.toList = [] := rest_end s 0 (by omega)
      rw [this]; rfl
    have he : s.toList.isEmpty = true := by
      have : s.data.toList = [] := rest_end s 0 (by omega)
      rw [ByteArray.toList_eq, this]; rfl
    go_enter Tryz.func146, Tryz.ntmps146
    go_wp2
    go_ret
    exact ⟨ret_int H.out.symm, rfl⟩

theorem Tryz.infoRef : (Tryz.prog.info? 206).map (fun i => (i.zero, i.size, i.bytes)) = some (some (.agg #[.string ByteArray.empty, .int .i64 0]), 2, 24) := by kernel_rfl

/-- The document's two cells of a token. -/
def cell2 (t : List UInt8 × Nat) : List Value := [.string ⟨t.1.toArray⟩, .int .i64 (t.2 : Int)]
def cells2 (l : List (List UInt8 × Nat)) : List Value := l.flatMap cell2
theorem two_new2 (w : World) (B : Nat) (hB : B = w.heap.size) (a b : Value) (t : TypeId) : ∀ j u, [a, b][j]? = some u → (w.alloc (.cells #[a, b] t)).cell? ((⟨B, 0, none⟩ : Addr).add j) = some u := by
  subst hB
  intro j u h
  match j, h with
  | 0, h => simp at h; subst h; simp [Addr.add]
  | 1, h => simp at h; subst h; simp [Addr.add]
theorem one_si (x : ByteArray) (n : Int) : ∀ u ∈ [Value.string x, .int .i64 n], u.oneCell' = true := by
  intro u hu; simp at hu; rcases hu with rfl | rfl <;> rfl
theorem extract_str (s : ByteArray) (k e : Nat) : s.extract k e = ⟨((rest s k).take (e - k)).toArray⟩ := by
  apply Go.WideShapes.bytes_inj; rw [extract_rest]

set_option maxRecDepth 100000 in
set_option maxHeartbeats 1000000 in
theorem tokens_any (s : ByteArray) (w : World) (hs : s.size ≤ 300) :
    Calls Tryz.prog 62 #[.string s] w fun e w' => ∃ v, e = .returned v ∧ w'.ownsRow w.heap.size 206 2 v (tokAt 0 (rest s 0)).length (cells2 (tokAt 0 (rest s 0))) ∧ Below w.heap.size w w' := by
  obtain ⟨i0, hi, hz0, hz1, hz2⟩ := info_parts Tryz.infoRef
  go_enter Tryz.func62, Tryz.ntmps62
  go_wp2_with fail
  go_loopw [3, 4] (fun v i wr => ∃ (k : Nat) (ds : List (List UInt8 × Nat)), k ≤ s.size ∧ i = .int .i64 k ∧ wr.ownsRow w.heap.size 206 2 v ds.length (cells2 ds) ∧ tokAt 0 (rest s 0) = ds ++ tokAt k (rest s k) ∧ Below w.heap.size w wr) (fun _ i _ => s.size - (intOf i).toNat)
  case atStart => exact ⟨0, [], Nat.zero_le _, rfl, World.ownsRow_nil _ _ _ _, rfl, Below.refl _ _⟩
  case round =>
    obtain ⟨k, ds, hk, rfl, hown, hq, hnx⟩ := hrel
    have Q : Hid (tokAt 0 (rest s 0) = ds ++ tokAt k (rest s k)) := hq
    clear hq
    by_cases hlt : k < s.size
    · have C1 : Hid (∀ w, Calls Tryz.prog 98 #[.string s, .int .i64 (k : Int)] w fun e' w' => e' = .returned (.int .i64 (sgn (rest s k) : Int)) ∧ w = w') := fun w => (sign_any _ _ _ hs hlt).mono fun _ _ h => ⟨h.1, h.2.symm⟩
      have hdl : ds.length ≤ 300 := by
        have hl := tokAt_len 0 (rest s 0)
        rw [rest_len, Q.out, List.length_append] at hl; omega
      have hsz := hnx.size
      have hsg := (sgn_le (rest s k)).2
      by_cases hB : blank s[k] = true
      · have Q2 : Hid (tokAt 0 (rest s 0) = ds ++ tokAt (k + 1) (rest s (k + 1))) := by
          show _ = _
          rw [Q.out, rest_cons s k hlt, tokAt_blank _ _ _ hB]
        have hb : ((s[k].toNat : Int) == 32) = true ∨ (((s[k].toNat : Int) == 32) = false ∧ ((s[k].toNat : Int) == 10) = true) := by
          rw [← blank_int] at hB
          cases h1 : ((s[k].toNat : Int) == 32) with
          | true => exact Or.inl rfl
          | false => rw [h1, Bool.false_or] at hB; exact Or.inr ⟨rfl, hB⟩
        clear hB
        generalize sgn (rest s k) = G at *
        rcases hb with hb | ⟨hb, hb'⟩
        all_goals
          go_wp2_with (go_at_call 98; refine (C1.out _).mono ?_; rintro e' w' ⟨rfl, rfl⟩)
          go_roundw
          case rel => exact ⟨k + 1, ds, by omega, by go_num, hown, Q2.out, hnx⟩
          case measure => simp [intOf]; omega
      · have hB : blank s[k] = false := by simpa using hB
        have hb : ((s[k].toNat : Int) == 32) = false ∧ ((s[k].toNat : Int) == 10) = false := by
          have h := hB
          rw [← blank_int, Bool.or_eq_false_iff] at h; exact h
        obtain ⟨hb1, hb2⟩ := hb
        have hT : k + tlen (rest s k) ≤ s.size := by
          have := tlen_le s[k] (rest s (k + 1)); rw [← rest_cons s k hlt, rest_len] at this; omega
        have hT0 : 0 < tlen (rest s k) := tlen_pos _
        have Q2 : Hid (tokAt 0 (rest s 0) = (ds ++ [((rest s k).take (tlen (rest s k)), k)]) ++ tokAt (k + tlen (rest s k)) (rest s (k + tlen (rest s k)))) := by
          show _ = _
          have e := tokAt_tok k s[k] (rest s (k + 1)) hB
          rw [← rest_cons s k hlt, rest_drop] at e
          rw [Q.out, e, List.append_assoc]; rfl
        clear hB
        have hx : s.extract k (k + tlen (rest s k)) = ⟨((rest s k).take (tlen (rest s k))).toArray⟩ := by
          rw [extract_str]; rw [Nat.add_sub_cancel_left]
        obtain ⟨t, ht⟩ : ∃ t, (rest s k).take (tlen (rest s k)) = t := ⟨_, rfl⟩
        rw [ht] at Q2 hx
        clear ht
        by_cases hG : 0 < sgn (rest s k)
        · have hTG : tlen (rest s k) = sgn (rest s k) := by unfold tlen; rw [if_pos hG]
          rw [hTG] at Q2 hx hT hT0
          clear hTG
          generalize sgn (rest s k) = T at *
          have hG0 : ((T : Int) == 0) = false := by rw [beq_eq_false_iff_ne]; omega
          have HX : Hid (s.extract k (k + T) = ⟨t.toArray⟩) := hx
          clear hx
          go_wp2_with (go_at_call 98; refine (C1.out _).mono ?_; rintro e' w' ⟨rfl, rfl⟩)
          go_loop [6, 7] (fun e _ => e = .int .i64 ((k + T : Nat) : Int)) (fun _ _ => 0)
          case atStart => go_num
          case round =>
            subst hrel
            go_wp2_with (at_builtin; refine wpList_append_own _ rfl _ _ 77 rfl w.heap.size 206 i0 (.agg #[.string ByteArray.empty, .int .i64 0]) 2 24 Tryz.underlying77 hi hz0 hz1 hz2 rfl (by decide) _ _ _ rfl (hown.alloc _) ⟨wr.heap.size, 0, none⟩ 1 1 [.string (s.extract k (k + T)), .int .i64 (k : Int)] rfl rfl (two_new2 _ _ rfl _ _ _) (one_si _ _) (by unfold maxLen; omega) (by omega) (by simp; omega) ?_)
            · intro v' w2 hown2 hgrow _
              have hb2 := (hnx.alloc (by omega) _).grown hgrow (by simp; omega) (own_block hown)
              rw [HX.out] at hown2
              clear hown hgrow
              go_wp2_with fail
              go_roundw
              case rel => exact ⟨k + T, ds ++ [(t, k)], by omega, by go_num, by simpa [cells2, cell2] using hown2, Q2.out, hb2⟩
              case measure => simp [intOf]; omega
        · have hTG : tlen (rest s k) = 1 + wlen (rest s (k + 1)) := by unfold tlen; rw [if_neg hG, rest_cons s k hlt]; rfl
          have hG' : sgn (rest s k) = 0 := by omega
          rw [hG'] at C1
          have HX : Hid (s.extract k (k + tlen (rest s k)) = ⟨t.toArray⟩) := hx
          have HT : Hid (tlen (rest s k) = 1 + wlen (rest s (k + 1))) := hTG
          have HG : Hid (sgn (rest s k) = 0) := hG'
          clear hx hTG hG' hG hsg
          generalize tlen (rest s k) = T at *
          go_wp2_with (go_at_call 98; refine (C1.out _).mono ?_; rintro e' w' ⟨rfl, rfl⟩)
          clear C1
          go_loop [6, 7] (fun e _ => ∃ n : Nat, k ≤ n ∧ n ≤ k + T ∧ e = .int .i64 (n : Int) ∧ (n = k ∨ (k < n ∧ k + T = n + wlen (rest s n)))) (fun e _ => s.size - (intOf e).toNat)
          case atStart => exact ⟨k, Nat.le_refl _, by omega, by go_num, Or.inl rfl⟩
          case round =>
            obtain ⟨n, hn1, hn2, rfl, hn⟩ := hrel
            have HN : Hid (n = k ∨ (k < n ∧ k + T = n + wlen (rest s n))) := hn
            clear hn
            by_cases hin : n < s.size
            · by_cases hex : blank s[n] = true
              · have hnT : n = k + T := by
                  rcases HN.out with h | ⟨h1, h2⟩
                  · exfalso
                    subst h
                    rw [← blank_int, hb1, hb2] at hex; cases hex
                  · rw [rest_cons s n hin, wlen, if_pos (by rw [hex]; rfl)] at h2; omega
                have hb : ((s[n].toNat : Int) != 32) = false ∨ (((s[n].toNat : Int) != 32) = true ∧ ((s[n].toNat : Int) != 10) = false) := by
                  rw [← blank_int] at hex
                  cases h1 : ((s[n].toNat : Int) == 32) with
                  | true => left; simp [bne, h1]
                  | false => rw [h1, Bool.false_or] at hex; right; simp [bne, h1, hex]
                clear HN hex
                subst hnT
                rcases hb with hb | ⟨hb, hb'⟩
                · skip
                  go_wp2_with (at_builtin; refine wpList_append_own _ rfl _ _ 77 rfl w.heap.size 206 i0 (.agg #[.string ByteArray.empty, .int .i64 0]) 2 24 Tryz.underlying77 hi hz0 hz1 hz2 rfl (by decide) _ _ _ rfl (hown.alloc _) ⟨wr.heap.size, 0, none⟩ 1 1 [.string (s.extract k (k + T)), .int .i64 (k : Int)] rfl rfl (two_new2 _ _ rfl _ _ _) (one_si _ _) (by unfold maxLen; omega) (by omega) (by simp; omega) ?_)
                  · intro v' w2 hown2 hgrow _
                    have hb2 := (hnx.alloc (by omega) _).grown hgrow (by simp; omega) (own_block hown)
                    rw [HX.out] at hown2
                    clear hown hgrow
                    go_wp2_with fail
                    go_roundw
                    case rel => exact ⟨k + T, ds ++ [(t, k)], by omega, by go_num, by simpa [cells2, cell2] using hown2, Q2.out, hb2⟩
                    case measure => simp [intOf]; omega
                · skip
                  go_wp2_with (at_builtin; refine wpList_append_own _ rfl _ _ 77 rfl w.heap.size 206 i0 (.agg #[.string ByteArray.empty, .int .i64 0]) 2 24 Tryz.underlying77 hi hz0 hz1 hz2 rfl (by decide) _ _ _ rfl (hown.alloc _) ⟨wr.heap.size, 0, none⟩ 1 1 [.string (s.extract k (k + T)), .int .i64 (k : Int)] rfl rfl (two_new2 _ _ rfl _ _ _) (one_si _ _) (by unfold maxLen; omega) (by omega) (by simp; omega) ?_)
                  · intro v' w2 hown2 hgrow _
                    have hb2 := (hnx.alloc (by omega) _).grown hgrow (by simp; omega) (own_block hown)
                    rw [HX.out] at hown2
                    clear hown hgrow
                    go_wp2_with fail
                    go_roundw
                    case rel => exact ⟨k + T, ds ++ [(t, k)], by omega, by go_num, by simpa [cells2, cell2] using hown2, Q2.out, hb2⟩
                    case measure => simp [intOf]; omega
              · have hex' : ((s[n].toNat : Int) != 32) = true ∧ ((s[n].toNat : Int) != 10) = true := by
                  have h : blank s[n] = false := by simpa using hex
                  rw [← blank_int, Bool.or_eq_false_iff] at h
                  simp [bne, h.1, h.2]
                obtain ⟨hx1, hx2⟩ := hex'
                have C2 : Hid (∀ w, Calls Tryz.prog 98 #[.string s, .int .i64 (n : Int)] w fun e' w' => e' = .returned (.int .i64 (sgn (rest s n) : Int)) ∧ w = w') := fun w => (sign_any _ _ _ hs hin).mono fun _ _ h => ⟨h.1, h.2.symm⟩
                have hsg := (sgn_le (rest s n)).2
                by_cases hgn : 0 < sgn (rest s n)
                · have hnT : n = k + T := by
                    rcases HN.out with h | ⟨h1, h2⟩
                    · exfalso; subst h; have := HG.out; omega
                    · rw [rest_cons s n hin] at hgn h2
                      rw [wlen, if_pos (by simp [hgn])] at h2; omega
                  clear HN hex
                  subst hnT
                  generalize sgn (rest s (k + T)) = G at *
                  go_wp2_with (first | (go_at_call 98; refine (C2.out _).mono ?_; rintro e' w' ⟨rfl, rfl⟩) | (at_builtin; refine wpList_append_own _ rfl _ _ 77 rfl w.heap.size 206 i0 (.agg #[.string ByteArray.empty, .int .i64 0]) 2 24 Tryz.underlying77 hi hz0 hz1 hz2 rfl (by decide) _ _ _ rfl (hown.alloc _) ⟨wr.heap.size, 0, none⟩ 1 1 [.string (s.extract k (k + T)), .int .i64 (k : Int)] rfl rfl (two_new2 _ _ rfl _ _ _) (one_si _ _) (by unfold maxLen; omega) (by omega) (by simp; omega) ?_))
                  · intro v' w2 hown2 hgrow _
                    have hb2 := (hnx.alloc (by omega) _).grown hgrow (by simp; omega) (own_block hown)
                    rw [HX.out] at hown2
                    clear hown hgrow
                    go_wp2_with fail
                    go_roundw
                    case rel => exact ⟨k + T, ds ++ [(t, k)], by omega, by go_num, by simpa [cells2, cell2] using hown2, Q2.out, hb2⟩
                    case measure => simp [intOf]; omega
                · have HN2 : Hid (k + T = n + 1 + wlen (rest s (n + 1))) := by
                    show k + T = n + 1 + wlen (rest s (n + 1))
                    rcases HN.out with h | ⟨h1, h2⟩
                    · subst h; have := HT.out; omega
                    · rw [rest_cons s n hin] at hgn h2
                      rw [wlen, if_neg (by simp [hgn, hex])] at h2; omega
                  clear HN hex
                  generalize sgn (rest s n) = G at *
                  go_wp2_with (go_at_call 98; refine (C2.out _).mono ?_; rintro e' w' ⟨rfl, rfl⟩)
                  go_round
                  case rel => exact ⟨n + 1, by omega, by have := HN2.out; omega, by go_num, Or.inr ⟨by omega, HN2.out⟩⟩
                  case measure => simp [intOf]; omega
            · have hnT : n = k + T := by
                rcases HN.out with h | ⟨h1, h2⟩
                · omega
                · rw [rest_end s n (by omega)] at h2; simp [wlen] at h2; omega
              clear HN
              subst hnT
              go_wp2_with (at_builtin; refine wpList_append_own _ rfl _ _ 77 rfl w.heap.size 206 i0 (.agg #[.string ByteArray.empty, .int .i64 0]) 2 24 Tryz.underlying77 hi hz0 hz1 hz2 rfl (by decide) _ _ _ rfl (hown.alloc _) ⟨wr.heap.size, 0, none⟩ 1 1 [.string (s.extract k (k + T)), .int .i64 (k : Int)] rfl rfl (two_new2 _ _ rfl _ _ _) (one_si _ _) (by unfold maxLen; omega) (by omega) (by simp; omega) ?_)
              · intro v' w2 hown2 hgrow _
                have hb2 := (hnx.alloc (by omega) _).grown hgrow (by simp; omega) (own_block hown)
                rw [HX.out] at hown2
                clear hown hgrow
                go_wp2_with fail
                go_roundw
                case rel => exact ⟨k + T, ds ++ [(t, k)], by omega, by go_num, by simpa [cells2, cell2] using hown2, Q2.out, hb2⟩
                case measure => simp [intOf]; omega
    · have hd : tokAt 0 (rest s 0) = ds := by rw [Q.out, rest_end s k (by omega), tokAt_nil, List.append_nil]
      have HD : Hid (tokAt 0 (rest s 0) = ds) := hd
      clear hd
      go_wp2_with fail
      go_ret
      exact ⟨_, rfl, by rw [HD.out]; exact hown, hnx⟩

end Go.Proofs.YtkinoehmcfhgbaaGreatDoor.Av
set_option linter.unusedVariables false
set_option linter.unusedSimpArgs false
namespace Go.Proofs.YtkinoehmcfhgbaaGreatDoor.Av
open Go.RowKit

def str (t : List UInt8) : Value := .string ⟨t.toArray⟩
/-- A list of texts as it lies in memory. -/
def Strs (w : World) (v : Value) (ls : List (List UInt8)) : Prop :=
  (v = .slice none 0 0 ∧ ls = []) ∨ ∃ b cap, v = .slice (some ⟨b, 0, none⟩) ls.length cap ∧ ls.length ≤ cap ∧ cap ≤ maxLen ∧ b < w.heap.size ∧ ∀ j t, ls[j]? = some t → w.cell? ⟨b, j, none⟩ = some (str t)
theorem Strs.below {w w' : World} {v : Value} {ls : List (List UInt8)} (h : Strs w v ls) (hb : Below w.heap.size w w') : Strs w' v ls := by
  rcases h with h | ⟨b, cap, h1, h2, h3, h4, h5⟩
  · exact Or.inl h
  · exact Or.inr ⟨b, cap, h1, h2, h3, Nat.lt_of_lt_of_le h4 hb.size, fun j t ht => (hb.cell (p := ⟨b, j, none⟩) h4).trans (h5 j t ht)⟩
theorem Strs.pop {w : World} {b cap n : Nat} {ls : List (List UInt8)} (h : Strs w (.slice (some ⟨b, 0, none⟩) n cap) ls) (m : Nat) (hm : m ≤ n) : Strs w (.slice (some ⟨b, 0, none⟩) m cap) (ls.take m) := by
  rcases h with ⟨h, _⟩ | ⟨b', cap', h1, h2, h3, h4, h5⟩
  · cases h
  · cases h1
    refine Or.inr ⟨b, cap, by rw [List.length_take, Nat.min_eq_left hm], by rw [List.length_take]; omega, h3, h4, fun j t ht => h5 j t ?_⟩
    rw [List.getElem?_take] at ht
    split at ht
    · exact ht
    · cases ht
theorem own_strs {w : World} {base : Nat} {v : Value} {ls : List (List UInt8)} (h : w.ownsRow base 9 1 v ls.length (ls.map str)) : Strs w v ls := by
  rcases h.2 with ⟨h1, h2⟩ | ⟨g, cap, cur, hv, hg, hh, h3, h4, h5, h6⟩
  · exact Or.inl ⟨h1, by cases ls <;> simp_all⟩
  · have hlt : g < w.heap.size := by
      rcases Nat.lt_or_ge g w.heap.size with h | h
      · exact h
      · rw [Array.getElem?_eq_none h] at hh; cases hh
    refine Or.inr ⟨g, cap, hv, h3, h4, hlt, fun j t ht => ?_⟩
    have hj : j < ls.length := by
      rcases Nat.lt_or_ge j ls.length with h | h
      · exact h
      · rw [List.getElem?_eq_none h] at ht; cases ht
    have e : cur[j]? = some (str t) := by
      have : (cur.toList.take (ls.length * 1))[j]? = some (str t) := by rw [h6, List.getElem?_map, ht]; rfl
      rw [List.getElem?_take] at this
      rw [if_pos (by omega)] at this
      simpa using this
    simp [World.cell?, hh, e]

theorem Tryz.infoStr : (Tryz.prog.info? 9).map (fun i => (i.zero, i.size, i.bytes)) = some (some (.string ByteArray.empty), 1, 16) := by kernel_rfl
theorem one_new2 (w : World) (B : Nat) (hB : B = w.heap.size) (a : Value) (t : TypeId) : ∀ j u, [a][j]? = some u → (w.alloc (.cells #[a] t)).cell? ((⟨B, 0, none⟩ : Addr).add j) = some u := by
  subst hB
  intro j u h
  match j, h with
  | 0, h => simp at h; subst h; simp [Addr.add]
theorem one_strs (l : List (List UInt8)) : ∀ u ∈ l.map str, u.oneCell' = true := by
  intro u hu; rw [List.mem_map] at hu; obtain ⟨t, _, rfl⟩ := hu; rfl

theorem Strs.facts {w : World} {b n cap : Nat} {ls : List (List UInt8)} (h : Strs w (.slice (some ⟨b, 0, none⟩) n cap) ls) : b < w.heap.size ∧ n = ls.length ∧ ∀ j t, ls[j]? = some t → w.cell? ⟨b, j, none⟩ = some (str t) := by
  rcases h with ⟨h, _⟩ | ⟨b', cap', h1, _, _, h4, h5⟩
  · cases h
  · cases h1; exact ⟨h4, rfl, h5⟩
theorem strs_cells {w : World} {b : Nat} {ls : List (List UInt8)} (h : ∀ j t, ls[j]? = some t → w.cell? ⟨b, j, none⟩ = some (str t)) : ∀ j u, (ls.map str)[j]? = some u → w.cell? ((⟨b, 0, none⟩ : Addr).add j) = some u := by
  intro j u hu
  rw [List.getElem?_map] at hu
  cases ht : ls[j]? with
  | none => rw [ht] at hu; cases hu
  | some t =>
    rw [ht] at hu; cases hu
    have e : (⟨b, 0, none⟩ : Addr).add j = ⟨b, j, none⟩ := by cases j <;> simp [Addr.add]
    rw [e]; exact h j t ht
theorem drop_rev (ms : List (List UInt8)) (j : Nat) (t : List UInt8) (h : ms[j]? = some t) : (ms.drop j).reverse = (ms.drop (j + 1)).reverse ++ [t] := by
  have hj : j < ms.length := by
    rcases Nat.lt_or_ge j ms.length with h' | h'
    · exact h'
    · rw [List.getElem?_eq_none h'] at h; cases h
  rw [List.drop_eq_getElem_cons hj, List.reverse_cons]
  rw [List.getElem?_eq_getElem hj] at h
  cases h; rfl

set_option maxRecDepth 100000 in
set_option maxHeartbeats 1000000 in
theorem push_any (v : Value) (mb mc : Nat) (ls ms : List (List UInt8)) (w : World) (hl : Strs w v ls) (hm : Strs w (.slice (some ⟨mb, 0, none⟩) ms.length mc) ms) (hls : ls.length ≤ 100000) (hms : ms.length ≤ 100) :
    Calls Tryz.prog 99 #[v, .slice (some ⟨mb, 0, none⟩) ms.length mc] w fun e w' => ∃ v, e = .returned v ∧ Strs w' v (ls ++ ms.reverse) ∧ Below w.heap.size w w' := by
  obtain ⟨i0, hi, hz0, hz1, hz2⟩ := info_parts Tryz.infoStr
  obtain ⟨hbm, _, hcm⟩ := hm.facts
  have HM : Hid (∀ j t, ms[j]? = some t → w.cell? ⟨mb, j, none⟩ = some (str t)) := hcm
  clear hcm hm
  rcases hl with ⟨rfl, rfl⟩ | ⟨b, cap, rfl, hc1, hc2, hbl, hcl⟩
  · go_enter Tryz.func99, Tryz.ntmps99
    go_wp2
    go_loopw [5, 6] (fun v i wr => ∃ (j : Nat) (q : Int), j ≤ ms.length ∧ i = .int .i64 q ∧ q = (j : Int) - 1 ∧ wr.ownsRow w.heap.size 9 1 v (([] : List (List UInt8)) ++ (ms.drop j).reverse).length ((([] : List (List UInt8)) ++ (ms.drop j).reverse).map str) ∧ Below w.heap.size w wr) (fun _ i _ => (intOf i + 1).toNat)
    case atStart => exact ⟨ms.length, _, Nat.le_refl _, rfl, rfl, by simpa using World.ownsRow_nil _ _ _ _, Below.refl _ _⟩
    case round =>
      obtain ⟨j, q, hj, rfl, hq, hown, hnx⟩ := hrel
      have hsz := hnx.size
      cases j with
      | zero =>
        have hq' : q = -1 := by omega
        subst hq'
        clear hq
        go_wp2_with fail
        go_ret
        exact ⟨_, rfl, own_strs (by simpa using hown), hnx⟩
      | succ j =>
        have hq' : q = (j : Int) := by omega
        subst hq'
        clear hq
        obtain ⟨t, ht⟩ : ∃ t, ms[j]? = some t := ⟨_, List.getElem?_eq_getElem (by omega)⟩
        have hcell : wr.cell? ⟨mb, j, none⟩ = some (.string ⟨t.toArray⟩) := (hnx.cell (p := ⟨mb, j, none⟩) hbm).trans (HM.out j t ht)
        have R : Hid ((ms.drop j).reverse = (ms.drop (j + 1)).reverse ++ [t]) := drop_rev ms j t ht
        clear ht
        have hlen : (([] : List (List UInt8)) ++ (ms.drop (j + 1)).reverse).length ≤ 100100 := by simp at hls ⊢; omega
        generalize hX : ([] : List (List UInt8)) ++ (ms.drop (j + 1)).reverse = X at *
        have HX : Hid (([] : List (List UInt8)) ++ (ms.drop (j + 1)).reverse = X) := hX
        clear hX
        go_wp2_with (at_builtin; refine wpList_append_own _ rfl _ _ 22 rfl w.heap.size 9 i0 (.string ByteArray.empty) 1 16 Tryz.underlying22 hi hz0 hz1 hz2 rfl (by decide) _ _ _ rfl (hown.alloc _) ⟨wr.heap.size, 0, none⟩ 1 1 [.string ⟨t.toArray⟩] rfl rfl (one_new2 _ _ rfl _ _) (one_strs [t]) (by unfold maxLen; omega) (by omega) (by simp; omega) ?_)
        intro v' w2 hown2 hgrow _
        have hb2 := (hnx.alloc (by omega) _).grown hgrow (by simp; omega) (own_block hown)
        clear hown hgrow hcell
        go_wp2_with fail
        go_roundw
        case rel => exact ⟨j, _, by omega, rfl, by omega, by rw [R.out, ← List.append_assoc, HX.out]; simpa [str] using hown2, hb2⟩
        case measure => simp [intOf]
  · have HL : Hid (∀ j t, ls[j]? = some t → w.cell? ⟨b, j, none⟩ = some (str t)) := hcl
    clear hcl
    go_enter Tryz.func99, Tryz.ntmps99
    go_wp2_with (at_builtin; refine wpList_append_own _ rfl _ _ 22 rfl w.heap.size 9 i0 (.string ByteArray.empty) 1 16 Tryz.underlying22 hi hz0 hz1 hz2 rfl (by decide) _ _ _ rfl (World.ownsRow_nil _ _ _ _) ⟨b, 0, none⟩ ls.length cap (ls.map str) rfl (by simp) (strs_cells HL.out) (one_strs _) (by unfold maxLen; omega) (by omega) (Nat.le_refl _) ?_)
    intro v1 w1 hown1 hgrow _
    have hb1 : Below w.heap.size w w1 := (Below.refl _ _).grown hgrow (Nat.le_refl _) (by intro k hk; simp [Value.ownBlock] at hk)
    clear hgrow HL
    go_wp2_with fail
    go_loopw [5, 6] (fun v i wr => ∃ (j : Nat) (q : Int), j ≤ ms.length ∧ i = .int .i64 q ∧ q = (j : Int) - 1 ∧ wr.ownsRow w.heap.size 9 1 v (ls ++ (ms.drop j).reverse).length ((ls ++ (ms.drop j).reverse).map str) ∧ Below w.heap.size w wr) (fun _ i _ => (intOf i + 1).toNat)
    case atStart => exact ⟨ms.length, _, Nat.le_refl _, rfl, rfl, by simpa using hown1, hb1⟩
    case round =>
      obtain ⟨j, q, hj, rfl, hq, hown, hnx⟩ := hrel
      have hsz := hnx.size
      cases j with
      | zero =>
        have hq' : q = -1 := by omega
        subst hq'
        clear hq
        go_wp2_with fail
        go_ret
        exact ⟨_, rfl, own_strs (by simpa using hown), hnx⟩
      | succ j =>
        have hq' : q = (j : Int) := by omega
        subst hq'
        clear hq
        obtain ⟨t, ht⟩ : ∃ t, ms[j]? = some t := ⟨_, List.getElem?_eq_getElem (by omega)⟩
        have hcell : wr.cell? ⟨mb, j, none⟩ = some (.string ⟨t.toArray⟩) := (hnx.cell (p := ⟨mb, j, none⟩) hbm).trans (HM.out j t ht)
        have R : Hid ((ms.drop j).reverse = (ms.drop (j + 1)).reverse ++ [t]) := drop_rev ms j t ht
        clear ht
        have hlen : (ls ++ (ms.drop (j + 1)).reverse).length ≤ 100100 := by simp at hls ⊢; omega
        generalize hX : ls ++ (ms.drop (j + 1)).reverse = X at *
        have HX : Hid (ls ++ (ms.drop (j + 1)).reverse = X) := hX
        clear hX
        go_wp2_with (at_builtin; refine wpList_append_own _ rfl _ _ 22 rfl w.heap.size 9 i0 (.string ByteArray.empty) 1 16 Tryz.underlying22 hi hz0 hz1 hz2 rfl (by decide) _ _ _ rfl (hown.alloc _) ⟨wr.heap.size, 0, none⟩ 1 1 [.string ⟨t.toArray⟩] rfl rfl (one_new2 _ _ rfl _ _) (one_strs [t]) (by unfold maxLen; omega) (by omega) (by simp; omega) ?_)
        intro v' w2 hown2 hgrow _
        have hb2 := (hnx.alloc (by omega) _).grown hgrow (by simp; omega) (own_block hown)
        clear hown hgrow hcell
        go_wp2_with fail
        go_roundw
        case rel => exact ⟨j, _, by omega, rfl, by omega, by rw [R.out, ← List.append_assoc, HX.out]; simpa [str] using hown2, hb2⟩
        case measure => simp [intOf]

end Go.Proofs.YtkinoehmcfhgbaaGreatDoor.Av
