/-
  The walk of the program's Condition.settle, where what is known comes by a closure.
-/
import Derived.Test.YtkinoehmcfhgbaaDoorS2
set_option linter.unusedVariables false
set_option linter.unusedSimpArgs false
namespace Go.Proofs.YtkinoehmcfhgbaaDoor.Vl
open Go.RowKit

set_option maxRecDepth 100000 in
set_option maxHeartbeats 4000000 in
theorem csettleH (kn : Atm → Int) (cp : Value) (KI : World → Prop) (hKI : ∀ W W', KI W → Below W.heap.size W W' → KI W') (hk3 : ∀ a, T3 (kn a)) (b cap : Nat) (ys : List Sym) (w : World) (hlen : ys.length ≤ 4000)
    (hI : Syms w.heap.size w (.slice (some ⟨b, 0, none⟩) ys.length cap) ys)
    (hval : ∀ n, n < ys.length → ∃ y, ys[n]? = some y ∧ 0 ≤ y.1 ∧ y.1 ≤ 6 ∧ (y.1 = 6 → okA y.2) ∧ prt y.1 ≤ (trun kn (ys.drop (n + 1))).length) (T : Int) (hone : trun kn ys = [T]) (hK0 : KI w)
    (CK : ∀ W a1 a2 a3, KI W → okA (a1, a2, a3) → Calls Tryd.prog 22 #[.agg #[.int .i64 a1, .int .i64 a2, .int .i64 a3], cp] W fun e w' => e = .returned (.int .i8 (kn (a1, a2, a3))) ∧ Below W.heap.size W w') :
    Calls Tryd.prog 25 #[.slice (some ⟨b, 0, none⟩) ys.length cap, .func (.func 22) #[] #[cp]] w fun e w' => e = .returned (.int .i8 T) ∧ Below w.heap.size w w' := by
  obtain ⟨i0, hi, hz0, hz1, hz2⟩ := info_parts Tryd.infoTruth
  have HV : Hid _ := hval
  have HK : Hid _ := CK
  have HI : Hid _ := hI
  have HT : Hid _ := hone
  have H3 : Hid _ := trun_t3 hk3
  have HLE : Hid _ := trun_le kn
  have KW : Hid (∀ W, Below w.heap.size w W → KI W) := fun W h => hKI w W hK0 h
  have CPt : Hid (∀ y0 w, Calls Tryd.prog 20 #[.int .i64 y0] w fun e w' => e = .returned (.int .i64 (prt y0)) ∧ w = w') := kparts_any
  clear hval CK hI hone hKI hk3 hK0
  have hyl : (ys.length : Int) = ((ys.length : Nat) : Int) := rfl
  go_enter Tryd.func25, Tryd.ntmps25
  go_wp2_with (at_make; refine wpList_make_own _ rfl _ _ 83 rfl w.heap.size 60 i0 (.int .i8 0) 1 Tryd.underlying83 hi hz0 hz1 .i64 .i64 _ ys.length rfl rfl ?_ ?_ ?_ ?_ ?_; (exact rfl); (rw [hz2]; omega); (unfold maxLen; omega); (exact Nat.le_refl _))
  intro w1 hown1 hgrow1
  have hb1 : Below w.heap.size w w1 := (Below.refl _ _).grown hgrow1 (Nat.le_refl _) (by intro k h; cases h)
  clear hgrow1
  go_wp2_with fail
  go_loopw [5, 6, 7, 8] (fun v i r t wr => ∃ n : Nat, n ≤ ys.length ∧ i = .int .i64 ((n : Int) - 1) ∧ wr.ownsRow w.heap.size 60 1 v (trun kn (ys.drop n)).length ((trun kn (ys.drop n)).reverse.map tv8) ∧ Below w.heap.size w wr) (fun _ i _ _ _ => ((intOf i) + 1).toNat)
  case atStart => exact ⟨ys.length, Nat.le_refl _, rfl, by rw [List.drop_length]; exact hown1, hb1⟩
  case round =>
    obtain ⟨n, hny, rfl, hown, hnx⟩ := hrel
    rcases Nat.eq_zero_or_pos n with rfl | hpos
    · rw [List.drop_zero, HT.out] at hown
      obtain ⟨g2, cap2, rfl, _, _, _, _, hc5, _⟩ := own_facts hown (by simp)
      have hc0 := hc5 0 (tv8 T) rfl
      unfold tv8 at hc0
      clear hc5
      go_wp2_with fail
      go_ret
      exact ⟨rfl, hnx⟩
    · obtain ⟨n, rfl⟩ : ∃ n', n = n' + 1 := ⟨n - 1, by omega⟩
      obtain ⟨⟨y0, y1, y2, y3⟩, hy1, hy2, hy3, hy4, hy5⟩ := HV.out n (by omega)
      dsimp only at hy2 hy3 hy4 hy5
      obtain ⟨_, _, e1, hbn, hcs⟩ := HI.out
      cases e1
      obtain ⟨z0, z1, z2, z3⟩ := hcs n _ hy1
      have c0 := (hnx.cell (p := ⟨b, n * 4, none⟩) hbn).trans z0
      have c1 := (hnx.cell (p := ⟨b, n * 4 + 1, none⟩) hbn).trans z1
      have c2 := (hnx.cell (p := ⟨b, n * 4 + 2, none⟩) hbn).trans z2
      have c3 := (hnx.cell (p := ⟨b, n * 4 + 3, none⟩) hbn).trans z3
      clear hcs z0 z1 z2 z3
      have hdrop : ys.drop n = (y0, y1, y2, y3) :: ys.drop (n + 1) := by
        rw [List.drop_eq_getElem_cons (by omega)]
        congr 1
        rw [List.getElem?_eq_getElem (by omega)] at hy1
        exact Option.some.inj hy1
      have HD : Hid (trun kn (ys.drop n) = tst kn (y0, y1, y2, y3) (trun kn (ys.drop (n + 1)))) := by show _ = _; rw [hdrop, trun_cons]
      have HR : Hid _ := H3.out (ys.drop (n + 1))
      have hsl : (trun kn (ys.drop (n + 1))).length ≤ 4000 := by
        have h1 := HLE.out (ys.drop (n + 1))
        rw [List.length_drop] at h1
        omega
      clear hdrop hy1
      generalize hst : trun kn (ys.drop (n + 1)) = st at *
      clear hst
      have hpr := prt_range y0
      have CP0 : Hid (∀ w, Calls Tryd.prog 20 #[.int .i64 y0] w fun e w' => e = .returned (.int .i64 (prt y0)) ∧ w = w') := fun w => CPt.out y0 w
      have HDV : Hid (trun kn (ys.drop n) = tval kn (y0, y1, y2, y3) (st.headD 0) (st.tail.headD 0) :: st.drop (prt y0).toNat) := HD.out
      clear HD
      have hh0 : T3 (st.headD 0) := by
        cases st with
        | nil => exact Or.inl rfl
        | cons x r => exact HR.out x (by simp)
      have hh1 : T3 (st.tail.headD 0) := by
        match st, HR.out with
        | [], _ => exact Or.inl rfl
        | [x], _ => exact Or.inl rfl
        | x :: z :: r, h => exact h z (by simp)
      have HH : Hid (T3 (st.headD 0) ∧ T3 (st.tail.headD 0)) := ⟨hh0, hh1⟩
      generalize hVV : tval kn (y0, y1, y2, y3) (st.headD 0) (st.tail.headD 0) = VV at *
      have HVV : Hid _ := hVV
      clear hVV hh0 hh1 HR
      generalize hp0 : prt y0 = p0 at *
      have HP0 : Hid (prt y0 = p0) := hp0
      clear hp0
      obtain ⟨q, c, rfl⟩ := own_shape hown
      have hnn : ((n + 1 : Nat) : Int) - 1 = (n : Int) := by omega
      rw [hnn]
      obtain ⟨R, hR, hRL⟩ : ∃ R : Nat, (st.length : Int) - p0 = (R : Int) ∧ R ≤ st.length := ⟨st.length - p0.toNat, by omega, by omega⟩
      have hsub : IntKind.i64.wrap ((st.length : Int) - p0) = (R : Int) := by rw [hR]; exact IntWalk.i64_in _ (by omega)
      have hnl : (n : Int) < (ys.length : Int) := by omega
      have hnl2 : n < ys.length := by omega
      have HS : Hid (∀ pv W, Below w.heap.size w W → Parts3H W pv y0 (st.headD 0) (st.tail.headD 0) → W.cell? ⟨b, n * 4, none⟩ = some (.int .i64 y0) → W.cell? ⟨b, n * 4 + 1, none⟩ = some (.int .i64 y1) → W.cell? ⟨b, n * 4 + 2, none⟩ = some (.int .i64 y2) → W.cell? ⟨b, n * 4 + 3, none⟩ = some (.int .i64 y3) → Calls Tryd.prog 37 #[.pointer (some ⟨b, n * 4, none⟩), .func (.func 22) #[] #[cp], pv] W fun e w' => e = .returned (.int .i8 VV) ∧ Below W.heap.size W w') := fun pv W hW hp a0 a1 a2 a3 => by
        rw [← HVV.out]
        exact ssettleH kn cp b (n * 4) y0 y1 y2 y3 pv _ _ W ⟨hy2, hy3⟩ HH.out.1 HH.out.2 hp a0 a1 a2 a3 (fun h6 => HK.out W y1 y2 y3 (KW.out W hW) (hy4 h6))
      clear HH HVV hy4
      go_wp2_with (go_at_call 20; refine (CP0.out _).mono ?_; rintro e w' ⟨rfl, rfl⟩)
      have hLc : st.length ≤ c := by
        rcases hown.2 with ⟨h1, h2⟩ | ⟨g, cap', cur, h1, hgb, hgh, hg3, hg4, hg5, hg6⟩
        · injection h1 with e1 e2 e3; omega
        · injection h1 with e1 e2 e3; omega
      have hRc : R ≤ c := by omega
      have hB1 : Below w.heap.size w wr.drew := hnx.drew
      have c0' : wr.drew.cell? ⟨b, n * 4, none⟩ = some (.int .i64 y0) := c0
      have c1' : wr.drew.cell? ⟨b, n * 4 + 1, none⟩ = some (.int .i64 y1) := c1
      have c2' : wr.drew.cell? ⟨b, n * 4 + 2, none⟩ = some (.int .i64 y2) := c2
      have c3' : wr.drew.cell? ⟨b, n * 4 + 3, none⟩ = some (.int .i64 y3) := c3
      have CS : Hid (∀ pv, (c ≠ R → pv = .slice (Option.map (fun x => x.add R) q) (st.length - R) (c - R)) → Calls Tryd.prog 37 #[.pointer (some ⟨b, n * 4, none⟩), .func (.func 22) #[] #[cp], pv] wr.drew fun e w' => e = .returned (.int .i8 VV) ∧ Below wr.drew.heap.size wr.drew w') := fun pv hpv => by
        refine HS.out pv wr.drew hB1 ?_ c0' c1' c2' c3'
        by_cases hcl : c = R
        · have h0 : prt y0 = 0 := by rw [HP0.out]; omega
          constructor
          · intro h; subst h; cases h0
          · rintro (h | h | h) <;> subst h <;> cases h0
        · rw [hpv hcl]
          constructor
          · intro h
            subst h
            have h1 : p0 = 1 := HP0.out.symm
            obtain ⟨t, r, rfl⟩ : ∃ t r, st = t :: r := by
              cases st with
              | nil => simp at hy5; omega
              | cons t r => exact ⟨t, r, rfl⟩
            obtain ⟨g, cap', e, hgb, hgl, hg3, hg4, hg5, hg6⟩ := own_facts hown (by simp)
            injection e with e1 e2 e3
            subst e1
            have hl1 : (t :: r).length = r.length + 1 := rfl
            have hRe : R = r.length := by omega
            refine ⟨g, R, c - R, ?_, hgl, ?_⟩
            · rw [hl1, hRe, show r.length + 1 - r.length = 1 by omega]; simp [Addr.add]; intro h; subst h; rfl
            · rw [hRe]; exact hg5 r.length (tv8 t) (by simp)
          · intro h
            have h1 : p0 = 2 := by rcases h with h | h | h <;> subst h <;> exact HP0.out.symm
            obtain ⟨t, u, r, rfl⟩ : ∃ t u r, st = t :: u :: r := by
              match st, hy5 with
              | [], h => simp at h; omega
              | [t], h => simp at h; omega
              | t :: u :: r, _ => exact ⟨t, u, r, rfl⟩
            obtain ⟨g, cap', e, hgb, hgl, hg3, hg4, hg5, hg6⟩ := own_facts hown (by simp)
            injection e with e1 e2 e3
            subst e1
            have hl1 : (t :: u :: r).length = r.length + 2 := rfl
            have hRe : R = r.length := by omega
            refine ⟨g, R, c - R, ?_, hgl, ?_, ?_⟩
            · rw [hl1, hRe, show r.length + 2 - r.length = 2 by omega]; simp [Addr.add]; intro h; subst h; rfl
            · rw [hRe]; exact hg5 r.length (tv8 u) (by simp)
            · rw [hRe]; exact hg5 (r.length + 1) (tv8 t) (by simp)
      clear HS
      by_cases hcl : c = R
      · have hcl2 := hcl.symm
        clear hcl
        subst hcl2
        go_region_with (go_at_call 37; refine (CS.out _ (fun h => absurd rfl h)).mono ?_; rintro e w3 ⟨rfl, hb3⟩)
        all_goals
          have hbw : Below wr.heap.size wr w3 := (Below.refl _ wr).drew.trans hb3
          have hown3 := ownsRow_below hown hbw
          have hnx3 : Below w.heap.size w w3 := hnx.trans (hbw.mono hnx.size)
          have hs3 := hnx3.size
          clear hown hb3 hB1 CS c0 c1 c2 c3 c0' c1' c2' c3' CP0 CPt
          rcases hown3.2 with ⟨h1, h2⟩ | ⟨g, cap', cur, h1, hgb, hgh, hg3, hg4, hg5, hg6⟩
          · have hq : q = none ∧ R = 0 := by injection h1 with e1 e2 e3; exact ⟨e1, e3⟩
            obtain ⟨rfl, hR0⟩ := hq
            have hst0 : st = [] := List.length_eq_zero_iff.1 h2
            subst hst0 hR0
            go_wp2_with (at_builtin; refine wpList_append_own _ rfl _ _ 83 rfl w.heap.size 60 i0 (.int .i8 0) 1 1 Tryd.underlying83 hi hz0 hz1 hz2 rfl (by decide) _ _ _ rfl (hown3.alloc _) ⟨w3.heap.size, 0, none⟩ 1 1 [.int .i8 VV] rfl rfl (one_new _ _ rfl _ _) (one_i8 _) (by unfold maxLen; simp) (by simp) (by simp; omega) ?_)
            intro v' w4 hown4 hgrow _
            have hb4 := (hnx3.alloc (by omega) _).grown hgrow (by simp; omega) (own_block hown3)
            clear hgrow
            go_wp2_with fail
            go_roundw
            case rel => exact ⟨n, by omega, by go_num, by rw [HDV.out]; simpa [tv8] using hown4, hb4⟩
            case measure => simp [intOf]
          · have hq : q = some ⟨g, 0, none⟩ ∧ R = cap' := by injection h1 with e1 e2 e3; exact ⟨e1, e3⟩
            obtain ⟨rfl, rfl⟩ := hq
            have hrow3 := own_take hown3 R hRL
            go_wp2_with (at_builtin; refine wpList_append_own _ rfl _ _ 83 rfl w.heap.size 60 i0 (.int .i8 0) 1 1 Tryd.underlying83 hi hz0 hz1 hz2 rfl (by decide) _ _ _ rfl (hrow3.alloc _) ⟨w3.heap.size, 0, none⟩ 1 1 [.int .i8 VV] rfl rfl (one_new _ _ rfl _ _) (one_i8 _) (by unfold maxLen; omega) (by omega) (by simp; omega) ?_)
            intro v' w4 hown4 hgrow _
            have hb4 := (hnx3.alloc (by omega) _).grown hgrow (by simp; omega) (own_block hrow3)
            clear hgrow
            go_wp2_with fail
            go_roundw
            case rel =>
              refine ⟨n, by omega, by go_num, ?_, hb4⟩
              rw [HDV.out, rows_put8 _ _ (by omega)]
              have hRp : st.length - p0.toNat = R := by omega
              rw [hRp]
              have hln : (VV :: st.drop p0.toNat).length = R + 1 := by rw [List.length_cons, List.length_drop, hRp]
              rw [hln]
              rw [List.map_reverse]
              exact hown4
            case measure => simp [intOf]
      · go_region_with (go_at_call 37; refine (CS.out _ (fun h => rfl)).mono ?_; rintro e w3 ⟨rfl, hb3⟩)
        all_goals
          have hbw : Below wr.heap.size wr w3 := (Below.refl _ wr).drew.trans hb3
          have hown3 := ownsRow_below hown hbw
          have hnx3 : Below w.heap.size w w3 := hnx.trans (hbw.mono hnx.size)
          have hs3 := hnx3.size
          clear hown hb3 hB1 CS c0 c1 c2 c3 c0' c1' c2' c3' CP0 CPt
          rcases hown3.2 with ⟨h1, h2⟩ | ⟨g, cap', cur, h1, hgb, hgh, hg3, hg4, hg5, hg6⟩
          · have hq : q = none ∧ c = 0 := by injection h1 with e1 e2 e3; exact ⟨e1, e3⟩
            obtain ⟨rfl, rfl⟩ := hq
            have hst0 : st = [] := List.length_eq_zero_iff.1 h2
            subst hst0
            exact absurd (show 0 = R by simp at hRL; omega) hcl
          · have hq : q = some ⟨g, 0, none⟩ ∧ c = cap' := by injection h1 with e1 e2 e3; exact ⟨e1, e3⟩
            obtain ⟨rfl, rfl⟩ := hq
            have hrow3 := own_take hown3 R hRL
            go_wp2_with (at_builtin; refine wpList_append_own _ rfl _ _ 83 rfl w.heap.size 60 i0 (.int .i8 0) 1 1 Tryd.underlying83 hi hz0 hz1 hz2 rfl (by decide) _ _ _ rfl (hrow3.alloc _) ⟨w3.heap.size, 0, none⟩ 1 1 [.int .i8 VV] rfl rfl (one_new _ _ rfl _ _) (one_i8 _) (by unfold maxLen; omega) (by omega) (by simp; omega) ?_)
            intro v' w4 hown4 hgrow _
            have hb4 := (hnx3.alloc (by omega) _).grown hgrow (by simp; omega) (own_block hrow3)
            clear hgrow
            go_wp2_with fail
            go_roundw
            case rel =>
              refine ⟨n, by omega, by go_num, ?_, hb4⟩
              rw [HDV.out, rows_put8 _ _ (by omega)]
              have hRp : st.length - p0.toNat = R := by omega
              rw [hRp]
              have hln : (VV :: st.drop p0.toNat).length = R + 1 := by rw [List.length_cons, List.length_drop, hRp]
              rw [hln]
              rw [List.map_reverse]
              exact hown4
            case measure => simp [intOf]
end Go.Proofs.YtkinoehmcfhgbaaDoor.Vl
