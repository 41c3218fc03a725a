/-
  The walk of the program's Condition.settle, where what is known comes by a closure.
  The walk of the program's Condition.Settled.
  The program's kernel at work: what is kept; an atom by its number; a mark.
  The walk of the program's assumptions: what is assumed of each of a cycle's atoms.
-/
import Derived.Test.YtkinoehmcfhgbaaGreatDoorT6
import Derived.Test.YtkinoehmcfhgbaaGreatDoorN5
set_option linter.unusedVariables false
set_option linter.unusedSimpArgs false
namespace Go.Proofs.YtkinoehmcfhgbaaGreatDoor.Vl
open Go.RowKit

set_option maxRecDepth 100000 in
set_option maxHeartbeats 4000000 in
theorem csettleK (kn : Atm → Int) (cp : Value) (KI : World → Prop) (hKI : ∀ W W', KI W → Below W.heap.size W W' → KI W') (hk3 : ∀ a, T3 (kn a)) (b cap : Nat) (ys : List Sym) (w : World) (hlen : ys.length ≤ 4000)
    (hI : Syms w.heap.size w (.slice (some ⟨b, 0, none⟩) ys.length cap) ys)
    (hval : ∀ n, n < ys.length → ∃ y, ys[n]? = some y ∧ 0 ≤ y.1 ∧ y.1 ≤ 6 ∧ (y.1 = 6 → okA y.2) ∧ prt y.1 ≤ (trun kn (ys.drop (n + 1))).length) (T : Int) (hone : trun kn ys = [T]) (hK0 : KI w)
    (CK : ∀ W a1 a2 a3, KI W → okA (a1, a2, a3) → Calls Tryz.prog 175 #[.agg #[.int .i64 a1, .int .i64 a2, .int .i64 a3], cp] W fun e w' => e = .returned (.int .i8 (kn (a1, a2, a3))) ∧ Below W.heap.size W w') :
    Calls Tryz.prog 80 #[.slice (some ⟨b, 0, none⟩) ys.length cap, .func (.func 175) #[] #[cp]] w fun e w' => e = .returned (.int .i8 T) ∧ Below w.heap.size w w' := by
  obtain ⟨i0, hi, hz0, hz1, hz2⟩ := info_parts Tryz.infoTruth
  have HV : Hid _ := hval
  have HK : Hid _ := CK
  have HI : Hid _ := hI
  have HT : Hid _ := hone
  have H3 : Hid _ := trun_t3 hk3
  have HLE : Hid _ := trun_le kn
  have KW : Hid (∀ W, Below w.heap.size w W → KI W) := fun W h => hKI w W hK0 h
  have CPt : Hid (∀ y0 w, Calls Tryz.prog 76 #[.int .i64 y0] w fun e w' => e = .returned (.int .i64 (prt y0)) ∧ w = w') := kparts_any
  clear hval CK hI hone hKI hk3 hK0
  have hyl : (ys.length : Int) = ((ys.length : Nat) : Int) := rfl
  go_enter Tryz.func80, Tryz.ntmps80
  go_wp2_with (at_make; refine wpList_make_own _ rfl _ _ 178 rfl w.heap.size 159 i0 (.int .i8 0) 1 Tryz.underlying178 hi hz0 hz1 .i64 .i64 _ ys.length rfl rfl ?_ ?_ ?_ ?_ ?_; (exact rfl); (rw [hz2]; omega); (unfold maxLen; omega); (exact Nat.le_refl _))
  intro w1 hown1 hgrow1
  have hb1 : Below w.heap.size w w1 := (Below.refl _ _).grown hgrow1 (Nat.le_refl _) (by intro k h; cases h)
  clear hgrow1
  go_wp2_with fail
  go_loopw [5, 6, 7, 8] (fun v i r t wr => ∃ n : Nat, n ≤ ys.length ∧ i = .int .i64 ((n : Int) - 1) ∧ wr.ownsRow w.heap.size 159 1 v (trun kn (ys.drop n)).length ((trun kn (ys.drop n)).reverse.map tv8) ∧ Below w.heap.size w wr) (fun _ i _ _ _ => ((intOf i) + 1).toNat)
  case atStart => exact ⟨ys.length, Nat.le_refl _, rfl, by rw [List.drop_length]; exact hown1, hb1⟩
  case round =>
    obtain ⟨n, hny, rfl, hown, hnx⟩ := hrel
    rcases Nat.eq_zero_or_pos n with rfl | hpos
    · rw [List.drop_zero, HT.out] at hown
      obtain ⟨g2, cap2, rfl, _, _, _, _, hc5, _⟩ := own_facts hown (by simp)
      have hc0 := hc5 0 (tv8 T) rfl
      unfold tv8 at hc0
      clear hc5
      go_wp2_with fail
      go_ret
      exact ⟨rfl, hnx⟩
    · obtain ⟨n, rfl⟩ : ∃ n', n = n' + 1 := ⟨n - 1, by omega⟩
      obtain ⟨⟨y0, y1, y2, y3⟩, hy1, hy2, hy3, hy4, hy5⟩ := HV.out n (by omega)
      dsimp only at hy2 hy3 hy4 hy5
      obtain ⟨_, _, e1, hbn, hcs⟩ := HI.out
      cases e1
      obtain ⟨z0, z1, z2, z3⟩ := hcs n _ hy1
      have c0 := (hnx.cell (p := ⟨b, n * 4, none⟩) hbn).trans z0
      have c1 := (hnx.cell (p := ⟨b, n * 4 + 1, none⟩) hbn).trans z1
      have c2 := (hnx.cell (p := ⟨b, n * 4 + 2, none⟩) hbn).trans z2
      have c3 := (hnx.cell (p := ⟨b, n * 4 + 3, none⟩) hbn).trans z3
      clear hcs z0 z1 z2 z3
      have hdrop : ys.drop n = (y0, y1, y2, y3) :: ys.drop (n + 1) := by
        rw [List.drop_eq_getElem_cons (by omega)]
        congr 1
        rw [List.getElem?_eq_getElem (by omega)] at hy1
        exact Option.some.inj hy1
      have HD : Hid (trun kn (ys.drop n) = tst kn (y0, y1, y2, y3) (trun kn (ys.drop (n + 1)))) := by show _ = _; rw [hdrop, trun_cons]
      have HR : Hid _ := H3.out (ys.drop (n + 1))
      have hsl : (trun kn (ys.drop (n + 1))).length ≤ 4000 := by
        have h1 := HLE.out (ys.drop (n + 1))
        rw [List.length_drop] at h1
        omega
      clear hdrop hy1
      generalize hst : trun kn (ys.drop (n + 1)) = st at *
      clear hst
      have hpr := prt_range y0
      have CP0 : Hid (∀ w, Calls Tryz.prog 76 #[.int .i64 y0] w fun e w' => e = .returned (.int .i64 (prt y0)) ∧ w = w') := fun w => CPt.out y0 w
      have HDV : Hid (trun kn (ys.drop n) = tval kn (y0, y1, y2, y3) (st.headD 0) (st.tail.headD 0) :: st.drop (prt y0).toNat) := HD.out
      clear HD
      have hh0 : T3 (st.headD 0) := by
        cases st with
        | nil => exact Or.inl rfl
        | cons x r => exact HR.out x (by simp)
      have hh1 : T3 (st.tail.headD 0) := by
        match st, HR.out with
        | [], _ => exact Or.inl rfl
        | [x], _ => exact Or.inl rfl
        | x :: z :: r, h => exact h z (by simp)
      have HH : Hid (T3 (st.headD 0) ∧ T3 (st.tail.headD 0)) := ⟨hh0, hh1⟩
      generalize hVV : tval kn (y0, y1, y2, y3) (st.headD 0) (st.tail.headD 0) = VV at *
      have HVV : Hid _ := hVV
      clear hVV hh0 hh1 HR
      generalize hp0 : prt y0 = p0 at *
      have HP0 : Hid (prt y0 = p0) := hp0
      clear hp0
      obtain ⟨q, c, rfl⟩ := own_shape hown
      have hnn : ((n + 1 : Nat) : Int) - 1 = (n : Int) := by omega
      rw [hnn]
      obtain ⟨R, hR, hRL⟩ : ∃ R : Nat, (st.length : Int) - p0 = (R : Int) ∧ R ≤ st.length := ⟨st.length - p0.toNat, by omega, by omega⟩
      have hsub : IntKind.i64.wrap ((st.length : Int) - p0) = (R : Int) := by rw [hR]; exact IntWalk.i64_in _ (by omega)
      have hnl : (n : Int) < (ys.length : Int) := by omega
      have hnl2 : n < ys.length := by omega
      have HS : Hid (∀ pv W, Below w.heap.size w W → Parts3K W pv y0 (st.headD 0) (st.tail.headD 0) → W.cell? ⟨b, n * 4, none⟩ = some (.int .i64 y0) → W.cell? ⟨b, n * 4 + 1, none⟩ = some (.int .i64 y1) → W.cell? ⟨b, n * 4 + 2, none⟩ = some (.int .i64 y2) → W.cell? ⟨b, n * 4 + 3, none⟩ = some (.int .i64 y3) → Calls Tryz.prog 116 #[.pointer (some ⟨b, n * 4, none⟩), .func (.func 175) #[] #[cp], pv] W fun e w' => e = .returned (.int .i8 VV) ∧ Below W.heap.size W w') := fun pv W hW hp a0 a1 a2 a3 => by
        rw [← HVV.out]
        exact ssettleK kn cp b (n * 4) y0 y1 y2 y3 pv _ _ W ⟨hy2, hy3⟩ HH.out.1 HH.out.2 hp a0 a1 a2 a3 (fun h6 => HK.out W y1 y2 y3 (KW.out W hW) (hy4 h6))
      clear HH HVV hy4
      go_wp2_with (go_at_call 76; refine (CP0.out _).mono ?_; rintro e w' ⟨rfl, rfl⟩)
      have hLc : st.length ≤ c := by
        rcases hown.2 with ⟨h1, h2⟩ | ⟨g, cap', cur, h1, hgb, hgh, hg3, hg4, hg5, hg6⟩
        · injection h1 with e1 e2 e3; omega
        · injection h1 with e1 e2 e3; omega
      have hRc : R ≤ c := by omega
      have hB1 : Below w.heap.size w wr.drew := hnx.drew
      have c0' : wr.drew.cell? ⟨b, n * 4, none⟩ = some (.int .i64 y0) := c0
      have c1' : wr.drew.cell? ⟨b, n * 4 + 1, none⟩ = some (.int .i64 y1) := c1
      have c2' : wr.drew.cell? ⟨b, n * 4 + 2, none⟩ = some (.int .i64 y2) := c2
      have c3' : wr.drew.cell? ⟨b, n * 4 + 3, none⟩ = some (.int .i64 y3) := c3
      have CS : Hid (∀ pv, (c ≠ R → pv = .slice (Option.map (fun x => x.add R) q) (st.length - R) (c - R)) → Calls Tryz.prog 116 #[.pointer (some ⟨b, n * 4, none⟩), .func (.func 175) #[] #[cp], pv] wr.drew fun e w' => e = .returned (.int .i8 VV) ∧ Below wr.drew.heap.size wr.drew w') := fun pv hpv => by
        refine HS.out pv wr.drew hB1 ?_ c0' c1' c2' c3'
        by_cases hcl : c = R
        · have h0 : prt y0 = 0 := by rw [HP0.out]; omega
          constructor
          · intro h; subst h; cases h0
          · rintro (h | h | h) <;> subst h <;> cases h0
        · rw [hpv hcl]
          constructor
          · intro h
            subst h
            have h1 : p0 = 1 := HP0.out.symm
            obtain ⟨t, r, rfl⟩ : ∃ t r, st = t :: r := by
              cases st with
              | nil => simp at hy5; omega
              | cons t r => exact ⟨t, r, rfl⟩
            obtain ⟨g, cap', e, hgb, hgl, hg3, hg4, hg5, hg6⟩ := own_facts hown (by simp)
            injection e with e1 e2 e3
            subst e1
            have hl1 : (t :: r).length = r.length + 1 := rfl
            have hRe : R = r.length := by omega
            refine ⟨g, R, c - R, ?_, hgl, ?_⟩
            · rw [hl1, hRe, show r.length + 1 - r.length = 1 by omega]; simp [Addr.add]; intro h; subst h; rfl
            · rw [hRe]; exact hg5 r.length (tv8 t) (by simp)
          · intro h
            have h1 : p0 = 2 := by rcases h with h | h | h <;> subst h <;> exact HP0.out.symm
            obtain ⟨t, u, r, rfl⟩ : ∃ t u r, st = t :: u :: r := by
              match st, hy5 with
              | [], h => simp at h; omega
              | [t], h => simp at h; omega
              | t :: u :: r, _ => exact ⟨t, u, r, rfl⟩
            obtain ⟨g, cap', e, hgb, hgl, hg3, hg4, hg5, hg6⟩ := own_facts hown (by simp)
            injection e with e1 e2 e3
            subst e1
            have hl1 : (t :: u :: r).length = r.length + 2 := rfl
            have hRe : R = r.length := by omega
            refine ⟨g, R, c - R, ?_, hgl, ?_, ?_⟩
            · rw [hl1, hRe, show r.length + 2 - r.length = 2 by omega]; simp [Addr.add]; intro h; subst h; rfl
            · rw [hRe]; exact hg5 r.length (tv8 u) (by simp)
            · rw [hRe]; exact hg5 (r.length + 1) (tv8 t) (by simp)
      clear HS
      by_cases hcl : c = R
      · have hcl2 := hcl.symm
        clear hcl
        subst hcl2
        go_region_with (go_at_call 116; refine (CS.out _ (fun h => absurd rfl h)).mono ?_; rintro e w3 ⟨rfl, hb3⟩)
        all_goals
          have hbw : Below wr.heap.size wr w3 := (Below.refl _ wr).drew.trans hb3
          have hown3 := ownsRow_below hown hbw
          have hnx3 : Below w.heap.size w w3 := hnx.trans (hbw.mono hnx.size)
          have hs3 := hnx3.size
          clear hown hb3 hB1 CS c0 c1 c2 c3 c0' c1' c2' c3' CP0 CPt
          rcases hown3.2 with ⟨h1, h2⟩ | ⟨g, cap', cur, h1, hgb, hgh, hg3, hg4, hg5, hg6⟩
          · have hq : q = none ∧ R = 0 := by injection h1 with e1 e2 e3; exact ⟨e1, e3⟩
            obtain ⟨rfl, hR0⟩ := hq
            have hst0 : st = [] := List.length_eq_zero_iff.1 h2
            subst hst0 hR0
            go_wp2_with (at_builtin; refine wpList_append_own _ rfl _ _ 178 rfl w.heap.size 159 i0 (.int .i8 0) 1 1 Tryz.underlying178 hi hz0 hz1 hz2 rfl (by decide) _ _ _ rfl (hown3.alloc _) ⟨w3.heap.size, 0, none⟩ 1 1 [.int .i8 VV] rfl rfl (one_new _ _ rfl _ _) (one_i8 _) (by unfold maxLen; simp) (by simp) (by simp; omega) ?_)
            intro v' w4 hown4 hgrow _
            have hb4 := (hnx3.alloc (by omega) _).grown hgrow (by simp; omega) (own_block hown3)
            clear hgrow
            go_wp2_with fail
            go_roundw
            case rel => exact ⟨n, by omega, by go_num, by rw [HDV.out]; simpa [tv8] using hown4, hb4⟩
            case measure => simp [intOf]
          · have hq : q = some ⟨g, 0, none⟩ ∧ R = cap' := by injection h1 with e1 e2 e3; exact ⟨e1, e3⟩
            obtain ⟨rfl, rfl⟩ := hq
            have hrow3 := own_take hown3 R hRL
            go_wp2_with (at_builtin; refine wpList_append_own _ rfl _ _ 178 rfl w.heap.size 159 i0 (.int .i8 0) 1 1 Tryz.underlying178 hi hz0 hz1 hz2 rfl (by decide) _ _ _ rfl (hrow3.alloc _) ⟨w3.heap.size, 0, none⟩ 1 1 [.int .i8 VV] rfl rfl (one_new _ _ rfl _ _) (one_i8 _) (by unfold maxLen; omega) (by omega) (by simp; omega) ?_)
            intro v' w4 hown4 hgrow _
            have hb4 := (hnx3.alloc (by omega) _).grown hgrow (by simp; omega) (own_block hrow3)
            clear hgrow
            go_wp2_with fail
            go_roundw
            case rel =>
              refine ⟨n, by omega, by go_num, ?_, hb4⟩
              rw [HDV.out, rows_put8 _ _ (by omega)]
              have hRp : st.length - p0.toNat = R := by omega
              rw [hRp]
              have hln : (VV :: st.drop p0.toNat).length = R + 1 := by rw [List.length_cons, List.length_drop, hRp]
              rw [hln]
              rw [List.map_reverse]
              exact hown4
            case measure => simp [intOf]
      · go_region_with (go_at_call 116; refine (CS.out _ (fun h => rfl)).mono ?_; rintro e w3 ⟨rfl, hb3⟩)
        all_goals
          have hbw : Below wr.heap.size wr w3 := (Below.refl _ wr).drew.trans hb3
          have hown3 := ownsRow_below hown hbw
          have hnx3 : Below w.heap.size w w3 := hnx.trans (hbw.mono hnx.size)
          have hs3 := hnx3.size
          clear hown hb3 hB1 CS c0 c1 c2 c3 c0' c1' c2' c3' CP0 CPt
          rcases hown3.2 with ⟨h1, h2⟩ | ⟨g, cap', cur, h1, hgb, hgh, hg3, hg4, hg5, hg6⟩
          · have hq : q = none ∧ c = 0 := by injection h1 with e1 e2 e3; exact ⟨e1, e3⟩
            obtain ⟨rfl, rfl⟩ := hq
            have hst0 : st = [] := List.length_eq_zero_iff.1 h2
            subst hst0
            exact absurd (show 0 = R by simp at hRL; omega) hcl
          · have hq : q = some ⟨g, 0, none⟩ ∧ c = cap' := by injection h1 with e1 e2 e3; exact ⟨e1, e3⟩
            obtain ⟨rfl, rfl⟩ := hq
            have hrow3 := own_take hown3 R hRL
            go_wp2_with (at_builtin; refine wpList_append_own _ rfl _ _ 178 rfl w.heap.size 159 i0 (.int .i8 0) 1 1 Tryz.underlying178 hi hz0 hz1 hz2 rfl (by decide) _ _ _ rfl (hrow3.alloc _) ⟨w3.heap.size, 0, none⟩ 1 1 [.int .i8 VV] rfl rfl (one_new _ _ rfl _ _) (one_i8 _) (by unfold maxLen; omega) (by omega) (by simp; omega) ?_)
            intro v' w4 hown4 hgrow _
            have hb4 := (hnx3.alloc (by omega) _).grown hgrow (by simp; omega) (own_block hrow3)
            clear hgrow
            go_wp2_with fail
            go_roundw
            case rel =>
              refine ⟨n, by omega, by go_num, ?_, hb4⟩
              rw [HDV.out, rows_put8 _ _ (by omega)]
              have hRp : st.length - p0.toNat = R := by omega
              rw [hRp]
              have hln : (VV :: st.drop p0.toNat).length = R + 1 := by rw [List.length_cons, List.length_drop, hRp]
              rw [hln]
              rw [List.map_reverse]
              exact hown4
            case measure => simp [intOf]
end Go.Proofs.YtkinoehmcfhgbaaGreatDoor.Vl
set_option linter.unusedVariables false
set_option linter.unusedSimpArgs false
namespace Go.Proofs.YtkinoehmcfhgbaaGreatDoor.Vl
open Go.RowKit

theorem Below.grows {w w' : World} (h : Below w.heap.size w w') : w.grownBy w' none := ⟨h.os, h.tape, h.output, h.size, fun k hk _ => h.block k hk⟩
theorem AM.below {w w' : World} {b n : Nat} {f : Atm → Int} (h : AM w b n f) (hb : Below w.heap.size w w') : AM w' b n f := h.kept (Below.grows hb) (by simp)
/-- The closure's box holds the map. -/
def KMap (w : World) (B mb n : Nat) (f : Atm → Int) : Prop := B < w.heap.size ∧ w.cell? ⟨B, 0, none⟩ = some (.map (some mb)) ∧ AM w mb n f
theorem KMap.on {w w' : World} {B mb n : Nat} {f : Atm → Int} (h : KMap w B mb n f) (hb : Below w.heap.size w w') : KMap w' B mb n f :=
  ⟨Nat.lt_of_lt_of_le h.1 hb.size, (hb.cell (p := ⟨B, 0, none⟩) h.1).trans h.2.1, h.2.2.below hb⟩

set_option maxRecDepth 100000 in
set_option maxHeartbeats 2000000 in
theorem kcl_any (f : Atm → Int) (a1 a2 a3 : Int) (B mb n : Nat) (w : World) (hs : KMap w B mb n f) (ho : okA (a1, a2, a3)) :
    Calls Tryz.prog 175 #[.agg #[.int .i64 a1, .int .i64 a2, .int .i64 a3], .pointer (some ⟨B, 0, none⟩)] w fun e w' => e = .returned (.int .i8 (f (a1, a2, a3))) ∧ Below w.heap.size w w' := by
  have hb := below_alloc w (.cells #[.int .i64 a1, .int .i64 a2, .int .i64 a3] 134)
  obtain ⟨s0, s1, s2⟩ := hs.on hb
  have hl := s2.look (a1, a2, a3) ho
  unfold avV at hl
  dsimp only at hl
  have HB : Hid _ := hb
  clear hs s2 ho hb
  generalize f (a1, a2, a3) = FA at *
  go_enter Tryz.func175, Tryz.ntmps175
  go_wp2
  go_ret
  exact ⟨rfl, HB.out⟩

set_option maxRecDepth 100000 in
set_option maxHeartbeats 2000000 in
theorem settled_any {s : ByteArray} {ys : List Sym} (hp : pars s = some ys) (v : Value) (mb n : Nat) (f : Atm → Int) (hf3 : ∀ a, T3 (f a)) (w : World) (hI : Syms w.heap.size w v ys) (hM : AM w mb n f) :
    Calls Tryz.prog 124 #[v, .map (some mb)] w fun e w' => e = .returned (.int .i8 ((trun f ys).headD 0)) ∧ Below w.heap.size w w' := by
  obtain ⟨hs, hprs, _, _⟩ := pars_facts hp
  obtain ⟨ps, hps⟩ := pos_of s ys 0 1 (Nat.zero_le _) hprs
  have hl := pos_len ys 0 1 ps hps
  have hlen := trun_len f ys 0 1 ps hps (by omega)
  obtain ⟨t, hr1⟩ : ∃ t, trun f ys = [t] := by
    match hb : trun f ys, hlen with
    | [], h => simp at h
    | [t], _ => exact ⟨t, rfl⟩
    | x :: z :: r, h => simp at h; omega
  obtain ⟨b, cap, rfl, hbs, hcs⟩ := id hI
  have CS : Hid (∀ W B, Below w.heap.size w W → KMap W B mb n f → Calls Tryz.prog 80 #[.slice (some ⟨b, 0, none⟩) ys.length cap, .func (.func 175) #[] #[.pointer (some ⟨B, 0, none⟩)]] W fun e w' => e = .returned (.int .i8 t) ∧ Below W.heap.size W w') := fun W B hW hst =>
    csettleK f (.pointer (some ⟨B, 0, none⟩)) (fun W => KMap W B mb n f) (fun _ _ h hb => h.on hb) hf3 b cap ys W (by omega) ((hI.below hW).more hW.size) (tpos_at _ ys 0 1 ps hps (by omega)) t hr1 hst (fun W a1 a2 a3 h ho => kcl_any f a1 a2 a3 B mb n W h ho)
  have hst : KMap (w.alloc (.cells #[.map (some mb)] 170)) w.heap.size mb n f := ⟨by simp, by simp, hM.below (below_alloc _ _)⟩
  rw [hr1]
  have HST : Hid _ := hst
  clear hst hr1 hI hcs hps hprs hp hl hM hlen
  go_enter Tryz.func124, Tryz.ntmps124
  go_wp2_with (go_at_call 80; refine (CS.out _ _ (below_alloc w _) HST.out).mono ?_; rintro e w3 ⟨rfl, hb3⟩)
  go_ret
  exact ⟨rfl, (below_alloc w _).trans (hb3.mono (by simp))⟩
end Go.Proofs.YtkinoehmcfhgbaaGreatDoor.Vl
set_option linter.unusedVariables false
set_option linter.unusedSimpArgs false
namespace Go.Proofs.YtkinoehmcfhgbaaGreatDoor.Vl
open Go.RowKit

/-- All old memory but blocks b and mb is as it was. -/
structure FrK (b mb : Nat) (w w' : World) : Prop where
  os : w'.os = w.os
  tape : w'.tape = w.tape
  output : w'.output = w.output
  size : w.heap.size ≤ w'.heap.size
  block : ∀ k, k < w.heap.size → k ≠ b → k ≠ mb → w'.heap[k]? = w.heap[k]?
theorem FrK.refl (b mb : Nat) (w : World) : FrK b mb w w := ⟨rfl, rfl, rfl, Nat.le_refl _, fun _ _ _ _ => rfl⟩
theorem FrK.trans {b mb : Nat} {a c d : World} (h : FrK b mb a c) (k : FrK b mb c d) : FrK b mb a d :=
  ⟨k.os.trans h.os, k.tape.trans h.tape, k.output.trans h.output, Nat.le_trans h.size k.size, fun i hi h1 h2 => (k.block i (Nat.lt_of_lt_of_le hi h.size) h1 h2).trans (h.block i hi h1 h2)⟩
theorem FrK.of_below {b mb : Nat} {w w' : World} (h : Below w.heap.size w w') : FrK b mb w w' := ⟨h.os, h.tape, h.output, h.size, fun k hk _ _ => h.block k hk⟩
theorem FrK.of_b {b mb : Nat} {w w' : World} (h : w.grownBy w' (some b)) : FrK b mb w w' := ⟨h.os, h.tape, h.output, h.size, fun k hk h1 _ => h.block k hk (fun e => h1 (by injection e))⟩
theorem FrK.of_m {b mb : Nat} {w w' : World} (h : w.grownBy w' (some mb)) : FrK b mb w w' := ⟨h.os, h.tape, h.output, h.size, fun k hk _ h2 => h.block k hk (fun e => h2 (by injection e))⟩
theorem FrK.below {b mb : Nat} {w0 w w' : World} (h : FrK b mb w w') (h0 : Below w0.heap.size w0 w) (hb : w0.heap.size ≤ b) (hm : w0.heap.size ≤ mb) : Below w0.heap.size w0 w' :=
  ⟨h.os.trans h0.os, h.tape.trans h0.tape, h.output.trans h0.output, Nat.le_trans h0.size h.size, fun k hk => (h.block k (Nat.lt_of_lt_of_le hk h0.size) (by omega) (by omega)).trans (h0.block k hk)⟩
/-- What stays: the condition, its atoms. -/
structure KC (w0 w : World) (b mb : Nat) (vW : Value) (ys : List Sym) (q : Option Addr) (cap : Nat) (us : List Atm) : Prop where
  h0 : Below w0.heap.size w0 w
  hb : w0.heap.size ≤ b
  hm : w0.heap.size ≤ mb
  hbm : b ≠ mb
  at' : Atms w (.slice q us.length cap) us
  ab : ∀ g, q = some ⟨g, 0, none⟩ → g ≠ b ∧ g ≠ mb
  sy : ∃ g c, vW = .slice (some ⟨g, 0, none⟩) ys.length c ∧ g ≠ b ∧ g ≠ mb
  sw : Syms w.heap.size w vW ys
theorem KC.fr {w0 w w' : World} {b mb : Nat} {vW : Value} {ys : List Sym} {q : Option Addr} {cap : Nat} {us : List Atm} (h : KC w0 w b mb vW ys q cap us) (hf : FrK b mb w w') : KC w0 w' b mb vW ys q cap us := by
  refine ⟨hf.below h.h0 h.hb h.hm, h.hb, h.hm, h.hbm, ?_, h.ab, h.sy, ?_⟩
  · rcases h.at' with h1 | ⟨g, c, h1, h2, h3, h4, h5⟩
    · exact Or.inl h1
    · obtain ⟨n1, n2⟩ := h.ab g (by injection h1)
      have e := hf.block g h4 n1 n2
      have ec : ∀ o, w'.cell? ⟨g, o, none⟩ = w.cell? ⟨g, o, none⟩ := fun o => World.cell?_of_block (a := ⟨g, o, none⟩) e
      exact Or.inr ⟨g, c, h1, h2, h3, Nat.lt_of_lt_of_le h4 hf.size, fun j a ha => ⟨(ec _).trans (h5 j a ha).1, (ec _).trans (h5 j a ha).2.1, (ec _).trans (h5 j a ha).2.2⟩⟩
  · obtain ⟨g, c, e1, n1, n2⟩ := h.sy
    obtain ⟨g', c', e2, h2, h3⟩ := h.sw
    have eg : g' = g := by rw [e1] at e2; injection e2 with a; injection a with a; injection a with a; exact a.symm
    subst eg
    have e := hf.block g' h2 n1 n2
    have ec : ∀ o, w'.cell? ⟨g', o, none⟩ = w.cell? ⟨g', o, none⟩ := fun o => World.cell?_of_block (a := ⟨g', o, none⟩) e
    exact ⟨g', c', e2, Nat.lt_of_lt_of_le h2 hf.size, fun j y hy => ⟨(ec _).trans (h3 j y hy).1, (ec _).trans (h3 j y hy).2.1, (ec _).trans (h3 j y hy).2.2.1, (ec _).trans (h3 j y hy).2.2.2⟩⟩
/-- The kernel at work: what is left of the proof, what is assumed. -/
structure KS (w0 w : World) (b mb : Nat) (vW : Value) (ys : List Sym) (q : Option Addr) (cap : Nat) (us : List Atm) (l : List UInt8) (n : Nat) (f : Atm → Int) : Prop where
  c : KC w0 w b mb vW ys q cap us
  kn : KnAt w b vW (.slice q us.length cap) l mb
  am : AM w mb n f
section
variable {w0 w w' : World} {b mb : Nat} {vW : Value} {ys : List Sym} {q : Option Addr} {cap : Nat} {us : List Atm} {l l' : List UInt8} {n : Nat} {f : Atm → Int}
theorem KS.below (h : KS w0 w b mb vW ys q cap us l n f) (hb : Below w.heap.size w w') : KS w0 w' b mb vW ys q cap us l n f := ⟨h.c.fr (.of_below hb), h.kn.below hb, h.am.below hb⟩
theorem KS.read (h : KS w0 w b mb vW ys q cap us l n f) (hg : w.grownBy w' (some b)) (hk : KnAt w' b vW (.slice q us.length cap) l' mb) : KS w0 w' b mb vW ys q cap us l' n f := ⟨h.c.fr (.of_b hg), hk, h.am.kept hg (fun e => h.c.hbm (by injection e with e; exact e.symm))⟩
theorem takeK (h : KS w0 w b mb vW ys q cap us l n f) (c : UInt8) (hl : l.length ≤ 200000) :
    Calls Tryz.prog 123 #[.pointer (some ⟨b, 0, none⟩), .string ⟨#[c]⟩] w fun e w' => e = .returned (.bool (is1 c l)) ∧ KS w0 w' b mb vW ys q cap us (tk1 c l) n f ∧ FrK b mb w w' :=
  (take_any w b mb vW _ l c (by omega) h.kn).mono fun e w' ⟨h1, h2, h3⟩ => ⟨h1, h.read h3 h2, .of_b h3⟩
theorem atomK (h : KS w0 w b mb vW ys q cap us l n f) (hgl : Gl w0) (hl : l.length ≤ 200000) (hN : us.length ≤ 4000) :
    Calls Tryz.prog 177 #[.pointer (some ⟨b, 0, none⟩)] w fun e w' => FrK b mb w w' ∧
      ((∃ i r, fig us.length l = some (i, r) ∧ i < us.length ∧ e = .returned (.tuple #[avV (us.getD i (0, 0, 0)), .bool true]) ∧ KS w0 w' b mb vW ys q cap us r n f) ∨
       (fig us.length l = none ∧ e = .returned (.tuple #[avV (0, 0, 0), .bool false]) ∧ KS w0 w' b mb vW ys q cap us (l.drop (dlen l)) n f)) := by
  obtain ⟨F1, F2⟩ := fig_is hN l
  by_cases hex : ∃ v, Lib.atoiAll (l.take (dlen l)) = .ok v ∧ Lib.itoa v = l.take (dlen l) ∧ v < (us.length : Int)
  · obtain ⟨v, h1, h2, h3⟩ := hex
    obtain ⟨v0, hf⟩ := F1 v h1 h2 h3
    obtain ⟨i, rfl⟩ : ∃ i : Nat, v = (i : Int) := ⟨v.toNat, by omega⟩
    have hi : i < us.length := by omega
    rcases h.c.at' with h4 | ⟨g, c, h4, h5, h6, h7, h8⟩
    · rw [h4.2] at hi; simp at hi
    · have eq : q = some ⟨g, 0, none⟩ := by injection h4
      subst eq
      have ha : us[i]? = some us[i] := List.getElem?_eq_getElem hi
      have eD : us.getD i (0, 0, 0) = us[i] := by rw [List.getD_eq_getElem?_getD, ha]; rfl
      obtain ⟨z0, z1, z2⟩ := h8 i us[i] ha
      refine (atom_some w0 w b mb vW g i us[i].1 us[i].2.1 us[i].2.2 us.length cap l hgl h.c.h0 h.c.hb hl h.kn h1 h2 hi (h.c.ab g rfl).1 h7 z0 z1 z2).mono ?_
      rintro e w' ⟨g1, g2, g3⟩
      refine ⟨.of_b g1, Or.inl ⟨i, l.drop (dlen l), by rw [hf]; rfl, hi, ?_, h.read g1 g3⟩⟩
      rw [g2, eD]
  · refine (atom_none w0 w b mb vW q us.length cap l hgl h.c.h0 h.c.hb hl h.kn (fun v h1 h2 h3 => hex ⟨v, h1, h2, h3⟩)).mono ?_
    rintro e w' ⟨g1, g2, g3⟩
    exact ⟨.of_b g1, Or.inr ⟨F2 (fun v h1 h2 h3 => hex ⟨v, h1, h2, h3⟩), g2, h.read g1 g3⟩⟩
end
end Go.Proofs.YtkinoehmcfhgbaaGreatDoor.Vl
set_option linter.unusedVariables false
set_option linter.unusedSimpArgs false
namespace Go.Proofs.YtkinoehmcfhgbaaGreatDoor.Vl
open Go.RowKit

theorem Tryz.infoLA : (Tryz.prog.info? 134).map (fun i => (i.zero, i.size, i.bytes)) = some (some (.agg #[.int .i64 0, .int .i64 0, .int .i64 0]), 3, 24) := by kernel_rfl
/-- How much of the proof is left. -/
def knLen (w : World) (b : Nat) : Nat := match w.cell? ⟨b, 2, none⟩ with | some (.string S) => S.size | _ => 0
theorem knLen_of {w : World} {b mb : Nat} {vW vA : Value} {l : List UInt8} (h : KnAt w b vW vA l mb) : knLen w b = l.length := by
  unfold knLen; rw [h.cells.2.2.1]; simp [ByteArray.size]
theorem AM.drewN {w : World} {b n : Nat} {f : Atm → Int} (h : AM w b n f) (k : Nat) : AM (w.drewN k) b n f := h
theorem FrK.own {b mb : Nat} {w wr w2 : World} {row : Option Nat} (h : FrK b mb w wr) (hg : wr.grownBy w2 row) (hr : ∀ k, row = some k → w.heap.size ≤ k) : FrK b mb w w2 :=
  ⟨hg.os.trans h.os, hg.tape.trans h.tape, hg.output.trans h.output, Nat.le_trans h.size hg.size, fun k hk h1 h2 => (hg.block k (Nat.lt_of_lt_of_le hk h.size) (fun e => by have := hr k e.symm; omega)).trans (h.block k hk h1 h2)⟩
theorem bl_drewN (w : World) (k : Nat) : Below w.heap.size w (w.drewN k) := ⟨rfl, rfl, rfl, Nat.le_refl _, fun _ _ => rfl⟩
theorem own_fr {b mb W : Nat} {wr w1 : World} {e : TypeId} {sz : Nat} {v : Value} {m : Nat} {xs : List Value} (h : wr.ownsRow W e sz v m xs) (hf : FrK b mb wr w1) (hb : b < W) (hm : mb < W) : w1.ownsRow W e sz v m xs := by
  refine ⟨h.1, ?_⟩
  rcases h.2 with h2 | ⟨g, cap, cur, h1, h2, h3, h4⟩
  · exact Or.inl h2
  · exact Or.inr ⟨g, cap, cur, h1, h2, (hf.block g (Array.getElem?_eq_some_iff.1 h3).1 (by omega) (by omega)).trans h3, h4⟩
def lstp (us : List Atm) (f : Atm → Int) (k : Nat) (a : Atm) : List UInt8 → Option (List Atm × List UInt8)
  | [] => none
  | c :: r2 => if f a = 0 then none else if c = 44 then (lks us f k r2).map (fun x => (ifA a (f a) :: x.1, x.2)) else if c = 59 then some ([ifA a (f a)], r2) else none
theorem lks_step {us : List Atm} {f : Atm → Int} {k i : Nat} {r r1 : List UInt8} {a : Atm} (h : fig us.length r = some (i, r1)) (ea : us.getD i (0, 0, 0) = a) : lks us f (k + 1) r = lstp us f k a r1 := by
  subst ea
  cases r1 with
  | nil => simp only [lks, h, lstp]
  | cons c r2 => simp only [lks, h, lstp]
theorem okA_getD {us : List Atm} (h : ∀ a ∈ us, okA a) (i : Nat) (hi : i < us.length) : okA (us.getD i (0, 0, 0)) := by
  rw [List.getD_eq_getElem?_getD, List.getElem?_eq_getElem hi]; exact h _ (List.getElem_mem hi)

set_option maxRecDepth 100000 in
set_option maxHeartbeats 4000000 in
theorem assumptions_any {w0 : World} {b mb : Nat} {vW : Value} {ys : List Sym} {q : Option Addr} {cap : Nat} {us : List Atm} {n : Nat} {f : Atm → Int} (w : World) (l : List UInt8) (h : KS w0 w b mb vW ys q cap us l n f) (hgl : Gl w0) (hl : l.length ≤ 200000) (hN : us.length ≤ 4000) (hok : ∀ a ∈ us, okA a) (hf3 : ∀ a, T3 (f a)) :
    Calls Tryz.prog 176 #[.pointer (some ⟨b, 0, none⟩)] w fun e w' => FrK b mb w w' ∧ ∃ v l', KS w0 w' b mb vW ys q cap us l' n f ∧
      ((∃ ats r, lks us f (l.length + 1) l = some (ats, r) ∧ l' = r ∧ e = .returned (.tuple #[v, .bool true]) ∧ w'.ownsRow w.heap.size 134 3 v ats.length (cells3 ats)) ∨ (lks us f (l.length + 1) l = none ∧ e = .returned (.tuple #[v, .bool false]))) := by
  obtain ⟨i0, hi, hz0, hz1, hz2⟩ := info_parts Tryz.infoLA
  have HC : Hid (KC w0 w b mb vW ys q cap us) := h.c
  have HK : Hid _ := h.kn
  have HM : Hid _ := h.am
  have hbw := h.kn.lt
  have hmw := h.am.lt
  clear h
  go_enter Tryz.func176, Tryz.ntmps176
  go_wp2_with fail
  go_loopw [4, 5, 6, 7] (fun v p fd t wr => ∃ (k : Nat) (r : List UInt8) (done : List Atm), lks us f (l.length + 1) l = (lks us f k r).map (fun x => (done ++ x.1, x.2)) ∧ r.length < k ∧ r.length ≤ l.length ∧ done.length + r.length ≤ l.length ∧ KnAt wr b vW (.slice q us.length cap) r mb ∧ AM wr mb n f ∧ FrK b mb w wr ∧ wr.ownsRow w.heap.size 134 3 v done.length (cells3 done)) (fun _ _ _ _ wr => knLen wr b)
  case atStart => exact ⟨l.length + 1, l, [], by cases lks us f (l.length + 1) l <;> rfl, by omega, Nat.le_refl _, by simp, HK.out, HM.out, FrK.refl _ _ _, World.ownsRow_nil _ _ _ _⟩
  case round =>
    obtain ⟨k, r, done, hlk, hrk, hrl, hdr, hkn, ham, hfr, hown⟩ := hrel
    have hKS : KS w0 wr b mb vW ys q cap us r n f := ⟨HC.out.fr hfr, hkn, ham⟩
    have HLK : Hid _ := hlk
    have HKW : Hid (knLen wr b = r.length) := knLen_of hkn
    clear hlk
    go_wp2_with fail
    refine Calls.mono (atomK hKS hgl (by omega) hN) ?_
    rintro e w1 ⟨hf1, hcs⟩
    have hown1 := own_fr hown hf1 hbw hmw
    have hfr1 := hfr.trans hf1
    clear hown hfr hKS hkn ham hf1
    have LOOK : Hid (∀ (a1 a2 a3 : Int) (r' : List UInt8), KS w0 w1 b mb vW ys q cap us r' n f → okA (a1, a2, a3) → KS w0 (w1.alloc (.cells #[.int .i64 a1, .int .i64 a2, .int .i64 a3] 134)) b mb vW ys q cap us r' n f ∧ (w1.alloc (.cells #[.int .i64 a1, .int .i64 a2, .int .i64 a3] 134)).cell? ⟨b, 3, none⟩ = some (.map (some mb)) ∧ ∀ m, (Instr.lookup 170 (.map (some mb)) (.agg #[.int .i64 a1, .int .i64 a2, .int .i64 a3]) false).run Tryz.prog ((w1.alloc (.cells #[.int .i64 a1, .int .i64 a2, .int .i64 a3] 134)).drewN m) = .ok (.int .i8 (f (a1, a2, a3))) ((w1.alloc (.cells #[.int .i64 a1, .int .i64 a2, .int .i64 a3] 134)).drewN m)) := fun a1 a2 a3 r' hk ho => by
      have h2 := hk.below (below_alloc w1 (.cells #[.int .i64 a1, .int .i64 a2, .int .i64 a3] 134))
      exact ⟨h2, h2.kn.cells.2.2.2, fun m => AM.look (h2.am.drewN m) (a1, a2, a3) ho⟩
    rcases hcs with ⟨i, r1, hfg, hil, rfl, hk1⟩ | ⟨hfg, rfl, hk1⟩
    · have hoa := okA_getD hok i hil
      have hr1 := fig_len hfg
      obtain ⟨⟨a1, a2, a3⟩, ea⟩ : ∃ a, us.getD i (0, 0, 0) = a := ⟨_, rfl⟩
      rw [ea] at hoa
      obtain ⟨h2, c3, hlook⟩ := LOOK.out a1 a2 a3 _ hk1 hoa
      have HK2 : Hid (KS w0 (w1.alloc (.cells #[.int .i64 a1, .int .i64 a2, .int .i64 a3] 134)) b mb vW ys q cap us r1 n f) := h2
      have HF2 : Hid (FrK b mb w (w1.alloc (.cells #[.int .i64 a1, .int .i64 a2, .int .i64 a3] 134))) := hfr1.trans (.of_below (below_alloc _ _))
      have HO2 : Hid ((w1.alloc (.cells #[.int .i64 a1, .int .i64 a2, .int .i64 a3] 134)).ownsRow w.heap.size 134 3 u4 done.length (cells3 done)) := hown1.alloc _
      have hoa3 : -999999 ≤ a3 ∧ a3 ≤ 999999 := by unfold okA at hoa; dsimp only at hoa; omega
      rw [ea]
      unfold avV
      dsimp only
      have hT := hf3 (a1, a2, a3)
      have HSTEP : Hid (∀ k', lks us f (k' + 1) r = lstp us f k' (a1, a2, a3) r1) := fun k' => lks_step hfg ea
      obtain ⟨k', rfl⟩ : ∃ k', k = k' + 1 := ⟨k - 1, by omega⟩
      clear h2 hk1 LOOK hfr1 hown1
      by_cases hF0 : f (a1, a2, a3) = 0
      · have HN : Hid (lks us f (l.length + 1) l = none) := by
          show _ = _
          rw [HLK.out, HSTEP.out k']
          cases r1 with
          | nil => rfl
          | cons c r2 => simp only [lstp, hF0, if_true]; rfl
        rw [hF0] at hlook
        clear HSTEP HLK hF0 hT
        go_wp2_with fail
        go_quiet (fail)
        go_wp2_with fail
        go_ret2
        exact ⟨HF2.out.trans (.of_below (bl_drewN _ _)), _, _, KS.below HK2.out (bl_drewN _ _), Or.inr ⟨HN.out, rfl⟩⟩
      · have CI : Hid (∀ X, Calls Tryz.prog 233 #[.agg #[.int .i64 a1, .int .i64 a2, .int .i64 a3], .int .i8 (f (a1, a2, a3))] X fun e w' => e = .returned (.agg #[.int .i64 (ifA (a1, a2, a3) (f (a1, a2, a3))).1, .int .i64 (ifA (a1, a2, a3) (f (a1, a2, a3))).2.1, .int .i64 (ifA (a1, a2, a3) (f (a1, a2, a3))).2.2]) ∧ Below X.heap.size X w') := fun X => if_any a1 a2 a3 _ hT hoa3 X
        have hne : ((f (a1, a2, a3)) == 0) = false := by simpa using hF0
        have HF0 : Hid (f (a1, a2, a3) ≠ 0) := hF0
        generalize hIA : ifA (a1, a2, a3) (f (a1, a2, a3)) = IA at *
        obtain ⟨x1, x2, x3⟩ := IA
        dsimp only at CI
        generalize hFA : f (a1, a2, a3) = FA at *
        have HFA : Hid (f (a1, a2, a3) = FA) := hFA
        have HIA : Hid (ifA (a1, a2, a3) FA = (x1, x2, x3)) := hIA
        clear hFA hIA hF0 hT
        go_wp2_with fail
        go_quiet (fail)
        go_wp2_with fail
        refine Calls.mono (CI.out _) ?_
        rintro e w3 ⟨rfl, hb3⟩
        have K3 : KS w0 w3 b mb vW ys q cap us r1 n f := (KS.below HK2.out (bl_drewN _ _)).below hb3
        have F3 : FrK b mb w w3 := (HF2.out.trans (.of_below (bl_drewN _ _))).trans (.of_below hb3)
        have O3 : w3.ownsRow w.heap.size 134 3 u4 done.length (cells3 done) := ownsRow_below (ownsRow_below HO2.out (bl_drewN _ _)) hb3
        have hs3 := F3.size
        have hdl : done.length ≤ 200000 := by omega
        have HK3 : Hid (KS w0 w3 b mb vW ys q cap us r1 n f) := K3
        have HF3 : Hid (FrK b mb w w3) := F3
        have HOB : Hid (∀ k, u4.ownBlock = some k → w.heap.size ≤ k) := own_block O3
        clear K3 F3 HK2 HF2 HO2 hb3 c3 hlook CI
        go_wp2_with (at_builtin; refine wpList_append_own _ rfl _ _ 171 rfl w.heap.size 134 i0 (.agg #[.int .i64 0, .int .i64 0, .int .i64 0]) 3 24 Tryz.underlying171 hi hz0 hz1 hz2 rfl (by decide) _ _ _ rfl (O3.alloc _) ⟨w3.heap.size, 0, none⟩ 1 1 [.int .i64 x1, .int .i64 x2, .int .i64 x3] rfl rfl (three_new _ _ rfl _ _ _ _) (one_iii _ _ _) (by unfold maxLen; omega) (by omega) (by simp; omega) ?_)
        intro v' w4 hown4 hgrow _
        have hg4 : w3.grownBy w4 u4.ownBlock := (World.grownBy_alloc w3 _ _).trans hgrow
        have F4 : FrK b mb w w4 := HF3.out.own hg4 HOB.out
        have K4 : KS w0 w4 b mb vW ys q cap us r1 n f := ⟨HC.out.fr F4, HK3.out.kn.kept hg4 (fun e => by have := HOB.out b e.symm; omega), HK3.out.am.kept hg4 (fun e => by have := HOB.out mb e.symm; omega)⟩
        clear O3 hgrow hg4 HK3 HF3 HOB
        go_wp2_with fail
        refine Calls.mono (takeK K4 44 (by omega)) ?_
        rintro e w5 ⟨rfl, K5, f5⟩
        have F5 := F4.trans f5
        have O5 := own_fr hown4 f5 hbw hmw
        clear hown4 f5 F4 K4
        have HST : Hid (lks us f (l.length + 1) l = (lstp us f k' (a1, a2, a3) r1).map (fun x => (done ++ x.1, x.2))) := by show _ = _; rw [HLK.out, HSTEP.out k']
        have hF0 : ¬ f (a1, a2, a3) = 0 := by rw [HFA.out]; exact HF0.out
        have hO5 : w5.ownsRow w.heap.size 134 3 v' (done ++ [(x1, x2, x3)]).length (cells3 (done ++ [(x1, x2, x3)])) := by rw [List.length_append, cells3_snoc]; exact O5
        have HO5 : Hid _ := hO5
        obtain ⟨va, vc, ev⟩ : ∃ va vc, v' = .slice va (done.length + 1) vc := by
          rcases O5.2 with ⟨h1, h2⟩ | ⟨g, c, cur, h1, _⟩
          · omega
          · exact ⟨_, _, h1⟩
        subst ev
        clear O5 hO5 HSTEP HLK hne
        cases hi1 : is1 44 r1
        · have ht1 : tk1 44 r1 = r1 := by
            cases r1 with
            | nil => rfl
            | cons c r2 => simp only [is1] at hi1; simp only [tk1]; rw [if_neg (by simpa using hi1)]
          rw [ht1] at K5
          have HF5 : Hid (FrK b mb w w5) := F5
          have hlr : r1.length ≤ 200000 := by omega
          have HK5 : Hid (KS w0 w5 b mb vW ys q cap us r1 n f) := K5
          clear ht1 F5 K5
          go_wp2_with fail
          refine Calls.mono (takeK HK5.out 59 hlr) ?_
          rintro e w6 ⟨rfl, K6, f6⟩
          have HO6 : Hid _ := own_fr HO5.out f6 hbw hmw
          have HF6 : Hid (FrK b mb w w6) := HF5.out.trans f6
          have HK6 : Hid (KS w0 w6 b mb vW ys q cap us (tk1 59 r1) n f) := K6
          clear K6 f6 HF5 HK5 HO5
          go_wp2_with fail
          go_ret2
          refine ⟨HF6.out, .slice va (done.length + 1) vc, tk1 59 r1, HK6.out, ?_⟩
          cases r1 with
          | nil => exact Or.inr ⟨by rw [HST.out]; rfl, rfl⟩
          | cons c r2 =>
            have hc44 : c ≠ 44 := by simpa [is1] using hi1
            by_cases hc : c = 59
            · refine Or.inl ⟨done ++ [(x1, x2, x3)], r2, ?_, ?_, ?_, HO6.out⟩
              · rw [HST.out]; simp only [lstp, if_neg hF0, if_neg hc44, if_pos hc]; rw [HFA.out, HIA.out]; rfl
              · simp only [tk1, if_pos hc]
              · subst hc; rfl
            · refine Or.inr ⟨?_, ?_⟩
              · rw [HST.out]; simp only [lstp, if_neg hF0, if_neg hc44, if_neg hc]; rfl
              · have : is1 59 (c :: r2) = false := by simp only [is1]; simpa using hc
                rw [this]; rfl
        · cases r1 with
          | nil => cases hi1
          | cons c r2 =>
            have hc44 : c = 44 := by simpa [is1] using hi1
            have ht1 : tk1 44 (c :: r2) = r2 := by simp only [tk1, if_pos hc44]
            rw [ht1] at K5
            have HF5 : Hid (FrK b mb w w5) := F5
            have HK5 : Hid (KS w0 w5 b mb vW ys q cap us r2 n f) := K5
            have hkl0 := knLen_of HK5.out.kn
            have HEQ : Hid (lks us f (l.length + 1) l = (lks us f k' r2).map (fun x => ((done ++ [(x1, x2, x3)]) ++ x.1, x.2))) := by
              show _ = _
              rw [HST.out]; simp only [lstp, if_neg hF0, if_pos hc44]; rw [HFA.out, HIA.out, Option.map_map]
              congr 1
              funext x
              simp
            simp only [List.length_cons] at hr1
            clear ht1 F5 K5 HST hF0 hi1
            go_wp2_with fail
            go_roundw
            case rel => exact ⟨k', r2, done ++ [(x1, x2, x3)], HEQ.out, by omega, by omega, by simp only [List.length_append, List.length_cons, List.length_nil]; omega, HK5.out.kn, HK5.out.am, HF5.out, HO5.out⟩
            case measure =>
              rw [knLen_of HK5.out.kn, HKW.out]; omega
    · obtain ⟨h2, c3, hlook⟩ := LOOK.out 0 0 0 _ hk1 (by unfold okA; dsimp only; omega)
      have HN : Hid (lks us f (l.length + 1) l = none) := by
        show _ = _
        rw [HLK.out]
        cases k with
        | zero => rfl
        | succ k => simp only [lks, hfg]; rfl
      have HK2 : Hid _ := h2
      have HF2 : Hid (FrK b mb w (w1.alloc (.cells #[.int .i64 0, .int .i64 0, .int .i64 0] 134))) := hfr1.trans (.of_below (below_alloc _ _))
      clear h2 hk1 LOOK
      unfold avV
      generalize f (0, 0, 0) = FA at *
      go_wp2_with fail
      go_quiet (fail)
      go_wp2_with fail
      go_ret2
      exact ⟨HF2.out.trans (.of_below (bl_drewN _ _)), _, _, KS.below HK2.out (bl_drewN _ _), Or.inr ⟨HN.out, rfl⟩⟩
end Go.Proofs.YtkinoehmcfhgbaaGreatDoor.Vl
