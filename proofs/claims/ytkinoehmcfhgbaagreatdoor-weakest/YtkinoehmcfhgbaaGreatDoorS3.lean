/-
  The walk of the program's Condition.settle, where what is known comes by a closure.
  A symbol of a condition as the program cuts it off, and as the document reads it: the same. Plain words alone.
  The walks of the program's parseBound, parseAtom and cutSymbol.
-/
import Derived.Test.YtkinoehmcfhgbaaGreatDoorN24
import Derived.Test.YtkinoehmcfhgbaaGreatDoorV8
import Derived.Test.YtkinoehmcfhgbaaGreatDoorV6
import Derived.Test.YtkinoehmcfhgbaaGreatDoorShelf
set_option linter.unusedVariables false
set_option linter.unusedSimpArgs false
namespace Go.Proofs.YtkinoehmcfhgbaaGreatDoor.Vl
open Go.RowKit

set_option maxRecDepth 100000 in
set_option maxHeartbeats 4000000 in
theorem csettleH (kn : Atm → Int) (cp : Value) (KI : World → Prop) (hKI : ∀ W W', KI W → Below W.heap.size W W' → KI W') (hk3 : ∀ a, T3 (kn a)) (b cap : Nat) (ys : List Sym) (w : World) (hlen : ys.length ≤ 4000)
    (hI : Syms w.heap.size w (.slice (some ⟨b, 0, none⟩) ys.length cap) ys)
    (hval : ∀ n, n < ys.length → ∃ y, ys[n]? = some y ∧ 0 ≤ y.1 ∧ y.1 ≤ 6 ∧ (y.1 = 6 → okA y.2) ∧ prt y.1 ≤ (trun kn (ys.drop (n + 1))).length) (T : Int) (hone : trun kn ys = [T]) (hK0 : KI w)
    (CK : ∀ W a1 a2 a3, KI W → okA (a1, a2, a3) → Calls Tryz.prog 77 #[.agg #[.int .i64 a1, .int .i64 a2, .int .i64 a3], cp] W fun e w' => e = .returned (.int .i8 (kn (a1, a2, a3))) ∧ Below W.heap.size W w') :
    Calls Tryz.prog 80 #[.slice (some ⟨b, 0, none⟩) ys.length cap, .func (.func 77) #[] #[cp]] w fun e w' => e = .returned (.int .i8 T) ∧ Below w.heap.size w w' := by
  obtain ⟨i0, hi, hz0, hz1, hz2⟩ := info_parts Tryz.infoTruth
  have HV : Hid _ := hval
  have HK : Hid _ := CK
  have HI : Hid _ := hI
  have HT : Hid _ := hone
  have H3 : Hid _ := trun_t3 hk3
  have HLE : Hid _ := trun_le kn
  have KW : Hid (∀ W, Below w.heap.size w W → KI W) := fun W h => hKI w W hK0 h
  have CPt : Hid (∀ y0 w, Calls Tryz.prog 76 #[.int .i64 y0] w fun e w' => e = .returned (.int .i64 (prt y0)) ∧ w = w') := kparts_any
  clear hval CK hI hone hKI hk3 hK0
  have hyl : (ys.length : Int) = ((ys.length : Nat) : Int) := rfl
  go_enter Tryz.func80, Tryz.ntmps80
  go_wp2_with (at_make; refine wpList_make_own _ rfl _ _ 178 rfl w.heap.size 159 i0 (.int .i8 0) 1 Tryz.underlying178 hi hz0 hz1 .i64 .i64 _ ys.length rfl rfl ?_ ?_ ?_ ?_ ?_; (exact rfl); (rw [hz2]; omega); (unfold maxLen; omega); (exact Nat.le_refl _))
  intro w1 hown1 hgrow1
  have hb1 : Below w.heap.size w w1 := (Below.refl _ _).grown hgrow1 (Nat.le_refl _) (by intro k h; cases h)
  clear hgrow1
  go_wp2_with fail
  go_loopw [5, 6, 7, 8] (fun v i r t wr => ∃ n : Nat, n ≤ ys.length ∧ i = .int .i64 ((n : Int) - 1) ∧ wr.ownsRow w.heap.size 159 1 v (trun kn (ys.drop n)).length ((trun kn (ys.drop n)).reverse.map tv8) ∧ Below w.heap.size w wr) (fun _ i _ _ _ => ((intOf i) + 1).toNat)
  case atStart => exact ⟨ys.length, Nat.le_refl _, rfl, by rw [List.drop_length]; exact hown1, hb1⟩
  case round =>
    obtain ⟨n, hny, rfl, hown, hnx⟩ := hrel
    rcases Nat.eq_zero_or_pos n with rfl | hpos
    · rw [List.drop_zero, HT.out] at hown
      obtain ⟨g2, cap2, rfl, _, _, _, _, hc5, _⟩ := own_facts hown (by simp)
      have hc0 := hc5 0 (tv8 T) rfl
      unfold tv8 at hc0
      clear hc5
      go_wp2_with fail
      go_ret
      exact ⟨rfl, hnx⟩
    · obtain ⟨n, rfl⟩ : ∃ n', n = n' + 1 := ⟨n - 1, by omega⟩
      obtain ⟨⟨y0, y1, y2, y3⟩, hy1, hy2, hy3, hy4, hy5⟩ := HV.out n (by omega)
      dsimp only at hy2 hy3 hy4 hy5
      obtain ⟨_, _, e1, hbn, hcs⟩ := HI.out
      cases e1
      obtain ⟨z0, z1, z2, z3⟩ := hcs n _ hy1
      have c0 := (hnx.cell (p := ⟨b, n * 4, none⟩) hbn).trans z0
      have c1 := (hnx.cell (p := ⟨b, n * 4 + 1, none⟩) hbn).trans z1
      have c2 := (hnx.cell (p := ⟨b, n * 4 + 2, none⟩) hbn).trans z2
      have c3 := (hnx.cell (p := ⟨b, n * 4 + 3, none⟩) hbn).trans z3
      clear hcs z0 z1 z2 z3
      have hdrop : ys.drop n = (y0, y1, y2, y3) :: ys.drop (n + 1) := by
        rw [List.drop_eq_getElem_cons (by omega)]
        congr 1
        rw [List.getElem?_eq_getElem (by omega)] at hy1
        exact Option.some.inj hy1
      have HD : Hid (trun kn (ys.drop n) = tst kn (y0, y1, y2, y3) (trun kn (ys.drop (n + 1)))) := by show _ = _; rw [hdrop, trun_cons]
      have HR : Hid _ := H3.out (ys.drop (n + 1))
      have hsl : (trun kn (ys.drop (n + 1))).length ≤ 4000 := by
        have h1 := HLE.out (ys.drop (n + 1))
        rw [List.length_drop] at h1
        omega
      clear hdrop hy1
      generalize hst : trun kn (ys.drop (n + 1)) = st at *
      clear hst
      have hpr := prt_range y0
      have CP0 : Hid (∀ w, Calls Tryz.prog 76 #[.int .i64 y0] w fun e w' => e = .returned (.int .i64 (prt y0)) ∧ w = w') := fun w => CPt.out y0 w
      have HDV : Hid (trun kn (ys.drop n) = tval kn (y0, y1, y2, y3) (st.headD 0) (st.tail.headD 0) :: st.drop (prt y0).toNat) := HD.out
      clear HD
      have hh0 : T3 (st.headD 0) := by
        cases st with
        | nil => exact Or.inl rfl
        | cons x r => exact HR.out x (by simp)
      have hh1 : T3 (st.tail.headD 0) := by
        match st, HR.out with
        | [], _ => exact Or.inl rfl
        | [x], _ => exact Or.inl rfl
        | x :: z :: r, h => exact h z (by simp)
      have HH : Hid (T3 (st.headD 0) ∧ T3 (st.tail.headD 0)) := ⟨hh0, hh1⟩
      generalize hVV : tval kn (y0, y1, y2, y3) (st.headD 0) (st.tail.headD 0) = VV at *
      have HVV : Hid _ := hVV
      clear hVV hh0 hh1 HR
      generalize hp0 : prt y0 = p0 at *
      have HP0 : Hid (prt y0 = p0) := hp0
      clear hp0
      obtain ⟨q, c, rfl⟩ := own_shape hown
      have hnn : ((n + 1 : Nat) : Int) - 1 = (n : Int) := by omega
      rw [hnn]
      obtain ⟨R, hR, hRL⟩ : ∃ R : Nat, (st.length : Int) - p0 = (R : Int) ∧ R ≤ st.length := ⟨st.length - p0.toNat, by omega, by omega⟩
      have hsub : IntKind.i64.wrap ((st.length : Int) - p0) = (R : Int) := by rw [hR]; exact IntWalk.i64_in _ (by omega)
      have hnl : (n : Int) < (ys.length : Int) := by omega
      have hnl2 : n < ys.length := by omega
      have HS : Hid (∀ pv W, Below w.heap.size w W → Parts3H W pv y0 (st.headD 0) (st.tail.headD 0) → W.cell? ⟨b, n * 4, none⟩ = some (.int .i64 y0) → W.cell? ⟨b, n * 4 + 1, none⟩ = some (.int .i64 y1) → W.cell? ⟨b, n * 4 + 2, none⟩ = some (.int .i64 y2) → W.cell? ⟨b, n * 4 + 3, none⟩ = some (.int .i64 y3) → Calls Tryz.prog 116 #[.pointer (some ⟨b, n * 4, none⟩), .func (.func 77) #[] #[cp], pv] W fun e w' => e = .returned (.int .i8 VV) ∧ Below W.heap.size W w') := fun pv W hW hp a0 a1 a2 a3 => by
        rw [← HVV.out]
        exact ssettleH kn cp b (n * 4) y0 y1 y2 y3 pv _ _ W ⟨hy2, hy3⟩ HH.out.1 HH.out.2 hp a0 a1 a2 a3 (fun h6 => HK.out W y1 y2 y3 (KW.out W hW) (hy4 h6))
      clear HH HVV hy4
      go_wp2_with (go_at_call 76; refine (CP0.out _).mono ?_; rintro e w' ⟨rfl, rfl⟩)
      have hLc : st.length ≤ c := by
        rcases hown.2 with ⟨h1, h2⟩ | ⟨g, cap', cur, h1, hgb, hgh, hg3, hg4, hg5, hg6⟩
        · injection h1 with e1 e2 e3; omega
        · injection h1 with e1 e2 e3; omega
      have hRc : R ≤ c := by omega
      have hB1 : Below w.heap.size w wr.drew := hnx.drew
      have c0' : wr.drew.cell? ⟨b, n * 4, none⟩ = some (.int .i64 y0) := c0
      have c1' : wr.drew.cell? ⟨b, n * 4 + 1, none⟩ = some (.int .i64 y1) := c1
      have c2' : wr.drew.cell? ⟨b, n * 4 + 2, none⟩ = some (.int .i64 y2) := c2
      have c3' : wr.drew.cell? ⟨b, n * 4 + 3, none⟩ = some (.int .i64 y3) := c3
      have CS : Hid (∀ pv, (c ≠ R → pv = .slice (Option.map (fun x => x.add R) q) (st.length - R) (c - R)) → Calls Tryz.prog 116 #[.pointer (some ⟨b, n * 4, none⟩), .func (.func 77) #[] #[cp], pv] wr.drew fun e w' => e = .returned (.int .i8 VV) ∧ Below wr.drew.heap.size wr.drew w') := fun pv hpv => by
        refine HS.out pv wr.drew hB1 ?_ c0' c1' c2' c3'
        by_cases hcl : c = R
        · have h0 : prt y0 = 0 := by rw [HP0.out]; omega
          constructor
          · intro h; subst h; cases h0
          · rintro (h | h | h) <;> subst h <;> cases h0
        · rw [hpv hcl]
          constructor
          · intro h
            subst h
            have h1 : p0 = 1 := HP0.out.symm
            obtain ⟨t, r, rfl⟩ : ∃ t r, st = t :: r := by
              cases st with
              | nil => simp at hy5; omega
              | cons t r => exact ⟨t, r, rfl⟩
            obtain ⟨g, cap', e, hgb, hgl, hg3, hg4, hg5, hg6⟩ := own_facts hown (by simp)
            injection e with e1 e2 e3
            subst e1
            have hl1 : (t :: r).length = r.length + 1 := rfl
            have hRe : R = r.length := by omega
            refine ⟨g, R, c - R, ?_, hgl, ?_⟩
            · rw [hl1, hRe, show r.length + 1 - r.length = 1 by omega]; simp [Addr.add]; intro h; subst h; rfl
            · rw [hRe]; exact hg5 r.length (tv8 t) (by simp)
          · intro h
            have h1 : p0 = 2 := by rcases h with h | h | h <;> subst h <;> exact HP0.out.symm
            obtain ⟨t, u, r, rfl⟩ : ∃ t u r, st = t :: u :: r := by
              match st, hy5 with
              | [], h => simp at h; omega
              | [t], h => simp at h; omega
              | t :: u :: r, _ => exact ⟨t, u, r, rfl⟩
            obtain ⟨g, cap', e, hgb, hgl, hg3, hg4, hg5, hg6⟩ := own_facts hown (by simp)
            injection e with e1 e2 e3
            subst e1
            have hl1 : (t :: u :: r).length = r.length + 2 := rfl
            have hRe : R = r.length := by omega
            refine ⟨g, R, c - R, ?_, hgl, ?_, ?_⟩
            · rw [hl1, hRe, show r.length + 2 - r.length = 2 by omega]; simp [Addr.add]; intro h; subst h; rfl
            · rw [hRe]; exact hg5 r.length (tv8 u) (by simp)
            · rw [hRe]; exact hg5 (r.length + 1) (tv8 t) (by simp)
      clear HS
      by_cases hcl : c = R
      · have hcl2 := hcl.symm
        clear hcl
        subst hcl2
        go_region_with (go_at_call 116; refine (CS.out _ (fun h => absurd rfl h)).mono ?_; rintro e w3 ⟨rfl, hb3⟩)
        all_goals
          have hbw : Below wr.heap.size wr w3 := (Below.refl _ wr).drew.trans hb3
          have hown3 := ownsRow_below hown hbw
          have hnx3 : Below w.heap.size w w3 := hnx.trans (hbw.mono hnx.size)
          have hs3 := hnx3.size
          clear hown hb3 hB1 CS c0 c1 c2 c3 c0' c1' c2' c3' CP0 CPt
          rcases hown3.2 with ⟨h1, h2⟩ | ⟨g, cap', cur, h1, hgb, hgh, hg3, hg4, hg5, hg6⟩
          · have hq : q = none ∧ R = 0 := by injection h1 with e1 e2 e3; exact ⟨e1, e3⟩
            obtain ⟨rfl, hR0⟩ := hq
            have hst0 : st = [] := List.length_eq_zero_iff.1 h2
            subst hst0 hR0
            go_wp2_with (at_builtin; refine wpList_append_own _ rfl _ _ 178 rfl w.heap.size 159 i0 (.int .i8 0) 1 1 Tryz.underlying178 hi hz0 hz1 hz2 rfl (by decide) _ _ _ rfl (hown3.alloc _) ⟨w3.heap.size, 0, none⟩ 1 1 [.int .i8 VV] rfl rfl (one_new _ _ rfl _ _) (one_i8 _) (by unfold maxLen; simp) (by simp) (by simp; omega) ?_)
            intro v' w4 hown4 hgrow _
            have hb4 := (hnx3.alloc (by omega) _).grown hgrow (by simp; omega) (own_block hown3)
            clear hgrow
            go_wp2_with fail
            go_roundw
            case rel => exact ⟨n, by omega, by go_num, by rw [HDV.out]; simpa [tv8] using hown4, hb4⟩
            case measure => simp [intOf]
          · have hq : q = some ⟨g, 0, none⟩ ∧ R = cap' := by injection h1 with e1 e2 e3; exact ⟨e1, e3⟩
            obtain ⟨rfl, rfl⟩ := hq
            have hrow3 := own_take hown3 R hRL
            go_wp2_with (at_builtin; refine wpList_append_own _ rfl _ _ 178 rfl w.heap.size 159 i0 (.int .i8 0) 1 1 Tryz.underlying178 hi hz0 hz1 hz2 rfl (by decide) _ _ _ rfl (hrow3.alloc _) ⟨w3.heap.size, 0, none⟩ 1 1 [.int .i8 VV] rfl rfl (one_new _ _ rfl _ _) (one_i8 _) (by unfold maxLen; omega) (by omega) (by simp; omega) ?_)
            intro v' w4 hown4 hgrow _
            have hb4 := (hnx3.alloc (by omega) _).grown hgrow (by simp; omega) (own_block hrow3)
            clear hgrow
            go_wp2_with fail
            go_roundw
            case rel =>
              refine ⟨n, by omega, by go_num, ?_, hb4⟩
              rw [HDV.out, rows_put8 _ _ (by omega)]
              have hRp : st.length - p0.toNat = R := by omega
              rw [hRp]
              have hln : (VV :: st.drop p0.toNat).length = R + 1 := by rw [List.length_cons, List.length_drop, hRp]
              rw [hln]
              rw [List.map_reverse]
              exact hown4
            case measure => simp [intOf]
      · go_region_with (go_at_call 116; refine (CS.out _ (fun h => rfl)).mono ?_; rintro e w3 ⟨rfl, hb3⟩)
        all_goals
          have hbw : Below wr.heap.size wr w3 := (Below.refl _ wr).drew.trans hb3
          have hown3 := ownsRow_below hown hbw
          have hnx3 : Below w.heap.size w w3 := hnx.trans (hbw.mono hnx.size)
          have hs3 := hnx3.size
          clear hown hb3 hB1 CS c0 c1 c2 c3 c0' c1' c2' c3' CP0 CPt
          rcases hown3.2 with ⟨h1, h2⟩ | ⟨g, cap', cur, h1, hgb, hgh, hg3, hg4, hg5, hg6⟩
          · have hq : q = none ∧ c = 0 := by injection h1 with e1 e2 e3; exact ⟨e1, e3⟩
            obtain ⟨rfl, rfl⟩ := hq
            have hst0 : st = [] := List.length_eq_zero_iff.1 h2
            subst hst0
            exact absurd (show 0 = R by simp at hRL; omega) hcl
          · have hq : q = some ⟨g, 0, none⟩ ∧ c = cap' := by injection h1 with e1 e2 e3; exact ⟨e1, e3⟩
            obtain ⟨rfl, rfl⟩ := hq
            have hrow3 := own_take hown3 R hRL
            go_wp2_with (at_builtin; refine wpList_append_own _ rfl _ _ 178 rfl w.heap.size 159 i0 (.int .i8 0) 1 1 Tryz.underlying178 hi hz0 hz1 hz2 rfl (by decide) _ _ _ rfl (hrow3.alloc _) ⟨w3.heap.size, 0, none⟩ 1 1 [.int .i8 VV] rfl rfl (one_new _ _ rfl _ _) (one_i8 _) (by unfold maxLen; omega) (by omega) (by simp; omega) ?_)
            intro v' w4 hown4 hgrow _
            have hb4 := (hnx3.alloc (by omega) _).grown hgrow (by simp; omega) (own_block hrow3)
            clear hgrow
            go_wp2_with fail
            go_roundw
            case rel =>
              refine ⟨n, by omega, by go_num, ?_, hb4⟩
              rw [HDV.out, rows_put8 _ _ (by omega)]
              have hRp : st.length - p0.toNat = R := by omega
              rw [hRp]
              have hln : (VV :: st.drop p0.toNat).length = R + 1 := by rw [List.length_cons, List.length_drop, hRp]
              rw [hln]
              rw [List.map_reverse]
              exact hown4
            case measure => simp [intOf]
end Go.Proofs.YtkinoehmcfhgbaaGreatDoor.Vl
set_option linter.unusedVariables false
set_option linter.unusedSimpArgs false
namespace Go.Proofs.YtkinoehmcfhgbaaGreatDoor.Vl
open Go.RowKit

def ops5 : List UInt8 := [48, 97, 98, 99, 100]
def mks6 : List UInt8 := [116, 102, 33, 38, 124, 62]
/-- An atom without its point, as the program reads it. -/
def patm (l : List UInt8) : Option Atm :=
  match Lib.cut l [60, 61] with
  | (sides, num, found) =>
    if !found || sides.length != 3 || !(sides.getD 1 0 == 45) || (sides.getD 0 0 == sides.getD 2 0) then none else
    match bndX num with
    | none => none
    | some n => if Lib.indexByte ops5 (sides.getD 0 0) < 0 ∨ Lib.indexByte ops5 (sides.getD 2 0) < 0 then none else some (Lib.indexByte ops5 (sides.getD 0 0), Lib.indexByte ops5 (sides.getD 2 0), n)
/-- A symbol and what stands behind it, as the program cuts it off. -/
def csym : List UInt8 → Option (Sym × List UInt8)
  | [] => none
  | c :: r => if 0 ≤ Lib.indexByte mks6 c then some ((Lib.indexByte mks6 c, 0, 0, 0), r) else
    if (Lib.cut (c :: r) [46]).2.2 = true then (patm (Lib.cut (c :: r) [46]).1).map fun a => ((6, a), (Lib.cut (c :: r) [46]).2.1) else none

theorem ib_no (b c : UInt8) (l : List UInt8) (h : (b == c) = false) (hl : Lib.indexByte l c = -1) : Lib.indexByte (b :: l) c = -1 := by
  simp [Lib.indexByte, h, hl]
theorem mks_mk (c : UInt8) : Lib.indexByte mks6 c = mk (c.toNat : Int) := by
  by_cases h1 : c = 116
  · subst h1; rfl
  by_cases h2 : c = 102
  · subst h2; rfl
  by_cases h3 : c = 33
  · subst h3; rfl
  by_cases h4 : c = 38
  · subst h4; rfl
  by_cases h5 : c = 124
  · subst h5; rfl
  by_cases h6 : c = 62
  · subst h6; rfl
  have e1 : ((c.toNat : Int) == 116) = (c == 116) := u8_beq c 116 (by omega)
  have e2 : ((c.toNat : Int) == 102) = (c == 102) := u8_beq c 102 (by omega)
  have e3 : ((c.toNat : Int) == 33) = (c == 33) := u8_beq c 33 (by omega)
  have e4 : ((c.toNat : Int) == 38) = (c == 38) := u8_beq c 38 (by omega)
  have e5 : ((c.toNat : Int) == 124) = (c == 124) := u8_beq c 124 (by omega)
  have e6 : ((c.toNat : Int) == 62) = (c == 62) := u8_beq c 62 (by omega)
  have m1 : (c == 116) = false := by rw [beq_eq_false_iff_ne]; exact h1
  have m2 : (c == 102) = false := by rw [beq_eq_false_iff_ne]; exact h2
  have m3 : (c == 33) = false := by rw [beq_eq_false_iff_ne]; exact h3
  have m4 : (c == 38) = false := by rw [beq_eq_false_iff_ne]; exact h4
  have m5 : (c == 124) = false := by rw [beq_eq_false_iff_ne]; exact h5
  have m6 : (c == 62) = false := by rw [beq_eq_false_iff_ne]; exact h6
  have hr : mk (c.toNat : Int) = -1 := by
    unfold mk; simp only [e1, e2, e3, e4, e5, e6, m1, m2, m3, m4, m5, m6, Bool.false_eq_true, if_false]
  rw [hr]
  unfold mks6
  exact ib_no _ _ _ (by rw [Bool.beq_comm]; exact m1) (ib_no _ _ _ (by rw [Bool.beq_comm]; exact m2) (ib_no _ _ _ (by rw [Bool.beq_comm]; exact m3) (ib_no _ _ _ (by rw [Bool.beq_comm]; exact m4) (ib_no _ _ _ (by rw [Bool.beq_comm]; exact m5) (ib_no _ _ _ (by rw [Bool.beq_comm]; exact m6) rfl)))))
theorem ops_plu (c : UInt8) : Lib.indexByte ops5 c = plu c := by
  have e1 : ((c.toNat : Int) == 48) = (c == 48) := u8_beq c 48 (by omega)
  have e2 : ((c.toNat : Int) == 97) = (c == 97) := u8_beq c 97 (by omega)
  have e3 : ((c.toNat : Int) == 98) = (c == 98) := u8_beq c 98 (by omega)
  have e4 : ((c.toNat : Int) == 99) = (c == 99) := u8_beq c 99 (by omega)
  have e5 : ((c.toNat : Int) == 100) = (c == 100) := u8_beq c 100 (by omega)
  unfold plu plc ops5
  by_cases h1 : c = 48
  · subst h1; rfl
  by_cases h2 : c = 97
  · subst h2; rfl
  by_cases h3 : c = 98
  · subst h3; rfl
  by_cases h4 : c = 99
  · subst h4; rfl
  by_cases h5 : c = 100
  · subst h5; rfl
  have m1 : (c == 48) = false := by rw [beq_eq_false_iff_ne]; exact h1
  have m2 : (c == 97) = false := by rw [beq_eq_false_iff_ne]; exact h2
  have m3 : (c == 98) = false := by rw [beq_eq_false_iff_ne]; exact h3
  have m4 : (c == 99) = false := by rw [beq_eq_false_iff_ne]; exact h4
  have m5 : (c == 100) = false := by rw [beq_eq_false_iff_ne]; exact h5
  simp only [e1, e2, e3, e4, e5, m1, m2, m3, m4, m5, Bool.or_self, Bool.false_eq_true, if_false]
  exact ib_no _ _ _ (by rw [Bool.beq_comm]; exact m1) (ib_no _ _ _ (by rw [Bool.beq_comm]; exact m2) (ib_no _ _ _ (by rw [Bool.beq_comm]; exact m3) (ib_no _ _ _ (by rw [Bool.beq_comm]; exact m4) (ib_no _ _ _ (by rw [Bool.beq_comm]; exact m5) rfl))))
theorem plu_inj {a c : UInt8} (ha : 0 ≤ plu a) (h : plu a = plu c) : a = c := by
  unfold plu plc at *
  simp only [beq_iff_eq, Bool.or_eq_true] at *
  apply UInt8.toNat_inj.1
  repeat' split at h
  all_goals simp_all
  all_goals omega
theorem plu_not {a : UInt8} (ha : 0 ≤ plu a) : a ≠ 46 ∧ a ≠ 60 ∧ a ≠ 45 := by
  refine ⟨?_, ?_, ?_⟩ <;> intro e <;> subst e <;> exact absurd ha (by decide)

/-- The one form of an atom. -/
def Form (l : List UInt8) (a c : UInt8) (n : Int) (tail : List UInt8) : Prop :=
  l = a :: 45 :: c :: 60 :: 61 :: (Lib.itoa n ++ 46 :: tail) ∧ 0 ≤ plu a ∧ 0 ≤ plu c ∧ plu a ≠ plu c ∧ -999999 ≤ n ∧ n ≤ 999999
theorem atm_form {l : List UInt8} {q : Atm} {k : Nat} (h : atm l = some (q, k)) : ∃ a c n tail, Form l a c n tail ∧ q = (plu a, plu c, n) ∧ tail = l.drop k := by
  match l, h with
  | a :: b :: c :: d :: e :: r, h =>
    simp only [atm] at h
    split at h
    · cases h
    · rename_i h1
      cases hb : bnd r with
      | none => rw [hb] at h; cases h
      | some p =>
        obtain ⟨n, j⟩ := p
        rw [hb] at h
        simp only at h
        split at h
        · cases h
        · rename_i h2
          simp only [Bool.or_eq_true, Bool.not_eq_true', beq_eq_false_iff_ne, not_or, ne_eq, Decidable.not_not, List.cons.injEq, and_true] at h1
          simp only [Bool.or_eq_true, decide_eq_true_eq, Bool.not_eq_true', beq_eq_false_iff_ne, beq_iff_eq, not_or, ne_eq, Decidable.not_not] at h2
          obtain ⟨⟨⟨c1, c2⟩, c3⟩, c4⟩ := h2
          obtain ⟨⟨_, hb45⟩, hd60, he61⟩ := h1
          subst hb45 hd60 he61
          obtain ⟨i1, i2, i3⟩ := itoa_bnd hb
          cases h
          have hj : j < r.length := by
            rcases Nat.lt_or_ge j r.length with hj | hj
            · exact hj
            · rw [List.getD_eq_getElem?_getD, List.getElem?_eq_none hj] at c4; exact absurd c4 (by decide)
          refine ⟨a, c, n, r.drop (j + 1), ⟨?_, by omega, by omega, c3, i2, i3⟩, rfl, ?_⟩
          · have hr : r = r.take j ++ 46 :: r.drop (j + 1) := by
              conv => lhs; rw [← List.take_append_drop j r]
              congr 1
              rw [List.drop_eq_getElem_cons hj]
              congr 1
              rw [List.getD_eq_getElem?_getD, List.getElem?_eq_getElem hj] at c4
              exact c4
            rw [i1] at hr
            rw [← hr]
          · show r.drop (j + 1) = (a :: 45 :: c :: 60 :: 61 :: r).drop (6 + j)
            rw [show 6 + j = (j + 1) + 1 + 1 + 1 + 1 + 1 by omega]
            simp only [List.drop_succ_cons]
theorem form_atm {l : List UInt8} {a c : UInt8} {n : Int} {tail : List UInt8} (h : Form l a c n tail) : ∃ k, atm l = some ((plu a, plu c, n), k) ∧ tail = l.drop k := by
  obtain ⟨rfl, h1, h2, h3, h4, h5⟩ := h
  have hb := bnd_itoa n h4 h5 tail
  refine ⟨6 + (Lib.itoa n).length, ?_, ?_⟩
  · have he : (Lib.itoa n ++ 46 :: tail).isEmpty = false := by simp
    simp only [atm, he, hb]
    have hg : (Lib.itoa n ++ 46 :: tail).getD (Lib.itoa n).length 0 = 46 := by
      rw [List.getD_eq_getElem?_getD, List.getElem?_append_right (Nat.le_refl _)]; simp
    rw [hg]
    have d1 : decide (plu a < 0) = false := by simp; omega
    have d2 : decide (plu c < 0) = false := by simp; omega
    have d3 : (plu a == plu c) = false := by simpa using h3
    rw [d1, d2, d3]; rfl
  · rw [show 6 + (Lib.itoa n).length = ((Lib.itoa n).length + 1) + 1 + 1 + 1 + 1 + 1 by omega]
    simp only [List.drop_succ_cons]
    rw [List.drop_append, List.drop_eq_nil_of_le (by omega)]
    simp
theorem itoa_no (n : Int) (h0 : -999999 ≤ n) (h1 : n ≤ 999999) : ∀ x ∈ Lib.itoa n, x ≠ 46 := by
  intro x hx e
  subst e
  unfold Lib.itoa at hx
  split at hx
  · rcases List.mem_cons.1 hx with h | h
    · exact absurd h (by decide)
    · have := dec_dig _ (by omega) 46 h; cases this
  · have := dec_dig _ (by omega) 46 hx; cases this
theorem cut_dot (x tail : List UInt8) (h : ∀ c ∈ x, c ≠ 46) : Lib.cut (x ++ 46 :: tail) [46] = (x, tail, true) := by
  have hi : Lib.index (x ++ 46 :: tail) [46] = x.length := by
    refine Lib.index_first (by simp) ?_ ?_
    · unfold Lib.occAt; simp [List.isPrefixOf]
    · intro j hj
      unfold Lib.occAt
      rw [List.drop_append_of_le_length (by omega), List.drop_eq_getElem_cons hj]
      simp only [List.cons_append, List.isPrefixOf, Bool.and_true, beq_eq_false_iff_ne]
      exact fun e => h _ (List.getElem_mem hj) e.symm
  unfold Lib.cut
  rw [hi, if_pos (by omega)]
  simp
theorem cut_back {l sep x y : List UInt8} (h : Lib.cut l sep = (x, y, true)) : l = x ++ sep ++ y := by
  unfold Lib.cut at h
  split at h
  · rename_i h0
    rcases Lib.index_spec l sep with ⟨h1, _⟩ | ⟨i, h1, h2, h3, _⟩
    · omega
    · rw [h1, Int.toNat_natCast] at h
      injection h with hx h
      injection h with hy _
      unfold Lib.occAt at h3
      rw [List.isPrefixOf_iff_prefix] at h3
      obtain ⟨t, ht⟩ := h3
      have : y = t := by
        rw [← hy, ← List.drop_drop, ← ht]; simp
      rw [← hx, this, List.append_assoc, ht, List.take_append_drop]
  · cases h
theorem cut_le (a c : UInt8) (num : List UInt8) (ha : a ≠ 60) (hc : c ≠ 60) : Lib.cut (a :: 45 :: c :: 60 :: 61 :: num) [60, 61] = ([a, 45, c], num, true) := by
  have hi : Lib.index (a :: 45 :: c :: 60 :: 61 :: num) [60, 61] = ((3 : Nat) : Int) := by
    refine Lib.index_first (by simp) rfl ?_
    intro j hj
    have ha' : (60 == a) = false := by rw [beq_eq_false_iff_ne]; exact fun e => ha e.symm
    have hc' : (60 == c) = false := by rw [beq_eq_false_iff_ne]; exact fun e => hc e.symm
    match j, hj with
    | 0, _ => simp [Lib.occAt, List.isPrefixOf, ha']
    | 1, _ => simp [Lib.occAt, List.isPrefixOf]
    | 2, _ => simp [Lib.occAt, List.isPrefixOf, hc']
  unfold Lib.cut
  rw [hi, if_pos (by omega)]
  rfl
theorem patm_form {a c : UInt8} {n : Int} (h1 : 0 ≤ plu a) (h2 : 0 ≤ plu c) (h3 : plu a ≠ plu c) (h4 : -999999 ≤ n) (h5 : n ≤ 999999) : patm (a :: 45 :: c :: 60 :: 61 :: Lib.itoa n) = some (plu a, plu c, n) := by
  unfold patm
  rw [cut_le a c _ (plu_not h1).2.1 (plu_not h2).2.1]
  have hac : (a == c) = false := by rw [beq_eq_false_iff_ne]; intro e; subst e; exact h3 rfl
  simp only [List.length_cons, List.length_nil, List.getD_cons_zero, List.getD_cons_succ, hac, bndX_itoa n h4 h5, ops_plu]
  rw [if_neg (by decide), if_neg (by omega)]
theorem form_patm {l : List UInt8} {q : Atm} (h : patm l = some q) : ∃ a c n, l = a :: 45 :: c :: 60 :: 61 :: Lib.itoa n ∧ q = (plu a, plu c, n) ∧ 0 ≤ plu a ∧ 0 ≤ plu c ∧ plu a ≠ plu c ∧ -999999 ≤ n ∧ n ≤ 999999 := by
  unfold patm at h
  match hcut : Lib.cut l [60, 61], h with
  | (sides, num, found), h =>
    simp only at h
    split at h
    · cases h
    · rename_i h1
      cases hb : bndX num with
      | none => rw [hb] at h; cases h
      | some n =>
        rw [hb] at h
        simp only at h
        split at h
        · cases h
        · rename_i h2
          simp only [Bool.or_eq_true, Bool.not_eq_true', bne_iff_ne, beq_eq_false_iff_ne, beq_iff_eq, not_or, ne_eq, Decidable.not_not, Bool.not_eq_false] at h1
          obtain ⟨⟨⟨f1, f2⟩, f3⟩, f4⟩ := h1
          subst f1
          match sides, f2 with
          | [a, b, c], _ =>
            simp only [List.getD_cons_zero, List.getD_cons_succ] at f3 f4 h2 h
            subst f3
            obtain ⟨i1, i2, i3⟩ := itoa_bndX hb
            have hl := cut_back hcut
            rw [ops_plu, ops_plu] at h2 h
            cases h
            refine ⟨a, c, n, by rw [hl, i1]; rfl, rfl, by omega, by omega, fun e => f4 (plu_inj (by omega) e), i2, i3⟩
/-- The two readers cut off the same. -/
theorem csym_sym (c : UInt8) (r : List UInt8) : csym (c :: r) = (sym (c :: r)).map fun q => (q.1, (c :: r).drop q.2) := by
  simp only [csym, sym, mks_mk]
  split
  · simp
  · rename_i hm
    cases ha : atm (c :: r) with
    | some q =>
      obtain ⟨q, k⟩ := q
      obtain ⟨a, c', n, tail, hf, rfl, ht⟩ := atm_form ha
      obtain ⟨hl, h1, h2, h3, h4, h5⟩ := hf
      have hcut : Lib.cut (c :: r) [46] = (a :: 45 :: c' :: 60 :: 61 :: Lib.itoa n, tail, true) := by
        rw [hl]
        refine cut_dot (a :: 45 :: c' :: 60 :: 61 :: Lib.itoa n) tail ?_
        intro x hx
        simp only [List.mem_cons] at hx
        rcases hx with rfl | rfl | rfl | rfl | rfl | hx
        · exact (plu_not h1).1
        · decide
        · exact (plu_not h2).1
        · decide
        · decide
        · exact itoa_no n h4 h5 x hx
      rw [hcut]
      simp only [if_true, patm_form h1 h2 h3 h4 h5, Option.map_some, ht]
    | none =>
      simp only [Option.map_none]
      split
      · rename_i hc
        cases hp : patm (Lib.cut (c :: r) [46]).1 with
        | none => rfl
        | some q =>
          exfalso
          obtain ⟨a, c', n, h0, rfl, h1, h2, h3, h4, h5⟩ := form_patm hp
          have hb := cut_back (l := c :: r) (sep := [46]) (x := (Lib.cut (c :: r) [46]).1) (y := (Lib.cut (c :: r) [46]).2.1) (by rw [← hc])
          rw [h0] at hb
          have hf : Form (c :: r) a c' n (Lib.cut (c :: r) [46]).2.1 := ⟨hb.trans (by simp), h1, h2, h3, h4, h5⟩
          obtain ⟨k, hk, _⟩ := form_atm hf
          rw [ha] at hk; cases hk
      · rfl
end Go.Proofs.YtkinoehmcfhgbaaGreatDoor.Vl
set_option linter.unusedVariables false
set_option linter.unusedSimpArgs false
namespace Go.Proofs.YtkinoehmcfhgbaaGreatDoor.Vl
open Go.RowKit
open Go.Sort (grow)

/- The library's functions, as the kit's contracts have them. -/
theorem c_cut (s sep : ByteArray) (m : Int) (w : World) (hs : s.size < 4294967281) (hm : w.cell? ⟨0, 0, none⟩ = some (.int .i64 m)) :
    Calls Tryz.prog 113 #[.string s, .string sep] w fun e w' => e = .returned (.tuple #[.string ⟨(Lib.cut s.data.toList sep.data.toList).1.toArray⟩, .string ⟨(Lib.cut s.data.toList sep.data.toList).2.1.toArray⟩, .bool (Lib.cut s.data.toList sep.data.toList).2.2]) ∧ ∃ n, w' = w.drewN n :=
  Any.strings_Cut Tryz.lays145 s sep m w hs hm
theorem c_index (s : ByteArray) (c : Int) (w : World) : Calls Tryz.prog 112 #[.string s, .int .u8 c] w fun e w' => e = .returned (.int .i64 (Lib.indexByte s.data.toList c.toNat.toUInt8)) ∧ w' = w :=
  Any.strings_IndexByte Tryz.lays137 s c w
/-- The name of the library's table of powers of ten. -/
def tabName : String := (Rows.listedRow.laid.map (·.1)).getD 2 ""
theorem c_itoa (n : Int) (h0 : -9223372036854775808 ≤ n) (h1 : n ≤ 9223372036854775807) (w : World) (htab : Lib.TabIs Tryz.prog w tabName .u64 Lib.pow10Tab) :
    Calls Tryz.prog 144 #[.int .i64 n] w fun e w' => e = .returned (.string ⟨(Lib.itoa n).toArray⟩) ∧ ∃ k os, w' = grow (w.drewN k) os :=
  Any.strconv_Itoa Tryz.laysM171 n h0 h1 w htab
theorem c_atoi (s : ByteArray) (hmax : s.size ≤ 9223372036854775806) (v : Int) (h : Lib.atoiAll s.data.toList = .ok v) (w : World) :
    Calls Tryz.prog 231 #[.string s] w fun e w' => e = .returned (.tuple #[.int .i64 v, .nilIface]) ∧ (w' = w ∨ ∃ t, w' = Lib.bytesWorld w 5 t) :=
  Any.strconv_Atoi_ok Tryz.laysC172 s hmax v h w

/- What the library's variables hold. -/
def GlF (w : World) : Prop := (∃ m, w.cell? ⟨0, 0, none⟩ = some (.int .i64 m)) ∧ (∃ ev, w.cell? ⟨2, 0, none⟩ = some ev ∧ (ev = .nilIface ∨ ∃ te pe, ev = .iface te pe)) ∧ (∃ ev, w.cell? ⟨3, 0, none⟩ = some ev ∧ (ev = .nilIface ∨ ∃ te pe, ev = .iface te pe)) ∧ Lib.TabIs Tryz.prog w tabName .u64 Lib.pow10Tab
def Gl (w : World) : Prop := ∀ w', Below w.heap.size w w' → GlF w'
theorem Gl.here {w : World} (h : Gl w) : GlF w := h w (Below.refl _ _)
theorem Gl.on {w w1 : World} (h : Gl w) (hb : Below w.heap.size w w1) : Gl w1 := fun w' h' => h w' (hb.trans (h'.mono hb.size))

theorem below_bytesW (w : World) (e : TypeId) (s : ByteArray) : Below w.heap.size w (Lib.bytesWorld w e s) := by
  refine ⟨rfl, rfl, rfl, ?_, fun k hk => Lib.bytesWorld_at_old w e s k hk⟩
  simp [Lib.bytesWorld, World.freeze, World.alloc, World.drew, -World.alloc_eq, -World.drew_eq]
theorem below_growW (w : World) (k : Nat) (os : Array Obj) : Below w.heap.size w (grow (w.drewN k) os) := by
  have h := below_drewN (Below.refl w.heap.size w) k
  refine ⟨h.os, h.tape, h.output, ?_, fun j hj => ?_⟩
  · have : (grow (w.drewN k) os).heap = (w.drewN k).heap ++ os := rfl
    rw [this, Array.size_append]; have := h.size; omega
  · have : (grow (w.drewN k) os).heap = (w.drewN k).heap ++ os := rfl
    rw [this, Array.getElem?_append_left (by have := h.size; omega)]
    exact h.block j hj
theorem cut_any (s sep : ByteArray) (w : World) (hg : Gl w) (hs : s.size ≤ 4000) :
    Calls Tryz.prog 113 #[.string s, .string sep] w fun e w' => e = .returned (.tuple #[.string ⟨(Lib.cut s.data.toList sep.data.toList).1.toArray⟩, .string ⟨(Lib.cut s.data.toList sep.data.toList).2.1.toArray⟩, .bool (Lib.cut s.data.toList sep.data.toList).2.2]) ∧ Below w.heap.size w w' := by
  obtain ⟨m, hm⟩ := hg.here.1
  exact (c_cut s sep m w (by omega) hm).mono fun e w' h => by
    obtain ⟨h1, n, rfl⟩ := h
    exact ⟨h1, below_drewN (Below.refl _ _) n⟩
theorem atoi_rng {l : List UInt8} {v : Int} (h : Lib.atoiAll l = .ok v) : -9223372036854775808 ≤ v ∧ v ≤ 9223372036854775807 := by
  unfold Lib.atoiAll at h
  split at h
  · cases h
  · simp only at h
    split at h
    · cases h
    · cases h
    · split at h
      · cases h
      · rename_i h1
        split at h
        · cases h
        · rename_i h2
          injection h with h
          split at h <;> omega

set_option maxRecDepth 100000 in
set_option maxHeartbeats 1000000 in
theorem parseBound_any (s : ByteArray) (w : World) (hg : Gl w) (hs : s.size ≤ 4000) :
    Calls Tryz.prog 166 #[.string s] w fun e w' => e = .returned (.tuple #[.int .i64 ((bndX s.data.toList).getD 0), .bool (bndX s.data.toList).isSome]) ∧ Below w.heap.size w w' := by
  cases ha : Lib.atoiAll s.data.toList
  · rename_i v
    have hv := atoi_rng ha
    have CA : Hid (∀ w, Calls Tryz.prog 231 #[.string s] w fun e w' => e = .returned (.tuple #[.int .i64 v, .nilIface]) ∧ Below w.heap.size w w') := fun w => (c_atoi s (by omega) v ha w).mono fun e w' h => by
      obtain ⟨h1, rfl | ⟨t, rfl⟩⟩ := h
      · exact ⟨h1, Below.refl _ _⟩
      · exact ⟨h1, below_bytesW _ _ _⟩
    have CI : Hid (∀ w, Gl w → Calls Tryz.prog 144 #[.int .i64 v] w fun e w' => e = .returned (.string ⟨(Lib.itoa v).toArray⟩) ∧ Below w.heap.size w w') := fun w h => (c_itoa v hv.1 hv.2 w h.here.2.2.2).mono fun e w' h => by
      obtain ⟨h1, k, os, rfl⟩ := h
      exact ⟨h1, below_growW _ _ _⟩
    have HB : Hid (bndX s.data.toList = if Lib.itoa v = s.data.toList ∧ -999999 ≤ v ∧ v ≤ 999999 then some v else none) := by show _ = _; unfold bndX; rw [ha]
    have HT : Hid ((⟨(Lib.itoa v).toArray⟩ : ByteArray).toList = Lib.itoa v) := by show _ = _; rw [ByteArray.toList_eq]
    have HS : Hid (s.toList = s.data.toList) := ByteArray.toList_eq s
    have HE : ((⟨(Lib.itoa v).toArray⟩ : ByteArray).toList == s.toList) = decide (Lib.itoa v = s.data.toList) := by
      rw [HT.out, HS.out, Bool.eq_iff_iff, beq_iff_eq, decide_eq_true_eq]
    clear HT HS
    generalize (⟨(Lib.itoa v).toArray⟩ : ByteArray) = I at *
    generalize bndX s.data.toList = B at *
    clear ha
    by_cases hE : Lib.itoa v = s.data.toList
    · rw [decide_eq_true hE] at HE
      by_cases h1 : v < -999999
      · have HR : Hid (B = none) := by show _ = _; rw [HB.out, if_neg (by omega)]
        go_enter Tryz.func166, Tryz.ntmps166
        go_wp2_with (first
          | (go_at_call 231; refine (CA.out _).mono ?_; rintro e w1 ⟨rfl, hb1⟩)
          | (go_at_call 144; refine (CI.out _ (hg.on hb1)).mono ?_; rintro e w2 ⟨rfl, hb2⟩))
        go_ret2
        exact ⟨by rw [HR.out]; rfl, hb1.trans (hb2.mono hb1.size)⟩
      · by_cases h2 : 999999 < v
        · have HR : Hid (B = none) := by show _ = _; rw [HB.out, if_neg (by omega)]
          go_enter Tryz.func166, Tryz.ntmps166
          go_wp2_with (first
            | (go_at_call 231; refine (CA.out _).mono ?_; rintro e w1 ⟨rfl, hb1⟩)
            | (go_at_call 144; refine (CI.out _ (hg.on hb1)).mono ?_; rintro e w2 ⟨rfl, hb2⟩))
          go_ret2
          exact ⟨by rw [HR.out]; rfl, hb1.trans (hb2.mono hb1.size)⟩
        · have HR : Hid (B = some v) := by show _ = _; rw [HB.out, if_pos ⟨hE, by omega, by omega⟩]
          go_enter Tryz.func166, Tryz.ntmps166
          go_wp2_with (first
            | (go_at_call 231; refine (CA.out _).mono ?_; rintro e w1 ⟨rfl, hb1⟩)
            | (go_at_call 144; refine (CI.out _ (hg.on hb1)).mono ?_; rintro e w2 ⟨rfl, hb2⟩))
          go_ret2
          exact ⟨by rw [HR.out]; rfl, hb1.trans (hb2.mono hb1.size)⟩
    · rw [decide_eq_false hE] at HE
      have HR : Hid (B = none) := by show _ = _; rw [HB.out, if_neg (fun h => hE h.1)]
      go_enter Tryz.func166, Tryz.ntmps166
      go_wp2_with (first
        | (go_at_call 231; refine (CA.out _).mono ?_; rintro e w1 ⟨rfl, hb1⟩)
        | (go_at_call 144; refine (CI.out _ (hg.on hb1)).mono ?_; rintro e w2 ⟨rfl, hb2⟩))
      go_ret2
      exact ⟨by rw [HR.out]; rfl, hb1.trans (hb2.mono hb1.size)⟩
  · have HR : Hid (bndX s.data.toList = none) := by show _ = _; unfold bndX; rw [ha]
    obtain ⟨ev, hv1, hv2⟩ := hg.here.2.1
    have CA : Hid (Calls Tryz.prog 231 #[.string s] w fun e w' => ∃ N x, e = .returned (.tuple #[.int .i64 x, .iface 385 (.pointer (some ⟨N, 0, none⟩))]) ∧ Below w.heap.size w w') := (Any.strconv_Atoi_syntax Tryz.laysC172 s (by omega) ha ev w hv1 hv2).mono fun e w' h => by
      obtain ⟨N, h1, _, _, h2⟩ := h
      exact ⟨N, _, h1, h2⟩
    generalize bndX s.data.toList = B at *
    clear ha hv1
    go_enter Tryz.func166, Tryz.ntmps166
    go_wp2_with (go_at_call 231; refine (CA.out).mono ?_; rintro e w1 ⟨N, x, rfl, hb1⟩)
    go_ret2
    exact ⟨by rw [HR.out]; rfl, hb1⟩
  · have HR : Hid (bndX s.data.toList = none) := by show _ = _; unfold bndX; rw [ha]
    obtain ⟨ev, hv1, hv2⟩ := hg.here.2.2.1
    have CA : Hid (Calls Tryz.prog 231 #[.string s] w fun e w' => ∃ N x, e = .returned (.tuple #[.int .i64 x, .iface 385 (.pointer (some ⟨N, 0, none⟩))]) ∧ Below w.heap.size w w') := (Any.strconv_Atoi_range Tryz.laysC172 s (by omega) ha ev w hv1 hv2).mono fun e w' h => by
      obtain ⟨N, h1, _, _, h2⟩ := h
      exact ⟨N, _, h1, h2⟩
    generalize bndX s.data.toList = B at *
    clear ha hv1
    go_enter Tryz.func166, Tryz.ntmps166
    go_wp2_with (go_at_call 231; refine (CA.out).mono ?_; rintro e w1 ⟨N, x, rfl, hb1⟩)
    go_ret2
    exact ⟨by rw [HR.out]; rfl, hb1⟩
end Go.Proofs.YtkinoehmcfhgbaaGreatDoor.Vl
