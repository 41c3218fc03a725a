/-
  The walk of the document's Value.
  The walk of the program's Symbol.settle, where what is known comes by a closure.
  The walk of the program's Condition.settle, where what is known comes by a closure.
  The walk of the program's cutSymbol.
  The walk of the program's Parse: a text is a condition just where the document says so, and its symbols lie in the list that comes out.
-/
import Derived.Test.YtkinoehmcfhgbaaDoorV8
import Derived.Test.YtkinoehmcfhgbaaDoorV12
set_option linter.unusedVariables false
set_option linter.unusedSimpArgs false
namespace Go.Proofs.YtkinoehmcfhgbaaDoor.Vl
open Go.RowKit

/-- What the document answers to Value. -/
def vAns (p : Option (List Sym)) (x1 x2 x3 x4 : Int) : Bool × Int := match p with
  | none => (false, 7)
  | some ys => if gds x1 x2 x3 x4 then (val x1 x2 x3 x4 ys, 0) else (false, 4)

set_option maxRecDepth 100000 in
set_option maxHeartbeats 2000000 in
theorem refValue_any (s : ByteArray) (x1 x2 x3 x4 : Int) (w : World) (hmax : s.size ≤ maxLen) :
    Calls Tryd.prog 7 #[.string s, stV x1 x2 x3 x4] w fun e w' => e = .returned (.tuple #[.bool (vAns (pars s) x1 x2 x3 x4).1, .int .i64 (vAns (pars s) x1 x2 x3 x4).2]) ∧ Below w.heap.size w w' := by
  have CA : Hid (∀ w, Calls Tryd.prog 13 #[.string s] w fun e w' => ∃ v, e = .returned (.tuple #[v, .bool (pars s).isSome]) ∧ Below w.heap.size w w') := fun w => (Atoms_any s w hmax).mono (fun e w' h => by obtain ⟨v, h1, _, h2⟩ := h; exact ⟨v, h1, h2⟩)
  have CG : Hid (∀ w, Calls Tryd.prog 14 #[.agg #[.int .i64 x1, .int .i64 x2, .int .i64 x3, .int .i64 x4]] w fun e w' => e = .returned (.bool (gds x1 x2 x3 x4)) ∧ Below w.heap.size w w') := fun w => good_any x1 x2 x3 x4 w
  cases hp : pars s with
  | none =>
    rw [hp] at CA
    have CA' : Hid (∀ w, Calls Tryd.prog 13 #[.string s] w fun e w' => ∃ v, e = .returned (.tuple #[v, .bool false]) ∧ Below w.heap.size w w') := CA
    clear CA
    unfold stV
    go_enter Tryd.func7, Tryd.ntmps7
    go_wp2_with (go_at_call 13; refine (CA'.out _).mono ?_; rintro e w1 ⟨v, rfl, hb1⟩)
    go_ret2
    exact ⟨rfl, (below_alloc w _).trans (hb1.mono (by simp))⟩
  | some ys =>
    rw [hp] at CA
    have CA' : Hid (∀ w, Calls Tryd.prog 13 #[.string s] w fun e w' => ∃ v, e = .returned (.tuple #[v, .bool true]) ∧ Below w.heap.size w w') := CA
    clear CA
    cases hg : gds x1 x2 x3 x4 with
    | false =>
      rw [hg] at CG
      have HR : Hid (vAns (some ys) x1 x2 x3 x4 = (false, 4)) := by show _ = _; simp [vAns, hg]
      unfold stV
      go_enter Tryd.func7, Tryd.ntmps7
      go_wp2_with (first
        | (go_at_call 13; refine (CA'.out _).mono ?_; rintro e w1 ⟨v, rfl, hb1⟩; have d0 : w1.cell? ⟨w.heap.size, 0, none⟩ = some (.int .i64 x1) := (hb1.cell (p := ⟨w.heap.size, 0, none⟩) (by simp)).trans (by simp); have d1 : w1.cell? ⟨w.heap.size, 1, none⟩ = some (.int .i64 x2) := (hb1.cell (p := ⟨w.heap.size, 1, none⟩) (by simp)).trans (by simp); have d2 : w1.cell? ⟨w.heap.size, 2, none⟩ = some (.int .i64 x3) := (hb1.cell (p := ⟨w.heap.size, 2, none⟩) (by simp)).trans (by simp); have d3 : w1.cell? ⟨w.heap.size, 3, none⟩ = some (.int .i64 x4) := (hb1.cell (p := ⟨w.heap.size, 3, none⟩) (by simp)).trans (by simp))
        | (go_at_call 14; refine (CG.out _).mono ?_; rintro e w2 ⟨rfl, hb2⟩))
      go_ret2
      have hs1 : w.heap.size + 1 ≤ w1.heap.size := by have := hb1.size; simpa using this
      exact ⟨by rw [HR.out]; rfl, ((below_alloc w _).trans (hb1.mono (by simp))).trans (hb2.mono (by omega))⟩
    | true =>
      rw [hg] at CG
      have HR : Hid (vAns (some ys) x1 x2 x3 x4 = (val x1 x2 x3 x4 ys, 0)) := by show _ = _; simp [vAns, hg]
      have CV : Hid (∀ w, Calls Tryd.prog 15 #[.string s, .agg #[.int .i64 x1, .int .i64 x2, .int .i64 x3, .int .i64 x4]] w fun e w' => e = .returned (.bool (val x1 x2 x3 x4 ys)) ∧ Below w.heap.size w w') := fun w => valued_any s x1 x2 x3 x4 ys w hmax hp hg
      generalize val x1 x2 x3 x4 ys = V at *
      unfold stV
      go_enter Tryd.func7, Tryd.ntmps7
      go_wp2_with (first
        | (go_at_call 13; refine (CA'.out _).mono ?_; rintro e w1 ⟨v, rfl, hb1⟩; have d0 : w1.cell? ⟨w.heap.size, 0, none⟩ = some (.int .i64 x1) := (hb1.cell (p := ⟨w.heap.size, 0, none⟩) (by simp)).trans (by simp); have d1 : w1.cell? ⟨w.heap.size, 1, none⟩ = some (.int .i64 x2) := (hb1.cell (p := ⟨w.heap.size, 1, none⟩) (by simp)).trans (by simp); have d2 : w1.cell? ⟨w.heap.size, 2, none⟩ = some (.int .i64 x3) := (hb1.cell (p := ⟨w.heap.size, 2, none⟩) (by simp)).trans (by simp); have d3 : w1.cell? ⟨w.heap.size, 3, none⟩ = some (.int .i64 x4) := (hb1.cell (p := ⟨w.heap.size, 3, none⟩) (by simp)).trans (by simp); have hs1 : w.heap.size < w1.heap.size := (by have := hb1.size; simp at this; omega))
        | (go_at_call 14; refine (CG.out _).mono ?_; rintro e w2 ⟨rfl, hb2⟩; have e0 := (hb2.cell (p := ⟨w.heap.size, 0, none⟩) hs1).trans d0; have e1 := (hb2.cell (p := ⟨w.heap.size, 1, none⟩) hs1).trans d1; have e2 := (hb2.cell (p := ⟨w.heap.size, 2, none⟩) hs1).trans d2; have e3 := (hb2.cell (p := ⟨w.heap.size, 3, none⟩) hs1).trans d3)
        | (go_at_call 15; refine (CV.out _).mono ?_; rintro e w3 ⟨rfl, hb3⟩))
      go_ret2
      exact ⟨by rw [HR.out]; rfl, (((below_alloc w _).trans (hb1.mono (by simp))).trans (hb2.mono (by omega))).trans (hb3.mono (by have := hb2.size; omega))⟩
end Go.Proofs.YtkinoehmcfhgbaaDoor.Vl
set_option linter.unusedVariables false
set_option linter.unusedSimpArgs false
namespace Go.Proofs.YtkinoehmcfhgbaaDoor.Vl
open Go.RowKit

/-- The parts of a symbol as they lie in memory: the second's first. -/
def Parts3H (w : World) (pv : Value) (k : Int) (t u : Int) : Prop :=
  (k = 2 → ∃ g o c, pv = .slice (some ⟨g, o, none⟩) 1 c ∧ g < w.heap.size ∧ w.cell? ⟨g, o, none⟩ = some (.int .i8 t)) ∧
  (k = 3 ∨ k = 4 ∨ k = 5 → ∃ g o c, pv = .slice (some ⟨g, o, none⟩) 2 c ∧ g < w.heap.size ∧ w.cell? ⟨g, o, none⟩ = some (.int .i8 u) ∧ w.cell? ⟨g, o + 1, none⟩ = some (.int .i8 t))

set_option maxRecDepth 100000 in
set_option maxHeartbeats 2000000 in
theorem ssettleH (kn : Atm → Int) (cp : Value) (b o : Nat) (y0 y1 y2 y3 : Int) (pv : Value) (t u : Int) (w : World) (h0 : 0 ≤ y0 ∧ y0 ≤ 6) (ht : T3 t) (hu : T3 u) (hp : Parts3H w pv y0 t u)
    (c0 : w.cell? ⟨b, o, none⟩ = some (.int .i64 y0)) (c1 : w.cell? ⟨b, o + 1, none⟩ = some (.int .i64 y1)) (c2 : w.cell? ⟨b, o + 2, none⟩ = some (.int .i64 y2)) (c3 : w.cell? ⟨b, o + 3, none⟩ = some (.int .i64 y3))
    (CK : y0 = 6 → Calls Tryd.prog 22 #[.agg #[.int .i64 y1, .int .i64 y2, .int .i64 y3], cp] w fun e w' => e = .returned (.int .i8 (kn (y1, y2, y3))) ∧ Below w.heap.size w w') :
    Calls Tryd.prog 37 #[.pointer (some ⟨b, o, none⟩), .func (.func 22) #[] #[cp], pv] w fun e w' => e = .returned (.int .i8 (tval kn (y0, y1, y2, y3) t u)) ∧ Below w.heap.size w w' := by
  have CN : Hid (∀ t w, T3 t → Calls Tryd.prog 50 #[.int .i8 t] w fun e w' => e = .returned (.int .i8 (tnot t)) ∧ w = w') := fun t w h => tnot_any t h w
  have CB : Hid (∀ t u w, T3 t → T3 u → Calls Tryd.prog 51 #[.int .i8 t, .int .i8 u] w fun e w' => e = .returned (.int .i8 (tboth t u)) ∧ w = w') := fun t u w h k => tboth_any t u h k w
  have CE : Hid (∀ t u w, T3 t → T3 u → Calls Tryd.prog 52 #[.int .i8 t, .int .i8 u] w fun e w' => e = .returned (.int .i8 (teith t u)) ∧ w = w') := fun t u w h k => teith_any t u h k w
  have HT : Hid (T3 t) := ht
  have HU : Hid (T3 u) := hu
  clear ht hu
  have hk : y0 = 0 ∨ y0 = 1 ∨ y0 = 6 ∨ y0 = 2 ∨ y0 = 3 ∨ y0 = 4 ∨ y0 = 5 := by omega
  rcases hk with rfl | rfl | rfl | rfl | rfl | rfl | rfl
  · clear CK hp
    go_enter Tryd.func37, Tryd.ntmps37
    go_wp2_with fail
    go_ret
    exact ⟨rfl, Below.refl _ _⟩
  · clear CK hp
    go_enter Tryd.func37, Tryd.ntmps37
    go_wp2_with fail
    go_ret
    exact ⟨rfl, Below.refl _ _⟩
  · have CK' : Hid _ := CK rfl
    have HB : Hid (tval kn (6, y1, y2, y3) t u = kn (y1, y2, y3)) := rfl
    generalize kn (y1, y2, y3) = HL at *
    clear hp CK
    go_enter Tryd.func37, Tryd.ntmps37
    go_wp2_with (go_at_call 22; refine Calls.mono CK'.out ?_; rintro e w3 ⟨rfl, hb3⟩)
    go_ret
    exact ⟨by rw [HB.out]; rfl, hb3⟩
  · obtain ⟨g, o, c, rfl, hgs, hc⟩ := hp.1 rfl
    clear hp CK
    go_enter Tryd.func37, Tryd.ntmps37
    go_wp2_with (go_at_call 50; refine (CN.out _ _ HT.out).mono ?_; rintro e w' ⟨rfl, rfl⟩)
    go_ret
    exact ⟨rfl, Below.refl _ _⟩
  all_goals
    obtain ⟨g, o, c, rfl, hgs, hc, hd⟩ := hp.2 (by omega)
    clear hp CK
    go_enter Tryd.func37, Tryd.ntmps37
    go_wp2_with fail
    go_region_with (first
      | (go_at_call 50; refine (CN.out _ _ HT.out).mono ?_; rintro e w' ⟨rfl, rfl⟩)
      | (go_at_call 51; refine (CB.out _ _ _ HT.out HU.out).mono ?_; rintro e w' ⟨rfl, rfl⟩)
      | (go_at_call 52; refine (CE.out _ _ _ (by first | exact HT.out | exact t3_not _) HU.out).mono ?_; rintro e w' ⟨rfl, rfl⟩))
    all_goals (try go_wp2_with fail)
    all_goals go_ret
    all_goals exact ⟨rfl, (Below.refl _ _).drew⟩
end Go.Proofs.YtkinoehmcfhgbaaDoor.Vl
set_option linter.unusedVariables false
set_option linter.unusedSimpArgs false
namespace Go.Proofs.YtkinoehmcfhgbaaDoor.Vl
open Go.RowKit

set_option maxRecDepth 100000 in
set_option maxHeartbeats 4000000 in
theorem csettleH (kn : Atm → Int) (cp : Value) (KI : World → Prop) (hKI : ∀ W W', KI W → Below W.heap.size W W' → KI W') (hk3 : ∀ a, T3 (kn a)) (b cap : Nat) (ys : List Sym) (w : World) (hlen : ys.length ≤ 4000)
    (hI : Syms w.heap.size w (.slice (some ⟨b, 0, none⟩) ys.length cap) ys)
    (hval : ∀ n, n < ys.length → ∃ y, ys[n]? = some y ∧ 0 ≤ y.1 ∧ y.1 ≤ 6 ∧ (y.1 = 6 → okA y.2) ∧ prt y.1 ≤ (trun kn (ys.drop (n + 1))).length) (T : Int) (hone : trun kn ys = [T]) (hK0 : KI w)
    (CK : ∀ W a1 a2 a3, KI W → okA (a1, a2, a3) → Calls Tryd.prog 22 #[.agg #[.int .i64 a1, .int .i64 a2, .int .i64 a3], cp] W fun e w' => e = .returned (.int .i8 (kn (a1, a2, a3))) ∧ Below W.heap.size W w') :
    Calls Tryd.prog 25 #[.slice (some ⟨b, 0, none⟩) ys.length cap, .func (.func 22) #[] #[cp]] w fun e w' => e = .returned (.int .i8 T) ∧ Below w.heap.size w w' := by
  obtain ⟨i0, hi, hz0, hz1, hz2⟩ := info_parts Tryd.infoTruth
  have HV : Hid _ := hval
  have HK : Hid _ := CK
  have HI : Hid _ := hI
  have HT : Hid _ := hone
  have H3 : Hid _ := trun_t3 hk3
  have HLE : Hid _ := trun_le kn
  have KW : Hid (∀ W, Below w.heap.size w W → KI W) := fun W h => hKI w W hK0 h
  have CPt : Hid (∀ y0 w, Calls Tryd.prog 20 #[.int .i64 y0] w fun e w' => e = .returned (.int .i64 (prt y0)) ∧ w = w') := kparts_any
  clear hval CK hI hone hKI hk3 hK0
  have hyl : (ys.length : Int) = ((ys.length : Nat) : Int) := rfl
  go_enter Tryd.func25, Tryd.ntmps25
  go_wp2_with (at_make; refine wpList_make_own _ rfl _ _ 83 rfl w.heap.size 60 i0 (.int .i8 0) 1 Tryd.underlying83 hi hz0 hz1 .i64 .i64 _ ys.length rfl rfl ?_ ?_ ?_ ?_ ?_; (exact rfl); (rw [hz2]; omega); (unfold maxLen; omega); (exact Nat.le_refl _))
  intro w1 hown1 hgrow1
  have hb1 : Below w.heap.size w w1 := (Below.refl _ _).grown hgrow1 (Nat.le_refl _) (by intro k h; cases h)
  clear hgrow1
  go_wp2_with fail
  go_loopw [5, 6, 7, 8] (fun v i r t wr => ∃ n : Nat, n ≤ ys.length ∧ i = .int .i64 ((n : Int) - 1) ∧ wr.ownsRow w.heap.size 60 1 v (trun kn (ys.drop n)).length ((trun kn (ys.drop n)).reverse.map tv8) ∧ Below w.heap.size w wr) (fun _ i _ _ _ => ((intOf i) + 1).toNat)
  case atStart => exact ⟨ys.length, Nat.le_refl _, rfl, by rw [List.drop_length]; exact hown1, hb1⟩
  case round =>
    obtain ⟨n, hny, rfl, hown, hnx⟩ := hrel
    rcases Nat.eq_zero_or_pos n with rfl | hpos
    · rw [List.drop_zero, HT.out] at hown
      obtain ⟨g2, cap2, rfl, _, _, _, _, hc5, _⟩ := own_facts hown (by simp)
      have hc0 := hc5 0 (tv8 T) rfl
      unfold tv8 at hc0
      clear hc5
      go_wp2_with fail
      go_ret
      exact ⟨rfl, hnx⟩
    · obtain ⟨n, rfl⟩ : ∃ n', n = n' + 1 := ⟨n - 1, by omega⟩
      obtain ⟨⟨y0, y1, y2, y3⟩, hy1, hy2, hy3, hy4, hy5⟩ := HV.out n (by omega)
      dsimp only at hy2 hy3 hy4 hy5
      obtain ⟨_, _, e1, hbn, hcs⟩ := HI.out
      cases e1
      obtain ⟨z0, z1, z2, z3⟩ := hcs n _ hy1
      have c0 := (hnx.cell (p := ⟨b, n * 4, none⟩) hbn).trans z0
      have c1 := (hnx.cell (p := ⟨b, n * 4 + 1, none⟩) hbn).trans z1
      have c2 := (hnx.cell (p := ⟨b, n * 4 + 2, none⟩) hbn).trans z2
      have c3 := (hnx.cell (p := ⟨b, n * 4 + 3, none⟩) hbn).trans z3
      clear hcs z0 z1 z2 z3
      have hdrop : ys.drop n = (y0, y1, y2, y3) :: ys.drop (n + 1) := by
        rw [List.drop_eq_getElem_cons (by omega)]
        congr 1
        rw [List.getElem?_eq_getElem (by omega)] at hy1
        exact Option.some.inj hy1
      have HD : Hid (trun kn (ys.drop n) = tst kn (y0, y1, y2, y3) (trun kn (ys.drop (n + 1)))) := by show _ = _; rw [hdrop, trun_cons]
      have HR : Hid _ := H3.out (ys.drop (n + 1))
      have hsl : (trun kn (ys.drop (n + 1))).length ≤ 4000 := by
        have h1 := HLE.out (ys.drop (n + 1))
        rw [List.length_drop] at h1
        omega
      clear hdrop hy1
      generalize hst : trun kn (ys.drop (n + 1)) = st at *
      clear hst
      have hpr := prt_range y0
      have CP0 : Hid (∀ w, Calls Tryd.prog 20 #[.int .i64 y0] w fun e w' => e = .returned (.int .i64 (prt y0)) ∧ w = w') := fun w => CPt.out y0 w
      have HDV : Hid (trun kn (ys.drop n) = tval kn (y0, y1, y2, y3) (st.headD 0) (st.tail.headD 0) :: st.drop (prt y0).toNat) := HD.out
      clear HD
      have hh0 : T3 (st.headD 0) := by
        cases st with
        | nil => exact Or.inl rfl
        | cons x r => exact HR.out x (by simp)
      have hh1 : T3 (st.tail.headD 0) := by
        match st, HR.out with
        | [], _ => exact Or.inl rfl
        | [x], _ => exact Or.inl rfl
        | x :: z :: r, h => exact h z (by simp)
      have HH : Hid (T3 (st.headD 0) ∧ T3 (st.tail.headD 0)) := ⟨hh0, hh1⟩
      generalize hVV : tval kn (y0, y1, y2, y3) (st.headD 0) (st.tail.headD 0) = VV at *
      have HVV : Hid _ := hVV
      clear hVV hh0 hh1 HR
      generalize hp0 : prt y0 = p0 at *
      have HP0 : Hid (prt y0 = p0) := hp0
      clear hp0
      obtain ⟨q, c, rfl⟩ := own_shape hown
      have hnn : ((n + 1 : Nat) : Int) - 1 = (n : Int) := by omega
      rw [hnn]
      obtain ⟨R, hR, hRL⟩ : ∃ R : Nat, (st.length : Int) - p0 = (R : Int) ∧ R ≤ st.length := ⟨st.length - p0.toNat, by omega, by omega⟩
      have hsub : IntKind.i64.wrap ((st.length : Int) - p0) = (R : Int) := by rw [hR]; exact IntWalk.i64_in _ (by omega)
      have hnl : (n : Int) < (ys.length : Int) := by omega
      have hnl2 : n < ys.length := by omega
      have HS : Hid (∀ pv W, Below w.heap.size w W → Parts3H W pv y0 (st.headD 0) (st.tail.headD 0) → W.cell? ⟨b, n * 4, none⟩ = some (.int .i64 y0) → W.cell? ⟨b, n * 4 + 1, none⟩ = some (.int .i64 y1) → W.cell? ⟨b, n * 4 + 2, none⟩ = some (.int .i64 y2) → W.cell? ⟨b, n * 4 + 3, none⟩ = some (.int .i64 y3) → Calls Tryd.prog 37 #[.pointer (some ⟨b, n * 4, none⟩), .func (.func 22) #[] #[cp], pv] W fun e w' => e = .returned (.int .i8 VV) ∧ Below W.heap.size W w') := fun pv W hW hp a0 a1 a2 a3 => by
        rw [← HVV.out]
        exact ssettleH kn cp b (n * 4) y0 y1 y2 y3 pv _ _ W ⟨hy2, hy3⟩ HH.out.1 HH.out.2 hp a0 a1 a2 a3 (fun h6 => HK.out W y1 y2 y3 (KW.out W hW) (hy4 h6))
      clear HH HVV hy4
      go_wp2_with (go_at_call 20; refine (CP0.out _).mono ?_; rintro e w' ⟨rfl, rfl⟩)
      have hLc : st.length ≤ c := by
        rcases hown.2 with ⟨h1, h2⟩ | ⟨g, cap', cur, h1, hgb, hgh, hg3, hg4, hg5, hg6⟩
        · injection h1 with e1 e2 e3; omega
        · injection h1 with e1 e2 e3; omega
      have hRc : R ≤ c := by omega
      have hB1 : Below w.heap.size w wr.drew := hnx.drew
      have c0' : wr.drew.cell? ⟨b, n * 4, none⟩ = some (.int .i64 y0) := c0
      have c1' : wr.drew.cell? ⟨b, n * 4 + 1, none⟩ = some (.int .i64 y1) := c1
      have c2' : wr.drew.cell? ⟨b, n * 4 + 2, none⟩ = some (.int .i64 y2) := c2
      have c3' : wr.drew.cell? ⟨b, n * 4 + 3, none⟩ = some (.int .i64 y3) := c3
      have CS : Hid (∀ pv, (c ≠ R → pv = .slice (Option.map (fun x => x.add R) q) (st.length - R) (c - R)) → Calls Tryd.prog 37 #[.pointer (some ⟨b, n * 4, none⟩), .func (.func 22) #[] #[cp], pv] wr.drew fun e w' => e = .returned (.int .i8 VV) ∧ Below wr.drew.heap.size wr.drew w') := fun pv hpv => by
        refine HS.out pv wr.drew hB1 ?_ c0' c1' c2' c3'
        by_cases hcl : c = R
        · have h0 : prt y0 = 0 := by rw [HP0.out]; omega
          constructor
          · intro h; subst h; cases h0
          · rintro (h | h | h) <;> subst h <;> cases h0
        · rw [hpv hcl]
          constructor
          · intro h
            subst h
            have h1 : p0 = 1 := HP0.out.symm
            obtain ⟨t, r, rfl⟩ : ∃ t r, st = t :: r := by
              cases st with
              | nil => simp at hy5; omega
              | cons t r => exact ⟨t, r, rfl⟩
            obtain ⟨g, cap', e, hgb, hgl, hg3, hg4, hg5, hg6⟩ := own_facts hown (by simp)
            injection e with e1 e2 e3
            subst e1
            have hl1 : (t :: r).length = r.length + 1 := rfl
            have hRe : R = r.length := by omega
            refine ⟨g, R, c - R, ?_, hgl, ?_⟩
            · rw [hl1, hRe, show r.length + 1 - r.length = 1 by omega]; simp [Addr.add]; intro h; subst h; rfl
            · rw [hRe]; exact hg5 r.length (tv8 t) (by simp)
          · intro h
            have h1 : p0 = 2 := by rcases h with h | h | h <;> subst h <;> exact HP0.out.symm
            obtain ⟨t, u, r, rfl⟩ : ∃ t u r, st = t :: u :: r := by
              match st, hy5 with
              | [], h => simp at h; omega
              | [t], h => simp at h; omega
              | t :: u :: r, _ => exact ⟨t, u, r, rfl⟩
            obtain ⟨g, cap', e, hgb, hgl, hg3, hg4, hg5, hg6⟩ := own_facts hown (by simp)
            injection e with e1 e2 e3
            subst e1
            have hl1 : (t :: u :: r).length = r.length + 2 := rfl
            have hRe : R = r.length := by omega
            refine ⟨g, R, c - R, ?_, hgl, ?_, ?_⟩
            · rw [hl1, hRe, show r.length + 2 - r.length = 2 by omega]; simp [Addr.add]; intro h; subst h; rfl
            · rw [hRe]; exact hg5 r.length (tv8 u) (by simp)
            · rw [hRe]; exact hg5 (r.length + 1) (tv8 t) (by simp)
      clear HS
      by_cases hcl : c = R
      · have hcl2 := hcl.symm
        clear hcl
        subst hcl2
        go_region_with (go_at_call 37; refine (CS.out _ (fun h => absurd rfl h)).mono ?_; rintro e w3 ⟨rfl, hb3⟩)
        all_goals
          have hbw : Below wr.heap.size wr w3 := (Below.refl _ wr).drew.trans hb3
          have hown3 := ownsRow_below hown hbw
          have hnx3 : Below w.heap.size w w3 := hnx.trans (hbw.mono hnx.size)
          have hs3 := hnx3.size
          clear hown hb3 hB1 CS c0 c1 c2 c3 c0' c1' c2' c3' CP0 CPt
          rcases hown3.2 with ⟨h1, h2⟩ | ⟨g, cap', cur, h1, hgb, hgh, hg3, hg4, hg5, hg6⟩
          · have hq : q = none ∧ R = 0 := by injection h1 with e1 e2 e3; exact ⟨e1, e3⟩
            obtain ⟨rfl, hR0⟩ := hq
            have hst0 : st = [] := List.length_eq_zero_iff.1 h2
            subst hst0 hR0
            go_wp2_with (at_builtin; refine wpList_append_own _ rfl _ _ 83 rfl w.heap.size 60 i0 (.int .i8 0) 1 1 Tryd.underlying83 hi hz0 hz1 hz2 rfl (by decide) _ _ _ rfl (hown3.alloc _) ⟨w3.heap.size, 0, none⟩ 1 1 [.int .i8 VV] rfl rfl (one_new _ _ rfl _ _) (one_i8 _) (by unfold maxLen; simp) (by simp) (by simp; omega) ?_)
            intro v' w4 hown4 hgrow _
            have hb4 := (hnx3.alloc (by omega) _).grown hgrow (by simp; omega) (own_block hown3)
            clear hgrow
            go_wp2_with fail
            go_roundw
            case rel => exact ⟨n, by omega, by go_num, by rw [HDV.out]; simpa [tv8] using hown4, hb4⟩
            case measure => simp [intOf]
          · have hq : q = some ⟨g, 0, none⟩ ∧ R = cap' := by injection h1 with e1 e2 e3; exact ⟨e1, e3⟩
            obtain ⟨rfl, rfl⟩ := hq
            have hrow3 := own_take hown3 R hRL
            go_wp2_with (at_builtin; refine wpList_append_own _ rfl _ _ 83 rfl w.heap.size 60 i0 (.int .i8 0) 1 1 Tryd.underlying83 hi hz0 hz1 hz2 rfl (by decide) _ _ _ rfl (hrow3.alloc _) ⟨w3.heap.size, 0, none⟩ 1 1 [.int .i8 VV] rfl rfl (one_new _ _ rfl _ _) (one_i8 _) (by unfold maxLen; omega) (by omega) (by simp; omega) ?_)
            intro v' w4 hown4 hgrow _
            have hb4 := (hnx3.alloc (by omega) _).grown hgrow (by simp; omega) (own_block hrow3)
            clear hgrow
            go_wp2_with fail
            go_roundw
            case rel =>
              refine ⟨n, by omega, by go_num, ?_, hb4⟩
              rw [HDV.out, rows_put8 _ _ (by omega)]
              have hRp : st.length - p0.toNat = R := by omega
              rw [hRp]
              have hln : (VV :: st.drop p0.toNat).length = R + 1 := by rw [List.length_cons, List.length_drop, hRp]
              rw [hln]
              rw [List.map_reverse]
              exact hown4
            case measure => simp [intOf]
      · go_region_with (go_at_call 37; refine (CS.out _ (fun h => rfl)).mono ?_; rintro e w3 ⟨rfl, hb3⟩)
        all_goals
          have hbw : Below wr.heap.size wr w3 := (Below.refl _ wr).drew.trans hb3
          have hown3 := ownsRow_below hown hbw
          have hnx3 : Below w.heap.size w w3 := hnx.trans (hbw.mono hnx.size)
          have hs3 := hnx3.size
          clear hown hb3 hB1 CS c0 c1 c2 c3 c0' c1' c2' c3' CP0 CPt
          rcases hown3.2 with ⟨h1, h2⟩ | ⟨g, cap', cur, h1, hgb, hgh, hg3, hg4, hg5, hg6⟩
          · have hq : q = none ∧ c = 0 := by injection h1 with e1 e2 e3; exact ⟨e1, e3⟩
            obtain ⟨rfl, rfl⟩ := hq
            have hst0 : st = [] := List.length_eq_zero_iff.1 h2
            subst hst0
            exact absurd (show 0 = R by simp at hRL; omega) hcl
          · have hq : q = some ⟨g, 0, none⟩ ∧ c = cap' := by injection h1 with e1 e2 e3; exact ⟨e1, e3⟩
            obtain ⟨rfl, rfl⟩ := hq
            have hrow3 := own_take hown3 R hRL
            go_wp2_with (at_builtin; refine wpList_append_own _ rfl _ _ 83 rfl w.heap.size 60 i0 (.int .i8 0) 1 1 Tryd.underlying83 hi hz0 hz1 hz2 rfl (by decide) _ _ _ rfl (hrow3.alloc _) ⟨w3.heap.size, 0, none⟩ 1 1 [.int .i8 VV] rfl rfl (one_new _ _ rfl _ _) (one_i8 _) (by unfold maxLen; omega) (by omega) (by simp; omega) ?_)
            intro v' w4 hown4 hgrow _
            have hb4 := (hnx3.alloc (by omega) _).grown hgrow (by simp; omega) (own_block hrow3)
            clear hgrow
            go_wp2_with fail
            go_roundw
            case rel =>
              refine ⟨n, by omega, by go_num, ?_, hb4⟩
              rw [HDV.out, rows_put8 _ _ (by omega)]
              have hRp : st.length - p0.toNat = R := by omega
              rw [hRp]
              have hln : (VV :: st.drop p0.toNat).length = R + 1 := by rw [List.length_cons, List.length_drop, hRp]
              rw [hln]
              rw [List.map_reverse]
              exact hown4
            case measure => simp [intOf]
end Go.Proofs.YtkinoehmcfhgbaaDoor.Vl
set_option linter.unusedVariables false
set_option linter.unusedSimpArgs false
namespace Go.Proofs.YtkinoehmcfhgbaaDoor.Vl
open Go.RowKit

theorem Tryd.sizeSym : (Tryd.prog.info? 54).map (·.size) = some 4 := by kernel_rfl
def set4 (X : World) (B : Nat) (c0 c1 c2 c3 : Value) : World := (((X.setCell ⟨B, 0, none⟩ c0).setCell ⟨B, 1, none⟩ c1).setCell ⟨B, 2, none⟩ c2).setCell ⟨B, 3, none⟩ c3
theorem load4 (X : World) (B : Nat) (c0 c1 c2 c3 : Value) (h0 : X.cell? ⟨B, 0, none⟩ = some c0) (h1 : X.cell? ⟨B, 1, none⟩ = some c1) (h2 : X.cell? ⟨B, 2, none⟩ = some c2) (h3 : X.cell? ⟨B, 3, none⟩ = some c3) : (loadVar 54 ⟨B, 0, none⟩).run Tryd.prog X = .ok (.agg #[c0, c1, c2, c3]) X :=
  run_loadVar_mid _ _ 0 54 [c0, c1, c2, c3] _ (by
    intro j v hv
    match j, hv with
    | 0, hv => cases hv; exact h0
    | 1, hv => cases hv; exact h1
    | 2, hv => cases hv; exact h2
    | 3, hv => cases hv; exact h3) Tryd.underlying54 rfl Tryd.sizeSym
theorem load_set4 (X : World) (B : Nat) (c0 c1 c2 c3 : Value) (h : ∀ j, j < 4 → ∃ u, X.cell? ⟨B, j, none⟩ = some u) : (loadVar 54 ⟨B, 0, none⟩).run Tryd.prog (set4 X B c0 c1 c2 c3) = .ok (.agg #[c0, c1, c2, c3]) (set4 X B c0 c1 c2 c3) := by
  unfold set4
  refine load4 _ B c0 c1 c2 c3 ?_ ?_ ?_ ?_
  · rw [set_other _ _ _ _ _ (by omega), set_other _ _ _ _ _ (by omega), set_other _ _ _ _ _ (by omega)]; exact set_same _ _ _ (h 0 (by omega))
  · rw [set_other _ _ _ _ _ (by omega), set_other _ _ _ _ _ (by omega)]; exact set_same _ _ _ (by rw [set_other _ _ _ _ _ (by omega)]; exact h 1 (by omega))
  · rw [set_other _ _ _ _ _ (by omega)]; exact set_same _ _ _ (by rw [set_other _ _ _ _ _ (by omega), set_other _ _ _ _ _ (by omega)]; exact h 2 (by omega))
  · exact set_same _ _ _ (by rw [set_other _ _ _ _ _ (by omega), set_other _ _ _ _ _ (by omega), set_other _ _ _ _ _ (by omega)]; exact h 3 (by omega))
theorem below_set4 {a X : World} {n B : Nat} (c0 c1 c2 c3 : Value) (h : Below n a X) (hB : n ≤ B) : Below n a (set4 X B c0 c1 c2 c3) :=
  (((h.setCell (p := ⟨B, 0, none⟩) hB c0).setCell (p := ⟨B, 1, none⟩) hB c1).setCell (p := ⟨B, 2, none⟩) hB c2).setCell (p := ⟨B, 3, none⟩) hB c3
theorem res4 (w : World) (t : TypeId) : Res w (w.alloc (.cells #[.int .i64 0, .int .i64 0, .int .i64 0, .int .i64 0] t)) 4 :=
  ⟨below_alloc _ _, by simp, fun j hj => by
    match j, hj with
    | 0, _ => simp
    | 1, _ => simp
    | 2, _ => simp
    | 3, _ => simp, fun j => by simp⟩
theorem Res.some4 {w W : World} (h : Res w W 4) : ∀ j, j < 4 → ∃ u, W.cell? ⟨w.heap.size, j, none⟩ = some u := fun j hj => ⟨_, h.2.2.1 j hj⟩
theorem mk_lew (c : Int) : -1 ≤ mk c ∧ mk c ≤ 5 := by
  unfold mk; repeat' split
  all_goals omega
def symV (y : Sym) : Value := .agg #[.int .i64 y.1, .int .i64 y.2.1, .int .i64 y.2.2.1, .int .i64 y.2.2.2]
def csymV : Option (Sym × List UInt8) → Value
  | none => .tuple #[symV (0, 0, 0, 0), .string ⟨#[]⟩, .bool false]
  | some (y, r) => .tuple #[symV y, .string ⟨r.toArray⟩, .bool true]

set_option maxRecDepth 100000 in
set_option maxHeartbeats 2000000 in
theorem cutSymbol_any (s : ByteArray) (w : World) (hg : Gl w) (hs : s.size ≤ 4000) (h0 : 0 < s.size) :
    Calls Tryd.prog 19 #[.string s] w fun e w' => e = .returned (csymV (csym s.data.toList)) ∧ Below w.heap.size w w' := by
  have hd : s.data.toList = s[0] :: rest s 1 := rest_cons s 0 h0
  have hg0 : Gl (w.alloc (.cells #[.int .i64 0, .int .i64 0, .int .i64 0, .int .i64 0] 54)) := hg.on (below_alloc _ _)
  have hr0 := res4 w 54
  have HC : Hid (csym s.data.toList = if (0 : Int) ≤ Lib.indexByte mks6 s[0] then some ((Lib.indexByte mks6 s[0], 0, 0, 0), rest s 1) else
    if (Lib.cut s.data.toList [46]).2.2 = true then (patm (Lib.cut s.data.toList [46]).1).map fun a => ((6, a), (Lib.cut s.data.toList [46]).2.1) else none) := by
    show _ = _; rw [hd]; rfl
  have CI : Hid (∀ w, Calls Tryd.prog 33 #[.string ⟨#[116, 102, 33, 38, 124, 62]⟩, .int .u8 (s[0].toNat : Int)] w fun e w' => e = .returned (.int .i64 (Lib.indexByte mks6 s[0])) ∧ w = w') := ib_mks s[0]
  have hir : (-1 : Int) ≤ Lib.indexByte mks6 s[0] ∧ Lib.indexByte mks6 s[0] ≤ 5 := by rw [mks_mk]; exact mk_lew _
  generalize Lib.indexByte mks6 s[0] = I at *
  clear hd
  by_cases hI : 0 ≤ I
  · have HC2 : Hid (csym s.data.toList = some ((I, 0, 0, 0), rest s 1)) := by show _ = _; rw [HC.out, if_pos hI]
    have HX : Hid ((⟨(rest s 1).toArray⟩ : ByteArray) = s.extract 1 s.size) := by
      show _ = _; rw [extract_str]
      congr 2
      rw [List.take_of_length_le (by rw [rest_len]; omega)]
    clear HC
    go_enter Tryd.func19, Tryd.ntmps19
    go_wp2_with (go_at_call 33; refine (CI.out _).mono ?_; rintro e w' ⟨rfl, rfl⟩)
    go_region
    go_wp2_with fail
    refine bodyPost_ret (results_c3 rfl rfl rfl rfl (load4 _ _ (.int .i64 I) (.int .i64 0) (.int .i64 0) (.int .i64 0) (by simp) (by simp) (by simp) (by simp))) rfl ⟨?_, (below_alloc _ _).drew⟩
    rw [HC2.out]
    simp only [csymV]
    rw [HX.out]; rfl
  · obtain ⟨X1, X2, E, hcut⟩ : ∃ x y z, Lib.cut s.data.toList [46] = (x, y, z) := ⟨_, _, _, rfl⟩
    have hx1 : X1.length ≤ 4000 := by
      have h1 : (Lib.cut s.data.toList [46]).1.length ≤ s.data.toList.length := by
        unfold Lib.cut; split
        · simp; omega
        · simp
      rw [hcut] at h1
      have h2 : s.data.toList.length = s.size := by simp
      exact Nat.le_trans h1 (by omega)
    have CC : Hid (∀ w, Gl w → Calls Tryd.prog 34 #[.string s, .string ⟨#[46]⟩] w fun e w' => e = .returned (.tuple #[.string ⟨X1.toArray⟩, .string ⟨X2.toArray⟩, .bool E]) ∧ Below w.heap.size w w') := fun w h => by
      have := cut_any s ⟨#[46]⟩ w h hs
      have e : (⟨#[46]⟩ : ByteArray).data.toList = [46] := rfl
      rw [e, hcut] at this
      exact this
    have CP0 : Hid (∀ w, Gl w → Calls Tryd.prog 35 #[.string ⟨X1.toArray⟩] w fun e w' => e = .returned (patV (patm X1)) ∧ Below w.heap.size w w') := fun w h => parseAtom_any ⟨X1.toArray⟩ w h (by show X1.toArray.size ≤ 4000; simpa using hx1)
    have HC2 : Hid (csym s.data.toList = if E = true then (patm X1).map fun a => ((6, a), X2) else none) := by show _ = _; rw [HC.out, if_neg hI, hcut]
    clear HC hcut
    generalize (⟨X1.toArray⟩ : ByteArray) = S1 at *
    cases hp : patm X1 with
    | none =>
      have HN : Hid (csym s.data.toList = none) := by show _ = _; rw [HC2.out, hp]; split <;> rfl
      rw [hp] at CP0
      have CP : Hid (∀ w, Gl w → Calls Tryd.prog 35 #[.string S1] w fun e w' => e = .returned (.tuple #[.agg #[.int .i64 0, .int .i64 0, .int .i64 0], .bool false]) ∧ Below w.heap.size w w') := CP0
      clear CP0 HC2 hp
      generalize (⟨X2.toArray⟩ : ByteArray) = S2 at *
      go_enter Tryd.func19, Tryd.ntmps19
      go_wp2_with (first
        | (go_at_call 33; refine (CI.out _).mono ?_; rintro e w' ⟨rfl, rfl⟩)
        | (go_at_call 34; refine (CC.out _ hg0).mono ?_; rintro e w1 ⟨rfl, hb1⟩; have hr1 := hr0.on hb1; have hg1 := hg0.on hb1)
        | (go_at_call 35; refine (CP.out _ hg1).mono ?_; rintro e w2 ⟨rfl, hb2⟩; have hr2 := hr1.on hb2; have hr3 := hr2.on (below_alloc w2 (.cells #[.int .i64 0, .int .i64 0, .int .i64 0] 52)); have y0 := hr3.2.2.1 0 (by omega); have y1 := hr3.2.2.1 1 (by omega); have y2 := hr3.2.2.1 2 (by omega); have y3 := hr3.2.2.1 3 (by omega); have f0 := hr3.2.2.2 0; have f1 := hr3.2.2.2 1; have f2 := hr3.2.2.2 2; have f3 := hr3.2.2.2 3; have hne : ¬ w2.heap.size = w.heap.size := (by have := hr2.2.1; omega); have hne' : ¬ w.heap.size = w2.heap.size := (by have := hr2.2.1; omega)))
      all_goals (exact bodyPost_ret (results_c3 rfl rfl rfl rfl (load_set4 _ _ _ _ _ _ hr3.some4)) rfl ⟨by rw [HN.out]; rfl, below_set4 _ _ _ _ hr3.1 (Nat.le_refl _)⟩)
    | some q =>
      obtain ⟨a1, a2, a3⟩ := q
      rw [hp] at CP0
      have CP : Hid (∀ w, Gl w → Calls Tryd.prog 35 #[.string S1] w fun e w' => e = .returned (.tuple #[.agg #[.int .i64 a1, .int .i64 a2, .int .i64 a3], .bool true]) ∧ Below w.heap.size w w') := CP0
      cases E with
      | false =>
        have HN : Hid (csym s.data.toList = none) := by show _ = _; rw [HC2.out]; rfl
        clear CP0 HC2 hp
        generalize (⟨X2.toArray⟩ : ByteArray) = S2 at *
        go_enter Tryd.func19, Tryd.ntmps19
        go_wp2_with (first
          | (go_at_call 33; refine (CI.out _).mono ?_; rintro e w' ⟨rfl, rfl⟩)
          | (go_at_call 34; refine (CC.out _ hg0).mono ?_; rintro e w1 ⟨rfl, hb1⟩; have hr1 := hr0.on hb1; have hg1 := hg0.on hb1)
          | (go_at_call 35; refine (CP.out _ hg1).mono ?_; rintro e w2 ⟨rfl, hb2⟩; have hr2 := hr1.on hb2; have hr3 := hr2.on (below_alloc w2 (.cells #[.int .i64 a1, .int .i64 a2, .int .i64 a3] 52)); have y0 := hr3.2.2.1 0 (by omega); have y1 := hr3.2.2.1 1 (by omega); have y2 := hr3.2.2.1 2 (by omega); have y3 := hr3.2.2.1 3 (by omega); have f0 := hr3.2.2.2 0; have f1 := hr3.2.2.2 1; have f2 := hr3.2.2.2 2; have f3 := hr3.2.2.2 3; have hne : ¬ w2.heap.size = w.heap.size := (by have := hr2.2.1; omega); have hne' : ¬ w.heap.size = w2.heap.size := (by have := hr2.2.1; omega)))
        exact bodyPost_ret (results_c3 rfl rfl rfl rfl (load_set4 _ _ _ _ _ _ hr3.some4)) rfl ⟨by rw [HN.out]; rfl, below_set4 _ _ _ _ hr3.1 (Nat.le_refl _)⟩
      | true =>
        have HN : Hid (csym s.data.toList = some ((6, a1, a2, a3), X2)) := by show _ = _; rw [HC2.out, hp]; rfl
        have HS2 : Hid (csymV (some ((6, a1, a2, a3), X2)) = .tuple #[.agg #[.int .i64 6, .int .i64 a1, .int .i64 a2, .int .i64 a3], .string ⟨X2.toArray⟩, .bool true]) := rfl
        clear CP0 HC2 hp
        generalize (⟨X2.toArray⟩ : ByteArray) = S2 at *
        go_enter Tryd.func19, Tryd.ntmps19
        go_wp2_with (first
          | (go_at_call 33; refine (CI.out _).mono ?_; rintro e w' ⟨rfl, rfl⟩)
          | (go_at_call 34; refine (CC.out _ hg0).mono ?_; rintro e w1 ⟨rfl, hb1⟩; have hr1 := hr0.on hb1; have hg1 := hg0.on hb1)
          | (go_at_call 35; refine (CP.out _ hg1).mono ?_; rintro e w2 ⟨rfl, hb2⟩; have hr2 := hr1.on hb2; have hr3 := hr2.on (below_alloc w2 (.cells #[.int .i64 a1, .int .i64 a2, .int .i64 a3] 52)); have y0 := hr3.2.2.1 0 (by omega); have y1 := hr3.2.2.1 1 (by omega); have y2 := hr3.2.2.1 2 (by omega); have y3 := hr3.2.2.1 3 (by omega); have f0 := hr3.2.2.2 0; have f1 := hr3.2.2.2 1; have f2 := hr3.2.2.2 2; have f3 := hr3.2.2.2 3; have hne : ¬ w2.heap.size = w.heap.size := (by have := hr2.2.1; omega); have hne' : ¬ w.heap.size = w2.heap.size := (by have := hr2.2.1; omega)))
        exact bodyPost_ret (results_c3 rfl rfl rfl rfl (load_set4 _ _ _ _ _ _ hr3.some4)) rfl ⟨by rw [HN.out, HS2.out]; rfl, below_set4 _ _ _ _ hr3.1 (Nat.le_refl _)⟩
end Go.Proofs.YtkinoehmcfhgbaaDoor.Vl
set_option linter.unusedVariables false
set_option linter.unusedSimpArgs false
namespace Go.Proofs.YtkinoehmcfhgbaaDoor.Vl
open Go.RowKit

set_option maxHeartbeats 400000 in
theorem parts_any (k : Int) (w : World) :
    Calls Tryd.prog 20 #[.int .i64 k] w fun e w' => e = .returned (.int .i64 (prt k)) ∧ w = w' := by
  go_enter Tryd.func20, Tryd.ntmps20
  go_wp2
  all_goals go_ret
  all_goals refine ⟨ret_int ?_, rfl⟩
  all_goals simp_all [prt]

def cell4 (y : Sym) : List Value := [.int .i64 y.1, .int .i64 y.2.1, .int .i64 y.2.2.1, .int .i64 y.2.2.2]
def cells4 (l : List Sym) : List Value := l.flatMap cell4
theorem cells4_snoc (l : List Sym) (y : Sym) : cells4 (l ++ [y]) = cells4 l ++ cell4 y := by simp [cells4]
theorem Tryd.infoSym : (Tryd.prog.info? 54).map (fun i => (i.zero, i.size, i.bytes)) = some (some (.agg #[.int .i64 0, .int .i64 0, .int .i64 0, .int .i64 0]), 4, 32) := by kernel_rfl
theorem four_new (w : World) (B : Nat) (hB : B = w.heap.size) (a b c d : Value) (t : TypeId) : ∀ j u, [a, b, c, d][j]? = some u → (w.alloc (.cells #[a, b, c, d] t)).cell? ((⟨B, 0, none⟩ : Addr).add j) = some u := by
  subst hB
  intro j u h
  match j, h with
  | 0, h => simp at h; subst h; simp [Addr.add]
  | 1, h => simp at h; subst h; simp [Addr.add]
  | 2, h => simp at h; subst h; simp [Addr.add]
  | 3, h => simp at h; subst h; simp [Addr.add]
theorem one_iiii (x y z t : Int) : ∀ u ∈ [Value.int .i64 x, .int .i64 y, .int .i64 z, .int .i64 t], u.oneCell' = true := by
  intro u hu; simp at hu; rcases hu with rfl | rfl | rfl | rfl <;> rfl

def tsz : Value → Nat
  | .string t => t.size
  | _ => 0
theorem tsz_str (t : ByteArray) : tsz (.string t) = t.size := rfl
def ParseEnd (w : World) (p : Option (List Sym)) (e : Ending) (w' : World) : Prop :=
  ∃ v, e = .returned (.tuple #[v, .bool p.isSome]) ∧ (∀ ys, p = some ys → w'.ownsRow w.heap.size 54 4 v ys.length (cells4 ys)) ∧ Below w.heap.size w w'

set_option maxRecDepth 100000 in
set_option maxHeartbeats 2000000 in
theorem parse_any (s : ByteArray) (w : World) (hg : Gl w) (hmax : s.size ≤ maxLen) :
    Calls Tryd.prog 10 #[.string s] w fun e w' => ParseEnd w (pars s) e w' := by
  by_cases hlong : 4000 < s.size
  · have HP : Hid (pars s = none) := by show _ = _; unfold pars; rw [if_pos hlong]
    have hlong' : (4000 : Int) < (s.size : Int) := by omega
    go_enter Tryd.func10, Tryd.ntmps10
    go_wp2
    go_ret2
    exact ⟨_, by rw [HP.out]; rfl, fun ys h => by (rw [HP.out] at h; cases h), Below.refl _ _⟩
  · have HP : Hid (pars s = prsA 1 (rest s 0)) := by show _ = _; unfold pars; rw [if_neg hlong]; rfl
    have hlong' : ¬ (4000 : Int) < (s.size : Int) := by omega
    generalize pars s = P at *
    obtain ⟨i0, hi, hz0, hz1, hz2⟩ := info_parts Tryd.infoSym
    go_enter Tryd.func10, Tryd.ntmps10
    go_wp2_with fail
    go_loopw [0, 4, 5] (fun tv v c wr => ∃ (t : ByteArray) (k : Nat) (m : Int) (ds : List Sym), k ≤ s.size ∧ tv = .string t ∧ t.data.toList = rest s k ∧ c = .int .i64 m ∧ 0 ≤ m ∧ m ≤ k + 1 ∧ wr.ownsRow w.heap.size 54 4 v ds.length (cells4 ds) ∧ ds.length ≤ k ∧ P = (prsA m (rest s k)).map (ds ++ ·) ∧ Below w.heap.size w wr) (fun tv _ _ _ => tsz tv)
    case atStart => exact ⟨s, 0, 1, [], Nat.zero_le _, rfl, rfl, rfl, by omega, by omega, World.ownsRow_nil _ _ _ _, Nat.le_refl _, by rw [HP.out]; simp, Below.refl _ _⟩
    case round =>
      obtain ⟨t, k, m, ds, hk, rfl, ht, rfl, hm0, hm1, hown, hul, hq, hnx⟩ := hrel
      have Q : Hid (P = (prsA m (rest s k)).map (ds ++ ·)) := hq
      have HT : Hid (t.data.toList = rest s k) := ht
      have htl : t.size = s.size - k := by
        have : t.data.toList.length = t.size := by simp
        rw [← this, ht, rest_len]
      clear hq HP ht
      have hgr := hg.on hnx
      by_cases hlt : k < s.size
      · have ht0 : 0 < t.size := by omega
        have ht0' : (0 : Int) < (t.size : Int) := by omega
        have CS : Hid (Calls Tryd.prog 19 #[.string t] wr fun e w' => e = .returned (csymV (csym t.data.toList)) ∧ Below wr.heap.size wr w') := cutSymbol_any t wr hgr (by omega) ht0
        rw [HT.out, rest_cons s k hlt, csym_sym, ← rest_cons s k hlt] at CS
        have HTL : Hid (t.size = s.size - k) := htl
        clear htl
        cases hsy : sym (rest s k) with
        | none =>
          have HN : Hid (P = none) := by
            show _ = _
            rw [Q.out, rest_cons s k hlt, prsA_none _ _ _ (by rw [← rest_cons s k hlt]; exact hsy)]; rfl
          rw [hsy] at CS
          have CS' : Hid (Calls Tryd.prog 19 #[.string t] wr fun e w' => e = .returned (.tuple #[.agg #[.int .i64 0, .int .i64 0, .int .i64 0, .int .i64 0], .string ⟨#[]⟩, .bool false]) ∧ Below wr.heap.size wr w') := CS
          clear CS
          go_wp2_with (go_at_call 19; refine (CS'.out).mono ?_; rintro e w1 ⟨rfl, hb1⟩)
          all_goals go_ret2
          all_goals exact ⟨_, by rw [HN.out]; rfl, fun ys h => by (rw [HN.out] at h; cases h), (hnx.trans (hb1.mono hnx.size)).alloc (by have := hb1.size; have := hnx.size; omega) _⟩
        | some q =>
          obtain ⟨⟨y0, y1, y2, y3⟩, j⟩ := q
          have hj := sym_facts hsy
          rw [rest_len] at hj
          rw [hsy] at CS
          have hdr : (rest s k).drop j = rest s (k + j) := rest_drop s k j
          have CS' : Hid (Calls Tryd.prog 19 #[.string t] wr fun e w' => e = .returned (.tuple #[.agg #[.int .i64 y0, .int .i64 y1, .int .i64 y2, .int .i64 y3], .string ⟨(rest s (k + j)).toArray⟩, .bool true]) ∧ Below wr.heap.size wr w') := by rw [← hdr]; exact CS
          have HT2 : Hid ((⟨(rest s (k + j)).toArray⟩ : ByteArray).data.toList = rest s (k + j)) := rfl
          have HTS : Hid ((⟨(rest s (k + j)).toArray⟩ : ByteArray).size = s.size - (k + j)) := by
            show (rest s (k + j)).toArray.size = _; rw [List.size_toArray, rest_len]
          clear CS hdr
          generalize (⟨(rest s (k + j)).toArray⟩ : ByteArray) = T2 at *
          by_cases hz : m = 0
          · subst hz
            have HN : Hid (P = none) := by show _ = _; rw [Q.out, rest_cons s k hlt, prsA_zero]; rfl
            go_wp2_with (go_at_call 19; refine (CS'.out).mono ?_; rintro e w1 ⟨rfl, hb1⟩)
            go_ret2
            exact ⟨_, by rw [HN.out]; rfl, fun ys h => by (rw [HN.out] at h; cases h), (hnx.trans (hb1.mono hnx.size)).alloc (by have := hb1.size; have := hnx.size; omega) _⟩
          · have hz' : (m == 0) = false := by simpa using hz
            have Q2 : Hid (P = (prsA (m + (prt y0 - 1)) (rest s (k + j))).map ((ds ++ [(y0, y1, y2, y3)]) ++ ·)) := by
              show _ = _
              rw [Q.out, rest_cons s k hlt, prsA_some m _ _ (y0, y1, y2, y3) j hz (by rw [← rest_cons s k hlt]; exact hsy), ← rest_cons s k hlt, rest_drop]
              have ee : m + prt y0 - 1 = m + (prt y0 - 1) := by omega
              simp [Option.map_map, Function.comp_def, ee]
            have hpr := prt_range y0
            clear hsy
            generalize hpp : prt y0 = pp at *
            have CPt : Hid (∀ w, Calls Tryd.prog 20 #[.int .i64 y0] w fun e w' => e = .returned (.int .i64 pp) ∧ w = w') := fun w => by rw [← hpp]; exact parts_any y0 w
            clear hpp
            go_wp2_with (first
              | (go_at_call 19; refine (CS'.out).mono ?_; rintro e w1 ⟨rfl, hb1⟩; have hown1 := (ownsRow_below hown hb1).alloc (.cells #[.int .i64 y0, .int .i64 y1, .int .i64 y2, .int .i64 y3] 54))
              | (at_builtin; refine wpList_append_own _ rfl _ _ 35 rfl w.heap.size 54 i0 (.agg #[.int .i64 0, .int .i64 0, .int .i64 0, .int .i64 0]) 4 32 Tryd.underlying35 hi hz0 hz1 hz2 rfl (by decide) _ _ _ rfl (hown1.alloc _) ⟨w1.heap.size + 1, 0, none⟩ 1 1 [.int .i64 y0, .int .i64 y1, .int .i64 y2, .int .i64 y3] rfl rfl (four_new _ _ (by simp) _ _ _ _ _) (one_iiii _ _ _ _) (by unfold maxLen; omega) (by omega) (by have := hb1.size; have := hnx.size; simp; omega) ?_))
            intro v' w3 hown3 hgrow _
            have hb1s := hb1.size
            have hnxs := hnx.size
            have hbb := (hnx.trans (hb1.mono hnxs)).alloc (by omega) (.cells #[.int .i64 y0, .int .i64 y1, .int .i64 y2, .int .i64 y3] 54)
            have hb3 := (hbb.alloc (by simp; omega) _).grown hgrow (by simp; omega) (own_block hown)
            have hy0 : w3.cell? ⟨w1.heap.size, 0, none⟩ = some (.int .i64 y0) := hgrow.cell (by simp) (by
              intro e
              have := (hown.lt _ e.symm).2
              simp at this; omega)
            clear hown hown1 hgrow hbb
            go_wp2_with (go_at_call 20; refine (CPt.out _).mono ?_; rintro e w' ⟨rfl, rfl⟩)
            go_roundw
            case rel => exact ⟨T2, k + j, m + (pp - 1), ds ++ [(y0, y1, y2, y3)], by omega, rfl, HT2.out, by go_num, by omega, by omega, by rw [cells4_snoc, List.length_append]; exact hown3, by simp; omega, Q2.out, hb3⟩
            case measure => simp only [tsz_str]; have := HTS.out; have := HTL.out; simp [tsz_str]; omega
      · have ht0 : t.size = 0 := by omega
        have ht0' : ¬ (0 : Int) < (t.size : Int) := by omega
        have Q2 : Hid (P = if m = 0 then some ds else none) := by
          show _ = _
          rw [Q.out, rest_end s k (by omega), prsA_nil]
          split <;> simp
        clear htl ht0
        by_cases hz : m = 0
        · subst hz
          have HS : Hid (P = some ds) := by show _ = _; rw [Q2.out, if_pos rfl]
          go_wp2_with fail
          go_ret2
          exact ⟨u4, by rw [HS.out]; rfl, fun ys h => by (rw [HS.out] at h; cases h; exact hown), hnx⟩
        · have HN : Hid (P = none) := by show _ = _; rw [Q2.out, if_neg hz]
          have hz' : 0 < m := by omega
          go_wp2_with fail
          go_ret2
          exact ⟨_, by rw [HN.out]; rfl, fun ys h => by (rw [HN.out] at h; cases h), hnx⟩
end Go.Proofs.YtkinoehmcfhgbaaDoor.Vl
