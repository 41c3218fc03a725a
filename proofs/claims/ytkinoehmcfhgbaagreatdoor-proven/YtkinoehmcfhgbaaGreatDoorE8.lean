/-
  The walk of the statement Proven.
-/
import Derived.Test.YtkinoehmcfhgbaaGreatDoorE7
set_option linter.unusedVariables false
set_option linter.unusedSimpArgs false
namespace Go.Proofs.YtkinoehmcfhgbaaGreatDoor.Vl
open Go.RowKit

theorem prA_zero (ys : List Sym) : (prA ys 0).1 = 2 := by
  have h : (prE ys 0).v = 2 := rfl
  unfold prA
  rw [if_neg (by rw [h]; decide), if_neg (by rw [h]; intro e; exact absurd e.1 (by decide))]
theorem proves_any (s : ByteArray) (bu : Int) (w : World) (hgl : Gl w) (hgt : Gt w) (hmax : s.size ≤ maxLen) :
    Calls Tryz.prog 23 #[.string s, .int .i64 bu] w fun e w' => ∃ m1 m2 m3 m4 q n c, e = .returned (.tuple #[.agg #[.int .i64 (cpA (pars s) bu).1.1, .int .i64 0, .int .i64 m1, .int .i64 m2, .int .i64 m3, .int .i64 m4, .slice q n c], .bool true]) ∧ Below w.heap.size w w' := by
  have CF := fun v m1 m2 m3 m4 L ec (hA : cpA (pars s) bu = ((v, (m1, m2, m3, m4), L), ec)) (X : World) (hX : Below w.heap.size w X) => foundL_any s bu X (hgl.on hX) (hgt.on hX) hmax v m1 m2 m3 m4 L ec hA
  have CV := fun x1 x2 x3 x4 (X : World) => refValue_any s x1 x2 x3 x4 X hmax
  unfold stV at CV
  cases hp : pars s with
  | none =>
    rw [hp] at CF CV
    refine (proves_e7 s bu w (b0 := false) (CF 0 0 0 0 0 [] 7 rfl) (CV 0 0 0 0)).mono ?_
    rintro e w' ⟨q, c, rfl, hb⟩
    exact ⟨_, _, _, _, _, _, _, rfl, hb⟩
  | some ys =>
    rw [hp] at CF CV
    have CV0 : ∀ X, Calls Tryz.prog 49 #[.string s, .agg #[.int .i64 0, .int .i64 0, .int .i64 0, .int .i64 0]] X fun e w' => e = .returned (.tuple #[.bool (val 0 0 0 0 ys), .int .i64 0]) ∧ Below X.heap.size X w' := CV 0 0 0 0
    by_cases hbu : 0 ≤ bu ∧ bu ≤ 20000
    · have hc : cpA (some ys) bu = (prA ys bu.toNat, 0) := if_pos hbu
      have hb0 : ¬ bu < 0 := by omega
      have hb1 : ¬ 20000 < bu := by omega
      rw [hc] at CF ⊢
      have hz : bu = 0 → (prA ys bu.toNat).1 = 2 := fun e => by rw [e]; exact prA_zero ys
      have hfew : bu = 20000 → (prA ys bu.toNat).1 = 2 → 12 < (uqs ys).length := fun e h2 => by
        rcases Nat.lt_or_ge 12 (uqs ys).length with h | h
        · exact h
        · rw [e] at h2
          exact absurd h2 (prA_few hp h)
      have hcs := prA_cases hp bu.toNat
      have CW := fun X => few_any hp X hmax
      generalize prA ys bu.toNat = A at *
      obtain ⟨v, ⟨m1, m2, m3, m4⟩, L⟩ := A
      dsimp only at hcs hz hfew
      rcases hcs with ⟨rfl, rfl, hv, hg⟩ | ⟨rfl, hm, pf, rfl, hcf⟩ | ⟨rfl, hm, rfl⟩
      · have hn0 : ¬ bu = 0 := fun e => by have := hz e; omega
        have CVm : ∀ X, Calls Tryz.prog 49 #[.string s, .agg #[.int .i64 m1, .int .i64 m2, .int .i64 m3, .int .i64 m4]] X fun e w' => e = .returned (.tuple #[.bool false, .int .i64 0]) ∧ Below X.heap.size X w' := fun X => by
          have h := CV m1 m2 m3 m4 X
          rw [show vAns (some ys) m1 m2 m3 m4 = (false, 0) by show (if gds m1 m2 m3 m4 = true then _ else _) = _; rw [if_pos hg, hv]] at h
          exact h
        refine (proves_r s bu w m1 m2 m3 m4 hb0 hb1 hn0 CVm (CF 1 m1 m2 m3 m4 [] 0 rfl) CV0).mono ?_
        rintro e w' ⟨q, c, rfl, hb⟩
        exact ⟨_, _, _, _, _, _, _, rfl, hb⟩
      · have hn0 : ¬ bu = 0 := fun e => by have := hz e; omega
        cases hm
        have hPl : pf.toArray.size ≤ maxLen := by
          unfold cfm at hcf
          rw [Bool.and_eq_true] at hcf
          have := of_decide_eq_true hcf.1
          simp
          unfold maxLen; omega
        have CC : ∀ X, Calls Tryz.prog 50 #[.string s, .string ⟨pf.toArray⟩] X fun e w' => e = .returned (.tuple #[.bool true, .int .i64 0]) ∧ Below X.heap.size X w' := fun X => by
          have h := refConfirm_any s ⟨pf.toArray⟩ X hmax hPl
          rw [hp, show fAns (some ys) (⟨pf.toArray⟩ : ByteArray).data.toList = (true, 0) by show (cfm ys pf.toArray.toList, (0 : Int)) = (true, 0); rw [List.toList_toArray, hcf]] at h
          exact h
        refine (proves_p s bu w pf hb0 hb1 hn0 CC (CF 0 0 0 0 0 [pf] 0 rfl) CV0).mono ?_
        rintro e w' ⟨q, c, rfl, hb⟩
        exact ⟨_, _, _, _, _, _, _, rfl, hb⟩
      · cases hm
        by_cases h0 : bu = 0
        · refine (proves_u0 s bu w h0 CW (CF 2 0 0 0 0 [] 0 rfl) CV0).mono ?_
          rintro e w' ⟨q, c, rfl, hb⟩
          exact ⟨_, _, _, _, _, _, _, rfl, hb⟩
        · by_cases h2 : bu < 20000
          · refine (proves_u1 s bu w hb0 hb1 h0 h2 CW (CF 2 0 0 0 0 [] 0 rfl) CV0).mono ?_
            rintro e w' ⟨q, c, rfl, hb⟩
            exact ⟨_, _, _, _, _, _, _, rfl, hb⟩
          · have hk := hfew (by omega) rfl
            refine (proves_u2 s bu w hb0 hb1 h0 h2 (by omega) CW (CF 2 0 0 0 0 [] 0 rfl) CV0).mono ?_
            rintro e w' ⟨q, c, rfl, hb⟩
            exact ⟨_, _, _, _, _, _, _, rfl, hb⟩
    · have hc : cpA (some ys) bu = ((0, (0, 0, 0, 0), []), 8) := if_neg hbu
      rw [hc] at CF ⊢
      by_cases h0 : bu < 0
      · refine (proves_e8a s bu w h0 (CF 0 0 0 0 0 [] 8 rfl) CV0).mono ?_
        rintro e w' ⟨q, c, rfl, hb⟩
        exact ⟨_, _, _, _, _, _, _, rfl, hb⟩
      · refine (proves_e8b s bu w h0 (by omega) (CF 0 0 0 0 0 [] 8 rfl) CV0).mono ?_
        rintro e w' ⟨q, c, rfl, hb⟩
        exact ⟨_, _, _, _, _, _, _, rfl, hb⟩

def fB : List UInt8 := [62, 38, 38, 97, 45, 48, 60, 61, 48, 46, 48, 45, 97, 60, 61, 48, 46, 48, 45, 98, 60, 61, 48, 46, 97, 45, 98, 60, 61, 48, 46]
def gB : List UInt8 := [97, 45, 98, 60, 61, 48, 46]
def fY : List Sym := [(5, 0, 0, 0), (3, 0, 0, 0), (3, 0, 0, 0), (6, 1, 0, 0), (6, 0, 1, 0), (6, 0, 2, 0), (6, 1, 2, 0)]
def gY : List Sym := [(6, 1, 2, 0)]
theorem fP : pars ⟨fB.toArray⟩ = some fY := by kernel_rfl
theorem gP : pars ⟨gB.toArray⟩ = some gY := by kernel_rfl
theorem fV (x1 x2 x3 x4 : Int) : val x1 x2 x3 x4 fY = true := by
  rw [val_tat fP]
  show (teith (tnot (tboth (tboth (tof (decide (x1 - 0 ≤ 0))) (tof (decide (0 - x1 ≤ 0)))) (tof (decide (0 - x2 ≤ 0))))) (tof (decide (x1 - x2 ≤ 0))) == 1) = true
  by_cases h1 : x1 - 0 ≤ 0 <;> by_cases h2 : 0 - x1 ≤ 0 <;> by_cases h3 : 0 - x2 ≤ 0 <;> by_cases h4 : x1 - x2 ≤ 0 <;> first | (exfalso; omega) | (simp only [h1, h2, h3, h4, decide_true, decide_false]; rfl)
theorem fC : (cpA (pars ⟨fB.toArray⟩) 20000).1.1 = 0 := by
  rw [fP]
  exact (prA_holds fP (by decide) fV).1
theorem gC : (cpA (pars ⟨gB.toArray⟩) 20000).1.1 = 1 := by
  rw [gP]
  show (prA gY 20000).1 = 1
  rcases prA_cases gP 20000 with ⟨h, _⟩ | ⟨_, _, pf, _, h⟩ | ⟨h, _⟩
  · exact h
  · have := cfm_val gP h 1 0 0 0
    cases this
  · exact absurd h (prA_few gP (by decide))
set_option maxRecDepth 100000 in
set_option maxHeartbeats 4000000 in
theorem proven_c (s : ByteArray) (bu : Int) (hs : s.size ≤ maxLen) (w : World) (hgl : Gl w) :
    Calls Tryz.prog 5 #[.string s, .int .i64 bu] w fun e w' => e = .returned (.bool true) ∧ Below w.heap.size w w' := by
  have HGL : Hid (∀ X, Below w.heap.size w X → Gl X) := fun X hX => hgl.on hX
  have C1 : Hid (∀ X, Gl X → Calls Tryz.prog 23 #[.string ⟨#[62, 38, 38, 97, 45, 48, 60, 61, 48, 46, 48, 45, 97, 60, 61, 48, 46, 48, 45, 98, 60, 61, 48, 46, 97, 45, 98, 60, 61, 48, 46]⟩, .int .i64 20000] X fun e w' => ∃ m1 m2 m3 m4 q n c, e = .returned (.tuple #[.agg #[.int .i64 0, .int .i64 0, .int .i64 m1, .int .i64 m2, .int .i64 m3, .int .i64 m4, .slice q n c], .bool true]) ∧ Below X.heap.size X w') := fun X hX => by
    have h := proves_any ⟨fB.toArray⟩ 20000 X hX (gt_gl hX) (by decide)
    rw [fC] at h
    exact h
  have C2 : Hid (∀ X, Gl X → Calls Tryz.prog 23 #[.string ⟨#[97, 45, 98, 60, 61, 48, 46]⟩, .int .i64 20000] X fun e w' => ∃ m1 m2 m3 m4 q n c, e = .returned (.tuple #[.agg #[.int .i64 1, .int .i64 0, .int .i64 m1, .int .i64 m2, .int .i64 m3, .int .i64 m4, .slice q n c], .bool true]) ∧ Below X.heap.size X w') := fun X hX => by
    have h := proves_any ⟨gB.toArray⟩ 20000 X hX (gt_gl hX) (by decide)
    rw [gC] at h
    exact h
  have C3 : Hid (∀ X, Gl X → Calls Tryz.prog 23 #[.string s, .int .i64 bu] X fun e w' => ∃ v m1 m2 m3 m4 q n c, e = .returned (.tuple #[.agg #[.int .i64 v, .int .i64 0, .int .i64 m1, .int .i64 m2, .int .i64 m3, .int .i64 m4, .slice q n c], .bool true]) ∧ Below X.heap.size X w') := fun X hX => by
    refine (proves_any s bu X hX (gt_gl hX) hs).mono ?_
    rintro e w' ⟨m1, m2, m3, m4, q, n, c, h1, h2⟩
    exact ⟨_, m1, m2, m3, m4, q, n, c, h1, h2⟩
  have HG0 : Hid (Gl w) := hgl
  clear hgl
  go_enter Tryz.func5, Tryz.ntmps5
  go_wp2_with fail
  refine Calls.mono (C1.out _ HG0.out) ?_
  rintro e w1 ⟨m1, m2, m3, m4, q1, n1, c1, rfl, hb1⟩
  have HB1 : Hid (∀ x, Below w.heap.size w (w1.alloc x)) := fun x => hb1.alloc hb1.size x
  clear hb1
  go_wp2_with fail
  refine Calls.mono (C2.out _ (HGL.out _ (HB1.out _))) ?_
  rintro e w2 ⟨k1, k2, k3, k4, q2, n2, c2, rfl, hb2⟩
  have n0 : w2.cell? ⟨w1.heap.size, 0, none⟩ = some (.int .i64 0) := (hb2.cell (p := ⟨w1.heap.size, 0, none⟩) (by simp)).trans (Blk.cell (heap_alloc_new w1 _) rfl)
  have hl : w1.heap.size < w2.heap.size := by have := hb2.size; simp at this; omega
  have HB2 : Hid (∀ x, Below w.heap.size w (w2.alloc x)) := fun x => by
    have h := (HB1.out _).trans (hb2.mono (HB1.out _).size)
    exact h.alloc h.size x
  clear hb2
  go_wp2_with fail
  refine Calls.mono (C3.out _ (HGL.out _ (HB2.out _))) ?_
  rintro e w3 ⟨v, j1, j2, j3, j4, q3, n3, c3, rfl, hb3⟩
  have HB3 : Hid (∀ x, Below w.heap.size w (w3.alloc x)) := fun x => by
    have h := (HB2.out _).trans (hb3.mono (HB2.out _).size)
    exact h.alloc h.size x
  clear hb3 n0 hl
  go_wp2_with fail
  go_ret
  exact ⟨rfl, HB3.out _⟩
end Go.Proofs.YtkinoehmcfhgbaaGreatDoor.Vl
