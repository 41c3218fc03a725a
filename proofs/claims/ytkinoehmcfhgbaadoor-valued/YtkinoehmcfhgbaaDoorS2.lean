/-
  The walk of the program's Symbol.settle, where what is known comes by a closure.
-/
import Derived.Test.YtkinoehmcfhgbaaDoorS1
set_option linter.unusedVariables false
set_option linter.unusedSimpArgs false
namespace Go.Proofs.YtkinoehmcfhgbaaDoor.Vl
open Go.RowKit

/-- The parts of a symbol as they lie in memory: the second's first. -/
def Parts3H (w : World) (pv : Value) (k : Int) (t u : Int) : Prop :=
  (k = 2 → ∃ g o c, pv = .slice (some ⟨g, o, none⟩) 1 c ∧ g < w.heap.size ∧ w.cell? ⟨g, o, none⟩ = some (.int .i8 t)) ∧
  (k = 3 ∨ k = 4 ∨ k = 5 → ∃ g o c, pv = .slice (some ⟨g, o, none⟩) 2 c ∧ g < w.heap.size ∧ w.cell? ⟨g, o, none⟩ = some (.int .i8 u) ∧ w.cell? ⟨g, o + 1, none⟩ = some (.int .i8 t))

set_option maxRecDepth 100000 in
set_option maxHeartbeats 2000000 in
theorem ssettleH (kn : Atm → Int) (cp : Value) (b o : Nat) (y0 y1 y2 y3 : Int) (pv : Value) (t u : Int) (w : World) (h0 : 0 ≤ y0 ∧ y0 ≤ 6) (ht : T3 t) (hu : T3 u) (hp : Parts3H w pv y0 t u)
    (c0 : w.cell? ⟨b, o, none⟩ = some (.int .i64 y0)) (c1 : w.cell? ⟨b, o + 1, none⟩ = some (.int .i64 y1)) (c2 : w.cell? ⟨b, o + 2, none⟩ = some (.int .i64 y2)) (c3 : w.cell? ⟨b, o + 3, none⟩ = some (.int .i64 y3))
    (CK : y0 = 6 → Calls Tryd.prog 22 #[.agg #[.int .i64 y1, .int .i64 y2, .int .i64 y3], cp] w fun e w' => e = .returned (.int .i8 (kn (y1, y2, y3))) ∧ Below w.heap.size w w') :
    Calls Tryd.prog 37 #[.pointer (some ⟨b, o, none⟩), .func (.func 22) #[] #[cp], pv] w fun e w' => e = .returned (.int .i8 (tval kn (y0, y1, y2, y3) t u)) ∧ Below w.heap.size w w' := by
  have CN : Hid (∀ t w, T3 t → Calls Tryd.prog 50 #[.int .i8 t] w fun e w' => e = .returned (.int .i8 (tnot t)) ∧ w = w') := fun t w h => tnot_any t h w
  have CB : Hid (∀ t u w, T3 t → T3 u → Calls Tryd.prog 51 #[.int .i8 t, .int .i8 u] w fun e w' => e = .returned (.int .i8 (tboth t u)) ∧ w = w') := fun t u w h k => tboth_any t u h k w
  have CE : Hid (∀ t u w, T3 t → T3 u → Calls Tryd.prog 52 #[.int .i8 t, .int .i8 u] w fun e w' => e = .returned (.int .i8 (teith t u)) ∧ w = w') := fun t u w h k => teith_any t u h k w
  have HT : Hid (T3 t) := ht
  have HU : Hid (T3 u) := hu
  clear ht hu
  have hk : y0 = 0 ∨ y0 = 1 ∨ y0 = 6 ∨ y0 = 2 ∨ y0 = 3 ∨ y0 = 4 ∨ y0 = 5 := by omega
  rcases hk with rfl | rfl | rfl | rfl | rfl | rfl | rfl
  · clear CK hp
    go_enter Tryd.func37, Tryd.ntmps37
    go_wp2_with fail
    go_ret
    exact ⟨rfl, Below.refl _ _⟩
  · clear CK hp
    go_enter Tryd.func37, Tryd.ntmps37
    go_wp2_with fail
    go_ret
    exact ⟨rfl, Below.refl _ _⟩
  · have CK' : Hid _ := CK rfl
    have HB : Hid (tval kn (6, y1, y2, y3) t u = kn (y1, y2, y3)) := rfl
    generalize kn (y1, y2, y3) = HL at *
    clear hp CK
    go_enter Tryd.func37, Tryd.ntmps37
    go_wp2_with (go_at_call 22; refine Calls.mono CK'.out ?_; rintro e w3 ⟨rfl, hb3⟩)
    go_ret
    exact ⟨by rw [HB.out]; rfl, hb3⟩
  · obtain ⟨g, o, c, rfl, hgs, hc⟩ := hp.1 rfl
    clear hp CK
    go_enter Tryd.func37, Tryd.ntmps37
    go_wp2_with (go_at_call 50; refine (CN.out _ _ HT.out).mono ?_; rintro e w' ⟨rfl, rfl⟩)
    go_ret
    exact ⟨rfl, Below.refl _ _⟩
  all_goals
    obtain ⟨g, o, c, rfl, hgs, hc, hd⟩ := hp.2 (by omega)
    clear hp CK
    go_enter Tryd.func37, Tryd.ntmps37
    go_wp2_with fail
    go_region_with (first
      | (go_at_call 50; refine (CN.out _ _ HT.out).mono ?_; rintro e w' ⟨rfl, rfl⟩)
      | (go_at_call 51; refine (CB.out _ _ _ HT.out HU.out).mono ?_; rintro e w' ⟨rfl, rfl⟩)
      | (go_at_call 52; refine (CE.out _ _ _ (by first | exact HT.out | exact t3_not _) HU.out).mono ?_; rintro e w' ⟨rfl, rfl⟩))
    all_goals (try go_wp2_with fail)
    all_goals go_ret
    all_goals exact ⟨rfl, (Below.refl _ _).drew⟩
end Go.Proofs.YtkinoehmcfhgbaaDoor.Vl
