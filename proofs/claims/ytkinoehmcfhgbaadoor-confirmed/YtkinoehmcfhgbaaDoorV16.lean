/-
  The walks of the program's Operand.value, Atom.holds and Symbol.holds.
  The walk of the program's Condition.Holds.
  The walk of the program's Value: it answers what the document answers.
  The walks of kernel.New, Confirms, and the call Confirm.
-/
import Derived.Test.YtkinoehmcfhgbaaDoorV8
import Derived.Test.YtkinoehmcfhgbaaDoorV9
import Derived.Deep.RegionHeld3
import Derived.Test.YtkinoehmcfhgbaaDoorT18a
set_option linter.unusedVariables false
set_option linter.unusedSimpArgs false
namespace Go.Proofs.YtkinoehmcfhgbaaDoor.Vl
open Go.RowKit

set_option maxRecDepth 100000 in
set_option maxHeartbeats 1000000 in
theorem value_any (i x1 x2 x3 x4 : Int) (w : World) (h : 0 ≤ i ∧ i ≤ 4) :
    Calls Tryd.prog 36 #[.int .i64 i, .agg #[.int .i64 x1, .int .i64 x2, .int .i64 x3, .int .i64 x4]] w fun e w' => e = .returned (.int .i64 (xv x1 x2 x3 x4 i)) ∧ Below w.heap.size w w' := by
  have hi : i = 0 ∨ i = 1 ∨ i = 2 ∨ i = 3 ∨ i = 4 := by omega
  rcases hi with rfl | rfl | rfl | rfl | rfl
  all_goals
    go_enter Tryd.func36, Tryd.ntmps36
    go_wp2
    go_ret
    exact ⟨rfl, below_alloc _ _⟩

/-- The cells of an atom and of a state, each in a block of its own. -/
def Two (w w' : World) (B : Nat) (a1 a2 a3 x1 x2 x3 x4 : Int) : Prop :=
  Below w.heap.size w w' ∧ B + 1 < w'.heap.size ∧ w'.cell? ⟨B, 0, none⟩ = some (.int .i64 a1) ∧ w'.cell? ⟨B, 1, none⟩ = some (.int .i64 a2) ∧ w'.cell? ⟨B, 2, none⟩ = some (.int .i64 a3) ∧
  w'.cell? ⟨B + 1, 0, none⟩ = some (.int .i64 x1) ∧ w'.cell? ⟨B + 1, 1, none⟩ = some (.int .i64 x2) ∧ w'.cell? ⟨B + 1, 2, none⟩ = some (.int .i64 x3) ∧ w'.cell? ⟨B + 1, 3, none⟩ = some (.int .i64 x4)

theorem Two.on {w X X' : World} {B : Nat} {a1 a2 a3 x1 x2 x3 x4 : Int} (h : Two w X B a1 a2 a3 x1 x2 x3 x4) (hb : Below X.heap.size X X') : Two w X' B a1 a2 a3 x1 x2 x3 x4 := by
  obtain ⟨h0, h1, c0, c1, c2, d0, d1, d2, d3⟩ := h
  have hB : B < X.heap.size := by omega
  exact ⟨h0.trans (hb.mono h0.size), Nat.lt_of_lt_of_le h1 hb.size, (hb.cell (p := ⟨B, 0, none⟩) hB).trans c0, (hb.cell (p := ⟨B, 1, none⟩) hB).trans c1, (hb.cell (p := ⟨B, 2, none⟩) hB).trans c2,
    (hb.cell (p := ⟨B + 1, 0, none⟩) h1).trans d0, (hb.cell (p := ⟨B + 1, 1, none⟩) h1).trans d1, (hb.cell (p := ⟨B + 1, 2, none⟩) h1).trans d2, (hb.cell (p := ⟨B + 1, 3, none⟩) h1).trans d3⟩

set_option maxRecDepth 100000 in
set_option maxHeartbeats 2000000 in
theorem aholds_any (a1 a2 a3 x1 x2 x3 x4 : Int) (w : World) (h1 : 0 ≤ a1 ∧ a1 ≤ 4) (h2 : 0 ≤ a2 ∧ a2 ≤ 4) (hg : gds x1 x2 x3 x4 = true) :
    Calls Tryd.prog 24 #[.agg #[.int .i64 a1, .int .i64 a2, .int .i64 a3], .agg #[.int .i64 x1, .int .i64 x2, .int .i64 x3, .int .i64 x4]] w fun e w' => e = .returned (.bool (hld x1 x2 x3 x4 (a1, a2, a3))) ∧ Below w.heap.size w w' := by
  have CV : Hid (∀ (i : Int) w, 0 ≤ i ∧ i ≤ 4 → Calls Tryd.prog 36 #[.int .i64 i, .agg #[.int .i64 x1, .int .i64 x2, .int .i64 x3, .int .i64 x4]] w fun e w' => e = .returned (.int .i64 (xv x1 x2 x3 x4 i)) ∧ Below w.heap.size w w') := fun i w h => value_any i x1 x2 x3 x4 w h
  have HH : Hid (hld x1 x2 x3 x4 (a1, a2, a3) = decide (xv x1 x2 x3 x4 a1 - xv x1 x2 x3 x4 a2 ≤ a3)) := rfl
  have hX := xv_range hg a1
  have hY := xv_range hg a2
  have A1 : Hid (0 ≤ a1 ∧ a1 ≤ 4) := h1
  have A2 : Hid (0 ≤ a2 ∧ a2 ≤ 4) := h2
  clear h1 h2 hg
  generalize hxv : xv x1 x2 x3 x4 = XV at *
  clear hxv
  go_enter Tryd.func24, Tryd.ntmps24
  go_wp2_with fail
  have b0 : Below w.heap.size w ((w.alloc (.cells #[.int .i64 a1, .int .i64 a2, .int .i64 a3] 52)).alloc (.cells #[.int .i64 x1, .int .i64 x2, .int .i64 x3, .int .i64 x4] 23)) := (below_alloc w _).alloc (by simp) _
  generalize hW : (w.alloc (.cells #[.int .i64 a1, .int .i64 a2, .int .i64 a3] 52)).alloc (.cells #[.int .i64 x1, .int .i64 x2, .int .i64 x3, .int .i64 x4] 23) = W at *
  have s0 : w.heap.size + 1 < W.heap.size := by rw [← hW]; simp
  have c0 : W.cell? ⟨w.heap.size, 0, none⟩ = some (.int .i64 a1) := by rw [← hW]; simp
  have c1 : W.cell? ⟨w.heap.size, 1, none⟩ = some (.int .i64 a2) := by rw [← hW]; simp
  have c2 : W.cell? ⟨w.heap.size, 2, none⟩ = some (.int .i64 a3) := by rw [← hW]; simp
  have d0 : W.cell? ⟨w.heap.size + 1, 0, none⟩ = some (.int .i64 x1) := by rw [← hW]; simp
  have d1 : W.cell? ⟨w.heap.size + 1, 1, none⟩ = some (.int .i64 x2) := by rw [← hW]; simp
  have d2 : W.cell? ⟨w.heap.size + 1, 2, none⟩ = some (.int .i64 x3) := by rw [← hW]; simp
  have d3 : W.cell? ⟨w.heap.size + 1, 3, none⟩ = some (.int .i64 x4) := by rw [← hW]; simp
  have b1 : Below w.heap.size w W.drew := b0.drew
  have T0 : Two w W.drew w.heap.size a1 a2 a3 x1 x2 x3 x4 := ⟨b1, s0, c0, c1, c2, d0, d1, d2, d3⟩
  clear hW
  go_region_held3 (fun w' => Below w.heap.size w w' ∧ w.heap.size + 1 < w'.heap.size ∧ w'.cell? ⟨w.heap.size, 0, none⟩ = some (.int .i64 a1) ∧ w'.cell? ⟨w.heap.size, 1, none⟩ = some (.int .i64 a2) ∧ w'.cell? ⟨w.heap.size, 2, none⟩ = some (.int .i64 a3) ∧ w'.cell? ⟨w.heap.size + 1, 0, none⟩ = some (.int .i64 x1) ∧ w'.cell? ⟨w.heap.size + 1, 1, none⟩ = some (.int .i64 x2) ∧ w'.cell? ⟨w.heap.size + 1, 2, none⟩ = some (.int .i64 x3) ∧ w'.cell? ⟨w.heap.size + 1, 3, none⟩ = some (.int .i64 x4)) (simp [*]) (first | (go_at_call 36; refine (CV.out _ _ ?_).mono ?_; (first | exact A1.out | exact A2.out); rintro e w3 ⟨rfl, hb3⟩; first | (have T2 := T1.on hb3; obtain ⟨t0, t1, t2, t3, t4, t5, t6, t7, t8⟩ := id T2) | (have T1 := T0.on hb3; obtain ⟨t0, t1, t2, t3, t4, t5, t6, t7, t8⟩ := id T1)))
  have hwr : IntKind.i64.wrap (XV a1 - XV a2) = XV a1 - XV a2 := IntWalk.i64_in _ (by omega)
  go_wp2_with fail
  go_ret
  refine ⟨?_, t0⟩
  rw [HH.out]
  first | rfl | (simp only [hwr]; rfl) | simp [hwr]

end Go.Proofs.YtkinoehmcfhgbaaDoor.Vl
set_option linter.unusedVariables false
set_option linter.unusedSimpArgs false
namespace Go.Proofs.YtkinoehmcfhgbaaDoor.Vl
open Go.RowKit

/-- A state's cells. -/
def StAt (W : World) (B : Nat) (x1 x2 x3 x4 : Int) : Prop := B < W.heap.size ∧ W.cell? ⟨B, 0, none⟩ = some (.int .i64 x1) ∧ W.cell? ⟨B, 1, none⟩ = some (.int .i64 x2) ∧ W.cell? ⟨B, 2, none⟩ = some (.int .i64 x3) ∧ W.cell? ⟨B, 3, none⟩ = some (.int .i64 x4)
theorem StAt.on {W W' : World} {B : Nat} {x1 x2 x3 x4 : Int} (h : StAt W B x1 x2 x3 x4) (hb : Below W.heap.size W W') : StAt W' B x1 x2 x3 x4 := by
  obtain ⟨h0, a, b, c, d⟩ := h
  exact ⟨Nat.lt_of_lt_of_le h0 hb.size, (hb.cell (p := ⟨B, 0, none⟩) h0).trans a, (hb.cell (p := ⟨B, 1, none⟩) h0).trans b, (hb.cell (p := ⟨B, 2, none⟩) h0).trans c, (hb.cell (p := ⟨B, 3, none⟩) h0).trans d⟩

set_option maxRecDepth 100000 in
set_option maxHeartbeats 2000000 in
theorem hcl_any (a1 a2 a3 x1 x2 x3 x4 : Int) (B : Nat) (w : World) (hs : StAt w B x1 x2 x3 x4) (ho : okA (a1, a2, a3)) (hg : gds x1 x2 x3 x4 = true) :
    Calls Tryd.prog 22 #[.agg #[.int .i64 a1, .int .i64 a2, .int .i64 a3], .pointer (some ⟨B, 0, none⟩)] w fun e w' => e = .returned (.int .i8 (tof (hld x1 x2 x3 x4 (a1, a2, a3)))) ∧ Below w.heap.size w w' := by
  have hok := ho
  unfold okA at hok
  dsimp only at hok
  have CA : Hid (∀ w, Calls Tryd.prog 24 #[.agg #[.int .i64 a1, .int .i64 a2, .int .i64 a3], .agg #[.int .i64 x1, .int .i64 x2, .int .i64 x3, .int .i64 x4]] w fun e w' => e = .returned (.bool (hld x1 x2 x3 x4 (a1, a2, a3))) ∧ Below w.heap.size w w') := fun w => aholds_any a1 a2 a3 x1 x2 x3 x4 w ⟨by omega, by omega⟩ ⟨by omega, by omega⟩ hg
  have CT : Hid (∀ b w, Calls Tryd.prog 23 #[.bool b] w fun e w' => e = .returned (.int .i8 (tof b)) ∧ w = w') := truthOf_any
  obtain ⟨s0, s1, s2, s3, s4⟩ := hs.on (below_alloc w (.cells #[.int .i64 a1, .int .i64 a2, .int .i64 a3] 52))
  clear hs hok ho hg
  generalize hld x1 x2 x3 x4 (a1, a2, a3) = HL at *
  go_enter Tryd.func22, Tryd.ntmps22
  go_wp2_with (first
    | (go_at_call 24; refine (CA.out _).mono ?_; rintro e w3 ⟨rfl, hb3⟩)
    | (go_at_call 23; refine (CT.out _ _).mono ?_; rintro e w' ⟨rfl, rfl⟩))
  go_ret
  exact ⟨rfl, (below_alloc w _).trans (hb3.mono (by simp))⟩

set_option maxRecDepth 100000 in
set_option maxHeartbeats 2000000 in
theorem cholds_any {s : ByteArray} {ys : List Sym} (hp : pars s = some ys) (v : Value) (x1 x2 x3 x4 : Int) (w : World) (hg : gds x1 x2 x3 x4 = true) (hI : Syms w.heap.size w v ys) :
    Calls Tryd.prog 12 #[v, .agg #[.int .i64 x1, .int .i64 x2, .int .i64 x3, .int .i64 x4]] w fun e w' => e = .returned (.bool (val x1 x2 x3 x4 ys)) ∧ Below w.heap.size w w' := by
  obtain ⟨hs, hprs, _, _⟩ := pars_facts hp
  obtain ⟨ps, hps⟩ := pos_of s ys 0 1 (Nat.zero_le _) hprs
  have hl := pos_len ys 0 1 ps hps
  obtain ⟨t, ht3, hr1, hr2⟩ := val_trun x1 x2 x3 x4 hp
  obtain ⟨b, cap, rfl, hbs, hcs⟩ := id hI
  have CS : Hid (∀ W B, Below w.heap.size w W → StAt W B x1 x2 x3 x4 → Calls Tryd.prog 25 #[.slice (some ⟨b, 0, none⟩) ys.length cap, .func (.func 22) #[] #[.pointer (some ⟨B, 0, none⟩)]] W fun e w' => e = .returned (.int .i8 t) ∧ Below W.heap.size W w') := fun W B hW hst =>
    csettleH (fun a => tof (hld x1 x2 x3 x4 a)) (.pointer (some ⟨B, 0, none⟩)) (fun W => StAt W B x1 x2 x3 x4) (fun _ _ h hb => h.on hb) (fun a => t3_of _) b cap ys W (by omega) ((hI.below hW).more hW.size) (tpos_at _ ys 0 1 ps hps (by omega)) t hr1 hst (fun W a1 a2 a3 h ho => hcl_any a1 a2 a3 x1 x2 x3 x4 B W h ho hg)
  have hst : StAt (w.alloc (.cells #[.int .i64 x1, .int .i64 x2, .int .i64 x3, .int .i64 x4] 23)) w.heap.size x1 x2 x3 x4 := ⟨by simp, by simp, by simp, by simp, by simp⟩
  have HV : Hid (val x1 x2 x3 x4 ys = (t == 1)) := hr2
  have HST : Hid _ := hst
  clear hst hr1 hr2 hI hcs hps hprs hp hl
  go_enter Tryd.func12, Tryd.ntmps12
  go_wp2_with (go_at_call 25; refine (CS.out _ _ (below_alloc w _) HST.out).mono ?_; rintro e w3 ⟨rfl, hb3⟩)
  go_ret
  refine ⟨?_, (below_alloc w _).trans (hb3.mono (by simp))⟩
  rw [HV.out]; rfl
end Go.Proofs.YtkinoehmcfhgbaaDoor.Vl
set_option linter.unusedVariables false
set_option linter.unusedSimpArgs false
namespace Go.Proofs.YtkinoehmcfhgbaaDoor.Vl
open Go.RowKit

theorem syms_on {w w' : World} {v : Value} {ys : List Sym} (h : Syms w.heap.size w v ys) (hb : Below w.heap.size w w') : Syms w'.heap.size w' v ys := by
  obtain ⟨b, cap, h1, h2, h3⟩ := h.below hb
  exact ⟨b, cap, h1, Nat.lt_of_lt_of_le h2 hb.size, h3⟩
theorem cells4_at : ∀ (l : List Sym) (j : Nat) (y : Sym), l[j]? = some y → (cells4 l)[j * 4]? = some (.int .i64 y.1) ∧ (cells4 l)[j * 4 + 1]? = some (.int .i64 y.2.1) ∧ (cells4 l)[j * 4 + 2]? = some (.int .i64 y.2.2.1) ∧ (cells4 l)[j * 4 + 3]? = some (.int .i64 y.2.2.2)
  | [], j, a, h => by simp at h
  | x :: r, 0, a, h => by simp at h; subst h; simp [cells4, cell4]
  | x :: r, j + 1, a, h => by
    have := cells4_at r j a (by simpa using h)
    have e1 : (j + 1) * 4 = j * 4 + 4 := by omega
    simp only [cells4, List.flatMap_cons] at *
    rw [e1]
    refine ⟨?_, ?_, ?_, ?_⟩
    · rw [List.getElem?_append_right (by simp [cell4])]; simpa [cell4] using this.1
    · rw [List.getElem?_append_right (by simp [cell4])]; simpa [cell4, Nat.add_assoc] using this.2.1
    · rw [List.getElem?_append_right (by simp [cell4])]; simpa [cell4, Nat.add_assoc] using this.2.2.1
    · rw [List.getElem?_append_right (by simp [cell4])]; simpa [cell4, Nat.add_assoc] using this.2.2.2
theorem own_syms {w : World} {base : Nat} {v : Value} {ys : List Sym} (h : w.ownsRow base 54 4 v ys.length (cells4 ys)) (hn : 0 < ys.length) : Syms w.heap.size w v ys := by
  rcases h.2 with ⟨h1, h2⟩ | ⟨g, cap, cur, hv, hg, hh, h3, h4, h5, h6⟩
  · omega
  · have hlt : g < w.heap.size := by
      rcases Nat.lt_or_ge g w.heap.size with h | h
      · exact h
      · rw [Array.getElem?_eq_none h] at hh; cases hh
    refine ⟨g, cap, hv, hlt, fun j y hy => ?_⟩
    have hc := cells4_at ys j y hy
    have e : ∀ i u, (cells4 ys)[i]? = some u → w.cell? ⟨g, i, none⟩ = some u := by
      intro i u hu
      rw [← h6, List.getElem?_take] at hu
      split at hu
      · have : cur[i]? = some u := by simpa using hu
        simp [World.cell?, hh, this]
      · cases hu
    exact ⟨e _ _ hc.1, e _ _ hc.2.1, e _ _ hc.2.2.1, e _ _ hc.2.2.2⟩
set_option maxRecDepth 100000 in
set_option maxHeartbeats 2000000 in
theorem cvalue_any (s : ByteArray) (x1 x2 x3 x4 : Int) (w : World) (hgl : Gl w) (hmax : s.size ≤ maxLen) :
    Calls Tryd.prog 5 #[.string s, .agg #[.int .i64 x1, .int .i64 x2, .int .i64 x3, .int .i64 x4]] w fun e w' => e = .returned (.tuple #[.bool (vAns (pars s) x1 x2 x3 x4).1, .int .i64 (vAns (pars s) x1 x2 x3 x4).2]) ∧ Below w.heap.size w w' := by
  have CP : Hid (∀ w, Gl w → Calls Tryd.prog 10 #[.string s] w fun e w' => ParseEnd w (pars s) e w') := fun w h => parse_any s w h hmax
  have CG : Hid (∀ w, Calls Tryd.prog 11 #[.agg #[.int .i64 x1, .int .i64 x2, .int .i64 x3, .int .i64 x4]] w fun e w' => e = .returned (.bool (gds x1 x2 x3 x4)) ∧ Below w.heap.size w w') := fun w => mayBe_any x1 x2 x3 x4 w
  have hg0 : Gl (w.alloc (.cells #[.int .i64 x1, .int .i64 x2, .int .i64 x3, .int .i64 x4] 23)) := hgl.on (below_alloc _ _)
  cases hp : pars s with
  | none =>
    rw [hp] at CP
    have CP' : Hid (∀ w, Gl w → Calls Tryd.prog 10 #[.string s] w fun e w' => ∃ v, e = .returned (.tuple #[v, .bool false]) ∧ Below w.heap.size w w') := fun w h => (CP.out w h).mono fun e w' h => by obtain ⟨v, h1, _, h2⟩ := h; exact ⟨v, h1, h2⟩
    clear CP
    go_enter Tryd.func5, Tryd.ntmps5
    go_wp2_with (go_at_call 10; refine (CP'.out _ hg0).mono ?_; rintro e w1 ⟨v, rfl, hb1⟩)
    go_ret2
    exact ⟨rfl, (below_alloc w _).trans (hb1.mono (by simp))⟩
  | some ys =>
    rw [hp] at CP
    have hne : 0 < ys.length := by
      obtain ⟨r, _, hr1, _⟩ := val_trun x1 x2 x3 x4 hp
      cases ys with
      | nil => cases hr1
      | cons y r => simp
    have CP' : Hid (∀ w, Gl w → Calls Tryd.prog 10 #[.string s] w fun e w' => ∃ v, e = .returned (.tuple #[v, .bool true]) ∧ Syms w'.heap.size w' v ys ∧ Below w.heap.size w w') := fun w h => (CP.out w h).mono fun e w' h => by obtain ⟨v, h1, h3, h2⟩ := h; exact ⟨v, h1, own_syms (h3 ys rfl) hne, h2⟩
    clear CP
    cases hg : gds x1 x2 x3 x4 with
    | false =>
      rw [hg] at CG
      have HR : Hid (vAns (some ys) x1 x2 x3 x4 = (false, 4)) := by show _ = _; simp [vAns, hg]
      go_enter Tryd.func5, Tryd.ntmps5
      go_wp2_with (first
        | (go_at_call 10; refine (CP'.out _ hg0).mono ?_; rintro e w1 ⟨v, rfl, hS1, hb1⟩; have d0 : w1.cell? ⟨w.heap.size, 0, none⟩ = some (.int .i64 x1) := (hb1.cell (p := ⟨w.heap.size, 0, none⟩) (by simp)).trans (by simp); have d1 : w1.cell? ⟨w.heap.size, 1, none⟩ = some (.int .i64 x2) := (hb1.cell (p := ⟨w.heap.size, 1, none⟩) (by simp)).trans (by simp); have d2 : w1.cell? ⟨w.heap.size, 2, none⟩ = some (.int .i64 x3) := (hb1.cell (p := ⟨w.heap.size, 2, none⟩) (by simp)).trans (by simp); have d3 : w1.cell? ⟨w.heap.size, 3, none⟩ = some (.int .i64 x4) := (hb1.cell (p := ⟨w.heap.size, 3, none⟩) (by simp)).trans (by simp))
        | (go_at_call 11; refine (CG.out _).mono ?_; rintro e w2 ⟨rfl, hb2⟩))
      go_ret2
      have hs1 : w.heap.size + 1 ≤ w1.heap.size := by have := hb1.size; simpa using this
      exact ⟨by rw [HR.out]; rfl, ((below_alloc w _).trans (hb1.mono (by simp))).trans (hb2.mono (by omega))⟩
    | true =>
      rw [hg] at CG
      have HR : Hid (vAns (some ys) x1 x2 x3 x4 = (val x1 x2 x3 x4 ys, 0)) := by show _ = _; simp [vAns, hg]
      have CV : Hid (∀ w v, Syms w.heap.size w v ys → Calls Tryd.prog 12 #[v, .agg #[.int .i64 x1, .int .i64 x2, .int .i64 x3, .int .i64 x4]] w fun e w' => e = .returned (.bool (val x1 x2 x3 x4 ys)) ∧ Below w.heap.size w w') := fun w v h => cholds_any hp v x1 x2 x3 x4 w hg h
      generalize val x1 x2 x3 x4 ys = V at *
      go_enter Tryd.func5, Tryd.ntmps5
      go_wp2_with (first
        | (go_at_call 10; refine (CP'.out _ hg0).mono ?_; rintro e w1 ⟨v, rfl, hS1, hb1⟩; have d0 : w1.cell? ⟨w.heap.size, 0, none⟩ = some (.int .i64 x1) := (hb1.cell (p := ⟨w.heap.size, 0, none⟩) (by simp)).trans (by simp); have d1 : w1.cell? ⟨w.heap.size, 1, none⟩ = some (.int .i64 x2) := (hb1.cell (p := ⟨w.heap.size, 1, none⟩) (by simp)).trans (by simp); have d2 : w1.cell? ⟨w.heap.size, 2, none⟩ = some (.int .i64 x3) := (hb1.cell (p := ⟨w.heap.size, 2, none⟩) (by simp)).trans (by simp); have d3 : w1.cell? ⟨w.heap.size, 3, none⟩ = some (.int .i64 x4) := (hb1.cell (p := ⟨w.heap.size, 3, none⟩) (by simp)).trans (by simp); have hs1 : w.heap.size < w1.heap.size := (by have := hb1.size; simp at this; omega))
        | (go_at_call 11; refine (CG.out _).mono ?_; rintro e w2 ⟨rfl, hb2⟩; have e0 := (hb2.cell (p := ⟨w.heap.size, 0, none⟩) hs1).trans d0; have e1 := (hb2.cell (p := ⟨w.heap.size, 1, none⟩) hs1).trans d1; have e2 := (hb2.cell (p := ⟨w.heap.size, 2, none⟩) hs1).trans d2; have e3 := (hb2.cell (p := ⟨w.heap.size, 3, none⟩) hs1).trans d3; have hS2 := syms_on hS1 hb2)
        | (go_at_call 12; refine (CV.out _ _ hS2).mono ?_; rintro e w3 ⟨rfl, hb3⟩))
      go_ret2
      exact ⟨by rw [HR.out]; rfl, (((below_alloc w _).trans (hb1.mono (by simp))).trans (hb2.mono (by omega))).trans (hb3.mono (by have := hb2.size; omega))⟩

set_option maxHeartbeats 400000 in
theorem num_any (k : Int) (w : World) : Calls Tryd.prog 6 #[.int .i64 k] w fun e w' => e = .returned (.int .i64 k) ∧ w = w' := by
  go_enter Tryd.func6, Tryd.ntmps6
  go_wp2
  go_ret
  exact ⟨rfl, rfl⟩
theorem known : vAns (pars ⟨#[97, 45, 98, 60, 61, 48, 46]⟩) 1 2 0 0 = (true, 0) := by decide

set_option maxRecDepth 100000 in
set_option maxHeartbeats 2000000 in
theorem valued_c (s : ByteArray) (x1 x2 x3 x4 : Int) (w : World) (hgl : Gl w) (hmax : s.size ≤ maxLen) :
    Calls Tryd.prog 3 #[.string s, .agg #[.int .i64 x1, .int .i64 x2, .int .i64 x3, .int .i64 x4]] w fun e w' => e = .returned (.bool true) ∧ Below w.heap.size w w' := by
  have C0 : Hid (∀ w, Gl w → Calls Tryd.prog 5 #[.string ⟨#[97, 45, 98, 60, 61, 48, 46]⟩, .agg #[.int .i64 1, .int .i64 2, .int .i64 0, .int .i64 0]] w fun e w' => e = .returned (.tuple #[.bool true, .int .i64 0]) ∧ Below w.heap.size w w') := fun w h => by
    have := cvalue_any ⟨#[97, 45, 98, 60, 61, 48, 46]⟩ 1 2 0 0 w h (by decide)
    rw [known] at this
    exact this
  have C1 : Hid (∀ w, Gl w → Calls Tryd.prog 5 #[.string s, .agg #[.int .i64 x1, .int .i64 x2, .int .i64 x3, .int .i64 x4]] w fun e w' => e = .returned (.tuple #[.bool (vAns (pars s) x1 x2 x3 x4).1, .int .i64 (vAns (pars s) x1 x2 x3 x4).2]) ∧ Below w.heap.size w w') := fun w h => cvalue_any s x1 x2 x3 x4 w h hmax
  have C2 : Hid (∀ w, Calls Tryd.prog 7 #[.string s, .agg #[.int .i64 x1, .int .i64 x2, .int .i64 x3, .int .i64 x4]] w fun e w' => e = .returned (.tuple #[.bool (vAns (pars s) x1 x2 x3 x4).1, .int .i64 (vAns (pars s) x1 x2 x3 x4).2]) ∧ Below w.heap.size w w') := fun w => refValue_any s x1 x2 x3 x4 w hmax
  have CN : Hid (∀ k w, Calls Tryd.prog 6 #[.int .i64 k] w fun e w' => e = .returned (.int .i64 k) ∧ w = w') := num_any
  generalize (vAns (pars s) x1 x2 x3 x4).1 = V1 at *
  generalize (vAns (pars s) x1 x2 x3 x4).2 = V2 at *
  have hg0 : Gl (w.alloc (.cells #[.int .i64 x1, .int .i64 x2, .int .i64 x3, .int .i64 x4] 23)) := hgl.on (below_alloc _ _)
  go_enter Tryd.func3, Tryd.ntmps3
  go_wp2_with (go_at_call 5; refine (C0.out _ hg0).mono ?_; rintro e w1 ⟨rfl, hb1⟩)
  have hg1 := hg0.on hb1
  have hs1 : w.heap.size < w1.heap.size := by have := hb1.size; simp at this; omega
  have d0 : w1.cell? ⟨w.heap.size, 0, none⟩ = some (.int .i64 x1) := (hb1.cell (p := ⟨w.heap.size, 0, none⟩) (by simp)).trans (by simp)
  have d1 : w1.cell? ⟨w.heap.size, 1, none⟩ = some (.int .i64 x2) := (hb1.cell (p := ⟨w.heap.size, 1, none⟩) (by simp)).trans (by simp)
  have d2 : w1.cell? ⟨w.heap.size, 2, none⟩ = some (.int .i64 x3) := (hb1.cell (p := ⟨w.heap.size, 2, none⟩) (by simp)).trans (by simp)
  have d3 : w1.cell? ⟨w.heap.size, 3, none⟩ = some (.int .i64 x4) := (hb1.cell (p := ⟨w.heap.size, 3, none⟩) (by simp)).trans (by simp)
  have hB1 : Below w.heap.size w w1 := (below_alloc w _).trans (hb1.mono (by simp))
  clear C0 hb1
  go_wp2_with (first
    | (go_at_call 6; refine (CN.out _ _).mono ?_; rintro e w' ⟨rfl, rfl⟩)
    | (go_at_call 5; refine (C1.out _ hg1).mono ?_; rintro e w2 ⟨rfl, hb2⟩; have e0 := (hb2.cell (p := ⟨w.heap.size, 0, none⟩) hs1).trans d0; have e1 := (hb2.cell (p := ⟨w.heap.size, 1, none⟩) hs1).trans d1; have e2 := (hb2.cell (p := ⟨w.heap.size, 2, none⟩) hs1).trans d2; have e3 := (hb2.cell (p := ⟨w.heap.size, 3, none⟩) hs1).trans d3)
    | (go_at_call 7; refine (C2.out _).mono ?_; rintro e w3 ⟨rfl, hb3⟩))
  go_ret
  refine ⟨by simp, (hB1.trans (hb2.mono (by omega))).trans (hb3.mono (by have := hb2.size; omega))⟩
end Go.Proofs.YtkinoehmcfhgbaaDoor.Vl
set_option linter.unusedVariables false
set_option linter.unusedSimpArgs false
namespace Go.Proofs.YtkinoehmcfhgbaaDoor.Vl
open Go.RowKit

/-- Is a text a proof of a condition? -/
def cfm (ys : List Sym) (P : List UInt8) : Bool := decide (P.length ≤ 200000) && decide (chk (uqs ys) ys (P.length + 1) (fun _ => 0) P = some [])

set_option maxRecDepth 100000 in
set_option maxHeartbeats 1000000 in
theorem new_any (w : World) :
    Calls Tryd.prog 16 #[] w fun e w' => e = .returned (.pointer (some ⟨w.heap.size + 1, 0, none⟩)) ∧ KnAt w' (w.heap.size + 1) (.slice none 0 0) (.slice none 0 0) [] w.heap.size ∧ AM w' w.heap.size 0 (fun _ => 0) ∧ Below w.heap.size w w' := by
  have h1 := AM.made w
  have hb : Below (w.alloc (.map #[] 0)).heap.size (w.alloc (.map #[] 0)) ((w.alloc (.map #[] 0)).alloc (.cells #[.slice none 0 0, .slice none 0 0, .string ⟨#[]⟩, .map (some w.heap.size)] 73)) := below_alloc _ _
  have h2 : AM ((w.alloc (.map #[] 0)).alloc (.cells #[.slice none 0 0, .slice none 0 0, .string ⟨#[]⟩, .map (some w.heap.size)] 73)) w.heap.size 0 (fun _ => 0) := h1.below hb
  have h3 : KnAt ((w.alloc (.map #[] 0)).alloc (.cells #[.slice none 0 0, .slice none 0 0, .string ⟨#[]⟩, .map (some w.heap.size)] 73)) (w.heap.size + 1) (.slice none 0 0) (.slice none 0 0) [] w.heap.size := by
    unfold KnAt
    have := heap_alloc_new (w.alloc (.map #[] 0)) (.cells #[.slice none 0 0, .slice none 0 0, .string ⟨#[]⟩, .map (some w.heap.size)] 73)
    rw [World.size_alloc] at this
    exact this
  have H2 : Hid _ := h2
  have H3 : Hid _ := h3
  have H4 : Hid (Below w.heap.size w ((w.alloc (.map #[] 0)).alloc (.cells #[.slice none 0 0, .slice none 0 0, .string ⟨#[]⟩, .map (some w.heap.size)] 73))) := (below_alloc w _).trans (hb.mono (by simp))
  clear h1 h2 h3 hb
  have hmm := @run_makeMap Tryd.prog
  go_enter Tryd.func16, Tryd.ntmps16
  go_wp2_with fail
  go_ret
  exact ⟨by simp, H3.out, H2.out, H4.out⟩

theorem KnAt.fill {w : World} {b mb : Nat} {vW vA : Value} {l : List UInt8} (h : KnAt w b vW vA l mb) (vW' vA' : Value) (l' : List UInt8) : KnAt (((w.setCell ⟨b, 0, none⟩ vW').setCell ⟨b, 1, none⟩ vA').setCell ⟨b, 2, none⟩ (.string ⟨l'.toArray⟩)) b vW' vA' l' mb :=
  heap_setCell_same _ b 2 _ _ _ (heap_setCell_same _ b 1 _ _ _ (heap_setCell_same w b 0 _ _ _ h))
theorem grown3 (w : World) (b : Nat) (u v x : Value) : w.grownBy (((w.setCell ⟨b, 0, none⟩ u).setCell ⟨b, 1, none⟩ v).setCell ⟨b, 2, none⟩ x) (some b) := ((grown_cell' w b 0 u).trans (grown_cell' _ b 1 v)).trans (grown_cell' _ b 2 x)

set_option maxRecDepth 100000 in
set_option maxHeartbeats 4000000 in
theorem confirms_any {s : ByteArray} {ys : List Sym} (hp : pars s = some ys) (w0 w : World) (b mb : Nat) (vW0 vA0 vW : Value) (l0 P : List UInt8) (n : Nat) (f : Atm → Int) (hgl : Gl w0) (h0 : Below w0.heap.size w0 w) (hb : w0.heap.size ≤ b) (hm : w0.heap.size ≤ mb) (hbm : b ≠ mb)
    (hk : KnAt w b vW0 vA0 l0 mb) (ha : AM w mb n f) (hs : Syms w0.heap.size w0 vW ys) (hP : P.length ≤ maxLen) :
    Calls Tryd.prog 17 #[.pointer (some ⟨b, 0, none⟩), vW, .string ⟨P.toArray⟩] w fun e w' => e = .returned (.bool (cfm ys P)) ∧ FrK b mb w w' ∧ ∃ vW' vA' l' n' f', KnAt w' b vW' vA' l' mb ∧ AM w' mb n' f' := by
  obtain ⟨hs4, hprs, hul, hok⟩ := pars_facts hp
  have hyl : ys.length ≤ 4000 := by
    obtain ⟨ps, hps⟩ := pos_of s ys 0 1 (Nat.zero_le _) hprs
    have := pos_len ys 0 1 ps hps
    omega
  have hbw := hk.lt
  have hmw := ha.lt
  have HK : Hid (KnAt w b vW0 vA0 l0 mb) := hk
  have HA : Hid (AM w mb n f) := ha
  have eS : (⟨P.toArray⟩ : ByteArray).size = P.length := by simp [ByteArray.size]
  by_cases hlong : 200000 < P.length
  · have HR : Hid (cfm ys P = false) := by show _ = _; unfold cfm; rw [decide_eq_false (by omega)]; rfl
    have hl' : (200000 : Int) < ((⟨P.toArray⟩ : ByteArray).size : Int) := by rw [eS]; omega
    obtain ⟨bg, bc, rfl, _, _⟩ := hs
    go_enter Tryd.func17, Tryd.ntmps17
    go_wp2_with fail
    go_ret
    exact ⟨by rw [HR.out]; rfl, FrK.refl _ _ _, _, _, _, _, _, HK.out, HA.out⟩
  · have hl' : ¬ (200000 : Int) < ((⟨P.toArray⟩ : ByteArray).size : Int) := by rw [eS]; omega
    have hsw : Syms w.heap.size w vW ys := (hs.below h0).more h0.size
    have CA : Hid (Calls Tryd.prog 29 #[vW] w fun e w' => ∃ u, e = .returned u ∧ w'.ownsRow w.heap.size 52 3 u (uqs ys).length (cells3 (uqs ys)) ∧ Below w.heap.size w w') := catoms_any vW ys w hsw hyl
    have HSY : Hid (∃ g c, vW = .slice (some ⟨g, 0, none⟩) ys.length c ∧ g ≠ b ∧ g ≠ mb) := by
      obtain ⟨g, c, e1, e2, _⟩ := hs
      exact ⟨g, c, e1, by omega, by omega⟩
    have HS : Hid _ := hs
    obtain ⟨c0, c1, c2, c3⟩ := hk.cells
    have HR : Hid (cfm ys P = decide (chk (uqs ys) ys (P.length + 1) (fun _ => 0) P = some [])) := by show _ = _; unfold cfm; rw [decide_eq_true (by omega)]; rfl
    have HKP : Hid (∀ (W : World) (q : Option Addr) (cap : Nat), KS w0 W b mb vW ys q cap (uqs ys) P 0 (fun _ => 0) → Calls Tryd.prog 30 #[.pointer (some ⟨b, 0, none⟩)] W (PE w0 W b mb vW ys q cap (uqs ys) (0 + P.length) (fun _ => 0) (chk (uqs ys) ys (P.length + 1) (fun _ => 0) P))) := fun W q cap h => kproof_any hp hgl hul hok (P.length + 1) W P 0 (fun _ => 0) (fun _ => Or.inl rfl) (by omega) (by omega) h
    generalize hS0 : (⟨P.toArray⟩ : ByteArray) = S0 at *
    have HS0 : Hid ((⟨P.toArray⟩ : ByteArray) = S0) := hS0
    clear hS0
    generalize hCK : chk (uqs ys) ys (P.length + 1) (fun _ => 0) P = CK at *
    generalize uqs ys = us at *
    obtain ⟨bg, bc, rfl, hbg, _⟩ := hs
    clear hk ha hsw hCK hok
    go_enter Tryd.func17, Tryd.ntmps17
    go_wp2_with fail
    refine Calls.mono CA.out ?_
    rintro e w1 ⟨u, rfl, hown, hb1⟩
    have hat : Atms w1 u us := own_latms hown
    obtain ⟨qa, qc, rfl⟩ := atms_shape hat
    have hk1 : KnAt w1 b vW0 vA0 l0 mb := KnAt.below HK.out hb1
    have f0 := hk1.free 0
    have f1 := hk1.free 1
    have f2 := hk1.free 2
    obtain ⟨d0, d1, d2, d3⟩ := hk1.cells
    have hk2 := hk1.fill (.slice (some ⟨bg, 0, none⟩) ys.length bc) (.slice qa us.length qc) P
    have hg2 := grown3 w1 b (.slice (some ⟨bg, 0, none⟩) ys.length bc) (.slice qa us.length qc) (.string ⟨P.toArray⟩)
    rw [HS0.out] at hk2 hg2
    have ha2 : AM _ mb n f := (AM.below HA.out hb1).kept hg2 (fun e => hbm (by injection e with e; exact e.symm))
    obtain ⟨w3, hclr, ha3, hg3⟩ := AM.clear ha2 0
    have hF2 : FrK b mb w w3 := (FrK.of_below hb1).trans ((FrK.of_b hg2).trans (FrK.of_m hg3))
    have hk3 : KnAt w3 b (.slice (some ⟨bg, 0, none⟩) ys.length bc) (.slice qa us.length qc) P mb := KnAt.kept hk2 hg3 (fun e => hbm (by injection e))
    have hb03 : Below w0.heap.size w0 w3 := hF2.below h0 hb hm
    have hgq : ∀ g, qa = some ⟨g, 0, none⟩ → g ≠ b ∧ g ≠ mb := fun g e => by
      have := own_block hown g (by rw [e]; rfl)
      exact ⟨by omega, by omega⟩
    have hat3 : Atms w3 (.slice qa us.length qc) us := by
      rcases hat with h1 | ⟨g, c, h1, h2, h3, h4, h5⟩
      · exact Or.inl h1
      · obtain ⟨n1, n2⟩ := hgq g (by injection h1)
        have hF3 : FrK b mb w1 w3 := (FrK.of_b hg2).trans (FrK.of_m hg3)
        have e := hF3.block g h4 n1 n2
        have ec : ∀ o, w3.cell? ⟨g, o, none⟩ = w1.cell? ⟨g, o, none⟩ := fun o => World.cell?_of_block (a := ⟨g, o, none⟩) e
        exact Or.inr ⟨g, c, h1, h2, h3, Nat.lt_of_lt_of_le h4 hF3.size, fun j a ha => ⟨(ec _).trans (h5 j a ha).1, (ec _).trans (h5 j a ha).2.1, (ec _).trans (h5 j a ha).2.2⟩⟩
    have hKS : KS w0 w3 b mb (.slice (some ⟨bg, 0, none⟩) ys.length bc) ys qa qc us P 0 (fun _ => 0) := ⟨⟨hb03, hb, hm, hbm, hat3, hgq, HSY.out, (Syms.below HS.out hb03).more hb03.size⟩, hk3, ha3⟩
    have HC3 : Hid (KS w0 w3 b mb (.slice (some ⟨bg, 0, none⟩) ys.length bc) ys qa qc us P 0 (fun _ => 0)) := hKS
    have HF2 : Hid (FrK b mb w w3) := hF2
    have e3 := hk2.cells.2.2.2
    clear hk2 hk3 ha2 ha3 hg2 hg3 hKS hF2 hat3 hgq hb03 hat hown hk1
    go_wp2_with fail
    refine Calls.mono (HKP.out _ _ _ HC3.out) ?_
    rintro e w4 ⟨hF4, l', n', f', hK4, hcs⟩
    have HK4 : Hid (KS w0 w4 b mb (.slice (some ⟨bg, 0, none⟩) ys.length bc) ys qa qc us l' n' f') := hK4
    have HF4 : Hid (FrK b mb w w4) := HF2.out.trans hF4
    obtain ⟨x0, x1, x2, x3⟩ := hK4.kn.cells
    clear hF4 hK4
    rcases hcs with ⟨r, hres, rfl, rfl, hn, rfl⟩ | ⟨hres, rfl⟩
    · cases hr : l' with
      | nil =>
        subst hr
        have HRR : Hid (cfm ys P = true) := by show _ = _; rw [HR.out, hres]; rfl
        have x2' : w4.cell? ⟨b, 2, none⟩ = some (.string ⟨#[]⟩) := x2
        clear x2
        go_wp2_with fail
        go_ret
        exact ⟨by rw [HRR.out]; rfl, HF4.out, _, _, _, _, _, HK4.out.kn, HK4.out.am⟩
      | cons c r =>
        have HRR : Hid (cfm ys P = false) := by show _ = _; rw [HR.out, hres, hr]; rfl
        have hne : (⟨l'.toArray⟩ : ByteArray).toList.isEmpty = false := by
          rw [ByteArray.toList_eq]
          simp [hr]
        generalize (⟨l'.toArray⟩ : ByteArray) = S1 at *
        go_wp2_with fail
        go_ret
        exact ⟨by rw [HRR.out, ← hne]; rfl, HF4.out, _, _, _, _, _, HK4.out.kn, HK4.out.am⟩
    · have HRR : Hid (cfm ys P = false) := by show _ = _; rw [HR.out, hres]; rfl
      go_wp2_with fail
      go_ret
      exact ⟨by rw [HRR.out]; rfl, HF4.out, _, _, _, _, _, HK4.out.kn, HK4.out.am⟩
/-- What the document answers to Confirm. -/
def fAns (p : Option (List Sym)) (P : List UInt8) : Bool × Int := match p with
  | none => (false, 7)
  | some ys => (cfm ys P, 0)

set_option maxRecDepth 100000 in
set_option maxHeartbeats 2000000 in
theorem cconfirm_any (s : ByteArray) (P : List UInt8) (w : World) (hgl : Gl w) (hmax : s.size ≤ maxLen) (hP : P.length ≤ maxLen) :
    Calls Tryd.prog 8 #[.string s, .string ⟨P.toArray⟩] w fun e w' => e = .returned (.tuple #[.bool (fAns (pars s) P).1, .int .i64 (fAns (pars s) P).2]) ∧ Below w.heap.size w w' := by
  have CP : Hid (∀ w, Gl w → Calls Tryd.prog 10 #[.string s] w fun e w' => ParseEnd w (pars s) e w') := fun w h => parse_any s w h hmax
  have HGL : Hid (Gl w) := hgl
  cases hp : pars s with
  | none =>
    rw [hp] at CP
    have CP' : Hid (∀ w, Gl w → Calls Tryd.prog 10 #[.string s] w fun e w' => ∃ v, e = .returned (.tuple #[v, .bool false]) ∧ Below w.heap.size w w') := fun w h => (CP.out w h).mono fun e w' h => by obtain ⟨v, h1, _, h2⟩ := h; exact ⟨v, h1, h2⟩
    clear CP
    go_enter Tryd.func8, Tryd.ntmps8
    go_wp2_with (go_at_call 10; refine (CP'.out _ hgl).mono ?_; rintro e w1 ⟨v, rfl, hb1⟩)
    go_ret2
    exact ⟨rfl, hb1⟩
  | some ys =>
    rw [hp] at CP
    have hne : 0 < ys.length := by
      obtain ⟨r, _, hr1, _⟩ := val_trun 0 0 0 0 hp
      cases ys with
      | nil => cases hr1
      | cons y r => simp
    have CP' : Hid (∀ w, Gl w → Calls Tryd.prog 10 #[.string s] w fun e w' => ∃ v, e = .returned (.tuple #[v, .bool true]) ∧ Syms w'.heap.size w' v ys ∧ Below w.heap.size w w') := fun w h => (CP.out w h).mono fun e w' h => by obtain ⟨v, h1, h3, h2⟩ := h; exact ⟨v, h1, own_syms (h3 ys rfl) hne, h2⟩
    clear CP
    have CN : Hid (∀ w, Calls Tryd.prog 16 #[] w fun e w' => e = .returned (.pointer (some ⟨w.heap.size + 1, 0, none⟩)) ∧ KnAt w' (w.heap.size + 1) (.slice none 0 0) (.slice none 0 0) [] w.heap.size ∧ AM w' w.heap.size 0 (fun _ => 0) ∧ Below w.heap.size w w') := new_any
    have CC : Hid (∀ (w0 w : World) (v : Value), Gl w0 → Below w0.heap.size w0 w → KnAt w (w0.heap.size + 1) (.slice none 0 0) (.slice none 0 0) [] w0.heap.size → AM w w0.heap.size 0 (fun _ => 0) → Syms w0.heap.size w0 v ys → Calls Tryd.prog 17 #[.pointer (some ⟨w0.heap.size + 1, 0, none⟩), v, .string ⟨P.toArray⟩] w fun e w' => e = .returned (.bool (cfm ys P)) ∧ Below w0.heap.size w0 w') := fun w0 w v hg h0 hk ha hs => (confirms_any hp w0 w (w0.heap.size + 1) w0.heap.size _ _ v [] P 0 _ hg h0 (by omega) (Nat.le_refl _) (by omega) hk ha hs hP).mono fun e w' ⟨h1, h2, _⟩ => ⟨h1, h2.below h0 (by omega) (Nat.le_refl _)⟩
    generalize (⟨P.toArray⟩ : ByteArray) = S0 at *
    have HR : Hid (fAns (some ys) P = (cfm ys P, 0)) := rfl
    generalize fAns (some ys) P = FA at *
    generalize cfm ys P = V at *
    go_enter Tryd.func8, Tryd.ntmps8
    go_wp2_with (first
      | (go_at_call 10; refine (CP'.out _ hgl).mono ?_; rintro e w1 ⟨v, rfl, hS1, hb1⟩)
      | (go_at_call 16; refine (CN.out _).mono ?_; rintro e w2 ⟨rfl, hk2, ha2, hb2⟩)
      | (go_at_call 17; refine (CC.out w1 w2 _ (HGL.out.on hb1) hb2 hk2 ha2 hS1).mono ?_; rintro e w3 ⟨rfl, hb3⟩))
    go_ret2
    exact ⟨by rw [HR.out]; rfl, hb1.trans (hb3.mono hb1.size)⟩
end Go.Proofs.YtkinoehmcfhgbaaDoor.Vl
