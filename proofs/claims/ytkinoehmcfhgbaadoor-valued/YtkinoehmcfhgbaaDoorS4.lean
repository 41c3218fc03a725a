/-
  The walk of the program's Condition.Holds.
-/
import Derived.Test.YtkinoehmcfhgbaaDoorS3
import Derived.Test.YtkinoehmcfhgbaaDoorV16
set_option linter.unusedVariables false
set_option linter.unusedSimpArgs false
namespace Go.Proofs.YtkinoehmcfhgbaaDoor.Vl
open Go.RowKit

/-- A state's cells. -/
def StAt (W : World) (B : Nat) (x1 x2 x3 x4 : Int) : Prop := B < W.heap.size ∧ W.cell? ⟨B, 0, none⟩ = some (.int .i64 x1) ∧ W.cell? ⟨B, 1, none⟩ = some (.int .i64 x2) ∧ W.cell? ⟨B, 2, none⟩ = some (.int .i64 x3) ∧ W.cell? ⟨B, 3, none⟩ = some (.int .i64 x4)
theorem StAt.on {W W' : World} {B : Nat} {x1 x2 x3 x4 : Int} (h : StAt W B x1 x2 x3 x4) (hb : Below W.heap.size W W') : StAt W' B x1 x2 x3 x4 := by
  obtain ⟨h0, a, b, c, d⟩ := h
  exact ⟨Nat.lt_of_lt_of_le h0 hb.size, (hb.cell (p := ⟨B, 0, none⟩) h0).trans a, (hb.cell (p := ⟨B, 1, none⟩) h0).trans b, (hb.cell (p := ⟨B, 2, none⟩) h0).trans c, (hb.cell (p := ⟨B, 3, none⟩) h0).trans d⟩

set_option maxRecDepth 100000 in
set_option maxHeartbeats 2000000 in
theorem hcl_any (a1 a2 a3 x1 x2 x3 x4 : Int) (B : Nat) (w : World) (hs : StAt w B x1 x2 x3 x4) (ho : okA (a1, a2, a3)) (hg : gds x1 x2 x3 x4 = true) :
    Calls Tryd.prog 22 #[.agg #[.int .i64 a1, .int .i64 a2, .int .i64 a3], .pointer (some ⟨B, 0, none⟩)] w fun e w' => e = .returned (.int .i8 (tof (hld x1 x2 x3 x4 (a1, a2, a3)))) ∧ Below w.heap.size w w' := by
  have hok := ho
  unfold okA at hok
  dsimp only at hok
  have CA : Hid (∀ w, Calls Tryd.prog 24 #[.agg #[.int .i64 a1, .int .i64 a2, .int .i64 a3], .agg #[.int .i64 x1, .int .i64 x2, .int .i64 x3, .int .i64 x4]] w fun e w' => e = .returned (.bool (hld x1 x2 x3 x4 (a1, a2, a3))) ∧ Below w.heap.size w w') := fun w => aholds_any a1 a2 a3 x1 x2 x3 x4 w ⟨by omega, by omega⟩ ⟨by omega, by omega⟩ hg
  have CT : Hid (∀ b w, Calls Tryd.prog 23 #[.bool b] w fun e w' => e = .returned (.int .i8 (tof b)) ∧ w = w') := truthOf_any
  obtain ⟨s0, s1, s2, s3, s4⟩ := hs.on (below_alloc w (.cells #[.int .i64 a1, .int .i64 a2, .int .i64 a3] 52))
  clear hs hok ho hg
  generalize hld x1 x2 x3 x4 (a1, a2, a3) = HL at *
  go_enter Tryd.func22, Tryd.ntmps22
  go_wp2_with (first
    | (go_at_call 24; refine (CA.out _).mono ?_; rintro e w3 ⟨rfl, hb3⟩)
    | (go_at_call 23; refine (CT.out _ _).mono ?_; rintro e w' ⟨rfl, rfl⟩))
  go_ret
  exact ⟨rfl, (below_alloc w _).trans (hb3.mono (by simp))⟩

set_option maxRecDepth 100000 in
set_option maxHeartbeats 2000000 in
theorem cholds_any {s : ByteArray} {ys : List Sym} (hp : pars s = some ys) (v : Value) (x1 x2 x3 x4 : Int) (w : World) (hg : gds x1 x2 x3 x4 = true) (hI : Syms w.heap.size w v ys) :
    Calls Tryd.prog 12 #[v, .agg #[.int .i64 x1, .int .i64 x2, .int .i64 x3, .int .i64 x4]] w fun e w' => e = .returned (.bool (val x1 x2 x3 x4 ys)) ∧ Below w.heap.size w w' := by
  obtain ⟨hs, hprs, _, _⟩ := pars_facts hp
  obtain ⟨ps, hps⟩ := pos_of s ys 0 1 (Nat.zero_le _) hprs
  have hl := pos_len ys 0 1 ps hps
  obtain ⟨t, ht3, hr1, hr2⟩ := val_trun x1 x2 x3 x4 hp
  obtain ⟨b, cap, rfl, hbs, hcs⟩ := id hI
  have CS : Hid (∀ W B, Below w.heap.size w W → StAt W B x1 x2 x3 x4 → Calls Tryd.prog 25 #[.slice (some ⟨b, 0, none⟩) ys.length cap, .func (.func 22) #[] #[.pointer (some ⟨B, 0, none⟩)]] W fun e w' => e = .returned (.int .i8 t) ∧ Below W.heap.size W w') := fun W B hW hst =>
    csettleH (fun a => tof (hld x1 x2 x3 x4 a)) (.pointer (some ⟨B, 0, none⟩)) (fun W => StAt W B x1 x2 x3 x4) (fun _ _ h hb => h.on hb) (fun a => t3_of _) b cap ys W (by omega) ((hI.below hW).more hW.size) (tpos_at _ ys 0 1 ps hps (by omega)) t hr1 hst (fun W a1 a2 a3 h ho => hcl_any a1 a2 a3 x1 x2 x3 x4 B W h ho hg)
  have hst : StAt (w.alloc (.cells #[.int .i64 x1, .int .i64 x2, .int .i64 x3, .int .i64 x4] 23)) w.heap.size x1 x2 x3 x4 := ⟨by simp, by simp, by simp, by simp, by simp⟩
  have HV : Hid (val x1 x2 x3 x4 ys = (t == 1)) := hr2
  have HST : Hid _ := hst
  clear hst hr1 hr2 hI hcs hps hprs hp hl
  go_enter Tryd.func12, Tryd.ntmps12
  go_wp2_with (go_at_call 25; refine (CS.out _ _ (below_alloc w _) HST.out).mono ?_; rintro e w3 ⟨rfl, hb3⟩)
  go_ret
  refine ⟨?_, (below_alloc w _).trans (hb3.mono (by simp))⟩
  rw [HV.out]; rfl
end Go.Proofs.YtkinoehmcfhgbaaDoor.Vl
