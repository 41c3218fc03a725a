/-
  The walk of the library's slices.Backward, at a condition.
-/
import Derived.Test.YtmpbgbdhpahpjaaDoorV20
set_option linter.unusedVariables false
set_option linter.unusedSimpArgs false
namespace Go.Proofs.YtmpbgbdhpahpjaaDoor.Vl
open Go.RowKit Go.Shelf
attribute [local go_sem] Oper.semAt_some

/-- A condition as it lies in memory. -/
def Syms (n0 : Nat) (w : World) (v : Value) (ys : List Sym) : Prop :=
  ∃ b cap, v = .slice (some ⟨b, 0, none⟩) ys.length cap ∧ b < n0 ∧ ∀ j y, ys[j]? = some y → w.cell? ⟨b, j * 4, none⟩ = some (.int .i64 y.1) ∧ w.cell? ⟨b, j * 4 + 1, none⟩ = some (.int .i64 y.2.1) ∧ w.cell? ⟨b, j * 4 + 2, none⟩ = some (.int .i64 y.2.2.1) ∧ w.cell? ⟨b, j * 4 + 3, none⟩ = some (.int .i64 y.2.2.2)
theorem Syms.below {n0 : Nat} {w w' : World} {v : Value} {ys : List Sym} (h : Syms n0 w v ys) (hb : Below n0 w w') : Syms n0 w' v ys := by
  obtain ⟨b, cap, h1, h2, h3⟩ := h
  exact ⟨b, cap, h1, h2, fun j y hy => ⟨(hb.cell (p := ⟨b, j * 4, none⟩) h2).trans (h3 j y hy).1, (hb.cell (p := ⟨b, j * 4 + 1, none⟩) h2).trans (h3 j y hy).2.1, (hb.cell (p := ⟨b, j * 4 + 2, none⟩) h2).trans (h3 j y hy).2.2.1, (hb.cell (p := ⟨b, j * 4 + 3, none⟩) h2).trans (h3 j y hy).2.2.2⟩⟩

/-- What a round is handed: the index, the symbol. -/
def enc2 (x : Nat × Sym) : Array Value := #[.int .i64 (x.1 : Int), symV x.2]
/-- What has come when the rounds at k and above are over, from the last. -/
def cameK (ys : List Sym) (k : Nat) : List (Nat × Sym) := ((List.range (ys.length - k)).map fun i => (ys.length - 1 - i, ys[ys.length - 1 - i]?.getD (0, 0, 0, 0)))
theorem cameK_len (ys : List Sym) : cameK ys ys.length = [] := by simp [cameK]
theorem cameK_step (ys : List Sym) (k : Nat) (hk : k < ys.length) (y : Sym) (hy : ys[k]? = some y) : cameK ys k = cameK ys (k + 1) ++ [(k, y)] := by
  unfold cameK
  rw [show ys.length - k = (ys.length - (k + 1)) + 1 by omega, List.range_succ, List.map_append]
  congr 1
  simp only [List.map_cons, List.map_nil]
  have e : ys.length - 1 - (ys.length - (k + 1)) = k := by omega
  rw [e, hy]; rfl
theorem cameK_length (ys : List Sym) (k : Nat) : (cameK ys k).length = ys.length - k := by simp [cameK]

/-- Which round is the next one. -/
def Nx (ys : List Sym) (pre : List (Nat × Sym)) (x : Nat × Sym) : Prop := pre = cameK ys (x.1 + 1) ∧ x.1 < ys.length ∧ ys[x.1]? = some x.2
/-- What a round keeps: all below n0, and what block Bs holds. -/
def KpB (n0 Bs : Nat) (W W' : World) : Prop := Below n0 W W' ∧ W'.cell? ⟨Bs, 0, none⟩ = W.cell? ⟨Bs, 0, none⟩
theorem KpB.refl (n0 Bs : Nat) (W : World) : KpB n0 Bs W W := ⟨Below.refl _ _, rfl⟩
theorem KpB.trans {n0 Bs : Nat} {A B C : World} (h : KpB n0 Bs A B) (k : KpB n0 Bs B C) : KpB n0 Bs A C := ⟨h.1.trans k.1, k.2.trans h.2⟩

set_option maxRecDepth 100000 in
set_option maxHeartbeats 2000000 in
theorem back1_in (n : Nat) (hn : 1 ≤ n) (l Bs n0 b cap : Nat) (ys : List Sym) (hlen : ys.length ≤ 4000) (hb : b < n0) (J : List (Nat × Sym) → World → Prop)
    (hY : ∀ pre x W, J pre W → Nx ys pre x → YieldAt Fence.wide (n - 1) Tryd.prog l (enc2 x) W fun e W' => e = .returned (.bool true) ∧ J (pre ++ [x]) W' ∧ KpB n0 Bs W W')
    (W : World) (hB0 : W.cell? ⟨Bs, 0, none⟩ = some (.slice (some ⟨b, 0, none⟩) ys.length cap))
    (hc : ∀ j y, ys[j]? = some y → W.cell? ⟨b, j * 4, none⟩ = some (.int .i64 y.1) ∧ W.cell? ⟨b, j * 4 + 1, none⟩ = some (.int .i64 y.2.1) ∧ W.cell? ⟨b, j * 4 + 2, none⟩ = some (.int .i64 y.2.2.1) ∧ W.cell? ⟨b, j * 4 + 3, none⟩ = some (.int .i64 y.2.2.2)) (h0 : J [] W) :
    CallsIn Fence.wide n Tryd.prog 24 #[.func (.yield l) #[] #[], .pointer (some ⟨Bs, 0, none⟩)] W fun e W' => (∃ v, e = .returned v) ∧ ∃ xs, xs = cameK ys 0 ∧ J xs W' := by
  have HC : Hid _ := hc
  have HBS : Hid _ := hB0
  clear hc
  refine callsIn_of_wp Tryd.func24 rfl trivial ?_ rfl
  simp only [Tryd.ntmps24, List.size_toArray, List.length_cons, List.length_nil, Nat.reduceAdd, Nat.reduceSub, Array.replicate_succ, Array.replicate_zero, List.push_toArray, List.append_toArray, List.nil_append, List.cons_append]
  gi_wp2
  gi_loopw [3] (fun i wr => ∃ k : Nat, k ≤ ys.length ∧ i = .int .i64 ((k : Int) - 1) ∧ J (cameK ys k) wr ∧ KpB n0 Bs W wr)
    (fun i _ => ((intOf i) + 1).toNat)
  case atStart => exact ⟨ys.length, Nat.le_refl _, rfl, by rw [cameK_len]; exact h0, KpB.refl _ _ _⟩
  case round =>
    obtain ⟨k, hk, rfl, hJs, hnx⟩ := hrel
    rcases Nat.eq_zero_or_pos k with rfl | hpos
    · gi_wp2
      go_end0
      exact ⟨⟨_, rfl⟩, _, rfl, hJs⟩
    · obtain ⟨k, rfl⟩ : ∃ k', k = k' + 1 := ⟨k - 1, by omega⟩
      obtain ⟨y, hy⟩ : ∃ y, ys[k]? = some y := ⟨_, List.getElem?_eq_getElem (by omega)⟩
      obtain ⟨y0, y1, y2, y3⟩ := y
      obtain ⟨fn, tmps, assign, body, hyy, hR⟩ := hY _ (k, (y0, y1, y2, y3)) wr hJs ⟨rfl, by dsimp only; omega, hy⟩
      unfold enc2 symV at hyy
      dsimp only at hyy
      obtain ⟨z0, z1, z2, z3⟩ := HC.out k _ hy
      have q0 := (hnx.1.cell (p := ⟨b, k * 4, none⟩) hb).trans z0
      have q1 := (hnx.1.cell (p := ⟨b, k * 4 + 1, none⟩) hb).trans z1
      have q2 := (hnx.1.cell (p := ⟨b, k * 4 + 2, none⟩) hb).trans z2
      have q3 := (hnx.1.cell (p := ⟨b, k * 4 + 3, none⟩) hb).trans z3
      have hB1 := hnx.2.trans HBS.out
      have hkI : ((k + 1 : Nat) : Int) - 1 = (k : Int) := by omega
      have hkl : (k : Int) < (ys.length : Int) := by omega
      have HS : Hid (cameK ys k = cameK ys (k + 1) ++ [(k, (y0, y1, y2, y3))]) := cameK_step ys k (by omega) _ hy
      clear z0 z1 z2 z3 hy hB0
      gi_wp2
      refine hR.mono ?_
      rintro e W3 ⟨rfl, hJ3, hk3⟩
      gi_wp2
      go_roundw
      case rel => exact ⟨k, by omega, by go_num, by rw [HS.out]; exact hJ3, hnx.trans hk3⟩
      case measure => simp [intOf]

set_option maxHeartbeats 1000000 in
theorem back_in (n : Nat) (a : Option Addr) (len cap : Nat) (w : World) :
    CallsIn Fence.wide n Tryd.prog 16 #[.slice a len cap] w fun e w' => e = .returned (.func (.func 24) #[] #[.pointer (some ⟨w.heap.size, 0, none⟩)]) ∧ w' = w.alloc (.cells #[.slice a len cap] 32) := by
  refine callsIn_of_wp Tryd.func16 rfl trivial ?_ rfl
  simp only [Tryd.ntmps16, List.size_toArray, List.length_cons, List.length_nil, Nat.reduceAdd, Nat.reduceSub, Array.replicate_succ, Array.replicate_zero, List.push_toArray, List.append_toArray, List.nil_append, List.cons_append]
  gi_wp2
  go_ret
  exact ⟨rfl, rfl⟩
theorem back_runs (n : Nat) (hn : 1 ≤ n) (Bs n0 : Nat) (v : Value) (ys : List Sym) (hlen : ys.length ≤ 4000) (w : World) (hBs : Bs < w.heap.size) (hn0 : n0 ≤ w.heap.size) (hc : w.cell? ⟨Bs, 0, none⟩ = some v) (hI : Syms n0 w v ys) :
    Runs n Tryd.prog 24 #[.pointer (some ⟨Bs, 0, none⟩)] enc2 (KpB n0 Bs) (Nx ys) (fun xs => xs = cameK ys 0) w := fun l J W hW hY h0 => by
  have hc' := (hW.cell (p := ⟨Bs, 0, none⟩) hBs).trans hc
  obtain ⟨b, cap, rfl, hb, hcs⟩ := hI.below (hW.mono hn0)
  exact back1_in n hn l Bs n0 b cap ys hlen hb J hY W hc' hcs h0
end Go.Proofs.YtmpbgbdhpahpjaaDoor.Vl
