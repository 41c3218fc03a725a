/-
  The walk of the program's atom: an atom by its number within a proof.
  The walk of the program's Symbol.settle, where what is known comes by a closure.
-/
import Derived.Test.YtkinoehmcfhgbaaGreatDoorV12
import Derived.Shelf.Strings.SlTrimAscii
import Derived.Deep.QuietTactic
import Derived.BigQuiet
import Derived.Test.YtkinoehmcfhgbaaGreatDoorN5
set_option linter.unusedVariables false
set_option linter.unusedSimpArgs false
namespace Go.Proofs.YtkinoehmcfhgbaaGreatDoor.Vl
open Go.RowKit Go.Shelf

theorem trimLeft_any (l : List UInt8) (w : World) : Calls Tryz.prog 234 #[.string ⟨l.toArray⟩, .string ⟨digs.toArray⟩] w fun e w' => e = .returned (.string ⟨(l.drop (dlen l)).toArray⟩) ∧ Below w.heap.size w w' :=
  (Any.strings_TrimLeft_laid Tryz.lays161 (by kernel_rfl) ⟨l.toArray⟩ ⟨digs.toArray⟩ w (by decide) (fun j b hb => by
    have hm : b ∈ digs := List.mem_of_getElem? hb
    simp [digs] at hm
    rcases hm with rfl | rfl | rfl | rfl | rfl | rfl | rfl | rfl | rfl | rfl <;> decide)).mono fun e w' h => ⟨by rw [h.1]; exact congrArg _ (by rw [← trim_dlen]), h.2⟩
theorem KnAt.below {w w' : World} {b mb : Nat} {vW vA : Value} {l : List UInt8} (h : KnAt w b vW vA l mb) (hb : Below w.heap.size w w') : KnAt w' b vW vA l mb := (hb.block b h.lt).trans h
theorem ext_take (l : List UInt8) (k : Nat) : (⟨l.toArray⟩ : ByteArray).extract 0 k = ⟨(l.take k).toArray⟩ := by
  apply ByteArray.ext
  rw [ByteArray.data_extract]
  simp

set_option maxRecDepth 100000 in
set_option maxHeartbeats 4000000 in
theorem atom_none (w00 w : World) (b mb : Nat) (vW : Value) (q : Option Addr) (N cap : Nat) (l : List UInt8) (hgl : Gl w00) (h00 : Below w00.heap.size w00 w) (hb : w00.heap.size ≤ b) (hl : l.length ≤ 200000) (h : KnAt w b vW (.slice q N cap) l mb)
    (hno : ∀ v, Lib.atoiAll (l.take (dlen l)) = .ok v → Lib.itoa v = l.take (dlen l) → ¬ v < (N : Int)) :
    Calls Tryz.prog 177 #[.pointer (some ⟨b, 0, none⟩)] w fun e w' => w.grownBy w' (some b) ∧ e = .returned (.tuple #[avV (0, 0, 0), .bool false]) ∧ KnAt w' b vW (.slice q N cap) (l.drop (dlen l)) mb := by
  have CT : Hid (∀ X, Calls Tryz.prog 234 #[.string ⟨l.toArray⟩, .string ⟨#[48, 49, 50, 51, 52, 53, 54, 55, 56, 57]⟩] X fun e w' => e = .returned (.string ⟨(l.drop (dlen l)).toArray⟩) ∧ Below X.heap.size X w') := fun X => trimLeft_any l X
  have hd := dlen_le l
  have HX := ext_take l (dlen l)
  have z0 : (⟨l.toArray⟩ : ByteArray).size = l.length := by simp [ByteArray.size]
  have z1 : (⟨(l.drop (dlen l)).toArray⟩ : ByteArray).size = l.length - dlen l := by simp [ByteArray.size]
  have hsub : IntKind.i64.wrap (((⟨l.toArray⟩ : ByteArray).size : Int) - ((⟨(l.drop (dlen l)).toArray⟩ : ByteArray).size : Int)) = (dlen l : Int) := by rw [z0, z1, IntWalk.i64_in _ (by omega)]; omega
  have hdl : (dlen l : Int) ≤ ((⟨l.toArray⟩ : ByteArray).size : Int) := by omega
  have hba := below_alloc w (.cells #[.int .i64 0, .int .i64 0, .int .i64 0] 134)
  have hK0 := h.below hba
  obtain ⟨k0, k1, k2, k3⟩ := hK0.cells
  have HK0 : Hid _ := hK0
  clear z0 z1 hK0
  go_enter Tryz.func177, Tryz.ntmps177
  go_wp2_with fail
  refine (CT.out _).mono ?_
  rintro e w1 ⟨rfl, hb1⟩
  have hK1 : KnAt w1 b vW (.slice q N cap) l mb := KnAt.below HK0.out hb1
  have hs1 : w.heap.size < w1.heap.size := by have := hb1.size; simp at this; omega
  have hbw : b < w.heap.size := h.lt
  have r0 : w1.cell? ⟨w.heap.size, 0, none⟩ = some (.int .i64 0) := (hb1.cell (p := ⟨w.heap.size, 0, none⟩) (by simp)).trans (by simp)
  have r1 : w1.cell? ⟨w.heap.size, 1, none⟩ = some (.int .i64 0) := (hb1.cell (p := ⟨w.heap.size, 1, none⟩) (by simp)).trans (by simp)
  have r2 : w1.cell? ⟨w.heap.size, 2, none⟩ = some (.int .i64 0) := (hb1.cell (p := ⟨w.heap.size, 2, none⟩) (by simp)).trans (by simp)
  have rf : ∀ j, w1.frozen? ⟨w.heap.size, j, none⟩ = false := fun j => (hb1.frozen (p := ⟨w.heap.size, j, none⟩) (by simp)).trans (by simp)
  have B1 : Hid (Below w.heap.size w w1) := hba.trans (hb1.mono (by simp))
  obtain ⟨k0', k1', k2', k3'⟩ := hK1.cells
  have f2 := hK1.free 2
  have HK1 : Hid (KnAt w1 b vW (.slice q N cap) l mb) := hK1
  clear k0 k1 k2 k3 HK0 hK1 hb1 hba h CT
  have HNO : Hid _ := hno
  clear hno
  have HKX : Hid (∀ n, KnAt ((w1.drewN n).setCell ⟨b, 2, none⟩ (.string ⟨(l.drop (dlen l)).toArray⟩)) b vW (.slice q N cap) (l.drop (dlen l)) mb) := fun n => KnAt.left (w := w1.drewN n) HK1.out _
  generalize hS0 : (⟨l.toArray⟩ : ByteArray) = S0 at *
  generalize hT0 : (⟨(l.drop (dlen l)).toArray⟩ : ByteArray) = T0 at *
  generalize hD0 : (⟨(l.take (dlen l)).toArray⟩ : ByteArray) = D0 at *
  have HD0 : Hid (D0.data.toList = l.take (dlen l)) := by show _ = _; rw [← hD0]
  clear hS0 hT0 hD0
  go_wp2_with fail
  go_quiet (fail)
  go_wp2_with fail
  have hX : KnAt ((w1.drewN nq).setCell ⟨b, 2, none⟩ (.string T0)) b vW (.slice q N cap) (l.drop (dlen l)) mb := HKX.out nq
  have hgX : w.grownBy ((w1.drewN nq).setCell ⟨b, 2, none⟩ (.string T0)) (some b) := by
    have g1 : w.grownBy (w1.drewN nq) (some b) := ⟨B1.out.os, B1.out.tape, B1.out.output, B1.out.size, fun k hk _ => B1.out.block k hk⟩
    exact g1.trans (grown_cell' _ _ _ _)
  have hne : ∀ j, ((w1.drewN nq).setCell ⟨b, 2, none⟩ (.string T0)).cell? ⟨w.heap.size, j, none⟩ = w1.cell? ⟨w.heap.size, j, none⟩ := fun j => World.cell?_of_block (a := ⟨w.heap.size, j, none⟩) (Below.heap_setCell (w1.drewN nq) ⟨b, 2, none⟩ _ _ (by dsimp only; omega))
  have hnf : ∀ j, ((w1.drewN nq).setCell ⟨b, 2, none⟩ (.string T0)).frozen? ⟨w.heap.size, j, none⟩ = false := fun j => (World.frozen?_of_block (a := ⟨w.heap.size, j, none⟩) (Below.heap_setCell (w1.drewN nq) ⟨b, 2, none⟩ _ _ (by dsimp only; omega))).trans (rf j)
  have s0 := (hne 0).trans r0
  have s1 := (hne 1).trans r1
  have s2 := (hne 2).trans r2
  have hsX : w.heap.size < ((w1.drewN nq).setCell ⟨b, 2, none⟩ (.string T0)).heap.size := by simp [World.setCell]; exact hs1
  generalize ((w1.drewN nq).setCell ⟨b, 2, none⟩ (.string T0)) = X at *
  have hG : Gl X := hgl.on (h00.grown hgX h00.size (fun k e => by cases e; exact hb))
  clear hne r0 r1 r2 rf k0' k1' k2' k3' f2 HKX HK1 B1 hs1
  have HX2 : Hid (KnAt X b vW (.slice q N cap) (l.drop (dlen l)) mb) := hX
  have HGX : Hid (w.grownBy X (some b)) := hgX
  clear hX hgX
  have RES : Hid (∀ Y, Below X.heap.size X Y → Y.cell? ⟨b, 1, none⟩ = some (.slice q N cap) ∧ Y.cell? ⟨w.heap.size, 0, none⟩ = some (.int .i64 0) ∧ Y.cell? ⟨w.heap.size, 1, none⟩ = some (.int .i64 0) ∧ Y.cell? ⟨w.heap.size, 2, none⟩ = some (.int .i64 0) ∧ Y.frozen? ⟨w.heap.size, 0, none⟩ = false ∧ Y.frozen? ⟨w.heap.size, 1, none⟩ = false ∧ Y.frozen? ⟨w.heap.size, 2, none⟩ = false) := fun Y hY =>
    ⟨(KnAt.below HX2.out hY).cells.2.1, (hY.cell (p := ⟨w.heap.size, 0, none⟩) hsX).trans s0, (hY.cell (p := ⟨w.heap.size, 1, none⟩) hsX).trans s1, (hY.cell (p := ⟨w.heap.size, 2, none⟩) hsX).trans s2, (hY.frozen (p := ⟨w.heap.size, 0, none⟩) hsX).trans (hnf 0), (hY.frozen (p := ⟨w.heap.size, 1, none⟩) hsX).trans (hnf 1), (hY.frozen (p := ⟨w.heap.size, 2, none⟩) hsX).trans (hnf 2)⟩
  have FIN : Hid (∀ Y, Below X.heap.size X Y → w.grownBy (set3 Y w.heap.size (.int .i64 0) (.int .i64 0) (.int .i64 0)) (some b) ∧ KnAt (set3 Y w.heap.size (.int .i64 0) (.int .i64 0) (.int .i64 0)) b vW (.slice q N cap) (l.drop (dlen l)) mb ∧ ∀ j, j < 3 → ∃ u, Y.cell? ⟨w.heap.size, j, none⟩ = some u) := fun Y hY => by
    have g1 : w.grownBy Y (some b) := HGX.out.trans ⟨hY.os, hY.tape, hY.output, hY.size, fun k hk _ => hY.block k hk⟩
    have hK := KnAt.below HX2.out hY
    have e : ∀ k, k ≠ w.heap.size → (set3 Y w.heap.size (.int .i64 0) (.int .i64 0) (.int .i64 0)).heap[k]? = Y.heap[k]? := fun k hk => by
      unfold set3
      rw [Below.heap_setCell _ ⟨w.heap.size, 2, none⟩ _ k hk, Below.heap_setCell _ ⟨w.heap.size, 1, none⟩ _ k hk, Below.heap_setCell _ ⟨w.heap.size, 0, none⟩ _ k hk]
    obtain ⟨_, a0, a1, a2, _⟩ := RES.out Y hY
    refine ⟨⟨g1.os, g1.tape, g1.output, by simp [set3, World.setCell]; exact g1.size, fun k hk hne => (e k (by omega)).trans (g1.block k hk hne)⟩, (e b (by omega)).trans hK, fun j hj => ?_⟩
    match j, hj with
    | 0, _ => exact ⟨_, a0⟩
    | 1, _ => exact ⟨_, a1⟩
    | 2, _ => exact ⟨_, a2⟩
  have hD4 : D0.size ≤ 200000 := by
    have := congrArg List.length HD0.out
    rw [List.length_take] at this
    have e : D0.data.toList.length = D0.size := Array.length_toList
    omega
  clear s0 s1 s2 hnf
  cases ha : Lib.atoiAll D0.data.toList
  · rename_i v
    have hv := atoi_rng ha
    have CA : Hid (Calls Tryz.prog 231 #[.string D0] X fun e w' => e = .returned (.tuple #[.int .i64 v, .nilIface]) ∧ Below X.heap.size X w') := (c_atoi D0 (by omega) v ha X).mono fun e w' h => by
      obtain ⟨h1, rfl | ⟨t, rfl⟩⟩ := h
      · exact ⟨h1, Below.refl _ _⟩
      · exact ⟨h1, below_bytesW _ _ _⟩
    have CI : Hid (∀ w, Gl w → Calls Tryz.prog 144 #[.int .i64 v] w fun e w' => e = .returned (.string ⟨(Lib.itoa v).toArray⟩) ∧ Below w.heap.size w w') := fun w h => (c_itoa v hv.1 hv.2 w h.here.2.2.2).mono fun e w' h => by
      obtain ⟨h1, k, os, rfl⟩ := h
      exact ⟨h1, below_growW _ _ _⟩
    have HT : Hid ((⟨(Lib.itoa v).toArray⟩ : ByteArray).toList = Lib.itoa v) := by show _ = _; rw [ByteArray.toList_eq]
    have HS : Hid (D0.toList = D0.data.toList) := ByteArray.toList_eq D0
    have HE : ((⟨(Lib.itoa v).toArray⟩ : ByteArray).toList == D0.toList) = decide (Lib.itoa v = D0.data.toList) := by
      rw [HT.out, HS.out, Bool.eq_iff_iff, beq_iff_eq, decide_eq_true_eq]
    have HV : Hid (Lib.itoa v = D0.data.toList → ¬ v < (N : Int)) := fun hE => by have := HNO.out v (by rw [← HD0.out]; exact ha) (by rw [← HD0.out]; exact hE); omega
    clear HT HS HNO ha
    generalize (⟨(Lib.itoa v).toArray⟩ : ByteArray) = I at *
    refine Calls.mono CA.out ?_
    rintro e w2 ⟨rfl, hb2⟩
    by_cases hE : Lib.itoa v = D0.data.toList
    · rw [decide_eq_true hE] at HE
      have hvN : (N : Int) ≤ v := by have := HV.out hE; omega
      clear hE HV
      go_wp2_with fail
      refine Calls.mono (CI.out _ (hG.on hb2)) ?_
      rintro e w3 ⟨rfl, hb3⟩
      have b23 := hb2.trans (hb3.mono hb2.size)
      obtain ⟨y0, y1, y2, y3, y4, y5, y6⟩ := RES.out _ b23
      go_wp2_with fail
      exact bodyPost_ret (results_c2 rfl rfl rfl (load_set3 w3 w.heap.size _ _ _ (FIN.out _ b23).2.2)) rfl ⟨(FIN.out _ b23).1, rfl, (FIN.out _ b23).2.1⟩
    · rw [decide_eq_false hE] at HE
      clear hE HV
      go_wp2_with fail
      refine Calls.mono (CI.out _ (hG.on hb2)) ?_
      rintro e w3 ⟨rfl, hb3⟩
      have b23 := hb2.trans (hb3.mono hb2.size)
      obtain ⟨y0, y1, y2, y3, y4, y5, y6⟩ := RES.out _ b23
      go_wp2_with fail
      exact bodyPost_ret (results_c2 rfl rfl rfl (load_set3 w3 w.heap.size _ _ _ (FIN.out _ b23).2.2)) rfl ⟨(FIN.out _ b23).1, rfl, (FIN.out _ b23).2.1⟩
  · obtain ⟨ev, hv1, hv2⟩ := hG.here.2.1
    have CA : Hid (Calls Tryz.prog 231 #[.string D0] X fun e w' => ∃ N x, e = .returned (.tuple #[.int .i64 x, .iface 385 (.pointer (some ⟨N, 0, none⟩))]) ∧ Below X.heap.size X w') := (Any.strconv_Atoi_syntax Tryz.laysC172 D0 (by omega) ha ev X hv1 hv2).mono fun e w' h => by
      obtain ⟨N, h1, _, _, h2⟩ := h
      exact ⟨N, _, h1, h2⟩
    clear ha hv1 HNO
    refine Calls.mono CA.out ?_
    rintro e w2 ⟨nb, x, rfl, hb2⟩
    obtain ⟨y0, y1, y2, y3, y4, y5, y6⟩ := RES.out _ hb2
    go_wp2_with fail
    exact bodyPost_ret (results_c2 rfl rfl rfl (load_set3 w2 w.heap.size _ _ _ (FIN.out _ hb2).2.2)) rfl ⟨(FIN.out _ hb2).1, rfl, (FIN.out _ hb2).2.1⟩
  · obtain ⟨ev, hv1, hv2⟩ := hG.here.2.2.1
    have CA : Hid (Calls Tryz.prog 231 #[.string D0] X fun e w' => ∃ N x, e = .returned (.tuple #[.int .i64 x, .iface 385 (.pointer (some ⟨N, 0, none⟩))]) ∧ Below X.heap.size X w') := (Any.strconv_Atoi_range Tryz.laysC172 D0 (by omega) ha ev X hv1 hv2).mono fun e w' h => by
      obtain ⟨N, h1, _, _, h2⟩ := h
      exact ⟨N, _, h1, h2⟩
    clear ha hv1 HNO
    refine Calls.mono CA.out ?_
    rintro e w2 ⟨nb, x, rfl, hb2⟩
    obtain ⟨y0, y1, y2, y3, y4, y5, y6⟩ := RES.out _ hb2
    go_wp2_with fail
    exact bodyPost_ret (results_c2 rfl rfl rfl (load_set3 w2 w.heap.size _ _ _ (FIN.out _ hb2).2.2)) rfl ⟨(FIN.out _ hb2).1, rfl, (FIN.out _ hb2).2.1⟩
set_option maxRecDepth 100000 in
set_option maxHeartbeats 4000000 in
theorem atom_some (w00 w : World) (b mb : Nat) (vW : Value) (ba n : Nat) (a1 a2 a3 : Int) (N cap : Nat) (l : List UInt8) (hgl : Gl w00) (h00 : Below w00.heap.size w00 w) (hb : w00.heap.size ≤ b) (hl : l.length ≤ 200000) (h : KnAt w b vW (.slice (some ⟨ba, 0, none⟩) N cap) l mb)
    (hn1 : Lib.atoiAll (l.take (dlen l)) = .ok (n : Int)) (hn2 : Lib.itoa (n : Int) = l.take (dlen l)) (hn3 : n < N) (hbb : ba ≠ b) (hbl : ba < w.heap.size) (z0 : w.cell? ⟨ba, n * 3, none⟩ = some (.int .i64 a1)) (z1 : w.cell? ⟨ba, n * 3 + 1, none⟩ = some (.int .i64 a2)) (z2 : w.cell? ⟨ba, n * 3 + 2, none⟩ = some (.int .i64 a3)) :
    Calls Tryz.prog 177 #[.pointer (some ⟨b, 0, none⟩)] w fun e w' => w.grownBy w' (some b) ∧ e = .returned (.tuple #[avV (a1, a2, a3), .bool true]) ∧ KnAt w' b vW (.slice (some ⟨ba, 0, none⟩) N cap) (l.drop (dlen l)) mb := by
  have CT : Hid (∀ X, Calls Tryz.prog 234 #[.string ⟨l.toArray⟩, .string ⟨#[48, 49, 50, 51, 52, 53, 54, 55, 56, 57]⟩] X fun e w' => e = .returned (.string ⟨(l.drop (dlen l)).toArray⟩) ∧ Below X.heap.size X w') := fun X => trimLeft_any l X
  have hd := dlen_le l
  have HX := ext_take l (dlen l)
  have zz0 : (⟨l.toArray⟩ : ByteArray).size = l.length := by simp [ByteArray.size]
  have zz1 : (⟨(l.drop (dlen l)).toArray⟩ : ByteArray).size = l.length - dlen l := by simp [ByteArray.size]
  have hsub : IntKind.i64.wrap (((⟨l.toArray⟩ : ByteArray).size : Int) - ((⟨(l.drop (dlen l)).toArray⟩ : ByteArray).size : Int)) = (dlen l : Int) := by rw [zz0, zz1, IntWalk.i64_in _ (by omega)]; omega
  have hdl : (dlen l : Int) ≤ ((⟨l.toArray⟩ : ByteArray).size : Int) := by omega
  have hba := below_alloc w (.cells #[.int .i64 0, .int .i64 0, .int .i64 0] 134)
  have hK0 := h.below hba
  obtain ⟨k0, k1, k2, k3⟩ := hK0.cells
  have HK0 : Hid _ := hK0
  clear zz0 zz1 hK0
  go_enter Tryz.func177, Tryz.ntmps177
  go_wp2_with fail
  refine (CT.out _).mono ?_
  rintro e w1 ⟨rfl, hb1⟩
  have hK1 : KnAt w1 b vW (.slice (some ⟨ba, 0, none⟩) N cap) l mb := KnAt.below HK0.out hb1
  have hs1 : w.heap.size < w1.heap.size := by have := hb1.size; simp at this; omega
  have hbw : b < w.heap.size := h.lt
  have r0 : w1.cell? ⟨w.heap.size, 0, none⟩ = some (.int .i64 0) := (hb1.cell (p := ⟨w.heap.size, 0, none⟩) (by simp)).trans (by simp)
  have r1 : w1.cell? ⟨w.heap.size, 1, none⟩ = some (.int .i64 0) := (hb1.cell (p := ⟨w.heap.size, 1, none⟩) (by simp)).trans (by simp)
  have r2 : w1.cell? ⟨w.heap.size, 2, none⟩ = some (.int .i64 0) := (hb1.cell (p := ⟨w.heap.size, 2, none⟩) (by simp)).trans (by simp)
  have rf : ∀ j, w1.frozen? ⟨w.heap.size, j, none⟩ = false := fun j => (hb1.frozen (p := ⟨w.heap.size, j, none⟩) (by simp)).trans (by simp)
  have B1 : Hid (Below w.heap.size w w1) := hba.trans (hb1.mono (by simp))
  obtain ⟨k0', k1', k2', k3'⟩ := hK1.cells
  have f2 := hK1.free 2
  have HK1 : Hid (KnAt w1 b vW (.slice (some ⟨ba, 0, none⟩) N cap) l mb) := hK1
  clear k0 k1 k2 k3 HK0 hK1 hb1 hba h CT
  have HZ : Hid (w.cell? ⟨ba, n * 3, none⟩ = some (.int .i64 a1) ∧ w.cell? ⟨ba, n * 3 + 1, none⟩ = some (.int .i64 a2) ∧ w.cell? ⟨ba, n * 3 + 2, none⟩ = some (.int .i64 a3)) := ⟨z0, z1, z2⟩
  have HN1 : Hid (Lib.atoiAll (l.take (dlen l)) = .ok (n : Int)) := hn1
  have HN2 : Hid (Lib.itoa (n : Int) = l.take (dlen l)) := hn2
  clear z0 z1 z2 hn1 hn2
  have HKX : Hid (∀ n, KnAt ((w1.drewN n).setCell ⟨b, 2, none⟩ (.string ⟨(l.drop (dlen l)).toArray⟩)) b vW (.slice (some ⟨ba, 0, none⟩) N cap) (l.drop (dlen l)) mb) := fun n => KnAt.left (w := w1.drewN n) HK1.out _
  generalize hS0 : (⟨l.toArray⟩ : ByteArray) = S0 at *
  generalize hT0 : (⟨(l.drop (dlen l)).toArray⟩ : ByteArray) = T0 at *
  generalize hD0 : (⟨(l.take (dlen l)).toArray⟩ : ByteArray) = D0 at *
  have HD0 : Hid (D0.data.toList = l.take (dlen l)) := by show _ = _; rw [← hD0]
  clear hS0 hT0 hD0
  go_wp2_with fail
  go_quiet (fail)
  go_wp2_with fail
  have hX : KnAt ((w1.drewN nq).setCell ⟨b, 2, none⟩ (.string T0)) b vW (.slice (some ⟨ba, 0, none⟩) N cap) (l.drop (dlen l)) mb := HKX.out nq
  have hgX : w.grownBy ((w1.drewN nq).setCell ⟨b, 2, none⟩ (.string T0)) (some b) := by
    have g1 : w.grownBy (w1.drewN nq) (some b) := ⟨B1.out.os, B1.out.tape, B1.out.output, B1.out.size, fun k hk _ => B1.out.block k hk⟩
    exact g1.trans (grown_cell' _ _ _ _)
  have hne : ∀ j, ((w1.drewN nq).setCell ⟨b, 2, none⟩ (.string T0)).cell? ⟨w.heap.size, j, none⟩ = w1.cell? ⟨w.heap.size, j, none⟩ := fun j => World.cell?_of_block (a := ⟨w.heap.size, j, none⟩) (Below.heap_setCell (w1.drewN nq) ⟨b, 2, none⟩ _ _ (by dsimp only; omega))
  have hnf : ∀ j, ((w1.drewN nq).setCell ⟨b, 2, none⟩ (.string T0)).frozen? ⟨w.heap.size, j, none⟩ = false := fun j => (World.frozen?_of_block (a := ⟨w.heap.size, j, none⟩) (Below.heap_setCell (w1.drewN nq) ⟨b, 2, none⟩ _ _ (by dsimp only; omega))).trans (rf j)
  have s0 := (hne 0).trans r0
  have s1 := (hne 1).trans r1
  have s2 := (hne 2).trans r2
  have hsX : w.heap.size < ((w1.drewN nq).setCell ⟨b, 2, none⟩ (.string T0)).heap.size := by simp [World.setCell]; exact hs1
  generalize ((w1.drewN nq).setCell ⟨b, 2, none⟩ (.string T0)) = X at *
  have hG : Gl X := hgl.on (h00.grown hgX h00.size (fun k e => by cases e; exact hb))
  clear hne r0 r1 r2 rf k0' k1' k2' k3' f2 HKX HK1 B1 hs1
  have HX2 : Hid (KnAt X b vW (.slice (some ⟨ba, 0, none⟩) N cap) (l.drop (dlen l)) mb) := hX
  have HGX : Hid (w.grownBy X (some b)) := hgX
  clear hX hgX
  have RES : Hid (∀ Y, Below X.heap.size X Y → (Y.cell? ⟨ba, n * 3, none⟩ = some (.int .i64 a1) ∧ Y.cell? ⟨ba, n * 3 + 1, none⟩ = some (.int .i64 a2) ∧ Y.cell? ⟨ba, n * 3 + 2, none⟩ = some (.int .i64 a3)) ∧ Y.cell? ⟨b, 1, none⟩ = some (.slice (some ⟨ba, 0, none⟩) N cap) ∧ Y.cell? ⟨w.heap.size, 0, none⟩ = some (.int .i64 0) ∧ Y.cell? ⟨w.heap.size, 1, none⟩ = some (.int .i64 0) ∧ Y.cell? ⟨w.heap.size, 2, none⟩ = some (.int .i64 0) ∧ Y.frozen? ⟨w.heap.size, 0, none⟩ = false ∧ Y.frozen? ⟨w.heap.size, 1, none⟩ = false ∧ Y.frozen? ⟨w.heap.size, 2, none⟩ = false) := fun Y hY =>
    have hbX : ba < X.heap.size := by omega
    have hc : ∀ o, Y.cell? ⟨ba, o, none⟩ = w.cell? ⟨ba, o, none⟩ := fun o => (hY.cell (p := ⟨ba, o, none⟩) hbX).trans (World.cell?_of_block (a := ⟨ba, o, none⟩) (HGX.out.block ba hbl (fun e => hbb (by injection e))))
    ⟨⟨(hc _).trans HZ.out.1, (hc _).trans HZ.out.2.1, (hc _).trans HZ.out.2.2⟩, (KnAt.below HX2.out hY).cells.2.1, (hY.cell (p := ⟨w.heap.size, 0, none⟩) hsX).trans s0, (hY.cell (p := ⟨w.heap.size, 1, none⟩) hsX).trans s1, (hY.cell (p := ⟨w.heap.size, 2, none⟩) hsX).trans s2, (hY.frozen (p := ⟨w.heap.size, 0, none⟩) hsX).trans (hnf 0), (hY.frozen (p := ⟨w.heap.size, 1, none⟩) hsX).trans (hnf 1), (hY.frozen (p := ⟨w.heap.size, 2, none⟩) hsX).trans (hnf 2)⟩
  have FIN : Hid (∀ Y, Below X.heap.size X Y → w.grownBy (set3 Y w.heap.size (.int .i64 a1) (.int .i64 a2) (.int .i64 a3)) (some b) ∧ KnAt (set3 Y w.heap.size (.int .i64 a1) (.int .i64 a2) (.int .i64 a3)) b vW (.slice (some ⟨ba, 0, none⟩) N cap) (l.drop (dlen l)) mb ∧ ∀ j, j < 3 → ∃ u, Y.cell? ⟨w.heap.size, j, none⟩ = some u) := fun Y hY => by
    have g1 : w.grownBy Y (some b) := HGX.out.trans ⟨hY.os, hY.tape, hY.output, hY.size, fun k hk _ => hY.block k hk⟩
    have hK := KnAt.below HX2.out hY
    have e : ∀ k, k ≠ w.heap.size → (set3 Y w.heap.size (.int .i64 a1) (.int .i64 a2) (.int .i64 a3)).heap[k]? = Y.heap[k]? := fun k hk => by
      unfold set3
      rw [Below.heap_setCell _ ⟨w.heap.size, 2, none⟩ _ k hk, Below.heap_setCell _ ⟨w.heap.size, 1, none⟩ _ k hk, Below.heap_setCell _ ⟨w.heap.size, 0, none⟩ _ k hk]
    obtain ⟨_, _, x0, x1, x2, _⟩ := RES.out Y hY
    refine ⟨⟨g1.os, g1.tape, g1.output, by simp [set3, World.setCell]; exact g1.size, fun k hk hne => (e k (by omega)).trans (g1.block k hk hne)⟩, (e b (by omega)).trans hK, fun j hj => ?_⟩
    match j, hj with
    | 0, _ => exact ⟨_, x0⟩
    | 1, _ => exact ⟨_, x1⟩
    | 2, _ => exact ⟨_, x2⟩
  have hD4 : D0.size ≤ 200000 := by
    have := congrArg List.length HD0.out
    rw [List.length_take] at this
    have e : D0.data.toList.length = D0.size := Array.length_toList
    omega
  clear s0 s1 s2 hnf
  have ha : Lib.atoiAll D0.data.toList = .ok (n : Int) := by rw [HD0.out]; exact HN1.out
  have hv := atoi_rng ha
  have CA : Hid (Calls Tryz.prog 231 #[.string D0] X fun e w' => e = .returned (.tuple #[.int .i64 (n : Int), .nilIface]) ∧ Below X.heap.size X w') := (c_atoi D0 (by omega) (n : Int) ha X).mono fun e w' h => by
    obtain ⟨h1, rfl | ⟨t, rfl⟩⟩ := h
    · exact ⟨h1, Below.refl _ _⟩
    · exact ⟨h1, below_bytesW _ _ _⟩
  have CI : Hid (∀ w, Gl w → Calls Tryz.prog 144 #[.int .i64 (n : Int)] w fun e w' => e = .returned (.string ⟨(Lib.itoa (n : Int)).toArray⟩) ∧ Below w.heap.size w w') := fun w h => (c_itoa (n : Int) hv.1 hv.2 w h.here.2.2.2).mono fun e w' h => by
    obtain ⟨h1, k, os, rfl⟩ := h
    exact ⟨h1, below_growW _ _ _⟩
  have HT : Hid ((⟨(Lib.itoa (n : Int)).toArray⟩ : ByteArray).toList = Lib.itoa (n : Int)) := by show _ = _; rw [ByteArray.toList_eq]
  have HS : Hid (D0.toList = D0.data.toList) := ByteArray.toList_eq D0
  have HE : ((⟨(Lib.itoa (n : Int)).toArray⟩ : ByteArray).toList == D0.toList) = true := by
    rw [HT.out, HS.out, HD0.out, HN2.out]; simp
  clear HT HS ha hv
  generalize (⟨(Lib.itoa (n : Int)).toArray⟩ : ByteArray) = I at *
  refine Calls.mono CA.out ?_
  rintro e w2 ⟨rfl, hb2⟩
  have hnN : (n : Int) < (N : Int) := by omega
  have hnN' : ¬ (N : Int) ≤ (n : Int) := by omega
  go_wp2_with fail
  refine Calls.mono (CI.out _ (hG.on hb2)) ?_
  rintro e w3 ⟨rfl, hb3⟩
  have b23 := hb2.trans (hb3.mono hb2.size)
  obtain ⟨⟨u0, u1, u2⟩, y0, y1, y2, y3, y4, y5, y6⟩ := RES.out _ b23
  go_wp2_with fail
  exact bodyPost_ret (results_c2 rfl rfl rfl (load_set3 w3 w.heap.size _ _ _ (FIN.out _ b23).2.2)) rfl ⟨(FIN.out _ b23).1, rfl, (FIN.out _ b23).2.1⟩
end Go.Proofs.YtkinoehmcfhgbaaGreatDoor.Vl
set_option linter.unusedVariables false
set_option linter.unusedSimpArgs false
namespace Go.Proofs.YtkinoehmcfhgbaaGreatDoor.Vl
open Go.RowKit

/-- The parts of a symbol as they lie in memory: the second's first. -/
def Parts3K (w : World) (pv : Value) (k : Int) (t u : Int) : Prop :=
  (k = 2 → ∃ g o c, pv = .slice (some ⟨g, o, none⟩) 1 c ∧ g < w.heap.size ∧ w.cell? ⟨g, o, none⟩ = some (.int .i8 t)) ∧
  (k = 3 ∨ k = 4 ∨ k = 5 → ∃ g o c, pv = .slice (some ⟨g, o, none⟩) 2 c ∧ g < w.heap.size ∧ w.cell? ⟨g, o, none⟩ = some (.int .i8 u) ∧ w.cell? ⟨g, o + 1, none⟩ = some (.int .i8 t))

set_option maxRecDepth 100000 in
set_option maxHeartbeats 2000000 in
theorem ssettleK (kn : Atm → Int) (cp : Value) (b o : Nat) (y0 y1 y2 y3 : Int) (pv : Value) (t u : Int) (w : World) (h0 : 0 ≤ y0 ∧ y0 ≤ 6) (ht : T3 t) (hu : T3 u) (hp : Parts3K w pv y0 t u)
    (c0 : w.cell? ⟨b, o, none⟩ = some (.int .i64 y0)) (c1 : w.cell? ⟨b, o + 1, none⟩ = some (.int .i64 y1)) (c2 : w.cell? ⟨b, o + 2, none⟩ = some (.int .i64 y2)) (c3 : w.cell? ⟨b, o + 3, none⟩ = some (.int .i64 y3))
    (CK : y0 = 6 → Calls Tryz.prog 175 #[.agg #[.int .i64 y1, .int .i64 y2, .int .i64 y3], cp] w fun e w' => e = .returned (.int .i8 (kn (y1, y2, y3))) ∧ Below w.heap.size w w') :
    Calls Tryz.prog 116 #[.pointer (some ⟨b, o, none⟩), .func (.func 175) #[] #[cp], pv] w fun e w' => e = .returned (.int .i8 (tval kn (y0, y1, y2, y3) t u)) ∧ Below w.heap.size w w' := by
  have CN : Hid (∀ t w, T3 t → Calls Tryz.prog 167 #[.int .i8 t] w fun e w' => e = .returned (.int .i8 (tnot t)) ∧ w = w') := fun t w h => tnot_any t h w
  have CB : Hid (∀ t u w, T3 t → T3 u → Calls Tryz.prog 168 #[.int .i8 t, .int .i8 u] w fun e w' => e = .returned (.int .i8 (tboth t u)) ∧ w = w') := fun t u w h k => tboth_any t u h k w
  have CE : Hid (∀ t u w, T3 t → T3 u → Calls Tryz.prog 169 #[.int .i8 t, .int .i8 u] w fun e w' => e = .returned (.int .i8 (teith t u)) ∧ w = w') := fun t u w h k => teith_any t u h k w
  have HT : Hid (T3 t) := ht
  have HU : Hid (T3 u) := hu
  clear ht hu
  have hk : y0 = 0 ∨ y0 = 1 ∨ y0 = 6 ∨ y0 = 2 ∨ y0 = 3 ∨ y0 = 4 ∨ y0 = 5 := by omega
  rcases hk with rfl | rfl | rfl | rfl | rfl | rfl | rfl
  · clear CK hp
    go_enter Tryz.func116, Tryz.ntmps116
    go_wp2_with fail
    go_ret
    exact ⟨rfl, Below.refl _ _⟩
  · clear CK hp
    go_enter Tryz.func116, Tryz.ntmps116
    go_wp2_with fail
    go_ret
    exact ⟨rfl, Below.refl _ _⟩
  · have CK' : Hid _ := CK rfl
    have HB : Hid (tval kn (6, y1, y2, y3) t u = kn (y1, y2, y3)) := rfl
    generalize kn (y1, y2, y3) = HL at *
    clear hp CK
    go_enter Tryz.func116, Tryz.ntmps116
    go_wp2_with (go_at_call 175; refine Calls.mono CK'.out ?_; rintro e w3 ⟨rfl, hb3⟩)
    go_ret
    exact ⟨by rw [HB.out]; rfl, hb3⟩
  · obtain ⟨g, o, c, rfl, hgs, hc⟩ := hp.1 rfl
    clear hp CK
    go_enter Tryz.func116, Tryz.ntmps116
    go_wp2_with (go_at_call 167; refine (CN.out _ _ HT.out).mono ?_; rintro e w' ⟨rfl, rfl⟩)
    go_ret
    exact ⟨rfl, Below.refl _ _⟩
  all_goals
    obtain ⟨g, o, c, rfl, hgs, hc, hd⟩ := hp.2 (by omega)
    clear hp CK
    go_enter Tryz.func116, Tryz.ntmps116
    go_wp2_with fail
    go_region_with (first
      | (go_at_call 167; refine (CN.out _ _ HT.out).mono ?_; rintro e w' ⟨rfl, rfl⟩)
      | (go_at_call 168; refine (CB.out _ _ _ HT.out HU.out).mono ?_; rintro e w' ⟨rfl, rfl⟩)
      | (go_at_call 169; refine (CE.out _ _ _ (by first | exact HT.out | exact t3_not _) HU.out).mono ?_; rintro e w' ⟨rfl, rfl⟩))
    all_goals (try go_wp2_with fail)
    all_goals go_ret
    all_goals exact ⟨rfl, (Below.refl _ _).drew⟩
end Go.Proofs.YtkinoehmcfhgbaaGreatDoor.Vl
