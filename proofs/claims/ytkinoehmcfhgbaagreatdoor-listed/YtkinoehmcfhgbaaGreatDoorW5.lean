/-
  The walks of the document's skip, all, parts.
  The document's Maker in memory; of lists of texts those that are not empty.
-/
import Derived.Test.YtkinoehmcfhgbaaGreatDoorL1
set_option linter.unusedVariables false
set_option linter.unusedSimpArgs false
namespace Go.Proofs.YtkinoehmcfhgbaaGreatDoor.Vl
open Go.RowKit
open Go.Proofs.YtkinoehmcfhgbaaGreatDoor.Av (vr rvariable_any Fm Rd Tg sAt trm trm_range rel rel_range vr_range Cm Rc)

def SkipD (toks : List (List UInt8 × Nat)) (cb n : Nat) : Prop := ∀ (k k' : Nat) (c : Cm) (w : World), Rc toks false k c k' → k' ≤ k + n → k' ≤ 300 → CodeAt w cb toks → Calls Tryz.prog 67 #[.pointer (some ⟨cb, 0, none⟩), .int .i64 (k : Int)] w fun e w' => e = .returned (.int .i64 (k' : Int)) ∧ Below w.heap.size w w'
def AllD (toks : List (List UInt8 × Nat)) (cb n : Nat) : Prop := ∀ (k k' : Nat) (c : Cm) (w : World), Rc toks true k c k' → k' ≤ k + n → k' ≤ 300 → CodeAt w cb toks → Calls Tryz.prog 64 #[.pointer (some ⟨cb, 0, none⟩), .int .i64 (k : Int)] w fun e w' => e = .returned (.int .i64 (k' : Int)) ∧ Below w.heap.size w w'
/-- What goes on behind a command. -/
def Nx (toks : List (List UInt8 × Nat)) (p k' : Nat) : Prop := (p = k' ∧ sAt toks p ≠ [59]) ∨ (sAt toks p = [59] ∧ ∃ r, Rc toks true (p + 1) r k')
theorem rc_first {toks : List (List UInt8 × Nat)} {k k' : Nat} {c : Cm} (h : Rc toks true k c k') : ∃ c1 p, Rc toks false k c1 p ∧ Nx toks p k' ∧ p ≤ k' := by
  cases h with
  | one a b => exact ⟨_, _, a, Or.inl ⟨rfl, b⟩, Nat.le_refl _⟩
  | seq a b d => exact ⟨_, _, a, Or.inr ⟨b, _, d⟩, by have := d.le; omega⟩
theorem vr_word {l : List UInt8} (h : 0 ≤ vr l) : (l == [115, 107, 105, 112]) = false ∧ (l == [105, 102]) = false ∧ (l == [119, 104, 105, 108, 101]) = false := by
  rcases Av.vr_cases l with e | rfl | rfl | rfl | rfl
  · omega
  all_goals exact ⟨rfl, rfl, rfl⟩

set_option maxRecDepth 100000 in
set_option maxHeartbeats 1000000 in
theorem code_all (toks : List (List UInt8 × Nat)) (cb n : Nat) (HF : SkipD toks cb n) : AllD toks cb n := by
  intro k k' c w hr hn hk hc
  obtain ⟨c1, k1, h1, hx, l2⟩ := rc_first hr
  have l1 := h1.le
  have HX : Hid (Nx toks k1 k') := hx
  have C1 : Hid (Calls Tryz.prog 67 #[.pointer (some ⟨cb, 0, none⟩), .int .i64 (k : Int)] w fun e w' => e = .returned (.int .i64 (k1 : Int)) ∧ Below w.heap.size w w') := HF k k1 c1 w h1 (by omega) (by omega) hc
  have CS : Hid (∀ (j : Nat) (w : World), j ≤ 300 → CodeAt w cb toks → Calls Tryz.prog 66 #[.pointer (some ⟨cb, 0, none⟩), .int .i64 (j : Int)] w fun e w' => e = .returned (.string ⟨(sAt toks j).toArray⟩) ∧ w = w') := fun j w hj hc => code_s toks cb j w hc (by omega)
  clear hr h1 hx
  go_enter Tryz.func64, Tryz.ntmps64
  go_wp2_with fail
  refine C1.out.mono ?_
  rintro e w1 ⟨rfl, hb1⟩
  have hc1 := hc.below hb1
  go_wp2_with fail
  go_loopw [1] (fun at_ wr => ∃ (p : Nat), at_ = .int .i64 (p : Int) ∧ k1 ≤ p ∧ p ≤ k' ∧ Hid (Nx toks p k') ∧ CodeAt wr cb toks ∧ Below w.heap.size w wr) (fun at_ _ => k' - (intOf at_).toNat)
  case atStart => exact ⟨k1, rfl, Nat.le_refl _, l2, HX, hc1, hb1⟩
  case round =>
    obtain ⟨p, rfl, hp1, hp2, HR, hcr, hbr⟩ := hrel
    have CS' : Hid (Calls Tryz.prog 66 #[.pointer (some ⟨cb, 0, none⟩), .int .i64 (p : Int)] wr fun e w' => e = .returned (.string ⟨(sAt toks p).toArray⟩) ∧ wr = w') := CS.out p wr (by omega) hcr
    rcases HR.out with ⟨rfl, hne⟩ | ⟨heq, r, hrest⟩
    · have hb : (sAt toks p == [59]) = false := by rw [beq_eq_false_iff_ne]; exact hne
      clear hne
      generalize sAt toks p = S at *
      go_wp2_with fail
      refine CS'.out.mono ?_
      rintro e w2 ⟨rfl, rfl⟩
      go_wp2_with fail
      go_ret
      exact ⟨rfl, hbr⟩
    · obtain ⟨c2, q, h2, hx2, l4⟩ := rc_first hrest
      have l3 := h2.le
      have HX2 : Hid (Nx toks q k') := hx2
      have C2 : Hid (Calls Tryz.prog 67 #[.pointer (some ⟨cb, 0, none⟩), .int .i64 ((p : Int) + 1)] wr fun e w' => e = .returned (.int .i64 (q : Int)) ∧ Below wr.heap.size wr w') := HF (p + 1) q c2 wr h2 (by omega) (by omega) hcr
      rw [heq] at CS'
      clear h2 hrest heq hx2 HR CS
      go_wp2_with fail
      refine CS'.out.mono ?_
      rintro e w2 ⟨rfl, rfl⟩
      go_wp2_with fail
      refine C2.out.mono ?_
      rintro e w2 ⟨rfl, hb2⟩
      go_wp2_with fail
      go_roundw
      case rel => exact ⟨q, rfl, by omega, by omega, HX2, hcr.below hb2, hbr.trans (hb2.mono hbr.size)⟩
      case measure => simp [intOf]; omega

set_option maxRecDepth 100000 in
set_option maxHeartbeats 1000000 in
theorem code_skip (toks : List (List UInt8 × Nat)) (cb n : Nat) (hl : ∀ j, (sAt toks j).length ≤ 300) (IH : ∀ m, m < n → AllD toks cb m) : SkipD toks cb n := by
  intro k k' c w hr hn hk hc
  have l0 := hr.le
  have CS : Hid (Calls Tryz.prog 66 #[.pointer (some ⟨cb, 0, none⟩), .int .i64 (k : Int)] w fun e w' => e = .returned (.string ⟨(sAt toks k).toArray⟩) ∧ w = w') := code_s toks cb k w hc (by omega)
  cases hr with
  | skip h1 =>
    rw [h1] at CS
    clear h1 IH
    go_enter Tryz.func67, Tryz.ntmps67
    go_wp2_with fail
    refine CS.out.mono ?_
    rintro e w2 ⟨rfl, rfl⟩
    go_wp2_with fail
    go_ret
    exact ⟨rfl, Below.refl _ _⟩
  | asg h1 =>
    obtain ⟨b1, b2, b3⟩ := vr_word h1
    have r2 := trm_range toks (k + 2)
    have C2 : Hid (Calls Tryz.prog 103 #[.pointer (some ⟨cb, 0, none⟩), .int .i64 ((k : Int) + 2)] w fun e w' => e = .returned (.tuple #[.int .i64 (trm toks (k + 2)).1, .int .i64 (trm toks (k + 2)).2.1, .int .i64 ((trm toks (k + 2)).2.2 : Int)]) ∧ w = w') := code_term toks cb (k + 2) w hc (by omega) hl
    clear h1 IH
    generalize trm toks (k + 2) = R at *
    generalize sAt toks k = S at *
    go_enter Tryz.func67, Tryz.ntmps67
    go_wp2_with fail
    refine CS.out.mono ?_
    rintro e w2 ⟨rfl, rfl⟩
    go_wp2_with fail
    refine C2.out.mono ?_
    rintro e w2 ⟨rfl, rfl⟩
    go_wp2_with fail
    go_ret
    exact ⟨rfl, Below.refl _ _⟩
  | @ite _ k1 k2 k3 f a b h1 h2 h3 h4 =>
    rw [h1] at CS
    have l2 := h2.le.2 (by simp)
    have l3 := h3.le
    have l4 := h4.le
    have C2 : Hid (Calls Tryz.prog 39 #[.pointer (some ⟨cb, 0, none⟩), .int .i64 ((k : Int) + 1)] w fun e w' => e = .returned (.tuple #[.string (ftx f), .int .i64 (k1 : Int)]) ∧ Below w.heap.size w w') := formula_any toks cb hl (k + 1) k1 f w h2 (by omega) hc
    have C3 : Hid (∀ w, CodeAt w cb toks → Calls Tryz.prog 64 #[.pointer (some ⟨cb, 0, none⟩), .int .i64 ((k1 : Int) + 1)] w fun e w' => e = .returned (.int .i64 (k2 : Int)) ∧ Below w.heap.size w w') := fun w hc => IH (n - 1) (by omega) (k1 + 1) k2 a w h3 (by omega) (by omega) hc
    have C4 : Hid (∀ w, CodeAt w cb toks → Calls Tryz.prog 64 #[.pointer (some ⟨cb, 0, none⟩), .int .i64 ((k2 : Int) + 1)] w fun e w' => e = .returned (.int .i64 (k3 : Int)) ∧ Below w.heap.size w w') := fun w hc => IH (n - 1) (by omega) (k2 + 1) k3 b w h4 (by omega) (by omega) hc
    clear h1 h2 h3 h4 IH
    go_enter Tryz.func67, Tryz.ntmps67
    go_wp2_with fail
    refine CS.out.mono ?_
    rintro e w2 ⟨rfl, rfl⟩
    go_wp2_with fail
    refine C2.out.mono ?_
    rintro e w2 ⟨rfl, hb2⟩
    have hc2 := hc.below hb2
    go_wp2_with fail
    refine (C3.out _ hc2).mono ?_
    rintro e w3 ⟨rfl, hb3⟩
    have hc3 := hc2.below hb3
    go_wp2_with fail
    refine (C4.out _ hc3).mono ?_
    rintro e w4 ⟨rfl, hb4⟩
    go_wp2_with fail
    go_ret
    have b3 := hb2.trans (hb3.mono hb2.size)
    exact ⟨rfl, b3.trans (hb4.mono b3.size)⟩
  | @loop _ k1 k2 k3 f g a h1 h2 h3 h4 =>
    rw [h1] at CS
    have l2 := h2.le.2 (by simp)
    have l3 := h3.le.2 (by simp)
    have l4 := h4.le
    have C2 : Hid (Calls Tryz.prog 39 #[.pointer (some ⟨cb, 0, none⟩), .int .i64 ((k : Int) + 1)] w fun e w' => e = .returned (.tuple #[.string (ftx f), .int .i64 (k1 : Int)]) ∧ Below w.heap.size w w') := formula_any toks cb hl (k + 1) k1 f w h2 (by omega) hc
    have C3 : Hid (∀ w, CodeAt w cb toks → Calls Tryz.prog 39 #[.pointer (some ⟨cb, 0, none⟩), .int .i64 ((k1 : Int) + 1)] w fun e w' => e = .returned (.tuple #[.string (ftx g), .int .i64 (k2 : Int)]) ∧ Below w.heap.size w w') := fun w hc => formula_any toks cb hl (k1 + 1) k2 g w h3 (by omega) hc
    have C4 : Hid (∀ w, CodeAt w cb toks → Calls Tryz.prog 64 #[.pointer (some ⟨cb, 0, none⟩), .int .i64 ((k2 : Int) + 1)] w fun e w' => e = .returned (.int .i64 (k3 : Int)) ∧ Below w.heap.size w w') := fun w hc => IH (n - 1) (by omega) (k2 + 1) k3 a w h4 (by omega) (by omega) hc
    clear h1 h2 h3 h4 IH
    go_enter Tryz.func67, Tryz.ntmps67
    go_wp2_with fail
    refine CS.out.mono ?_
    rintro e w2 ⟨rfl, rfl⟩
    go_wp2_with fail
    refine C2.out.mono ?_
    rintro e w2 ⟨rfl, hb2⟩
    have hc2 := hc.below hb2
    go_wp2_with fail
    refine (C3.out _ hc2).mono ?_
    rintro e w3 ⟨rfl, hb3⟩
    have hc3 := hc2.below hb3
    go_wp2_with fail
    refine (C4.out _ hc3).mono ?_
    rintro e w4 ⟨rfl, hb4⟩
    go_wp2_with fail
    go_ret
    have b3 := hb2.trans (hb3.mono hb2.size)
    exact ⟨rfl, b3.trans (hb4.mono b3.size)⟩
theorem code_coms (toks : List (List UInt8 × Nat)) (cb : Nat) (hl : ∀ j, (sAt toks j).length ≤ 300) (n : Nat) : SkipD toks cb n ∧ AllD toks cb n := by
  induction n using Nat.strongRecOn with
  | ind n ih =>
    have h1 : SkipD toks cb n := code_skip toks cb n hl (fun m hm => (ih m hm).2)
    exact ⟨h1, code_all toks cb n h1⟩
theorem skip_any (toks : List (List UInt8 × Nat)) (cb : Nat) (hl : ∀ j, (sAt toks j).length ≤ 300) (k k' : Nat) (c : Cm) (w : World) (h : Rc toks false k c k') (hk : k' ≤ 300) (hc : CodeAt w cb toks) :
    Calls Tryz.prog 67 #[.pointer (some ⟨cb, 0, none⟩), .int .i64 (k : Int)] w fun e w' => e = .returned (.int .i64 (k' : Int)) ∧ Below w.heap.size w w' :=
  (code_coms toks cb hl k').1 k k' c w h (by omega) hk hc
theorem all_any (toks : List (List UInt8 × Nat)) (cb : Nat) (hl : ∀ j, (sAt toks j).length ≤ 300) (k k' : Nat) (c : Cm) (w : World) (h : Rc toks true k c k') (hk : k' ≤ 300) (hc : CodeAt w cb toks) :
    Calls Tryz.prog 64 #[.pointer (some ⟨cb, 0, none⟩), .int .i64 (k : Int)] w fun e w' => e = .returned (.int .i64 (k' : Int)) ∧ Below w.heap.size w w' :=
  (code_coms toks cb hl k').2 k k' c w h (by omega) hk hc
set_option maxRecDepth 100000 in
set_option maxHeartbeats 1000000 in
theorem parts_any (toks : List (List UInt8 × Nat)) (cb : Nat) (hl : ∀ j, (sAt toks j).length ≤ 300) (k1 k2 : Nat) (f : Fm) (c : Cm) (w : World) (h1 : Rd toks .form 1 f k1) (h2 : Rc toks true (k1 + 1) c k2) (hk : k2 ≤ 300) (hc : CodeAt w cb toks) :
    Calls Tryz.prog 38 #[.pointer (some ⟨cb, 0, none⟩)] w fun e w' => e = .returned (.tuple #[.int .i64 1, .int .i64 ((k1 : Int) + 1), .int .i64 ((k2 : Int) + 1)]) ∧ Below w.heap.size w w' := by
  have l2 := h2.le
  have C2 : Hid (Calls Tryz.prog 39 #[.pointer (some ⟨cb, 0, none⟩), .int .i64 1] w fun e w' => e = .returned (.tuple #[.string (ftx f), .int .i64 (k1 : Int)]) ∧ Below w.heap.size w w') := formula_any toks cb hl 1 k1 f w h1 (by omega) hc
  have C3 : Hid (∀ w, CodeAt w cb toks → Calls Tryz.prog 64 #[.pointer (some ⟨cb, 0, none⟩), .int .i64 ((k1 : Int) + 1)] w fun e w' => e = .returned (.int .i64 (k2 : Int)) ∧ Below w.heap.size w w') := fun w hc => all_any toks cb hl (k1 + 1) k2 c w h2 (by omega) hc
  clear h1 h2
  go_enter Tryz.func38, Tryz.ntmps38
  go_wp2_with fail
  refine C2.out.mono ?_
  rintro e w2 ⟨rfl, hb2⟩
  have hc2 := hc.below hb2
  go_wp2_with fail
  refine (C3.out _ hc2).mono ?_
  rintro e w3 ⟨rfl, hb3⟩
  go_wp2_with fail
  go_ret3
  exact ⟨rfl, hb2.trans (hb3.mono hb2.size)⟩
end Go.Proofs.YtkinoehmcfhgbaaGreatDoor.Vl
set_option linter.unusedVariables false
set_option linter.unusedSimpArgs false
namespace Go.Proofs.YtkinoehmcfhgbaaGreatDoor.Vl
open Go.RowKit
open Go.Proofs.YtkinoehmcfhgbaaGreatDoor.Av (vr Fm Rd Tg sAt Cm Rc trm trm_range vr_range)

/-- The Maker lies at block mb, its list at block lb, its program at block cb; what was there in w0 is as it was. -/
structure MkAt (w0 w : World) (mb cb lb : Nat) (toks : List (List UInt8 × Nat)) (ls : List (List UInt8)) (big : Bool) : Prop where
  code0 : CodeAt w0 cb toks
  b0 : Below w0.heap.size w0 w
  hm : w0.heap.size ≤ mb
  hl : w0.heap.size ≤ lb
  hml : mb ≠ lb
  hms : mb < w.heap.size
  hls : lb < w.heap.size
  m0 : w.cell? ⟨mb, 0, none⟩ = some (.pointer (some ⟨cb, 0, none⟩))
  m1 : w.cell? ⟨mb, 1, none⟩ = some (.slice (some ⟨lb, 0, none⟩) ls.length ls.length)
  m2 : w.cell? ⟨mb, 2, none⟩ = some (.bool big)
  cells : ∀ j l, ls[j]? = some l → w.cell? ⟨lb, j, none⟩ = some (strV l)
  fm : ∀ o, w.frozen? ⟨mb, o, none⟩ = false
  fl : ∀ o, w.frozen? ⟨lb, o, none⟩ = false
variable {w0 w w' : World} {mb cb lb : Nat} {toks : List (List UInt8 × Nat)} {ls : List (List UInt8)} {big : Bool}
theorem MkAt.code (h : MkAt w0 w mb cb lb toks ls big) : CodeAt w cb toks := h.code0.below h.b0
theorem MkAt.below (h : MkAt w0 w mb cb lb toks ls big) (k : Below w.heap.size w w') : MkAt w0 w' mb cb lb toks ls big :=
  have cm : ∀ o, w'.cell? ⟨mb, o, none⟩ = w.cell? ⟨mb, o, none⟩ := fun o => k.cell (p := ⟨mb, o, none⟩) h.hms
  have cl : ∀ o, w'.cell? ⟨lb, o, none⟩ = w.cell? ⟨lb, o, none⟩ := fun o => k.cell (p := ⟨lb, o, none⟩) h.hls
  ⟨h.code0, h.b0.trans (k.mono h.b0.size), h.hm, h.hl, h.hml, Nat.lt_of_lt_of_le h.hms k.size, Nat.lt_of_lt_of_le h.hls k.size, (cm 0).trans h.m0, (cm 1).trans h.m1, (cm 2).trans h.m2, fun j l e => (cl j).trans (h.cells j l e), fun o => (k.frozen (p := ⟨mb, o, none⟩) h.hms).trans (h.fm o), fun o => (k.frozen (p := ⟨lb, o, none⟩) h.hls).trans (h.fl o)⟩
theorem MkAt.drew (h : MkAt w0 w mb cb lb toks ls big) : MkAt w0 w.drew mb cb lb toks ls big := h.below (Below.refl _ _).drew
theorem mk_frz (w : World) (a : Addr) (u : Value) {b : Nat} (h : ∀ o, w.frozen? ⟨b, o, none⟩ = false) : ∀ o, (w.setCell a u).frozen? ⟨b, o, none⟩ = false := fun o => by
  rw [World.frozen?_setCell]; exact h o
theorem mk_far (w : World) (a : Addr) (u : Value) (b o : Nat) (h : b ≠ a.block) : (w.setCell a u).cell? ⟨b, o, none⟩ = w.cell? ⟨b, o, none⟩ := World.cell?_of_block (Below.heap_setCell w a u b h)
theorem mk_size (w : World) (a : Addr) (u : Value) : (w.setCell a u).heap.size = w.heap.size := by simp [World.setCell]
theorem mk_other (w : World) (b o p : Nat) (u : Value) (h : p ≠ o) : (w.setCell ⟨b, p, none⟩ u).cell? ⟨b, o, none⟩ = w.cell? ⟨b, o, none⟩ := Av.set_other _ _ _ _ _ h
theorem MkAt.setBig (h : MkAt w0 w mb cb lb toks ls big) (b : Bool) : MkAt w0 (w.setCell ⟨mb, 2, none⟩ (.bool b)) mb cb lb toks ls b := by
  refine ⟨h.code0, h.b0.setCell (p := ⟨mb, 2, none⟩) h.hm _, h.hm, h.hl, h.hml, by rw [mk_size]; exact h.hms, by rw [mk_size]; exact h.hls, ?_, ?_, ?_, ?_, mk_frz _ _ _ h.fm, mk_frz _ _ _ h.fl⟩
  · rw [mk_other _ _ _ _ _ (by decide)]; exact h.m0
  · rw [mk_other _ _ _ _ _ (by decide)]; exact h.m1
  · exact World.cell?_setCell_same _ _ _ h.m2
  · intro j l e
    rw [mk_far _ _ _ _ _ (by exact h.hml.symm)]; exact h.cells j l e
theorem MkAt.setLoop (h : MkAt w0 w mb cb lb toks ls big) (j : Nat) (l : List UInt8) (hj : j < ls.length) : MkAt w0 (w.setCell ⟨lb, j, none⟩ (strV l)) mb cb lb toks (ls.set j l) big := by
  refine ⟨h.code0, h.b0.setCell (p := ⟨lb, j, none⟩) h.hl _, h.hm, h.hl, h.hml, by rw [mk_size]; exact h.hms, by rw [mk_size]; exact h.hls, ?_, ?_, ?_, ?_, mk_frz _ _ _ h.fm, mk_frz _ _ _ h.fl⟩
  · rw [mk_far _ _ _ _ _ (by exact h.hml)]; exact h.m0
  · rw [mk_far _ _ _ _ _ (by exact h.hml), List.length_set]; exact h.m1
  · rw [mk_far _ _ _ _ _ (by exact h.hml)]; exact h.m2
  · intro i x e
    by_cases hi : j = i
    · subst hi
      rw [List.getElem?_set_self hj] at e
      cases e
      exact World.cell?_setCell_same _ _ _ (h.cells j _ (List.getElem?_eq_getElem hj))
    · rw [List.getElem?_set_ne hi] at e
      rw [mk_other _ _ _ _ _ hi]; exact h.cells i x e

/-- Of the texts from a place to another those that are not empty. -/
def nes (ls : List (List UInt8)) (a b : Nat) : List (List UInt8) := ((ls.drop a).take (b - a)).filter fun l => !l.isEmpty
theorem nes_split (ls : List (List UInt8)) {a m b : Nat} (h1 : a ≤ m) (h2 : m ≤ b) : nes ls a b = nes ls a m ++ nes ls m b := by
  unfold nes
  rw [← List.filter_append]
  congr 1
  have e : b - a = (m - a) + (b - m) := by omega
  rw [e, List.take_add, List.drop_drop]
  congr 3
  omega
theorem seg_same {ls ls' : List (List UInt8)} {a b : Nat} (h : ∀ j, a ≤ j → j < b → ls'[j]? = ls[j]?) : (ls'.drop a).take (b - a) = (ls.drop a).take (b - a) := by
  apply List.ext_getElem?
  intro j
  by_cases hj : j < b - a
  · rw [List.getElem?_take, if_pos hj, List.getElem?_take, if_pos hj, List.getElem?_drop, List.getElem?_drop]
    exact h _ (by omega) (by omega)
  · rw [List.getElem?_take, if_neg hj, List.getElem?_take, if_neg hj]
theorem nes_same {ls ls' : List (List UInt8)} {a b : Nat} (h : ∀ j, a ≤ j → j < b → ls'[j]? = ls[j]?) : nes ls' a b = nes ls a b := by
  unfold nes; rw [seg_same h]
theorem nes_none {ls : List (List UInt8)} {a b : Nat} (h : ∀ j l, a ≤ j → j < b → ls[j]? = some l → l = []) : nes ls a b = [] := by
  unfold nes
  rw [List.filter_eq_nil_iff]
  intro x hx
  obtain ⟨j, hj⟩ := List.mem_iff_getElem?.1 hx
  rw [List.getElem?_take] at hj
  split at hj
  · rw [List.getElem?_drop] at hj
    rw [h _ x (by omega) (by omega) hj]; decide
  · cases hj
theorem nes_one {ls : List (List UInt8)} {a : Nat} {l : List UInt8} (h : ls[a]? = some l) (hl : l ≠ []) : nes ls a (a + 1) = [l] := by
  unfold nes
  have e : (ls.drop a).take (a + 1 - a) = [l] := by
    have : a + 1 - a = 1 := by omega
    rw [this]
    have ha : a < ls.length := by
      rcases Nat.lt_or_ge a ls.length with h' | h'
      · exact h'
      · rw [List.getElem?_eq_none h'] at h; cases h
    rw [List.drop_eq_getElem_cons ha]
    rw [List.getElem?_eq_getElem ha] at h
    cases h
    rfl
  rw [e]
  cases l with
  | nil => exact absurd rfl hl
  | cons c r => rfl

/-- All texts from a place to another are empty. -/
def Emp (ls : List (List UInt8)) (a b : Nat) : Prop := ∀ j l, a ≤ j → j < b → ls[j]? = some l → l = []
theorem Emp.sub {ls : List (List UInt8)} {a b c d : Nat} (h : Emp ls a b) (h1 : a ≤ c) (h2 : d ≤ b) : Emp ls c d := fun j l hj hk e => h j l (by omega) (by omega) e
/-- Between two places the list has become so; elsewhere it is as it was. -/
def Upd (ls ls' : List (List UInt8)) (a b : Nat) (cs : List (List Sym)) : Prop := ls'.length = ls.length ∧ (∀ j, j < a ∨ b ≤ j → ls'[j]? = ls[j]?) ∧ nes ls' a b = cs.map sbs
theorem Upd.refl {ls : List (List UInt8)} {a b : Nat} (h : Emp ls a b) : Upd ls ls a b [] := ⟨rfl, fun _ _ => rfl, nes_none h⟩
theorem Upd.emp {ls ls' : List (List UInt8)} {a b c d : Nat} {cs : List (List Sym)} (h : Upd ls ls' a b cs) (he : Emp ls c d) (hd : d ≤ a ∨ b ≤ c) : Emp ls' c d := fun j l hj hk e => he j l hj hk (by rw [← h.2.1 j (by omega)]; exact e)
/-- Two stretches, one behind the other, the later one first. -/
theorem Upd.two {l0 l1 l2 : List (List UInt8)} {a a1 b1 a2 b2 b : Nat} {c1 c2 : List (List Sym)} (h0 : Emp l0 a b) (h2 : Upd l0 l1 a2 b2 c2) (h1 : Upd l1 l2 a1 b1 c1) (o1 : a ≤ a1) (o2 : a1 ≤ b1) (o3 : b1 ≤ a2) (o4 : a2 ≤ b2) (o5 : b2 ≤ b) : Upd l0 l2 a b (c1 ++ c2) := by
  refine ⟨h1.1.trans h2.1, fun j hj => (h1.2.1 j (by omega)).trans (h2.2.1 j (by omega)), ?_⟩
  rw [nes_split l2 (a := a) (m := a1) (b := b) o1 (by omega), nes_split l2 (a := a1) (m := b1) (b := b) o2 (by omega), nes_split l2 (a := b1) (m := a2) (b := b) o3 (by omega), nes_split l2 (a := a2) (m := b2) (b := b) o4 o5]
  have f1 : nes l2 a a1 = [] := nes_none (h1.emp (h2.emp (h0.sub (Nat.le_refl _) (by omega)) (Or.inl (by omega))) (Or.inl (Nat.le_refl _)))
  have f2 : nes l2 b1 a2 = [] := nes_none (h1.emp (h2.emp (h0.sub (by omega) (by omega)) (Or.inl (Nat.le_refl _))) (Or.inr (Nat.le_refl _)))
  have f3 : nes l2 b2 b = [] := nes_none (h1.emp (h2.emp (h0.sub (by omega) (Nat.le_refl _)) (Or.inr (Nat.le_refl _))) (Or.inr (by omega)))
  have f4 : nes l2 a2 b2 = c2.map sbs := (nes_same (fun j hj hk => h1.2.1 j (by omega))).trans h2.2.2
  rw [f1, f2, f3, f4, h1.2.2]
  simp
/-- The earlier one first. -/
theorem Upd.two' {l0 l1 l2 : List (List UInt8)} {a a1 b1 a2 b2 b : Nat} {c1 c2 : List (List Sym)} (h0 : Emp l0 a b) (h1 : Upd l0 l1 a1 b1 c1) (h2 : Upd l1 l2 a2 b2 c2) (o1 : a ≤ a1) (o2 : a1 ≤ b1) (o3 : b1 ≤ a2) (o4 : a2 ≤ b2) (o5 : b2 ≤ b) : Upd l0 l2 a b (c1 ++ c2) := by
  refine ⟨h2.1.trans h1.1, fun j hj => (h2.2.1 j (by omega)).trans (h1.2.1 j (by omega)), ?_⟩
  rw [nes_split l2 (a := a) (m := a1) (b := b) o1 (by omega), nes_split l2 (a := a1) (m := b1) (b := b) o2 (by omega), nes_split l2 (a := b1) (m := a2) (b := b) o3 (by omega), nes_split l2 (a := a2) (m := b2) (b := b) o4 o5]
  have f1 : nes l2 a a1 = [] := nes_none (h2.emp (h1.emp (h0.sub (Nat.le_refl _) (by omega)) (Or.inl (Nat.le_refl _))) (Or.inl (by omega)))
  have f2 : nes l2 b1 a2 = [] := nes_none (h2.emp (h1.emp (h0.sub (by omega) (by omega)) (Or.inr (Nat.le_refl _))) (Or.inl (Nat.le_refl _)))
  have f3 : nes l2 b2 b = [] := nes_none (h2.emp (h1.emp (h0.sub (by omega) (Nat.le_refl _)) (Or.inr (by omega))) (Or.inr (Nat.le_refl _)))
  have f4 : nes l2 a1 b1 = c1.map sbs := (nes_same (fun j hj hk => h2.2.1 j (by omega))).trans h1.2.2
  rw [f1, f2, f3, f4, h2.2.2]
  simp
/-- A loop's two conditions are laid ahead of those of what it does. -/
theorem Upd.while {l0 l1 : List (List UInt8)} {a a2 b2 b : Nat} {c2 : List (List Sym)} {x y : List Sym} (hx : sbs x ≠ []) (hy : sbs y ≠ []) (h0 : Emp l0 a b) (h2 : Upd l0 l1 a2 b2 c2) (o3 : a + 2 ≤ a2) (o4 : a2 ≤ b2) (o5 : b2 ≤ b) (hb : b ≤ l0.length) : Upd l0 ((l1.set a (sbs x)).set (a + 1) (sbs y)) a b (x :: y :: c2) := by
  have ea : ((l1.set a (sbs x)).set (a + 1) (sbs y))[a]? = some (sbs x) := by
    rw [List.getElem?_set_ne (by omega), List.getElem?_set_self (by rw [h2.1]; omega)]
  have eb : ((l1.set a (sbs x)).set (a + 1) (sbs y))[a + 1]? = some (sbs y) := by
    rw [List.getElem?_set_self (by rw [List.length_set, h2.1]; omega)]
  have ec : ∀ j, j < a ∨ a + 2 ≤ j → ((l1.set a (sbs x)).set (a + 1) (sbs y))[j]? = l1[j]? := fun j hj => by
    rw [List.getElem?_set_ne (by omega), List.getElem?_set_ne (by omega)]
  refine ⟨by rw [List.length_set, List.length_set]; exact h2.1, fun j hj => (ec j (by omega)).trans (h2.2.1 j (by omega)), ?_⟩
  rw [nes_split _ (a := a) (m := a + 1) (b := b) (by omega) (by omega), nes_split _ (a := a + 1) (m := a + 2) (b := b) (by omega) (by omega), nes_one ea hx, nes_one eb hy]
  have e : nes ((l1.set a (sbs x)).set (a + 1) (sbs y)) (a + 2) b = nes l1 (a + 2) b := nes_same (fun j hj hk => ec j (by omega))
  rw [e, nes_split l1 (a := a + 2) (m := a2) (b := b) o3 (by omega), nes_split l1 (a := a2) (m := b2) (b := b) o4 o5]
  have f2 : nes l1 (a + 2) a2 = [] := nes_none (h2.emp (h0.sub (by omega) (by omega)) (Or.inl (Nat.le_refl _)))
  have f3 : nes l1 b2 b = [] := nes_none (h2.emp (h0.sub (by omega) (Nat.le_refl _)) (Or.inr (Nat.le_refl _)))
  rw [f2, f3, h2.2.2]
  simp
end Go.Proofs.YtkinoehmcfhgbaaGreatDoor.Vl
