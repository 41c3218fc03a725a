/-
  The walks of the calls Run and Holds.
-/
import Derived.Test.YtkinoehmcfhgbaaGreatDoorM4
set_option linter.unusedVariables false
set_option linter.unusedSimpArgs false
namespace Go.Proofs.YtkinoehmcfhgbaaGreatDoor.Vl
open Go.RowKit
open Go.Proofs.YtkinoehmcfhgbaaGreatDoor.Av (vr Fm Rd Tg sAt Cm Rc Kp set_other Tk2 want tokAt answer postN post3 post3d below_cells Row Row.new Row.kpOld Row.far Row.cells row15 Same below_same IsF IsC Lst PrR range_eq all_mem parse_c ParseEnd fv results_cell σ0)

/-- A formula's cells at a place of a block. -/
def FAt (X : World) (P : Nat → Prop) (B o : Nat) (f : Fm) : Prop := ∃ (k : Int) (a : Option Addr) (n m : Nat) (r a1 a2 a3 a4 : Int), IsF X P f (fv k a n m r a1 a2 a3 a4) ∧ X.cell? ⟨B, o, none⟩ = some (.int .i64 k) ∧ X.cell? ⟨B, o + 1, none⟩ = some (.slice a n m) ∧ X.cell? ⟨B, o + 2, none⟩ = some (.int .i64 r) ∧ X.cell? ⟨B, o + 3, none⟩ = some (.int .i64 a1) ∧ X.cell? ⟨B, o + 4, none⟩ = some (.int .i64 a2) ∧ X.cell? ⟨B, o + 5, none⟩ = some (.int .i64 a3) ∧ X.cell? ⟨B, o + 6, none⟩ = some (.int .i64 a4)
/-- What is read lies in a block. -/
def Lies (toks : List (List UInt8 × Nat)) (X : World) (P : Nat → Prop) (B : Nat) : Prop := ∃ p c q, Prg toks p c q ∧ cOk c ∧ fOk p ∧ fOk q ∧ (∃ g n m ys, X.cell? ⟨B, 7, none⟩ = some (.slice (some ⟨g, 0, none⟩) n m) ∧ Lst X P g n m ys ∧ IsC X P c ys) ∧ FAt X P B 0 p ∧ FAt X P B 8 q
theorem lies_of {toks : List (List UInt8 × Nat)} {P : Nat → Prop} {w1 X : World} {cs : Array Value} {B : Nat} (h : PrR toks 0 P w1 (.agg cs) σ0) (hb : Below w1.heap.size w1 X) (hr : X.rangeAt B 0 cs.toList) : Lies toks X P B := by
  obtain ⟨p, c, q, y, k1, k2, k3, hv, hl, r1, r2, r3, hk, hp, ⟨g, n, m, ys, h7, hL, hI⟩, hq⟩ := h
  have ey : cs.toList = y := by
    have : cs = y.toArray := by injection hv
    rw [this]
  rw [ey] at hr
  have sm : Same P w1 X := below_same hb
  refine ⟨p, c, q, ⟨k1, k2, k3, r1, r2, r3, hk⟩, rc_ok r2, rd_ok r1 (fun g h => by cases h), rd_ok r3 (fun g h => by cases h), ⟨g, n, m, ys, ?_, hL.same sm, hI.same sm⟩, ?_, ?_⟩
  · have := hr 7 _ h7
    rwa [Nat.zero_add] at this
  · obtain ⟨k, a, n, m, r, a1, a2, a3, a4, e⟩ := hp.shape
    have := range_mid hr e
    simp only [Nat.zero_add] at this
    rw [e] at hp
    exact ⟨k, a, n, m, r, a1, a2, a3, a4, hp.same sm, this⟩
  · obtain ⟨k, a, n, m, r, a1, a2, a3, a4, e⟩ := hq.shape
    have := range_mid hr e
    simp only [Nat.zero_add] at this
    rw [e] at hq
    exact ⟨k, a, n, m, r, a1, a2, a3, a4, hq.same sm, this⟩
theorem Lies.on {toks : List (List UInt8 × Nat)} {X Y : World} {P : Nat → Prop} {B : Nat} (h : Lies toks X P B) (hb : Below X.heap.size X Y) (hB : B < X.heap.size) : Lies toks Y P B := by
  obtain ⟨p, c, q, h1, h2, h3, h4, ⟨g, n, m, ys, h7, hL, hI⟩, ⟨k, a, n', m', r, a1, a2, a3, a4, f0, f1, f2, f3, f4, f5, f6, f7⟩, ⟨k', a', n'', m'', r', b1, b2, b3, b4, g0, g1, g2, g3, g4, g5, g6, g7⟩⟩ := h
  have sm : Same P X Y := below_same hb
  have cc : ∀ o, Y.cell? ⟨B, o, none⟩ = X.cell? ⟨B, o, none⟩ := fun o => hb.cell (p := ⟨B, o, none⟩) hB
  exact ⟨p, c, q, h1, h2, h3, h4, ⟨g, n, m, ys, (cc _).trans h7, hL.same sm, hI.same sm⟩, ⟨k, a, n', m', r, a1, a2, a3, a4, f0.same sm, (cc _).trans f1, (cc _).trans f2, (cc _).trans f3, (cc _).trans f4, (cc _).trans f5, (cc _).trans f6, (cc _).trans f7⟩, ⟨k', a', n'', m'', r', b1, b2, b3, b4, g0.same sm, (cc _).trans g1, (cc _).trans g2, (cc _).trans g3, (cc _).trans g4, (cc _).trans g5, (cc _).trans g6, (cc _).trans g7⟩⟩
theorem Prg.det {toks : List (List UInt8 × Nat)} {p q p' q' : Fm} {c c' : Cm} (h : Prg toks p c q) (h' : Prg toks p' c' q') : p = p' ∧ c = c' ∧ q = q' := by
  obtain ⟨k1, k2, k3, r1, r2, r3, _⟩ := h
  obtain ⟨j1, j2, j3, s1, s2, s3, _⟩ := h'
  obtain ⟨rfl, rfl⟩ := r1.det s1
  obtain ⟨rfl, rfl⟩ := r2.det s2
  obtain ⟨rfl, rfl⟩ := r3.det s3
  exact ⟨rfl, rfl, rfl⟩

set_option maxRecDepth 100000 in
set_option maxHeartbeats 2000000 in
theorem crun_any (s : ByteArray) (x1 x2 x3 x4 fuel : Int) (w : World) :
    Calls Tryz.prog 19 #[.string s, .agg #[.int .i64 x1, .int .i64 x2, .int .i64 x3, .int .i64 x4], .int .i64 fuel] w fun e w' => ∃ p c q, ((answer s).1 = 0 → Prg (tokAt 0 (Av.rest s 0)) p c q) ∧ e = .returned (.tuple #[.agg (oV (dAns s x1 x2 x3 x4 fuel c).1).toArray, .int .i64 (dAns s x1 x2 x3 x4 fuel c).2.1, .int .i64 (dAns s x1 x2 x3 x4 fuel c).2.2]) ∧ Below w.heap.size w w' := by
  have CP : Hid (∀ w, Calls Tryz.prog 42 #[.string s] w (ParseEnd (tokAt 0 (Av.rest s 0)) w (answer s))) := fun w => parse_c s w
  have CG : Hid (∀ w, Calls Tryz.prog 43 #[.agg #[.int .i64 x1, .int .i64 x2, .int .i64 x3, .int .i64 x4]] w fun e w' => e = .returned (.bool (gds x1 x2 x3 x4)) ∧ Below w.heap.size w w') := fun w => mayBe_any x1 x2 x3 x4 w
  have HR0 : Hid (Row ((w.alloc (.cells #[.int .i64 x1, .int .i64 x2, .int .i64 x3, .int .i64 x4] 36)).alloc (.cells #[.int .i64 0, .int .i64 0, .int .i64 0, .int .i64 0, .int .i64 0, .int .i64 0] 41)) (w.heap.size + 1) 6) := by
    have := row6 (w.alloc (.cells #[.int .i64 x1, .int .i64 x2, .int .i64 x3, .int .i64 x4] 36))
    rw [show (w.alloc (.cells #[.int .i64 x1, .int .i64 x2, .int .i64 x3, .int .i64 x4] 36)).heap.size = w.heap.size + 1 by simp] at this
    exact this
  have HD : Hid (∀ c, dAns s x1 x2 x3 x4 fuel c = if (answer s).1 ≠ 0 then (r0, (answer s).1, (answer s).2) else if gds x1 x2 x3 x4 = false then (r0, 4, 0) else if fuel < 0 ∨ 10000 < fuel then (r0, 5, 0) else (ex fuel c { x1 := x1, x2 := x2, x3 := x3, x4 := x4, n := 0, e := -1 }, 0, 0)) := fun c => rfl
  generalize tokAt 0 (Av.rest s 0) = toks at *
  generalize dAns s x1 x2 x3 x4 fuel = DA at *
  generalize hWW : answer s = W at *
  clear hWW
  by_cases h0 : W.1 = 0
  · have h0' : (W.1 != 0) = false := by simp [h0]
    cases hg : gds x1 x2 x3 x4
    · have HR : Hid (∀ c, DA c = (r0, 4, 0)) := fun c => by rw [HD.out c, if_neg (by omega), if_pos hg]
      rw [hg] at CG
      go_enter Tryz.func19, Tryz.ntmps19
      go_wp2_with fail
      refine (CP.out _).mono ?_
      rintro e w1 ⟨cs, rfl, hcs1, hcs2, hb1, hPr⟩
      have HB1 : Hid (Below w.heap.size w w1) := (two_newO w _ _).trans (hb1.mono (two_newO w _ _).size)
      have HR1 : Hid (Row w1 (w.heap.size + 1) 6) := HR0.out.below hb1 (by simp)
      have hs1 : w.heap.size + 1 < w1.heap.size := by have := hb1.size; simp at this; omega
      obtain ⟨d0, d1, d2, d3⟩ := st_cells hb1
      have hth0 := (row15 w1).there 0 cs.size (by omega)
      have hi0 : (Tryz.prog.info? 101).map (·.size) = some cs.size := by rw [hcs1]; exact Av.Tryz.infoPrg
      have hcl : cs.toList.length = 15 := by simpa using hcs1
      have hbx : Below w1.heap.size w1 ((w1.alloc (.cells #[.int .i64 0, .slice none 0 0, .int .i64 0, .int .i64 0, .int .i64 0, .int .i64 0, .int .i64 0, .slice none 0 0, .int .i64 0, .slice none 0 0, .int .i64 0, .int .i64 0, .int .i64 0, .int .i64 0, .int .i64 0] 101)).setCells w1.heap.size 0 cs.toList) := below_cells (Nat.le_refl _) _ _ _ (below_alloc _ _)
      have hrx : ((w1.alloc (.cells #[.int .i64 0, .slice none 0 0, .int .i64 0, .int .i64 0, .int .i64 0, .int .i64 0, .int .i64 0, .slice none 0 0, .int .i64 0, .slice none 0 0, .int .i64 0, .int .i64 0, .int .i64 0, .int .i64 0, .int .i64 0] 101)).setCells w1.heap.size 0 cs.toList).rangeAt w1.heap.size 0 cs.toList := World.rangeAt_setCells_same _ _ _ _ (by rw [hcl]; exact (row15 w1).there 0 15 (by omega))
      have hsx : ((w1.alloc (.cells #[.int .i64 0, .slice none 0 0, .int .i64 0, .int .i64 0, .int .i64 0, .int .i64 0, .int .i64 0, .slice none 0 0, .int .i64 0, .slice none 0 0, .int .i64 0, .int .i64 0, .int .i64 0, .int .i64 0, .int .i64 0] 101)).setCells w1.heap.size 0 cs.toList).heap.size = w1.heap.size + 1 := by rw [Av.size_cells]; simp
      have HBX : Hid (Below w.heap.size w ((w1.alloc (.cells #[.int .i64 0, .slice none 0 0, .int .i64 0, .int .i64 0, .int .i64 0, .int .i64 0, .int .i64 0, .slice none 0 0, .int .i64 0, .slice none 0 0, .int .i64 0, .int .i64 0, .int .i64 0, .int .i64 0, .int .i64 0] 101)).setCells w1.heap.size 0 cs.toList)) := HB1.out.trans (hbx.mono HB1.out.size)
      have HRX : Hid (Row ((w1.alloc (.cells #[.int .i64 0, .slice none 0 0, .int .i64 0, .int .i64 0, .int .i64 0, .int .i64 0, .int .i64 0, .slice none 0 0, .int .i64 0, .slice none 0 0, .int .i64 0, .int .i64 0, .int .i64 0, .int .i64 0, .int .i64 0] 101)).setCells w1.heap.size 0 cs.toList) (w.heap.size + 1) 6) := HR1.out.below hbx hs1
      have x0 := (hbx.cell (p := ⟨w.heap.size, 0, none⟩) (by show w.heap.size < _; omega)).trans d0
      have x1' := (hbx.cell (p := ⟨w.heap.size, 1, none⟩) (by show w.heap.size < _; omega)).trans d1
      have x2' := (hbx.cell (p := ⟨w.heap.size, 2, none⟩) (by show w.heap.size < _; omega)).trans d2
      have x3' := (hbx.cell (p := ⟨w.heap.size, 3, none⟩) (by show w.heap.size < _; omega)).trans d3
      have hth := HRX.out.there 0 6 (by omega)
      have HLI : Hid (W.1 = 0 → Lies toks ((w1.alloc (.cells #[.int .i64 0, .slice none 0 0, .int .i64 0, .int .i64 0, .int .i64 0, .int .i64 0, .int .i64 0, .slice none 0 0, .int .i64 0, .slice none 0 0, .int .i64 0, .int .i64 0, .int .i64 0, .int .i64 0, .int .i64 0] 101)).setCells w1.heap.size 0 cs.toList) (fun g => ((w.alloc (.cells #[.int .i64 x1, .int .i64 x2, .int .i64 x3, .int .i64 x4] 36)).alloc (.cells #[.int .i64 0, .int .i64 0, .int .i64 0, .int .i64 0, .int .i64 0, .int .i64 0] 41)).heap.size ≤ g) w1.heap.size) := fun h => lies_of (hPr h) hbx hrx
      clear hPr hb1 hcl hrx hbx d0 d1 d2 d3
      go_wp2_with (refine wpList_store_mid rfl 101 (.tmp 9) (.tmp 15) rfl w1.heap.size 0 cs rfl rfl ?_ hi0 hcs2 ?_; (exact hth0))
      generalize ((w1.alloc (.cells #[.int .i64 0, .slice none 0 0, .int .i64 0, .int .i64 0, .int .i64 0, .int .i64 0, .int .i64 0, .slice none 0 0, .int .i64 0, .slice none 0 0, .int .i64 0, .int .i64 0, .int .i64 0, .int .i64 0, .int .i64 0] 101)).setCells w1.heap.size 0 cs.toList) = X at *
      clear hth0 hi0 hcs2 hcs1
      refine (CG.out _).mono ?_
      rintro e w3 ⟨rfl, hb3⟩
      have HB3 : Hid (Below w.heap.size w w3) := HBX.out.trans (hb3.mono HBX.out.size)
      have HR3 : Hid (Row w3 (w.heap.size + 1) 6) := HRX.out.below hb3 (by omega)
      have hth3 := HR3.out.there 0 6 (by omega)
      go_wp2_with (refine wpList_store_mid rfl 41 (.tmp 6) (.tmp 26) rfl (w.heap.size + 1) 0 #[.int .i64 0, .int .i64 0, .int .i64 0, .int .i64 0, .int .i64 0, .int .i64 0] rfl rfl ?_ ?_ ?_ ?_; (exact hth3); (exact Tryz.infoOut); (exact zero6a))
      obtain ⟨p, c, q, hp, _⟩ := HLI.out h0
      exact post3 [.int .i64 0, .int .i64 0, .int .i64 0, .int .i64 0, .int .i64 0, .int .i64 0] Tryz.results19 rfl rfl rfl Tryz.underlying41 rfl Tryz.infoOut HR3.out rfl ⟨p, c, q, fun _ => hp, by (rw [HR.out c]) <;> rfl, below_cells (by omega) _ _ _ (HB3.out)⟩
    · by_cases hf : fuel < 0 ∨ 10000 < fuel
      · have HR : Hid (∀ c, DA c = (r0, 5, 0)) := fun c => by rw [HD.out c, if_neg (by omega), if_neg (by rw [hg]; decide), if_pos hf]
        rw [hg] at CG
        have hw : fuel < 0 ∨ (¬ fuel < 0 ∧ 10000 < fuel) := by omega
        clear hf
        rcases hw with hf | ⟨hf1, hf⟩
        · go_enter Tryz.func19, Tryz.ntmps19
          go_wp2_with fail
          refine (CP.out _).mono ?_
          rintro e w1 ⟨cs, rfl, hcs1, hcs2, hb1, hPr⟩
          have HB1 : Hid (Below w.heap.size w w1) := (two_newO w _ _).trans (hb1.mono (two_newO w _ _).size)
          have HR1 : Hid (Row w1 (w.heap.size + 1) 6) := HR0.out.below hb1 (by simp)
          have hs1 : w.heap.size + 1 < w1.heap.size := by have := hb1.size; simp at this; omega
          obtain ⟨d0, d1, d2, d3⟩ := st_cells hb1
          have hth0 := (row15 w1).there 0 cs.size (by omega)
          have hi0 : (Tryz.prog.info? 101).map (·.size) = some cs.size := by rw [hcs1]; exact Av.Tryz.infoPrg
          have hcl : cs.toList.length = 15 := by simpa using hcs1
          have hbx : Below w1.heap.size w1 ((w1.alloc (.cells #[.int .i64 0, .slice none 0 0, .int .i64 0, .int .i64 0, .int .i64 0, .int .i64 0, .int .i64 0, .slice none 0 0, .int .i64 0, .slice none 0 0, .int .i64 0, .int .i64 0, .int .i64 0, .int .i64 0, .int .i64 0] 101)).setCells w1.heap.size 0 cs.toList) := below_cells (Nat.le_refl _) _ _ _ (below_alloc _ _)
          have hrx : ((w1.alloc (.cells #[.int .i64 0, .slice none 0 0, .int .i64 0, .int .i64 0, .int .i64 0, .int .i64 0, .int .i64 0, .slice none 0 0, .int .i64 0, .slice none 0 0, .int .i64 0, .int .i64 0, .int .i64 0, .int .i64 0, .int .i64 0] 101)).setCells w1.heap.size 0 cs.toList).rangeAt w1.heap.size 0 cs.toList := World.rangeAt_setCells_same _ _ _ _ (by rw [hcl]; exact (row15 w1).there 0 15 (by omega))
          have hsx : ((w1.alloc (.cells #[.int .i64 0, .slice none 0 0, .int .i64 0, .int .i64 0, .int .i64 0, .int .i64 0, .int .i64 0, .slice none 0 0, .int .i64 0, .slice none 0 0, .int .i64 0, .int .i64 0, .int .i64 0, .int .i64 0, .int .i64 0] 101)).setCells w1.heap.size 0 cs.toList).heap.size = w1.heap.size + 1 := by rw [Av.size_cells]; simp
          have HBX : Hid (Below w.heap.size w ((w1.alloc (.cells #[.int .i64 0, .slice none 0 0, .int .i64 0, .int .i64 0, .int .i64 0, .int .i64 0, .int .i64 0, .slice none 0 0, .int .i64 0, .slice none 0 0, .int .i64 0, .int .i64 0, .int .i64 0, .int .i64 0, .int .i64 0] 101)).setCells w1.heap.size 0 cs.toList)) := HB1.out.trans (hbx.mono HB1.out.size)
          have HRX : Hid (Row ((w1.alloc (.cells #[.int .i64 0, .slice none 0 0, .int .i64 0, .int .i64 0, .int .i64 0, .int .i64 0, .int .i64 0, .slice none 0 0, .int .i64 0, .slice none 0 0, .int .i64 0, .int .i64 0, .int .i64 0, .int .i64 0, .int .i64 0] 101)).setCells w1.heap.size 0 cs.toList) (w.heap.size + 1) 6) := HR1.out.below hbx hs1
          have x0 := (hbx.cell (p := ⟨w.heap.size, 0, none⟩) (by show w.heap.size < _; omega)).trans d0
          have x1' := (hbx.cell (p := ⟨w.heap.size, 1, none⟩) (by show w.heap.size < _; omega)).trans d1
          have x2' := (hbx.cell (p := ⟨w.heap.size, 2, none⟩) (by show w.heap.size < _; omega)).trans d2
          have x3' := (hbx.cell (p := ⟨w.heap.size, 3, none⟩) (by show w.heap.size < _; omega)).trans d3
          have hth := HRX.out.there 0 6 (by omega)
          have HLI : Hid (W.1 = 0 → Lies toks ((w1.alloc (.cells #[.int .i64 0, .slice none 0 0, .int .i64 0, .int .i64 0, .int .i64 0, .int .i64 0, .int .i64 0, .slice none 0 0, .int .i64 0, .slice none 0 0, .int .i64 0, .int .i64 0, .int .i64 0, .int .i64 0, .int .i64 0] 101)).setCells w1.heap.size 0 cs.toList) (fun g => ((w.alloc (.cells #[.int .i64 x1, .int .i64 x2, .int .i64 x3, .int .i64 x4] 36)).alloc (.cells #[.int .i64 0, .int .i64 0, .int .i64 0, .int .i64 0, .int .i64 0, .int .i64 0] 41)).heap.size ≤ g) w1.heap.size) := fun h => lies_of (hPr h) hbx hrx
          clear hPr hb1 hcl hrx hbx d0 d1 d2 d3
          go_wp2_with (refine wpList_store_mid rfl 101 (.tmp 9) (.tmp 15) rfl w1.heap.size 0 cs rfl rfl ?_ hi0 hcs2 ?_; (exact hth0))
          generalize ((w1.alloc (.cells #[.int .i64 0, .slice none 0 0, .int .i64 0, .int .i64 0, .int .i64 0, .int .i64 0, .int .i64 0, .slice none 0 0, .int .i64 0, .slice none 0 0, .int .i64 0, .int .i64 0, .int .i64 0, .int .i64 0, .int .i64 0] 101)).setCells w1.heap.size 0 cs.toList) = X at *
          clear hth0 hi0 hcs2 hcs1
          refine (CG.out _).mono ?_
          rintro e w3 ⟨rfl, hb3⟩
          have HB3 : Hid (Below w.heap.size w w3) := HBX.out.trans (hb3.mono HBX.out.size)
          have HR3 : Hid (Row w3 (w.heap.size + 1) 6) := HRX.out.below hb3 (by omega)
          have hth3 := HR3.out.there 0 6 (by omega)
          go_wp2_with (refine wpList_store_mid rfl 41 (.tmp 6) (.tmp 33) rfl (w.heap.size + 1) 0 #[.int .i64 0, .int .i64 0, .int .i64 0, .int .i64 0, .int .i64 0, .int .i64 0] rfl rfl ?_ ?_ ?_ ?_; (exact hth3); (exact Tryz.infoOut); (exact zero6a))
          obtain ⟨p, c, q, hp, _⟩ := HLI.out h0
          exact post3 [.int .i64 0, .int .i64 0, .int .i64 0, .int .i64 0, .int .i64 0, .int .i64 0] Tryz.results19 rfl rfl rfl Tryz.underlying41 rfl Tryz.infoOut HR3.out rfl ⟨p, c, q, fun _ => hp, by (rw [HR.out c]) <;> rfl, below_cells (by omega) _ _ _ (HB3.out)⟩
        · go_enter Tryz.func19, Tryz.ntmps19
          go_wp2_with fail
          refine (CP.out _).mono ?_
          rintro e w1 ⟨cs, rfl, hcs1, hcs2, hb1, hPr⟩
          have HB1 : Hid (Below w.heap.size w w1) := (two_newO w _ _).trans (hb1.mono (two_newO w _ _).size)
          have HR1 : Hid (Row w1 (w.heap.size + 1) 6) := HR0.out.below hb1 (by simp)
          have hs1 : w.heap.size + 1 < w1.heap.size := by have := hb1.size; simp at this; omega
          obtain ⟨d0, d1, d2, d3⟩ := st_cells hb1
          have hth0 := (row15 w1).there 0 cs.size (by omega)
          have hi0 : (Tryz.prog.info? 101).map (·.size) = some cs.size := by rw [hcs1]; exact Av.Tryz.infoPrg
          have hcl : cs.toList.length = 15 := by simpa using hcs1
          have hbx : Below w1.heap.size w1 ((w1.alloc (.cells #[.int .i64 0, .slice none 0 0, .int .i64 0, .int .i64 0, .int .i64 0, .int .i64 0, .int .i64 0, .slice none 0 0, .int .i64 0, .slice none 0 0, .int .i64 0, .int .i64 0, .int .i64 0, .int .i64 0, .int .i64 0] 101)).setCells w1.heap.size 0 cs.toList) := below_cells (Nat.le_refl _) _ _ _ (below_alloc _ _)
          have hrx : ((w1.alloc (.cells #[.int .i64 0, .slice none 0 0, .int .i64 0, .int .i64 0, .int .i64 0, .int .i64 0, .int .i64 0, .slice none 0 0, .int .i64 0, .slice none 0 0, .int .i64 0, .int .i64 0, .int .i64 0, .int .i64 0, .int .i64 0] 101)).setCells w1.heap.size 0 cs.toList).rangeAt w1.heap.size 0 cs.toList := World.rangeAt_setCells_same _ _ _ _ (by rw [hcl]; exact (row15 w1).there 0 15 (by omega))
          have hsx : ((w1.alloc (.cells #[.int .i64 0, .slice none 0 0, .int .i64 0, .int .i64 0, .int .i64 0, .int .i64 0, .int .i64 0, .slice none 0 0, .int .i64 0, .slice none 0 0, .int .i64 0, .int .i64 0, .int .i64 0, .int .i64 0, .int .i64 0] 101)).setCells w1.heap.size 0 cs.toList).heap.size = w1.heap.size + 1 := by rw [Av.size_cells]; simp
          have HBX : Hid (Below w.heap.size w ((w1.alloc (.cells #[.int .i64 0, .slice none 0 0, .int .i64 0, .int .i64 0, .int .i64 0, .int .i64 0, .int .i64 0, .slice none 0 0, .int .i64 0, .slice none 0 0, .int .i64 0, .int .i64 0, .int .i64 0, .int .i64 0, .int .i64 0] 101)).setCells w1.heap.size 0 cs.toList)) := HB1.out.trans (hbx.mono HB1.out.size)
          have HRX : Hid (Row ((w1.alloc (.cells #[.int .i64 0, .slice none 0 0, .int .i64 0, .int .i64 0, .int .i64 0, .int .i64 0, .int .i64 0, .slice none 0 0, .int .i64 0, .slice none 0 0, .int .i64 0, .int .i64 0, .int .i64 0, .int .i64 0, .int .i64 0] 101)).setCells w1.heap.size 0 cs.toList) (w.heap.size + 1) 6) := HR1.out.below hbx hs1
          have x0 := (hbx.cell (p := ⟨w.heap.size, 0, none⟩) (by show w.heap.size < _; omega)).trans d0
          have x1' := (hbx.cell (p := ⟨w.heap.size, 1, none⟩) (by show w.heap.size < _; omega)).trans d1
          have x2' := (hbx.cell (p := ⟨w.heap.size, 2, none⟩) (by show w.heap.size < _; omega)).trans d2
          have x3' := (hbx.cell (p := ⟨w.heap.size, 3, none⟩) (by show w.heap.size < _; omega)).trans d3
          have hth := HRX.out.there 0 6 (by omega)
          have HLI : Hid (W.1 = 0 → Lies toks ((w1.alloc (.cells #[.int .i64 0, .slice none 0 0, .int .i64 0, .int .i64 0, .int .i64 0, .int .i64 0, .int .i64 0, .slice none 0 0, .int .i64 0, .slice none 0 0, .int .i64 0, .int .i64 0, .int .i64 0, .int .i64 0, .int .i64 0] 101)).setCells w1.heap.size 0 cs.toList) (fun g => ((w.alloc (.cells #[.int .i64 x1, .int .i64 x2, .int .i64 x3, .int .i64 x4] 36)).alloc (.cells #[.int .i64 0, .int .i64 0, .int .i64 0, .int .i64 0, .int .i64 0, .int .i64 0] 41)).heap.size ≤ g) w1.heap.size) := fun h => lies_of (hPr h) hbx hrx
          clear hPr hb1 hcl hrx hbx d0 d1 d2 d3
          go_wp2_with (refine wpList_store_mid rfl 101 (.tmp 9) (.tmp 15) rfl w1.heap.size 0 cs rfl rfl ?_ hi0 hcs2 ?_; (exact hth0))
          generalize ((w1.alloc (.cells #[.int .i64 0, .slice none 0 0, .int .i64 0, .int .i64 0, .int .i64 0, .int .i64 0, .int .i64 0, .slice none 0 0, .int .i64 0, .slice none 0 0, .int .i64 0, .int .i64 0, .int .i64 0, .int .i64 0, .int .i64 0] 101)).setCells w1.heap.size 0 cs.toList) = X at *
          clear hth0 hi0 hcs2 hcs1
          refine (CG.out _).mono ?_
          rintro e w3 ⟨rfl, hb3⟩
          have HB3 : Hid (Below w.heap.size w w3) := HBX.out.trans (hb3.mono HBX.out.size)
          have HR3 : Hid (Row w3 (w.heap.size + 1) 6) := HRX.out.below hb3 (by omega)
          have hth3 := HR3.out.there 0 6 (by omega)
          go_wp2_with (refine wpList_store_mid rfl 41 (.tmp 6) (.tmp 33) rfl (w.heap.size + 1) 0 #[.int .i64 0, .int .i64 0, .int .i64 0, .int .i64 0, .int .i64 0, .int .i64 0] rfl rfl ?_ ?_ ?_ ?_; (exact hth3); (exact Tryz.infoOut); (exact zero6a))
          obtain ⟨p, c, q, hp, _⟩ := HLI.out h0
          exact post3 [.int .i64 0, .int .i64 0, .int .i64 0, .int .i64 0, .int .i64 0, .int .i64 0] Tryz.results19 rfl rfl rfl Tryz.underlying41 rfl Tryz.infoOut HR3.out rfl ⟨p, c, q, fun _ => hp, by (rw [HR.out c]) <;> rfl, below_cells (by omega) _ _ _ (HB3.out)⟩
      · have hff : ¬ fuel < 0 := by omega
        have hff2 : ¬ 10000 < fuel := by omega
        have HR : Hid (∀ c, DA c = (ex fuel c { x1 := x1, x2 := x2, x3 := x3, x4 := x4, n := 0, e := -1 }, 0, 0)) := fun c => by rw [HD.out c, if_neg (by omega), if_neg (by rw [hg]; decide), if_neg hf]
        have CM : Hid (∀ (P : Nat → Prop) (c : Cm) (g k m : Nat) (ys : List (List Value)) (w : World), Lst w P g k m ys → IsC w P c ys → cOk c → Calls Tryz.prog 44 #[.slice (some ⟨g, 0, none⟩) k m, .agg #[.int .i64 x1, .int .i64 x2, .int .i64 x3, .int .i64 x4], .int .i64 fuel] w fun e w' => e = .returned (.agg (oV (ex fuel c { x1 := x1, x2 := x2, x3 := x3, x4 := x4, n := 0, e := -1 })).toArray) ∧ Below w.heap.size w w') := fun P c g k m ys w h1 h2 h3 => mrun_any c g k m ys x1 x2 x3 x4 fuel w h1 h2 h3 hg (by omega)
        rw [hg] at CG
        clear hf
        go_enter Tryz.func19, Tryz.ntmps19
        go_wp2_with fail
        refine (CP.out _).mono ?_
        rintro e w1 ⟨cs, rfl, hcs1, hcs2, hb1, hPr⟩
        have HB1 : Hid (Below w.heap.size w w1) := (two_newO w _ _).trans (hb1.mono (two_newO w _ _).size)
        have HR1 : Hid (Row w1 (w.heap.size + 1) 6) := HR0.out.below hb1 (by simp)
        have hs1 : w.heap.size + 1 < w1.heap.size := by have := hb1.size; simp at this; omega
        obtain ⟨d0, d1, d2, d3⟩ := st_cells hb1
        have hth0 := (row15 w1).there 0 cs.size (by omega)
        have hi0 : (Tryz.prog.info? 101).map (·.size) = some cs.size := by rw [hcs1]; exact Av.Tryz.infoPrg
        have hcl : cs.toList.length = 15 := by simpa using hcs1
        have hbx : Below w1.heap.size w1 ((w1.alloc (.cells #[.int .i64 0, .slice none 0 0, .int .i64 0, .int .i64 0, .int .i64 0, .int .i64 0, .int .i64 0, .slice none 0 0, .int .i64 0, .slice none 0 0, .int .i64 0, .int .i64 0, .int .i64 0, .int .i64 0, .int .i64 0] 101)).setCells w1.heap.size 0 cs.toList) := below_cells (Nat.le_refl _) _ _ _ (below_alloc _ _)
        have hrx : ((w1.alloc (.cells #[.int .i64 0, .slice none 0 0, .int .i64 0, .int .i64 0, .int .i64 0, .int .i64 0, .int .i64 0, .slice none 0 0, .int .i64 0, .slice none 0 0, .int .i64 0, .int .i64 0, .int .i64 0, .int .i64 0, .int .i64 0] 101)).setCells w1.heap.size 0 cs.toList).rangeAt w1.heap.size 0 cs.toList := World.rangeAt_setCells_same _ _ _ _ (by rw [hcl]; exact (row15 w1).there 0 15 (by omega))
        have hsx : ((w1.alloc (.cells #[.int .i64 0, .slice none 0 0, .int .i64 0, .int .i64 0, .int .i64 0, .int .i64 0, .int .i64 0, .slice none 0 0, .int .i64 0, .slice none 0 0, .int .i64 0, .int .i64 0, .int .i64 0, .int .i64 0, .int .i64 0] 101)).setCells w1.heap.size 0 cs.toList).heap.size = w1.heap.size + 1 := by rw [Av.size_cells]; simp
        have HBX : Hid (Below w.heap.size w ((w1.alloc (.cells #[.int .i64 0, .slice none 0 0, .int .i64 0, .int .i64 0, .int .i64 0, .int .i64 0, .int .i64 0, .slice none 0 0, .int .i64 0, .slice none 0 0, .int .i64 0, .int .i64 0, .int .i64 0, .int .i64 0, .int .i64 0] 101)).setCells w1.heap.size 0 cs.toList)) := HB1.out.trans (hbx.mono HB1.out.size)
        have HRX : Hid (Row ((w1.alloc (.cells #[.int .i64 0, .slice none 0 0, .int .i64 0, .int .i64 0, .int .i64 0, .int .i64 0, .int .i64 0, .slice none 0 0, .int .i64 0, .slice none 0 0, .int .i64 0, .int .i64 0, .int .i64 0, .int .i64 0, .int .i64 0] 101)).setCells w1.heap.size 0 cs.toList) (w.heap.size + 1) 6) := HR1.out.below hbx hs1
        have x0 := (hbx.cell (p := ⟨w.heap.size, 0, none⟩) (by show w.heap.size < _; omega)).trans d0
        have x1' := (hbx.cell (p := ⟨w.heap.size, 1, none⟩) (by show w.heap.size < _; omega)).trans d1
        have x2' := (hbx.cell (p := ⟨w.heap.size, 2, none⟩) (by show w.heap.size < _; omega)).trans d2
        have x3' := (hbx.cell (p := ⟨w.heap.size, 3, none⟩) (by show w.heap.size < _; omega)).trans d3
        have hth := HRX.out.there 0 6 (by omega)
        have HLI : Hid (W.1 = 0 → Lies toks ((w1.alloc (.cells #[.int .i64 0, .slice none 0 0, .int .i64 0, .int .i64 0, .int .i64 0, .int .i64 0, .int .i64 0, .slice none 0 0, .int .i64 0, .slice none 0 0, .int .i64 0, .int .i64 0, .int .i64 0, .int .i64 0, .int .i64 0] 101)).setCells w1.heap.size 0 cs.toList) (fun g => ((w.alloc (.cells #[.int .i64 x1, .int .i64 x2, .int .i64 x3, .int .i64 x4] 36)).alloc (.cells #[.int .i64 0, .int .i64 0, .int .i64 0, .int .i64 0, .int .i64 0, .int .i64 0] 41)).heap.size ≤ g) w1.heap.size) := fun h => lies_of (hPr h) hbx hrx
        clear hPr hb1 hcl hrx hbx d0 d1 d2 d3
        go_wp2_with (refine wpList_store_mid rfl 101 (.tmp 9) (.tmp 15) rfl w1.heap.size 0 cs rfl rfl ?_ hi0 hcs2 ?_; (exact hth0))
        generalize ((w1.alloc (.cells #[.int .i64 0, .slice none 0 0, .int .i64 0, .int .i64 0, .int .i64 0, .int .i64 0, .int .i64 0, .slice none 0 0, .int .i64 0, .slice none 0 0, .int .i64 0, .int .i64 0, .int .i64 0, .int .i64 0, .int .i64 0] 101)).setCells w1.heap.size 0 cs.toList) = X at *
        clear hth0 hi0 hcs2 hcs1
        refine (CG.out _).mono ?_
        rintro e w3 ⟨rfl, hb3⟩
        have HB3 : Hid (Below w.heap.size w w3) := HBX.out.trans (hb3.mono HBX.out.size)
        have HR3 : Hid (Row w3 (w.heap.size + 1) 6) := HRX.out.below hb3 (by omega)
        have hl3 := (HLI.out h0).on hb3 (by omega)
        obtain ⟨p, c, q, hp, oc, op, oq, ⟨g, n, m, ys, z7, hL, hI⟩, _, _⟩ := hl3
        have y0 := (hb3.cell (p := ⟨w.heap.size, 0, none⟩) (by show w.heap.size < _; omega)).trans x0
        have y1 := (hb3.cell (p := ⟨w.heap.size, 1, none⟩) (by show w.heap.size < _; omega)).trans x1'
        have y2 := (hb3.cell (p := ⟨w.heap.size, 2, none⟩) (by show w.heap.size < _; omega)).trans x2'
        have y3 := (hb3.cell (p := ⟨w.heap.size, 3, none⟩) (by show w.heap.size < _; omega)).trans x3'
        have hs3 : w1.heap.size < w3.heap.size := by have := hb3.size; omega
        have HP : Hid (Prg toks p c q) := hp
        have HC : Hid (∀ X, Below w3.heap.size w3 X → Calls Tryz.prog 44 #[.slice (some ⟨g, 0, none⟩) n m, .agg #[.int .i64 x1, .int .i64 x2, .int .i64 x3, .int .i64 x4], .int .i64 fuel] X fun e w' => e = .returned (.agg (oV (ex fuel c { x1 := x1, x2 := x2, x3 := x3, x4 := x4, n := 0, e := -1 })).toArray) ∧ Below X.heap.size X w') := fun X hX => CM.out _ c g n m ys X (hL.same (below_same hX)) (hI.same (below_same hX)) oc
        have HRc := HR.out c
        rw [oV_ar] at HC
        have HO : Hid (DA c = (ex fuel c { x1 := x1, x2 := x2, x3 := x3, x4 := x4, n := 0, e := -1 }, 0, 0)) := HRc
        generalize ex fuel c { x1 := x1, x2 := x2, x3 := x3, x4 := x4, n := 0, e := -1 } = E at *
        clear hp hL hI oc op oq HLI CM HRc HR hb3 x0 x1' x2' x3' hth HRX HBX HR1 HB1 HR0
        go_wp2_with fail
        refine (HC.out _ (Below.refl _ _)).mono ?_
        rintro e w4 ⟨rfl, hb4⟩
        have HB4 : Hid (Below w.heap.size w w4) := HB3.out.trans (hb4.mono HB3.out.size)
        have HR4 : Hid (Row w4 (w.heap.size + 1) 6) := HR3.out.below hb4 (by omega)
        clear hb4 HB3 HR3 HC y0 y1 y2 y3 z7
        obtain ⟨⟨u0, z0⟩, f0⟩ := HR4.out.cell 0 (by omega)
        obtain ⟨⟨u1, z1⟩, f1⟩ := HR4.out.cell 1 (by omega)
        obtain ⟨⟨u2, z2⟩, f2⟩ := HR4.out.cell 2 (by omega)
        obtain ⟨⟨u3, z3⟩, f3⟩ := HR4.out.cell 3 (by omega)
        obtain ⟨⟨u4, z4⟩, f4⟩ := HR4.out.cell 4 (by omega)
        obtain ⟨⟨u5, z5⟩, f5⟩ := HR4.out.cell 5 (by omega)
        go_wp2_with fail
        exact post3 (X := w4) (B := w.heap.size + 1) [.int .i64 (kn E), .int .i64 E.x1, .int .i64 E.x2, .int .i64 E.x3, .int .i64 E.x4, .int .i64 E.n] Tryz.results19 rfl rfl rfl Tryz.underlying41 rfl Tryz.infoOut HR4.out rfl ⟨p, c, q, fun _ => HP.out, by (rw [HO.out]) <;> rfl, below_cells (by omega) _ _ _ HB4.out⟩

  · have h0' : (W.1 != 0) = true := by simpa using h0
    have HR : Hid (∀ c, DA c = (r0, W.1, W.2)) := fun c => by rw [HD.out c, if_pos h0]
    have HN : Hid (¬ W.1 = 0) := h0
    clear CG
    go_enter Tryz.func19, Tryz.ntmps19
    go_wp2_with fail
    refine (CP.out _).mono ?_
    rintro e w1 ⟨cs, rfl, hcs1, hcs2, hb1, hPr⟩
    have HB1 : Hid (Below w.heap.size w w1) := (two_newO w _ _).trans (hb1.mono (two_newO w _ _).size)
    have HR1 : Hid (Row w1 (w.heap.size + 1) 6) := HR0.out.below hb1 (by simp)
    have hs1 : w.heap.size + 1 < w1.heap.size := by have := hb1.size; simp at this; omega
    obtain ⟨d0, d1, d2, d3⟩ := st_cells hb1
    have hth0 := (row15 w1).there 0 cs.size (by omega)
    have hi0 : (Tryz.prog.info? 101).map (·.size) = some cs.size := by rw [hcs1]; exact Av.Tryz.infoPrg
    have hcl : cs.toList.length = 15 := by simpa using hcs1
    have hbx : Below w1.heap.size w1 ((w1.alloc (.cells #[.int .i64 0, .slice none 0 0, .int .i64 0, .int .i64 0, .int .i64 0, .int .i64 0, .int .i64 0, .slice none 0 0, .int .i64 0, .slice none 0 0, .int .i64 0, .int .i64 0, .int .i64 0, .int .i64 0, .int .i64 0] 101)).setCells w1.heap.size 0 cs.toList) := below_cells (Nat.le_refl _) _ _ _ (below_alloc _ _)
    have hrx : ((w1.alloc (.cells #[.int .i64 0, .slice none 0 0, .int .i64 0, .int .i64 0, .int .i64 0, .int .i64 0, .int .i64 0, .slice none 0 0, .int .i64 0, .slice none 0 0, .int .i64 0, .int .i64 0, .int .i64 0, .int .i64 0, .int .i64 0] 101)).setCells w1.heap.size 0 cs.toList).rangeAt w1.heap.size 0 cs.toList := World.rangeAt_setCells_same _ _ _ _ (by rw [hcl]; exact (row15 w1).there 0 15 (by omega))
    have hsx : ((w1.alloc (.cells #[.int .i64 0, .slice none 0 0, .int .i64 0, .int .i64 0, .int .i64 0, .int .i64 0, .int .i64 0, .slice none 0 0, .int .i64 0, .slice none 0 0, .int .i64 0, .int .i64 0, .int .i64 0, .int .i64 0, .int .i64 0] 101)).setCells w1.heap.size 0 cs.toList).heap.size = w1.heap.size + 1 := by rw [Av.size_cells]; simp
    have HBX : Hid (Below w.heap.size w ((w1.alloc (.cells #[.int .i64 0, .slice none 0 0, .int .i64 0, .int .i64 0, .int .i64 0, .int .i64 0, .int .i64 0, .slice none 0 0, .int .i64 0, .slice none 0 0, .int .i64 0, .int .i64 0, .int .i64 0, .int .i64 0, .int .i64 0] 101)).setCells w1.heap.size 0 cs.toList)) := HB1.out.trans (hbx.mono HB1.out.size)
    have HRX : Hid (Row ((w1.alloc (.cells #[.int .i64 0, .slice none 0 0, .int .i64 0, .int .i64 0, .int .i64 0, .int .i64 0, .int .i64 0, .slice none 0 0, .int .i64 0, .slice none 0 0, .int .i64 0, .int .i64 0, .int .i64 0, .int .i64 0, .int .i64 0] 101)).setCells w1.heap.size 0 cs.toList) (w.heap.size + 1) 6) := HR1.out.below hbx hs1
    have x0 := (hbx.cell (p := ⟨w.heap.size, 0, none⟩) (by show w.heap.size < _; omega)).trans d0
    have x1' := (hbx.cell (p := ⟨w.heap.size, 1, none⟩) (by show w.heap.size < _; omega)).trans d1
    have x2' := (hbx.cell (p := ⟨w.heap.size, 2, none⟩) (by show w.heap.size < _; omega)).trans d2
    have x3' := (hbx.cell (p := ⟨w.heap.size, 3, none⟩) (by show w.heap.size < _; omega)).trans d3
    have hth := HRX.out.there 0 6 (by omega)
    have HLI : Hid (W.1 = 0 → Lies toks ((w1.alloc (.cells #[.int .i64 0, .slice none 0 0, .int .i64 0, .int .i64 0, .int .i64 0, .int .i64 0, .int .i64 0, .slice none 0 0, .int .i64 0, .slice none 0 0, .int .i64 0, .int .i64 0, .int .i64 0, .int .i64 0, .int .i64 0] 101)).setCells w1.heap.size 0 cs.toList) (fun g => ((w.alloc (.cells #[.int .i64 x1, .int .i64 x2, .int .i64 x3, .int .i64 x4] 36)).alloc (.cells #[.int .i64 0, .int .i64 0, .int .i64 0, .int .i64 0, .int .i64 0, .int .i64 0] 41)).heap.size ≤ g) w1.heap.size) := fun h => lies_of (hPr h) hbx hrx
    clear hPr hb1 hcl hrx hbx d0 d1 d2 d3
    clear HLI
    go_wp2_with (first | (refine wpList_store_mid rfl 101 (.tmp 9) (.tmp 15) rfl w1.heap.size 0 cs rfl rfl ?_ hi0 hcs2 ?_; (exact hth0)) | (refine wpList_store_mid rfl 41 (.tmp 6) (.tmp 20) rfl (w.heap.size + 1) 0 #[.int .i64 0, .int .i64 0, .int .i64 0, .int .i64 0, .int .i64 0, .int .i64 0] rfl rfl ?_ ?_ ?_ ?_; (exact hth); (exact Tryz.infoOut); (exact zero6a)))
    exact post3 [.int .i64 0, .int .i64 0, .int .i64 0, .int .i64 0, .int .i64 0, .int .i64 0] Tryz.results19 rfl rfl rfl Tryz.underlying41 rfl Tryz.infoOut HRX.out rfl ⟨.tt, .skip, .tt, fun h => absurd h HN.out, by (rw [HR.out]) <;> rfl, below_cells (by omega) _ _ _ (HBX.out)⟩

set_option maxRecDepth 100000 in
set_option maxHeartbeats 2000000 in
theorem chol_any (s : ByteArray) (behind : Bool) (x1 x2 x3 x4 : Int) (w : World) :
    Calls Tryz.prog 20 #[.string s, .bool behind, .agg #[.int .i64 x1, .int .i64 x2, .int .i64 x3, .int .i64 x4]] w fun e w' => ∃ p c q, ((answer s).1 = 0 → Prg (tokAt 0 (Av.rest s 0)) p c q) ∧ e = .returned (.tuple #[.bool (hAns s behind x1 x2 x3 x4 p q).1, .int .i64 (hAns s behind x1 x2 x3 x4 p q).2.1, .int .i64 (hAns s behind x1 x2 x3 x4 p q).2.2]) ∧ Below w.heap.size w w' := by
  have CP : Hid (∀ w, Calls Tryz.prog 42 #[.string s] w (ParseEnd (tokAt 0 (Av.rest s 0)) w (answer s))) := fun w => parse_c s w
  have CG : Hid (∀ w, Calls Tryz.prog 43 #[.agg #[.int .i64 x1, .int .i64 x2, .int .i64 x3, .int .i64 x4]] w fun e w' => e = .returned (.bool (gds x1 x2 x3 x4)) ∧ Below w.heap.size w w') := fun w => mayBe_any x1 x2 x3 x4 w
  have HD : Hid (∀ p q, hAns s behind x1 x2 x3 x4 p q = if (answer s).1 ≠ 0 then (false, (answer s).1, (answer s).2) else if gds x1 x2 x3 x4 = false then (false, 4, 0) else (ev x1 x2 x3 x4 (if behind then q else p), 0, 0)) := fun p q => rfl
  generalize tokAt 0 (Av.rest s 0) = toks at *
  generalize hAns s behind x1 x2 x3 x4 = DA at *
  generalize hWW : answer s = W at *
  clear hWW
  by_cases h0 : W.1 = 0
  · have h0' : (W.1 != 0) = false := by simp [h0]
    cases hg : gds x1 x2 x3 x4
    · have HR : Hid (∀ p q, DA p q = (false, 4, 0)) := fun p q => by rw [HD.out p q, if_neg (by omega), if_pos hg]
      rw [hg] at CG
      go_enter Tryz.func20, Tryz.ntmps20
      go_wp2_with fail
      refine (CP.out _).mono ?_
      rintro e w1 ⟨cs, rfl, hcs1, hcs2, hb1, hPr⟩
      have HB1 : Hid (Below w.heap.size w w1) := (below_alloc w _).trans (hb1.mono (by simp))
      have hs1 : w.heap.size < w1.heap.size := by have := hb1.size; simp at this; omega
      have d0 : w1.cell? ⟨w.heap.size, 0, none⟩ = some (.int .i64 x1) := (hb1.cell (p := ⟨w.heap.size, 0, none⟩) (by simp)).trans (by simp)
      have d1 : w1.cell? ⟨w.heap.size, 1, none⟩ = some (.int .i64 x2) := (hb1.cell (p := ⟨w.heap.size, 1, none⟩) (by simp)).trans (by simp)
      have d2 : w1.cell? ⟨w.heap.size, 2, none⟩ = some (.int .i64 x3) := (hb1.cell (p := ⟨w.heap.size, 2, none⟩) (by simp)).trans (by simp)
      have d3 : w1.cell? ⟨w.heap.size, 3, none⟩ = some (.int .i64 x4) := (hb1.cell (p := ⟨w.heap.size, 3, none⟩) (by simp)).trans (by simp)
      have hth0 := (row15 w1).there 0 cs.size (by omega)
      have hi0 : (Tryz.prog.info? 101).map (·.size) = some cs.size := by rw [hcs1]; exact Av.Tryz.infoPrg
      have hcl : cs.toList.length = 15 := by simpa using hcs1
      have hbx : Below w1.heap.size w1 ((w1.alloc (.cells #[.int .i64 0, .slice none 0 0, .int .i64 0, .int .i64 0, .int .i64 0, .int .i64 0, .int .i64 0, .slice none 0 0, .int .i64 0, .slice none 0 0, .int .i64 0, .int .i64 0, .int .i64 0, .int .i64 0, .int .i64 0] 101)).setCells w1.heap.size 0 cs.toList) := below_cells (Nat.le_refl _) _ _ _ (below_alloc _ _)
      have hrx : ((w1.alloc (.cells #[.int .i64 0, .slice none 0 0, .int .i64 0, .int .i64 0, .int .i64 0, .int .i64 0, .int .i64 0, .slice none 0 0, .int .i64 0, .slice none 0 0, .int .i64 0, .int .i64 0, .int .i64 0, .int .i64 0, .int .i64 0] 101)).setCells w1.heap.size 0 cs.toList).rangeAt w1.heap.size 0 cs.toList := World.rangeAt_setCells_same _ _ _ _ (by rw [hcl]; exact (row15 w1).there 0 15 (by omega))
      have hsx : ((w1.alloc (.cells #[.int .i64 0, .slice none 0 0, .int .i64 0, .int .i64 0, .int .i64 0, .int .i64 0, .int .i64 0, .slice none 0 0, .int .i64 0, .slice none 0 0, .int .i64 0, .int .i64 0, .int .i64 0, .int .i64 0, .int .i64 0] 101)).setCells w1.heap.size 0 cs.toList).heap.size = w1.heap.size + 1 := by rw [Av.size_cells]; simp
      have HBX : Hid (Below w.heap.size w ((w1.alloc (.cells #[.int .i64 0, .slice none 0 0, .int .i64 0, .int .i64 0, .int .i64 0, .int .i64 0, .int .i64 0, .slice none 0 0, .int .i64 0, .slice none 0 0, .int .i64 0, .int .i64 0, .int .i64 0, .int .i64 0, .int .i64 0] 101)).setCells w1.heap.size 0 cs.toList)) := HB1.out.trans (hbx.mono HB1.out.size)
      have x0 := (hbx.cell (p := ⟨w.heap.size, 0, none⟩) (by show w.heap.size < _; omega)).trans d0
      have x1' := (hbx.cell (p := ⟨w.heap.size, 1, none⟩) (by show w.heap.size < _; omega)).trans d1
      have x2' := (hbx.cell (p := ⟨w.heap.size, 2, none⟩) (by show w.heap.size < _; omega)).trans d2
      have x3' := (hbx.cell (p := ⟨w.heap.size, 3, none⟩) (by show w.heap.size < _; omega)).trans d3
      have HLI : Hid (W.1 = 0 → Lies toks ((w1.alloc (.cells #[.int .i64 0, .slice none 0 0, .int .i64 0, .int .i64 0, .int .i64 0, .int .i64 0, .int .i64 0, .slice none 0 0, .int .i64 0, .slice none 0 0, .int .i64 0, .int .i64 0, .int .i64 0, .int .i64 0, .int .i64 0] 101)).setCells w1.heap.size 0 cs.toList) (fun g => (w.alloc (.cells #[.int .i64 x1, .int .i64 x2, .int .i64 x3, .int .i64 x4] 36)).heap.size ≤ g) w1.heap.size) := fun h => lies_of (hPr h) hbx hrx
      clear hPr hb1 hcl hrx hbx d0 d1 d2 d3
      go_wp2_with (refine wpList_store_mid rfl 101 (.tmp 9) (.tmp 15) rfl w1.heap.size 0 cs rfl rfl ?_ hi0 hcs2 ?_; (exact hth0))
      generalize ((w1.alloc (.cells #[.int .i64 0, .slice none 0 0, .int .i64 0, .int .i64 0, .int .i64 0, .int .i64 0, .int .i64 0, .slice none 0 0, .int .i64 0, .slice none 0 0, .int .i64 0, .int .i64 0, .int .i64 0, .int .i64 0, .int .i64 0] 101)).setCells w1.heap.size 0 cs.toList) = X at *
      clear hth0 hi0 hcs2 hcs1
      refine (CG.out _).mono ?_
      rintro e w3 ⟨rfl, hb3⟩
      go_wp2_with fail
      go_ret3
      obtain ⟨p, c, q, hp, _⟩ := HLI.out h0
      exact ⟨p, c, q, fun _ => hp, by (rw [HR.out]) <;> rfl, HBX.out.trans (hb3.mono HBX.out.size)⟩
    · have HR : Hid (∀ p q, DA p q = (ev x1 x2 x3 x4 (if behind then q else p), 0, 0)) := fun p q => by rw [HD.out p q, if_neg (by omega), if_neg (by rw [hg]; decide)]
      have CM : Hid (∀ (P : Nat → Prop) (f : Fm) (L : List Value) (w : World), IsF w P f L → fOk f → Calls Tryz.prog 45 #[.agg L.toArray, .agg #[.int .i64 x1, .int .i64 x2, .int .i64 x3, .int .i64 x4]] w fun e w' => e = .returned (.bool (ev x1 x2 x3 x4 f)) ∧ Below w.heap.size w w') := fun P f L w h1 h2 => holds_any hg f L w h1 h2
      rw [hg] at CG
      cases behind
      · go_enter Tryz.func20, Tryz.ntmps20
        go_wp2_with fail
        refine (CP.out _).mono ?_
        rintro e w1 ⟨cs, rfl, hcs1, hcs2, hb1, hPr⟩
        have HB1 : Hid (Below w.heap.size w w1) := (below_alloc w _).trans (hb1.mono (by simp))
        have hs1 : w.heap.size < w1.heap.size := by have := hb1.size; simp at this; omega
        have d0 : w1.cell? ⟨w.heap.size, 0, none⟩ = some (.int .i64 x1) := (hb1.cell (p := ⟨w.heap.size, 0, none⟩) (by simp)).trans (by simp)
        have d1 : w1.cell? ⟨w.heap.size, 1, none⟩ = some (.int .i64 x2) := (hb1.cell (p := ⟨w.heap.size, 1, none⟩) (by simp)).trans (by simp)
        have d2 : w1.cell? ⟨w.heap.size, 2, none⟩ = some (.int .i64 x3) := (hb1.cell (p := ⟨w.heap.size, 2, none⟩) (by simp)).trans (by simp)
        have d3 : w1.cell? ⟨w.heap.size, 3, none⟩ = some (.int .i64 x4) := (hb1.cell (p := ⟨w.heap.size, 3, none⟩) (by simp)).trans (by simp)
        have hth0 := (row15 w1).there 0 cs.size (by omega)
        have hi0 : (Tryz.prog.info? 101).map (·.size) = some cs.size := by rw [hcs1]; exact Av.Tryz.infoPrg
        have hcl : cs.toList.length = 15 := by simpa using hcs1
        have hbx : Below w1.heap.size w1 ((w1.alloc (.cells #[.int .i64 0, .slice none 0 0, .int .i64 0, .int .i64 0, .int .i64 0, .int .i64 0, .int .i64 0, .slice none 0 0, .int .i64 0, .slice none 0 0, .int .i64 0, .int .i64 0, .int .i64 0, .int .i64 0, .int .i64 0] 101)).setCells w1.heap.size 0 cs.toList) := below_cells (Nat.le_refl _) _ _ _ (below_alloc _ _)
        have hrx : ((w1.alloc (.cells #[.int .i64 0, .slice none 0 0, .int .i64 0, .int .i64 0, .int .i64 0, .int .i64 0, .int .i64 0, .slice none 0 0, .int .i64 0, .slice none 0 0, .int .i64 0, .int .i64 0, .int .i64 0, .int .i64 0, .int .i64 0] 101)).setCells w1.heap.size 0 cs.toList).rangeAt w1.heap.size 0 cs.toList := World.rangeAt_setCells_same _ _ _ _ (by rw [hcl]; exact (row15 w1).there 0 15 (by omega))
        have hsx : ((w1.alloc (.cells #[.int .i64 0, .slice none 0 0, .int .i64 0, .int .i64 0, .int .i64 0, .int .i64 0, .int .i64 0, .slice none 0 0, .int .i64 0, .slice none 0 0, .int .i64 0, .int .i64 0, .int .i64 0, .int .i64 0, .int .i64 0] 101)).setCells w1.heap.size 0 cs.toList).heap.size = w1.heap.size + 1 := by rw [Av.size_cells]; simp
        have HBX : Hid (Below w.heap.size w ((w1.alloc (.cells #[.int .i64 0, .slice none 0 0, .int .i64 0, .int .i64 0, .int .i64 0, .int .i64 0, .int .i64 0, .slice none 0 0, .int .i64 0, .slice none 0 0, .int .i64 0, .int .i64 0, .int .i64 0, .int .i64 0, .int .i64 0] 101)).setCells w1.heap.size 0 cs.toList)) := HB1.out.trans (hbx.mono HB1.out.size)
        have x0 := (hbx.cell (p := ⟨w.heap.size, 0, none⟩) (by show w.heap.size < _; omega)).trans d0
        have x1' := (hbx.cell (p := ⟨w.heap.size, 1, none⟩) (by show w.heap.size < _; omega)).trans d1
        have x2' := (hbx.cell (p := ⟨w.heap.size, 2, none⟩) (by show w.heap.size < _; omega)).trans d2
        have x3' := (hbx.cell (p := ⟨w.heap.size, 3, none⟩) (by show w.heap.size < _; omega)).trans d3
        have HLI : Hid (W.1 = 0 → Lies toks ((w1.alloc (.cells #[.int .i64 0, .slice none 0 0, .int .i64 0, .int .i64 0, .int .i64 0, .int .i64 0, .int .i64 0, .slice none 0 0, .int .i64 0, .slice none 0 0, .int .i64 0, .int .i64 0, .int .i64 0, .int .i64 0, .int .i64 0] 101)).setCells w1.heap.size 0 cs.toList) (fun g => (w.alloc (.cells #[.int .i64 x1, .int .i64 x2, .int .i64 x3, .int .i64 x4] 36)).heap.size ≤ g) w1.heap.size) := fun h => lies_of (hPr h) hbx hrx
        clear hPr hb1 hcl hrx hbx d0 d1 d2 d3
        go_wp2_with (refine wpList_store_mid rfl 101 (.tmp 9) (.tmp 15) rfl w1.heap.size 0 cs rfl rfl ?_ hi0 hcs2 ?_; (exact hth0))
        generalize ((w1.alloc (.cells #[.int .i64 0, .slice none 0 0, .int .i64 0, .int .i64 0, .int .i64 0, .int .i64 0, .int .i64 0, .slice none 0 0, .int .i64 0, .slice none 0 0, .int .i64 0, .int .i64 0, .int .i64 0, .int .i64 0, .int .i64 0] 101)).setCells w1.heap.size 0 cs.toList) = X at *
        clear hth0 hi0 hcs2 hcs1
        refine (CG.out _).mono ?_
        rintro e w3 ⟨rfl, hb3⟩
        have HB3 : Hid (Below w.heap.size w w3) := HBX.out.trans (hb3.mono HBX.out.size)
        have hl3 := (HLI.out h0).on hb3 (by omega)
        obtain ⟨p, c, q, hp, oc, op, oq, _, ⟨k, a, n, m, r, a1, a2, a3, a4, f0, f1, f2, f3, f4, f5, f6, f7⟩, _⟩ := hl3
        have y0 := (hb3.cell (p := ⟨w.heap.size, 0, none⟩) (by show w.heap.size < _; omega)).trans x0
        have y1 := (hb3.cell (p := ⟨w.heap.size, 1, none⟩) (by show w.heap.size < _; omega)).trans x1'
        have y2 := (hb3.cell (p := ⟨w.heap.size, 2, none⟩) (by show w.heap.size < _; omega)).trans x2'
        have y3 := (hb3.cell (p := ⟨w.heap.size, 3, none⟩) (by show w.heap.size < _; omega)).trans x3'
        have HP : Hid (Prg toks p c q) := hp
        have HC : Hid (Calls Tryz.prog 45 #[.agg #[.int .i64 k, .slice a n m, .int .i64 r, .int .i64 a1, .int .i64 a2, .int .i64 a3, .int .i64 a4], .agg #[.int .i64 x1, .int .i64 x2, .int .i64 x3, .int .i64 x4]] w3 fun e w' => e = .returned (.bool (ev x1 x2 x3 x4 p)) ∧ Below w3.heap.size w3 w') := CM.out _ p _ w3 f0 op
        have HO : Hid (DA p q = (ev x1 x2 x3 x4 p, 0, 0)) := HR.out p q
        generalize ev x1 x2 x3 x4 p = E at *
        clear hp f0 oc op oq HLI CM HR hb3 x0 x1' x2' x3' HBX HB1
        go_wp2_with fail
        refine HC.out.mono ?_
        rintro e w4 ⟨rfl, hb4⟩
        go_wp2_with fail
        go_ret3
        exact ⟨p, c, q, fun _ => HP.out, by (rw [HO.out]) <;> rfl, HB3.out.trans (hb4.mono HB3.out.size)⟩
      · go_enter Tryz.func20, Tryz.ntmps20
        go_wp2_with fail
        refine (CP.out _).mono ?_
        rintro e w1 ⟨cs, rfl, hcs1, hcs2, hb1, hPr⟩
        have HB1 : Hid (Below w.heap.size w w1) := (below_alloc w _).trans (hb1.mono (by simp))
        have hs1 : w.heap.size < w1.heap.size := by have := hb1.size; simp at this; omega
        have d0 : w1.cell? ⟨w.heap.size, 0, none⟩ = some (.int .i64 x1) := (hb1.cell (p := ⟨w.heap.size, 0, none⟩) (by simp)).trans (by simp)
        have d1 : w1.cell? ⟨w.heap.size, 1, none⟩ = some (.int .i64 x2) := (hb1.cell (p := ⟨w.heap.size, 1, none⟩) (by simp)).trans (by simp)
        have d2 : w1.cell? ⟨w.heap.size, 2, none⟩ = some (.int .i64 x3) := (hb1.cell (p := ⟨w.heap.size, 2, none⟩) (by simp)).trans (by simp)
        have d3 : w1.cell? ⟨w.heap.size, 3, none⟩ = some (.int .i64 x4) := (hb1.cell (p := ⟨w.heap.size, 3, none⟩) (by simp)).trans (by simp)
        have hth0 := (row15 w1).there 0 cs.size (by omega)
        have hi0 : (Tryz.prog.info? 101).map (·.size) = some cs.size := by rw [hcs1]; exact Av.Tryz.infoPrg
        have hcl : cs.toList.length = 15 := by simpa using hcs1
        have hbx : Below w1.heap.size w1 ((w1.alloc (.cells #[.int .i64 0, .slice none 0 0, .int .i64 0, .int .i64 0, .int .i64 0, .int .i64 0, .int .i64 0, .slice none 0 0, .int .i64 0, .slice none 0 0, .int .i64 0, .int .i64 0, .int .i64 0, .int .i64 0, .int .i64 0] 101)).setCells w1.heap.size 0 cs.toList) := below_cells (Nat.le_refl _) _ _ _ (below_alloc _ _)
        have hrx : ((w1.alloc (.cells #[.int .i64 0, .slice none 0 0, .int .i64 0, .int .i64 0, .int .i64 0, .int .i64 0, .int .i64 0, .slice none 0 0, .int .i64 0, .slice none 0 0, .int .i64 0, .int .i64 0, .int .i64 0, .int .i64 0, .int .i64 0] 101)).setCells w1.heap.size 0 cs.toList).rangeAt w1.heap.size 0 cs.toList := World.rangeAt_setCells_same _ _ _ _ (by rw [hcl]; exact (row15 w1).there 0 15 (by omega))
        have hsx : ((w1.alloc (.cells #[.int .i64 0, .slice none 0 0, .int .i64 0, .int .i64 0, .int .i64 0, .int .i64 0, .int .i64 0, .slice none 0 0, .int .i64 0, .slice none 0 0, .int .i64 0, .int .i64 0, .int .i64 0, .int .i64 0, .int .i64 0] 101)).setCells w1.heap.size 0 cs.toList).heap.size = w1.heap.size + 1 := by rw [Av.size_cells]; simp
        have HBX : Hid (Below w.heap.size w ((w1.alloc (.cells #[.int .i64 0, .slice none 0 0, .int .i64 0, .int .i64 0, .int .i64 0, .int .i64 0, .int .i64 0, .slice none 0 0, .int .i64 0, .slice none 0 0, .int .i64 0, .int .i64 0, .int .i64 0, .int .i64 0, .int .i64 0] 101)).setCells w1.heap.size 0 cs.toList)) := HB1.out.trans (hbx.mono HB1.out.size)
        have x0 := (hbx.cell (p := ⟨w.heap.size, 0, none⟩) (by show w.heap.size < _; omega)).trans d0
        have x1' := (hbx.cell (p := ⟨w.heap.size, 1, none⟩) (by show w.heap.size < _; omega)).trans d1
        have x2' := (hbx.cell (p := ⟨w.heap.size, 2, none⟩) (by show w.heap.size < _; omega)).trans d2
        have x3' := (hbx.cell (p := ⟨w.heap.size, 3, none⟩) (by show w.heap.size < _; omega)).trans d3
        have HLI : Hid (W.1 = 0 → Lies toks ((w1.alloc (.cells #[.int .i64 0, .slice none 0 0, .int .i64 0, .int .i64 0, .int .i64 0, .int .i64 0, .int .i64 0, .slice none 0 0, .int .i64 0, .slice none 0 0, .int .i64 0, .int .i64 0, .int .i64 0, .int .i64 0, .int .i64 0] 101)).setCells w1.heap.size 0 cs.toList) (fun g => (w.alloc (.cells #[.int .i64 x1, .int .i64 x2, .int .i64 x3, .int .i64 x4] 36)).heap.size ≤ g) w1.heap.size) := fun h => lies_of (hPr h) hbx hrx
        clear hPr hb1 hcl hrx hbx d0 d1 d2 d3
        go_wp2_with (refine wpList_store_mid rfl 101 (.tmp 9) (.tmp 15) rfl w1.heap.size 0 cs rfl rfl ?_ hi0 hcs2 ?_; (exact hth0))
        generalize ((w1.alloc (.cells #[.int .i64 0, .slice none 0 0, .int .i64 0, .int .i64 0, .int .i64 0, .int .i64 0, .int .i64 0, .slice none 0 0, .int .i64 0, .slice none 0 0, .int .i64 0, .int .i64 0, .int .i64 0, .int .i64 0, .int .i64 0] 101)).setCells w1.heap.size 0 cs.toList) = X at *
        clear hth0 hi0 hcs2 hcs1
        refine (CG.out _).mono ?_
        rintro e w3 ⟨rfl, hb3⟩
        have HB3 : Hid (Below w.heap.size w w3) := HBX.out.trans (hb3.mono HBX.out.size)
        have hl3 := (HLI.out h0).on hb3 (by omega)
        obtain ⟨p, c, q, hp, oc, op, oq, _, _, ⟨k, a, n, m, r, a1, a2, a3, a4, f0, f1, f2, f3, f4, f5, f6, f7⟩⟩ := hl3
        have y0 := (hb3.cell (p := ⟨w.heap.size, 0, none⟩) (by show w.heap.size < _; omega)).trans x0
        have y1 := (hb3.cell (p := ⟨w.heap.size, 1, none⟩) (by show w.heap.size < _; omega)).trans x1'
        have y2 := (hb3.cell (p := ⟨w.heap.size, 2, none⟩) (by show w.heap.size < _; omega)).trans x2'
        have y3 := (hb3.cell (p := ⟨w.heap.size, 3, none⟩) (by show w.heap.size < _; omega)).trans x3'
        have HP : Hid (Prg toks p c q) := hp
        have HC : Hid (Calls Tryz.prog 45 #[.agg #[.int .i64 k, .slice a n m, .int .i64 r, .int .i64 a1, .int .i64 a2, .int .i64 a3, .int .i64 a4], .agg #[.int .i64 x1, .int .i64 x2, .int .i64 x3, .int .i64 x4]] w3 fun e w' => e = .returned (.bool (ev x1 x2 x3 x4 q)) ∧ Below w3.heap.size w3 w') := CM.out _ q _ w3 f0 oq
        have HO : Hid (DA p q = (ev x1 x2 x3 x4 q, 0, 0)) := HR.out p q
        generalize ev x1 x2 x3 x4 q = E at *
        clear hp f0 oc op oq HLI CM HR hb3 x0 x1' x2' x3' HBX HB1
        go_wp2_with fail
        refine HC.out.mono ?_
        rintro e w4 ⟨rfl, hb4⟩
        go_wp2_with fail
        go_ret3
        exact ⟨p, c, q, fun _ => HP.out, by (rw [HO.out]) <;> rfl, HB3.out.trans (hb4.mono HB3.out.size)⟩
  · have h0' : (W.1 != 0) = true := by simpa using h0
    have HR : Hid (∀ p q, DA p q = (false, W.1, W.2)) := fun p q => by rw [HD.out p q, if_pos h0]
    have HN : Hid (¬ W.1 = 0) := h0
    clear CG
    go_enter Tryz.func20, Tryz.ntmps20
    go_wp2_with fail
    refine (CP.out _).mono ?_
    rintro e w1 ⟨cs, rfl, hcs1, hcs2, hb1, hPr⟩
    have HB1 : Hid (Below w.heap.size w w1) := (below_alloc w _).trans (hb1.mono (by simp))
    have hs1 : w.heap.size < w1.heap.size := by have := hb1.size; simp at this; omega
    have d0 : w1.cell? ⟨w.heap.size, 0, none⟩ = some (.int .i64 x1) := (hb1.cell (p := ⟨w.heap.size, 0, none⟩) (by simp)).trans (by simp)
    have d1 : w1.cell? ⟨w.heap.size, 1, none⟩ = some (.int .i64 x2) := (hb1.cell (p := ⟨w.heap.size, 1, none⟩) (by simp)).trans (by simp)
    have d2 : w1.cell? ⟨w.heap.size, 2, none⟩ = some (.int .i64 x3) := (hb1.cell (p := ⟨w.heap.size, 2, none⟩) (by simp)).trans (by simp)
    have d3 : w1.cell? ⟨w.heap.size, 3, none⟩ = some (.int .i64 x4) := (hb1.cell (p := ⟨w.heap.size, 3, none⟩) (by simp)).trans (by simp)
    have hth0 := (row15 w1).there 0 cs.size (by omega)
    have hi0 : (Tryz.prog.info? 101).map (·.size) = some cs.size := by rw [hcs1]; exact Av.Tryz.infoPrg
    have hcl : cs.toList.length = 15 := by simpa using hcs1
    have hbx : Below w1.heap.size w1 ((w1.alloc (.cells #[.int .i64 0, .slice none 0 0, .int .i64 0, .int .i64 0, .int .i64 0, .int .i64 0, .int .i64 0, .slice none 0 0, .int .i64 0, .slice none 0 0, .int .i64 0, .int .i64 0, .int .i64 0, .int .i64 0, .int .i64 0] 101)).setCells w1.heap.size 0 cs.toList) := below_cells (Nat.le_refl _) _ _ _ (below_alloc _ _)
    have hrx : ((w1.alloc (.cells #[.int .i64 0, .slice none 0 0, .int .i64 0, .int .i64 0, .int .i64 0, .int .i64 0, .int .i64 0, .slice none 0 0, .int .i64 0, .slice none 0 0, .int .i64 0, .int .i64 0, .int .i64 0, .int .i64 0, .int .i64 0] 101)).setCells w1.heap.size 0 cs.toList).rangeAt w1.heap.size 0 cs.toList := World.rangeAt_setCells_same _ _ _ _ (by rw [hcl]; exact (row15 w1).there 0 15 (by omega))
    have hsx : ((w1.alloc (.cells #[.int .i64 0, .slice none 0 0, .int .i64 0, .int .i64 0, .int .i64 0, .int .i64 0, .int .i64 0, .slice none 0 0, .int .i64 0, .slice none 0 0, .int .i64 0, .int .i64 0, .int .i64 0, .int .i64 0, .int .i64 0] 101)).setCells w1.heap.size 0 cs.toList).heap.size = w1.heap.size + 1 := by rw [Av.size_cells]; simp
    have HBX : Hid (Below w.heap.size w ((w1.alloc (.cells #[.int .i64 0, .slice none 0 0, .int .i64 0, .int .i64 0, .int .i64 0, .int .i64 0, .int .i64 0, .slice none 0 0, .int .i64 0, .slice none 0 0, .int .i64 0, .int .i64 0, .int .i64 0, .int .i64 0, .int .i64 0] 101)).setCells w1.heap.size 0 cs.toList)) := HB1.out.trans (hbx.mono HB1.out.size)
    have x0 := (hbx.cell (p := ⟨w.heap.size, 0, none⟩) (by show w.heap.size < _; omega)).trans d0
    have x1' := (hbx.cell (p := ⟨w.heap.size, 1, none⟩) (by show w.heap.size < _; omega)).trans d1
    have x2' := (hbx.cell (p := ⟨w.heap.size, 2, none⟩) (by show w.heap.size < _; omega)).trans d2
    have x3' := (hbx.cell (p := ⟨w.heap.size, 3, none⟩) (by show w.heap.size < _; omega)).trans d3
    have HLI : Hid (W.1 = 0 → Lies toks ((w1.alloc (.cells #[.int .i64 0, .slice none 0 0, .int .i64 0, .int .i64 0, .int .i64 0, .int .i64 0, .int .i64 0, .slice none 0 0, .int .i64 0, .slice none 0 0, .int .i64 0, .int .i64 0, .int .i64 0, .int .i64 0, .int .i64 0] 101)).setCells w1.heap.size 0 cs.toList) (fun g => (w.alloc (.cells #[.int .i64 x1, .int .i64 x2, .int .i64 x3, .int .i64 x4] 36)).heap.size ≤ g) w1.heap.size) := fun h => lies_of (hPr h) hbx hrx
    clear hPr hb1 hcl hrx hbx d0 d1 d2 d3
    clear HLI
    go_wp2_with (refine wpList_store_mid rfl 101 (.tmp 9) (.tmp 15) rfl w1.heap.size 0 cs rfl rfl ?_ hi0 hcs2 ?_; (exact hth0))
    go_ret3
    exact ⟨.tt, .skip, .tt, fun h => absurd h HN.out, by (rw [HR.out]) <;> rfl, HBX.out⟩
end Go.Proofs.YtkinoehmcfhgbaaGreatDoor.Vl
