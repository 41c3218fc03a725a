/-
  The walk of the parser's method comparison.
-/
import Derived.Test.YtkinoehmcfhgbaaGreatDoorQ1
set_option linter.unusedVariables false
set_option linter.unusedSimpArgs false
namespace Go.Proofs.YtkinoehmcfhgbaaGreatDoor.Av
open Go.RowKit

variable {toks : List (List UInt8 × Nat)} {len : Nat}

theorem ssize (w : World) (a : Addr) (u : Value) : (w.setCell a u).heap.size = w.heap.size := by simp [World.setCell]
theorem kfar {b B : Nat} {W w1 : World} (hk : Kp b W w1) (hb : b < B) (hB : B < W.heap.size) (o : Nat) : w1.cell? ⟨B, o, none⟩ = W.cell? ⟨B, o, none⟩ := hk.cell (p := ⟨B, o, none⟩) hB (by show B ≠ b; omega)
theorem sfar (w : World) (k o B j : Nat) (u : Value) (h : k ≠ B) : (w.setCell ⟨k, o, none⟩ u).cell? ⟨B, j, none⟩ = w.cell? ⟨B, j, none⟩ :=
  World.cell?_of_block (Below.heap_setCell w ⟨k, o, none⟩ u B (by show B ≠ k; omega))


theorem load7 (w : World) (B : Nat) (c0 c1 c2 c3 c4 c5 c6 : Value) (h0 : w.cell? ⟨B, 0, none⟩ = some c0) (h1 : w.cell? ⟨B, 1, none⟩ = some c1) (h2 : w.cell? ⟨B, 2, none⟩ = some c2) (h3 : w.cell? ⟨B, 3, none⟩ = some c3) (h4 : w.cell? ⟨B, 4, none⟩ = some c4) (h5 : w.cell? ⟨B, 5, none⟩ = some c5) (h6 : w.cell? ⟨B, 6, none⟩ = some c6) :
    (loadVar 98 ⟨B, 0, none⟩).run Tryz.prog w = .ok (.agg #[c0, c1, c2, c3, c4, c5, c6]) w := by
  simp [go_sem, h0, h1, h2, h3, h4, h5, h6]
theorem results_cell {fn : Func} {tmps : Array Value} {w : World} {k : Nat} {t : TypeId} {a : Addr} {v : Value} (hf : fn.results = #[.cell k t]) (ht : tmps.getD k undef = .pointer (some a)) (hl : (loadVar t a).run Tryz.prog w = .ok v w) : (results fn tmps).run Tryz.prog w = .ok v w := by
  have ht' : (tmps[k]?.getD undef) = .pointer (some a) := by simpa using ht
  simp [results, hf, ht', hl, asAddr]
theorem set_same (w : World) (a : Addr) (u : Value) (h : ∃ v, w.cell? a = some v) : (w.setCell a u).cell? a = some u := by obtain ⟨v, h⟩ := h; exact World.cell?_setCell_same _ _ _ h

/-- A method ends with a Formula that it has laid into its result's block. -/
theorem post7 {fn : Func} {R : Ending → World → Prop} {tmps : Array Value} {X : World} {B k : Nat} {c0 c1 c2 c3 c4 c5 c6 : Value} (hf : fn.results = #[.cell k 98]) (ht : tmps.getD k undef = .pointer (some ⟨B, 0, none⟩)) (hx : ∀ j, j < 7 → ∃ u, X.cell? ⟨B, j, none⟩ = some u)
    (hR : R (.returned (.agg #[c0, c1, c2, c3, c4, c5, c6])) (((((((X.setCell ⟨B, 0, none⟩ c0).setCell ⟨B, 1, none⟩ c1).setCell ⟨B, 2, none⟩ c2).setCell ⟨B, 3, none⟩ c3).setCell ⟨B, 4, none⟩ c4).setCell ⟨B, 5, none⟩ c5).setCell ⟨B, 6, none⟩ c6)) : bodyPost Tryz.prog fn R .ret ⟨tmps, []⟩ (((((((X.setCell ⟨B, 0, none⟩ c0).setCell ⟨B, 1, none⟩ c1).setCell ⟨B, 2, none⟩ c2).setCell ⟨B, 3, none⟩ c3).setCell ⟨B, 4, none⟩ c4).setCell ⟨B, 5, none⟩ c5).setCell ⟨B, 6, none⟩ c6) :=
  bodyPost_ret (results_cell hf ht (load7 _ B c0 c1 c2 c3 c4 c5 c6 (by rw [set_other _ _ _ _ _ (by omega), set_other _ _ _ _ _ (by omega), set_other _ _ _ _ _ (by omega), set_other _ _ _ _ _ (by omega), set_other _ _ _ _ _ (by omega), set_other _ _ _ _ _ (by omega)]; exact set_same _ _ _ (by exact hx 0 (by omega))) (by rw [set_other _ _ _ _ _ (by omega), set_other _ _ _ _ _ (by omega), set_other _ _ _ _ _ (by omega), set_other _ _ _ _ _ (by omega), set_other _ _ _ _ _ (by omega)]; exact set_same _ _ _ (by rw [set_other _ _ _ _ _ (by omega)]; exact hx 1 (by omega))) (by rw [set_other _ _ _ _ _ (by omega), set_other _ _ _ _ _ (by omega), set_other _ _ _ _ _ (by omega), set_other _ _ _ _ _ (by omega)]; exact set_same _ _ _ (by rw [set_other _ _ _ _ _ (by omega), set_other _ _ _ _ _ (by omega)]; exact hx 2 (by omega))) (by rw [set_other _ _ _ _ _ (by omega), set_other _ _ _ _ _ (by omega), set_other _ _ _ _ _ (by omega)]; exact set_same _ _ _ (by rw [set_other _ _ _ _ _ (by omega), set_other _ _ _ _ _ (by omega), set_other _ _ _ _ _ (by omega)]; exact hx 3 (by omega))) (by rw [set_other _ _ _ _ _ (by omega), set_other _ _ _ _ _ (by omega)]; exact set_same _ _ _ (by rw [set_other _ _ _ _ _ (by omega), set_other _ _ _ _ _ (by omega), set_other _ _ _ _ _ (by omega), set_other _ _ _ _ _ (by omega)]; exact hx 4 (by omega))) (by rw [set_other _ _ _ _ _ (by omega)]; exact set_same _ _ _ (by rw [set_other _ _ _ _ _ (by omega), set_other _ _ _ _ _ (by omega), set_other _ _ _ _ _ (by omega), set_other _ _ _ _ _ (by omega), set_other _ _ _ _ _ (by omega)]; exact hx 5 (by omega))) (by exact set_same _ _ _ (by rw [set_other _ _ _ _ _ (by omega), set_other _ _ _ _ _ (by omega), set_other _ _ _ _ _ (by omega), set_other _ _ _ _ _ (by omega), set_other _ _ _ _ _ (by omega), set_other _ _ _ _ _ (by omega)]; exact hx 6 (by omega))))) rfl hR

theorem At.w7 {X : World} {b tb cap : Nat} {T : List (Int × Int × Int)} {σ : PSt} (h : At X b tb cap T σ) (B : Nat) (c0 c1 c2 c3 c4 c5 c6 : Value) (h1 : b < B) (h2 : tb < B) : At (((((((X.setCell ⟨B, 0, none⟩ c0).setCell ⟨B, 1, none⟩ c1).setCell ⟨B, 2, none⟩ c2).setCell ⟨B, 3, none⟩ c3).setCell ⟨B, 4, none⟩ c4).setCell ⟨B, 5, none⟩ c5).setCell ⟨B, 6, none⟩ c6) b tb cap T σ :=
  (((((((h.other B 0 c0 h1 h2).other B 1 c1 h1 h2).other B 2 c2 h1 h2).other B 3 c3 h1 h2).other B 4 c4 h1 h2).other B 5 c5 h1 h2).other B 6 c6 h1 h2)
theorem Kp.w7 {b : Nat} {w X : World} (h : Kp b w X) (B : Nat) (c0 c1 c2 c3 c4 c5 c6 : Value) (h1 : w.heap.size ≤ B) : Kp b w (((((((X.setCell ⟨B, 0, none⟩ c0).setCell ⟨B, 1, none⟩ c1).setCell ⟨B, 2, none⟩ c2).setCell ⟨B, 3, none⟩ c3).setCell ⟨B, 4, none⟩ c4).setCell ⟨B, 5, none⟩ c5).setCell ⟨B, 6, none⟩ c6) :=
  (((((((h.fresh B 0 c0 h1).fresh B 1 c1 h1).fresh B 2 c2 h1).fresh B 3 c3 h1).fresh B 4 c4 h1).fresh B 5 c5 h1).fresh B 6 c6 h1)
theorem zero7 (w : World) (c0 c1 c2 c3 c4 c5 c6 : Value) (t : TypeId) : ∀ j, j < 7 → ∃ u, (w.alloc (.cells #[c0, c1, c2, c3, c4, c5, c6] t)).cell? ⟨w.heap.size, j, none⟩ = some u := by
  intro j hj
  match j, hj with
  | 0, _ => exact ⟨c0, by simp⟩
  | 1, _ => exact ⟨c1, by simp⟩
  | 2, _ => exact ⟨c2, by simp⟩
  | 3, _ => exact ⟨c3, by simp⟩
  | 4, _ => exact ⟨c4, by simp⟩
  | 5, _ => exact ⟨c5, by simp⟩
  | 6, _ => exact ⟨c6, by simp⟩
theorem afar (w : World) (o : Obj) (B j : Nat) (h : B < w.heap.size) : (w.alloc o).cell? ⟨B, j, none⟩ = w.cell? ⟨B, j, none⟩ := (below_alloc w o).cell (p := ⟨B, j, none⟩) h
theorem asize (w : World) (o : Obj) : (w.alloc o).heap.size = w.heap.size + 1 := by simp

set_option maxRecDepth 100000 in
set_option maxHeartbeats 2000000 in
theorem comparison_c (hk : AllTok toks) (hn : toks.length ≤ 300) (b tb cap : Nat) (w : World) (σ : PSt) (h : At w b tb cap (T3 toks len) σ) (ho : Ok toks.length σ) :
    Calls Tryz.prog 252 #[.pointer (some ⟨b, 0, none⟩)] w (PPost b tb cap toks len σ w formV (fun σ' => ∀ st, fin toks len σ (cTerm :: cRelation :: cTerm :: st) = fin toks len σ' st) (fun _ v σ' => ∃ (p : Option Addr) (n c : Nat), v = .agg (fv 2 p n c (rel (sAt toks (trm toks σ.pos).2.2)) (trm toks σ.pos).1 (trm toks σ.pos).2.1 (trm toks ((trm toks σ.pos).2.2 + 1)).1 (trm toks ((trm toks σ.pos).2.2 + 1)).2.1).toArray ∧ σ'.pos = (trm toks ((trm toks σ.pos).2.2 + 1)).2.2)) := by
  have H : Hid (At w b tb cap (T3 toks len) σ) := h
  have HO : Hid (Ok toks.length σ) := ho
  have hb := h.hb
  have htb := h.htb
  have hb1 : b < w.heap.size + 1 := by omega
  have htb1 : tb < w.heap.size + 1 := by omega
  clear h ho
  go_enter Tryz.func252, Tryz.ntmps252
  go_wp2_with fail
  refine (term_c hk hn b tb cap _ σ ((H.out.alloc _).alloc _) HO.out).mono ?_
  rintro e w1 ⟨v1, σ1, rfl, ⟨m1, n1, rfl⟩, hA1, hG1, hK1, hS1, hR1⟩
  have HR1 : Hid _ := hR1
  clear hR1
  obtain ⟨hc1, hf1⟩ := kcell hK1 hb
  have hz1 : w.heap.size + 1 < w1.heap.size := by have := hK1.size; simp at this; omega
  have hy1 : w.heap.size < w1.heap.size := by omega
  have HS1 : Hid _ := hS1
  clear hS1
  go_wp2_with fail
  refine (relation_c hk hn b tb cap _ σ1 ((hA1.other _ _ _ hb1 htb1).other _ _ _ hb1 htb1) hG1.1).mono ?_
  rintro e w2 ⟨v2, σ2, rfl, ⟨n2, rfl⟩, hA2, hG2, hK2, hS2, hR2⟩
  have HR2 : Hid _ := hR2
  clear hR2
  obtain ⟨hc2, hf2⟩ := kcell hK2 hb
  have hz2 : w.heap.size + 1 < w2.heap.size := by have := hK2.size; simp [World.setCell] at this; omega
  have hy2 : w.heap.size < w2.heap.size := by omega
  have HS2 : Hid _ := hS2
  clear hS2
  go_wp2_with fail
  refine (term_c hk hn b tb cap _ σ2 (hA2.other _ _ _ hb1 htb1) hG2.1).mono ?_
  rintro e w3 ⟨v3, σ3, rfl, ⟨m3, n3, rfl⟩, hA3, hG3, hK3, hS3, hR3⟩
  have HR3 : Hid _ := hR3
  clear hR3
  obtain ⟨hc3, hf3⟩ := kcell hK3 hb
  have hz3 : w.heap.size + 1 < w3.heap.size := by have := hK3.size; simp [World.setCell] at this; omega
  have hy3 : w.heap.size < w3.heap.size := by omega
  have HS3 : Hid _ := hS3
  clear hS3
  go_wp2_with fail
  refine post7 Tryz.results252 rfl ?_ ⟨_, σ3, rfl, ⟨_, _, _, _, _, _, _, _, _, rfl⟩, ?_, hG1.trans (hG2.trans hG3), ?_, fun st => (HS1.out _).trans ((HS2.out _).trans (HS3.out st)), fun he => ?_⟩
  · intro j hj
    rw [sfar _ _ _ _ _ _ (by omega), sfar _ _ _ _ _ _ (by omega), kfar hK3 hb (by rw [ssize]; omega), sfar _ _ _ _ _ _ (by omega), kfar hK2 hb (by rw [ssize, ssize]; omega), sfar _ _ _ _ _ _ (by omega), sfar _ _ _ _ _ _ (by omega), kfar hK1 hb (by rw [asize, asize]; omega), afar _ _ _ _ (by rw [asize]; omega)]
    exact zero7 _ _ _ _ _ _ _ _ _ j hj
  · exact At.w7 ((hA3.other _ _ _ hb1 htb1).other _ _ _ hb1 htb1) _ _ _ _ _ _ _ _ hb htb
  · have k1 : Kp b w w1 := (((Kp.refl b w).alloc _).alloc _).trans hK1
    have k2 : Kp b w w2 := ((k1.fresh _ _ _ (by omega)).fresh _ _ _ (by omega)).trans hK2
    have k3 : Kp b w w3 := (k2.fresh _ _ _ (by omega)).trans hK3
    exact Kp.w7 ((k3.fresh _ _ _ (by omega)).fresh _ _ _ (by omega)) _ _ _ _ _ _ _ _ (Nat.le_refl _)
  · have he2 := (hG3.2.2 he).1
    have he1 := (hG2.2.2 he2).1
    obtain ⟨v1, p1⟩ := HR1.out he1
    obtain ⟨v2, p2⟩ := HR2.out he2
    obtain ⟨v3, p3⟩ := HR3.out he
    rw [p1] at v2 p2
    rw [p2] at v3 p3
    cases v1; cases v2; cases v3
    exact ⟨_, _, _, rfl, p3⟩

end Go.Proofs.YtkinoehmcfhgbaaGreatDoor.Av
