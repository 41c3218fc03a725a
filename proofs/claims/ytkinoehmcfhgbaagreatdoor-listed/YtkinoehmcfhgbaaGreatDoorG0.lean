/-
  Formulas and commands as they lie in memory.
  The walk of the parser's method comparison.
-/
import Derived.Test.YtkinoehmcfhgbaaGreatDoorQ1
import Derived.Deep.MidRow
set_option linter.unusedVariables false
set_option linter.unusedSimpArgs false
namespace Go.Proofs.YtkinoehmcfhgbaaGreatDoor.Av
open Go.RowKit

def fv (k : Int) (p : Option Addr) (n c : Nat) (r a1 a2 a3 a4 : Int) : List Value := [.int .i64 k, .slice p n c, .int .i64 r, .int .i64 a1, .int .i64 a2, .int .i64 a3, .int .i64 a4]
/-- A formula's seven cells; its parts lie in blocks of which P is so. -/
def IsF (w : World) (P : Nat → Prop) : Fm → List Value → Prop
  | .tt, v => ∃ (p : Option Addr) (n c : Nat) (r a1 a2 a3 a4 : Int), v = fv 0 p n c r a1 a2 a3 a4
  | .ff, v => ∃ (p : Option Addr) (n c : Nat) (r a1 a2 a3 a4 : Int), v = fv 1 p n c r a1 a2 a3 a4
  | .cmp r a b, v => ∃ (p : Option Addr) (n c : Nat), v = fv 2 p n c r a.1 a.2 b.1 b.2
  | .no f, v => ∃ (g c : Nat) (r a1 a2 a3 a4 : Int) (u : List Value), v = fv 3 (some ⟨g, 0, none⟩) 1 c r a1 a2 a3 a4 ∧ P g ∧ g < w.heap.size ∧ 1 ≤ c ∧ c ≤ maxLen ∧ w.rangeAt g 0 u ∧ IsF w P f u
  | .and f h, v => ∃ (g c : Nat) (r a1 a2 a3 a4 : Int) (u1 u2 : List Value), v = fv 4 (some ⟨g, 0, none⟩) 2 c r a1 a2 a3 a4 ∧ P g ∧ g < w.heap.size ∧ 2 ≤ c ∧ c ≤ maxLen ∧ w.rangeAt g 0 u1 ∧ w.rangeAt g 7 u2 ∧ IsF w P f u1 ∧ IsF w P h u2
  | .or f h, v => ∃ (g c : Nat) (r a1 a2 a3 a4 : Int) (u1 u2 : List Value), v = fv 5 (some ⟨g, 0, none⟩) 2 c r a1 a2 a3 a4 ∧ P g ∧ g < w.heap.size ∧ 2 ≤ c ∧ c ≤ maxLen ∧ w.rangeAt g 0 u1 ∧ w.rangeAt g 7 u2 ∧ IsF w P f u1 ∧ IsF w P h u2
/-- What lies in blocks of which P is so is as it was. -/
def Same (P : Nat → Prop) (w w' : World) : Prop := w.heap.size ≤ w'.heap.size ∧ ∀ g o, P g → g < w.heap.size → w'.cell? ⟨g, o, none⟩ = w.cell? ⟨g, o, none⟩
theorem Same.refl (P : Nat → Prop) (w : World) : Same P w w := ⟨Nat.le_refl _, fun _ _ _ _ => rfl⟩
theorem Same.trans {P : Nat → Prop} {a b c : World} (h : Same P a b) (k : Same P b c) : Same P a c := ⟨Nat.le_trans h.1 k.1, fun g o h1 h2 => (k.2 g o h1 (Nat.lt_of_lt_of_le h2 h.1)).trans (h.2 g o h1 h2)⟩
theorem Same.mono {P P' : Nat → Prop} {a b : World} (h : Same P a b) (hl : ∀ g, P' g → g < a.heap.size → P g) : Same P' a b := ⟨h.1, fun g o h1 h2 => h.2 g o (hl g h1 h2) h2⟩
theorem Kp.same {b : Nat} {P : Nat → Prop} {w w' : World} (h : Kp b w w') (hb : ¬ P b) : Same P w w' := ⟨h.size, fun g o h1 h2 => h.cell (p := ⟨g, o, none⟩) h2 (by show g ≠ b; intro e; subst e; exact hb h1)⟩
theorem below_same {P : Nat → Prop} {w w' : World} (h : Below w.heap.size w w') : Same P w w' := ⟨h.size, fun g o h1 h2 => h.cell (p := ⟨g, o, none⟩) h2⟩
theorem same_alloc (P : Nat → Prop) (w : World) (o : Obj) : Same P w (w.alloc o) := below_same (below_alloc w o)
theorem same_drew (P : Nat → Prop) (w : World) : Same P w w.drew := ⟨Nat.le_refl _, fun _ _ _ _ => rfl⟩
theorem same_set (P : Nat → Prop) (w : World) (B o : Nat) (u : Value) (h : ¬ P B) : Same P w (w.setCell ⟨B, o, none⟩ u) := ⟨by simp [World.setCell], fun g j h1 h2 => World.cell?_of_block (Below.heap_setCell w ⟨B, o, none⟩ u g (by show g ≠ B; intro e; subst e; exact h h1))⟩
theorem same_sets (P : Nat → Prop) (B : Nat) (h : ¬ P B) : ∀ (vs : List Value) (o : Nat) (w : World), Same P w (w.setCells B o vs)
  | [], o, w => Same.refl _ _
  | v :: vs, o, w => (same_set P w B o v h).trans (same_sets P B h vs (o + 1) _)
theorem range_same {P : Nat → Prop} {g o : Nat} {w w' : World} {cs : List Value} (h : w.rangeAt g o cs) (hs : Same P w w') (h1 : P g) (h2 : g < w.heap.size) : w'.rangeAt g o cs := fun j v hv => (hs.2 g (o + j) h1 h2).trans (h j v hv)
theorem IsF.same {P : Nat → Prop} {w w' : World} (hs : Same P w w') : ∀ {f : Fm} {v : List Value}, IsF w P f v → IsF w' P f v
  | .tt, _, h => h
  | .ff, _, h => h
  | .cmp _ _ _, _, h => h
  | .no f, _, ⟨g, c, r, a1, a2, a3, a4, u, e, h1, h2, h3, h4, h5, h6⟩ => ⟨g, c, r, a1, a2, a3, a4, u, e, h1, Nat.lt_of_lt_of_le h2 hs.1, h3, h4, range_same h5 hs h1 h2, IsF.same hs h6⟩
  | .and f h, _, ⟨g, c, r, a1, a2, a3, a4, u1, u2, e, h1, h2, h3, h4, h5, h6, h7, h8⟩ => ⟨g, c, r, a1, a2, a3, a4, u1, u2, e, h1, Nat.lt_of_lt_of_le h2 hs.1, h3, h4, range_same h5 hs h1 h2, range_same h6 hs h1 h2, IsF.same hs h7, IsF.same hs h8⟩
  | .or f h, _, ⟨g, c, r, a1, a2, a3, a4, u1, u2, e, h1, h2, h3, h4, h5, h6, h7, h8⟩ => ⟨g, c, r, a1, a2, a3, a4, u1, u2, e, h1, Nat.lt_of_lt_of_le h2 hs.1, h3, h4, range_same h5 hs h1 h2, range_same h6 hs h1 h2, IsF.same hs h7, IsF.same hs h8⟩
theorem IsF.mono {P P' : Nat → Prop} {w : World} (hl : ∀ g, P g → g < w.heap.size → P' g) : ∀ {f : Fm} {v : List Value}, IsF w P f v → IsF w P' f v
  | .tt, _, h => h
  | .ff, _, h => h
  | .cmp _ _ _, _, h => h
  | .no f, _, ⟨g, c, r, a1, a2, a3, a4, u, e, h1, h2, h3, h4, h5, h6⟩ => ⟨g, c, r, a1, a2, a3, a4, u, e, hl g h1 h2, h2, h3, h4, h5, IsF.mono hl h6⟩
  | .and f h, _, ⟨g, c, r, a1, a2, a3, a4, u1, u2, e, h1, h2, h3, h4, h5, h6, h7, h8⟩ => ⟨g, c, r, a1, a2, a3, a4, u1, u2, e, hl g h1 h2, h2, h3, h4, h5, h6, IsF.mono hl h7, IsF.mono hl h8⟩
  | .or f h, _, ⟨g, c, r, a1, a2, a3, a4, u1, u2, e, h1, h2, h3, h4, h5, h6, h7, h8⟩ => ⟨g, c, r, a1, a2, a3, a4, u1, u2, e, hl g h1 h2, h2, h3, h4, h5, h6, IsF.mono hl h7, IsF.mono hl h8⟩
theorem IsF.shape {P : Nat → Prop} {w : World} : ∀ {f : Fm} {v : List Value}, IsF w P f v → ∃ (k : Int) (p : Option Addr) (n c : Nat) (r a1 a2 a3 a4 : Int), v = fv k p n c r a1 a2 a3 a4
  | .tt, _, ⟨p, n, c, r, a1, a2, a3, a4, e⟩ => ⟨_, _, _, _, _, _, _, _, _, e⟩
  | .ff, _, ⟨p, n, c, r, a1, a2, a3, a4, e⟩ => ⟨_, _, _, _, _, _, _, _, _, e⟩
  | .cmp _ _ _, _, ⟨p, n, c, e⟩ => ⟨_, _, _, _, _, _, _, _, _, e⟩
  | .no f, _, ⟨g, c, r, a1, a2, a3, a4, u, e, _⟩ => ⟨_, _, _, _, _, _, _, _, _, e⟩
  | .and f h, _, ⟨g, c, r, a1, a2, a3, a4, u1, u2, e, _⟩ => ⟨_, _, _, _, _, _, _, _, _, e⟩
  | .or f h, _, ⟨g, c, r, a1, a2, a3, a4, u1, u2, e, _⟩ => ⟨_, _, _, _, _, _, _, _, _, e⟩
theorem IsF.len {P : Nat → Prop} {w : World} {f : Fm} {v : List Value} (h : IsF w P f v) : v.length = 7 := by
  obtain ⟨k, p, n, c, r, a1, a2, a3, a4, e⟩ := h.shape
  rw [e]; rfl
/-- What a reader of formulas answers. -/
def FR (toks : List (List UInt8 × Nat)) (t : Tg) (k : Nat) (P : Nat → Prop) (w' : World) (v : Value) (σ' : PSt) : Prop := ∃ f cs, v = .agg cs.toArray ∧ Rd toks t k f σ'.pos ∧ IsF w' P f cs
theorem FR.same {toks : List (List UInt8 × Nat)} {t : Tg} {k : Nat} {P P' : Nat → Prop} {w w' : World} {v : Value} {σ' : PSt} (h : FR toks t k P w v σ') (hs : Same P w w') (hl : ∀ g, P g → g < w'.heap.size → P' g) : FR toks t k P' w' v σ' := by
  obtain ⟨f, cs, h1, h2, h3⟩ := h
  exact ⟨f, cs, h1, h2, (h3.same hs).mono hl⟩

/-- A list of commands' cells. -/
def Lst (w : World) (P : Nat → Prop) (g n c : Nat) (ys : List (List Value)) : Prop := P g ∧ g < w.heap.size ∧ ys.length = n ∧ n ≤ c ∧ c ≤ maxLen ∧ w.rangeAt g 0 ys.flatten ∧ ∀ y ∈ ys, y.length = 20
theorem Lst.same {P : Nat → Prop} {g n c : Nat} {w w' : World} {ys : List (List Value)} (h : Lst w P g n c ys) (hs : Same P w w') : Lst w' P g n c ys := by
  obtain ⟨h1, h2, h3, h4, h5, h6, h7⟩ := h
  exact ⟨h1, Nat.lt_of_lt_of_le h2 hs.1, h3, h4, h5, range_same h6 hs h1 h2, h7⟩
theorem Lst.mono {P P' : Nat → Prop} {g n c : Nat} {w : World} {ys : List (List Value)} (h : Lst w P g n c ys) (hl : ∀ g, P g → g < w.heap.size → P' g) : Lst w P' g n c ys := by
  obtain ⟨h1, h2, h3, h4, h5, h6, h7⟩ := h
  exact ⟨hl g h1 h2, h2, h3, h4, h5, h6, h7⟩
def IsC (w : World) (P : Nat → Prop) : Cm → List (List Value) → Prop
  | .skip, xs => ∃ y, xs = [y] ∧ y.length = 20 ∧ y[0]? = some (.int .i64 0)
  | .asg x t, xs => ∃ y, xs = [y] ∧ y.length = 20 ∧ y[0]? = some (.int .i64 1) ∧ y[1]? = some (.int .i64 x) ∧ y[2]? = some (.int .i64 t.1) ∧ y[3]? = some (.int .i64 t.2)
  | .ite f a b, xs => ∃ y, xs = [y] ∧ y.length = 20 ∧ y[0]? = some (.int .i64 2) ∧ IsF w P f ((y.drop 4).take 7) ∧
      (∃ g n c ys, y[18]? = some (.slice (some ⟨g, 0, none⟩) n c) ∧ Lst w P g n c ys ∧ IsC w P a ys) ∧ (∃ g n c ys, y[19]? = some (.slice (some ⟨g, 0, none⟩) n c) ∧ Lst w P g n c ys ∧ IsC w P b ys)
  | .loop f h a, xs => ∃ y, xs = [y] ∧ y.length = 20 ∧ y[0]? = some (.int .i64 3) ∧ IsF w P f ((y.drop 4).take 7) ∧ IsF w P h ((y.drop 11).take 7) ∧
      (∃ g n c ys, y[18]? = some (.slice (some ⟨g, 0, none⟩) n c) ∧ Lst w P g n c ys ∧ IsC w P a ys)
  | .seq a b, xs => ∃ y ys, xs = y :: ys ∧ IsC w P a [y] ∧ IsC w P b ys
theorem IsC.same {P : Nat → Prop} {w w' : World} (hs : Same P w w') : ∀ {c : Cm} {xs : List (List Value)}, IsC w P c xs → IsC w' P c xs
  | .skip, _, h => h
  | .asg _ _, _, h => h
  | .ite f a b, _, ⟨y, e, hl, h0, hf, ⟨g, n, c, ys, h1, h2, h3⟩, ⟨g', n', c', ys', h1', h2', h3'⟩⟩ => ⟨y, e, hl, h0, hf.same hs, ⟨g, n, c, ys, h1, h2.same hs, IsC.same hs h3⟩, ⟨g', n', c', ys', h1', h2'.same hs, IsC.same hs h3'⟩⟩
  | .loop f h a, _, ⟨y, e, hl, h0, hf, hg, ⟨g, n, c, ys, h1, h2, h3⟩⟩ => ⟨y, e, hl, h0, hf.same hs, hg.same hs, ⟨g, n, c, ys, h1, h2.same hs, IsC.same hs h3⟩⟩
  | .seq a b, _, ⟨y, ys, e, h1, h2⟩ => ⟨y, ys, e, IsC.same hs h1, IsC.same hs h2⟩
theorem IsC.mono {P P' : Nat → Prop} {w : World} (hm : ∀ g, P g → g < w.heap.size → P' g) : ∀ {c : Cm} {xs : List (List Value)}, IsC w P c xs → IsC w P' c xs
  | .skip, _, h => h
  | .asg _ _, _, h => h
  | .ite f a b, _, ⟨y, e, hl, h0, hf, ⟨g, n, c, ys, h1, h2, h3⟩, ⟨g', n', c', ys', h1', h2', h3'⟩⟩ => ⟨y, e, hl, h0, hf.mono hm, ⟨g, n, c, ys, h1, h2.mono hm, IsC.mono hm h3⟩, ⟨g', n', c', ys', h1', h2'.mono hm, IsC.mono hm h3'⟩⟩
  | .loop f h a, _, ⟨y, e, hl, h0, hf, hg, ⟨g, n, c, ys, h1, h2, h3⟩⟩ => ⟨y, e, hl, h0, hf.mono hm, hg.mono hm, ⟨g, n, c, ys, h1, h2.mono hm, IsC.mono hm h3⟩⟩
  | .seq a b, _, ⟨y, ys, e, h1, h2⟩ => ⟨y, ys, e, IsC.mono hm h1, IsC.mono hm h2⟩
/-- What a reader of a command, of commands answers. -/
def CR (toks : List (List UInt8 × Nat)) (k : Nat) (P : Nat → Prop) (w' : World) (v : Value) (σ' : PSt) : Prop := ∃ c y, v = .agg (List.toArray y) ∧ Rc toks false k c σ'.pos ∧ IsC w' P c [y]
def CsR (toks : List (List UInt8 × Nat)) (k : Nat) (P : Nat → Prop) (w' : World) (v : Value) (σ' : PSt) : Prop := ∃ c g n cap ys, v = .slice (some ⟨g, 0, none⟩) n cap ∧ Rc toks true k c σ'.pos ∧ Lst w' P g n cap ys ∧ IsC w' P c ys
end Go.Proofs.YtkinoehmcfhgbaaGreatDoor.Av
set_option linter.unusedVariables false
set_option linter.unusedSimpArgs false
namespace Go.Proofs.YtkinoehmcfhgbaaGreatDoor.Av
open Go.RowKit

variable {toks : List (List UInt8 × Nat)} {len : Nat}

theorem ssize (w : World) (a : Addr) (u : Value) : (w.setCell a u).heap.size = w.heap.size := by simp [World.setCell]
theorem kfar {b B : Nat} {W w1 : World} (hk : Kp b W w1) (hb : b < B) (hB : B < W.heap.size) (o : Nat) : w1.cell? ⟨B, o, none⟩ = W.cell? ⟨B, o, none⟩ := hk.cell (p := ⟨B, o, none⟩) hB (by show B ≠ b; omega)
theorem sfar (w : World) (k o B j : Nat) (u : Value) (h : k ≠ B) : (w.setCell ⟨k, o, none⟩ u).cell? ⟨B, j, none⟩ = w.cell? ⟨B, j, none⟩ :=
  World.cell?_of_block (Below.heap_setCell w ⟨k, o, none⟩ u B (by show B ≠ k; omega))


theorem load7 (w : World) (B : Nat) (c0 c1 c2 c3 c4 c5 c6 : Value) (h0 : w.cell? ⟨B, 0, none⟩ = some c0) (h1 : w.cell? ⟨B, 1, none⟩ = some c1) (h2 : w.cell? ⟨B, 2, none⟩ = some c2) (h3 : w.cell? ⟨B, 3, none⟩ = some c3) (h4 : w.cell? ⟨B, 4, none⟩ = some c4) (h5 : w.cell? ⟨B, 5, none⟩ = some c5) (h6 : w.cell? ⟨B, 6, none⟩ = some c6) :
    (loadVar 98 ⟨B, 0, none⟩).run Tryz.prog w = .ok (.agg #[c0, c1, c2, c3, c4, c5, c6]) w := by
  simp [go_sem, h0, h1, h2, h3, h4, h5, h6]
theorem results_cell {fn : Func} {tmps : Array Value} {w : World} {k : Nat} {t : TypeId} {a : Addr} {v : Value} (hf : fn.results = #[.cell k t]) (ht : tmps.getD k undef = .pointer (some a)) (hl : (loadVar t a).run Tryz.prog w = .ok v w) : (results fn tmps).run Tryz.prog w = .ok v w := by
  have ht' : (tmps[k]?.getD undef) = .pointer (some a) := by simpa using ht
  simp [results, hf, ht', hl, asAddr]
theorem set_same (w : World) (a : Addr) (u : Value) (h : ∃ v, w.cell? a = some v) : (w.setCell a u).cell? a = some u := by obtain ⟨v, h⟩ := h; exact World.cell?_setCell_same _ _ _ h

/-- A method ends with a Formula that it has laid into its result's block. -/
theorem post7 {fn : Func} {R : Ending → World → Prop} {tmps : Array Value} {X : World} {B k : Nat} {c0 c1 c2 c3 c4 c5 c6 : Value} (hf : fn.results = #[.cell k 98]) (ht : tmps.getD k undef = .pointer (some ⟨B, 0, none⟩)) (hx : ∀ j, j < 7 → ∃ u, X.cell? ⟨B, j, none⟩ = some u)
    (hR : R (.returned (.agg #[c0, c1, c2, c3, c4, c5, c6])) (((((((X.setCell ⟨B, 0, none⟩ c0).setCell ⟨B, 1, none⟩ c1).setCell ⟨B, 2, none⟩ c2).setCell ⟨B, 3, none⟩ c3).setCell ⟨B, 4, none⟩ c4).setCell ⟨B, 5, none⟩ c5).setCell ⟨B, 6, none⟩ c6)) : bodyPost Tryz.prog fn R .ret ⟨tmps, []⟩ (((((((X.setCell ⟨B, 0, none⟩ c0).setCell ⟨B, 1, none⟩ c1).setCell ⟨B, 2, none⟩ c2).setCell ⟨B, 3, none⟩ c3).setCell ⟨B, 4, none⟩ c4).setCell ⟨B, 5, none⟩ c5).setCell ⟨B, 6, none⟩ c6) :=
  bodyPost_ret (results_cell hf ht (load7 _ B c0 c1 c2 c3 c4 c5 c6 (by rw [set_other _ _ _ _ _ (by omega), set_other _ _ _ _ _ (by omega), set_other _ _ _ _ _ (by omega), set_other _ _ _ _ _ (by omega), set_other _ _ _ _ _ (by omega), set_other _ _ _ _ _ (by omega)]; exact set_same _ _ _ (by exact hx 0 (by omega))) (by rw [set_other _ _ _ _ _ (by omega), set_other _ _ _ _ _ (by omega), set_other _ _ _ _ _ (by omega), set_other _ _ _ _ _ (by omega), set_other _ _ _ _ _ (by omega)]; exact set_same _ _ _ (by rw [set_other _ _ _ _ _ (by omega)]; exact hx 1 (by omega))) (by rw [set_other _ _ _ _ _ (by omega), set_other _ _ _ _ _ (by omega), set_other _ _ _ _ _ (by omega), set_other _ _ _ _ _ (by omega)]; exact set_same _ _ _ (by rw [set_other _ _ _ _ _ (by omega), set_other _ _ _ _ _ (by omega)]; exact hx 2 (by omega))) (by rw [set_other _ _ _ _ _ (by omega), set_other _ _ _ _ _ (by omega), set_other _ _ _ _ _ (by omega)]; exact set_same _ _ _ (by rw [set_other _ _ _ _ _ (by omega), set_other _ _ _ _ _ (by omega), set_other _ _ _ _ _ (by omega)]; exact hx 3 (by omega))) (by rw [set_other _ _ _ _ _ (by omega), set_other _ _ _ _ _ (by omega)]; exact set_same _ _ _ (by rw [set_other _ _ _ _ _ (by omega), set_other _ _ _ _ _ (by omega), set_other _ _ _ _ _ (by omega), set_other _ _ _ _ _ (by omega)]; exact hx 4 (by omega))) (by rw [set_other _ _ _ _ _ (by omega)]; exact set_same _ _ _ (by rw [set_other _ _ _ _ _ (by omega), set_other _ _ _ _ _ (by omega), set_other _ _ _ _ _ (by omega), set_other _ _ _ _ _ (by omega), set_other _ _ _ _ _ (by omega)]; exact hx 5 (by omega))) (by exact set_same _ _ _ (by rw [set_other _ _ _ _ _ (by omega), set_other _ _ _ _ _ (by omega), set_other _ _ _ _ _ (by omega), set_other _ _ _ _ _ (by omega), set_other _ _ _ _ _ (by omega), set_other _ _ _ _ _ (by omega)]; exact hx 6 (by omega))))) rfl hR

theorem At.w7 {X : World} {b tb cap : Nat} {T : List (Int × Int × Int)} {σ : PSt} (h : At X b tb cap T σ) (B : Nat) (c0 c1 c2 c3 c4 c5 c6 : Value) (h1 : b < B) (h2 : tb < B) : At (((((((X.setCell ⟨B, 0, none⟩ c0).setCell ⟨B, 1, none⟩ c1).setCell ⟨B, 2, none⟩ c2).setCell ⟨B, 3, none⟩ c3).setCell ⟨B, 4, none⟩ c4).setCell ⟨B, 5, none⟩ c5).setCell ⟨B, 6, none⟩ c6) b tb cap T σ :=
  (((((((h.other B 0 c0 h1 h2).other B 1 c1 h1 h2).other B 2 c2 h1 h2).other B 3 c3 h1 h2).other B 4 c4 h1 h2).other B 5 c5 h1 h2).other B 6 c6 h1 h2)
theorem Kp.w7 {b : Nat} {w X : World} (h : Kp b w X) (B : Nat) (c0 c1 c2 c3 c4 c5 c6 : Value) (h1 : w.heap.size ≤ B) : Kp b w (((((((X.setCell ⟨B, 0, none⟩ c0).setCell ⟨B, 1, none⟩ c1).setCell ⟨B, 2, none⟩ c2).setCell ⟨B, 3, none⟩ c3).setCell ⟨B, 4, none⟩ c4).setCell ⟨B, 5, none⟩ c5).setCell ⟨B, 6, none⟩ c6) :=
  (((((((h.fresh B 0 c0 h1).fresh B 1 c1 h1).fresh B 2 c2 h1).fresh B 3 c3 h1).fresh B 4 c4 h1).fresh B 5 c5 h1).fresh B 6 c6 h1)
theorem zero7 (w : World) (c0 c1 c2 c3 c4 c5 c6 : Value) (t : TypeId) : ∀ j, j < 7 → ∃ u, (w.alloc (.cells #[c0, c1, c2, c3, c4, c5, c6] t)).cell? ⟨w.heap.size, j, none⟩ = some u := by
  intro j hj
  match j, hj with
  | 0, _ => exact ⟨c0, by simp⟩
  | 1, _ => exact ⟨c1, by simp⟩
  | 2, _ => exact ⟨c2, by simp⟩
  | 3, _ => exact ⟨c3, by simp⟩
  | 4, _ => exact ⟨c4, by simp⟩
  | 5, _ => exact ⟨c5, by simp⟩
  | 6, _ => exact ⟨c6, by simp⟩
theorem afar (w : World) (o : Obj) (B j : Nat) (h : B < w.heap.size) : (w.alloc o).cell? ⟨B, j, none⟩ = w.cell? ⟨B, j, none⟩ := (below_alloc w o).cell (p := ⟨B, j, none⟩) h
theorem asize (w : World) (o : Obj) : (w.alloc o).heap.size = w.heap.size + 1 := by simp

set_option maxRecDepth 100000 in
set_option maxHeartbeats 2000000 in
theorem comparison_c (hk : AllTok toks) (hn : toks.length ≤ 300) (b tb cap : Nat) (w : World) (σ : PSt) (h : At w b tb cap (T3 toks len) σ) (ho : Ok toks.length σ) :
    Calls Tryz.prog 252 #[.pointer (some ⟨b, 0, none⟩)] w (PPost b tb cap toks len σ w formV (fun σ' => ∀ st, fin toks len σ (cTerm :: cRelation :: cTerm :: st) = fin toks len σ' st) (fun _ v σ' => ∃ (p : Option Addr) (n c : Nat), v = .agg (fv 2 p n c (rel (sAt toks (trm toks σ.pos).2.2)) (trm toks σ.pos).1 (trm toks σ.pos).2.1 (trm toks ((trm toks σ.pos).2.2 + 1)).1 (trm toks ((trm toks σ.pos).2.2 + 1)).2.1).toArray ∧ σ'.pos = (trm toks ((trm toks σ.pos).2.2 + 1)).2.2)) := by
  have H : Hid (At w b tb cap (T3 toks len) σ) := h
  have HO : Hid (Ok toks.length σ) := ho
  have hb := h.hb
  have htb := h.htb
  have hb1 : b < w.heap.size + 1 := by omega
  have htb1 : tb < w.heap.size + 1 := by omega
  clear h ho
  go_enter Tryz.func252, Tryz.ntmps252
  go_wp2_with fail
  refine (term_c hk hn b tb cap _ σ ((H.out.alloc _).alloc _) HO.out).mono ?_
  rintro e w1 ⟨v1, σ1, rfl, ⟨m1, n1, rfl⟩, hA1, hG1, hK1, hS1, hR1⟩
  have HR1 : Hid _ := hR1
  clear hR1
  obtain ⟨hc1, hf1⟩ := kcell hK1 hb
  have hz1 : w.heap.size + 1 < w1.heap.size := by have := hK1.size; simp at this; omega
  have hy1 : w.heap.size < w1.heap.size := by omega
  have HS1 : Hid _ := hS1
  clear hS1
  go_wp2_with fail
  refine (relation_c hk hn b tb cap _ σ1 ((hA1.other _ _ _ hb1 htb1).other _ _ _ hb1 htb1) hG1.1).mono ?_
  rintro e w2 ⟨v2, σ2, rfl, ⟨n2, rfl⟩, hA2, hG2, hK2, hS2, hR2⟩
  have HR2 : Hid _ := hR2
  clear hR2
  obtain ⟨hc2, hf2⟩ := kcell hK2 hb
  have hz2 : w.heap.size + 1 < w2.heap.size := by have := hK2.size; simp [World.setCell] at this; omega
  have hy2 : w.heap.size < w2.heap.size := by omega
  have HS2 : Hid _ := hS2
  clear hS2
  go_wp2_with fail
  refine (term_c hk hn b tb cap _ σ2 (hA2.other _ _ _ hb1 htb1) hG2.1).mono ?_
  rintro e w3 ⟨v3, σ3, rfl, ⟨m3, n3, rfl⟩, hA3, hG3, hK3, hS3, hR3⟩
  have HR3 : Hid _ := hR3
  clear hR3
  obtain ⟨hc3, hf3⟩ := kcell hK3 hb
  have hz3 : w.heap.size + 1 < w3.heap.size := by have := hK3.size; simp [World.setCell] at this; omega
  have hy3 : w.heap.size < w3.heap.size := by omega
  have HS3 : Hid _ := hS3
  clear hS3
  go_wp2_with fail
  refine post7 Tryz.results252 rfl ?_ ⟨_, σ3, rfl, ⟨_, _, _, _, _, _, _, _, _, rfl⟩, ?_, hG1.trans (hG2.trans hG3), ?_, fun st => (HS1.out _).trans ((HS2.out _).trans (HS3.out st)), fun he => ?_⟩
  · intro j hj
    rw [sfar _ _ _ _ _ _ (by omega), sfar _ _ _ _ _ _ (by omega), kfar hK3 hb (by rw [ssize]; omega), sfar _ _ _ _ _ _ (by omega), kfar hK2 hb (by rw [ssize, ssize]; omega), sfar _ _ _ _ _ _ (by omega), sfar _ _ _ _ _ _ (by omega), kfar hK1 hb (by rw [asize, asize]; omega), afar _ _ _ _ (by rw [asize]; omega)]
    exact zero7 _ _ _ _ _ _ _ _ _ j hj
  · exact At.w7 ((hA3.other _ _ _ hb1 htb1).other _ _ _ hb1 htb1) _ _ _ _ _ _ _ _ hb htb
  · have k1 : Kp b w w1 := (((Kp.refl b w).alloc _).alloc _).trans hK1
    have k2 : Kp b w w2 := ((k1.fresh _ _ _ (by omega)).fresh _ _ _ (by omega)).trans hK2
    have k3 : Kp b w w3 := (k2.fresh _ _ _ (by omega)).trans hK3
    exact Kp.w7 ((k3.fresh _ _ _ (by omega)).fresh _ _ _ (by omega)) _ _ _ _ _ _ _ _ (Nat.le_refl _)
  · have he2 := (hG3.2.2 he).1
    have he1 := (hG2.2.2 he2).1
    obtain ⟨v1, p1⟩ := HR1.out he1
    obtain ⟨v2, p2⟩ := HR2.out he2
    obtain ⟨v3, p3⟩ := HR3.out he
    rw [p1] at v2 p2
    rw [p2] at v3 p3
    cases v1; cases v2; cases v3
    exact ⟨_, _, _, rfl, p3⟩

end Go.Proofs.YtkinoehmcfhgbaaGreatDoor.Av
