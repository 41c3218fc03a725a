/-
  The walk of the program's Condition.Holds: a range over slices.Backward, with a stack of values.
-/
import Derived.Test.YtmpbgbdhpahpjaaDoorV17
import Derived.Test.YtmpbgbdhpahpjaaDoorV18
set_option linter.unusedVariables false
set_option linter.unusedSimpArgs false
namespace Go.Proofs.YtmpbgbdhpahpjaaDoor.Vl
open Go.RowKit Go.Shelf
attribute [local go_sem] Oper.semAt_some

/-- Between two rounds: the values of the symbols from k on lie in the list; the state lies in its block. -/
def Inv (w : World) (ys : List Sym) (x1 x2 x3 x4 : Int) (pre : List (Nat × Sym)) (W : World) : Prop :=
  (∃ k, k ≤ ys.length ∧ pre = cameK ys k ∧ (∃ v, Boxed W (w.heap.size + 1) 49 v ∧ W.ownsRow (w.heap.size + 3) 4 1 v (brun x1 x2 x3 x4 (ys.drop k)).length ((brun x1 x2 x3 x4 (ys.drop k)).reverse.map Value.bool) ∧ True) ∧
    W.cell? ⟨w.heap.size, 0, none⟩ = some (.int .i64 x1) ∧ W.cell? ⟨w.heap.size, 1, none⟩ = some (.int .i64 x2) ∧ W.cell? ⟨w.heap.size, 2, none⟩ = some (.int .i64 x3) ∧ W.cell? ⟨w.heap.size, 3, none⟩ = some (.int .i64 x4)) ∧ Below w.heap.size w W ∧ w.heap.size + 3 ≤ W.heap.size
theorem inv_own (w : World) (ys : List Sym) (x1 x2 x3 x4 : Int) {W0 : World} (hsz : W0.heap.size = w.heap.size + 3) : OwnFrom W0.heap.size (Inv w ys x1 x2 x3 x4) := by
  intro s X Y row hs hg hr
  obtain ⟨⟨k, hk, hp, hv, c0, c1, c2, c3⟩, hB, hz⟩ := hs
  have hr2 : ∀ r, row = some r → ∃ o : Obj, X.heap[r]? = some o ∧ o.isCells = false := fun r e => (hr r e).2
  exact ⟨⟨k, hk, hp, holdsRow_own (β := Unit) (w.heap.size + 3) (w.heap.size + 1) 49 4 1 (fun _ => (brun x1 x2 x3 x4 (ys.drop k)).length) (fun _ => (brun x1 x2 x3 x4 (ys.drop k)).reverse.map Value.bool) (fun _ _ => True) () X Y row hv hg hr2,
    cell_kept c0 hg hr2, cell_kept c1 hg hr2, cell_kept c2 hg hr2, cell_kept c3 hg hr2⟩, ownFrom_below (β := Unit) (Nat.le_refl _) (by omega) () X Y row hB hg hr, Nat.le_trans hz hg.size⟩
theorem inv_alloc {w : World} {ys : List Sym} {x1 x2 x3 x4 : Int} {pre : List (Nat × Sym)} {W : World} (h : Inv w ys x1 x2 x3 x4 pre W) (o : Obj) : Inv w ys x1 x2 x3 x4 pre (W.alloc o) := by
  obtain ⟨⟨k, hk, hp, ⟨v, hv, hr, _⟩, c0, c1, c2, c3⟩, hB, hz⟩ := h
  have hl : w.heap.size < W.heap.size := Nat.lt_trans (Nat.lt_succ_self _) hv.lt
  exact ⟨⟨k, hk, hp, ⟨v, hv.alloc _, hr.alloc _, trivial⟩, ((below_alloc W o).cell (p := ⟨w.heap.size, 0, none⟩) hl).trans c0, ((below_alloc W o).cell (p := ⟨w.heap.size, 1, none⟩) hl).trans c1, ((below_alloc W o).cell (p := ⟨w.heap.size, 2, none⟩) hl).trans c2, ((below_alloc W o).cell (p := ⟨w.heap.size, 3, none⟩) hl).trans c3⟩, hB.alloc hB.size o, by simp; omega⟩
theorem kpB_put (n0 Bs : Nat) (W : World) (l : Nat) (o o' : Obj) (h1 : n0 ≤ l) (h2 : Bs < l) (h : W.heap[l]? = some o) : KpB n0 Bs W (W.putObj l o') :=
  ⟨(Below.refl n0 W).grown (grownBy_putObj' W l o') (by have := (Array.getElem?_eq_some_iff.1 h).1; omega) (fun k e => by cases e; omega), World.cell?_of_block (World.putObj_heap_other (by dsimp only; omega))⟩


/-- A round's last statement: the list is put on, and its new value is laid into its block. -/
theorem fin6 {w W X w1 : World} {n R m : Nat} {v vt v' : Value} {xs zs : List Value} {tmp : Obj} {x1 x2 x3 x4 : Int} (hb : Below W.heap.size W X) (hB : Below w.heap.size w W) (hz : w.heap.size + 3 ≤ W.heap.size)
    (hv : Boxed X (w.heap.size + 1) 49 v) (hrow : X.ownsRow (w.heap.size + 3) 4 1 vt R xs) (hown : w1.ownsRow (w.heap.size + 3) 4 1 v' m zs) (hgrow : (X.alloc tmp).grownBy w1 vt.ownBlock)
    (c0 : W.cell? ⟨w.heap.size, 0, none⟩ = some (.int .i64 x1)) (c1 : W.cell? ⟨w.heap.size, 1, none⟩ = some (.int .i64 x2)) (c2 : W.cell? ⟨w.heap.size, 2, none⟩ = some (.int .i64 x3)) (c3 : W.cell? ⟨w.heap.size, 3, none⟩ = some (.int .i64 x4)) :
    KeepsFrom n W (w1.setCell ⟨w.heap.size + 1, 0, none⟩ v') ∧ KpB w.heap.size (w.heap.size + 1 + 1) W (w1.setCell ⟨w.heap.size + 1, 0, none⟩ v') ∧ Boxed (w1.setCell ⟨w.heap.size + 1, 0, none⟩ v') (w.heap.size + 1) 49 v' ∧
    (w1.setCell ⟨w.heap.size + 1, 0, none⟩ v').ownsRow (w.heap.size + 3) 4 1 v' m zs ∧ ((w1.setCell ⟨w.heap.size + 1, 0, none⟩ v').cell? ⟨w.heap.size, 0, none⟩ = some (.int .i64 x1) ∧ (w1.setCell ⟨w.heap.size + 1, 0, none⟩ v').cell? ⟨w.heap.size, 1, none⟩ = some (.int .i64 x2) ∧ (w1.setCell ⟨w.heap.size + 1, 0, none⟩ v').cell? ⟨w.heap.size, 2, none⟩ = some (.int .i64 x3) ∧ (w1.setCell ⟨w.heap.size + 1, 0, none⟩ v').cell? ⟨w.heap.size, 3, none⟩ = some (.int .i64 x4)) ∧
    Below w.heap.size w (w1.setCell ⟨w.heap.size + 1, 0, none⟩ v') ∧ w.heap.size + 3 ≤ (w1.setCell ⟨w.heap.size + 1, 0, none⟩ v').heap.size := by
  have hXs := hb.size
  have hgs := hgrow.size
  rw [World.size_alloc] at hgs
  have hss : (w1.setCell ⟨w.heap.size + 1, 0, none⟩ v').heap.size = w1.heap.size := by simp [World.setCell]
  -- a block that is neither the row nor the box is as it was
  have hsame : ∀ k, k < W.heap.size → some k ≠ vt.ownBlock → k ≠ w.heap.size + 1 → (w1.setCell ⟨w.heap.size + 1, 0, none⟩ v').heap[k]? = W.heap[k]? := by
    intro k hk h1 h2
    rw [Below.heap_setCell w1 ⟨w.heap.size + 1, 0, none⟩ v' k h2, hgrow.block k (by simp; omega) h1, Below.heap_alloc X tmp k (by omega)]
    exact hb.block k hk
  have hown2 := own_block hrow
  have hlow : ∀ k, k < w.heap.size + 3 → k ≠ w.heap.size + 1 → (w1.setCell ⟨w.heap.size + 1, 0, none⟩ v').heap[k]? = W.heap[k]? := by
    intro k hk h2
    refine hsame k (by omega) (fun e => ?_) h2
    have := hown2 k e.symm
    omega
  have hv1 : Boxed w1 (w.heap.size + 1) 49 v := (hv.alloc tmp).kept hgrow (fun e => by have := hown2 _ e.symm; omega)
  have hcell : ∀ j, (w1.setCell ⟨w.heap.size + 1, 0, none⟩ v').cell? ⟨w.heap.size, j, none⟩ = W.cell? ⟨w.heap.size, j, none⟩ := fun j => World.cell?_of_block (hlow _ (by dsimp only; omega) (by dsimp only; omega))
  have hBW : Below w.heap.size W (w1.setCell ⟨w.heap.size + 1, 0, none⟩ v') := by
    have h1 : Below w.heap.size W X := hb.mono (by omega)
    have h2 := (h1.alloc (by omega) tmp).grown hgrow (by simp; omega) (fun k e => by have := hown2 k e; omega)
    exact h2.setCell (p := ⟨w.heap.size + 1, 0, none⟩) (by dsimp only; omega) _
  refine ⟨⟨by omega, fun k o _ hk ho => ?_⟩, ⟨hBW, World.cell?_of_block (hlow _ (by dsimp only; omega) (by dsimp only; omega))⟩, hv1.set v', ownsRow_setCell_below hown (by dsimp only; omega) _, ⟨(hcell 0).trans c0, (hcell 1).trans c1, (hcell 2).trans c2, (hcell 3).trans c3⟩, hB.trans hBW, by omega⟩
  have hkW : k < W.heap.size := (Array.getElem?_eq_some_iff.1 hk).1
  by_cases h2 : k = w.heap.size + 1
  · subst h2
    have hvW : X.heap[w.heap.size + 1]? = some o := (hb.block _ hkW).trans hk
    rw [show X.heap[w.heap.size + 1]? = _ from hv] at hvW
    cases hvW; cases ho
  · by_cases h1 : some k = vt.ownBlock
    · have hkX : X.heap[k]? = some o := (hb.block _ hkW).trans hk
      rcases hrow.2 with ⟨rfl, _⟩ | ⟨g, capg, cur, rfl, _, hgb, _⟩
      · cases h1
      · have : k = g := by simpa [Value.ownBlock] using h1
        subst this
        rw [hgb] at hkX
        cases hkX; cases ho
    · exact (hsame k hkW h1 h2).trans hk
theorem Tryd.infoBool : (Tryd.prog.info? 4).map (fun i => (i.zero, i.size, i.bytes)) = some (some (.bool false), 1, 1) := by kernel_rfl
theorem boxed_on {W X : World} {B : Nat} {t : TypeId} {v : Value} (h : Boxed W B t v) (hb : Below W.heap.size W X) : Boxed X B t v := (hb.block B h.lt).trans h
theorem rows_put (st : List Bool) (p : Nat) (hp : p ≤ st.length) (V : Bool) : ((V :: st.drop p).reverse.map Value.bool) = (st.reverse.map Value.bool).take (st.length - p) ++ [.bool V] := by
  rw [List.reverse_cons, List.map_append, ← List.map_take, List.take_reverse, show st.length - (st.length - p) = p by omega]; rfl
end Go.Proofs.YtmpbgbdhpahpjaaDoor.Vl
