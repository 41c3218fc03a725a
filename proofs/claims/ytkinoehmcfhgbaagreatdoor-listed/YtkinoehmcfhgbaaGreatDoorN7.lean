/-
  The program's walk in memory; the walks of bounded and found.
-/
import Derived.Test.YtkinoehmcfhgbaaGreatDoorN5
import Derived.Test.YtkinoehmcfhgbaaGreatDoorL6
import Derived.Deep.AppendLies
set_option linter.unusedVariables false
set_option linter.unusedSimpArgs false
namespace Go.Proofs.YtkinoehmcfhgbaaGreatDoor.Vl
open Go.RowKit

/-- The block that holds the walk's list. -/
def LB (w : World) (wb k : Nat) : Prop := ∃ o n c, w.cell? ⟨wb, 0, none⟩ = some (.slice (some ⟨k, o, none⟩) n c)
/-- What lies in other blocks than wb, and than the walk's list, is as it was; the list lies where it lay, or in a new block. -/
structure FrS (wb : Nat) (w w' : World) : Prop where
  size : w.heap.size ≤ w'.heap.size
  block : wb < w.heap.size → ∀ k, k < w.heap.size → k ≠ wb → ¬ LB w wb k → w'.heap[k]? = w.heap[k]?
  fresh : wb < w.heap.size → ∀ k, LB w' wb k → LB w wb k ∨ w.heap.size ≤ k
theorem FrS.refl (wb : Nat) (w : World) : FrS wb w w := ⟨Nat.le_refl _, fun _ _ _ _ _ => rfl, fun _ _ h => Or.inl h⟩
theorem FrS.trans {wb : Nat} {a b c : World} (h : FrS wb a b) (k : FrS wb b c) : FrS wb a c :=
  ⟨Nat.le_trans h.size k.size, fun hw i hi hn hl => (k.block (Nat.lt_of_lt_of_le hw h.size) i (Nat.lt_of_lt_of_le hi h.size) hn (fun e => (h.fresh hw i e).elim hl (fun e => by omega))).trans (h.block hw i hi hn hl),
   fun hw i e => (k.fresh (Nat.lt_of_lt_of_le hw h.size) i e).elim (h.fresh hw i) (fun e => Or.inr (Nat.le_trans h.size e))⟩
theorem FrS.of_below {wb : Nat} {w w' : World} (h : Below w.heap.size w w') : FrS wb w w' := ⟨h.size, fun _ k hk _ _ => h.block k hk, fun hw k ⟨o, n, c, e⟩ => Or.inl ⟨o, n, c, (h.cell (p := ⟨wb, 0, none⟩) hw).symm.trans e⟩⟩
theorem FrS.set1 (wb : Nat) (w : World) (u : Value) : FrS wb w (w.setCell ⟨wb, 1, none⟩ u) := ⟨by simp [World.setCell], fun _ k _ hn _ => Below.heap_setCell w ⟨wb, 1, none⟩ u k hn, fun _ k ⟨o, n, c, e⟩ => Or.inl ⟨o, n, c, (mk_other _ _ _ _ _ (by decide)).symm.trans e⟩⟩
theorem CondR.fr {w w' : World} {wb : Nat} {v : Value} {ys : List Sym} {cs : Array Value} {f : Nat × Nat} (h : CondR w v ys) (hf : FrS wb w w') (hw : w.heap[wb]? = some (.cells cs 197 f)) (hl : ∀ k, LB w wb k → ∃ cur fr, w.heap[k]? = some (.cells cur 75 fr)) : CondR w' v ys := by
  rcases h with h | ⟨b, cap, h1, h2, h3, h4, h5, cur, fr, h6⟩
  · exact Or.inl h
  · have e : w'.heap[b]? = w.heap[b]? := hf.block (Array.getElem?_eq_some_iff.1 hw).1 b h4 (fun e => by
      subst e
      have hh := Option.some.inj (hw.symm.trans h6)
      injection hh with a1 a2 a3
      exact absurd a2 (by decide)) (fun e => by
      obtain ⟨cur', fr', e⟩ := hl b e
      have hh := Option.some.inj (h6.symm.trans e)
      injection hh with a1 a2 a3
      exact absurd a2 (by decide))
    exact Or.inr ⟨b, cap, h1, h2, h3, Nat.lt_of_lt_of_le h4 hf.size, fun j u hu => (World.cell?_of_block (a := ⟨b, 0 + j, none⟩) e).trans (h5 j u hu), cur, fr, e.trans h6⟩
/-- Values that are these conditions, one by one. -/
def Cds (w : World) (vs : List Value) (L : List (List Sym)) : Prop := vs.length = L.length ∧ ∀ (j : Nat) (v : Value) (ys : List Sym), vs[j]? = some v → L[j]? = some ys → CondR w v ys
theorem Cds.below {w w' : World} {vs : List Value} {L : List (List Sym)} (h : Cds w vs L) (hb : Below w.heap.size w w') : Cds w' vs L := ⟨h.1, fun j v ys h1 h2 => (h.2 j v ys h1 h2).below hb⟩
theorem Cds.fr {w w' : World} {wb : Nat} {vs : List Value} {L : List (List Sym)} {cs : Array Value} {f : Nat × Nat} (h : Cds w vs L) (hf : FrS wb w w') (hw : w.heap[wb]? = some (.cells cs 197 f)) (hl : ∀ k, LB w wb k → ∃ cur fr, w.heap[k]? = some (.cells cur 75 fr)) : Cds w' vs L := ⟨h.1, fun j v ys h1 h2 => (h.2 j v ys h1 h2).fr hf hw hl⟩
theorem Cds.snoc {w : World} {vs : List Value} {L : List (List Sym)} {v : Value} {ys : List Sym} (h : Cds w vs L) (hc : CondR w v ys) : Cds w (vs ++ [v]) (L ++ [ys]) := by
  refine ⟨by simp [h.1], fun j u zs h1 h2 => ?_⟩
  by_cases hj : j < vs.length
  · rw [List.getElem?_append_left hj] at h1
    rw [List.getElem?_append_left (by have := h.1; omega)] at h2
    exact h.2 j u zs h1 h2
  · rw [List.getElem?_append_right (by omega)] at h1
    rw [List.getElem?_append_right (by have := h.1; omega), ← h.1] at h2
    by_cases e : j - vs.length = 0
    · rw [e] at h1 h2
      simp at h1 h2
      subst h1 h2
      exact hc
    · rw [List.getElem?_eq_none (by simp; omega)] at h1; cases h1
/-- The walk lies at block wb: its conditions, and whether something was too long; what was there in w0 is as it was. -/
structure WkAt (w0 w : World) (wb : Nat) (tl : Bool) (L : List (List Sym)) : Prop where
  b0 : Below w0.heap.size w0 w
  hb : w0.heap.size ≤ wb
  hv : ∃ v vs, w.heap[wb]? = some (.cells #[v, .bool tl] 197 (0, 0)) ∧ w.ownsRow (wb + 1) 75 1 v L.length vs ∧ Cds w vs L
variable {w0 w w' : World} {wb : Nat} {tl : Bool} {L : List (List Sym)}
theorem lb_of {w : World} {wb : Nat} {tl : Bool} {v : Value} {n : Nat} {xs : List Value} (hv : w.heap[wb]? = some (.cells #[v, .bool tl] 197 (0, 0))) (ho : w.ownsRow (wb + 1) 75 1 v n xs) (k : Nat) (h : LB w wb k) : v.ownBlock = some k ∧ wb + 1 ≤ k ∧ k < w.heap.size ∧ ∃ cur fr, w.heap[k]? = some (.cells cur 75 fr) := by
  obtain ⟨o, m, c, e⟩ := h
  have := Lib.cell_of_heap hv 0
  rw [e] at this
  simp at this
  subst this
  rcases ho.2 with ⟨e2, _⟩ | ⟨g, cap, cur, e2, hg, hh, _⟩
  · cases e2
  · cases e2
    exact ⟨rfl, hg, (Array.getElem?_eq_some_iff.1 hh).1, cur, _, hh⟩
theorem lb_to {w : World} {wb : Nat} {tl : Bool} {v : Value} {n : Nat} {xs : List Value} {base : Nat} (hv : w.heap[wb]? = some (.cells #[v, .bool tl] 197 (0, 0))) (ho : w.ownsRow base 75 1 v n xs) (k : Nat) (h : v.ownBlock = some k) : LB w wb k := by
  have := Lib.cell_of_heap hv 0
  rcases ho.2 with ⟨e2, _⟩ | ⟨g, cap, cur, e2, _⟩
  · subst e2; cases h
  · subst e2
    have : g = k := by simpa [Value.ownBlock] using h
    subst this
    exact ⟨0, n, cap, by have := Lib.cell_of_heap hv 0; simpa using this⟩
theorem WkAt.lb (h : WkAt w0 w wb tl L) (k : Nat) (hk : LB w wb k) : wb + 1 ≤ k ∧ k < w.heap.size ∧ ∃ cur fr, w.heap[k]? = some (.cells cur 75 fr) := by
  obtain ⟨v, vs, hv, ho, _⟩ := h.hv
  exact (lb_of hv ho k hk).2
theorem WkAt.lt (h : WkAt w0 w wb tl L) : wb < w.heap.size := by
  obtain ⟨v, vs, hv, _⟩ := h.hv
  exact (Array.getElem?_eq_some_iff.1 hv).1
theorem WkAt.below (h : WkAt w0 w wb tl L) (hb : Below w.heap.size w w') : WkAt w0 w' wb tl L := by
  have hlt := h.lt
  obtain ⟨v, vs, hv, ho, hd⟩ := h.hv
  exact ⟨h.b0.trans (hb.mono h.b0.size), h.hb, v, vs, (hb.block wb hlt).trans hv, ownsRow_below ho hb, hd.below hb⟩
theorem WkAt.long (h : WkAt w0 w wb tl L) (b : Bool) : WkAt w0 (w.setCell ⟨wb, 1, none⟩ (.bool b)) wb b L := by
  obtain ⟨v, vs, hv, ho, hd⟩ := h.hv
  refine ⟨h.b0.setCell (p := ⟨wb, 1, none⟩) h.hb _, h.hb, v, vs, ?_, ownsRow_setCell_below ho (by show wb < wb + 1; omega) _, hd.fr (FrS.set1 _ _ _) hv (fun k hk => (lb_of hv ho k hk).2.2.2)⟩
  simp [World.setCell, Array.getElem?_modify, hv]

set_option maxRecDepth 100000 in
set_option maxHeartbeats 1000000 in
theorem bounded_any (v : Value) (ys : List Sym) (h : WkAt w0 w wb tl L) (hc : CondR w v ys) (hy : ∀ y ∈ ys, Good y) (hl : bl ys ≤ 1000000) (hn : ys.length ≤ 1000000) (hg : Gt w0) :
    Calls Tryz.prog 139 #[.pointer (some ⟨wb, 0, none⟩), v] w fun e w' => ∃ v', e = .returned v' ∧ WkAt w0 w' wb (tl || tol (sbs ys)) L ∧ FrS wb w w' ∧ CondR w' v' (if tol (sbs ys) then [] else ys) ∧ w'.cell? ⟨wb, 0, none⟩ = w.cell? ⟨wb, 0, none⟩ := by
  have CT : Hid (Calls Tryz.prog 36 #[v] w fun e w' => e = .returned (.string ⟨(sbs ys).toArray⟩) ∧ Below w.heap.size w w') := text_any v ys w hc hy hl hn (hg.on h.b0)
  have HW : Hid (WkAt w0 w wb tl L) := h
  have HC : Hid (CondR w v ys) := hc
  obtain ⟨pa, cap, rfl⟩ := hc.shape
  clear h hc hy
  by_cases ht : 4000 < (sbs ys).length
  · have ht' : (4000 : Int) < ((sbs ys).length : Int) := by omega
    have et : tol (sbs ys) = true := decide_eq_true ht
    rw [et, if_pos rfl, Bool.or_true]
    generalize hS : sbs ys = S at *
    go_enter Tryz.func139, Tryz.ntmps139
    go_wp2_with fail
    refine Calls.mono CT.out ?_
    rintro e w1 ⟨rfl, hb1⟩
    have A1 := HW.out.below hb1
    obtain ⟨tv, tvs, htv, hto, htd⟩ := A1.hv
    have c1 := Lib.cell_of_heap htv 1
    simp at c1
    have f1 := Lib.frozen_of_heap htv 1
    have hlt := A1.lt
    have HA1 : Hid _ := A1
    have HF1 : Hid (FrS wb w w1) := FrS.of_below hb1
    have HC0 : Hid (w1.cell? ⟨wb, 0, none⟩ = w.cell? ⟨wb, 0, none⟩) := hb1.cell (p := ⟨wb, 0, none⟩) (WkAt.lt HW.out)
    clear A1 htv hto htd hb1
    go_wp2_with fail
    go_ret
    exact ⟨_, rfl, WkAt.long HA1.out true, HF1.out.trans (FrS.set1 _ _ _), Or.inl ⟨rfl, rfl⟩, (mk_other _ _ _ _ _ (by decide)).trans HC0.out⟩
  · have ht' : ¬ (4000 : Int) < ((sbs ys).length : Int) := by omega
    have et : tol (sbs ys) = false := decide_eq_false ht
    rw [et, if_neg (by decide), Bool.or_false]
    generalize hS : sbs ys = S at *
    go_enter Tryz.func139, Tryz.ntmps139
    go_wp2_with fail
    refine Calls.mono CT.out ?_
    rintro e w1 ⟨rfl, hb1⟩
    go_wp2_with fail
    go_ret
    exact ⟨_, rfl, WkAt.below HW.out hb1, FrS.of_below hb1, CondR.below HC.out hb1, hb1.cell (p := ⟨wb, 0, none⟩) (WkAt.lt HW.out)⟩

theorem WkAt.own {tv : Value} (h : WkAt w0 w wb tl L) (hc : w.cell? ⟨wb, 0, none⟩ = some tv) : w.heap[wb]? = some (.cells #[tv, .bool tl] 197 (0, 0)) ∧ ∃ vs, w.ownsRow (wb + 1) 75 1 tv L.length vs ∧ Cds w vs L := by
  obtain ⟨v, vs, hv, ho, hd⟩ := h.hv
  have := Lib.cell_of_heap hv 0
  rw [hc] at this
  simp at this
  subst this
  exact ⟨hv, vs, ho, hd⟩
theorem FrS.append {wb : Nat} {w w3 : World} {tl : Bool} {v v' : Value} {n m c g : Nat} {xs : List Value} {base : Nat} (hh : w.heap[wb]? = some (.cells #[v, .bool tl] 197 (0, 0))) (ho : w.ownsRow base 75 1 v n xs) (hb : wb + 1 ≤ base) (hg : w.grownBy w3 v.ownBlock) (hv' : v' = .slice (some ⟨g, 0, none⟩) m c) (hf : v.ownBlock = some g ∨ g = w.heap.size) : FrS wb w (w3.setCell ⟨wb, 0, none⟩ v') := by
  refine ⟨by simpa [World.setCell] using hg.size, fun _ k hk hn hl => (Below.heap_setCell w3 ⟨wb, 0, none⟩ v' k hn).trans (hg.block k hk (fun e => hl (lb_to hh ho k e.symm))), fun hw k ⟨o, n2, c2, e⟩ => ?_⟩
  have hk : w3.heap[wb]? = some (.cells #[v, .bool tl] 197 (0, 0)) := (hg.block wb hw (fun e => by have := own_block ho wb e.symm; omega)).trans hh
  have hs : (w3.setCell ⟨wb, 0, none⟩ v').heap[wb]? = some (.cells #[v', .bool tl] 197 (0, 0)) := by simp [World.setCell, Array.getElem?_modify, hk]
  have := Lib.cell_of_heap hs 0
  rw [e] at this
  simp at this
  rw [hv'] at this
  have eg : k = g := by injection this with a; injection a with a; injection a
  subst eg
  rcases hf with hf | hf
  · exact Or.inl (lb_to hh ho k hf)
  · exact Or.inr (by omega)
theorem conds_put {w0 w2 w3 : World} {wb : Nat} {tl : Bool} {L : List (List Sym)} {tv tv' cv : Value} {vs : List Value} {Z : List Sym} (h : WkAt w0 w2 wb tl L) (hh : w2.heap[wb]? = some (.cells #[tv, .bool tl] 197 (0, 0))) (ho : w2.ownsRow (wb + 1) 75 1 tv L.length vs) (hd : Cds w2 vs L) (hcv : CondR w2 cv Z) (hg : w2.grownBy w3 tv.ownBlock) {g cp : Nat} (hv' : tv' = .slice (some ⟨g, 0, none⟩) (L.length + 1) cp) (hat : tv.ownBlock = some g ∨ g = w2.heap.size) (hn : w3.ownsRow (wb + 1) 75 1 tv' (L.length + 1) (vs ++ [cv])) :
    FrS wb w2 (w3.setCell ⟨wb, 0, none⟩ tv') ∧ WkAt w0 (w3.setCell ⟨wb, 0, none⟩ tv') wb tl (L ++ [Z]) := by
  have hob : ∀ k, tv.ownBlock = some k → wb + 1 ≤ k := own_block ho
  have hk : w3.heap[wb]? = some (.cells #[tv, .bool tl] 197 (0, 0)) := (hg.block wb h.lt (fun e => by have := hob wb e.symm; omega)).trans hh
  have hF : FrS wb w2 (w3.setCell ⟨wb, 0, none⟩ tv') := FrS.append hh ho (Nat.le_refl _) hg hv' hat
  refine ⟨hF, (h.b0.grown hg h.b0.size (fun k e => by have := hob k e; have := h.hb; omega)).setCell (p := ⟨wb, 0, none⟩) h.hb _, h.hb, tv', vs ++ [cv], ?_, ownsRow_setCell_below ?_ (by show wb < wb + 1; omega) _, (hd.snoc hcv).fr hF hh (fun k hk => (lb_of hh ho k hk).2.2.2)⟩
  · simp [World.setCell, Array.getElem?_modify, hk]
  · rw [List.length_append]; exact hn
theorem Tryz.infoCnd : (Tryz.prog.info? 75).map (fun i => (i.zero, i.size, i.bytes)) = some (some (.slice none 0 0), 1, 24) := by kernel_rfl
theorem one_sl (p : Option Addr) (n c : Nat) : ∀ u ∈ [Value.slice p n c], u.oneCell' = true := by
  intro u hu; simp at hu; subst hu; simp [Value.oneCell']

set_option maxRecDepth 100000 in
set_option maxHeartbeats 2000000 in
theorem found_any (v : Value) (ys : List Sym) (h : WkAt w0 w wb tl L) (hc : CondR w v ys) (hy : ∀ y ∈ ys, Good y) (hl : bl ys ≤ 1000000) (hn : ys.length ≤ 1000000) (hg : Gt w0) (hL : L.length ≤ 1000) :
    Calls Tryz.prog 93 #[.pointer (some ⟨wb, 0, none⟩), v] w fun e w' => e = .returned (.tuple #[]) ∧ WkAt w0 w' wb (tl || tol (sbs ys)) (L ++ [if tol (sbs ys) then [] else ys]) ∧ FrS wb w w' := by
  obtain ⟨i0, hi, hz0, hz1, hz2⟩ := info_parts Tryz.infoCnd
  have CB : Hid (Calls Tryz.prog 139 #[.pointer (some ⟨wb, 0, none⟩), v] w.drew fun e w' => ∃ v', e = .returned v' ∧ WkAt w0 w' wb (tl || tol (sbs ys)) L ∧ FrS wb w.drew w' ∧ CondR w' v' (if tol (sbs ys) then [] else ys) ∧ w'.cell? ⟨wb, 0, none⟩ = w.drew.cell? ⟨wb, 0, none⟩) := bounded_any v ys (h.below (Below.refl _ _).drew) (hc.below (Below.refl _ _).drew) hy hl hn hg
  have hlt := h.lt
  obtain ⟨tv, vs, hh, ho, hd⟩ := h.hv
  obtain ⟨ta, tn, tc, rfl⟩ : ∃ a n c, tv = .slice a n c := by
    rcases ho.2 with ⟨rfl, _⟩ | ⟨g, cap, cur, rfl, _⟩
    · exact ⟨_, _, _, rfl⟩
    · exact ⟨_, _, _, rfl⟩
  have s0 : w.cell? ⟨wb, 0, none⟩ = some (.slice ta tn tc) := by have := Lib.cell_of_heap hh 0; simpa using this
  have s00 : w.drew.cell? ⟨wb, 0, none⟩ = some (.slice ta tn tc) := s0
  obtain ⟨pa, cap, rfl⟩ := hc.shape
  clear h hc hy hh ho hd
  generalize (if tol (sbs ys) then [] else ys) = Z at *
  generalize (tl || tol (sbs ys)) = tl' at *
  have h63 : L.length + 1 ≤ maxLen := by unfold maxLen; omega
  have hby : (L.length + 1) * 24 ≤ 140737488355328 := by omega
  go_enter Tryz.func93, Tryz.ntmps93
  go_wp2_with fail
  go_region_law (first
    | (refine step_append_lies _ (by rfl) _ _ 71 (by rfl) (wb + 1) 75 i0 (.slice none 0 0) 1 24 Tryz.underlying71 hi hz0 hz1 hz2 (by rfl) (by decide) (.slice ta tn tc) L.length vs1 (by rfl) (ho1.alloc _) ⟨w1.heap.size, 0, none⟩ 1 1 [.slice pa1 Z.length pc1] (by rfl) (by rfl) (one_new _ _ rfl _ _) (one_sl _ _ _) (by decide) h63 hby hbs2 (w1.heap.size + 1) hsz2 ?_; intro g cp w3 hown3 hgrow3 hat3 hlt3; have hk3 := hgrow3.block wb hA3.lt hne2; have s4 : w3.cell? ⟨wb, 0, none⟩ = some (.slice ta tn tc) := (World.cell?_of_block (a := ⟨wb, 0, none⟩) hk3).trans s3; have fz3 : w3.frozen? ⟨wb, 0, none⟩ = false := (World.frozen?_of_block (a := ⟨wb, 0, none⟩) hk3).trans ((World.frozen?_of_block (a := ⟨wb, 0, none⟩) (Below.heap_alloc w1 _ wb hA1.lt)).trans (Lib.frozen_of_heap hh1 0)))
    | (go_simp; go_at_call 139; refine Calls.mono CB.out ?_; rintro e w1 ⟨v1, rfl, hA1, hF1, hC1, hc0⟩; obtain ⟨pa1, pc1, rfl⟩ := hC1.shape; have s1 : w1.cell? ⟨wb, 0, none⟩ = some (.slice ta tn tc) := hc0.trans s0; obtain ⟨hh1, vs1, ho1, hd1⟩ := hA1.own s1; have s3 : (w1.alloc (.cells #[.slice pa1 Z.length pc1] 75)).cell? ⟨wb, 0, none⟩ = some (.slice ta tn tc) := ((below_alloc w1 _).cell (p := ⟨wb, 0, none⟩) hA1.lt).trans s1; have hA3 := hA1.below (below_alloc w1 (.cells #[.slice pa1 Z.length pc1] 75)); have hbs2 : wb + 1 ≤ (w1.alloc (.cells #[.slice pa1 Z.length pc1] 75)).heap.size := hA3.lt; have hsz2 : (w1.alloc (.cells #[.slice pa1 Z.length pc1] 75)).heap.size = w1.heap.size + 1 := World.size_alloc _ _; have hne2 : some wb ≠ (Value.slice ta tn tc).ownBlock := fun e => Nat.lt_irrefl wb (own_block ho1 wb e.symm); go_wp2_with fail))
  all_goals go_end0
  all_goals
    have hh3 : (w1.alloc (.cells #[.slice pa1 Z.length pc1] 75)).heap[wb]? = some (.cells #[.slice ta tn tc, .bool tl'] 197 (0, 0)) := (Below.heap_alloc w1 _ wb hA1.lt).trans hh1
    obtain ⟨hF, hP⟩ := conds_put hA3 hh3 (ho1.alloc _) (hd1.below (below_alloc w1 _)) (hC1.below (below_alloc w1 _)) hgrow3 rfl (by rw [hsz2]; exact hat3) hown3
    exact ⟨rfl, hP, ((FrS.of_below (Below.refl _ _).drew).trans hF1).trans ((FrS.of_below (below_alloc w1 _)).trans hF)⟩
end Go.Proofs.YtkinoehmcfhgbaaGreatDoor.Vl
