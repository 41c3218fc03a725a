/-
  The program's walk in memory; the walks of bounded and found.
  What the program's walk through commands comes to, plain: as it goes, also where a condition is too long; and that it is what the document asks where all is short enough.
  The program's walk at ':=' and at 'skip'.
  The walks of the program's Of and comparison.
-/
import Derived.Test.YtkinoehmcfhgbaaGreatDoorN5
import Derived.Test.YtkinoehmcfhgbaaGreatDoorQ9
import Derived.Deep.AppendLies
import Derived.Test.YtkinoehmcfhgbaaGreatDoorM3
import Derived.Test.YtkinoehmcfhgbaaGreatDoorN1
set_option linter.unusedVariables false
set_option linter.unusedSimpArgs false
namespace Go.Proofs.YtkinoehmcfhgbaaGreatDoor.Vl
open Go.RowKit

/-- The block that holds the walk's list. -/
def LB (w : World) (wb k : Nat) : Prop := ∃ o n c, w.cell? ⟨wb, 0, none⟩ = some (.slice (some ⟨k, o, none⟩) n c)
/-- What lies in other blocks than wb, and than the walk's list, is as it was; the list lies where it lay, or in a new block. -/
structure FrS (wb : Nat) (w w' : World) : Prop where
  size : w.heap.size ≤ w'.heap.size
  block : wb < w.heap.size → ∀ k, k < w.heap.size → k ≠ wb → ¬ LB w wb k → w'.heap[k]? = w.heap[k]?
  fresh : wb < w.heap.size → ∀ k, LB w' wb k → LB w wb k ∨ w.heap.size ≤ k
theorem FrS.refl (wb : Nat) (w : World) : FrS wb w w := ⟨Nat.le_refl _, fun _ _ _ _ _ => rfl, fun _ _ h => Or.inl h⟩
theorem FrS.trans {wb : Nat} {a b c : World} (h : FrS wb a b) (k : FrS wb b c) : FrS wb a c :=
  ⟨Nat.le_trans h.size k.size, fun hw i hi hn hl => (k.block (Nat.lt_of_lt_of_le hw h.size) i (Nat.lt_of_lt_of_le hi h.size) hn (fun e => (h.fresh hw i e).elim hl (fun e => by omega))).trans (h.block hw i hi hn hl),
   fun hw i e => (k.fresh (Nat.lt_of_lt_of_le hw h.size) i e).elim (h.fresh hw i) (fun e => Or.inr (Nat.le_trans h.size e))⟩
theorem FrS.of_below {wb : Nat} {w w' : World} (h : Below w.heap.size w w') : FrS wb w w' := ⟨h.size, fun _ k hk _ _ => h.block k hk, fun hw k ⟨o, n, c, e⟩ => Or.inl ⟨o, n, c, (h.cell (p := ⟨wb, 0, none⟩) hw).symm.trans e⟩⟩
theorem FrS.set1 (wb : Nat) (w : World) (u : Value) : FrS wb w (w.setCell ⟨wb, 1, none⟩ u) := ⟨by simp [World.setCell], fun _ k _ hn _ => Below.heap_setCell w ⟨wb, 1, none⟩ u k hn, fun _ k ⟨o, n, c, e⟩ => Or.inl ⟨o, n, c, (mk_other _ _ _ _ _ (by decide)).symm.trans e⟩⟩
theorem CondR.fr {w w' : World} {wb : Nat} {v : Value} {ys : List Sym} {cs : Array Value} {f : Nat × Nat} (h : CondR w v ys) (hf : FrS wb w w') (hw : w.heap[wb]? = some (.cells cs 197 f)) (hl : ∀ k, LB w wb k → ∃ cur fr, w.heap[k]? = some (.cells cur 75 fr)) : CondR w' v ys := by
  rcases h with h | ⟨b, cap, h1, h2, h3, h4, h5, cur, fr, h6⟩
  · exact Or.inl h
  · have e : w'.heap[b]? = w.heap[b]? := hf.block (Array.getElem?_eq_some_iff.1 hw).1 b h4 (fun e => by
      subst e
      have hh := Option.some.inj (hw.symm.trans h6)
      injection hh with a1 a2 a3
      exact absurd a2 (by decide)) (fun e => by
      obtain ⟨cur', fr', e⟩ := hl b e
      have hh := Option.some.inj (h6.symm.trans e)
      injection hh with a1 a2 a3
      exact absurd a2 (by decide))
    exact Or.inr ⟨b, cap, h1, h2, h3, Nat.lt_of_lt_of_le h4 hf.size, fun j u hu => (World.cell?_of_block (a := ⟨b, 0 + j, none⟩) e).trans (h5 j u hu), cur, fr, e.trans h6⟩
/-- Values that are these conditions, one by one. -/
def Cds (w : World) (vs : List Value) (L : List (List Sym)) : Prop := vs.length = L.length ∧ ∀ (j : Nat) (v : Value) (ys : List Sym), vs[j]? = some v → L[j]? = some ys → CondR w v ys
theorem Cds.below {w w' : World} {vs : List Value} {L : List (List Sym)} (h : Cds w vs L) (hb : Below w.heap.size w w') : Cds w' vs L := ⟨h.1, fun j v ys h1 h2 => (h.2 j v ys h1 h2).below hb⟩
theorem Cds.fr {w w' : World} {wb : Nat} {vs : List Value} {L : List (List Sym)} {cs : Array Value} {f : Nat × Nat} (h : Cds w vs L) (hf : FrS wb w w') (hw : w.heap[wb]? = some (.cells cs 197 f)) (hl : ∀ k, LB w wb k → ∃ cur fr, w.heap[k]? = some (.cells cur 75 fr)) : Cds w' vs L := ⟨h.1, fun j v ys h1 h2 => (h.2 j v ys h1 h2).fr hf hw hl⟩
theorem Cds.snoc {w : World} {vs : List Value} {L : List (List Sym)} {v : Value} {ys : List Sym} (h : Cds w vs L) (hc : CondR w v ys) : Cds w (vs ++ [v]) (L ++ [ys]) := by
  refine ⟨by simp [h.1], fun j u zs h1 h2 => ?_⟩
  by_cases hj : j < vs.length
  · rw [List.getElem?_append_left hj] at h1
    rw [List.getElem?_append_left (by have := h.1; omega)] at h2
    exact h.2 j u zs h1 h2
  · rw [List.getElem?_append_right (by omega)] at h1
    rw [List.getElem?_append_right (by have := h.1; omega), ← h.1] at h2
    by_cases e : j - vs.length = 0
    · rw [e] at h1 h2
      simp at h1 h2
      subst h1 h2
      exact hc
    · rw [List.getElem?_eq_none (by simp; omega)] at h1; cases h1
/-- The walk lies at block wb: its conditions, and whether something was too long; what was there in w0 is as it was. -/
structure WkAt (w0 w : World) (wb : Nat) (tl : Bool) (L : List (List Sym)) : Prop where
  b0 : Below w0.heap.size w0 w
  hb : w0.heap.size ≤ wb
  hv : ∃ v vs, w.heap[wb]? = some (.cells #[v, .bool tl] 197 (0, 0)) ∧ w.ownsRow (wb + 1) 75 1 v L.length vs ∧ Cds w vs L
variable {w0 w w' : World} {wb : Nat} {tl : Bool} {L : List (List Sym)}
theorem lb_of {w : World} {wb : Nat} {tl : Bool} {v : Value} {n : Nat} {xs : List Value} (hv : w.heap[wb]? = some (.cells #[v, .bool tl] 197 (0, 0))) (ho : w.ownsRow (wb + 1) 75 1 v n xs) (k : Nat) (h : LB w wb k) : v.ownBlock = some k ∧ wb + 1 ≤ k ∧ k < w.heap.size ∧ ∃ cur fr, w.heap[k]? = some (.cells cur 75 fr) := by
  obtain ⟨o, m, c, e⟩ := h
  have := Lib.cell_of_heap hv 0
  rw [e] at this
  simp at this
  subst this
  rcases ho.2 with ⟨e2, _⟩ | ⟨g, cap, cur, e2, hg, hh, _⟩
  · cases e2
  · cases e2
    exact ⟨rfl, hg, (Array.getElem?_eq_some_iff.1 hh).1, cur, _, hh⟩
theorem lb_to {w : World} {wb : Nat} {tl : Bool} {v : Value} {n : Nat} {xs : List Value} {base : Nat} (hv : w.heap[wb]? = some (.cells #[v, .bool tl] 197 (0, 0))) (ho : w.ownsRow base 75 1 v n xs) (k : Nat) (h : v.ownBlock = some k) : LB w wb k := by
  have := Lib.cell_of_heap hv 0
  rcases ho.2 with ⟨e2, _⟩ | ⟨g, cap, cur, e2, _⟩
  · subst e2; cases h
  · subst e2
    have : g = k := by simpa [Value.ownBlock] using h
    subst this
    exact ⟨0, n, cap, by have := Lib.cell_of_heap hv 0; simpa using this⟩
theorem WkAt.lb (h : WkAt w0 w wb tl L) (k : Nat) (hk : LB w wb k) : wb + 1 ≤ k ∧ k < w.heap.size ∧ ∃ cur fr, w.heap[k]? = some (.cells cur 75 fr) := by
  obtain ⟨v, vs, hv, ho, _⟩ := h.hv
  exact (lb_of hv ho k hk).2
theorem WkAt.lt (h : WkAt w0 w wb tl L) : wb < w.heap.size := by
  obtain ⟨v, vs, hv, _⟩ := h.hv
  exact (Array.getElem?_eq_some_iff.1 hv).1
theorem WkAt.below (h : WkAt w0 w wb tl L) (hb : Below w.heap.size w w') : WkAt w0 w' wb tl L := by
  have hlt := h.lt
  obtain ⟨v, vs, hv, ho, hd⟩ := h.hv
  exact ⟨h.b0.trans (hb.mono h.b0.size), h.hb, v, vs, (hb.block wb hlt).trans hv, ownsRow_below ho hb, hd.below hb⟩
theorem WkAt.long (h : WkAt w0 w wb tl L) (b : Bool) : WkAt w0 (w.setCell ⟨wb, 1, none⟩ (.bool b)) wb b L := by
  obtain ⟨v, vs, hv, ho, hd⟩ := h.hv
  refine ⟨h.b0.setCell (p := ⟨wb, 1, none⟩) h.hb _, h.hb, v, vs, ?_, ownsRow_setCell_below ho (by show wb < wb + 1; omega) _, hd.fr (FrS.set1 _ _ _) hv (fun k hk => (lb_of hv ho k hk).2.2.2)⟩
  simp [World.setCell, Array.getElem?_modify, hv]

set_option maxRecDepth 100000 in
set_option maxHeartbeats 1000000 in
theorem bounded_any (v : Value) (ys : List Sym) (h : WkAt w0 w wb tl L) (hc : CondR w v ys) (hy : ∀ y ∈ ys, Good y) (hl : bl ys ≤ 1000000) (hn : ys.length ≤ 1000000) (hg : Gt w0) :
    Calls Tryz.prog 139 #[.pointer (some ⟨wb, 0, none⟩), v] w fun e w' => ∃ v', e = .returned v' ∧ WkAt w0 w' wb (tl || tol (sbs ys)) L ∧ FrS wb w w' ∧ CondR w' v' (if tol (sbs ys) then [] else ys) ∧ w'.cell? ⟨wb, 0, none⟩ = w.cell? ⟨wb, 0, none⟩ := by
  have CT : Hid (Calls Tryz.prog 36 #[v] w fun e w' => e = .returned (.string ⟨(sbs ys).toArray⟩) ∧ Below w.heap.size w w') := text_any v ys w hc hy hl hn (hg.on h.b0)
  have HW : Hid (WkAt w0 w wb tl L) := h
  have HC : Hid (CondR w v ys) := hc
  obtain ⟨pa, cap, rfl⟩ := hc.shape
  clear h hc hy
  by_cases ht : 4000 < (sbs ys).length
  · have ht' : (4000 : Int) < ((sbs ys).length : Int) := by omega
    have et : tol (sbs ys) = true := decide_eq_true ht
    rw [et, if_pos rfl, Bool.or_true]
    generalize hS : sbs ys = S at *
    go_enter Tryz.func139, Tryz.ntmps139
    go_wp2_with fail
    refine Calls.mono CT.out ?_
    rintro e w1 ⟨rfl, hb1⟩
    have A1 := HW.out.below hb1
    obtain ⟨tv, tvs, htv, hto, htd⟩ := A1.hv
    have c1 := Lib.cell_of_heap htv 1
    simp at c1
    have f1 := Lib.frozen_of_heap htv 1
    have hlt := A1.lt
    have HA1 : Hid _ := A1
    have HF1 : Hid (FrS wb w w1) := FrS.of_below hb1
    have HC0 : Hid (w1.cell? ⟨wb, 0, none⟩ = w.cell? ⟨wb, 0, none⟩) := hb1.cell (p := ⟨wb, 0, none⟩) (WkAt.lt HW.out)
    clear A1 htv hto htd hb1
    go_wp2_with fail
    go_ret
    exact ⟨_, rfl, WkAt.long HA1.out true, HF1.out.trans (FrS.set1 _ _ _), Or.inl ⟨rfl, rfl⟩, (mk_other _ _ _ _ _ (by decide)).trans HC0.out⟩
  · have ht' : ¬ (4000 : Int) < ((sbs ys).length : Int) := by omega
    have et : tol (sbs ys) = false := decide_eq_false ht
    rw [et, if_neg (by decide), Bool.or_false]
    generalize hS : sbs ys = S at *
    go_enter Tryz.func139, Tryz.ntmps139
    go_wp2_with fail
    refine Calls.mono CT.out ?_
    rintro e w1 ⟨rfl, hb1⟩
    go_wp2_with fail
    go_ret
    exact ⟨_, rfl, WkAt.below HW.out hb1, FrS.of_below hb1, CondR.below HC.out hb1, hb1.cell (p := ⟨wb, 0, none⟩) (WkAt.lt HW.out)⟩

theorem WkAt.own {tv : Value} (h : WkAt w0 w wb tl L) (hc : w.cell? ⟨wb, 0, none⟩ = some tv) : w.heap[wb]? = some (.cells #[tv, .bool tl] 197 (0, 0)) ∧ ∃ vs, w.ownsRow (wb + 1) 75 1 tv L.length vs ∧ Cds w vs L := by
  obtain ⟨v, vs, hv, ho, hd⟩ := h.hv
  have := Lib.cell_of_heap hv 0
  rw [hc] at this
  simp at this
  subst this
  exact ⟨hv, vs, ho, hd⟩
theorem FrS.append {wb : Nat} {w w3 : World} {tl : Bool} {v v' : Value} {n m c g : Nat} {xs : List Value} {base : Nat} (hh : w.heap[wb]? = some (.cells #[v, .bool tl] 197 (0, 0))) (ho : w.ownsRow base 75 1 v n xs) (hb : wb + 1 ≤ base) (hg : w.grownBy w3 v.ownBlock) (hv' : v' = .slice (some ⟨g, 0, none⟩) m c) (hf : v.ownBlock = some g ∨ g = w.heap.size) : FrS wb w (w3.setCell ⟨wb, 0, none⟩ v') := by
  refine ⟨by simpa [World.setCell] using hg.size, fun _ k hk hn hl => (Below.heap_setCell w3 ⟨wb, 0, none⟩ v' k hn).trans (hg.block k hk (fun e => hl (lb_to hh ho k e.symm))), fun hw k ⟨o, n2, c2, e⟩ => ?_⟩
  have hk : w3.heap[wb]? = some (.cells #[v, .bool tl] 197 (0, 0)) := (hg.block wb hw (fun e => by have := own_block ho wb e.symm; omega)).trans hh
  have hs : (w3.setCell ⟨wb, 0, none⟩ v').heap[wb]? = some (.cells #[v', .bool tl] 197 (0, 0)) := by simp [World.setCell, Array.getElem?_modify, hk]
  have := Lib.cell_of_heap hs 0
  rw [e] at this
  simp at this
  rw [hv'] at this
  have eg : k = g := by injection this with a; injection a with a; injection a
  subst eg
  rcases hf with hf | hf
  · exact Or.inl (lb_to hh ho k hf)
  · exact Or.inr (by omega)
theorem conds_put {w0 w2 w3 : World} {wb : Nat} {tl : Bool} {L : List (List Sym)} {tv tv' cv : Value} {vs : List Value} {Z : List Sym} (h : WkAt w0 w2 wb tl L) (hh : w2.heap[wb]? = some (.cells #[tv, .bool tl] 197 (0, 0))) (ho : w2.ownsRow (wb + 1) 75 1 tv L.length vs) (hd : Cds w2 vs L) (hcv : CondR w2 cv Z) (hg : w2.grownBy w3 tv.ownBlock) {g cp : Nat} (hv' : tv' = .slice (some ⟨g, 0, none⟩) (L.length + 1) cp) (hat : tv.ownBlock = some g ∨ g = w2.heap.size) (hn : w3.ownsRow (wb + 1) 75 1 tv' (L.length + 1) (vs ++ [cv])) :
    FrS wb w2 (w3.setCell ⟨wb, 0, none⟩ tv') ∧ WkAt w0 (w3.setCell ⟨wb, 0, none⟩ tv') wb tl (L ++ [Z]) := by
  have hob : ∀ k, tv.ownBlock = some k → wb + 1 ≤ k := own_block ho
  have hk : w3.heap[wb]? = some (.cells #[tv, .bool tl] 197 (0, 0)) := (hg.block wb h.lt (fun e => by have := hob wb e.symm; omega)).trans hh
  have hF : FrS wb w2 (w3.setCell ⟨wb, 0, none⟩ tv') := FrS.append hh ho (Nat.le_refl _) hg hv' hat
  refine ⟨hF, (h.b0.grown hg h.b0.size (fun k e => by have := hob k e; have := h.hb; omega)).setCell (p := ⟨wb, 0, none⟩) h.hb _, h.hb, tv', vs ++ [cv], ?_, ownsRow_setCell_below ?_ (by show wb < wb + 1; omega) _, (hd.snoc hcv).fr hF hh (fun k hk => (lb_of hh ho k hk).2.2.2)⟩
  · simp [World.setCell, Array.getElem?_modify, hk]
  · rw [List.length_append]; exact hn
theorem Tryz.infoCnd : (Tryz.prog.info? 75).map (fun i => (i.zero, i.size, i.bytes)) = some (some (.slice none 0 0), 1, 24) := by kernel_rfl
theorem one_sl (p : Option Addr) (n c : Nat) : ∀ u ∈ [Value.slice p n c], u.oneCell' = true := by
  intro u hu; simp at hu; subst hu; simp [Value.oneCell']

set_option maxRecDepth 100000 in
set_option maxHeartbeats 2000000 in
theorem found_any (v : Value) (ys : List Sym) (h : WkAt w0 w wb tl L) (hc : CondR w v ys) (hy : ∀ y ∈ ys, Good y) (hl : bl ys ≤ 1000000) (hn : ys.length ≤ 1000000) (hg : Gt w0) (hL : L.length ≤ 1000) :
    Calls Tryz.prog 93 #[.pointer (some ⟨wb, 0, none⟩), v] w fun e w' => e = .returned (.tuple #[]) ∧ WkAt w0 w' wb (tl || tol (sbs ys)) (L ++ [if tol (sbs ys) then [] else ys]) ∧ FrS wb w w' := by
  obtain ⟨i0, hi, hz0, hz1, hz2⟩ := info_parts Tryz.infoCnd
  have CB : Hid (Calls Tryz.prog 139 #[.pointer (some ⟨wb, 0, none⟩), v] w.drew fun e w' => ∃ v', e = .returned v' ∧ WkAt w0 w' wb (tl || tol (sbs ys)) L ∧ FrS wb w.drew w' ∧ CondR w' v' (if tol (sbs ys) then [] else ys) ∧ w'.cell? ⟨wb, 0, none⟩ = w.drew.cell? ⟨wb, 0, none⟩) := bounded_any v ys (h.below (Below.refl _ _).drew) (hc.below (Below.refl _ _).drew) hy hl hn hg
  have hlt := h.lt
  obtain ⟨tv, vs, hh, ho, hd⟩ := h.hv
  obtain ⟨ta, tn, tc, rfl⟩ : ∃ a n c, tv = .slice a n c := by
    rcases ho.2 with ⟨rfl, _⟩ | ⟨g, cap, cur, rfl, _⟩
    · exact ⟨_, _, _, rfl⟩
    · exact ⟨_, _, _, rfl⟩
  have s0 : w.cell? ⟨wb, 0, none⟩ = some (.slice ta tn tc) := by have := Lib.cell_of_heap hh 0; simpa using this
  have s00 : w.drew.cell? ⟨wb, 0, none⟩ = some (.slice ta tn tc) := s0
  obtain ⟨pa, cap, rfl⟩ := hc.shape
  clear h hc hy hh ho hd
  generalize (if tol (sbs ys) then [] else ys) = Z at *
  generalize (tl || tol (sbs ys)) = tl' at *
  have h63 : L.length + 1 ≤ maxLen := by unfold maxLen; omega
  have hby : (L.length + 1) * 24 ≤ 140737488355328 := by omega
  go_enter Tryz.func93, Tryz.ntmps93
  go_wp2_with fail
  go_region_law (first
    | (refine step_append_lies _ (by rfl) _ _ 71 (by rfl) (wb + 1) 75 i0 (.slice none 0 0) 1 24 Tryz.underlying71 hi hz0 hz1 hz2 (by rfl) (by decide) (.slice ta tn tc) L.length vs1 (by rfl) (ho1.alloc _) ⟨w1.heap.size, 0, none⟩ 1 1 [.slice pa1 Z.length pc1] (by rfl) (by rfl) (one_new _ _ rfl _ _) (one_sl _ _ _) (by decide) h63 hby hbs2 (w1.heap.size + 1) hsz2 ?_; intro g cp w3 hown3 hgrow3 hat3 hlt3; have hk3 := hgrow3.block wb hA3.lt hne2; have s4 : w3.cell? ⟨wb, 0, none⟩ = some (.slice ta tn tc) := (World.cell?_of_block (a := ⟨wb, 0, none⟩) hk3).trans s3; have fz3 : w3.frozen? ⟨wb, 0, none⟩ = false := (World.frozen?_of_block (a := ⟨wb, 0, none⟩) hk3).trans ((World.frozen?_of_block (a := ⟨wb, 0, none⟩) (Below.heap_alloc w1 _ wb hA1.lt)).trans (Lib.frozen_of_heap hh1 0)))
    | (go_simp; go_at_call 139; refine Calls.mono CB.out ?_; rintro e w1 ⟨v1, rfl, hA1, hF1, hC1, hc0⟩; obtain ⟨pa1, pc1, rfl⟩ := hC1.shape; have s1 : w1.cell? ⟨wb, 0, none⟩ = some (.slice ta tn tc) := hc0.trans s0; obtain ⟨hh1, vs1, ho1, hd1⟩ := hA1.own s1; have s3 : (w1.alloc (.cells #[.slice pa1 Z.length pc1] 75)).cell? ⟨wb, 0, none⟩ = some (.slice ta tn tc) := ((below_alloc w1 _).cell (p := ⟨wb, 0, none⟩) hA1.lt).trans s1; have hA3 := hA1.below (below_alloc w1 (.cells #[.slice pa1 Z.length pc1] 75)); have hbs2 : wb + 1 ≤ (w1.alloc (.cells #[.slice pa1 Z.length pc1] 75)).heap.size := hA3.lt; have hsz2 : (w1.alloc (.cells #[.slice pa1 Z.length pc1] 75)).heap.size = w1.heap.size + 1 := World.size_alloc _ _; have hne2 : some wb ≠ (Value.slice ta tn tc).ownBlock := fun e => Nat.lt_irrefl wb (own_block ho1 wb e.symm); go_wp2_with fail))
  all_goals go_end0
  all_goals
    have hh3 : (w1.alloc (.cells #[.slice pa1 Z.length pc1] 75)).heap[wb]? = some (.cells #[.slice ta tn tc, .bool tl'] 197 (0, 0)) := (Below.heap_alloc w1 _ wb hA1.lt).trans hh1
    obtain ⟨hF, hP⟩ := conds_put hA3 hh3 (ho1.alloc _) (hd1.below (below_alloc w1 _)) (hC1.below (below_alloc w1 _)) hgrow3 rfl (by rw [hsz2]; exact hat3) hown3
    exact ⟨rfl, hP, ((FrS.of_below (Below.refl _ _).drew).trans hF1).trans ((FrS.of_below (below_alloc w1 _)).trans hF)⟩
end Go.Proofs.YtkinoehmcfhgbaaGreatDoor.Vl
set_option linter.unusedVariables false
set_option linter.unusedSimpArgs false
namespace Go.Proofs.YtkinoehmcfhgbaaGreatDoor.Vl
open Go.RowKit
open Go.Proofs.YtkinoehmcfhgbaaGreatDoor.Av (Fm Cm Rc IsF IsC Lst Same fv)

/-- What 'bounded' lets through. -/
def pb (ys : List Sym) : List Sym := if tol (sbs ys) then [] else ys
/-- What the program has ahead of commands. -/
def pw : Cm → List Sym → List Sym
  | .skip, q => pb q
  | .asg x t, q => pb (q.map (rpl (x + 1) (t.1 + 1) t.2))
  | .ite f a b, q => pb ((4, 0, 0, 0) :: (3, 0, 0, 0) :: (fsy f ++ (pw a q ++ ((3, 0, 0, 0) :: (2, 0, 0, 0) :: (fsy f ++ pw b q)))))
  | .loop f g a, q => pb (fsy g)
  | .seq a b, q => pw a (pw b q)
/-- What it has ahead of one command, before it is bounded. -/
def pcm : Cm → List Sym → List Sym
  | .skip, q => q
  | .asg x t, q => q.map (rpl (x + 1) (t.1 + 1) t.2)
  | .ite f a b, q => (4, 0, 0, 0) :: (3, 0, 0, 0) :: (fsy f ++ (pw a q ++ ((3, 0, 0, 0) :: (2, 0, 0, 0) :: (fsy f ++ pw b q))))
  | .loop f g a, q => fsy g
  | .seq a b, q => pw a (pw b q)
def pag (f g : Fm) (a : Cm) : List Sym := (5, 0, 0, 0) :: (3, 0, 0, 0) :: (fsy g ++ (fsy f ++ pw a (fsy g)))
/-- Is something too long? -/
def pt : Cm → List Sym → Bool
  | .skip, q => tol (sbs q)
  | .asg x t, q => tol (sbs (pcm (.asg x t) q))
  | .ite f a b, q => (pt b q || pt a q) || tol (sbs (pcm (.ite f a b) q))
  | .loop f g a, q => ((pt a (fsy g) || tol (sbs (leav f g q))) || tol (sbs (pag f g a))) || tol (sbs (fsy g))
  | .seq a b, q => pt b q || pt a (pw b q)
/-- Is something too long within one command? -/
def pct : Cm → List Sym → Bool
  | .ite f a b, q => pt b q || pt a q
  | .loop f g a, q => (pt a (fsy g) || tol (sbs (leav f g q))) || tol (sbs (pag f g a))
  | _, _ => false
/-- The conditions that it finds, in their order. -/
def pL : Cm → List Sym → List (List Sym)
  | .ite f a b, q => pL b q ++ pL a q
  | .loop f g a, q => (pL a (fsy g) ++ [pb (leav f g q)]) ++ [pb (pag f g a)]
  | .seq a b, q => pL b q ++ pL a (pw b q)
  | _, _ => []
/-- One command alone. -/
def one1 : Cm → Prop
  | .seq _ _ => False
  | _ => True
theorem pw_one {c : Cm} (h : one1 c) (q : List Sym) : pw c q = pb (pcm c q) := by
  cases c with
  | seq a b => exact h.elim
  | _ => rfl
theorem pt_one {c : Cm} (h : one1 c) (q : List Sym) : pt c q = (pct c q || tol (sbs (pcm c q))) := by
  cases c with
  | seq a b => exact h.elim
  | skip => exact (Bool.false_or _).symm
  | asg x t => exact (Bool.false_or _).symm
  | _ => rfl
theorem pb_fit {ys : List Sym} (h : bl ys ≤ 4000) : pb ys = ys := by
  unfold pb tol
  rw [decide_eq_false (by unfold bl at h; omega)]
  rfl
theorem tol_bl (ys : List Sym) : tol (sbs ys) = !(decide (bl ys ≤ 4000)) := tol_fit _ ys rfl
theorem pb_bl (ys : List Sym) : bl (pb ys) ≤ 4000 := by
  unfold pb
  by_cases h : 4000 < (sbs ys).length
  · rw [show tol (sbs ys) = true from decide_eq_true h, if_pos rfl]; exact Nat.zero_le _
  · rw [show tol (sbs ys) = false from decide_eq_false h, if_neg (by decide)]; unfold bl; omega
theorem pw_bl : ∀ (c : Cm) (q : List Sym), bl (pw c q) ≤ 4000
  | .skip, q => pb_bl _
  | .asg x t, q => pb_bl _
  | .ite f a b, q => pb_bl _
  | .loop f g a, q => pb_bl _
  | .seq a b, q => pw_bl a _
/-- Where all is short enough it is what the document asks; where not, it is told. -/
theorem walk_is : ∀ (c : Cm) (q : List Sym), pt c q = !(fit c q) ∧ (fit c q = true → pw c q = wpc c q ∧ pL c q = (cls c q).reverse)
  | .skip, q => ⟨tol_bl q, fun h => ⟨pb_fit (of_decide_eq_true h), rfl⟩⟩
  | .asg x t, q => ⟨tol_bl _, fun h => ⟨pb_fit (of_decide_eq_true h), rfl⟩⟩
  | .ite f a b, q => by
    obtain ⟨a1, a2⟩ := walk_is a q
    obtain ⟨b1, b2⟩ := walk_is b q
    cases ha : fit a q
    · rw [ha] at a1
      simp only [pt, fit, a1, ha, Bool.not_false, Bool.or_true, Bool.true_or, Bool.false_and, true_and]
      intro h; cases h
    · cases hb : fit b q
      · rw [hb] at b1
        simp only [pt, fit, b1, hb, Bool.not_false, Bool.or_true, Bool.true_or, Bool.false_and, Bool.and_false, true_and]
        intro h; cases h
      · obtain ⟨wa, la⟩ := a2 ha
        obtain ⟨wb, lb⟩ := b2 hb
        have e : pcm (.ite f a b) q = wpc (.ite f a b) q := by simp only [pcm, wpc, wa, wb]
        rw [pw_one (c := .ite f a b) trivial, e]
        simp only [pt, fit, pL, cls, a1, b1, ha, hb, e, la, lb, tol_bl, Bool.not_true, Bool.or_false, Bool.false_or, Bool.true_and, List.reverse_append, true_and, and_true]
        exact fun h => pb_fit (of_decide_eq_true h)
  | .loop f g a, q => by
    obtain ⟨a1, a2⟩ := walk_is a (fsy g)
    cases ha : fit a (fsy g)
    · rw [ha] at a1
      simp only [pt, fit, a1, ha, Bool.not_false, Bool.or_true, Bool.true_or, Bool.false_and, true_and]
      intro h; cases h
    · obtain ⟨wa, la⟩ := a2 ha
      have e : pag f g a = again f g a := by simp only [pag, again, wa]
      rw [ha] at a1
      refine ⟨?_, fun h => ?_⟩
      · simp only [pt, fit, a1, ha, e, tol_bl, Bool.not_true, Bool.false_or, Bool.true_and, Bool.not_and]
        cases decide (bl (leav f g q) ≤ 4000) <;> cases decide (bl (again f g a) ≤ 4000) <;> rfl
      · simp only [fit, Bool.and_eq_true] at h
        obtain ⟨_, h1, h2, h3⟩ := h
        refine ⟨pb_fit (of_decide_eq_true h3), ?_⟩
        simp only [pL, cls, la, e, pb_fit (of_decide_eq_true h1), pb_fit (of_decide_eq_true h2), List.reverse_cons]
  | .seq a b, q => by
    obtain ⟨b1, b2⟩ := walk_is b q
    cases hb : fit b q
    · rw [hb] at b1
      simp only [pt, fit, b1, hb, Bool.not_false, Bool.or_true, Bool.true_or, Bool.false_and, true_and]
      intro h; cases h
    · obtain ⟨wb, lb⟩ := b2 hb
      obtain ⟨a1, a2⟩ := walk_is a (wpc b q)
      rw [hb] at b1
      refine ⟨?_, fun h => ?_⟩
      · simp only [pt, fit, b1, hb, wb, a1, Bool.not_true, Bool.false_or, Bool.true_and]
      · simp only [fit, Bool.and_eq_true] at h
        obtain ⟨wa, la⟩ := a2 h.2
        simp only [pw, wpc, pL, cls, wb, wa, la, lb, List.reverse_append, and_self]

/-- How many assignments there are. -/
def nas : Cm → Nat
  | .skip => 0
  | .asg _ _ => 1
  | .ite _ a b => nas a + nas b
  | .loop _ _ a => nas a
  | .seq a b => nas a + nas b
def kOk : Cm → Prop
  | .loop _ g a => fOk g ∧ kOk a
  | .ite _ a b => kOk a ∧ kOk b
  | .seq a b => kOk a ∧ kOk b
  | _ => True
theorem Gd.pb {K : Int} {ys : List Sym} (h : Gd K ys) : Gd K (pb ys) := by
  unfold Vl.pb
  split
  · exact Gd.nil
  · exact h
theorem gd_pw : ∀ (c : Cm) (q : List Sym) (K : Int), cOk c → kOk c → 1999 ≤ K → K + 999 * (nas c : Int) ≤ 999999 → Gd K q → Gd (K + 999 * (nas c : Int)) (pw c q)
  | .skip, q, K, _, _, _, hK, h => (h.mono (by simp [nas])).pb
  | .asg x t, q, K, ho, _, _, hK, h => by
    obtain ⟨x0, x3, t1, t2, t3, t4⟩ := ho
    exact ((gd_map (by omega) (by omega) ⟨by omega, by omega⟩ (by simp only [nas] at hK; omega) h).mono (by simp [nas])).pb
  | .ite f a b, q, K, ho, hk, h1, hK, h => by
    simp only [nas] at hK ⊢
    have ga := (gd_pw a q K ho.2.1 hk.1 h1 (by omega) h).mono (L := K + 999 * ((nas a + nas b : Nat) : Int)) (by omega)
    have gb := (gd_pw b q K ho.2.2 hk.2 h1 (by omega) h).mono (L := K + 999 * ((nas a + nas b : Nat) : Int)) (by omega)
    have gf : Gd (K + 999 * ((nas a + nas b : Nat) : Int)) (fsy f) := (gd_fsy f ho.1).mono (by omega)
    exact (Gd.mark (by omega) (by omega) (Gd.mark (by omega) (by omega) (gf.app (ga.app (Gd.mark (by omega) (by omega) (Gd.mark (by omega) (by omega) (gf.app gb))))))).pb
  | .loop f g a, q, K, ho, hk, h1, hK, h => ((gd_fsy g hk.1).mono (by omega)).pb
  | .seq a b, q, K, ho, hk, h1, hK, h => by
    simp only [nas] at hK ⊢
    have gb := gd_pw b q K ho.2 hk.2 h1 (by omega) h
    exact (gd_pw a _ _ ho.1 hk.1 (by omega) (by omega) gb).mono (by omega)
end Go.Proofs.YtkinoehmcfhgbaaGreatDoor.Vl
set_option linter.unusedVariables false
set_option linter.unusedSimpArgs false
namespace Go.Proofs.YtkinoehmcfhgbaaGreatDoor.Vl
open Go.RowKit
open Go.Proofs.YtkinoehmcfhgbaaGreatDoor.Av (Fm Cm Rc IsF IsC Lst Same fv)

/-- The cells of an assignment, kept. -/
structure AsF (w w' : World) (g o : Nat) (x t1 t2 : Int) : Prop where
  b : Below w.heap.size w w'
  h1 : w'.cell? ⟨g, o + 1, none⟩ = some (.int .i64 x)
  h2 : w'.cell? ⟨g, o + 2, none⟩ = some (.int .i64 t1)
  h3 : w'.cell? ⟨g, o + 3, none⟩ = some (.int .i64 t2)
theorem AsF.on {w w' w'' : World} {g o : Nat} {x t1 t2 : Int} (h : AsF w w' g o x t1 t2) (hg : g < w.heap.size) (hb : Below w'.heap.size w' w'') : AsF w w'' g o x t1 t2 := by
  have hl : g < w'.heap.size := Nat.lt_of_lt_of_le hg h.b.size
  exact ⟨h.b.trans (hb.mono h.b.size), (hb.cell (p := ⟨g, o + 1, none⟩) hl).trans h.h1, (hb.cell (p := ⟨g, o + 2, none⟩) hl).trans h.h2, (hb.cell (p := ⟨g, o + 3, none⟩) hl).trans h.h3⟩

theorem cmd_skip (wb : Nat) (v : Value) (w : World) (g o : Nat) (z0 : w.cell? ⟨g, o, none⟩ = some (.int .i64 0)) :
    Calls Tryz.prog 140 #[.pointer (some ⟨wb, 0, none⟩), .pointer (some ⟨g, o, none⟩), v] w fun e w' => e = .returned v ∧ w = w' := by
  go_enter Tryz.func140, Tryz.ntmps140
  go_wp2_with fail
  go_ret
  exact ⟨rfl, rfl⟩

set_option maxRecDepth 100000 in
set_option maxHeartbeats 2000000 in
theorem cmd_asg (wb : Nat) (v : Value) (q : List Sym) (x t1 t2 : Int) (w : World) (g o : Nat) (hx : 0 ≤ x ∧ x ≤ 3) (ht : tOk (t1, t2)) (hg : g < w.heap.size) (z0 : w.cell? ⟨g, o, none⟩ = some (.int .i64 1)) (z1 : w.cell? ⟨g, o + 1, none⟩ = some (.int .i64 x)) (z2 : w.cell? ⟨g, o + 2, none⟩ = some (.int .i64 t1)) (z3 : w.cell? ⟨g, o + 3, none⟩ = some (.int .i64 t2))
    (hc : CondR w v q) (hy : ∀ y ∈ q, -999999 ≤ y.2.2.2 ∧ y.2.2.2 ≤ 999999) (hl : q.length ≤ 100000) :
    Calls Tryz.prog 140 #[.pointer (some ⟨wb, 0, none⟩), .pointer (some ⟨g, o, none⟩), v] w fun e w' => ∃ v', e = .returned v' ∧ CondR w' v' (q.map (rpl (x + 1) (t1 + 1) t2)) ∧ Below w.heap.size w w' := by
  obtain ⟨k1, k2, k3, k4⟩ := ht
  have CV : Hid (∀ X, Calls Tryz.prog 182 #[.int .i64 x] X fun e w' => e = .returned (.int .i64 (x + 1)) ∧ X = w') := fun X => variableO_any x X (by omega)
  have CO : Hid (∀ X, Calls Tryz.prog 211 #[.agg #[.int .i64 t1, .int .i64 t2]] X fun e w' => e = .returned (.int .i64 (t1 + 1)) ∧ Below X.heap.size X w') := fun X => operand_any t1 t2 X ⟨by dsimp only at *; omega, by dsimp only at *; omega⟩
  have CR : Hid (∀ X, CondR X v q → Calls Tryz.prog 210 #[v, .int .i64 (x + 1), .int .i64 (t1 + 1), .int .i64 t2] X fun e w' => ∃ v', e = .returned v' ∧ CondR w' v' (q.map (rpl (x + 1) (t1 + 1) t2)) ∧ Below X.heap.size X w') := fun X hX => replace_any v q (x + 1) (t1 + 1) t2 X hX hy ⟨by dsimp only at *; omega, by dsimp only at *; omega⟩ hl
  have HC : Hid (CondR w v q) := hc
  have T0 : AsF w w.drew g o x t1 t2 := ⟨(Below.refl _ _).drew, z1, z2, z3⟩
  obtain ⟨pa, cap, rfl⟩ := hc.shape
  clear hc hy hx k1 k2 k3 k4
  generalize hQ : q.map (rpl (x + 1) (t1 + 1) t2) = Q at *
  generalize x + 1 = X1 at *
  generalize t1 + 1 = T1 at *
  obtain ⟨s0, s1, s2, s3⟩ := id T0
  go_enter Tryz.func140, Tryz.ntmps140
  go_wp2_with fail
  go_region_held3 (fun w' => Below w.heap.size w w' ∧ w'.cell? ⟨g, o + 1, none⟩ = some (.int .i64 x) ∧ w'.cell? ⟨g, o + 2, none⟩ = some (.int .i64 t1) ∧ w'.cell? ⟨g, o + 3, none⟩ = some (.int .i64 t2)) (refine ⟨?_, ?_, ?_, ?_⟩ <;> assumption) (first
    | (go_at_call 182; refine Calls.mono (CV.out _) ?_; rintro e w1 ⟨rfl, rfl⟩)
    | (go_at_call 211; refine Calls.mono (CO.out _) ?_; rintro e w2 ⟨rfl, hb2⟩; have TT := T0.on hg hb2; obtain ⟨t0, t1, t2, t3⟩ := id TT)
    | (go_at_call 210; refine Calls.mono (CR.out _ (HC.out.below TT.b)) ?_; rintro e w3 ⟨v3, rfl, hc3, hb3⟩; have TU := TT.on hg hb3; obtain ⟨u0, u1, u2, u3⟩ := id TU))
  all_goals
    go_wp2_with fail
    go_ret
    exact ⟨_, rfl, hc3, u0⟩
end Go.Proofs.YtkinoehmcfhgbaaGreatDoor.Vl
set_option linter.unusedVariables false
set_option linter.unusedSimpArgs false
namespace Go.Proofs.YtkinoehmcfhgbaaGreatDoor.Vl
open Go.RowKit

theorem parts_two (w : World) (v1 v2 : Value) (a b : List Sym) (t : TypeId) (h1 : CondR w v1 a) (h2 : CondR w v2 b) : PartsR (w.alloc (.cells #[v1, v2] t)) (.slice (some ⟨w.heap.size, 0, none⟩) 2 2) [a, b] := by
  refine Or.inr ⟨w.heap.size, 2, [v1, v2], rfl, Nat.le_refl _, by decide, by simp, rfl, fun j x hx => ?_, fun j x ys hx hy => ?_⟩
  · rw [World.cell?_alloc_at _ _ _ _ rfl]; simpa using hx
  · match j, hx, hy with
    | 0, hx, hy => cases hx; cases hy; exact h1.below (below_alloc _ _)
    | 1, hx, hy => cases hx; cases hy; exact h2.below (below_alloc _ _)
    | j + 2, hx, _ => simp at hx
theorem parts_one (w : World) (v1 : Value) (a : List Sym) (t : TypeId) (h1 : CondR w v1 a) : PartsR (w.alloc (.cells #[v1] t)) (.slice (some ⟨w.heap.size, 0, none⟩) 1 1) [a] := by
  refine Or.inr ⟨w.heap.size, 1, [v1], rfl, Nat.le_refl _, by decide, by simp, rfl, fun j x hx => ?_, fun j x ys hx hy => ?_⟩
  · rw [World.cell?_alloc_at _ _ _ _ rfl]; simpa using hx
  · match j, hx, hy with
    | 0, hx, hy => cases hx; cases hy; exact h1.below (below_alloc _ _)
    | j + 1, hx, _ => simp at hx

set_option maxRecDepth 100000 in
set_option maxHeartbeats 1000000 in
theorem of_any (kind : Int) (v : Value) (yss : List (List Sym)) (w : World) (h : PartsR w v yss) (hl : yss.flatten.length ≤ 90000) (hm : yss.length ≤ 100) :
    Calls Tryz.prog 94 #[.int .i64 kind, v] w fun e w' => ∃ v', e = .returned v' ∧ CondR w' v' ((kind, 0, 0, 0) :: yss.flatten) ∧ Below w.heap.size w w' := by
  obtain ⟨pa, n, cap, rfl⟩ : ∃ pa n cap, v = .slice pa n cap := by
    rcases h with ⟨rfl, rfl⟩ | ⟨p, cap, vs, rfl, _⟩
    · exact ⟨none, 0, 0, rfl⟩
    · exact ⟨_, _, _, rfl⟩
  have hw : CondR (w.alloc (.cells #[.int .i64 kind, .int .i64 0, .int .i64 0, .int .i64 0] 136)) (.slice (some ⟨w.heap.size, 0, none⟩) 1 1) [(kind, 0, 0, 0)] := condR_one w (kind, 0, 0, 0)
  have hp := h.below (below_alloc w (.cells #[.int .i64 kind, .int .i64 0, .int .i64 0, .int .i64 0] 136))
  have C1 : Hid (Calls Tryz.prog 142 #[.slice pa n cap] (w.alloc (.cells #[.int .i64 kind, .int .i64 0, .int .i64 0, .int .i64 0] 136)) fun e w' => ∃ v', e = .returned v' ∧ CondR w' v' yss.flatten ∧ Below (w.alloc (.cells #[.int .i64 kind, .int .i64 0, .int .i64 0, .int .i64 0] 136)).heap.size (w.alloc (.cells #[.int .i64 kind, .int .i64 0, .int .i64 0, .int .i64 0] 136)) w') := concat_any _ yss _ hp (by omega) (by omega)
  have C2 : Hid (∀ X v1 v2, PartsR X (.slice (some ⟨v1, 0, none⟩) 2 v2) [[(kind, 0, 0, 0)], yss.flatten] → Calls Tryz.prog 142 #[.slice (some ⟨v1, 0, none⟩) 2 v2] X fun e w' => ∃ v', e = .returned v' ∧ CondR w' v' ((kind, 0, 0, 0) :: yss.flatten) ∧ Below X.heap.size X w') := fun X v1 v2 hX => by
    have := concat_any _ [[(kind, 0, 0, 0)], yss.flatten] X hX (by simp only [List.flatten_cons, List.flatten_nil, List.append_nil, List.length_append, List.length_cons, List.length_nil]; omega) (by simp)
    simpa only [List.flatten_cons, List.flatten_nil, List.append_nil, List.cons_append, List.nil_append] using this
  have HW : Hid _ := hw
  clear h hp hw
  generalize yss.flatten = Z at *
  go_enter Tryz.func94, Tryz.ntmps94
  go_wp2_with fail
  refine Calls.mono C1.out ?_
  rintro e w1 ⟨v1, rfl, hc1, hb1⟩
  have hw1 : CondR w1 (.slice (some ⟨w.heap.size, 0, none⟩) 1 1) [(kind, 0, 0, 0)] := CondR.below HW.out hb1
  have hB1 : Below w.heap.size w w1 := (below_alloc w _).trans (hb1.mono (by simp))
  have HP2 := parts_two w1 (.slice (some ⟨w.heap.size, 0, none⟩) 1 1) v1 [(kind, 0, 0, 0)] Z 75 hw1 hc1
  obtain ⟨xa, xc, rfl⟩ := hc1.shape
  have HPP : Hid _ := HP2
  have HB1 : Hid (Below w.heap.size w w1) := hB1
  clear hw1 hb1 hB1 HW hc1 HP2
  go_wp2_with fail
  refine Calls.mono (C2.out _ _ _ HPP.out) ?_
  rintro e w2 ⟨v2, rfl, hc2, hb2⟩
  go_wp2_with fail
  go_ret
  exact ⟨_, rfl, hc2, (HB1.out.alloc HB1.out.size _).trans (hb2.mono (by have := HB1.out.size; simp; omega))⟩

def TwF (w w' : World) (B : Nat) (a1 a2 b1 b2 : Int) : Prop := Below w.heap.size w w' ∧ B < w'.heap.size ∧ w'.cell? ⟨B, 3, none⟩ = some (.int .i64 a1) ∧ w'.cell? ⟨B, 4, none⟩ = some (.int .i64 a2) ∧ w'.cell? ⟨B, 5, none⟩ = some (.int .i64 b1) ∧ w'.cell? ⟨B, 6, none⟩ = some (.int .i64 b2)
theorem TwF.on {w X X' : World} {B : Nat} {a1 a2 b1 b2 : Int} (h : TwF w X B a1 a2 b1 b2) (hb : Below X.heap.size X X') : TwF w X' B a1 a2 b1 b2 := by
  obtain ⟨h0, h1, h2, h3, h4, h5⟩ := h
  exact ⟨h0.trans (hb.mono h0.size), Nat.lt_of_lt_of_le h1 hb.size, (hb.cell (p := ⟨B, 3, none⟩) h1).trans h2, (hb.cell (p := ⟨B, 4, none⟩) h1).trans h3, (hb.cell (p := ⟨B, 5, none⟩) h1).trans h4, (hb.cell (p := ⟨B, 6, none⟩) h1).trans h5⟩

set_option maxRecDepth 100000 in
set_option maxHeartbeats 2000000 in
theorem comparison_any (k : Int) (p : Option Addr) (n c : Nat) (r a1 a2 b1 b2 : Int) (w : World) (hr : 0 ≤ r ∧ r ≤ 4) (ha : tOk (a1, a2)) (hb : tOk (b1, b2)) :
    Calls Tryz.prog 141 #[.agg #[.int .i64 k, .slice p n c, .int .i64 r, .int .i64 a1, .int .i64 a2, .int .i64 b1, .int .i64 b2]] w fun e w' => ∃ v, e = .returned v ∧ CondR w' v (cms r (a1, a2) (b1, b2)) ∧ Below w.heap.size w w' := by
  have BL : Hid (∀ w, Calls Tryz.prog 214 #[.agg #[.int .i64 a1, .int .i64 a2], .agg #[.int .i64 b1, .int .i64 b2]] w fun e w' => ∃ v, e = .returned v ∧ CondR w' v [aty (a1 + 1) (b1 + 1) (b2 - a2 - 1)] ∧ Below w.heap.size w w') := fun w => below_any a1 a2 b1 b2 w ha hb
  have BG : Hid (∀ w, Calls Tryz.prog 214 #[.agg #[.int .i64 b1, .int .i64 b2], .agg #[.int .i64 a1, .int .i64 a2]] w fun e w' => ∃ v, e = .returned v ∧ CondR w' v [aty (b1 + 1) (a1 + 1) (a2 - b2 - 1)] ∧ Below w.heap.size w w') := fun w => below_any b1 b2 a1 a2 w hb ha
  have AL : Hid (∀ w, Calls Tryz.prog 215 #[.agg #[.int .i64 a1, .int .i64 a2], .agg #[.int .i64 b1, .int .i64 b2]] w fun e w' => ∃ v, e = .returned v ∧ CondR w' v [aty (a1 + 1) (b1 + 1) (b2 - a2)] ∧ Below w.heap.size w w') := fun w => wAtMost_any a1 a2 b1 b2 w ha ⟨hb.1, hb.2.1, by have := hb.2.2.1; dsimp only at this; omega, hb.2.2.2⟩
  have AG : Hid (∀ w, Calls Tryz.prog 215 #[.agg #[.int .i64 b1, .int .i64 b2], .agg #[.int .i64 a1, .int .i64 a2]] w fun e w' => ∃ v, e = .returned v ∧ CondR w' v [aty (b1 + 1) (a1 + 1) (a2 - b2)] ∧ Below w.heap.size w w') := fun w => wAtMost_any b1 b2 a1 a2 w hb ⟨ha.1, ha.2.1, by have := ha.2.2.1; dsimp only at this; omega, ha.2.2.2⟩
  clear ha hb
  have hrr : r = 0 ∨ r = 1 ∨ r = 3 ∨ r = 4 ∨ r = 2 := by omega
  clear hr
  rcases hrr with rfl | rfl | rfl | rfl | rfl
  · go_enter Tryz.func141, Tryz.ntmps141
    go_wp2_with fail
    refine (BL.out _).mono ?_
    rintro e w1 ⟨v, rfl, hc, hb1⟩
    go_wp2_with fail
    go_ret
    exact ⟨_, rfl, hc, (below_alloc w _).trans (hb1.mono (by simp))⟩
  · go_enter Tryz.func141, Tryz.ntmps141
    go_wp2_with fail
    refine (AL.out _).mono ?_
    rintro e w1 ⟨v, rfl, hc, hb1⟩
    go_wp2_with fail
    go_ret
    exact ⟨_, rfl, hc, (below_alloc w _).trans (hb1.mono (by simp))⟩
  · go_enter Tryz.func141, Tryz.ntmps141
    go_wp2_with fail
    refine (BG.out _).mono ?_
    rintro e w1 ⟨v, rfl, hc, hb1⟩
    go_wp2_with fail
    go_ret
    exact ⟨_, rfl, hc, (below_alloc w _).trans (hb1.mono (by simp))⟩
  · go_enter Tryz.func141, Tryz.ntmps141
    go_wp2_with fail
    refine (AG.out _).mono ?_
    rintro e w1 ⟨v, rfl, hc, hb1⟩
    go_wp2_with fail
    go_ret
    exact ⟨_, rfl, hc, (below_alloc w _).trans (hb1.mono (by simp))⟩
  · have CO : Hid (∀ X g m, PartsR X (.slice (some ⟨g, 0, none⟩) 2 m) [[aty (a1 + 1) (b1 + 1) (b2 - a2)], [aty (b1 + 1) (a1 + 1) (a2 - b2)]] → Calls Tryz.prog 94 #[.int .i64 3, .slice (some ⟨g, 0, none⟩) 2 m] X fun e w' => ∃ v', e = .returned v' ∧ CondR w' v' (cms 2 (a1, a2) (b1, b2)) ∧ Below X.heap.size X w') := fun X g m hX => of_any 3 _ _ X hX (by simp) (by simp)
    generalize cms 2 (a1, a2) (b1, b2) = CM at *
    generalize aty (a1 + 1) (b1 + 1) (b2 - a2) = Y1 at *
    generalize aty (b1 + 1) (a1 + 1) (a2 - b2) = Y2 at *
    go_enter Tryz.func141, Tryz.ntmps141
    go_wp2_with fail
    have bb0 : Below w.heap.size w (w.alloc (.cells #[.int .i64 k, .slice p n c, .int .i64 2, .int .i64 a1, .int .i64 a2, .int .i64 b1, .int .i64 b2] 98)) := below_alloc w _
    generalize hW : (w.alloc (.cells #[.int .i64 k, .slice p n c, .int .i64 2, .int .i64 a1, .int .i64 a2, .int .i64 b1, .int .i64 b2] 98)) = W at *
    have s0 : w.heap.size < W.heap.size := by rw [← hW]; simp
    have c3 : W.cell? ⟨w.heap.size, 3, none⟩ = some (.int .i64 a1) := by rw [← hW]; simp
    have c4 : W.cell? ⟨w.heap.size, 4, none⟩ = some (.int .i64 a2) := by rw [← hW]; simp
    have c5 : W.cell? ⟨w.heap.size, 5, none⟩ = some (.int .i64 b1) := by rw [← hW]; simp
    have c6 : W.cell? ⟨w.heap.size, 6, none⟩ = some (.int .i64 b2) := by rw [← hW]; simp
    have bb1 : Below w.heap.size w W.drew := bb0.drew
    have T0 : TwF w W.drew w.heap.size a1 a2 b1 b2 := ⟨bb1, s0, c3, c4, c5, c6⟩
    clear hW
    go_region_held3 (fun w' => Below w.heap.size w w' ∧ w.heap.size < w'.heap.size ∧ w'.cell? ⟨w.heap.size, 3, none⟩ = some (.int .i64 a1) ∧ w'.cell? ⟨w.heap.size, 4, none⟩ = some (.int .i64 a2) ∧ w'.cell? ⟨w.heap.size, 5, none⟩ = some (.int .i64 b1) ∧ w'.cell? ⟨w.heap.size, 6, none⟩ = some (.int .i64 b2)) (first | (refine ⟨?_, ?_, ?_, ?_, ?_, ?_⟩ <;> assumption) | exact (T2.on (below_alloc _ _))) (first | (go_at_call 94; refine Calls.mono (CO.out _ _ _ (parts_two _ _ _ [Y1] [Y2] 75 hc1' hc2)) ?_; rintro e w4 ⟨v4, rfl, hc4, hb4⟩; have T3 := (T2.on (below_alloc _ _)).on hb4; obtain ⟨t0, t1, t2, t3, t4, t5⟩ := id T3) | (go_at_call 215; first | (have hh := T1; refine (AG.out _).mono ?_; rintro e w3 ⟨v2, rfl, hc2, hb3⟩; obtain ⟨xa2, xc2, rfl⟩ := hc2.shape; have T2 := T1.on hb3; have hc1' := hc1.below hb3; clear hh; obtain ⟨t0, t1, t2, t3, t4, t5⟩ := id T2) | (refine (AL.out _).mono ?_; rintro e w3 ⟨v1, rfl, hc1, hb3⟩; obtain ⟨xa1, xc1, rfl⟩ := hc1.shape; have T1 := T0.on hb3; obtain ⟨t0, t1, t2, t3, t4, t5⟩ := id T1)))
    go_wp2_with fail
    go_ret
    exact ⟨_, rfl, hc4, t0⟩
end Go.Proofs.YtkinoehmcfhgbaaGreatDoor.Vl
