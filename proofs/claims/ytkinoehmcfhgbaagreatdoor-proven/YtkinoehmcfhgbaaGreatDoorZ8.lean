/-
  The prover at work: frames with the blocks that may change, blocks of one cell an element, the goal in memory, the map of what is assumed by numbers.
  The prover in memory.
  The walk of the library's slices.Backward, at a goal.
-/
import Derived.Test.YtkinoehmcfhgbaaGreatDoorY2
import Derived.Test.YtkinoehmcfhgbaaGreatDoorV15
import Derived.Maps.OwnSet
import Derived.Test.YtkinoehmcfhgbaaGreatDoorH13
set_option linter.unusedVariables false
set_option linter.unusedSimpArgs false
namespace Go.Proofs.YtkinoehmcfhgbaaGreatDoor.Vl
open Go.RowKit Go.Maps

/-- All old memory but the blocks of M is as it was. -/
structure FrX (M : List Nat) (w w' : World) : Prop where
  os : w'.os = w.os
  tape : w'.tape = w.tape
  output : w'.output = w.output
  size : w.heap.size ≤ w'.heap.size
  block : ∀ k, k < w.heap.size → k ∉ M → w'.heap[k]? = w.heap[k]?
theorem FrX.refl (M : List Nat) (w : World) : FrX M w w := ⟨rfl, rfl, rfl, Nat.le_refl _, fun _ _ _ => rfl⟩
theorem FrX.trans {M : List Nat} {a c d : World} (h : FrX M a c) (k : FrX M c d) : FrX M a d :=
  ⟨k.os.trans h.os, k.tape.trans h.tape, k.output.trans h.output, Nat.le_trans h.size k.size, fun i hi h1 => (k.block i (Nat.lt_of_lt_of_le hi h.size) h1).trans (h.block i hi h1)⟩
theorem FrX.of_below {M : List Nat} {w w' : World} (h : Below w.heap.size w w') : FrX M w w' := ⟨h.os, h.tape, h.output, h.size, fun k hk _ => h.block k hk⟩
theorem FrX.of_grown {M : List Nat} {w w' : World} {b : Nat} (h : w.grownBy w' (some b)) (hb : b ∈ M) : FrX M w w' := ⟨h.os, h.tape, h.output, h.size, fun k hk h1 => h.block k hk (fun e => h1 (by injection e with e; rw [e]; exact hb))⟩
theorem FrX.of_set {M : List Nat} (w : World) (b o : Nat) (v : Value) (hb : b ∈ M) : FrX M w (w.setCell ⟨b, o, none⟩ v) := FrX.of_grown (grown_cell' w b o v) hb
theorem FrX.below {M : List Nat} {w0 w w' : World} (h : FrX M w w') (h0 : Below w0.heap.size w0 w) (hM : ∀ m ∈ M, w0.heap.size ≤ m) : Below w0.heap.size w0 w' :=
  ⟨h.os.trans h0.os, h.tape.trans h0.tape, h.output.trans h0.output, Nat.le_trans h0.size h.size, fun k hk => (h.block k (Nat.lt_of_lt_of_le hk h0.size) (fun e => by have := hM k e; omega)).trans (h0.block k hk)⟩
theorem FrX.sub {M M' : List Nat} {w w' : World} (h : FrX M w w') (hs : ∀ m ∈ M, m ∈ M') : FrX M' w w' := ⟨h.os, h.tape, h.output, h.size, fun k hk h1 => h.block k hk (fun e => h1 (hs k e))⟩
theorem FrX.cell {M : List Nat} {w w' : World} (h : FrX M w w') {b : Nat} (o : Nat) (hb : b < w.heap.size) (hM : b ∉ M) : w'.cell? ⟨b, o, none⟩ = w.cell? ⟨b, o, none⟩ := World.cell?_of_block (a := ⟨b, o, none⟩) (h.block b hb hM)
theorem FrX.nil_below {w w' : World} (h : FrX [] w w') : Below w.heap.size w w' := ⟨h.os, h.tape, h.output, h.size, fun k hk => h.block k hk List.not_mem_nil⟩

/-- A block, cell by cell. -/
def Blk (w : World) (b : Nat) (ty : TypeId) (cs : List Value) : Prop := w.heap[b]? = some (.cells cs.toArray ty)
theorem Blk.lt {w : World} {b : Nat} {ty : TypeId} {cs : List Value} (h : Blk w b ty cs) : b < w.heap.size := (Array.getElem?_eq_some_iff.1 h).1
theorem Blk.cell {w : World} {b : Nat} {ty : TypeId} {cs : List Value} (h : Blk w b ty cs) {i : Nat} {v : Value} (hv : cs[i]? = some v) : w.cell? ⟨b, i, none⟩ = some v := by
  unfold Blk at h
  simp [World.cell?, h, hv]
theorem Blk.cell? {w : World} {b : Nat} {ty : TypeId} {cs : List Value} (h : Blk w b ty cs) (i : Nat) : w.cell? ⟨b, i, none⟩ = cs[i]? := by
  unfold Blk at h
  simp [World.cell?, h]
theorem Blk.free {w : World} {b : Nat} {ty : TypeId} {cs : List Value} (h : Blk w b ty cs) (o : Nat) : w.frozen? ⟨b, o, none⟩ = false := Lib.frozen_of_heap h o
theorem Blk.set {w : World} {b : Nat} {ty : TypeId} {cs : List Value} (h : Blk w b ty cs) (i : Nat) (v : Value) : Blk (w.setCell ⟨b, i, none⟩ v) b ty (cs.set i v) := by
  have := heap_setCell_same w b i _ _ v h
  unfold Blk
  rw [this]
  simp
theorem Blk.other {w : World} {b : Nat} {ty : TypeId} {cs : List Value} (h : Blk w b ty cs) {b' : Nat} (i : Nat) (v : Value) (hne : b ≠ b') : Blk (w.setCell ⟨b', i, none⟩ v) b ty cs := (Below.heap_setCell w ⟨b', i, none⟩ v b hne).trans h
theorem Blk.fr {M : List Nat} {w w' : World} {b : Nat} {ty : TypeId} {cs : List Value} (h : Blk w b ty cs) (hf : FrX M w w') (hM : b ∉ M) : Blk w' b ty cs := (hf.block b h.lt hM).trans h
theorem Blk.below {w w' : World} {b : Nat} {ty : TypeId} {cs : List Value} (h : Blk w b ty cs) (hb : Below w.heap.size w w') : Blk w' b ty cs := (hb.block b h.lt).trans h
theorem Blk.drew {w : World} {b : Nat} {ty : TypeId} {cs : List Value} (h : Blk w b ty cs) : Blk w.drew b ty cs := h
/-- A list made at its full length is a block. -/
theorem blk_made {w : World} {base b n : Nat} {e : TypeId} {z : Value} (h : w.ownsRow base e 1 (.slice (some ⟨b, 0, none⟩) n n) n (List.replicate n z)) : Blk w b e (List.replicate n z) := by
  rcases h.2 with ⟨h1, h2⟩ | ⟨g, cap, cur, hv, hg, hh, h3, h4, h5, h6⟩
  · cases h1
  · injection hv with e1 e2 e3
    injection e1 with e1
    injection e1 with e1
    subst e1 e3
    unfold Blk
    rw [hh]
    have : cur.toList = List.replicate n z := by rw [← h6, List.take_of_length_le (by rw [Array.length_toList, h5]; exact Nat.le_refl _)]
    rw [← this]
/-- Blocks with no number first: what the prover changes. -/
def NoI (w : World) (M : List Nat) : Prop := ∀ m ∈ M, ∀ x, w.cell? ⟨m, 0, none⟩ ≠ some (.int .i64 x)
theorem IntsR.fr {M : List Nat} {w w' : World} {v : Value} {l : List Int} (h : IntsR w v l) (hf : FrX M w w') (hn : NoI w M) : IntsR w' v l := by
  rcases h with h | ⟨b, cap, h1, h2, h3, h4, h5⟩
  · exact Or.inl h
  · refine Or.inr ⟨b, cap, h1, h2, h3, Nat.lt_of_lt_of_le h4 hf.size, fun j x hx => ?_⟩
    have hl : 0 < l.length := by have := (List.getElem?_eq_some_iff.1 hx).1; omega
    have h0 := h5 0 _ (List.getElem?_eq_getElem hl)
    have hb : b ∉ M := fun hm => hn b hm _ h0
    exact (hf.cell j h4 hb).trans (h5 j x hx)
theorem Atms.fr {M : List Nat} {w w' : World} {v : Value} {l : List Atm} (h : Atms w v l) (hf : FrX M w w') (hn : NoI w M) : Atms w' v l := by
  rcases h with h | ⟨b, cap, h1, h2, h3, h4, h5⟩
  · exact Or.inl h
  · refine Or.inr ⟨b, cap, h1, h2, h3, Nat.lt_of_lt_of_le h4 hf.size, fun j x hx => ?_⟩
    have hl : 0 < l.length := by have := (List.getElem?_eq_some_iff.1 hx).1; omega
    have h0 := (h5 0 _ (List.getElem?_eq_getElem hl)).1
    rw [Nat.zero_mul] at h0
    have hb : b ∉ M := fun hm => hn b hm _ h0
    obtain ⟨a1, a2, a3⟩ := h5 j x hx
    exact ⟨(hf.cell _ h4 hb).trans a1, (hf.cell _ h4 hb).trans a2, (hf.cell _ h4 hb).trans a3⟩
theorem BdAt.fr {M : List Nat} {w w' : World} {b o : Nat} {B : Bd} (h : BdAt w b o B) (hf : FrX M w w') (hn : NoI w M) (hb : b ∉ M) : BdAt w' b o B :=
  ⟨Nat.lt_of_lt_of_le h.1 hf.size, fun i j hi hj => by
    obtain ⟨h1, h2, v, h3, h4⟩ := h.2 i j hi hj
    exact ⟨(hf.cell _ h.1 hb).trans h1, (hf.cell _ h.1 hb).trans h2, v, (hf.cell _ h.1 hb).trans h3, h4.fr hf hn⟩⟩
/-- A goal's parts as cells. -/
def cellsG : List Pt → List Value
  | [] => []
  | x :: r => .int .i64 x.1 :: .int .i64 x.2.1 :: .int .i64 x.2.2.1 :: .int .i8 x.2.2.2 :: cellsG r
theorem cellsG_len : ∀ g : List Pt, (cellsG g).length = g.length * 4
  | [] => rfl
  | x :: r => by simp only [cellsG, List.length_cons, cellsG_len r]; omega
theorem cellsG_app : ∀ g h : List Pt, cellsG (g ++ h) = cellsG g ++ cellsG h
  | [], h => rfl
  | x :: r, h => by simp [cellsG, cellsG_app r h]
theorem cellsG_at : ∀ (g : List Pt) (j : Nat) (x : Pt), g[j]? = some x → (cellsG g)[j * 4]? = some (.int .i64 x.1) ∧ (cellsG g)[j * 4 + 1]? = some (.int .i64 x.2.1) ∧ (cellsG g)[j * 4 + 2]? = some (.int .i64 x.2.2.1) ∧ (cellsG g)[j * 4 + 3]? = some (.int .i8 x.2.2.2)
  | [], j, x, h => by simp at h
  | y :: r, 0, x, h => by
    obtain rfl : y = x := by simpa using h
    exact ⟨rfl, rfl, rfl, rfl⟩
  | y :: r, j + 1, x, h => by
    have := cellsG_at r j x (by simpa using h)
    simp only [cellsG]
    rw [show (j + 1) * 4 = j * 4 + 4 by omega]
    exact this
/-- A goal in memory, at block b. -/
def Gol (w : World) (b : Nat) (g : List Pt) : Prop := b < w.heap.size ∧ ∀ (j : Nat) (x : Pt), g[j]? = some x → w.cell? ⟨b, j * 4, none⟩ = some (.int .i64 x.1) ∧ w.cell? ⟨b, j * 4 + 1, none⟩ = some (.int .i64 x.2.1) ∧ w.cell? ⟨b, j * 4 + 2, none⟩ = some (.int .i64 x.2.2.1) ∧ w.cell? ⟨b, j * 4 + 3, none⟩ = some (.int .i8 x.2.2.2)
theorem Gol.fr {M : List Nat} {w w' : World} {b : Nat} {g : List Pt} (h : Gol w b g) (hf : FrX M w w') (hM : b ∉ M) : Gol w' b g :=
  ⟨Nat.lt_of_lt_of_le h.1 hf.size, fun j x hx => by
    obtain ⟨h1, h2, h3, h4⟩ := h.2 j x hx
    exact ⟨(hf.cell _ h.1 hM).trans h1, (hf.cell _ h.1 hM).trans h2, (hf.cell _ h.1 hM).trans h3, (hf.cell _ h.1 hM).trans h4⟩⟩
theorem Gol.below {w w' : World} {b : Nat} {g : List Pt} (h : Gol w b g) (hf : Below w.heap.size w w') : Gol w' b g := h.fr (M := []) (FrX.of_below hf) List.not_mem_nil
theorem own_gol {w : World} {base : Nat} {e : TypeId} {v : Value} {g : List Pt} (h : w.ownsRow base e 4 v g.length (cellsG g)) (hg : g ≠ []) : ∃ b cap, v = .slice (some ⟨b, 0, none⟩) g.length cap ∧ base ≤ b ∧ g.length ≤ cap ∧ cap ≤ maxLen ∧ Gol w b g := by
  rcases h.2 with ⟨h1, h2⟩ | ⟨b, cap, cur, hv, hb, hh, h3, h4, h5, h6⟩
  · exact absurd (List.length_eq_zero_iff.1 h2) hg
  · have hlt : b < w.heap.size := (Array.getElem?_eq_some_iff.1 hh).1
    have e : ∀ i u, (cellsG g)[i]? = some u → w.cell? ⟨b, i, none⟩ = some u := by
      intro i u hu
      rw [← h6, List.getElem?_take] at hu
      split at hu
      · have : cur[i]? = some u := by simpa using hu
        simp [World.cell?, hh, this]
      · cases hu
    refine ⟨b, cap, hv, hb, h3, h4, hlt, fun j x hx => ?_⟩
    obtain ⟨a1, a2, a3, a4⟩ := cellsG_at g j x hx
    exact ⟨e _ _ a1, e _ _ a2, e _ _ a3, e _ _ a4⟩
/- What is assumed of atoms, by their numbers. -/
theorem keyedN : Keyed Tryz.prog 3 := int_keyed Tryz.underlying3
theorem keyN (i : Nat) (hi : i < 5000) : keyOf Tryz.prog 3 (.int .i64 (i : Int)) = some (.int .i64 (i : Int)) :=
  keyOf_int_mk Tryz.underlying3 (by simp [Lit.wf, IntKind.wrap, IntKind.bits, IntKind.signed, IntKind.min, IntKind.max]; omega)
theorem lit_nat {i j : Nat} (h : Lit.int .i64 (i : Int) = .int .i64 (j : Int)) : i = j := by
  simp only [Lit.int.injEq, true_and] at h
  exact Int.ofNat.inj h
def NM (w : World) (b n : Nat) (A : Nat → Int) : Prop := ∃ D : DataW Unit, w.ownsMap Tryz.prog 3 (plainElem Tryz.prog 159) b n D ∧ IsMap D ∧ ∀ i : Nat, i < 5000 → D.atKey (.int .i64 (i : Int)) (.lit (.int .i8 0)) = .lit (.int .i8 (A i)) ∧ Maps.has D (.int .i64 (i : Int)) = decide (A i ≠ 0)
theorem NM.made (w : World) : NM (w.alloc (.map #[] 0)) w.heap.size 0 (fun _ => 0) := ⟨.map [], World.ownsMap_made _ _ _ _, ⟨_, rfl⟩, fun i _ => ⟨rfl, rfl⟩⟩
theorem NM.lt {w : World} {b n : Nat} {f : Nat → Int} (h : NM w b n f) : b < w.heap.size := by
  obtain ⟨D, h1, _⟩ := h
  exact h1.lt
theorem NM.fr {M : List Nat} {w w' : World} {b n : Nat} {f : Nat → Int} (h : NM w b n f) (hf : FrX M w w') (hM : b ∉ M) : NM w' b n f := by
  obtain ⟨D, ⟨es, clock, hb, r⟩, h2, h3⟩ := h
  exact ⟨D, ⟨es, clock, (hf.block b (Array.getElem?_eq_some_iff.1 hb).1 hM).trans hb, r⟩, h2, h3⟩
theorem NM.noi {w : World} {b n : Nat} {f : Nat → Int} (h : NM w b n f) (o : Nat) : w.cell? ⟨b, o, none⟩ = none := by
  obtain ⟨D, ⟨es, clock, hb, r⟩, h2, h3⟩ := h
  simp [World.cell?, hb]
set_option maxRecDepth 100000 in
theorem NM.look {w : World} {b n : Nat} {f : Nat → Int} (h : NM w b n f) (i : Nat) (hi : i < 5000) : (Instr.lookup 175 (.map (some b)) (.int .i64 (i : Int)) true).run Tryz.prog w = .ok (.tuple #[.int .i8 (f i), .bool (decide (f i ≠ 0))]) w := by
  obtain ⟨D, h1, _, h3⟩ := h
  obtain ⟨v, ps, hrun, hv⟩ := h1.look_ok keyedN Tryz.underlying175 (Tryz.zeroValue159 w) (plainElem_int Tryz.underlying159 (a := 0) (by decide)) (keyN i hi)
  obtain ⟨e1, e2⟩ := h3 i hi
  obtain ⟨c, rfl, hc, _⟩ := plainElem_int_inv Tryz.underlying159 hv
  rw [e1] at hc
  have hc' : f i = c ∧ ps = [] := by simpa using hc
  rw [hrun, e2, hc'.1]
theorem NM.put {w : World} {b n : Nat} {f : Nat → Int} (h : NM w b n f) (i : Nat) (hi : i < 5000) (t : Int) (ht : T3 t) (ht0 : t ≠ 0) (hn : n < maxLen) :
    ∃ w', (Instr.mapUpdate 175 (.map (some b)) (.int .i64 (i : Int)) (.int .i8 t)).run Tryz.prog w = .ok () w' ∧ NM w' b (n + 1) (setN f i t) ∧ w.grownBy w' (some b) := by
  obtain ⟨D, h1, h2, h3⟩ := h
  obtain ⟨w', r1, r2, r3⟩ := h1.update keyedN Tryz.underlying175 hn (keyN i hi) (plainElem_int Tryz.underlying159 (wf8 ht))
  refine ⟨w', r1, ⟨_, r2, h2.put _ _, fun j hj => ?_⟩, r3⟩
  unfold setN
  by_cases e : j = i
  · subst e
    rw [if_pos rfl, atKey_put_same h2 (keyedN.key (keyN j hj)), has_put_same h2 (keyedN.key (keyN j hj))]
    exact ⟨rfl, by rw [decide_eq_true ht0]⟩
  · have hne : (Lit.int .i64 (j : Int)) ≠ .int .i64 (i : Int) := fun e2 => e (lit_nat e2)
    rw [if_neg e, atKey_put_other hne, has_put_other hne]
    exact h3 j hj
theorem NM.del {w : World} {b n : Nat} {f : Nat → Int} (h : NM w b n f) (i : Nat) (hi : i < 5000) (ty : TypeId) :
    ∃ w', (Builtin.delete_ #[175, 3] ty #[.map (some b), .int .i64 (i : Int)]).run Tryz.prog w = .ok (.tuple #[]) w' ∧ NM w' b n (setN f i 0) ∧ w.grownBy w' (some b) := by
  obtain ⟨D, h1, h2, h3⟩ := h
  obtain ⟨w', r1, r2, r3⟩ := h1.drop keyedN Tryz.underlying175 (keyN i hi) ty
  refine ⟨w', r1, ⟨_, r2, r2.isMap, fun j hj => ?_⟩, r3.grown⟩
  unfold setN
  by_cases e : j = i
  · subst e
    rw [if_pos rfl, atKey_del_same, has_del_same]
    exact ⟨rfl, rfl⟩
  · have hne : (Lit.int .i64 (j : Int)) ≠ .int .i64 (i : Int) := fun e2 => e (lit_nat e2)
    rw [if_neg e, atKey_del_other hne, has_del_other hne]
    exact h3 j hj
theorem NM.clear {w : World} {b n : Nat} {f : Nat → Int} (h : NM w b n f) (ty : TypeId) :
    ∃ w', (Builtin.clear_ #[175] ty #[.map (some b)]).run Tryz.prog w = .ok (.tuple #[]) w' ∧ NM w' b 0 (fun _ => 0) ∧ w.grownBy w' (some b) := by
  obtain ⟨D, h1, h2, h3⟩ := h
  obtain ⟨es, clock, hb, F, hs, rfl⟩ := h1
  refine ⟨ChangeMaps.setBlock w b (.map #[] clock), ?_, ⟨_, ⟨#[], clock, Go.ChangeMaps.heap_setBlock_same hb _, ?_, Nat.le_refl _, rfl⟩, ⟨_, rfl⟩, fun i _ => ⟨rfl, rfl⟩⟩, ⟨rfl, rfl, rfl, by simp [ChangeMaps.setBlock], fun i _ hi => Go.ChangeMaps.heap_setBlock_other hb _ (fun e => hi (by rw [e]))⟩⟩
  · simp [Builtin.clear_, run_underlying Tryz.underlying175, MapKept.run_getObj_map hb, MapKept.run_setObj_map _ hb, Result.andThen, ChangeMaps.setBlock]
  · exact ⟨by simp, MapKept.stamped_empty _, by simp⟩
end Go.Proofs.YtkinoehmcfhgbaaGreatDoor.Vl
set_option linter.unusedVariables false
set_option linter.unusedSimpArgs false
namespace Go.Proofs.YtkinoehmcfhgbaaGreatDoor.Vl
open Go.RowKit

/-- Where the prover's things lie: itself, what is assumed, the truths, the parts, the goal; its kernel; the atoms. -/
structure PD where
  pb : Nat
  mb : Nat
  tb : Nat
  qb : Nat
  gb : Nat
  kb : Nat
  qa : Option Addr
  ca : Nat
  cg : Nat
def PD.M (D : PD) : List Nat := [D.pb, D.mb, D.tb, D.qb]
def PD.cs (D : PD) (us : List Atm) (g : List Pt) (s : Nat) : List Value := [.pointer (some ⟨D.kb, 0, none⟩), .slice D.qa us.length D.ca, .slice (some ⟨D.gb, 0, none⟩) g.length D.cg, .int .i64 (s : Int), .map (some D.mb), .slice (some ⟨D.tb, 0, none⟩) us.length us.length, .slice (some ⟨D.qb, 0, none⟩) g.length g.length]
structure PvS (w0 w : World) (D : PD) (us : List Atm) (g : List Pt) (s n : Nat) (A : Nat → Int) (ats parts : List Int) : Prop where
  h0 : Below w0.heap.size w0 w
  hM : ∀ m ∈ D.M, w0.heap.size ≤ m
  hd : D.M.Nodup
  box : Blk w D.pb 180 (D.cs us g s)
  atm : Atms w (.slice D.qa us.length D.ca) us
  gol : Gol w D.gb g
  gne : D.gb ∉ D.M
  gcap : g.length ≤ D.cg
  am : NM w D.mb n A
  tr : Blk w D.tb 159 (ats.map tv8)
  tl : ats.length = us.length
  pr : Blk w D.qb 159 (parts.map tv8)
  pl : parts.length = g.length
/-- What stays when nothing but new memory is touched. -/
theorem PvS.below {w0 w w' : World} {D : PD} {us : List Atm} {g : List Pt} {s n : Nat} {A : Nat → Int} {ats parts : List Int} (h : PvS w0 w D us g s n A ats parts) (hb : Below w.heap.size w w') : PvS w0 w' D us g s n A ats parts :=
  ⟨h.h0.trans (hb.mono h.h0.size), h.hM, h.hd, h.box.below hb, h.atm.below hb, h.gol.below hb, h.gne, h.gcap, h.am.fr (M := []) (FrX.of_below hb) List.not_mem_nil, h.tr.below hb, h.tl, h.pr.below hb, h.pl⟩
theorem PvS.noi {w0 w : World} {D : PD} {us : List Atm} {g : List Pt} {s n : Nat} {A : Nat → Int} {ats parts : List Int} (h : PvS w0 w D us g s n A ats parts) : NoI w D.M := by
  intro m hm x e
  unfold PD.M at hm
  simp only [List.mem_cons, List.not_mem_nil, or_false] at hm
  rcases hm with rfl | rfl | rfl | rfl
  · rw [h.box.cell?] at e; cases e
  · rw [h.am.noi] at e; cases e
  · rw [h.tr.cell?, List.getElem?_map] at e
    obtain ⟨t, _, e⟩ := Option.map_eq_some_iff.1 e
    cases e
  · rw [h.pr.cell?, List.getElem?_map] at e
    obtain ⟨t, _, e⟩ := Option.map_eq_some_iff.1 e
    cases e
theorem PvS.ne {w0 w : World} {D : PD} {us : List Atm} {g : List Pt} {s n : Nat} {A : Nat → Int} {ats parts : List Int} (h : PvS w0 w D us g s n A ats parts) : D.pb ≠ D.mb ∧ D.pb ≠ D.tb ∧ D.pb ≠ D.qb ∧ D.mb ≠ D.tb ∧ D.mb ≠ D.qb ∧ D.tb ≠ D.qb ∧ D.gb ≠ D.pb ∧ D.gb ≠ D.mb ∧ D.gb ≠ D.tb ∧ D.gb ≠ D.qb := by
  have hd := h.hd
  have hg := h.gne
  unfold PD.M at hd hg
  simp only [List.nodup_cons, List.mem_cons, List.not_mem_nil, or_false, not_or, List.nodup_nil, and_true, not_false_eq_true] at hd hg
  exact ⟨hd.1.1, hd.1.2.1, hd.1.2.2, hd.2.1.1, hd.2.1.2, hd.2.2, hg.1, hg.2.1, hg.2.2.1, hg.2.2.2⟩
theorem PD.mp (D : PD) : D.pb ∈ D.M := by simp [PD.M]
theorem PD.mm (D : PD) : D.mb ∈ D.M := by simp [PD.M]
theorem PD.mt (D : PD) : D.tb ∈ D.M := by simp [PD.M]
theorem PD.mq (D : PD) : D.qb ∈ D.M := by simp [PD.M]
theorem setCell_fr (w : World) (b o : Nat) (v : Value) : FrX [b] w (w.setCell ⟨b, o, none⟩ v) := FrX.of_set w b o v (by simp)
theorem NoI.sub {w : World} {M M' : List Nat} (h : NoI w M) (hs : ∀ m ∈ M', m ∈ M) : NoI w M' := fun m hm => h m (hs m hm)
theorem FrX.drew {M : List Nat} {w w' : World} (h : FrX M w w') : FrX M w w'.drew := h.trans (FrX.of_below (Below.refl _ _).drew)
/-- A truth is put. -/
theorem PvS.setT {w0 w : World} {D : PD} {us : List Atm} {g : List Pt} {s n : Nat} {A : Nat → Int} {ats parts : List Int} (h : PvS w0 w D us g s n A ats parts) (i : Nat) (t : Int) : PvS w0 (w.setCell ⟨D.tb, i, none⟩ (.int .i8 t)) D us g s n A (ats.set i t) parts := by
  have hf := setCell_fr w D.tb i (.int .i8 t)
  have hf' := hf.sub (M' := D.M) (by intro m hm; rw [List.mem_singleton.1 hm]; exact D.mt)
  obtain ⟨n1, n2, n3, n4, n5, n6, n7, n8, n9, n10⟩ := h.ne
  refine ⟨hf'.below h.h0 h.hM, h.hM, h.hd, h.box.other _ _ n2, h.atm.fr hf' h.noi, h.gol.fr hf (by simp [n9]), h.gne, h.gcap, h.am.fr hf (by simp [n4]), ?_, by rw [List.length_set]; exact h.tl, h.pr.other _ _ (fun e => n6 e.symm), h.pl⟩
  have := h.tr.set i (.int .i8 t)
  rw [List.map_set]
  exact this
/-- The steps are put. -/
theorem PvS.setS {w0 w : World} {D : PD} {us : List Atm} {g : List Pt} {s n : Nat} {A : Nat → Int} {ats parts : List Int} (h : PvS w0 w D us g s n A ats parts) (s' : Nat) : PvS w0 (w.setCell ⟨D.pb, 3, none⟩ (.int .i64 (s' : Int))) D us g s' n A ats parts := by
  have hf := setCell_fr w D.pb 3 (.int .i64 (s' : Int))
  have hf' := hf.sub (M' := D.M) (by intro m hm; rw [List.mem_singleton.1 hm]; exact D.mp)
  obtain ⟨n1, n2, n3, n4, n5, n6, n7, n8, n9, n10⟩ := h.ne
  exact ⟨hf'.below h.h0 h.hM, h.hM, h.hd, h.box.set 3 _, h.atm.fr hf' h.noi, h.gol.fr hf (by simp [n7]), h.gne, h.gcap, h.am.fr hf (by simp [Ne.symm n1]), h.tr.other _ _ (fun e => n2 e.symm), h.tl, h.pr.other _ _ (fun e => n3 e.symm), h.pl⟩
/-- What is assumed is put. -/
theorem PvS.setM {w0 w w' : World} {D : PD} {us : List Atm} {g : List Pt} {s n n' : Nat} {A A' : Nat → Int} {ats parts : List Int} (h : PvS w0 w D us g s n A ats parts) (hg : w.grownBy w' (some D.mb)) (ha : NM w' D.mb n' A') : PvS w0 w' D us g s n' A' ats parts := by
  have hf : FrX [D.mb] w w' := FrX.of_grown hg (by simp)
  have hf' := hf.sub (M' := D.M) (by intro m hm; rw [List.mem_singleton.1 hm]; exact D.mm)
  obtain ⟨n1, n2, n3, n4, n5, n6, n7, n8, n9, n10⟩ := h.ne
  exact ⟨hf'.below h.h0 h.hM, h.hM, h.hd, h.box.fr hf (by simp [n1]), h.atm.fr hf' h.noi, h.gol.fr hf (by simp [n8]), h.gne, h.gcap, ha, h.tr.fr hf (by simp [Ne.symm n4]), h.tl, h.pr.fr hf (by simp [Ne.symm n5]), h.pl⟩
theorem PvS.cells {w0 w : World} {D : PD} {us : List Atm} {g : List Pt} {s n : Nat} {A : Nat → Int} {ats parts : List Int} (h : PvS w0 w D us g s n A ats parts) :
    w.cell? ⟨D.pb, 0, none⟩ = some (.pointer (some ⟨D.kb, 0, none⟩)) ∧ w.cell? ⟨D.pb, 1, none⟩ = some (.slice D.qa us.length D.ca) ∧ w.cell? ⟨D.pb, 2, none⟩ = some (.slice (some ⟨D.gb, 0, none⟩) g.length D.cg) ∧ w.cell? ⟨D.pb, 3, none⟩ = some (.int .i64 (s : Int)) ∧ w.cell? ⟨D.pb, 4, none⟩ = some (.map (some D.mb)) ∧ w.cell? ⟨D.pb, 5, none⟩ = some (.slice (some ⟨D.tb, 0, none⟩) us.length us.length) ∧ w.cell? ⟨D.pb, 6, none⟩ = some (.slice (some ⟨D.qb, 0, none⟩) g.length g.length) :=
  ⟨h.box.cell rfl, h.box.cell rfl, h.box.cell rfl, h.box.cell rfl, h.box.cell rfl, h.box.cell rfl, h.box.cell rfl⟩
theorem PvS.tcell {w0 w : World} {D : PD} {us : List Atm} {g : List Pt} {s n : Nat} {A : Nat → Int} {ats parts : List Int} (h : PvS w0 w D us g s n A ats parts) {i : Nat} (hi : i < us.length) : w.cell? ⟨D.tb, i, none⟩ = some (.int .i8 (ats.getD i 0)) := by
  refine h.tr.cell ?_
  rw [List.getElem?_map, List.getD_eq_getElem?_getD, List.getElem?_eq_getElem (by rw [h.tl]; exact hi)]
  rfl
theorem PvS.pcell {w0 w : World} {D : PD} {us : List Atm} {g : List Pt} {s n : Nat} {A : Nat → Int} {ats parts : List Int} (h : PvS w0 w D us g s n A ats parts) {i : Nat} (hi : i < g.length) : w.cell? ⟨D.qb, i, none⟩ = some (.int .i8 (parts.getD i 0)) := by
  refine h.pr.cell ?_
  rw [List.getElem?_map, List.getD_eq_getElem?_getD, List.getElem?_eq_getElem (by rw [h.pl]; exact hi)]
  rfl
end Go.Proofs.YtkinoehmcfhgbaaGreatDoor.Vl
set_option linter.unusedVariables false
set_option linter.unusedSimpArgs false
namespace Go.Proofs.YtkinoehmcfhgbaaGreatDoor.Vl
open Go.RowKit Go.Shelf
attribute [local go_sem] Oper.semAt_some

/-- What a round is handed: the index, the part. -/
def encG (x : Nat × Pt) : Array Value := #[.int .i64 (x.1 : Int), .agg #[.int .i64 x.2.1, .int .i64 x.2.2.1, .int .i64 x.2.2.2.1, .int .i8 x.2.2.2.2]]
/-- What has come when the rounds at k and above are over, from the last. -/
def cameG (g : List Pt) (k : Nat) : List (Nat × Pt) := ((List.range (g.length - k)).map fun i => (g.length - 1 - i, g[g.length - 1 - i]?.getD (0, 0, 0, 0)))
theorem cameG_len (g : List Pt) : cameG g g.length = [] := by simp [cameG]
theorem cameG_step (g : List Pt) (k : Nat) (hk : k < g.length) (y : Pt) (hy : g[k]? = some y) : cameG g k = cameG g (k + 1) ++ [(k, y)] := by
  unfold cameG
  rw [show g.length - k = (g.length - (k + 1)) + 1 by omega, List.range_succ, List.map_append]
  congr 1
  simp only [List.map_cons, List.map_nil]
  have e : g.length - 1 - (g.length - (k + 1)) = k := by omega
  rw [e, hy]; rfl
theorem cameG_length (g : List Pt) (k : Nat) : (cameG g k).length = g.length - k := by simp [cameG]
def NxG (g : List Pt) (pre : List (Nat × Pt)) (x : Nat × Pt) : Prop := pre = cameG g (x.1 + 1) ∧ x.1 < g.length ∧ g[x.1]? = some x.2
/-- What a round keeps: the goal, and the iterator's variable. -/
def KpG (gb Bs : Nat) (W W' : World) : Prop := (∀ o, W'.cell? ⟨gb, o, none⟩ = W.cell? ⟨gb, o, none⟩) ∧ W'.cell? ⟨Bs, 0, none⟩ = W.cell? ⟨Bs, 0, none⟩
theorem KpG.refl (gb Bs : Nat) (W : World) : KpG gb Bs W W := ⟨fun _ => rfl, rfl⟩
theorem KpG.trans {gb Bs : Nat} {A B C : World} (h : KpG gb Bs A B) (k : KpG gb Bs B C) : KpG gb Bs A C := ⟨fun o => (k.1 o).trans (h.1 o), k.2.trans h.2⟩
theorem kpG_put (gb Bs : Nat) (W : World) (l : Nat) (o' : Obj) (h1 : gb ≠ l) (h2 : Bs ≠ l) : KpG gb Bs W (W.putObj l o') :=
  ⟨fun j => World.cell?_of_block (World.putObj_heap_other h1), World.cell?_of_block (World.putObj_heap_other h2)⟩

set_option maxRecDepth 100000 in
set_option maxHeartbeats 2000000 in
theorem backG1_in (n : Nat) (hn : 1 ≤ n) (l Bs gb cap : Nat) (g : List Pt) (hlen : g.length ≤ 8000) (J : List (Nat × Pt) → World → Prop)
    (hY : ∀ pre x W, J pre W → NxG g pre x → YieldAt Fence.wide (n - 1) Tryz.prog l (encG x) W fun e W' => e = .returned (.bool true) ∧ J (pre ++ [x]) W' ∧ KpG gb Bs W W')
    (W : World) (hB0 : W.cell? ⟨Bs, 0, none⟩ = some (.slice (some ⟨gb, 0, none⟩) g.length cap)) (hc : Gol W gb g) (h0 : J [] W) :
    CallsIn Fence.wide n Tryz.prog 264 #[.func (.yield l) #[] #[], .pointer (some ⟨Bs, 0, none⟩)] W fun e W' => (∃ v, e = .returned v) ∧ ∃ xs, xs = cameG g 0 ∧ J xs W' := by
  have HC : Hid _ := hc
  have HBS : Hid _ := hB0
  clear hc
  refine callsIn_of_wp Tryz.func264 rfl trivial ?_ rfl
  simp only [Tryz.ntmps264, List.size_toArray, List.length_cons, List.length_nil, Nat.reduceAdd, Nat.reduceSub, Array.replicate_succ, Array.replicate_zero, List.push_toArray, List.append_toArray, List.nil_append, List.cons_append]
  gi_wp2
  gi_loopw [3] (fun i wr => ∃ k : Nat, k ≤ g.length ∧ i = .int .i64 ((k : Int) - 1) ∧ J (cameG g k) wr ∧ KpG gb Bs W wr)
    (fun i _ => ((intOf i) + 1).toNat)
  case atStart => exact ⟨g.length, Nat.le_refl _, rfl, by rw [cameG_len]; exact h0, KpG.refl _ _ _⟩
  case round =>
    obtain ⟨k, hk, rfl, hJs, hnx⟩ := hrel
    rcases Nat.eq_zero_or_pos k with rfl | hpos
    · gi_wp2
      go_end0
      exact ⟨⟨_, rfl⟩, _, rfl, hJs⟩
    · obtain ⟨k, rfl⟩ : ∃ k', k = k' + 1 := ⟨k - 1, by omega⟩
      obtain ⟨⟨y1, y2, y3, y4⟩, hy⟩ : ∃ y, g[k]? = some y := ⟨_, List.getElem?_eq_getElem (by omega)⟩
      obtain ⟨fn, tmps, assign, body, hyy, hR⟩ := hY _ (k, (y1, y2, y3, y4)) wr hJs ⟨rfl, by dsimp only; omega, hy⟩
      unfold encG at hyy
      dsimp only at hyy
      obtain ⟨z0, z1, z2, z3⟩ := HC.out.2 k _ hy
      have c0 := (hnx.1 (k * 4)).trans z0
      have c1 := (hnx.1 (k * 4 + 1)).trans z1
      have c2 := (hnx.1 (k * 4 + 2)).trans z2
      have c3 := (hnx.1 (k * 4 + 3)).trans z3
      have hB1 := hnx.2.trans HBS.out
      have hkI : ((k + 1 : Nat) : Int) - 1 = (k : Int) := by omega
      have hkl : (k : Int) < (g.length : Int) := by omega
      have HS : Hid (cameG g k = cameG g (k + 1) ++ [(k, (y1, y2, y3, y4))]) := cameG_step g k (by omega) _ hy
      clear z0 z1 z2 z3 hy hB0
      gi_wp2
      refine hR.mono ?_
      rintro e W3 ⟨rfl, hJ3, hk3⟩
      gi_wp2
      go_roundw
      case rel => exact ⟨k, by omega, by go_num, by rw [HS.out]; exact hJ3, hnx.trans hk3⟩
      case measure => simp [intOf]
set_option maxHeartbeats 1000000 in
theorem backG_in (n : Nat) (a : Option Addr) (len cap : Nat) (w : World) :
    CallsIn Fence.wide n Tryz.prog 237 #[.slice a len cap] w fun e w' => e = .returned (.func (.func 264) #[] #[.pointer (some ⟨w.heap.size, 0, none⟩)]) ∧ w' = w.alloc (.cells #[.slice a len cap] 177) := by
  refine callsIn_of_wp Tryz.func237 rfl trivial ?_ rfl
  simp only [Tryz.ntmps237, List.size_toArray, List.length_cons, List.length_nil, Nat.reduceAdd, Nat.reduceSub, Array.replicate_succ, Array.replicate_zero, List.push_toArray, List.append_toArray, List.nil_append, List.cons_append]
  gi_wp2
  go_ret
  exact ⟨rfl, rfl⟩
theorem backG_runs (n : Nat) (hn : 1 ≤ n) (Bs gb cap : Nat) (g : List Pt) (hlen : g.length ≤ 8000) (w : World) (hBs : Bs < w.heap.size) (hc : w.cell? ⟨Bs, 0, none⟩ = some (.slice (some ⟨gb, 0, none⟩) g.length cap)) (hr : Gol w gb g) :
    Runs n Tryz.prog 264 #[.pointer (some ⟨Bs, 0, none⟩)] encG (KpG gb Bs) (NxG g) (fun xs => xs = cameG g 0) w := fun l J W hW hY h0 =>
  backG1_in n hn l Bs gb cap g hlen J hY W ((hW.cell (p := ⟨Bs, 0, none⟩) hBs).trans hc) (hr.below hW) h0
end Go.Proofs.YtkinoehmcfhgbaaGreatDoor.Vl
