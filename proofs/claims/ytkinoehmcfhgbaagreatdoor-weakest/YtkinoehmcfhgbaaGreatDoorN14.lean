/-
  Commands as a list: what the program's walk comes to, from the last to the first.
  slices.Backward at a list of commands, as a range's iterator; what a round keeps.
  What holds between two rounds of the program's walk through a list of commands.
  Lists of commands, plain: what the walk through them wants.
  A region that draws its order, within a round: what reads only what is held is taken first.
-/
import Derived.Test.YtkinoehmcfhgbaaGreatDoorN11
set_option linter.unusedVariables false
set_option linter.unusedSimpArgs false
namespace Go.Proofs.YtkinoehmcfhgbaaGreatDoor.Vl
open Go.RowKit
open Go.Proofs.YtkinoehmcfhgbaaGreatDoor.Av (Fm Cm Rc IsF IsC Lst Same fv)

def sq : List Cm → List Sym → List Sym
  | [], q => q
  | a :: r, q => pw a (sq r q)
def sT : List Cm → List Sym → Bool
  | [], _ => false
  | a :: r, q => sT r q || pt a (sq r q)
def sL : List Cm → List Sym → List (List Sym)
  | [], _ => []
  | a :: r, q => sL r q ++ pL a (sq r q)
def sN : List Cm → Nat
  | [] => 0
  | a :: r => nas a + sN r
def sO : List Cm → Nat
  | [] => 0
  | a :: r => nlo a + sO r
/-- The commands of a list as they lie in memory, one by one. -/
def Lc (w : World) (P : Nat → Prop) : List Cm → List (List Value) → Prop
  | [], [] => True
  | a :: r, y :: ys => IsC w P a [y] ∧ Lc w P r ys
  | _, _ => False
theorem Lc.len {w : World} {P : Nat → Prop} : ∀ {cl : List Cm} {ys : List (List Value)}, Lc w P cl ys → cl.length = ys.length
  | [], [], _ => rfl
  | a :: r, y :: ys, h => congrArg (· + 1) (Lc.len h.2)
  | [], _ :: _, h => h.elim
  | _ :: _, [], h => h.elim
theorem Lc.drop {w : World} {P : Nat → Prop} : ∀ {cl : List Cm} {ys : List (List Value)} (k : Nat), Lc w P cl ys → Lc w P (cl.drop k) (ys.drop k)
  | _, _, 0, h => h
  | [], [], k + 1, _ => trivial
  | a :: r, y :: ys, k + 1, h => Lc.drop k h.2
  | [], _ :: _, _ + 1, h => h.elim
  | _ :: _, [], _ + 1, h => h.elim
/-- What holds of each command of a list. -/
structure EachOk (n : Nat) (cl : List Cm) : Prop where
  z : ∀ a ∈ cl, csz a ≤ n
  o : ∀ a ∈ cl, cOk a
  k : ∀ a ∈ cl, kOk a
  s : ∀ a ∈ cl, sOk a
theorem EachOk.one {n : Nat} {c : Cm} (h1 : csz c ≤ n) (h2 : cOk c) (h3 : kOk c) (h4 : sOk c) : EachOk n [c] :=
  ⟨fun a ha => by rw [List.mem_singleton.1 ha]; exact h1, fun a ha => by rw [List.mem_singleton.1 ha]; exact h2, fun a ha => by rw [List.mem_singleton.1 ha]; exact h3, fun a ha => by rw [List.mem_singleton.1 ha]; exact h4⟩
theorem EachOk.cons {n : Nat} {c : Cm} {cl : List Cm} (h1 : csz c ≤ n) (h2 : cOk c) (h3 : kOk c) (h4 : sOk c) (h : EachOk n cl) : EachOk n (c :: cl) :=
  ⟨fun a ha => (List.mem_cons.1 ha).elim (fun e => e ▸ h1) (h.z a), fun a ha => (List.mem_cons.1 ha).elim (fun e => e ▸ h2) (h.o a), fun a ha => (List.mem_cons.1 ha).elim (fun e => e ▸ h3) (h.k a), fun a ha => (List.mem_cons.1 ha).elim (fun e => e ▸ h4) (h.s a)⟩
theorem isc_one {w : World} {P : Nat → Prop} {c : Cm} {ys : List (List Value)} (h : IsC w P c ys) (h1 : one1 c) : ∃ y, ys = [y] := by
  cases c with
  | seq a b => exact h1.elim
  | skip => obtain ⟨y, e, _⟩ := h; exact ⟨y, e⟩
  | asg x t => obtain ⟨y, e, _⟩ := h; exact ⟨y, e⟩
  | ite f a b => obtain ⟨y, e, _⟩ := h; exact ⟨y, e⟩
  | loop f g a => obtain ⟨y, e, _⟩ := h; exact ⟨y, e⟩
theorem isc_list {w : World} {P : Nat → Prop} {n : Nat} : ∀ (c : Cm) (ys : List (List Value)), IsC w P c ys → csz c ≤ n → cOk c → kOk c → sOk c →
    ∃ cl, Lc w P cl ys ∧ EachOk n cl ∧ sN cl = nas c ∧ sO cl = nlo c ∧ ∀ q, sq cl q = pw c q ∧ sT cl q = pt c q ∧ sL cl q = pL c q
  | .seq a b, ys, h, hz, ho, hk, hs => by
    obtain ⟨y, ys', rfl, ha, hb⟩ := h
    have e : csz (.seq a b) = 1 + csz a + csz b := rfl
    obtain ⟨cl, l1, l2, l3, l4, l5⟩ := isc_list (n := n) b ys' hb (by omega) ho.2 hk.2 hs.2
    refine ⟨a :: cl, ⟨ha, l1⟩, l2.cons (by omega) ho.1 hk.1 hs.1, by simp only [sN, nas, l3], by simp only [sO, nlo, l4], fun q => ?_⟩
    obtain ⟨e1, e2, e3⟩ := l5 q
    exact ⟨by simp only [sq, pw, e1], by simp only [sT, pt, e1, e2], by simp only [sL, pL, e1, e3]⟩
  | .skip, ys, h, hz, ho, hk, hs => by
    obtain ⟨y, rfl⟩ := isc_one h trivial
    exact ⟨[.skip], ⟨h, trivial⟩, .one hz ho hk hs, rfl, rfl, fun q => ⟨rfl, rfl, rfl⟩⟩
  | .asg x t, ys, h, hz, ho, hk, hs => by
    obtain ⟨y, rfl⟩ := isc_one h trivial
    exact ⟨[.asg x t], ⟨h, trivial⟩, .one hz ho hk hs, rfl, rfl, fun q => ⟨rfl, rfl, rfl⟩⟩
  | .ite f a b, ys, h, hz, ho, hk, hs => by
    obtain ⟨y, rfl⟩ := isc_one h trivial
    exact ⟨[.ite f a b], ⟨h, trivial⟩, .one hz ho hk hs, rfl, rfl, fun q => ⟨rfl, by simp only [sT, sq, Bool.false_or], by simp only [sL, sq, List.nil_append]⟩⟩
  | .loop f g a, ys, h, hz, ho, hk, hs => by
    obtain ⟨y, rfl⟩ := isc_one h trivial
    exact ⟨[.loop f g a], ⟨h, trivial⟩, .one hz ho hk hs, rfl, rfl, fun q => ⟨rfl, by simp only [sT, sq, Bool.false_or], by simp only [sL, sq, List.nil_append]⟩⟩
theorem sL_len : ∀ (cl : List Cm) (q : List Sym), (sL cl q).length = 2 * sO cl
  | [], _ => rfl
  | a :: r, q => by
    have h1 := sL_len r q
    have h2 := pL_len a (sq r q)
    simp only [sL, sO, List.length_append]; omega
theorem gd_sq {n : Nat} {q : List Sym} {K : Int} (h1 : 1999 ≤ K) (hq : Gd K q) : ∀ (cl : List Cm), EachOk n cl → K + 999 * (sN cl : Int) ≤ 999999 → Gd (K + 999 * (sN cl : Int)) (sq cl q)
  | [], _, _ => by simpa [sN, sq] using hq
  | a :: r, ho, hK => by
    simp only [sN] at hK ⊢
    have hr : EachOk n r := ⟨fun b hb => ho.z b (.tail _ hb), fun b hb => ho.o b (.tail _ hb), fun b hb => ho.k b (.tail _ hb), fun b hb => ho.s b (.tail _ hb)⟩
    have ih := gd_sq h1 hq r hr (by omega)
    exact (gd_pw a _ _ (ho.o a (.head _)) (ho.k a (.head _)) (by omega) (by omega) ih).mono (by omega)
theorem sq_len {q : List Sym} (hq : q.length ≤ 20000) : ∀ (cl : List Cm) (K : Int), Gd K (sq cl q) → (sq cl q).length ≤ 20000
  | [], _, _ => hq
  | a :: r, K, h => Nat.le_trans (pw_len (K := K) h) (by omega)
end Go.Proofs.YtkinoehmcfhgbaaGreatDoor.Vl
set_option linter.unusedVariables false
set_option linter.unusedSimpArgs false
namespace Go.Proofs.YtkinoehmcfhgbaaGreatDoor.Vl
open Go.RowKit Go.Shelf
open Go.Proofs.YtkinoehmcfhgbaaGreatDoor.Av (Fm Cm Rc IsF IsC Lst Same fv)
attribute [local go_sem] Oper.semAt_some

set_option maxHeartbeats 1000000 in
theorem backC_in (n : Nat) (a : Option Addr) (len cap : Nat) (w : World) :
    CallsIn Fence.wide n Tryz.prog 138 #[.slice a len cap] w fun e w' => e = .returned (.func (.func 209) #[] #[.pointer (some ⟨w.heap.size, 0, none⟩)]) ∧ w' = w.alloc (.cells #[.slice a len cap] 99) := by
  refine callsIn_of_wp Tryz.func138 rfl trivial ?_ rfl
  simp only [Tryz.ntmps138, List.size_toArray, List.length_cons, List.length_nil, Nat.reduceAdd, Nat.reduceSub, Array.replicate_succ, Array.replicate_zero, List.push_toArray, List.append_toArray, List.nil_append, List.cons_append]
  gi_wp2
  go_ret
  exact ⟨rfl, rfl⟩
theorem flat_at {ys : List (List Value)} (h20 : ∀ y ∈ ys, y.length = 20) : ∀ (j : Nat) (y : List Value), ys[j]? = some y → ∀ i v, y[i]? = some v → ys.flatten[j * 20 + i]? = some v := by
  induction ys with
  | nil => intro j y h; simp at h
  | cons x r ih =>
    intro j y h i v hv
    have hx := h20 x (.head _)
    have hi : i < 20 := by
      have := (List.getElem?_eq_some_iff.1 hv).1
      have := h20 y (List.mem_of_getElem? h)
      omega
    cases j with
    | zero =>
      cases h
      rw [List.flatten_cons, List.getElem?_append_left (by omega), Nat.zero_mul, Nat.zero_add]; exact hv
    | succ j =>
      rw [List.flatten_cons, List.getElem?_append_right (by omega), show (j + 1) * 20 + i - x.length = j * 20 + i by omega]
      exact ih (fun z hz => h20 z (.tail _ hz)) j y (by simpa using h) i v hv
theorem backC_runs (n : Nat) (hn : 1 ≤ n) (Bs n0 b cap : Nat) (ys : List (List Value)) (hlen : ys.length ≤ 4000) (w : World) (hBs : Bs < w.heap.size) (hn0 : n0 ≤ w.heap.size) (hb : b < n0) (h20 : ∀ y ∈ ys, y.length = 20) (hc : w.cell? ⟨Bs, 0, none⟩ = some (.slice (some ⟨b, 0, none⟩) ys.length cap)) (hr : w.rangeAt b 0 ys.flatten) :
    Runs n Tryz.prog 209 #[.pointer (some ⟨Bs, 0, none⟩)] encC (KpC n0 Bs) (NxC ys) (fun xs => xs = cameC ys 0) w := fun l J W hW hY h0 => by
  have hc' := (hW.cell (p := ⟨Bs, 0, none⟩) hBs).trans hc
  refine backC1_in n hn l Bs n0 b cap ys hlen hb J hY W hc' (fun j y hy => ⟨fun i v hv => ?_, h20 y (List.mem_of_getElem? hy)⟩) h0
  have := hr (j * 20 + i) v (flat_at h20 j y hy i v hv)
  rw [Nat.zero_add] at this
  exact (hW.cell (p := ⟨b, j * 20 + i, none⟩) (Nat.lt_of_lt_of_le hb hn0)).trans this
/-- What is no cells is kept. -/
theorem FrS.keeps {wb : Nat} {W W' : World} {cs : Array Value} {t : TypeId} {f : Nat × Nat} (B : Nat) (h : FrS wb W W') (hw : W.heap[wb]? = some (.cells cs t f)) (hl : ∀ k, LB W wb k → ∃ cur fr, W.heap[k]? = some (.cells cur 75 fr)) : KeepsFrom B W W' := by
  refine ⟨h.1, fun k o _ hk ho => ?_⟩
  have hlt : k < W.heap.size := (Array.getElem?_eq_some_iff.1 hk).1
  refine (h.2 (Array.getElem?_eq_some_iff.1 hw).1 k hlt (fun e => ?_) (fun e => ?_)).trans hk
  · subst e; rw [hk] at hw; cases hw; cases ho
  · obtain ⟨cur, fr, e⟩ := hl k e
    rw [hk] at e; cases e; cases ho
end Go.Proofs.YtkinoehmcfhgbaaGreatDoor.Vl
set_option linter.unusedVariables false
set_option linter.unusedSimpArgs false
namespace Go.Proofs.YtkinoehmcfhgbaaGreatDoor.Vl
open Go.RowKit Go.Shelf
open Go.Proofs.YtkinoehmcfhgbaaGreatDoor.Av (Fm Cm Rc IsF IsC Lst Same fv)

theorem CondR.own {X Y : World} {row : Option Nat} {v : Value} {ys : List Sym} (h : CondR X v ys) (hg : X.grownBy Y row) (hr : ∀ r, row = some r → ∃ o : Obj, X.heap[r]? = some o ∧ o.isCells = false) : CondR Y v ys := by
  rcases h with h | ⟨b, cap, h1, h2, h3, h4, h5, cur, fr, h6⟩
  · exact Or.inl h
  · exact Or.inr ⟨b, cap, h1, h2, h3, Nat.lt_of_lt_of_le h4 hg.size, fun j u hu => cell_kept (h5 j u hu) hg hr, cur, fr, (grownBy_keeps_cells hg hr h6 rfl).trans h6⟩
theorem WkAt.ownF {w0 X Y : World} {row : Option Nat} {wb B : Nat} {tl : Bool} {L : List (List Sym)} (h : WkAt w0 X wb tl L) (hB : w0.heap.size ≤ B) (hg : X.grownBy Y row) (hr : ∀ r, row = some r → B ≤ r ∧ ∃ o : Obj, X.heap[r]? = some o ∧ o.isCells = false) : WkAt w0 Y wb tl L := by
  have hr2 : ∀ r, row = some r → ∃ o : Obj, X.heap[r]? = some o ∧ o.isCells = false := fun r e => (hr r e).2
  obtain ⟨v, vs, hv, ho, hd⟩ := h.hv
  refine ⟨h.b0.grown hg h.b0.size (fun k e => Nat.le_trans hB (hr k e).1), h.hb, v, vs, (grownBy_keeps_cells hg hr2 hv rfl).trans hv, ho.kept hg ?_, hd.1, fun j u ys h1 h2 => (hd.2 j u ys h1 h2).own hg hr2⟩
  rcases ho.2 with ⟨rfl, _⟩ | ⟨g, cap, cur, rfl, _, hgb, _⟩
  · exact Or.inl rfl
  · refine Or.inr (fun e => ?_)
    obtain ⟨o, h1, h2⟩ := hr2 g e.symm
    rw [hgb] at h1; cases h1; cases h2
theorem FrS.ownF {w X Y : World} {row : Option Nat} {wb B : Nat} (h : FrS wb w X) (hB : w.heap.size ≤ B) (hg : X.grownBy Y row) (hr : ∀ r, row = some r → B ≤ r) : FrS wb w Y :=
  ⟨Nat.le_trans h.size hg.size, fun hw k hk hn hs => (hg.block k (Nat.lt_of_lt_of_le hk h.size) (fun e => by have := hr k e.symm; omega)).trans (h.block hw k hk hn hs),
   fun hw k ⟨o, n, c, e⟩ => h.fresh hw k ⟨o, n, c, (World.cell?_of_block (a := ⟨wb, 0, none⟩) (hg.block wb (Nat.lt_of_lt_of_le hw h.size) (fun e => by have := hr wb e.symm; omega))).symm.trans e⟩⟩
/-- Between two rounds. -/
def IC (w0 w : World) (wb : Nat) (ys : List (List Value)) (cl : List Cm) (q : List Sym) (tl : Bool) (L : List (List Sym)) (lv : Value) (pre : List (Nat × List Value)) (W : World) : Prop :=
  (∃ k, k ≤ ys.length ∧ pre = cameC ys k ∧ (∃ v, Boxed W (w.heap.size + 2) 75 v ∧ CondR W v (sq (cl.drop k) q)) ∧ WkAt w0 W wb (tl || sT (cl.drop k) q) (L ++ sL (cl.drop k) q)) ∧
  Boxed W w.heap.size 268 (.pointer (some ⟨wb, 0, none⟩)) ∧ Boxed W (w.heap.size + 1) 99 lv ∧ Boxed W (w.heap.size + 3) 99 lv ∧ FrS wb w W ∧ w.heap.size + 4 ≤ W.heap.size ∧ ∀ k, LB W wb k → k < w.heap.size ∨ w.heap.size + 4 ≤ k
theorem ic_own {w0 w W0 : World} {wb : Nat} {ys : List (List Value)} {cl : List Cm} {q : List Sym} {tl : Bool} {L : List (List Sym)} {lv : Value} (h0 : w0.heap.size ≤ w.heap.size) (hz : W0.heap.size = w.heap.size + 4) : OwnFrom W0.heap.size (IC w0 w wb ys cl q tl L lv) := by
  intro s X Y row hs hg hr
  have hr2 : ∀ r, row = some r → ∃ o : Obj, X.heap[r]? = some o ∧ o.isCells = false := fun r e => (hr r e).2
  obtain ⟨⟨k, hk, hp, ⟨v, hv, hc⟩, hA⟩, c0, c1, c3, hF, hs4, hlb⟩ := hs
  have ne : ∀ b, b < w.heap.size + 4 → some b ≠ row := fun b hb e => by have := (hr b e.symm).1; omega
  refine ⟨⟨k, hk, hp, ⟨v, hv.kept hg (ne _ (by omega)), hc.own hg hr2⟩, hA.ownF (B := W0.heap.size) (by omega) hg hr⟩, c0.kept hg (ne _ (by omega)), c1.kept hg (ne _ (by omega)), c3.kept hg (ne _ (by omega)), hF.ownF (B := W0.heap.size) (by omega) hg (fun r e => (hr r e).1), Nat.le_trans hs4 hg.size, fun k ⟨o, n, c, e⟩ => ?_⟩
  obtain ⟨tv, vs, htv, _⟩ := hA.hv
  exact hlb k ⟨o, n, c, (World.cell?_of_block (a := ⟨wb, 0, none⟩) (grownBy_keeps_cells hg hr2 htv rfl)).symm.trans e⟩
theorem FrS.box {wb : Nat} {W W' : World} {B : Nat} {t : TypeId} {v : Value} (h : FrS wb W W') (hw : wb < W.heap.size) (hb : Boxed W B t v) (hn : B ≠ wb) (hl : ¬ LB W wb B) : Boxed W' B t v :=
  (h.block hw B hb.lt hn hl).trans hb
theorem kpC_put (n0 Bs : Nat) (W : World) (l : Nat) (o o' : Obj) (h1 : n0 ≤ l) (h2 : Bs < l) (h : W.heap[l]? = some o) : KpC n0 Bs W (W.putObj l o') :=
  ⟨fun b j hb => World.cell?_of_block (World.putObj_heap_other (by dsimp only; omega)), World.cell?_of_block (World.putObj_heap_other (by dsimp only; omega))⟩
end Go.Proofs.YtkinoehmcfhgbaaGreatDoor.Vl
set_option linter.unusedVariables false
set_option linter.unusedSimpArgs false
namespace Go.Proofs.YtkinoehmcfhgbaaGreatDoor.Vl
open Go.RowKit Go.Shelf
open Go.Proofs.YtkinoehmcfhgbaaGreatDoor.Av (Fm Cm Rc IsF IsC Lst Same fv)
attribute [local go_sem] Oper.semAt_some

theorem sN_drop : ∀ (cl : List Cm) (k : Nat), sN (cl.drop k) ≤ sN cl
  | [], k => by cases k <;> exact Nat.le_refl _
  | a :: r, 0 => Nat.le_refl _
  | a :: r, k + 1 => Nat.le_trans (sN_drop r k) (Nat.le_add_left _ _)
theorem sO_drop : ∀ (cl : List Cm) (k : Nat), sO (cl.drop k) ≤ sO cl
  | [], k => by cases k <;> exact Nat.le_refl _
  | a :: r, 0 => Nat.le_refl _
  | a :: r, k + 1 => Nat.le_trans (sO_drop r k) (Nat.le_add_left _ _)
theorem EachOk.drop {n : Nat} {cl : List Cm} (h : EachOk n cl) (k : Nat) : EachOk n (cl.drop k) :=
  ⟨fun a ha => h.z a (List.mem_of_mem_drop ha), fun a ha => h.o a (List.mem_of_mem_drop ha), fun a ha => h.k a (List.mem_of_mem_drop ha), fun a ha => h.s a (List.mem_of_mem_drop ha)⟩
/-- The command at a place. -/
theorem lc_at {w : World} {P : Nat → Prop} : ∀ {cl : List Cm} {ys : List (List Value)} {k : Nat} {y : List Value}, Lc w P cl ys → ys[k]? = some y → ∃ a, (a ∈ cl ∧ cl.drop k = a :: cl.drop (k + 1)) ∧ IsC w P a [y] ∧ nas a + sN (cl.drop (k + 1)) ≤ sN cl ∧ nlo a + sO (cl.drop (k + 1)) ≤ sO cl
  | [], [], k, y, _, h => by simp at h
  | a :: r, x :: ys, 0, y, hl, h => by
    cases h
    exact ⟨a, ⟨.head _, rfl⟩, hl.1, Nat.le_refl _, Nat.le_refl _⟩
  | a :: r, x :: ys, k + 1, y, hl, h => by
    obtain ⟨b, ⟨h1, h2⟩, h3, h4, h5⟩ := lc_at hl.2 (by simpa using h)
    exact ⟨b, ⟨.tail _ h1, h2⟩, h3, Nat.le_trans h4 (Nat.le_add_left _ _), Nat.le_trans h5 (Nat.le_add_left _ _)⟩
  | [], _ :: _, _, _, hl, _ => hl.elim
  | _ :: _, [], _, _, hl, _ => hl.elim

theorem gd_pcm {c : Cm} (h1 : one1 c) (q : List Sym) (K : Int) (ho : cOk c) (hk : kOk c) (hs : sOk c) (hK1 : 1999 ≤ K) (hK : K + 999 * (nas c : Int) ≤ 999999) (h : Gd K q) (hq : q.length ≤ 20000) : Gd (K + 999 * (nas c : Int)) (pcm c q) ∧ (pcm c q).length ≤ 70000 := by
  cases c with
  | seq a b => exact h1.elim
  | skip => exact ⟨h.mono (by simp [nas]), by show q.length ≤ _; omega⟩
  | asg x t =>
    obtain ⟨x0, x3, t1, t2, t3, t4⟩ := ho
    exact ⟨(gd_map (by omega) (by omega) ⟨by omega, by omega⟩ (by simp only [nas] at hK; omega) h).mono (by simp [nas]), by simp only [pcm, List.length_map]; omega⟩
  | ite f a b =>
    simp only [nas] at hK ⊢
    have ga := (gd_pw a q K ho.2.1 hk.1 hK1 (by omega) h)
    have gb := (gd_pw b q K ho.2.2 hk.2 hK1 (by omega) h)
    have la := pw_len ga
    have lb := pw_len gb
    have ga' := ga.mono (L := K + 999 * ((nas a + nas b : Nat) : Int)) (by omega)
    have gb' := gb.mono (L := K + 999 * ((nas a + nas b : Nat) : Int)) (by omega)
    have gf : Gd (K + 999 * ((nas a + nas b : Nat) : Int)) (fsy f) := (gd_fsy f ho.1).mono (by omega)
    have hl := hs.1
    exact ⟨Gd.mark (by omega) (by omega) (Gd.mark (by omega) (by omega) (gf.app (ga'.app (Gd.mark (by omega) (by omega) (Gd.mark (by omega) (by omega) (gf.app gb')))))), by simp only [pcm, List.length_cons, List.length_append]; omega⟩
  | loop f g a => exact ⟨(gd_fsy g hk.1).mono (by omega), by have := hs.2.1; show (fsy g).length ≤ _; omega⟩
theorem isc_one1 {w : World} {P : Nat → Prop} {a : Cm} {y : List Value} (h : IsC w P a [y]) : one1 a := by
  cases a with
  | seq a b =>
    obtain ⟨y', ys, ey, h1, h2⟩ := h
    cases ey
    exact absurd h2 (by intro h; cases b <;> simp [IsC] at h)
  | _ => trivial
end Go.Proofs.YtkinoehmcfhgbaaGreatDoor.Vl
set_option linter.unusedVariables false
set_option linter.unusedSimpArgs false
namespace Go.Proofs.YtkinoehmcfhgbaaGreatDoor.Vl
open Go Go.RowKit

section
variable {F : Fence} {n : Nat} {P : Program} {ops : Array Oper} {Q : Exit → Act → World → Prop} {md : Region.Mode} {S : World → Prop}

/-- Every order, and S holds between each two operations. -/
def Held (F : Fence) (n : Nat) (P : Program) (md : Region.Mode) (ops : Array Oper) (Q : Exit → Act → World → Prop) (S : World → Prop) : Nat → Array Bool → Act → World → Prop
  | 0, listed, a, w => S w ∧ Region.ready md ops listed = [] ∧ Q .normal a w
  | fuel + 1, listed, a, w => S w ∧ (Region.ready md ops listed = [] → Q .normal a w) ∧ ∀ i ∈ Region.ready md ops listed, wpOpIn F n P ops Q i (Held F n P md ops Q S fuel (listed.setIfInBounds i true)) a w
theorem Held.any : ∀ (fuel : Nat) (listed : Array Bool) (a : Act) (w : World), Held F n P md ops Q S fuel listed a w → wpAnyIn F n P md ops Q fuel listed a w
  | 0, _, _, _, h => h.2
  | fuel + 1, _, _, _, h => ⟨h.2.1, fun i hi => wpOpIn_mono (fun a w => Held.any fuel _ a w) (h.2.2 i hi)⟩
theorem Held.s : ∀ {fuel : Nat} {listed : Array Bool} {a : Act} {w : World}, Held F n P md ops Q S fuel listed a w → S w
  | 0, _, _, _, h => h.1
  | _ + 1, _, _, _, h => h.1
/-- An operation that yields v, wherever S holds. -/
def YS (P : Program) (ops : Array Oper) (S : World → Prop) (o : Oper) (v : Value) (a : Act) : Prop :=
  Region.wanted o (yielded ops a.tmps) = true ∧ (∀ w, S w → (execOp a.eval o).run P w = .ok (.value v) w) ∧ ∀ w, o.about P w a.eval = none
theorem YS.same {o : Oper} {v : Value} {a a' : Act} (h : YS P ops S o v a) (he : execOp a'.eval o = execOp a.eval o) (hw : Region.wanted o (yielded ops a'.tmps) = Region.wanted o (yielded ops a.tmps)) (hb : ∀ w, o.about P w a'.eval = o.about P w a.eval) : YS P ops S o v a' :=
  ⟨hw.trans h.1, fun w hs => by rw [he]; exact h.2.1 w hs, fun w => (hb w).trans (h.2.2 w)⟩
theorem YS.op {i : Nat} {o : Oper} {v : Value} {a : Act} {w : World} {K : Act → World → Prop} (hd : ∀ c, o.op ≠ .defer c) (hi : ops[i]? = some o) (hy : YS P ops S o v a) (hs : S w) (h : K (a.put o.dst v) w) : wpOpIn F n P ops Q i K a w := by
  unfold wpOpIn
  simp only [hi, hy.1, if_true]
  refine ⟨fun f hf => (by rw [hy.2.2 w] at hf; cases hf), ?_⟩
  rw [Oper.semAt_eq _ _ _ hd, hy.2.1 w hs]
  exact h
theorem YS.past {j : Nat} {oi oj : Oper} {v : Value} (hj : ops[j]? = some oj) (hdj : ∀ c, oj.op ≠ .defer c) (hap : oi.apart ops oj = true) (hsi : ∀ cs b, oi.op ≠ .select cs b) (hsj : ∀ cs b, oj.op ≠ .select cs b)
    (hQ : ∀ c a w, Q (.panic c) (a.put oi.dst v) w → Q (.panic c) a w) {K : Act → World → Prop} {a : Act} {w : World} (hy : YS P ops S oi v a) (h : wpOpIn F n P ops Q j K (a.put oi.dst v) w) :
    wpOpIn F n P ops Q j (fun a' w' => YS P ops S oi v a' ∧ K (a'.put oi.dst v) w') a w := by
  obtain ⟨h1, h2, h3⟩ := Oper.apart_spec hap
  have keep : ∀ (a : Act), YS P ops S oi v a → ∀ u, YS P ops S oi v (a.put oj.dst u) := fun a hy u =>
    hy.same (execOp_put oi hsi a oj.dst u h3) (wanted_put oi a oj.dst u h3) (fun w => about_put oi w a oj.dst u h3)
  have keepD : ∀ d, YS P ops S oi v { a with defers := d :: a.defers } := fun d => hy.same rfl rfl (fun _ => rfl)
  unfold wpOpIn at *
  simp only [hj] at *
  rw [wanted_put oj a oi.dst v h1, about_put oj w a oi.dst v h1] at h
  split
  · rename_i hw
    simp only [hw, if_true] at h
    unfold Oper.wpIn at *
    rw [about_put oj w a oi.dst v h1] at h
    refine ⟨h.1, ?_⟩
    have h := h.2
    rw [Oper.semAt_eq _ _ _ hdj, execOp_put oj hsj a oi.dst v h1] at h
    rw [Oper.semAt_eq _ _ _ hdj]
    generalize (execOp a.eval oj).run P w = r at *
    cases r with
    | ok x w' =>
      cases x <;> simp only [Oper.uponIn] at h ⊢
      case value u => exact ⟨keep a hy u, by rw [← Act.put_comm a v u h2]; exact h⟩
      case skip => exact ⟨keep a hy _, by rw [← Act.put_comm a v undef h2]; exact h⟩
      case defer d =>
        refine ⟨keep _ (keepD d) _, ?_⟩
        rw [← Act.put_comm _ v undef h2, ← Act.put_defers]
        exact h
      case enter f args =>
        refine ⟨h.1, CallsIn.mono h.2 fun e w'' he => ?_⟩
        cases e with
        | returned u => exact ⟨keep a hy u, by rw [← Act.put_comm a v u h2]; exact he⟩
        | panicked c => exact hQ _ _ _ he
        | outgrown => exact he
      case row row args => exact ⟨h.1, RowsIn.mono h.2 fun u w'' he => ⟨keep a hy u, by rw [← Act.put_comm a v u h2]; exact he⟩⟩
      case round l f tmps assign body =>
        refine ⟨h.1, RoundIn.mono h.2 fun e w'' he => ?_⟩
        cases e with
        | returned u => exact ⟨keep a hy u, by rw [← Act.put_comm a v u h2]; exact he⟩
        | panicked c => exact hQ _ _ _ he
        | outgrown => exact he
    | halt x w' =>
      cases x <;> simp only [Oper.uponIn] at h ⊢
      case panic u => exact hQ _ _ _ h
  · rename_i hw
    simp only [hw] at h
    exact ⟨h.1, keep a hy _, by rw [← Act.put_comm a v undef h2]; exact h.2⟩
theorem Held.first {i : Nat} {oi : Oper} {v : Value} (hd : ∀ (j : Nat) (o : Oper) c, ops[j]? = some o → o.op ≠ .defer c) (hi : ops[i]? = some oi) (hsel : ∀ (j : Nat) (o : Oper) cs b, ops[j]? = some o → o.op ≠ .select cs b)
    (hQ : ∀ c a w, Q (.panic c) (a.put oi.dst v) w → Q (.panic c) a w) :
    ∀ (fuel : Nat) (listed : Array Bool) (a : Act) (w : World),
      (∀ j oj, ops[j]? = some oj → j ≠ i → listed.getD j true = false → (∀ e ∈ oj.after, Region.binds md e = true → e.on ≠ i) → oi.apart ops oj = true) →
      i ∈ Region.ready md ops listed → YS P ops S oi v a →
      Held F n P md ops Q S fuel (listed.setIfInBounds i true) (a.put oi.dst v) w → Held F n P md ops Q S (fuel + 1) listed a w := by
  intro fuel
  induction fuel with
  | zero =>
    intro listed a w _ hr hy H
    refine ⟨H.1, fun h => (by rw [h] at hr; cases hr), fun j hj => ?_⟩
    by_cases hji : j = i
    · subst hji; exact hy.op (fun c => hd j oi c hi) hi H.1 H
    · have := ready_mono hj hji
      rw [H.2.1] at this
      cases this
  | succ fuel ih =>
    intro listed a w hfree hr hy H
    refine ⟨H.1, fun h => (by rw [h] at hr; cases hr), fun j hj => ?_⟩
    by_cases hji : j = i
    · subst hji; exact hy.op (fun c => hd j oi c hi) hi H.1 H
    · have h1 := H.2.2 j (ready_mono hj hji)
      obtain ⟨hjun, oj, hoj, hall⟩ := mem_ready.1 hj
      have hnot : ∀ e ∈ oj.after, Region.binds md e = true → e.on ≠ i := fun e he hb heq => by
        have h1 := hall e he hb
        have h0 := (mem_ready.1 hr).1
        rw [heq] at h1
        rcases Nat.lt_or_ge i listed.size with h' | h'
        · simp [h'] at h0 h1; rw [h0] at h1; cases h1
        · simp [Array.getElem?_eq_none h'] at h1
      have h2 := YS.past hoj (fun c => hd j oj c hoj) (hfree j oj hoj hji hjun hnot) (fun cs b => hsel i oi cs b hi) (fun cs b => hsel j oj cs b hoj) hQ hy h1
      have hfree' : ∀ k ok, ops[k]? = some ok → k ≠ i → (listed.setIfInBounds j true).getD k true = false →
          (∀ e ∈ ok.after, Region.binds md e = true → e.on ≠ i) → oi.apart ops ok = true := fun k ok hk hki hun hno => by
        refine hfree k ok hk hki ?_ hno
        by_cases hjk : j = k
        · subst hjk; exact hjun
        · rw [getD_set_ne true hjk] at hun; exact hun
      refine wpOpIn_mono (fun a' w' h3 => ih (listed.setIfInBounds j true) a' w' hfree' (ready_mono hr (Ne.symm hji)) h3.1 ?_) h2
      rw [Array.setIfInBounds_comm _ _ hji]
      exact h3.2
/-- No operation of a region is a defer statement. -/
def noDefer (ops : Array Oper) : Bool := ops.all fun o => match o.op with | .defer _ => false | _ => true
theorem noDefer_spec (h : noDefer ops = true) (j : Nat) (o : Oper) (hj : ops[j]? = some o) : ∀ c, o.op ≠ .defer c := fun c e => by
  have hm := Array.all_eq_true_iff_forall_mem.1 h o (Array.mem_of_getElem? hj)
  rw [e] at hm
  exact absurd hm (by simp)
theorem Held.take {i : Nat} {oi : Oper} {v : Value} {fuel : Nat} {listed : Array Bool} {a : Act} {w : World} (hd : noDefer ops = true) (hi : ops[i]? = some oi)
    (hs : Region.noSelect ops = true) (hf : Region.free md ops listed i = true) (hr : (Region.ready md ops listed).contains i = true)
    (hQ : ∀ c a w, Q (.panic c) (a.put oi.dst v) w → Q (.panic c) a w) (hy : YS P ops S oi v a)
    (h : Held F n P md ops Q S fuel (listed.setIfInBounds i true) (a.put oi.dst v) w) : Held F n P md ops Q S (fuel + 1) listed a w :=
  Held.first (fun j o c hj => noDefer_spec hd j o hj c) hi (Region.noSelect_spec hs) hQ fuel listed a w (Region.free_spec hi hf) (by simpa using hr) hy h
/-- Where one operation alone is ready. -/
theorem Held.one {i : Nat} {o : Oper} {fuel : Nat} {listed : Array Bool} {a : Act} {w : World} (hs : S w) (hr : Region.ready md ops listed = [i]) (ho : ops[i]? = some o)
    (h : ∀ K' : Act → World → Prop, (∀ a w, Held F n P md ops Q S fuel (listed.setIfInBounds i true) a w → K' a w) → if Region.wanted o (yielded ops a.tmps) = true then Oper.wpIn F n P o a w K' Q else (∀ f, o.about P w a.eval = some f → F.fn f) ∧ K' (a.put o.dst undef) w) :
    Held F n P md ops Q S (fuel + 1) listed a w :=
  ⟨hs, fun e => (by rw [hr] at e; cases e), fun j hj => by
    rw [hr] at hj
    obtain rfl := List.mem_singleton.1 hj
    exact wpOpIn_step ho h⟩
theorem Held.done {fuel : Nat} {listed : Array Bool} {a : Act} {w : World} (hs : S w) (hr : Region.ready md ops listed = []) (h : Q .normal a w) : Held F n P md ops Q S fuel listed a w := by
  cases fuel with
  | zero => exact ⟨hs, hr, h⟩
  | succ n => exact ⟨hs, fun _ => h, by rw [hr]; intro i hi; cases hi⟩
end
end Go.Proofs.YtkinoehmcfhgbaaGreatDoor.Vl
