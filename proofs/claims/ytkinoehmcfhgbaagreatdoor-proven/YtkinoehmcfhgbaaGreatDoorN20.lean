/-
  How great a program's commands are, by its tokens; what slices.Reverse leaves.
  Lists of texts in memory; a list that is full of a mark, and appended to.
  The walks of the law's same, full and stands.
  The walks of the law's own and stands.
  The walk of the law's own.
  The statements' ran: the document's example, run and turned into conditions; what Weakest needs, plain.
  The statements' alike and plain; the document's Few.
-/
import Derived.Test.YtkinoehmcfhgbaaGreatDoorH13
import Derived.Test.YtkinoehmcfhgbaaGreatDoorN0
import Derived.Lib.AppendZeros
import Derived.Laws.AppendOwnNone
import Derived.Test.YtkinoehmcfhgbaaGreatDoorN5
import Derived.OwnWalk
import Derived.Deep.AppendLies
import Derived.Test.YtkinoehmcfhgbaaGreatDoorV8
import Derived.Test.YtkinoehmcfhgbaaGreatDoorRows
import Derived.WalkKit
import Derived.WalkSpells
import Derived.WalkLawsBesides
import Derived.Lib.Strings
import Derived.Deep.QuietTactic
import Derived.BigQuiet
import Derived.Deep.LoopGhost
import Derived.Deep.RegionHeld3
import Derived.Deep.MidRow
import Derived.Test.YtkinoehmcfhgbaaGreatDoorShelf
import Derived.Shelf.SlicesE.Reverse
import Derived.Test.YtkinoehmcfhgbaaGreatDoorProg
import Derived.Lib.RowBridge
import Derived.ArgAppend
import Derived.Maps.Range
import Derived.Test.YtkinoehmcfhgbaaGreatDoorH8
import Derived.Test.YtkinoehmcfhgbaaGreatDoorV15
import Derived.Laws.StructEq
import Derived.Test.YtkinoehmcfhgbaaGreatDoorH22
set_option linter.unusedVariables false
set_option linter.unusedSimpArgs false
namespace Go.Proofs.YtkinoehmcfhgbaaGreatDoor.Vl
open Go.RowKit Go.Shelf


theorem own_setCells {base n g cap : Nat} {e : TypeId} : ∀ (vs pre rest : List Value) (w : World), rest.length = vs.length → w.ownsRow base e 1 (.slice (some ⟨g, 0, none⟩) n cap) n (pre ++ rest) → (w.setCells g pre.length vs).ownsRow base e 1 (.slice (some ⟨g, 0, none⟩) n cap) n (pre ++ vs)
  | [], pre, rest, w, hl, h => by
    have : rest = [] := List.length_eq_zero_iff.1 hl
    subst this
    exact h
  | v :: vs, pre, [], w, hl, h => by simp at hl
  | v :: vs, pre, r :: rest, w, hl, h => by
    have h1 := own_set h pre.length v
    have e1 : (pre ++ r :: rest).set pre.length v = (pre ++ [v]) ++ rest := by simp
    rw [e1] at h1
    have h2 := own_setCells vs (pre ++ [v]) rest _ (by simpa using hl) h1
    rw [show (pre ++ [v]).length = pre.length + 1 by simp, show (pre ++ [v]) ++ vs = pre ++ v :: vs by simp] at h2
    exact h2
theorem grown_setCells (g : Nat) : ∀ (vs : List Value) (o : Nat) (w : World), w.grownBy (w.setCells g o vs) (some g) ∧ (w.setCells g o vs).heap.size = w.heap.size
  | [], o, w => ⟨World.grownBy.refl _ _, rfl⟩
  | v :: vs, o, w => by
    have h1 : w.grownBy (w.setCell ⟨g, o, none⟩ v) (some g) := ⟨rfl, rfl, rfl, by simp [World.setCell], fun k _ hk => Below.heap_setCell w ⟨g, o, none⟩ v k (fun e => hk (by rw [e]))⟩
    obtain ⟨h2, h3⟩ := grown_setCells g vs (o + 1) (w.setCell ⟨g, o, none⟩ v)
    exact ⟨h1.trans h2, h3.trans (by simp [World.setCell])⟩
end Go.Proofs.YtkinoehmcfhgbaaGreatDoor.Vl
set_option linter.unusedVariables false
set_option linter.unusedSimpArgs false
namespace Go.Proofs.YtkinoehmcfhgbaaGreatDoor.Vl
open Go.RowKit

/-- A list of texts as it lies in memory. -/
def Txts (w : World) (v : Value) (L : List (List UInt8)) : Prop :=
  ∃ q c, v = .slice q L.length c ∧ (L = [] ∨ ∃ g, q = some ⟨g, 0, none⟩ ∧ g < w.heap.size ∧ ∀ j l, L[j]? = some l → w.cell? ⟨g, j, none⟩ = some (strV l))
theorem Txts.below {w w' : World} {v : Value} {L : List (List UInt8)} (h : Txts w v L) (hb : Below w.heap.size w w') : Txts w' v L := by
  obtain ⟨q, c, rfl, h⟩ := h
  refine ⟨q, c, rfl, h.imp id ?_⟩
  rintro ⟨g, h1, h2, h3⟩
  exact ⟨g, h1, Nat.lt_of_lt_of_le h2 hb.size, fun j l hl => (hb.cell (p := ⟨g, j, none⟩) h2).trans (h3 j l hl)⟩
theorem Txts.own {w : World} {base : Nat} {v : Value} {L : List (List UInt8)} (h : w.ownsRow base 9 1 v L.length (L.map strV)) : Txts w v L := by
  cases L with
  | nil => obtain ⟨q, c, rfl⟩ := own_shape h; exact ⟨q, c, rfl, Or.inl rfl⟩
  | cons x r =>
    obtain ⟨g, cap, rfl, hg1, hg2, hg3, hg4, hg5, hg6⟩ := own_facts h (by simp)
    exact ⟨_, _, rfl, Or.inr ⟨g, rfl, hg2, fun j l hl => hg5 j _ (by rw [List.getElem?_map, hl]; rfl)⟩⟩
theorem Txts.shape {w : World} {v : Value} {L : List (List UInt8)} (h : Txts w v L) : ∃ q c, v = .slice q L.length c := by
  obtain ⟨q, c, e, _⟩ := h; exact ⟨q, c, e⟩
/-- What is the mark stays the mark. -/
def KM (m : List UInt8) (w w' : World) : Prop := w.heap.size ≤ w'.heap.size ∧ ∀ b j, w.cell? ⟨b, j, none⟩ = some (strV m) → w'.cell? ⟨b, j, none⟩ = some (strV m)
theorem KM.trans {m : List UInt8} {a b c : World} (h : KM m a b) (k : KM m b c) : KM m a c := ⟨Nat.le_trans h.1 k.1, fun x j e => k.2 x j (h.2 x j e)⟩
theorem KM.alloc (m : List UInt8) (w : World) (o : Obj) : KM m w (w.alloc o) := ⟨by simp, fun b j e => ((below_alloc w o).cell (p := ⟨b, j, none⟩) (World.block_lt_of_cell? w _ e)).trans e⟩
theorem Txts.km {w w' : World} {v : Value} {m : List UInt8} {n : Nat} (h : Txts w v (List.replicate n m)) (hk : KM m w w') : Txts w' v (List.replicate n m) := by
  obtain ⟨q, c, rfl, h⟩ := h
  refine ⟨q, c, rfl, h.imp id ?_⟩
  rintro ⟨g, h1, h2, h3⟩
  refine ⟨g, h1, Nat.lt_of_lt_of_le h2 hk.1, fun j l hl => ?_⟩
  have : l = m := by
    rw [List.getElem?_replicate] at hl
    split at hl
    · exact (Option.some.inj hl).symm
    · cases hl
  subst this
  exact hk.2 g j (h3 j _ hl)
theorem one_rep (m : List UInt8) (k : Nat) : ∀ u ∈ List.replicate k (strV m), u.oneCell' = true := fun u hu => by rw [List.eq_of_mem_replicate hu]; rfl

theorem append_marks {ops : Array Oper} {rest : List Oper} {o : Oper} {a : Act} {Q : Exit → Act → World → Prop} (w : World) (hgd : o.guard = none) (s x : Operand)
    (ho : o.op = .call { callee := .builtin .append, args := #[s, x], argTypes := #[22, 22] }) (base : Nat) (v : Value) (n k : Nat) (m : List UInt8) (hs : a.eval s = v) (hown : w.ownsRow base 9 1 v n (List.replicate n (strV m)))
    (B : Nat) (c : Nat) (hx : a.eval x = .slice (some ⟨B, 0, none⟩) k c) (hc : ∀ j, j < k → w.cell? ⟨B, j, none⟩ = some (strV m)) (hn : n ≤ 1000000) (hk : k ≤ 3) (hk0 : 0 < k)
    (h : ∀ v' w', w'.ownsRow base 9 1 v n (List.replicate n (strV m)) → Txts w' v' (List.replicate (n + k) m) → KM m w w' → w.grownBy w' v.ownBlock → wpList Tryz.prog ops Q rest (a.put o.dst v') w') :
    wpList Tryz.prog ops Q (o :: rest) a w := by
  obtain ⟨i0, hi, hz0, hz1, hz2⟩ := info_parts Tryz.infoStr
  have hnews : ∀ j u, (List.replicate k (strV m))[j]? = some u → w.cell? ((⟨B, 0, none⟩ : Addr).add j) = some u := fun j u hu => by
    rw [List.getElem?_replicate] at hu
    split at hu
    · rename_i hj
      cases hu
      rw [Addr.add_lit, Nat.zero_add]; exact hc j hj
    · cases hu
  have grows : ∀ v' w', w'.ownsRow w.heap.size 9 1 v' (n + k) (List.replicate n (strV m) ++ List.replicate k (strV m)) → w.grownBy w' none → wpList Tryz.prog ops Q rest (a.put o.dst v') w' := fun v' w' ho' hg' => by
    refine h v' w' (hown.kept hg' ?_) (Txts.own (base := w.heap.size) ?_) ⟨hg'.size, fun b j e => ?_⟩ (hg'.but _)
    · rcases hown.2 with ⟨e, _⟩ | ⟨g, cap, cur, e, _⟩
      · exact Or.inl (by rw [e]; rfl)
      · exact Or.inr (by rw [e]; intro h; cases h)
    · rw [List.length_replicate, List.map_replicate, ← List.replicate_append_replicate]; exact ho'
    · exact (World.cell?_of_block (a := ⟨b, j, none⟩) (hg'.block b (World.block_lt_of_cell? w _ e) (by simp))).trans e
  rcases hown.2 with ⟨e1, e2⟩ | ⟨g, cap, cur, e1, hg, hh, h3, h4, h5, h6⟩
  · subst e2
    subst e1
    refine wpList_append_grows w hgd s x _ ho 9 i0 (.string ⟨#[]⟩) 1 16 Tryz.underlying22 hi hz0 hz1 hz2 rfl (by decide) none 0 0 [] hs (fun _ => ⟨rfl, rfl⟩) rfl (fun b hb => by cases hb) ⟨B, 0, none⟩ k c (List.replicate k (strV m)) hx (by simp) hnews (one_rep m k) (by omega) (by unfold maxLen; omega) (by omega) ?_
    intro v' w' ho' hg'
    exact grows v' w' (by simpa using ho') hg'
  · subst e1
    refine wpList_append_arg w hgd s x _ ho 9 i0 (.string ⟨#[]⟩) 1 16 Tryz.underlying22 hi hz0 hz1 hz2 rfl (by decide) g 0 n cap (List.replicate n (strV m)) hs (by simp) (fun j u hu => ?olds) ⟨B, 0, none⟩ k c (List.replicate k (strV m)) hx (by simp) hnews (one_rep m k) (fun hr j hj => ?spare) (by unfold maxLen; omega) (by omega) (fun hr => ?room) (fun _ => grows)
    case olds =>
      rw [← h6, List.getElem?_take] at hu
      split at hu
      · have : cur[j]? = some u := by simpa using hu
        simp [World.cell?, hh, this]
      · cases hu
    case spare =>
      rw [List.length_replicate] at hj
      have hlt : n + j < cur.size := by omega
      simp [World.cell?, World.frozen?, hh, Array.getElem?_eq_getElem hlt]
    case room =>
      have hext : w.ownsRow base 9 1 (.slice (some ⟨g, 0, none⟩) (n + k) cap) (n + k) (List.replicate n (strV m) ++ (cur.toList.drop n).take k) := by
        refine ⟨?_, Or.inr ⟨g, cap, cur, rfl, hg, hh, hr, h4, h5, ?_⟩⟩
        · rw [List.length_append, List.length_replicate, List.length_take, List.length_drop, Array.length_toList]; omega
        · rw [Nat.mul_one, List.take_add, ← h6, Nat.mul_one]
      have hset := own_setCells (List.replicate k (strV m)) (List.replicate n (strV m)) ((cur.toList.drop n).take k) w (by rw [List.length_take, List.length_drop, Array.length_toList, List.length_replicate]; omega) hext
      rw [List.length_replicate] at hset
      rw [show 0 + n * 1 = n by omega]
      obtain ⟨gg, gs⟩ := grown_setCells g (List.replicate k (strV m)) n w
      have htk := own_take hset n (by omega)
      rw [List.take_left' (by simp)] at htk
      have hset2 : (w.setCells g n (List.replicate k (strV m))).ownsRow base 9 1 (.slice (some ⟨g, 0, none⟩) (n + k) cap) (n + k) ((List.replicate (n + k) m).map strV) := by
        rw [List.map_replicate, ← List.replicate_append_replicate]; exact hset
      refine h _ _ htk (Txts.own (base := base) (by rw [List.length_replicate]; exact hset2)) ⟨by omega, fun b j e => ?_⟩ gg
      by_cases hin : b = g ∧ n ≤ j ∧ j < n + k
      · obtain ⟨rfl, h1, h2⟩ := hin
        obtain ⟨g', cap', e', _, _, _, _, hg5, _⟩ := own_facts hset2 (by omega)
        cases e'
        exact hg5 j _ (by rw [List.getElem?_map, List.getElem?_replicate, if_pos h2]; rfl)
      · rw [World.cell?_setCells_out g _ n w ⟨b, j, none⟩ (fun hb _ => by rw [List.length_replicate]; dsimp only at hb ⊢; omega)]
        exact e
end Go.Proofs.YtkinoehmcfhgbaaGreatDoor.Vl
set_option linter.unusedVariables false
set_option linter.unusedSimpArgs false
namespace Go.Proofs.YtkinoehmcfhgbaaGreatDoor.Vl
open Go.RowKit

set_option maxRecDepth 100000 in
set_option maxHeartbeats 2000000 in
theorem same_any (L : List (List UInt8)) (v1 v2 : Value) (w : World) (h1 : Txts w v1 L) (h2 : Txts w v2 L) (hl : L.length ≤ 1000000) :
    Calls Tryz.prog 12 #[v1, v2] w fun e w' => e = .returned (.bool true) ∧ Below w.heap.size w w' := by
  have H1 : Hid _ := h1
  have H2 : Hid _ := h2
  obtain ⟨q1, c1, rfl, k1⟩ := h1
  obtain ⟨q2, c2, rfl, k2⟩ := h2
  clear k1 k2
  go_enter Tryz.func12, Tryz.ntmps12
  go_wp2_with fail
  go_loopw [5] (fun i wr => ∃ k : Nat, k ≤ L.length ∧ i = .int .i64 (k : Int) ∧ Below w.heap.size w wr) (fun i _ => L.length - (intOf i).toNat)
  case atStart => exact ⟨0, Nat.zero_le _, rfl, Below.refl _ _⟩
  case round =>
    obtain ⟨k, hk, rfl, hb⟩ := hrel
    by_cases hlt : k < L.length
    · obtain ⟨l, hle⟩ : ∃ l, L[k]? = some l := ⟨_, List.getElem?_eq_getElem hlt⟩
      obtain ⟨_, _, e1, k1⟩ := H1.out
      obtain ⟨_, _, e2, k2⟩ := H2.out
      cases e1
      cases e2
      rcases k1 with k1 | ⟨g1, rfl, s1, f1⟩
      · subst k1; simp at hlt
      rcases k2 with k2 | ⟨g2, rfl, s2, f2⟩
      · subst k2; simp at hlt
      have x1 := (hb.cell (p := ⟨g1, k, none⟩) s1).trans (f1 k l hle)
      have x2 := (hb.cell (p := ⟨g2, k, none⟩) s2).trans (f2 k l hle)
      unfold strV at x1 x2
      have hlt' : (k : Int) < (L.length : Int) := by omega
      clear f1 f2 hle
      go_wp2_with fail
      go_region
      go_wp2_with fail
      go_roundw
      case rel => exact ⟨k + 1, by omega, by go_num, hb.drew⟩
      case measure => simp [intOf]; omega
    · have hlt' : ¬ (k : Int) < (L.length : Int) := by omega
      go_wp2_with fail
      go_ret
      exact ⟨rfl, hb⟩

set_option maxRecDepth 100000 in
set_option maxHeartbeats 2000000 in
theorem full_any (n : Nat) (m : List UInt8) (v : Value) (w : World) (h : Txts w v (List.replicate n m)) (hl : n ≤ 1000000) :
    Calls Tryz.prog 41 #[v, .int .i64 (n : Int), .string ⟨m.toArray⟩] w fun e w' => e = .returned (.bool true) ∧ w = w' := by
  have H1 : Hid _ := h
  obtain ⟨q1, c1, rfl, k1⟩ := h
  clear k1
  rw [List.length_replicate]
  go_enter Tryz.func41, Tryz.ntmps41
  go_wp2_with fail
  go_loopw [7, 8] (fun b i wr => ∃ k : Nat, k ≤ n ∧ i = .int .i64 (k : Int) ∧ b = .bool true ∧ wr = w) (fun _ i _ => n - (intOf i).toNat)
  case atStart => exact ⟨0, Nat.zero_le _, rfl, by simp, rfl⟩
  case round =>
    obtain ⟨k, hk, rfl, rfl, rfl⟩ := hrel
    by_cases hlt : k < n
    · obtain ⟨q', c', e1, k1⟩ := H1.out
      have e2 : q1 = q' ∧ c1 = c' := by injection e1 with a b c; exact ⟨a, c⟩
      obtain ⟨rfl, rfl⟩ := e2
      rcases k1 with k1 | ⟨g1, rfl, s1, f1⟩
      · have := congrArg List.length k1; simp at this; omega
      have x1 := f1 k m (by rw [List.getElem?_replicate, if_pos hlt])
      unfold strV at x1
      have hlt' : (k : Int) < (n : Int) := by omega
      clear f1
      go_wp2_with fail
      go_roundw
      case rel => exact ⟨k + 1, by omega, by go_num, by simp, trivial⟩
      case measure => simp [intOf]; omega
    · have hlt' : ¬ (k : Int) < (n : Int) := by omega
      go_wp2_with fail
      go_ret
      exact ⟨rfl, rfl⟩
end Go.Proofs.YtkinoehmcfhgbaaGreatDoor.Vl
set_option linter.unusedVariables false
set_option linter.unusedSimpArgs false
namespace Go.Proofs.YtkinoehmcfhgbaaGreatDoor.Vl
open Go.RowKit

/-- What an owner has: the list and what was appended to it, all of it the mark. -/
def Own (w : World) (cs : Array Value) (n : Nat) (m : List UInt8) : Prop := ∃ v v1 v2 v3, cs = #[v, v1, v2, v3, strV m] ∧ Txts w v (List.replicate n m) ∧ Txts w v1 (List.replicate (n + 1) m) ∧ Txts w v2 (List.replicate (n + 2) m) ∧ Txts w v3 (List.replicate (n + 3) m)
theorem Own.below {w w' : World} {cs : Array Value} {n : Nat} {m : List UInt8} (h : Own w cs n m) (hb : Below w.heap.size w w') : Own w' cs n m := by
  obtain ⟨v, v1, v2, v3, e, h0, h1, h2, h3⟩ := h
  exact ⟨v, v1, v2, v3, e, h0.below hb, h1.below hb, h2.below hb, h3.below hb⟩

set_option maxRecDepth 100000 in
set_option maxHeartbeats 2000000 in
theorem stands_any (cs : Array Value) (n : Nat) (m : List UInt8) (w : World) (h : Own w cs n m) (hl : n ≤ 100000) :
    Calls Tryz.prog 16 #[.agg cs] w fun e w' => e = .returned (.bool true) ∧ Below w.heap.size w w' := by
  obtain ⟨v, v1, v2, v3, rfl, h0, h1, h2, h3⟩ := h
  have CF : Hid (∀ k u X, Txts X u (List.replicate k m) → k ≤ 1000000 → Calls Tryz.prog 41 #[u, .int .i64 (k : Int), .string ⟨m.toArray⟩] X fun e w' => e = .returned (.bool true) ∧ X = w') := fun k u X hx hk => full_any k m u X hx hk
  have ba := below_alloc w (.cells #[v, v1, v2, v3, strV m] 29)
  have g0 := h0.below ba
  have g1 := h1.below ba
  have g2 := h2.below ba
  have g3 := h3.below ba
  obtain ⟨q0, c0, rfl⟩ := h0.shape
  obtain ⟨q1, c1, rfl⟩ := h1.shape
  obtain ⟨q2, c2, rfl⟩ := h2.shape
  obtain ⟨q3, c3, rfl⟩ := h3.shape
  simp only [List.length_replicate] at *
  have G0 : Hid (Calls Tryz.prog 41 #[.slice q0 n c0, .int .i64 (n : Int), .string ⟨m.toArray⟩] (w.alloc (.cells #[.slice q0 n c0, .slice q1 (n + 1) c1, .slice q2 (n + 2) c2, .slice q3 (n + 3) c3, .string ⟨m.toArray⟩] 29)) fun e w' => e = .returned (.bool true) ∧ (w.alloc (.cells #[.slice q0 n c0, .slice q1 (n + 1) c1, .slice q2 (n + 2) c2, .slice q3 (n + 3) c3, .string ⟨m.toArray⟩] 29)) = w') := CF.out _ _ _ g0 (by omega)
  have G1 : Hid (Calls Tryz.prog 41 #[.slice q1 (n + 1) c1, .int .i64 ((n + 1 : Nat) : Int), .string ⟨m.toArray⟩] (w.alloc (.cells #[.slice q0 n c0, .slice q1 (n + 1) c1, .slice q2 (n + 2) c2, .slice q3 (n + 3) c3, .string ⟨m.toArray⟩] 29)) fun e w' => e = .returned (.bool true) ∧ (w.alloc (.cells #[.slice q0 n c0, .slice q1 (n + 1) c1, .slice q2 (n + 2) c2, .slice q3 (n + 3) c3, .string ⟨m.toArray⟩] 29)) = w') := CF.out _ _ _ g1 (by omega)
  have G2 : Hid (Calls Tryz.prog 41 #[.slice q2 (n + 2) c2, .int .i64 ((n + 2 : Nat) : Int), .string ⟨m.toArray⟩] (w.alloc (.cells #[.slice q0 n c0, .slice q1 (n + 1) c1, .slice q2 (n + 2) c2, .slice q3 (n + 3) c3, .string ⟨m.toArray⟩] 29)) fun e w' => e = .returned (.bool true) ∧ (w.alloc (.cells #[.slice q0 n c0, .slice q1 (n + 1) c1, .slice q2 (n + 2) c2, .slice q3 (n + 3) c3, .string ⟨m.toArray⟩] 29)) = w') := CF.out _ _ _ g2 (by omega)
  have G3 : Hid (Calls Tryz.prog 41 #[.slice q3 (n + 3) c3, .int .i64 ((n + 3 : Nat) : Int), .string ⟨m.toArray⟩] (w.alloc (.cells #[.slice q0 n c0, .slice q1 (n + 1) c1, .slice q2 (n + 2) c2, .slice q3 (n + 3) c3, .string ⟨m.toArray⟩] 29)) fun e w' => e = .returned (.bool true) ∧ (w.alloc (.cells #[.slice q0 n c0, .slice q1 (n + 1) c1, .slice q2 (n + 2) c2, .slice q3 (n + 3) c3, .string ⟨m.toArray⟩] 29)) = w') := CF.out _ _ _ g3 (by omega)
  clear h0 h1 h2 h3 g0 g1 g2 g3 CF
  unfold strV at *
  rw [show ((n + 1 : Nat) : Int) = (n : Int) + 1 by omega] at G1
  rw [show ((n + 2 : Nat) : Int) = (n : Int) + 2 by omega] at G2
  rw [show ((n + 3 : Nat) : Int) = (n : Int) + 3 by omega] at G3
  go_enter Tryz.func16, Tryz.ntmps16
  go_wp2_with fail
  refine Calls.mono G0.out ?_
  rintro e w' ⟨rfl, rfl⟩
  go_wp2_with fail
  refine Calls.mono G1.out ?_
  rintro e w' ⟨rfl, rfl⟩
  go_wp2_with fail
  refine Calls.mono G2.out ?_
  rintro e w' ⟨rfl, rfl⟩
  go_wp2_with fail
  refine Calls.mono G3.out ?_
  rintro e w' ⟨rfl, rfl⟩
  go_wp2_with fail
  go_ret
  exact ⟨rfl, ba⟩
end Go.Proofs.YtkinoehmcfhgbaaGreatDoor.Vl
set_option linter.unusedVariables false
set_option linter.unusedSimpArgs false
namespace Go.Proofs.YtkinoehmcfhgbaaGreatDoor.Vl
open Go.RowKit
open Go.Proofs.YtkinoehmcfhgbaaGreatDoor.Av (Row Row.new Row.cells postN)

theorem Row.grown {w w' : World} {B n : Nat} {row : Option Nat} (h : Row w B n) (hg : w.grownBy w' row) (hB : B < w.heap.size) (hne : some B ≠ row) : Row w' B n := by
  obtain ⟨cs, a1, a2, a3, a4⟩ := h
  exact ⟨cs, fun j v hv => (World.cell?_of_block (a := ⟨B, 0 + j, none⟩) (hg.block B hB hne)).trans (a1 j v hv), a2, a3, fun o => (World.frozen?_of_block (a := ⟨B, o, none⟩) (hg.block B hB hne)).trans (a4 o)⟩
theorem Txts.far {w : World} {v : Value} {n R : Nat} {m : List UInt8} (h : Txts w v (List.replicate n m)) (hR : w.cell? ⟨R, 0, none⟩ = some (.slice none 0 0)) (vs : List Value) : Txts (w.setCells R 0 vs) v (List.replicate n m) := by
  obtain ⟨q, c, rfl, h⟩ := h
  refine ⟨q, c, rfl, h.imp id ?_⟩
  rintro ⟨g, h1, h2, h3⟩
  refine ⟨g, h1, by rw [(grown_setCells R vs 0 w).2]; exact h2, fun j l hl => ?_⟩
  have hn : 0 < n := by
    rw [List.getElem?_replicate] at hl
    split at hl
    · omega
    · cases hl
  have h0 := h3 0 m (by rw [List.getElem?_replicate, if_pos hn])
  have hne : g ≠ R := fun e => by subst e; rw [hR] at h0; cases h0
  rw [World.cell?_setCells_out R vs 0 w ⟨g, j, none⟩ (fun hb _ => absurd hb hne)]
  exact h3 j l hl
theorem Tryz.infoOwned : (Tryz.prog.info? 29).map (·.size) = some 5 := by kernel_rfl

set_option maxRecDepth 100000 in
set_option maxHeartbeats 4000000 in
theorem own_any (base n : Nat) (v : Value) (xs : List Value) (m : List UInt8) (w : World) (h : w.ownsRow base 9 1 v n xs) (hb0 : base ≤ w.heap.size) (hn : n ≤ 100000) :
    Calls Tryz.prog 14 #[v, .string ⟨m.toArray⟩] w fun e w' => ∃ cs, e = .returned (.agg cs) ∧ cs.size = 5 ∧ cs.all (·.oneCell') = true ∧ Own w' cs n m ∧ w.grownBy w' v.ownBlock := by
  have hxl : xs.length = n := by have := h.1; omega
  have HR0 : Hid (Row (w.alloc (.cells #[.slice none 0 0, .slice none 0 0, .slice none 0 0, .slice none 0 0, .string ⟨#[]⟩] 29)) w.heap.size 5) := Row.new w #[.slice none 0 0, .slice none 0 0, .slice none 0 0, .slice none 0 0, .string ⟨#[]⟩] 29 (by decide)
  have hown0 := h.alloc (.cells #[.slice none 0 0, .slice none 0 0, .slice none 0 0, .slice none 0 0, .string ⟨#[]⟩] 29)
  have hob : ∀ j, v.ownBlock = some j → base ≤ j := own_block h
  have hlt : ∀ j, v.ownBlock = some j → j < w.heap.size := fun j e => by
    rcases h.2 with ⟨rfl, _⟩ | ⟨g, cap, cur, rfl, _, hh, _⟩
    · cases e
    · cases e
      exact (Array.getElem?_eq_some_iff.1 hh).1
  have HNE : Hid (some w.heap.size ≠ v.ownBlock) := fun e => by have := hlt _ e.symm; omega
  have HOB : Hid _ := hob
  have HB1 : Hid (w.grownBy (w.alloc (.cells #[.slice none 0 0, .slice none 0 0, .slice none 0 0, .slice none 0 0, .string ⟨#[]⟩] 29)) v.ownBlock) := World.grownBy_alloc w _ _
  obtain ⟨q, c, rfl⟩ := own_shape h
  clear h hob hlt
  go_enter Tryz.func14, Tryz.ntmps14
  go_wp2_with fail
  have hz0 : (w.alloc (.cells #[.slice none 0 0, .slice none 0 0, .slice none 0 0, .slice none 0 0, .string ⟨#[]⟩] 29)).cell? ⟨w.heap.size, 0, none⟩ = some (.slice none 0 0) := by simp
  generalize hW1 : (w.alloc (.cells #[.slice none 0 0, .slice none 0 0, .slice none 0 0, .slice none 0 0, .string ⟨#[]⟩] 29)) = w1 at *
  have hz1 : w1.heap.size = w.heap.size + 1 := by rw [← hW1]; simp
  clear hW1
  go_loopw [5] (fun i wr => ∃ k : Nat, k ≤ n ∧ i = .int .i64 (k : Int) ∧ wr.ownsRow base 9 1 (.slice q n c) n (List.replicate k (strV m) ++ xs.drop k) ∧ w1.grownBy wr (Value.slice q n c).ownBlock) (fun i _ => n - (intOf i).toNat)
  case atStart => exact ⟨0, Nat.zero_le _, rfl, by simpa using hown0, World.grownBy.refl _ _⟩
  case round =>
    obtain ⟨k, hk, rfl, hown, hgr⟩ := hrel
    by_cases hlt : k < n
    · obtain ⟨g, cap, e1, hg1, hg2, hg3, hg4, hg5, hg6⟩ := own_facts hown (by omega)
      cases e1
      obtain ⟨x, hx⟩ : ∃ x, xs[k]? = some x := ⟨_, List.getElem?_eq_getElem (by omega)⟩
      have hd : xs.drop k = x :: xs.drop (k + 1) := by
        rw [List.drop_eq_getElem_cons (by omega)]
        congr 1
        rw [List.getElem?_eq_getElem (by omega)] at hx
        exact Option.some.inj hx
      have x1 : wr.cell? ⟨g, k, none⟩ = some x := hg5 k x (by rw [List.getElem?_append_right (by simp), hd]; simp)
      have x2 : wr.frozen? ⟨g, k, none⟩ = false := hg6 k
      have hs := own_set hown k (strV m)
      have es : (List.replicate k (strV m) ++ xs.drop k).set k (strV m) = List.replicate (k + 1) (strV m) ++ xs.drop (k + 1) := by
        rw [hd, List.set_append_right _ _ (by simp), List.length_replicate, Nat.sub_self, List.set_cons_zero, List.replicate_succ', List.append_assoc]; rfl
      rw [es] at hs
      have hlt' : (k : Int) < (n : Int) := by omega
      have HS : Hid _ := hs
      have HG : Hid (w1.grownBy (wr.setCell ⟨g, k, none⟩ (strV m)) (some g)) := hgr.trans ⟨rfl, rfl, rfl, by simp [World.setCell], fun j _ hj => Below.heap_setCell wr ⟨g, k, none⟩ (strV m) j (fun e => hj (by rw [e]; rfl))⟩
      clear hs es hd hx hown hg5 hg6 hgr
      go_wp2_with fail
      go_roundw
      case rel => exact ⟨k + 1, by omega, by go_num, HS.out, HG.out⟩
      case measure => simp [intOf]; omega
    · have hkn : k = n := by omega
      subst hkn
      have hlt' : ¬ (k : Int) < (k : Int) := by omega
      have ed : xs.drop k = [] := List.drop_eq_nil_of_le (by omega)
      rw [ed, List.append_nil] at hown
      have hrs := hgr.size
      have HGR : Hid _ := hgr
      go_wp2_with (at_builtin; refine append_marks _ rfl _ _ rfl base (.slice q k c) k 1 m rfl (hown.alloc _) wr.heap.size 1 rfl (fun j hj => by have e : j = 0 := (by omega); subst e; simp [strV]) (by omega) (by omega) (by omega) ?_)
      intro v1 w2 hown2 ht1 km1 hg1
      have hs2 := hg1.size
      rw [World.size_alloc] at hs2
      have G2 : Hid (w1.grownBy w2 (Value.slice q k c).ownBlock) := (HGR.out.trans (World.grownBy_alloc _ _ _)).trans hg1
      obtain ⟨q1, c1, rfl⟩ := ht1.shape
      have T1 : Hid (Txts w2 (.slice q1 (List.replicate (k + 1) m).length c1) (List.replicate (k + 1) m)) := ht1
      clear km1 hg1 hown ht1
      go_wp2_with (at_builtin; refine append_marks _ rfl _ _ rfl base (.slice q k c) k 2 m rfl (hown2.alloc _) w2.heap.size 2 rfl (fun j hj => by have e : j = 0 ∨ j = 1 := (by omega); rcases e with rfl | rfl <;> simp [strV]) (by omega) (by omega) (by omega) ?_)
      intro v2 w3 hown3 ht2 km2 hg2
      have hs3 := hg2.size
      rw [World.size_alloc] at hs3
      have G3 : Hid (w1.grownBy w3 (Value.slice q k c).ownBlock) := (G2.out.trans (World.grownBy_alloc _ _ _)).trans hg2
      have K3 : Hid (KM m w2 w3) := (KM.alloc m w2 _).trans km2
      obtain ⟨q2, c2, rfl⟩ := ht2.shape
      have T2 : Hid (Txts w3 (.slice q2 (List.replicate (k + 2) m).length c2) (List.replicate (k + 2) m)) := ht2
      clear km2 hg2 hown2 ht2
      go_wp2_with (at_builtin; refine append_marks _ rfl _ _ rfl base (.slice q k c) k 3 m rfl (hown3.alloc _) w3.heap.size 3 rfl (fun j hj => by have e : j = 0 ∨ j = 1 ∨ j = 2 := (by omega); rcases e with rfl | rfl | rfl <;> simp [strV]) (by omega) (by omega) (by omega) ?_)
      intro v3 w4 hown4 ht3 km3 hg3
      have hs4 := hg3.size
      rw [World.size_alloc] at hs4
      have G4 : Hid (w1.grownBy w4 (Value.slice q k c).ownBlock) := (G3.out.trans (World.grownBy_alloc _ _ _)).trans hg3
      have K4 : Hid (KM m w3 w4) := (KM.alloc m w3 _).trans km3
      obtain ⟨q3, c3, rfl⟩ := ht3.shape
      have T0 : Hid (Txts w4 (.slice q k c) (List.replicate k m)) := Txts.own (base := base) (by rw [List.length_replicate, List.map_replicate]; exact hown4)
      have T3 : Hid (Txts w4 (.slice q3 (List.replicate (k + 3) m).length c3) (List.replicate (k + 3) m)) := ht3
      have HR4 : Hid (Row w4 w.heap.size 5) := Row.grown HR0.out G4.out (by omega) HNE.out
      have ZR : Hid (w4.cell? ⟨w.heap.size, 0, none⟩ = some (.slice none 0 0)) := (World.cell?_of_block (a := ⟨w.heap.size, 0, none⟩) (G4.out.block _ (by show w.heap.size < _; omega) HNE.out)).trans hz0
      have HB4 : Hid (w.grownBy w4 (Value.slice q k c).ownBlock) := HB1.out.trans G4.out
      simp only [List.length_replicate] at *
      clear km3 hg3 hown4 ht3
      obtain ⟨⟨u0, z0⟩, f0⟩ := HR4.out.cell 0 (by omega)
      obtain ⟨⟨u1, z1⟩, f1⟩ := HR4.out.cell 1 (by omega)
      obtain ⟨⟨u2, z2⟩, f2⟩ := HR4.out.cell 2 (by omega)
      obtain ⟨⟨u3, z3⟩, f3⟩ := HR4.out.cell 3 (by omega)
      obtain ⟨⟨u4, z4⟩, f4⟩ := HR4.out.cell 4 (by omega)
      go_wp2_with fail
      refine postN (X := w4) (B := w.heap.size) [.slice q k c, .slice q1 (k + 1) c1, .slice q2 (k + 2) c2, .slice q3 (k + 3) c3, strV m] Tryz.results14 rfl Tryz.underlying29 rfl Tryz.infoOwned HR4.out rfl ⟨_, rfl, rfl, by simp [strV, Value.oneCell'], ⟨_, _, _, _, rfl, T0.out.far ZR.out _, (((T1.out.km K3.out).km K4.out).far ZR.out _), ((T2.out.km K4.out).far ZR.out _), T3.out.far ZR.out _⟩, HB4.out.andThen (grown_setCells w.heap.size _ 0 w4).1 (fun j e => by cases e; exact Or.inl (Nat.le_refl _))⟩
end Go.Proofs.YtkinoehmcfhgbaaGreatDoor.Vl
set_option linter.unusedVariables false
set_option linter.unusedSimpArgs false
namespace Go.Proofs.YtkinoehmcfhgbaaGreatDoor.Vl
open Go.RowKit


theorem gt_gl {w : World} (h : Gl w) : Gt w := fun w' hb => (h w' hb).2.2.2
theorem eqInS (d : Nat) (w : World) (x1 x2 x3 x4 y1 y2 y3 y4 : Int) : (Op.equalIn (d + 1 + 1) 36 (.agg #[.int .i64 x1, .int .i64 x2, .int .i64 x3, .int .i64 x4]) (.agg #[.int .i64 y1, .int .i64 y2, .int .i64 y3, .int .i64 y4])).run Tryz.prog w = .ok (x1 == y1 && (x2 == y2 && (x3 == y3 && x4 == y4))) w := by
  have e1 : ∃ i, Tryz.prog.info? 3 = some i := Option.isSome_iff_exists.1 (by kernel_rfl)
  obtain ⟨i, hi⟩ := e1
  have e2 : Tryz.prog.cellsOf 3 = 1 := by kernel_rfl
  rw [run_equalIn_array w (d + 1) _ _ Tryz.underlying36 hi, e2]
  simp [Op.eqItems, part, run_equalIn_int, Tryz.underlying3, show List.range 4 = [0, 1, 2, 3] from rfl]
  by_cases h1 : x1 = y1 <;> by_cases h2 : x2 = y2 <;> by_cases h3 : x3 = y3 <;> by_cases h4 : x4 = y4 <;> simp [h1, h2, h3, h4]
end Go.Proofs.YtkinoehmcfhgbaaGreatDoor.Vl
set_option linter.unusedVariables false
set_option linter.unusedSimpArgs false
namespace Go.Proofs.YtkinoehmcfhgbaaGreatDoor.Vl
open Go.RowKit

theorem eqlS (w : World) (x1 x2 x3 x4 y1 y2 y3 y4 : Int) : (binOp .eql 36 (.agg #[.int .i64 x1, .int .i64 x2, .int .i64 x3, .int .i64 x4]) (.agg #[.int .i64 y1, .int .i64 y2, .int .i64 y3, .int .i64 y4])).run Tryz.prog w = .ok (.bool (x1 == y1 && (x2 == y2 && (x3 == y3 && x4 == y4)))) w := by
  rw [run_eql_struct, show (10000 : Nat) = 9998 + 1 + 1 from rfl, eqInS]
  rfl
set_option maxRecDepth 100000 in
set_option maxHeartbeats 2000000 in
theorem alike_any (v m1 m2 m3 m4 : Int) (p1 p2 : Value) (L : List (List UInt8)) (w : World) (h1 : Txts w p1 L) (h2 : Txts w p2 L) (hl : L.length ≤ 1000) :
    Calls Tryz.prog 34 #[.agg #[.int .i64 v, .int .i64 0, .int .i64 m1, .int .i64 m2, .int .i64 m3, .int .i64 m4, p1], .agg #[.int .i64 v, .int .i64 0, .int .i64 m1, .int .i64 m2, .int .i64 m3, .int .i64 m4, p2]] w fun e w' => e = .returned (.bool true) ∧ Below w.heap.size w w' := by
  have hbb : ∀ x y, Below w.heap.size w ((w.alloc x).alloc y) := fun x y => (below_alloc w x).alloc (by simp) y
  have CS : Hid (∀ x y, Calls Tryz.prog 12 #[p1, p2] ((w.alloc x).alloc y) _) := fun x y => same_any L p1 p2 _ (h1.below (hbb x y)) (h2.below (hbb x y)) (by omega)
  have hq := fun X => eqlS X m1 m2 m3 m4 m1 m2 m3 m4
  have hbeq : (m1 == m1 && (m2 == m2 && (m3 == m3 && m4 == m4))) = true := by simp
  rw [hbeq] at hq
  obtain ⟨q1, c1, rfl⟩ := h1.shape
  obtain ⟨q2, c2, rfl⟩ := h2.shape
  have HBB : Hid _ := hbb
  clear h1 h2 hbb hbeq
  go_enter Tryz.func34, Tryz.ntmps34
  go_wp2_with fail
  refine Calls.mono (CS.out _ _) ?_
  rintro e w3 ⟨rfl, hb3⟩
  have ba : Blk w3 w.heap.size 51 [.int .i64 v, .int .i64 0, .int .i64 m1, .int .i64 m2, .int .i64 m3, .int .i64 m4, .slice q1 L.length c1] := (hb3.block w.heap.size (by simp <;> omega)).trans ((Below.heap_alloc _ _ _ (by simp)).trans (heap_alloc_new w _))
  have bb : Blk w3 (w.heap.size + 1) 51 [.int .i64 v, .int .i64 0, .int .i64 m1, .int .i64 m2, .int .i64 m3, .int .i64 m4, .slice q2 L.length c2] := by
    have := heap_alloc_new (w.alloc (.cells #[.int .i64 v, .int .i64 0, .int .i64 m1, .int .i64 m2, .int .i64 m3, .int .i64 m4, .slice q1 L.length c1] 51)) (.cells #[.int .i64 v, .int .i64 0, .int .i64 m1, .int .i64 m2, .int .i64 m3, .int .i64 m4, .slice q2 L.length c2] 51)
    rw [World.size_alloc] at this
    exact (hb3.block (w.heap.size + 1) (by simp)).trans this
  have a0 : w3.cell? ⟨w.heap.size, 0, none⟩ = some (.int .i64 v) := ba.cell rfl
  have a1 : w3.cell? ⟨w.heap.size, 1, none⟩ = some (.int .i64 0) := ba.cell rfl
  have a2 : w3.cell? ⟨w.heap.size, 2, none⟩ = some (.int .i64 m1) := ba.cell rfl
  have a3 : w3.cell? ⟨w.heap.size, 3, none⟩ = some (.int .i64 m2) := ba.cell rfl
  have a4 : w3.cell? ⟨w.heap.size, 4, none⟩ = some (.int .i64 m3) := ba.cell rfl
  have a5 : w3.cell? ⟨w.heap.size, 5, none⟩ = some (.int .i64 m4) := ba.cell rfl
  have b0 : w3.cell? ⟨w.heap.size + 1, 0, none⟩ = some (.int .i64 v) := bb.cell rfl
  have b1 : w3.cell? ⟨w.heap.size + 1, 1, none⟩ = some (.int .i64 0) := bb.cell rfl
  have b2 : w3.cell? ⟨w.heap.size + 1, 2, none⟩ = some (.int .i64 m1) := bb.cell rfl
  have b3 : w3.cell? ⟨w.heap.size + 1, 3, none⟩ = some (.int .i64 m2) := bb.cell rfl
  have b4 : w3.cell? ⟨w.heap.size + 1, 4, none⟩ = some (.int .i64 m3) := bb.cell rfl
  have b5 : w3.cell? ⟨w.heap.size + 1, 5, none⟩ = some (.int .i64 m4) := bb.cell rfl
  have HF : Hid (Below w.heap.size w w3) := (HBB.out _ _).trans (hb3.mono (by simp <;> omega))
  clear ba bb hb3
  go_wp2_with fail
  go_ret
  exact ⟨rfl, HF.out⟩
set_option maxRecDepth 100000 in
set_option maxHeartbeats 2000000 in
theorem plain_any (v m1 m2 m3 m4 : Int) (q : Option Addr) (n c : Nat) (w : World) (h : (v = 0 ∧ m1 = 0 ∧ m2 = 0 ∧ m3 = 0 ∧ m4 = 0 ∧ n = 1) ∨ (v = 1 ∧ n = 0) ∨ (v = 2 ∧ m1 = 0 ∧ m2 = 0 ∧ m3 = 0 ∧ m4 = 0 ∧ n = 0)) :
    Calls Tryz.prog 33 #[.agg #[.int .i64 v, .int .i64 0, .int .i64 m1, .int .i64 m2, .int .i64 m3, .int .i64 m4, .slice q n c], .int .i64 1] w fun e w' => e = .returned (.bool true) ∧ Below w.heap.size w w' := by
  have hq := fun X => eqlS X 0 0 0 0 0 0 0 0
  have HB : Hid (∀ x, Below w.heap.size w (w.alloc x)) := fun x => below_alloc w x
  rcases h with ⟨rfl, rfl, rfl, rfl, rfl, rfl⟩ | ⟨rfl, rfl⟩ | ⟨rfl, rfl, rfl, rfl, rfl, rfl⟩
  all_goals
    go_enter Tryz.func33, Tryz.ntmps33
    go_wp2_with fail
    go_ret
    exact ⟨rfl, HB.out _⟩
set_option maxRecDepth 100000 in
set_option maxHeartbeats 2000000 in
theorem few_any {s : ByteArray} {ys : List Sym} (hp : pars s = some ys) (w : World) (hmax : s.size ≤ maxLen) :
    Calls Tryz.prog 51 #[.string s] w fun e w' => e = .returned (.int .i64 ((uqs ys).length : Int)) ∧ Below w.heap.size w w' := by
  have CA : Hid (Calls Tryz.prog 81 #[.string s] w fun e w' => AtmsEnd w (pars s) e w') := Atoms_any s w hmax
  rw [hp] at CA
  go_enter Tryz.func51, Tryz.ntmps51
  go_wp2_with fail
  refine Calls.mono CA.out ?_
  rintro e w1 ⟨v, rfl, ha, hb⟩
  obtain ⟨q, c, rfl⟩ := atms_shape (ha ys rfl)
  clear ha
  go_wp2_with fail
  go_ret
  exact ⟨rfl, hb⟩
end Go.Proofs.YtkinoehmcfhgbaaGreatDoor.Vl
