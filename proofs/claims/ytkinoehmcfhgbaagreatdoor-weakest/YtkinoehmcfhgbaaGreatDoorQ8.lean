/-
  The walk of the parser's method commands.
  The walk of the document's own Read: a text's tokens, the error, the place.
-/
import Derived.Test.YtkinoehmcfhgbaaGreatDoorQ7
import Derived.Deep.LoopGhost
import Derived.Maps.AppendAt
import Derived.Test.YtkinoehmcfhgbaaGreatDoorLook
set_option linter.unusedVariables false
set_option linter.unusedSimpArgs false
namespace Go.Proofs.YtkinoehmcfhgbaaGreatDoor.Av
open Go.RowKit

variable {toks : List (List UInt8 × Nat)} {len : Nat}

theorem Tryz.infoCmd2 : (Tryz.prog.info? 228).map (fun i => (i.zero, i.size, i.bytes)) = some (some (.agg #[.int .i64 0, .int .i64 0, .int .i64 0, .int .i64 0, .int .i64 0, .slice none 0 0, .int .i64 0, .int .i64 0, .int .i64 0, .int .i64 0, .int .i64 0, .int .i64 0, .slice none 0 0, .int .i64 0, .int .i64 0, .int .i64 0, .int .i64 0, .int .i64 0, .slice none 0 0, .slice none 0 0]), 20, 224) := by kernel_rfl

theorem fold_len (l : List (Value × Nat)) : ∀ (A : Array Value), (l.foldl (fun (cs : Array Value) (x : Value × Nat) => cs.setIfInBounds x.snd x.fst) A).size = A.size := by
  induction l with
  | nil => intro A; rfl
  | cons a r ih => intro A; rw [List.foldl_cons, ih, Array.size_setIfInBounds]
theorem fold_put : ∀ (l : List Value) (k : Nat) (A : Array Value), k + l.length = A.size → (∀ j v, k ≤ j → l[j - k]? = some v → ((l.zipIdx k).foldl (fun (cs : Array Value) (x : Value × Nat) => cs.setIfInBounds x.snd x.fst) A)[j]? = some v) ∧ ∀ j, j < k → ((l.zipIdx k).foldl (fun (cs : Array Value) (x : Value × Nat) => cs.setIfInBounds x.snd x.fst) A)[j]? = A[j]?
  | [], k, A, h => ⟨fun j v h1 h2 => by simp at h2, fun j h1 => rfl⟩
  | x :: r, k, A, h => by
    simp only [List.length_cons] at h
    have ih := fold_put r (k + 1) (A.setIfInBounds k x) (by rw [Array.size_setIfInBounds]; omega)
    rw [List.zipIdx_cons, List.foldl_cons]
    refine ⟨fun j v h1 h2 => ?_, fun j h1 => ?_⟩
    · by_cases e : j = k
      · subst e
        rw [Nat.sub_self] at h2
        cases h2
        rw [ih.2 j (by omega), Array.getElem?_setIfInBounds_self_of_lt (by omega)]
      · refine ih.1 j v (by omega) ?_
        have e2 : j - k = (j - (k + 1)) + 1 := by omega
        rw [e2] at h2
        simpa using h2
    · rw [ih.2 j (by omega), Array.getElem?_setIfInBounds_ne (by omega)]
theorem bld20 (cs : Array Value) (h : cs.size = 20) : Array.foldl (fun (cs : Array Value) (x : Value × Nat) => cs.setIfInBounds x.snd x.fst) #[.int .i64 0, .int .i64 0, .int .i64 0, .int .i64 0, .int .i64 0, .slice none 0 0, .int .i64 0, .int .i64 0, .int .i64 0, .int .i64 0, .int .i64 0, .int .i64 0, .slice none 0 0, .int .i64 0, .int .i64 0, .int .i64 0, .int .i64 0, .int .i64 0, .slice none 0 0, .slice none 0 0] cs.zipIdx 0 20 = cs := by
  have hz : cs.zipIdx.size = 20 := by simp [h]
  rw [← hz, ← Array.foldl_toList, Array.toList_zipIdx]
  have hp := (fold_put cs.toList 0 #[.int .i64 0, .int .i64 0, .int .i64 0, .int .i64 0, .int .i64 0, .slice none 0 0, .int .i64 0, .int .i64 0, .int .i64 0, .int .i64 0, .int .i64 0, .int .i64 0, .slice none 0 0, .int .i64 0, .int .i64 0, .int .i64 0, .int .i64 0, .int .i64 0, .slice none 0 0, .slice none 0 0] (by simp [h])).1
  apply Array.ext_getElem?
  intro j
  by_cases hj : j < cs.size
  · have e : cs[j]? = some cs[j] := Array.getElem?_eq_getElem hj
    rw [e]
    exact hp j _ (Nat.zero_le _) (by rw [Nat.sub_zero, Array.getElem?_toList]; exact e)
  · have hl := fold_len cs.toList.zipIdx #[.int .i64 0, .int .i64 0, .int .i64 0, .int .i64 0, .int .i64 0, .slice none 0 0, .int .i64 0, .int .i64 0, .int .i64 0, .int .i64 0, .int .i64 0, .int .i64 0, .slice none 0 0, .int .i64 0, .int .i64 0, .int .i64 0, .int .i64 0, .int .i64 0, .slice none 0 0, .slice none 0 0]
    rw [Array.getElem?_eq_none (xs := cs) (by omega), Array.getElem?_eq_none]
    rw [hl]
    show 20 ≤ j
    omega
/-- Commands in a row, as they stand in tokens. -/
def Sqs (toks : List (List UInt8 × Nat)) : Nat → List Cm → Nat → Prop
  | _, [], _ => False
  | k, c :: l, k2 => (l = [] ∧ Rc toks false k c k2) ∨ ∃ k1, Rc toks false k c k1 ∧ sAt toks k1 = [59] ∧ Sqs toks (k1 + 1) l k2
def fld : List Cm → Cm
  | [] => .skip
  | [c] => c
  | c :: d :: l => .seq c (fld (d :: l))
theorem Sqs.app : ∀ {l : List Cm} {k k2 k3 : Nat} {d : Cm}, Sqs toks k l k2 → sAt toks k2 = [59] → Rc toks false (k2 + 1) d k3 → Sqs toks k (l ++ [d]) k3
  | [], _, _, _, _, h, _, _ => h.elim
  | c :: l, k, k2, k3, d, h, hs, hd => by
    rcases h with ⟨rfl, h1⟩ | ⟨k1, h1, h2, h3⟩
    · exact Or.inr ⟨k2, h1, hs, Or.inl ⟨rfl, hd⟩⟩
    · exact Or.inr ⟨k1, h1, h2, Sqs.app h3 hs hd⟩
theorem Sqs.done : ∀ {l : List Cm} {k k2 : Nat}, Sqs toks k l k2 → sAt toks k2 ≠ [59] → Rc toks true k (fld l) k2
  | [], _, _, h, _ => h.elim
  | [c], k, k2, h, hs => by
    rcases h with ⟨_, h1⟩ | ⟨k1, h1, h2, h3⟩
    · exact .one h1 hs
    · exact h3.elim
  | c :: d :: l, k, k2, h, hs => by
    rcases h with ⟨h0, h1⟩ | ⟨k1, h1, h2, h3⟩
    · cases h0
    · exact .seq h1 h2 (Sqs.done h3 hs)
def AllC (w : World) (P : Nat → Prop) : List Cm → List (List Value) → Prop
  | [], ys => ys = []
  | c :: l, ys => ∃ y r, ys = y :: r ∧ IsC w P c [y] ∧ AllC w P l r
theorem AllC.same {P : Nat → Prop} {w w' : World} (hs : Same P w w') : ∀ {l : List Cm} {ys : List (List Value)}, AllC w P l ys → AllC w' P l ys
  | [], _, h => h
  | _ :: _, _, ⟨y, r, e, h1, h2⟩ => ⟨y, r, e, h1.same hs, AllC.same hs h2⟩
theorem AllC.mono {P P' : Nat → Prop} {w : World} (hl : ∀ g, P g → g < w.heap.size → P' g) : ∀ {l : List Cm} {ys : List (List Value)}, AllC w P l ys → AllC w P' l ys
  | [], _, h => h
  | _ :: _, _, ⟨y, r, e, h1, h2⟩ => ⟨y, r, e, h1.mono hl, AllC.mono hl h2⟩
theorem AllC.app {P : Nat → Prop} {w : World} {d : Cm} {z : List Value} (hd : IsC w P d [z]) : ∀ {l : List Cm} {ys : List (List Value)}, AllC w P l ys → AllC w P (l ++ [d]) (ys ++ [z])
  | [], _, h => by cases h; exact ⟨z, [], rfl, hd, rfl⟩
  | _ :: _, _, ⟨y, r, e, h1, h2⟩ => ⟨y, r ++ [z], by rw [e]; rfl, h1, AllC.app hd h2⟩
theorem AllC.done {P : Nat → Prop} {w : World} : ∀ {l : List Cm} {ys : List (List Value)}, l ≠ [] → AllC w P l ys → IsC w P (fld l) ys
  | [], _, h, _ => absurd rfl h
  | [c], _, _, ⟨y, r, e, h1, h2⟩ => by cases h2; rw [e]; exact h1
  | c :: d :: l, _, _, ⟨y, r, e, h1, h2⟩ => ⟨y, r, e, h1, AllC.done (by simp) h2⟩
theorem IsC.len20 {P : Nat → Prop} {w : World} : ∀ {c : Cm} {y : List Value}, IsC w P c [y] → y.length = 20
  | .skip, y, ⟨z, e, h, _⟩ => by cases e; exact h
  | .asg _ _, y, ⟨z, e, h, _⟩ => by cases e; exact h
  | .ite _ _ _, y, ⟨z, e, h, _⟩ => by cases e; exact h
  | .loop _ _ _, y, ⟨z, e, h, _⟩ => by cases e; exact h
  | .seq a b, y, ⟨z, r, e, h1, h2⟩ => by cases e; exact IsC.len20 h1
theorem AllC.lens {P : Nat → Prop} {w : World} : ∀ {l : List Cm} {ys : List (List Value)}, AllC w P l ys → ∀ y ∈ ys, y.length = 20
  | [], _, h => by cases h; intro y hy; cases hy
  | _ :: _, _, ⟨y, r, e, h1, h2⟩ => by
    rw [e]; intro z hz
    rcases List.mem_cons.1 hz with rfl | hz
    · exact h1.len20
    · exact AllC.lens h2 z hz
theorem flat20 : ∀ (ys : List (List Value)), (∀ y ∈ ys, y.length = 20) → ys.flatten.length = ys.length * 20
  | [], _ => rfl
  | y :: r, h => by
    rw [List.flatten_cons, List.length_append, h y List.mem_cons_self, flat20 r (fun z hz => h z (List.mem_cons_of_mem _ hz)), List.length_cons]; omega
/-- Commands read so far: as they stand in tokens, as they lie in memory. -/
def Sf (toks : List (List UInt8 × Nat)) (k k2 : Nat) (w : World) (P : Nat → Prop) (xs : List Value) : Prop := ∃ l ys, Sqs toks k l k2 ∧ AllC w P l ys ∧ xs = ys.flatten
theorem Sf.same {k k2 : Nat} {w w' : World} {P : Nat → Prop} {xs : List Value} (h : Sf toks k k2 w P xs) (hs : Same P w w') : Sf toks k k2 w' P xs := by
  obtain ⟨l, ys, h1, h2, h3⟩ := h
  exact ⟨l, ys, h1, h2.same hs, h3⟩
theorem Sf.mono {k k2 : Nat} {w : World} {P P' : Nat → Prop} {xs : List Value} (h : Sf toks k k2 w P xs) (hl : ∀ g, P g → g < w.heap.size → P' g) : Sf toks k k2 w P' xs := by
  obtain ⟨l, ys, h1, h2, h3⟩ := h
  exact ⟨l, ys, h1, h2.mono hl, h3⟩
theorem Sf.first {k : Nat} {w : World} {P : Nat → Prop} {cs : Array Value} {σ' : PSt} (h : CR toks k P w (.agg cs) σ') : Sf toks k σ'.pos w P cs.toList := by
  obtain ⟨c, y, e, h1, h2⟩ := h
  have e2 : cs = y.toArray := by injection e
  subst e2
  exact ⟨[c], [y], Or.inl ⟨rfl, h1⟩, ⟨y, [], rfl, h2, rfl⟩, by simp⟩
theorem Sf.app {k k2 : Nat} {w : World} {P : Nat → Prop} {xs : List Value} {cs : Array Value} {σ' : PSt} (h : Sf toks k k2 w P xs) (hs : sAt toks k2 = [59]) (hc : CR toks (k2 + 1) P w (.agg cs) σ') : Sf toks k σ'.pos w P (xs ++ cs.toList) := by
  obtain ⟨l, ys, h1, h2, h3⟩ := h
  obtain ⟨c, y, e, g1, g2⟩ := hc
  have e2 : cs = y.toArray := by injection e
  subst e2
  exact ⟨l ++ [c], ys ++ [y], h1.app hs g1, h2.app g2, by rw [h3]; simp⟩
theorem CR.same {k : Nat} {w w' : World} {P : Nat → Prop} {v : Value} {σ' : PSt} (h : CR toks k P w v σ') (hs : Same P w w') : CR toks k P w' v σ' := by
  obtain ⟨c, y, e, h1, h2⟩ := h
  exact ⟨c, y, e, h1, h2.same hs⟩
theorem CR.mono {k : Nat} {w : World} {P P' : Nat → Prop} {v : Value} {σ' : PSt} (h : CR toks k P w v σ') (hl : ∀ g, P g → g < w.heap.size → P' g) : CR toks k P' w v σ' := by
  obtain ⟨c, y, e, h1, h2⟩ := h
  exact ⟨c, y, e, h1, h2.mono hl⟩
/-- Blocks of the call's own, the list's row aside. -/
def Pv (B : Nat) (v : Value) (g : Nat) : Prop := B ≤ g ∧ v.ownBlock ≠ some g
theorem own_lt {w : World} {base : Nat} {e : TypeId} {size : Nat} {v : Value} {n : Nat} {xs : List Value} (h : w.ownsRow base e size v n xs) : ∀ k, v.ownBlock = some k → k < w.heap.size := by
  intro k hk
  rcases h.2 with ⟨rfl, _⟩ | ⟨g, cap, cur, rfl, hg, hh, _⟩
  · simp [Value.ownBlock] at hk
  · simp [Value.ownBlock] at hk
    subst hk
    rcases Nat.lt_or_ge g w.heap.size with h | h
    · exact h
    · rw [Array.getElem?_eq_none h] at hh; cases hh
theorem grown_same {P : Nat → Prop} {w w' : World} {row : Option Nat} (h : w.grownBy w' row) (hp : ∀ g, P g → row ≠ some g) : Same P w w' := ⟨h.size, fun g o h1 h2 => World.cell?_of_block (a := ⟨g, o, none⟩) (h.block g h2 (fun e => hp g h1 e.symm))⟩
theorem Sf.done {k : Nat} {w : World} {B : Nat} {v : Value} {m : Nat} {xs : List Value} {σ' : PSt} (h : Sf toks k σ'.pos w (Pv B v) xs) (ho : w.ownsRow B 228 20 v m xs) (hs : sAt toks σ'.pos ≠ [59]) : CsR toks k (fun g => B ≤ g) w v σ' := by
  obtain ⟨l, ys, h1, h2, h3⟩ := h
  have hl : l ≠ [] := by rintro rfl; exact h1
  have hy : ys ≠ [] := by
    intro e; subst e
    cases l with
    | nil => exact hl rfl
    | cons a r => obtain ⟨y, r, e, _⟩ := h2; cases e
  have h20 := flat20 ys h2.lens
  have hlt := own_lt ho
  rcases ho with ⟨hx, ⟨rfl, h0⟩ | ⟨g, cap, cur, rfl, hg, hh, h4, h5, h6, h7⟩⟩
  · rw [h3, h20, h0] at hx
    exact absurd (List.length_eq_zero_iff.1 (by omega)) hy
  · have hm : ys.length = m := by rw [h3, h20] at hx; omega
    refine ⟨fld l, g, m, cap, ys, rfl, h1.done hs, ⟨hg, hlt g rfl, hm, h4, h5, ?_, h2.lens⟩, (h2.mono (P' := fun g => B ≤ g) (fun g h _ => h.1)).done hl⟩
    intro j u hu
    have : (cur.toList.take (m * 20))[j]? = some u := by rw [h7, h3]; exact hu
    have hj : j < m * 20 := by
      rcases Nat.lt_or_ge j (m * 20) with h | h
      · exact h
      · rw [List.getElem?_eq_none (by rw [h7, hx]; exact h)] at this; cases this
    rw [List.getElem?_take, if_pos hj] at this
    simp [World.cell?, hh]
    simpa using this

theorem Kp.grownBy {b : Nat} {w w1 w2 : World} {row : Option Nat} (h : Kp b w w1) (hg : w1.grownBy w2 row) (hr : ∀ k, row = some k → w.heap.size ≤ k) : Kp b w w2 :=
  ⟨hg.os.trans h.os, hg.tape.trans h.tape, hg.output.trans h.output, Nat.le_trans h.size hg.size, fun k hk hb => (hg.block k (Nat.lt_of_lt_of_le hk h.size) (fun e => by have := hr k e.symm; omega)).trans (h.block k hk hb)⟩
theorem At.grownBy {w1 w2 : World} {b tb cap : Nat} {T : List (Int × Int × Int)} {σ : PSt} {row : Option Nat} (h : At w1 b tb cap T σ) (hg : w1.grownBy w2 row) (hr : ∀ k, row = some k → b < k ∧ tb < k) : At w2 b tb cap T σ := by
  have e1 : w2.heap[b]? = w1.heap[b]? := hg.block b h.hb (fun e => by have := hr b e.symm; omega)
  have e2 : w2.heap[tb]? = w1.heap[tb]? := hg.block tb h.htb (fun e => by have := hr tb e.symm; omega)
  have hc : ∀ j, w2.cell? ⟨b, j, none⟩ = w1.cell? ⟨b, j, none⟩ := fun j => World.cell?_of_block (a := ⟨b, j, none⟩) e1
  have ht : ∀ j, w2.cell? ⟨tb, j, none⟩ = w1.cell? ⟨tb, j, none⟩ := fun j => World.cell?_of_block (a := ⟨tb, j, none⟩) e2
  exact ⟨Nat.lt_of_lt_of_le h.hb hg.size, Nat.lt_of_lt_of_le h.htb hg.size, h.hne, h.hcap, h.hcm, (hc 0).trans h.c0, (hc 1).trans h.c1, (hc 2).trans h.c2, (hc 3).trans h.c3, (hc 4).trans h.c4, fun o => (World.frozen?_of_block (a := ⟨b, o, none⟩) e1).trans (h.f o), fun j hj => by
    obtain ⟨a1, a2, a3⟩ := h.toks j hj
    exact ⟨(ht _).trans a1, (ht _).trans a2, (ht _).trans a3⟩⟩
theorem own_kp {b : Nat} {w w1 : World} {base : Nat} {e : TypeId} {size : Nat} {v : Value} {n : Nat} {xs : List Value} (h : w.ownsRow base e size v n xs) (k : Kp b w w1) (hb : b < base) : w1.ownsRow base e size v n xs := by
  obtain ⟨h1, h2⟩ := h
  refine ⟨h1, ?_⟩
  rcases h2 with h2 | ⟨g, cap, cur, hv, hg, hh, r⟩
  · exact Or.inl h2
  · have : g < w.heap.size := by
      rcases Nat.lt_or_ge g w.heap.size with h | h
      · exact h
      · rw [Array.getElem?_eq_none h] at hh; cases hh
    exact Or.inr ⟨g, cap, cur, hv, hg, by rw [k.block g this (fun e => by have := Option.some.inj e; omega)]; exact hh, r⟩
theorem own_new (w : World) (base : Nat) (cs : Array Value) (h : cs.size = 20) (hb : base ≤ w.heap.size) : (w.alloc (.cells cs 228)).ownsRow base 228 20 (.slice (some ⟨w.heap.size, 0, none⟩) 1 1) 1 cs.toList :=
  ⟨by simp [h], Or.inr ⟨w.heap.size, 1, cs, rfl, hb, heap_alloc_new w _, Nat.le_refl _, by decide, by omega, by rw [List.take_of_length_le (by simp [h])]⟩⟩
theorem own_slice {w : World} {base : Nat} {e : TypeId} {size : Nat} {v : Value} {n : Nat} {xs : List Value} (h : w.ownsRow base e size v n xs) : sliceV v := by
  rcases h.2 with ⟨rfl, _⟩ | ⟨g, cap, cur, rfl, _⟩
  · exact ⟨none, 0, 0, rfl⟩
  · exact ⟨_, _, _, rfl⟩
theorem new_cells (w : World) (cs : Array Value) (t : TypeId) : ∀ j u, cs.toList[j]? = some u → (w.alloc (.cells cs t)).cell? ((⟨w.heap.size, 0, none⟩ : Addr).add j) = some u := by
  intro j u h
  rw [Addr.add_mid, World.cell?_alloc_at _ _ _ _ rfl]; simpa using h

set_option maxRecDepth 100000 in
set_option maxHeartbeats 1000000 in
theorem commands_step (hk : AllTok toks) (hn : toks.length ≤ 300) (b tb cap r : Nat) (HF : ComC toks len b tb cap r) : ComsC toks len b tb cap r := by
  intro w σ h ho hr
  have HC : Hid (ComC toks len b tb cap r) := HF
  have H : Hid (At w b tb cap (T3 toks len) σ) := h
  have HO : Hid (Ok toks.length σ) := ho
  have HR : Hid (toks.length - σ.pos ≤ r) := hr
  have hb := h.hb
  have htb := h.htb
  clear h ho hr HF
  go_enter Tryz.func110, Tryz.ntmps110
  go_wp2_with fail
  refine (HC.out _ σ H.out HO.out HR.out).mono ?_
  rintro e w1 ⟨v1, σ1, rfl, ⟨cs, rfl, hcs1, hcs2⟩, hA1, hG1, hK1, hS1, hR1⟩
  have HA1 : Hid (At w1 b tb cap (T3 toks len) σ1) := hA1
  have HG1 : Hid (Goes toks.length σ σ1) := hG1
  have HK1 : Hid (Kp b w w1) := hK1
  have HS1 : Hid (∀ st, fin toks len σ (cCommand :: st) = fin toks len σ1 st) := hS1
  have hz1 := hK1.size
  have HB : Hid (_ = cs) := bld20 cs hcs1
  have HW : Hid _ := own_new w1 w.heap.size cs hcs1 hz1
  have HF1 : Hid (σ1.e = 0 → Sf toks σ.pos σ1.pos (w1.alloc (.cells cs 228)) (Pv w.heap.size (.slice (some ⟨w1.heap.size, 0, none⟩) 1 1)) cs.toList) := fun he => ((Sf.first (hR1 he)).mono (P' := Pv w.heap.size (.slice (some ⟨w1.heap.size, 0, none⟩) 1 1)) (fun g h1 h2 => ⟨h1, fun e => by have e := Option.some.inj e; simp only at e; omega⟩)).same (same_alloc _ _ _)
  clear hR1
  obtain ⟨i0, hi, hz0, hzz1, hzz2⟩ := info_parts Tryz.infoCmd2
  clear hA1 hG1 hK1 hS1 hcs2
  go_wp2_with fail
  rw [HB.out]
  clear hcs1
  go_loopg [3] (toks.length - σ1.pos) (fun g v wr => ∃ (σ2 : PSt) (m : Nat) (xs : List Value), At wr b tb cap (T3 toks len) σ2 ∧ Goes toks.length σ σ2 ∧ (∀ st, fin toks len σ (cCommands :: st) = fin toks len σ2 (cMoreCommands :: st)) ∧ g = toks.length - σ2.pos ∧ Kp b w wr ∧ wr.ownsRow w.heap.size 228 20 v m xs ∧ m ≤ 1 + σ2.pos ∧ (σ2.e = 0 → Sf toks σ.pos σ2.pos wr (Pv w.heap.size v) xs))
  case atStart => exact ⟨σ1, 1, _, HA1.out.alloc _, HG1.out, fun st => by rw [fin_commands, HS1.out], rfl, HK1.out.alloc _, HW.out, by omega, HF1.out⟩
  case round =>
    obtain ⟨σ2, m, xs, hA2, hG2, hS2, hg, hK2, hown, hm, hsf⟩ := hrel
    have HA2 : Hid (At wr b tb cap (T3 toks len) σ2) := hA2
    have HG2 : Hid (Goes toks.length σ σ2) := hG2
    have HS2 : Hid (∀ st, fin toks len σ (cCommands :: st) = fin toks len σ2 (cMoreCommands :: st)) := hS2
    have Hg : Hid (gk = toks.length - σ2.pos) := hg
    have HK2 : Hid (Kp b w wr) := hK2
    have HW2 : Hid (wr.ownsRow w.heap.size 228 20 u3 m xs) := hown
    have hm3 : m ≤ 301 := by have := hG2.1.1; omega
    have HM : Hid (m ≤ 1 + σ2.pos) := hm
    have HF2 : Hid (σ2.e = 0 → Sf toks σ.pos σ2.pos wr (Pv w.heap.size u3) xs) := hsf
    have hzr := hK2.size
    clear hA2 hG2 hS2 hg hK2 hown hm hsf
    by_cases kb : kd (T3 toks len) σ2.pos = 4
    · have HKB : Hid (kd (T3 toks len) σ2.pos = 4) := kb
      clear kb
      go_wp2_with fail
      refine (take_yes hn b tb cap 4 _ σ2 HA2.out HG2.out.1 HKB.out).mono ?_
      rintro e w3 ⟨rfl, hA3, hK3⟩
      have HA3 : Hid (At w3 b tb cap (T3 toks len) (σ2.adv (T3 toks len))) := hA3
      have HK3 : Hid (Kp b w w3) := HK2.out.trans hK3
      have HW3 : Hid (w3.ownsRow w.heap.size 228 20 u3 m xs) := own_kp HW2.out hK3 hb
      have HF3 : Hid (σ2.e = 0 → Sf toks σ.pos σ2.pos w3 (Pv w.heap.size u3) xs) := fun he => (HF2.out he).same (hK3.same (fun h => by have := h.1; omega))
      have hz3 := HK3.out.size
      have HO3 : Hid (∀ k, u3.ownBlock = some k → k < w3.heap.size) := own_lt HW3.out
      have HGA : Hid (Goes toks.length σ2 (σ2.adv (T3 toks len))) := goes_adv hk HG2.out.1
      clear hA3 hK3
      go_wp2_with fail
      refine (HC.out _ _ HA3.out HGA.out.1 (by have h1 := HR.out; have h2 := HG2.out.2.1; have h3 := HGA.out.2.1; omega)).mono ?_
      rintro e w4 ⟨v4, σ4, rfl, ⟨ds, rfl, hds1, hds2⟩, hA4, hG4, hK4, hS4, hR4⟩
      have HA4 : Hid (At w4 b tb cap (T3 toks len) σ4) := hA4
      have HG4 : Hid (Goes toks.length (σ2.adv (T3 toks len)) σ4) := hG4
      have HK4 : Hid (Kp b w w4) := HK3.out.trans hK4
      have HW4 : Hid (w4.ownsRow w.heap.size 228 20 u3 m xs) := own_kp HW3.out hK4 hb
      have HS4 : Hid (∀ st, fin toks len (σ2.adv (T3 toks len)) (cCommand :: st) = fin toks len σ4 st) := hS4
      have hz4 := HK4.out.size
      have HB4 : Hid (_ = ds) := bld20 ds hds1
      have HD1 : Hid (ds.size = 20) := hds1
      have HD2 : Hid (∀ u ∈ ds.toList, u.oneCell' = true) := all_mem hds2
      have HF4 : Hid (σ4.e = 0 → Sf toks σ.pos σ4.pos w4 (Pv w.heap.size u3) (xs ++ ds.toList)) := fun he => by
        have e2 := (HGA.out.2.2 (hG4.2.2 he).1).1
        have hadv := adv_pos (T3 toks len) σ2 (by rw [HKB.out]; decide)
        have hcr := hR4 he
        rw [hadv] at hcr
        exact ((HF3.out e2).same (hK4.same (fun h => by have := h.1; omega))).app ((lit_at (len := len) hk HG2.out.1.1 (c := [59]) (n := 4) (by decide)).1 HKB.out) (hcr.mono (fun g h1 h2 => ⟨by omega, fun e => by have := HO3.out g e; omega⟩))
      clear hA4 hG4 hK4 hS4 hds2 hR4
      go_wp2_with (at_builtin; (rw [HB4.out]); refine wpList_append_own_at _ rfl _ _ 99 rfl w.heap.size 228 i0 _ 20 224 Tryz.underlying99 hi hz0 hzz1 hzz2 rfl (by decide) _ _ _ rfl (HW4.out.alloc _) ⟨w4.heap.size, 0, none⟩ 1 1 ds.toList rfl (by simpa using HD1.out) (new_cells _ _ _) HD2.out (by unfold maxLen; omega) (by omega) (by rw [asize]; omega) ?_)
      intro v5 w5 hown5 hgrow _ hat
      have hob := own_block HW4.out
      have HF5 : Hid (σ4.e = 0 → Sf toks σ.pos σ4.pos w5 (Pv w.heap.size v5) (xs ++ ds.toList)) := fun he => by
        have h1 := ((HF4.out he).same (same_alloc _ w4 (.cells ds 228))).mono (P' := fun g => Pv w.heap.size u3 g ∧ g < (w4.alloc (.cells ds 228)).heap.size) (fun g h1 h2 => ⟨h1, h2⟩)
        exact (h1.same (grown_same hgrow (fun g h => h.1.2))).mono (fun g h _ => ⟨h.1.1, fun e => by
          rcases hat with h5 | h5
          · exact h.1.2 (h5.symm.trans e)
          · rw [h5] at e; have e2 := Option.some.inj e; have h9 := h.2; rw [asize] at h9; first | omega | (rw [asize] at e2; omega)⟩)
      have HK5 : Hid (Kp b w w5) := (HK4.out.alloc _).grownBy hgrow hob
      have HA5 : Hid (At w5 b tb cap (T3 toks len) σ4) := (HA4.out.alloc _).grownBy hgrow (fun k e => ⟨by have := hob k e; omega, by have := hob k e; omega⟩)
      have HW5 : Hid (w5.ownsRow w.heap.size 228 20 v5 (m + 1) (xs ++ ds.toList)) := hown5
      clear hown5 hgrow hob hds1 hat
      go_wp2_with fail
      go_roundg (toks.length - σ4.pos)
      case measure =>
        have h1 := Hg.out
        have h2 := HG4.out.2.1
        have h3 := adv_pos (T3 toks len) σ2 (by rw [HKB.out]; omega)
        have h4 := (kd_lt (len := len) hk HG2.out.1 (by rw [HKB.out]; omega)).1
        omega
      case rel =>
        have h2 := HG4.out.2.1
        have h3 := adv_pos (T3 toks len) σ2 (by rw [HKB.out]; omega)
        have h5 := HM.out
        exact ⟨σ4, m + 1, _, HA5.out, HG2.out.trans (HGA.out.trans HG4.out), fun st => by rw [HS2.out st, fin_semi hk HG2.out.1 HKB.out, fin_commands, HS4.out], rfl, HK5.out, HW5.out, by omega, HF5.out⟩
    · have HKB : Hid (¬ kd (T3 toks len) σ2.pos = 4) := kb
      have HSF : Hid (∀ st, fin toks len σ (cCommands :: st) = fin toks len σ2 st) := fun st => by rw [HS2.out st, fin_popC hk HG2.out.1.1 kb]
      clear kb
      go_wp2_with fail
      refine (take_no hn b tb cap 4 _ σ2 HA2.out HG2.out.1 HKB.out).mono ?_
      rintro e w3 ⟨rfl, hA3, hK3⟩
      have HV : Hid (sliceV u3) := own_slice HW2.out
      have HFE : Hid (σ2.e = 0 → CsR toks σ.pos (fun g => w.heap.size ≤ g) w3 u3 σ2) := fun he => ((HF2.out he).same (hK3.same (fun h => by have := h.1; omega))).done (own_kp HW2.out hK3 hb) (fun e => HKB.out ((lit_at (len := len) hk HG2.out.1.1 (c := [59]) (n := 4) (by decide)).2 e))
      go_wp2_with fail
      go_ret
      exact ⟨_, σ2, rfl, HV.out, hA3, HG2.out, HK2.out.trans hK3, HSF.out, HFE.out⟩

theorem coms (hk : AllTok toks) (hn : toks.length ≤ 300) (b tb cap : Nat) (r : Nat) : ComsC toks len b tb cap r := by
  induction r with
  | zero => exact commands_step hk hn b tb cap 0 (command_step hk hn b tb cap 0 (fun h => absurd h (Nat.lt_irrefl 0)))
  | succ r ih => exact commands_step hk hn b tb cap (r + 1) (command_step hk hn b tb cap (r + 1) (fun _ => ih))
theorem program_any (hk : AllTok toks) (hn : toks.length ≤ 300) (b tb cap : Nat) (w : World) (σ : PSt) (h : At w b tb cap (T3 toks len) σ) (ho : Ok toks.length σ) :
    Calls Tryz.prog 70 #[.pointer (some ⟨b, 0, none⟩)] w (PPost b tb cap toks len σ w (aggV 15) (fun σ' => fin toks len σ st0 = if σ'.e = 0 then (0, 0) else (σ'.e, σ'.pl)) (PrR toks σ.pos (fun g => w.heap.size ≤ g))) :=
  program_c hk hn b tb cap 0 (coms hk hn b tb cap toks.length) w σ h ho

end Go.Proofs.YtkinoehmcfhgbaaGreatDoor.Av
set_option linter.unusedVariables false
set_option linter.unusedSimpArgs false
namespace Go.Proofs.YtkinoehmcfhgbaaGreatDoor.Av
open Go.RowKit

theorem toks_mem (f : Nat) : ∀ (i : Nat) (l : List UInt8) (t : List UInt8) (j : Nat), (t, j) ∈ toks f i l → t.length ≤ l.length := by
  induction f with
  | zero => intro i l t j h; simp [toks] at h
  | succ f ih =>
    intro i l t j h
    cases l with
    | nil => simp [toks] at h
    | cons a r =>
      simp only [toks] at h
      split at h
      · have := ih _ _ _ _ h; simp; omega
      · rw [List.mem_cons] at h
        rcases h with h | h
        · injection h with h1 _; subst h1; rw [List.length_take]; omega
        · have := ih _ _ _ _ h; simp at this ⊢; omega

theorem runM_zero (len : Nat) (l : List (List UInt8 × Nat)) : ∀ st d, (runM len l st d).1 = 0 → (runM len l st d).2 = 0 := by
  induction l with
  | nil => intro st d; simp only [runM]; split <;> simp
  | cons a r ih =>
    obtain ⟨t, i⟩ := a
    intro st d
    rw [runM_step]
    split
    · simp
    · repeat' split
      all_goals first | (simp; done) | exact ih _ _

set_option maxRecDepth 100000 in
set_option maxHeartbeats 1000000 in
theorem looked_nil (s : ByteArray) (w : World) (hs : s.size ≤ 300) :
    Calls Tryz.prog 63 #[.string s, .slice none 0 0] w fun e w' => e = .returned (.tuple #[.int .i64 2, .int .i64 (s.size : Int)]) ∧ Below w.heap.size w w' := by
  have C0 : Hid (∀ a b c d e f, Calls Tryz.prog 99 #[.slice none 0 0, .slice (some ⟨w.heap.size, 0, none⟩) 6 6] (w.alloc (.cells #[.string a, .string b, .string c, .string d, .string e, .string f] 9)) fun e' w' => ∃ v', e' = .returned v' ∧ Stk w' v' (a.data.toList :: b.data.toList :: c.data.toList :: d.data.toList :: e.data.toList :: f.data.toList :: []) ∧ Below w.heap.size w w') := fun a b c d e f => push6 _ [] w a b c d e f (Or.inl ⟨rfl, rfl⟩) (by simp)
  go_enter Tryz.func63, Tryz.ntmps63
  go_wp2_with (go_at_call 99; refine (C0.out _ _ _ _ _ _).mono ?_; rintro e w1 ⟨v1, rfl, hs1, hb1⟩)
  go_loopw [6, 7, 8, 9, 10, 11, 12, 13] (fun v dv iv _ _ _ _ _ wr => Stk wr v st0 ∧ iv = .int .i64 0 ∧ Below w.heap.size w wr) (fun _ _ iv _ _ _ _ _ _ => 0)
  case atStart => exact ⟨hs1, rfl, hb1⟩
  case round =>
    obtain ⟨hst, rfl, hnx⟩ := hrel
    have C1 : Hid (∀ b : ByteArray, Calls Tryz.prog 100 #[u6, .string b] wr fun e w' => OpnEnd wr (opn b.data.toList st0 0) e w') := fun b => opens_any b _ st0 wr hst (by decide)
    go_wp2_with fail
    refine (C1.out _).mono ?_
    rintro e w2 ⟨v2, rfl, hs2, hb2⟩
    have hs3 : Stk w2 v2 ([102, 114, 111, 109] :: [cFormula, [100, 111], cCommands, [116, 111], cFormula]) := hs2
    clear hs2
    have hnx2 := hnx.trans (hb2.mono hnx.size)
    generalize (opn (ByteArray.mk #[]).data.toList st0 0).2 = n at *
    obtain ⟨b2, cap2, rfl, hcp, hcm, _, _, _⟩ := hs3.top
    unfold maxLen at hcm
    go_wp2_with fail
    go_ret2
    exact ⟨rfl, hnx2⟩

theorem looked_any (s : ByteArray) (v : Value) (l : List (List UInt8 × Nat)) (w : World) (h : Tk2 w v l) (hs : s.size ≤ 300) (hl : l.length ≤ 300) (hsz : ∀ t i, (t, i) ∈ l → t.length ≤ 300) :
    Calls Tryz.prog 63 #[.string s, v] w fun e w' => e = .returned (.tuple #[.int .i64 (runM s.size l st0 0).1, .int .i64 (runM s.size l st0 0).2]) ∧ Below w.heap.size w w' := by
  have h' := h
  rcases h with ⟨rfl, rfl⟩ | ⟨g, cap, rfl, _⟩
  · exact looked_nil s w hs
  · exact looked_some s g cap l w h' hs hl hsz

/-- What the document answers of a text of at most 300 bytes: the error, the place. -/
def want (s : ByteArray) : Int × Int := runM s.size (tokAt 0 (rest s 0)) st0 0

set_option maxRecDepth 100000 in
set_option maxHeartbeats 1000000 in
theorem read_any (s : ByteArray) (w : World) (hs : s.size ≤ 300) :
    Calls Tryz.prog 37 #[.string s] w fun e w' => ∃ v, e = .returned (.tuple #[v, .int .i64 (want s).1, .int .i64 (want s).2]) ∧ ((want s).1 = 0 → Tk2 w' v (tokAt 0 (rest s 0))) ∧ Below w.heap.size w w' := by
  have hll : (tokAt 0 (rest s 0)).length ≤ 300 := by have := tokAt_len 0 (rest s 0); rw [rest_len] at this; omega
  have hmm : ∀ t i, (t, i) ∈ tokAt 0 (rest s 0) → t.length ≤ 300 := fun t i h => by
    have := toks_mem _ _ _ _ _ h; rw [rest_len] at this; omega
  have C1 : Hid (Calls Tryz.prog 62 #[.string s] w fun e w' => ∃ v, e = .returned v ∧ w'.ownsRow w.heap.size 206 2 v (tokAt 0 (rest s 0)).length (cells2 (tokAt 0 (rest s 0))) ∧ Below w.heap.size w w') := tokens_any s w hs
  have C2 : Hid (∀ (v : Value) (w : World), Tk2 w v (tokAt 0 (rest s 0)) → Calls Tryz.prog 63 #[.string s, v] w fun e w' => e = .returned (.tuple #[.int .i64 (want s).1, .int .i64 (want s).2]) ∧ Below w.heap.size w w') := fun v w h => looked_any s v _ w h hs hll hmm
  have H0 : Hid ((want s).1 = 0 → (want s).2 = 0) := runM_zero _ _ _ _
  clear hll hmm
  generalize want s = R at *
  generalize tokAt 0 (rest s 0) = T at *
  obtain ⟨R1, R2⟩ := R
  simp only at C2 H0 ⊢
  by_cases hR : R1 = 0
  · have HR : Hid (R2 = 0) := H0.out hR
    subst hR
    go_enter Tryz.func37, Tryz.ntmps37
    go_wp2_with (first | (go_at_call 62; refine C1.out.mono ?_; rintro e w1 ⟨v1, rfl, ho1, hb1⟩) | (go_at_call 63; refine (C2.out _ _ (own_tk2 ho1)).mono ?_; rintro e w2 ⟨rfl, hb2⟩))
    go_ret3
    exact ⟨v1, by rw [HR.out]; rfl, fun _ => (own_tk2 ho1).below hb2, hb1.trans (hb2.mono hb1.size)⟩
  · have hR' : (R1 != 0) = true := by simpa using hR
    go_enter Tryz.func37, Tryz.ntmps37
    go_wp2_with (first | (go_at_call 62; refine C1.out.mono ?_; rintro e w1 ⟨v1, rfl, ho1, hb1⟩) | (go_at_call 63; refine (C2.out _ _ (own_tk2 ho1)).mono ?_; rintro e w2 ⟨rfl, hb2⟩))
    go_ret3
    exact ⟨.slice none 0 0, rfl, fun h => absurd h hR, hb1.trans (hb2.mono hb1.size)⟩

set_option maxHeartbeats 400000 in
theorem read_long (s : ByteArray) (w : World) (hs : ¬ s.size ≤ 300) :
    Calls Tryz.prog 37 #[.string s] w fun e w' => e = .returned (.tuple #[.slice none 0 0, .int .i64 1, .int .i64 0]) ∧ w' = w := by
  have h : (300 : Int) < (s.size : Int) := by omega
  go_enter Tryz.func37, Tryz.ntmps37
  go_wp2_with fail
  go_ret3
  exact ⟨rfl, rfl⟩

end Go.Proofs.YtkinoehmcfhgbaaGreatDoor.Av
