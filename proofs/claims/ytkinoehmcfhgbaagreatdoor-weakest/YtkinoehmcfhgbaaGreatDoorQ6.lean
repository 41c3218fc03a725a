/-
  The walks of the parser's methods assignment, choice, loop, over what is known of commands within them; and program.
-/
import Derived.Test.YtkinoehmcfhgbaaGreatDoorQ5
set_option linter.unusedVariables false
set_option linter.unusedSimpArgs false
namespace Go.Proofs.YtkinoehmcfhgbaaGreatDoor.Av
open Go.RowKit

variable {toks : List (List UInt8 × Nat)} {len : Nat}

def ComsC (toks : List (List UInt8 × Nat)) (len b tb cap r : Nat) : Prop := ∀ (w : World) (σ : PSt), At w b tb cap (T3 toks len) σ → Ok toks.length σ → toks.length - σ.pos ≤ r → Calls Tryz.prog 110 #[.pointer (some ⟨b, 0, none⟩)] w (PPost b tb cap toks len σ w sliceV (fun σ' => ∀ st, fin toks len σ (cCommands :: st) = fin toks len σ' st) (CsR toks σ.pos (fun g => w.heap.size ≤ g)))
def ComC (toks : List (List UInt8 × Nat)) (len b tb cap r : Nat) : Prop := ∀ (w : World) (σ : PSt), At w b tb cap (T3 toks len) σ → Ok toks.length σ → toks.length - σ.pos ≤ r → Calls Tryz.prog 158 #[.pointer (some ⟨b, 0, none⟩)] w (PPost b tb cap toks len σ w (aggV 20) (fun σ' => ∀ st, fin toks len σ (cCommand :: st) = fin toks len σ' st) (CR toks σ.pos (fun g => w.heap.size ≤ g)))

/-- What stands in tokens and lies in memory: a formula; commands. -/
def FM (toks : List (List UInt8 × Nat)) (k k' : Nat) (P : Nat → Prop) (w : World) (L : List Value) : Prop := ∃ f, Rd toks .form k f k' ∧ IsF w P f L
def CM (toks : List (List UInt8 × Nat)) (k k' : Nat) (P : Nat → Prop) (w : World) (p : Option Addr) (n m : Nat) : Prop := ∃ c g ys, p = some ⟨g, 0, none⟩ ∧ Rc toks true k c k' ∧ Lst w P g n m ys ∧ IsC w P c ys
theorem FM.same {k k' : Nat} {P : Nat → Prop} {w w' : World} {L : List Value} (h : FM toks k k' P w L) (hs : Same P w w') : FM toks k k' P w' L := by obtain ⟨f, h1, h2⟩ := h; exact ⟨f, h1, h2.same hs⟩
theorem CM.same {k k' : Nat} {P : Nat → Prop} {w w' : World} {p : Option Addr} {n m : Nat} (h : CM toks k k' P w p n m) (hs : Same P w w') : CM toks k k' P w' p n m := by obtain ⟨c, g, ys, h1, h2, h3, h4⟩ := h; exact ⟨c, g, ys, h1, h2, h3.same hs, h4.same hs⟩
theorem FM.mono {k k' : Nat} {P P' : Nat → Prop} {w : World} {L : List Value} (h : FM toks k k' P w L) (hs : ∀ g, P g → g < w.heap.size → P' g) : FM toks k k' P' w L := by obtain ⟨f, h1, h2⟩ := h; exact ⟨f, h1, h2.mono hs⟩
theorem CM.mono {k k' : Nat} {P P' : Nat → Prop} {w : World} {p : Option Addr} {n m : Nat} (h : CM toks k k' P w p n m) (hs : ∀ g, P g → g < w.heap.size → P' g) : CM toks k k' P' w p n m := by obtain ⟨c, g, ys, h1, h2, h3, h4⟩ := h; exact ⟨c, g, ys, h1, h2, h3.mono hs, h4.mono hs⟩
theorem FM.of {k : Nat} {P P' : Nat → Prop} {w : World} {σ' : PSt} {k0 : Int} {p : Option Addr} {n c : Nat} {r a1 a2 a3 a4 : Int} (h : FR toks .form k P w (.agg #[.int .i64 k0, .slice p n c, .int .i64 r, .int .i64 a1, .int .i64 a2, .int .i64 a3, .int .i64 a4]) σ') (hs : ∀ g, P g → g < w.heap.size → P' g) : FM toks k σ'.pos P' w [.int .i64 k0, .slice p n c, .int .i64 r, .int .i64 a1, .int .i64 a2, .int .i64 a3, .int .i64 a4] := by
  obtain ⟨f, cs, e1, h1, h2⟩ := h
  have ecs := fv_inj e1
  subst ecs
  exact ⟨f, h1, h2.mono hs⟩
theorem CM.of {k : Nat} {P P' : Nat → Prop} {w : World} {σ' : PSt} {p : Option Addr} {n m : Nat} (h : CsR toks k P w (.slice p n m) σ') (hs : ∀ g, P g → g < w.heap.size → P' g) : CM toks k σ'.pos P' w p n m := by
  obtain ⟨c, g, n', m', ys, e1, h1, h2, h3⟩ := h
  cases e1
  exact ⟨c, g, ys, rfl, h1, h2.mono hs, h3.mono hs⟩
theorem range_kp {b B o : Nat} {w w' : World} {L : List Value} (h : w.rangeAt B o L) (k : Kp b w w') (h1 : b < B) (h2 : B < w.heap.size) : w'.rangeAt B o L := fun j v hv => (k.cell (p := ⟨B, o + j, none⟩) h2 (by show B ≠ b; omega)).trans (h j v hv)
theorem range_set {B o : Nat} {w : World} {L : List Value} (h : w.rangeAt B o L) (i : Nat) (u : Value) (hi : i < o ∨ o + L.length ≤ i) : (w.setCell ⟨B, i, none⟩ u).rangeAt B o L := fun j v hv => by
  have hj : j < L.length := by
    rcases Nat.lt_or_ge j L.length with h | h
    · exact h
    · rw [List.getElem?_eq_none h] at hv; cases hv
  rw [set_other _ _ _ _ _ (by omega)]; exact h j v hv
theorem range_put {B : Nat} {w : World} (o : Nat) (u : Value) (h : ∃ v, w.cell? ⟨B, o, none⟩ = some v) : (w.setCell ⟨B, o, none⟩ u).rangeAt B o [u] := fun j v hv => by
  match j, hv with
  | 0, hv => cases hv; exact set_same _ _ _ h
  | j + 1, hv => simp at hv
theorem range_put2 {B : Nat} {w : World} (o : Nat) (u1 u2 : Value) (h1 : ∃ v, w.cell? ⟨B, o, none⟩ = some v) (h2 : ∃ v, w.cell? ⟨B, o + 1, none⟩ = some v) : ((w.setCell ⟨B, o, none⟩ u1).setCell ⟨B, o + 1, none⟩ u2).rangeAt B o [u1, u2] := fun j v hv => by
  match j, hv with
  | 0, hv => cases hv; rw [set_other _ _ _ _ _ (by omega)]; exact set_same _ _ _ h1
  | 1, hv => cases hv; exact set_same _ _ _ (by rw [set_other _ _ _ _ _ (by omega)]; exact h2)
  | j + 2, hv => simp at hv
theorem range_first {B : Nat} {w : World} {x : Value} {r : List Value} (h : w.rangeAt B 0 (x :: r)) : w.rangeAt B 0 [x] := fun j v hv => by
  match j, hv with
  | 0, hv => exact h 0 v hv
  | j + 1, hv => simp at hv
theorem cs_get {B o : Nat} {w : World} {cs L : List Value} (h : w.rangeAt B 0 cs) (k : w.rangeAt B o L) (hl : o + L.length ≤ cs.length) (j : Nat) (hj : j < L.length) : cs[o + j]? = L[j]? := by
  have h1 := h (o + j) cs[o + j] (List.getElem?_eq_getElem (by omega))
  have h2 := k j L[j] (List.getElem?_eq_getElem hj)
  rw [Nat.zero_add] at h1
  rw [List.getElem?_eq_getElem (by omega), List.getElem?_eq_getElem hj, ← h1, ← h2]
theorem cs_take {B o : Nat} {w : World} {cs L : List Value} (h : w.rangeAt B 0 cs) (k : w.rangeAt B o L) (hl : o + L.length ≤ cs.length) : (cs.drop o).take L.length = L := by
  apply List.ext_getElem?
  intro j
  by_cases hj : j < L.length
  · rw [List.getElem?_take, if_pos hj, List.getElem?_drop]; exact cs_get h k hl j hj
  · rw [List.getElem?_take, if_neg hj, List.getElem?_eq_none (by omega)]
/-- What the reader of programs answers. -/
def PrR (toks : List (List UInt8 × Nat)) (k : Nat) (P : Nat → Prop) (w' : World) (v : Value) (σ' : PSt) : Prop := ∃ p c q y k1 k2 k3, v = .agg (List.toArray y) ∧ y.length = 15 ∧ Rd toks .form (k + 1) p k1 ∧ Rc toks true (k1 + 1) c k2 ∧ Rd toks .form (k2 + 1) q k3 ∧ k3 ≤ toks.length ∧
  IsF w' P p ((y.drop 0).take 7) ∧ (∃ g n m ys, y[7]? = some (.slice (some ⟨g, 0, none⟩) n m) ∧ Lst w' P g n m ys ∧ IsC w' P c ys) ∧ IsF w' P q ((y.drop 8).take 7)

set_option maxRecDepth 100000 in
set_option maxHeartbeats 2000000 in
theorem assignment_c (hk : AllTok toks) (hn : toks.length ≤ 300) (b tb cap r : Nat)  (w : World) (σ : PSt) (h : At w b tb cap (T3 toks len) σ) (ho : Ok toks.length σ) (k1 : kd (T3 toks len) σ.pos = 28) :
    Calls Tryz.prog 225 #[.pointer (some ⟨b, 0, none⟩)] w (PPost b tb cap toks len σ w (aggV 20) (fun σ' => ∀ st, fin toks len σ (cCommand :: st) = fin toks len σ' st) (CR toks σ.pos (fun g => w.heap.size ≤ g))) := by
  have H : Hid (At w b tb cap (T3 toks len) σ) := h
  have HO0 : Hid (Ok toks.length σ) := ho
  have hb := h.hb
  have htb := h.htb
  have hb1 : b < w.heap.size + 1 := by omega
  have htb1 : tb < w.heap.size + 1 := by omega
  have HS0 : Hid (∀ st, fin toks len σ (cCommand :: st) = fin toks len (σ.exp (T3 toks len) 28) ([58, 61] :: cTerm :: st)) := fun st => by
    rw [fin_assign hk ho k1]; unfold PSt.exp; rw [if_pos k1]
  clear k1
  have HA0 : Hid (At ((w.alloc (.cells #[.int .i64 0, .int .i64 0, .int .i64 0, .int .i64 0, .int .i64 0, .slice none 0 0, .int .i64 0, .int .i64 0, .int .i64 0, .int .i64 0, .int .i64 0, .int .i64 0, .slice none 0 0, .int .i64 0, .int .i64 0, .int .i64 0, .int .i64 0, .int .i64 0, .slice none 0 0, .slice none 0 0] 228)).alloc (.cells #[.int .i64 0, .int .i64 0, .int .i64 0, .int .i64 0, .int .i64 0, .slice none 0 0, .int .i64 0, .int .i64 0, .int .i64 0, .int .i64 0, .int .i64 0, .int .i64 0, .slice none 0 0, .int .i64 0, .int .i64 0, .int .i64 0, .int .i64 0, .int .i64 0, .slice none 0 0, .slice none 0 0] 228)) b tb cap (T3 toks len) σ) := (h.alloc _).alloc _
  have HK0 : Hid (Kp b w ((w.alloc (.cells #[.int .i64 0, .int .i64 0, .int .i64 0, .int .i64 0, .int .i64 0, .slice none 0 0, .int .i64 0, .int .i64 0, .int .i64 0, .int .i64 0, .int .i64 0, .int .i64 0, .slice none 0 0, .int .i64 0, .int .i64 0, .int .i64 0, .int .i64 0, .int .i64 0, .slice none 0 0, .slice none 0 0] 228)).alloc (.cells #[.int .i64 0, .int .i64 0, .int .i64 0, .int .i64 0, .int .i64 0, .slice none 0 0, .int .i64 0, .int .i64 0, .int .i64 0, .int .i64 0, .int .i64 0, .int .i64 0, .slice none 0 0, .int .i64 0, .int .i64 0, .int .i64 0, .int .i64 0, .int .i64 0, .slice none 0 0, .slice none 0 0] 228))) := ((Kp.refl b w).alloc _).alloc _
  have HR0 : Hid (Row ((w.alloc (.cells #[.int .i64 0, .int .i64 0, .int .i64 0, .int .i64 0, .int .i64 0, .slice none 0 0, .int .i64 0, .int .i64 0, .int .i64 0, .int .i64 0, .int .i64 0, .int .i64 0, .slice none 0 0, .int .i64 0, .int .i64 0, .int .i64 0, .int .i64 0, .int .i64 0, .slice none 0 0, .slice none 0 0] 228)).alloc (.cells #[.int .i64 0, .int .i64 0, .int .i64 0, .int .i64 0, .int .i64 0, .slice none 0 0, .int .i64 0, .int .i64 0, .int .i64 0, .int .i64 0, .int .i64 0, .int .i64 0, .slice none 0 0, .int .i64 0, .int .i64 0, .int .i64 0, .int .i64 0, .int .i64 0, .slice none 0 0, .slice none 0 0] 228)) w.heap.size 20) := (Row.new w #[.int .i64 0, .int .i64 0, .int .i64 0, .int .i64 0, .int .i64 0, .slice none 0 0, .int .i64 0, .int .i64 0, .int .i64 0, .int .i64 0, .int .i64 0, .int .i64 0, .slice none 0 0, .int .i64 0, .int .i64 0, .int .i64 0, .int .i64 0, .int .i64 0, .slice none 0 0, .slice none 0 0] 228 (List.all_eq_true.1 (by rfl))).alloc (by rw [asize]; omega) _
  have HI0 : Hid (Row ((w.alloc (.cells #[.int .i64 0, .int .i64 0, .int .i64 0, .int .i64 0, .int .i64 0, .slice none 0 0, .int .i64 0, .int .i64 0, .int .i64 0, .int .i64 0, .int .i64 0, .int .i64 0, .slice none 0 0, .int .i64 0, .int .i64 0, .int .i64 0, .int .i64 0, .int .i64 0, .slice none 0 0, .slice none 0 0] 228)).alloc (.cells #[.int .i64 0, .int .i64 0, .int .i64 0, .int .i64 0, .int .i64 0, .slice none 0 0, .int .i64 0, .int .i64 0, .int .i64 0, .int .i64 0, .int .i64 0, .int .i64 0, .slice none 0 0, .int .i64 0, .int .i64 0, .int .i64 0, .int .i64 0, .int .i64 0, .slice none 0 0, .slice none 0 0] 228)) (w.heap.size + 1) 20) := by
    have := Row.new (w.alloc (.cells #[.int .i64 0, .int .i64 0, .int .i64 0, .int .i64 0, .int .i64 0, .slice none 0 0, .int .i64 0, .int .i64 0, .int .i64 0, .int .i64 0, .int .i64 0, .int .i64 0, .slice none 0 0, .int .i64 0, .int .i64 0, .int .i64 0, .int .i64 0, .int .i64 0, .slice none 0 0, .slice none 0 0] 228)) #[.int .i64 0, .int .i64 0, .int .i64 0, .int .i64 0, .int .i64 0, .slice none 0 0, .int .i64 0, .int .i64 0, .int .i64 0, .int .i64 0, .int .i64 0, .int .i64 0, .slice none 0 0, .int .i64 0, .int .i64 0, .int .i64 0, .int .i64 0, .int .i64 0, .slice none 0 0, .slice none 0 0] 228 (List.all_eq_true.1 (by rfl))
    rw [asize] at this; exact this
  have hzA : w.heap.size + 1 < ((w.alloc (.cells #[.int .i64 0, .int .i64 0, .int .i64 0, .int .i64 0, .int .i64 0, .slice none 0 0, .int .i64 0, .int .i64 0, .int .i64 0, .int .i64 0, .int .i64 0, .int .i64 0, .slice none 0 0, .int .i64 0, .int .i64 0, .int .i64 0, .int .i64 0, .int .i64 0, .slice none 0 0, .slice none 0 0] 228)).alloc (.cells #[.int .i64 0, .int .i64 0, .int .i64 0, .int .i64 0, .int .i64 0, .slice none 0 0, .int .i64 0, .int .i64 0, .int .i64 0, .int .i64 0, .int .i64 0, .int .i64 0, .slice none 0 0, .int .i64 0, .int .i64 0, .int .i64 0, .int .i64 0, .int .i64 0, .slice none 0 0, .slice none 0 0] 228)).heap.size := by rw [asize, asize]; omega
  have hall0 : (([.int .i64 1, .int .i64 0, .int .i64 0, .int .i64 0, .int .i64 0, .slice none 0 0, .int .i64 0, .int .i64 0, .int .i64 0, .int .i64 0, .int .i64 0, .int .i64 0, .slice none 0 0, .int .i64 0, .int .i64 0, .int .i64 0, .int .i64 0, .int .i64 0, .slice none 0 0, .slice none 0 0] : List Value).all (·.oneCell')) = true := rfl
  have hal1 : (#[.int .i64 1, .int .i64 0, .int .i64 0, .int .i64 0, .int .i64 0, .slice none 0 0, .int .i64 0, .int .i64 0, .int .i64 0, .int .i64 0, .int .i64 0, .int .i64 0, .slice none 0 0, .int .i64 0, .int .i64 0, .int .i64 0, .int .i64 0, .int .i64 0, .slice none 0 0, .slice none 0 0] : Array Value).all (·.oneCell') = true := all_oneCell_toArray (List.all_eq_true.1 hall0)
  have htt := HI0.out.there 0 20 (by omega)
  have HAI : Hid (At (((w.alloc (.cells #[.int .i64 0, .int .i64 0, .int .i64 0, .int .i64 0, .int .i64 0, .slice none 0 0, .int .i64 0, .int .i64 0, .int .i64 0, .int .i64 0, .int .i64 0, .int .i64 0, .slice none 0 0, .int .i64 0, .int .i64 0, .int .i64 0, .int .i64 0, .int .i64 0, .slice none 0 0, .slice none 0 0] 228)).alloc (.cells #[.int .i64 0, .int .i64 0, .int .i64 0, .int .i64 0, .int .i64 0, .slice none 0 0, .int .i64 0, .int .i64 0, .int .i64 0, .int .i64 0, .int .i64 0, .int .i64 0, .slice none 0 0, .int .i64 0, .int .i64 0, .int .i64 0, .int .i64 0, .int .i64 0, .slice none 0 0, .slice none 0 0] 228)).setCells (w.heap.size + 1) 0 [.int .i64 1, .int .i64 0, .int .i64 0, .int .i64 0, .int .i64 0, .slice none 0 0, .int .i64 0, .int .i64 0, .int .i64 0, .int .i64 0, .int .i64 0, .int .i64 0, .slice none 0 0, .int .i64 0, .int .i64 0, .int .i64 0, .int .i64 0, .int .i64 0, .slice none 0 0, .slice none 0 0]) b tb cap (T3 toks len) σ) := At.cells hb1 htb1 _ _ _ HA0.out
  have HKI : Hid (Kp b w (((w.alloc (.cells #[.int .i64 0, .int .i64 0, .int .i64 0, .int .i64 0, .int .i64 0, .slice none 0 0, .int .i64 0, .int .i64 0, .int .i64 0, .int .i64 0, .int .i64 0, .int .i64 0, .slice none 0 0, .int .i64 0, .int .i64 0, .int .i64 0, .int .i64 0, .int .i64 0, .slice none 0 0, .slice none 0 0] 228)).alloc (.cells #[.int .i64 0, .int .i64 0, .int .i64 0, .int .i64 0, .int .i64 0, .slice none 0 0, .int .i64 0, .int .i64 0, .int .i64 0, .int .i64 0, .int .i64 0, .int .i64 0, .slice none 0 0, .int .i64 0, .int .i64 0, .int .i64 0, .int .i64 0, .int .i64 0, .slice none 0 0, .slice none 0 0] 228)).setCells (w.heap.size + 1) 0 [.int .i64 1, .int .i64 0, .int .i64 0, .int .i64 0, .int .i64 0, .slice none 0 0, .int .i64 0, .int .i64 0, .int .i64 0, .int .i64 0, .int .i64 0, .int .i64 0, .slice none 0 0, .int .i64 0, .int .i64 0, .int .i64 0, .int .i64 0, .int .i64 0, .slice none 0 0, .slice none 0 0])) := Kp.cells (by omega) _ _ _ HK0.out
  have HRI : Hid (Row (((w.alloc (.cells #[.int .i64 0, .int .i64 0, .int .i64 0, .int .i64 0, .int .i64 0, .slice none 0 0, .int .i64 0, .int .i64 0, .int .i64 0, .int .i64 0, .int .i64 0, .int .i64 0, .slice none 0 0, .int .i64 0, .int .i64 0, .int .i64 0, .int .i64 0, .int .i64 0, .slice none 0 0, .slice none 0 0] 228)).alloc (.cells #[.int .i64 0, .int .i64 0, .int .i64 0, .int .i64 0, .int .i64 0, .slice none 0 0, .int .i64 0, .int .i64 0, .int .i64 0, .int .i64 0, .int .i64 0, .int .i64 0, .slice none 0 0, .int .i64 0, .int .i64 0, .int .i64 0, .int .i64 0, .int .i64 0, .slice none 0 0, .slice none 0 0] 228)).setCells (w.heap.size + 1) 0 [.int .i64 1, .int .i64 0, .int .i64 0, .int .i64 0, .int .i64 0, .slice none 0 0, .int .i64 0, .int .i64 0, .int .i64 0, .int .i64 0, .int .i64 0, .int .i64 0, .slice none 0 0, .int .i64 0, .int .i64 0, .int .i64 0, .int .i64 0, .int .i64 0, .slice none 0 0, .slice none 0 0]) w.heap.size 20) := Row.far (by omega) _ _ _ HR0.out
  have HII : Hid (Row (((w.alloc (.cells #[.int .i64 0, .int .i64 0, .int .i64 0, .int .i64 0, .int .i64 0, .slice none 0 0, .int .i64 0, .int .i64 0, .int .i64 0, .int .i64 0, .int .i64 0, .int .i64 0, .slice none 0 0, .int .i64 0, .int .i64 0, .int .i64 0, .int .i64 0, .int .i64 0, .slice none 0 0, .slice none 0 0] 228)).alloc (.cells #[.int .i64 0, .int .i64 0, .int .i64 0, .int .i64 0, .int .i64 0, .slice none 0 0, .int .i64 0, .int .i64 0, .int .i64 0, .int .i64 0, .int .i64 0, .int .i64 0, .slice none 0 0, .int .i64 0, .int .i64 0, .int .i64 0, .int .i64 0, .int .i64 0, .slice none 0 0, .slice none 0 0] 228)).setCells (w.heap.size + 1) 0 [.int .i64 1, .int .i64 0, .int .i64 0, .int .i64 0, .int .i64 0, .slice none 0 0, .int .i64 0, .int .i64 0, .int .i64 0, .int .i64 0, .int .i64 0, .int .i64 0, .slice none 0 0, .int .i64 0, .int .i64 0, .int .i64 0, .int .i64 0, .int .i64 0, .slice none 0 0, .slice none 0 0]) (w.heap.size + 1) 20) := Row.cells _ _ _ HI0.out (by simp) (List.all_eq_true.1 hall0)
  have hzI : w.heap.size + 1 < (((w.alloc (.cells #[.int .i64 0, .int .i64 0, .int .i64 0, .int .i64 0, .int .i64 0, .slice none 0 0, .int .i64 0, .int .i64 0, .int .i64 0, .int .i64 0, .int .i64 0, .int .i64 0, .slice none 0 0, .int .i64 0, .int .i64 0, .int .i64 0, .int .i64 0, .int .i64 0, .slice none 0 0, .slice none 0 0] 228)).alloc (.cells #[.int .i64 0, .int .i64 0, .int .i64 0, .int .i64 0, .int .i64 0, .slice none 0 0, .int .i64 0, .int .i64 0, .int .i64 0, .int .i64 0, .int .i64 0, .int .i64 0, .slice none 0 0, .int .i64 0, .int .i64 0, .int .i64 0, .int .i64 0, .int .i64 0, .slice none 0 0, .slice none 0 0] 228)).setCells (w.heap.size + 1) 0 [.int .i64 1, .int .i64 0, .int .i64 0, .int .i64 0, .int .i64 0, .slice none 0 0, .int .i64 0, .int .i64 0, .int .i64 0, .int .i64 0, .int .i64 0, .int .i64 0, .slice none 0 0, .int .i64 0, .int .i64 0, .int .i64 0, .int .i64 0, .int .i64 0, .slice none 0 0, .slice none 0 0]).heap.size := by rw [size_cells]; exact hzA
  have HP0 : Hid (World.rangeAt (((w.alloc (.cells #[.int .i64 0, .int .i64 0, .int .i64 0, .int .i64 0, .int .i64 0, .slice none 0 0, .int .i64 0, .int .i64 0, .int .i64 0, .int .i64 0, .int .i64 0, .int .i64 0, .slice none 0 0, .int .i64 0, .int .i64 0, .int .i64 0, .int .i64 0, .int .i64 0, .slice none 0 0, .slice none 0 0] 228)).alloc (.cells #[.int .i64 0, .int .i64 0, .int .i64 0, .int .i64 0, .int .i64 0, .slice none 0 0, .int .i64 0, .int .i64 0, .int .i64 0, .int .i64 0, .int .i64 0, .int .i64 0, .slice none 0 0, .int .i64 0, .int .i64 0, .int .i64 0, .int .i64 0, .int .i64 0, .slice none 0 0, .slice none 0 0] 228)).setCells (w.heap.size + 1) 0 [.int .i64 1, .int .i64 0, .int .i64 0, .int .i64 0, .int .i64 0, .slice none 0 0, .int .i64 0, .int .i64 0, .int .i64 0, .int .i64 0, .int .i64 0, .int .i64 0, .slice none 0 0, .int .i64 0, .int .i64 0, .int .i64 0, .int .i64 0, .int .i64 0, .slice none 0 0, .slice none 0 0]) (w.heap.size + 1) 0 [.int .i64 1]) := range_first (World.rangeAt_setCells_same _ _ _ _ htt)
  have HAL : Hid _ := hal1
  have HTT : Hid _ := htt
  clear h ho hall0 hal1 htt
  go_enter Tryz.func225, Tryz.ntmps225
  go_wp2_with (refine wpList_store_mid rfl 228 (.tmp 3) (.tmp 4) rfl (w.heap.size + 1) 0 #[.int .i64 1, .int .i64 0, .int .i64 0, .int .i64 0, .int .i64 0, .slice none 0 0, .int .i64 0, .int .i64 0, .int .i64 0, .int .i64 0, .int .i64 0, .int .i64 0, .slice none 0 0, .int .i64 0, .int .i64 0, .int .i64 0, .int .i64 0, .int .i64 0, .slice none 0 0, .slice none 0 0] rfl rfl ?_ ?_ ?_ ?_; (exact HTT.out); (exact Tryz.infoCmd); (exact HAL.out))
  refine (expect_v hn b tb cap 28 _ _ HAI.out HO0.out).mono ?_
  rintro e w1 ⟨x1, hx1, rfl, hA, hK⟩
  have HX1 : Hid _ := hx1
  clear hx1
  have HA1 : Hid (At w1 b tb cap (T3 toks len) (σ.exp (T3 toks len) 28)) := hA
  have HK1 : Hid (Kp b w w1) := HKI.out.trans hK
  have HR1 : Hid (Row w1 w.heap.size 20) := HRI.out.kp hK hb (by have := hzI; omega)
  have HI1 : Hid (Row w1 (w.heap.size + 1) 20) := HII.out.kp hK hb1 hzI
  have hz1 : w.heap.size + 1 < w1.heap.size := by have h1 := hK.size; have h2 := hzI; omega
  have HP0v1 : Hid (World.rangeAt w1 (w.heap.size + 1) 0 [.int .i64 1]) := range_kp HP0.out hK hb1 hzI
  clear hA hK
  have HG1 : Hid (Goes toks.length σ (σ.exp (T3 toks len) 28)) := goes_exp hk HO0.out 28
  obtain ⟨⟨u1_1, hu1_1⟩, hv1_1⟩ := HI1.out.cell 1 (by omega)
  have HA1s : Hid (At (w1.setCell ⟨w.heap.size + 1, 1, none⟩ (.int .i64 x1)) b tb cap (T3 toks len) (σ.exp (T3 toks len) 28)) := (HA1.out.other _ _ _ hb1 htb1)
  have HK1s : Hid (Kp b w (w1.setCell ⟨w.heap.size + 1, 1, none⟩ (.int .i64 x1))) := (HK1.out.fresh _ _ _ (by omega))
  have HR1s : Hid (Row (w1.setCell ⟨w.heap.size + 1, 1, none⟩ (.int .i64 x1)) w.heap.size 20) := (HR1.out.other _ _ _ (by omega))
  have HI1s : Hid (Row (w1.setCell ⟨w.heap.size + 1, 1, none⟩ (.int .i64 x1)) (w.heap.size + 1) 20) := (HI1.out.set _ _ (by omega) rfl)
  have hz1s : w.heap.size + 1 < (w1.setCell ⟨w.heap.size + 1, 1, none⟩ (.int .i64 x1)).heap.size := by rw [ssize]; exact hz1
  have HP0v1s : Hid (World.rangeAt (w1.setCell ⟨w.heap.size + 1, 1, none⟩ (.int .i64 x1)) (w.heap.size + 1) 0 [.int .i64 1]) := (range_set HP0v1.out 1 _ (by simp))
  have HP1 : Hid (World.rangeAt (w1.setCell ⟨w.heap.size + 1, 1, none⟩ (.int .i64 x1)) (w.heap.size + 1) 1 [.int .i64 x1]) := range_put 1 _ ⟨_, hu1_1⟩
  go_wp2_with fail
  refine (expect_v hn b tb cap 5 _ _ HA1s.out HG1.out.1).mono ?_
  rintro e w2 ⟨x2, hx2, rfl, hA, hK⟩
  have HX2 : Hid _ := hx2
  clear hx2
  have HA2 : Hid (At w2 b tb cap (T3 toks len) ((σ.exp (T3 toks len) 28).exp (T3 toks len) 5)) := hA
  have HK2 : Hid (Kp b w w2) := HK1s.out.trans hK
  have HR2 : Hid (Row w2 w.heap.size 20) := HR1s.out.kp hK hb (by have := hz1s; omega)
  have HI2 : Hid (Row w2 (w.heap.size + 1) 20) := HI1s.out.kp hK hb1 hz1s
  have hz2 : w.heap.size + 1 < w2.heap.size := by have h1 := hK.size; have h2 := hz1s; omega
  have HP0v2 : Hid (World.rangeAt w2 (w.heap.size + 1) 0 [.int .i64 1]) := range_kp HP0v1s.out hK hb1 hz1s
  have HP1v2 : Hid (World.rangeAt w2 (w.heap.size + 1) 1 [.int .i64 x1]) := range_kp HP1.out hK hb1 hz1s
  clear hA hK
  have HG2 : Hid (Goes toks.length (σ.exp (T3 toks len) 28) ((σ.exp (T3 toks len) 28).exp (T3 toks len) 5)) := goes_exp hk HG1.out.1 5
  go_wp2_with fail
  refine (term_c hk hn b tb cap _ _ HA2.out HG2.out.1).mono ?_
  rintro e w3 ⟨v3, σ3, rfl, ⟨y3, x3, rfl⟩, hA, hG, hK, hS, hR⟩
  have HA3 : Hid (At w3 b tb cap (T3 toks len) σ3) := hA
  have HK3 : Hid (Kp b w w3) := HK2.out.trans hK
  have HR3 : Hid (Row w3 w.heap.size 20) := HR2.out.kp hK hb (by have := hz2; omega)
  have HI3 : Hid (Row w3 (w.heap.size + 1) 20) := HI2.out.kp hK hb1 hz2
  have hz3 : w.heap.size + 1 < w3.heap.size := by have h1 := hK.size; have h2 := hz2; omega
  have HP0v3 : Hid (World.rangeAt w3 (w.heap.size + 1) 0 [.int .i64 1]) := range_kp HP0v2.out hK hb1 hz2
  have HP1v3 : Hid (World.rangeAt w3 (w.heap.size + 1) 1 [.int .i64 x1]) := range_kp HP1v2.out hK hb1 hz2
  have HT3 : Hid _ := hR
  clear hR
  have HG3 : Hid (Goes toks.length ((σ.exp (T3 toks len) 28).exp (T3 toks len) 5) σ3) := hG
  have HS3 : Hid (∀ st, fin toks len ((σ.exp (T3 toks len) 28).exp (T3 toks len) 5) (cTerm :: st) = fin toks len σ3 st) := hS
  clear hA hK hG hS
  obtain ⟨⟨u3_2, hu3_2⟩, hv3_2⟩ := HI3.out.cell 2 (by omega)
  obtain ⟨⟨u3_3, hu3_3⟩, hv3_3⟩ := HI3.out.cell 3 (by omega)
  have HA3s : Hid (At ((w3.setCell ⟨w.heap.size + 1, 2, none⟩ (.int .i64 y3)).setCell ⟨w.heap.size + 1, 3, none⟩ (.int .i64 x3)) b tb cap (T3 toks len) σ3) := ((HA3.out.other _ _ _ hb1 htb1).other _ _ _ hb1 htb1)
  have HK3s : Hid (Kp b w ((w3.setCell ⟨w.heap.size + 1, 2, none⟩ (.int .i64 y3)).setCell ⟨w.heap.size + 1, 3, none⟩ (.int .i64 x3))) := ((HK3.out.fresh _ _ _ (by omega)).fresh _ _ _ (by omega))
  have HR3s : Hid (Row ((w3.setCell ⟨w.heap.size + 1, 2, none⟩ (.int .i64 y3)).setCell ⟨w.heap.size + 1, 3, none⟩ (.int .i64 x3)) w.heap.size 20) := ((HR3.out.other _ _ _ (by omega)).other _ _ _ (by omega))
  have HI3s : Hid (Row ((w3.setCell ⟨w.heap.size + 1, 2, none⟩ (.int .i64 y3)).setCell ⟨w.heap.size + 1, 3, none⟩ (.int .i64 x3)) (w.heap.size + 1) 20) := ((HI3.out.set _ _ (by omega) rfl).set _ _ (by omega) rfl)
  have hz3s : w.heap.size + 1 < ((w3.setCell ⟨w.heap.size + 1, 2, none⟩ (.int .i64 y3)).setCell ⟨w.heap.size + 1, 3, none⟩ (.int .i64 x3)).heap.size := by rw [ssize, ssize]; exact hz3
  have HP0v3s : Hid (World.rangeAt ((w3.setCell ⟨w.heap.size + 1, 2, none⟩ (.int .i64 y3)).setCell ⟨w.heap.size + 1, 3, none⟩ (.int .i64 x3)) (w.heap.size + 1) 0 [.int .i64 1]) := (range_set (range_set HP0v3.out 2 _ (by simp)) 3 _ (by simp))
  have HP1v3s : Hid (World.rangeAt ((w3.setCell ⟨w.heap.size + 1, 2, none⟩ (.int .i64 y3)).setCell ⟨w.heap.size + 1, 3, none⟩ (.int .i64 x3)) (w.heap.size + 1) 1 [.int .i64 x1]) := (range_set (range_set HP1v3.out 2 _ (by simp)) 3 _ (by simp))
  have HP3 : Hid (World.rangeAt ((w3.setCell ⟨w.heap.size + 1, 2, none⟩ (.int .i64 y3)).setCell ⟨w.heap.size + 1, 3, none⟩ (.int .i64 x3)) (w.heap.size + 1) 2 [.int .i64 y3, .int .i64 x3]) := range_put2 2 _ _ ⟨_, hu3_2⟩ ⟨_, hu3_3⟩
  obtain ⟨cs, hcs1, hcs2, hcs3, _⟩ := HI3s.out
  have hall : cs.toArray.all (·.oneCell') = true := all_oneCell_toArray hcs3
  have hth := HR3s.out.there 0 20 (by omega)
  have hi1 : (Tryz.prog.info? 228).map (·.size) = some cs.length := by rw [hcs2]; exact Tryz.infoCmd
  have hi2 : (Tryz.prog.info? 228).map (·.size) = some cs.toArray.size := by simpa using hi1
  have hth2 := HR3s.out.there 0 cs.toArray.size (by simp; omega)
  have HH : Hid (cs.length = 20) := hcs2
  clear hth hcs2
  go_wp2_with (first | (refine wpList_load_mid rfl 228 (.tmp 3) rfl (w.heap.size + 1) 0 rfl cs _ ?_ Tryz.underlying228 rfl hi1 ?_; (exact hcs1)) | (refine wpList_store_mid rfl 228 (.tmp 2) (.tmp 13) rfl w.heap.size 0 cs.toArray rfl rfl ?_ hi2 hall ?_; (exact hth2)))
  refine postN cs Tryz.results225 rfl Tryz.underlying228 rfl Tryz.infoCmd HR3s.out HH.out ⟨_, σ3, rfl, ⟨cs.toArray, rfl, by simpa using HH.out, hall⟩, At.cells hb htb _ _ _ HA3s.out, ?_, Kp.cells (Nat.le_refl _) _ _ _ HK3s.out, ?_, ?_⟩
  · exact HG1.out.trans (HG2.out.trans HG3.out)
  · intro st
    rw [HS0.out st, fin_exp hk HG1.out.1 (c := [58, 61]) (k := 5) (by decide) (by decide) (by decide), HS3.out]
  · intro he
    have q2 := exp_ok (len := len) hk (HG3.out.2.2 he).1
    have q1 := exp_ok (len := len) hk q2.2.1
    obtain ⟨t1, t2⟩ := HT3.out he
    have ex := HX1.out q1.1
    have hv := (var_at (len := len) hk HO0.out.1)
    rw [hv.1 q1.1] at ex
    have ep : ((σ.exp (T3 toks len) 28).exp (T3 toks len) 5).pos = σ.pos + 2 := by rw [q2.2.2 (by decide), q1.2.2 (by decide)]
    rw [ep] at t1 t2
    have ey : y3 = (trm toks (σ.pos + 2)).1 ∧ x3 = (trm toks (σ.pos + 2)).2.1 := by cases t1; exact ⟨rfl, rfl⟩
    refine ⟨.asg (vr (sAt toks σ.pos)) ((trm toks (σ.pos + 2)).1, (trm toks (σ.pos + 2)).2.1), cs, rfl, by rw [t2]; exact .asg (hv.2.1 q1.1), cs, rfl, HH.out, ?_, ?_, ?_, ?_⟩
    · exact cs_get hcs1 HP0v3s.out (by rw [HH.out]; simp) 0 (by simp)
    · rw [← ex]; exact cs_get hcs1 HP1v3s.out (by rw [HH.out]; simp) 0 (by simp)
    · show cs[2]? = _
      rw [← ey.1]; exact cs_get hcs1 HP3.out (by rw [HH.out]; simp) 0 (by simp)
    · show cs[3]? = _
      rw [← ey.2]; exact cs_get hcs1 HP3.out (by rw [HH.out]; simp) 1 (by simp)

set_option maxRecDepth 100000 in
set_option maxHeartbeats 2000000 in
theorem choice_c (hk : AllTok toks) (hn : toks.length ≤ 300) (b tb cap r : Nat) (IH : ComsC toks len b tb cap (r - 1)) (w : World) (σ : PSt) (h : At w b tb cap (T3 toks len) σ) (ho : Ok toks.length σ) (hr : toks.length - σ.pos ≤ r) (k1 : kd (T3 toks len) σ.pos = 17) :
    Calls Tryz.prog 226 #[.pointer (some ⟨b, 0, none⟩)] w (PPost b tb cap toks len σ w (aggV 20) (fun σ' => ∀ st, fin toks len σ (cCommand :: st) = fin toks len σ' st) (CR toks σ.pos (fun g => w.heap.size ≤ g))) := by
  have H : Hid (At w b tb cap (T3 toks len) σ) := h
  have HO0 : Hid (Ok toks.length σ) := ho
  have hb := h.hb
  have htb := h.htb
  have hb1 : b < w.heap.size + 1 := by omega
  have htb1 : tb < w.heap.size + 1 := by omega
  have hkd : kd (T3 toks len) σ.pos ≠ 0 := by omega
  have g1 := goes_ent (len := len) hk ho hkd
  have HKD : Hid (kd (T3 toks len) σ.pos ≠ 0) := hkd
  have HE : Hid (Ok toks.length (σ.ent (T3 toks len)) ∧ σ.pos < (σ.ent (T3 toks len)).pos ∧ ((σ.ent (T3 toks len)).e = 0 → (σ.ent (T3 toks len)).d = σ.d + 1)) := g1
  have HEE : Hid (σ.e = 0) := (kd_lt (len := len) hk ho hkd).2
  have HLT : Hid (σ.pos < toks.length) := (kd_lt (len := len) hk ho hkd).1
  have HRR : Hid (toks.length - σ.pos ≤ r) := hr
  have HC : Hid (ComsC toks len b tb cap (r - 1)) := IH
  have HS0 : Hid (∀ st, fin toks len σ (cCommand :: st) = fin toks len (σ.ent (T3 toks len)) (cFormula :: [116, 104, 101, 110] :: cCommands :: [101, 108, 115, 101] :: cCommands :: [101, 110, 100] :: st)) := fun st => fin_if hk ho k1 st
  have HSI : Hid (sAt toks σ.pos = [105, 102]) := (lit_at (len := len) hk ho.1 (c := [105, 102]) (n := 17) (by decide)).1 k1
  clear hkd g1 k1 hr IH
  have HA0 : Hid (At ((w.alloc (.cells #[.int .i64 0, .int .i64 0, .int .i64 0, .int .i64 0, .int .i64 0, .slice none 0 0, .int .i64 0, .int .i64 0, .int .i64 0, .int .i64 0, .int .i64 0, .int .i64 0, .slice none 0 0, .int .i64 0, .int .i64 0, .int .i64 0, .int .i64 0, .int .i64 0, .slice none 0 0, .slice none 0 0] 228)).alloc (.cells #[.int .i64 0, .int .i64 0, .int .i64 0, .int .i64 0, .int .i64 0, .slice none 0 0, .int .i64 0, .int .i64 0, .int .i64 0, .int .i64 0, .int .i64 0, .int .i64 0, .slice none 0 0, .int .i64 0, .int .i64 0, .int .i64 0, .int .i64 0, .int .i64 0, .slice none 0 0, .slice none 0 0] 228)) b tb cap (T3 toks len) σ) := (h.alloc _).alloc _
  have HK0 : Hid (Kp b w ((w.alloc (.cells #[.int .i64 0, .int .i64 0, .int .i64 0, .int .i64 0, .int .i64 0, .slice none 0 0, .int .i64 0, .int .i64 0, .int .i64 0, .int .i64 0, .int .i64 0, .int .i64 0, .slice none 0 0, .int .i64 0, .int .i64 0, .int .i64 0, .int .i64 0, .int .i64 0, .slice none 0 0, .slice none 0 0] 228)).alloc (.cells #[.int .i64 0, .int .i64 0, .int .i64 0, .int .i64 0, .int .i64 0, .slice none 0 0, .int .i64 0, .int .i64 0, .int .i64 0, .int .i64 0, .int .i64 0, .int .i64 0, .slice none 0 0, .int .i64 0, .int .i64 0, .int .i64 0, .int .i64 0, .int .i64 0, .slice none 0 0, .slice none 0 0] 228))) := ((Kp.refl b w).alloc _).alloc _
  have HR0 : Hid (Row ((w.alloc (.cells #[.int .i64 0, .int .i64 0, .int .i64 0, .int .i64 0, .int .i64 0, .slice none 0 0, .int .i64 0, .int .i64 0, .int .i64 0, .int .i64 0, .int .i64 0, .int .i64 0, .slice none 0 0, .int .i64 0, .int .i64 0, .int .i64 0, .int .i64 0, .int .i64 0, .slice none 0 0, .slice none 0 0] 228)).alloc (.cells #[.int .i64 0, .int .i64 0, .int .i64 0, .int .i64 0, .int .i64 0, .slice none 0 0, .int .i64 0, .int .i64 0, .int .i64 0, .int .i64 0, .int .i64 0, .int .i64 0, .slice none 0 0, .int .i64 0, .int .i64 0, .int .i64 0, .int .i64 0, .int .i64 0, .slice none 0 0, .slice none 0 0] 228)) w.heap.size 20) := (Row.new w #[.int .i64 0, .int .i64 0, .int .i64 0, .int .i64 0, .int .i64 0, .slice none 0 0, .int .i64 0, .int .i64 0, .int .i64 0, .int .i64 0, .int .i64 0, .int .i64 0, .slice none 0 0, .int .i64 0, .int .i64 0, .int .i64 0, .int .i64 0, .int .i64 0, .slice none 0 0, .slice none 0 0] 228 (List.all_eq_true.1 (by rfl))).alloc (by rw [asize]; omega) _
  have HI0 : Hid (Row ((w.alloc (.cells #[.int .i64 0, .int .i64 0, .int .i64 0, .int .i64 0, .int .i64 0, .slice none 0 0, .int .i64 0, .int .i64 0, .int .i64 0, .int .i64 0, .int .i64 0, .int .i64 0, .slice none 0 0, .int .i64 0, .int .i64 0, .int .i64 0, .int .i64 0, .int .i64 0, .slice none 0 0, .slice none 0 0] 228)).alloc (.cells #[.int .i64 0, .int .i64 0, .int .i64 0, .int .i64 0, .int .i64 0, .slice none 0 0, .int .i64 0, .int .i64 0, .int .i64 0, .int .i64 0, .int .i64 0, .int .i64 0, .slice none 0 0, .int .i64 0, .int .i64 0, .int .i64 0, .int .i64 0, .int .i64 0, .slice none 0 0, .slice none 0 0] 228)) (w.heap.size + 1) 20) := by
    have := Row.new (w.alloc (.cells #[.int .i64 0, .int .i64 0, .int .i64 0, .int .i64 0, .int .i64 0, .slice none 0 0, .int .i64 0, .int .i64 0, .int .i64 0, .int .i64 0, .int .i64 0, .int .i64 0, .slice none 0 0, .int .i64 0, .int .i64 0, .int .i64 0, .int .i64 0, .int .i64 0, .slice none 0 0, .slice none 0 0] 228)) #[.int .i64 0, .int .i64 0, .int .i64 0, .int .i64 0, .int .i64 0, .slice none 0 0, .int .i64 0, .int .i64 0, .int .i64 0, .int .i64 0, .int .i64 0, .int .i64 0, .slice none 0 0, .int .i64 0, .int .i64 0, .int .i64 0, .int .i64 0, .int .i64 0, .slice none 0 0, .slice none 0 0] 228 (List.all_eq_true.1 (by rfl))
    rw [asize] at this; exact this
  have hzA : w.heap.size + 1 < ((w.alloc (.cells #[.int .i64 0, .int .i64 0, .int .i64 0, .int .i64 0, .int .i64 0, .slice none 0 0, .int .i64 0, .int .i64 0, .int .i64 0, .int .i64 0, .int .i64 0, .int .i64 0, .slice none 0 0, .int .i64 0, .int .i64 0, .int .i64 0, .int .i64 0, .int .i64 0, .slice none 0 0, .slice none 0 0] 228)).alloc (.cells #[.int .i64 0, .int .i64 0, .int .i64 0, .int .i64 0, .int .i64 0, .slice none 0 0, .int .i64 0, .int .i64 0, .int .i64 0, .int .i64 0, .int .i64 0, .int .i64 0, .slice none 0 0, .int .i64 0, .int .i64 0, .int .i64 0, .int .i64 0, .int .i64 0, .slice none 0 0, .slice none 0 0] 228)).heap.size := by rw [asize, asize]; omega
  have hall0 : (([.int .i64 2, .int .i64 0, .int .i64 0, .int .i64 0, .int .i64 0, .slice none 0 0, .int .i64 0, .int .i64 0, .int .i64 0, .int .i64 0, .int .i64 0, .int .i64 0, .slice none 0 0, .int .i64 0, .int .i64 0, .int .i64 0, .int .i64 0, .int .i64 0, .slice none 0 0, .slice none 0 0] : List Value).all (·.oneCell')) = true := rfl
  have hal1 : (#[.int .i64 2, .int .i64 0, .int .i64 0, .int .i64 0, .int .i64 0, .slice none 0 0, .int .i64 0, .int .i64 0, .int .i64 0, .int .i64 0, .int .i64 0, .int .i64 0, .slice none 0 0, .int .i64 0, .int .i64 0, .int .i64 0, .int .i64 0, .int .i64 0, .slice none 0 0, .slice none 0 0] : Array Value).all (·.oneCell') = true := all_oneCell_toArray (List.all_eq_true.1 hall0)
  have htt := HI0.out.there 0 20 (by omega)
  have HAI : Hid (At (((w.alloc (.cells #[.int .i64 0, .int .i64 0, .int .i64 0, .int .i64 0, .int .i64 0, .slice none 0 0, .int .i64 0, .int .i64 0, .int .i64 0, .int .i64 0, .int .i64 0, .int .i64 0, .slice none 0 0, .int .i64 0, .int .i64 0, .int .i64 0, .int .i64 0, .int .i64 0, .slice none 0 0, .slice none 0 0] 228)).alloc (.cells #[.int .i64 0, .int .i64 0, .int .i64 0, .int .i64 0, .int .i64 0, .slice none 0 0, .int .i64 0, .int .i64 0, .int .i64 0, .int .i64 0, .int .i64 0, .int .i64 0, .slice none 0 0, .int .i64 0, .int .i64 0, .int .i64 0, .int .i64 0, .int .i64 0, .slice none 0 0, .slice none 0 0] 228)).setCells (w.heap.size + 1) 0 [.int .i64 2, .int .i64 0, .int .i64 0, .int .i64 0, .int .i64 0, .slice none 0 0, .int .i64 0, .int .i64 0, .int .i64 0, .int .i64 0, .int .i64 0, .int .i64 0, .slice none 0 0, .int .i64 0, .int .i64 0, .int .i64 0, .int .i64 0, .int .i64 0, .slice none 0 0, .slice none 0 0]) b tb cap (T3 toks len) σ) := At.cells hb1 htb1 _ _ _ HA0.out
  have HKI : Hid (Kp b w (((w.alloc (.cells #[.int .i64 0, .int .i64 0, .int .i64 0, .int .i64 0, .int .i64 0, .slice none 0 0, .int .i64 0, .int .i64 0, .int .i64 0, .int .i64 0, .int .i64 0, .int .i64 0, .slice none 0 0, .int .i64 0, .int .i64 0, .int .i64 0, .int .i64 0, .int .i64 0, .slice none 0 0, .slice none 0 0] 228)).alloc (.cells #[.int .i64 0, .int .i64 0, .int .i64 0, .int .i64 0, .int .i64 0, .slice none 0 0, .int .i64 0, .int .i64 0, .int .i64 0, .int .i64 0, .int .i64 0, .int .i64 0, .slice none 0 0, .int .i64 0, .int .i64 0, .int .i64 0, .int .i64 0, .int .i64 0, .slice none 0 0, .slice none 0 0] 228)).setCells (w.heap.size + 1) 0 [.int .i64 2, .int .i64 0, .int .i64 0, .int .i64 0, .int .i64 0, .slice none 0 0, .int .i64 0, .int .i64 0, .int .i64 0, .int .i64 0, .int .i64 0, .int .i64 0, .slice none 0 0, .int .i64 0, .int .i64 0, .int .i64 0, .int .i64 0, .int .i64 0, .slice none 0 0, .slice none 0 0])) := Kp.cells (by omega) _ _ _ HK0.out
  have HRI : Hid (Row (((w.alloc (.cells #[.int .i64 0, .int .i64 0, .int .i64 0, .int .i64 0, .int .i64 0, .slice none 0 0, .int .i64 0, .int .i64 0, .int .i64 0, .int .i64 0, .int .i64 0, .int .i64 0, .slice none 0 0, .int .i64 0, .int .i64 0, .int .i64 0, .int .i64 0, .int .i64 0, .slice none 0 0, .slice none 0 0] 228)).alloc (.cells #[.int .i64 0, .int .i64 0, .int .i64 0, .int .i64 0, .int .i64 0, .slice none 0 0, .int .i64 0, .int .i64 0, .int .i64 0, .int .i64 0, .int .i64 0, .int .i64 0, .slice none 0 0, .int .i64 0, .int .i64 0, .int .i64 0, .int .i64 0, .int .i64 0, .slice none 0 0, .slice none 0 0] 228)).setCells (w.heap.size + 1) 0 [.int .i64 2, .int .i64 0, .int .i64 0, .int .i64 0, .int .i64 0, .slice none 0 0, .int .i64 0, .int .i64 0, .int .i64 0, .int .i64 0, .int .i64 0, .int .i64 0, .slice none 0 0, .int .i64 0, .int .i64 0, .int .i64 0, .int .i64 0, .int .i64 0, .slice none 0 0, .slice none 0 0]) w.heap.size 20) := Row.far (by omega) _ _ _ HR0.out
  have HII : Hid (Row (((w.alloc (.cells #[.int .i64 0, .int .i64 0, .int .i64 0, .int .i64 0, .int .i64 0, .slice none 0 0, .int .i64 0, .int .i64 0, .int .i64 0, .int .i64 0, .int .i64 0, .int .i64 0, .slice none 0 0, .int .i64 0, .int .i64 0, .int .i64 0, .int .i64 0, .int .i64 0, .slice none 0 0, .slice none 0 0] 228)).alloc (.cells #[.int .i64 0, .int .i64 0, .int .i64 0, .int .i64 0, .int .i64 0, .slice none 0 0, .int .i64 0, .int .i64 0, .int .i64 0, .int .i64 0, .int .i64 0, .int .i64 0, .slice none 0 0, .int .i64 0, .int .i64 0, .int .i64 0, .int .i64 0, .int .i64 0, .slice none 0 0, .slice none 0 0] 228)).setCells (w.heap.size + 1) 0 [.int .i64 2, .int .i64 0, .int .i64 0, .int .i64 0, .int .i64 0, .slice none 0 0, .int .i64 0, .int .i64 0, .int .i64 0, .int .i64 0, .int .i64 0, .int .i64 0, .slice none 0 0, .int .i64 0, .int .i64 0, .int .i64 0, .int .i64 0, .int .i64 0, .slice none 0 0, .slice none 0 0]) (w.heap.size + 1) 20) := Row.cells _ _ _ HI0.out (by simp) (List.all_eq_true.1 hall0)
  have hzI : w.heap.size + 1 < (((w.alloc (.cells #[.int .i64 0, .int .i64 0, .int .i64 0, .int .i64 0, .int .i64 0, .slice none 0 0, .int .i64 0, .int .i64 0, .int .i64 0, .int .i64 0, .int .i64 0, .int .i64 0, .slice none 0 0, .int .i64 0, .int .i64 0, .int .i64 0, .int .i64 0, .int .i64 0, .slice none 0 0, .slice none 0 0] 228)).alloc (.cells #[.int .i64 0, .int .i64 0, .int .i64 0, .int .i64 0, .int .i64 0, .slice none 0 0, .int .i64 0, .int .i64 0, .int .i64 0, .int .i64 0, .int .i64 0, .int .i64 0, .slice none 0 0, .int .i64 0, .int .i64 0, .int .i64 0, .int .i64 0, .int .i64 0, .slice none 0 0, .slice none 0 0] 228)).setCells (w.heap.size + 1) 0 [.int .i64 2, .int .i64 0, .int .i64 0, .int .i64 0, .int .i64 0, .slice none 0 0, .int .i64 0, .int .i64 0, .int .i64 0, .int .i64 0, .int .i64 0, .int .i64 0, .slice none 0 0, .int .i64 0, .int .i64 0, .int .i64 0, .int .i64 0, .int .i64 0, .slice none 0 0, .slice none 0 0]).heap.size := by rw [size_cells]; exact hzA
  have HP0 : Hid (World.rangeAt (((w.alloc (.cells #[.int .i64 0, .int .i64 0, .int .i64 0, .int .i64 0, .int .i64 0, .slice none 0 0, .int .i64 0, .int .i64 0, .int .i64 0, .int .i64 0, .int .i64 0, .int .i64 0, .slice none 0 0, .int .i64 0, .int .i64 0, .int .i64 0, .int .i64 0, .int .i64 0, .slice none 0 0, .slice none 0 0] 228)).alloc (.cells #[.int .i64 0, .int .i64 0, .int .i64 0, .int .i64 0, .int .i64 0, .slice none 0 0, .int .i64 0, .int .i64 0, .int .i64 0, .int .i64 0, .int .i64 0, .int .i64 0, .slice none 0 0, .int .i64 0, .int .i64 0, .int .i64 0, .int .i64 0, .int .i64 0, .slice none 0 0, .slice none 0 0] 228)).setCells (w.heap.size + 1) 0 [.int .i64 2, .int .i64 0, .int .i64 0, .int .i64 0, .int .i64 0, .slice none 0 0, .int .i64 0, .int .i64 0, .int .i64 0, .int .i64 0, .int .i64 0, .int .i64 0, .slice none 0 0, .int .i64 0, .int .i64 0, .int .i64 0, .int .i64 0, .int .i64 0, .slice none 0 0, .slice none 0 0]) (w.heap.size + 1) 0 [.int .i64 2]) := range_first (World.rangeAt_setCells_same _ _ _ _ htt)
  have HAL : Hid _ := hal1
  have HTT : Hid _ := htt
  clear h ho hall0 hal1 htt
  go_enter Tryz.func226, Tryz.ntmps226
  go_wp2_with (refine wpList_store_mid rfl 228 (.tmp 3) (.tmp 4) rfl (w.heap.size + 1) 0 #[.int .i64 2, .int .i64 0, .int .i64 0, .int .i64 0, .int .i64 0, .slice none 0 0, .int .i64 0, .int .i64 0, .int .i64 0, .int .i64 0, .int .i64 0, .int .i64 0, .slice none 0 0, .int .i64 0, .int .i64 0, .int .i64 0, .int .i64 0, .int .i64 0, .slice none 0 0, .slice none 0 0] rfl rfl ?_ ?_ ?_ ?_; (exact HTT.out); (exact Tryz.infoCmd); (exact HAL.out))
  refine (enter_c hk hn b tb cap _ σ HAI.out HO0.out HKD.out).mono ?_
  rintro e w1 ⟨rfl, hA, hK⟩
  have HA1 : Hid (At w1 b tb cap (T3 toks len) (σ.ent (T3 toks len))) := hA
  have HK1 : Hid (Kp b w w1) := HKI.out.trans hK
  have HR1 : Hid (Row w1 w.heap.size 20) := HRI.out.kp hK hb (by have := hzI; omega)
  have HI1 : Hid (Row w1 (w.heap.size + 1) 20) := HII.out.kp hK hb1 hzI
  have hz1 : w.heap.size + 1 < w1.heap.size := by have h1 := hK.size; have h2 := hzI; omega
  have HP0v1 : Hid (World.rangeAt w1 (w.heap.size + 1) 0 [.int .i64 2]) := range_kp HP0.out hK hb1 hzI
  clear hA hK
  go_wp2_with fail
  refine (formula_any hk hn b tb cap _ _ HA1.out HE.out.1).mono ?_
  rintro e w2 ⟨v2, σ2, rfl, ⟨f2, fp2, fn2, fm2, fr2, fa2, fb2, fc2, fd2, rfl⟩, hA, hG, hK, hS, hR⟩
  have HA2 : Hid (At w2 b tb cap (T3 toks len) σ2) := hA
  have HK2 : Hid (Kp b w w2) := HK1.out.trans hK
  have HR2 : Hid (Row w2 w.heap.size 20) := HR1.out.kp hK hb (by have := hz1; omega)
  have HI2 : Hid (Row w2 (w.heap.size + 1) 20) := HI1.out.kp hK hb1 hz1
  have hz2 : w.heap.size + 1 < w2.heap.size := by have h1 := hK.size; have h2 := hz1; omega
  have HP0v2 : Hid (World.rangeAt w2 (w.heap.size + 1) 0 [.int .i64 2]) := range_kp HP0v1.out hK hb1 hz1
  have HM2 : Hid (σ2.e = 0 → FM toks (σ.ent (T3 toks len)).pos σ2.pos (fun g => w.heap.size + 1 < g) w2 [.int .i64 f2, .slice fp2 fn2 fm2, .int .i64 fr2, .int .i64 fa2, .int .i64 fb2, .int .i64 fc2, .int .i64 fd2]) := fun he => FM.of (hR he) (fun g h1 h2 => by have h3 := hz1; omega)
  clear hR
  have HG2 : Hid (Goes toks.length (σ.ent (T3 toks len)) σ2) := hG
  have HS2 : Hid (∀ st, fin toks len (σ.ent (T3 toks len)) (cFormula :: st) = fin toks len σ2 st) := hS
  clear hA hK hG hS
  have ht2 := HI2.out.there 4 7 (by omega)
  go_wp2_with (refine wpList_store_mid rfl 98 _ _ rfl (w.heap.size + 1) 4 #[.int .i64 f2, .slice fp2 fn2 fm2, .int .i64 fr2, .int .i64 fa2, .int .i64 fb2, .int .i64 fc2, .int .i64 fd2] rfl rfl ?_ ?_ ?_ ?_; (exact ht2); (exact Tryz.infoFrm); (exact one7 _ _ _ _ _ _ _ _ _))
  have HA2s : Hid (At (w2.setCells (w.heap.size + 1) 4 [.int .i64 f2, .slice fp2 fn2 fm2, .int .i64 fr2, .int .i64 fa2, .int .i64 fb2, .int .i64 fc2, .int .i64 fd2]) b tb cap (T3 toks len) σ2) := At.cells hb1 htb1 _ _ _ HA2.out
  have HK2s : Hid (Kp b w (w2.setCells (w.heap.size + 1) 4 [.int .i64 f2, .slice fp2 fn2 fm2, .int .i64 fr2, .int .i64 fa2, .int .i64 fb2, .int .i64 fc2, .int .i64 fd2])) := Kp.cells (by omega) _ _ _ HK2.out
  have HR2s : Hid (Row (w2.setCells (w.heap.size + 1) 4 [.int .i64 f2, .slice fp2 fn2 fm2, .int .i64 fr2, .int .i64 fa2, .int .i64 fb2, .int .i64 fc2, .int .i64 fd2]) w.heap.size 20) := Row.far (by omega) _ _ _ HR2.out
  have HI2s : Hid (Row (w2.setCells (w.heap.size + 1) 4 [.int .i64 f2, .slice fp2 fn2 fm2, .int .i64 fr2, .int .i64 fa2, .int .i64 fb2, .int .i64 fc2, .int .i64 fd2]) (w.heap.size + 1) 20) := Row.cells _ _ _ HI2.out (by simp) (all_mem (one7 _ _ _ _ _ _ _ _ _))
  have hz2s : w.heap.size + 1 < (w2.setCells (w.heap.size + 1) 4 [.int .i64 f2, .slice fp2 fn2 fm2, .int .i64 fr2, .int .i64 fa2, .int .i64 fb2, .int .i64 fc2, .int .i64 fd2]).heap.size := by rw [size_cells]; exact hz2
  have HP0v2s : Hid (World.rangeAt (w2.setCells (w.heap.size + 1) 4 [.int .i64 f2, .slice fp2 fn2 fm2, .int .i64 fr2, .int .i64 fa2, .int .i64 fb2, .int .i64 fc2, .int .i64 fd2]) (w.heap.size + 1) 0 [.int .i64 2]) := World.rangeAt_setCells_apart HP0v2.out _ _ _ (Or.inr (by simp))
  have HM2v2s : Hid (σ2.e = 0 → FM toks (σ.ent (T3 toks len)).pos σ2.pos (fun g => w.heap.size + 1 < g) (w2.setCells (w.heap.size + 1) 4 [.int .i64 f2, .slice fp2 fn2 fm2, .int .i64 fr2, .int .i64 fa2, .int .i64 fb2, .int .i64 fc2, .int .i64 fd2]) [.int .i64 f2, .slice fp2 fn2 fm2, .int .i64 fr2, .int .i64 fa2, .int .i64 fb2, .int .i64 fc2, .int .i64 fd2]) := fun he => (HM2.out he).same (same_sets _ _ (fun h => by omega) _ _ _)
  have HP2 : Hid (World.rangeAt (w2.setCells (w.heap.size + 1) 4 [.int .i64 f2, .slice fp2 fn2 fm2, .int .i64 fr2, .int .i64 fa2, .int .i64 fb2, .int .i64 fc2, .int .i64 fd2]) (w.heap.size + 1) 4 [.int .i64 f2, .slice fp2 fn2 fm2, .int .i64 fr2, .int .i64 fa2, .int .i64 fb2, .int .i64 fc2, .int .i64 fd2]) := World.rangeAt_setCells_same _ _ _ _ ht2
  go_wp2_with fail
  refine (expect_v hn b tb cap 18 _ _ HA2s.out HG2.out.1).mono ?_
  rintro e w3 ⟨x3, hx3, rfl, hA, hK⟩
  have HX3 : Hid _ := hx3
  clear hx3
  have HA3 : Hid (At w3 b tb cap (T3 toks len) (σ2.exp (T3 toks len) 18)) := hA
  have HK3 : Hid (Kp b w w3) := HK2s.out.trans hK
  have HR3 : Hid (Row w3 w.heap.size 20) := HR2s.out.kp hK hb (by have := hz2s; omega)
  have HI3 : Hid (Row w3 (w.heap.size + 1) 20) := HI2s.out.kp hK hb1 hz2s
  have hz3 : w.heap.size + 1 < w3.heap.size := by have h1 := hK.size; have h2 := hz2s; omega
  have HP0v3 : Hid (World.rangeAt w3 (w.heap.size + 1) 0 [.int .i64 2]) := range_kp HP0v2s.out hK hb1 hz2s
  have HP2v3 : Hid (World.rangeAt w3 (w.heap.size + 1) 4 [.int .i64 f2, .slice fp2 fn2 fm2, .int .i64 fr2, .int .i64 fa2, .int .i64 fb2, .int .i64 fc2, .int .i64 fd2]) := range_kp HP2.out hK hb1 hz2s
  have HM2v3 : Hid (σ2.e = 0 → FM toks (σ.ent (T3 toks len)).pos σ2.pos (fun g => w.heap.size + 1 < g) w3 [.int .i64 f2, .slice fp2 fn2 fm2, .int .i64 fr2, .int .i64 fa2, .int .i64 fb2, .int .i64 fc2, .int .i64 fd2]) := fun he => (HM2v2s.out he).same (hK.same (fun h => by omega))
  clear hA hK
  have HG3 : Hid (Goes toks.length σ2 (σ2.exp (T3 toks len) 18)) := goes_exp hk HG2.out.1 18
  go_wp2_with fail
  refine (HC.out _ _ HA3.out HG3.out.1 (by have h1 := HE.out.2.1; have h2 := HRR.out; have h3 := HLT.out; have g2 := HG2.out.2.1; have g3 := HG3.out.2.1; omega)).mono ?_
  rintro e w4 ⟨v4, σ4, rfl, ⟨p4, n4, m4, rfl⟩, hA, hG, hK, hS, hR⟩
  have HA4 : Hid (At w4 b tb cap (T3 toks len) σ4) := hA
  have HK4 : Hid (Kp b w w4) := HK3.out.trans hK
  have HR4 : Hid (Row w4 w.heap.size 20) := HR3.out.kp hK hb (by have := hz3; omega)
  have HI4 : Hid (Row w4 (w.heap.size + 1) 20) := HI3.out.kp hK hb1 hz3
  have hz4 : w.heap.size + 1 < w4.heap.size := by have h1 := hK.size; have h2 := hz3; omega
  have HP0v4 : Hid (World.rangeAt w4 (w.heap.size + 1) 0 [.int .i64 2]) := range_kp HP0v3.out hK hb1 hz3
  have HP2v4 : Hid (World.rangeAt w4 (w.heap.size + 1) 4 [.int .i64 f2, .slice fp2 fn2 fm2, .int .i64 fr2, .int .i64 fa2, .int .i64 fb2, .int .i64 fc2, .int .i64 fd2]) := range_kp HP2v3.out hK hb1 hz3
  have HM2v4 : Hid (σ2.e = 0 → FM toks (σ.ent (T3 toks len)).pos σ2.pos (fun g => w.heap.size + 1 < g) w4 [.int .i64 f2, .slice fp2 fn2 fm2, .int .i64 fr2, .int .i64 fa2, .int .i64 fb2, .int .i64 fc2, .int .i64 fd2]) := fun he => (HM2v3.out he).same (hK.same (fun h => by omega))
  have HM4 : Hid (σ4.e = 0 → CM toks (σ2.exp (T3 toks len) 18).pos σ4.pos (fun g => w.heap.size + 1 < g) w4 p4 n4 m4) := fun he => CM.of (hR he) (fun g h1 h2 => by have h3 := hz3; omega)
  clear hR
  have HG4 : Hid (Goes toks.length (σ2.exp (T3 toks len) 18) σ4) := hG
  have HS4 : Hid (∀ st, fin toks len (σ2.exp (T3 toks len) 18) (cCommands :: st) = fin toks len σ4 st) := hS
  clear hA hK hG hS
  obtain ⟨⟨u4_18, hu4_18⟩, hv4_18⟩ := HI4.out.cell 18 (by omega)
  have HA4s : Hid (At (w4.setCell ⟨w.heap.size + 1, 18, none⟩ (.slice p4 n4 m4)) b tb cap (T3 toks len) σ4) := (HA4.out.other _ _ _ hb1 htb1)
  have HK4s : Hid (Kp b w (w4.setCell ⟨w.heap.size + 1, 18, none⟩ (.slice p4 n4 m4))) := (HK4.out.fresh _ _ _ (by omega))
  have HR4s : Hid (Row (w4.setCell ⟨w.heap.size + 1, 18, none⟩ (.slice p4 n4 m4)) w.heap.size 20) := (HR4.out.other _ _ _ (by omega))
  have HI4s : Hid (Row (w4.setCell ⟨w.heap.size + 1, 18, none⟩ (.slice p4 n4 m4)) (w.heap.size + 1) 20) := (HI4.out.set _ _ (by omega) rfl)
  have hz4s : w.heap.size + 1 < (w4.setCell ⟨w.heap.size + 1, 18, none⟩ (.slice p4 n4 m4)).heap.size := by rw [ssize]; exact hz4
  have HP0v4s : Hid (World.rangeAt (w4.setCell ⟨w.heap.size + 1, 18, none⟩ (.slice p4 n4 m4)) (w.heap.size + 1) 0 [.int .i64 2]) := (range_set HP0v4.out 18 _ (by simp))
  have HP2v4s : Hid (World.rangeAt (w4.setCell ⟨w.heap.size + 1, 18, none⟩ (.slice p4 n4 m4)) (w.heap.size + 1) 4 [.int .i64 f2, .slice fp2 fn2 fm2, .int .i64 fr2, .int .i64 fa2, .int .i64 fb2, .int .i64 fc2, .int .i64 fd2]) := (range_set HP2v4.out 18 _ (by simp))
  have HM2v4s : Hid (σ2.e = 0 → FM toks (σ.ent (T3 toks len)).pos σ2.pos (fun g => w.heap.size + 1 < g) (w4.setCell ⟨w.heap.size + 1, 18, none⟩ (.slice p4 n4 m4)) [.int .i64 f2, .slice fp2 fn2 fm2, .int .i64 fr2, .int .i64 fa2, .int .i64 fb2, .int .i64 fc2, .int .i64 fd2]) := fun he => ((HM2v4.out he).same (same_set _ _ _ _ _ (fun h => by omega)))
  have HM4v4s : Hid (σ4.e = 0 → CM toks (σ2.exp (T3 toks len) 18).pos σ4.pos (fun g => w.heap.size + 1 < g) (w4.setCell ⟨w.heap.size + 1, 18, none⟩ (.slice p4 n4 m4)) p4 n4 m4) := fun he => ((HM4.out he).same (same_set _ _ _ _ _ (fun h => by omega)))
  have HP4 : Hid (World.rangeAt (w4.setCell ⟨w.heap.size + 1, 18, none⟩ (.slice p4 n4 m4)) (w.heap.size + 1) 18 [.slice p4 n4 m4]) := range_put 18 _ ⟨_, hu4_18⟩
  go_wp2_with fail
  refine (expect_v hn b tb cap 19 _ _ HA4s.out HG4.out.1).mono ?_
  rintro e w5 ⟨x5, hx5, rfl, hA, hK⟩
  have HX5 : Hid _ := hx5
  clear hx5
  have HA5 : Hid (At w5 b tb cap (T3 toks len) (σ4.exp (T3 toks len) 19)) := hA
  have HK5 : Hid (Kp b w w5) := HK4s.out.trans hK
  have HR5 : Hid (Row w5 w.heap.size 20) := HR4s.out.kp hK hb (by have := hz4s; omega)
  have HI5 : Hid (Row w5 (w.heap.size + 1) 20) := HI4s.out.kp hK hb1 hz4s
  have hz5 : w.heap.size + 1 < w5.heap.size := by have h1 := hK.size; have h2 := hz4s; omega
  have HP0v5 : Hid (World.rangeAt w5 (w.heap.size + 1) 0 [.int .i64 2]) := range_kp HP0v4s.out hK hb1 hz4s
  have HP2v5 : Hid (World.rangeAt w5 (w.heap.size + 1) 4 [.int .i64 f2, .slice fp2 fn2 fm2, .int .i64 fr2, .int .i64 fa2, .int .i64 fb2, .int .i64 fc2, .int .i64 fd2]) := range_kp HP2v4s.out hK hb1 hz4s
  have HP4v5 : Hid (World.rangeAt w5 (w.heap.size + 1) 18 [.slice p4 n4 m4]) := range_kp HP4.out hK hb1 hz4s
  have HM2v5 : Hid (σ2.e = 0 → FM toks (σ.ent (T3 toks len)).pos σ2.pos (fun g => w.heap.size + 1 < g) w5 [.int .i64 f2, .slice fp2 fn2 fm2, .int .i64 fr2, .int .i64 fa2, .int .i64 fb2, .int .i64 fc2, .int .i64 fd2]) := fun he => (HM2v4s.out he).same (hK.same (fun h => by omega))
  have HM4v5 : Hid (σ4.e = 0 → CM toks (σ2.exp (T3 toks len) 18).pos σ4.pos (fun g => w.heap.size + 1 < g) w5 p4 n4 m4) := fun he => (HM4v4s.out he).same (hK.same (fun h => by omega))
  clear hA hK
  have HG5 : Hid (Goes toks.length σ4 (σ4.exp (T3 toks len) 19)) := goes_exp hk HG4.out.1 19
  go_wp2_with fail
  refine (HC.out _ _ HA5.out HG5.out.1 (by have h1 := HE.out.2.1; have h2 := HRR.out; have h3 := HLT.out; have g2 := HG2.out.2.1; have g3 := HG3.out.2.1; have g4 := HG4.out.2.1; have g5 := HG5.out.2.1; omega)).mono ?_
  rintro e w6 ⟨v6, σ6, rfl, ⟨p6, n6, m6, rfl⟩, hA, hG, hK, hS, hR⟩
  have HA6 : Hid (At w6 b tb cap (T3 toks len) σ6) := hA
  have HK6 : Hid (Kp b w w6) := HK5.out.trans hK
  have HR6 : Hid (Row w6 w.heap.size 20) := HR5.out.kp hK hb (by have := hz5; omega)
  have HI6 : Hid (Row w6 (w.heap.size + 1) 20) := HI5.out.kp hK hb1 hz5
  have hz6 : w.heap.size + 1 < w6.heap.size := by have h1 := hK.size; have h2 := hz5; omega
  have HP0v6 : Hid (World.rangeAt w6 (w.heap.size + 1) 0 [.int .i64 2]) := range_kp HP0v5.out hK hb1 hz5
  have HP2v6 : Hid (World.rangeAt w6 (w.heap.size + 1) 4 [.int .i64 f2, .slice fp2 fn2 fm2, .int .i64 fr2, .int .i64 fa2, .int .i64 fb2, .int .i64 fc2, .int .i64 fd2]) := range_kp HP2v5.out hK hb1 hz5
  have HP4v6 : Hid (World.rangeAt w6 (w.heap.size + 1) 18 [.slice p4 n4 m4]) := range_kp HP4v5.out hK hb1 hz5
  have HM2v6 : Hid (σ2.e = 0 → FM toks (σ.ent (T3 toks len)).pos σ2.pos (fun g => w.heap.size + 1 < g) w6 [.int .i64 f2, .slice fp2 fn2 fm2, .int .i64 fr2, .int .i64 fa2, .int .i64 fb2, .int .i64 fc2, .int .i64 fd2]) := fun he => (HM2v5.out he).same (hK.same (fun h => by omega))
  have HM4v6 : Hid (σ4.e = 0 → CM toks (σ2.exp (T3 toks len) 18).pos σ4.pos (fun g => w.heap.size + 1 < g) w6 p4 n4 m4) := fun he => (HM4v5.out he).same (hK.same (fun h => by omega))
  have HM6 : Hid (σ6.e = 0 → CM toks (σ4.exp (T3 toks len) 19).pos σ6.pos (fun g => w.heap.size + 1 < g) w6 p6 n6 m6) := fun he => CM.of (hR he) (fun g h1 h2 => by have h3 := hz5; omega)
  clear hR
  have HG6 : Hid (Goes toks.length (σ4.exp (T3 toks len) 19) σ6) := hG
  have HS6 : Hid (∀ st, fin toks len (σ4.exp (T3 toks len) 19) (cCommands :: st) = fin toks len σ6 st) := hS
  clear hA hK hG hS
  obtain ⟨⟨u6_19, hu6_19⟩, hv6_19⟩ := HI6.out.cell 19 (by omega)
  have HA6s : Hid (At (w6.setCell ⟨w.heap.size + 1, 19, none⟩ (.slice p6 n6 m6)) b tb cap (T3 toks len) σ6) := (HA6.out.other _ _ _ hb1 htb1)
  have HK6s : Hid (Kp b w (w6.setCell ⟨w.heap.size + 1, 19, none⟩ (.slice p6 n6 m6))) := (HK6.out.fresh _ _ _ (by omega))
  have HR6s : Hid (Row (w6.setCell ⟨w.heap.size + 1, 19, none⟩ (.slice p6 n6 m6)) w.heap.size 20) := (HR6.out.other _ _ _ (by omega))
  have HI6s : Hid (Row (w6.setCell ⟨w.heap.size + 1, 19, none⟩ (.slice p6 n6 m6)) (w.heap.size + 1) 20) := (HI6.out.set _ _ (by omega) rfl)
  have hz6s : w.heap.size + 1 < (w6.setCell ⟨w.heap.size + 1, 19, none⟩ (.slice p6 n6 m6)).heap.size := by rw [ssize]; exact hz6
  have HP0v6s : Hid (World.rangeAt (w6.setCell ⟨w.heap.size + 1, 19, none⟩ (.slice p6 n6 m6)) (w.heap.size + 1) 0 [.int .i64 2]) := (range_set HP0v6.out 19 _ (by simp))
  have HP2v6s : Hid (World.rangeAt (w6.setCell ⟨w.heap.size + 1, 19, none⟩ (.slice p6 n6 m6)) (w.heap.size + 1) 4 [.int .i64 f2, .slice fp2 fn2 fm2, .int .i64 fr2, .int .i64 fa2, .int .i64 fb2, .int .i64 fc2, .int .i64 fd2]) := (range_set HP2v6.out 19 _ (by simp))
  have HP4v6s : Hid (World.rangeAt (w6.setCell ⟨w.heap.size + 1, 19, none⟩ (.slice p6 n6 m6)) (w.heap.size + 1) 18 [.slice p4 n4 m4]) := (range_set HP4v6.out 19 _ (by simp))
  have HM2v6s : Hid (σ2.e = 0 → FM toks (σ.ent (T3 toks len)).pos σ2.pos (fun g => w.heap.size + 1 < g) (w6.setCell ⟨w.heap.size + 1, 19, none⟩ (.slice p6 n6 m6)) [.int .i64 f2, .slice fp2 fn2 fm2, .int .i64 fr2, .int .i64 fa2, .int .i64 fb2, .int .i64 fc2, .int .i64 fd2]) := fun he => ((HM2v6.out he).same (same_set _ _ _ _ _ (fun h => by omega)))
  have HM4v6s : Hid (σ4.e = 0 → CM toks (σ2.exp (T3 toks len) 18).pos σ4.pos (fun g => w.heap.size + 1 < g) (w6.setCell ⟨w.heap.size + 1, 19, none⟩ (.slice p6 n6 m6)) p4 n4 m4) := fun he => ((HM4v6.out he).same (same_set _ _ _ _ _ (fun h => by omega)))
  have HM6v6s : Hid (σ6.e = 0 → CM toks (σ4.exp (T3 toks len) 19).pos σ6.pos (fun g => w.heap.size + 1 < g) (w6.setCell ⟨w.heap.size + 1, 19, none⟩ (.slice p6 n6 m6)) p6 n6 m6) := fun he => ((HM6.out he).same (same_set _ _ _ _ _ (fun h => by omega)))
  have HP6 : Hid (World.rangeAt (w6.setCell ⟨w.heap.size + 1, 19, none⟩ (.slice p6 n6 m6)) (w.heap.size + 1) 19 [.slice p6 n6 m6]) := range_put 19 _ ⟨_, hu6_19⟩
  go_wp2_with fail
  refine (expect_v hn b tb cap 20 _ _ HA6s.out HG6.out.1).mono ?_
  rintro e w7 ⟨x7, hx7, rfl, hA, hK⟩
  have HX7 : Hid _ := hx7
  clear hx7
  have HA7 : Hid (At w7 b tb cap (T3 toks len) (σ6.exp (T3 toks len) 20)) := hA
  have HK7 : Hid (Kp b w w7) := HK6s.out.trans hK
  have HR7 : Hid (Row w7 w.heap.size 20) := HR6s.out.kp hK hb (by have := hz6s; omega)
  have HI7 : Hid (Row w7 (w.heap.size + 1) 20) := HI6s.out.kp hK hb1 hz6s
  have hz7 : w.heap.size + 1 < w7.heap.size := by have h1 := hK.size; have h2 := hz6s; omega
  have HP0v7 : Hid (World.rangeAt w7 (w.heap.size + 1) 0 [.int .i64 2]) := range_kp HP0v6s.out hK hb1 hz6s
  have HP2v7 : Hid (World.rangeAt w7 (w.heap.size + 1) 4 [.int .i64 f2, .slice fp2 fn2 fm2, .int .i64 fr2, .int .i64 fa2, .int .i64 fb2, .int .i64 fc2, .int .i64 fd2]) := range_kp HP2v6s.out hK hb1 hz6s
  have HP4v7 : Hid (World.rangeAt w7 (w.heap.size + 1) 18 [.slice p4 n4 m4]) := range_kp HP4v6s.out hK hb1 hz6s
  have HP6v7 : Hid (World.rangeAt w7 (w.heap.size + 1) 19 [.slice p6 n6 m6]) := range_kp HP6.out hK hb1 hz6s
  have HM2v7 : Hid (σ2.e = 0 → FM toks (σ.ent (T3 toks len)).pos σ2.pos (fun g => w.heap.size + 1 < g) w7 [.int .i64 f2, .slice fp2 fn2 fm2, .int .i64 fr2, .int .i64 fa2, .int .i64 fb2, .int .i64 fc2, .int .i64 fd2]) := fun he => (HM2v6s.out he).same (hK.same (fun h => by omega))
  have HM4v7 : Hid (σ4.e = 0 → CM toks (σ2.exp (T3 toks len) 18).pos σ4.pos (fun g => w.heap.size + 1 < g) w7 p4 n4 m4) := fun he => (HM4v6s.out he).same (hK.same (fun h => by omega))
  have HM6v7 : Hid (σ6.e = 0 → CM toks (σ4.exp (T3 toks len) 19).pos σ6.pos (fun g => w.heap.size + 1 < g) w7 p6 n6 m6) := fun he => (HM6v6s.out he).same (hK.same (fun h => by omega))
  clear hA hK
  have HG7 : Hid (Goes toks.length σ6 (σ6.exp (T3 toks len) 20)) := goes_exp hk HG6.out.1 20
  go_wp2_with fail
  refine (leave_c b tb cap _ _ HA7.out).mono ?_
  rintro e w8 ⟨rfl, hA, hK⟩
  have HA8 : Hid (At w8 b tb cap (T3 toks len) (σ6.exp (T3 toks len) 20).lv) := hA
  have HK8 : Hid (Kp b w w8) := HK7.out.trans hK
  have HR8 : Hid (Row w8 w.heap.size 20) := HR7.out.kp hK hb (by have := hz7; omega)
  have HI8 : Hid (Row w8 (w.heap.size + 1) 20) := HI7.out.kp hK hb1 hz7
  have hz8 : w.heap.size + 1 < w8.heap.size := by have h1 := hK.size; have h2 := hz7; omega
  have HP0v8 : Hid (World.rangeAt w8 (w.heap.size + 1) 0 [.int .i64 2]) := range_kp HP0v7.out hK hb1 hz7
  have HP2v8 : Hid (World.rangeAt w8 (w.heap.size + 1) 4 [.int .i64 f2, .slice fp2 fn2 fm2, .int .i64 fr2, .int .i64 fa2, .int .i64 fb2, .int .i64 fc2, .int .i64 fd2]) := range_kp HP2v7.out hK hb1 hz7
  have HP4v8 : Hid (World.rangeAt w8 (w.heap.size + 1) 18 [.slice p4 n4 m4]) := range_kp HP4v7.out hK hb1 hz7
  have HP6v8 : Hid (World.rangeAt w8 (w.heap.size + 1) 19 [.slice p6 n6 m6]) := range_kp HP6v7.out hK hb1 hz7
  have HM2v8 : Hid (σ2.e = 0 → FM toks (σ.ent (T3 toks len)).pos σ2.pos (fun g => w.heap.size + 1 < g) w8 [.int .i64 f2, .slice fp2 fn2 fm2, .int .i64 fr2, .int .i64 fa2, .int .i64 fb2, .int .i64 fc2, .int .i64 fd2]) := fun he => (HM2v7.out he).same (hK.same (fun h => by omega))
  have HM4v8 : Hid (σ4.e = 0 → CM toks (σ2.exp (T3 toks len) 18).pos σ4.pos (fun g => w.heap.size + 1 < g) w8 p4 n4 m4) := fun he => (HM4v7.out he).same (hK.same (fun h => by omega))
  have HM6v8 : Hid (σ6.e = 0 → CM toks (σ4.exp (T3 toks len) 19).pos σ6.pos (fun g => w.heap.size + 1 < g) w8 p6 n6 m6) := fun he => (HM6v7.out he).same (hK.same (fun h => by omega))
  clear hA hK
  obtain ⟨cs, hcs1, hcs2, hcs3, _⟩ := HI8.out
  have hall : cs.toArray.all (·.oneCell') = true := all_oneCell_toArray hcs3
  have hth := HR8.out.there 0 20 (by omega)
  have hi1 : (Tryz.prog.info? 228).map (·.size) = some cs.length := by rw [hcs2]; exact Tryz.infoCmd
  have hi2 : (Tryz.prog.info? 228).map (·.size) = some cs.toArray.size := by simpa using hi1
  have hth2 := HR8.out.there 0 cs.toArray.size (by simp; omega)
  have HH : Hid (cs.length = 20) := hcs2
  clear hth hcs2
  go_wp2_with (first | (refine wpList_load_mid rfl 228 (.tmp 3) rfl (w.heap.size + 1) 0 rfl cs _ ?_ Tryz.underlying228 rfl hi1 ?_; (exact hcs1)) | (refine wpList_store_mid rfl 228 (.tmp 2) (.tmp 24) rfl w.heap.size 0 cs.toArray rfl rfl ?_ hi2 hall ?_; (exact hth2)))
  refine postN cs Tryz.results226 rfl Tryz.underlying228 rfl Tryz.infoCmd HR8.out HH.out ⟨_, (σ6.exp (T3 toks len) 20).lv, rfl, ⟨cs.toArray, rfl, by simpa using HH.out, hall⟩, At.cells hb htb _ _ _ HA8.out, ?_, Kp.cells (Nat.le_refl _) _ _ _ HK8.out, ?_, ?_⟩
  · exact goes_lv HO0.out HE.out.2 (fun _ => HEE.out) (HG2.out.trans (HG3.out.trans (HG4.out.trans (HG5.out.trans (HG6.out.trans HG7.out)))))
  · intro st
    rw [HS0.out st, HS2.out, fin_exp hk HG2.out.1 (c := [116, 104, 101, 110]) (k := 18) (by decide) (by decide) (by decide), HS4.out, fin_exp hk HG4.out.1 (c := [101, 108, 115, 101]) (k := 19) (by decide) (by decide) (by decide), HS6.out, fin_shut hk HG6.out.1 (c := [101, 110, 100]) (k := 20) (by decide) (by decide) (by decide)]
  · intro he
    have q7 := exp_ok (len := len) hk (k := 20) (σ := σ6) he
    have q5 := exp_ok (len := len) hk (HG6.out.2.2 q7.2.1).1
    have q3 := exp_ok (len := len) hk (HG4.out.2.2 q5.2.1).1
    have q1 := ent_ok HKD.out (HG2.out.2.2 q3.2.1).1
    obtain ⟨f, rf, mf⟩ := (HM2v8.out q3.2.1).same (same_sets _ w.heap.size (fun h => by omega) cs 0 _) |>.mono (P' := fun g => w.heap.size ≤ g) (fun g h1 h2 => by omega)
    obtain ⟨a, ga, ya, ea, ra, la, ma⟩ := (HM4v8.out q5.2.1).same (same_sets _ w.heap.size (fun h => by omega) cs 0 _) |>.mono (P' := fun g => w.heap.size ≤ g) (fun g h1 h2 => by omega)
    obtain ⟨c, gc, yc, ec, rc, lc, mc⟩ := (HM6v8.out q7.2.1).same (same_sets _ w.heap.size (fun h => by omega) cs 0 _) |>.mono (P' := fun g => w.heap.size ≤ g) (fun g h1 h2 => by omega)
    rw [q1] at rf
    rw [q3.2.2 (by decide)] at ra
    rw [q5.2.2 (by decide)] at rc
    subst ea ec
    refine ⟨.ite f a c, cs, rfl, ?_, cs, rfl, HH.out, ?_, ?_, ⟨ga, _, _, ya, ?_, la, ma⟩, ⟨gc, _, _, yc, ?_, lc, mc⟩⟩
    · show Rc toks false σ.pos _ (σ6.exp (T3 toks len) 20).pos
      rw [q7.2.2 (by decide)]; exact .ite HSI.out rf ra rc
    · exact cs_get hcs1 HP0v8.out (by rw [HH.out]; simp) 0 (by simp)
    · have et : (cs.drop 4).take 7 = _ := cs_take hcs1 HP2v8.out (by rw [HH.out]; simp)
      rw [et]; exact mf
    · exact cs_get hcs1 HP4v8.out (by rw [HH.out]; simp) 0 (by simp)
    · exact cs_get hcs1 HP6v8.out (by rw [HH.out]; simp) 0 (by simp)

set_option maxRecDepth 100000 in
set_option maxHeartbeats 2000000 in
theorem loop_c (hk : AllTok toks) (hn : toks.length ≤ 300) (b tb cap r : Nat) (IH : ComsC toks len b tb cap (r - 1)) (w : World) (σ : PSt) (h : At w b tb cap (T3 toks len) σ) (ho : Ok toks.length σ) (hr : toks.length - σ.pos ≤ r) (k1 : kd (T3 toks len) σ.pos = 21) :
    Calls Tryz.prog 227 #[.pointer (some ⟨b, 0, none⟩)] w (PPost b tb cap toks len σ w (aggV 20) (fun σ' => ∀ st, fin toks len σ (cCommand :: st) = fin toks len σ' st) (CR toks σ.pos (fun g => w.heap.size ≤ g))) := by
  have H : Hid (At w b tb cap (T3 toks len) σ) := h
  have HO0 : Hid (Ok toks.length σ) := ho
  have hb := h.hb
  have htb := h.htb
  have hb1 : b < w.heap.size + 1 := by omega
  have htb1 : tb < w.heap.size + 1 := by omega
  have hkd : kd (T3 toks len) σ.pos ≠ 0 := by omega
  have g1 := goes_ent (len := len) hk ho hkd
  have HKD : Hid (kd (T3 toks len) σ.pos ≠ 0) := hkd
  have HE : Hid (Ok toks.length (σ.ent (T3 toks len)) ∧ σ.pos < (σ.ent (T3 toks len)).pos ∧ ((σ.ent (T3 toks len)).e = 0 → (σ.ent (T3 toks len)).d = σ.d + 1)) := g1
  have HEE : Hid (σ.e = 0) := (kd_lt (len := len) hk ho hkd).2
  have HLT : Hid (σ.pos < toks.length) := (kd_lt (len := len) hk ho hkd).1
  have HRR : Hid (toks.length - σ.pos ≤ r) := hr
  have HC : Hid (ComsC toks len b tb cap (r - 1)) := IH
  have HS0 : Hid (∀ st, fin toks len σ (cCommand :: st) = fin toks len (σ.ent (T3 toks len)) (cFormula :: [107, 101, 101, 112] :: cFormula :: [100, 111] :: cCommands :: [101, 110, 100] :: st)) := fun st => fin_while hk ho k1 st
  have HSI : Hid (sAt toks σ.pos = [119, 104, 105, 108, 101]) := (lit_at (len := len) hk ho.1 (c := [119, 104, 105, 108, 101]) (n := 21) (by decide)).1 k1
  clear hkd g1 k1 hr IH
  have HA0 : Hid (At ((w.alloc (.cells #[.int .i64 0, .int .i64 0, .int .i64 0, .int .i64 0, .int .i64 0, .slice none 0 0, .int .i64 0, .int .i64 0, .int .i64 0, .int .i64 0, .int .i64 0, .int .i64 0, .slice none 0 0, .int .i64 0, .int .i64 0, .int .i64 0, .int .i64 0, .int .i64 0, .slice none 0 0, .slice none 0 0] 228)).alloc (.cells #[.int .i64 0, .int .i64 0, .int .i64 0, .int .i64 0, .int .i64 0, .slice none 0 0, .int .i64 0, .int .i64 0, .int .i64 0, .int .i64 0, .int .i64 0, .int .i64 0, .slice none 0 0, .int .i64 0, .int .i64 0, .int .i64 0, .int .i64 0, .int .i64 0, .slice none 0 0, .slice none 0 0] 228)) b tb cap (T3 toks len) σ) := (h.alloc _).alloc _
  have HK0 : Hid (Kp b w ((w.alloc (.cells #[.int .i64 0, .int .i64 0, .int .i64 0, .int .i64 0, .int .i64 0, .slice none 0 0, .int .i64 0, .int .i64 0, .int .i64 0, .int .i64 0, .int .i64 0, .int .i64 0, .slice none 0 0, .int .i64 0, .int .i64 0, .int .i64 0, .int .i64 0, .int .i64 0, .slice none 0 0, .slice none 0 0] 228)).alloc (.cells #[.int .i64 0, .int .i64 0, .int .i64 0, .int .i64 0, .int .i64 0, .slice none 0 0, .int .i64 0, .int .i64 0, .int .i64 0, .int .i64 0, .int .i64 0, .int .i64 0, .slice none 0 0, .int .i64 0, .int .i64 0, .int .i64 0, .int .i64 0, .int .i64 0, .slice none 0 0, .slice none 0 0] 228))) := ((Kp.refl b w).alloc _).alloc _
  have HR0 : Hid (Row ((w.alloc (.cells #[.int .i64 0, .int .i64 0, .int .i64 0, .int .i64 0, .int .i64 0, .slice none 0 0, .int .i64 0, .int .i64 0, .int .i64 0, .int .i64 0, .int .i64 0, .int .i64 0, .slice none 0 0, .int .i64 0, .int .i64 0, .int .i64 0, .int .i64 0, .int .i64 0, .slice none 0 0, .slice none 0 0] 228)).alloc (.cells #[.int .i64 0, .int .i64 0, .int .i64 0, .int .i64 0, .int .i64 0, .slice none 0 0, .int .i64 0, .int .i64 0, .int .i64 0, .int .i64 0, .int .i64 0, .int .i64 0, .slice none 0 0, .int .i64 0, .int .i64 0, .int .i64 0, .int .i64 0, .int .i64 0, .slice none 0 0, .slice none 0 0] 228)) w.heap.size 20) := (Row.new w #[.int .i64 0, .int .i64 0, .int .i64 0, .int .i64 0, .int .i64 0, .slice none 0 0, .int .i64 0, .int .i64 0, .int .i64 0, .int .i64 0, .int .i64 0, .int .i64 0, .slice none 0 0, .int .i64 0, .int .i64 0, .int .i64 0, .int .i64 0, .int .i64 0, .slice none 0 0, .slice none 0 0] 228 (List.all_eq_true.1 (by rfl))).alloc (by rw [asize]; omega) _
  have HI0 : Hid (Row ((w.alloc (.cells #[.int .i64 0, .int .i64 0, .int .i64 0, .int .i64 0, .int .i64 0, .slice none 0 0, .int .i64 0, .int .i64 0, .int .i64 0, .int .i64 0, .int .i64 0, .int .i64 0, .slice none 0 0, .int .i64 0, .int .i64 0, .int .i64 0, .int .i64 0, .int .i64 0, .slice none 0 0, .slice none 0 0] 228)).alloc (.cells #[.int .i64 0, .int .i64 0, .int .i64 0, .int .i64 0, .int .i64 0, .slice none 0 0, .int .i64 0, .int .i64 0, .int .i64 0, .int .i64 0, .int .i64 0, .int .i64 0, .slice none 0 0, .int .i64 0, .int .i64 0, .int .i64 0, .int .i64 0, .int .i64 0, .slice none 0 0, .slice none 0 0] 228)) (w.heap.size + 1) 20) := by
    have := Row.new (w.alloc (.cells #[.int .i64 0, .int .i64 0, .int .i64 0, .int .i64 0, .int .i64 0, .slice none 0 0, .int .i64 0, .int .i64 0, .int .i64 0, .int .i64 0, .int .i64 0, .int .i64 0, .slice none 0 0, .int .i64 0, .int .i64 0, .int .i64 0, .int .i64 0, .int .i64 0, .slice none 0 0, .slice none 0 0] 228)) #[.int .i64 0, .int .i64 0, .int .i64 0, .int .i64 0, .int .i64 0, .slice none 0 0, .int .i64 0, .int .i64 0, .int .i64 0, .int .i64 0, .int .i64 0, .int .i64 0, .slice none 0 0, .int .i64 0, .int .i64 0, .int .i64 0, .int .i64 0, .int .i64 0, .slice none 0 0, .slice none 0 0] 228 (List.all_eq_true.1 (by rfl))
    rw [asize] at this; exact this
  have hzA : w.heap.size + 1 < ((w.alloc (.cells #[.int .i64 0, .int .i64 0, .int .i64 0, .int .i64 0, .int .i64 0, .slice none 0 0, .int .i64 0, .int .i64 0, .int .i64 0, .int .i64 0, .int .i64 0, .int .i64 0, .slice none 0 0, .int .i64 0, .int .i64 0, .int .i64 0, .int .i64 0, .int .i64 0, .slice none 0 0, .slice none 0 0] 228)).alloc (.cells #[.int .i64 0, .int .i64 0, .int .i64 0, .int .i64 0, .int .i64 0, .slice none 0 0, .int .i64 0, .int .i64 0, .int .i64 0, .int .i64 0, .int .i64 0, .int .i64 0, .slice none 0 0, .int .i64 0, .int .i64 0, .int .i64 0, .int .i64 0, .int .i64 0, .slice none 0 0, .slice none 0 0] 228)).heap.size := by rw [asize, asize]; omega
  have hall0 : (([.int .i64 3, .int .i64 0, .int .i64 0, .int .i64 0, .int .i64 0, .slice none 0 0, .int .i64 0, .int .i64 0, .int .i64 0, .int .i64 0, .int .i64 0, .int .i64 0, .slice none 0 0, .int .i64 0, .int .i64 0, .int .i64 0, .int .i64 0, .int .i64 0, .slice none 0 0, .slice none 0 0] : List Value).all (·.oneCell')) = true := rfl
  have hal1 : (#[.int .i64 3, .int .i64 0, .int .i64 0, .int .i64 0, .int .i64 0, .slice none 0 0, .int .i64 0, .int .i64 0, .int .i64 0, .int .i64 0, .int .i64 0, .int .i64 0, .slice none 0 0, .int .i64 0, .int .i64 0, .int .i64 0, .int .i64 0, .int .i64 0, .slice none 0 0, .slice none 0 0] : Array Value).all (·.oneCell') = true := all_oneCell_toArray (List.all_eq_true.1 hall0)
  have htt := HI0.out.there 0 20 (by omega)
  have HAI : Hid (At (((w.alloc (.cells #[.int .i64 0, .int .i64 0, .int .i64 0, .int .i64 0, .int .i64 0, .slice none 0 0, .int .i64 0, .int .i64 0, .int .i64 0, .int .i64 0, .int .i64 0, .int .i64 0, .slice none 0 0, .int .i64 0, .int .i64 0, .int .i64 0, .int .i64 0, .int .i64 0, .slice none 0 0, .slice none 0 0] 228)).alloc (.cells #[.int .i64 0, .int .i64 0, .int .i64 0, .int .i64 0, .int .i64 0, .slice none 0 0, .int .i64 0, .int .i64 0, .int .i64 0, .int .i64 0, .int .i64 0, .int .i64 0, .slice none 0 0, .int .i64 0, .int .i64 0, .int .i64 0, .int .i64 0, .int .i64 0, .slice none 0 0, .slice none 0 0] 228)).setCells (w.heap.size + 1) 0 [.int .i64 3, .int .i64 0, .int .i64 0, .int .i64 0, .int .i64 0, .slice none 0 0, .int .i64 0, .int .i64 0, .int .i64 0, .int .i64 0, .int .i64 0, .int .i64 0, .slice none 0 0, .int .i64 0, .int .i64 0, .int .i64 0, .int .i64 0, .int .i64 0, .slice none 0 0, .slice none 0 0]) b tb cap (T3 toks len) σ) := At.cells hb1 htb1 _ _ _ HA0.out
  have HKI : Hid (Kp b w (((w.alloc (.cells #[.int .i64 0, .int .i64 0, .int .i64 0, .int .i64 0, .int .i64 0, .slice none 0 0, .int .i64 0, .int .i64 0, .int .i64 0, .int .i64 0, .int .i64 0, .int .i64 0, .slice none 0 0, .int .i64 0, .int .i64 0, .int .i64 0, .int .i64 0, .int .i64 0, .slice none 0 0, .slice none 0 0] 228)).alloc (.cells #[.int .i64 0, .int .i64 0, .int .i64 0, .int .i64 0, .int .i64 0, .slice none 0 0, .int .i64 0, .int .i64 0, .int .i64 0, .int .i64 0, .int .i64 0, .int .i64 0, .slice none 0 0, .int .i64 0, .int .i64 0, .int .i64 0, .int .i64 0, .int .i64 0, .slice none 0 0, .slice none 0 0] 228)).setCells (w.heap.size + 1) 0 [.int .i64 3, .int .i64 0, .int .i64 0, .int .i64 0, .int .i64 0, .slice none 0 0, .int .i64 0, .int .i64 0, .int .i64 0, .int .i64 0, .int .i64 0, .int .i64 0, .slice none 0 0, .int .i64 0, .int .i64 0, .int .i64 0, .int .i64 0, .int .i64 0, .slice none 0 0, .slice none 0 0])) := Kp.cells (by omega) _ _ _ HK0.out
  have HRI : Hid (Row (((w.alloc (.cells #[.int .i64 0, .int .i64 0, .int .i64 0, .int .i64 0, .int .i64 0, .slice none 0 0, .int .i64 0, .int .i64 0, .int .i64 0, .int .i64 0, .int .i64 0, .int .i64 0, .slice none 0 0, .int .i64 0, .int .i64 0, .int .i64 0, .int .i64 0, .int .i64 0, .slice none 0 0, .slice none 0 0] 228)).alloc (.cells #[.int .i64 0, .int .i64 0, .int .i64 0, .int .i64 0, .int .i64 0, .slice none 0 0, .int .i64 0, .int .i64 0, .int .i64 0, .int .i64 0, .int .i64 0, .int .i64 0, .slice none 0 0, .int .i64 0, .int .i64 0, .int .i64 0, .int .i64 0, .int .i64 0, .slice none 0 0, .slice none 0 0] 228)).setCells (w.heap.size + 1) 0 [.int .i64 3, .int .i64 0, .int .i64 0, .int .i64 0, .int .i64 0, .slice none 0 0, .int .i64 0, .int .i64 0, .int .i64 0, .int .i64 0, .int .i64 0, .int .i64 0, .slice none 0 0, .int .i64 0, .int .i64 0, .int .i64 0, .int .i64 0, .int .i64 0, .slice none 0 0, .slice none 0 0]) w.heap.size 20) := Row.far (by omega) _ _ _ HR0.out
  have HII : Hid (Row (((w.alloc (.cells #[.int .i64 0, .int .i64 0, .int .i64 0, .int .i64 0, .int .i64 0, .slice none 0 0, .int .i64 0, .int .i64 0, .int .i64 0, .int .i64 0, .int .i64 0, .int .i64 0, .slice none 0 0, .int .i64 0, .int .i64 0, .int .i64 0, .int .i64 0, .int .i64 0, .slice none 0 0, .slice none 0 0] 228)).alloc (.cells #[.int .i64 0, .int .i64 0, .int .i64 0, .int .i64 0, .int .i64 0, .slice none 0 0, .int .i64 0, .int .i64 0, .int .i64 0, .int .i64 0, .int .i64 0, .int .i64 0, .slice none 0 0, .int .i64 0, .int .i64 0, .int .i64 0, .int .i64 0, .int .i64 0, .slice none 0 0, .slice none 0 0] 228)).setCells (w.heap.size + 1) 0 [.int .i64 3, .int .i64 0, .int .i64 0, .int .i64 0, .int .i64 0, .slice none 0 0, .int .i64 0, .int .i64 0, .int .i64 0, .int .i64 0, .int .i64 0, .int .i64 0, .slice none 0 0, .int .i64 0, .int .i64 0, .int .i64 0, .int .i64 0, .int .i64 0, .slice none 0 0, .slice none 0 0]) (w.heap.size + 1) 20) := Row.cells _ _ _ HI0.out (by simp) (List.all_eq_true.1 hall0)
  have hzI : w.heap.size + 1 < (((w.alloc (.cells #[.int .i64 0, .int .i64 0, .int .i64 0, .int .i64 0, .int .i64 0, .slice none 0 0, .int .i64 0, .int .i64 0, .int .i64 0, .int .i64 0, .int .i64 0, .int .i64 0, .slice none 0 0, .int .i64 0, .int .i64 0, .int .i64 0, .int .i64 0, .int .i64 0, .slice none 0 0, .slice none 0 0] 228)).alloc (.cells #[.int .i64 0, .int .i64 0, .int .i64 0, .int .i64 0, .int .i64 0, .slice none 0 0, .int .i64 0, .int .i64 0, .int .i64 0, .int .i64 0, .int .i64 0, .int .i64 0, .slice none 0 0, .int .i64 0, .int .i64 0, .int .i64 0, .int .i64 0, .int .i64 0, .slice none 0 0, .slice none 0 0] 228)).setCells (w.heap.size + 1) 0 [.int .i64 3, .int .i64 0, .int .i64 0, .int .i64 0, .int .i64 0, .slice none 0 0, .int .i64 0, .int .i64 0, .int .i64 0, .int .i64 0, .int .i64 0, .int .i64 0, .slice none 0 0, .int .i64 0, .int .i64 0, .int .i64 0, .int .i64 0, .int .i64 0, .slice none 0 0, .slice none 0 0]).heap.size := by rw [size_cells]; exact hzA
  have HP0 : Hid (World.rangeAt (((w.alloc (.cells #[.int .i64 0, .int .i64 0, .int .i64 0, .int .i64 0, .int .i64 0, .slice none 0 0, .int .i64 0, .int .i64 0, .int .i64 0, .int .i64 0, .int .i64 0, .int .i64 0, .slice none 0 0, .int .i64 0, .int .i64 0, .int .i64 0, .int .i64 0, .int .i64 0, .slice none 0 0, .slice none 0 0] 228)).alloc (.cells #[.int .i64 0, .int .i64 0, .int .i64 0, .int .i64 0, .int .i64 0, .slice none 0 0, .int .i64 0, .int .i64 0, .int .i64 0, .int .i64 0, .int .i64 0, .int .i64 0, .slice none 0 0, .int .i64 0, .int .i64 0, .int .i64 0, .int .i64 0, .int .i64 0, .slice none 0 0, .slice none 0 0] 228)).setCells (w.heap.size + 1) 0 [.int .i64 3, .int .i64 0, .int .i64 0, .int .i64 0, .int .i64 0, .slice none 0 0, .int .i64 0, .int .i64 0, .int .i64 0, .int .i64 0, .int .i64 0, .int .i64 0, .slice none 0 0, .int .i64 0, .int .i64 0, .int .i64 0, .int .i64 0, .int .i64 0, .slice none 0 0, .slice none 0 0]) (w.heap.size + 1) 0 [.int .i64 3]) := range_first (World.rangeAt_setCells_same _ _ _ _ htt)
  have HAL : Hid _ := hal1
  have HTT : Hid _ := htt
  clear h ho hall0 hal1 htt
  go_enter Tryz.func227, Tryz.ntmps227
  go_wp2_with (refine wpList_store_mid rfl 228 (.tmp 3) (.tmp 4) rfl (w.heap.size + 1) 0 #[.int .i64 3, .int .i64 0, .int .i64 0, .int .i64 0, .int .i64 0, .slice none 0 0, .int .i64 0, .int .i64 0, .int .i64 0, .int .i64 0, .int .i64 0, .int .i64 0, .slice none 0 0, .int .i64 0, .int .i64 0, .int .i64 0, .int .i64 0, .int .i64 0, .slice none 0 0, .slice none 0 0] rfl rfl ?_ ?_ ?_ ?_; (exact HTT.out); (exact Tryz.infoCmd); (exact HAL.out))
  refine (enter_c hk hn b tb cap _ σ HAI.out HO0.out HKD.out).mono ?_
  rintro e w1 ⟨rfl, hA, hK⟩
  have HA1 : Hid (At w1 b tb cap (T3 toks len) (σ.ent (T3 toks len))) := hA
  have HK1 : Hid (Kp b w w1) := HKI.out.trans hK
  have HR1 : Hid (Row w1 w.heap.size 20) := HRI.out.kp hK hb (by have := hzI; omega)
  have HI1 : Hid (Row w1 (w.heap.size + 1) 20) := HII.out.kp hK hb1 hzI
  have hz1 : w.heap.size + 1 < w1.heap.size := by have h1 := hK.size; have h2 := hzI; omega
  have HP0v1 : Hid (World.rangeAt w1 (w.heap.size + 1) 0 [.int .i64 3]) := range_kp HP0.out hK hb1 hzI
  clear hA hK
  go_wp2_with fail
  refine (formula_any hk hn b tb cap _ _ HA1.out HE.out.1).mono ?_
  rintro e w2 ⟨v2, σ2, rfl, ⟨f2, fp2, fn2, fm2, fr2, fa2, fb2, fc2, fd2, rfl⟩, hA, hG, hK, hS, hR⟩
  have HA2 : Hid (At w2 b tb cap (T3 toks len) σ2) := hA
  have HK2 : Hid (Kp b w w2) := HK1.out.trans hK
  have HR2 : Hid (Row w2 w.heap.size 20) := HR1.out.kp hK hb (by have := hz1; omega)
  have HI2 : Hid (Row w2 (w.heap.size + 1) 20) := HI1.out.kp hK hb1 hz1
  have hz2 : w.heap.size + 1 < w2.heap.size := by have h1 := hK.size; have h2 := hz1; omega
  have HP0v2 : Hid (World.rangeAt w2 (w.heap.size + 1) 0 [.int .i64 3]) := range_kp HP0v1.out hK hb1 hz1
  have HM2 : Hid (σ2.e = 0 → FM toks (σ.ent (T3 toks len)).pos σ2.pos (fun g => w.heap.size + 1 < g) w2 [.int .i64 f2, .slice fp2 fn2 fm2, .int .i64 fr2, .int .i64 fa2, .int .i64 fb2, .int .i64 fc2, .int .i64 fd2]) := fun he => FM.of (hR he) (fun g h1 h2 => by have h3 := hz1; omega)
  clear hR
  have HG2 : Hid (Goes toks.length (σ.ent (T3 toks len)) σ2) := hG
  have HS2 : Hid (∀ st, fin toks len (σ.ent (T3 toks len)) (cFormula :: st) = fin toks len σ2 st) := hS
  clear hA hK hG hS
  have ht2 := HI2.out.there 4 7 (by omega)
  go_wp2_with (refine wpList_store_mid rfl 98 _ _ rfl (w.heap.size + 1) 4 #[.int .i64 f2, .slice fp2 fn2 fm2, .int .i64 fr2, .int .i64 fa2, .int .i64 fb2, .int .i64 fc2, .int .i64 fd2] rfl rfl ?_ ?_ ?_ ?_; (exact ht2); (exact Tryz.infoFrm); (exact one7 _ _ _ _ _ _ _ _ _))
  have HA2s : Hid (At (w2.setCells (w.heap.size + 1) 4 [.int .i64 f2, .slice fp2 fn2 fm2, .int .i64 fr2, .int .i64 fa2, .int .i64 fb2, .int .i64 fc2, .int .i64 fd2]) b tb cap (T3 toks len) σ2) := At.cells hb1 htb1 _ _ _ HA2.out
  have HK2s : Hid (Kp b w (w2.setCells (w.heap.size + 1) 4 [.int .i64 f2, .slice fp2 fn2 fm2, .int .i64 fr2, .int .i64 fa2, .int .i64 fb2, .int .i64 fc2, .int .i64 fd2])) := Kp.cells (by omega) _ _ _ HK2.out
  have HR2s : Hid (Row (w2.setCells (w.heap.size + 1) 4 [.int .i64 f2, .slice fp2 fn2 fm2, .int .i64 fr2, .int .i64 fa2, .int .i64 fb2, .int .i64 fc2, .int .i64 fd2]) w.heap.size 20) := Row.far (by omega) _ _ _ HR2.out
  have HI2s : Hid (Row (w2.setCells (w.heap.size + 1) 4 [.int .i64 f2, .slice fp2 fn2 fm2, .int .i64 fr2, .int .i64 fa2, .int .i64 fb2, .int .i64 fc2, .int .i64 fd2]) (w.heap.size + 1) 20) := Row.cells _ _ _ HI2.out (by simp) (all_mem (one7 _ _ _ _ _ _ _ _ _))
  have hz2s : w.heap.size + 1 < (w2.setCells (w.heap.size + 1) 4 [.int .i64 f2, .slice fp2 fn2 fm2, .int .i64 fr2, .int .i64 fa2, .int .i64 fb2, .int .i64 fc2, .int .i64 fd2]).heap.size := by rw [size_cells]; exact hz2
  have HP0v2s : Hid (World.rangeAt (w2.setCells (w.heap.size + 1) 4 [.int .i64 f2, .slice fp2 fn2 fm2, .int .i64 fr2, .int .i64 fa2, .int .i64 fb2, .int .i64 fc2, .int .i64 fd2]) (w.heap.size + 1) 0 [.int .i64 3]) := World.rangeAt_setCells_apart HP0v2.out _ _ _ (Or.inr (by simp))
  have HM2v2s : Hid (σ2.e = 0 → FM toks (σ.ent (T3 toks len)).pos σ2.pos (fun g => w.heap.size + 1 < g) (w2.setCells (w.heap.size + 1) 4 [.int .i64 f2, .slice fp2 fn2 fm2, .int .i64 fr2, .int .i64 fa2, .int .i64 fb2, .int .i64 fc2, .int .i64 fd2]) [.int .i64 f2, .slice fp2 fn2 fm2, .int .i64 fr2, .int .i64 fa2, .int .i64 fb2, .int .i64 fc2, .int .i64 fd2]) := fun he => (HM2.out he).same (same_sets _ _ (fun h => by omega) _ _ _)
  have HP2 : Hid (World.rangeAt (w2.setCells (w.heap.size + 1) 4 [.int .i64 f2, .slice fp2 fn2 fm2, .int .i64 fr2, .int .i64 fa2, .int .i64 fb2, .int .i64 fc2, .int .i64 fd2]) (w.heap.size + 1) 4 [.int .i64 f2, .slice fp2 fn2 fm2, .int .i64 fr2, .int .i64 fa2, .int .i64 fb2, .int .i64 fc2, .int .i64 fd2]) := World.rangeAt_setCells_same _ _ _ _ ht2
  go_wp2_with fail
  refine (expect_v hn b tb cap 22 _ _ HA2s.out HG2.out.1).mono ?_
  rintro e w3 ⟨x3, hx3, rfl, hA, hK⟩
  have HX3 : Hid _ := hx3
  clear hx3
  have HA3 : Hid (At w3 b tb cap (T3 toks len) (σ2.exp (T3 toks len) 22)) := hA
  have HK3 : Hid (Kp b w w3) := HK2s.out.trans hK
  have HR3 : Hid (Row w3 w.heap.size 20) := HR2s.out.kp hK hb (by have := hz2s; omega)
  have HI3 : Hid (Row w3 (w.heap.size + 1) 20) := HI2s.out.kp hK hb1 hz2s
  have hz3 : w.heap.size + 1 < w3.heap.size := by have h1 := hK.size; have h2 := hz2s; omega
  have HP0v3 : Hid (World.rangeAt w3 (w.heap.size + 1) 0 [.int .i64 3]) := range_kp HP0v2s.out hK hb1 hz2s
  have HP2v3 : Hid (World.rangeAt w3 (w.heap.size + 1) 4 [.int .i64 f2, .slice fp2 fn2 fm2, .int .i64 fr2, .int .i64 fa2, .int .i64 fb2, .int .i64 fc2, .int .i64 fd2]) := range_kp HP2.out hK hb1 hz2s
  have HM2v3 : Hid (σ2.e = 0 → FM toks (σ.ent (T3 toks len)).pos σ2.pos (fun g => w.heap.size + 1 < g) w3 [.int .i64 f2, .slice fp2 fn2 fm2, .int .i64 fr2, .int .i64 fa2, .int .i64 fb2, .int .i64 fc2, .int .i64 fd2]) := fun he => (HM2v2s.out he).same (hK.same (fun h => by omega))
  clear hA hK
  have HG3 : Hid (Goes toks.length σ2 (σ2.exp (T3 toks len) 22)) := goes_exp hk HG2.out.1 22
  go_wp2_with fail
  refine (formula_any hk hn b tb cap _ _ HA3.out HG3.out.1).mono ?_
  rintro e w4 ⟨v4, σ4, rfl, ⟨f4, fp4, fn4, fm4, fr4, fa4, fb4, fc4, fd4, rfl⟩, hA, hG, hK, hS, hR⟩
  have HA4 : Hid (At w4 b tb cap (T3 toks len) σ4) := hA
  have HK4 : Hid (Kp b w w4) := HK3.out.trans hK
  have HR4 : Hid (Row w4 w.heap.size 20) := HR3.out.kp hK hb (by have := hz3; omega)
  have HI4 : Hid (Row w4 (w.heap.size + 1) 20) := HI3.out.kp hK hb1 hz3
  have hz4 : w.heap.size + 1 < w4.heap.size := by have h1 := hK.size; have h2 := hz3; omega
  have HP0v4 : Hid (World.rangeAt w4 (w.heap.size + 1) 0 [.int .i64 3]) := range_kp HP0v3.out hK hb1 hz3
  have HP2v4 : Hid (World.rangeAt w4 (w.heap.size + 1) 4 [.int .i64 f2, .slice fp2 fn2 fm2, .int .i64 fr2, .int .i64 fa2, .int .i64 fb2, .int .i64 fc2, .int .i64 fd2]) := range_kp HP2v3.out hK hb1 hz3
  have HM2v4 : Hid (σ2.e = 0 → FM toks (σ.ent (T3 toks len)).pos σ2.pos (fun g => w.heap.size + 1 < g) w4 [.int .i64 f2, .slice fp2 fn2 fm2, .int .i64 fr2, .int .i64 fa2, .int .i64 fb2, .int .i64 fc2, .int .i64 fd2]) := fun he => (HM2v3.out he).same (hK.same (fun h => by omega))
  have HM4 : Hid (σ4.e = 0 → FM toks (σ2.exp (T3 toks len) 22).pos σ4.pos (fun g => w.heap.size + 1 < g) w4 [.int .i64 f4, .slice fp4 fn4 fm4, .int .i64 fr4, .int .i64 fa4, .int .i64 fb4, .int .i64 fc4, .int .i64 fd4]) := fun he => FM.of (hR he) (fun g h1 h2 => by have h3 := hz3; omega)
  clear hR
  have HG4 : Hid (Goes toks.length (σ2.exp (T3 toks len) 22) σ4) := hG
  have HS4 : Hid (∀ st, fin toks len (σ2.exp (T3 toks len) 22) (cFormula :: st) = fin toks len σ4 st) := hS
  clear hA hK hG hS
  have ht4 := HI4.out.there 11 7 (by omega)
  go_wp2_with (refine wpList_store_mid rfl 98 _ _ rfl (w.heap.size + 1) 11 #[.int .i64 f4, .slice fp4 fn4 fm4, .int .i64 fr4, .int .i64 fa4, .int .i64 fb4, .int .i64 fc4, .int .i64 fd4] rfl rfl ?_ ?_ ?_ ?_; (exact ht4); (exact Tryz.infoFrm); (exact one7 _ _ _ _ _ _ _ _ _))
  have HA4s : Hid (At (w4.setCells (w.heap.size + 1) 11 [.int .i64 f4, .slice fp4 fn4 fm4, .int .i64 fr4, .int .i64 fa4, .int .i64 fb4, .int .i64 fc4, .int .i64 fd4]) b tb cap (T3 toks len) σ4) := At.cells hb1 htb1 _ _ _ HA4.out
  have HK4s : Hid (Kp b w (w4.setCells (w.heap.size + 1) 11 [.int .i64 f4, .slice fp4 fn4 fm4, .int .i64 fr4, .int .i64 fa4, .int .i64 fb4, .int .i64 fc4, .int .i64 fd4])) := Kp.cells (by omega) _ _ _ HK4.out
  have HR4s : Hid (Row (w4.setCells (w.heap.size + 1) 11 [.int .i64 f4, .slice fp4 fn4 fm4, .int .i64 fr4, .int .i64 fa4, .int .i64 fb4, .int .i64 fc4, .int .i64 fd4]) w.heap.size 20) := Row.far (by omega) _ _ _ HR4.out
  have HI4s : Hid (Row (w4.setCells (w.heap.size + 1) 11 [.int .i64 f4, .slice fp4 fn4 fm4, .int .i64 fr4, .int .i64 fa4, .int .i64 fb4, .int .i64 fc4, .int .i64 fd4]) (w.heap.size + 1) 20) := Row.cells _ _ _ HI4.out (by simp) (all_mem (one7 _ _ _ _ _ _ _ _ _))
  have hz4s : w.heap.size + 1 < (w4.setCells (w.heap.size + 1) 11 [.int .i64 f4, .slice fp4 fn4 fm4, .int .i64 fr4, .int .i64 fa4, .int .i64 fb4, .int .i64 fc4, .int .i64 fd4]).heap.size := by rw [size_cells]; exact hz4
  have HP0v4s : Hid (World.rangeAt (w4.setCells (w.heap.size + 1) 11 [.int .i64 f4, .slice fp4 fn4 fm4, .int .i64 fr4, .int .i64 fa4, .int .i64 fb4, .int .i64 fc4, .int .i64 fd4]) (w.heap.size + 1) 0 [.int .i64 3]) := World.rangeAt_setCells_apart HP0v4.out _ _ _ (Or.inr (by simp))
  have HP2v4s : Hid (World.rangeAt (w4.setCells (w.heap.size + 1) 11 [.int .i64 f4, .slice fp4 fn4 fm4, .int .i64 fr4, .int .i64 fa4, .int .i64 fb4, .int .i64 fc4, .int .i64 fd4]) (w.heap.size + 1) 4 [.int .i64 f2, .slice fp2 fn2 fm2, .int .i64 fr2, .int .i64 fa2, .int .i64 fb2, .int .i64 fc2, .int .i64 fd2]) := World.rangeAt_setCells_apart HP2v4.out _ _ _ (Or.inr (by simp))
  have HM2v4s : Hid (σ2.e = 0 → FM toks (σ.ent (T3 toks len)).pos σ2.pos (fun g => w.heap.size + 1 < g) (w4.setCells (w.heap.size + 1) 11 [.int .i64 f4, .slice fp4 fn4 fm4, .int .i64 fr4, .int .i64 fa4, .int .i64 fb4, .int .i64 fc4, .int .i64 fd4]) [.int .i64 f2, .slice fp2 fn2 fm2, .int .i64 fr2, .int .i64 fa2, .int .i64 fb2, .int .i64 fc2, .int .i64 fd2]) := fun he => (HM2v4.out he).same (same_sets _ _ (fun h => by omega) _ _ _)
  have HM4v4s : Hid (σ4.e = 0 → FM toks (σ2.exp (T3 toks len) 22).pos σ4.pos (fun g => w.heap.size + 1 < g) (w4.setCells (w.heap.size + 1) 11 [.int .i64 f4, .slice fp4 fn4 fm4, .int .i64 fr4, .int .i64 fa4, .int .i64 fb4, .int .i64 fc4, .int .i64 fd4]) [.int .i64 f4, .slice fp4 fn4 fm4, .int .i64 fr4, .int .i64 fa4, .int .i64 fb4, .int .i64 fc4, .int .i64 fd4]) := fun he => (HM4.out he).same (same_sets _ _ (fun h => by omega) _ _ _)
  have HP4 : Hid (World.rangeAt (w4.setCells (w.heap.size + 1) 11 [.int .i64 f4, .slice fp4 fn4 fm4, .int .i64 fr4, .int .i64 fa4, .int .i64 fb4, .int .i64 fc4, .int .i64 fd4]) (w.heap.size + 1) 11 [.int .i64 f4, .slice fp4 fn4 fm4, .int .i64 fr4, .int .i64 fa4, .int .i64 fb4, .int .i64 fc4, .int .i64 fd4]) := World.rangeAt_setCells_same _ _ _ _ ht4
  go_wp2_with fail
  refine (expect_v hn b tb cap 14 _ _ HA4s.out HG4.out.1).mono ?_
  rintro e w5 ⟨x5, hx5, rfl, hA, hK⟩
  have HX5 : Hid _ := hx5
  clear hx5
  have HA5 : Hid (At w5 b tb cap (T3 toks len) (σ4.exp (T3 toks len) 14)) := hA
  have HK5 : Hid (Kp b w w5) := HK4s.out.trans hK
  have HR5 : Hid (Row w5 w.heap.size 20) := HR4s.out.kp hK hb (by have := hz4s; omega)
  have HI5 : Hid (Row w5 (w.heap.size + 1) 20) := HI4s.out.kp hK hb1 hz4s
  have hz5 : w.heap.size + 1 < w5.heap.size := by have h1 := hK.size; have h2 := hz4s; omega
  have HP0v5 : Hid (World.rangeAt w5 (w.heap.size + 1) 0 [.int .i64 3]) := range_kp HP0v4s.out hK hb1 hz4s
  have HP2v5 : Hid (World.rangeAt w5 (w.heap.size + 1) 4 [.int .i64 f2, .slice fp2 fn2 fm2, .int .i64 fr2, .int .i64 fa2, .int .i64 fb2, .int .i64 fc2, .int .i64 fd2]) := range_kp HP2v4s.out hK hb1 hz4s
  have HP4v5 : Hid (World.rangeAt w5 (w.heap.size + 1) 11 [.int .i64 f4, .slice fp4 fn4 fm4, .int .i64 fr4, .int .i64 fa4, .int .i64 fb4, .int .i64 fc4, .int .i64 fd4]) := range_kp HP4.out hK hb1 hz4s
  have HM2v5 : Hid (σ2.e = 0 → FM toks (σ.ent (T3 toks len)).pos σ2.pos (fun g => w.heap.size + 1 < g) w5 [.int .i64 f2, .slice fp2 fn2 fm2, .int .i64 fr2, .int .i64 fa2, .int .i64 fb2, .int .i64 fc2, .int .i64 fd2]) := fun he => (HM2v4s.out he).same (hK.same (fun h => by omega))
  have HM4v5 : Hid (σ4.e = 0 → FM toks (σ2.exp (T3 toks len) 22).pos σ4.pos (fun g => w.heap.size + 1 < g) w5 [.int .i64 f4, .slice fp4 fn4 fm4, .int .i64 fr4, .int .i64 fa4, .int .i64 fb4, .int .i64 fc4, .int .i64 fd4]) := fun he => (HM4v4s.out he).same (hK.same (fun h => by omega))
  clear hA hK
  have HG5 : Hid (Goes toks.length σ4 (σ4.exp (T3 toks len) 14)) := goes_exp hk HG4.out.1 14
  go_wp2_with fail
  refine (HC.out _ _ HA5.out HG5.out.1 (by have h1 := HE.out.2.1; have h2 := HRR.out; have h3 := HLT.out; have g2 := HG2.out.2.1; have g3 := HG3.out.2.1; have g4 := HG4.out.2.1; have g5 := HG5.out.2.1; omega)).mono ?_
  rintro e w6 ⟨v6, σ6, rfl, ⟨p6, n6, m6, rfl⟩, hA, hG, hK, hS, hR⟩
  have HA6 : Hid (At w6 b tb cap (T3 toks len) σ6) := hA
  have HK6 : Hid (Kp b w w6) := HK5.out.trans hK
  have HR6 : Hid (Row w6 w.heap.size 20) := HR5.out.kp hK hb (by have := hz5; omega)
  have HI6 : Hid (Row w6 (w.heap.size + 1) 20) := HI5.out.kp hK hb1 hz5
  have hz6 : w.heap.size + 1 < w6.heap.size := by have h1 := hK.size; have h2 := hz5; omega
  have HP0v6 : Hid (World.rangeAt w6 (w.heap.size + 1) 0 [.int .i64 3]) := range_kp HP0v5.out hK hb1 hz5
  have HP2v6 : Hid (World.rangeAt w6 (w.heap.size + 1) 4 [.int .i64 f2, .slice fp2 fn2 fm2, .int .i64 fr2, .int .i64 fa2, .int .i64 fb2, .int .i64 fc2, .int .i64 fd2]) := range_kp HP2v5.out hK hb1 hz5
  have HP4v6 : Hid (World.rangeAt w6 (w.heap.size + 1) 11 [.int .i64 f4, .slice fp4 fn4 fm4, .int .i64 fr4, .int .i64 fa4, .int .i64 fb4, .int .i64 fc4, .int .i64 fd4]) := range_kp HP4v5.out hK hb1 hz5
  have HM2v6 : Hid (σ2.e = 0 → FM toks (σ.ent (T3 toks len)).pos σ2.pos (fun g => w.heap.size + 1 < g) w6 [.int .i64 f2, .slice fp2 fn2 fm2, .int .i64 fr2, .int .i64 fa2, .int .i64 fb2, .int .i64 fc2, .int .i64 fd2]) := fun he => (HM2v5.out he).same (hK.same (fun h => by omega))
  have HM4v6 : Hid (σ4.e = 0 → FM toks (σ2.exp (T3 toks len) 22).pos σ4.pos (fun g => w.heap.size + 1 < g) w6 [.int .i64 f4, .slice fp4 fn4 fm4, .int .i64 fr4, .int .i64 fa4, .int .i64 fb4, .int .i64 fc4, .int .i64 fd4]) := fun he => (HM4v5.out he).same (hK.same (fun h => by omega))
  have HM6 : Hid (σ6.e = 0 → CM toks (σ4.exp (T3 toks len) 14).pos σ6.pos (fun g => w.heap.size + 1 < g) w6 p6 n6 m6) := fun he => CM.of (hR he) (fun g h1 h2 => by have h3 := hz5; omega)
  clear hR
  have HG6 : Hid (Goes toks.length (σ4.exp (T3 toks len) 14) σ6) := hG
  have HS6 : Hid (∀ st, fin toks len (σ4.exp (T3 toks len) 14) (cCommands :: st) = fin toks len σ6 st) := hS
  clear hA hK hG hS
  obtain ⟨⟨u6_18, hu6_18⟩, hv6_18⟩ := HI6.out.cell 18 (by omega)
  have HA6s : Hid (At (w6.setCell ⟨w.heap.size + 1, 18, none⟩ (.slice p6 n6 m6)) b tb cap (T3 toks len) σ6) := (HA6.out.other _ _ _ hb1 htb1)
  have HK6s : Hid (Kp b w (w6.setCell ⟨w.heap.size + 1, 18, none⟩ (.slice p6 n6 m6))) := (HK6.out.fresh _ _ _ (by omega))
  have HR6s : Hid (Row (w6.setCell ⟨w.heap.size + 1, 18, none⟩ (.slice p6 n6 m6)) w.heap.size 20) := (HR6.out.other _ _ _ (by omega))
  have HI6s : Hid (Row (w6.setCell ⟨w.heap.size + 1, 18, none⟩ (.slice p6 n6 m6)) (w.heap.size + 1) 20) := (HI6.out.set _ _ (by omega) rfl)
  have hz6s : w.heap.size + 1 < (w6.setCell ⟨w.heap.size + 1, 18, none⟩ (.slice p6 n6 m6)).heap.size := by rw [ssize]; exact hz6
  have HP0v6s : Hid (World.rangeAt (w6.setCell ⟨w.heap.size + 1, 18, none⟩ (.slice p6 n6 m6)) (w.heap.size + 1) 0 [.int .i64 3]) := (range_set HP0v6.out 18 _ (by simp))
  have HP2v6s : Hid (World.rangeAt (w6.setCell ⟨w.heap.size + 1, 18, none⟩ (.slice p6 n6 m6)) (w.heap.size + 1) 4 [.int .i64 f2, .slice fp2 fn2 fm2, .int .i64 fr2, .int .i64 fa2, .int .i64 fb2, .int .i64 fc2, .int .i64 fd2]) := (range_set HP2v6.out 18 _ (by simp))
  have HP4v6s : Hid (World.rangeAt (w6.setCell ⟨w.heap.size + 1, 18, none⟩ (.slice p6 n6 m6)) (w.heap.size + 1) 11 [.int .i64 f4, .slice fp4 fn4 fm4, .int .i64 fr4, .int .i64 fa4, .int .i64 fb4, .int .i64 fc4, .int .i64 fd4]) := (range_set HP4v6.out 18 _ (by simp))
  have HM2v6s : Hid (σ2.e = 0 → FM toks (σ.ent (T3 toks len)).pos σ2.pos (fun g => w.heap.size + 1 < g) (w6.setCell ⟨w.heap.size + 1, 18, none⟩ (.slice p6 n6 m6)) [.int .i64 f2, .slice fp2 fn2 fm2, .int .i64 fr2, .int .i64 fa2, .int .i64 fb2, .int .i64 fc2, .int .i64 fd2]) := fun he => ((HM2v6.out he).same (same_set _ _ _ _ _ (fun h => by omega)))
  have HM4v6s : Hid (σ4.e = 0 → FM toks (σ2.exp (T3 toks len) 22).pos σ4.pos (fun g => w.heap.size + 1 < g) (w6.setCell ⟨w.heap.size + 1, 18, none⟩ (.slice p6 n6 m6)) [.int .i64 f4, .slice fp4 fn4 fm4, .int .i64 fr4, .int .i64 fa4, .int .i64 fb4, .int .i64 fc4, .int .i64 fd4]) := fun he => ((HM4v6.out he).same (same_set _ _ _ _ _ (fun h => by omega)))
  have HM6v6s : Hid (σ6.e = 0 → CM toks (σ4.exp (T3 toks len) 14).pos σ6.pos (fun g => w.heap.size + 1 < g) (w6.setCell ⟨w.heap.size + 1, 18, none⟩ (.slice p6 n6 m6)) p6 n6 m6) := fun he => ((HM6.out he).same (same_set _ _ _ _ _ (fun h => by omega)))
  have HP6 : Hid (World.rangeAt (w6.setCell ⟨w.heap.size + 1, 18, none⟩ (.slice p6 n6 m6)) (w.heap.size + 1) 18 [.slice p6 n6 m6]) := range_put 18 _ ⟨_, hu6_18⟩
  go_wp2_with fail
  refine (expect_v hn b tb cap 20 _ _ HA6s.out HG6.out.1).mono ?_
  rintro e w7 ⟨x7, hx7, rfl, hA, hK⟩
  have HX7 : Hid _ := hx7
  clear hx7
  have HA7 : Hid (At w7 b tb cap (T3 toks len) (σ6.exp (T3 toks len) 20)) := hA
  have HK7 : Hid (Kp b w w7) := HK6s.out.trans hK
  have HR7 : Hid (Row w7 w.heap.size 20) := HR6s.out.kp hK hb (by have := hz6s; omega)
  have HI7 : Hid (Row w7 (w.heap.size + 1) 20) := HI6s.out.kp hK hb1 hz6s
  have hz7 : w.heap.size + 1 < w7.heap.size := by have h1 := hK.size; have h2 := hz6s; omega
  have HP0v7 : Hid (World.rangeAt w7 (w.heap.size + 1) 0 [.int .i64 3]) := range_kp HP0v6s.out hK hb1 hz6s
  have HP2v7 : Hid (World.rangeAt w7 (w.heap.size + 1) 4 [.int .i64 f2, .slice fp2 fn2 fm2, .int .i64 fr2, .int .i64 fa2, .int .i64 fb2, .int .i64 fc2, .int .i64 fd2]) := range_kp HP2v6s.out hK hb1 hz6s
  have HP4v7 : Hid (World.rangeAt w7 (w.heap.size + 1) 11 [.int .i64 f4, .slice fp4 fn4 fm4, .int .i64 fr4, .int .i64 fa4, .int .i64 fb4, .int .i64 fc4, .int .i64 fd4]) := range_kp HP4v6s.out hK hb1 hz6s
  have HP6v7 : Hid (World.rangeAt w7 (w.heap.size + 1) 18 [.slice p6 n6 m6]) := range_kp HP6.out hK hb1 hz6s
  have HM2v7 : Hid (σ2.e = 0 → FM toks (σ.ent (T3 toks len)).pos σ2.pos (fun g => w.heap.size + 1 < g) w7 [.int .i64 f2, .slice fp2 fn2 fm2, .int .i64 fr2, .int .i64 fa2, .int .i64 fb2, .int .i64 fc2, .int .i64 fd2]) := fun he => (HM2v6s.out he).same (hK.same (fun h => by omega))
  have HM4v7 : Hid (σ4.e = 0 → FM toks (σ2.exp (T3 toks len) 22).pos σ4.pos (fun g => w.heap.size + 1 < g) w7 [.int .i64 f4, .slice fp4 fn4 fm4, .int .i64 fr4, .int .i64 fa4, .int .i64 fb4, .int .i64 fc4, .int .i64 fd4]) := fun he => (HM4v6s.out he).same (hK.same (fun h => by omega))
  have HM6v7 : Hid (σ6.e = 0 → CM toks (σ4.exp (T3 toks len) 14).pos σ6.pos (fun g => w.heap.size + 1 < g) w7 p6 n6 m6) := fun he => (HM6v6s.out he).same (hK.same (fun h => by omega))
  clear hA hK
  have HG7 : Hid (Goes toks.length σ6 (σ6.exp (T3 toks len) 20)) := goes_exp hk HG6.out.1 20
  go_wp2_with fail
  refine (leave_c b tb cap _ _ HA7.out).mono ?_
  rintro e w8 ⟨rfl, hA, hK⟩
  have HA8 : Hid (At w8 b tb cap (T3 toks len) (σ6.exp (T3 toks len) 20).lv) := hA
  have HK8 : Hid (Kp b w w8) := HK7.out.trans hK
  have HR8 : Hid (Row w8 w.heap.size 20) := HR7.out.kp hK hb (by have := hz7; omega)
  have HI8 : Hid (Row w8 (w.heap.size + 1) 20) := HI7.out.kp hK hb1 hz7
  have hz8 : w.heap.size + 1 < w8.heap.size := by have h1 := hK.size; have h2 := hz7; omega
  have HP0v8 : Hid (World.rangeAt w8 (w.heap.size + 1) 0 [.int .i64 3]) := range_kp HP0v7.out hK hb1 hz7
  have HP2v8 : Hid (World.rangeAt w8 (w.heap.size + 1) 4 [.int .i64 f2, .slice fp2 fn2 fm2, .int .i64 fr2, .int .i64 fa2, .int .i64 fb2, .int .i64 fc2, .int .i64 fd2]) := range_kp HP2v7.out hK hb1 hz7
  have HP4v8 : Hid (World.rangeAt w8 (w.heap.size + 1) 11 [.int .i64 f4, .slice fp4 fn4 fm4, .int .i64 fr4, .int .i64 fa4, .int .i64 fb4, .int .i64 fc4, .int .i64 fd4]) := range_kp HP4v7.out hK hb1 hz7
  have HP6v8 : Hid (World.rangeAt w8 (w.heap.size + 1) 18 [.slice p6 n6 m6]) := range_kp HP6v7.out hK hb1 hz7
  have HM2v8 : Hid (σ2.e = 0 → FM toks (σ.ent (T3 toks len)).pos σ2.pos (fun g => w.heap.size + 1 < g) w8 [.int .i64 f2, .slice fp2 fn2 fm2, .int .i64 fr2, .int .i64 fa2, .int .i64 fb2, .int .i64 fc2, .int .i64 fd2]) := fun he => (HM2v7.out he).same (hK.same (fun h => by omega))
  have HM4v8 : Hid (σ4.e = 0 → FM toks (σ2.exp (T3 toks len) 22).pos σ4.pos (fun g => w.heap.size + 1 < g) w8 [.int .i64 f4, .slice fp4 fn4 fm4, .int .i64 fr4, .int .i64 fa4, .int .i64 fb4, .int .i64 fc4, .int .i64 fd4]) := fun he => (HM4v7.out he).same (hK.same (fun h => by omega))
  have HM6v8 : Hid (σ6.e = 0 → CM toks (σ4.exp (T3 toks len) 14).pos σ6.pos (fun g => w.heap.size + 1 < g) w8 p6 n6 m6) := fun he => (HM6v7.out he).same (hK.same (fun h => by omega))
  clear hA hK
  obtain ⟨cs, hcs1, hcs2, hcs3, _⟩ := HI8.out
  have hall : cs.toArray.all (·.oneCell') = true := all_oneCell_toArray hcs3
  have hth := HR8.out.there 0 20 (by omega)
  have hi1 : (Tryz.prog.info? 228).map (·.size) = some cs.length := by rw [hcs2]; exact Tryz.infoCmd
  have hi2 : (Tryz.prog.info? 228).map (·.size) = some cs.toArray.size := by simpa using hi1
  have hth2 := HR8.out.there 0 cs.toArray.size (by simp; omega)
  have HH : Hid (cs.length = 20) := hcs2
  clear hth hcs2
  go_wp2_with (first | (refine wpList_load_mid rfl 228 (.tmp 3) rfl (w.heap.size + 1) 0 rfl cs _ ?_ Tryz.underlying228 rfl hi1 ?_; (exact hcs1)) | (refine wpList_store_mid rfl 228 (.tmp 2) (.tmp 24) rfl w.heap.size 0 cs.toArray rfl rfl ?_ hi2 hall ?_; (exact hth2)))
  refine postN cs Tryz.results227 rfl Tryz.underlying228 rfl Tryz.infoCmd HR8.out HH.out ⟨_, (σ6.exp (T3 toks len) 20).lv, rfl, ⟨cs.toArray, rfl, by simpa using HH.out, hall⟩, At.cells hb htb _ _ _ HA8.out, ?_, Kp.cells (Nat.le_refl _) _ _ _ HK8.out, ?_, ?_⟩
  · exact goes_lv HO0.out HE.out.2 (fun _ => HEE.out) (HG2.out.trans (HG3.out.trans (HG4.out.trans (HG5.out.trans (HG6.out.trans HG7.out)))))
  · intro st
    rw [HS0.out st, HS2.out, fin_exp hk HG2.out.1 (c := [107, 101, 101, 112]) (k := 22) (by decide) (by decide) (by decide), HS4.out, fin_exp hk HG4.out.1 (c := [100, 111]) (k := 14) (by decide) (by decide) (by decide), HS6.out, fin_shut hk HG6.out.1 (c := [101, 110, 100]) (k := 20) (by decide) (by decide) (by decide)]
  · intro he
    have q7 := exp_ok (len := len) hk (k := 20) (σ := σ6) he
    have q5 := exp_ok (len := len) hk (HG6.out.2.2 q7.2.1).1
    have q3 := exp_ok (len := len) hk (HG4.out.2.2 q5.2.1).1
    have q1 := ent_ok HKD.out (HG2.out.2.2 q3.2.1).1
    obtain ⟨f, rf, mf⟩ := (HM2v8.out q3.2.1).same (same_sets _ w.heap.size (fun h => by omega) cs 0 _) |>.mono (P' := fun g => w.heap.size ≤ g) (fun g h1 h2 => by omega)
    obtain ⟨d, rd, md⟩ := (HM4v8.out q5.2.1).same (same_sets _ w.heap.size (fun h => by omega) cs 0 _) |>.mono (P' := fun g => w.heap.size ≤ g) (fun g h1 h2 => by omega)
    obtain ⟨c, gc, yc, ec, rc, lc, mc⟩ := (HM6v8.out q7.2.1).same (same_sets _ w.heap.size (fun h => by omega) cs 0 _) |>.mono (P' := fun g => w.heap.size ≤ g) (fun g h1 h2 => by omega)
    rw [q1] at rf
    rw [q3.2.2 (by decide)] at rd
    rw [q5.2.2 (by decide)] at rc
    subst ec
    refine ⟨.loop f d c, cs, rfl, ?_, cs, rfl, HH.out, ?_, ?_, ?_, ⟨gc, _, _, yc, ?_, lc, mc⟩⟩
    · show Rc toks false σ.pos _ (σ6.exp (T3 toks len) 20).pos
      rw [q7.2.2 (by decide)]; exact .loop HSI.out rf rd rc
    · exact cs_get hcs1 HP0v8.out (by rw [HH.out]; simp) 0 (by simp)
    · have et : (cs.drop 4).take 7 = _ := cs_take hcs1 HP2v8.out (by rw [HH.out]; simp)
      rw [et]; exact mf
    · have et : (cs.drop 11).take 7 = _ := cs_take hcs1 HP4v8.out (by rw [HH.out]; simp)
      rw [et]; exact md
    · exact cs_get hcs1 HP6v8.out (by rw [HH.out]; simp) 0 (by simp)

/-- Nothing more is wanted: all is well just at the end of the text. -/
theorem fin_done (hk : AllTok toks) {σ : PSt} (ho : Ok toks.length σ) : fin toks len σ [] = if (σ.exp (T3 toks len) 0).e = 0 then (0, 0) else ((σ.exp (T3 toks len) 0).e, (σ.exp (T3 toks len) 0).pl) := by
  by_cases hkd : kd (T3 toks len) σ.pos = 0
  · have e : σ.exp (T3 toks len) 0 = σ := by unfold PSt.exp PSt.adv; rw [if_pos hkd, if_pos hkd]
    rw [e]
    by_cases he : σ.e = 0
    · rw [if_pos he]
      rcases look (len := len) hk σ ho.1 with ⟨t, i, _, g1, g2, _, _⟩ | ⟨_, _, _, g4⟩
      · have := tk_pos t g1; omega
      · unfold fin; rw [if_pos he, g4]; rfl
    · rw [if_neg he, fin_err he]
  · obtain ⟨h1, he⟩ := kd_lt hk ho hkd
    have e : σ.exp (T3 toks len) 0 = σ.ref (T3 toks len) 2 := by unfold PSt.exp; rw [if_neg hkd]
    rw [e, if_neg (ref_ne _ _ _ (by omega))]
    have hr := fin_ref (toks := toks) (len := len) (T3 toks len) he 2 (by omega) []
    rw [fin_err (ref_ne _ _ _ (by omega))] at hr
    rw [hr]
    rcases look (len := len) hk σ ho.1 with ⟨t, i, _, g1, g2, g3, g4⟩ | ⟨g1, _⟩
    · rw [g3]; unfold fin; rw [if_pos he, g4, runM_step]; rfl
    · omega

set_option maxRecDepth 100000 in
set_option maxHeartbeats 2000000 in
theorem program_c (hk : AllTok toks) (hn : toks.length ≤ 300) (b tb cap r : Nat) (IH : ComsC toks len b tb cap toks.length) (w : World) (σ : PSt) (h : At w b tb cap (T3 toks len) σ) (ho : Ok toks.length σ)  :
    Calls Tryz.prog 70 #[.pointer (some ⟨b, 0, none⟩)] w (PPost b tb cap toks len σ w (aggV 15) (fun σ' => fin toks len σ st0 = if σ'.e = 0 then (0, 0) else (σ'.e, σ'.pl)) (PrR toks σ.pos (fun g => w.heap.size ≤ g))) := by
  have H : Hid (At w b tb cap (T3 toks len) σ) := h
  have HO0 : Hid (Ok toks.length σ) := ho
  have hb := h.hb
  have htb := h.htb
  have hb1 : b < w.heap.size + 1 := by omega
  have htb1 : tb < w.heap.size + 1 := by omega
  have HC : Hid (ComsC toks len b tb cap toks.length) := IH
  clear IH
  have HA0 : Hid (At ((w.alloc (.cells #[.int .i64 0, .slice none 0 0, .int .i64 0, .int .i64 0, .int .i64 0, .int .i64 0, .int .i64 0, .slice none 0 0, .int .i64 0, .slice none 0 0, .int .i64 0, .int .i64 0, .int .i64 0, .int .i64 0, .int .i64 0] 101)).alloc (.cells #[.int .i64 0, .slice none 0 0, .int .i64 0, .int .i64 0, .int .i64 0, .int .i64 0, .int .i64 0, .slice none 0 0, .int .i64 0, .slice none 0 0, .int .i64 0, .int .i64 0, .int .i64 0, .int .i64 0, .int .i64 0] 101)) b tb cap (T3 toks len) σ) := (h.alloc _).alloc _
  have HK0 : Hid (Kp b w ((w.alloc (.cells #[.int .i64 0, .slice none 0 0, .int .i64 0, .int .i64 0, .int .i64 0, .int .i64 0, .int .i64 0, .slice none 0 0, .int .i64 0, .slice none 0 0, .int .i64 0, .int .i64 0, .int .i64 0, .int .i64 0, .int .i64 0] 101)).alloc (.cells #[.int .i64 0, .slice none 0 0, .int .i64 0, .int .i64 0, .int .i64 0, .int .i64 0, .int .i64 0, .slice none 0 0, .int .i64 0, .slice none 0 0, .int .i64 0, .int .i64 0, .int .i64 0, .int .i64 0, .int .i64 0] 101))) := ((Kp.refl b w).alloc _).alloc _
  have HR0 : Hid (Row ((w.alloc (.cells #[.int .i64 0, .slice none 0 0, .int .i64 0, .int .i64 0, .int .i64 0, .int .i64 0, .int .i64 0, .slice none 0 0, .int .i64 0, .slice none 0 0, .int .i64 0, .int .i64 0, .int .i64 0, .int .i64 0, .int .i64 0] 101)).alloc (.cells #[.int .i64 0, .slice none 0 0, .int .i64 0, .int .i64 0, .int .i64 0, .int .i64 0, .int .i64 0, .slice none 0 0, .int .i64 0, .slice none 0 0, .int .i64 0, .int .i64 0, .int .i64 0, .int .i64 0, .int .i64 0] 101)) w.heap.size 15) := (Row.new w #[.int .i64 0, .slice none 0 0, .int .i64 0, .int .i64 0, .int .i64 0, .int .i64 0, .int .i64 0, .slice none 0 0, .int .i64 0, .slice none 0 0, .int .i64 0, .int .i64 0, .int .i64 0, .int .i64 0, .int .i64 0] 101 (List.all_eq_true.1 (by rfl))).alloc (by rw [asize]; omega) _
  have HI0 : Hid (Row ((w.alloc (.cells #[.int .i64 0, .slice none 0 0, .int .i64 0, .int .i64 0, .int .i64 0, .int .i64 0, .int .i64 0, .slice none 0 0, .int .i64 0, .slice none 0 0, .int .i64 0, .int .i64 0, .int .i64 0, .int .i64 0, .int .i64 0] 101)).alloc (.cells #[.int .i64 0, .slice none 0 0, .int .i64 0, .int .i64 0, .int .i64 0, .int .i64 0, .int .i64 0, .slice none 0 0, .int .i64 0, .slice none 0 0, .int .i64 0, .int .i64 0, .int .i64 0, .int .i64 0, .int .i64 0] 101)) (w.heap.size + 1) 15) := by
    have := Row.new (w.alloc (.cells #[.int .i64 0, .slice none 0 0, .int .i64 0, .int .i64 0, .int .i64 0, .int .i64 0, .int .i64 0, .slice none 0 0, .int .i64 0, .slice none 0 0, .int .i64 0, .int .i64 0, .int .i64 0, .int .i64 0, .int .i64 0] 101)) #[.int .i64 0, .slice none 0 0, .int .i64 0, .int .i64 0, .int .i64 0, .int .i64 0, .int .i64 0, .slice none 0 0, .int .i64 0, .slice none 0 0, .int .i64 0, .int .i64 0, .int .i64 0, .int .i64 0, .int .i64 0] 101 (List.all_eq_true.1 (by rfl))
    rw [asize] at this; exact this
  have hzA : w.heap.size + 1 < ((w.alloc (.cells #[.int .i64 0, .slice none 0 0, .int .i64 0, .int .i64 0, .int .i64 0, .int .i64 0, .int .i64 0, .slice none 0 0, .int .i64 0, .slice none 0 0, .int .i64 0, .int .i64 0, .int .i64 0, .int .i64 0, .int .i64 0] 101)).alloc (.cells #[.int .i64 0, .slice none 0 0, .int .i64 0, .int .i64 0, .int .i64 0, .int .i64 0, .int .i64 0, .slice none 0 0, .int .i64 0, .slice none 0 0, .int .i64 0, .int .i64 0, .int .i64 0, .int .i64 0, .int .i64 0] 101)).heap.size := by rw [asize, asize]; omega
  clear h ho
  go_enter Tryz.func70, Tryz.ntmps70
  go_wp2_with fail
  refine (expect_v hn b tb cap 13 _ _ HA0.out HO0.out).mono ?_
  rintro e w1 ⟨x1, hx1, rfl, hA, hK⟩
  have HX1 : Hid _ := hx1
  clear hx1
  have HA1 : Hid (At w1 b tb cap (T3 toks len) (σ.exp (T3 toks len) 13)) := hA
  have HK1 : Hid (Kp b w w1) := HK0.out.trans hK
  have HR1 : Hid (Row w1 w.heap.size 15) := HR0.out.kp hK hb (by have := hzA; omega)
  have HI1 : Hid (Row w1 (w.heap.size + 1) 15) := HI0.out.kp hK hb1 hzA
  have hz1 : w.heap.size + 1 < w1.heap.size := by have h1 := hK.size; have h2 := hzA; omega
  clear hA hK
  have HG1 : Hid (Goes toks.length σ (σ.exp (T3 toks len) 13)) := goes_exp hk HO0.out 13
  go_wp2_with fail
  refine (formula_any hk hn b tb cap _ _ HA1.out HG1.out.1).mono ?_
  rintro e w2 ⟨v2, σ2, rfl, ⟨f2, fp2, fn2, fm2, fr2, fa2, fb2, fc2, fd2, rfl⟩, hA, hG, hK, hS, hR⟩
  have HA2 : Hid (At w2 b tb cap (T3 toks len) σ2) := hA
  have HK2 : Hid (Kp b w w2) := HK1.out.trans hK
  have HR2 : Hid (Row w2 w.heap.size 15) := HR1.out.kp hK hb (by have := hz1; omega)
  have HI2 : Hid (Row w2 (w.heap.size + 1) 15) := HI1.out.kp hK hb1 hz1
  have hz2 : w.heap.size + 1 < w2.heap.size := by have h1 := hK.size; have h2 := hz1; omega
  have HM2 : Hid (σ2.e = 0 → FM toks (σ.exp (T3 toks len) 13).pos σ2.pos (fun g => w.heap.size + 1 < g) w2 [.int .i64 f2, .slice fp2 fn2 fm2, .int .i64 fr2, .int .i64 fa2, .int .i64 fb2, .int .i64 fc2, .int .i64 fd2]) := fun he => FM.of (hR he) (fun g h1 h2 => by have h3 := hz1; omega)
  clear hR
  have HG2 : Hid (Goes toks.length (σ.exp (T3 toks len) 13) σ2) := hG
  have HS2 : Hid (∀ st, fin toks len (σ.exp (T3 toks len) 13) (cFormula :: st) = fin toks len σ2 st) := hS
  clear hA hK hG hS
  have ht2 := HI2.out.there 0 7 (by omega)
  go_wp2_with (refine wpList_store_mid rfl 98 _ _ rfl (w.heap.size + 1) 0 #[.int .i64 f2, .slice fp2 fn2 fm2, .int .i64 fr2, .int .i64 fa2, .int .i64 fb2, .int .i64 fc2, .int .i64 fd2] rfl rfl ?_ ?_ ?_ ?_; (exact ht2); (exact Tryz.infoFrm); (exact one7 _ _ _ _ _ _ _ _ _))
  have HA2s : Hid (At (w2.setCells (w.heap.size + 1) 0 [.int .i64 f2, .slice fp2 fn2 fm2, .int .i64 fr2, .int .i64 fa2, .int .i64 fb2, .int .i64 fc2, .int .i64 fd2]) b tb cap (T3 toks len) σ2) := At.cells hb1 htb1 _ _ _ HA2.out
  have HK2s : Hid (Kp b w (w2.setCells (w.heap.size + 1) 0 [.int .i64 f2, .slice fp2 fn2 fm2, .int .i64 fr2, .int .i64 fa2, .int .i64 fb2, .int .i64 fc2, .int .i64 fd2])) := Kp.cells (by omega) _ _ _ HK2.out
  have HR2s : Hid (Row (w2.setCells (w.heap.size + 1) 0 [.int .i64 f2, .slice fp2 fn2 fm2, .int .i64 fr2, .int .i64 fa2, .int .i64 fb2, .int .i64 fc2, .int .i64 fd2]) w.heap.size 15) := Row.far (by omega) _ _ _ HR2.out
  have HI2s : Hid (Row (w2.setCells (w.heap.size + 1) 0 [.int .i64 f2, .slice fp2 fn2 fm2, .int .i64 fr2, .int .i64 fa2, .int .i64 fb2, .int .i64 fc2, .int .i64 fd2]) (w.heap.size + 1) 15) := Row.cells _ _ _ HI2.out (by simp) (all_mem (one7 _ _ _ _ _ _ _ _ _))
  have hz2s : w.heap.size + 1 < (w2.setCells (w.heap.size + 1) 0 [.int .i64 f2, .slice fp2 fn2 fm2, .int .i64 fr2, .int .i64 fa2, .int .i64 fb2, .int .i64 fc2, .int .i64 fd2]).heap.size := by rw [size_cells]; exact hz2
  have HM2v2s : Hid (σ2.e = 0 → FM toks (σ.exp (T3 toks len) 13).pos σ2.pos (fun g => w.heap.size + 1 < g) (w2.setCells (w.heap.size + 1) 0 [.int .i64 f2, .slice fp2 fn2 fm2, .int .i64 fr2, .int .i64 fa2, .int .i64 fb2, .int .i64 fc2, .int .i64 fd2]) [.int .i64 f2, .slice fp2 fn2 fm2, .int .i64 fr2, .int .i64 fa2, .int .i64 fb2, .int .i64 fc2, .int .i64 fd2]) := fun he => (HM2.out he).same (same_sets _ _ (fun h => by omega) _ _ _)
  have HP2 : Hid (World.rangeAt (w2.setCells (w.heap.size + 1) 0 [.int .i64 f2, .slice fp2 fn2 fm2, .int .i64 fr2, .int .i64 fa2, .int .i64 fb2, .int .i64 fc2, .int .i64 fd2]) (w.heap.size + 1) 0 [.int .i64 f2, .slice fp2 fn2 fm2, .int .i64 fr2, .int .i64 fa2, .int .i64 fb2, .int .i64 fc2, .int .i64 fd2]) := World.rangeAt_setCells_same _ _ _ _ ht2
  go_wp2_with fail
  refine (expect_v hn b tb cap 14 _ _ HA2s.out HG2.out.1).mono ?_
  rintro e w3 ⟨x3, hx3, rfl, hA, hK⟩
  have HX3 : Hid _ := hx3
  clear hx3
  have HA3 : Hid (At w3 b tb cap (T3 toks len) (σ2.exp (T3 toks len) 14)) := hA
  have HK3 : Hid (Kp b w w3) := HK2s.out.trans hK
  have HR3 : Hid (Row w3 w.heap.size 15) := HR2s.out.kp hK hb (by have := hz2s; omega)
  have HI3 : Hid (Row w3 (w.heap.size + 1) 15) := HI2s.out.kp hK hb1 hz2s
  have hz3 : w.heap.size + 1 < w3.heap.size := by have h1 := hK.size; have h2 := hz2s; omega
  have HP2v3 : Hid (World.rangeAt w3 (w.heap.size + 1) 0 [.int .i64 f2, .slice fp2 fn2 fm2, .int .i64 fr2, .int .i64 fa2, .int .i64 fb2, .int .i64 fc2, .int .i64 fd2]) := range_kp HP2.out hK hb1 hz2s
  have HM2v3 : Hid (σ2.e = 0 → FM toks (σ.exp (T3 toks len) 13).pos σ2.pos (fun g => w.heap.size + 1 < g) w3 [.int .i64 f2, .slice fp2 fn2 fm2, .int .i64 fr2, .int .i64 fa2, .int .i64 fb2, .int .i64 fc2, .int .i64 fd2]) := fun he => (HM2v2s.out he).same (hK.same (fun h => by omega))
  clear hA hK
  have HG3 : Hid (Goes toks.length σ2 (σ2.exp (T3 toks len) 14)) := goes_exp hk HG2.out.1 14
  go_wp2_with fail
  refine (HC.out _ _ HA3.out HG3.out.1 (Nat.sub_le _ _)).mono ?_
  rintro e w4 ⟨v4, σ4, rfl, ⟨p4, n4, m4, rfl⟩, hA, hG, hK, hS, hR⟩
  have HA4 : Hid (At w4 b tb cap (T3 toks len) σ4) := hA
  have HK4 : Hid (Kp b w w4) := HK3.out.trans hK
  have HR4 : Hid (Row w4 w.heap.size 15) := HR3.out.kp hK hb (by have := hz3; omega)
  have HI4 : Hid (Row w4 (w.heap.size + 1) 15) := HI3.out.kp hK hb1 hz3
  have hz4 : w.heap.size + 1 < w4.heap.size := by have h1 := hK.size; have h2 := hz3; omega
  have HP2v4 : Hid (World.rangeAt w4 (w.heap.size + 1) 0 [.int .i64 f2, .slice fp2 fn2 fm2, .int .i64 fr2, .int .i64 fa2, .int .i64 fb2, .int .i64 fc2, .int .i64 fd2]) := range_kp HP2v3.out hK hb1 hz3
  have HM2v4 : Hid (σ2.e = 0 → FM toks (σ.exp (T3 toks len) 13).pos σ2.pos (fun g => w.heap.size + 1 < g) w4 [.int .i64 f2, .slice fp2 fn2 fm2, .int .i64 fr2, .int .i64 fa2, .int .i64 fb2, .int .i64 fc2, .int .i64 fd2]) := fun he => (HM2v3.out he).same (hK.same (fun h => by omega))
  have HM4 : Hid (σ4.e = 0 → CM toks (σ2.exp (T3 toks len) 14).pos σ4.pos (fun g => w.heap.size + 1 < g) w4 p4 n4 m4) := fun he => CM.of (hR he) (fun g h1 h2 => by have h3 := hz3; omega)
  clear hR
  have HG4 : Hid (Goes toks.length (σ2.exp (T3 toks len) 14) σ4) := hG
  have HS4 : Hid (∀ st, fin toks len (σ2.exp (T3 toks len) 14) (cCommands :: st) = fin toks len σ4 st) := hS
  clear hA hK hG hS
  obtain ⟨⟨u4_7, hu4_7⟩, hv4_7⟩ := HI4.out.cell 7 (by omega)
  have HA4s : Hid (At (w4.setCell ⟨w.heap.size + 1, 7, none⟩ (.slice p4 n4 m4)) b tb cap (T3 toks len) σ4) := (HA4.out.other _ _ _ hb1 htb1)
  have HK4s : Hid (Kp b w (w4.setCell ⟨w.heap.size + 1, 7, none⟩ (.slice p4 n4 m4))) := (HK4.out.fresh _ _ _ (by omega))
  have HR4s : Hid (Row (w4.setCell ⟨w.heap.size + 1, 7, none⟩ (.slice p4 n4 m4)) w.heap.size 15) := (HR4.out.other _ _ _ (by omega))
  have HI4s : Hid (Row (w4.setCell ⟨w.heap.size + 1, 7, none⟩ (.slice p4 n4 m4)) (w.heap.size + 1) 15) := (HI4.out.set _ _ (by omega) rfl)
  have hz4s : w.heap.size + 1 < (w4.setCell ⟨w.heap.size + 1, 7, none⟩ (.slice p4 n4 m4)).heap.size := by rw [ssize]; exact hz4
  have HP2v4s : Hid (World.rangeAt (w4.setCell ⟨w.heap.size + 1, 7, none⟩ (.slice p4 n4 m4)) (w.heap.size + 1) 0 [.int .i64 f2, .slice fp2 fn2 fm2, .int .i64 fr2, .int .i64 fa2, .int .i64 fb2, .int .i64 fc2, .int .i64 fd2]) := (range_set HP2v4.out 7 _ (by simp))
  have HM2v4s : Hid (σ2.e = 0 → FM toks (σ.exp (T3 toks len) 13).pos σ2.pos (fun g => w.heap.size + 1 < g) (w4.setCell ⟨w.heap.size + 1, 7, none⟩ (.slice p4 n4 m4)) [.int .i64 f2, .slice fp2 fn2 fm2, .int .i64 fr2, .int .i64 fa2, .int .i64 fb2, .int .i64 fc2, .int .i64 fd2]) := fun he => ((HM2v4.out he).same (same_set _ _ _ _ _ (fun h => by omega)))
  have HM4v4s : Hid (σ4.e = 0 → CM toks (σ2.exp (T3 toks len) 14).pos σ4.pos (fun g => w.heap.size + 1 < g) (w4.setCell ⟨w.heap.size + 1, 7, none⟩ (.slice p4 n4 m4)) p4 n4 m4) := fun he => ((HM4.out he).same (same_set _ _ _ _ _ (fun h => by omega)))
  have HP4 : Hid (World.rangeAt (w4.setCell ⟨w.heap.size + 1, 7, none⟩ (.slice p4 n4 m4)) (w.heap.size + 1) 7 [.slice p4 n4 m4]) := range_put 7 _ ⟨_, hu4_7⟩
  go_wp2_with fail
  refine (expect_v hn b tb cap 15 _ _ HA4s.out HG4.out.1).mono ?_
  rintro e w5 ⟨x5, hx5, rfl, hA, hK⟩
  have HX5 : Hid _ := hx5
  clear hx5
  have HA5 : Hid (At w5 b tb cap (T3 toks len) (σ4.exp (T3 toks len) 15)) := hA
  have HK5 : Hid (Kp b w w5) := HK4s.out.trans hK
  have HR5 : Hid (Row w5 w.heap.size 15) := HR4s.out.kp hK hb (by have := hz4s; omega)
  have HI5 : Hid (Row w5 (w.heap.size + 1) 15) := HI4s.out.kp hK hb1 hz4s
  have hz5 : w.heap.size + 1 < w5.heap.size := by have h1 := hK.size; have h2 := hz4s; omega
  have HP2v5 : Hid (World.rangeAt w5 (w.heap.size + 1) 0 [.int .i64 f2, .slice fp2 fn2 fm2, .int .i64 fr2, .int .i64 fa2, .int .i64 fb2, .int .i64 fc2, .int .i64 fd2]) := range_kp HP2v4s.out hK hb1 hz4s
  have HP4v5 : Hid (World.rangeAt w5 (w.heap.size + 1) 7 [.slice p4 n4 m4]) := range_kp HP4.out hK hb1 hz4s
  have HM2v5 : Hid (σ2.e = 0 → FM toks (σ.exp (T3 toks len) 13).pos σ2.pos (fun g => w.heap.size + 1 < g) w5 [.int .i64 f2, .slice fp2 fn2 fm2, .int .i64 fr2, .int .i64 fa2, .int .i64 fb2, .int .i64 fc2, .int .i64 fd2]) := fun he => (HM2v4s.out he).same (hK.same (fun h => by omega))
  have HM4v5 : Hid (σ4.e = 0 → CM toks (σ2.exp (T3 toks len) 14).pos σ4.pos (fun g => w.heap.size + 1 < g) w5 p4 n4 m4) := fun he => (HM4v4s.out he).same (hK.same (fun h => by omega))
  clear hA hK
  have HG5 : Hid (Goes toks.length σ4 (σ4.exp (T3 toks len) 15)) := goes_exp hk HG4.out.1 15
  go_wp2_with fail
  refine (formula_any hk hn b tb cap _ _ HA5.out HG5.out.1).mono ?_
  rintro e w6 ⟨v6, σ6, rfl, ⟨f6, fp6, fn6, fm6, fr6, fa6, fb6, fc6, fd6, rfl⟩, hA, hG, hK, hS, hR⟩
  have HA6 : Hid (At w6 b tb cap (T3 toks len) σ6) := hA
  have HK6 : Hid (Kp b w w6) := HK5.out.trans hK
  have HR6 : Hid (Row w6 w.heap.size 15) := HR5.out.kp hK hb (by have := hz5; omega)
  have HI6 : Hid (Row w6 (w.heap.size + 1) 15) := HI5.out.kp hK hb1 hz5
  have hz6 : w.heap.size + 1 < w6.heap.size := by have h1 := hK.size; have h2 := hz5; omega
  have HP2v6 : Hid (World.rangeAt w6 (w.heap.size + 1) 0 [.int .i64 f2, .slice fp2 fn2 fm2, .int .i64 fr2, .int .i64 fa2, .int .i64 fb2, .int .i64 fc2, .int .i64 fd2]) := range_kp HP2v5.out hK hb1 hz5
  have HP4v6 : Hid (World.rangeAt w6 (w.heap.size + 1) 7 [.slice p4 n4 m4]) := range_kp HP4v5.out hK hb1 hz5
  have HM2v6 : Hid (σ2.e = 0 → FM toks (σ.exp (T3 toks len) 13).pos σ2.pos (fun g => w.heap.size + 1 < g) w6 [.int .i64 f2, .slice fp2 fn2 fm2, .int .i64 fr2, .int .i64 fa2, .int .i64 fb2, .int .i64 fc2, .int .i64 fd2]) := fun he => (HM2v5.out he).same (hK.same (fun h => by omega))
  have HM4v6 : Hid (σ4.e = 0 → CM toks (σ2.exp (T3 toks len) 14).pos σ4.pos (fun g => w.heap.size + 1 < g) w6 p4 n4 m4) := fun he => (HM4v5.out he).same (hK.same (fun h => by omega))
  have HM6 : Hid (σ6.e = 0 → FM toks (σ4.exp (T3 toks len) 15).pos σ6.pos (fun g => w.heap.size + 1 < g) w6 [.int .i64 f6, .slice fp6 fn6 fm6, .int .i64 fr6, .int .i64 fa6, .int .i64 fb6, .int .i64 fc6, .int .i64 fd6]) := fun he => FM.of (hR he) (fun g h1 h2 => by have h3 := hz5; omega)
  clear hR
  have HG6 : Hid (Goes toks.length (σ4.exp (T3 toks len) 15) σ6) := hG
  have HS6 : Hid (∀ st, fin toks len (σ4.exp (T3 toks len) 15) (cFormula :: st) = fin toks len σ6 st) := hS
  clear hA hK hG hS
  have ht6 := HI6.out.there 8 7 (by omega)
  go_wp2_with (refine wpList_store_mid rfl 98 _ _ rfl (w.heap.size + 1) 8 #[.int .i64 f6, .slice fp6 fn6 fm6, .int .i64 fr6, .int .i64 fa6, .int .i64 fb6, .int .i64 fc6, .int .i64 fd6] rfl rfl ?_ ?_ ?_ ?_; (exact ht6); (exact Tryz.infoFrm); (exact one7 _ _ _ _ _ _ _ _ _))
  have HA6s : Hid (At (w6.setCells (w.heap.size + 1) 8 [.int .i64 f6, .slice fp6 fn6 fm6, .int .i64 fr6, .int .i64 fa6, .int .i64 fb6, .int .i64 fc6, .int .i64 fd6]) b tb cap (T3 toks len) σ6) := At.cells hb1 htb1 _ _ _ HA6.out
  have HK6s : Hid (Kp b w (w6.setCells (w.heap.size + 1) 8 [.int .i64 f6, .slice fp6 fn6 fm6, .int .i64 fr6, .int .i64 fa6, .int .i64 fb6, .int .i64 fc6, .int .i64 fd6])) := Kp.cells (by omega) _ _ _ HK6.out
  have HR6s : Hid (Row (w6.setCells (w.heap.size + 1) 8 [.int .i64 f6, .slice fp6 fn6 fm6, .int .i64 fr6, .int .i64 fa6, .int .i64 fb6, .int .i64 fc6, .int .i64 fd6]) w.heap.size 15) := Row.far (by omega) _ _ _ HR6.out
  have HI6s : Hid (Row (w6.setCells (w.heap.size + 1) 8 [.int .i64 f6, .slice fp6 fn6 fm6, .int .i64 fr6, .int .i64 fa6, .int .i64 fb6, .int .i64 fc6, .int .i64 fd6]) (w.heap.size + 1) 15) := Row.cells _ _ _ HI6.out (by simp) (all_mem (one7 _ _ _ _ _ _ _ _ _))
  have hz6s : w.heap.size + 1 < (w6.setCells (w.heap.size + 1) 8 [.int .i64 f6, .slice fp6 fn6 fm6, .int .i64 fr6, .int .i64 fa6, .int .i64 fb6, .int .i64 fc6, .int .i64 fd6]).heap.size := by rw [size_cells]; exact hz6
  have HP2v6s : Hid (World.rangeAt (w6.setCells (w.heap.size + 1) 8 [.int .i64 f6, .slice fp6 fn6 fm6, .int .i64 fr6, .int .i64 fa6, .int .i64 fb6, .int .i64 fc6, .int .i64 fd6]) (w.heap.size + 1) 0 [.int .i64 f2, .slice fp2 fn2 fm2, .int .i64 fr2, .int .i64 fa2, .int .i64 fb2, .int .i64 fc2, .int .i64 fd2]) := World.rangeAt_setCells_apart HP2v6.out _ _ _ (Or.inr (by simp))
  have HP4v6s : Hid (World.rangeAt (w6.setCells (w.heap.size + 1) 8 [.int .i64 f6, .slice fp6 fn6 fm6, .int .i64 fr6, .int .i64 fa6, .int .i64 fb6, .int .i64 fc6, .int .i64 fd6]) (w.heap.size + 1) 7 [.slice p4 n4 m4]) := World.rangeAt_setCells_apart HP4v6.out _ _ _ (Or.inr (by simp))
  have HM2v6s : Hid (σ2.e = 0 → FM toks (σ.exp (T3 toks len) 13).pos σ2.pos (fun g => w.heap.size + 1 < g) (w6.setCells (w.heap.size + 1) 8 [.int .i64 f6, .slice fp6 fn6 fm6, .int .i64 fr6, .int .i64 fa6, .int .i64 fb6, .int .i64 fc6, .int .i64 fd6]) [.int .i64 f2, .slice fp2 fn2 fm2, .int .i64 fr2, .int .i64 fa2, .int .i64 fb2, .int .i64 fc2, .int .i64 fd2]) := fun he => (HM2v6.out he).same (same_sets _ _ (fun h => by omega) _ _ _)
  have HM4v6s : Hid (σ4.e = 0 → CM toks (σ2.exp (T3 toks len) 14).pos σ4.pos (fun g => w.heap.size + 1 < g) (w6.setCells (w.heap.size + 1) 8 [.int .i64 f6, .slice fp6 fn6 fm6, .int .i64 fr6, .int .i64 fa6, .int .i64 fb6, .int .i64 fc6, .int .i64 fd6]) p4 n4 m4) := fun he => (HM4v6.out he).same (same_sets _ _ (fun h => by omega) _ _ _)
  have HM6v6s : Hid (σ6.e = 0 → FM toks (σ4.exp (T3 toks len) 15).pos σ6.pos (fun g => w.heap.size + 1 < g) (w6.setCells (w.heap.size + 1) 8 [.int .i64 f6, .slice fp6 fn6 fm6, .int .i64 fr6, .int .i64 fa6, .int .i64 fb6, .int .i64 fc6, .int .i64 fd6]) [.int .i64 f6, .slice fp6 fn6 fm6, .int .i64 fr6, .int .i64 fa6, .int .i64 fb6, .int .i64 fc6, .int .i64 fd6]) := fun he => (HM6.out he).same (same_sets _ _ (fun h => by omega) _ _ _)
  have HP6 : Hid (World.rangeAt (w6.setCells (w.heap.size + 1) 8 [.int .i64 f6, .slice fp6 fn6 fm6, .int .i64 fr6, .int .i64 fa6, .int .i64 fb6, .int .i64 fc6, .int .i64 fd6]) (w.heap.size + 1) 8 [.int .i64 f6, .slice fp6 fn6 fm6, .int .i64 fr6, .int .i64 fa6, .int .i64 fb6, .int .i64 fc6, .int .i64 fd6]) := World.rangeAt_setCells_same _ _ _ _ ht6
  go_wp2_with fail
  refine (expect_v hn b tb cap 0 _ _ HA6s.out HG6.out.1).mono ?_
  rintro e w7 ⟨x7, hx7, rfl, hA, hK⟩
  have HX7 : Hid _ := hx7
  clear hx7
  have HA7 : Hid (At w7 b tb cap (T3 toks len) (σ6.exp (T3 toks len) 0)) := hA
  have HK7 : Hid (Kp b w w7) := HK6s.out.trans hK
  have HR7 : Hid (Row w7 w.heap.size 15) := HR6s.out.kp hK hb (by have := hz6s; omega)
  have HI7 : Hid (Row w7 (w.heap.size + 1) 15) := HI6s.out.kp hK hb1 hz6s
  have hz7 : w.heap.size + 1 < w7.heap.size := by have h1 := hK.size; have h2 := hz6s; omega
  have HP2v7 : Hid (World.rangeAt w7 (w.heap.size + 1) 0 [.int .i64 f2, .slice fp2 fn2 fm2, .int .i64 fr2, .int .i64 fa2, .int .i64 fb2, .int .i64 fc2, .int .i64 fd2]) := range_kp HP2v6s.out hK hb1 hz6s
  have HP4v7 : Hid (World.rangeAt w7 (w.heap.size + 1) 7 [.slice p4 n4 m4]) := range_kp HP4v6s.out hK hb1 hz6s
  have HP6v7 : Hid (World.rangeAt w7 (w.heap.size + 1) 8 [.int .i64 f6, .slice fp6 fn6 fm6, .int .i64 fr6, .int .i64 fa6, .int .i64 fb6, .int .i64 fc6, .int .i64 fd6]) := range_kp HP6.out hK hb1 hz6s
  have HM2v7 : Hid (σ2.e = 0 → FM toks (σ.exp (T3 toks len) 13).pos σ2.pos (fun g => w.heap.size + 1 < g) w7 [.int .i64 f2, .slice fp2 fn2 fm2, .int .i64 fr2, .int .i64 fa2, .int .i64 fb2, .int .i64 fc2, .int .i64 fd2]) := fun he => (HM2v6s.out he).same (hK.same (fun h => by omega))
  have HM4v7 : Hid (σ4.e = 0 → CM toks (σ2.exp (T3 toks len) 14).pos σ4.pos (fun g => w.heap.size + 1 < g) w7 p4 n4 m4) := fun he => (HM4v6s.out he).same (hK.same (fun h => by omega))
  have HM6v7 : Hid (σ6.e = 0 → FM toks (σ4.exp (T3 toks len) 15).pos σ6.pos (fun g => w.heap.size + 1 < g) w7 [.int .i64 f6, .slice fp6 fn6 fm6, .int .i64 fr6, .int .i64 fa6, .int .i64 fb6, .int .i64 fc6, .int .i64 fd6]) := fun he => (HM6v6s.out he).same (hK.same (fun h => by omega))
  clear hA hK
  have HG7 : Hid (Goes toks.length σ6 (σ6.exp (T3 toks len) 0)) := goes_exp hk HG6.out.1 0
  obtain ⟨cs, hcs1, hcs2, hcs3, _⟩ := HI7.out
  have hall : cs.toArray.all (·.oneCell') = true := all_oneCell_toArray hcs3
  have hth := HR7.out.there 0 15 (by omega)
  have hi1 : (Tryz.prog.info? 101).map (·.size) = some cs.length := by rw [hcs2]; exact Tryz.infoPrg
  have hi2 : (Tryz.prog.info? 101).map (·.size) = some cs.toArray.size := by simpa using hi1
  have hth2 := HR7.out.there 0 cs.toArray.size (by simp; omega)
  have HH : Hid (cs.length = 15) := hcs2
  clear hth hcs2
  go_wp2_with (first | (refine wpList_load_mid rfl 101 (.tmp 3) rfl (w.heap.size + 1) 0 rfl cs _ ?_ Tryz.underlying101 rfl hi1 ?_; (exact hcs1)) | (refine wpList_store_mid rfl 101 (.tmp 2) (.tmp 21) rfl w.heap.size 0 cs.toArray rfl rfl ?_ hi2 hall ?_; (exact hth2)))
  refine postN cs Tryz.results70 rfl Tryz.underlying101 rfl Tryz.infoPrg HR7.out HH.out ⟨_, (σ6.exp (T3 toks len) 0), rfl, ⟨cs.toArray, rfl, by simpa using HH.out, hall⟩, At.cells hb htb _ _ _ HA7.out, ?_, Kp.cells (Nat.le_refl _) _ _ _ HK7.out, ?_, ?_⟩
  · exact HG1.out.trans (HG2.out.trans (HG3.out.trans (HG4.out.trans (HG5.out.trans (HG6.out.trans HG7.out)))))
  · show fin toks len σ ([102, 114, 111, 109] :: cFormula :: [100, 111] :: cCommands :: [116, 111] :: cFormula :: []) = _
    rw [fin_exp hk HO0.out (c := [102, 114, 111, 109]) (k := 13) (by decide) (by decide) (by decide), HS2.out, fin_exp hk HG2.out.1 (c := [100, 111]) (k := 14) (by decide) (by decide) (by decide), HS4.out, fin_exp hk HG4.out.1 (c := [116, 111]) (k := 15) (by decide) (by decide) (by decide), HS6.out]
    exact fin_done hk HG6.out.1
  · intro he
    have q7 := exp_ok (len := len) hk (k := 0) (σ := σ6) he
    have q5 := exp_ok (len := len) hk (HG6.out.2.2 q7.2.1).1
    have q3 := exp_ok (len := len) hk (HG4.out.2.2 q5.2.1).1
    have q1 := exp_ok (len := len) hk (HG2.out.2.2 q3.2.1).1
    obtain ⟨f, rf, mf⟩ := (HM2v7.out q3.2.1).same (same_sets _ w.heap.size (fun h => by omega) cs 0 _) |>.mono (P' := fun g => w.heap.size ≤ g) (fun g h1 h2 => by omega)
    obtain ⟨a, ga, ya, ea, ra, la, ma⟩ := (HM4v7.out q5.2.1).same (same_sets _ w.heap.size (fun h => by omega) cs 0 _) |>.mono (P' := fun g => w.heap.size ≤ g) (fun g h1 h2 => by omega)
    obtain ⟨d, rd, md⟩ := (HM6v7.out q7.2.1).same (same_sets _ w.heap.size (fun h => by omega) cs 0 _) |>.mono (P' := fun g => w.heap.size ≤ g) (fun g h1 h2 => by omega)
    rw [q1.2.2 (by decide)] at rf
    rw [q3.2.2 (by decide)] at ra
    rw [q5.2.2 (by decide)] at rd
    subst ea
    refine ⟨f, a, d, cs, _, _, _, rfl, HH.out, rf, ra, rd, HG6.out.1.1, ?_, ⟨ga, _, _, ya, ?_, la, ma⟩, ?_⟩
    · have et : (cs.drop 0).take 7 = _ := cs_take hcs1 HP2v7.out (by rw [HH.out]; simp)
      rw [et]; exact mf
    · exact cs_get hcs1 HP4v7.out (by rw [HH.out]; simp) 0 (by simp)
    · have et : (cs.drop 8).take 7 = _ := cs_take hcs1 HP6v7.out (by rw [HH.out]; simp)
      rw [et]; exact md

end Go.Proofs.YtkinoehmcfhgbaaGreatDoor.Av
