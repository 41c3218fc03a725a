/-
  Structs of many cells in a block of their own: what the walks of the parser's greater methods want.
-/
import Derived.Test.YtkinoehmcfhgbaaGreatDoorQ4
import Derived.Deep.MidRow
set_option linter.unusedVariables false
set_option linter.unusedSimpArgs false
namespace Go.Proofs.YtkinoehmcfhgbaaGreatDoor.Av
open Go.RowKit

/-- A block's first n cells, each of one cell, and that they may be written. -/
def Row (w : World) (B n : Nat) : Prop := ∃ cs : List Value, w.rangeAt B 0 cs ∧ cs.length = n ∧ (∀ v ∈ cs, v.oneCell' = true) ∧ ∀ o, w.frozen? ⟨B, o, none⟩ = false
theorem Row.kp {b B n : Nat} {w w' : World} (h : Row w B n) (k : Kp b w w') (h1 : b < B) (h2 : B < w.heap.size) : Row w' B n := by
  obtain ⟨cs, a1, a2, a3, a4⟩ := h
  exact ⟨cs, fun j v hv => (kfar k h1 h2 _).trans (a1 j v hv), a2, a3, fun o => (k.frozen (p := ⟨B, o, none⟩) h2 (by show B ≠ b; omega)).trans (a4 o)⟩
theorem Row.other {B n : Nat} {w : World} (h : Row w B n) (k o : Nat) (u : Value) (h1 : k ≠ B) : Row (w.setCell ⟨k, o, none⟩ u) B n := by
  obtain ⟨cs, a1, a2, a3, a4⟩ := h
  exact ⟨cs, fun j v hv => (sfar w k o B _ u h1).trans (a1 j v hv), a2, a3, fun o' => by rw [World.frozen?_setCell]; exact a4 o'⟩
theorem Row.alloc {w : World} {B n : Nat} (h : Row w B n) (hB : B < w.heap.size) (o : Obj) : Row (w.alloc o) B n := by
  obtain ⟨cs, a1, a2, a3, a4⟩ := h
  exact ⟨cs, fun j v hv => (afar w o B _ hB).trans (a1 j v hv), a2, a3, fun j => ((below_alloc w o).frozen (p := ⟨B, j, none⟩) hB).trans (a4 j)⟩
theorem Row.new (w : World) (a : Array Value) (t : TypeId) (h1 : ∀ v ∈ a.toList, v.oneCell' = true) : Row (w.alloc (.cells a t)) w.heap.size a.size := by
  refine ⟨a.toList, fun j v hv => ?_, by simp, h1, fun o => by simp⟩
  rw [World.cell?_alloc_at _ _ _ _ rfl]; simpa using hv
theorem Row.set {w : World} {B n : Nat} (h : Row w B n) (j : Nat) (u : Value) (hj : j < n) (hu : u.oneCell' = true) : Row (w.setCell ⟨B, j, none⟩ u) B n := by
  obtain ⟨cs, a1, a2, a3, a4⟩ := h
  refine ⟨cs.set j u, fun i v hv => ?_, by simp [a2], fun v hv => ?_, fun o => by rw [World.frozen?_setCell]; exact a4 o⟩
  · by_cases e : j = i
    · subst e
      rw [List.getElem?_set_self (by omega)] at hv
      cases hv
      have := a1 j _ (List.getElem?_eq_getElem (by omega))
      rw [Nat.zero_add] at this ⊢
      exact World.cell?_setCell_same _ _ _ this
    · rw [List.getElem?_set_ne e] at hv
      rw [Nat.zero_add, set_other _ _ _ _ _ e]
      have := a1 i v hv
      rwa [Nat.zero_add] at this
  · rcases List.mem_or_eq_of_mem_set hv with h | h
    · exact a3 v h
    · rw [h]; exact hu
theorem Row.there {w : World} {B n : Nat} (h : Row w B n) (o m : Nat) (hm : o + m ≤ n) : w.there B o m := fun j hj => by
  obtain ⟨cs, a1, a2, a3, a4⟩ := h
  refine ⟨?_, a4 _⟩
  have := a1 (o + j) _ (List.getElem?_eq_getElem (by omega))
  rw [Nat.zero_add] at this
  rw [this]; rfl
theorem Row.cell {w : World} {B n : Nat} (h : Row w B n) (j : Nat) (hj : j < n) : (∃ u, w.cell? ⟨B, j, none⟩ = some u) ∧ w.frozen? ⟨B, j, none⟩ = false := by
  obtain ⟨cs, a1, a2, a3, a4⟩ := h
  have := a1 j _ (List.getElem?_eq_getElem (by omega))
  rw [Nat.zero_add] at this
  exact ⟨⟨_, this⟩, a4 _⟩
theorem Row.cells {B n : Nat} : ∀ (vs : List Value) (o : Nat) (w : World), Row w B n → o + vs.length ≤ n → (∀ v ∈ vs, v.oneCell' = true) → Row (w.setCells B o vs) B n
  | [], _, _, h, _, _ => h
  | v :: r, o, w, h, hl, h1 => by
    rw [World.setCells]
    simp only [List.length_cons] at hl
    exact Row.cells r (o + 1) _ (h.set o v (by omega) (h1 v List.mem_cons_self)) (by omega) (fun u hu => h1 u (List.mem_cons_of_mem _ hu))
theorem Row.far {B n k : Nat} (hk : k ≠ B) : ∀ (vs : List Value) (o : Nat) (w : World), Row w B n → Row (w.setCells k o vs) B n
  | [], _, _, h => h
  | v :: r, o, w, h => by
    rw [World.setCells]
    exact Row.far hk r (o + 1) _ (h.other k o v hk)
theorem At.cells {b tb cap B : Nat} {T : List (Int × Int × Int)} {σ : PSt} (h1 : b < B) (h2 : tb < B) : ∀ (vs : List Value) (o : Nat) (w : World), At w b tb cap T σ → At (w.setCells B o vs) b tb cap T σ
  | [], _, _, h => h
  | v :: r, o, w, h => by
    rw [World.setCells]
    exact At.cells h1 h2 r (o + 1) _ (h.other B o v h1 h2)
theorem Kp.cells {b B : Nat} {w0 : World} (h1 : w0.heap.size ≤ B) : ∀ (vs : List Value) (o : Nat) (w : World), Kp b w0 w → Kp b w0 (w.setCells B o vs)
  | [], _, _, h => h
  | v :: r, o, w, h => by
    rw [World.setCells]
    exact Kp.cells h1 r (o + 1) _ (h.fresh B o v h1)
theorem size_cells (B : Nat) : ∀ (vs : List Value) (o : Nat) (w : World), (w.setCells B o vs).heap.size = w.heap.size
  | [], _, _ => rfl
  | v :: r, o, w => by
    rw [World.setCells, size_cells B r (o + 1) _, ssize]

/-- A method ends with a struct that it has laid into its result's block. -/
theorem postN {fn : Func} {R : Ending → World → Prop} {tmps : Array Value} {X : World} {B k n : Nat} {t : TypeId} {d : TypeDesc} (cs : List Value) (hf : fn.results = #[.cell k t]) (ht : tmps.getD k undef = .pointer (some ⟨B, 0, none⟩))
    (hu : Tryz.prog.underlying t = some d) (hd : d.isRow = true) (hi : (Tryz.prog.info? t).map (·.size) = some n) (hx : Row X B n) (hl : cs.length = n)
    (hR : R (.returned (.agg cs.toArray)) (X.setCells B 0 cs)) : bodyPost Tryz.prog fn R .ret ⟨tmps, []⟩ (X.setCells B 0 cs) :=
  bodyPost_ret (results_cell hf ht (run_loadVar_mid _ B 0 t cs d (World.rangeAt_setCells_same X B 0 cs (by rw [hl]; exact hx.there 0 n (by omega))) hu hd (by rw [hl]; exact hi))) rfl hR

def aggV (n : Nat) (v : Value) : Prop := ∃ cs : Array Value, v = .agg cs ∧ cs.size = n ∧ cs.all (·.oneCell') = true
def sliceV (v : Value) : Prop := ∃ (p : Option Addr) (n m : Nat), v = .slice p n m
theorem Tryz.infoCmd : (Tryz.prog.info? 228).map (·.size) = some 20 := by kernel_rfl
theorem Tryz.infoPrg : (Tryz.prog.info? 101).map (·.size) = some 15 := by kernel_rfl
theorem Tryz.infoFrm : (Tryz.prog.info? 98).map (·.size) = some 7 := by kernel_rfl
theorem one7 (k : Int) (p : Option Addr) (n c : Nat) (r a1 a2 a3 a4 : Int) : (#[Value.int .i64 k, .slice p n c, .int .i64 r, .int .i64 a1, .int .i64 a2, .int .i64 a3, .int .i64 a4] : Array Value).all (·.oneCell') = true :=
  all_oneCell_toArray (cs := [Value.int .i64 k, .slice p n c, .int .i64 r, .int .i64 a1, .int .i64 a2, .int .i64 a3, .int .i64 a4]) (by intro v hv; simp at hv; rcases hv with rfl | rfl | rfl | rfl | rfl | rfl | rfl <;> rfl)
theorem all_mem {a : Array Value} (h : a.all (·.oneCell') = true) : ∀ v ∈ a.toList, v.oneCell' = true := fun v hv => (Array.all_eq_true_iff_forall_mem.1 h) v (by simpa using hv)

end Go.Proofs.YtkinoehmcfhgbaaGreatDoor.Av
