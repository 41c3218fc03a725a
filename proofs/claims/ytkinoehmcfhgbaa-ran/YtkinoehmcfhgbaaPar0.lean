/-
  The program's parser as it lies in memory, and the walks of its small methods: peek, advance, refuse, take, expect, enter, leave.
  The document's own machine on tokens, in plain words (no Go): what is wanted is a stack, its top first.
  Plain facts (no Go): of a token its text and the program's kind of it say the same.
  The walks of the document's own answer (package avouchref), what it reads of a text: sign, variable, digits, relation, Tokens.
-/
import Derived.Test.YtkinoehmcfhgbaaV18
import Derived.Deep.QuietTactic
import Derived.BigQuiet
import Derived.RegionTactic
import Derived.Deep.RegionHeld3
set_option linter.unusedVariables false
set_option linter.unusedSimpArgs false
namespace Go.Proofs.Ytkinoehmcfhgbaa.Av
open Go.RowKit

/-- All old memory but block b is as it was. -/
def Kp (b : Nat) (w w' : World) : Prop := w.grownBy w' (some b)
theorem Kp.refl (b : Nat) (w : World) : Kp b w w := ⟨rfl, rfl, rfl, Nat.le_refl _, fun _ _ _ => rfl⟩
theorem Kp.trans {b : Nat} {w w' w'' : World} (h : Kp b w w') (k : Kp b w' w'') : Kp b w w'' :=
  ⟨k.os.trans h.os, k.tape.trans h.tape, k.output.trans h.output, Nat.le_trans h.size k.size, fun i hi hb => (k.block i (Nat.lt_of_lt_of_le hi h.size) hb).trans (h.block i hi hb)⟩
theorem Kp.drew {b : Nat} {w w' : World} (h : Kp b w w') : Kp b w w'.drew := ⟨h.os, h.tape, h.output, h.size, h.block⟩
theorem Kp.drewN {b : Nat} {w w' : World} (h : Kp b w w') (n : Nat) : Kp b w (w'.drewN n) := h.trans ⟨rfl, rfl, rfl, Nat.le_refl _, fun _ _ _ => rfl⟩
theorem Kp.alloc {b : Nat} {w w' : World} (h : Kp b w w') (o : Obj) : Kp b w (w'.alloc o) :=
  h.trans ⟨rfl, rfl, rfl, by simp, fun k hk _ => Below.heap_alloc _ _ _ hk⟩
theorem Kp.setCell {b : Nat} {w w' : World} (h : Kp b w w') {p : Addr} (hp : p.block = b ∨ w.heap.size ≤ p.block) (u : Value) : Kp b w (w'.setCell p u) := by
  refine ⟨h.os, h.tape, h.output, by simpa [World.setCell] using h.size, fun k hk hb => ?_⟩
  rw [Below.heap_setCell _ _ _ _ (by rcases hp with hp | hp
                                     · intro e; apply hb; rw [e, hp]
                                     · omega)]
  exact h.block k hk hb
theorem Kp.of_below {b : Nat} {w w' : World} (h : Below w.heap.size w w') : Kp b w w' := ⟨h.os, h.tape, h.output, h.size, fun k hk _ => h.block k hk⟩
theorem Kp.below {b : Nat} {a w w' : World} (h : Below a.heap.size a w) (k : Kp b w w') (hb : a.heap.size ≤ b) : Below a.heap.size a w' :=
  h.grown k h.size (fun j e => by cases e; exact hb)
theorem Kp.cell {b : Nat} {w w' : World} (h : Kp b w w') {p : Addr} (hp : p.block < w.heap.size) (hb : p.block ≠ b) : w'.cell? p = w.cell? p :=
  World.cell?_of_block (h.block p.block hp (fun e => hb (Option.some.inj e)))
theorem Kp.frozen {b : Nat} {w w' : World} (h : Kp b w w') {p : Addr} (hp : p.block < w.heap.size) (hb : p.block ≠ b) : w'.frozen? p = w.frozen? p :=
  World.frozen?_of_block (h.block p.block hp (fun e => hb (Option.some.inj e)))

/-- What a token is to the program: kind, place, value. -/
def t3 (t : List UInt8 × Nat) : Int × Int × Int := ((tk t.1).1, (t.2 : Int), (tk t.1).2)
def T3 (toks : List (List UInt8 × Nat)) (len : Nat) : List (Int × Int × Int) := toks.map t3 ++ [(0, (len : Int), 0)]
def kd (T : List (Int × Int × Int)) (j : Nat) : Int := (T.getD j (0, 0, 0)).1
def plc (T : List (Int × Int × Int)) (j : Nat) : Int := (T.getD j (0, 0, 0)).2.1
def vlu (T : List (Int × Int × Int)) (j : Nat) : Int := (T.getD j (0, 0, 0)).2.2

structure PSt where
  pos : Nat
  d : Int
  e : Int
  pl : Int

/-- The parser lies at block b, its tokens at block tb. -/
structure At (w : World) (b tb cap : Nat) (T : List (Int × Int × Int)) (σ : PSt) : Prop where
  hb : b < w.heap.size
  htb : tb < w.heap.size
  hne : tb ≠ b
  hcap : T.length ≤ cap
  hcm : cap ≤ maxLen
  c0 : w.cell? ⟨b, 0, none⟩ = some (.slice (some ⟨tb, 0, none⟩) T.length cap)
  c1 : w.cell? ⟨b, 1, none⟩ = some (.int .i64 (σ.pos : Int))
  c2 : w.cell? ⟨b, 2, none⟩ = some (.int .i64 σ.d)
  c3 : w.cell? ⟨b, 3, none⟩ = some (.int .i64 σ.e)
  c4 : w.cell? ⟨b, 4, none⟩ = some (.int .i64 σ.pl)
  f : ∀ o, w.frozen? ⟨b, o, none⟩ = false
  toks : ∀ j, j < T.length → w.cell? ⟨tb, j * 3, none⟩ = some (.int .i64 (kd T j)) ∧ w.cell? ⟨tb, j * 3 + 1, none⟩ = some (.int .i64 (plc T j)) ∧ w.cell? ⟨tb, j * 3 + 2, none⟩ = some (.int .i64 (vlu T j))

/-- What of the parser's own block is the same is told by b's cells; all else by Kp. -/
theorem At.move {w w' : World} {b tb cap : Nat} {T : List (Int × Int × Int)} {σ σ' : PSt} (h : At w b tb cap T σ) (k : Kp b w w')
    (h0 : w'.cell? ⟨b, 0, none⟩ = w.cell? ⟨b, 0, none⟩) (h1 : w'.cell? ⟨b, 1, none⟩ = some (.int .i64 (σ'.pos : Int))) (h2 : w'.cell? ⟨b, 2, none⟩ = some (.int .i64 σ'.d))
    (h3 : w'.cell? ⟨b, 3, none⟩ = some (.int .i64 σ'.e)) (h4 : w'.cell? ⟨b, 4, none⟩ = some (.int .i64 σ'.pl)) (hf : ∀ o, w'.frozen? ⟨b, o, none⟩ = false) : At w' b tb cap T σ' :=
  ⟨Nat.lt_of_lt_of_le h.hb k.size, Nat.lt_of_lt_of_le h.htb k.size, h.hne, h.hcap, h.hcm, h0.trans h.c0, h1, h2, h3, h4, hf, fun j hj => by
    obtain ⟨a1, a2, a3⟩ := h.toks j hj
    exact ⟨(k.cell (p := ⟨tb, j * 3, none⟩) h.htb h.hne).trans a1, (k.cell (p := ⟨tb, j * 3 + 1, none⟩) h.htb h.hne).trans a2, (k.cell (p := ⟨tb, j * 3 + 2, none⟩) h.htb h.hne).trans a3⟩⟩

theorem At.below {w w' : World} {b tb cap : Nat} {T : List (Int × Int × Int)} {σ : PSt} (h : At w b tb cap T σ) (k : Below w.heap.size w w') : At w' b tb cap T σ :=
  h.move (Kp.of_below k) (k.cell (p := ⟨b, 0, none⟩) h.hb) ((k.cell (p := ⟨b, 1, none⟩) h.hb).trans h.c1) ((k.cell (p := ⟨b, 2, none⟩) h.hb).trans h.c2) ((k.cell (p := ⟨b, 3, none⟩) h.hb).trans h.c3) ((k.cell (p := ⟨b, 4, none⟩) h.hb).trans h.c4) (fun o => (k.frozen (p := ⟨b, o, none⟩) h.hb).trans (h.f o))
theorem At.alloc {w : World} {b tb cap : Nat} {T : List (Int × Int × Int)} {σ : PSt} (h : At w b tb cap T σ) (o : Obj) : At (w.alloc o) b tb cap T σ := h.below ((Below.refl _ _).alloc (Nat.le_refl _) _)
theorem At.drew {w : World} {b tb cap : Nat} {T : List (Int × Int × Int)} {σ : PSt} (h : At w b tb cap T σ) : At w.drew b tb cap T σ := h.below (Below.refl _ _).drew
theorem At.drewN {w : World} {b tb cap : Nat} {T : List (Int × Int × Int)} {σ : PSt} (h : At w b tb cap T σ) (n : Nat) : At (w.drewN n) b tb cap T σ := h.below (below_drewN (Below.refl _ _) n)
theorem set_other (w : World) (b i j : Nat) (u : Value) (h : i ≠ j) : (w.setCell ⟨b, i, none⟩ u).cell? ⟨b, j, none⟩ = w.cell? ⟨b, j, none⟩ := by
  apply World.cell?_setCell_other
  intro e; injection e with _ e2 _; exact h e2
theorem At.frz {w : World} {b tb cap : Nat} {T : List (Int × Int × Int)} {σ : PSt} (h : At w b tb cap T σ) (a : Addr) (u : Value) : ∀ o, (w.setCell a u).frozen? ⟨b, o, none⟩ = false := fun o => by
  rw [World.frozen?_setCell]; exact h.f o
theorem At.set1 {w : World} {b tb cap : Nat} {T : List (Int × Int × Int)} {σ : PSt} (h : At w b tb cap T σ) (n : Nat) : At (w.setCell ⟨b, 1, none⟩ (.int .i64 (n : Int))) b tb cap T { σ with pos := n } :=
  h.move ((Kp.refl _ _).setCell (Or.inl rfl) _) (set_other _ _ _ _ _ (by omega)) (World.cell?_setCell_same _ _ _ h.c1) ((set_other _ _ _ _ _ (by omega)).trans h.c2) ((set_other _ _ _ _ _ (by omega)).trans h.c3) ((set_other _ _ _ _ _ (by omega)).trans h.c4) (h.frz _ _)
theorem At.set2 {w : World} {b tb cap : Nat} {T : List (Int × Int × Int)} {σ : PSt} (h : At w b tb cap T σ) (n : Int) : At (w.setCell ⟨b, 2, none⟩ (.int .i64 n)) b tb cap T { σ with d := n } :=
  h.move ((Kp.refl _ _).setCell (Or.inl rfl) _) (set_other _ _ _ _ _ (by omega)) ((set_other _ _ _ _ _ (by omega)).trans h.c1) (World.cell?_setCell_same _ _ _ h.c2) ((set_other _ _ _ _ _ (by omega)).trans h.c3) ((set_other _ _ _ _ _ (by omega)).trans h.c4) (h.frz _ _)
theorem At.set3 {w : World} {b tb cap : Nat} {T : List (Int × Int × Int)} {σ : PSt} (h : At w b tb cap T σ) (n : Int) : At (w.setCell ⟨b, 3, none⟩ (.int .i64 n)) b tb cap T { σ with e := n } :=
  h.move ((Kp.refl _ _).setCell (Or.inl rfl) _) (set_other _ _ _ _ _ (by omega)) ((set_other _ _ _ _ _ (by omega)).trans h.c1) ((set_other _ _ _ _ _ (by omega)).trans h.c2) (World.cell?_setCell_same _ _ _ h.c3) ((set_other _ _ _ _ _ (by omega)).trans h.c4) (h.frz _ _)
theorem At.set4 {w : World} {b tb cap : Nat} {T : List (Int × Int × Int)} {σ : PSt} (h : At w b tb cap T σ) (n : Int) : At (w.setCell ⟨b, 4, none⟩ (.int .i64 n)) b tb cap T { σ with pl := n } :=
  h.move ((Kp.refl _ _).setCell (Or.inl rfl) _) (set_other _ _ _ _ _ (by omega)) ((set_other _ _ _ _ _ (by omega)).trans h.c1) ((set_other _ _ _ _ _ (by omega)).trans h.c2) ((set_other _ _ _ _ _ (by omega)).trans h.c3) (World.cell?_setCell_same _ _ _ h.c4) (h.frz _ _)

set_option maxHeartbeats 400000 in
theorem peek_any (w : World) (b tb cap : Nat) (T : List (Int × Int × Int)) (σ : PSt) (h : At w b tb cap T σ) (hp : σ.pos < T.length) :
    Calls Try.prog 58 #[.pointer (some ⟨b, 0, none⟩)] w fun e w' => e = .returned (.int .i64 (kd T σ.pos)) ∧ ∃ n, w' = w.drewN n := by
  obtain ⟨a1, a2, a3⟩ := h.toks σ.pos hp
  have c0 := h.c0
  have c1 := h.c1
  have hcm := h.hcm
  have hcap := h.hcap
  unfold maxLen at hcm
  generalize kd T σ.pos = K at *
  generalize σ.pos = p at *
  generalize T.length = n at *
  clear h
  go_enter Try.func58, Try.ntmps58
  go_wp2
  go_quiet (fail)
  go_wp2
  go_ret
  exact ⟨rfl, _, rfl⟩

def PSt.adv (σ : PSt) (T : List (Int × Int × Int)) : PSt := if kd T σ.pos = 0 then σ else { σ with pos := σ.pos + 1 }

set_option maxRecDepth 100000 in
set_option maxHeartbeats 1000000 in
theorem advance_any (w : World) (b tb cap : Nat) (T : List (Int × Int × Int)) (σ : PSt) (h : At w b tb cap T σ) (hp : σ.pos < T.length) (hT : T.length ≤ 1000) :
    Calls Try.prog 60 #[.pointer (some ⟨b, 0, none⟩)] w fun e w' => e = .returned (.agg #[.int .i64 (kd T σ.pos), .int .i64 (plc T σ.pos), .int .i64 (vlu T σ.pos)]) ∧ At w' b tb cap T (σ.adv T) ∧ Kp b w w' := by
  have H : Hid (At w b tb cap T σ) := h
  have HA : Hid (σ.adv T = if kd T σ.pos = 0 then σ else { σ with pos := σ.pos + 1 }) := rfl
  obtain ⟨a1, a2, a3⟩ := h.toks σ.pos hp
  have c0 := h.c0
  have c1 := h.c1
  have hf1 := h.f 1
  have hbs := h.hb
  have hts := h.htb
  have hcm := h.hcm
  have hcap := h.hcap
  unfold maxLen at hcm
  clear h
  generalize hK : kd T σ.pos = K at *
  generalize plc T σ.pos = L at *
  generalize vlu T σ.pos = V at *
  generalize hP : σ.pos = p at *
  clear hP hK
  by_cases hk : K = 0
  · have hk' : (K != 0) = false := by simp [hk]
    go_enter Try.func60, Try.ntmps60
    go_wp2
    go_region
    go_wp2
    exact bodyPost_ret (v := .agg #[.int .i64 0, .int .i64 L, .int .i64 V]) (by simp [results, Try.results60, go_sem]) rfl ⟨by rw [hk], by rw [HA.out, if_pos hk]; exact ((H.out.alloc _).alloc _).drew, (((Kp.refl _ _).alloc _).alloc _).drew⟩
  · have hk' : (K != 0) = true := by simpa using hk
    go_enter Try.func60, Try.ntmps60
    go_wp2
    go_region
    go_wp2
    exact bodyPost_ret (v := .agg #[.int .i64 K, .int .i64 L, .int .i64 V]) (by simp [results, Try.results60, go_sem]) rfl ⟨rfl, by rw [HA.out, if_neg hk]; exact (((H.out.set1 (p + 1)).alloc _).alloc _).drew, ((((Kp.refl _ _).setCell (Or.inl rfl) _).alloc _).alloc _).drew⟩

def PSt.ref (σ : PSt) (T : List (Int × Int × Int)) (err : Int) : PSt := if σ.e = 0 then { pos := T.length - 1, d := σ.d, e := err, pl := plc T σ.pos } else { σ with pos := T.length - 1 }

theorem At.ref_ok {w : World} {b tb cap : Nat} {T : List (Int × Int × Int)} {σ : PSt} (h : At w b tb cap T σ) (err : Int) (n : Nat) (hn : T.length = n + 1) (he : σ.e = 0) :
    At (((w.setCell ⟨b, 3, none⟩ (.int .i64 err)).setCell ⟨b, 4, none⟩ (.int .i64 (plc T σ.pos))).setCell ⟨b, 1, none⟩ (.int .i64 (n : Int))).drew b tb cap T (σ.ref T err) := by
  have e : σ.ref T err = { pos := n, d := σ.d, e := err, pl := plc T σ.pos } := by unfold PSt.ref; rw [if_pos he, hn]; rfl
  rw [e]
  exact (((h.set3 err).set4 (plc T σ.pos)).set1 n).drew
theorem At.ref_no {w : World} {b tb cap : Nat} {T : List (Int × Int × Int)} {σ : PSt} (h : At w b tb cap T σ) (err : Int) (n : Nat) (hn : T.length = n + 1) (he : ¬ σ.e = 0) :
    At (w.setCell ⟨b, 1, none⟩ (.int .i64 (n : Int))) b tb cap T (σ.ref T err) := by
  have e : σ.ref T err = { σ with pos := n } := by unfold PSt.ref; rw [if_neg he, hn]; rfl
  rw [e]
  exact h.set1 n

theorem Kp.own (b : Nat) (w : World) (o : Nat) (x : Value) : Kp b w (w.setCell ⟨b, o, none⟩ x) := (Kp.refl b w).setCell (p := ⟨b, o, none⟩) (Or.inl rfl) x
theorem Kp.own3 (b : Nat) (w : World) (x y z : Value) : Kp b w (((w.setCell ⟨b, 3, none⟩ x).setCell ⟨b, 4, none⟩ y).setCell ⟨b, 1, none⟩ z).drew :=
  (((Kp.own b w 3 x).trans (Kp.own b _ 4 y)).trans (Kp.own b _ 1 z)).drew

set_option maxRecDepth 100000 in
set_option maxHeartbeats 400000 in
theorem refuse_any (w : World) (b tb cap : Nat) (T : List (Int × Int × Int)) (σ : PSt) (err : Int) (h : At w b tb cap T σ) (hp : σ.pos < T.length) (hT : T.length ≤ 1000) :
    Calls Try.prog 59 #[.pointer (some ⟨b, 0, none⟩), .int .i64 err] w fun e w' => e = .returned (.tuple #[]) ∧ At w' b tb cap T (σ.ref T err) ∧ Kp b w w' := by
  obtain ⟨n, hn⟩ : ∃ n, T.length = n + 1 := ⟨T.length - 1, by omega⟩
  have HA : Hid (σ.e = 0 → At (((w.setCell ⟨b, 3, none⟩ (.int .i64 err)).setCell ⟨b, 4, none⟩ (.int .i64 (plc T σ.pos))).setCell ⟨b, 1, none⟩ (.int .i64 (n : Int))).drew b tb cap T (σ.ref T err)) := h.ref_ok err n hn
  have HB : Hid (¬ σ.e = 0 → At (w.setCell ⟨b, 1, none⟩ (.int .i64 (n : Int))) b tb cap T (σ.ref T err)) := h.ref_no err n hn
  obtain ⟨a1, a2, a3⟩ := h.toks σ.pos hp
  have c0 := h.c0
  have c1 := h.c1
  have c3 := h.c3
  have c4 := h.c4
  have hf1 := h.f 1
  have hf3 := h.f 3
  have hf4 := h.f 4
  have hbs := h.hb
  have hts := h.htb
  have hne := h.hne
  have hcm := h.hcm
  have hcap := h.hcap
  unfold maxLen at hcm
  clear h a1 a3
  have hn1 : n ≤ 1000 := by omega
  rw [hn] at c0 hp hcap
  clear hn hT
  generalize σ.ref T err = S at *
  generalize plc T σ.pos = L at *
  generalize σ.pos = p at *
  generalize σ.e = E at *
  by_cases hk : E = 0
  · have hk' : (E == 0) = true := by simp [hk]
    have HA' : Hid (At (((w.setCell ⟨b, 3, none⟩ (.int .i64 err)).setCell ⟨b, 4, none⟩ (.int .i64 L)).setCell ⟨b, 1, none⟩ (.int .i64 (n : Int))).drew b tb cap T S) := HA.out hk
    have HK : Hid (Kp b w (((w.setCell ⟨b, 3, none⟩ (.int .i64 err)).setCell ⟨b, 4, none⟩ (.int .i64 L)).setCell ⟨b, 1, none⟩ (.int .i64 (n : Int))).drew) := Kp.own3 b w _ _ _
    clear hk HA HB
    go_enter Try.func59, Try.ntmps59
    go_wp2
    go_region
    go_wp2
    go_end0
    exact ⟨rfl, HA'.out, HK.out⟩
  · have hk' : (E == 0) = false := by simpa using hk
    have HB' : Hid (At (w.setCell ⟨b, 1, none⟩ (.int .i64 (n : Int))) b tb cap T S) := HB.out hk
    have HK : Hid (Kp b w (w.setCell ⟨b, 1, none⟩ (.int .i64 (n : Int)))) := Kp.own b w 1 _
    clear hk HA HB
    go_enter Try.func59, Try.ntmps59
    go_wp2
    go_end0
    exact ⟨rfl, HB'.out, HK.out⟩

set_option maxRecDepth 100000 in
set_option maxHeartbeats 1000000 in
theorem leave_any (w : World) (b : Nat) (d : Int) (hc : w.cell? ⟨b, 2, none⟩ = some (.int .i64 d)) (hf : w.frozen? ⟨b, 2, none⟩ = false) :
    Calls Try.prog 88 #[.pointer (some ⟨b, 0, none⟩)] w fun e w' => e = .returned (.tuple #[]) ∧ w' = w.setCell ⟨b, 2, none⟩ (.int .i64 (wrap64 (d - 1))) := by
  go_enter Try.func88, Try.ntmps88
  go_wp2
  go_end0
  exact ⟨rfl, rfl⟩

theorem leave_at (w : World) (b tb cap : Nat) (T : List (Int × Int × Int)) (σ : PSt) (h : At w b tb cap T σ) :
    Calls Try.prog 88 #[.pointer (some ⟨b, 0, none⟩)] w fun e w' => e = .returned (.tuple #[]) ∧ At w' b tb cap T { σ with d := wrap64 (σ.d - 1) } ∧ Kp b w w' := by
  refine (leave_any w b σ.d h.c2 (h.f 2)).mono ?_
  rintro e w' ⟨rfl, rfl⟩
  exact ⟨rfl, h.set2 _, (Kp.refl _ _).setCell (Or.inl rfl) _⟩

set_option maxRecDepth 100000 in
set_option maxHeartbeats 1000000 in
theorem take_any (w : World) (b tb cap : Nat) (T : List (Int × Int × Int)) (σ : PSt) (k : Int) (h : At w b tb cap T σ) (hp : σ.pos < T.length) (hT : T.length ≤ 1000) :
    Calls Try.prog 64 #[.pointer (some ⟨b, 0, none⟩), .int .i64 k] w fun e w' => e = .returned (.bool (decide (kd T σ.pos = k))) ∧ At w' b tb cap T (if kd T σ.pos = k then σ.adv T else σ) ∧ Kp b w w' := by
  have CP : Hid (Calls Try.prog 58 #[.pointer (some ⟨b, 0, none⟩)] w fun e w' => e = .returned (.int .i64 (kd T σ.pos)) ∧ ∃ n, w' = w.drewN n) := peek_any w b tb cap T σ h hp
  have CA : Hid (∀ n, Calls Try.prog 60 #[.pointer (some ⟨b, 0, none⟩)] (w.drewN n) fun e w' => e = .returned (.agg #[.int .i64 (kd T σ.pos), .int .i64 (plc T σ.pos), .int .i64 (vlu T σ.pos)]) ∧ At w' b tb cap T (σ.adv T) ∧ Kp b (w.drewN n) w') := fun n => advance_any (w.drewN n) b tb cap T σ (h.drewN n) hp hT
  have H : Hid (At w b tb cap T σ) := h
  clear h hp hT
  by_cases hk : kd T σ.pos = k
  · rw [if_pos hk, decide_eq_true hk]
    rw [hk] at CP CA
    clear hk
    have hkk : (k != k) = false := by simp
    go_enter Try.func64, Try.ntmps64
    go_wp2_with fail
    refine CP.out.mono ?_
    rintro e w1 ⟨rfl, nq, rfl⟩
    go_wp2_with fail
    refine (CA.out _).mono ?_
    rintro e w2 ⟨rfl, hA, hK⟩
    go_wp2_with fail
    go_ret
    exact ⟨rfl, hA, ((Kp.refl _ _).drewN _).trans hK⟩
  · rw [if_neg hk, decide_eq_false hk]
    generalize kd T σ.pos = K at *
    have hkk : (K != k) = true := by simpa using hk
    go_enter Try.func64, Try.ntmps64
    go_wp2_with fail
    refine CP.out.mono ?_
    rintro e w1 ⟨rfl, nq, rfl⟩
    go_wp2_with fail
    go_ret
    exact ⟨rfl, H.out.drewN _, (Kp.refl _ _).drewN _⟩

theorem field_tok (x y z : Int) (w : World) : Sem.run Try.prog (Instr.field 97 (.agg #[.int .i64 x, .int .i64 y, .int .i64 z]) 2) w = .ok (.int .i64 z) w := by kernel_rfl

set_option maxRecDepth 100000 in
set_option maxHeartbeats 1000000 in
theorem expect_any (w : World) (b tb cap : Nat) (T : List (Int × Int × Int)) (σ : PSt) (k : Int) (h : At w b tb cap T σ) (hp : σ.pos < T.length) (hT : T.length ≤ 1000) :
    Calls Try.prog 39 #[.pointer (some ⟨b, 0, none⟩), .int .i64 k] w fun e w' => e = .returned (.int .i64 (if kd T σ.pos = k then vlu T σ.pos else 0)) ∧ At w' b tb cap T (if kd T σ.pos = k then σ.adv T else σ.ref T 2) ∧ Kp b w w' := by
  have CP : Hid (Calls Try.prog 58 #[.pointer (some ⟨b, 0, none⟩)] w fun e w' => e = .returned (.int .i64 (kd T σ.pos)) ∧ ∃ n, w' = w.drewN n) := peek_any w b tb cap T σ h hp
  have CA : Hid (∀ n, Calls Try.prog 60 #[.pointer (some ⟨b, 0, none⟩)] (w.drewN n) fun e w' => e = .returned (.agg #[.int .i64 (kd T σ.pos), .int .i64 (plc T σ.pos), .int .i64 (vlu T σ.pos)]) ∧ At w' b tb cap T (σ.adv T) ∧ Kp b (w.drewN n) w') := fun n => advance_any (w.drewN n) b tb cap T σ (h.drewN n) hp hT
  have CR : Hid (∀ n, Calls Try.prog 59 #[.pointer (some ⟨b, 0, none⟩), .int .i64 2] (w.drewN n) fun e w' => e = .returned (.tuple #[]) ∧ At w' b tb cap T (σ.ref T 2) ∧ Kp b (w.drewN n) w') := fun n => refuse_any (w.drewN n) b tb cap T σ 2 (h.drewN n) hp hT
  clear h hp hT
  by_cases hk : kd T σ.pos = k
  · rw [if_pos hk, if_pos hk]
    rw [hk] at CP CA
    clear hk
    have hkk : (k != k) = false := by simp
    have hft := field_tok k (plc T σ.pos) (vlu T σ.pos)
    go_enter Try.func39, Try.ntmps39
    go_wp2_with fail
    refine CP.out.mono ?_
    rintro e w1 ⟨rfl, nq, rfl⟩
    go_wp2_with fail
    refine (CA.out _).mono ?_
    rintro e w2 ⟨rfl, hA, hK⟩
    go_wp2_with fail
    go_ret
    exact ⟨rfl, hA, ((Kp.refl _ _).drewN _).trans hK⟩
  · rw [if_neg hk, if_neg hk]
    generalize kd T σ.pos = K at *
    have hkk : (K != k) = true := by simpa using hk
    go_enter Try.func39, Try.ntmps39
    go_wp2_with fail
    refine CP.out.mono ?_
    rintro e w1 ⟨rfl, nq, rfl⟩
    go_wp2_with fail
    refine (CR.out _).mono ?_
    rintro e w2 ⟨rfl, hA, hK⟩
    go_wp2_with fail
    go_ret
    exact ⟨rfl, hA, ((Kp.refl _ _).drewN _).trans hK⟩

set_option maxRecDepth 100000 in
set_option maxHeartbeats 1000000 in
theorem enter_any (w : World) (b tb cap : Nat) (T : List (Int × Int × Int)) (σ : PSt) (h : At w b tb cap T σ) (hp : σ.pos < T.length) (hT : T.length ≤ 1000) (hd : 0 ≤ σ.d ∧ σ.d ≤ 10) :
    Calls Try.prog 87 #[.pointer (some ⟨b, 0, none⟩)] w fun e w' => e = .returned (.tuple #[]) ∧ At w' b tb cap T (if σ.d = 10 then σ.ref T 3 else ({ σ with d := σ.d + 1 } : PSt).adv T) ∧ Kp b w w' := by
  have CR : Hid (Calls Try.prog 59 #[.pointer (some ⟨b, 0, none⟩), .int .i64 3] w fun e w' => e = .returned (.tuple #[]) ∧ At w' b tb cap T (σ.ref T 3) ∧ Kp b w w') := refuse_any w b tb cap T σ 3 h hp hT
  have CA : Hid (Calls Try.prog 60 #[.pointer (some ⟨b, 0, none⟩)] (w.setCell ⟨b, 2, none⟩ (.int .i64 (σ.d + 1))) fun e w' => e = .returned (.agg #[.int .i64 (kd T σ.pos), .int .i64 (plc T σ.pos), .int .i64 (vlu T σ.pos)]) ∧ At w' b tb cap T (({ σ with d := σ.d + 1 } : PSt).adv T) ∧ Kp b (w.setCell ⟨b, 2, none⟩ (.int .i64 (σ.d + 1))) w') := advance_any _ b tb cap T { σ with d := σ.d + 1 } (h.set2 _) hp hT
  have c2 := h.c2
  have hf2 := h.f 2
  clear h hp hT
  generalize hD : σ.d = D at *
  clear hD
  generalize kd T σ.pos = K at *
  generalize plc T σ.pos = L at *
  generalize vlu T σ.pos = V at *
  by_cases hk : D = 10
  · rw [if_pos hk]
    have hk' : (D == 10) = true := by simp [hk]
    clear CA
    go_enter Try.func87, Try.ntmps87
    go_wp2_with fail
    refine CR.out.mono ?_
    rintro e w2 ⟨rfl, hA, hK⟩
    go_wp2_with fail
    exact bodyPost_ret (v := .tuple #[]) (by simp [results, Try.results87, go_sem]) rfl ⟨rfl, hA, hK⟩
  · rw [if_neg hk]
    have hk' : (D == 10) = false := by simpa using hk
    clear CR
    go_enter Try.func87, Try.ntmps87
    go_wp2_with fail
    refine CA.out.mono ?_
    rintro e w2 ⟨rfl, hA, hK⟩
    go_wp2_with fail
    go_end0
    exact ⟨rfl, hA, ((Kp.refl _ _).setCell (Or.inl rfl) _).trans hK⟩

end Go.Proofs.Ytkinoehmcfhgbaa.Av
namespace Go.Proofs.Ytkinoehmcfhgbaa.Av

def cCommands : List UInt8 := [67, 79, 77, 77, 65, 78, 68, 83]
def cCommand : List UInt8 := [67, 79, 77, 77, 65, 78, 68]
def cMoreCommands : List UInt8 := [77, 79, 82, 69, 45, 67, 79, 77, 77, 65, 78, 68, 83]
def cFormula : List UInt8 := [70, 79, 82, 77, 85, 76, 65]
def cMoreFormula : List UInt8 := [77, 79, 82, 69, 45, 70, 79, 82, 77, 85, 76, 65]
def cFactor : List UInt8 := [70, 65, 67, 84, 79, 82]
def cTerm : List UInt8 := [84, 69, 82, 77]
def cMoreTerm : List UInt8 := [77, 79, 82, 69, 45, 84, 69, 82, 77]
def cRelation : List UInt8 := [82, 69, 76, 65, 84, 73, 79, 78]
def cNumber : List UInt8 := [78, 85, 77, 66, 69, 82]
def cNotEnds : List UInt8 := [78, 79, 84, 45, 69, 78, 68, 83]

def rl (l : List UInt8) : Bool := l == [60] || l == [60, 61] || l == [61] || l == [62] || l == [62, 61]
def dflt (k s : List UInt8) : Bool := k == s && (decide (((k.headD 0).toNat : Int) < 65) || decide (90 < ((k.headD 0).toNat : Int)))
def stTerm (s : List UInt8) (st : List (List UInt8)) : List (List UInt8) × Bool :=
  if 0 ≤ vr s then (cMoreTerm :: st, true) else if s == [45] then (cNumber :: st, true) else (st, decide (0 ≤ dg 999 s))
def stCommand (s : List UInt8) (st : List (List UInt8)) : List (List UInt8) × Bool :=
  if s == [115, 107, 105, 112] then (st, true) else if 0 ≤ vr s then ([58, 61] :: cTerm :: st, true) else
  if s == [105, 102] then (cFormula :: [116, 104, 101, 110] :: cCommands :: [101, 108, 115, 101] :: cCommands :: [101, 110, 100] :: st, true) else
  if s == [119, 104, 105, 108, 101] then (cFormula :: [107, 101, 101, 112] :: cFormula :: [100, 111] :: cCommands :: [101, 110, 100] :: st, true) else (st, false)
def stFactor (s : List UInt8) (st : List (List UInt8)) : List (List UInt8) × Bool :=
  if s == [116, 114, 117, 101] || s == [102, 97, 108, 115, 101] then (st, true) else if s == [110, 111, 116] then (cFactor :: cNotEnds :: st, true) else
  if s == [40] then (cFormula :: [41] :: st, true) else stTerm s (cRelation :: cTerm :: st)
/-- What is wanted behind a token that begins a kind; whether it can. -/
def sts (k s : List UInt8) (st : List (List UInt8)) : List (List UInt8) × Bool :=
  if k == cCommand then stCommand s st else if k == cFactor then stFactor s st else if k == cTerm then stTerm s st else
  if k == cRelation then (st, rl s) else if k == cNumber then (st, decide (0 ≤ dg 999 s)) else (st, dflt k s)
/-- The kinds on top taken apart for a token; how many nots have ended. -/
def opn (s : List UInt8) : List (List UInt8) → Int → List (List UInt8) × Int
  | [], e => ([], e)
  | k :: r, e =>
    if k == cCommands then (cCommand :: cMoreCommands :: r, e) else
    if k == cMoreCommands then (if s == [59] then ([59] :: cCommands :: r, e) else opn s r e) else
    if k == cFormula then (cFactor :: cMoreFormula :: r, e) else
    if k == cMoreFormula then (if s == [111, 114] || s == [97, 110, 100] then (s :: cFormula :: r, e) else opn s r e) else
    if k == cMoreTerm then (if s == [43] || s == [45] then (s :: cNumber :: r, e) else opn s r e) else
    if k == cNotEnds then opn s r (e + 1) else (k :: r, e)
def deeper (t : List UInt8) : Bool := t == [40] || t == [110, 111, 116] || t == [105, 102] || t == [119, 104, 105, 108, 101]
def shut (t : List UInt8) : Bool := t == [41] || t == [101, 110, 100]
/-- One token: an error and its place, or what is wanted then, and the depth. -/
def stepM (t : List UInt8) (i : Nat) (st : List (List UInt8)) (d : Int) : Sum (Int × Int) (List (List UInt8) × Int) :=
  match opn t st 0 with
  | ([], _) => .inl (2, i)
  | (k :: r, n) =>
    if (sts k t r).2 = false then .inl (2, i) else
    if deeper t then (if 10 < d - n + 1 then .inl (3, i) else .inr ((sts k t r).1, d - n + 1)) else
    if shut t then .inr ((sts k t r).1, d - n - 1) else .inr ((sts k t r).1, d - n)
/-- What Check answers, told along the tokens. -/
def runM (len : Nat) : List (List UInt8 × Nat) → List (List UInt8) → Int → Int × Int
  | [], st, _ => if (opn [] st 0).1.isEmpty then (0, 0) else (2, len)
  | (t, i) :: ts, st, d => match stepM t i st d with
    | .inl e => e
    | .inr (st', d') => runM len ts st' d'

theorem stTerm_len (s : List UInt8) (st : List (List UInt8)) : (stTerm s st).1.length ≤ st.length + 1 := by
  unfold stTerm; repeat' split
  all_goals simp
theorem sts_len (k s : List UInt8) (st : List (List UInt8)) : (sts k s st).1.length ≤ st.length + 6 := by
  have h1 := stTerm_len s st
  have h2 := stTerm_len s (cRelation :: cTerm :: st)
  simp only [List.length_cons] at h2
  unfold sts
  repeat' split
  · unfold stCommand; repeat' split
    all_goals simp
  · unfold stFactor; repeat' split
    all_goals first | (simp; done) | omega
  all_goals first | (simp; done) | omega
theorem opn_len (s : List UInt8) (st : List (List UInt8)) : ∀ e, (opn s st e).1.length ≤ st.length + 1 := by
  induction st with
  | nil => intro e; simp [opn]
  | cons k r ih =>
    intro e
    unfold opn
    repeat' split
    all_goals first | (simp; done) | (have := ih e; simp; omega) | (have := ih (e + 1); simp; omega)
theorem opn_end (s : List UInt8) (st : List (List UInt8)) : ∀ e, e ≤ (opn s st e).2 ∧ (opn s st e).2 ≤ e + st.length := by
  induction st with
  | nil => intro e; simp [opn]
  | cons k r ih =>
    intro e
    unfold opn
    repeat' split
    all_goals first | (simp; omega) | (have := ih e; simp; omega) | (have := ih (e + 1); simp; omega)

/-- No kind is the empty text. -/
def Ne (st : List (List UInt8)) : Prop := ∀ x ∈ st, x ≠ []
theorem Ne.cons {k : List UInt8} {r : List (List UInt8)} (hk : k ≠ []) (h : Ne r) : Ne (k :: r) := by
  intro x hx; rw [List.mem_cons] at hx; rcases hx with rfl | hx
  · exact hk
  · exact h x hx
theorem Ne.tail {k : List UInt8} {r : List (List UInt8)} (h : Ne (k :: r)) : Ne r := fun x hx => h x (List.mem_cons_of_mem _ hx)
theorem Ne.head {k : List UInt8} {r : List (List UInt8)} (h : Ne (k :: r)) : k ≠ [] := h k (List.mem_cons_self)
theorem opn_ne (s : List UInt8) (st : List (List UInt8)) : ∀ e, Ne st → Ne (opn s st e).1 := by
  induction st with
  | nil => intro e h; simpa [opn] using h
  | cons k r ih =>
    intro e h
    have ht := h.tail
    unfold opn
    split
    · exact Ne.cons (by decide) (Ne.cons (by decide) ht)
    split
    · split
      · exact Ne.cons (by decide) (Ne.cons (by decide) ht)
      · exact ih e ht
    split
    · exact Ne.cons (by decide) (Ne.cons (by decide) ht)
    split
    · split
      · rename_i hs
        refine Ne.cons ?_ (Ne.cons (by decide) ht)
        intro hh; subst hh; simp at hs
      · exact ih e ht
    split
    · split
      · rename_i hs
        refine Ne.cons ?_ (Ne.cons (by decide) ht)
        intro hh; subst hh; simp at hs
      · exact ih e ht
    split
    · exact ih _ ht
    · exact h
theorem stTerm_ne (s : List UInt8) (st : List (List UInt8)) (h : Ne st) : Ne (stTerm s st).1 := by
  unfold stTerm; repeat' split
  · exact Ne.cons (by decide) h
  · exact Ne.cons (by decide) h
  · exact h
theorem sts_ne (k s : List UInt8) (st : List (List UInt8)) (h : Ne st) : Ne (sts k s st).1 := by
  unfold sts
  split
  · unfold stCommand; repeat' split
    all_goals first | exact h | exact Ne.cons (by decide) (Ne.cons (by decide) h) | exact Ne.cons (by decide) (Ne.cons (by decide) (Ne.cons (by decide) (Ne.cons (by decide) (Ne.cons (by decide) (Ne.cons (by decide) h)))))
  split
  · unfold stFactor; repeat' split
    all_goals first | exact h | exact Ne.cons (by decide) (Ne.cons (by decide) h) | exact stTerm_ne _ _ (Ne.cons (by decide) (Ne.cons (by decide) h))
  split
  · exact stTerm_ne _ _ h
  repeat' split
  all_goals exact h

end Go.Proofs.Ytkinoehmcfhgbaa.Av
namespace Go.Proofs.Ytkinoehmcfhgbaa.Av

/-- A token's text: a sign is no longer than it is. -/
def Tokish (t : List UInt8) : Prop := t ≠ [] ∧ (0 < sgn t → t.length = sgn t)

def syms : List (List UInt8 × Int) := [([40], 2), ([41], 3), ([59], 4), ([58, 61], 5), ([60], 6), ([60, 61], 7), ([61], 8), ([62], 9), ([62, 61], 10), ([43], 11), ([45], 12)]
def kws : List (List UInt8 × Int) := [([102, 114, 111, 109], 13), ([100, 111], 14), ([116, 111], 15), ([115, 107, 105, 112], 16), ([105, 102], 17), ([116, 104, 101, 110], 18), ([101, 108, 115, 101], 19), ([101, 110, 100], 20), ([119, 104, 105, 108, 101], 21), ([107, 101, 101, 112], 22), ([111, 114], 23), ([97, 110, 100], 24), ([110, 111, 116], 25), ([116, 114, 117, 101], 26), ([102, 97, 108, 115, 101], 27)]

theorem sg1_cases (a : UInt8) (h : sg1 a = true) : a = 40 ∨ a = 41 ∨ a = 59 ∨ a = 60 ∨ a = 61 ∨ a = 62 ∨ a = 43 ∨ a = 45 := by
  unfold sg1 at h
  simp only [Bool.or_eq_true, beq_iff_eq] at h
  rcases h with ((((((h | h) | h) | h) | h) | h) | h) | h <;> simp [h]

theorem sym_cases (t : List UInt8) (h : Tokish t) (hs : 0 < sgn t) : ∃ k, (t, k) ∈ syms := by
  have hl := h.2 hs
  by_cases h2 : sg2 t = true
  · have e : sgn t = 2 := by unfold sgn; rw [if_pos h2]
    rw [e] at hl
    match t, hl with
    | [a, b], _ =>
      unfold sg2 at h2
      simp only [Bool.or_eq_true, Bool.and_eq_true, beq_iff_eq] at h2
      rcases h2 with (⟨rfl, rfl⟩ | ⟨rfl, rfl⟩) | ⟨rfl, rfl⟩
      · exact ⟨5, by decide⟩
      · exact ⟨7, by decide⟩
      · exact ⟨10, by decide⟩
  · match t, hs with
    | a :: r, hs =>
      have h1 : sg1 a = true := by
        cases h3 : sg1 a with
        | true => rfl
        | false => unfold sgn at hs; rw [if_neg h2] at hs; simp [h3] at hs
      have e : sgn (a :: r) = 1 := by unfold sgn; rw [if_neg h2]; simp [h1]
      rw [e] at hl
      have : r = [] := by cases r <;> simp_all
      subst this
      rcases sg1_cases a h1 with rfl | rfl | rfl | rfl | rfl | rfl | rfl | rfl
      · exact ⟨2, by decide⟩
      · exact ⟨3, by decide⟩
      · exact ⟨4, by decide⟩
      · exact ⟨6, by decide⟩
      · exact ⟨8, by decide⟩
      · exact ⟨9, by decide⟩
      · exact ⟨11, by decide⟩
      · exact ⟨12, by decide⟩

theorem kw_key (t : List UInt8) (k : Int) (hk : kw t = k) : k = 1 ∨ (t, k) ∈ kws := by
  unfold kw at hk
  by_cases h1 : t = [102, 114, 111, 109]
  · subst h1; subst hk; exact Or.inr (by decide)
  by_cases h2 : t = [100, 111]
  · subst h2; subst hk; exact Or.inr (by decide)
  by_cases h3 : t = [116, 111]
  · subst h3; subst hk; exact Or.inr (by decide)
  by_cases h4 : t = [115, 107, 105, 112]
  · subst h4; subst hk; exact Or.inr (by decide)
  by_cases h5 : t = [105, 102]
  · subst h5; subst hk; exact Or.inr (by decide)
  by_cases h6 : t = [116, 104, 101, 110]
  · subst h6; subst hk; exact Or.inr (by decide)
  by_cases h7 : t = [101, 108, 115, 101]
  · subst h7; subst hk; exact Or.inr (by decide)
  by_cases h8 : t = [101, 110, 100]
  · subst h8; subst hk; exact Or.inr (by decide)
  by_cases h9 : t = [119, 104, 105, 108, 101]
  · subst h9; subst hk; exact Or.inr (by decide)
  by_cases h10 : t = [107, 101, 101, 112]
  · subst h10; subst hk; exact Or.inr (by decide)
  by_cases h11 : t = [111, 114]
  · subst h11; subst hk; exact Or.inr (by decide)
  by_cases h12 : t = [97, 110, 100]
  · subst h12; subst hk; exact Or.inr (by decide)
  by_cases h13 : t = [110, 111, 116]
  · subst h13; subst hk; exact Or.inr (by decide)
  by_cases h14 : t = [116, 114, 117, 101]
  · subst h14; subst hk; exact Or.inr (by decide)
  by_cases h15 : t = [102, 97, 108, 115, 101]
  · subst h15; subst hk; exact Or.inr (by decide)
  simp [h1, h2, h3, h4, h5, h6, h7, h8, h9, h10, h11, h12, h13, h14, h15] at hk
  exact Or.inl hk.symm
theorem kw_cases (t : List UInt8) : kw t = 1 ∨ (t, kw t) ∈ kws := kw_key t _ rfl
theorem vr_cases (t : List UInt8) : vr t = -1 ∨ t = [97] ∨ t = [98] ∨ t = [99] ∨ t = [100] := by
  unfold vr
  repeat' split
  all_goals first | exact Or.inl rfl | (rename_i h; rw [beq_iff_eq] at h; simp [h])

/-- All that the proofs below ask of kinds: a Bool over the closed tables. -/
theorem syms_kind : ∀ x ∈ syms, (tk x.1).1 = x.2 ∧ vr x.1 = -1 ∧ dg 999 x.1 = -1 ∧ kw x.1 = 1 ∧ 0 < sgn x.1 := by decide
theorem kws_kind : ∀ x ∈ kws, (tk x.1).1 = x.2 ∧ vr x.1 = -1 ∧ dg 999 x.1 = -1 ∧ kw x.1 = x.2 ∧ sgn x.1 = 0 := by decide
theorem syms_inj : ∀ x ∈ syms ++ kws, ∀ y ∈ syms ++ kws, x.2 = y.2 → x.1 = y.1 := by decide
theorem sk_range : ∀ x ∈ syms ++ kws, 2 ≤ x.2 ∧ x.2 ≤ 27 := by decide

/-- A literal: its kind tells it. -/
theorem kind_lit (t c : List UInt8) (k : Int) (h : Tokish t) (hc : (c, k) ∈ syms ++ kws) : (tk t).1 = k ↔ t = c := by
  have hck : (tk c).1 = k := by
    rw [List.mem_append] at hc
    rcases hc with hc | hc
    · exact (syms_kind _ hc).1
    · exact (kws_kind _ hc).1
  constructor
  · intro hk
    by_cases hs : 0 < sgn t
    · obtain ⟨k', hk'⟩ := sym_cases t h hs
      have := (syms_kind _ hk').1
      simp only at this
      exact syms_inj (t, k') (List.mem_append_left _ hk') (c, k) hc (by simp only; omega)
    · have e : tk t = wk t := by unfold tk; rw [if_neg hs]
      have hr := sk_range _ hc
      simp only at hr
      rw [e] at hk
      unfold wk at hk
      rcases kw_cases t with h1 | h1
      · rw [if_neg (by simp [h1])] at hk
        repeat' split at hk
        all_goals (simp at hk; omega)
      · have hr' := sk_range _ (List.mem_append_right _ h1)
        simp only at hr'
        rw [if_pos (by omega)] at hk
        exact syms_inj (t, kw t) (List.mem_append_right _ h1) (c, k) hc hk
  · intro e; rw [e]; exact hck

theorem kind_var (t : List UInt8) (h : Tokish t) : (tk t).1 = 28 ↔ 0 ≤ vr t := by
  by_cases hs : 0 < sgn t
  · obtain ⟨k', hk'⟩ := sym_cases t h hs
    have h1 := syms_kind _ hk'
    have h2 := sk_range _ (List.mem_append_left _ hk')
    simp only at h1 h2
    constructor
    · intro e; omega
    · intro e; omega
  · have e : tk t = wk t := by unfold tk; rw [if_neg hs]
    rw [e]; unfold wk
    rcases kw_cases t with h1 | h1
    · rw [if_neg (by simp [h1])]
      by_cases hv : 0 ≤ vr t
      · rw [if_pos hv]; simp [hv]
      · rw [if_neg hv]; constructor
        · intro h; split at h <;> simp at h
        · intro h; exact absurd h hv
    · have h2 := kws_kind _ h1
      have h3 := sk_range _ (List.mem_append_right _ h1)
      simp only at h2 h3
      rw [if_pos (by omega)]
      constructor
      · intro h; simp only at h; omega
      · intro h; omega

theorem kind_num (t : List UInt8) (h : Tokish t) : (tk t).1 = 29 ↔ 0 ≤ dg 999 t := by
  by_cases hs : 0 < sgn t
  · obtain ⟨k', hk'⟩ := sym_cases t h hs
    have h1 := syms_kind _ hk'
    have h2 := sk_range _ (List.mem_append_left _ hk')
    simp only at h1 h2
    constructor
    · intro e; omega
    · intro e; omega
  · have e : tk t = wk t := by unfold tk; rw [if_neg hs]
    rw [e]; unfold wk
    rcases kw_cases t with h1 | h1
    · rw [if_neg (by simp [h1])]
      rcases vr_cases t with hv | hv
      · rw [if_neg (by omega)]
        by_cases hd : 0 ≤ dg 999 t
        · rw [if_pos hd]; simp [hd]
        · rw [if_neg hd]; simp; omega
      · have hd : vr t ≥ 0 ∧ dg 999 t = -1 := by rcases hv with rfl | rfl | rfl | rfl <;> decide
        rw [if_pos hd.1]; simp; omega
    · have h2 := kws_kind _ h1
      have h3 := sk_range _ (List.mem_append_right _ h1)
      simp only at h2 h3
      rw [if_pos (by omega)]
      constructor
      · intro h; simp only at h; omega
      · intro h; omega

theorem take_sgn (l : List UInt8) (h : 0 < sgn l) : sgn (l.take (sgn l)) = sgn l := by
  by_cases h2 : sg2 l = true
  · match l, h2 with
    | a :: b :: r, h2 =>
      have e : sgn (a :: b :: r) = 2 := by unfold sgn; rw [if_pos h2]
      rw [e]
      have h2' : sg2 [a, b] = true := by simpa [sg2] using h2
      show sgn [a, b] = 2
      unfold sgn; rw [if_pos h2']
  · match l with
    | [] => simp [sgn, sg2] at h
    | a :: r =>
      have h1 : sg1 a = true := by
        cases h3 : sg1 a with
        | true => rfl
        | false => unfold sgn at h; rw [if_neg h2] at h; simp [h3] at h
      have e : sgn (a :: r) = 1 := by unfold sgn; rw [if_neg h2]; simp [h1]
      rw [e]
      show sgn [a] = 1
      simp [sgn, sg2, h1]

theorem tokish_take (a : UInt8) (r : List UInt8) : Tokish ((a :: r).take (tlen (a :: r))) := by
  have hp := tlen_pos (a :: r)
  refine ⟨?_, ?_⟩
  · intro e
    have := congrArg List.length e
    rw [List.length_take] at this; simp at this; omega
  · by_cases hs : 0 < sgn (a :: r)
    · have e : tlen (a :: r) = sgn (a :: r) := by unfold tlen; rw [if_pos hs]
      rw [e, take_sgn _ hs]
      intro _; rw [List.length_take]; have := (sgn_le (a :: r)).1; omega
    · intro hh
      exfalso
      have e : tlen (a :: r) = 1 + wlen r := by unfold tlen; rw [if_neg hs]; rfl
      have h2 : ¬ sg2 (a :: r) = true := by
        intro hh; unfold sgn at hs; rw [if_pos hh] at hs; omega
      have h1 : ¬ sg1 a = true := by
        intro hh; unfold sgn at hs; rw [if_neg h2] at hs; simp [hh] at hs
      rw [e, Nat.add_comm] at hh
      have h3 : sg2 (a :: r.take (wlen r)) = true → sg2 (a :: r) = true := by
        cases r with
        | nil => simp [sg2]
        | cons x y => cases hw : wlen (x :: y) <;> simp [sg2]
      have h4 : ¬ sg2 (a :: r.take (wlen r)) = true := fun hh => h2 (h3 hh)
      have : sgn (a :: r.take (wlen r)) = 0 := by unfold sgn; rw [if_neg h4]; simp [h1]
      rw [List.take_succ_cons] at hh; omega

theorem toks_tokish (f : Nat) : ∀ (i : Nat) (l : List UInt8) (t : List UInt8) (j : Nat), (t, j) ∈ toks f i l → Tokish t := by
  induction f with
  | zero => intro i l t j h; simp [toks] at h
  | succ f ih =>
    intro i l t j h
    cases l with
    | nil => simp [toks] at h
    | cons a r =>
      simp only [toks] at h
      split at h
      · exact ih _ _ _ _ h
      · rw [List.mem_cons] at h
        rcases h with h | h
        · injection h with h1 _; rw [h1]; exact tokish_take a r
        · exact ih _ _ _ _ h

end Go.Proofs.Ytkinoehmcfhgbaa.Av
set_option linter.unusedVariables false
set_option linter.unusedSimpArgs false
namespace Go.Proofs.Ytkinoehmcfhgbaa.Av
open Go.RowKit

theorem sgn_u8 (s : ByteArray) (k : Nat) (h0 : k < s.size) (h2 : ¬ sg2 (rest s k) = true) :
    sgn (rest s k) = if ((s[k].toNat : Int) == 40) || ((s[k].toNat : Int) == 41) || ((s[k].toNat : Int) == 59) || ((s[k].toNat : Int) == 60) || ((s[k].toNat : Int) == 61) || ((s[k].toNat : Int) == 62) || ((s[k].toNat : Int) == 43) || ((s[k].toNat : Int) == 45) then 1 else 0 := by
  have e1 : ((s[k].toNat : Int) == 40) = (s[k] == 40) := u8_beq s[k] 40 (by omega)
  have e2 : ((s[k].toNat : Int) == 41) = (s[k] == 41) := u8_beq s[k] 41 (by omega)
  have e3 : ((s[k].toNat : Int) == 59) = (s[k] == 59) := u8_beq s[k] 59 (by omega)
  have e4 : ((s[k].toNat : Int) == 60) = (s[k] == 60) := u8_beq s[k] 60 (by omega)
  have e5 : ((s[k].toNat : Int) == 61) = (s[k] == 61) := u8_beq s[k] 61 (by omega)
  have e6 : ((s[k].toNat : Int) == 62) = (s[k] == 62) := u8_beq s[k] 62 (by omega)
  have e7 : ((s[k].toNat : Int) == 43) = (s[k] == 43) := u8_beq s[k] 43 (by omega)
  have e8 : ((s[k].toNat : Int) == 45) = (s[k] == 45) := u8_beq s[k] 45 (by omega)
  rw [e1, e2, e3, e4, e5, e6, e7, e8]
  rw [rest_cons s k h0] at h2 ⊢
  unfold sgn; rw [if_neg h2]; rfl

theorem sg2_two (s : ByteArray) (k : Nat) (h : k + 2 ≤ s.size) : sg2 (rest s k) = (((s.extract k (k + 2)).toList == [58, 61]) || ((s.extract k (k + 2)).toList == [60, 61]) || ((s.extract k (k + 2)).toList == [62, 61])) := by
  rw [ByteArray.toList_eq, extract_rest, rest_cons s k (by omega), rest_cons s (k + 1) (by omega)]
  simp [sg2]
theorem sg2_one (s : ByteArray) (k : Nat) (h : ¬ k + 2 ≤ s.size) : sg2 (rest s k) = false := by
  by_cases h0 : k < s.size
  · rw [rest_cons s k h0, rest_end s (k + 1) (by omega)]; rfl
  · rw [rest_end s k (by omega)]; rfl

theorem sgn_two (s : ByteArray) (k : Nat) (h : k + 2 ≤ s.size) : ((sgn (rest s k) : Nat) : Int) = if (((s.extract k (k + 2)).toList == [58, 61]) || ((s.extract k (k + 2)).toList == [60, 61]) || ((s.extract k (k + 2)).toList == [62, 61])) then 2 else if ((s[k].toNat : Int) == 40) || ((s[k].toNat : Int) == 41) || ((s[k].toNat : Int) == 59) || ((s[k].toNat : Int) == 60) || ((s[k].toNat : Int) == 61) || ((s[k].toNat : Int) == 62) || ((s[k].toNat : Int) == 43) || ((s[k].toNat : Int) == 45) then 1 else 0 := by
  rw [← sg2_two s k h]
  by_cases h2 : sg2 (rest s k) = true
  · rw [if_pos h2]; unfold sgn; rw [if_pos h2]; rfl
  · rw [if_neg h2, sgn_u8 s k (by omega) h2]; split <;> rfl
theorem sgn_one (s : ByteArray) (k : Nat) (h0 : k < s.size) (h : ¬ k + 2 ≤ s.size) : ((sgn (rest s k) : Nat) : Int) = if ((s[k].toNat : Int) == 40) || ((s[k].toNat : Int) == 41) || ((s[k].toNat : Int) == 59) || ((s[k].toNat : Int) == 60) || ((s[k].toNat : Int) == 61) || ((s[k].toNat : Int) == 62) || ((s[k].toNat : Int) == 43) || ((s[k].toNat : Int) == 45) then 1 else 0 := by
  rw [sgn_u8 s k h0 (by rw [sg2_one s k h]; simp)]; split <;> rfl

set_option maxHeartbeats 1000000 in
theorem sign_any (s : ByteArray) (k : Nat) (w : World) (hs : s.size ≤ 300) (h0 : k < s.size) :
    Calls Try.prog 42 #[.string s, .int .i64 (k : Int)] w fun e w' => e = .returned (.int .i64 (sgn (rest s k) : Int)) ∧ w' = w := by
  by_cases h : k + 2 ≤ s.size
  · have H := sgn_two s k h
    generalize ((sgn (rest s k) : Nat) : Int) = G at *
    have H2 : Hid _ := H
    clear H
    have h' : (k : Int) + 2 ≤ (s.size : Int) := by omega
    go_enter Try.func42, Try.ntmps42
    go_wp2
    all_goals go_ret
    all_goals refine ⟨ret_int ?_, rfl⟩
    all_goals rw [H2.out]
    all_goals first | (simp only [*, Bool.or_true, Bool.true_or, Bool.or_false, Bool.or_self, if_true, Bool.false_eq_true, if_false]; done) | (exfalso; simp_all; done)
  · have H := sgn_one s k h0 h
    generalize ((sgn (rest s k) : Nat) : Int) = G at *
    have H2 : Hid _ := H
    clear H
    have h' : ¬ ((k : Int) + 2 ≤ (s.size : Int)) := by omega
    go_enter Try.func42, Try.ntmps42
    go_wp2
    all_goals go_ret
    all_goals refine ⟨ret_int ?_, rfl⟩
    all_goals rw [H2.out]
    all_goals first | (simp only [*, Bool.or_true, Bool.true_or, Bool.or_false, Bool.or_self, if_true, Bool.false_eq_true, if_false]; done) | (exfalso; simp_all; done)

set_option maxHeartbeats 400000 in
theorem rvariable_any (s : ByteArray) (w : World) :
    Calls Try.prog 50 #[.string s] w fun e w' => e = .returned (.int .i64 (vr s.data.toList)) ∧ w' = w := by
  rw [← ByteArray.toList_eq]
  go_enter Try.func50, Try.ntmps50
  go_wp2
  all_goals go_ret
  all_goals exact ⟨ret_int (by simp only [vr, *, if_true, Bool.false_eq_true, if_false]), rfl⟩

set_option maxHeartbeats 400000 in
theorem relation_any (s : ByteArray) (w : World) :
    Calls Try.prog 66 #[.string s] w fun e w' => e = .returned (.bool (rl s.data.toList)) ∧ w' = w := by
  rw [← ByteArray.toList_eq]
  generalize hR : rl s.toList = R
  have E : Hid (rl s.toList = R) := hR
  clear hR
  go_enter Try.func66, Try.ntmps66
  go_wp2
  all_goals go_ret
  all_goals refine ⟨ret_bool ?_, rfl⟩
  all_goals rw [← E.out]
  all_goals first | rfl | (simp [rl, *]; done)

theorem dgo_zero (c : UInt8) (r : List UInt8) (m : Int) : dg m (c :: r) = if c == 48 && !r.isEmpty then -1 else dgo m (c :: r) 0 := rfl

set_option maxHeartbeats 1000000 in
theorem digits_any (s : ByteArray) (w : World) (m : Int) (hs : s.size ≤ 300) (hm : 0 ≤ m) (hm9 : m ≤ 999999) :
    Calls Try.prog 65 #[.string s, .int .i64 m] w fun e w' => e = .returned (.int .i64 (dg m s.data.toList)) ∧ w' = w := by
  by_cases h0 : 0 < s.size
  · have hd : s.data.toList = s[0] :: rest s 1 := rest_cons s 0 h0
    have hne : (s.toList.isEmpty) = false := by rw [ByteArray.toList_eq, hd]; rfl
    have hl : (rest s 1).length = s.size - 1 := rest_len s 1
    have e48 : ((s[0].toNat : Int) == 48) = (s[0] == 48) := u8_beq s[0] 48 (by omega)
    by_cases hA : ((s[0].toNat : Int) == 48) = true ∧ (1 : Int) < (s.size : Int)
    · obtain ⟨h2, h1⟩ := hA
      have H : Hid (dg m s.data.toList = -1) := by
        show dg m s.data.toList = -1
        have : (rest s 1).isEmpty = false := by
          rw [List.isEmpty_eq_false_iff]; intro h; rw [h] at hl; simp at hl; omega
        rw [hd, dgo_zero, ← e48, h2, this]; rfl
      clear hd hl e48
      go_enter Try.func65, Try.ntmps65
      go_wp2
      go_ret
      exact ⟨ret_int H.out.symm, rfl⟩
    · have H : Hid (dg m s.data.toList = dgo m (rest s 0) 0) := by
        show dg m s.data.toList = dgo m s.data.toList 0
        have : (s[0] == 48 && !(rest s 1).isEmpty) = false := by
          rw [← e48]
          by_cases h1 : (1 : Int) < (s.size : Int)
          · have : ((s[0].toNat : Int) == 48) = false := by
              rw [Bool.eq_false_iff]; intro h2; exact hA ⟨h2, h1⟩
            rw [this]; rfl
          · have : rest s 1 = [] := by rw [← List.length_eq_zero_iff]; omega
            rw [this]; simp
        rw [hd, dgo_zero, this]; rfl
      have hh : (((s[0].toNat : Int) == 48) = true ∧ ¬ (1 : Int) < (s.size : Int)) ∨ ((s[0].toNat : Int) == 48) = false := by
        cases hc : ((s[0].toNat : Int) == 48) with
        | false => exact Or.inr rfl
        | true => exact Or.inl ⟨rfl, fun h1 => hA ⟨hc, h1⟩⟩
      clear hd hl e48 hA
      rcases hh with ⟨hh, hh'⟩ | hh
      all_goals
        go_enter Try.func65, Try.ntmps65
        go_wp2
        go_loop [5, 6] (fun v i => ∃ (k : Nat) (n : Int), k ≤ s.size ∧ i = .int .i64 k ∧ v = .int .i64 n ∧ 0 ≤ n ∧ n ≤ m ∧ dgo m (rest s 0) 0 = dgo m (rest s k) n) (fun _ i => s.size - (intOf i).toNat)
        case atStart => exact ⟨0, 0, Nat.zero_le _, rfl, rfl, by omega, by omega, rfl⟩
        case round =>
          obtain ⟨k, n, hk, rfl, rfl, hn0, hn9, hq⟩ := hrel
          have Q : Hid (dgo m (rest s 0) 0 = dgo m (rest s k) n) := hq
          clear hq
          by_cases hlt : k < s.size
          · have hb : s[k].toNat < 256 := UInt8.toNat_lt _
            have E : Hid (dgo m (rest s k) n = if (s[k].toNat : Int) < 48 ∨ 57 < (s[k].toNat : Int) then -1 else if m < n * 10 + ((s[k].toNat : Int) - 48) then -1 else dgo m (rest s (k + 1)) (n * 10 + ((s[k].toNat : Int) - 48))) := by
              show _ = _
              rw [rest_cons s k hlt]; rfl
            go_wp2
            case roundEnd =>
              go_round
              case rel => exact ⟨k + 1, _, by omega, by go_num, rfl, by omega, by omega, by rw [Q.out, E.out, if_neg (by omega), if_neg (by omega), Int.mul_comm n 10]⟩
              case measure => simp [intOf]; omega
            all_goals go_ret
            · exact ⟨ret_int (by rw [H.out, Q.out, E.out, if_pos (by omega)]), rfl⟩
            · exact ⟨ret_int (by rw [H.out, Q.out, E.out, if_neg (by omega), if_pos (by omega)]), rfl⟩
            · exact ⟨ret_int (by rw [H.out, Q.out, E.out, if_pos (by omega)]), rfl⟩
          · go_wp2
            go_ret
            exact ⟨ret_int (by rw [H.out, Q.out, rest_end s k (by omega)]; rfl), rfl⟩
  · have H : Hid (dg m s.data.toList = -1) := by
      show dg m s.data.toList = -1
      have : s.data.toList = [] := rest_end s 0 (by omega)
      rw [this]; rfl
    have he : s.toList.isEmpty = true := by
      have : s.data.toList = [] := rest_end s 0 (by omega)
      rw [ByteArray.toList_eq, this]; rfl
    go_enter Try.func65, Try.ntmps65
    go_wp2
    go_ret
    exact ⟨ret_int H.out.symm, rfl⟩

theorem Try.infoRef : (Try.prog.info? 106).map (fun i => (i.zero, i.size, i.bytes)) = some (some (.agg #[.string ByteArray.empty, .int .i64 0]), 2, 24) := by kernel_rfl

/-- The document's two cells of a token. -/
def cell2 (t : List UInt8 × Nat) : List Value := [.string ⟨t.1.toArray⟩, .int .i64 (t.2 : Int)]
def cells2 (l : List (List UInt8 × Nat)) : List Value := l.flatMap cell2
theorem two_new2 (w : World) (B : Nat) (hB : B = w.heap.size) (a b : Value) (t : TypeId) : ∀ j u, [a, b][j]? = some u → (w.alloc (.cells #[a, b] t)).cell? ((⟨B, 0, none⟩ : Addr).add j) = some u := by
  subst hB
  intro j u h
  match j, h with
  | 0, h => simp at h; subst h; simp [Addr.add]
  | 1, h => simp at h; subst h; simp [Addr.add]
theorem one_si (x : ByteArray) (n : Int) : ∀ u ∈ [Value.string x, .int .i64 n], u.oneCell' = true := by
  intro u hu; simp at hu; rcases hu with rfl | rfl <;> rfl
theorem extract_str (s : ByteArray) (k e : Nat) : s.extract k e = ⟨((rest s k).take (e - k)).toArray⟩ := by
  apply Go.WideShapes.bytes_inj; rw [extract_rest]

set_option maxRecDepth 100000 in
set_option maxHeartbeats 1000000 in
theorem tokens_any (s : ByteArray) (w : World) (hs : s.size ≤ 300) :
    Calls Try.prog 24 #[.string s] w fun e w' => ∃ v, e = .returned v ∧ w'.ownsRow w.heap.size 106 2 v (tokAt 0 (rest s 0)).length (cells2 (tokAt 0 (rest s 0))) ∧ Below w.heap.size w w' := by
  obtain ⟨i0, hi, hz0, hz1, hz2⟩ := info_parts Try.infoRef
  go_enter Try.func24, Try.ntmps24
  go_wp2_with fail
  go_loopw [3, 4] (fun v i wr => ∃ (k : Nat) (ds : List (List UInt8 × Nat)), k ≤ s.size ∧ i = .int .i64 k ∧ wr.ownsRow w.heap.size 106 2 v ds.length (cells2 ds) ∧ tokAt 0 (rest s 0) = ds ++ tokAt k (rest s k) ∧ Below w.heap.size w wr) (fun _ i _ => s.size - (intOf i).toNat)
  case atStart => exact ⟨0, [], Nat.zero_le _, rfl, World.ownsRow_nil _ _ _ _, rfl, Below.refl _ _⟩
  case round =>
    obtain ⟨k, ds, hk, rfl, hown, hq, hnx⟩ := hrel
    have Q : Hid (tokAt 0 (rest s 0) = ds ++ tokAt k (rest s k)) := hq
    clear hq
    by_cases hlt : k < s.size
    · have C1 : Hid (∀ w, Calls Try.prog 42 #[.string s, .int .i64 (k : Int)] w fun e' w' => e' = .returned (.int .i64 (sgn (rest s k) : Int)) ∧ w = w') := fun w => (sign_any _ _ _ hs hlt).mono fun _ _ h => ⟨h.1, h.2.symm⟩
      have hdl : ds.length ≤ 300 := by
        have hl := tokAt_len 0 (rest s 0)
        rw [rest_len, Q.out, List.length_append] at hl; omega
      have hsz := hnx.size
      have hsg := (sgn_le (rest s k)).2
      by_cases hB : blank s[k] = true
      · have Q2 : Hid (tokAt 0 (rest s 0) = ds ++ tokAt (k + 1) (rest s (k + 1))) := by
          show _ = _
          rw [Q.out, rest_cons s k hlt, tokAt_blank _ _ _ hB]
        have hb : ((s[k].toNat : Int) == 32) = true ∨ (((s[k].toNat : Int) == 32) = false ∧ ((s[k].toNat : Int) == 10) = true) := by
          rw [← blank_int] at hB
          cases h1 : ((s[k].toNat : Int) == 32) with
          | true => exact Or.inl rfl
          | false => rw [h1, Bool.false_or] at hB; exact Or.inr ⟨rfl, hB⟩
        clear hB
        generalize sgn (rest s k) = G at *
        rcases hb with hb | ⟨hb, hb'⟩
        all_goals
          go_wp2_with (go_at_call 42; refine (C1.out _).mono ?_; rintro e' w' ⟨rfl, rfl⟩)
          go_roundw
          case rel => exact ⟨k + 1, ds, by omega, by go_num, hown, Q2.out, hnx⟩
          case measure => simp [intOf]; omega
      · have hB : blank s[k] = false := by simpa using hB
        have hb : ((s[k].toNat : Int) == 32) = false ∧ ((s[k].toNat : Int) == 10) = false := by
          have h := hB
          rw [← blank_int, Bool.or_eq_false_iff] at h; exact h
        obtain ⟨hb1, hb2⟩ := hb
        have hT : k + tlen (rest s k) ≤ s.size := by
          have := tlen_le s[k] (rest s (k + 1)); rw [← rest_cons s k hlt, rest_len] at this; omega
        have hT0 : 0 < tlen (rest s k) := tlen_pos _
        have Q2 : Hid (tokAt 0 (rest s 0) = (ds ++ [((rest s k).take (tlen (rest s k)), k)]) ++ tokAt (k + tlen (rest s k)) (rest s (k + tlen (rest s k)))) := by
          show _ = _
          have e := tokAt_tok k s[k] (rest s (k + 1)) hB
          rw [← rest_cons s k hlt, rest_drop] at e
          rw [Q.out, e, List.append_assoc]; rfl
        clear hB
        have hx : s.extract k (k + tlen (rest s k)) = ⟨((rest s k).take (tlen (rest s k))).toArray⟩ := by
          rw [extract_str]; rw [Nat.add_sub_cancel_left]
        obtain ⟨t, ht⟩ : ∃ t, (rest s k).take (tlen (rest s k)) = t := ⟨_, rfl⟩
        rw [ht] at Q2 hx
        clear ht
        by_cases hG : 0 < sgn (rest s k)
        · have hTG : tlen (rest s k) = sgn (rest s k) := by unfold tlen; rw [if_pos hG]
          rw [hTG] at Q2 hx hT hT0
          clear hTG
          generalize sgn (rest s k) = T at *
          have hG0 : ((T : Int) == 0) = false := by rw [beq_eq_false_iff_ne]; omega
          have HX : Hid (s.extract k (k + T) = ⟨t.toArray⟩) := hx
          clear hx
          go_wp2_with (go_at_call 42; refine (C1.out _).mono ?_; rintro e' w' ⟨rfl, rfl⟩)
          go_loop [6, 7] (fun e _ => e = .int .i64 ((k + T : Nat) : Int)) (fun _ _ => 0)
          case atStart => go_num
          case round =>
            subst hrel
            go_wp2_with (at_builtin; refine wpList_append_own _ rfl _ _ 53 rfl w.heap.size 106 i0 (.agg #[.string ByteArray.empty, .int .i64 0]) 2 24 Try.underlying53 hi hz0 hz1 hz2 rfl (by decide) _ _ _ rfl (hown.alloc _) ⟨wr.heap.size, 0, none⟩ 1 1 [.string (s.extract k (k + T)), .int .i64 (k : Int)] rfl rfl (two_new2 _ _ rfl _ _ _) (one_si _ _) (by unfold maxLen; omega) (by omega) (by simp; omega) ?_)
            · intro v' w2 hown2 hgrow _
              have hb2 := (hnx.alloc (by omega) _).grown hgrow (by simp; omega) (own_block hown)
              rw [HX.out] at hown2
              clear hown hgrow
              go_wp2_with fail
              go_roundw
              case rel => exact ⟨k + T, ds ++ [(t, k)], by omega, by go_num, by simpa [cells2, cell2] using hown2, Q2.out, hb2⟩
              case measure => simp [intOf]; omega
        · have hTG : tlen (rest s k) = 1 + wlen (rest s (k + 1)) := by unfold tlen; rw [if_neg hG, rest_cons s k hlt]; rfl
          have hG' : sgn (rest s k) = 0 := by omega
          rw [hG'] at C1
          have HX : Hid (s.extract k (k + tlen (rest s k)) = ⟨t.toArray⟩) := hx
          have HT : Hid (tlen (rest s k) = 1 + wlen (rest s (k + 1))) := hTG
          have HG : Hid (sgn (rest s k) = 0) := hG'
          clear hx hTG hG' hG hsg
          generalize tlen (rest s k) = T at *
          go_wp2_with (go_at_call 42; refine (C1.out _).mono ?_; rintro e' w' ⟨rfl, rfl⟩)
          clear C1
          go_loop [6, 7] (fun e _ => ∃ n : Nat, k ≤ n ∧ n ≤ k + T ∧ e = .int .i64 (n : Int) ∧ (n = k ∨ (k < n ∧ k + T = n + wlen (rest s n)))) (fun e _ => s.size - (intOf e).toNat)
          case atStart => exact ⟨k, Nat.le_refl _, by omega, by go_num, Or.inl rfl⟩
          case round =>
            obtain ⟨n, hn1, hn2, rfl, hn⟩ := hrel
            have HN : Hid (n = k ∨ (k < n ∧ k + T = n + wlen (rest s n))) := hn
            clear hn
            by_cases hin : n < s.size
            · by_cases hex : blank s[n] = true
              · have hnT : n = k + T := by
                  rcases HN.out with h | ⟨h1, h2⟩
                  · exfalso
                    subst h
                    rw [← blank_int, hb1, hb2] at hex; cases hex
                  · rw [rest_cons s n hin, wlen, if_pos (by rw [hex]; rfl)] at h2; omega
                have hb : ((s[n].toNat : Int) != 32) = false ∨ (((s[n].toNat : Int) != 32) = true ∧ ((s[n].toNat : Int) != 10) = false) := by
                  rw [← blank_int] at hex
                  cases h1 : ((s[n].toNat : Int) == 32) with
                  | true => left; simp [bne, h1]
                  | false => rw [h1, Bool.false_or] at hex; right; simp [bne, h1, hex]
                clear HN hex
                subst hnT
                rcases hb with hb | ⟨hb, hb'⟩
                · skip
                  go_wp2_with (at_builtin; refine wpList_append_own _ rfl _ _ 53 rfl w.heap.size 106 i0 (.agg #[.string ByteArray.empty, .int .i64 0]) 2 24 Try.underlying53 hi hz0 hz1 hz2 rfl (by decide) _ _ _ rfl (hown.alloc _) ⟨wr.heap.size, 0, none⟩ 1 1 [.string (s.extract k (k + T)), .int .i64 (k : Int)] rfl rfl (two_new2 _ _ rfl _ _ _) (one_si _ _) (by unfold maxLen; omega) (by omega) (by simp; omega) ?_)
                  · intro v' w2 hown2 hgrow _
                    have hb2 := (hnx.alloc (by omega) _).grown hgrow (by simp; omega) (own_block hown)
                    rw [HX.out] at hown2
                    clear hown hgrow
                    go_wp2_with fail
                    go_roundw
                    case rel => exact ⟨k + T, ds ++ [(t, k)], by omega, by go_num, by simpa [cells2, cell2] using hown2, Q2.out, hb2⟩
                    case measure => simp [intOf]; omega
                · skip
                  go_wp2_with (at_builtin; refine wpList_append_own _ rfl _ _ 53 rfl w.heap.size 106 i0 (.agg #[.string ByteArray.empty, .int .i64 0]) 2 24 Try.underlying53 hi hz0 hz1 hz2 rfl (by decide) _ _ _ rfl (hown.alloc _) ⟨wr.heap.size, 0, none⟩ 1 1 [.string (s.extract k (k + T)), .int .i64 (k : Int)] rfl rfl (two_new2 _ _ rfl _ _ _) (one_si _ _) (by unfold maxLen; omega) (by omega) (by simp; omega) ?_)
                  · intro v' w2 hown2 hgrow _
                    have hb2 := (hnx.alloc (by omega) _).grown hgrow (by simp; omega) (own_block hown)
                    rw [HX.out] at hown2
                    clear hown hgrow
                    go_wp2_with fail
                    go_roundw
                    case rel => exact ⟨k + T, ds ++ [(t, k)], by omega, by go_num, by simpa [cells2, cell2] using hown2, Q2.out, hb2⟩
                    case measure => simp [intOf]; omega
              · have hex' : ((s[n].toNat : Int) != 32) = true ∧ ((s[n].toNat : Int) != 10) = true := by
                  have h : blank s[n] = false := by simpa using hex
                  rw [← blank_int, Bool.or_eq_false_iff] at h
                  simp [bne, h.1, h.2]
                obtain ⟨hx1, hx2⟩ := hex'
                have C2 : Hid (∀ w, Calls Try.prog 42 #[.string s, .int .i64 (n : Int)] w fun e' w' => e' = .returned (.int .i64 (sgn (rest s n) : Int)) ∧ w = w') := fun w => (sign_any _ _ _ hs hin).mono fun _ _ h => ⟨h.1, h.2.symm⟩
                have hsg := (sgn_le (rest s n)).2
                by_cases hgn : 0 < sgn (rest s n)
                · have hnT : n = k + T := by
                    rcases HN.out with h | ⟨h1, h2⟩
                    · exfalso; subst h; have := HG.out; omega
                    · rw [rest_cons s n hin] at hgn h2
                      rw [wlen, if_pos (by simp [hgn])] at h2; omega
                  clear HN hex
                  subst hnT
                  generalize sgn (rest s (k + T)) = G at *
                  go_wp2_with (first | (go_at_call 42; refine (C2.out _).mono ?_; rintro e' w' ⟨rfl, rfl⟩) | (at_builtin; refine wpList_append_own _ rfl _ _ 53 rfl w.heap.size 106 i0 (.agg #[.string ByteArray.empty, .int .i64 0]) 2 24 Try.underlying53 hi hz0 hz1 hz2 rfl (by decide) _ _ _ rfl (hown.alloc _) ⟨wr.heap.size, 0, none⟩ 1 1 [.string (s.extract k (k + T)), .int .i64 (k : Int)] rfl rfl (two_new2 _ _ rfl _ _ _) (one_si _ _) (by unfold maxLen; omega) (by omega) (by simp; omega) ?_))
                  · intro v' w2 hown2 hgrow _
                    have hb2 := (hnx.alloc (by omega) _).grown hgrow (by simp; omega) (own_block hown)
                    rw [HX.out] at hown2
                    clear hown hgrow
                    go_wp2_with fail
                    go_roundw
                    case rel => exact ⟨k + T, ds ++ [(t, k)], by omega, by go_num, by simpa [cells2, cell2] using hown2, Q2.out, hb2⟩
                    case measure => simp [intOf]; omega
                · have HN2 : Hid (k + T = n + 1 + wlen (rest s (n + 1))) := by
                    show k + T = n + 1 + wlen (rest s (n + 1))
                    rcases HN.out with h | ⟨h1, h2⟩
                    · subst h; have := HT.out; omega
                    · rw [rest_cons s n hin] at hgn h2
                      rw [wlen, if_neg (by simp [hgn, hex])] at h2; omega
                  clear HN hex
                  generalize sgn (rest s n) = G at *
                  go_wp2_with (go_at_call 42; refine (C2.out _).mono ?_; rintro e' w' ⟨rfl, rfl⟩)
                  go_round
                  case rel => exact ⟨n + 1, by omega, by have := HN2.out; omega, by go_num, Or.inr ⟨by omega, HN2.out⟩⟩
                  case measure => simp [intOf]; omega
            · have hnT : n = k + T := by
                rcases HN.out with h | ⟨h1, h2⟩
                · omega
                · rw [rest_end s n (by omega)] at h2; simp [wlen] at h2; omega
              clear HN
              subst hnT
              go_wp2_with (at_builtin; refine wpList_append_own _ rfl _ _ 53 rfl w.heap.size 106 i0 (.agg #[.string ByteArray.empty, .int .i64 0]) 2 24 Try.underlying53 hi hz0 hz1 hz2 rfl (by decide) _ _ _ rfl (hown.alloc _) ⟨wr.heap.size, 0, none⟩ 1 1 [.string (s.extract k (k + T)), .int .i64 (k : Int)] rfl rfl (two_new2 _ _ rfl _ _ _) (one_si _ _) (by unfold maxLen; omega) (by omega) (by simp; omega) ?_)
              · intro v' w2 hown2 hgrow _
                have hb2 := (hnx.alloc (by omega) _).grown hgrow (by simp; omega) (own_block hown)
                rw [HX.out] at hown2
                clear hown hgrow
                go_wp2_with fail
                go_roundw
                case rel => exact ⟨k + T, ds ++ [(t, k)], by omega, by go_num, by simpa [cells2, cell2] using hown2, Q2.out, hb2⟩
                case measure => simp [intOf]; omega
    · have hd : tokAt 0 (rest s 0) = ds := by rw [Q.out, rest_end s k (by omega), tokAt_nil, List.append_nil]
      have HD : Hid (tokAt 0 (rest s 0) = ds) := hd
      clear hd
      go_wp2_with fail
      go_ret
      exact ⟨_, rfl, by rw [HD.out]; exact hown, hnx⟩

end Go.Proofs.Ytkinoehmcfhgbaa.Av
