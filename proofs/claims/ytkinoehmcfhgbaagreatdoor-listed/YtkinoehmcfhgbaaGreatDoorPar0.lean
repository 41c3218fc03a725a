/-
  The program's parser as it lies in memory, and the walks of its small methods: peek, advance, refuse, take, expect, enter, leave.
  The document's own machine on tokens, in plain words (no Go): what is wanted is a stack, its top first.
-/
import Derived.Test.YtkinoehmcfhgbaaGreatDoorTok2
import Derived.Deep.QuietTactic
import Derived.BigQuiet
import Derived.RegionTactic
import Derived.Deep.RegionHeld3
import Derived.Test.YtkinoehmcfhgbaaGreatDoorV10
set_option linter.unusedVariables false
set_option linter.unusedSimpArgs false
namespace Go.Proofs.YtkinoehmcfhgbaaGreatDoor.Av
open Go.RowKit

/-- All old memory but block b is as it was. -/
def Kp (b : Nat) (w w' : World) : Prop := w.grownBy w' (some b)
theorem Kp.refl (b : Nat) (w : World) : Kp b w w := ⟨rfl, rfl, rfl, Nat.le_refl _, fun _ _ _ => rfl⟩
theorem Kp.trans {b : Nat} {w w' w'' : World} (h : Kp b w w') (k : Kp b w' w'') : Kp b w w'' :=
  ⟨k.os.trans h.os, k.tape.trans h.tape, k.output.trans h.output, Nat.le_trans h.size k.size, fun i hi hb => (k.block i (Nat.lt_of_lt_of_le hi h.size) hb).trans (h.block i hi hb)⟩
theorem Kp.drew {b : Nat} {w w' : World} (h : Kp b w w') : Kp b w w'.drew := ⟨h.os, h.tape, h.output, h.size, h.block⟩
theorem Kp.drewN {b : Nat} {w w' : World} (h : Kp b w w') (n : Nat) : Kp b w (w'.drewN n) := h.trans ⟨rfl, rfl, rfl, Nat.le_refl _, fun _ _ _ => rfl⟩
theorem Kp.alloc {b : Nat} {w w' : World} (h : Kp b w w') (o : Obj) : Kp b w (w'.alloc o) :=
  h.trans ⟨rfl, rfl, rfl, by simp, fun k hk _ => Below.heap_alloc _ _ _ hk⟩
theorem Kp.setCell {b : Nat} {w w' : World} (h : Kp b w w') {p : Addr} (hp : p.block = b ∨ w.heap.size ≤ p.block) (u : Value) : Kp b w (w'.setCell p u) := by
  refine ⟨h.os, h.tape, h.output, by simpa [World.setCell] using h.size, fun k hk hb => ?_⟩
  rw [Below.heap_setCell _ _ _ _ (by rcases hp with hp | hp
                                     · intro e; apply hb; rw [e, hp]
                                     · omega)]
  exact h.block k hk hb
theorem Kp.of_below {b : Nat} {w w' : World} (h : Below w.heap.size w w') : Kp b w w' := ⟨h.os, h.tape, h.output, h.size, fun k hk _ => h.block k hk⟩
theorem Kp.below {b : Nat} {a w w' : World} (h : Below a.heap.size a w) (k : Kp b w w') (hb : a.heap.size ≤ b) : Below a.heap.size a w' :=
  h.grown k h.size (fun j e => by cases e; exact hb)
theorem Kp.cell {b : Nat} {w w' : World} (h : Kp b w w') {p : Addr} (hp : p.block < w.heap.size) (hb : p.block ≠ b) : w'.cell? p = w.cell? p :=
  World.cell?_of_block (h.block p.block hp (fun e => hb (Option.some.inj e)))
theorem Kp.frozen {b : Nat} {w w' : World} (h : Kp b w w') {p : Addr} (hp : p.block < w.heap.size) (hb : p.block ≠ b) : w'.frozen? p = w.frozen? p :=
  World.frozen?_of_block (h.block p.block hp (fun e => hb (Option.some.inj e)))

/-- What a token is to the program: kind, place, value. -/
def t3 (t : List UInt8 × Nat) : Int × Int × Int := ((tk t.1).1, (t.2 : Int), (tk t.1).2)
def T3 (toks : List (List UInt8 × Nat)) (len : Nat) : List (Int × Int × Int) := toks.map t3 ++ [(0, (len : Int), 0)]
def kd (T : List (Int × Int × Int)) (j : Nat) : Int := (T.getD j (0, 0, 0)).1
def plc (T : List (Int × Int × Int)) (j : Nat) : Int := (T.getD j (0, 0, 0)).2.1
def vlu (T : List (Int × Int × Int)) (j : Nat) : Int := (T.getD j (0, 0, 0)).2.2

structure PSt where
  pos : Nat
  d : Int
  e : Int
  pl : Int

/-- The parser lies at block b, its tokens at block tb. -/
structure At (w : World) (b tb cap : Nat) (T : List (Int × Int × Int)) (σ : PSt) : Prop where
  hb : b < w.heap.size
  htb : tb < w.heap.size
  hne : tb ≠ b
  hcap : T.length ≤ cap
  hcm : cap ≤ maxLen
  c0 : w.cell? ⟨b, 0, none⟩ = some (.slice (some ⟨tb, 0, none⟩) T.length cap)
  c1 : w.cell? ⟨b, 1, none⟩ = some (.int .i64 (σ.pos : Int))
  c2 : w.cell? ⟨b, 2, none⟩ = some (.int .i64 σ.d)
  c3 : w.cell? ⟨b, 3, none⟩ = some (.int .i64 σ.e)
  c4 : w.cell? ⟨b, 4, none⟩ = some (.int .i64 σ.pl)
  f : ∀ o, w.frozen? ⟨b, o, none⟩ = false
  toks : ∀ j, j < T.length → w.cell? ⟨tb, j * 3, none⟩ = some (.int .i64 (kd T j)) ∧ w.cell? ⟨tb, j * 3 + 1, none⟩ = some (.int .i64 (plc T j)) ∧ w.cell? ⟨tb, j * 3 + 2, none⟩ = some (.int .i64 (vlu T j))

/-- What of the parser's own block is the same is told by b's cells; all else by Kp. -/
theorem At.move {w w' : World} {b tb cap : Nat} {T : List (Int × Int × Int)} {σ σ' : PSt} (h : At w b tb cap T σ) (k : Kp b w w')
    (h0 : w'.cell? ⟨b, 0, none⟩ = w.cell? ⟨b, 0, none⟩) (h1 : w'.cell? ⟨b, 1, none⟩ = some (.int .i64 (σ'.pos : Int))) (h2 : w'.cell? ⟨b, 2, none⟩ = some (.int .i64 σ'.d))
    (h3 : w'.cell? ⟨b, 3, none⟩ = some (.int .i64 σ'.e)) (h4 : w'.cell? ⟨b, 4, none⟩ = some (.int .i64 σ'.pl)) (hf : ∀ o, w'.frozen? ⟨b, o, none⟩ = false) : At w' b tb cap T σ' :=
  ⟨Nat.lt_of_lt_of_le h.hb k.size, Nat.lt_of_lt_of_le h.htb k.size, h.hne, h.hcap, h.hcm, h0.trans h.c0, h1, h2, h3, h4, hf, fun j hj => by
    obtain ⟨a1, a2, a3⟩ := h.toks j hj
    exact ⟨(k.cell (p := ⟨tb, j * 3, none⟩) h.htb h.hne).trans a1, (k.cell (p := ⟨tb, j * 3 + 1, none⟩) h.htb h.hne).trans a2, (k.cell (p := ⟨tb, j * 3 + 2, none⟩) h.htb h.hne).trans a3⟩⟩

theorem At.below {w w' : World} {b tb cap : Nat} {T : List (Int × Int × Int)} {σ : PSt} (h : At w b tb cap T σ) (k : Below w.heap.size w w') : At w' b tb cap T σ :=
  h.move (Kp.of_below k) (k.cell (p := ⟨b, 0, none⟩) h.hb) ((k.cell (p := ⟨b, 1, none⟩) h.hb).trans h.c1) ((k.cell (p := ⟨b, 2, none⟩) h.hb).trans h.c2) ((k.cell (p := ⟨b, 3, none⟩) h.hb).trans h.c3) ((k.cell (p := ⟨b, 4, none⟩) h.hb).trans h.c4) (fun o => (k.frozen (p := ⟨b, o, none⟩) h.hb).trans (h.f o))
theorem At.alloc {w : World} {b tb cap : Nat} {T : List (Int × Int × Int)} {σ : PSt} (h : At w b tb cap T σ) (o : Obj) : At (w.alloc o) b tb cap T σ := h.below ((Below.refl _ _).alloc (Nat.le_refl _) _)
theorem At.drew {w : World} {b tb cap : Nat} {T : List (Int × Int × Int)} {σ : PSt} (h : At w b tb cap T σ) : At w.drew b tb cap T σ := h.below (Below.refl _ _).drew
theorem At.drewN {w : World} {b tb cap : Nat} {T : List (Int × Int × Int)} {σ : PSt} (h : At w b tb cap T σ) (n : Nat) : At (w.drewN n) b tb cap T σ := h.below (below_drewN (Below.refl _ _) n)
theorem set_other (w : World) (b i j : Nat) (u : Value) (h : i ≠ j) : (w.setCell ⟨b, i, none⟩ u).cell? ⟨b, j, none⟩ = w.cell? ⟨b, j, none⟩ := by
  apply World.cell?_setCell_other
  intro e; injection e with _ e2 _; exact h e2
theorem At.frz {w : World} {b tb cap : Nat} {T : List (Int × Int × Int)} {σ : PSt} (h : At w b tb cap T σ) (a : Addr) (u : Value) : ∀ o, (w.setCell a u).frozen? ⟨b, o, none⟩ = false := fun o => by
  rw [World.frozen?_setCell]; exact h.f o
theorem At.set1 {w : World} {b tb cap : Nat} {T : List (Int × Int × Int)} {σ : PSt} (h : At w b tb cap T σ) (n : Nat) : At (w.setCell ⟨b, 1, none⟩ (.int .i64 (n : Int))) b tb cap T { σ with pos := n } :=
  h.move ((Kp.refl _ _).setCell (Or.inl rfl) _) (set_other _ _ _ _ _ (by omega)) (World.cell?_setCell_same _ _ _ h.c1) ((set_other _ _ _ _ _ (by omega)).trans h.c2) ((set_other _ _ _ _ _ (by omega)).trans h.c3) ((set_other _ _ _ _ _ (by omega)).trans h.c4) (h.frz _ _)
theorem At.set2 {w : World} {b tb cap : Nat} {T : List (Int × Int × Int)} {σ : PSt} (h : At w b tb cap T σ) (n : Int) : At (w.setCell ⟨b, 2, none⟩ (.int .i64 n)) b tb cap T { σ with d := n } :=
  h.move ((Kp.refl _ _).setCell (Or.inl rfl) _) (set_other _ _ _ _ _ (by omega)) ((set_other _ _ _ _ _ (by omega)).trans h.c1) (World.cell?_setCell_same _ _ _ h.c2) ((set_other _ _ _ _ _ (by omega)).trans h.c3) ((set_other _ _ _ _ _ (by omega)).trans h.c4) (h.frz _ _)
theorem At.set3 {w : World} {b tb cap : Nat} {T : List (Int × Int × Int)} {σ : PSt} (h : At w b tb cap T σ) (n : Int) : At (w.setCell ⟨b, 3, none⟩ (.int .i64 n)) b tb cap T { σ with e := n } :=
  h.move ((Kp.refl _ _).setCell (Or.inl rfl) _) (set_other _ _ _ _ _ (by omega)) ((set_other _ _ _ _ _ (by omega)).trans h.c1) ((set_other _ _ _ _ _ (by omega)).trans h.c2) (World.cell?_setCell_same _ _ _ h.c3) ((set_other _ _ _ _ _ (by omega)).trans h.c4) (h.frz _ _)
theorem At.set4 {w : World} {b tb cap : Nat} {T : List (Int × Int × Int)} {σ : PSt} (h : At w b tb cap T σ) (n : Int) : At (w.setCell ⟨b, 4, none⟩ (.int .i64 n)) b tb cap T { σ with pl := n } :=
  h.move ((Kp.refl _ _).setCell (Or.inl rfl) _) (set_other _ _ _ _ _ (by omega)) ((set_other _ _ _ _ _ (by omega)).trans h.c1) ((set_other _ _ _ _ _ (by omega)).trans h.c2) ((set_other _ _ _ _ _ (by omega)).trans h.c3) (World.cell?_setCell_same _ _ _ h.c4) (h.frz _ _)

set_option maxHeartbeats 400000 in
theorem peek_any (w : World) (b tb cap : Nat) (T : List (Int × Int × Int)) (σ : PSt) (h : At w b tb cap T σ) (hp : σ.pos < T.length) :
    Calls Tryz.prog 153 #[.pointer (some ⟨b, 0, none⟩)] w fun e w' => e = .returned (.int .i64 (kd T σ.pos)) ∧ ∃ n, w' = w.drewN n := by
  obtain ⟨a1, a2, a3⟩ := h.toks σ.pos hp
  have c0 := h.c0
  have c1 := h.c1
  have hcm := h.hcm
  have hcap := h.hcap
  unfold maxLen at hcm
  generalize kd T σ.pos = K at *
  generalize σ.pos = p at *
  generalize T.length = n at *
  clear h
  go_enter Tryz.func153, Tryz.ntmps153
  go_wp2
  go_quiet (fail)
  go_wp2
  go_ret
  exact ⟨rfl, _, rfl⟩

def PSt.adv (σ : PSt) (T : List (Int × Int × Int)) : PSt := if kd T σ.pos = 0 then σ else { σ with pos := σ.pos + 1 }

set_option maxRecDepth 100000 in
set_option maxHeartbeats 1000000 in
theorem advance_any (w : World) (b tb cap : Nat) (T : List (Int × Int × Int)) (σ : PSt) (h : At w b tb cap T σ) (hp : σ.pos < T.length) (hT : T.length ≤ 1000) :
    Calls Tryz.prog 155 #[.pointer (some ⟨b, 0, none⟩)] w fun e w' => e = .returned (.agg #[.int .i64 (kd T σ.pos), .int .i64 (plc T σ.pos), .int .i64 (vlu T σ.pos)]) ∧ At w' b tb cap T (σ.adv T) ∧ Kp b w w' := by
  have H : Hid (At w b tb cap T σ) := h
  have HA : Hid (σ.adv T = if kd T σ.pos = 0 then σ else { σ with pos := σ.pos + 1 }) := rfl
  obtain ⟨a1, a2, a3⟩ := h.toks σ.pos hp
  have c0 := h.c0
  have c1 := h.c1
  have hf1 := h.f 1
  have hbs := h.hb
  have hts := h.htb
  have hcm := h.hcm
  have hcap := h.hcap
  unfold maxLen at hcm
  clear h
  generalize hK : kd T σ.pos = K at *
  generalize plc T σ.pos = L at *
  generalize vlu T σ.pos = V at *
  generalize hP : σ.pos = p at *
  clear hP hK
  by_cases hk : K = 0
  · have hk' : (K != 0) = false := by simp [hk]
    go_enter Tryz.func155, Tryz.ntmps155
    go_wp2
    go_region
    go_wp2
    exact bodyPost_ret (v := .agg #[.int .i64 0, .int .i64 L, .int .i64 V]) (by simp [results, Tryz.results155, go_sem]) rfl ⟨by rw [hk], by rw [HA.out, if_pos hk]; exact ((H.out.alloc _).alloc _).drew, (((Kp.refl _ _).alloc _).alloc _).drew⟩
  · have hk' : (K != 0) = true := by simpa using hk
    go_enter Tryz.func155, Tryz.ntmps155
    go_wp2
    go_region
    go_wp2
    exact bodyPost_ret (v := .agg #[.int .i64 K, .int .i64 L, .int .i64 V]) (by simp [results, Tryz.results155, go_sem]) rfl ⟨rfl, by rw [HA.out, if_neg hk]; exact (((H.out.set1 (p + 1)).alloc _).alloc _).drew, ((((Kp.refl _ _).setCell (Or.inl rfl) _).alloc _).alloc _).drew⟩

def PSt.ref (σ : PSt) (T : List (Int × Int × Int)) (err : Int) : PSt := if σ.e = 0 then { pos := T.length - 1, d := σ.d, e := err, pl := plc T σ.pos } else { σ with pos := T.length - 1 }

theorem At.ref_ok {w : World} {b tb cap : Nat} {T : List (Int × Int × Int)} {σ : PSt} (h : At w b tb cap T σ) (err : Int) (n : Nat) (hn : T.length = n + 1) (he : σ.e = 0) :
    At (((w.setCell ⟨b, 3, none⟩ (.int .i64 err)).setCell ⟨b, 4, none⟩ (.int .i64 (plc T σ.pos))).setCell ⟨b, 1, none⟩ (.int .i64 (n : Int))).drew b tb cap T (σ.ref T err) := by
  have e : σ.ref T err = { pos := n, d := σ.d, e := err, pl := plc T σ.pos } := by unfold PSt.ref; rw [if_pos he, hn]; rfl
  rw [e]
  exact (((h.set3 err).set4 (plc T σ.pos)).set1 n).drew
theorem At.ref_no {w : World} {b tb cap : Nat} {T : List (Int × Int × Int)} {σ : PSt} (h : At w b tb cap T σ) (err : Int) (n : Nat) (hn : T.length = n + 1) (he : ¬ σ.e = 0) :
    At (w.setCell ⟨b, 1, none⟩ (.int .i64 (n : Int))) b tb cap T (σ.ref T err) := by
  have e : σ.ref T err = { σ with pos := n } := by unfold PSt.ref; rw [if_neg he, hn]; rfl
  rw [e]
  exact h.set1 n

theorem Kp.own (b : Nat) (w : World) (o : Nat) (x : Value) : Kp b w (w.setCell ⟨b, o, none⟩ x) := (Kp.refl b w).setCell (p := ⟨b, o, none⟩) (Or.inl rfl) x
theorem Kp.own3 (b : Nat) (w : World) (x y z : Value) : Kp b w (((w.setCell ⟨b, 3, none⟩ x).setCell ⟨b, 4, none⟩ y).setCell ⟨b, 1, none⟩ z).drew :=
  (((Kp.own b w 3 x).trans (Kp.own b _ 4 y)).trans (Kp.own b _ 1 z)).drew

set_option maxRecDepth 100000 in
set_option maxHeartbeats 400000 in
theorem refuse_any (w : World) (b tb cap : Nat) (T : List (Int × Int × Int)) (σ : PSt) (err : Int) (h : At w b tb cap T σ) (hp : σ.pos < T.length) (hT : T.length ≤ 1000) :
    Calls Tryz.prog 154 #[.pointer (some ⟨b, 0, none⟩), .int .i64 err] w fun e w' => e = .returned (.tuple #[]) ∧ At w' b tb cap T (σ.ref T err) ∧ Kp b w w' := by
  obtain ⟨n, hn⟩ : ∃ n, T.length = n + 1 := ⟨T.length - 1, by omega⟩
  have HA : Hid (σ.e = 0 → At (((w.setCell ⟨b, 3, none⟩ (.int .i64 err)).setCell ⟨b, 4, none⟩ (.int .i64 (plc T σ.pos))).setCell ⟨b, 1, none⟩ (.int .i64 (n : Int))).drew b tb cap T (σ.ref T err)) := h.ref_ok err n hn
  have HB : Hid (¬ σ.e = 0 → At (w.setCell ⟨b, 1, none⟩ (.int .i64 (n : Int))) b tb cap T (σ.ref T err)) := h.ref_no err n hn
  obtain ⟨a1, a2, a3⟩ := h.toks σ.pos hp
  have c0 := h.c0
  have c1 := h.c1
  have c3 := h.c3
  have c4 := h.c4
  have hf1 := h.f 1
  have hf3 := h.f 3
  have hf4 := h.f 4
  have hbs := h.hb
  have hts := h.htb
  have hne := h.hne
  have hcm := h.hcm
  have hcap := h.hcap
  unfold maxLen at hcm
  clear h a1 a3
  have hn1 : n ≤ 1000 := by omega
  rw [hn] at c0 hp hcap
  clear hn hT
  generalize σ.ref T err = S at *
  generalize plc T σ.pos = L at *
  generalize σ.pos = p at *
  generalize σ.e = E at *
  by_cases hk : E = 0
  · have hk' : (E == 0) = true := by simp [hk]
    have HA' : Hid (At (((w.setCell ⟨b, 3, none⟩ (.int .i64 err)).setCell ⟨b, 4, none⟩ (.int .i64 L)).setCell ⟨b, 1, none⟩ (.int .i64 (n : Int))).drew b tb cap T S) := HA.out hk
    have HK : Hid (Kp b w (((w.setCell ⟨b, 3, none⟩ (.int .i64 err)).setCell ⟨b, 4, none⟩ (.int .i64 L)).setCell ⟨b, 1, none⟩ (.int .i64 (n : Int))).drew) := Kp.own3 b w _ _ _
    clear hk HA HB
    go_enter Tryz.func154, Tryz.ntmps154
    go_wp2
    go_region
    go_wp2
    go_end0
    exact ⟨rfl, HA'.out, HK.out⟩
  · have hk' : (E == 0) = false := by simpa using hk
    have HB' : Hid (At (w.setCell ⟨b, 1, none⟩ (.int .i64 (n : Int))) b tb cap T S) := HB.out hk
    have HK : Hid (Kp b w (w.setCell ⟨b, 1, none⟩ (.int .i64 (n : Int)))) := Kp.own b w 1 _
    clear hk HA HB
    go_enter Tryz.func154, Tryz.ntmps154
    go_wp2
    go_end0
    exact ⟨rfl, HB'.out, HK.out⟩

set_option maxRecDepth 100000 in
set_option maxHeartbeats 1000000 in
theorem leave_any (w : World) (b : Nat) (d : Int) (hc : w.cell? ⟨b, 2, none⟩ = some (.int .i64 d)) (hf : w.frozen? ⟨b, 2, none⟩ = false) :
    Calls Tryz.prog 251 #[.pointer (some ⟨b, 0, none⟩)] w fun e w' => e = .returned (.tuple #[]) ∧ w' = w.setCell ⟨b, 2, none⟩ (.int .i64 (wrap64 (d - 1))) := by
  go_enter Tryz.func251, Tryz.ntmps251
  go_wp2
  go_end0
  exact ⟨rfl, rfl⟩

theorem leave_at (w : World) (b tb cap : Nat) (T : List (Int × Int × Int)) (σ : PSt) (h : At w b tb cap T σ) :
    Calls Tryz.prog 251 #[.pointer (some ⟨b, 0, none⟩)] w fun e w' => e = .returned (.tuple #[]) ∧ At w' b tb cap T { σ with d := wrap64 (σ.d - 1) } ∧ Kp b w w' := by
  refine (leave_any w b σ.d h.c2 (h.f 2)).mono ?_
  rintro e w' ⟨rfl, rfl⟩
  exact ⟨rfl, h.set2 _, (Kp.refl _ _).setCell (Or.inl rfl) _⟩

set_option maxRecDepth 100000 in
set_option maxHeartbeats 1000000 in
theorem take_any (w : World) (b tb cap : Nat) (T : List (Int × Int × Int)) (σ : PSt) (k : Int) (h : At w b tb cap T σ) (hp : σ.pos < T.length) (hT : T.length ≤ 1000) :
    Calls Tryz.prog 159 #[.pointer (some ⟨b, 0, none⟩), .int .i64 k] w fun e w' => e = .returned (.bool (decide (kd T σ.pos = k))) ∧ At w' b tb cap T (if kd T σ.pos = k then σ.adv T else σ) ∧ Kp b w w' := by
  have CP : Hid (Calls Tryz.prog 153 #[.pointer (some ⟨b, 0, none⟩)] w fun e w' => e = .returned (.int .i64 (kd T σ.pos)) ∧ ∃ n, w' = w.drewN n) := peek_any w b tb cap T σ h hp
  have CA : Hid (∀ n, Calls Tryz.prog 155 #[.pointer (some ⟨b, 0, none⟩)] (w.drewN n) fun e w' => e = .returned (.agg #[.int .i64 (kd T σ.pos), .int .i64 (plc T σ.pos), .int .i64 (vlu T σ.pos)]) ∧ At w' b tb cap T (σ.adv T) ∧ Kp b (w.drewN n) w') := fun n => advance_any (w.drewN n) b tb cap T σ (h.drewN n) hp hT
  have H : Hid (At w b tb cap T σ) := h
  clear h hp hT
  by_cases hk : kd T σ.pos = k
  · rw [if_pos hk, decide_eq_true hk]
    rw [hk] at CP CA
    clear hk
    have hkk : (k != k) = false := by simp
    go_enter Tryz.func159, Tryz.ntmps159
    go_wp2_with fail
    refine CP.out.mono ?_
    rintro e w1 ⟨rfl, nq, rfl⟩
    go_wp2_with fail
    refine (CA.out _).mono ?_
    rintro e w2 ⟨rfl, hA, hK⟩
    go_wp2_with fail
    go_ret
    exact ⟨rfl, hA, ((Kp.refl _ _).drewN _).trans hK⟩
  · rw [if_neg hk, decide_eq_false hk]
    generalize kd T σ.pos = K at *
    have hkk : (K != k) = true := by simpa using hk
    go_enter Tryz.func159, Tryz.ntmps159
    go_wp2_with fail
    refine CP.out.mono ?_
    rintro e w1 ⟨rfl, nq, rfl⟩
    go_wp2_with fail
    go_ret
    exact ⟨rfl, H.out.drewN _, (Kp.refl _ _).drewN _⟩

theorem field_tok (x y z : Int) (w : World) : Sem.run Tryz.prog (Instr.field 216 (.agg #[.int .i64 x, .int .i64 y, .int .i64 z]) 2) w = .ok (.int .i64 z) w := by kernel_rfl

set_option maxRecDepth 100000 in
set_option maxHeartbeats 1000000 in
theorem expect_any (w : World) (b tb cap : Nat) (T : List (Int × Int × Int)) (σ : PSt) (k : Int) (h : At w b tb cap T σ) (hp : σ.pos < T.length) (hT : T.length ≤ 1000) :
    Calls Tryz.prog 108 #[.pointer (some ⟨b, 0, none⟩), .int .i64 k] w fun e w' => e = .returned (.int .i64 (if kd T σ.pos = k then vlu T σ.pos else 0)) ∧ At w' b tb cap T (if kd T σ.pos = k then σ.adv T else σ.ref T 2) ∧ Kp b w w' := by
  have CP : Hid (Calls Tryz.prog 153 #[.pointer (some ⟨b, 0, none⟩)] w fun e w' => e = .returned (.int .i64 (kd T σ.pos)) ∧ ∃ n, w' = w.drewN n) := peek_any w b tb cap T σ h hp
  have CA : Hid (∀ n, Calls Tryz.prog 155 #[.pointer (some ⟨b, 0, none⟩)] (w.drewN n) fun e w' => e = .returned (.agg #[.int .i64 (kd T σ.pos), .int .i64 (plc T σ.pos), .int .i64 (vlu T σ.pos)]) ∧ At w' b tb cap T (σ.adv T) ∧ Kp b (w.drewN n) w') := fun n => advance_any (w.drewN n) b tb cap T σ (h.drewN n) hp hT
  have CR : Hid (∀ n, Calls Tryz.prog 154 #[.pointer (some ⟨b, 0, none⟩), .int .i64 2] (w.drewN n) fun e w' => e = .returned (.tuple #[]) ∧ At w' b tb cap T (σ.ref T 2) ∧ Kp b (w.drewN n) w') := fun n => refuse_any (w.drewN n) b tb cap T σ 2 (h.drewN n) hp hT
  clear h hp hT
  by_cases hk : kd T σ.pos = k
  · rw [if_pos hk, if_pos hk]
    rw [hk] at CP CA
    clear hk
    have hkk : (k != k) = false := by simp
    have hft := field_tok k (plc T σ.pos) (vlu T σ.pos)
    go_enter Tryz.func108, Tryz.ntmps108
    go_wp2_with fail
    refine CP.out.mono ?_
    rintro e w1 ⟨rfl, nq, rfl⟩
    go_wp2_with fail
    refine (CA.out _).mono ?_
    rintro e w2 ⟨rfl, hA, hK⟩
    go_wp2_with fail
    go_ret
    exact ⟨rfl, hA, ((Kp.refl _ _).drewN _).trans hK⟩
  · rw [if_neg hk, if_neg hk]
    generalize kd T σ.pos = K at *
    have hkk : (K != k) = true := by simpa using hk
    go_enter Tryz.func108, Tryz.ntmps108
    go_wp2_with fail
    refine CP.out.mono ?_
    rintro e w1 ⟨rfl, nq, rfl⟩
    go_wp2_with fail
    refine (CR.out _).mono ?_
    rintro e w2 ⟨rfl, hA, hK⟩
    go_wp2_with fail
    go_ret
    exact ⟨rfl, hA, ((Kp.refl _ _).drewN _).trans hK⟩

set_option maxRecDepth 100000 in
set_option maxHeartbeats 1000000 in
theorem enter_any (w : World) (b tb cap : Nat) (T : List (Int × Int × Int)) (σ : PSt) (h : At w b tb cap T σ) (hp : σ.pos < T.length) (hT : T.length ≤ 1000) (hd : 0 ≤ σ.d ∧ σ.d ≤ 10) :
    Calls Tryz.prog 250 #[.pointer (some ⟨b, 0, none⟩)] w fun e w' => e = .returned (.tuple #[]) ∧ At w' b tb cap T (if σ.d = 10 then σ.ref T 3 else ({ σ with d := σ.d + 1 } : PSt).adv T) ∧ Kp b w w' := by
  have CR : Hid (Calls Tryz.prog 154 #[.pointer (some ⟨b, 0, none⟩), .int .i64 3] w fun e w' => e = .returned (.tuple #[]) ∧ At w' b tb cap T (σ.ref T 3) ∧ Kp b w w') := refuse_any w b tb cap T σ 3 h hp hT
  have CA : Hid (Calls Tryz.prog 155 #[.pointer (some ⟨b, 0, none⟩)] (w.setCell ⟨b, 2, none⟩ (.int .i64 (σ.d + 1))) fun e w' => e = .returned (.agg #[.int .i64 (kd T σ.pos), .int .i64 (plc T σ.pos), .int .i64 (vlu T σ.pos)]) ∧ At w' b tb cap T (({ σ with d := σ.d + 1 } : PSt).adv T) ∧ Kp b (w.setCell ⟨b, 2, none⟩ (.int .i64 (σ.d + 1))) w') := advance_any _ b tb cap T { σ with d := σ.d + 1 } (h.set2 _) hp hT
  have c2 := h.c2
  have hf2 := h.f 2
  clear h hp hT
  generalize hD : σ.d = D at *
  clear hD
  generalize kd T σ.pos = K at *
  generalize plc T σ.pos = L at *
  generalize vlu T σ.pos = V at *
  by_cases hk : D = 10
  · rw [if_pos hk]
    have hk' : (D == 10) = true := by simp [hk]
    clear CA
    go_enter Tryz.func250, Tryz.ntmps250
    go_wp2_with fail
    refine CR.out.mono ?_
    rintro e w2 ⟨rfl, hA, hK⟩
    go_wp2_with fail
    exact bodyPost_ret (v := .tuple #[]) (by simp [results, Tryz.results250, go_sem]) rfl ⟨rfl, hA, hK⟩
  · rw [if_neg hk]
    have hk' : (D == 10) = false := by simpa using hk
    clear CR
    go_enter Tryz.func250, Tryz.ntmps250
    go_wp2_with fail
    refine CA.out.mono ?_
    rintro e w2 ⟨rfl, hA, hK⟩
    go_wp2_with fail
    go_end0
    exact ⟨rfl, hA, ((Kp.refl _ _).setCell (Or.inl rfl) _).trans hK⟩

end Go.Proofs.YtkinoehmcfhgbaaGreatDoor.Av
namespace Go.Proofs.YtkinoehmcfhgbaaGreatDoor.Av

def cCommands : List UInt8 := [67, 79, 77, 77, 65, 78, 68, 83]
def cCommand : List UInt8 := [67, 79, 77, 77, 65, 78, 68]
def cMoreCommands : List UInt8 := [77, 79, 82, 69, 45, 67, 79, 77, 77, 65, 78, 68, 83]
def cFormula : List UInt8 := [70, 79, 82, 77, 85, 76, 65]
def cMoreFormula : List UInt8 := [77, 79, 82, 69, 45, 70, 79, 82, 77, 85, 76, 65]
def cFactor : List UInt8 := [70, 65, 67, 84, 79, 82]
def cTerm : List UInt8 := [84, 69, 82, 77]
def cMoreTerm : List UInt8 := [77, 79, 82, 69, 45, 84, 69, 82, 77]
def cRelation : List UInt8 := [82, 69, 76, 65, 84, 73, 79, 78]
def cNumber : List UInt8 := [78, 85, 77, 66, 69, 82]
def cNotEnds : List UInt8 := [78, 79, 84, 45, 69, 78, 68, 83]

def rl (l : List UInt8) : Bool := l == [60] || l == [60, 61] || l == [61] || l == [62] || l == [62, 61]
def dflt (k s : List UInt8) : Bool := k == s && (decide (((k.headD 0).toNat : Int) < 65) || decide (90 < ((k.headD 0).toNat : Int)))
def stTerm (s : List UInt8) (st : List (List UInt8)) : List (List UInt8) × Bool :=
  if 0 ≤ vr s then (cMoreTerm :: st, true) else if s == [45] then (cNumber :: st, true) else (st, decide (0 ≤ dg 999 s))
def stCommand (s : List UInt8) (st : List (List UInt8)) : List (List UInt8) × Bool :=
  if s == [115, 107, 105, 112] then (st, true) else if 0 ≤ vr s then ([58, 61] :: cTerm :: st, true) else
  if s == [105, 102] then (cFormula :: [116, 104, 101, 110] :: cCommands :: [101, 108, 115, 101] :: cCommands :: [101, 110, 100] :: st, true) else
  if s == [119, 104, 105, 108, 101] then (cFormula :: [107, 101, 101, 112] :: cFormula :: [100, 111] :: cCommands :: [101, 110, 100] :: st, true) else (st, false)
def stFactor (s : List UInt8) (st : List (List UInt8)) : List (List UInt8) × Bool :=
  if s == [116, 114, 117, 101] || s == [102, 97, 108, 115, 101] then (st, true) else if s == [110, 111, 116] then (cFactor :: cNotEnds :: st, true) else
  if s == [40] then (cFormula :: [41] :: st, true) else stTerm s (cRelation :: cTerm :: st)
/-- What is wanted behind a token that begins a kind; whether it can. -/
def sts (k s : List UInt8) (st : List (List UInt8)) : List (List UInt8) × Bool :=
  if k == cCommand then stCommand s st else if k == cFactor then stFactor s st else if k == cTerm then stTerm s st else
  if k == cRelation then (st, rl s) else if k == cNumber then (st, decide (0 ≤ dg 999 s)) else (st, dflt k s)
/-- The kinds on top taken apart for a token; how many nots have ended. -/
def opn (s : List UInt8) : List (List UInt8) → Int → List (List UInt8) × Int
  | [], e => ([], e)
  | k :: r, e =>
    if k == cCommands then (cCommand :: cMoreCommands :: r, e) else
    if k == cMoreCommands then (if s == [59] then ([59] :: cCommands :: r, e) else opn s r e) else
    if k == cFormula then (cFactor :: cMoreFormula :: r, e) else
    if k == cMoreFormula then (if s == [111, 114] || s == [97, 110, 100] then (s :: cFormula :: r, e) else opn s r e) else
    if k == cMoreTerm then (if s == [43] || s == [45] then (s :: cNumber :: r, e) else opn s r e) else
    if k == cNotEnds then opn s r (e + 1) else (k :: r, e)
def deeper (t : List UInt8) : Bool := t == [40] || t == [110, 111, 116] || t == [105, 102] || t == [119, 104, 105, 108, 101]
def shut (t : List UInt8) : Bool := t == [41] || t == [101, 110, 100]
/-- One token: an error and its place, or what is wanted then, and the depth. -/
def stepM (t : List UInt8) (i : Nat) (st : List (List UInt8)) (d : Int) : Sum (Int × Int) (List (List UInt8) × Int) :=
  match opn t st 0 with
  | ([], _) => .inl (2, i)
  | (k :: r, n) =>
    if (sts k t r).2 = false then .inl (2, i) else
    if deeper t then (if 10 < d - n + 1 then .inl (3, i) else .inr ((sts k t r).1, d - n + 1)) else
    if shut t then .inr ((sts k t r).1, d - n - 1) else .inr ((sts k t r).1, d - n)
/-- What Check answers, told along the tokens. -/
def runM (len : Nat) : List (List UInt8 × Nat) → List (List UInt8) → Int → Int × Int
  | [], st, _ => if (opn [] st 0).1.isEmpty then (0, 0) else (2, len)
  | (t, i) :: ts, st, d => match stepM t i st d with
    | .inl e => e
    | .inr (st', d') => runM len ts st' d'

theorem stTerm_len (s : List UInt8) (st : List (List UInt8)) : (stTerm s st).1.length ≤ st.length + 1 := by
  unfold stTerm; repeat' split
  all_goals simp
theorem sts_len (k s : List UInt8) (st : List (List UInt8)) : (sts k s st).1.length ≤ st.length + 6 := by
  have h1 := stTerm_len s st
  have h2 := stTerm_len s (cRelation :: cTerm :: st)
  simp only [List.length_cons] at h2
  unfold sts
  repeat' split
  · unfold stCommand; repeat' split
    all_goals simp
  · unfold stFactor; repeat' split
    all_goals first | (simp; done) | omega
  all_goals first | (simp; done) | omega
theorem opn_len (s : List UInt8) (st : List (List UInt8)) : ∀ e, (opn s st e).1.length ≤ st.length + 1 := by
  induction st with
  | nil => intro e; simp [opn]
  | cons k r ih =>
    intro e
    unfold opn
    repeat' split
    all_goals first | (simp; done) | (have := ih e; simp; omega) | (have := ih (e + 1); simp; omega)
theorem opn_end (s : List UInt8) (st : List (List UInt8)) : ∀ e, e ≤ (opn s st e).2 ∧ (opn s st e).2 ≤ e + st.length := by
  induction st with
  | nil => intro e; simp [opn]
  | cons k r ih =>
    intro e
    unfold opn
    repeat' split
    all_goals first | (simp; omega) | (have := ih e; simp; omega) | (have := ih (e + 1); simp; omega)

/-- No kind is the empty text. -/
def Ne (st : List (List UInt8)) : Prop := ∀ x ∈ st, x ≠ []
theorem Ne.cons {k : List UInt8} {r : List (List UInt8)} (hk : k ≠ []) (h : Ne r) : Ne (k :: r) := by
  intro x hx; rw [List.mem_cons] at hx; rcases hx with rfl | hx
  · exact hk
  · exact h x hx
theorem Ne.tail {k : List UInt8} {r : List (List UInt8)} (h : Ne (k :: r)) : Ne r := fun x hx => h x (List.mem_cons_of_mem _ hx)
theorem Ne.head {k : List UInt8} {r : List (List UInt8)} (h : Ne (k :: r)) : k ≠ [] := h k (List.mem_cons_self)
theorem opn_ne (s : List UInt8) (st : List (List UInt8)) : ∀ e, Ne st → Ne (opn s st e).1 := by
  induction st with
  | nil => intro e h; simpa [opn] using h
  | cons k r ih =>
    intro e h
    have ht := h.tail
    unfold opn
    split
    · exact Ne.cons (by decide) (Ne.cons (by decide) ht)
    split
    · split
      · exact Ne.cons (by decide) (Ne.cons (by decide) ht)
      · exact ih e ht
    split
    · exact Ne.cons (by decide) (Ne.cons (by decide) ht)
    split
    · split
      · rename_i hs
        refine Ne.cons ?_ (Ne.cons (by decide) ht)
        intro hh; subst hh; simp at hs
      · exact ih e ht
    split
    · split
      · rename_i hs
        refine Ne.cons ?_ (Ne.cons (by decide) ht)
        intro hh; subst hh; simp at hs
      · exact ih e ht
    split
    · exact ih _ ht
    · exact h
theorem stTerm_ne (s : List UInt8) (st : List (List UInt8)) (h : Ne st) : Ne (stTerm s st).1 := by
  unfold stTerm; repeat' split
  · exact Ne.cons (by decide) h
  · exact Ne.cons (by decide) h
  · exact h
theorem sts_ne (k s : List UInt8) (st : List (List UInt8)) (h : Ne st) : Ne (sts k s st).1 := by
  unfold sts
  split
  · unfold stCommand; repeat' split
    all_goals first | exact h | exact Ne.cons (by decide) (Ne.cons (by decide) h) | exact Ne.cons (by decide) (Ne.cons (by decide) (Ne.cons (by decide) (Ne.cons (by decide) (Ne.cons (by decide) (Ne.cons (by decide) h)))))
  split
  · unfold stFactor; repeat' split
    all_goals first | exact h | exact Ne.cons (by decide) (Ne.cons (by decide) h) | exact stTerm_ne _ _ (Ne.cons (by decide) (Ne.cons (by decide) h))
  split
  · exact stTerm_ne _ _ h
  repeat' split
  all_goals exact h

end Go.Proofs.YtkinoehmcfhgbaaGreatDoor.Av
