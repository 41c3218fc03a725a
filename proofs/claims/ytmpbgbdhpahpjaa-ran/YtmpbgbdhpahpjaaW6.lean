/-
  The walks of the document's runs: step, asks.
  The walks of the document's runs: command, all.
  The walks of the document's runs: command.
  The walks of the document's runs: assignments; commands, whole.
-/
import Derived.Test.YtmpbgbdhpahpjaaRead
import Derived.Test.YtmpbgbdhpahpjaaPar0
set_option linter.unusedVariables false
set_option linter.unusedSimpArgs false
namespace Go.Proofs.Ytmpbgbdhpahpjaa.Vl
open Go.RowKit
open Go.Proofs.Ytmpbgbdhpahpjaa.Av (vr rvariable_any Fm Rd Tg sAt trm trm_range rel rel_range vr_range Cm Rc Kp set_other)

/-- The tokens lie ahead of a block. -/
def CodeB (w : World) (rb cb : Nat) (toks : List (List UInt8 × Nat)) : Prop :=
  ∃ g cap, w.cell? ⟨cb, 0, none⟩ = some (.slice (some ⟨g, 0, none⟩) toks.length cap) ∧ toks.length ≤ cap ∧ cap ≤ maxLen ∧ g < rb ∧ cb < rb ∧ ∀ j t, toks[j]? = some t → w.cell? ⟨g, j * 2, none⟩ = some (.string ⟨t.1.toArray⟩)
theorem CodeB.at {w : World} {rb cb : Nat} {toks : List (List UInt8 × Nat)} (h : CodeB w rb cb toks) (hb : rb < w.heap.size) : CodeAt w cb toks := by
  obtain ⟨g, cap, h1, h2, h3, h4, h5, h6⟩ := h
  exact ⟨g, cap, h1, h2, h3, by omega, by omega, h6⟩
theorem CodeB.kp {w w' : World} {rb cb : Nat} {toks : List (List UInt8 × Nat)} (h : CodeB w rb cb toks) (hb : rb < w.heap.size) (k : Kp rb w w') : CodeB w' rb cb toks := by
  obtain ⟨g, cap, h1, h2, h3, h4, h5, h6⟩ := h
  exact ⟨g, cap, (k.cell (p := ⟨cb, 0, none⟩) (by show cb < _; omega) (by show cb ≠ rb; omega)).trans h1, h2, h3, h4, h5, fun j t ht => (k.cell (p := ⟨g, j * 2, none⟩) (by show g < _; omega) (by show g ≠ rb; omega)).trans (h6 j t ht)⟩
/-- A run lies at block rb, its tokens at block cb. -/
structure RunAt (w : World) (rb cb : Nat) (toks : List (List UInt8 × Nat)) (fuel : Int) (s : RS) : Prop where
  code : CodeB w rb cb toks
  hb : rb < w.heap.size
  c0 : w.cell? ⟨rb, 0, none⟩ = some (.pointer (some ⟨cb, 0, none⟩))
  c1 : w.cell? ⟨rb, 1, none⟩ = some (.int .i64 s.x1)
  c2 : w.cell? ⟨rb, 2, none⟩ = some (.int .i64 s.x2)
  c3 : w.cell? ⟨rb, 3, none⟩ = some (.int .i64 s.x3)
  c4 : w.cell? ⟨rb, 4, none⟩ = some (.int .i64 s.x4)
  c5 : w.cell? ⟨rb, 5, none⟩ = some (.int .i64 s.n)
  c6 : w.cell? ⟨rb, 6, none⟩ = some (.int .i64 fuel)
  c7 : w.cell? ⟨rb, 7, none⟩ = some (.int .i64 s.e)
  f : ∀ o, w.frozen? ⟨rb, o, none⟩ = false
variable {toks : List (List UInt8 × Nat)}
theorem RunAt.below {w w' : World} {rb cb : Nat} {fuel : Int} {s : RS} (h : RunAt w rb cb toks fuel s) (k : Below w.heap.size w w') : RunAt w' rb cb toks fuel s :=
  have c : ∀ o, w'.cell? ⟨rb, o, none⟩ = w.cell? ⟨rb, o, none⟩ := fun o => k.cell (p := ⟨rb, o, none⟩) h.hb
  ⟨h.code.kp h.hb (Kp.of_below k), Nat.lt_of_lt_of_le h.hb k.size, (c 0).trans h.c0, (c 1).trans h.c1, (c 2).trans h.c2, (c 3).trans h.c3, (c 4).trans h.c4, (c 5).trans h.c5, (c 6).trans h.c6, (c 7).trans h.c7, fun o => (k.frozen (p := ⟨rb, o, none⟩) h.hb).trans (h.f o)⟩
theorem RunAt.drewN {w : World} {rb cb : Nat} {fuel : Int} {s : RS} (h : RunAt w rb cb toks fuel s) (n : Nat) : RunAt (w.drewN n) rb cb toks fuel s := h.below (below_drewN (Below.refl _ _) n)
theorem RunAt.drew {w : World} {rb cb : Nat} {fuel : Int} {s : RS} (h : RunAt w rb cb toks fuel s) : RunAt w.drew rb cb toks fuel s := h.below (Below.refl _ _).drew
theorem set_frz {b : Nat} (w : World) (a : Addr) (u : Value) (h : ∀ o, w.frozen? ⟨b, o, none⟩ = false) : ∀ o, (w.setCell a u).frozen? ⟨b, o, none⟩ = false := fun o => by
  rw [World.frozen?_setCell]; exact h o
theorem set_size (w : World) (a : Addr) (u : Value) : (w.setCell a u).heap.size = w.heap.size := by simp [World.setCell]
/-- One cell of the run is written. -/
theorem RunAt.put {w : World} {rb cb : Nat} {fuel : Int} {s s' : RS} (h : RunAt w rb cb toks fuel s) (j : Nat) (v : Int) (hj : j < 8)
    (h1 : (if j = 1 then v else s.x1) = s'.x1) (h2 : (if j = 2 then v else s.x2) = s'.x2) (h3 : (if j = 3 then v else s.x3) = s'.x3) (h4 : (if j = 4 then v else s.x4) = s'.x4) (h5 : (if j = 5 then v else s.n) = s'.n) (h6 : j ≠ 6) (h7 : (if j = 7 then v else s.e) = s'.e) (h0 : j ≠ 0) :
    RunAt (w.setCell ⟨rb, j, none⟩ (.int .i64 v)) rb cb toks fuel s' := by
  have key : ∀ (o : Nat) (x y : Int), w.cell? ⟨rb, o, none⟩ = some (.int .i64 x) → (if j = o then v else x) = y → (w.setCell ⟨rb, j, none⟩ (.int .i64 v)).cell? ⟨rb, o, none⟩ = some (.int .i64 y) := fun o x y hc e => by
    by_cases hj : j = o
    · subst hj; rw [if_pos rfl] at e; subst e; exact World.cell?_setCell_same _ _ _ hc
    · rw [if_neg hj] at e; subst e; rw [set_other _ _ _ _ _ hj]; exact hc
  exact ⟨h.code.kp h.hb ((Kp.refl _ _).setCell (Or.inl rfl) _), by rw [set_size]; exact h.hb, by rw [set_other _ _ _ _ _ h0]; exact h.c0, key 1 _ _ h.c1 h1, key 2 _ _ h.c2 h2, key 3 _ _ h.c3 h3, key 4 _ _ h.c4 h4, key 5 _ _ h.c5 h5, by rw [set_other _ _ _ _ _ h6]; exact h.c6, key 7 _ _ h.c7 h7, set_frz _ _ _ h.f⟩

set_option maxRecDepth 100000 in
set_option maxHeartbeats 1000000 in
theorem run_step (w : World) (rb cb : Nat) (fuel : Int) (s : RS) (h : RunAt w rb cb toks fuel s) (hn : 0 ≤ s.n ∧ s.n ≤ fuel) (hf : fuel ≤ 10000) :
    Calls Try.prog 47 #[.pointer (some ⟨rb, 0, none⟩)] w fun e w' => e = .returned (.bool (!(s.n == fuel))) ∧ RunAt w' rb cb toks fuel (stp fuel s) ∧ Kp rb w w' := by
  have H : Hid (RunAt w rb cb toks fuel s) := h
  have c5 := h.c5
  have c6 := h.c6
  have c7 := h.c7
  have f5 := h.f 5
  have f7 := h.f 7
  cases he : (s.n == fuel)
  · have hne : s.n ≠ fuel := by simpa using he
    have HS : Hid (stp fuel s = { s with n := s.n + 1 }) := by show _ = _; unfold stp; rw [if_neg hne]
    clear h
    generalize hN : s.n = N at *
    go_enter Try.func47, Try.ntmps47
    go_wp2
    go_quiet (fail)
    go_wp2
    go_ret
    refine ⟨rfl, ?_, ?_⟩
    · rw [HS.out]
      exact (H.out.drewN _).put 5 (N + 1) (by decide) rfl rfl rfl rfl (by rw [if_pos rfl]) (by decide) rfl (by decide)
    · exact ((Kp.refl _ _).drewN _).setCell (Or.inl rfl) _
  · have hne : s.n = fuel := by simpa using he
    have HS : Hid (stp fuel s = { s with e := 1 }) := by show _ = _; unfold stp; rw [if_pos hne]
    clear h
    generalize hN : s.n = N at *
    go_enter Try.func47, Try.ntmps47
    go_wp2
    go_quiet (fail)
    go_wp2
    go_ret
    refine ⟨rfl, ?_, ?_⟩
    · rw [HS.out]
      exact (H.out.drewN _).put 7 1 (by decide) rfl rfl rfl rfl (by rw [if_neg (by decide)]; exact hN) (by decide) (by rw [if_pos rfl]) (by decide)
    · exact ((Kp.refl _ _).drewN _).setCell (Or.inl rfl) _

/-- What valued answers of a formula's text. -/
theorem valued_f (f : Fm) (x1 x2 x3 x4 : Int) (w : World) (h : fOk f) (hl : (sbs (fsy f)).length ≤ 4000) (hg : gds x1 x2 x3 x4 = true) :
    Calls Try.prog 21 #[.string (ftx f), .agg #[.int .i64 x1, .int .i64 x2, .int .i64 x3, .int .i64 x4]] w fun e w' => e = .returned (.bool (ev x1 x2 x3 x4 f)) ∧ Below w.heap.size w w' := by
  have := valued_any (ftx f) x1 x2 x3 x4 (fsy f) w (by show (sbs (fsy f)).toArray.size ≤ maxLen; unfold maxLen; simp; omega) (pars_ftx h hl) hg
  rw [val_ftx h hl] at this
  exact this

set_option maxRecDepth 100000 in
set_option maxHeartbeats 1000000 in
theorem run_asks (w : World) (rb cb : Nat) (fuel : Int) (s : RS) (k k' : Nat) (f : Fm) (h : RunAt w rb cb toks fuel s) (hi : Inv fuel s) (hf : fuel ≤ 10000) (hl : ∀ j, (sAt toks j).length ≤ 300) (hr : Rd toks .form k f k') (hk : k' ≤ 300) :
    Calls Try.prog 48 #[.pointer (some ⟨rb, 0, none⟩), .int .i64 (k : Int)] w fun e w' => e = .returned (.tuple #[.bool (!(s.n == fuel) && (stp fuel s).ev f), .int .i64 (k' : Int)]) ∧ RunAt w' rb cb toks fuel (stp fuel s) ∧ Kp rb w w' := by
  have hle := hr.le.1
  have H : Hid (RunAt w rb cb toks fuel s) := h
  have c0 := h.c0
  have C1 : Hid (Calls Try.prog 20 #[.pointer (some ⟨cb, 0, none⟩), .int .i64 (k : Int)] w fun e w' => e = .returned (.tuple #[.string (ftx f), .int .i64 (k' : Int)]) ∧ Below w.heap.size w w') := formula_any toks cb hl k k' f w hr hk (h.code.at h.hb)
  have C2 : Hid (∀ w, RunAt w rb cb toks fuel s → Calls Try.prog 47 #[.pointer (some ⟨rb, 0, none⟩)] w fun e w' => e = .returned (.bool (!(s.n == fuel))) ∧ RunAt w' rb cb toks fuel (stp fuel s) ∧ Kp rb w w') := fun w h => run_step w rb cb fuel s h ⟨hi.1, hi.2.1⟩ hf
  have hi1 := (inv_stp hi).1
  have C3 : Hid (∀ w, Calls Try.prog 21 #[.string (ftx f), .agg #[.int .i64 (stp fuel s).x1, .int .i64 (stp fuel s).x2, .int .i64 (stp fuel s).x3, .int .i64 (stp fuel s).x4]] w fun e w' => e = .returned (.bool ((stp fuel s).ev f)) ∧ Below w.heap.size w w') := fun w => valued_f f _ _ _ _ w (rd_ok hr (fun g h => by cases h)) (by have := rd_len hr; simp only [tgL] at this; omega) hi1.2.2.1
  clear h hr hi hi1
  generalize stp fuel s = s1 at *
  generalize s1.ev f = V at *
  generalize ftx f = F at *
  cases he : (s.n == fuel)
  · rw [he] at C2
    go_enter Try.func48, Try.ntmps48
    go_wp2_with fail
    refine C1.out.mono ?_
    rintro e w1 ⟨rfl, hb1⟩
    have A1 := H.out.below hb1
    go_wp2_with fail
    refine (C2.out _ A1).mono ?_
    rintro e w2 ⟨rfl, A2, k2⟩
    have d1 := A2.c1
    have d2 := A2.c2
    have d3 := A2.c3
    have d4 := A2.c4
    go_wp2_with fail
    refine (C3.out _).mono ?_
    rintro e w3 ⟨rfl, hb3⟩
    go_wp2_with fail
    go_ret2
    exact ⟨rfl, A2.below hb3, ((Kp.of_below hb1).trans k2).trans (Kp.of_below hb3)⟩
  · rw [he] at C2
    go_enter Try.func48, Try.ntmps48
    go_wp2_with fail
    refine C1.out.mono ?_
    rintro e w1 ⟨rfl, hb1⟩
    have A1 := H.out.below hb1
    go_wp2_with fail
    refine (C2.out _ A1).mono ?_
    rintro e w2 ⟨rfl, A2, k2⟩
    go_wp2_with fail
    go_ret2
    exact ⟨rfl, A2, (Kp.of_below hb1).trans k2⟩
end Go.Proofs.Ytmpbgbdhpahpjaa.Vl
set_option linter.unusedVariables false
set_option linter.unusedSimpArgs false
namespace Go.Proofs.Ytmpbgbdhpahpjaa.Vl
open Go.RowKit
open Go.Proofs.Ytmpbgbdhpahpjaa.Av (vr rvariable_any Fm Rd Tg sAt trm trm_range rel rel_range vr_range Cm Rc Kp set_other)

def ComR (toks : List (List UInt8 × Nat)) (rb cb : Nat) (fuel : Int) (n : Nat) : Prop := ∀ (k k' : Nat) (c : Cm) (w : World) (s : RS), Rc toks false k c k' → k' ≤ k + n → k' ≤ 300 → RunAt w rb cb toks fuel s → Inv fuel s → s.e < 0 →
  Calls Try.prog 31 #[.pointer (some ⟨rb, 0, none⟩), .int .i64 (k : Int)] w fun e w' => e = .returned (.tuple #[]) ∧ RunAt w' rb cb toks fuel (ex fuel c s) ∧ Kp rb w w'
def AllR (toks : List (List UInt8 × Nat)) (rb cb : Nat) (fuel : Int) (n : Nat) : Prop := ∀ (k k' : Nat) (c : Cm) (w : World) (s : RS), Rc toks true k c k' → k' ≤ k + n → k' ≤ 300 → RunAt w rb cb toks fuel s → Inv fuel s → s.e < 0 →
  Calls Try.prog 19 #[.pointer (some ⟨rb, 0, none⟩), .int .i64 (k : Int)] w fun e w' => e = .returned (.tuple #[]) ∧ RunAt w' rb cb toks fuel (ex fuel c s) ∧ Kp rb w w'
/-- What goes on behind a command, and what the run comes to. -/
def NxR (toks : List (List UInt8 × Nat)) (fuel : Int) (p k' : Nat) (s R : RS) : Prop := (p = k' ∧ sAt toks p ≠ [59] ∧ R = s) ∨ (sAt toks p = [59] ∧ ∃ r, Rc toks true (p + 1) r k' ∧ R = if 0 ≤ s.e then s else ex fuel r s)
theorem rc_firstR {toks : List (List UInt8 × Nat)} {k k' : Nat} {c : Cm} (h : Rc toks true k c k') (fuel : Int) (s : RS) : ∃ c1 p, Rc toks false k c1 p ∧ NxR toks fuel p k' (ex fuel c1 s) (ex fuel c s) ∧ p ≤ k' := by
  cases h with
  | one a b => exact ⟨_, _, a, Or.inl ⟨rfl, b, rfl⟩, Nat.le_refl _⟩
  | seq a b d => exact ⟨_, _, a, Or.inr ⟨b, _, d, rfl⟩, by have := d.le; omega⟩

set_option maxRecDepth 100000 in
set_option maxHeartbeats 2000000 in
theorem run_all (toks : List (List UInt8 × Nat)) (rb cb : Nat) (fuel : Int) (n : Nat) (hl : ∀ j, (sAt toks j).length ≤ 300) (HF : ComR toks rb cb fuel n) : AllR toks rb cb fuel n := by
  intro k k' c w s hr hn hk ha hi he
  obtain ⟨c1, k1, h1, hx, l2⟩ := rc_firstR hr fuel s
  have l1 := h1.le
  have HX : Hid (NxR toks fuel k1 k' (ex fuel c1 s) (ex fuel c s)) := hx
  have HI : Hid (Inv fuel (ex fuel c1 s)) := (inv_ex c1 s hi).1
  have C1 : Hid (Calls Try.prog 31 #[.pointer (some ⟨rb, 0, none⟩), .int .i64 (k : Int)] w fun e w' => e = .returned (.tuple #[]) ∧ RunAt w' rb cb toks fuel (ex fuel c1 s) ∧ Kp rb w w') := HF k k1 c1 w s h1 (by omega) (by omega) ha hi he
  have CK : Hid (∀ w, CodeAt w cb toks → Calls Try.prog 32 #[.pointer (some ⟨cb, 0, none⟩), .int .i64 (k : Int)] w fun e w' => e = .returned (.int .i64 (k1 : Int)) ∧ Below w.heap.size w w') := fun w hc => skip_any toks cb hl k k1 c1 w h1 (by omega) hc
  clear hr h1 hx ha hi he
  generalize ex fuel c s = R at *
  generalize ex fuel c1 s = s1 at *
  go_enter Try.func19, Try.ntmps19
  go_wp2_with fail
  refine C1.out.mono ?_
  rintro e w1 ⟨rfl, A1, K1⟩
  have c0 := A1.c0
  go_wp2_with fail
  refine (CK.out _ (A1.code.at A1.hb)).mono ?_
  rintro e w2 ⟨rfl, hb2⟩
  have A2 := A1.below hb2
  have K2 := K1.trans (Kp.of_below hb2)
  clear A1 K1 c0
  go_wp2_with fail
  go_loopg [1] (k' - k1) (fun g at_ wr => ∃ (p : Nat) (s2 : RS), at_ = .int .i64 (p : Int) ∧ g = k' - p ∧ k1 ≤ p ∧ p ≤ k' ∧ Hid (NxR toks fuel p k' s2 R) ∧ Hid (Inv fuel s2) ∧ RunAt wr rb cb toks fuel s2 ∧ Kp rb w wr)
  case atStart => exact ⟨k1, s1, rfl, rfl, Nat.le_refl _, l2, HX, HI, A2, K2⟩
  case round =>
    obtain ⟨p, s2, rfl, hg, hp1, hp2, HR, HV, hA, hK⟩ := hrel
    have c0 := hA.c0
    have c7 := hA.c7
    by_cases he : s2.e < 0
    · have hd : decide (s2.e < 0) = true := decide_eq_true he
      have CS' : Hid (Calls Try.prog 33 #[.pointer (some ⟨cb, 0, none⟩), .int .i64 (p : Int)] wr fun e w' => e = .returned (.string ⟨(sAt toks p).toArray⟩) ∧ wr = w') := code_s toks cb p wr (hA.code.at hA.hb) (by omega)
      rcases HR.out with ⟨rfl, hne, rfl⟩ | ⟨heq, r, hrest, hR⟩
      · have hb : (sAt toks p == [59]) = false := by rw [beq_eq_false_iff_ne]; exact hne
        clear hne HR
        generalize sAt toks p = S at *
        go_wp2_with fail
        refine CS'.out.mono ?_
        rintro e w2 ⟨rfl, rfl⟩
        go_wp2_with fail
        go_end0
        exact ⟨rfl, hA, hK⟩
      · obtain ⟨c2, q, h2, hx2, l4⟩ := rc_firstR hrest fuel s2
        have l3 := h2.le
        rw [if_neg (by omega)] at hR
        rw [← hR] at hx2
        have HX2 : Hid (NxR toks fuel q k' (ex fuel c2 s2) R) := hx2
        have HI2 : Hid (Inv fuel (ex fuel c2 s2)) := (inv_ex c2 s2 HV.out).1
        have C2 : Hid (Calls Try.prog 31 #[.pointer (some ⟨rb, 0, none⟩), .int .i64 ((p : Int) + 1)] wr fun e w' => e = .returned (.tuple #[]) ∧ RunAt w' rb cb toks fuel (ex fuel c2 s2) ∧ Kp rb wr w') := HF (p + 1) q c2 wr s2 h2 (by omega) (by omega) hA HV.out he
        have CK2 : Hid (∀ w, CodeAt w cb toks → Calls Try.prog 32 #[.pointer (some ⟨cb, 0, none⟩), .int .i64 ((p : Int) + 1)] w fun e w' => e = .returned (.int .i64 (q : Int)) ∧ Below w.heap.size w w') := fun w hc => skip_any toks cb hl (p + 1) q c2 w h2 (by omega) hc
        rw [heq] at CS'
        clear h2 hrest heq hx2 HR hR HX CK C1 HF hl
        generalize ex fuel c2 s2 = s3 at *
        go_wp2_with fail
        refine CS'.out.mono ?_
        rintro e w2 ⟨rfl, rfl⟩
        go_wp2_with fail
        refine C2.out.mono ?_
        rintro e w3 ⟨rfl, A3, K3⟩
        have c0' := A3.c0
        go_wp2_with fail
        refine (CK2.out _ (A3.code.at A3.hb)).mono ?_
        rintro e w4 ⟨rfl, hb4⟩
        go_wp2_with fail
        go_roundg (k' - q)
        case rel => exact ⟨q, s3, rfl, rfl, by omega, by omega, HX2, HI2, A3.below hb4, (hK.trans K3).trans (Kp.of_below hb4)⟩
        case measure => omega
    · have hd : decide (s2.e < 0) = false := decide_eq_false he
      have hR : R = s2 := by
        rcases HR.out with ⟨_, _, h⟩ | ⟨_, r, _, h⟩
        · exact h
        · rw [h, if_pos (by omega)]
      subst hR
      clear HR HX
      go_wp2_with fail
      go_end0
      exact ⟨rfl, hA, hK⟩
end Go.Proofs.Ytmpbgbdhpahpjaa.Vl
set_option linter.unusedVariables false
set_option linter.unusedSimpArgs false
namespace Go.Proofs.Ytmpbgbdhpahpjaa.Vl
open Go.RowKit
open Go.Proofs.Ytmpbgbdhpahpjaa.Av (vr rvariable_any Fm Rd Tg sAt trm trm_range rel rel_range vr_range Cm Rc Kp set_other)

set_option maxRecDepth 100000 in
set_option maxHeartbeats 1000000 in
theorem com_skip (toks : List (List UInt8 × Nat)) (rb cb : Nat) (fuel : Int) (k : Nat) (w : World) (s : RS) (hf : fuel ≤ 10000) (hk : k ≤ 300) (h1 : sAt toks k = [115, 107, 105, 112]) (ha : RunAt w rb cb toks fuel s) (hi : Inv fuel s) :
    Calls Try.prog 31 #[.pointer (some ⟨rb, 0, none⟩), .int .i64 (k : Int)] w fun e w' => e = .returned (.tuple #[]) ∧ RunAt w' rb cb toks fuel (stp fuel s) ∧ Kp rb w w' := by
  have CS : Hid (Calls Try.prog 33 #[.pointer (some ⟨cb, 0, none⟩), .int .i64 (k : Int)] w fun e w' => e = .returned (.string ⟨(sAt toks k).toArray⟩) ∧ w = w') := code_s toks cb k w (ha.code.at ha.hb) (by omega)
  have C2 : Hid (Calls Try.prog 47 #[.pointer (some ⟨rb, 0, none⟩)] w fun e w' => e = .returned (.bool (!(s.n == fuel))) ∧ RunAt w' rb cb toks fuel (stp fuel s) ∧ Kp rb w w') := run_step w rb cb fuel s ha ⟨hi.1, hi.2.1⟩ hf
  have c0 := ha.c0
  rw [h1] at CS
  clear h1 ha hi
  go_enter Try.func31, Try.ntmps31
  go_wp2_with fail
  refine CS.out.mono ?_
  rintro e w2 ⟨rfl, rfl⟩
  go_wp2_with fail
  refine C2.out.mono ?_
  rintro e w2 ⟨rfl, A2, K2⟩
  go_wp2_with fail
  go_end0
  exact ⟨rfl, A2, K2⟩

set_option maxRecDepth 100000 in
set_option maxHeartbeats 1000000 in
theorem com_if (toks : List (List UInt8 × Nat)) (rb cb : Nat) (fuel : Int) (n k k1 k2 k3 : Nat) (f : Fm) (a b : Cm) (w : World) (s : RS) (hf : fuel ≤ 10000) (hl : ∀ j, (sAt toks j).length ≤ 300) (IH : AllR toks rb cb fuel n)
    (hk : k3 ≤ 300) (hkn : k3 ≤ k + n) (h1 : sAt toks k = [105, 102]) (h2 : Rd toks .form (k + 1) f k1) (h3 : Rc toks true (k1 + 1) a k2) (h4 : Rc toks true (k2 + 1) b k3) (ha : RunAt w rb cb toks fuel s) (hi : Inv fuel s) (he0 : s.e < 0) :
    Calls Try.prog 31 #[.pointer (some ⟨rb, 0, none⟩), .int .i64 (k : Int)] w fun e w' => e = .returned (.tuple #[]) ∧ RunAt w' rb cb toks fuel (ex fuel (.ite f a b) s) ∧ Kp rb w w' := by
  have l2 := h2.le.1
  have l3 := h3.le
  have l4 := h4.le
  have CS : Hid (Calls Try.prog 33 #[.pointer (some ⟨cb, 0, none⟩), .int .i64 (k : Int)] w fun e w' => e = .returned (.string ⟨(sAt toks k).toArray⟩) ∧ w = w') := code_s toks cb k w (ha.code.at ha.hb) (by omega)
  have C2 : Hid (Calls Try.prog 48 #[.pointer (some ⟨rb, 0, none⟩), .int .i64 ((k : Int) + 1)] w fun e w' => e = .returned (.tuple #[.bool (!(s.n == fuel) && (stp fuel s).ev f), .int .i64 (k1 : Int)]) ∧ RunAt w' rb cb toks fuel (stp fuel s) ∧ Kp rb w w') := run_asks w rb cb fuel s (k + 1) k1 f ha hi hf hl h2 (by omega)
  have CK : Hid (∀ w, CodeAt w cb toks → Calls Try.prog 30 #[.pointer (some ⟨cb, 0, none⟩), .int .i64 ((k1 : Int) + 1)] w fun e w' => e = .returned (.int .i64 (k2 : Int)) ∧ Below w.heap.size w w') := fun w hc => all_any toks cb hl (k1 + 1) k2 a w h3 (by omega) hc
  have c0 := ha.c0
  have hi1 := (inv_stp hi).1
  rw [h1] at CS
  have hE : Hid (ex fuel (.ite f a b) s = if 0 ≤ (stp fuel s).e then stp fuel s else if (stp fuel s).ev f then ex fuel a (stp fuel s) else ex fuel b (stp fuel s)) := rfl
  generalize ex fuel (.ite f a b) s = R at *
  cases hq : (s.n == fuel)
  · have hne : s.n ≠ fuel := by simpa using hq
    have he1 : (stp fuel s).e < 0 := by unfold stp; rw [if_neg hne]; exact he0
    rw [hq] at C2
    cases hv : (stp fuel s).ev f
    · rw [hv] at C2
      have CB : Hid (∀ w, RunAt w rb cb toks fuel (stp fuel s) → Calls Try.prog 19 #[.pointer (some ⟨rb, 0, none⟩), .int .i64 ((k2 : Int) + 1)] w fun e w' => e = .returned (.tuple #[]) ∧ RunAt w' rb cb toks fuel (ex fuel b (stp fuel s)) ∧ Kp rb w w') := fun w ha => IH (k2 + 1) k3 b w (stp fuel s) h4 (by omega) (by omega) ha hi1 he1
      have HR : Hid (R = ex fuel b (stp fuel s)) := by show _ = _; rw [hE.out, if_neg (by omega), hv]; rfl
      clear h1 h2 h3 h4 ha hi hE hi1 hv IH hl
      generalize ex fuel b (stp fuel s) = R2 at *
      generalize stp fuel s = s1 at *
      go_enter Try.func31, Try.ntmps31
      go_wp2_with fail
      refine CS.out.mono ?_
      rintro e w2 ⟨rfl, rfl⟩
      go_wp2_with fail
      refine C2.out.mono ?_
      rintro e w2 ⟨rfl, A2, K2⟩
      go_wp2_with fail
      refine (CK.out _ (A2.code.at A2.hb)).mono ?_
      rintro e w3 ⟨rfl, hb3⟩
      have A3 := A2.below hb3
      have K3 := K2.trans (Kp.of_below hb3)
      have c7 := A3.c7
      go_wp2_with fail
      refine (CB.out _ A3).mono ?_
      rintro e w4 ⟨rfl, A4, K4⟩
      go_wp2_with fail
      (first | go_end0 | (refine bodyPost_ret (results_none rfl _ _ _) rfl ?_))
      exact ⟨rfl, by rw [HR.out]; exact A4, K3.trans K4⟩
    · rw [hv] at C2
      have CB : Hid (∀ w, RunAt w rb cb toks fuel (stp fuel s) → Calls Try.prog 19 #[.pointer (some ⟨rb, 0, none⟩), .int .i64 ((k1 : Int) + 1)] w fun e w' => e = .returned (.tuple #[]) ∧ RunAt w' rb cb toks fuel (ex fuel a (stp fuel s)) ∧ Kp rb w w') := fun w ha => IH (k1 + 1) k2 a w (stp fuel s) h3 (by omega) (by omega) ha hi1 he1
      have HR : Hid (R = ex fuel a (stp fuel s)) := by show _ = _; rw [hE.out, if_neg (by omega), hv]; rfl
      clear h1 h2 h3 h4 ha hi hE hi1 hv IH hl
      generalize ex fuel a (stp fuel s) = R2 at *
      generalize stp fuel s = s1 at *
      go_enter Try.func31, Try.ntmps31
      go_wp2_with fail
      refine CS.out.mono ?_
      rintro e w2 ⟨rfl, rfl⟩
      go_wp2_with fail
      refine C2.out.mono ?_
      rintro e w2 ⟨rfl, A2, K2⟩
      go_wp2_with fail
      refine (CK.out _ (A2.code.at A2.hb)).mono ?_
      rintro e w3 ⟨rfl, hb3⟩
      have A3 := A2.below hb3
      have K3 := K2.trans (Kp.of_below hb3)
      have c7 := A3.c7
      go_wp2_with fail
      refine (CB.out _ A3).mono ?_
      rintro e w4 ⟨rfl, A4, K4⟩
      go_wp2_with fail
      (first | go_end0 | (refine bodyPost_ret (results_none rfl _ _ _) rfl ?_))
      exact ⟨rfl, by rw [HR.out]; exact A4, K3.trans K4⟩
  · have hne : s.n = fuel := by simpa using hq
    have he1 : 0 ≤ (stp fuel s).e := by unfold stp; rw [if_pos hne]; dsimp only; decide
    rw [hq] at C2
    have HR : Hid (R = stp fuel s) := by show _ = _; rw [hE.out, if_pos he1]
    clear h1 h2 h3 h4 ha hi hE hi1 IH hl
    generalize (stp fuel s).ev f = V at *
    generalize stp fuel s = s1 at *
    go_enter Try.func31, Try.ntmps31
    go_wp2_with fail
    refine CS.out.mono ?_
    rintro e w2 ⟨rfl, rfl⟩
    go_wp2_with fail
    refine C2.out.mono ?_
    rintro e w2 ⟨rfl, A2, K2⟩
    go_wp2_with fail
    refine (CK.out _ (A2.code.at A2.hb)).mono ?_
    rintro e w3 ⟨rfl, hb3⟩
    have A3 := A2.below hb3
    have K3 := K2.trans (Kp.of_below hb3)
    have c7 := A3.c7
    go_wp2_with fail
    (first | go_end0 | (refine bodyPost_ret (results_none rfl _ _ _) rfl ?_))
    exact ⟨rfl, by rw [HR.out]; exact A3, K3⟩

set_option maxRecDepth 100000 in
set_option maxHeartbeats 1000000 in
theorem com_while (toks : List (List UInt8 × Nat)) (rb cb : Nat) (fuel : Int) (n k k1 k2 k3 : Nat) (f g : Fm) (a : Cm) (w : World) (s : RS) (hf : fuel ≤ 10000) (hl : ∀ j, (sAt toks j).length ≤ 300) (IH : AllR toks rb cb fuel n)
    (hk : k3 ≤ 300) (hkn : k3 ≤ k + n) (h1 : sAt toks k = [119, 104, 105, 108, 101]) (h2 : Rd toks .form (k + 1) f k1) (h3 : Rd toks .form (k1 + 1) g k2) (h4 : Rc toks true (k2 + 1) a k3) (ha : RunAt w rb cb toks fuel s) (hi : Inv fuel s) (he0 : s.e < 0) :
    Calls Try.prog 31 #[.pointer (some ⟨rb, 0, none⟩), .int .i64 (k : Int)] w fun e w' => e = .returned (.tuple #[]) ∧ RunAt w' rb cb toks fuel (ex fuel (.loop f g a) s) ∧ Kp rb w w' := by
  have l2 := h2.le.1
  have l3 := h3.le.1
  have l4 := h4.le
  have CS : Hid (Calls Try.prog 33 #[.pointer (some ⟨cb, 0, none⟩), .int .i64 (k : Int)] w fun e w' => e = .returned (.string ⟨(sAt toks k).toArray⟩) ∧ w = w') := code_s toks cb k w (ha.code.at ha.hb) (by omega)
  have C2 : Hid (∀ w s, RunAt w rb cb toks fuel s → Inv fuel s → Calls Try.prog 48 #[.pointer (some ⟨rb, 0, none⟩), .int .i64 ((k : Int) + 1)] w fun e w' => e = .returned (.tuple #[.bool (!(s.n == fuel) && (stp fuel s).ev f), .int .i64 (k1 : Int)]) ∧ RunAt w' rb cb toks fuel (stp fuel s) ∧ Kp rb w w') := fun w s ha hi => run_asks w rb cb fuel s (k + 1) k1 f ha hi hf hl h2 (by omega)
  have CK : Hid (∀ w, CodeAt w cb toks → Calls Try.prog 20 #[.pointer (some ⟨cb, 0, none⟩), .int .i64 ((k1 : Int) + 1)] w fun e w' => e = .returned (.tuple #[.string (ftx g), .int .i64 (k2 : Int)]) ∧ Below w.heap.size w w') := fun w hc => formula_any toks cb hl (k1 + 1) k2 g w h3 (by omega) hc
  have CB : Hid (∀ w s, RunAt w rb cb toks fuel s → Inv fuel s → s.e < 0 → Calls Try.prog 19 #[.pointer (some ⟨rb, 0, none⟩), .int .i64 ((k2 : Int) + 1)] w fun e w' => e = .returned (.tuple #[]) ∧ RunAt w' rb cb toks fuel (ex fuel a s) ∧ Kp rb w w') := fun w s ha hi he => IH (k2 + 1) k3 a w s h4 (by omega) (by omega) ha hi he
  have hbd : Hid (∀ s, Inv fuel s → Inv fuel (ex fuel a s) ∧ s.n ≤ (ex fuel a s).n) := fun s h => inv_ex a s h
  have c0 := ha.c0
  rw [h1] at CS
  have HI : Hid (Inv fuel s) := hi
  have HE : Hid (ex fuel (.loop f g a) s = if 0 ≤ s.e then s else whl fuel f (ex fuel a) (fuel.toNat + 1) s) := by show _ = _; rw [if_neg (by omega)]; rfl
  have HA : Hid (RunAt w rb cb toks fuel s) := ha
  clear h1 h2 h3 h4 ha hi IH hl
  generalize ex fuel (.loop f g a) s = R at *
  generalize ftx g = G at *
  go_enter Try.func31, Try.ntmps31
  go_wp2_with fail
  refine CS.out.mono ?_
  rintro e w2 ⟨rfl, rfl⟩
  go_wp2_with fail
  go_loopg [8, 9, 10, 11] (if 0 ≤ s.e then 0 else 1 + (fuel - s.n).toNat) (fun gm _ _ _ _ wr => ∃ (s2 : RS), gm = (if 0 ≤ s2.e then 0 else 1 + (fuel - s2.n).toNat) ∧ Hid (Inv fuel s2) ∧ Hid (R = if 0 ≤ s2.e then s2 else whl fuel f (ex fuel a) (fuel.toNat + 1) s2) ∧ RunAt wr rb cb toks fuel s2 ∧ Kp rb w wr)
  case atStart => exact ⟨s, rfl, HI, HE, HA.out, Kp.refl _ _⟩
  case round =>
    obtain ⟨s2, hgm, HI2, HR, hA, hK⟩ := hrel
    have c7 := hA.c7
    by_cases he : s2.e < 0
    · have hst := whl_step (f := f) hbd.out s2 HI2.out
      have HW : Hid (R = if 0 ≤ (stp fuel s2).e then stp fuel s2 else if (stp fuel s2).ev f then (if 0 ≤ (ex fuel a (stp fuel s2)).e then ex fuel a (stp fuel s2) else whl fuel f (ex fuel a) (fuel.toNat + 1) (ex fuel a (stp fuel s2))) else stp fuel s2) := by
        show _ = _
        rw [HR.out, if_neg (by omega), hst]
      clear hst HR HE
      have hi1 := inv_stp HI2.out
      have hin := HI2.out.2.1
      have HI3 : Hid (Inv fuel (stp fuel s2)) := hi1.1
      have hC2 := C2.out wr s2 hA HI2.out
      cases hq : (s2.n == fuel)
      · have hne : s2.n ≠ fuel := by simpa using hq
        have he1 : (stp fuel s2).e < 0 := by unfold stp; rw [if_neg hne]; exact he
        have hn1 := hi1.2.2 he1
        rw [hq] at hC2
        clear hi1
        cases hv : (stp fuel s2).ev f
        · have HR : Hid (R = stp fuel s2) := by show _ = _; rw [HW.out, if_neg (by omega), hv]; rfl
          rw [hv] at hC2
          have HC2 : Hid _ := hC2
          clear hC2 HW hv
          generalize stp fuel s2 = s3 at *
          go_wp2_with fail
          refine Calls.mono HC2.out ?_
          rintro e w2 ⟨rfl, A2, K2⟩
          go_wp2_with fail
          refine (CK.out _ (A2.code.at A2.hb)).mono ?_
          rintro e w3 ⟨rfl, hb3⟩
          have A3 := A2.below hb3
          have K3 := K2.trans (Kp.of_below hb3)
          have c7' := A3.c7
          go_wp2_with fail
          (first | go_end0 | (refine bodyPost_ret (results_none rfl _ _ _) rfl ?_))
          exact ⟨rfl, by rw [HR.out]; exact A3, hK.trans K3⟩
        · have HR : Hid (R = if 0 ≤ (ex fuel a (stp fuel s2)).e then ex fuel a (stp fuel s2) else whl fuel f (ex fuel a) (fuel.toNat + 1) (ex fuel a (stp fuel s2))) := by show _ = _; rw [HW.out, if_neg (by omega), hv]; rfl
          rw [hv] at hC2
          have HC2 : Hid _ := hC2
          have hb4 := hbd.out _ HI3.out
          have HI4 : Hid (Inv fuel (ex fuel a (stp fuel s2))) := hb4.1
          have hn4 := hb4.2
          have hn5 := hb4.1.2.1
          have HC4 : Hid (∀ w, RunAt w rb cb toks fuel (stp fuel s2) → Calls Try.prog 19 #[.pointer (some ⟨rb, 0, none⟩), .int .i64 ((k2 : Int) + 1)] w fun e w' => e = .returned (.tuple #[]) ∧ RunAt w' rb cb toks fuel (ex fuel a (stp fuel s2)) ∧ Kp rb w w') := fun w ha => CB.out w (stp fuel s2) ha HI3.out he1
          clear hC2 HW hv hb4
          generalize ex fuel a (stp fuel s2) = s4 at *
          generalize stp fuel s2 = s3 at *
          go_wp2_with fail
          refine Calls.mono HC2.out ?_
          rintro e w2 ⟨rfl, A2, K2⟩
          go_wp2_with fail
          refine (CK.out _ (A2.code.at A2.hb)).mono ?_
          rintro e w3 ⟨rfl, hb3⟩
          have A3 := A2.below hb3
          have K3 := K2.trans (Kp.of_below hb3)
          have c7' := A3.c7
          go_wp2_with fail
          refine (HC4.out _ A3).mono ?_
          rintro e w4 ⟨rfl, A4, K4⟩
          go_wp2_with fail
          go_roundg (if 0 ≤ s4.e then 0 else 1 + (fuel - s4.n).toNat)
          case rel => exact ⟨s4, rfl, HI4, HR, A4, (hK.trans K3).trans K4⟩
          case measure =>
            have e1 : (if 0 ≤ s2.e then 0 else 1 + (fuel - s2.n).toNat) = 1 + (fuel - s2.n).toNat := if_neg (by omega)
            rw [hgm, e1]
            split <;> omega
      · have hne : s2.n = fuel := by simpa using hq
        have he1 : 0 ≤ (stp fuel s2).e := by unfold stp; rw [if_pos hne]; dsimp only; decide
        have HR : Hid (R = stp fuel s2) := by show _ = _; rw [HW.out, if_pos he1]
        rw [hq] at hC2
        have HC2 : Hid _ := hC2
        clear hC2 HW hi1
        generalize (stp fuel s2).ev f = V at *
        generalize stp fuel s2 = s3 at *
        go_wp2_with fail
        refine Calls.mono HC2.out ?_
        rintro e w2 ⟨rfl, A2, K2⟩
        go_wp2_with fail
        refine (CK.out _ (A2.code.at A2.hb)).mono ?_
        rintro e w3 ⟨rfl, hb3⟩
        have A3 := A2.below hb3
        have K3 := K2.trans (Kp.of_below hb3)
        have c7' := A3.c7
        go_wp2_with fail
        (first | go_end0 | (refine bodyPost_ret (results_none rfl _ _ _) rfl ?_))
        exact ⟨rfl, by rw [HR.out]; exact A3, hK.trans K3⟩
    · have hR : R = s2 := by rw [HR.out, if_pos (by omega)]
      subst hR
      clear HR HE
      go_wp2_with fail
      (first | go_end0 | (refine bodyPost_ret (results_none rfl _ _ _) rfl ?_))
      exact ⟨rfl, hA, hK⟩

theorem xv_at {s : RS} {v : Int} (h0 : 0 ≤ v) (h3 : v ≤ 3) : xv s.x1 s.x2 s.x3 s.x4 (v + 1) = if v = 0 then s.x1 else if v = 1 then s.x2 else if v = 2 then s.x3 else s.x4 := by
  have : v = 0 ∨ v = 1 ∨ v = 2 ∨ v = 3 := by omega
  rcases this with rfl | rfl | rfl | rfl <;> rfl
/-- What an assignment comes to, in three ways. -/
theorem asgn_cases (fuel : Int) (x : Int) (t : Int × Int) (s : RS) : (s.n = fuel ∧ asgn fuel x t s = stp fuel s) ∨ (s.n ≠ fuel ∧ gd (s.tv t) = false ∧ asgn fuel x t s = { s with e := 2 }) ∨ (s.n ≠ fuel ∧ gd (s.tv t) = true ∧ asgn fuel x t s = (stp fuel s).set x (s.tv t)) := by
  by_cases h : s.n = fuel
  · exact Or.inl ⟨h, by unfold asgn stp; rw [if_pos h, if_pos h]⟩
  · cases hg : gd (s.tv t)
    · exact Or.inr (Or.inl ⟨h, rfl, by unfold asgn; rw [if_neg h, hg]; rfl⟩)
    · refine Or.inr (Or.inr ⟨h, rfl, ?_⟩)
      unfold asgn stp RS.set
      rw [if_neg h, hg, if_neg h, if_pos rfl]
      split
      · rfl
      · split
        · rfl
        · split <;> rfl
end Go.Proofs.Ytmpbgbdhpahpjaa.Vl
set_option linter.unusedVariables false
set_option linter.unusedSimpArgs false
namespace Go.Proofs.Ytmpbgbdhpahpjaa.Vl
open Go.RowKit
open Go.Proofs.Ytmpbgbdhpahpjaa.Av (vr rvariable_any Fm Rd Tg sAt trm trm_range rel rel_range vr_range Cm Rc Kp set_other)

theorem tv_none (s : RS) (n : Int) : s.tv (-1, n) = n := by show (0 : Int) + n = n; omega
theorem tv_0 (s : RS) (n : Int) : s.tv (0, n) = s.x1 + n := rfl
theorem tv_1 (s : RS) (n : Int) : s.tv (1, n) = s.x2 + n := rfl
theorem tv_2 (s : RS) (n : Int) : s.tv (2, n) = s.x3 + n := rfl
theorem tv_3 (s : RS) (n : Int) : s.tv (3, n) = s.x4 + n := rfl
theorem gds_all {x1 x2 x3 x4 : Int} (h : gds x1 x2 x3 x4 = true) : (-1000000000 ≤ x1 ∧ x1 ≤ 1000000000) ∧ (-1000000000 ≤ x2 ∧ x2 ≤ 1000000000) ∧ (-1000000000 ≤ x3 ∧ x3 ≤ 1000000000) ∧ (-1000000000 ≤ x4 ∧ x4 ≤ 1000000000) := by
  unfold gds gd at h
  simp only [Bool.and_eq_true, decide_eq_true_eq] at h
  omega
theorem gd_iff (x : Int) : (gd x = true ↔ (¬ 1000000000 < x ∧ ¬ x < -1000000000)) ∧ (gd x = false ↔ (1000000000 < x ∨ (¬ 1000000000 < x ∧ x < -1000000000))) := by
  unfold gd
  constructor
  · simp only [Bool.and_eq_true, decide_eq_true_eq]; omega
  · rw [Bool.and_eq_false_iff, decide_eq_false_iff_not, decide_eq_false_iff_not]; omega

theorem variable_l (l : List UInt8) (w : World) : Calls Try.prog 50 #[.string ⟨l.toArray⟩] w fun e w' => e = .returned (.int .i64 (vr l)) ∧ w = w' := (rvariable_any ⟨l.toArray⟩ w).mono fun e w' h => by
  have e1 : (⟨l.toArray⟩ : ByteArray).data.toList = l := by simp
  refine ⟨?_, ?_⟩
  · first | (rw [h.1, e1]) | (rw [h.1]; simp)
  · first | exact h.2 | exact h.2.symm

set_option maxRecDepth 100000 in
set_option maxHeartbeats 8000000 in
theorem com_asg (toks : List (List UInt8 × Nat)) (rb cb : Nat) (fuel : Int) (k : Nat) (w : World) (s : RS) (hf : fuel ≤ 10000) (hl : ∀ j, (sAt toks j).length ≤ 300) (hk : k ≤ 300) (hv : 0 ≤ vr (sAt toks k)) (ha : RunAt w rb cb toks fuel s) (hi : Inv fuel s) :
    Calls Try.prog 31 #[.pointer (some ⟨rb, 0, none⟩), .int .i64 (k : Int)] w fun e w' => e = .returned (.tuple #[]) ∧ RunAt w' rb cb toks fuel (asgn fuel (vr (sAt toks k)) ((trm toks (k + 2)).1, (trm toks (k + 2)).2.1) s) ∧ Kp rb w w' := by
  have CS : Hid (Calls Try.prog 33 #[.pointer (some ⟨cb, 0, none⟩), .int .i64 (k : Int)] w fun e w' => e = .returned (.string ⟨(sAt toks k).toArray⟩) ∧ w = w') := code_s toks cb k w (ha.code.at ha.hb) (by omega)
  have r2 := trm_range toks (k + 2)
  have CT : Hid (Calls Try.prog 49 #[.pointer (some ⟨cb, 0, none⟩), .int .i64 ((k : Int) + 2)] w fun e w' => e = .returned (.tuple #[.int .i64 (trm toks (k + 2)).1, .int .i64 (trm toks (k + 2)).2.1, .int .i64 ((trm toks (k + 2)).2.2 : Int)]) ∧ w = w') := code_term toks cb (k + 2) w (ha.code.at ha.hb) (by omega) hl
  have C2 : Hid (∀ w, RunAt w rb cb toks fuel s → Calls Try.prog 47 #[.pointer (some ⟨rb, 0, none⟩)] w fun e w' => e = .returned (.bool (!(s.n == fuel))) ∧ RunAt w' rb cb toks fuel (stp fuel s) ∧ Kp rb w w') := fun w ha => run_step w rb cb fuel s ha ⟨hi.1, hi.2.1⟩ hf
  obtain ⟨b1, b2, b3⟩ := vr_word hv
  have hg := gds_all hi.2.2.1
  have hi1 := hi.1
  have hi2 := hi.2.1
  have c0 := ha.c0
  have c1 := ha.c1
  have c2 := ha.c2
  have c3 := ha.c3
  have c4 := ha.c4
  have c5 := ha.c5
  have c6 := ha.c6
  have f7 := ha.f 7
  have HA : Hid (RunAt w rb cb toks fuel s) := ha
  have HC := asgn_cases fuel (vr (sAt toks k)) ((trm toks (k + 2)).1, (trm toks (k + 2)).2.1) s
  generalize asgn fuel (vr (sAt toks k)) ((trm toks (k + 2)).1, (trm toks (k + 2)).2.1) s = R at *
  generalize trm toks (k + 2) = T at *
  obtain ⟨v, m, q⟩ := T
  dsimp only at *
  rcases HC with ⟨hn, hR⟩ | ⟨hn, hgd, hR⟩ | ⟨hn, hgd, hR⟩
  · have hn' : (s.n == fuel) = true := by simpa using hn
    have hn2 : decide (s.n < fuel) = false := decide_eq_false (by omega)
    have HR : Hid (R = stp fuel s) := hR
    rw [hn'] at C2
    clear hR ha hi
    have hvv : v = -1 ∨ v = 0 ∨ v = 1 ∨ v = 2 ∨ v = 3 := by omega
    generalize stp fuel s = s1 at *
    generalize sAt toks k = S at *
    rcases hvv with rfl | rfl | rfl | rfl | rfl
    all_goals
      go_enter Try.func31, Try.ntmps31
      go_wp2_with fail
      refine CS.out.mono ?_
      rintro e w2 ⟨rfl, rfl⟩
      go_wp2_with fail
      refine CT.out.mono ?_
      rintro e w2 ⟨rfl, rfl⟩
      go_wp2_with fail
      all_goals go_quiet (fail)
      all_goals go_wp2_with fail
      all_goals refine (C2.out _ (HA.out.drewN _)).mono ?_
      all_goals rintro e w3 ⟨rfl, A3, K3⟩
      all_goals go_wp2_with fail
      all_goals (first | go_end0 | (refine bodyPost_ret (results_none rfl _ _ _) rfl ?_))
      all_goals exact ⟨rfl, by rw [HR.out]; exact A3, ((Kp.refl _ _).drewN _).trans K3⟩
  · have hn2 : s.n < fuel := by omega
    have HR : Hid (R = { s with e := 2 }) := hR
    have c7 := HA.out.c7
    clear hR ha hi C2
    have hvv : v = -1 ∨ v = 0 ∨ v = 1 ∨ v = 2 ∨ v = 3 := by omega
    generalize sAt toks k = S at *
    rcases hvv with rfl | rfl | rfl | rfl | rfl
    · rw [tv_none, (gd_iff _).2] at hgd
      rcases hgd with hgd | ⟨hgd, hgd2⟩
      all_goals
        omega
    · rw [tv_0, (gd_iff _).2] at hgd
      rw [Int.add_comm] at hgd
      rcases hgd with hgd | ⟨hgd, hgd2⟩
      all_goals
        go_enter Try.func31, Try.ntmps31
        go_wp2_with fail
        refine CS.out.mono ?_
        rintro e w2 ⟨rfl, rfl⟩
        go_wp2_with fail
        refine CT.out.mono ?_
        rintro e w2 ⟨rfl, rfl⟩
        go_wp2_with fail
        go_quiet (fail)
        go_wp2_with fail
        (first | go_end0 | (refine bodyPost_ret (results_none rfl _ _ _) rfl ?_))
        exact ⟨rfl, by rw [HR.out]; exact (HA.out.drewN _).put 7 2 (by decide) rfl rfl rfl rfl rfl (by decide) rfl (by decide), ((Kp.refl _ _).drewN _).setCell (Or.inl rfl) _⟩
    · rw [tv_1, (gd_iff _).2] at hgd
      rw [Int.add_comm] at hgd
      rcases hgd with hgd | ⟨hgd, hgd2⟩
      all_goals
        go_enter Try.func31, Try.ntmps31
        go_wp2_with fail
        refine CS.out.mono ?_
        rintro e w2 ⟨rfl, rfl⟩
        go_wp2_with fail
        refine CT.out.mono ?_
        rintro e w2 ⟨rfl, rfl⟩
        go_wp2_with fail
        go_quiet (fail)
        go_wp2_with fail
        (first | go_end0 | (refine bodyPost_ret (results_none rfl _ _ _) rfl ?_))
        exact ⟨rfl, by rw [HR.out]; exact (HA.out.drewN _).put 7 2 (by decide) rfl rfl rfl rfl rfl (by decide) rfl (by decide), ((Kp.refl _ _).drewN _).setCell (Or.inl rfl) _⟩
    · rw [tv_2, (gd_iff _).2] at hgd
      rw [Int.add_comm] at hgd
      rcases hgd with hgd | ⟨hgd, hgd2⟩
      all_goals
        go_enter Try.func31, Try.ntmps31
        go_wp2_with fail
        refine CS.out.mono ?_
        rintro e w2 ⟨rfl, rfl⟩
        go_wp2_with fail
        refine CT.out.mono ?_
        rintro e w2 ⟨rfl, rfl⟩
        go_wp2_with fail
        go_quiet (fail)
        go_wp2_with fail
        (first | go_end0 | (refine bodyPost_ret (results_none rfl _ _ _) rfl ?_))
        exact ⟨rfl, by rw [HR.out]; exact (HA.out.drewN _).put 7 2 (by decide) rfl rfl rfl rfl rfl (by decide) rfl (by decide), ((Kp.refl _ _).drewN _).setCell (Or.inl rfl) _⟩
    · rw [tv_3, (gd_iff _).2] at hgd
      rw [Int.add_comm] at hgd
      rcases hgd with hgd | ⟨hgd, hgd2⟩
      all_goals
        go_enter Try.func31, Try.ntmps31
        go_wp2_with fail
        refine CS.out.mono ?_
        rintro e w2 ⟨rfl, rfl⟩
        go_wp2_with fail
        refine CT.out.mono ?_
        rintro e w2 ⟨rfl, rfl⟩
        go_wp2_with fail
        go_quiet (fail)
        go_wp2_with fail
        (first | go_end0 | (refine bodyPost_ret (results_none rfl _ _ _) rfl ?_))
        exact ⟨rfl, by rw [HR.out]; exact (HA.out.drewN _).put 7 2 (by decide) rfl rfl rfl rfl rfl (by decide) rfl (by decide), ((Kp.refl _ _).drewN _).setCell (Or.inl rfl) _⟩
  · have hn' : (s.n == fuel) = false := by simpa using hn
    have hn2 : s.n < fuel := by omega
    have HR : Hid (R = (stp fuel s).set (vr (sAt toks k)) (s.tv (v, m))) := hR
    rw [hn'] at C2
    clear hR ha hi
    have hvv : v = -1 ∨ v = 0 ∨ v = 1 ∨ v = 2 ∨ v = 3 := by omega
    have hxr := vr_range (sAt toks k)
    have hxx : vr (sAt toks k) = 0 ∨ vr (sAt toks k) = 1 ∨ vr (sAt toks k) = 2 ∨ vr (sAt toks k) = 3 := by omega
    have CS3 : Hid (∀ w, RunAt w rb cb toks fuel (stp fuel s) → Calls Try.prog 33 #[.pointer (some ⟨cb, 0, none⟩), .int .i64 (k : Int)] w fun e w' => e = .returned (.string ⟨(sAt toks k).toArray⟩) ∧ w = w') := fun w ha => code_s toks cb k w (ha.code.at ha.hb) (by omega)
    have CV3 : Hid (∀ w, Calls Try.prog 50 #[.string ⟨(sAt toks k).toArray⟩] w fun e w' => e = .returned (.int .i64 (vr (sAt toks k))) ∧ w = w') := fun w => variable_l _ w
    generalize stp fuel s = s1 at *
    generalize vr (sAt toks k) = X at *
    generalize sAt toks k = S at *
    rcases hvv with rfl | rfl | rfl | rfl | rfl
    · have HT : Hid (s.tv (-1, m) = m) := by show _ = _; rw [tv_none]
      rw [HT.out, (gd_iff _).1] at hgd
      rw [HT.out] at HR
      obtain ⟨g1, g2⟩ := hgd
      rcases hxx with rfl | rfl | rfl | rfl
      · go_enter Try.func31, Try.ntmps31
        go_wp2_with fail
        refine CS.out.mono ?_
        rintro e w2 ⟨rfl, rfl⟩
        go_wp2_with fail
        refine CT.out.mono ?_
        rintro e w2 ⟨rfl, rfl⟩
        go_wp2_with fail
        go_quiet (fail)
        go_wp2_with fail
        refine (C2.out _ (HA.out.drewN _)).mono ?_
        rintro e w3 ⟨rfl, A3, K3⟩
        have hK3 := ((Kp.refl rb w).drewN nq).trans K3
        have d1 := A3.c1
        have f1 := A3.f 1
        go_wp2_with fail
        go_region_with (first | (go_at_call 33; refine (CS3.out _ (by first | exact A3 | exact A3.drew)).mono ?_; rintro e w5 ⟨rfl, rfl⟩) | (go_at_call 50; refine (CV3.out _).mono ?_; rintro e w5 ⟨rfl, rfl⟩))
        all_goals go_wp2_with fail
        all_goals (first | go_end0 | (refine bodyPost_ret (results_none rfl _ _ _) rfl ?_))
        all_goals exact ⟨rfl, by rw [HR.out]; exact (A3.drew).put 1 _ (by decide) rfl rfl rfl rfl rfl (by decide) rfl (by decide), hK3.drew.setCell (Or.inl rfl) _⟩
      · go_enter Try.func31, Try.ntmps31
        go_wp2_with fail
        refine CS.out.mono ?_
        rintro e w2 ⟨rfl, rfl⟩
        go_wp2_with fail
        refine CT.out.mono ?_
        rintro e w2 ⟨rfl, rfl⟩
        go_wp2_with fail
        go_quiet (fail)
        go_wp2_with fail
        refine (C2.out _ (HA.out.drewN _)).mono ?_
        rintro e w3 ⟨rfl, A3, K3⟩
        have hK3 := ((Kp.refl rb w).drewN nq).trans K3
        have d1 := A3.c2
        have f1 := A3.f 2
        go_wp2_with fail
        go_region_with (first | (go_at_call 33; refine (CS3.out _ (by first | exact A3 | exact A3.drew)).mono ?_; rintro e w5 ⟨rfl, rfl⟩) | (go_at_call 50; refine (CV3.out _).mono ?_; rintro e w5 ⟨rfl, rfl⟩))
        all_goals go_wp2_with fail
        all_goals (first | go_end0 | (refine bodyPost_ret (results_none rfl _ _ _) rfl ?_))
        all_goals exact ⟨rfl, by rw [HR.out]; exact (A3.drew).put 2 _ (by decide) rfl rfl rfl rfl rfl (by decide) rfl (by decide), hK3.drew.setCell (Or.inl rfl) _⟩
      · go_enter Try.func31, Try.ntmps31
        go_wp2_with fail
        refine CS.out.mono ?_
        rintro e w2 ⟨rfl, rfl⟩
        go_wp2_with fail
        refine CT.out.mono ?_
        rintro e w2 ⟨rfl, rfl⟩
        go_wp2_with fail
        go_quiet (fail)
        go_wp2_with fail
        refine (C2.out _ (HA.out.drewN _)).mono ?_
        rintro e w3 ⟨rfl, A3, K3⟩
        have hK3 := ((Kp.refl rb w).drewN nq).trans K3
        have d1 := A3.c3
        have f1 := A3.f 3
        go_wp2_with fail
        go_region_with (first | (go_at_call 33; refine (CS3.out _ (by first | exact A3 | exact A3.drew)).mono ?_; rintro e w5 ⟨rfl, rfl⟩) | (go_at_call 50; refine (CV3.out _).mono ?_; rintro e w5 ⟨rfl, rfl⟩))
        all_goals go_wp2_with fail
        all_goals (first | go_end0 | (refine bodyPost_ret (results_none rfl _ _ _) rfl ?_))
        all_goals exact ⟨rfl, by rw [HR.out]; exact (A3.drew).put 3 _ (by decide) rfl rfl rfl rfl rfl (by decide) rfl (by decide), hK3.drew.setCell (Or.inl rfl) _⟩
      · go_enter Try.func31, Try.ntmps31
        go_wp2_with fail
        refine CS.out.mono ?_
        rintro e w2 ⟨rfl, rfl⟩
        go_wp2_with fail
        refine CT.out.mono ?_
        rintro e w2 ⟨rfl, rfl⟩
        go_wp2_with fail
        go_quiet (fail)
        go_wp2_with fail
        refine (C2.out _ (HA.out.drewN _)).mono ?_
        rintro e w3 ⟨rfl, A3, K3⟩
        have hK3 := ((Kp.refl rb w).drewN nq).trans K3
        have d1 := A3.c4
        have f1 := A3.f 4
        go_wp2_with fail
        go_region_with (first | (go_at_call 33; refine (CS3.out _ (by first | exact A3 | exact A3.drew)).mono ?_; rintro e w5 ⟨rfl, rfl⟩) | (go_at_call 50; refine (CV3.out _).mono ?_; rintro e w5 ⟨rfl, rfl⟩))
        all_goals go_wp2_with fail
        all_goals (first | go_end0 | (refine bodyPost_ret (results_none rfl _ _ _) rfl ?_))
        all_goals exact ⟨rfl, by rw [HR.out]; exact (A3.drew).put 4 _ (by decide) rfl rfl rfl rfl rfl (by decide) rfl (by decide), hK3.drew.setCell (Or.inl rfl) _⟩
    · have HT : Hid (s.tv (0, m) = m + s.x1) := by show _ = _; rw [tv_0]; omega
      rw [HT.out, (gd_iff _).1] at hgd
      rw [HT.out] at HR
      obtain ⟨g1, g2⟩ := hgd
      rcases hxx with rfl | rfl | rfl | rfl
      · go_enter Try.func31, Try.ntmps31
        go_wp2_with fail
        refine CS.out.mono ?_
        rintro e w2 ⟨rfl, rfl⟩
        go_wp2_with fail
        refine CT.out.mono ?_
        rintro e w2 ⟨rfl, rfl⟩
        go_wp2_with fail
        go_quiet (fail)
        go_wp2_with fail
        refine (C2.out _ (HA.out.drewN _)).mono ?_
        rintro e w3 ⟨rfl, A3, K3⟩
        have hK3 := ((Kp.refl rb w).drewN nq).trans K3
        have d1 := A3.c1
        have f1 := A3.f 1
        go_wp2_with fail
        go_region_with (first | (go_at_call 33; refine (CS3.out _ (by first | exact A3 | exact A3.drew)).mono ?_; rintro e w5 ⟨rfl, rfl⟩) | (go_at_call 50; refine (CV3.out _).mono ?_; rintro e w5 ⟨rfl, rfl⟩))
        all_goals go_wp2_with fail
        all_goals (first | go_end0 | (refine bodyPost_ret (results_none rfl _ _ _) rfl ?_))
        all_goals exact ⟨rfl, by rw [HR.out]; exact (A3.drew).put 1 _ (by decide) rfl rfl rfl rfl rfl (by decide) rfl (by decide), hK3.drew.setCell (Or.inl rfl) _⟩
      · go_enter Try.func31, Try.ntmps31
        go_wp2_with fail
        refine CS.out.mono ?_
        rintro e w2 ⟨rfl, rfl⟩
        go_wp2_with fail
        refine CT.out.mono ?_
        rintro e w2 ⟨rfl, rfl⟩
        go_wp2_with fail
        go_quiet (fail)
        go_wp2_with fail
        refine (C2.out _ (HA.out.drewN _)).mono ?_
        rintro e w3 ⟨rfl, A3, K3⟩
        have hK3 := ((Kp.refl rb w).drewN nq).trans K3
        have d1 := A3.c2
        have f1 := A3.f 2
        go_wp2_with fail
        go_region_with (first | (go_at_call 33; refine (CS3.out _ (by first | exact A3 | exact A3.drew)).mono ?_; rintro e w5 ⟨rfl, rfl⟩) | (go_at_call 50; refine (CV3.out _).mono ?_; rintro e w5 ⟨rfl, rfl⟩))
        all_goals go_wp2_with fail
        all_goals (first | go_end0 | (refine bodyPost_ret (results_none rfl _ _ _) rfl ?_))
        all_goals exact ⟨rfl, by rw [HR.out]; exact (A3.drew).put 2 _ (by decide) rfl rfl rfl rfl rfl (by decide) rfl (by decide), hK3.drew.setCell (Or.inl rfl) _⟩
      · go_enter Try.func31, Try.ntmps31
        go_wp2_with fail
        refine CS.out.mono ?_
        rintro e w2 ⟨rfl, rfl⟩
        go_wp2_with fail
        refine CT.out.mono ?_
        rintro e w2 ⟨rfl, rfl⟩
        go_wp2_with fail
        go_quiet (fail)
        go_wp2_with fail
        refine (C2.out _ (HA.out.drewN _)).mono ?_
        rintro e w3 ⟨rfl, A3, K3⟩
        have hK3 := ((Kp.refl rb w).drewN nq).trans K3
        have d1 := A3.c3
        have f1 := A3.f 3
        go_wp2_with fail
        go_region_with (first | (go_at_call 33; refine (CS3.out _ (by first | exact A3 | exact A3.drew)).mono ?_; rintro e w5 ⟨rfl, rfl⟩) | (go_at_call 50; refine (CV3.out _).mono ?_; rintro e w5 ⟨rfl, rfl⟩))
        all_goals go_wp2_with fail
        all_goals (first | go_end0 | (refine bodyPost_ret (results_none rfl _ _ _) rfl ?_))
        all_goals exact ⟨rfl, by rw [HR.out]; exact (A3.drew).put 3 _ (by decide) rfl rfl rfl rfl rfl (by decide) rfl (by decide), hK3.drew.setCell (Or.inl rfl) _⟩
      · go_enter Try.func31, Try.ntmps31
        go_wp2_with fail
        refine CS.out.mono ?_
        rintro e w2 ⟨rfl, rfl⟩
        go_wp2_with fail
        refine CT.out.mono ?_
        rintro e w2 ⟨rfl, rfl⟩
        go_wp2_with fail
        go_quiet (fail)
        go_wp2_with fail
        refine (C2.out _ (HA.out.drewN _)).mono ?_
        rintro e w3 ⟨rfl, A3, K3⟩
        have hK3 := ((Kp.refl rb w).drewN nq).trans K3
        have d1 := A3.c4
        have f1 := A3.f 4
        go_wp2_with fail
        go_region_with (first | (go_at_call 33; refine (CS3.out _ (by first | exact A3 | exact A3.drew)).mono ?_; rintro e w5 ⟨rfl, rfl⟩) | (go_at_call 50; refine (CV3.out _).mono ?_; rintro e w5 ⟨rfl, rfl⟩))
        all_goals go_wp2_with fail
        all_goals (first | go_end0 | (refine bodyPost_ret (results_none rfl _ _ _) rfl ?_))
        all_goals exact ⟨rfl, by rw [HR.out]; exact (A3.drew).put 4 _ (by decide) rfl rfl rfl rfl rfl (by decide) rfl (by decide), hK3.drew.setCell (Or.inl rfl) _⟩
    · have HT : Hid (s.tv (1, m) = m + s.x2) := by show _ = _; rw [tv_1]; omega
      rw [HT.out, (gd_iff _).1] at hgd
      rw [HT.out] at HR
      obtain ⟨g1, g2⟩ := hgd
      rcases hxx with rfl | rfl | rfl | rfl
      · go_enter Try.func31, Try.ntmps31
        go_wp2_with fail
        refine CS.out.mono ?_
        rintro e w2 ⟨rfl, rfl⟩
        go_wp2_with fail
        refine CT.out.mono ?_
        rintro e w2 ⟨rfl, rfl⟩
        go_wp2_with fail
        go_quiet (fail)
        go_wp2_with fail
        refine (C2.out _ (HA.out.drewN _)).mono ?_
        rintro e w3 ⟨rfl, A3, K3⟩
        have hK3 := ((Kp.refl rb w).drewN nq).trans K3
        have d1 := A3.c1
        have f1 := A3.f 1
        go_wp2_with fail
        go_region_with (first | (go_at_call 33; refine (CS3.out _ (by first | exact A3 | exact A3.drew)).mono ?_; rintro e w5 ⟨rfl, rfl⟩) | (go_at_call 50; refine (CV3.out _).mono ?_; rintro e w5 ⟨rfl, rfl⟩))
        all_goals go_wp2_with fail
        all_goals (first | go_end0 | (refine bodyPost_ret (results_none rfl _ _ _) rfl ?_))
        all_goals exact ⟨rfl, by rw [HR.out]; exact (A3.drew).put 1 _ (by decide) rfl rfl rfl rfl rfl (by decide) rfl (by decide), hK3.drew.setCell (Or.inl rfl) _⟩
      · go_enter Try.func31, Try.ntmps31
        go_wp2_with fail
        refine CS.out.mono ?_
        rintro e w2 ⟨rfl, rfl⟩
        go_wp2_with fail
        refine CT.out.mono ?_
        rintro e w2 ⟨rfl, rfl⟩
        go_wp2_with fail
        go_quiet (fail)
        go_wp2_with fail
        refine (C2.out _ (HA.out.drewN _)).mono ?_
        rintro e w3 ⟨rfl, A3, K3⟩
        have hK3 := ((Kp.refl rb w).drewN nq).trans K3
        have d1 := A3.c2
        have f1 := A3.f 2
        go_wp2_with fail
        go_region_with (first | (go_at_call 33; refine (CS3.out _ (by first | exact A3 | exact A3.drew)).mono ?_; rintro e w5 ⟨rfl, rfl⟩) | (go_at_call 50; refine (CV3.out _).mono ?_; rintro e w5 ⟨rfl, rfl⟩))
        all_goals go_wp2_with fail
        all_goals (first | go_end0 | (refine bodyPost_ret (results_none rfl _ _ _) rfl ?_))
        all_goals exact ⟨rfl, by rw [HR.out]; exact (A3.drew).put 2 _ (by decide) rfl rfl rfl rfl rfl (by decide) rfl (by decide), hK3.drew.setCell (Or.inl rfl) _⟩
      · go_enter Try.func31, Try.ntmps31
        go_wp2_with fail
        refine CS.out.mono ?_
        rintro e w2 ⟨rfl, rfl⟩
        go_wp2_with fail
        refine CT.out.mono ?_
        rintro e w2 ⟨rfl, rfl⟩
        go_wp2_with fail
        go_quiet (fail)
        go_wp2_with fail
        refine (C2.out _ (HA.out.drewN _)).mono ?_
        rintro e w3 ⟨rfl, A3, K3⟩
        have hK3 := ((Kp.refl rb w).drewN nq).trans K3
        have d1 := A3.c3
        have f1 := A3.f 3
        go_wp2_with fail
        go_region_with (first | (go_at_call 33; refine (CS3.out _ (by first | exact A3 | exact A3.drew)).mono ?_; rintro e w5 ⟨rfl, rfl⟩) | (go_at_call 50; refine (CV3.out _).mono ?_; rintro e w5 ⟨rfl, rfl⟩))
        all_goals go_wp2_with fail
        all_goals (first | go_end0 | (refine bodyPost_ret (results_none rfl _ _ _) rfl ?_))
        all_goals exact ⟨rfl, by rw [HR.out]; exact (A3.drew).put 3 _ (by decide) rfl rfl rfl rfl rfl (by decide) rfl (by decide), hK3.drew.setCell (Or.inl rfl) _⟩
      · go_enter Try.func31, Try.ntmps31
        go_wp2_with fail
        refine CS.out.mono ?_
        rintro e w2 ⟨rfl, rfl⟩
        go_wp2_with fail
        refine CT.out.mono ?_
        rintro e w2 ⟨rfl, rfl⟩
        go_wp2_with fail
        go_quiet (fail)
        go_wp2_with fail
        refine (C2.out _ (HA.out.drewN _)).mono ?_
        rintro e w3 ⟨rfl, A3, K3⟩
        have hK3 := ((Kp.refl rb w).drewN nq).trans K3
        have d1 := A3.c4
        have f1 := A3.f 4
        go_wp2_with fail
        go_region_with (first | (go_at_call 33; refine (CS3.out _ (by first | exact A3 | exact A3.drew)).mono ?_; rintro e w5 ⟨rfl, rfl⟩) | (go_at_call 50; refine (CV3.out _).mono ?_; rintro e w5 ⟨rfl, rfl⟩))
        all_goals go_wp2_with fail
        all_goals (first | go_end0 | (refine bodyPost_ret (results_none rfl _ _ _) rfl ?_))
        all_goals exact ⟨rfl, by rw [HR.out]; exact (A3.drew).put 4 _ (by decide) rfl rfl rfl rfl rfl (by decide) rfl (by decide), hK3.drew.setCell (Or.inl rfl) _⟩
    · have HT : Hid (s.tv (2, m) = m + s.x3) := by show _ = _; rw [tv_2]; omega
      rw [HT.out, (gd_iff _).1] at hgd
      rw [HT.out] at HR
      obtain ⟨g1, g2⟩ := hgd
      rcases hxx with rfl | rfl | rfl | rfl
      · go_enter Try.func31, Try.ntmps31
        go_wp2_with fail
        refine CS.out.mono ?_
        rintro e w2 ⟨rfl, rfl⟩
        go_wp2_with fail
        refine CT.out.mono ?_
        rintro e w2 ⟨rfl, rfl⟩
        go_wp2_with fail
        go_quiet (fail)
        go_wp2_with fail
        refine (C2.out _ (HA.out.drewN _)).mono ?_
        rintro e w3 ⟨rfl, A3, K3⟩
        have hK3 := ((Kp.refl rb w).drewN nq).trans K3
        have d1 := A3.c1
        have f1 := A3.f 1
        go_wp2_with fail
        go_region_with (first | (go_at_call 33; refine (CS3.out _ (by first | exact A3 | exact A3.drew)).mono ?_; rintro e w5 ⟨rfl, rfl⟩) | (go_at_call 50; refine (CV3.out _).mono ?_; rintro e w5 ⟨rfl, rfl⟩))
        all_goals go_wp2_with fail
        all_goals (first | go_end0 | (refine bodyPost_ret (results_none rfl _ _ _) rfl ?_))
        all_goals exact ⟨rfl, by rw [HR.out]; exact (A3.drew).put 1 _ (by decide) rfl rfl rfl rfl rfl (by decide) rfl (by decide), hK3.drew.setCell (Or.inl rfl) _⟩
      · go_enter Try.func31, Try.ntmps31
        go_wp2_with fail
        refine CS.out.mono ?_
        rintro e w2 ⟨rfl, rfl⟩
        go_wp2_with fail
        refine CT.out.mono ?_
        rintro e w2 ⟨rfl, rfl⟩
        go_wp2_with fail
        go_quiet (fail)
        go_wp2_with fail
        refine (C2.out _ (HA.out.drewN _)).mono ?_
        rintro e w3 ⟨rfl, A3, K3⟩
        have hK3 := ((Kp.refl rb w).drewN nq).trans K3
        have d1 := A3.c2
        have f1 := A3.f 2
        go_wp2_with fail
        go_region_with (first | (go_at_call 33; refine (CS3.out _ (by first | exact A3 | exact A3.drew)).mono ?_; rintro e w5 ⟨rfl, rfl⟩) | (go_at_call 50; refine (CV3.out _).mono ?_; rintro e w5 ⟨rfl, rfl⟩))
        all_goals go_wp2_with fail
        all_goals (first | go_end0 | (refine bodyPost_ret (results_none rfl _ _ _) rfl ?_))
        all_goals exact ⟨rfl, by rw [HR.out]; exact (A3.drew).put 2 _ (by decide) rfl rfl rfl rfl rfl (by decide) rfl (by decide), hK3.drew.setCell (Or.inl rfl) _⟩
      · go_enter Try.func31, Try.ntmps31
        go_wp2_with fail
        refine CS.out.mono ?_
        rintro e w2 ⟨rfl, rfl⟩
        go_wp2_with fail
        refine CT.out.mono ?_
        rintro e w2 ⟨rfl, rfl⟩
        go_wp2_with fail
        go_quiet (fail)
        go_wp2_with fail
        refine (C2.out _ (HA.out.drewN _)).mono ?_
        rintro e w3 ⟨rfl, A3, K3⟩
        have hK3 := ((Kp.refl rb w).drewN nq).trans K3
        have d1 := A3.c3
        have f1 := A3.f 3
        go_wp2_with fail
        go_region_with (first | (go_at_call 33; refine (CS3.out _ (by first | exact A3 | exact A3.drew)).mono ?_; rintro e w5 ⟨rfl, rfl⟩) | (go_at_call 50; refine (CV3.out _).mono ?_; rintro e w5 ⟨rfl, rfl⟩))
        all_goals go_wp2_with fail
        all_goals (first | go_end0 | (refine bodyPost_ret (results_none rfl _ _ _) rfl ?_))
        all_goals exact ⟨rfl, by rw [HR.out]; exact (A3.drew).put 3 _ (by decide) rfl rfl rfl rfl rfl (by decide) rfl (by decide), hK3.drew.setCell (Or.inl rfl) _⟩
      · go_enter Try.func31, Try.ntmps31
        go_wp2_with fail
        refine CS.out.mono ?_
        rintro e w2 ⟨rfl, rfl⟩
        go_wp2_with fail
        refine CT.out.mono ?_
        rintro e w2 ⟨rfl, rfl⟩
        go_wp2_with fail
        go_quiet (fail)
        go_wp2_with fail
        refine (C2.out _ (HA.out.drewN _)).mono ?_
        rintro e w3 ⟨rfl, A3, K3⟩
        have hK3 := ((Kp.refl rb w).drewN nq).trans K3
        have d1 := A3.c4
        have f1 := A3.f 4
        go_wp2_with fail
        go_region_with (first | (go_at_call 33; refine (CS3.out _ (by first | exact A3 | exact A3.drew)).mono ?_; rintro e w5 ⟨rfl, rfl⟩) | (go_at_call 50; refine (CV3.out _).mono ?_; rintro e w5 ⟨rfl, rfl⟩))
        all_goals go_wp2_with fail
        all_goals (first | go_end0 | (refine bodyPost_ret (results_none rfl _ _ _) rfl ?_))
        all_goals exact ⟨rfl, by rw [HR.out]; exact (A3.drew).put 4 _ (by decide) rfl rfl rfl rfl rfl (by decide) rfl (by decide), hK3.drew.setCell (Or.inl rfl) _⟩
    · have HT : Hid (s.tv (3, m) = m + s.x4) := by show _ = _; rw [tv_3]; omega
      rw [HT.out, (gd_iff _).1] at hgd
      rw [HT.out] at HR
      obtain ⟨g1, g2⟩ := hgd
      rcases hxx with rfl | rfl | rfl | rfl
      · go_enter Try.func31, Try.ntmps31
        go_wp2_with fail
        refine CS.out.mono ?_
        rintro e w2 ⟨rfl, rfl⟩
        go_wp2_with fail
        refine CT.out.mono ?_
        rintro e w2 ⟨rfl, rfl⟩
        go_wp2_with fail
        go_quiet (fail)
        go_wp2_with fail
        refine (C2.out _ (HA.out.drewN _)).mono ?_
        rintro e w3 ⟨rfl, A3, K3⟩
        have hK3 := ((Kp.refl rb w).drewN nq).trans K3
        have d1 := A3.c1
        have f1 := A3.f 1
        go_wp2_with fail
        go_region_with (first | (go_at_call 33; refine (CS3.out _ (by first | exact A3 | exact A3.drew)).mono ?_; rintro e w5 ⟨rfl, rfl⟩) | (go_at_call 50; refine (CV3.out _).mono ?_; rintro e w5 ⟨rfl, rfl⟩))
        all_goals go_wp2_with fail
        all_goals (first | go_end0 | (refine bodyPost_ret (results_none rfl _ _ _) rfl ?_))
        all_goals exact ⟨rfl, by rw [HR.out]; exact (A3.drew).put 1 _ (by decide) rfl rfl rfl rfl rfl (by decide) rfl (by decide), hK3.drew.setCell (Or.inl rfl) _⟩
      · go_enter Try.func31, Try.ntmps31
        go_wp2_with fail
        refine CS.out.mono ?_
        rintro e w2 ⟨rfl, rfl⟩
        go_wp2_with fail
        refine CT.out.mono ?_
        rintro e w2 ⟨rfl, rfl⟩
        go_wp2_with fail
        go_quiet (fail)
        go_wp2_with fail
        refine (C2.out _ (HA.out.drewN _)).mono ?_
        rintro e w3 ⟨rfl, A3, K3⟩
        have hK3 := ((Kp.refl rb w).drewN nq).trans K3
        have d1 := A3.c2
        have f1 := A3.f 2
        go_wp2_with fail
        go_region_with (first | (go_at_call 33; refine (CS3.out _ (by first | exact A3 | exact A3.drew)).mono ?_; rintro e w5 ⟨rfl, rfl⟩) | (go_at_call 50; refine (CV3.out _).mono ?_; rintro e w5 ⟨rfl, rfl⟩))
        all_goals go_wp2_with fail
        all_goals (first | go_end0 | (refine bodyPost_ret (results_none rfl _ _ _) rfl ?_))
        all_goals exact ⟨rfl, by rw [HR.out]; exact (A3.drew).put 2 _ (by decide) rfl rfl rfl rfl rfl (by decide) rfl (by decide), hK3.drew.setCell (Or.inl rfl) _⟩
      · go_enter Try.func31, Try.ntmps31
        go_wp2_with fail
        refine CS.out.mono ?_
        rintro e w2 ⟨rfl, rfl⟩
        go_wp2_with fail
        refine CT.out.mono ?_
        rintro e w2 ⟨rfl, rfl⟩
        go_wp2_with fail
        go_quiet (fail)
        go_wp2_with fail
        refine (C2.out _ (HA.out.drewN _)).mono ?_
        rintro e w3 ⟨rfl, A3, K3⟩
        have hK3 := ((Kp.refl rb w).drewN nq).trans K3
        have d1 := A3.c3
        have f1 := A3.f 3
        go_wp2_with fail
        go_region_with (first | (go_at_call 33; refine (CS3.out _ (by first | exact A3 | exact A3.drew)).mono ?_; rintro e w5 ⟨rfl, rfl⟩) | (go_at_call 50; refine (CV3.out _).mono ?_; rintro e w5 ⟨rfl, rfl⟩))
        all_goals go_wp2_with fail
        all_goals (first | go_end0 | (refine bodyPost_ret (results_none rfl _ _ _) rfl ?_))
        all_goals exact ⟨rfl, by rw [HR.out]; exact (A3.drew).put 3 _ (by decide) rfl rfl rfl rfl rfl (by decide) rfl (by decide), hK3.drew.setCell (Or.inl rfl) _⟩
      · go_enter Try.func31, Try.ntmps31
        go_wp2_with fail
        refine CS.out.mono ?_
        rintro e w2 ⟨rfl, rfl⟩
        go_wp2_with fail
        refine CT.out.mono ?_
        rintro e w2 ⟨rfl, rfl⟩
        go_wp2_with fail
        go_quiet (fail)
        go_wp2_with fail
        refine (C2.out _ (HA.out.drewN _)).mono ?_
        rintro e w3 ⟨rfl, A3, K3⟩
        have hK3 := ((Kp.refl rb w).drewN nq).trans K3
        have d1 := A3.c4
        have f1 := A3.f 4
        go_wp2_with fail
        go_region_with (first | (go_at_call 33; refine (CS3.out _ (by first | exact A3 | exact A3.drew)).mono ?_; rintro e w5 ⟨rfl, rfl⟩) | (go_at_call 50; refine (CV3.out _).mono ?_; rintro e w5 ⟨rfl, rfl⟩))
        all_goals go_wp2_with fail
        all_goals (first | go_end0 | (refine bodyPost_ret (results_none rfl _ _ _) rfl ?_))
        all_goals exact ⟨rfl, by rw [HR.out]; exact (A3.drew).put 4 _ (by decide) rfl rfl rfl rfl rfl (by decide) rfl (by decide), hK3.drew.setCell (Or.inl rfl) _⟩

theorem run_command (toks : List (List UInt8 × Nat)) (rb cb : Nat) (fuel : Int) (n : Nat) (hf : fuel ≤ 10000) (hl : ∀ j, (sAt toks j).length ≤ 300) (IH : ∀ m, m < n → AllR toks rb cb fuel m) : ComR toks rb cb fuel n := by
  intro k k' c w s hr hn hk ha hi he
  have l0 := hr.le
  cases hr with
  | skip h1 => exact com_skip toks rb cb fuel k w s hf (by omega) h1 ha hi
  | asg h1 => exact com_asg toks rb cb fuel k w s hf hl (by omega) h1 ha hi
  | ite h1 h2 h3 h4 => exact com_if toks rb cb fuel (n - 1) k _ _ _ _ _ _ w s hf hl (IH (n - 1) (by omega)) (by omega) (by omega) h1 h2 h3 h4 ha hi he
  | loop h1 h2 h3 h4 => exact com_while toks rb cb fuel (n - 1) k _ _ _ _ _ _ w s hf hl (IH (n - 1) (by omega)) (by omega) (by omega) h1 h2 h3 h4 ha hi he
theorem runs (toks : List (List UInt8 × Nat)) (rb cb : Nat) (fuel : Int) (hf : fuel ≤ 10000) (hl : ∀ j, (sAt toks j).length ≤ 300) (n : Nat) : AllR toks rb cb fuel n := by
  induction n using Nat.strongRecOn with
  | ind n ih => exact run_all toks rb cb fuel n hl (run_command toks rb cb fuel n hf hl ih)
end Go.Proofs.Ytmpbgbdhpahpjaa.Vl
