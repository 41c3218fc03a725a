/-
  Plain: what Prove's answers mean.
-/
import Derived.Test.YtkinoehmcfhgbaaGreatDoorH22
import Derived.Test.YtkinoehmcfhgbaaGreatDoorV15
set_option linter.unusedVariables false
set_option linter.unusedSimpArgs false
namespace Go.Proofs.YtkinoehmcfhgbaaGreatDoor.Vl
open Go.RowKit

theorem trun_cong {f g : Atm → Int} : ∀ ys : List Sym, (∀ y ∈ ys, y.1 = 6 → f y.2 = g y.2) → trun f ys = trun g ys
  | [], _ => rfl
  | y :: r, h => by
    rw [trun_cons, trun_cons, trun_cong r (fun z hz => h z (List.mem_cons_of_mem _ hz))]
    unfold tst
    congr 1
    unfold tval
    repeat' split
    all_goals first | rfl | (rename_i h6; exact h y List.mem_cons_self h6)
theorem hld_tat {x1 x2 x3 x4 : Int} {a : Atm} (ha : okA a) : tof (hld x1 x2 x3 x4 a) = tat (bsx (x1, x2, x3, x4)) a := by
  obtain ⟨o1, o2, o3, o4, _, _⟩ := ha
  have e : ∀ i : Int, 0 ≤ i → i ≤ 4 → xv x1 x2 x3 x4 i = bsx (x1, x2, x3, x4) i := fun i h0 h4 => by
    have : i = 0 ∨ i = 1 ∨ i = 2 ∨ i = 3 ∨ i = 4 := by omega
    rcases this with rfl | rfl | rfl | rfl | rfl <;> rfl
  unfold hld tat
  rw [e _ o1 o2, e _ o3 o4]
/-- The value at a state, by the truths of the atoms there. -/
theorem val_tat {s : ByteArray} {ys : List Sym} (hp : pars s = some ys) (x1 x2 x3 x4 : Int) : val x1 x2 x3 x4 ys = ((trun (tat (bsx (x1, x2, x3, x4))) ys).headD 0 == 1) := by
  obtain ⟨t, _, h2, h3⟩ := val_trun x1 x2 x3 x4 hp
  have hok := (pars_facts hp).2.2.2
  have e := trun_cong (f := fun a => tof (hld x1 x2 x3 x4 a)) (g := tat (bsx (x1, x2, x3, x4))) ys (fun y hy h6 => hld_tat (hok _ (pars_in y hy h6)))
  rw [h3, ← e, h2]
  rfl
/-- What is confirmed holds at every state. -/
theorem cfm_val {s : ByteArray} {ys : List Sym} (hp : pars s = some ys) {P : List UInt8} (h : cfm ys P = true) (x1 x2 x3 x4 : Int) : val x1 x2 x3 x4 ys = true := by
  unfold cfm at h
  rw [Bool.and_eq_true] at h
  have hc := of_decide_eq_true h.2
  rw [val_tat hp, chk_sound (x := bsx (x1, x2, x3, x4)) _ _ _ _ (fun a => Or.inl rfl) hc]
  rfl
theorem ncn_zero : ∀ i, ncn (fun _ => 0) i = i
  | 0 => rfl
  | i + 1 => by rw [ncn_succ, ncn_zero i]; rfl
/-- What Prove's answers mean. -/
theorem prA_cases {s : ByteArray} {ys : List Sym} (hp : pars s = some ys) (bu : Nat) :
    ((prA ys bu).1 = 1 ∧ (prA ys bu).2.2 = [] ∧ val (prA ys bu).2.1.1 (prA ys bu).2.1.2.1 (prA ys bu).2.1.2.2.1 (prA ys bu).2.1.2.2.2 ys = false ∧ gds (prA ys bu).2.1.1 (prA ys bu).2.1.2.1 (prA ys bu).2.1.2.2.1 (prA ys bu).2.1.2.2.2 = true) ∨
    ((prA ys bu).1 = 0 ∧ (prA ys bu).2.1 = (0, 0, 0, 0) ∧ ∃ pf, (prA ys bu).2.2 = [pf] ∧ cfm ys pf = true) ∨ ((prA ys bu).1 = 2 ∧ (prA ys bu).2.1 = (0, 0, 0, 0) ∧ (prA ys bu).2.2 = []) := by
  unfold prA
  by_cases h1 : (prE ys bu).v = 1
  · rw [if_pos h1]
    refine Or.inl ⟨rfl, rfl, ?_, ?_⟩
    · have h := (sch_state (PC.pars hp) pars_in bu bu (fun _ => 0) bno (SI.start _) h1).1
      dsimp only
      rw [val_tat hp]
      have e : (prE ys bu).md = ((prE ys bu).md.1, (prE ys bu).md.2.1, (prE ys bu).md.2.2.1, (prE ys bu).md.2.2.2) := rfl
      rw [← e]
      unfold prE
      rw [h]
      rfl
    · obtain ⟨A', b', hSI, hmd⟩ := (sch_state (PC.pars hp) pars_in bu bu (fun _ => 0) bno (SI.start _) h1).2
      have hb := bmd_big (PC.pars hp).ok hSI
      have hmd' : (prE ys bu).md = bmd b' := hmd
      dsimp only
      rw [hmd']
      unfold gds gd
      obtain ⟨⟨a1, a2⟩, ⟨a3, a4⟩, ⟨a5, a6⟩, a7, a8⟩ := hb
      simp
      omega
  · rw [if_neg h1]
    by_cases h2 : (prE ys bu).v = 0 ∧ cfm ys (prE ys bu).pf = true
    · rw [if_pos h2]
      exact Or.inr (Or.inl ⟨rfl, rfl, _, rfl, h2.2⟩)
    · rw [if_neg h2]
      exact Or.inr (Or.inr ⟨rfl, rfl, rfl⟩)
/-- With few atoms, and all steps, it is proved or refuted. -/
theorem prA_few {s : ByteArray} {ys : List Sym} (hp : pars s = some ys) (hf : (uqs ys).length ≤ 12) : (prA ys 20000).1 ≠ 2 := by
  have hn := ncn_zero (uqs ys).length
  have hpow : 2 ^ ((uqs ys).length + 1) ≤ 2 ^ 13 := Nat.pow_le_pow_right (by decide) (by omega)
  have hpow2 : 2 ^ (uqs ys).length ≤ 2 ^ 12 := Nat.pow_le_pow_right (by decide) hf
  have h := sch_few (PC.pars hp) (by omega) 20000 20000 (fun _ => 0) bno (SI.start _) (by rw [hn]; omega) (by rw [hn]; omega)
  rw [hn] at h
  have hv : (prE ys 20000).v ≠ 2 := h.1
  have hl : (prE ys 20000).v = 0 → (prE ys 20000).pf.length + 7 ≤ 28 * 2 ^ (uqs ys).length := h.2.2
  have h3 : (prE ys 20000).v = 0 ∨ (prE ys 20000).v = 1 ∨ (prE ys 20000).v = 2 := by
    have key : ∀ (k s' : Nat) (A : Nat → Int) (b : Bd), (sch (uqs ys) (gad (uqs ys) ys.length ys 2 0).1 k s' A b).1.v = 0 ∨ (sch (uqs ys) (gad (uqs ys) ys.length ys 2 0).1 k s' A b).1.v = 1 ∨ (sch (uqs ys) (gad (uqs ys) ys.length ys 2 0).1 k s' A b).1.v = 2 := by
      intro k
      induction k with
      | zero => intro s' A b; exact Or.inr (Or.inr rfl)
      | succ k ih =>
        intro s' A b
        cases s' with
        | zero => exact Or.inr (Or.inr rfl)
        | succ s' =>
          have hst := srch_step (us := uqs ys) (g := (gad (uqs ys) ys.length ys 2 0).1) (fin := finF (uqs ys) (gad (uqs ys) ys.length ys 2 0).1) (two := twoF) k s' A b
          change sch (uqs ys) (gad (uqs ys) ys.length ys 2 0).1 (k + 1) (s' + 1) A b = _ at hst
          rw [hst]
          split
          · exact Or.inr (Or.inl rfl)
          · split
            · exact Or.inl rfl
            · dsimp only
              split
              · exact ih _ _ _
              · split
                · exact ih _ _ _
                · exact Or.inl rfl
    exact key _ _ _ _
  unfold prA
  by_cases h1 : (prE ys 20000).v = 1
  · rw [if_pos h1]; show (1 : Int) ≠ 2; decide
  · rw [if_neg h1]
    have h0 : (prE ys 20000).v = 0 := by
      rcases h3 with h | h | h
      · exact h
      · exact absurd h h1
      · exact absurd h hv
    have hlen := hl h0
    have hle : (prE ys 20000).pf.length ≤ 200000 := by omega
    have hc : cfm ys (prE ys 20000).pf = true := by
      unfold cfm
      rw [Bool.and_eq_true]
      refine ⟨decide_eq_true hle, decide_eq_true ?_⟩
      have := sch_chk (PC.pars hp) 20000 20000 (fun _ => 0) bno (SI.start _) h0 hle (fun _ => 0) ((prE ys 20000).pf.length + 1) [] (fun _ => Or.inl rfl) (by show ((prE ys 20000).pf ++ []).length < _; rw [List.append_nil]; omega) (fun j _ _ => rfl) (fun j _ hj => absurd rfl hj)
      change chk (uqs ys) ys ((prE ys 20000).pf.length + 1) (fun _ => 0) ((prE ys 20000).pf ++ []) = some [] at this
      rw [List.append_nil] at this
      exact this
    rw [if_pos ⟨h0, hc⟩]
    show (0 : Int) ≠ 2
    decide
/-- A condition with few atoms that holds everywhere is proved. -/
theorem prA_holds {s : ByteArray} {ys : List Sym} (hp : pars s = some ys) (hf : (uqs ys).length ≤ 12) (hv : ∀ x1 x2 x3 x4, val x1 x2 x3 x4 ys = true) : (prA ys 20000).1 = 0 ∧ (prA ys 20000).2.1 = (0, 0, 0, 0) ∧ ∃ pf, (prA ys 20000).2.2 = [pf] ∧ cfm ys pf = true := by
  rcases prA_cases hp 20000 with ⟨_, _, h, _⟩ | h | ⟨h, _⟩
  · rw [hv] at h; cases h
  · exact h
  · exact absurd h (prA_few hp hf)
end Go.Proofs.YtkinoehmcfhgbaaGreatDoor.Vl
