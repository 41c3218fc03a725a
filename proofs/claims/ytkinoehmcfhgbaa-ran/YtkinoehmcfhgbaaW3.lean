/-
  The walks of the document's atom and compared.
  The walks of the document's factor, part, formula.
  The walks of the document's skip, all, parts.
  The walks of the document's runs: step, asks.
  The walks of the document's runs: command, all.
-/
import Derived.Test.YtkinoehmcfhgbaaM5
import Derived.Test.YtkinoehmcfhgbaaF2
import Derived.Test.YtkinoehmcfhgbaaPar0
set_option linter.unusedVariables false
set_option linter.unusedSimpArgs false
namespace Go.Proofs.Ytkinoehmcfhgbaa.Vl
open Go.RowKit
open Go.Proofs.Ytkinoehmcfhgbaa.Av (vr rvariable_any Fm Rd Tg sAt trm trm_range rel rel_range vr_range)

theorem lt_inj {a b : Int} (a0 : 0 ≤ a) (a4 : a ≤ 4) (b0 : 0 ≤ b) (b4 : b ≤ 4) (h : a ≠ b) : (lt a == lt b) = false := by
  have h1 := lt_plu a0 a4
  have h2 := lt_plu b0 b4
  rw [beq_eq_false_iff_ne]
  intro e
  rw [e, h2] at h1; exact h h1.symm
set_option maxRecDepth 100000 in
set_option maxHeartbeats 1000000 in
theorem atom_any (a b n : Int) (w : World) (a0 : 0 ≤ a) (a4 : a ≤ 4) (b0 : 0 ≤ b) (b4 : b ≤ 4) (h0 : -999999 ≤ n) (h1 : n ≤ 999999) :
    Calls Try.prog 85 #[strV [lt a], strV [lt b], .int .i64 n] w fun e w' => e = .returned (strV (sb (aty a b n))) ∧ Below w.heap.size w w' := by
  by_cases hab : a = b
  · subst hab
    by_cases hn : 0 ≤ n
    · have HS : Hid (sb (aty a a n) = [116]) := by show _ = _; unfold aty; rw [if_pos rfl, if_pos hn]; rfl
      generalize sb (aty a a n) = R at *
      generalize lt a = L at *
      unfold strV
      go_enter Try.func85, Try.ntmps85
      go_wp2
      go_ret
      exact ⟨by rw [HS.out]; rfl, Below.refl _ _⟩
    · have HS : Hid (sb (aty a a n) = [102]) := by show _ = _; unfold aty; rw [if_pos rfl, if_neg hn]; rfl
      generalize sb (aty a a n) = R at *
      generalize lt a = L at *
      unfold strV
      go_enter Try.func85, Try.ntmps85
      go_wp2
      go_ret
      exact ⟨by rw [HS.out]; rfl, Below.refl _ _⟩
  · have hx := lt_inj a0 a4 b0 b4 hab
    have HS : Hid (sb (aty a b n) = lt a :: 45 :: lt b :: 60 :: 61 :: (Lib.itoa n ++ [46])) := by show _ = _; unfold aty; rw [if_neg hab]; rfl
    have hil := itoa_len7 h0 h1
    have C : Hid (∀ w, Calls Try.prog 91 #[.int .i64 n] w fun e w' => e = .returned (strV (Lib.itoa n)) ∧ Below w.heap.size w w') := fun w => decimal_any n w h0 h1
    clear hab a0 a4 b0 b4
    generalize sb (aty a b n) = R at *
    generalize Lib.itoa n = D at *
    generalize lt a = L at *
    generalize lt b = M at *
    unfold strV
    go_enter Try.func85, Try.ntmps85
    go_wp2_with fail
    refine (C.out _).mono ?_
    unfold strV
    rintro e w1 ⟨rfl, hb⟩
    go_wp2
    go_ret
    refine ⟨?_, hb⟩
    rw [HS.out]
    have e1 : (⟨#[L]⟩ : ByteArray) ++ ⟨#[45]⟩ = ⟨[L, 45].toArray⟩ := str_app [L] [45]
    have e2 : (⟨[L, 45].toArray⟩ : ByteArray) ++ ⟨#[M]⟩ = ⟨[L, 45, M].toArray⟩ := str_app [L, 45] [M]
    have e3 : (⟨[L, 45, M].toArray⟩ : ByteArray) ++ ⟨#[60, 61]⟩ = ⟨[L, 45, M, 60, 61].toArray⟩ := str_app [L, 45, M] [60, 61]
    have e4 : (⟨[L, 45, M, 60, 61].toArray⟩ : ByteArray) ++ ⟨D.toArray⟩ = ⟨([L, 45, M, 60, 61] ++ D).toArray⟩ := str_app [L, 45, M, 60, 61] D
    have e5 : (⟨([L, 45, M, 60, 61] ++ D).toArray⟩ : ByteArray) ++ ⟨#[46]⟩ = ⟨(([L, 45, M, 60, 61] ++ D) ++ [46]).toArray⟩ := str_app ([L, 45, M, 60, 61] ++ D) [46]
    show Ending.returned (.string ((((⟨#[L]⟩ ++ ⟨#[45]⟩ ++ ⟨#[M]⟩) ++ ⟨#[60, 61]⟩) ++ ⟨D.toArray⟩) ++ ⟨#[46]⟩)) = _
    rw [e1, e2, e3, e4, e5]
    simp

theorem rel_lt {l : List UInt8} (h : (l == [60]) = true) : rel l = 0 := by unfold rel; rw [if_pos h]
theorem rel_le {l : List UInt8} (h : (l == [60]) = false) (h1 : (l == [60, 61]) = true) : rel l = 1 := by unfold rel; rw [h, if_neg (by decide), if_pos h1]
theorem rel_gt {l : List UInt8} (h : (l == [60]) = false) (h1 : (l == [60, 61]) = false) (h2 : (l == [62]) = true) : rel l = 3 := by unfold rel; rw [h, if_neg (by decide), h1, if_neg (by decide), if_pos h2]
theorem rel_ge {l : List UInt8} (h : (l == [60]) = false) (h1 : (l == [60, 61]) = false) (h2 : (l == [62]) = false) (h3 : (l == [62, 61]) = true) : rel l = 4 := by unfold rel; rw [h, if_neg (by decide), h1, if_neg (by decide), h2, if_neg (by decide), if_pos h3]
theorem rel_eq {l : List UInt8} (h : (l == [60]) = false) (h1 : (l == [60, 61]) = false) (h2 : (l == [62]) = false) (h3 : (l == [62, 61]) = false) : rel l = 2 := by unfold rel; rw [h, if_neg (by decide), h1, if_neg (by decide), h2, if_neg (by decide), h3, if_neg (by decide)]

set_option maxRecDepth 100000 in
set_option maxHeartbeats 2000000 in
theorem code_compared (toks : List (List UInt8 × Nat)) (cb k : Nat) (w : World) (h : CodeAt w cb toks) (hk : k ≤ 600) (hl : ∀ j, (sAt toks j).length ≤ 300) :
    Calls Try.prog 71 #[.pointer (some ⟨cb, 0, none⟩), .int .i64 (k : Int)] w fun e w' => e = .returned (.tuple #[strV (sbs (cms (rel (sAt toks (trm toks k).2.2)) ((trm toks k).1, (trm toks k).2.1) ((trm toks ((trm toks k).2.2 + 1)).1, (trm toks ((trm toks k).2.2 + 1)).2.1))), .int .i64 ((trm toks ((trm toks k).2.2 + 1)).2.2 : Int)]) ∧ Below w.heap.size w w' := by
  have r1 := trm_range toks k
  have r2 := trm_range toks ((trm toks k).2.2 + 1)
  have T1 : Hid (Calls Try.prog 49 #[.pointer (some ⟨cb, 0, none⟩), .int .i64 (k : Int)] w fun e w' => e = .returned (.tuple #[.int .i64 (trm toks k).1, .int .i64 (trm toks k).2.1, .int .i64 ((trm toks k).2.2 : Int)]) ∧ w = w') := code_term toks cb k w h (by omega) hl
  have T2 : Hid (Calls Try.prog 49 #[.pointer (some ⟨cb, 0, none⟩), .int .i64 (((trm toks k).2.2 : Int) + 1)] w fun e w' => e = .returned (.tuple #[.int .i64 (trm toks ((trm toks k).2.2 + 1)).1, .int .i64 (trm toks ((trm toks k).2.2 + 1)).2.1, .int .i64 ((trm toks ((trm toks k).2.2 + 1)).2.2 : Int)]) ∧ w = w') := code_term toks cb ((trm toks k).2.2 + 1) w h (by omega) hl
  have CS : Hid (Calls Try.prog 33 #[.pointer (some ⟨cb, 0, none⟩), .int .i64 ((trm toks k).2.2 : Int)] w fun e w' => e = .returned (.string ⟨(sAt toks (trm toks k).2.2).toArray⟩) ∧ w = w') := code_s toks cb _ w h (by omega)
  have CL : Hid (∀ v, -1 ≤ v → v ≤ 3 → Calls Try.prog 84 #[.int .i64 v] w fun e w' => e = .returned (.string ⟨[lt (v + 1)].toArray⟩) ∧ w = w') := fun v h0 h1 => letter_any v w h0 h1
  have CA : Hid (∀ (a b n : Int) (w : World), 0 ≤ a → a ≤ 4 → 0 ≤ b → b ≤ 4 → -9999 ≤ n → n ≤ 9999 → Calls Try.prog 85 #[.string ⟨[lt a].toArray⟩, .string ⟨[lt b].toArray⟩, .int .i64 n] w fun e w' => e = .returned (.string ⟨(sb (aty a b n)).toArray⟩) ∧ Below w.heap.size w w') := fun a b n w a0 a4 b0 b4 h0 h1 => atom_any a b n w a0 a4 b0 b4 (by omega) (by omega)
  clear h hl
  generalize trm toks ((trm toks k).2.2 + 1) = R2 at *
  generalize trm toks k = R1 at *
  obtain ⟨u, m, p⟩ := R1
  obtain ⟨v, n, q⟩ := R2
  dsimp only at *
  generalize sAt toks p = S at *
  have CU := CL.out u (by omega) (by omega)
  have CV := CL.out v (by omega) (by omega)
  unfold strV
  generalize hRR : sbs (cms (rel S) (u, m) (v, n)) = RR
  have HQ : Hid (RR = sbs (cms (rel S) (u, m) (v, n))) := hRR.symm
  clear hRR
  go_enter Try.func71, Try.ntmps71
  go_wp2_with fail
  refine T1.out.mono ?_
  rintro e w1 ⟨rfl, rfl⟩
  go_wp2_with fail
  refine CS.out.mono ?_
  rintro e w1 ⟨rfl, rfl⟩
  go_wp2_with fail
  refine T2.out.mono ?_
  rintro e w1 ⟨rfl, rfl⟩
  go_wp2_with fail
  refine CU.mono ?_
  rintro e w1 ⟨rfl, rfl⟩
  go_wp2_with fail
  refine CV.mono ?_
  rintro e w1 ⟨rfl, rfl⟩
  cases h1 : (S == [60])
  · cases h2 : (S == [60, 61])
    · cases h3 : (S == [62])
      · cases h4 : (S == [62, 61])
        · have HR : Hid (RR = ([38] ++ sb (aty (u + 1) (v + 1) (n - m))) ++ sb (aty (v + 1) (u + 1) (m - n))) := by
            show _ = _
            rw [HQ.out, rel_eq h1 h2 h3 h4]
            have e : cms 2 (u, m) (v, n) = [(3, 0, 0, 0), aty (u + 1) (v + 1) (n - m), aty (v + 1) (u + 1) (m - n)] := rfl
            rw [e, sbs_cons, sbs_cons, sbs_cons]
            have e2 : sbs [] = [] := rfl
            have e3 : sb (3, 0, 0, 0) = [38] := rfl
            rw [e2, e3]
            simp
          have hl1 := aty_len (u := u + 1) (v := v + 1) (n := n - m) (by omega) (by omega)
          have hl2 := aty_len (u := v + 1) (v := u + 1) (n := m - n) (by omega) (by omega)
          have CX := fun w => CA.out (u + 1) (v + 1) (n - m) w (by omega) (by omega) (by omega) (by omega) (by omega) (by omega)
          have CY := fun w => CA.out (v + 1) (u + 1) (m - n) w (by omega) (by omega) (by omega) (by omega) (by omega) (by omega)
          generalize sb (aty (u + 1) (v + 1) (n - m)) = X1 at *
          generalize sb (aty (v + 1) (u + 1) (m - n)) = X2 at *
          go_wp2_with fail
          refine (CX _).mono ?_
          rintro e w1 ⟨rfl, hb1⟩
          go_wp2_with fail
          refine (CY _).mono ?_
          rintro e w2 ⟨rfl, hb2⟩
          go_wp2
          go_ret2
          refine ⟨?_, hb1.trans (hb2.mono hb1.size)⟩
          rw [HR.out]
          have e1 : (⟨#[38]⟩ : ByteArray) ++ ⟨X1.toArray⟩ = ⟨([38] ++ X1).toArray⟩ := str_app [38] X1
          have e2 : (⟨([38] ++ X1).toArray⟩ : ByteArray) ++ ⟨X2.toArray⟩ = ⟨(([38] ++ X1) ++ X2).toArray⟩ := str_app ([38] ++ X1) X2
          show Ending.returned (.tuple #[.string ((⟨#[38]⟩ ++ ⟨X1.toArray⟩) ++ ⟨X2.toArray⟩), _]) = _
          rw [e1, e2]; rfl
        · have HR : Hid (RR = sb (aty (v + 1) (u + 1) (m - n))) := by show _ = _; rw [HQ.out, rel_ge h1 h2 h3 h4]; exact List.append_nil _
          have CX := CA.out (v + 1) (u + 1) (m - n) w (by omega) (by omega) (by omega) (by omega) (by omega) (by omega)
          generalize sb (aty (v + 1) (u + 1) (m - n)) = X1 at *
          go_wp2_with fail
          refine CX.mono ?_
          rintro e w1 ⟨rfl, hb1⟩
          go_wp2_with fail
          go_ret2
          exact ⟨by rw [HR.out]; rfl, hb1⟩
      · have HR : Hid (RR = sb (aty (v + 1) (u + 1) (m - n - 1))) := by show _ = _; rw [HQ.out, rel_gt h1 h2 h3]; exact List.append_nil _
        have CX := CA.out (v + 1) (u + 1) (m - n - 1) w (by omega) (by omega) (by omega) (by omega) (by omega) (by omega)
        generalize sb (aty (v + 1) (u + 1) (m - n - 1)) = X1 at *
        go_wp2_with fail
        refine CX.mono ?_
        rintro e w1 ⟨rfl, hb1⟩
        go_wp2_with fail
        go_ret2
        exact ⟨by rw [HR.out]; rfl, hb1⟩
    · have HR : Hid (RR = sb (aty (u + 1) (v + 1) (n - m))) := by show _ = _; rw [HQ.out, rel_le h1 h2]; exact List.append_nil _
      have CX := CA.out (u + 1) (v + 1) (n - m) w (by omega) (by omega) (by omega) (by omega) (by omega) (by omega)
      generalize sb (aty (u + 1) (v + 1) (n - m)) = X1 at *
      go_wp2_with fail
      refine CX.mono ?_
      rintro e w1 ⟨rfl, hb1⟩
      go_wp2_with fail
      go_ret2
      exact ⟨by rw [HR.out]; rfl, hb1⟩
  · have HR : Hid (RR = sb (aty (u + 1) (v + 1) (n - m - 1))) := by show _ = _; rw [HQ.out, rel_lt h1]; exact List.append_nil _
    have CX := CA.out (u + 1) (v + 1) (n - m - 1) w (by omega) (by omega) (by omega) (by omega) (by omega) (by omega)
    generalize sb (aty (u + 1) (v + 1) (n - m - 1)) = X1 at *
    go_wp2_with fail
    refine CX.mono ?_
    rintro e w1 ⟨rfl, hb1⟩
    go_wp2_with fail
    go_ret2
    exact ⟨by rw [HR.out]; rfl, hb1⟩
end Go.Proofs.Ytkinoehmcfhgbaa.Vl
set_option linter.unusedVariables false
set_option linter.unusedSimpArgs false
namespace Go.Proofs.Ytkinoehmcfhgbaa.Vl
open Go.RowKit
open Go.Proofs.Ytkinoehmcfhgbaa.Av (vr rvariable_any Fm Rd Tg sAt trm trm_range rel rel_range vr_range)

def FacD (toks : List (List UInt8 × Nat)) (cb n : Nat) : Prop := ∀ (k k' : Nat) (f : Fm) (w : World), Rd toks .fac k f k' → k' ≤ k + n → k' ≤ 300 → CodeAt w cb toks → Calls Try.prog 51 #[.pointer (some ⟨cb, 0, none⟩), .int .i64 (k : Int)] w fun e w' => e = .returned (.tuple #[.string (ftx f), .int .i64 (k' : Int)]) ∧ Below w.heap.size w w'
def PartD (toks : List (List UInt8 × Nat)) (cb n : Nat) : Prop := ∀ (k k' : Nat) (f : Fm) (w : World), Rd toks .part k f k' → k' ≤ k + n → k' ≤ 300 → CodeAt w cb toks → Calls Try.prog 34 #[.pointer (some ⟨cb, 0, none⟩), .int .i64 (k : Int)] w fun e w' => e = .returned (.tuple #[.string (ftx f), .int .i64 (k' : Int)]) ∧ Below w.heap.size w w'
def ForD (toks : List (List UInt8 × Nat)) (cb n : Nat) : Prop := ∀ (k k' : Nat) (f : Fm) (w : World), Rd toks .form k f k' → k' ≤ k + n → k' ≤ 300 → CodeAt w cb toks → Calls Try.prog 20 #[.pointer (some ⟨cb, 0, none⟩), .int .i64 (k : Int)] w fun e w' => e = .returned (.tuple #[.string (ftx f), .int .i64 (k' : Int)]) ∧ Below w.heap.size w w'

set_option maxRecDepth 100000 in
set_option maxHeartbeats 1000000 in
theorem code_part (toks : List (List UInt8 × Nat)) (cb n : Nat) (HF : FacD toks cb n) : PartD toks cb n := by
  intro k k' h w hr hn hk hc
  obtain ⟨k1, f, hfac, hL⟩ : ∃ k1 f, Rd toks .fac k f k1 ∧ Rd toks (.partL f) k1 h k' := by cases hr; exact ⟨_, _, ‹_›, ‹_›⟩
  have l1 := hfac.le.2 (by simp)
  have l2 := hL.le.1
  have HH : Hid (Rd toks (.partL f) k1 h k') := hL
  have C1 : Hid (Calls Try.prog 51 #[.pointer (some ⟨cb, 0, none⟩), .int .i64 (k : Int)] w fun e w' => e = .returned (.tuple #[.string (ftx f), .int .i64 (k1 : Int)]) ∧ Below w.heap.size w w') := HF k k1 f w hfac (by omega) (by omega) hc
  have CS : Hid (∀ (j : Nat) (w : World), j ≤ 300 → CodeAt w cb toks → Calls Try.prog 33 #[.pointer (some ⟨cb, 0, none⟩), .int .i64 (j : Int)] w fun e w' => e = .returned (.string ⟨(sAt toks j).toArray⟩) ∧ w = w') := fun j w hj hc => code_s toks cb j w hc (by omega)
  have hlf := rd_len hfac
  have HLf : Hid ((sbs (fsy f)).length ≤ 8 * k1) := by show _ ≤ _; simp only [tgL] at hlf; omega
  clear hr hfac hL hlf
  go_enter Try.func34, Try.ntmps34
  go_wp2_with fail
  refine C1.out.mono ?_
  rintro e w1 ⟨rfl, hb1⟩
  have hc1 := hc.below hb1
  go_wp2_with fail
  go_loopw [1, 6, 7, 8] (fun at_ fv _ _ wr => ∃ (p : Nat) (F : Fm), at_ = .int .i64 (p : Int) ∧ fv = .string (ftx F) ∧ k1 ≤ p ∧ p ≤ k' ∧ Hid (Rd toks (.partL F) p h k') ∧ Hid ((sbs (fsy F)).length ≤ 8 * p) ∧ CodeAt wr cb toks ∧ Below w.heap.size w wr) (fun at_ _ _ _ _ => k' - (intOf at_).toNat)
  case atStart => exact ⟨k1, f, rfl, rfl, Nat.le_refl _, l2, HH, HLf, hc1, hb1⟩
  case round =>
    obtain ⟨p, F, rfl, rfl, hp1, hp2, HR, HL, hcr, hbr⟩ := hrel
    have CS' : Hid (Calls Try.prog 33 #[.pointer (some ⟨cb, 0, none⟩), .int .i64 (p : Int)] wr fun e w' => e = .returned (.string ⟨(sAt toks p).toArray⟩) ∧ wr = w') := CS.out p wr (by omega) hcr
    have hcase : (p = k' ∧ F = h ∧ sAt toks p ≠ [97, 110, 100]) ∨ ∃ G q, sAt toks p = [97, 110, 100] ∧ Rd toks .fac (p + 1) G q ∧ Rd toks (.partL (.and F G)) q h k' := by
      have := HR.out
      cases this with
      | partS a b c => exact Or.inr ⟨_, _, a, b, c⟩
      | partE a => exact Or.inl ⟨rfl, rfl, a⟩
    rcases hcase with ⟨rfl, rfl, hne⟩ | ⟨G, q, heq, hin, hrest⟩
    · have hb : (sAt toks p == [97, 110, 100]) = false := by rw [beq_eq_false_iff_ne]; exact hne
      clear hne
      generalize sAt toks p = S at *
      go_wp2_with fail
      refine CS'.out.mono ?_
      rintro e w2 ⟨rfl, rfl⟩
      go_wp2_with fail
      go_ret2
      exact ⟨rfl, hbr⟩
    · have l3 := hin.le.2 (by simp)
      have l4 := hrest.le.1
      have hlg := rd_len hin
      have HR2 : Hid _ := hrest
      have C2 : Hid (Calls Try.prog 51 #[.pointer (some ⟨cb, 0, none⟩), .int .i64 ((p : Int) + 1)] wr fun e w' => e = .returned (.tuple #[.string (ftx G), .int .i64 (q : Int)]) ∧ Below wr.heap.size wr w') := HF (p + 1) q G wr hin (by omega) (by omega) hcr
      rw [heq] at CS'
      have hL := HL.out
      have eL : (sbs (fsy (.and F G))).length = 1 + (sbs (fsy F)).length + (sbs (fsy G)).length := bin_len 3 rfl F G
      have HL2 : Hid ((sbs (fsy (.and F G))).length ≤ 8 * q) := by show _ ≤ _; simp only [tgL] at hlg; omega
      have EX : Hid (({ data := #[38] } : ByteArray) ++ ftx F ++ ftx G = ftx (.and F G)) := by
        show _ = _
        have e1 : (⟨#[38]⟩ : ByteArray) ++ ⟨(sbs (fsy F)).toArray⟩ = ⟨([38] ++ sbs (fsy F)).toArray⟩ := str_app [38] _
        have e2 := str_app ([38] ++ sbs (fsy F)) (sbs (fsy G))
        unfold ftx
        rw [e1, e2]
        have e3 : sbs (fsy (.and F G)) = sb (3, 0, 0, 0) ++ (sbs (fsy F) ++ sbs (fsy G)) := by
          show sbs ((3, 0, 0, 0) :: (fsy F ++ fsy G)) = _
          rw [sbs_cons, sbs_append]
        rw [e3, List.append_assoc]; rfl
      have s1 : (ftx F).size ≤ 2400 := by show (sbs (fsy F)).toArray.size ≤ 2400; simp; omega
      have s2 : (ftx G).size ≤ 2400 := by show (sbs (fsy G)).toArray.size ≤ 2400; simp; simp only [tgL] at hlg; omega
      clear hin hrest heq hL eL hlg HL HR CS
      generalize ftx F = FF at *
      generalize ftx G = GG at *
      go_wp2_with fail
      refine CS'.out.mono ?_
      rintro e w2 ⟨rfl, rfl⟩
      go_wp2_with fail
      refine C2.out.mono ?_
      rintro e w2 ⟨rfl, hb2⟩
      go_wp2_with fail
      go_roundw
      case rel => exact ⟨q, .and F G, rfl, by first | exact congrArg _ EX.out | (rw [EX.out]), by omega, by omega, HR2, HL2, hcr.below hb2, hbr.trans (hb2.mono hbr.size)⟩
      case measure => simp [intOf]; omega

set_option maxRecDepth 100000 in
set_option maxHeartbeats 1000000 in
theorem code_formula (toks : List (List UInt8 × Nat)) (cb n : Nat) (HF : PartD toks cb n) : ForD toks cb n := by
  intro k k' h w hr hn hk hc
  obtain ⟨k1, f, hfac, hL⟩ : ∃ k1 f, Rd toks .part k f k1 ∧ Rd toks (.formL f) k1 h k' := by cases hr; exact ⟨_, _, ‹_›, ‹_›⟩
  have l1 := hfac.le.2 (by simp)
  have l2 := hL.le.1
  have HH : Hid (Rd toks (.formL f) k1 h k') := hL
  have C1 : Hid (Calls Try.prog 34 #[.pointer (some ⟨cb, 0, none⟩), .int .i64 (k : Int)] w fun e w' => e = .returned (.tuple #[.string (ftx f), .int .i64 (k1 : Int)]) ∧ Below w.heap.size w w') := HF k k1 f w hfac (by omega) (by omega) hc
  have CS : Hid (∀ (j : Nat) (w : World), j ≤ 300 → CodeAt w cb toks → Calls Try.prog 33 #[.pointer (some ⟨cb, 0, none⟩), .int .i64 (j : Int)] w fun e w' => e = .returned (.string ⟨(sAt toks j).toArray⟩) ∧ w = w') := fun j w hj hc => code_s toks cb j w hc (by omega)
  have hlf := rd_len hfac
  have HLf : Hid ((sbs (fsy f)).length ≤ 8 * k1) := by show _ ≤ _; simp only [tgL] at hlf; omega
  clear hr hfac hL hlf
  go_enter Try.func20, Try.ntmps20
  go_wp2_with fail
  refine C1.out.mono ?_
  rintro e w1 ⟨rfl, hb1⟩
  have hc1 := hc.below hb1
  go_wp2_with fail
  go_loopw [1, 6, 7, 8] (fun at_ fv _ _ wr => ∃ (p : Nat) (F : Fm), at_ = .int .i64 (p : Int) ∧ fv = .string (ftx F) ∧ k1 ≤ p ∧ p ≤ k' ∧ Hid (Rd toks (.formL F) p h k') ∧ Hid ((sbs (fsy F)).length ≤ 8 * p) ∧ CodeAt wr cb toks ∧ Below w.heap.size w wr) (fun at_ _ _ _ _ => k' - (intOf at_).toNat)
  case atStart => exact ⟨k1, f, rfl, rfl, Nat.le_refl _, l2, HH, HLf, hc1, hb1⟩
  case round =>
    obtain ⟨p, F, rfl, rfl, hp1, hp2, HR, HL, hcr, hbr⟩ := hrel
    have CS' : Hid (Calls Try.prog 33 #[.pointer (some ⟨cb, 0, none⟩), .int .i64 (p : Int)] wr fun e w' => e = .returned (.string ⟨(sAt toks p).toArray⟩) ∧ wr = w') := CS.out p wr (by omega) hcr
    have hcase : (p = k' ∧ F = h ∧ sAt toks p ≠ [111, 114]) ∨ ∃ G q, sAt toks p = [111, 114] ∧ Rd toks .part (p + 1) G q ∧ Rd toks (.formL (.or F G)) q h k' := by
      have := HR.out
      cases this with
      | formS a b c => exact Or.inr ⟨_, _, a, b, c⟩
      | formE a => exact Or.inl ⟨rfl, rfl, a⟩
    rcases hcase with ⟨rfl, rfl, hne⟩ | ⟨G, q, heq, hin, hrest⟩
    · have hb : (sAt toks p == [111, 114]) = false := by rw [beq_eq_false_iff_ne]; exact hne
      clear hne
      generalize sAt toks p = S at *
      go_wp2_with fail
      refine CS'.out.mono ?_
      rintro e w2 ⟨rfl, rfl⟩
      go_wp2_with fail
      go_ret2
      exact ⟨rfl, hbr⟩
    · have l3 := hin.le.2 (by simp)
      have l4 := hrest.le.1
      have hlg := rd_len hin
      have HR2 : Hid _ := hrest
      have C2 : Hid (Calls Try.prog 34 #[.pointer (some ⟨cb, 0, none⟩), .int .i64 ((p : Int) + 1)] wr fun e w' => e = .returned (.tuple #[.string (ftx G), .int .i64 (q : Int)]) ∧ Below wr.heap.size wr w') := HF (p + 1) q G wr hin (by omega) (by omega) hcr
      rw [heq] at CS'
      have hL := HL.out
      have eL : (sbs (fsy (.or F G))).length = 1 + (sbs (fsy F)).length + (sbs (fsy G)).length := bin_len 4 rfl F G
      have HL2 : Hid ((sbs (fsy (.or F G))).length ≤ 8 * q) := by show _ ≤ _; simp only [tgL] at hlg; omega
      have EX : Hid (({ data := #[124] } : ByteArray) ++ ftx F ++ ftx G = ftx (.or F G)) := by
        show _ = _
        have e1 : (⟨#[124]⟩ : ByteArray) ++ ⟨(sbs (fsy F)).toArray⟩ = ⟨([124] ++ sbs (fsy F)).toArray⟩ := str_app [124] _
        have e2 := str_app ([124] ++ sbs (fsy F)) (sbs (fsy G))
        unfold ftx
        rw [e1, e2]
        have e3 : sbs (fsy (.or F G)) = sb (4, 0, 0, 0) ++ (sbs (fsy F) ++ sbs (fsy G)) := by
          show sbs ((4, 0, 0, 0) :: (fsy F ++ fsy G)) = _
          rw [sbs_cons, sbs_append]
        rw [e3, List.append_assoc]; rfl
      have s1 : (ftx F).size ≤ 2400 := by show (sbs (fsy F)).toArray.size ≤ 2400; simp; omega
      have s2 : (ftx G).size ≤ 2400 := by show (sbs (fsy G)).toArray.size ≤ 2400; simp; simp only [tgL] at hlg; omega
      clear hin hrest heq hL eL hlg HL HR CS
      generalize ftx F = FF at *
      generalize ftx G = GG at *
      go_wp2_with fail
      refine CS'.out.mono ?_
      rintro e w2 ⟨rfl, rfl⟩
      go_wp2_with fail
      refine C2.out.mono ?_
      rintro e w2 ⟨rfl, hb2⟩
      go_wp2_with fail
      go_roundw
      case rel => exact ⟨q, .or F G, rfl, by first | exact congrArg _ EX.out | (rw [EX.out]), by omega, by omega, HR2, HL2, hcr.below hb2, hbr.trans (hb2.mono hbr.size)⟩
      case measure => simp [intOf]; omega

set_option maxRecDepth 100000 in
set_option maxHeartbeats 1000000 in
theorem code_factor (toks : List (List UInt8 × Nat)) (cb n : Nat) (hl : ∀ j, (sAt toks j).length ≤ 300) (IH1 : ∀ m, m < n → FacD toks cb m) (IH2 : ∀ m, m < n → ForD toks cb m) : FacD toks cb n := by
  intro k k' f w hr hn hk hc
  have l0 := hr.le.2 (by simp)
  have CS : Hid (Calls Try.prog 33 #[.pointer (some ⟨cb, 0, none⟩), .int .i64 (k : Int)] w fun e w' => e = .returned (.string ⟨(sAt toks k).toArray⟩) ∧ w = w') := code_s toks cb k w hc (by omega)
  cases hr with
  | tru h1 =>
    rw [h1] at CS
    clear h1 IH1 IH2
    go_enter Try.func51, Try.ntmps51
    go_wp2_with fail
    refine CS.out.mono ?_
    rintro e w2 ⟨rfl, rfl⟩
    go_wp2_with fail
    go_ret2
    exact ⟨rfl, Below.refl _ _⟩
  | fls h1 =>
    rw [h1] at CS
    clear h1 IH1 IH2
    go_enter Try.func51, Try.ntmps51
    go_wp2_with fail
    refine CS.out.mono ?_
    rintro e w2 ⟨rfl, rfl⟩
    go_wp2_with fail
    go_ret2
    exact ⟨rfl, Below.refl _ _⟩
  | @no _ _ g h1 h2 =>
    rw [h1] at CS
    have l2 := h2.le.2 (by simp)
    have hlg := rd_len h2
    have C2 : Hid (Calls Try.prog 51 #[.pointer (some ⟨cb, 0, none⟩), .int .i64 ((k : Int) + 1)] w fun e w' => e = .returned (.tuple #[.string (ftx g), .int .i64 (k' : Int)]) ∧ Below w.heap.size w w') := IH1 (n - 1) (by omega) (k + 1) k' g w h2 (by omega) (by omega) hc
    have EX : Hid (({ data := #[33] } : ByteArray) ++ ftx g = ftx (.no g)) := str_app [33] (sbs (fsy g))
    have s2 : (ftx g).size ≤ 2400 := by show (sbs (fsy g)).toArray.size ≤ 2400; simp; simp only [tgL] at hlg; omega
    clear h1 h2 hlg IH1 IH2
    generalize ftx (.no g) = FG at *
    generalize ftx g = GG at *
    go_enter Try.func51, Try.ntmps51
    go_wp2_with fail
    refine CS.out.mono ?_
    rintro e w2 ⟨rfl, rfl⟩
    go_wp2_with fail
    refine C2.out.mono ?_
    rintro e w2 ⟨rfl, hb⟩
    go_wp2_with fail
    go_ret2
    refine ⟨?_, hb⟩
    rw [← EX.out]; rfl
  | @par _ q _ h1 h2 =>
    rw [h1] at CS
    have l2 := h2.le.2 (by simp)
    have C2 : Hid (Calls Try.prog 20 #[.pointer (some ⟨cb, 0, none⟩), .int .i64 ((k : Int) + 1)] w fun e w' => e = .returned (.tuple #[.string (ftx f), .int .i64 (q : Int)]) ∧ Below w.heap.size w w') := IH2 (n - 1) (by omega) (k + 1) q f w h2 (by omega) (by omega) hc
    clear h1 h2 IH1 IH2
    go_enter Try.func51, Try.ntmps51
    go_wp2_with fail
    refine CS.out.mono ?_
    rintro e w2 ⟨rfl, rfl⟩
    go_wp2_with fail
    refine C2.out.mono ?_
    rintro e w2 ⟨rfl, hb⟩
    go_wp2_with fail
    go_ret2
    exact ⟨rfl, hb⟩
  | cmp h1 h2 h3 h4 =>
    have b1 : (sAt toks k == [116, 114, 117, 101]) = false := by rw [beq_eq_false_iff_ne]; exact h1
    have b2 : (sAt toks k == [102, 97, 108, 115, 101]) = false := by rw [beq_eq_false_iff_ne]; exact h2
    have b3 : (sAt toks k == [110, 111, 116]) = false := by rw [beq_eq_false_iff_ne]; exact h3
    have b4 : (sAt toks k == [40]) = false := by rw [beq_eq_false_iff_ne]; exact h4
    have C2 : Hid _ := code_compared toks cb k w hc (by omega) hl
    have C3 : Hid (Calls Try.prog 71 #[.pointer (some ⟨cb, 0, none⟩), .int .i64 (k : Int)] w fun e w' => e = .returned (.tuple #[.string (ftx (.cmp (rel (sAt toks (trm toks k).2.2)) ((trm toks k).1, (trm toks k).2.1) ((trm toks ((trm toks k).2.2 + 1)).1, (trm toks ((trm toks k).2.2 + 1)).2.1))), .int .i64 ((trm toks ((trm toks k).2.2 + 1)).2.2 : Int)]) ∧ Below w.heap.size w w') := C2.out
    clear h1 h2 h3 h4 IH1 IH2 C2
    generalize ftx (.cmp (rel (sAt toks (trm toks k).2.2)) ((trm toks k).1, (trm toks k).2.1) ((trm toks ((trm toks k).2.2 + 1)).1, (trm toks ((trm toks k).2.2 + 1)).2.1)) = FF at *
    generalize (trm toks ((trm toks k).2.2 + 1)).2.2 = q at *
    generalize sAt toks k = S at *
    go_enter Try.func51, Try.ntmps51
    go_wp2_with fail
    refine CS.out.mono ?_
    rintro e w2 ⟨rfl, rfl⟩
    go_wp2_with fail
    refine C3.out.mono ?_
    rintro e w2 ⟨rfl, hb⟩
    go_wp2_with fail
    go_ret2
    exact ⟨rfl, hb⟩

theorem code_exprs (toks : List (List UInt8 × Nat)) (cb : Nat) (hl : ∀ j, (sAt toks j).length ≤ 300) (n : Nat) : FacD toks cb n ∧ ForD toks cb n := by
  induction n using Nat.strongRecOn with
  | ind n ih =>
    have h1 : FacD toks cb n := code_factor toks cb n hl (fun m hm => (ih m hm).1) (fun m hm => (ih m hm).2)
    exact ⟨h1, code_formula toks cb n (code_part toks cb n h1)⟩
/-- What the document makes of a FORMULA. -/
theorem formula_any (toks : List (List UInt8 × Nat)) (cb : Nat) (hl : ∀ j, (sAt toks j).length ≤ 300) (k k' : Nat) (f : Fm) (w : World) (h : Rd toks .form k f k') (hk : k' ≤ 300) (hc : CodeAt w cb toks) :
    Calls Try.prog 20 #[.pointer (some ⟨cb, 0, none⟩), .int .i64 (k : Int)] w fun e w' => e = .returned (.tuple #[.string (ftx f), .int .i64 (k' : Int)]) ∧ Below w.heap.size w w' :=
  (code_exprs toks cb hl k').2 k k' f w h (by omega) hk hc
end Go.Proofs.Ytkinoehmcfhgbaa.Vl
set_option linter.unusedVariables false
set_option linter.unusedSimpArgs false
namespace Go.Proofs.Ytkinoehmcfhgbaa.Vl
open Go.RowKit
open Go.Proofs.Ytkinoehmcfhgbaa.Av (vr rvariable_any Fm Rd Tg sAt trm trm_range rel rel_range vr_range Cm Rc)

def SkipD (toks : List (List UInt8 × Nat)) (cb n : Nat) : Prop := ∀ (k k' : Nat) (c : Cm) (w : World), Rc toks false k c k' → k' ≤ k + n → k' ≤ 300 → CodeAt w cb toks → Calls Try.prog 32 #[.pointer (some ⟨cb, 0, none⟩), .int .i64 (k : Int)] w fun e w' => e = .returned (.int .i64 (k' : Int)) ∧ Below w.heap.size w w'
def AllD (toks : List (List UInt8 × Nat)) (cb n : Nat) : Prop := ∀ (k k' : Nat) (c : Cm) (w : World), Rc toks true k c k' → k' ≤ k + n → k' ≤ 300 → CodeAt w cb toks → Calls Try.prog 30 #[.pointer (some ⟨cb, 0, none⟩), .int .i64 (k : Int)] w fun e w' => e = .returned (.int .i64 (k' : Int)) ∧ Below w.heap.size w w'
/-- What goes on behind a command. -/
def Nx (toks : List (List UInt8 × Nat)) (p k' : Nat) : Prop := (p = k' ∧ sAt toks p ≠ [59]) ∨ (sAt toks p = [59] ∧ ∃ r, Rc toks true (p + 1) r k')
theorem rc_first {toks : List (List UInt8 × Nat)} {k k' : Nat} {c : Cm} (h : Rc toks true k c k') : ∃ c1 p, Rc toks false k c1 p ∧ Nx toks p k' ∧ p ≤ k' := by
  cases h with
  | one a b => exact ⟨_, _, a, Or.inl ⟨rfl, b⟩, Nat.le_refl _⟩
  | seq a b d => exact ⟨_, _, a, Or.inr ⟨b, _, d⟩, by have := d.le; omega⟩
theorem vr_word {l : List UInt8} (h : 0 ≤ vr l) : (l == [115, 107, 105, 112]) = false ∧ (l == [105, 102]) = false ∧ (l == [119, 104, 105, 108, 101]) = false := by
  rcases Av.vr_cases l with e | rfl | rfl | rfl | rfl
  · omega
  all_goals exact ⟨rfl, rfl, rfl⟩

set_option maxRecDepth 100000 in
set_option maxHeartbeats 1000000 in
theorem code_all (toks : List (List UInt8 × Nat)) (cb n : Nat) (HF : SkipD toks cb n) : AllD toks cb n := by
  intro k k' c w hr hn hk hc
  obtain ⟨c1, k1, h1, hx, l2⟩ := rc_first hr
  have l1 := h1.le
  have HX : Hid (Nx toks k1 k') := hx
  have C1 : Hid (Calls Try.prog 32 #[.pointer (some ⟨cb, 0, none⟩), .int .i64 (k : Int)] w fun e w' => e = .returned (.int .i64 (k1 : Int)) ∧ Below w.heap.size w w') := HF k k1 c1 w h1 (by omega) (by omega) hc
  have CS : Hid (∀ (j : Nat) (w : World), j ≤ 300 → CodeAt w cb toks → Calls Try.prog 33 #[.pointer (some ⟨cb, 0, none⟩), .int .i64 (j : Int)] w fun e w' => e = .returned (.string ⟨(sAt toks j).toArray⟩) ∧ w = w') := fun j w hj hc => code_s toks cb j w hc (by omega)
  clear hr h1 hx
  go_enter Try.func30, Try.ntmps30
  go_wp2_with fail
  refine C1.out.mono ?_
  rintro e w1 ⟨rfl, hb1⟩
  have hc1 := hc.below hb1
  go_wp2_with fail
  go_loopw [1] (fun at_ wr => ∃ (p : Nat), at_ = .int .i64 (p : Int) ∧ k1 ≤ p ∧ p ≤ k' ∧ Hid (Nx toks p k') ∧ CodeAt wr cb toks ∧ Below w.heap.size w wr) (fun at_ _ => k' - (intOf at_).toNat)
  case atStart => exact ⟨k1, rfl, Nat.le_refl _, l2, HX, hc1, hb1⟩
  case round =>
    obtain ⟨p, rfl, hp1, hp2, HR, hcr, hbr⟩ := hrel
    have CS' : Hid (Calls Try.prog 33 #[.pointer (some ⟨cb, 0, none⟩), .int .i64 (p : Int)] wr fun e w' => e = .returned (.string ⟨(sAt toks p).toArray⟩) ∧ wr = w') := CS.out p wr (by omega) hcr
    rcases HR.out with ⟨rfl, hne⟩ | ⟨heq, r, hrest⟩
    · have hb : (sAt toks p == [59]) = false := by rw [beq_eq_false_iff_ne]; exact hne
      clear hne
      generalize sAt toks p = S at *
      go_wp2_with fail
      refine CS'.out.mono ?_
      rintro e w2 ⟨rfl, rfl⟩
      go_wp2_with fail
      go_ret
      exact ⟨rfl, hbr⟩
    · obtain ⟨c2, q, h2, hx2, l4⟩ := rc_first hrest
      have l3 := h2.le
      have HX2 : Hid (Nx toks q k') := hx2
      have C2 : Hid (Calls Try.prog 32 #[.pointer (some ⟨cb, 0, none⟩), .int .i64 ((p : Int) + 1)] wr fun e w' => e = .returned (.int .i64 (q : Int)) ∧ Below wr.heap.size wr w') := HF (p + 1) q c2 wr h2 (by omega) (by omega) hcr
      rw [heq] at CS'
      clear h2 hrest heq hx2 HR CS
      go_wp2_with fail
      refine CS'.out.mono ?_
      rintro e w2 ⟨rfl, rfl⟩
      go_wp2_with fail
      refine C2.out.mono ?_
      rintro e w2 ⟨rfl, hb2⟩
      go_wp2_with fail
      go_roundw
      case rel => exact ⟨q, rfl, by omega, by omega, HX2, hcr.below hb2, hbr.trans (hb2.mono hbr.size)⟩
      case measure => simp [intOf]; omega

set_option maxRecDepth 100000 in
set_option maxHeartbeats 1000000 in
theorem code_skip (toks : List (List UInt8 × Nat)) (cb n : Nat) (hl : ∀ j, (sAt toks j).length ≤ 300) (IH : ∀ m, m < n → AllD toks cb m) : SkipD toks cb n := by
  intro k k' c w hr hn hk hc
  have l0 := hr.le
  have CS : Hid (Calls Try.prog 33 #[.pointer (some ⟨cb, 0, none⟩), .int .i64 (k : Int)] w fun e w' => e = .returned (.string ⟨(sAt toks k).toArray⟩) ∧ w = w') := code_s toks cb k w hc (by omega)
  cases hr with
  | skip h1 =>
    rw [h1] at CS
    clear h1 IH
    go_enter Try.func32, Try.ntmps32
    go_wp2_with fail
    refine CS.out.mono ?_
    rintro e w2 ⟨rfl, rfl⟩
    go_wp2_with fail
    go_ret
    exact ⟨rfl, Below.refl _ _⟩
  | asg h1 =>
    obtain ⟨b1, b2, b3⟩ := vr_word h1
    have r2 := trm_range toks (k + 2)
    have C2 : Hid (Calls Try.prog 49 #[.pointer (some ⟨cb, 0, none⟩), .int .i64 ((k : Int) + 2)] w fun e w' => e = .returned (.tuple #[.int .i64 (trm toks (k + 2)).1, .int .i64 (trm toks (k + 2)).2.1, .int .i64 ((trm toks (k + 2)).2.2 : Int)]) ∧ w = w') := code_term toks cb (k + 2) w hc (by omega) hl
    clear h1 IH
    generalize trm toks (k + 2) = R at *
    generalize sAt toks k = S at *
    go_enter Try.func32, Try.ntmps32
    go_wp2_with fail
    refine CS.out.mono ?_
    rintro e w2 ⟨rfl, rfl⟩
    go_wp2_with fail
    refine C2.out.mono ?_
    rintro e w2 ⟨rfl, rfl⟩
    go_wp2_with fail
    go_ret
    exact ⟨rfl, Below.refl _ _⟩
  | @ite _ k1 k2 k3 f a b h1 h2 h3 h4 =>
    rw [h1] at CS
    have l2 := h2.le.2 (by simp)
    have l3 := h3.le
    have l4 := h4.le
    have C2 : Hid (Calls Try.prog 20 #[.pointer (some ⟨cb, 0, none⟩), .int .i64 ((k : Int) + 1)] w fun e w' => e = .returned (.tuple #[.string (ftx f), .int .i64 (k1 : Int)]) ∧ Below w.heap.size w w') := formula_any toks cb hl (k + 1) k1 f w h2 (by omega) hc
    have C3 : Hid (∀ w, CodeAt w cb toks → Calls Try.prog 30 #[.pointer (some ⟨cb, 0, none⟩), .int .i64 ((k1 : Int) + 1)] w fun e w' => e = .returned (.int .i64 (k2 : Int)) ∧ Below w.heap.size w w') := fun w hc => IH (n - 1) (by omega) (k1 + 1) k2 a w h3 (by omega) (by omega) hc
    have C4 : Hid (∀ w, CodeAt w cb toks → Calls Try.prog 30 #[.pointer (some ⟨cb, 0, none⟩), .int .i64 ((k2 : Int) + 1)] w fun e w' => e = .returned (.int .i64 (k3 : Int)) ∧ Below w.heap.size w w') := fun w hc => IH (n - 1) (by omega) (k2 + 1) k3 b w h4 (by omega) (by omega) hc
    clear h1 h2 h3 h4 IH
    go_enter Try.func32, Try.ntmps32
    go_wp2_with fail
    refine CS.out.mono ?_
    rintro e w2 ⟨rfl, rfl⟩
    go_wp2_with fail
    refine C2.out.mono ?_
    rintro e w2 ⟨rfl, hb2⟩
    have hc2 := hc.below hb2
    go_wp2_with fail
    refine (C3.out _ hc2).mono ?_
    rintro e w3 ⟨rfl, hb3⟩
    have hc3 := hc2.below hb3
    go_wp2_with fail
    refine (C4.out _ hc3).mono ?_
    rintro e w4 ⟨rfl, hb4⟩
    go_wp2_with fail
    go_ret
    have b3 := hb2.trans (hb3.mono hb2.size)
    exact ⟨rfl, b3.trans (hb4.mono b3.size)⟩
  | @loop _ k1 k2 k3 f g a h1 h2 h3 h4 =>
    rw [h1] at CS
    have l2 := h2.le.2 (by simp)
    have l3 := h3.le.2 (by simp)
    have l4 := h4.le
    have C2 : Hid (Calls Try.prog 20 #[.pointer (some ⟨cb, 0, none⟩), .int .i64 ((k : Int) + 1)] w fun e w' => e = .returned (.tuple #[.string (ftx f), .int .i64 (k1 : Int)]) ∧ Below w.heap.size w w') := formula_any toks cb hl (k + 1) k1 f w h2 (by omega) hc
    have C3 : Hid (∀ w, CodeAt w cb toks → Calls Try.prog 20 #[.pointer (some ⟨cb, 0, none⟩), .int .i64 ((k1 : Int) + 1)] w fun e w' => e = .returned (.tuple #[.string (ftx g), .int .i64 (k2 : Int)]) ∧ Below w.heap.size w w') := fun w hc => formula_any toks cb hl (k1 + 1) k2 g w h3 (by omega) hc
    have C4 : Hid (∀ w, CodeAt w cb toks → Calls Try.prog 30 #[.pointer (some ⟨cb, 0, none⟩), .int .i64 ((k2 : Int) + 1)] w fun e w' => e = .returned (.int .i64 (k3 : Int)) ∧ Below w.heap.size w w') := fun w hc => IH (n - 1) (by omega) (k2 + 1) k3 a w h4 (by omega) (by omega) hc
    clear h1 h2 h3 h4 IH
    go_enter Try.func32, Try.ntmps32
    go_wp2_with fail
    refine CS.out.mono ?_
    rintro e w2 ⟨rfl, rfl⟩
    go_wp2_with fail
    refine C2.out.mono ?_
    rintro e w2 ⟨rfl, hb2⟩
    have hc2 := hc.below hb2
    go_wp2_with fail
    refine (C3.out _ hc2).mono ?_
    rintro e w3 ⟨rfl, hb3⟩
    have hc3 := hc2.below hb3
    go_wp2_with fail
    refine (C4.out _ hc3).mono ?_
    rintro e w4 ⟨rfl, hb4⟩
    go_wp2_with fail
    go_ret
    have b3 := hb2.trans (hb3.mono hb2.size)
    exact ⟨rfl, b3.trans (hb4.mono b3.size)⟩
theorem code_coms (toks : List (List UInt8 × Nat)) (cb : Nat) (hl : ∀ j, (sAt toks j).length ≤ 300) (n : Nat) : SkipD toks cb n ∧ AllD toks cb n := by
  induction n using Nat.strongRecOn with
  | ind n ih =>
    have h1 : SkipD toks cb n := code_skip toks cb n hl (fun m hm => (ih m hm).2)
    exact ⟨h1, code_all toks cb n h1⟩
theorem skip_any (toks : List (List UInt8 × Nat)) (cb : Nat) (hl : ∀ j, (sAt toks j).length ≤ 300) (k k' : Nat) (c : Cm) (w : World) (h : Rc toks false k c k') (hk : k' ≤ 300) (hc : CodeAt w cb toks) :
    Calls Try.prog 32 #[.pointer (some ⟨cb, 0, none⟩), .int .i64 (k : Int)] w fun e w' => e = .returned (.int .i64 (k' : Int)) ∧ Below w.heap.size w w' :=
  (code_coms toks cb hl k').1 k k' c w h (by omega) hk hc
theorem all_any (toks : List (List UInt8 × Nat)) (cb : Nat) (hl : ∀ j, (sAt toks j).length ≤ 300) (k k' : Nat) (c : Cm) (w : World) (h : Rc toks true k c k') (hk : k' ≤ 300) (hc : CodeAt w cb toks) :
    Calls Try.prog 30 #[.pointer (some ⟨cb, 0, none⟩), .int .i64 (k : Int)] w fun e w' => e = .returned (.int .i64 (k' : Int)) ∧ Below w.heap.size w w' :=
  (code_coms toks cb hl k').2 k k' c w h (by omega) hk hc
set_option maxRecDepth 100000 in
set_option maxHeartbeats 1000000 in
theorem parts_any (toks : List (List UInt8 × Nat)) (cb : Nat) (hl : ∀ j, (sAt toks j).length ≤ 300) (k1 k2 : Nat) (f : Fm) (c : Cm) (w : World) (h1 : Rd toks .form 1 f k1) (h2 : Rc toks true (k1 + 1) c k2) (hk : k2 ≤ 300) (hc : CodeAt w cb toks) :
    Calls Try.prog 18 #[.pointer (some ⟨cb, 0, none⟩)] w fun e w' => e = .returned (.tuple #[.int .i64 1, .int .i64 ((k1 : Int) + 1), .int .i64 ((k2 : Int) + 1)]) ∧ Below w.heap.size w w' := by
  have l2 := h2.le
  have C2 : Hid (Calls Try.prog 20 #[.pointer (some ⟨cb, 0, none⟩), .int .i64 1] w fun e w' => e = .returned (.tuple #[.string (ftx f), .int .i64 (k1 : Int)]) ∧ Below w.heap.size w w') := formula_any toks cb hl 1 k1 f w h1 (by omega) hc
  have C3 : Hid (∀ w, CodeAt w cb toks → Calls Try.prog 30 #[.pointer (some ⟨cb, 0, none⟩), .int .i64 ((k1 : Int) + 1)] w fun e w' => e = .returned (.int .i64 (k2 : Int)) ∧ Below w.heap.size w w') := fun w hc => all_any toks cb hl (k1 + 1) k2 c w h2 (by omega) hc
  clear h1 h2
  go_enter Try.func18, Try.ntmps18
  go_wp2_with fail
  refine C2.out.mono ?_
  rintro e w2 ⟨rfl, hb2⟩
  have hc2 := hc.below hb2
  go_wp2_with fail
  refine (C3.out _ hc2).mono ?_
  rintro e w3 ⟨rfl, hb3⟩
  go_wp2_with fail
  go_ret3
  exact ⟨rfl, hb2.trans (hb3.mono hb2.size)⟩
end Go.Proofs.Ytkinoehmcfhgbaa.Vl
set_option linter.unusedVariables false
set_option linter.unusedSimpArgs false
namespace Go.Proofs.Ytkinoehmcfhgbaa.Vl
open Go.RowKit
open Go.Proofs.Ytkinoehmcfhgbaa.Av (vr rvariable_any Fm Rd Tg sAt trm trm_range rel rel_range vr_range Cm Rc Kp set_other)

/-- The tokens lie ahead of a block. -/
def CodeB (w : World) (rb cb : Nat) (toks : List (List UInt8 × Nat)) : Prop :=
  ∃ g cap, w.cell? ⟨cb, 0, none⟩ = some (.slice (some ⟨g, 0, none⟩) toks.length cap) ∧ toks.length ≤ cap ∧ cap ≤ maxLen ∧ g < rb ∧ cb < rb ∧ ∀ j t, toks[j]? = some t → w.cell? ⟨g, j * 2, none⟩ = some (.string ⟨t.1.toArray⟩)
theorem CodeB.at {w : World} {rb cb : Nat} {toks : List (List UInt8 × Nat)} (h : CodeB w rb cb toks) (hb : rb < w.heap.size) : CodeAt w cb toks := by
  obtain ⟨g, cap, h1, h2, h3, h4, h5, h6⟩ := h
  exact ⟨g, cap, h1, h2, h3, by omega, by omega, h6⟩
theorem CodeB.kp {w w' : World} {rb cb : Nat} {toks : List (List UInt8 × Nat)} (h : CodeB w rb cb toks) (hb : rb < w.heap.size) (k : Kp rb w w') : CodeB w' rb cb toks := by
  obtain ⟨g, cap, h1, h2, h3, h4, h5, h6⟩ := h
  exact ⟨g, cap, (k.cell (p := ⟨cb, 0, none⟩) (by show cb < _; omega) (by show cb ≠ rb; omega)).trans h1, h2, h3, h4, h5, fun j t ht => (k.cell (p := ⟨g, j * 2, none⟩) (by show g < _; omega) (by show g ≠ rb; omega)).trans (h6 j t ht)⟩
/-- A run lies at block rb, its tokens at block cb. -/
structure RunAt (w : World) (rb cb : Nat) (toks : List (List UInt8 × Nat)) (fuel : Int) (s : RS) : Prop where
  code : CodeB w rb cb toks
  hb : rb < w.heap.size
  c0 : w.cell? ⟨rb, 0, none⟩ = some (.pointer (some ⟨cb, 0, none⟩))
  c1 : w.cell? ⟨rb, 1, none⟩ = some (.int .i64 s.x1)
  c2 : w.cell? ⟨rb, 2, none⟩ = some (.int .i64 s.x2)
  c3 : w.cell? ⟨rb, 3, none⟩ = some (.int .i64 s.x3)
  c4 : w.cell? ⟨rb, 4, none⟩ = some (.int .i64 s.x4)
  c5 : w.cell? ⟨rb, 5, none⟩ = some (.int .i64 s.n)
  c6 : w.cell? ⟨rb, 6, none⟩ = some (.int .i64 fuel)
  c7 : w.cell? ⟨rb, 7, none⟩ = some (.int .i64 s.e)
  f : ∀ o, w.frozen? ⟨rb, o, none⟩ = false
variable {toks : List (List UInt8 × Nat)}
theorem RunAt.below {w w' : World} {rb cb : Nat} {fuel : Int} {s : RS} (h : RunAt w rb cb toks fuel s) (k : Below w.heap.size w w') : RunAt w' rb cb toks fuel s :=
  have c : ∀ o, w'.cell? ⟨rb, o, none⟩ = w.cell? ⟨rb, o, none⟩ := fun o => k.cell (p := ⟨rb, o, none⟩) h.hb
  ⟨h.code.kp h.hb (Kp.of_below k), Nat.lt_of_lt_of_le h.hb k.size, (c 0).trans h.c0, (c 1).trans h.c1, (c 2).trans h.c2, (c 3).trans h.c3, (c 4).trans h.c4, (c 5).trans h.c5, (c 6).trans h.c6, (c 7).trans h.c7, fun o => (k.frozen (p := ⟨rb, o, none⟩) h.hb).trans (h.f o)⟩
theorem RunAt.drewN {w : World} {rb cb : Nat} {fuel : Int} {s : RS} (h : RunAt w rb cb toks fuel s) (n : Nat) : RunAt (w.drewN n) rb cb toks fuel s := h.below (below_drewN (Below.refl _ _) n)
theorem RunAt.drew {w : World} {rb cb : Nat} {fuel : Int} {s : RS} (h : RunAt w rb cb toks fuel s) : RunAt w.drew rb cb toks fuel s := h.below (Below.refl _ _).drew
theorem set_frz {b : Nat} (w : World) (a : Addr) (u : Value) (h : ∀ o, w.frozen? ⟨b, o, none⟩ = false) : ∀ o, (w.setCell a u).frozen? ⟨b, o, none⟩ = false := fun o => by
  rw [World.frozen?_setCell]; exact h o
theorem set_size (w : World) (a : Addr) (u : Value) : (w.setCell a u).heap.size = w.heap.size := by simp [World.setCell]
/-- One cell of the run is written. -/
theorem RunAt.put {w : World} {rb cb : Nat} {fuel : Int} {s s' : RS} (h : RunAt w rb cb toks fuel s) (j : Nat) (v : Int) (hj : j < 8)
    (h1 : (if j = 1 then v else s.x1) = s'.x1) (h2 : (if j = 2 then v else s.x2) = s'.x2) (h3 : (if j = 3 then v else s.x3) = s'.x3) (h4 : (if j = 4 then v else s.x4) = s'.x4) (h5 : (if j = 5 then v else s.n) = s'.n) (h6 : j ≠ 6) (h7 : (if j = 7 then v else s.e) = s'.e) (h0 : j ≠ 0) :
    RunAt (w.setCell ⟨rb, j, none⟩ (.int .i64 v)) rb cb toks fuel s' := by
  have key : ∀ (o : Nat) (x y : Int), w.cell? ⟨rb, o, none⟩ = some (.int .i64 x) → (if j = o then v else x) = y → (w.setCell ⟨rb, j, none⟩ (.int .i64 v)).cell? ⟨rb, o, none⟩ = some (.int .i64 y) := fun o x y hc e => by
    by_cases hj : j = o
    · subst hj; rw [if_pos rfl] at e; subst e; exact World.cell?_setCell_same _ _ _ hc
    · rw [if_neg hj] at e; subst e; rw [set_other _ _ _ _ _ hj]; exact hc
  exact ⟨h.code.kp h.hb ((Kp.refl _ _).setCell (Or.inl rfl) _), by rw [set_size]; exact h.hb, by rw [set_other _ _ _ _ _ h0]; exact h.c0, key 1 _ _ h.c1 h1, key 2 _ _ h.c2 h2, key 3 _ _ h.c3 h3, key 4 _ _ h.c4 h4, key 5 _ _ h.c5 h5, by rw [set_other _ _ _ _ _ h6]; exact h.c6, key 7 _ _ h.c7 h7, set_frz _ _ _ h.f⟩

set_option maxRecDepth 100000 in
set_option maxHeartbeats 1000000 in
theorem run_step (w : World) (rb cb : Nat) (fuel : Int) (s : RS) (h : RunAt w rb cb toks fuel s) (hn : 0 ≤ s.n ∧ s.n ≤ fuel) (hf : fuel ≤ 10000) :
    Calls Try.prog 47 #[.pointer (some ⟨rb, 0, none⟩)] w fun e w' => e = .returned (.bool (!(s.n == fuel))) ∧ RunAt w' rb cb toks fuel (stp fuel s) ∧ Kp rb w w' := by
  have H : Hid (RunAt w rb cb toks fuel s) := h
  have c5 := h.c5
  have c6 := h.c6
  have c7 := h.c7
  have f5 := h.f 5
  have f7 := h.f 7
  cases he : (s.n == fuel)
  · have hne : s.n ≠ fuel := by simpa using he
    have HS : Hid (stp fuel s = { s with n := s.n + 1 }) := by show _ = _; unfold stp; rw [if_neg hne]
    clear h
    generalize hN : s.n = N at *
    go_enter Try.func47, Try.ntmps47
    go_wp2
    go_quiet (fail)
    go_wp2
    go_ret
    refine ⟨rfl, ?_, ?_⟩
    · rw [HS.out]
      exact (H.out.drewN _).put 5 (N + 1) (by decide) rfl rfl rfl rfl (by rw [if_pos rfl]) (by decide) rfl (by decide)
    · exact ((Kp.refl _ _).drewN _).setCell (Or.inl rfl) _
  · have hne : s.n = fuel := by simpa using he
    have HS : Hid (stp fuel s = { s with e := 1 }) := by show _ = _; unfold stp; rw [if_pos hne]
    clear h
    generalize hN : s.n = N at *
    go_enter Try.func47, Try.ntmps47
    go_wp2
    go_quiet (fail)
    go_wp2
    go_ret
    refine ⟨rfl, ?_, ?_⟩
    · rw [HS.out]
      exact (H.out.drewN _).put 7 1 (by decide) rfl rfl rfl rfl (by rw [if_neg (by decide)]; exact hN) (by decide) (by rw [if_pos rfl]) (by decide)
    · exact ((Kp.refl _ _).drewN _).setCell (Or.inl rfl) _

/-- What valued answers of a formula's text. -/
theorem valued_f (f : Fm) (x1 x2 x3 x4 : Int) (w : World) (h : fOk f) (hl : (sbs (fsy f)).length ≤ 4000) (hg : gds x1 x2 x3 x4 = true) :
    Calls Try.prog 21 #[.string (ftx f), .agg #[.int .i64 x1, .int .i64 x2, .int .i64 x3, .int .i64 x4]] w fun e w' => e = .returned (.bool (ev x1 x2 x3 x4 f)) ∧ Below w.heap.size w w' := by
  have := valued_any (ftx f) x1 x2 x3 x4 (fsy f) w (by show (sbs (fsy f)).toArray.size ≤ maxLen; unfold maxLen; simp; omega) (pars_ftx h hl) hg
  rw [val_ftx h hl] at this
  exact this

set_option maxRecDepth 100000 in
set_option maxHeartbeats 1000000 in
theorem run_asks (w : World) (rb cb : Nat) (fuel : Int) (s : RS) (k k' : Nat) (f : Fm) (h : RunAt w rb cb toks fuel s) (hi : Inv fuel s) (hf : fuel ≤ 10000) (hl : ∀ j, (sAt toks j).length ≤ 300) (hr : Rd toks .form k f k') (hk : k' ≤ 300) :
    Calls Try.prog 48 #[.pointer (some ⟨rb, 0, none⟩), .int .i64 (k : Int)] w fun e w' => e = .returned (.tuple #[.bool (!(s.n == fuel) && (stp fuel s).ev f), .int .i64 (k' : Int)]) ∧ RunAt w' rb cb toks fuel (stp fuel s) ∧ Kp rb w w' := by
  have hle := hr.le.1
  have H : Hid (RunAt w rb cb toks fuel s) := h
  have c0 := h.c0
  have C1 : Hid (Calls Try.prog 20 #[.pointer (some ⟨cb, 0, none⟩), .int .i64 (k : Int)] w fun e w' => e = .returned (.tuple #[.string (ftx f), .int .i64 (k' : Int)]) ∧ Below w.heap.size w w') := formula_any toks cb hl k k' f w hr hk (h.code.at h.hb)
  have C2 : Hid (∀ w, RunAt w rb cb toks fuel s → Calls Try.prog 47 #[.pointer (some ⟨rb, 0, none⟩)] w fun e w' => e = .returned (.bool (!(s.n == fuel))) ∧ RunAt w' rb cb toks fuel (stp fuel s) ∧ Kp rb w w') := fun w h => run_step w rb cb fuel s h ⟨hi.1, hi.2.1⟩ hf
  have hi1 := (inv_stp hi).1
  have C3 : Hid (∀ w, Calls Try.prog 21 #[.string (ftx f), .agg #[.int .i64 (stp fuel s).x1, .int .i64 (stp fuel s).x2, .int .i64 (stp fuel s).x3, .int .i64 (stp fuel s).x4]] w fun e w' => e = .returned (.bool ((stp fuel s).ev f)) ∧ Below w.heap.size w w') := fun w => valued_f f _ _ _ _ w (rd_ok hr (fun g h => by cases h)) (by have := rd_len hr; simp only [tgL] at this; omega) hi1.2.2.1
  clear h hr hi hi1
  generalize stp fuel s = s1 at *
  generalize s1.ev f = V at *
  generalize ftx f = F at *
  cases he : (s.n == fuel)
  · rw [he] at C2
    go_enter Try.func48, Try.ntmps48
    go_wp2_with fail
    refine C1.out.mono ?_
    rintro e w1 ⟨rfl, hb1⟩
    have A1 := H.out.below hb1
    go_wp2_with fail
    refine (C2.out _ A1).mono ?_
    rintro e w2 ⟨rfl, A2, k2⟩
    have d1 := A2.c1
    have d2 := A2.c2
    have d3 := A2.c3
    have d4 := A2.c4
    go_wp2_with fail
    refine (C3.out _).mono ?_
    rintro e w3 ⟨rfl, hb3⟩
    go_wp2_with fail
    go_ret2
    exact ⟨rfl, A2.below hb3, ((Kp.of_below hb1).trans k2).trans (Kp.of_below hb3)⟩
  · rw [he] at C2
    go_enter Try.func48, Try.ntmps48
    go_wp2_with fail
    refine C1.out.mono ?_
    rintro e w1 ⟨rfl, hb1⟩
    have A1 := H.out.below hb1
    go_wp2_with fail
    refine (C2.out _ A1).mono ?_
    rintro e w2 ⟨rfl, A2, k2⟩
    go_wp2_with fail
    go_ret2
    exact ⟨rfl, A2, (Kp.of_below hb1).trans k2⟩
end Go.Proofs.Ytkinoehmcfhgbaa.Vl
set_option linter.unusedVariables false
set_option linter.unusedSimpArgs false
namespace Go.Proofs.Ytkinoehmcfhgbaa.Vl
open Go.RowKit
open Go.Proofs.Ytkinoehmcfhgbaa.Av (vr rvariable_any Fm Rd Tg sAt trm trm_range rel rel_range vr_range Cm Rc Kp set_other)

def ComR (toks : List (List UInt8 × Nat)) (rb cb : Nat) (fuel : Int) (n : Nat) : Prop := ∀ (k k' : Nat) (c : Cm) (w : World) (s : RS), Rc toks false k c k' → k' ≤ k + n → k' ≤ 300 → RunAt w rb cb toks fuel s → Inv fuel s → s.e < 0 →
  Calls Try.prog 31 #[.pointer (some ⟨rb, 0, none⟩), .int .i64 (k : Int)] w fun e w' => e = .returned (.tuple #[]) ∧ RunAt w' rb cb toks fuel (ex fuel c s) ∧ Kp rb w w'
def AllR (toks : List (List UInt8 × Nat)) (rb cb : Nat) (fuel : Int) (n : Nat) : Prop := ∀ (k k' : Nat) (c : Cm) (w : World) (s : RS), Rc toks true k c k' → k' ≤ k + n → k' ≤ 300 → RunAt w rb cb toks fuel s → Inv fuel s → s.e < 0 →
  Calls Try.prog 19 #[.pointer (some ⟨rb, 0, none⟩), .int .i64 (k : Int)] w fun e w' => e = .returned (.tuple #[]) ∧ RunAt w' rb cb toks fuel (ex fuel c s) ∧ Kp rb w w'
/-- What goes on behind a command, and what the run comes to. -/
def NxR (toks : List (List UInt8 × Nat)) (fuel : Int) (p k' : Nat) (s R : RS) : Prop := (p = k' ∧ sAt toks p ≠ [59] ∧ R = s) ∨ (sAt toks p = [59] ∧ ∃ r, Rc toks true (p + 1) r k' ∧ R = if 0 ≤ s.e then s else ex fuel r s)
theorem rc_firstR {toks : List (List UInt8 × Nat)} {k k' : Nat} {c : Cm} (h : Rc toks true k c k') (fuel : Int) (s : RS) : ∃ c1 p, Rc toks false k c1 p ∧ NxR toks fuel p k' (ex fuel c1 s) (ex fuel c s) ∧ p ≤ k' := by
  cases h with
  | one a b => exact ⟨_, _, a, Or.inl ⟨rfl, b, rfl⟩, Nat.le_refl _⟩
  | seq a b d => exact ⟨_, _, a, Or.inr ⟨b, _, d, rfl⟩, by have := d.le; omega⟩

set_option maxRecDepth 100000 in
set_option maxHeartbeats 2000000 in
theorem run_all (toks : List (List UInt8 × Nat)) (rb cb : Nat) (fuel : Int) (n : Nat) (hl : ∀ j, (sAt toks j).length ≤ 300) (HF : ComR toks rb cb fuel n) : AllR toks rb cb fuel n := by
  intro k k' c w s hr hn hk ha hi he
  obtain ⟨c1, k1, h1, hx, l2⟩ := rc_firstR hr fuel s
  have l1 := h1.le
  have HX : Hid (NxR toks fuel k1 k' (ex fuel c1 s) (ex fuel c s)) := hx
  have HI : Hid (Inv fuel (ex fuel c1 s)) := (inv_ex c1 s hi).1
  have C1 : Hid (Calls Try.prog 31 #[.pointer (some ⟨rb, 0, none⟩), .int .i64 (k : Int)] w fun e w' => e = .returned (.tuple #[]) ∧ RunAt w' rb cb toks fuel (ex fuel c1 s) ∧ Kp rb w w') := HF k k1 c1 w s h1 (by omega) (by omega) ha hi he
  have CK : Hid (∀ w, CodeAt w cb toks → Calls Try.prog 32 #[.pointer (some ⟨cb, 0, none⟩), .int .i64 (k : Int)] w fun e w' => e = .returned (.int .i64 (k1 : Int)) ∧ Below w.heap.size w w') := fun w hc => skip_any toks cb hl k k1 c1 w h1 (by omega) hc
  clear hr h1 hx ha hi he
  generalize ex fuel c s = R at *
  generalize ex fuel c1 s = s1 at *
  go_enter Try.func19, Try.ntmps19
  go_wp2_with fail
  refine C1.out.mono ?_
  rintro e w1 ⟨rfl, A1, K1⟩
  have c0 := A1.c0
  go_wp2_with fail
  refine (CK.out _ (A1.code.at A1.hb)).mono ?_
  rintro e w2 ⟨rfl, hb2⟩
  have A2 := A1.below hb2
  have K2 := K1.trans (Kp.of_below hb2)
  clear A1 K1 c0
  go_wp2_with fail
  go_loopg [1] (k' - k1) (fun g at_ wr => ∃ (p : Nat) (s2 : RS), at_ = .int .i64 (p : Int) ∧ g = k' - p ∧ k1 ≤ p ∧ p ≤ k' ∧ Hid (NxR toks fuel p k' s2 R) ∧ Hid (Inv fuel s2) ∧ RunAt wr rb cb toks fuel s2 ∧ Kp rb w wr)
  case atStart => exact ⟨k1, s1, rfl, rfl, Nat.le_refl _, l2, HX, HI, A2, K2⟩
  case round =>
    obtain ⟨p, s2, rfl, hg, hp1, hp2, HR, HV, hA, hK⟩ := hrel
    have c0 := hA.c0
    have c7 := hA.c7
    by_cases he : s2.e < 0
    · have hd : decide (s2.e < 0) = true := decide_eq_true he
      have CS' : Hid (Calls Try.prog 33 #[.pointer (some ⟨cb, 0, none⟩), .int .i64 (p : Int)] wr fun e w' => e = .returned (.string ⟨(sAt toks p).toArray⟩) ∧ wr = w') := code_s toks cb p wr (hA.code.at hA.hb) (by omega)
      rcases HR.out with ⟨rfl, hne, rfl⟩ | ⟨heq, r, hrest, hR⟩
      · have hb : (sAt toks p == [59]) = false := by rw [beq_eq_false_iff_ne]; exact hne
        clear hne HR
        generalize sAt toks p = S at *
        go_wp2_with fail
        refine CS'.out.mono ?_
        rintro e w2 ⟨rfl, rfl⟩
        go_wp2_with fail
        go_end0
        exact ⟨rfl, hA, hK⟩
      · obtain ⟨c2, q, h2, hx2, l4⟩ := rc_firstR hrest fuel s2
        have l3 := h2.le
        rw [if_neg (by omega)] at hR
        rw [← hR] at hx2
        have HX2 : Hid (NxR toks fuel q k' (ex fuel c2 s2) R) := hx2
        have HI2 : Hid (Inv fuel (ex fuel c2 s2)) := (inv_ex c2 s2 HV.out).1
        have C2 : Hid (Calls Try.prog 31 #[.pointer (some ⟨rb, 0, none⟩), .int .i64 ((p : Int) + 1)] wr fun e w' => e = .returned (.tuple #[]) ∧ RunAt w' rb cb toks fuel (ex fuel c2 s2) ∧ Kp rb wr w') := HF (p + 1) q c2 wr s2 h2 (by omega) (by omega) hA HV.out he
        have CK2 : Hid (∀ w, CodeAt w cb toks → Calls Try.prog 32 #[.pointer (some ⟨cb, 0, none⟩), .int .i64 ((p : Int) + 1)] w fun e w' => e = .returned (.int .i64 (q : Int)) ∧ Below w.heap.size w w') := fun w hc => skip_any toks cb hl (p + 1) q c2 w h2 (by omega) hc
        rw [heq] at CS'
        clear h2 hrest heq hx2 HR hR HX CK C1 HF hl
        generalize ex fuel c2 s2 = s3 at *
        go_wp2_with fail
        refine CS'.out.mono ?_
        rintro e w2 ⟨rfl, rfl⟩
        go_wp2_with fail
        refine C2.out.mono ?_
        rintro e w3 ⟨rfl, A3, K3⟩
        have c0' := A3.c0
        go_wp2_with fail
        refine (CK2.out _ (A3.code.at A3.hb)).mono ?_
        rintro e w4 ⟨rfl, hb4⟩
        go_wp2_with fail
        go_roundg (k' - q)
        case rel => exact ⟨q, s3, rfl, rfl, by omega, by omega, HX2, HI2, A3.below hb4, (hK.trans K3).trans (Kp.of_below hb4)⟩
        case measure => omega
    · have hd : decide (s2.e < 0) = false := decide_eq_false he
      have hR : R = s2 := by
        rcases HR.out with ⟨_, _, h⟩ | ⟨_, r, _, h⟩
        · exact h
        · rw [h, if_pos (by omega)]
      subst hR
      clear HR HX
      go_wp2_with fail
      go_end0
      exact ⟨rfl, hA, hK⟩
end Go.Proofs.Ytkinoehmcfhgbaa.Vl
