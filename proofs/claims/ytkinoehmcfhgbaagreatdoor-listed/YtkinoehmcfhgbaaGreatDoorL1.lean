/-
  The walk of the document's put.
  The walks of the document's factor, part, formula.
-/
import Derived.Test.YtkinoehmcfhgbaaGreatDoorL0
import Derived.Test.YtkinoehmcfhgbaaGreatDoorRead
set_option linter.unusedVariables false
set_option linter.unusedSimpArgs false
namespace Go.Proofs.YtkinoehmcfhgbaaGreatDoor.Vl
open Go.RowKit

theorem lt_beq {a b : Int} (a0 : 0 ≤ a) (a4 : a ≤ 4) (b0 : 0 ≤ b) (b4 : b ≤ 4) : (lt a == lt b) = decide (a = b) := by
  by_cases h : a = b
  · subst h; simp
  · rw [lt_inj a0 a4 b0 b4 h]; simp [h]
theorem map_bl {K x u n : Int} {ys : List Sym} (hu0 : 0 ≤ u) (hu4 : u ≤ 4) (hn : -999 ≤ n ∧ n ≤ 999) (hK : K + 999 ≤ 999999) (h : Gd K ys) : bl (ys.map (rpl x u n)) ≤ 13 * ys.length := by
  have := (bl_count (gd_map (x := x) hu0 hu4 hn hK h)).2
  rwa [List.length_map] at this

set_option maxRecDepth 100000 in
set_option maxHeartbeats 2000000 in
theorem put_any (ys : List Sym) (x u n K : Int) (w : World) (hx : 1 ≤ x ∧ x ≤ 4) (hu : 0 ≤ u ∧ u ≤ 4) (hn : -999 ≤ n ∧ n ≤ 999) (hK : K + 999 ≤ 999999) (hg : Gd K ys) (hs : bl ys ≤ 4000) :
    Calls Tryz.prog 104 #[strV (sbs ys), strV [lt x], strV [lt u], .int .i64 n] w fun e w' => e = .returned (strV (sbs (ys.map (rpl x u n)))) ∧ Below w.heap.size w w' := by
  have hsz : (⟨(sbs ys).toArray⟩ : ByteArray).size = bl ys := by simp [bl, ByteArray.size]
  have CA : Hid (∀ (k : Nat) w, k ≤ bl ys → Calls Tryz.prog 117 #[.string ⟨(sbs ys).toArray⟩, .int .i64 (k : Int)] w fun e w' => e = .returned (atmV k (atm (rest ⟨(sbs ys).toArray⟩ k))) ∧ Below w.heap.size w w') := fun k w hk => atomAt_any _ k w (by rw [hsz]; exact hs) (by rw [hsz]; exact hk)
  have HG : Hid (Gd K ys) := hg
  have hcnt := (bl_count hg).1
  have HT : Hid (∀ a b : List Sym, ys = a ++ b → rest ⟨(sbs ys).toArray⟩ (bl a) = sbs b) := fun a b e => by rw [e]; exact rest_sbs a b
  clear hg
  unfold strV
  generalize hS : (⟨(sbs ys).toArray⟩ : ByteArray) = S at *
  go_enter Tryz.func104, Tryz.ntmps104
  go_wp2
  go_loopw [9, 10] (fun o i wr => ∃ (a b : List Sym), ys = a ++ b ∧ i = .int .i64 ((bl a : Nat) : Int) ∧ o = .string ⟨(sbs (a.map (rpl x u n))).toArray⟩ ∧ Below w.heap.size w wr) (fun _ i _ => bl ys - (intOf i).toNat)
  case atStart => exact ⟨[], ys, rfl, rfl, rfl, Below.refl _ _⟩
  case round =>
    obtain ⟨a, b, hab, rfl, rfl, hb⟩ := hrel
    have hla : bl a ≤ bl ys := by rw [hab, bl_app]; omega
    have hga : Gd K a := fun y hy => HG.out y (by rw [hab]; exact List.mem_append_left _ hy)
    have hlen : a.length ≤ 4000 := by have := (bl_count hga).1; omega
    have hlo : (sbs (a.map (rpl x u n))).length ≤ 52000 := by have := map_bl (x := x) hu.1 hu.2 hn hK hga; unfold bl at this; omega
    clear hga
    cases b with
    | nil =>
      have hlt : ¬ ((bl a : Nat) : Int) < (S.size : Int) := by rw [hsz, hab, List.append_nil]; omega
      have HE : Hid (ys = a) := by show _ = _; rw [hab, List.append_nil]
      clear hab
      generalize hO : sbs (a.map (rpl x u n)) = O at *
      generalize bl a = A at *
      go_wp2
      go_ret
      exact ⟨by rw [HE.out, hO]; rfl, hb⟩
    | cons y r =>
      have hg := HG.out y (by rw [hab]; simp)
      have hly := good_len hg.1
      have hA : Hid (rest S (bl a) = sb y ++ sbs r) := HT.out a (y :: r) hab
      have hsum : bl a + (sb y).length ≤ bl ys := by rw [hab, bl_app, bl_cons]; omega
      have hlt : ((bl a : Nat) : Int) < (S.size : Int) := by rw [hsz]; omega
      have hle : ((bl a : Nat) : Int) + ((sb y).length : Int) ≤ (S.size : Int) := by rw [hsz]; omega
      have HSZ : Hid (S.size = bl ys) := hsz
      clear hsz
      have HAB : Hid (ys = (a ++ [y]) ++ r) := by show _ = _; rw [hab]; simp
      have HBL : Hid (bl (a ++ [y]) = bl a + (sb y).length) := by show _ = _; rw [bl_app, bl_cons]; rfl
      have HMP : Hid (sbs ((a ++ [y]).map (rpl x u n)) = sbs (a.map (rpl x u n)) ++ sb (rpl x u n y)) := by
        show _ = _
        rw [List.map_append, sbs_append]
        simp [sbs]
      have CA' := CA.out (bl a) wr hla
      rw [hA.out] at CA'
      have hwr := hb.size
      by_cases h6 : y.1 = 6
      · rw [atm_atom hg.1 h6] at CA'
        obtain ⟨g0, g6, _, ga⟩ := hg.1
        obtain ⟨a1, a2, a3, a4, a5, a6, a7⟩ := ga h6
        have hKN := hg.2 h6
        have CL : Hid (∀ v w, 0 ≤ v → v ≤ 4 → Calls Tryz.prog 105 #[.int .i64 (v - 1)] w fun e w' => e = .returned (.string ⟨[lt v].toArray⟩) ∧ w = w') := fun v w h0 h4 => by
          have := letter_any (v - 1) w (by omega) (by omega)
          rwa [show v - 1 + 1 = v by omega] at this
        have CT : Hid (∀ a b n w, 0 ≤ a → a ≤ 4 → 0 ≤ b → b ≤ 4 → -999999 ≤ n → n ≤ 999999 → Calls Tryz.prog 149 #[.string ⟨[lt a].toArray⟩, .string ⟨[lt b].toArray⟩, .int .i64 n] w fun e w' => e = .returned (.string ⟨(sb (aty a b n)).toArray⟩) ∧ Below w.heap.size w w') := fun a b n w a0 a4 b0 b4 h0 h1 => atom_any a b n w a0 a4 b0 b4 h0 h1
        have e1 := lt_beq a1 a2 (show 0 ≤ x by omega) hx.2
        have e2 := lt_beq a3 a4 (show 0 ≤ x by omega) hx.2
        have HSB : Hid (∀ e, e = bl a + (sb y).length → S.extract (bl a) e = ⟨(sb y).toArray⟩) := fun e he => by
          rw [extract_str, hA.out, he]
          simp
        obtain ⟨q, U, V, N⟩ := y
        dsimp only at *
        subst h6
        clear hab hg ga g0 g6 hA HG CA
        simp only [atmV] at CA'
        have HCA : Hid _ := CA'
        clear CA'
        generalize hLY : (sb (6, U, V, N)).length = LY at *
        have C1 : Hid (∀ w, Calls Tryz.prog 105 #[.int .i64 (U - 1)] w fun e w' => e = .returned (.string ⟨[lt U].toArray⟩) ∧ w = w') := fun w => CL.out U w a1 a2
        have C2 : Hid (∀ w, Calls Tryz.prog 105 #[.int .i64 (V - 1)] w fun e w' => e = .returned (.string ⟨[lt V].toArray⟩) ∧ w = w') := fun w => CL.out V w a3 a4
        by_cases hU : U = x
        · have HR : Hid (rpl x u n (6, U, V, N) = aty u V (N - n)) := by show _ = _; unfold rpl; rw [if_pos rfl, if_pos hU]
          have C3 : Hid (∀ w, Calls Tryz.prog 149 #[.string ⟨[lt u].toArray⟩, .string ⟨[lt V].toArray⟩, .int .i64 (N - n)] w fun e w' => e = .returned (.string ⟨(sb (aty u V (N - n))).toArray⟩) ∧ Below w.heap.size w w') := fun w => CT.out u V (N - n) w hu.1 hu.2 a3 a4 (by omega) (by omega)
          have hl3 : (sb (aty u V (N - n))).length ≤ 13 := aty_len13 (by omega) (by omega)
          rw [decide_eq_true hU] at e1
          rw [HR.out] at HMP
          clear CL CT HR e2 hU
          generalize hO : sbs (a.map (rpl x u n)) = O at *
          generalize hT : sb (aty u V (N - n)) = T at *
          generalize hA : bl a = A at *
          generalize lt U = LU at *
          generalize lt V = LV at *
          generalize lt x = LX at *
          generalize lt u = LW at *
          go_wp2_with fail
          refine Calls.mono HCA.out ?_
          rintro e w1 ⟨rfl, hb1⟩
          have hB1 : Below w.heap.size w w1 := hb.trans (hb1.mono hwr)
          have hB2 : Below w.heap.size w (w1.alloc (.cells #[.int .i64 U, .int .i64 V, .int .i64 N] 236)) := hB1.alloc hB1.size _
          clear hb1 HCA
          go_wp2_with (first
            | (go_at_call 105; first | (refine (C1.out _).mono ?_; rintro e w' ⟨rfl, rfl⟩) | (refine (C2.out _).mono ?_; rintro e w' ⟨rfl, rfl⟩))
            | (go_at_call 149; refine (C3.out _).mono ?_; rintro e w3 ⟨rfl, hb3⟩))
          go_roundw
          case rel =>
            refine ⟨a ++ [(6, U, V, N)], r, HAB.out, ?_, ?_, ?_⟩
            · rw [HBL.out]; first | rfl | (congr 1; omega)
            · rw [HMP.out]; exact (congrArg _ (str_app O T))
            · exact hB2.trans (hb3.mono hB2.size)
          case measure =>
            have := HBL.out
            simp [intOf]
            omega
        · rw [decide_eq_false hU] at e1
          by_cases hV : V = x
          · have HR : Hid (rpl x u n (6, U, V, N) = aty U u (N + n)) := by show _ = _; unfold rpl; rw [if_pos rfl, if_neg hU, if_pos hV]
            have C3 : Hid (∀ w, Calls Tryz.prog 149 #[.string ⟨[lt U].toArray⟩, .string ⟨[lt u].toArray⟩, .int .i64 (N + n)] w fun e w' => e = .returned (.string ⟨(sb (aty U u (N + n))).toArray⟩) ∧ Below w.heap.size w w') := fun w => CT.out U u (N + n) w a1 a2 hu.1 hu.2 (by omega) (by omega)
            have hl3 : (sb (aty U u (N + n))).length ≤ 13 := aty_len13 (by omega) (by omega)
            rw [decide_eq_true hV] at e2
            rw [HR.out] at HMP
            clear CL CT HR hV hU
            generalize hO : sbs (a.map (rpl x u n)) = O at *
            generalize hT : sb (aty U u (N + n)) = T at *
            generalize hA : bl a = A at *
            generalize lt U = LU at *
            generalize lt V = LV at *
            generalize lt x = LX at *
            generalize lt u = LW at *
            go_wp2_with fail
            refine Calls.mono HCA.out ?_
            rintro e w1 ⟨rfl, hb1⟩
            have hB1 : Below w.heap.size w w1 := hb.trans (hb1.mono hwr)
            have hB2 : Below w.heap.size w (w1.alloc (.cells #[.int .i64 U, .int .i64 V, .int .i64 N] 236)) := hB1.alloc hB1.size _
            clear hb1 HCA
            go_wp2_with (first
              | (go_at_call 105; first | (refine (C1.out _).mono ?_; rintro e w' ⟨rfl, rfl⟩) | (refine (C2.out _).mono ?_; rintro e w' ⟨rfl, rfl⟩))
              | (go_at_call 149; refine (C3.out _).mono ?_; rintro e w3 ⟨rfl, hb3⟩))
            go_roundw
            case rel =>
              refine ⟨a ++ [(6, U, V, N)], r, HAB.out, ?_, ?_, ?_⟩
              · rw [HBL.out]; first | rfl | (congr 1; omega)
              · rw [HMP.out]; exact (congrArg _ (str_app O T))
              · exact hB2.trans (hb3.mono hB2.size)
            case measure =>
              have := HBL.out
              simp [intOf]
              omega
          · have HR : Hid (rpl x u n (6, U, V, N) = (6, U, V, N)) := by show _ = _; unfold rpl; rw [if_pos rfl, if_neg hU, if_neg hV]
            rw [decide_eq_false hV] at e2
            rw [HR.out] at HMP
            have HX := HSB.out (bl a + LY) rfl
            have hlT : (sb (6, U, V, N)).length ≤ 13 := by omega
            clear CL CT HR HSB
            generalize hO : sbs (a.map (rpl x u n)) = O at *
            generalize hT : sb (6, U, V, N) = T at *
            generalize hA : bl a = A at *
            generalize lt U = LU at *
            generalize lt V = LV at *
            generalize lt x = LX at *
            generalize lt u = LW at *
            go_wp2_with fail
            refine Calls.mono HCA.out ?_
            rintro e w1 ⟨rfl, hb1⟩
            have hB1 : Below w.heap.size w w1 := hb.trans (hb1.mono hwr)
            have hB2 : Below w.heap.size w (w1.alloc (.cells #[.int .i64 U, .int .i64 V, .int .i64 N] 236)) := hB1.alloc hB1.size _
            clear hb1 HCA
            go_wp2_with (first
              | (go_at_call 105; first | (refine (C1.out _).mono ?_; rintro e w' ⟨rfl, rfl⟩) | (refine (C2.out _).mono ?_; rintro e w' ⟨rfl, rfl⟩)))
            go_roundw
            case rel =>
              refine ⟨a ++ [(6, U, V, N)], r, HAB.out, ?_, ?_, ?_⟩
              · rw [HBL.out]; first | rfl | (congr 1; omega)
              · rw [HMP.out]; exact (congrArg _ (str_app O T))
              · exact hB2
            case measure =>
              have := HBL.out
              simp [intOf]
              omega
      · rw [(atm_no hg.1 h6 (sbs r)).1] at CA'
        have hl1 := (atm_no hg.1 h6 (sbs r)).2
        have HR : Hid (rpl x u n y = y) := by show _ = _; unfold rpl; rw [if_neg h6]
        rw [HR.out] at HMP
        have HX : S.extract (bl a) (bl a + 1) = ⟨(sb y).toArray⟩ := by
          rw [extract_str, hA.out, show bl a + 1 - bl a = (sb y).length by omega]
          simp
        simp only [atmV] at CA'
        have HCA : Hid _ := CA'
        clear CA' hA hab hg CA HG HR
        rw [hl1] at hle hsum HBL
        generalize hO : sbs (a.map (rpl x u n)) = O at *
        generalize hT : sb y = T at *
        generalize hA : bl a = A at *
        generalize lt x = LX at *
        generalize lt u = LW at *
        go_wp2_with fail
        refine Calls.mono HCA.out ?_
        rintro e w1 ⟨rfl, hb1⟩
        have hB1 : Below w.heap.size w w1 := hb.trans (hb1.mono hwr)
        have hB2 : Below w.heap.size w (w1.alloc (.cells #[.int .i64 0, .int .i64 0, .int .i64 0] 236)) := hB1.alloc hB1.size _
        clear hb1 HCA
        go_wp2_with fail
        go_roundw
        case rel =>
          refine ⟨a ++ [y], r, HAB.out, ?_, ?_, hB2⟩
          · rw [HBL.out]; first | rfl | (congr 1; omega)
          · rw [HMP.out]; exact (congrArg _ (str_app O T))
        case measure =>
          have := HBL.out
          simp [intOf]
          omega
end Go.Proofs.YtkinoehmcfhgbaaGreatDoor.Vl
set_option linter.unusedVariables false
set_option linter.unusedSimpArgs false
namespace Go.Proofs.YtkinoehmcfhgbaaGreatDoor.Vl
open Go.RowKit
open Go.Proofs.YtkinoehmcfhgbaaGreatDoor.Av (vr rvariable_any Fm Rd Tg sAt trm trm_range rel rel_range vr_range)

def FacD (toks : List (List UInt8 × Nat)) (cb n : Nat) : Prop := ∀ (k k' : Nat) (f : Fm) (w : World), Rd toks .fac k f k' → k' ≤ k + n → k' ≤ 300 → CodeAt w cb toks → Calls Tryz.prog 102 #[.pointer (some ⟨cb, 0, none⟩), .int .i64 (k : Int)] w fun e w' => e = .returned (.tuple #[.string (ftx f), .int .i64 (k' : Int)]) ∧ Below w.heap.size w w'
def PartD (toks : List (List UInt8 × Nat)) (cb n : Nat) : Prop := ∀ (k k' : Nat) (f : Fm) (w : World), Rd toks .part k f k' → k' ≤ k + n → k' ≤ 300 → CodeAt w cb toks → Calls Tryz.prog 65 #[.pointer (some ⟨cb, 0, none⟩), .int .i64 (k : Int)] w fun e w' => e = .returned (.tuple #[.string (ftx f), .int .i64 (k' : Int)]) ∧ Below w.heap.size w w'
def ForD (toks : List (List UInt8 × Nat)) (cb n : Nat) : Prop := ∀ (k k' : Nat) (f : Fm) (w : World), Rd toks .form k f k' → k' ≤ k + n → k' ≤ 300 → CodeAt w cb toks → Calls Tryz.prog 39 #[.pointer (some ⟨cb, 0, none⟩), .int .i64 (k : Int)] w fun e w' => e = .returned (.tuple #[.string (ftx f), .int .i64 (k' : Int)]) ∧ Below w.heap.size w w'

set_option maxRecDepth 100000 in
set_option maxHeartbeats 1000000 in
theorem code_part (toks : List (List UInt8 × Nat)) (cb n : Nat) (HF : FacD toks cb n) : PartD toks cb n := by
  intro k k' h w hr hn hk hc
  obtain ⟨k1, f, hfac, hL⟩ : ∃ k1 f, Rd toks .fac k f k1 ∧ Rd toks (.partL f) k1 h k' := by cases hr; exact ⟨_, _, ‹_›, ‹_›⟩
  have l1 := hfac.le.2 (by simp)
  have l2 := hL.le.1
  have HH : Hid (Rd toks (.partL f) k1 h k') := hL
  have C1 : Hid (Calls Tryz.prog 102 #[.pointer (some ⟨cb, 0, none⟩), .int .i64 (k : Int)] w fun e w' => e = .returned (.tuple #[.string (ftx f), .int .i64 (k1 : Int)]) ∧ Below w.heap.size w w') := HF k k1 f w hfac (by omega) (by omega) hc
  have CS : Hid (∀ (j : Nat) (w : World), j ≤ 300 → CodeAt w cb toks → Calls Tryz.prog 66 #[.pointer (some ⟨cb, 0, none⟩), .int .i64 (j : Int)] w fun e w' => e = .returned (.string ⟨(sAt toks j).toArray⟩) ∧ w = w') := fun j w hj hc => code_s toks cb j w hc (by omega)
  have hlf := rd_len hfac
  have HLf : Hid ((sbs (fsy f)).length ≤ 8 * k1) := by show _ ≤ _; simp only [tgL] at hlf; omega
  clear hr hfac hL hlf
  go_enter Tryz.func65, Tryz.ntmps65
  go_wp2_with fail
  refine C1.out.mono ?_
  rintro e w1 ⟨rfl, hb1⟩
  have hc1 := hc.below hb1
  go_wp2_with fail
  go_loopw [1, 6, 7, 8] (fun at_ fv _ _ wr => ∃ (p : Nat) (F : Fm), at_ = .int .i64 (p : Int) ∧ fv = .string (ftx F) ∧ k1 ≤ p ∧ p ≤ k' ∧ Hid (Rd toks (.partL F) p h k') ∧ Hid ((sbs (fsy F)).length ≤ 8 * p) ∧ CodeAt wr cb toks ∧ Below w.heap.size w wr) (fun at_ _ _ _ _ => k' - (intOf at_).toNat)
  case atStart => exact ⟨k1, f, rfl, rfl, Nat.le_refl _, l2, HH, HLf, hc1, hb1⟩
  case round =>
    obtain ⟨p, F, rfl, rfl, hp1, hp2, HR, HL, hcr, hbr⟩ := hrel
    have CS' : Hid (Calls Tryz.prog 66 #[.pointer (some ⟨cb, 0, none⟩), .int .i64 (p : Int)] wr fun e w' => e = .returned (.string ⟨(sAt toks p).toArray⟩) ∧ wr = w') := CS.out p wr (by omega) hcr
    have hcase : (p = k' ∧ F = h ∧ sAt toks p ≠ [97, 110, 100]) ∨ ∃ G q, sAt toks p = [97, 110, 100] ∧ Rd toks .fac (p + 1) G q ∧ Rd toks (.partL (.and F G)) q h k' := by
      have := HR.out
      cases this with
      | partS a b c => exact Or.inr ⟨_, _, a, b, c⟩
      | partE a => exact Or.inl ⟨rfl, rfl, a⟩
    rcases hcase with ⟨rfl, rfl, hne⟩ | ⟨G, q, heq, hin, hrest⟩
    · have hb : (sAt toks p == [97, 110, 100]) = false := by rw [beq_eq_false_iff_ne]; exact hne
      clear hne
      generalize sAt toks p = S at *
      go_wp2_with fail
      refine CS'.out.mono ?_
      rintro e w2 ⟨rfl, rfl⟩
      go_wp2_with fail
      go_ret2
      exact ⟨rfl, hbr⟩
    · have l3 := hin.le.2 (by simp)
      have l4 := hrest.le.1
      have hlg := rd_len hin
      have HR2 : Hid _ := hrest
      have C2 : Hid (Calls Tryz.prog 102 #[.pointer (some ⟨cb, 0, none⟩), .int .i64 ((p : Int) + 1)] wr fun e w' => e = .returned (.tuple #[.string (ftx G), .int .i64 (q : Int)]) ∧ Below wr.heap.size wr w') := HF (p + 1) q G wr hin (by omega) (by omega) hcr
      rw [heq] at CS'
      have hL := HL.out
      have eL : (sbs (fsy (.and F G))).length = 1 + (sbs (fsy F)).length + (sbs (fsy G)).length := bin_len 3 rfl F G
      have HL2 : Hid ((sbs (fsy (.and F G))).length ≤ 8 * q) := by show _ ≤ _; simp only [tgL] at hlg; omega
      have EX : Hid (({ data := #[38] } : ByteArray) ++ ftx F ++ ftx G = ftx (.and F G)) := by
        show _ = _
        have e1 : (⟨#[38]⟩ : ByteArray) ++ ⟨(sbs (fsy F)).toArray⟩ = ⟨([38] ++ sbs (fsy F)).toArray⟩ := str_app [38] _
        have e2 := str_app ([38] ++ sbs (fsy F)) (sbs (fsy G))
        unfold ftx
        rw [e1, e2]
        have e3 : sbs (fsy (.and F G)) = sb (3, 0, 0, 0) ++ (sbs (fsy F) ++ sbs (fsy G)) := by
          show sbs ((3, 0, 0, 0) :: (fsy F ++ fsy G)) = _
          rw [sbs_cons, sbs_append]
        rw [e3, List.append_assoc]; rfl
      have s1 : (ftx F).size ≤ 2400 := by show (sbs (fsy F)).toArray.size ≤ 2400; simp; omega
      have s2 : (ftx G).size ≤ 2400 := by show (sbs (fsy G)).toArray.size ≤ 2400; simp; simp only [tgL] at hlg; omega
      clear hin hrest heq hL eL hlg HL HR CS
      generalize ftx F = FF at *
      generalize ftx G = GG at *
      go_wp2_with fail
      refine CS'.out.mono ?_
      rintro e w2 ⟨rfl, rfl⟩
      go_wp2_with fail
      refine C2.out.mono ?_
      rintro e w2 ⟨rfl, hb2⟩
      go_wp2_with fail
      go_roundw
      case rel => exact ⟨q, .and F G, rfl, by first | exact congrArg _ EX.out | (rw [EX.out]), by omega, by omega, HR2, HL2, hcr.below hb2, hbr.trans (hb2.mono hbr.size)⟩
      case measure => simp [intOf]; omega

set_option maxRecDepth 100000 in
set_option maxHeartbeats 1000000 in
theorem code_formula (toks : List (List UInt8 × Nat)) (cb n : Nat) (HF : PartD toks cb n) : ForD toks cb n := by
  intro k k' h w hr hn hk hc
  obtain ⟨k1, f, hfac, hL⟩ : ∃ k1 f, Rd toks .part k f k1 ∧ Rd toks (.formL f) k1 h k' := by cases hr; exact ⟨_, _, ‹_›, ‹_›⟩
  have l1 := hfac.le.2 (by simp)
  have l2 := hL.le.1
  have HH : Hid (Rd toks (.formL f) k1 h k') := hL
  have C1 : Hid (Calls Tryz.prog 65 #[.pointer (some ⟨cb, 0, none⟩), .int .i64 (k : Int)] w fun e w' => e = .returned (.tuple #[.string (ftx f), .int .i64 (k1 : Int)]) ∧ Below w.heap.size w w') := HF k k1 f w hfac (by omega) (by omega) hc
  have CS : Hid (∀ (j : Nat) (w : World), j ≤ 300 → CodeAt w cb toks → Calls Tryz.prog 66 #[.pointer (some ⟨cb, 0, none⟩), .int .i64 (j : Int)] w fun e w' => e = .returned (.string ⟨(sAt toks j).toArray⟩) ∧ w = w') := fun j w hj hc => code_s toks cb j w hc (by omega)
  have hlf := rd_len hfac
  have HLf : Hid ((sbs (fsy f)).length ≤ 8 * k1) := by show _ ≤ _; simp only [tgL] at hlf; omega
  clear hr hfac hL hlf
  go_enter Tryz.func39, Tryz.ntmps39
  go_wp2_with fail
  refine C1.out.mono ?_
  rintro e w1 ⟨rfl, hb1⟩
  have hc1 := hc.below hb1
  go_wp2_with fail
  go_loopw [1, 6, 7, 8] (fun at_ fv _ _ wr => ∃ (p : Nat) (F : Fm), at_ = .int .i64 (p : Int) ∧ fv = .string (ftx F) ∧ k1 ≤ p ∧ p ≤ k' ∧ Hid (Rd toks (.formL F) p h k') ∧ Hid ((sbs (fsy F)).length ≤ 8 * p) ∧ CodeAt wr cb toks ∧ Below w.heap.size w wr) (fun at_ _ _ _ _ => k' - (intOf at_).toNat)
  case atStart => exact ⟨k1, f, rfl, rfl, Nat.le_refl _, l2, HH, HLf, hc1, hb1⟩
  case round =>
    obtain ⟨p, F, rfl, rfl, hp1, hp2, HR, HL, hcr, hbr⟩ := hrel
    have CS' : Hid (Calls Tryz.prog 66 #[.pointer (some ⟨cb, 0, none⟩), .int .i64 (p : Int)] wr fun e w' => e = .returned (.string ⟨(sAt toks p).toArray⟩) ∧ wr = w') := CS.out p wr (by omega) hcr
    have hcase : (p = k' ∧ F = h ∧ sAt toks p ≠ [111, 114]) ∨ ∃ G q, sAt toks p = [111, 114] ∧ Rd toks .part (p + 1) G q ∧ Rd toks (.formL (.or F G)) q h k' := by
      have := HR.out
      cases this with
      | formS a b c => exact Or.inr ⟨_, _, a, b, c⟩
      | formE a => exact Or.inl ⟨rfl, rfl, a⟩
    rcases hcase with ⟨rfl, rfl, hne⟩ | ⟨G, q, heq, hin, hrest⟩
    · have hb : (sAt toks p == [111, 114]) = false := by rw [beq_eq_false_iff_ne]; exact hne
      clear hne
      generalize sAt toks p = S at *
      go_wp2_with fail
      refine CS'.out.mono ?_
      rintro e w2 ⟨rfl, rfl⟩
      go_wp2_with fail
      go_ret2
      exact ⟨rfl, hbr⟩
    · have l3 := hin.le.2 (by simp)
      have l4 := hrest.le.1
      have hlg := rd_len hin
      have HR2 : Hid _ := hrest
      have C2 : Hid (Calls Tryz.prog 65 #[.pointer (some ⟨cb, 0, none⟩), .int .i64 ((p : Int) + 1)] wr fun e w' => e = .returned (.tuple #[.string (ftx G), .int .i64 (q : Int)]) ∧ Below wr.heap.size wr w') := HF (p + 1) q G wr hin (by omega) (by omega) hcr
      rw [heq] at CS'
      have hL := HL.out
      have eL : (sbs (fsy (.or F G))).length = 1 + (sbs (fsy F)).length + (sbs (fsy G)).length := bin_len 4 rfl F G
      have HL2 : Hid ((sbs (fsy (.or F G))).length ≤ 8 * q) := by show _ ≤ _; simp only [tgL] at hlg; omega
      have EX : Hid (({ data := #[124] } : ByteArray) ++ ftx F ++ ftx G = ftx (.or F G)) := by
        show _ = _
        have e1 : (⟨#[124]⟩ : ByteArray) ++ ⟨(sbs (fsy F)).toArray⟩ = ⟨([124] ++ sbs (fsy F)).toArray⟩ := str_app [124] _
        have e2 := str_app ([124] ++ sbs (fsy F)) (sbs (fsy G))
        unfold ftx
        rw [e1, e2]
        have e3 : sbs (fsy (.or F G)) = sb (4, 0, 0, 0) ++ (sbs (fsy F) ++ sbs (fsy G)) := by
          show sbs ((4, 0, 0, 0) :: (fsy F ++ fsy G)) = _
          rw [sbs_cons, sbs_append]
        rw [e3, List.append_assoc]; rfl
      have s1 : (ftx F).size ≤ 2400 := by show (sbs (fsy F)).toArray.size ≤ 2400; simp; omega
      have s2 : (ftx G).size ≤ 2400 := by show (sbs (fsy G)).toArray.size ≤ 2400; simp; simp only [tgL] at hlg; omega
      clear hin hrest heq hL eL hlg HL HR CS
      generalize ftx F = FF at *
      generalize ftx G = GG at *
      go_wp2_with fail
      refine CS'.out.mono ?_
      rintro e w2 ⟨rfl, rfl⟩
      go_wp2_with fail
      refine C2.out.mono ?_
      rintro e w2 ⟨rfl, hb2⟩
      go_wp2_with fail
      go_roundw
      case rel => exact ⟨q, .or F G, rfl, by first | exact congrArg _ EX.out | (rw [EX.out]), by omega, by omega, HR2, HL2, hcr.below hb2, hbr.trans (hb2.mono hbr.size)⟩
      case measure => simp [intOf]; omega

set_option maxRecDepth 100000 in
set_option maxHeartbeats 1000000 in
theorem code_factor (toks : List (List UInt8 × Nat)) (cb n : Nat) (hl : ∀ j, (sAt toks j).length ≤ 300) (IH1 : ∀ m, m < n → FacD toks cb m) (IH2 : ∀ m, m < n → ForD toks cb m) : FacD toks cb n := by
  intro k k' f w hr hn hk hc
  have l0 := hr.le.2 (by simp)
  have CS : Hid (Calls Tryz.prog 66 #[.pointer (some ⟨cb, 0, none⟩), .int .i64 (k : Int)] w fun e w' => e = .returned (.string ⟨(sAt toks k).toArray⟩) ∧ w = w') := code_s toks cb k w hc (by omega)
  cases hr with
  | tru h1 =>
    rw [h1] at CS
    clear h1 IH1 IH2
    go_enter Tryz.func102, Tryz.ntmps102
    go_wp2_with fail
    refine CS.out.mono ?_
    rintro e w2 ⟨rfl, rfl⟩
    go_wp2_with fail
    go_ret2
    exact ⟨rfl, Below.refl _ _⟩
  | fls h1 =>
    rw [h1] at CS
    clear h1 IH1 IH2
    go_enter Tryz.func102, Tryz.ntmps102
    go_wp2_with fail
    refine CS.out.mono ?_
    rintro e w2 ⟨rfl, rfl⟩
    go_wp2_with fail
    go_ret2
    exact ⟨rfl, Below.refl _ _⟩
  | @no _ _ g h1 h2 =>
    rw [h1] at CS
    have l2 := h2.le.2 (by simp)
    have hlg := rd_len h2
    have C2 : Hid (Calls Tryz.prog 102 #[.pointer (some ⟨cb, 0, none⟩), .int .i64 ((k : Int) + 1)] w fun e w' => e = .returned (.tuple #[.string (ftx g), .int .i64 (k' : Int)]) ∧ Below w.heap.size w w') := IH1 (n - 1) (by omega) (k + 1) k' g w h2 (by omega) (by omega) hc
    have EX : Hid (({ data := #[33] } : ByteArray) ++ ftx g = ftx (.no g)) := str_app [33] (sbs (fsy g))
    have s2 : (ftx g).size ≤ 2400 := by show (sbs (fsy g)).toArray.size ≤ 2400; simp; simp only [tgL] at hlg; omega
    clear h1 h2 hlg IH1 IH2
    generalize ftx (.no g) = FG at *
    generalize ftx g = GG at *
    go_enter Tryz.func102, Tryz.ntmps102
    go_wp2_with fail
    refine CS.out.mono ?_
    rintro e w2 ⟨rfl, rfl⟩
    go_wp2_with fail
    refine C2.out.mono ?_
    rintro e w2 ⟨rfl, hb⟩
    go_wp2_with fail
    go_ret2
    refine ⟨?_, hb⟩
    rw [← EX.out]; rfl
  | @par _ q _ h1 h2 =>
    rw [h1] at CS
    have l2 := h2.le.2 (by simp)
    have C2 : Hid (Calls Tryz.prog 39 #[.pointer (some ⟨cb, 0, none⟩), .int .i64 ((k : Int) + 1)] w fun e w' => e = .returned (.tuple #[.string (ftx f), .int .i64 (q : Int)]) ∧ Below w.heap.size w w') := IH2 (n - 1) (by omega) (k + 1) q f w h2 (by omega) (by omega) hc
    clear h1 h2 IH1 IH2
    go_enter Tryz.func102, Tryz.ntmps102
    go_wp2_with fail
    refine CS.out.mono ?_
    rintro e w2 ⟨rfl, rfl⟩
    go_wp2_with fail
    refine C2.out.mono ?_
    rintro e w2 ⟨rfl, hb⟩
    go_wp2_with fail
    go_ret2
    exact ⟨rfl, hb⟩
  | cmp h1 h2 h3 h4 =>
    have b1 : (sAt toks k == [116, 114, 117, 101]) = false := by rw [beq_eq_false_iff_ne]; exact h1
    have b2 : (sAt toks k == [102, 97, 108, 115, 101]) = false := by rw [beq_eq_false_iff_ne]; exact h2
    have b3 : (sAt toks k == [110, 111, 116]) = false := by rw [beq_eq_false_iff_ne]; exact h3
    have b4 : (sAt toks k == [40]) = false := by rw [beq_eq_false_iff_ne]; exact h4
    have C2 : Hid _ := code_compared toks cb k w hc (by omega) hl
    have C3 : Hid (Calls Tryz.prog 148 #[.pointer (some ⟨cb, 0, none⟩), .int .i64 (k : Int)] w fun e w' => e = .returned (.tuple #[.string (ftx (.cmp (rel (sAt toks (trm toks k).2.2)) ((trm toks k).1, (trm toks k).2.1) ((trm toks ((trm toks k).2.2 + 1)).1, (trm toks ((trm toks k).2.2 + 1)).2.1))), .int .i64 ((trm toks ((trm toks k).2.2 + 1)).2.2 : Int)]) ∧ Below w.heap.size w w') := C2.out
    clear h1 h2 h3 h4 IH1 IH2 C2
    generalize ftx (.cmp (rel (sAt toks (trm toks k).2.2)) ((trm toks k).1, (trm toks k).2.1) ((trm toks ((trm toks k).2.2 + 1)).1, (trm toks ((trm toks k).2.2 + 1)).2.1)) = FF at *
    generalize (trm toks ((trm toks k).2.2 + 1)).2.2 = q at *
    generalize sAt toks k = S at *
    go_enter Tryz.func102, Tryz.ntmps102
    go_wp2_with fail
    refine CS.out.mono ?_
    rintro e w2 ⟨rfl, rfl⟩
    go_wp2_with fail
    refine C3.out.mono ?_
    rintro e w2 ⟨rfl, hb⟩
    go_wp2_with fail
    go_ret2
    exact ⟨rfl, hb⟩

theorem code_exprs (toks : List (List UInt8 × Nat)) (cb : Nat) (hl : ∀ j, (sAt toks j).length ≤ 300) (n : Nat) : FacD toks cb n ∧ ForD toks cb n := by
  induction n using Nat.strongRecOn with
  | ind n ih =>
    have h1 : FacD toks cb n := code_factor toks cb n hl (fun m hm => (ih m hm).1) (fun m hm => (ih m hm).2)
    exact ⟨h1, code_formula toks cb n (code_part toks cb n h1)⟩
/-- What the document makes of a FORMULA. -/
theorem formula_any (toks : List (List UInt8 × Nat)) (cb : Nat) (hl : ∀ j, (sAt toks j).length ≤ 300) (k k' : Nat) (f : Fm) (w : World) (h : Rd toks .form k f k') (hk : k' ≤ 300) (hc : CodeAt w cb toks) :
    Calls Tryz.prog 39 #[.pointer (some ⟨cb, 0, none⟩), .int .i64 (k : Int)] w fun e w' => e = .returned (.tuple #[.string (ftx f), .int .i64 (k' : Int)]) ∧ Below w.heap.size w w' :=
  (code_exprs toks cb hl k').2 k k' f w h (by omega) hk hc
end Go.Proofs.YtkinoehmcfhgbaaGreatDoor.Vl
