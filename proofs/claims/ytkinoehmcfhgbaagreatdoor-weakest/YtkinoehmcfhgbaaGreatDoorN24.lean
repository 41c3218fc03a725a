/-
  The walk of the call Conditions: the conditions' texts.
  The document's example, THE COUNT, as it stands in tokens.
  The walk of the document's Value.
  What is known of a condition by what is known of its atoms, as the program reckons it, is what the document says: plain words alone.
  The walks of the program's truthOf, Truth.Not, Both and Either.
  The walk of the program's Symbol.settle, where what is known comes by a closure.
-/
import Derived.Test.YtkinoehmcfhgbaaGreatDoorN20
import Derived.Test.YtkinoehmcfhgbaaGreatDoorM5
import Derived.Test.YtkinoehmcfhgbaaGreatDoorV8
set_option linter.unusedVariables false
set_option linter.unusedSimpArgs false
namespace Go.Proofs.YtkinoehmcfhgbaaGreatDoor.Vl
open Go.RowKit
open Go.Proofs.YtkinoehmcfhgbaaGreatDoor.Av (vr Fm Rd Tg sAt Cm Rc tokAt answer)

theorem cls_fit : ∀ (c : Cm) (q : List Sym), fit c q = true → ∀ l ∈ cls c q, bl l ≤ 4000
  | .skip, q, _, l, hl => by cases hl
  | .asg x t, q, _, l, hl => by cases hl
  | .ite f a b, q, h, l, hl => by
    simp only [fit, Bool.and_eq_true] at h
    rcases List.mem_append.1 hl with hl | hl
    · exact cls_fit a q h.1 l hl
    · exact cls_fit b q h.2.1 l hl
  | .loop f g a, q, h, l, hl => by
    simp only [fit, Bool.and_eq_true] at h
    simp only [cls, List.mem_cons] at hl
    rcases hl with rfl | rfl | hl
    · exact of_decide_eq_true h.2.1
    · exact of_decide_eq_true h.2.2.1
    · exact cls_fit a _ h.1 l hl
  | .seq a b, q, h, l, hl => by
    simp only [fit, Bool.and_eq_true] at h
    rcases List.mem_append.1 hl with hl | hl
    · exact cls_fit a _ h.2 l hl
    · exact cls_fit b q h.1 l hl
theorem kb_le (k : Nat) : kb k ≤ 302000 := by unfold kb; omega
theorem gd_cls {toks : List (List UInt8 × Nat)} {t : Bool} {k k' : Nat} {c : Cm} (h : Rc toks t k c k') : k' ≤ 300 → ∀ q, Gd (kb k') q → ∀ l ∈ cls c q, Gd 302000 l := by
  induction h with
  | skip _ => intro _ q _ l hl; cases hl
  | asg _ => intro _ q _ l hl; cases hl
  | @ite k k1 k2 k3 f a b e r1 r2 r3 i1 i2 =>
    intro hk q hq l hl
    have l1 := r1.le.1
    have l2 := r2.le
    have l3 := r3.le
    rcases List.mem_append.1 hl with hl | hl
    · exact i1 (by omega) q (hq.mono (by unfold kb; omega)) l hl
    · exact i2 (by omega) q (hq.mono (by unfold kb; omega)) l hl
  | @loop k k1 k2 k3 f g a e r1 r2 r3 i1 =>
    intro hk q hq l hl
    have l1 := r1.le.1
    have l2 := r2.le.1
    have l3 := r3.le
    have gf : Gd 302000 (fsy f) := (gd_fsy f (rd_ok r1 (fun g h => by cases h))).mono (by omega)
    have gg0 := gd_fsy g (rd_ok r2 (fun g h => by cases h))
    have gg : Gd 302000 (fsy g) := gg0.mono (by omega)
    have gk : Gd (kb k3) (fsy g) := gg0.mono (by unfold kb; omega)
    simp only [cls, List.mem_cons] at hl
    rcases hl with rfl | rfl | hl
    · exact Gd.mark (by omega) (by omega) (Gd.mark (by omega) (by omega) (gg.app (gf.app ((gd_wpc r3 (by omega) _ gk).mono (kb_le _)))))
    · exact Gd.mark (by omega) (by omega) (Gd.mark (by omega) (by omega) (gg.app (Gd.mark (by omega) (by omega) (gf.app (hq.mono (kb_le _))))))
    · exact i1 (by omega) _ gk l hl
  | one _ _ ih => exact ih
  | @seq k k1 k' c r r1 _ r2 i1 i2 =>
    intro hk q hq l hl
    have l2 := r2.le
    rcases List.mem_append.1 hl with hl | hl
    · exact i1 (by omega) _ ((gd_wpc r2 hk q hq).mono (by unfold kb; omega)) l hl
    · exact i2 hk q hq l hl
theorem conds_good {toks : List (List UInt8 × Nat)} {p : Fm} {c : Cm} {q : Fm} (h : Prg toks p c q) (ht : toks.length ≤ 300) (hf : fits p c q = true) : ∀ l ∈ conds p c q, (∀ y ∈ l, Good y) ∧ bl l ≤ 4000 ∧ l.length ≤ 4000 := by
  obtain ⟨k1, k2, k3, r1, r2, r3, hk⟩ := h
  have l1 := r1.le.1
  have l3 := r3.le.1
  unfold fits at hf
  rw [Bool.and_eq_true] at hf
  have gq : Gd (kb k2) (fsy q) := (gd_fsy q (rd_ok r3 (fun g h => by cases h))).mono (by unfold kb; omega)
  have gp : Gd 302000 (fsy p) := (gd_fsy p (rd_ok r1 (fun g h => by cases h))).mono (by omega)
  have key : ∀ l ∈ conds p c q, Gd 302000 l ∧ bl l ≤ 4000 := fun l hl => by
    unfold conds at hl
    rcases List.mem_cons.1 hl with rfl | hl
    · exact ⟨Gd.mark (by omega) (by omega) (gp.app ((gd_wpc r2 (by omega) _ gq).mono (kb_le _))), of_decide_eq_true hf.2⟩
    · exact ⟨gd_cls r2 (by omega) _ gq l hl, cls_fit c _ hf.1 l hl⟩
  intro l hl
  obtain ⟨h1, h2⟩ := key l hl
  exact ⟨fun y hy => (h1 y hy).1, h2, by have := (bl_count h1).1; omega⟩
theorem take_set_gen {α : Type} (xs : List α) (z : α) (k : Nat) (x : α) (hk : k < xs.length) (hx : xs[k]? = some x) : (xs.take k ++ List.replicate (xs.length - k) z).set k x = xs.take (k + 1) ++ List.replicate (xs.length - (k + 1)) z := by
  have e1 : List.replicate (xs.length - k) z = z :: List.replicate (xs.length - (k + 1)) z := by
    rw [show xs.length - k = (xs.length - (k + 1)) + 1 by omega, List.replicate_succ]
  have e2 : xs.take (k + 1) = xs.take k ++ [x] := by
    rw [List.take_add_one, hx]; rfl
  rw [e1, e2, List.set_append, if_neg (by simp; omega)]
  have : k - (List.take k xs).length = 0 := by simp; omega
  rw [this]
  simp
theorem cAns_kAns (s : ByteArray) (p : Fm) (c : Cm) (q : Fm) : cAns s p c q = ((kAns s p c q).1.map sbs, (kAns s p c q).2.1, (kAns s p c q).2.2) := by
  by_cases h : (answer s).1 = 0
  · have hk : kAns s p c q = if fits p c q then (conds p c q, 0, 0) else ([], 6, 0) := by unfold kAns; rw [if_neg (fun h' => h' h)]
    rw [cAns_fits s p c q h, hk]
    cases fits p c q <;> rfl
  · have hk : kAns s p c q = ([], (answer s).1, (answer s).2) := by unfold kAns; rw [if_pos h]
    have hc : cAns s p c q = ([], (answer s).1, (answer s).2) := by unfold cAns; rw [if_pos h]
    rw [hk, hc]; rfl

set_option maxRecDepth 100000 in
set_option maxHeartbeats 4000000 in
theorem ccond_any (s : ByteArray) (w : World) (hgt : Gt w) :
    Calls Tryz.prog 11 #[.string s] w fun e w' => ∃ p c q, ((answer s).1 = 0 → Prg (tokAt 0 (Av.rest s 0)) p c q) ∧ ∃ v, e = .returned (.tuple #[v, .int .i64 (cAns s p c q).2.1, .int .i64 (cAns s p c q).2.2]) ∧ w'.ownsRow w.heap.size 9 1 v (cAns s p c q).1.length ((cAns s p c q).1.map strV) ∧ Below w.heap.size w w' := by
  have CP := conds_any s w hgt
  have HCA : Hid (∀ p c q, cAns s p c q = ((kAns s p c q).1.map sbs, (kAns s p c q).2.1, (kAns s p c q).2.2)) := fun p c q => cAns_kAns s p c q
  have HGD : Hid (∀ p c q, ((answer s).1 = 0 → Prg (tokAt 0 (Av.rest s 0)) p c q) → ((kAns s p c q).2.1 = 0 ∧ (kAns s p c q).2.2 = 0 ∧ (kAns s p c q).1.length ≤ 4000 ∧ ∀ l ∈ (kAns s p c q).1, (∀ y ∈ l, Good y) ∧ bl l ≤ 4000 ∧ l.length ≤ 4000) ∨ ((kAns s p c q).2.1 ≠ 0 ∧ (kAns s p c q).1 = [])) := fun p c q h => by
    by_cases h0 : (answer s).1 = 0
    · have htl : (tokAt 0 (Av.rest s 0)).length ≤ 300 := by have := answer_long h0; have := Av.tokAt_len 0 (Av.rest s 0); have := Av.rest_len s 0; omega
      have hk : kAns s p c q = if fits p c q then (conds p c q, 0, 0) else ([], 6, 0) := by unfold kAns; rw [if_neg (fun h' => h' h0)]
      cases hf : fits p c q
      · rw [hf, if_neg (by decide)] at hk
        right
        rw [hk]; exact ⟨by show (6 : Int) ≠ 0; decide, rfl⟩
      · rw [hf, if_pos rfl] at hk
        left
        rw [hk]
        refine ⟨rfl, rfl, ?_, conds_good (h h0) htl hf⟩
        obtain ⟨k1, k2, k3, r1, r2, r3, hk3⟩ := h h0
        have l3 := r3.le.1
        have h1 := rc_sz r2
        have h2 := nlo_le c
        have h3 := pL_len c (fsy q)
        unfold fits at hf
        rw [Bool.and_eq_true] at hf
        have h4 := ((walk_is c (fsy q)).2 hf.1).2
        rw [h4, List.length_reverse] at h3
        show (conds p c q).length ≤ 4000
        unfold conds
        simp only [List.length_cons]
        omega
    · right
      have hk : kAns s p c q = ([], (answer s).1, (answer s).2) := by unfold kAns; rw [if_pos h0]
      rw [hk]; exact ⟨h0, rfl⟩
  have CP2 : Hid _ := CP
  clear CP
  have HGT : Hid (Gt w) := hgt
  obtain ⟨i0, hi, hz0, hz1, hz2⟩ := info_parts Tryz.infoStr
  go_enter Tryz.func11, Tryz.ntmps11
  go_wp2_with fail
  refine Calls.mono CP2.out ?_
  rintro e w1 ⟨p, c, q, hpg, v, vs, rfl, ho, hd, hb1⟩
  have HPG : Hid _ := hpg
  have hcase := HGD.out p c q hpg
  have HCE := HCA.out p c q
  generalize kAns s p c q = KA at *
  generalize hCC : cAns s p c q = CA at *
  have HCC : Hid (cAns s p c q = CA) := hCC
  obtain ⟨L, er, pl⟩ := KA
  dsimp only at *
  have HCQ : Hid (CA = (L.map sbs, er, pl)) := HCE
  clear hpg HCE hCC
  rcases hcase with ⟨rfl, rfl, hLl, hgood⟩ | ⟨her, rfl⟩
  · have HGO : Hid _ := hgood
    have HOC : Hid (w1.ownsRow w.heap.size 75 1 v L.length vs) := ho
    have HDC : Hid (Cds w1 vs L) := hd
    have HB1 : Hid (Below w.heap.size w w1) := hb1
    obtain ⟨va, vc, rfl⟩ := own_shape ho
    clear hgood ho hd
    go_wp2_with (at_make; refine wpList_make_full _ rfl _ _ 22 rfl w1.heap.size 9 i0 (.string ⟨#[]⟩) 1 Tryz.underlying22 hi hz0 hz1 .i64 .i64 _ _ L.length rfl rfl rfl rfl (by rw [hz2]; omega) (by unfold maxLen; omega) (by simp) ?_)
    intro w3 hown hgrow
    have hown' : w3.ownsRow w1.heap.size 9 1 (.slice (some ⟨w1.heap.size, 0, none⟩) L.length L.length) L.length ((L.map fun l => strV (sbs l)).take 0 ++ List.replicate (L.length - 0) (.string ⟨#[]⟩)) := by
      have h := hown
      rw [toList_madeCells_one] at h
      simpa using h
    have hb3 : Below w1.heap.size w1 w3 := (Below.refl _ w1).grown hgrow (Nat.le_refl _) (by intro k h; cases h)
    clear hown hgrow
    go_wp2_with fail
    go_loopw [9, 10, 26] (fun s9 s10 s26 wr => ∃ i : Nat, s26 = .int .i64 (i : Int) ∧ i ≤ L.length ∧ wr.ownsRow w1.heap.size 9 1 (.slice (some ⟨w1.heap.size, 0, none⟩) L.length L.length) L.length ((L.map fun l => strV (sbs l)).take i ++ List.replicate (L.length - i) (.string ⟨#[]⟩)) ∧ Below w1.heap.size w1 wr) (fun _ _ s26 _ => L.length - (intOf s26).toNat)
    case atStart => exact ⟨0, rfl, Nat.zero_le _, hown', hb3⟩
    case round =>
      obtain ⟨i, rfl, hi2, hown, hbw⟩ := hrel
      by_cases hlt : i < L.length
      · have hvl : i < vs.length := by have := HDC.out.1; omega
        obtain ⟨u, hu⟩ : ∃ u, vs[i]? = some u := ⟨_, List.getElem?_eq_getElem hvl⟩
        obtain ⟨l, hl⟩ : ∃ l, L[i]? = some l := ⟨_, List.getElem?_eq_getElem hlt⟩
        have hc := (HDC.out.2 i u l hu hl).below hbw
        obtain ⟨g1, g2, g3⟩ := HGO.out l (List.mem_of_getElem? hl)
        have CT : Hid (Calls Tryz.prog 36 #[u] wr fun e w' => e = .returned (strV (sbs l)) ∧ Below wr.heap.size wr w') := text_any u l wr hc g1 (by omega) (by omega) ((HGT.out.on HB1.out).on hbw)
        obtain ⟨ga, capa, hgva, hga1, hga2, hga3, hga4, hga5, hga6⟩ := own_facts HOC.out (by omega)
        cases hgva
        have hcu := (hbw.cell (p := ⟨ga, i, none⟩) hga2).trans (hga5 i u hu)
        obtain ⟨pa, pcap, rfl⟩ := hc.shape
        have HL : Hid ((L.map fun l => strV (sbs l))[i]? = some (strV (sbs l))) := by show _ = _; rw [List.getElem?_map, hl]; rfl
        have hlt' : (i : Int) < (L.length : Int) := by omega
        have HOW : Hid _ := hown
        have HBW : Hid (Below w1.heap.size w1 wr) := hbw
        have hwl := hbw.size
        clear hown hbw hu hl hc g1 g2 g3 hga5 hga6
        unfold strV at CT
        generalize hSB : (⟨(sbs l).toArray⟩ : ByteArray) = SB at *
        have HSB : Hid ((⟨(sbs l).toArray⟩ : ByteArray) = SB) := hSB
        clear hSB
        go_wp2_with fail
        refine Calls.mono CT.out ?_
        rintro e w2 ⟨rfl, hb2⟩
        have hO2 := ownsRow_below HOW.out hb2
        have HO2 : Hid _ := hO2
        obtain ⟨gt, capt, hgvt, hgt1, hgt2, hgt3, hgt4, hgt5, hgt6⟩ := own_facts hO2 (by omega)
        cases hgvt
        have hml : i < ((L.map fun l => strV (sbs l)).take i ++ List.replicate (L.length - i) (Value.string ⟨#[]⟩)).length := by simp; omega
        have hold := hgt5 i _ (List.getElem?_eq_getElem hml)
        have hfz := hgt6 i
        generalize ((L.map fun l => strV (sbs l)).take i ++ List.replicate (L.length - i) (Value.string ⟨#[]⟩))[i] = old at *
        have HB2 : Hid (Below w1.heap.size w1 w2) := HBW.out.trans (hb2.mono hwl)
        clear hO2 hgt5 hgt6
        go_wp2_with fail
        refine ⟨⟨i + 1, by go_num, by omega, ?_, ?_⟩, by simp [intOf]; omega⟩
        · have h1 := own_set HO2.out i (.string SB)
          have h2 := take_set_gen (L.map fun l => strV (sbs l)) (.string ⟨#[]⟩) i (strV (sbs l)) (by simpa using hlt) HL.out
          rw [List.length_map] at h2
          rw [← HSB.out] at h1 ⊢
          have h3 : (Value.string ⟨(sbs l).toArray⟩) = strV (sbs l) := rfl
          rw [h3] at h1 ⊢
          rw [h2] at h1
          exact h1
        · exact HB2.out.setCell (p := ⟨w1.heap.size, i, none⟩) (Nat.le_refl _) _
      · have hie : i = L.length := by omega
        subst hie
        have hlt' : ¬ ((L.length : Nat) : Int) < (L.length : Int) := by omega
        have HOW : Hid (wr.ownsRow w1.heap.size 9 1 (.slice (some ⟨w1.heap.size, 0, none⟩) L.length L.length) L.length ((L.map sbs).map strV)) := by
          show wr.ownsRow _ _ _ _ _ _
          have h1 := hown
          rw [Nat.sub_self, show (L.map fun l => strV (sbs l)).take L.length = (L.map sbs).map strV by rw [List.map_map, List.take_of_length_le (by simp)]; rfl] at h1
          simpa using h1
        have HBW : Hid (Below w.heap.size w wr) := HB1.out.trans (hbw.mono HB1.out.size)
        clear hown hbw
        go_wp2_with fail
        go_ret3
        refine ⟨p, c, q, HPG.out, _, by rw [HCC.out, HCQ.out]; rfl, ?_, HBW.out⟩
        rw [HCC.out, HCQ.out]
        dsimp only
        rw [List.length_map]
        exact own_base HOW.out HB1.out.size
  · have her' : (er != 0) = true := by simp [her]
    have HB1 : Hid (Below w.heap.size w w1) := hb1
    obtain ⟨va, vc, rfl⟩ := own_shape ho
    go_wp2_with fail
    go_ret3
    refine ⟨p, c, q, HPG.out, .slice none 0 0, by rw [HCC.out, HCQ.out]; rfl, by rw [HCC.out, HCQ.out]; exact World.ownsRow_nil _ _ _ _, HB1.out⟩
end Go.Proofs.YtkinoehmcfhgbaaGreatDoor.Vl
set_option linter.unusedVariables false
set_option linter.unusedSimpArgs false
namespace Go.Proofs.YtkinoehmcfhgbaaGreatDoor.Vl
open Go.RowKit
open Go.Proofs.YtkinoehmcfhgbaaGreatDoor.Av (vr Fm Rd Tg sAt Cm Rc tokAt answer)

/-- THE COUNT. -/
def cnt : ByteArray := ⟨#[102, 114, 111, 109, 32, 97, 32, 61, 32, 48, 32, 97, 110, 100, 32, 98, 32, 62, 61, 32, 48, 32, 100, 111, 32, 119, 104, 105, 108, 101, 32, 97, 32, 60, 32, 98, 32, 107, 101, 101, 112, 32, 97, 32, 60, 61, 32, 98, 32, 100, 111, 32, 97, 32, 58, 61, 32, 97, 32, 43, 32, 49, 32, 101, 110, 100, 32, 116, 111, 32, 97, 32, 61, 32, 98]⟩
def cntT : List (List UInt8 × Nat) := [([102, 114, 111, 109], 0), ([97], 5), ([61], 7), ([48], 9), ([97, 110, 100], 11), ([98], 15), ([62, 61], 17), ([48], 20), ([100, 111], 22), ([119, 104, 105, 108, 101], 25), ([97], 31), ([60], 33), ([98], 35), ([107, 101, 101, 112], 37), ([97], 42), ([60, 61], 44), ([98], 47), ([100, 111], 49), ([97], 52), ([58, 61], 54), ([97], 57), ([43], 59), ([49], 61), ([101, 110, 100], 63), ([116, 111], 67), ([97], 70), ([61], 72), ([98], 74)]
theorem cnt_ans : answer cnt = (0, 0) := by kernel_rfl
theorem cnt_tok : tokAt 0 (Av.rest cnt 0) = cntT := by kernel_rfl
def cntP : Fm := .and (.cmp 2 (0, 0) (-1, 0)) (.cmp 4 (1, 0) (-1, 0))
def cntC : Cm := .loop (.cmp 0 (0, 0) (1, 0)) (.cmp 1 (0, 0) (1, 0)) (.asg 0 (0, 1))
def cntQ : Fm := .cmp 2 (0, 0) (1, 0)
theorem one_form {toks : List (List UInt8 × Nat)} {k k1 : Nat} {f : Fm} (h : Rd toks .fac k f k1) (h1 : sAt toks k1 ≠ [97, 110, 100]) (h2 : sAt toks k1 ≠ [111, 114]) : Rd toks .form k f k1 :=
  .form (.part h (.partE h1)) (.formE h2)
theorem cnt_prg : Prg (tokAt 0 (Av.rest cnt 0)) cntP cntC cntQ := by
  rw [cnt_tok]
  refine ⟨8, 24, 28, ?_, ?_, ?_, by decide⟩
  · refine .form (.part (k1 := 4) (f := .cmp 2 (0, 0) (-1, 0)) (Rd.cmpE (k1 := 2) (by decide) (by decide) (by decide) (by decide) (by kernel_rfl) (by kernel_rfl) (by kernel_rfl)) (.partS (k1 := 8) (g := .cmp 4 (1, 0) (-1, 0)) (by decide) (Rd.cmpE (k1 := 6) (by decide) (by decide) (by decide) (by decide) (by kernel_rfl) (by kernel_rfl) (by kernel_rfl)) (.partE (by decide)))) (.formE (by decide))
  · refine .one (.loop (k1 := 13) (k2 := 17) (k3 := 23) (by decide) ?_ ?_ ?_) (by decide)
    · exact one_form (Rd.cmpE (k1 := 11) (by decide) (by decide) (by decide) (by decide) (by kernel_rfl) (by kernel_rfl) (by kernel_rfl)) (by decide) (by decide)
    · exact one_form (Rd.cmpE (k1 := 15) (by decide) (by decide) (by decide) (by decide) (by kernel_rfl) (by kernel_rfl) (by kernel_rfl)) (by decide) (by decide)
    · exact .one (Rc.asgE (by decide) (by kernel_rfl) (by kernel_rfl)) (by decide)
  · exact one_form (Rd.cmpE (k1 := 26) (by decide) (by decide) (by decide) (by decide) (by kernel_rfl) (by kernel_rfl) (by kernel_rfl)) (by decide) (by decide)
end Go.Proofs.YtkinoehmcfhgbaaGreatDoor.Vl
set_option linter.unusedVariables false
set_option linter.unusedSimpArgs false
namespace Go.Proofs.YtkinoehmcfhgbaaGreatDoor.Vl
open Go.RowKit

/-- What the document answers to Value. -/
def vAns (p : Option (List Sym)) (x1 x2 x3 x4 : Int) : Bool × Int := match p with
  | none => (false, 7)
  | some ys => if gds x1 x2 x3 x4 then (val x1 x2 x3 x4 ys, 0) else (false, 4)

set_option maxRecDepth 100000 in
set_option maxHeartbeats 2000000 in
theorem refValue_any (s : ByteArray) (x1 x2 x3 x4 : Int) (w : World) (hmax : s.size ≤ maxLen) :
    Calls Tryz.prog 49 #[.string s, stV x1 x2 x3 x4] w fun e w' => e = .returned (.tuple #[.bool (vAns (pars s) x1 x2 x3 x4).1, .int .i64 (vAns (pars s) x1 x2 x3 x4).2]) ∧ Below w.heap.size w w' := by
  have CA : Hid (∀ w, Calls Tryz.prog 81 #[.string s] w fun e w' => ∃ v, e = .returned (.tuple #[v, .bool (pars s).isSome]) ∧ Below w.heap.size w w') := fun w => (Atoms_any s w hmax).mono (fun e w' h => by obtain ⟨v, h1, _, h2⟩ := h; exact ⟨v, h1, h2⟩)
  have CG : Hid (∀ w, Calls Tryz.prog 82 #[.agg #[.int .i64 x1, .int .i64 x2, .int .i64 x3, .int .i64 x4]] w fun e w' => e = .returned (.bool (gds x1 x2 x3 x4)) ∧ Below w.heap.size w w') := fun w => good_any x1 x2 x3 x4 w
  cases hp : pars s with
  | none =>
    rw [hp] at CA
    have CA' : Hid (∀ w, Calls Tryz.prog 81 #[.string s] w fun e w' => ∃ v, e = .returned (.tuple #[v, .bool false]) ∧ Below w.heap.size w w') := CA
    clear CA
    unfold stV
    go_enter Tryz.func49, Tryz.ntmps49
    go_wp2_with (go_at_call 81; refine (CA'.out _).mono ?_; rintro e w1 ⟨v, rfl, hb1⟩)
    go_ret2
    exact ⟨rfl, (below_alloc w _).trans (hb1.mono (by simp))⟩
  | some ys =>
    rw [hp] at CA
    have CA' : Hid (∀ w, Calls Tryz.prog 81 #[.string s] w fun e w' => ∃ v, e = .returned (.tuple #[v, .bool true]) ∧ Below w.heap.size w w') := CA
    clear CA
    cases hg : gds x1 x2 x3 x4 with
    | false =>
      rw [hg] at CG
      have HR : Hid (vAns (some ys) x1 x2 x3 x4 = (false, 4)) := by show _ = _; simp [vAns, hg]
      unfold stV
      go_enter Tryz.func49, Tryz.ntmps49
      go_wp2_with (first
        | (go_at_call 81; refine (CA'.out _).mono ?_; rintro e w1 ⟨v, rfl, hb1⟩; have d0 : w1.cell? ⟨w.heap.size, 0, none⟩ = some (.int .i64 x1) := (hb1.cell (p := ⟨w.heap.size, 0, none⟩) (by simp)).trans (by simp); have d1 : w1.cell? ⟨w.heap.size, 1, none⟩ = some (.int .i64 x2) := (hb1.cell (p := ⟨w.heap.size, 1, none⟩) (by simp)).trans (by simp); have d2 : w1.cell? ⟨w.heap.size, 2, none⟩ = some (.int .i64 x3) := (hb1.cell (p := ⟨w.heap.size, 2, none⟩) (by simp)).trans (by simp); have d3 : w1.cell? ⟨w.heap.size, 3, none⟩ = some (.int .i64 x4) := (hb1.cell (p := ⟨w.heap.size, 3, none⟩) (by simp)).trans (by simp))
        | (go_at_call 82; refine (CG.out _).mono ?_; rintro e w2 ⟨rfl, hb2⟩))
      go_ret2
      have hs1 : w.heap.size + 1 ≤ w1.heap.size := by have := hb1.size; simpa using this
      exact ⟨by rw [HR.out]; rfl, ((below_alloc w _).trans (hb1.mono (by simp))).trans (hb2.mono (by omega))⟩
    | true =>
      rw [hg] at CG
      have HR : Hid (vAns (some ys) x1 x2 x3 x4 = (val x1 x2 x3 x4 ys, 0)) := by show _ = _; simp [vAns, hg]
      have CV : Hid (∀ w, Calls Tryz.prog 83 #[.string s, .agg #[.int .i64 x1, .int .i64 x2, .int .i64 x3, .int .i64 x4]] w fun e w' => e = .returned (.bool (val x1 x2 x3 x4 ys)) ∧ Below w.heap.size w w') := fun w => valued_any s x1 x2 x3 x4 ys w hmax hp hg
      generalize val x1 x2 x3 x4 ys = V at *
      unfold stV
      go_enter Tryz.func49, Tryz.ntmps49
      go_wp2_with (first
        | (go_at_call 81; refine (CA'.out _).mono ?_; rintro e w1 ⟨v, rfl, hb1⟩; have d0 : w1.cell? ⟨w.heap.size, 0, none⟩ = some (.int .i64 x1) := (hb1.cell (p := ⟨w.heap.size, 0, none⟩) (by simp)).trans (by simp); have d1 : w1.cell? ⟨w.heap.size, 1, none⟩ = some (.int .i64 x2) := (hb1.cell (p := ⟨w.heap.size, 1, none⟩) (by simp)).trans (by simp); have d2 : w1.cell? ⟨w.heap.size, 2, none⟩ = some (.int .i64 x3) := (hb1.cell (p := ⟨w.heap.size, 2, none⟩) (by simp)).trans (by simp); have d3 : w1.cell? ⟨w.heap.size, 3, none⟩ = some (.int .i64 x4) := (hb1.cell (p := ⟨w.heap.size, 3, none⟩) (by simp)).trans (by simp); have hs1 : w.heap.size < w1.heap.size := (by have := hb1.size; simp at this; omega))
        | (go_at_call 82; refine (CG.out _).mono ?_; rintro e w2 ⟨rfl, hb2⟩; have e0 := (hb2.cell (p := ⟨w.heap.size, 0, none⟩) hs1).trans d0; have e1 := (hb2.cell (p := ⟨w.heap.size, 1, none⟩) hs1).trans d1; have e2 := (hb2.cell (p := ⟨w.heap.size, 2, none⟩) hs1).trans d2; have e3 := (hb2.cell (p := ⟨w.heap.size, 3, none⟩) hs1).trans d3)
        | (go_at_call 83; refine (CV.out _).mono ?_; rintro e w3 ⟨rfl, hb3⟩))
      go_ret2
      exact ⟨by rw [HR.out]; rfl, (((below_alloc w _).trans (hb1.mono (by simp))).trans (hb2.mono (by omega))).trans (hb3.mono (by have := hb2.size; omega))⟩
end Go.Proofs.YtkinoehmcfhgbaaGreatDoor.Vl
set_option linter.unusedVariables false
set_option linter.unusedSimpArgs false
namespace Go.Proofs.YtkinoehmcfhgbaaGreatDoor.Vl
open Go.RowKit

/-- Truths: 0 open, 1 holds, 2 fails. -/
def tnot (t : Int) : Int := if t = 1 then 2 else if t = 2 then 1 else 0
def tboth (t u : Int) : Int := if t = 2 ∨ u = 2 then 2 else if t = 1 ∧ u = 1 then 1 else 0
def teith (t u : Int) : Int := tnot (tboth (tnot t) (tnot u))
def tof (b : Bool) : Int := if b then 1 else 2
/-- A truth is one of three. -/
def T3 (t : Int) : Prop := t = 0 ∨ t = 1 ∨ t = 2
theorem t3_not (t : Int) : T3 (tnot t) := by unfold T3 tnot; split; · omega
                                             · split <;> omega
theorem t3_both (t u : Int) : T3 (tboth t u) := by unfold T3 tboth; split; · omega
                                                   · split <;> omega
theorem t3_of (b : Bool) : T3 (tof b) := by cases b <;> simp [T3, tof]
/-- What is known of a symbol by what is known of its parts: the first part's (on top), the second's. -/
def tval (kn : Atm → Int) (y : Sym) (t u : Int) : Int :=
  if y.1 = 0 then 1 else if y.1 = 2 then tnot t else if y.1 = 3 then tboth t u else if y.1 = 4 then teith t u else if y.1 = 5 then teith (tnot t) u else if y.1 = 6 then kn y.2 else 2
def tst (kn : Atm → Int) (y : Sym) (st : List Int) : List Int := tval kn y (st.headD 0) (st.tail.headD 0) :: st.drop (prt y.1).toNat
def trun (kn : Atm → Int) (ys : List Sym) : List Int := ys.foldr (tst kn) []
theorem trun_cons (kn : Atm → Int) (y : Sym) (r : List Sym) : trun kn (y :: r) = tst kn y (trun kn r) := rfl
theorem tval_t3 {kn : Atm → Int} (hk : ∀ a, T3 (kn a)) (y : Sym) (t u : Int) : T3 (tval kn y t u) := by
  unfold tval
  split; · right; left; rfl
  split; · exact t3_not _
  split; · exact t3_both _ _
  split; · exact t3_not _
  split; · exact t3_not _
  split; · exact hk _
  right; right; rfl
theorem trun_t3 {kn : Atm → Int} (hk : ∀ a, T3 (kn a)) : ∀ (ys : List Sym), ∀ x ∈ trun kn ys, T3 x
  | [], x, h => by cases h
  | y :: r, x, h => by
    rw [trun_cons] at h; unfold tst at h
    rcases List.mem_cons.1 h with rfl | h
    · exact tval_t3 hk _ _ _
    · exact trun_t3 hk r x (List.mem_of_mem_drop h)
theorem trun_le (kn : Atm → Int) : ∀ ys : List Sym, (trun kn ys).length ≤ ys.length
  | [] => Nat.le_refl _
  | y :: r => by
    have h2 := trun_le kn r
    rw [trun_cons, List.length_cons]; unfold tst; simp; omega
theorem trun_len {s : ByteArray} (kn : Atm → Int) : ∀ (ys : List Sym) (k : Nat) (m : Int) (ps : List Nat), Pos s k m ys ps → 0 ≤ m → ((trun kn ys).length : Int) = m
  | [], k, m, ps, h, _ => by obtain ⟨_, _, rfl⟩ := h; rfl
  | y :: r, k, m, ps, h, hm => by
    obtain ⟨j, ps', rfl, hk, hm0, hs, hp⟩ := h
    have hpr := prt_range y.1
    have ih := trun_len kn r (k + j) _ ps' hp (by omega)
    rw [trun_cons]; unfold tst
    rw [List.length_cons, List.length_drop]; omega
theorem tpos_at {s : ByteArray} (kn : Atm → Int) : ∀ (ys : List Sym) (k : Nat) (m : Int) (ps : List Nat), Pos s k m ys ps → 0 ≤ m → ∀ n, n < ys.length →
    ∃ y, ys[n]? = some y ∧ 0 ≤ y.1 ∧ y.1 ≤ 6 ∧ (y.1 = 6 → okA y.2) ∧ prt y.1 ≤ (trun kn (ys.drop (n + 1))).length
  | [], k, m, ps, h, _ => by intro n hn; simp at hn
  | y :: r, k, m, ps, h, hm => by
    have hok := pos_ok (y :: r) k m ps h
    obtain ⟨j, ps', rfl, hk, hm0, hs, hp⟩ := h
    have hpr := prt_range y.1
    intro n hn
    cases n with
    | zero =>
      have := trun_len kn r (k + j) _ ps' hp (by omega)
      have hr := kind_range hk hs
      exact ⟨y, rfl, hr.1, hr.2, hok y (by simp), by simp only [Nat.zero_add, List.drop_succ_cons, List.drop_zero]; omega⟩
    | succ n =>
      obtain ⟨z, h1, h2, h3, h4, h5⟩ := tpos_at kn r (k + j) _ ps' hp (by omega) n (by simpa using hn)
      exact ⟨z, by simpa using h1, h2, h3, h4, by simpa using h5⟩
/-- The document's number of a truth: 2 open, 1 holds, 0 fails. -/
def dt (t : Int) : Int := if t = 0 then 2 else if t = 1 then 1 else 0
theorem dt_not (t : Int) (h : T3 t) : (if dt t < 2 then 1 - dt t else dt t) = dt (tnot t) := by rcases h with rfl | rfl | rfl <;> rfl
theorem dt_and (t u : Int) (h : T3 t) (k : T3 u) : tbl 38 (dt t) (dt u) = dt (tboth t u) := by rcases h with rfl | rfl | rfl <;> rcases k with rfl | rfl | rfl <;> rfl
theorem dt_or (t u : Int) (h : T3 t) (k : T3 u) : tbl 124 (dt t) (dt u) = dt (teith t u) := by rcases h with rfl | rfl | rfl <;> rcases k with rfl | rfl | rfl <;> rfl
theorem dt_imp (t u : Int) (h : T3 t) (k : T3 u) : tbl 62 (dt t) (dt u) = dt (teith (tnot t) u) := by rcases h with rfl | rfl | rfl <;> rcases k with rfl | rfl | rfl <;> rfl
theorem wst_tst (kn : Atm → Int) (ls : List Atm) (bs : List Int) (y : Sym) (st : List Int) (h3 : ∀ x ∈ st, T3 x) (h0 : 0 ≤ y.1) (h6 : y.1 ≤ 6) (hd : prt y.1 ≤ st.length)
    (ha : y.1 = 6 → bs.getD (nmb ls y.2 0).toNat 0 = dt (kn y.2)) : wst ls bs y (st.map dt) = (tst kn y st).map dt := by
  obtain ⟨q, a⟩ := y
  dsimp only at *
  have hq : q = 0 ∨ q = 1 ∨ q = 6 ∨ q = 2 ∨ q = 3 ∨ q = 4 ∨ q = 5 := by omega
  rcases hq with rfl | rfl | rfl | rfl | rfl | rfl | rfl
  · rfl
  · rfl
  · show bs.getD (nmb ls a 0).toNat 0 :: st.map dt = dt (kn a) :: st.map dt
    rw [ha rfl]
  · match st, hd, h3 with
    | [], h, _ => exact absurd h (by decide)
    | x :: r, _, h3 =>
      show (if dt x < 2 then 1 - dt x else dt x) :: r.map dt = dt (tnot x) :: r.map dt
      rw [dt_not x (h3 x (by simp))]
  · match st, hd, h3 with
    | [], h, _ => exact absurd h (by decide)
    | [x], h, _ => simp [prt] at h
    | x :: z :: r, _, h3 =>
      show tbl 38 (dt x) (dt z) :: r.map dt = dt (tboth x z) :: r.map dt
      rw [dt_and x z (h3 x (by simp)) (h3 z (by simp))]
  · match st, hd, h3 with
    | [], h, _ => exact absurd h (by decide)
    | [x], h, _ => simp [prt] at h
    | x :: z :: r, _, h3 =>
      show tbl 124 (dt x) (dt z) :: r.map dt = dt (teith x z) :: r.map dt
      rw [dt_or x z (h3 x (by simp)) (h3 z (by simp))]
  · match st, hd, h3 with
    | [], h, _ => exact absurd h (by decide)
    | [x], h, _ => simp [prt] at h
    | x :: z :: r, _, h3 =>
      show tbl 62 (dt x) (dt z) :: r.map dt = dt (teith (tnot x) z) :: r.map dt
      rw [dt_imp x z (h3 x (by simp)) (h3 z (by simp))]
theorem wrun_trun {s : ByteArray} {kn : Atm → Int} (hk3 : ∀ a, T3 (kn a)) (ls : List Atm) (bs : List Int) : ∀ (ys : List Sym) (k : Nat) (m : Int) (ps : List Nat), Pos s k m ys ps → 0 ≤ m →
    (∀ y ∈ ys, y.1 = 6 → bs.getD (nmb ls y.2 0).toNat 0 = dt (kn y.2)) → wrun ls bs ys = (trun kn ys).map dt
  | [], k, m, ps, h, _, _ => rfl
  | y :: r, k, m, ps, h, hm, ha => by
    obtain ⟨j, ps', rfl, hk, hm0, hs, hp⟩ := h
    have hpr := prt_range y.1
    have hr := kind_range hk hs
    have hl := trun_len kn r (k + j) _ ps' hp (by omega)
    rw [wrun_cons, trun_cons, wrun_trun hk3 ls bs r (k + j) _ ps' hp (by omega) (fun z hz => ha z (by simp [hz]))]
    exact wst_tst kn ls bs y _ (trun_t3 hk3 r) hr.1 hr.2 (by omega) (ha y (by simp))
/-- Of a condition: what the program comes to is what the document comes to, by a list of what is known. -/
theorem worth_trun {s : ByteArray} {ys : List Sym} {kn : Atm → Int} (hk3 : ∀ a, T3 (kn a)) (h : pars s = some ys) (bs : List Int) (hb : ∀ a ∈ uqs ys, bs.getD (nmb (uqs ys) a 0).toNat 0 = dt (kn a)) :
    ∃ t, T3 t ∧ trun kn ys = [t] ∧ wrun (uqs ys) bs ys = [dt t] := by
  obtain ⟨hs, hp, _, _⟩ := pars_facts h
  obtain ⟨ps, hps⟩ := pos_of s ys 0 1 (Nat.zero_le _) hp
  have hl := trun_len kn ys 0 1 ps hps (by omega)
  have hw := wrun_trun hk3 (uqs ys) bs ys 0 1 ps hps (by omega) (fun y hy h6 => hb y.2 ((foldA_sub ys []).2 y hy h6))
  have ht := trun_t3 hk3 ys
  match hb : trun kn ys, hl, ht with
  | [], h, _ => simp at h
  | [t], _, ht => exact ⟨t, ht t (by simp), rfl, by rw [hw, hb]; rfl⟩
  | x :: z :: r, h, _ => simp at h; omega
theorem val_trun {s : ByteArray} {ys : List Sym} (x1 x2 x3 x4 : Int) (h : pars s = some ys) : ∃ t, T3 t ∧ trun (fun a => tof (hld x1 x2 x3 x4 a)) ys = [t] ∧ val x1 x2 x3 x4 ys = (t == 1) := by
  obtain ⟨t, h1, h2, h3⟩ := worth_trun (kn := fun a => tof (hld x1 x2 x3 x4 a)) (fun a => t3_of _) h (bys x1 x2 x3 x4 (uqs ys)) (fun a ha => by
    have hg := nmb_get (uqs ys) a 0 ha
    rw [Int.sub_zero] at hg
    unfold bys
    rw [List.getD_eq_getElem?_getD, List.getElem?_map, hg]
    show bi (hld x1 x2 x3 x4 a) = dt (tof (hld x1 x2 x3 x4 a))
    cases hld x1 x2 x3 x4 a <;> rfl)
  refine ⟨t, h1, h2, ?_⟩
  unfold val
  rw [h3]
  rcases h1 with rfl | rfl | rfl <;> rfl
end Go.Proofs.YtkinoehmcfhgbaaGreatDoor.Vl
set_option linter.unusedVariables false
set_option linter.unusedSimpArgs false
namespace Go.Proofs.YtkinoehmcfhgbaaGreatDoor.Vl
open Go.RowKit

set_option maxHeartbeats 400000 in
theorem truthOf_any (b : Bool) (w : World) : Calls Tryz.prog 78 #[.bool b] w fun e w' => e = .returned (.int .i8 (tof b)) ∧ w = w' := by
  cases b
  all_goals
    go_enter Tryz.func78, Tryz.ntmps78
    go_wp2
    go_ret
    exact ⟨rfl, rfl⟩
set_option maxHeartbeats 400000 in
theorem tnot_any (t : Int) (h : T3 t) (w : World) : Calls Tryz.prog 167 #[.int .i8 t] w fun e w' => e = .returned (.int .i8 (tnot t)) ∧ w = w' := by
  rcases h with rfl | rfl | rfl
  all_goals
    go_enter Tryz.func167, Tryz.ntmps167
    go_wp2
    go_ret
    exact ⟨rfl, rfl⟩
set_option maxHeartbeats 1000000 in
theorem tboth_any (t u : Int) (h : T3 t) (k : T3 u) (w : World) : Calls Tryz.prog 168 #[.int .i8 t, .int .i8 u] w fun e w' => e = .returned (.int .i8 (tboth t u)) ∧ w = w' := by
  rcases h with rfl | rfl | rfl <;> rcases k with rfl | rfl | rfl
  all_goals
    go_enter Tryz.func168, Tryz.ntmps168
    go_wp2
    go_ret
    exact ⟨rfl, rfl⟩
set_option maxHeartbeats 1000000 in
theorem teith_any (t u : Int) (h : T3 t) (k : T3 u) (w : World) : Calls Tryz.prog 169 #[.int .i8 t, .int .i8 u] w fun e w' => e = .returned (.int .i8 (teith t u)) ∧ w = w' := by
  have CN : Hid (∀ t w, T3 t → Calls Tryz.prog 167 #[.int .i8 t] w fun e w' => e = .returned (.int .i8 (tnot t)) ∧ w = w') := fun t w h => tnot_any t h w
  have CB : Hid (∀ t u w, T3 t → T3 u → Calls Tryz.prog 168 #[.int .i8 t, .int .i8 u] w fun e w' => e = .returned (.int .i8 (tboth t u)) ∧ w = w') := fun t u w h k => tboth_any t u h k w
  have HT : Hid (T3 t) := h
  have HU : Hid (T3 u) := k
  clear h k
  go_enter Tryz.func169, Tryz.ntmps169
  go_wp2_with (first
    | (go_at_call 167; refine (CN.out _ _ (by first | exact HT.out | exact HU.out | exact t3_both _ _)).mono ?_; rintro e w' ⟨rfl, rfl⟩)
    | (go_at_call 168; refine (CB.out _ _ _ (t3_not _) (t3_not _)).mono ?_; rintro e w' ⟨rfl, rfl⟩))
  go_ret
  exact ⟨rfl, rfl⟩
set_option maxHeartbeats 400000 in
theorem kparts_any (k : Int) (w : World) : Calls Tryz.prog 76 #[.int .i64 k] w fun e w' => e = .returned (.int .i64 (prt k)) ∧ w = w' := by
  by_cases h2 : k = 2
  · subst h2
    go_enter Tryz.func76, Tryz.ntmps76
    go_wp2
    go_ret
    exact ⟨rfl, rfl⟩
  by_cases h3 : k = 3
  · subst h3
    go_enter Tryz.func76, Tryz.ntmps76
    go_wp2
    go_ret
    exact ⟨rfl, rfl⟩
  by_cases h4 : k = 4
  · subst h4
    go_enter Tryz.func76, Tryz.ntmps76
    go_wp2
    go_ret
    exact ⟨rfl, rfl⟩
  by_cases h5 : k = 5
  · subst h5
    go_enter Tryz.func76, Tryz.ntmps76
    go_wp2
    go_ret
    exact ⟨rfl, rfl⟩
  · have e : prt k = 0 := by unfold prt; simp [h2, h3, h4, h5]
    go_enter Tryz.func76, Tryz.ntmps76
    go_wp2
    go_ret
    exact ⟨by rw [e]; rfl, rfl⟩
/-- A condition as it lies in memory. -/
def Syms (n0 : Nat) (w : World) (v : Value) (ys : List Sym) : Prop :=
  ∃ b cap, v = .slice (some ⟨b, 0, none⟩) ys.length cap ∧ b < n0 ∧ ∀ j y, ys[j]? = some y → w.cell? ⟨b, j * 4, none⟩ = some (.int .i64 y.1) ∧ w.cell? ⟨b, j * 4 + 1, none⟩ = some (.int .i64 y.2.1) ∧ w.cell? ⟨b, j * 4 + 2, none⟩ = some (.int .i64 y.2.2.1) ∧ w.cell? ⟨b, j * 4 + 3, none⟩ = some (.int .i64 y.2.2.2)
theorem Syms.below {n0 : Nat} {w w' : World} {v : Value} {ys : List Sym} (h : Syms n0 w v ys) (hb : Below n0 w w') : Syms n0 w' v ys := by
  obtain ⟨b, cap, h1, h2, h3⟩ := h
  exact ⟨b, cap, h1, h2, fun j y hy => ⟨(hb.cell (p := ⟨b, j * 4, none⟩) h2).trans (h3 j y hy).1, (hb.cell (p := ⟨b, j * 4 + 1, none⟩) h2).trans (h3 j y hy).2.1, (hb.cell (p := ⟨b, j * 4 + 2, none⟩) h2).trans (h3 j y hy).2.2.1, (hb.cell (p := ⟨b, j * 4 + 3, none⟩) h2).trans (h3 j y hy).2.2.2⟩⟩
theorem Syms.more {n0 n1 : Nat} {w : World} {v : Value} {ys : List Sym} (h : Syms n0 w v ys) (hn : n0 ≤ n1) : Syms n1 w v ys := by
  obtain ⟨b, cap, h1, h2, h3⟩ := h
  exact ⟨b, cap, h1, Nat.lt_of_lt_of_le h2 hn, h3⟩
def tv8 (t : Int) : Value := .int .i8 t
theorem rows_put8 (st : List Int) (p : Nat) (hp : p ≤ st.length) (V : Int) : ((V :: st.drop p).reverse.map tv8) = (st.reverse.map tv8).take (st.length - p) ++ [tv8 V] := by
  rw [List.reverse_cons, List.map_append, ← List.map_take, List.take_reverse, show st.length - (st.length - p) = p by omega]; rfl
theorem prt_one' {k : Int} (h : prt k = 1) : k = 2 := by
  unfold prt at h; split at h
  · rename_i e; simpa using e
  · split at h <;> omega
theorem prt_two' {k : Int} (h : prt k = 2) : k = 3 ∨ k = 4 ∨ k = 5 := by
  unfold prt at h; split at h
  · omega
  · split at h
    · rename_i e; simp at e; omega
    · omega
theorem Tryz.infoTruth : (Tryz.prog.info? 159).map (fun i => (i.zero, i.size, i.bytes)) = some (some (.int .i8 0), 1, 1) := by kernel_rfl
theorem one_i8 (x : Int) : ∀ u ∈ [Value.int .i8 x], u.oneCell' = true := by
  intro u hu; simp at hu; subst hu; rfl
end Go.Proofs.YtkinoehmcfhgbaaGreatDoor.Vl
set_option linter.unusedVariables false
set_option linter.unusedSimpArgs false
namespace Go.Proofs.YtkinoehmcfhgbaaGreatDoor.Vl
open Go.RowKit

/-- The parts of a symbol as they lie in memory: the second's first. -/
def Parts3H (w : World) (pv : Value) (k : Int) (t u : Int) : Prop :=
  (k = 2 → ∃ g o c, pv = .slice (some ⟨g, o, none⟩) 1 c ∧ g < w.heap.size ∧ w.cell? ⟨g, o, none⟩ = some (.int .i8 t)) ∧
  (k = 3 ∨ k = 4 ∨ k = 5 → ∃ g o c, pv = .slice (some ⟨g, o, none⟩) 2 c ∧ g < w.heap.size ∧ w.cell? ⟨g, o, none⟩ = some (.int .i8 u) ∧ w.cell? ⟨g, o + 1, none⟩ = some (.int .i8 t))

set_option maxRecDepth 100000 in
set_option maxHeartbeats 2000000 in
theorem ssettleH (kn : Atm → Int) (cp : Value) (b o : Nat) (y0 y1 y2 y3 : Int) (pv : Value) (t u : Int) (w : World) (h0 : 0 ≤ y0 ∧ y0 ≤ 6) (ht : T3 t) (hu : T3 u) (hp : Parts3H w pv y0 t u)
    (c0 : w.cell? ⟨b, o, none⟩ = some (.int .i64 y0)) (c1 : w.cell? ⟨b, o + 1, none⟩ = some (.int .i64 y1)) (c2 : w.cell? ⟨b, o + 2, none⟩ = some (.int .i64 y2)) (c3 : w.cell? ⟨b, o + 3, none⟩ = some (.int .i64 y3))
    (CK : y0 = 6 → Calls Tryz.prog 77 #[.agg #[.int .i64 y1, .int .i64 y2, .int .i64 y3], cp] w fun e w' => e = .returned (.int .i8 (kn (y1, y2, y3))) ∧ Below w.heap.size w w') :
    Calls Tryz.prog 116 #[.pointer (some ⟨b, o, none⟩), .func (.func 77) #[] #[cp], pv] w fun e w' => e = .returned (.int .i8 (tval kn (y0, y1, y2, y3) t u)) ∧ Below w.heap.size w w' := by
  have CN : Hid (∀ t w, T3 t → Calls Tryz.prog 167 #[.int .i8 t] w fun e w' => e = .returned (.int .i8 (tnot t)) ∧ w = w') := fun t w h => tnot_any t h w
  have CB : Hid (∀ t u w, T3 t → T3 u → Calls Tryz.prog 168 #[.int .i8 t, .int .i8 u] w fun e w' => e = .returned (.int .i8 (tboth t u)) ∧ w = w') := fun t u w h k => tboth_any t u h k w
  have CE : Hid (∀ t u w, T3 t → T3 u → Calls Tryz.prog 169 #[.int .i8 t, .int .i8 u] w fun e w' => e = .returned (.int .i8 (teith t u)) ∧ w = w') := fun t u w h k => teith_any t u h k w
  have HT : Hid (T3 t) := ht
  have HU : Hid (T3 u) := hu
  clear ht hu
  have hk : y0 = 0 ∨ y0 = 1 ∨ y0 = 6 ∨ y0 = 2 ∨ y0 = 3 ∨ y0 = 4 ∨ y0 = 5 := by omega
  rcases hk with rfl | rfl | rfl | rfl | rfl | rfl | rfl
  · clear CK hp
    go_enter Tryz.func116, Tryz.ntmps116
    go_wp2_with fail
    go_ret
    exact ⟨rfl, Below.refl _ _⟩
  · clear CK hp
    go_enter Tryz.func116, Tryz.ntmps116
    go_wp2_with fail
    go_ret
    exact ⟨rfl, Below.refl _ _⟩
  · have CK' : Hid _ := CK rfl
    have HB : Hid (tval kn (6, y1, y2, y3) t u = kn (y1, y2, y3)) := rfl
    generalize kn (y1, y2, y3) = HL at *
    clear hp CK
    go_enter Tryz.func116, Tryz.ntmps116
    go_wp2_with (go_at_call 77; refine Calls.mono CK'.out ?_; rintro e w3 ⟨rfl, hb3⟩)
    go_ret
    exact ⟨by rw [HB.out]; rfl, hb3⟩
  · obtain ⟨g, o, c, rfl, hgs, hc⟩ := hp.1 rfl
    clear hp CK
    go_enter Tryz.func116, Tryz.ntmps116
    go_wp2_with (go_at_call 167; refine (CN.out _ _ HT.out).mono ?_; rintro e w' ⟨rfl, rfl⟩)
    go_ret
    exact ⟨rfl, Below.refl _ _⟩
  all_goals
    obtain ⟨g, o, c, rfl, hgs, hc, hd⟩ := hp.2 (by omega)
    clear hp CK
    go_enter Tryz.func116, Tryz.ntmps116
    go_wp2_with fail
    go_region_with (first
      | (go_at_call 167; refine (CN.out _ _ HT.out).mono ?_; rintro e w' ⟨rfl, rfl⟩)
      | (go_at_call 168; refine (CB.out _ _ _ HT.out HU.out).mono ?_; rintro e w' ⟨rfl, rfl⟩)
      | (go_at_call 169; refine (CE.out _ _ _ (by first | exact HT.out | exact t3_not _) HU.out).mono ?_; rintro e w' ⟨rfl, rfl⟩))
    all_goals (try go_wp2_with fail)
    all_goals go_ret
    all_goals exact ⟨rfl, (Below.refl _ _).drew⟩
end Go.Proofs.YtkinoehmcfhgbaaGreatDoor.Vl
