/-
  The walk of the call Conditions: the conditions' texts.
  Lists of texts in memory; a list that is full of a mark, and appended to.
  The walks of the law's same, full and stands.
  The walks of the law's own and stands.
-/
import Derived.Test.YtkinoehmcfhgbaaGreatDoorN20
import Derived.ArgAppend
set_option linter.unusedVariables false
set_option linter.unusedSimpArgs false
namespace Go.Proofs.YtkinoehmcfhgbaaGreatDoor.Vl
open Go.RowKit
open Go.Proofs.YtkinoehmcfhgbaaGreatDoor.Av (vr Fm Rd Tg sAt Cm Rc tokAt answer)

theorem cls_fit : ∀ (c : Cm) (q : List Sym), fit c q = true → ∀ l ∈ cls c q, bl l ≤ 4000
  | .skip, q, _, l, hl => by cases hl
  | .asg x t, q, _, l, hl => by cases hl
  | .ite f a b, q, h, l, hl => by
    simp only [fit, Bool.and_eq_true] at h
    rcases List.mem_append.1 hl with hl | hl
    · exact cls_fit a q h.1 l hl
    · exact cls_fit b q h.2.1 l hl
  | .loop f g a, q, h, l, hl => by
    simp only [fit, Bool.and_eq_true] at h
    simp only [cls, List.mem_cons] at hl
    rcases hl with rfl | rfl | hl
    · exact of_decide_eq_true h.2.1
    · exact of_decide_eq_true h.2.2.1
    · exact cls_fit a _ h.1 l hl
  | .seq a b, q, h, l, hl => by
    simp only [fit, Bool.and_eq_true] at h
    rcases List.mem_append.1 hl with hl | hl
    · exact cls_fit a _ h.2 l hl
    · exact cls_fit b q h.1 l hl
theorem kb_le (k : Nat) : kb k ≤ 302000 := by unfold kb; omega
theorem gd_cls {toks : List (List UInt8 × Nat)} {t : Bool} {k k' : Nat} {c : Cm} (h : Rc toks t k c k') : k' ≤ 300 → ∀ q, Gd (kb k') q → ∀ l ∈ cls c q, Gd 302000 l := by
  induction h with
  | skip _ => intro _ q _ l hl; cases hl
  | asg _ => intro _ q _ l hl; cases hl
  | @ite k k1 k2 k3 f a b e r1 r2 r3 i1 i2 =>
    intro hk q hq l hl
    have l1 := r1.le.1
    have l2 := r2.le
    have l3 := r3.le
    rcases List.mem_append.1 hl with hl | hl
    · exact i1 (by omega) q (hq.mono (by unfold kb; omega)) l hl
    · exact i2 (by omega) q (hq.mono (by unfold kb; omega)) l hl
  | @loop k k1 k2 k3 f g a e r1 r2 r3 i1 =>
    intro hk q hq l hl
    have l1 := r1.le.1
    have l2 := r2.le.1
    have l3 := r3.le
    have gf : Gd 302000 (fsy f) := (gd_fsy f (rd_ok r1 (fun g h => by cases h))).mono (by omega)
    have gg0 := gd_fsy g (rd_ok r2 (fun g h => by cases h))
    have gg : Gd 302000 (fsy g) := gg0.mono (by omega)
    have gk : Gd (kb k3) (fsy g) := gg0.mono (by unfold kb; omega)
    simp only [cls, List.mem_cons] at hl
    rcases hl with rfl | rfl | hl
    · exact Gd.mark (by omega) (by omega) (Gd.mark (by omega) (by omega) (gg.app (gf.app ((gd_wpc r3 (by omega) _ gk).mono (kb_le _)))))
    · exact Gd.mark (by omega) (by omega) (Gd.mark (by omega) (by omega) (gg.app (Gd.mark (by omega) (by omega) (gf.app (hq.mono (kb_le _))))))
    · exact i1 (by omega) _ gk l hl
  | one _ _ ih => exact ih
  | @seq k k1 k' c r r1 _ r2 i1 i2 =>
    intro hk q hq l hl
    have l2 := r2.le
    rcases List.mem_append.1 hl with hl | hl
    · exact i1 (by omega) _ ((gd_wpc r2 hk q hq).mono (by unfold kb; omega)) l hl
    · exact i2 hk q hq l hl
theorem conds_good {toks : List (List UInt8 × Nat)} {p : Fm} {c : Cm} {q : Fm} (h : Prg toks p c q) (ht : toks.length ≤ 300) (hf : fits p c q = true) : ∀ l ∈ conds p c q, (∀ y ∈ l, Good y) ∧ bl l ≤ 4000 ∧ l.length ≤ 4000 := by
  obtain ⟨k1, k2, k3, r1, r2, r3, hk⟩ := h
  have l1 := r1.le.1
  have l3 := r3.le.1
  unfold fits at hf
  rw [Bool.and_eq_true] at hf
  have gq : Gd (kb k2) (fsy q) := (gd_fsy q (rd_ok r3 (fun g h => by cases h))).mono (by unfold kb; omega)
  have gp : Gd 302000 (fsy p) := (gd_fsy p (rd_ok r1 (fun g h => by cases h))).mono (by omega)
  have key : ∀ l ∈ conds p c q, Gd 302000 l ∧ bl l ≤ 4000 := fun l hl => by
    unfold conds at hl
    rcases List.mem_cons.1 hl with rfl | hl
    · exact ⟨Gd.mark (by omega) (by omega) (gp.app ((gd_wpc r2 (by omega) _ gq).mono (kb_le _))), of_decide_eq_true hf.2⟩
    · exact ⟨gd_cls r2 (by omega) _ gq l hl, cls_fit c _ hf.1 l hl⟩
  intro l hl
  obtain ⟨h1, h2⟩ := key l hl
  exact ⟨fun y hy => (h1 y hy).1, h2, by have := (bl_count h1).1; omega⟩
theorem take_set_gen {α : Type} (xs : List α) (z : α) (k : Nat) (x : α) (hk : k < xs.length) (hx : xs[k]? = some x) : (xs.take k ++ List.replicate (xs.length - k) z).set k x = xs.take (k + 1) ++ List.replicate (xs.length - (k + 1)) z := by
  have e1 : List.replicate (xs.length - k) z = z :: List.replicate (xs.length - (k + 1)) z := by
    rw [show xs.length - k = (xs.length - (k + 1)) + 1 by omega, List.replicate_succ]
  have e2 : xs.take (k + 1) = xs.take k ++ [x] := by
    rw [List.take_add_one, hx]; rfl
  rw [e1, e2, List.set_append, if_neg (by simp; omega)]
  have : k - (List.take k xs).length = 0 := by simp; omega
  rw [this]
  simp
theorem cAns_kAns (s : ByteArray) (p : Fm) (c : Cm) (q : Fm) : cAns s p c q = ((kAns s p c q).1.map sbs, (kAns s p c q).2.1, (kAns s p c q).2.2) := by
  by_cases h : (answer s).1 = 0
  · have hk : kAns s p c q = if fits p c q then (conds p c q, 0, 0) else ([], 6, 0) := by unfold kAns; rw [if_neg (fun h' => h' h)]
    rw [cAns_fits s p c q h, hk]
    cases fits p c q <;> rfl
  · have hk : kAns s p c q = ([], (answer s).1, (answer s).2) := by unfold kAns; rw [if_pos h]
    have hc : cAns s p c q = ([], (answer s).1, (answer s).2) := by unfold cAns; rw [if_pos h]
    rw [hk, hc]; rfl

set_option maxRecDepth 100000 in
set_option maxHeartbeats 4000000 in
theorem ccond_any (s : ByteArray) (w : World) (hgt : Gt w) :
    Calls Tryz.prog 11 #[.string s] w fun e w' => ∃ p c q, ((answer s).1 = 0 → Prg (tokAt 0 (Av.rest s 0)) p c q) ∧ ∃ v, e = .returned (.tuple #[v, .int .i64 (cAns s p c q).2.1, .int .i64 (cAns s p c q).2.2]) ∧ w'.ownsRow w.heap.size 9 1 v (cAns s p c q).1.length ((cAns s p c q).1.map strV) ∧ Below w.heap.size w w' := by
  have CP := conds_any s w hgt
  have HCA : Hid (∀ p c q, cAns s p c q = ((kAns s p c q).1.map sbs, (kAns s p c q).2.1, (kAns s p c q).2.2)) := fun p c q => cAns_kAns s p c q
  have HGD : Hid (∀ p c q, ((answer s).1 = 0 → Prg (tokAt 0 (Av.rest s 0)) p c q) → ((kAns s p c q).2.1 = 0 ∧ (kAns s p c q).2.2 = 0 ∧ (kAns s p c q).1.length ≤ 4000 ∧ ∀ l ∈ (kAns s p c q).1, (∀ y ∈ l, Good y) ∧ bl l ≤ 4000 ∧ l.length ≤ 4000) ∨ ((kAns s p c q).2.1 ≠ 0 ∧ (kAns s p c q).1 = [])) := fun p c q h => by
    by_cases h0 : (answer s).1 = 0
    · have htl : (tokAt 0 (Av.rest s 0)).length ≤ 300 := by have := answer_long h0; have := Av.tokAt_len 0 (Av.rest s 0); have := Av.rest_len s 0; omega
      have hk : kAns s p c q = if fits p c q then (conds p c q, 0, 0) else ([], 6, 0) := by unfold kAns; rw [if_neg (fun h' => h' h0)]
      cases hf : fits p c q
      · rw [hf, if_neg (by decide)] at hk
        right
        rw [hk]; exact ⟨by show (6 : Int) ≠ 0; decide, rfl⟩
      · rw [hf, if_pos rfl] at hk
        left
        rw [hk]
        refine ⟨rfl, rfl, ?_, conds_good (h h0) htl hf⟩
        obtain ⟨k1, k2, k3, r1, r2, r3, hk3⟩ := h h0
        have l3 := r3.le.1
        have h1 := rc_sz r2
        have h2 := nlo_le c
        have h3 := pL_len c (fsy q)
        unfold fits at hf
        rw [Bool.and_eq_true] at hf
        have h4 := ((walk_is c (fsy q)).2 hf.1).2
        rw [h4, List.length_reverse] at h3
        show (conds p c q).length ≤ 4000
        unfold conds
        simp only [List.length_cons]
        omega
    · right
      have hk : kAns s p c q = ([], (answer s).1, (answer s).2) := by unfold kAns; rw [if_pos h0]
      rw [hk]; exact ⟨h0, rfl⟩
  have CP2 : Hid _ := CP
  clear CP
  have HGT : Hid (Gt w) := hgt
  obtain ⟨i0, hi, hz0, hz1, hz2⟩ := info_parts Tryz.infoStr
  go_enter Tryz.func11, Tryz.ntmps11
  go_wp2_with fail
  refine Calls.mono CP2.out ?_
  rintro e w1 ⟨p, c, q, hpg, v, vs, rfl, ho, hd, hb1⟩
  have HPG : Hid _ := hpg
  have hcase := HGD.out p c q hpg
  have HCE := HCA.out p c q
  generalize kAns s p c q = KA at *
  generalize hCC : cAns s p c q = CA at *
  have HCC : Hid (cAns s p c q = CA) := hCC
  obtain ⟨L, er, pl⟩ := KA
  dsimp only at *
  have HCQ : Hid (CA = (L.map sbs, er, pl)) := HCE
  clear hpg HCE hCC
  rcases hcase with ⟨rfl, rfl, hLl, hgood⟩ | ⟨her, rfl⟩
  · have HGO : Hid _ := hgood
    have HOC : Hid (w1.ownsRow w.heap.size 75 1 v L.length vs) := ho
    have HDC : Hid (Cds w1 vs L) := hd
    have HB1 : Hid (Below w.heap.size w w1) := hb1
    obtain ⟨va, vc, rfl⟩ := own_shape ho
    clear hgood ho hd
    go_wp2_with (at_make; refine wpList_make_full _ rfl _ _ 22 rfl w1.heap.size 9 i0 (.string ⟨#[]⟩) 1 Tryz.underlying22 hi hz0 hz1 .i64 .i64 _ _ L.length rfl rfl rfl rfl (by rw [hz2]; omega) (by unfold maxLen; omega) (by simp) ?_)
    intro w3 hown hgrow
    have hown' : w3.ownsRow w1.heap.size 9 1 (.slice (some ⟨w1.heap.size, 0, none⟩) L.length L.length) L.length ((L.map fun l => strV (sbs l)).take 0 ++ List.replicate (L.length - 0) (.string ⟨#[]⟩)) := by
      have h := hown
      rw [toList_madeCells_one] at h
      simpa using h
    have hb3 : Below w1.heap.size w1 w3 := (Below.refl _ w1).grown hgrow (Nat.le_refl _) (by intro k h; cases h)
    clear hown hgrow
    go_wp2_with fail
    go_loopw [9, 10, 26] (fun s9 s10 s26 wr => ∃ i : Nat, s26 = .int .i64 (i : Int) ∧ i ≤ L.length ∧ wr.ownsRow w1.heap.size 9 1 (.slice (some ⟨w1.heap.size, 0, none⟩) L.length L.length) L.length ((L.map fun l => strV (sbs l)).take i ++ List.replicate (L.length - i) (.string ⟨#[]⟩)) ∧ Below w1.heap.size w1 wr) (fun _ _ s26 _ => L.length - (intOf s26).toNat)
    case atStart => exact ⟨0, rfl, Nat.zero_le _, hown', hb3⟩
    case round =>
      obtain ⟨i, rfl, hi2, hown, hbw⟩ := hrel
      by_cases hlt : i < L.length
      · have hvl : i < vs.length := by have := HDC.out.1; omega
        obtain ⟨u, hu⟩ : ∃ u, vs[i]? = some u := ⟨_, List.getElem?_eq_getElem hvl⟩
        obtain ⟨l, hl⟩ : ∃ l, L[i]? = some l := ⟨_, List.getElem?_eq_getElem hlt⟩
        have hc := (HDC.out.2 i u l hu hl).below hbw
        obtain ⟨g1, g2, g3⟩ := HGO.out l (List.mem_of_getElem? hl)
        have CT : Hid (Calls Tryz.prog 36 #[u] wr fun e w' => e = .returned (strV (sbs l)) ∧ Below wr.heap.size wr w') := text_any u l wr hc g1 (by omega) (by omega) ((HGT.out.on HB1.out).on hbw)
        obtain ⟨ga, capa, hgva, hga1, hga2, hga3, hga4, hga5, hga6⟩ := own_facts HOC.out (by omega)
        cases hgva
        have hcu := (hbw.cell (p := ⟨ga, i, none⟩) hga2).trans (hga5 i u hu)
        obtain ⟨pa, pcap, rfl⟩ := hc.shape
        have HL : Hid ((L.map fun l => strV (sbs l))[i]? = some (strV (sbs l))) := by show _ = _; rw [List.getElem?_map, hl]; rfl
        have hlt' : (i : Int) < (L.length : Int) := by omega
        have HOW : Hid _ := hown
        have HBW : Hid (Below w1.heap.size w1 wr) := hbw
        have hwl := hbw.size
        clear hown hbw hu hl hc g1 g2 g3 hga5 hga6
        unfold strV at CT
        generalize hSB : (⟨(sbs l).toArray⟩ : ByteArray) = SB at *
        have HSB : Hid ((⟨(sbs l).toArray⟩ : ByteArray) = SB) := hSB
        clear hSB
        go_wp2_with fail
        refine Calls.mono CT.out ?_
        rintro e w2 ⟨rfl, hb2⟩
        have hO2 := ownsRow_below HOW.out hb2
        have HO2 : Hid _ := hO2
        obtain ⟨gt, capt, hgvt, hgt1, hgt2, hgt3, hgt4, hgt5, hgt6⟩ := own_facts hO2 (by omega)
        cases hgvt
        have hml : i < ((L.map fun l => strV (sbs l)).take i ++ List.replicate (L.length - i) (Value.string ⟨#[]⟩)).length := by simp; omega
        have hold := hgt5 i _ (List.getElem?_eq_getElem hml)
        have hfz := hgt6 i
        generalize ((L.map fun l => strV (sbs l)).take i ++ List.replicate (L.length - i) (Value.string ⟨#[]⟩))[i] = old at *
        have HB2 : Hid (Below w1.heap.size w1 w2) := HBW.out.trans (hb2.mono hwl)
        clear hO2 hgt5 hgt6
        go_wp2_with fail
        refine ⟨⟨i + 1, by go_num, by omega, ?_, ?_⟩, by simp [intOf]; omega⟩
        · have h1 := own_set HO2.out i (.string SB)
          have h2 := take_set_gen (L.map fun l => strV (sbs l)) (.string ⟨#[]⟩) i (strV (sbs l)) (by simpa using hlt) HL.out
          rw [List.length_map] at h2
          rw [← HSB.out] at h1 ⊢
          have h3 : (Value.string ⟨(sbs l).toArray⟩) = strV (sbs l) := rfl
          rw [h3] at h1 ⊢
          rw [h2] at h1
          exact h1
        · exact HB2.out.setCell (p := ⟨w1.heap.size, i, none⟩) (Nat.le_refl _) _
      · have hie : i = L.length := by omega
        subst hie
        have hlt' : ¬ ((L.length : Nat) : Int) < (L.length : Int) := by omega
        have HOW : Hid (wr.ownsRow w1.heap.size 9 1 (.slice (some ⟨w1.heap.size, 0, none⟩) L.length L.length) L.length ((L.map sbs).map strV)) := by
          show wr.ownsRow _ _ _ _ _ _
          have h1 := hown
          rw [Nat.sub_self, show (L.map fun l => strV (sbs l)).take L.length = (L.map sbs).map strV by rw [List.map_map, List.take_of_length_le (by simp)]; rfl] at h1
          simpa using h1
        have HBW : Hid (Below w.heap.size w wr) := HB1.out.trans (hbw.mono HB1.out.size)
        clear hown hbw
        go_wp2_with fail
        go_ret3
        refine ⟨p, c, q, HPG.out, _, by rw [HCC.out, HCQ.out]; rfl, ?_, HBW.out⟩
        rw [HCC.out, HCQ.out]
        dsimp only
        rw [List.length_map]
        exact own_base HOW.out HB1.out.size
  · have her' : (er != 0) = true := by simp [her]
    have HB1 : Hid (Below w.heap.size w w1) := hb1
    obtain ⟨va, vc, rfl⟩ := own_shape ho
    go_wp2_with fail
    go_ret3
    refine ⟨p, c, q, HPG.out, .slice none 0 0, by rw [HCC.out, HCQ.out]; rfl, by rw [HCC.out, HCQ.out]; exact World.ownsRow_nil _ _ _ _, HB1.out⟩
end Go.Proofs.YtkinoehmcfhgbaaGreatDoor.Vl
set_option linter.unusedVariables false
set_option linter.unusedSimpArgs false
namespace Go.Proofs.YtkinoehmcfhgbaaGreatDoor.Vl
open Go.RowKit

/-- A list of texts as it lies in memory. -/
def Txts (w : World) (v : Value) (L : List (List UInt8)) : Prop :=
  ∃ q c, v = .slice q L.length c ∧ (L = [] ∨ ∃ g, q = some ⟨g, 0, none⟩ ∧ g < w.heap.size ∧ ∀ j l, L[j]? = some l → w.cell? ⟨g, j, none⟩ = some (strV l))
theorem Txts.below {w w' : World} {v : Value} {L : List (List UInt8)} (h : Txts w v L) (hb : Below w.heap.size w w') : Txts w' v L := by
  obtain ⟨q, c, rfl, h⟩ := h
  refine ⟨q, c, rfl, h.imp id ?_⟩
  rintro ⟨g, h1, h2, h3⟩
  exact ⟨g, h1, Nat.lt_of_lt_of_le h2 hb.size, fun j l hl => (hb.cell (p := ⟨g, j, none⟩) h2).trans (h3 j l hl)⟩
theorem Txts.own {w : World} {base : Nat} {v : Value} {L : List (List UInt8)} (h : w.ownsRow base 9 1 v L.length (L.map strV)) : Txts w v L := by
  cases L with
  | nil => obtain ⟨q, c, rfl⟩ := own_shape h; exact ⟨q, c, rfl, Or.inl rfl⟩
  | cons x r =>
    obtain ⟨g, cap, rfl, hg1, hg2, hg3, hg4, hg5, hg6⟩ := own_facts h (by simp)
    exact ⟨_, _, rfl, Or.inr ⟨g, rfl, hg2, fun j l hl => hg5 j _ (by rw [List.getElem?_map, hl]; rfl)⟩⟩
theorem Txts.shape {w : World} {v : Value} {L : List (List UInt8)} (h : Txts w v L) : ∃ q c, v = .slice q L.length c := by
  obtain ⟨q, c, e, _⟩ := h; exact ⟨q, c, e⟩
/-- What is the mark stays the mark. -/
def KM (m : List UInt8) (w w' : World) : Prop := w.heap.size ≤ w'.heap.size ∧ ∀ b j, w.cell? ⟨b, j, none⟩ = some (strV m) → w'.cell? ⟨b, j, none⟩ = some (strV m)
theorem KM.trans {m : List UInt8} {a b c : World} (h : KM m a b) (k : KM m b c) : KM m a c := ⟨Nat.le_trans h.1 k.1, fun x j e => k.2 x j (h.2 x j e)⟩
theorem KM.alloc (m : List UInt8) (w : World) (o : Obj) : KM m w (w.alloc o) := ⟨by simp, fun b j e => ((below_alloc w o).cell (p := ⟨b, j, none⟩) (World.block_lt_of_cell? w _ e)).trans e⟩
theorem Txts.km {w w' : World} {v : Value} {m : List UInt8} {n : Nat} (h : Txts w v (List.replicate n m)) (hk : KM m w w') : Txts w' v (List.replicate n m) := by
  obtain ⟨q, c, rfl, h⟩ := h
  refine ⟨q, c, rfl, h.imp id ?_⟩
  rintro ⟨g, h1, h2, h3⟩
  refine ⟨g, h1, Nat.lt_of_lt_of_le h2 hk.1, fun j l hl => ?_⟩
  have : l = m := by
    rw [List.getElem?_replicate] at hl
    split at hl
    · exact (Option.some.inj hl).symm
    · cases hl
  subst this
  exact hk.2 g j (h3 j _ hl)
theorem one_rep (m : List UInt8) (k : Nat) : ∀ u ∈ List.replicate k (strV m), u.oneCell' = true := fun u hu => by rw [List.eq_of_mem_replicate hu]; rfl

theorem append_marks {ops : Array Oper} {rest : List Oper} {o : Oper} {a : Act} {Q : Exit → Act → World → Prop} (w : World) (hgd : o.guard = none) (s x : Operand)
    (ho : o.op = .call { callee := .builtin .append, args := #[s, x], argTypes := #[22, 22] }) (base : Nat) (v : Value) (n k : Nat) (m : List UInt8) (hs : a.eval s = v) (hown : w.ownsRow base 9 1 v n (List.replicate n (strV m)))
    (B : Nat) (c : Nat) (hx : a.eval x = .slice (some ⟨B, 0, none⟩) k c) (hc : ∀ j, j < k → w.cell? ⟨B, j, none⟩ = some (strV m)) (hn : n ≤ 1000000) (hk : k ≤ 3) (hk0 : 0 < k)
    (h : ∀ v' w', w'.ownsRow base 9 1 v n (List.replicate n (strV m)) → Txts w' v' (List.replicate (n + k) m) → KM m w w' → w.grownBy w' v.ownBlock → wpList Tryz.prog ops Q rest (a.put o.dst v') w') :
    wpList Tryz.prog ops Q (o :: rest) a w := by
  obtain ⟨i0, hi, hz0, hz1, hz2⟩ := info_parts Tryz.infoStr
  have hnews : ∀ j u, (List.replicate k (strV m))[j]? = some u → w.cell? ((⟨B, 0, none⟩ : Addr).add j) = some u := fun j u hu => by
    rw [List.getElem?_replicate] at hu
    split at hu
    · rename_i hj
      cases hu
      rw [Addr.add_lit, Nat.zero_add]; exact hc j hj
    · cases hu
  have grows : ∀ v' w', w'.ownsRow w.heap.size 9 1 v' (n + k) (List.replicate n (strV m) ++ List.replicate k (strV m)) → w.grownBy w' none → wpList Tryz.prog ops Q rest (a.put o.dst v') w' := fun v' w' ho' hg' => by
    refine h v' w' (hown.kept hg' ?_) (Txts.own (base := w.heap.size) ?_) ⟨hg'.size, fun b j e => ?_⟩ (hg'.but _)
    · rcases hown.2 with ⟨e, _⟩ | ⟨g, cap, cur, e, _⟩
      · exact Or.inl (by rw [e]; rfl)
      · exact Or.inr (by rw [e]; intro h; cases h)
    · rw [List.length_replicate, List.map_replicate, ← List.replicate_append_replicate]; exact ho'
    · exact (World.cell?_of_block (a := ⟨b, j, none⟩) (hg'.block b (World.block_lt_of_cell? w _ e) (by simp))).trans e
  rcases hown.2 with ⟨e1, e2⟩ | ⟨g, cap, cur, e1, hg, hh, h3, h4, h5, h6⟩
  · subst e2
    subst e1
    refine wpList_append_grows w hgd s x _ ho 9 i0 (.string ⟨#[]⟩) 1 16 Tryz.underlying22 hi hz0 hz1 hz2 rfl (by decide) none 0 0 [] hs (fun _ => ⟨rfl, rfl⟩) rfl (fun b hb => by cases hb) ⟨B, 0, none⟩ k c (List.replicate k (strV m)) hx (by simp) hnews (one_rep m k) (by omega) (by unfold maxLen; omega) (by omega) ?_
    intro v' w' ho' hg'
    exact grows v' w' (by simpa using ho') hg'
  · subst e1
    refine wpList_append_arg w hgd s x _ ho 9 i0 (.string ⟨#[]⟩) 1 16 Tryz.underlying22 hi hz0 hz1 hz2 rfl (by decide) g 0 n cap (List.replicate n (strV m)) hs (by simp) (fun j u hu => ?olds) ⟨B, 0, none⟩ k c (List.replicate k (strV m)) hx (by simp) hnews (one_rep m k) (fun hr j hj => ?spare) (by unfold maxLen; omega) (by omega) (fun hr => ?room) (fun _ => grows)
    case olds =>
      rw [← h6, List.getElem?_take] at hu
      split at hu
      · have : cur[j]? = some u := by simpa using hu
        simp [World.cell?, hh, this]
      · cases hu
    case spare =>
      rw [List.length_replicate] at hj
      have hlt : n + j < cur.size := by omega
      simp [World.cell?, World.frozen?, hh, Array.getElem?_eq_getElem hlt]
    case room =>
      have hext : w.ownsRow base 9 1 (.slice (some ⟨g, 0, none⟩) (n + k) cap) (n + k) (List.replicate n (strV m) ++ (cur.toList.drop n).take k) := by
        refine ⟨?_, Or.inr ⟨g, cap, cur, rfl, hg, hh, hr, h4, h5, ?_⟩⟩
        · rw [List.length_append, List.length_replicate, List.length_take, List.length_drop, Array.length_toList]; omega
        · rw [Nat.mul_one, List.take_add, ← h6, Nat.mul_one]
      have hset := own_setCells (List.replicate k (strV m)) (List.replicate n (strV m)) ((cur.toList.drop n).take k) w (by rw [List.length_take, List.length_drop, Array.length_toList, List.length_replicate]; omega) hext
      rw [List.length_replicate] at hset
      rw [show 0 + n * 1 = n by omega]
      obtain ⟨gg, gs⟩ := grown_setCells g (List.replicate k (strV m)) n w
      have htk := own_take hset n (by omega)
      rw [List.take_left' (by simp)] at htk
      have hset2 : (w.setCells g n (List.replicate k (strV m))).ownsRow base 9 1 (.slice (some ⟨g, 0, none⟩) (n + k) cap) (n + k) ((List.replicate (n + k) m).map strV) := by
        rw [List.map_replicate, ← List.replicate_append_replicate]; exact hset
      refine h _ _ htk (Txts.own (base := base) (by rw [List.length_replicate]; exact hset2)) ⟨by omega, fun b j e => ?_⟩ gg
      by_cases hin : b = g ∧ n ≤ j ∧ j < n + k
      · obtain ⟨rfl, h1, h2⟩ := hin
        obtain ⟨g', cap', e', _, _, _, _, hg5, _⟩ := own_facts hset2 (by omega)
        cases e'
        exact hg5 j _ (by rw [List.getElem?_map, List.getElem?_replicate, if_pos h2]; rfl)
      · rw [World.cell?_setCells_out g _ n w ⟨b, j, none⟩ (fun hb _ => by rw [List.length_replicate]; dsimp only at hb ⊢; omega)]
        exact e
end Go.Proofs.YtkinoehmcfhgbaaGreatDoor.Vl
set_option linter.unusedVariables false
set_option linter.unusedSimpArgs false
namespace Go.Proofs.YtkinoehmcfhgbaaGreatDoor.Vl
open Go.RowKit

set_option maxRecDepth 100000 in
set_option maxHeartbeats 2000000 in
theorem same_any (L : List (List UInt8)) (v1 v2 : Value) (w : World) (h1 : Txts w v1 L) (h2 : Txts w v2 L) (hl : L.length ≤ 1000000) :
    Calls Tryz.prog 12 #[v1, v2] w fun e w' => e = .returned (.bool true) ∧ Below w.heap.size w w' := by
  have H1 : Hid _ := h1
  have H2 : Hid _ := h2
  obtain ⟨q1, c1, rfl, k1⟩ := h1
  obtain ⟨q2, c2, rfl, k2⟩ := h2
  clear k1 k2
  go_enter Tryz.func12, Tryz.ntmps12
  go_wp2_with fail
  go_loopw [5] (fun i wr => ∃ k : Nat, k ≤ L.length ∧ i = .int .i64 (k : Int) ∧ Below w.heap.size w wr) (fun i _ => L.length - (intOf i).toNat)
  case atStart => exact ⟨0, Nat.zero_le _, rfl, Below.refl _ _⟩
  case round =>
    obtain ⟨k, hk, rfl, hb⟩ := hrel
    by_cases hlt : k < L.length
    · obtain ⟨l, hle⟩ : ∃ l, L[k]? = some l := ⟨_, List.getElem?_eq_getElem hlt⟩
      obtain ⟨_, _, e1, k1⟩ := H1.out
      obtain ⟨_, _, e2, k2⟩ := H2.out
      cases e1
      cases e2
      rcases k1 with k1 | ⟨g1, rfl, s1, f1⟩
      · subst k1; simp at hlt
      rcases k2 with k2 | ⟨g2, rfl, s2, f2⟩
      · subst k2; simp at hlt
      have x1 := (hb.cell (p := ⟨g1, k, none⟩) s1).trans (f1 k l hle)
      have x2 := (hb.cell (p := ⟨g2, k, none⟩) s2).trans (f2 k l hle)
      unfold strV at x1 x2
      have hlt' : (k : Int) < (L.length : Int) := by omega
      clear f1 f2 hle
      go_wp2_with fail
      go_region
      go_wp2_with fail
      go_roundw
      case rel => exact ⟨k + 1, by omega, by go_num, hb.drew⟩
      case measure => simp [intOf]; omega
    · have hlt' : ¬ (k : Int) < (L.length : Int) := by omega
      go_wp2_with fail
      go_ret
      exact ⟨rfl, hb⟩

set_option maxRecDepth 100000 in
set_option maxHeartbeats 2000000 in
theorem full_any (n : Nat) (m : List UInt8) (v : Value) (w : World) (h : Txts w v (List.replicate n m)) (hl : n ≤ 1000000) :
    Calls Tryz.prog 41 #[v, .int .i64 (n : Int), .string ⟨m.toArray⟩] w fun e w' => e = .returned (.bool true) ∧ w = w' := by
  have H1 : Hid _ := h
  obtain ⟨q1, c1, rfl, k1⟩ := h
  clear k1
  rw [List.length_replicate]
  go_enter Tryz.func41, Tryz.ntmps41
  go_wp2_with fail
  go_loopw [7, 8] (fun b i wr => ∃ k : Nat, k ≤ n ∧ i = .int .i64 (k : Int) ∧ b = .bool true ∧ wr = w) (fun _ i _ => n - (intOf i).toNat)
  case atStart => exact ⟨0, Nat.zero_le _, rfl, by simp, rfl⟩
  case round =>
    obtain ⟨k, hk, rfl, rfl, rfl⟩ := hrel
    by_cases hlt : k < n
    · obtain ⟨q', c', e1, k1⟩ := H1.out
      have e2 : q1 = q' ∧ c1 = c' := by injection e1 with a b c; exact ⟨a, c⟩
      obtain ⟨rfl, rfl⟩ := e2
      rcases k1 with k1 | ⟨g1, rfl, s1, f1⟩
      · have := congrArg List.length k1; simp at this; omega
      have x1 := f1 k m (by rw [List.getElem?_replicate, if_pos hlt])
      unfold strV at x1
      have hlt' : (k : Int) < (n : Int) := by omega
      clear f1
      go_wp2_with fail
      go_roundw
      case rel => exact ⟨k + 1, by omega, by go_num, by simp, trivial⟩
      case measure => simp [intOf]; omega
    · have hlt' : ¬ (k : Int) < (n : Int) := by omega
      go_wp2_with fail
      go_ret
      exact ⟨rfl, rfl⟩
end Go.Proofs.YtkinoehmcfhgbaaGreatDoor.Vl
set_option linter.unusedVariables false
set_option linter.unusedSimpArgs false
namespace Go.Proofs.YtkinoehmcfhgbaaGreatDoor.Vl
open Go.RowKit

/-- What an owner has: the list and what was appended to it, all of it the mark. -/
def Own (w : World) (cs : Array Value) (n : Nat) (m : List UInt8) : Prop := ∃ v v1 v2 v3, cs = #[v, v1, v2, v3, strV m] ∧ Txts w v (List.replicate n m) ∧ Txts w v1 (List.replicate (n + 1) m) ∧ Txts w v2 (List.replicate (n + 2) m) ∧ Txts w v3 (List.replicate (n + 3) m)
theorem Own.below {w w' : World} {cs : Array Value} {n : Nat} {m : List UInt8} (h : Own w cs n m) (hb : Below w.heap.size w w') : Own w' cs n m := by
  obtain ⟨v, v1, v2, v3, e, h0, h1, h2, h3⟩ := h
  exact ⟨v, v1, v2, v3, e, h0.below hb, h1.below hb, h2.below hb, h3.below hb⟩

set_option maxRecDepth 100000 in
set_option maxHeartbeats 2000000 in
theorem stands_any (cs : Array Value) (n : Nat) (m : List UInt8) (w : World) (h : Own w cs n m) (hl : n ≤ 100000) :
    Calls Tryz.prog 16 #[.agg cs] w fun e w' => e = .returned (.bool true) ∧ Below w.heap.size w w' := by
  obtain ⟨v, v1, v2, v3, rfl, h0, h1, h2, h3⟩ := h
  have CF : Hid (∀ k u X, Txts X u (List.replicate k m) → k ≤ 1000000 → Calls Tryz.prog 41 #[u, .int .i64 (k : Int), .string ⟨m.toArray⟩] X fun e w' => e = .returned (.bool true) ∧ X = w') := fun k u X hx hk => full_any k m u X hx hk
  have ba := below_alloc w (.cells #[v, v1, v2, v3, strV m] 29)
  have g0 := h0.below ba
  have g1 := h1.below ba
  have g2 := h2.below ba
  have g3 := h3.below ba
  obtain ⟨q0, c0, rfl⟩ := h0.shape
  obtain ⟨q1, c1, rfl⟩ := h1.shape
  obtain ⟨q2, c2, rfl⟩ := h2.shape
  obtain ⟨q3, c3, rfl⟩ := h3.shape
  simp only [List.length_replicate] at *
  have G0 : Hid (Calls Tryz.prog 41 #[.slice q0 n c0, .int .i64 (n : Int), .string ⟨m.toArray⟩] (w.alloc (.cells #[.slice q0 n c0, .slice q1 (n + 1) c1, .slice q2 (n + 2) c2, .slice q3 (n + 3) c3, .string ⟨m.toArray⟩] 29)) fun e w' => e = .returned (.bool true) ∧ (w.alloc (.cells #[.slice q0 n c0, .slice q1 (n + 1) c1, .slice q2 (n + 2) c2, .slice q3 (n + 3) c3, .string ⟨m.toArray⟩] 29)) = w') := CF.out _ _ _ g0 (by omega)
  have G1 : Hid (Calls Tryz.prog 41 #[.slice q1 (n + 1) c1, .int .i64 ((n + 1 : Nat) : Int), .string ⟨m.toArray⟩] (w.alloc (.cells #[.slice q0 n c0, .slice q1 (n + 1) c1, .slice q2 (n + 2) c2, .slice q3 (n + 3) c3, .string ⟨m.toArray⟩] 29)) fun e w' => e = .returned (.bool true) ∧ (w.alloc (.cells #[.slice q0 n c0, .slice q1 (n + 1) c1, .slice q2 (n + 2) c2, .slice q3 (n + 3) c3, .string ⟨m.toArray⟩] 29)) = w') := CF.out _ _ _ g1 (by omega)
  have G2 : Hid (Calls Tryz.prog 41 #[.slice q2 (n + 2) c2, .int .i64 ((n + 2 : Nat) : Int), .string ⟨m.toArray⟩] (w.alloc (.cells #[.slice q0 n c0, .slice q1 (n + 1) c1, .slice q2 (n + 2) c2, .slice q3 (n + 3) c3, .string ⟨m.toArray⟩] 29)) fun e w' => e = .returned (.bool true) ∧ (w.alloc (.cells #[.slice q0 n c0, .slice q1 (n + 1) c1, .slice q2 (n + 2) c2, .slice q3 (n + 3) c3, .string ⟨m.toArray⟩] 29)) = w') := CF.out _ _ _ g2 (by omega)
  have G3 : Hid (Calls Tryz.prog 41 #[.slice q3 (n + 3) c3, .int .i64 ((n + 3 : Nat) : Int), .string ⟨m.toArray⟩] (w.alloc (.cells #[.slice q0 n c0, .slice q1 (n + 1) c1, .slice q2 (n + 2) c2, .slice q3 (n + 3) c3, .string ⟨m.toArray⟩] 29)) fun e w' => e = .returned (.bool true) ∧ (w.alloc (.cells #[.slice q0 n c0, .slice q1 (n + 1) c1, .slice q2 (n + 2) c2, .slice q3 (n + 3) c3, .string ⟨m.toArray⟩] 29)) = w') := CF.out _ _ _ g3 (by omega)
  clear h0 h1 h2 h3 g0 g1 g2 g3 CF
  unfold strV at *
  rw [show ((n + 1 : Nat) : Int) = (n : Int) + 1 by omega] at G1
  rw [show ((n + 2 : Nat) : Int) = (n : Int) + 2 by omega] at G2
  rw [show ((n + 3 : Nat) : Int) = (n : Int) + 3 by omega] at G3
  go_enter Tryz.func16, Tryz.ntmps16
  go_wp2_with fail
  refine Calls.mono G0.out ?_
  rintro e w' ⟨rfl, rfl⟩
  go_wp2_with fail
  refine Calls.mono G1.out ?_
  rintro e w' ⟨rfl, rfl⟩
  go_wp2_with fail
  refine Calls.mono G2.out ?_
  rintro e w' ⟨rfl, rfl⟩
  go_wp2_with fail
  refine Calls.mono G3.out ?_
  rintro e w' ⟨rfl, rfl⟩
  go_wp2_with fail
  go_ret
  exact ⟨rfl, ba⟩
end Go.Proofs.YtkinoehmcfhgbaaGreatDoor.Vl
