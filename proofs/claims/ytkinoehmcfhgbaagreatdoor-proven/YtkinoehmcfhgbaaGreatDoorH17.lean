/-
  The walk of the prover's assume, its search given.
-/
import Derived.Test.YtkinoehmcfhgbaaGreatDoorH7
set_option linter.unusedVariables false
set_option linter.unusedSimpArgs false
namespace Go.Proofs.YtkinoehmcfhgbaaGreatDoor.Vl
open Go.RowKit

theorem setN_back {A : Nat → Int} {n : Nat} (t : Int) (h : A n = 0) : setN (setN A n t) n 0 = A := by
  funext i
  unfold setN
  split
  · rename_i e; subst e; exact h.symm
  · rfl
theorem ifA_ok {a : Atm} (h : okA a) (t : Int) : ∃ (l r : Nat) (c : Int), ifA a t = ((l : Int), (r : Int), c) ∧ l < 5 ∧ r < 5 ∧ -1000000 ≤ c ∧ c ≤ 1000000 := by
  obtain ⟨o1, o2, o3, o4, o5, o6⟩ := h
  unfold ifA
  split
  · exact ⟨a.2.1.toNat, a.1.toNat, -a.2.2 - 1, by rw [Int.toNat_of_nonneg o3, Int.toNat_of_nonneg o1], by omega, by omega, by omega, by omega⟩
  · exact ⟨a.1.toNat, a.2.1.toNat, a.2.2, by rw [Int.toNat_of_nonneg o1, Int.toNat_of_nonneg o3], by omega, by omega, by omega, by omega⟩
theorem PvS.mlt {w0 w : World} {D : PD} {us : List Atm} {g : List Pt} {s n : Nat} {A : Nat → Int} {ats parts : List Int} (h : PvS w0 w D us g s n A ats parts) : ∀ m ∈ D.M, m < w.heap.size := by
  intro m hm
  unfold PD.M at hm
  simp only [List.mem_cons, List.not_mem_nil, or_false] at hm
  rcases hm with rfl | rfl | rfl | rfl
  · exact h.box.lt
  · exact h.am.lt
  · exact h.tr.lt
  · exact h.pr.lt
set_option maxRecDepth 100000 in
set_option maxHeartbeats 12000000 in
theorem assume_of (w0 w : World) (D : PD) (us : List Atm) (g : List Pt) (s n k : Nat) (A : Nat → Int) (ats parts : List Int) (kb : Nat) (B : Bd) (num : Nat) (t : Int) (hC : SrC w0 D us g k) (hs : s ≤ k) (h : PvS w0 w D us g s n A ats parts) (hB : BdAt w kb 0 B) (hkb : kb ∉ D.M) (hsx : SX us g) (hSI : SI us A B) (hnum : num < us.length) (hop : (lok us A B).getD num 0 = 0) (hA0 : A num = 0) (ht : t = 1 ∨ t = 2) (hn : n + 1 + 2 * s ≤ 100000) :
    Calls Tryz.prog 189 #[.pointer (some ⟨D.pb, 0, none⟩), .int .i64 (num : Int), .int .i8 t, .pointer (some ⟨kb, 0, none⟩)] w (SrR w0 D us g (n + 1 + 2 * s) A (sch us g k s (setN A num t) (bwa B (us.getD num (0, 0, 0)) t num)).1 (sch us g k s (setN A num t) (bwa B (us.getD num (0, 0, 0)) t num)).2 w) := by
  have hus5 := hsx.us5
  have h1 : PvS w0 (w.alloc (.cells #[.int .i64 0, .string ⟨#[]⟩, .int .u64 0, .int .u64 0, .int .u64 0, .int .u64 0, .int .u64 0, .int .u64 0, .int .u64 0, .int .u64 0, .int .u64 0, .int .i64 0, .int .i64 0, .int .i64 0, .int .i64 0] 186)) D us g s n A ats parts := h.below (below_alloc w _)
  have hres1 : Blk (w.alloc (.cells #[.int .i64 0, .string ⟨#[]⟩, .int .u64 0, .int .u64 0, .int .u64 0, .int .u64 0, .int .u64 0, .int .u64 0, .int .u64 0, .int .u64 0, .int .u64 0, .int .i64 0, .int .i64 0, .int .i64 0, .int .i64 0] 186)) w.heap.size 186 (enC 0 [] z9 (0, 0, 0, 0)) := heap_alloc_new w _
  have ht3 : T3 t := by rcases ht with rfl | rfl; exact Or.inr (Or.inl rfl); exact Or.inr (Or.inr rfl)
  obtain ⟨w1, hput, hNM, hgr⟩ := NM.put h1.am num (by omega) t ht3 (by omega) (by unfold maxLen; omega)
  have h2 : PvS w0 w1 D us g s (n + 1) (setN A num t) ats parts := h1.setM hgr hNM
  have hf1 : FrX [D.mb] (w.alloc (.cells #[.int .i64 0, .string ⟨#[]⟩, .int .u64 0, .int .u64 0, .int .u64 0, .int .u64 0, .int .u64 0, .int .u64 0, .int .u64 0, .int .u64 0, .int .u64 0, .int .i64 0, .int .i64 0, .int .i64 0, .int .i64 0] 186)) w1 := FrX.of_grown hgr (by simp)
  have hsub : ∀ m ∈ [D.mb], m ∈ D.M := fun m hm => by rw [List.mem_singleton.1 hm]; exact D.mm
  have hB1 : BdAt w1 kb 0 B := (hB.below (below_alloc w _)).fr hf1 (h1.noi.sub hsub) (fun e => hkb (hsub _ e))
  have hF1 : FrX D.M w w1 := (FrX.of_below (below_alloc w _)).trans (hf1.sub hsub)
  have hmlt := h.mlt
  have hwM : w.heap.size ∉ D.M := fun e => by have := hmlt _ e; omega
  have hres2 : Blk w1 w.heap.size 186 (enC 0 [] z9 (0, 0, 0, 0)) := hres1.fr hf1 (fun e => hwM (hsub _ e))
  obtain ⟨⟨a1, a2, a3⟩, hx⟩ : ∃ x, us[num]? = some x := ⟨_, List.getElem?_eq_getElem hnum⟩
  have hgu : us.getD num (0, 0, 0) = (a1, a2, a3) := by rw [List.getD_eq_getElem?_getD, hx]; rfl
  have hoa := hsx.ok _ (List.mem_of_getElem? hx)
  have hSI2 := hSI.step hnum hop ht
  rw [hgu] at hSI2 ⊢
  obtain ⟨l', r', c', e1, e2, e3, e4, e5⟩ := ifA_ok hoa t
  have hbwa : bwa B (a1, a2, a3) t num = bwith B l' r' c' num := by unfold bwa; rw [e1]; rfl
  rw [hbwa] at hSI2 ⊢
  have CI : Hid (∀ X, Calls Tryz.prog 233 #[.agg #[.int .i64 a1, .int .i64 a2, .int .i64 a3], .int .i8 t] X fun e w' => e = .returned (.agg #[.int .i64 (l' : Int), .int .i64 (r' : Int), .int .i64 c']) ∧ Below X.heap.size X w') := fun X => by
    have := if_any a1 a2 a3 t ht3 ⟨hoa.2.2.2.2.1, hoa.2.2.2.2.2⟩ X
    rw [e1] at this
    exact this
  have CW : Hid (∀ X, Below w1.heap.size w1 X → Calls Tryz.prog 240 #[.pointer (some ⟨kb, 0, none⟩), .agg #[.int .i64 (l' : Int), .int .i64 (r' : Int), .int .i64 c'], .int .i64 (num : Int)] X fun e w' => ∃ cs, e = .returned (.agg cs.toArray) ∧ BdC w' cs (bwith B l' r' c' num) ∧ Below X.heap.size X w') := fun X hX => with_any X kb B l' r' num c' (hB1.below hX) e2 e3 ⟨e4, e5⟩ (by omega) (hSI.bmo9 hsx.ok) (hSI.bby4 hsx.ok)
  have CS : Hid (∀ X cs, Below w1.heap.size w1 X → BdC X cs (bwith B l' r' c' num) → Calls Tryz.prog 88 #[.pointer (some ⟨D.pb, 0, none⟩), .agg cs.toArray] X (SrR w0 D us g (n + 1 + 2 * s) (setN A num t) (sch us g k s (setN A num t) (bwith B l' r' c' num)).1 (sch us g k s (setN A num t) (bwith B l' r' c' num)).2 X)) := fun X cs hX hcs => hC X s (n + 1) (setN A num t) ats parts (bwith B l' r' c' num) cs hs (h2.below hX) hcs hSI2 hn
  obtain ⟨d0, d1, d2, d3, d4, d5, d6⟩ := h1.cells
  obtain ⟨f0, f1, f2, f3, f4, f5, f6⟩ := h2.cells
  have hatm := h2.atm
  have HP : Hid _ := h
  have HF1 : Hid _ := hF1
  have HM : Hid _ := hwM
  have HML : Hid _ := hmlt
  have HR2 : Hid _ := hres2
  have HAB : Hid (setN (setN A num t) num 0 = A) := setN_back t hA0
  have HPB : Hid (D.mb = D.mb) := rfl
  have HMM : Hid (D.mb ∈ D.M) := D.mm
  clear h1 h2 hf1 hB1 hF1 hres1 hres2 hNM hgr hsx hSI hSI2 hC hB hkb hop hgu hbwa e1 hoa hwM hmlt hA0 h
  generalize sch us g k s (setN A num t) (bwith B l' r' c' num) = RR at *
  obtain ⟨E, s'⟩ := RR
  dsimp only
  obtain ⟨pb, mb, tb, qb, gb, kk, qa, ca, cg⟩ := D
  dsimp only at *
  rcases hatm with ⟨_, he⟩ | ⟨b, cap, hv, hc1, hc2, hb, hcells⟩
  · rw [he] at hnum; simp at hnum
  · cases hv
    obtain ⟨z1, z2, z3⟩ := hcells num _ hx
    dsimp only at z1 z2 z3
    have hnl : (num : Int) < (us.length : Int) := by omega
    clear hcells hx
    go_enter Tryz.func189, Tryz.ntmps189
    go_wp2_with (first
      | (go_at_call 233; refine Calls.mono (CI.out _) ?_; rintro e w2 ⟨rfl, hb2⟩)
      | (go_at_call 240; refine Calls.mono (CW.out _ hb2) ?_; rintro e w3 ⟨cs, rfl, hcs, hb3⟩; have hb23 := hb2.trans (hb3.mono hb2.size)))
    refine Calls.mono (CS.out _ cs hb23 hcs) ?_
    rintro e w4 ⟨ws, n', A', ats', parts', rfl, hSR, hpl, hP4, hnn, hAA, hfr4⟩
    have hF4 : FrX _ w w4 := HF1.out.trans ((FrX.of_below hb23).trans hfr4)
    have hres4 : Blk w4 w.heap.size 186 (enC 0 [] z9 (0, 0, 0, 0)) := Blk.fr (Blk.below (w := w1) (ty := 186) (cs := enC 0 [] z9 (0, 0, 0, 0)) HR2.out hb23) hfr4 HM.out
    have hw4 := hF4.size
    have hwl := hres4.lt
    have hcl := enC_len E.v E.pf E.md hSR.len
    have hone1 := enC_one E.v E.pf ws E.md
    have hone := all_oneCell_toArray hone1
    have hc0 : (enC E.v E.pf ws E.md)[0]? = some (.int .i64 E.v) := rfl
    generalize hCS : enC E.v E.pf ws E.md = ce at *
    have HCS : Hid (enC E.v E.pf ws E.md = ce) := hCS
    clear hCS
    have hcz : ce.toArray.size = 15 := by simp [hcl]
    have hiB : (Tryz.prog.info? 186).map (·.size) = some ce.toArray.size := by rw [hcz]; exact Tryz.infoEnd
    have hiA : (Tryz.prog.info? 186).map (·.size) = some ce.length := by rw [hcl]; exact Tryz.infoEnd
    have hnb : Blk (w4.alloc (.cells #[.int .i64 0, .string ⟨#[]⟩, .int .u64 0, .int .u64 0, .int .u64 0, .int .u64 0, .int .u64 0, .int .u64 0, .int .u64 0, .int .u64 0, .int .u64 0, .int .i64 0, .int .i64 0, .int .i64 0, .int .i64 0] 186)) w4.heap.size 186 (enC 0 [] z9 (0, 0, 0, 0)) := heap_alloc_new w4 _
    have hth : (w4.alloc (.cells #[.int .i64 0, .string ⟨#[]⟩, .int .u64 0, .int .u64 0, .int .u64 0, .int .u64 0, .int .u64 0, .int .u64 0, .int .u64 0, .int .u64 0, .int .u64 0, .int .i64 0, .int .i64 0, .int .i64 0, .int .i64 0] 186)).there w4.heap.size 0 ce.toArray.size := by
      rw [hcz]
      exact (hnb.row (enC_one _ _ _ _)).there 0 15 (by rw [enC_len 0 [] (0, 0, 0, 0) rfl]; omega)
    obtain ⟨W5, hW5⟩ : ∃ W5, (w4.alloc (.cells #[.int .i64 0, .string ⟨#[]⟩, .int .u64 0, .int .u64 0, .int .u64 0, .int .u64 0, .int .u64 0, .int .u64 0, .int .u64 0, .int .u64 0, .int .u64 0, .int .i64 0, .int .i64 0, .int .i64 0, .int .i64 0] 186)).setCells w4.heap.size 0 ce = W5 := ⟨_, rfl⟩
    have h45 : Below w4.heap.size w4 W5 := by rw [← hW5]; exact below_cells0 w4 w4.heap.size _ 0 _ (below_alloc w4 _) (Nat.le_refl _)
    have hen5 : Blk W5 w4.heap.size 186 ce := by rw [← hW5]; exact hnb.setAll (by rw [hcl, enC_len 0 [] (0, 0, 0, 0) rfl])
    have hP5 := hP4.below h45
    have hF5 : FrX _ w W5 := hF4.trans (FrX.of_below h45)
    have hres5 := hres4.below h45
    have hv0 : W5.cell? ⟨w4.heap.size, 0, none⟩ = some (.int .i64 E.v) := hen5.cell hc0
    obtain ⟨g0, g1, g2, g3, g4, g5, g6⟩ := hP5.cells
    dsimp only at g0 g1 g2 g3 g4 g5 g6
    have hmw := HML.out mb HMM.out
    clear hnb hP4 hfr4 hres4 h45 hcs hb2 hb3 hb23 d0 d1 d2 d3 d4 d5 d6 f0 f1 f2 f3 f4 f5 f6 z1 z2 z3
    by_cases hv : E.v = 0
    · obtain ⟨w6, hdel, hNM6, hgr6⟩ := NM.del hP5.am num (by omega) 0
      dsimp only at hdel hNM6 hgr6
      have hP6 := hP5.setM hgr6 hNM6
      rw [hAA hv, HAB.out] at hP6
      have hf6 : FrX [mb] W5 w6 := FrX.of_grown hgr6 (by simp)
      have hen6 : Blk w6 w4.heap.size 186 ce := hen5.fr hf6 (by simp; omega)
      have hres6 := hres5.fr hf6 (by simp; omega)
      have q2 := hen6.range
      have hR6 := hres6.row (enC_one 0 [] z9 (0, 0, 0, 0))
      rw [enC_len 0 [] (0, 0, 0, 0) rfl] at hR6
      have hth6 : w6.there w.heap.size 0 ce.toArray.size := by rw [hcz]; exact hR6.there 0 15 (by omega)
      have hb7 : Below w.heap.size w6 (w6.setCells w.heap.size 0 ce) := below_cellsN (Nat.le_refl _) ce 0 w6 w6 (Below.refl _ _)
      have HP7 : Hid _ := HP.out.far hP6 hb7
      have HF7 : Hid (FrX (PD.M ⟨pb, mb, tb, qb, gb, kk, some ⟨b, 0, none⟩, ca, cg⟩) w (w6.setCells w.heap.size 0 ce)) := (hF5.trans (hf6.sub (by intro m hm; rw [List.mem_singleton.1 hm]; exact HMM.out))).far hb7
      have HR : Hid (Av.Row w6 w.heap.size 15) := hR6
      have HSR : Hid _ := hSR
      rw [hv] at hv0
      clear hP5 hP6 hen5 hen6 hres5 hres6 hf6 hF5 hF4 hR6 hgr6 hNM6 hb7 hSR hAA
      go_wp2_with (first
        | (refine wpList_store_mid rfl 186 (.tmp 9) (.tmp 29) rfl w4.heap.size 0 ce.toArray rfl rfl ?_ hiB hone ?_; (exact hth); (rw [show ce.toArray.toList = ce by simp, hW5]))
        | (refine wpList_load_mid rfl 186 (.tmp 9) rfl w4.heap.size 0 rfl ce _ ?_ Tryz.underlying186 rfl hiA ?_; (exact q2))
        | (refine wpList_store_mid rfl 186 (.tmp 8) (.tmp 38) rfl w.heap.size 0 ce.toArray rfl rfl ?_ hiB hone ?_; (exact hth6)))
      exact Av.postN ce rfl rfl Tryz.underlying186 rfl Tryz.infoEnd HR.out hcl ⟨ws, n', A, ats', parts', by rw [HCS.out], HSR.out, hpl, HP7.out, hnn, fun _ => rfl, HF7.out⟩
    · have hvb : (E.v == 0) = false := by simpa using hv
      have q2 := hen5.range
      have hR6 := hres5.row (enC_one 0 [] z9 (0, 0, 0, 0))
      rw [enC_len 0 [] (0, 0, 0, 0) rfl] at hR6
      have hth6 : W5.there w.heap.size 0 ce.toArray.size := by rw [hcz]; exact hR6.there 0 15 (by omega)
      have hb7 : Below w.heap.size W5 (W5.setCells w.heap.size 0 ce) := below_cellsN (Nat.le_refl _) ce 0 W5 W5 (Below.refl _ _)
      have HP7 : Hid _ := HP.out.far hP5 hb7
      have HF7 : Hid (FrX (PD.M ⟨pb, mb, tb, qb, gb, kk, some ⟨b, 0, none⟩, ca, cg⟩) w (W5.setCells w.heap.size 0 ce)) := hF5.far hb7
      have HR : Hid (Av.Row W5 w.heap.size 15) := hR6
      have HSR : Hid _ := hSR
      have HV : Hid (E.v ≠ 0) := hv
      clear hP5 hen5 hres5 hF5 hF4 hR6 hb7 hSR hAA hv
      go_wp2_with (first
        | (refine wpList_store_mid rfl 186 (.tmp 9) (.tmp 29) rfl w4.heap.size 0 ce.toArray rfl rfl ?_ hiB hone ?_; (exact hth); (rw [show ce.toArray.toList = ce by simp, hW5]))
        | (refine wpList_load_mid rfl 186 (.tmp 9) rfl w4.heap.size 0 rfl ce _ ?_ Tryz.underlying186 rfl hiA ?_; (exact q2))
        | (refine wpList_store_mid rfl 186 (.tmp 8) (.tmp 38) rfl w.heap.size 0 ce.toArray rfl rfl ?_ hiB hone ?_; (exact hth6)))
      exact Av.postN ce rfl rfl Tryz.underlying186 rfl Tryz.infoEnd HR.out hcl ⟨ws, n', A', ats', parts', by rw [HCS.out], HSR.out, hpl, HP7.out, hnn, fun e => absurd e HV.out, HF7.out⟩
end Go.Proofs.YtkinoehmcfhgbaaGreatDoor.Vl
