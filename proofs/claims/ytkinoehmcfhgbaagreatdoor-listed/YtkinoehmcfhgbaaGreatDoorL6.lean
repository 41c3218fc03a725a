/-
  The walk of the document's Conditions.
-/
import Derived.Test.YtkinoehmcfhgbaaGreatDoorL5
import Derived.Test.YtkinoehmcfhgbaaGreatDoorQ9
set_option linter.unusedVariables false
set_option linter.unusedSimpArgs false
namespace Go.Proofs.YtkinoehmcfhgbaaGreatDoor.Vl
open Go.RowKit
open Go.Proofs.YtkinoehmcfhgbaaGreatDoor.Av (vr Fm Rd Tg sAt Cm Rc Tk2 tokAt answer trm trm_range vr_range)

/-- The first condition. -/
def one (p : Fm) (c : Cm) (q : Fm) : List Sym := (5, 0, 0, 0) :: (fsy p ++ wpc c (fsy q))
/-- What Conditions answers. -/
def cAns (s : ByteArray) (p : Fm) (c : Cm) (q : Fm) : List (List UInt8) × Int × Int :=
  if (answer s).1 ≠ 0 then ([], (answer s).1, (answer s).2) else if fit c (fsy q) = true ∧ bl (one p c q) ≤ 4000 then (sbs (one p c q) :: (cls c (fsy q)).map sbs, 0, 0) else ([], 6, 0)
theorem Tryz.infoStr : (Tryz.prog.info? 9).map (fun i => (i.zero, i.size, i.bytes)) = some (some (.string ⟨#[]⟩), 1, 16) := by kernel_rfl
theorem MkAt.grown {w0 w w' : World} {mb cb lb : Nat} {toks : List (List UInt8 × Nat)} {ls : List (List UInt8)} {big : Bool} {row : Option Nat} (h : MkAt w0 w mb cb lb toks ls big) (hg : w.grownBy w' row) (hr : ∀ k, row = some k → mb < k ∧ lb < k) : MkAt w0 w' mb cb lb toks ls big := by
  have e1 : w'.heap[mb]? = w.heap[mb]? := hg.block mb h.hms (fun e => by have := hr mb e.symm; omega)
  have e2 : w'.heap[lb]? = w.heap[lb]? := hg.block lb h.hls (fun e => by have := hr lb e.symm; omega)
  have cm : ∀ j, w'.cell? ⟨mb, j, none⟩ = w.cell? ⟨mb, j, none⟩ := fun j => World.cell?_of_block (a := ⟨mb, j, none⟩) e1
  have cl : ∀ j, w'.cell? ⟨lb, j, none⟩ = w.cell? ⟨lb, j, none⟩ := fun j => World.cell?_of_block (a := ⟨lb, j, none⟩) e2
  exact ⟨h.code0, h.b0.grown hg h.b0.size (fun k hk => by have := hr k hk; have := h.hm; omega), h.hm, h.hl, h.hml, Nat.lt_of_lt_of_le h.hms hg.size, Nat.lt_of_lt_of_le h.hls hg.size, (cm 0).trans h.m0, (cm 1).trans h.m1, (cm 2).trans h.m2, fun j l e => (cl j).trans (h.cells j l e), fun o => (World.frozen?_of_block (a := ⟨mb, o, none⟩) e1).trans (h.fm o), fun o => (World.frozen?_of_block (a := ⟨lb, o, none⟩) e2).trans (h.fl o)⟩
theorem own_base {w : World} {b b' : Nat} {e : TypeId} {size : Nat} {v : Value} {n : Nat} {xs : List Value} (h : w.ownsRow b e size v n xs) (hb : b' ≤ b) : w.ownsRow b' e size v n xs := by
  obtain ⟨h1, h2⟩ := h
  refine ⟨h1, ?_⟩
  rcases h2 with h2 | ⟨g, cap, cur, hv, hg, r⟩
  · exact Or.inl h2
  · exact Or.inr ⟨g, cap, cur, hv, Nat.le_trans hb hg, r⟩
theorem nes_step {ls : List (List UInt8)} {k : Nat} {l : List UInt8} (h : ls[k]? = some l) : nes ls 0 (k + 1) = nes ls 0 k ++ (if l.isEmpty then [] else [l]) := by
  rw [nes_split ls (a := 0) (m := k) (b := k + 1) (by omega) (by omega)]
  congr 1
  cases l with
  | nil => exact nes_none (fun j l' h1 h2 e => by
      have : j = k := by omega
      subst this
      rw [h] at e; cases e; rfl)
  | cons c r => exact nes_one h (by simp)
theorem nes_len (ls : List (List UInt8)) (a b : Nat) : (nes ls a b).length ≤ b - a := by
  unfold nes
  refine Nat.le_trans (List.length_filter_le _ _) ?_
  rw [List.length_take]; omega
theorem one_s (l : List UInt8) : ∀ u ∈ [Value.string ⟨l.toArray⟩], u.oneCell' = true := by
  intro u hu; simp at hu; subst hu; rfl
theorem own_one (w : World) (base : Nat) (hb : base ≤ w.heap.size) (v : Value) (t : TypeId) : (w.alloc (.cells #[v] t)).ownsRow base t 1 (.slice (some ⟨w.heap.size, 0, none⟩) 1 1) 1 [v] :=
  ⟨rfl, Or.inr ⟨w.heap.size, 1, #[v], rfl, hb, heap_alloc_new w _, Nat.le_refl _, by decide, by simp, rfl⟩⟩
theorem MkAt.alloc {w0 w : World} {mb cb lb : Nat} {toks : List (List UInt8 × Nat)} {ls : List (List UInt8)} {big : Bool} (h : MkAt w0 w mb cb lb toks ls big) (o : Obj) : MkAt w0 (w.alloc o) mb cb lb toks ls big := h.below (below_alloc _ _)

set_option maxRecDepth 100000 in
set_option maxHeartbeats 2000000 in
theorem refCond_any (s : ByteArray) (p q : Fm) (c : Cm) (w : World) (hP : (answer s).1 = 0 → Prg (tokAt 0 (Av.rest s 0)) p c q) :
    Calls Tryz.prog 15 #[.string s] w fun e w' => ∃ v, e = .returned (.tuple #[v, .int .i64 (cAns s p c q).2.1, .int .i64 (cAns s p c q).2.2]) ∧ w'.ownsRow w.heap.size 9 1 v (cAns s p c q).1.length ((cAns s p c q).1.map strV) ∧ Below w.heap.size w w' := by
  have C1 : Hid (∀ w, Calls Tryz.prog 37 #[.string s] w fun e w' => ∃ v, e = .returned (.tuple #[v, .int .i64 (answer s).1, .int .i64 (answer s).2]) ∧ ((answer s).1 = 0 → Tk2 w' v (tokAt 0 (Av.rest s 0))) ∧ Below w.heap.size w w') := fun w => read2 s w
  by_cases h0 : (answer s).1 = 0
  · have h0' : ((answer s).1 != 0) = false := by simp [h0]
    have hs := answer_long h0
    obtain ⟨k1, k2, k3, r1, r2, r3, hk3⟩ := hP h0
    have hl := sAt_len s hs
    have htl : (tokAt 0 (Av.rest s 0)).length ≤ 300 := by have := Av.tokAt_len 0 (Av.rest s 0); have := Av.rest_len s 0; omega
    have e1 := r1.le.2 (by simp)
    have e2 := r2.le
    have e3 := r3.le.2 (by simp)
    have hlp := rd_len r1
    have hlp2 : (sbs (fsy p)).length ≤ 2500 := by simp only [tgL] at hlp; omega
    have hlq := rd_len r3
    have hlq2 : (sbs (fsy q)).length ≤ 2500 := by simp only [tgL] at hlq; omega
    have htp : 0 < (tokAt 0 (Av.rest s 0)).length := by omega
    have CPt : Hid (∀ w B, CodeAt w B (tokAt 0 (Av.rest s 0)) → Calls Tryz.prog 38 #[.pointer (some ⟨B, 0, none⟩)] w fun e w' => e = .returned (.tuple #[.int .i64 1, .int .i64 ((k1 : Int) + 1), .int .i64 ((k2 : Int) + 1)]) ∧ Below w.heap.size w w') := fun w B hc => parts_any _ B hl k1 k2 p c w r1 r2 (by omega) hc
    have CF : Hid (∀ w B, CodeAt w B (tokAt 0 (Av.rest s 0)) → Calls Tryz.prog 39 #[.pointer (some ⟨B, 0, none⟩), .int .i64 1] w fun e w' => e = .returned (.tuple #[.string (ftx p), .int .i64 (k1 : Int)]) ∧ Below w.heap.size w w') := fun w B hc => formula_any _ B hl 1 k1 p w r1 (by omega) hc
    have CQ : Hid (∀ w B, CodeAt w B (tokAt 0 (Av.rest s 0)) → Calls Tryz.prog 39 #[.pointer (some ⟨B, 0, none⟩), .int .i64 ((k2 : Int) + 1)] w fun e w' => e = .returned (.tuple #[.string (ftx q), .int .i64 (k3 : Int)]) ∧ Below w.heap.size w w') := fun w B hc => formula_any _ B hl (k2 + 1) k3 q w r3 (by omega) hc
    have CA : Hid (∀ w0 w mb cb lb, MkAt w0 w mb cb lb (tokAt 0 (Av.rest s 0)) (List.replicate (2 * (tokAt 0 (Av.rest s 0)).length) []) false → Calls Tryz.prog 40 #[.pointer (some ⟨mb, 0, none⟩), .int .i64 ((k1 : Int) + 1), .string ⟨(sbs (fsy q)).toArray⟩] w (AhPost w0 mb cb lb (tokAt 0 (Av.rest s 0)) (List.replicate (2 * (tokAt 0 (Av.rest s 0)).length) []) false (sbs (fsy q)) c (fsy q) (k1 + 1) k2)) := fun w0 w mb cb lb h => makes htl hl k2 (k1 + 1) k2 c w _ false _ _ r2 (by omega) (by omega) (by rw [List.length_replicate]) h ⟨by unfold lbd; omega, fun _ => ⟨rfl, by unfold bl; omega, (gd_fsy q (rd_ok r3 (fun g h => by cases h))).mono (by unfold kb; omega), fun j l _ _ e => by
      rw [List.getElem?_replicate] at e
      split at e
      · cases e; rfl
      · cases e⟩⟩
    have HR : Hid (cAns s p c q = if fit c (fsy q) = true ∧ bl (one p c q) ≤ 4000 then (sbs (one p c q) :: (cls c (fsy q)).map sbs, 0, 0) else ([], 6, 0)) := by
      show _ = _
      unfold cAns
      rw [if_neg (by omega)]
    have HZ : Hid ((answer s).1 = 0) := h0
    clear r1 r2 r3 hP hl hlp hlq hs h0
    obtain ⟨i0, hi, hz0, hz1, hz2⟩ := info_parts Tryz.infoStr
    generalize cAns s p c q = R at *
    generalize tokAt 0 (Av.rest s 0) = toks at *
    generalize answer s = W at *
    unfold ftx at CF CQ
    go_enter Tryz.func15, Tryz.ntmps15
    go_wp2_with fail
    refine (C1.out _).mono ?_
    rintro e w2 ⟨v, rfl, hT, hb2⟩
    have hT2 := hT HZ.out
    obtain ⟨tg, tc, rfl⟩ := tk2_slice hT2 htp
    have hc2 : CodeAt (w2.alloc (.cells #[.slice (some ⟨tg, 0, none⟩) toks.length tc] 82)) w2.heap.size toks := tk2_at hT2 htp _
    have HC2 : Hid (CodeAt (w2.alloc (.cells #[.slice (some ⟨tg, 0, none⟩) toks.length tc] 82)) w2.heap.size toks) := hc2
    have HB2 : Hid (Below w.heap.size w (w2.alloc (.cells #[.slice (some ⟨tg, 0, none⟩) toks.length tc] 82))) := hb2.alloc hb2.size _
    have hs2 := hb2.size
    clear hT hb2 hT2 hc2
    have HCS : Hid ((2 * (toks.length : Int)) = ((2 * toks.length : Nat) : Int)) := by show _ = _; omega
    go_wp2_with (at_make; refine wpList_make_full _ rfl _ _ 22 rfl (w2.heap.size + 1) 9 i0 (.string ⟨#[]⟩) 1 Tryz.underlying22 hi hz0 hz1 .i64 .i64 _ _ (2 * toks.length) rfl rfl ?_ ?_ ?_ ?_ ?_ ?_; (exact HCS.out); (exact HCS.out); (rw [hz2]; omega); (unfold maxLen; omega); (simp))
    intro w3 hown hgrow
    rw [toList_madeCells_one] at hown
    obtain ⟨lb', cap', hv, hbl, hbs, hcl, hcm, hcells, hfz⟩ := own_facts hown (by omega)
    have hsz2 : (w2.alloc (.cells #[.slice (some ⟨tg, 0, none⟩) toks.length tc] 82)).heap.size = w2.heap.size + 1 := by simp
    cases hv
    have HMK : Hid (MkAt (w2.alloc (.cells #[.slice (some ⟨tg, 0, none⟩) toks.length tc] 82)) (w3.alloc (.cells #[.pointer (some ⟨w2.heap.size, 0, none⟩), .slice (some ⟨w2.heap.size + 1, 0, none⟩) (2 * toks.length) (2 * toks.length), .bool false] 85)) w3.heap.size w2.heap.size (w2.heap.size + 1) toks (List.replicate (2 * toks.length) []) false) := by
      have hbb : Below (w2.alloc (.cells #[.slice (some ⟨tg, 0, none⟩) toks.length tc] 82)).heap.size (w2.alloc (.cells #[.slice (some ⟨tg, 0, none⟩) toks.length tc] 82)) w3 := (Below.refl _ _).grown hgrow (Nat.le_refl _) (by intro k h; cases h)
      have hal := below_alloc w3 (.cells #[.pointer (some ⟨w2.heap.size, 0, none⟩), .slice (some ⟨w2.heap.size + 1, 0, none⟩) (2 * toks.length) (2 * toks.length), .bool false] 85)
      refine ⟨HC2.out, hbb.trans (hal.mono hbb.size), by rw [hsz2]; omega, by rw [hsz2]; exact Nat.le_refl _, by omega, by simp, by simp; omega, ?_, ?_, ?_, ?_, ?_, ?_⟩
      · rw [World.cell?_alloc_at _ _ _ _ rfl]; rfl
      · rw [World.cell?_alloc_at _ _ _ _ rfl, List.length_replicate]; rfl
      · rw [World.cell?_alloc_at _ _ _ _ rfl]; rfl
      · intro j l e
        rw [hal.cell (p := ⟨w2.heap.size + 1, j, none⟩) hbs]
        rw [List.getElem?_replicate] at e
        split at e
        · rename_i hj
          cases e
          exact hcells j _ (by rw [List.getElem?_replicate, if_pos (by omega)]; rfl)
        · cases e
      · intro o; simp
      · intro o
        exact (hal.frozen (p := ⟨w2.heap.size + 1, o, none⟩) hbs).trans (hfz o)
    have HB3 : Hid (Below w.heap.size w w3) := HB2.out.grown hgrow (by rw [hsz2]; omega) (by intro k h; cases h)
    have hs3 : w2.heap.size + 1 < w3.heap.size := hbs
    clear hown hgrow hcells hfz hsz2 hbl hbs hcl hcm HC2
    go_wp2_with fail
    generalize hW4 : w3.alloc (.cells #[.pointer (some ⟨w2.heap.size, 0, none⟩), .slice (some ⟨w2.heap.size + 1, 0, none⟩) (2 * toks.length) (2 * toks.length), .bool false] 85) = w4 at *
    have HB4 : Hid (Below w.heap.size w w4) := by
      show Below _ _ _
      rw [← hW4]
      exact HB3.out.alloc (by omega) _
    clear hW4
    generalize hW0 : w2.alloc (.cells #[.slice (some ⟨tg, 0, none⟩) toks.length tc] 82) = w0 at *
    clear hW0
    refine (CPt.out _ _ HMK.out.code).mono ?_
    rintro e w5 ⟨rfl, hb5⟩
    have HM5 : Hid (MkAt w0 w5 w3.heap.size w2.heap.size (w2.heap.size + 1) toks (List.replicate (2 * toks.length) []) false) := HMK.out.below hb5
    have HB5 : Hid (Below w.heap.size w w5) := HB4.out.trans (hb5.mono HB4.out.size)
    clear hb5 HMK HB4
    go_wp2_with fail
    refine (CF.out _ _ HM5.out.code).mono ?_
    rintro e w6 ⟨rfl, hb6⟩
    have HM6 : Hid (MkAt w0 w6 w3.heap.size w2.heap.size (w2.heap.size + 1) toks (List.replicate (2 * toks.length) []) false) := HM5.out.below hb6
    have HB6 : Hid (Below w.heap.size w w6) := HB5.out.trans (hb6.mono HB5.out.size)
    clear hb6 HM5 HB5
    go_wp2_with fail
    refine (CQ.out _ _ HM6.out.code).mono ?_
    rintro e w7 ⟨rfl, hb7⟩
    have HM7 : Hid (MkAt w0 w7 w3.heap.size w2.heap.size (w2.heap.size + 1) toks (List.replicate (2 * toks.length) []) false) := HM6.out.below hb7
    have HB7 : Hid (Below w.heap.size w w7) := HB6.out.trans (hb7.mono HB6.out.size)
    clear hb7 HM6 HB6
    generalize hPX : sbs (fsy p) = PX at *
    have CA' := CA.out _ _ _ _ _ HM7.out
    have HCA : Hid _ := CA'
    clear CA' CA
    go_wp2_with fail
    refine Calls.mono HCA.out ?_
    rintro e w8 ⟨T, ls', big', rfl, hM8, hR8⟩
    have hl8 : ls'.length = 2 * toks.length := by rw [hR8.1, List.length_replicate]
    have hTl : T.length ≤ 20000000 := by have := hR8.2.1; unfold lbd at this; omega
    have hA8 := hR8.2.2.2 rfl
    have m2 := hM8.m2
    have hms := hM8.hms
    have HB8 : Hid (Below w.heap.size w w8) := HB2.out.trans (hM8.b0.mono HB2.out.size)
    have HM8 : Hid (MkAt w0 w8 w3.heap.size w2.heap.size (w2.heap.size + 1) toks ls' big') := hM8
    have HL8 : Hid (ls'.length = 2 * toks.length) := hl8
    clear hM8 hl8 HM7 HB7 HCA
    cases big' with
    | true =>
      have hf : fit c (fsy q) = false := by
        cases h : fit c (fsy q) with
        | false => rfl
        | true => rw [h] at hA8; cases hA8.1
      have HX : Hid (R = ([], 6, 0)) := by show _ = _; rw [HR.out, if_neg (by rw [hf]; intro h; cases h.1)]
      clear hR8 hA8 hf HR
      unfold strV
      go_wp2_with fail
      go_ret3
      exact ⟨_, by (rw [HX.out]) <;> rfl, by rw [HX.out]; exact World.ownsRow_nil _ _ _ _, HB8.out⟩
    | false =>
      obtain ⟨_, hf, rfl, hU⟩ := hR8.small rfl
      have hO : [62] ++ PX ++ sbs (wpc c (fsy q)) = sbs (one p c q) := by unfold one; rw [sb_m 5 62 rfl, sbs_append, hPX]; simp
      have hOs : (⟨#[62]⟩ : ByteArray) ++ ⟨PX.toArray⟩ ++ ⟨(sbs (wpc c (fsy q))).toArray⟩ = ⟨(sbs (one p c q)).toArray⟩ := by
        rw [show (⟨#[62]⟩ : ByteArray) = ⟨[62].toArray⟩ from rfl, str_app, str_app, hO]
      have hOl : (1 : Int) + (PX.length : Int) + ((sbs (wpc c (fsy q))).length : Int) = (bl (one p c q) : Int) := by unfold bl; rw [← hO]; simp; omega
      by_cases hb : bl (one p c q) ≤ 4000
      · have HX : Hid (R = (sbs (one p c q) :: (cls c (fsy q)).map sbs, 0, 0)) := by show _ = _; rw [HR.out, if_pos ⟨hf, hb⟩]
        have HN : Hid (nes ls' 0 (2 * toks.length) = (cls c (fsy q)).map sbs) := by
          show _ = _
          obtain ⟨u1, u2, u3⟩ := hU
          rw [nes_split ls' (a := 0) (m := 2 * (k1 + 1)) (b := 2 * toks.length) (by omega) (by omega), nes_split ls' (a := 2 * (k1 + 1)) (m := 2 * k2) (b := 2 * toks.length) (by omega) (by omega), u3]
          have em : ∀ a b, (b ≤ 2 * (k1 + 1) ∨ 2 * k2 ≤ a) → nes ls' a b = [] := fun a b hab => nes_none (fun j l h1 h2 e => by
            rw [u2 j (by omega), List.getElem?_replicate] at e
            split at e
            · cases e; rfl
            · cases e)
          rw [em _ _ (Or.inl (Nat.le_refl _)), em _ _ (Or.inr (Nat.le_refl _))]
          simp
        have hle : ¬ (4000 : Int) < (1 : Int) + (PX.length : Int) + ((sbs (wpc c (fsy q))).length : Int) := by rw [hOl]; omega
        have HOS : Hid _ := hOs
        have hbo : (sbs (one p c q)).length ≤ 4000 := hb
        clear hR8 hA8 hf HR hU hO hOs hOl hb
        generalize sbs (wpc c (fsy q)) = T at *
        generalize sbs (one p c q) = OT at *
        generalize (cls c (fsy q)).map sbs = CL at *
        have HBs := HM8.out.hms
        have HBl := HM8.out.hls
        unfold strV
        go_wp2_with fail
        rw [HOS.out]
        have hown0 := own_one w8 w8.heap.size (Nat.le_refl _) (.string ⟨OT.toArray⟩) 9
        go_loopw [18, 19] (fun lv iv wr => ∃ (k : Nat), iv = .int .i64 (k : Int) ∧ k ≤ 2 * toks.length ∧ wr.ownsRow w8.heap.size 9 1 lv (OT :: nes ls' 0 k).length ((OT :: nes ls' 0 k).map strV) ∧ Hid (MkAt w0 wr w3.heap.size w2.heap.size (w2.heap.size + 1) toks ls' false) ∧ Below w8.heap.size w8 wr) (fun _ iv _ => 2 * toks.length - (intOf iv).toNat)
        case atStart => exact ⟨0, rfl, Nat.zero_le _, by simpa [nes, strV] using hown0, HM8.out.alloc _, below_alloc _ _⟩
        case round =>
          obtain ⟨k, rfl, hk, hown, HMr, hbr⟩ := hrel
          have hbrs := hbr.size
          have m1 := HMr.out.m1
          rw [HL8.out] at m1
          have hmsr := HMr.out.hms
          by_cases hlt : k < 2 * toks.length
          · obtain ⟨l, hlk⟩ : ∃ l, ls'[k]? = some l := ⟨_, List.getElem?_eq_getElem (by rw [HL8.out]; exact hlt)⟩
            have hst := nes_step hlk
            have pz := HMr.out.cells k l hlk
            have hnl := nes_len ls' 0 k
            have hlt' : (k : Int) < 2 * (toks.length : Int) := by omega
            have hlt2 : (k : Int) < ((2 * toks.length : Nat) : Int) := by omega
            unfold strV at pz
            cases l with
            | nil =>
              have HS : Hid (nes ls' 0 (k + 1) = nes ls' 0 k) := by show _ = _; rw [hst]; simp
              clear hst hlk
              go_wp2_with fail
              go_roundw
              case rel => exact ⟨k + 1, by go_num, by omega, by rw [HS.out]; exact hown, HMr, hbr⟩
              case measure => simp [intOf]; omega
            | cons ch r =>
              have HS : Hid (nes ls' 0 (k + 1) = nes ls' 0 k ++ [ch :: r]) := by show _ = _; rw [hst]; simp
              clear hst hlk
              have hown1 := hown.alloc (.cells #[.string ⟨(ch :: r).toArray⟩] 9)
              have hbo1 : (OT :: nes ls' 0 k).length ≤ 700 := by simp only [List.length_cons]; omega
              generalize hSS : ch :: r = SS at *
              have hSne : (SS == ([] : List UInt8)) = false := by rw [← hSS]; rfl
              generalize hLL : OT :: nes ls' 0 k = LL at *
              go_wp2_with (at_builtin; refine wpList_append_own _ rfl _ _ 22 rfl w8.heap.size 9 i0 (.string ⟨#[]⟩) 1 16 Tryz.underlying22 hi hz0 hz1 hz2 rfl (by decide) _ _ _ rfl hown1 ⟨wr.heap.size, 0, none⟩ 1 1 [.string ⟨SS.toArray⟩] rfl rfl (one_new _ _ rfl _ _) (one_s _) (by unfold maxLen; omega) (by omega) (by simp; omega) ?_)
              intro v' w9 hown9 hgrow _
              have hb9 := (hbr.alloc hbrs (.cells #[.string ⟨SS.toArray⟩] 9)).grown hgrow (by simp; omega) (own_block hown)
              have HM9 : Hid (MkAt w0 w9 w3.heap.size w2.heap.size (w2.heap.size + 1) toks ls' false) := (HMr.out.alloc _).grown hgrow (fun j hj => by have := own_block hown j hj; omega)
              clear hown hgrow hown1
              go_wp2_with fail
              go_roundw
              case rel => exact ⟨k + 1, by go_num, by omega, by rw [HS.out, ← List.cons_append, hLL]; simpa [strV] using hown9, HM9, hb9⟩
              case measure => simp [intOf]; omega
          · have hke : k = 2 * toks.length := by omega
            subst hke
            have hlt' : ¬ ((2 * toks.length : Nat) : Int) < 2 * (toks.length : Int) := by omega
            go_wp2_with fail
            go_ret3
            exact ⟨_, by (rw [HX.out]) <;> rfl, by rw [HX.out, ← HN.out]; exact own_base hown HB8.out.size, HB8.out.trans (hbr.mono HB8.out.size)⟩
      · have HX : Hid (R = ([], 6, 0)) := by show _ = _; rw [HR.out, if_neg (by intro h; exact hb h.2)]
        have hlt : (4000 : Int) < (1 : Int) + (PX.length : Int) + ((sbs (wpc c (fsy q))).length : Int) := by rw [hOl]; omega
        clear hR8 hA8 hf HR hU hO hOs hOl hb
        generalize sbs (wpc c (fsy q)) = T at *
        unfold strV
        go_wp2_with fail
        all_goals go_ret3
        all_goals exact ⟨_, by (rw [HX.out]) <;> rfl, by rw [HX.out]; exact World.ownsRow_nil _ _ _ _, HB8.out⟩
  · have h0' : ((answer s).1 != 0) = true := by simpa using h0
    have HR : Hid (cAns s p c q = ([], (answer s).1, (answer s).2)) := by
      show _ = _
      unfold cAns
      rw [if_pos h0]
    clear hP h0
    generalize cAns s p c q = R at *
    generalize tokAt 0 (Av.rest s 0) = toks at *
    generalize answer s = W at *
    go_enter Tryz.func15, Tryz.ntmps15
    go_wp2_with fail
    refine (C1.out _).mono ?_
    rintro e w2 ⟨v, rfl, hT, hb2⟩
    clear hT
    go_wp2_with fail
    go_ret3
    exact ⟨_, by (rw [HR.out]) <;> rfl, by rw [HR.out]; exact World.ownsRow_nil _ _ _ _, hb2⟩
end Go.Proofs.YtkinoehmcfhgbaaGreatDoor.Vl
