/-
  The walk of the prover's look: what is known of the atoms, and of the goal's parts.
  The prover's bounds with one atom more: the walk.
  The prover's search, its parts: what a search is to come to; assume.
-/
import Derived.Test.YtkinoehmcfhgbaaGreatDoorH5
import Derived.Test.YtkinoehmcfhgbaaGreatDoorY2
import Derived.Test.YtkinoehmcfhgbaaGreatDoorZ2
import Derived.Test.YtkinoehmcfhgbaaGreatDoorH14
set_option linter.unusedVariables false
set_option linter.unusedSimpArgs false
namespace Go.Proofs.YtkinoehmcfhgbaaGreatDoor.Vl
open Go.RowKit

theorem PvS.withP {w0 w w' : World} {D : PD} {us : List Atm} {g : List Pt} {s n : Nat} {A : Nat → Int} {ats parts P : List Int} (h : PvS w0 w D us g s n A ats parts) (hf : FrX [D.qb] w w') (hb : Blk w' D.qb 159 (P.map tv8)) (hl : P.length = g.length) : PvS w0 w' D us g s n A ats P := by
  have hf' := hf.sub (M' := D.M) (by intro m hm; rw [List.mem_singleton.1 hm]; exact D.mq)
  obtain ⟨n1, n2, n3, n4, n5, n6, n7, n8, n9, n10⟩ := h.ne
  exact ⟨hf'.below h.h0 h.hM, h.hM, h.hd, h.box.fr hf (by simp [n3]), h.atm.fr hf' h.noi, h.gol.fr hf (by simp [n10]), h.gne, h.gcap, h.am.fr hf (by simp [n5]), h.tr.fr hf (by simp [n6]), h.tl, hb, hl⟩
theorem take_set_step (F L : List Int) (i : Nat) (h : i < L.length) (hl : L.length = F.length) : (F.take i ++ L.drop i).set i (F.getD i 0) = F.take (i + 1) ++ L.drop (i + 1) := by
  have hi : i < F.length := by omega
  have e0 : i - (F.take i).length = 0 := by simp; omega
  rw [List.set_append_right _ _ (by simp; omega), e0, List.drop_eq_getElem_cons h, List.set_cons_zero, List.take_add_one, List.getElem?_eq_getElem hi, List.getD_eq_getElem?_getD, List.getElem?_eq_getElem hi, Option.getD_some, Option.toList_some, List.append_assoc, List.singleton_append]
set_option maxRecDepth 100000 in
set_option maxHeartbeats 4000000 in
theorem look_any (w0 w : World) (D : PD) (us : List Atm) (g : List Pt) (s n : Nat) (A : Nat → Int) (ats parts : List Int) (kb : Nat) (B : Bd) (h : PvS w0 w D us g s n A ats parts) (hB : BdAt w kb 0 B) (hkb : kb ∉ D.M) (hok : ∀ a ∈ us, okA a) (hus : us.length ≤ 4000) (hgl : g.length ≤ 8000) (hGW : GW us.length g) (hA : ∀ n, T3 (A n)) :
    Calls Tryz.prog 128 #[.pointer (some ⟨D.pb, 0, none⟩), .pointer (some ⟨kb, 0, none⟩)] w fun e w' => e = .returned (.tuple #[]) ∧ PvS w0 w' D us g s n A (lok us A B) (gtr (lok us A B) 0 g) ∧ FrX D.M w w' := by
  have HP : Hid (PvS w0 w D us g s n A ats parts) := h
  have HBD : Hid (BdAt w kb 0 B) := hB
  have HOK : Hid _ := hok
  have HGW : Hid _ := hGW
  have hL : (lok us A B).length = us.length := lok_len us A B
  have HL : Hid (∀ i, i < us.length → (lok us A B).getD i 0 = if A i ≠ 0 then A i else btr B (us.getD i (0, 0, 0))) := fun i hi => lok_at A B hi
  have HT3 : Hid (∀ t ∈ lok us A B, T3 t) := lok_t3 B hA
  have HTR : Hid (∀ X a1 a2 a3, BdAt X kb 0 B → okA (a1, a2, a3) → Calls Tryz.prog 179 #[.pointer (some ⟨kb, 0, none⟩), .agg #[.int .i64 a1, .int .i64 a2, .int .i64 a3]] X fun e w' => e = .returned (.int .i8 (btr B (a1, a2, a3))) ∧ Below X.heap.size X w') := fun X a1 a2 a3 hX ho => by
    obtain ⟨o1, o2, o3, o4, o5, o6⟩ := ho
    dsimp only at *
    obtain ⟨l, rfl⟩ : ∃ l : Nat, a1 = (l : Int) := ⟨a1.toNat, by omega⟩
    obtain ⟨r, rfl⟩ : ∃ r : Nat, a2 = (r : Int) := ⟨a2.toNat, by omega⟩
    exact truth_any X kb B l r a3 hX (by omega) (by omega) ⟨o5, o6⟩
  generalize lok us A B = F at *
  obtain ⟨pb, mb, tb, qb, gb, kk, qa, ca, cg⟩ := D
  obtain ⟨c0, c1, c2, c3, c4, c5, c6⟩ := h.cells
  obtain ⟨n1, n2, n3, n4, n5, n6, n7, n8, n9, n10⟩ := h.ne
  dsimp only at *
  have HFL : Hid (F.length = us.length) := hL
  clear h hB hok hGW hL c0 c2 c3 c4 c5 c6
  go_enter Tryz.func128, Tryz.ntmps128
  go_wp2_with fail
  go_loopw [4, 5, 6, 7, 13] (fun s4 s5 s6 s7 s13 wr => ∃ i : Nat, s13 = .int .i64 (i : Int) ∧ i ≤ us.length ∧ PvS w0 wr ⟨pb, mb, tb, qb, gb, kk, qa, ca, cg⟩ us g s n A (F.take i ++ ats.drop i) parts ∧ FrX [tb] w wr) (fun _ _ _ _ s13 _ => us.length - (intOf s13).toNat)
  case atStart => exact ⟨0, rfl, Nat.zero_le _, HP.out, FrX.refl _ _⟩
  case round =>
    obtain ⟨i, rfl, hi, hS, hF⟩ := hrel
    by_cases hlt : i < us.length
    · have HS : Hid (PvS w0 wr ⟨pb, mb, tb, qb, gb, kk, qa, ca, cg⟩ us g s n A (F.take i ++ ats.drop i) parts) := hS
      obtain ⟨e0, e1, e2, e3, e4, e5, e6⟩ := hS.cells
      dsimp only at e0 e1 e2 e3 e4 e5 e6
      have hatm := hS.atm
      dsimp only at hatm
      have hil : i < (F.take i ++ ats.drop i).length := by rw [hS.tl]; exact hlt
      have hft := hS.tr.free i
      have hct := hS.tcell hlt
      dsimp only at hft hct
      have hlk := NM.look (hS.am) i (by omega)
      have ham := hS.am
      dsimp only at hlk ham
      rcases hatm with ⟨_, he⟩ | ⟨b, cap, hv, hc1, hc2, hb, hcells⟩
      · rw [he] at hlt; simp at hlt
      · cases hv
        obtain ⟨⟨a1, a2, a3⟩, hx⟩ : ∃ x, us[i]? = some x := ⟨_, List.getElem?_eq_getElem hlt⟩
        obtain ⟨z1, z2, z3⟩ := hcells i _ hx
        dsimp only at z1 z2 z3
        have hoa := HOK.out _ (List.mem_of_getElem? hx)
        have HLI : Hid (F.getD i 0 = if A i ≠ 0 then A i else btr B (a1, a2, a3)) := by
          show _ = _
          rw [HL.out i hlt, List.getD_eq_getElem?_getD, hx, Option.getD_some]
        have hlt' : (i : Int) < (us.length : Int) := by omega
        have HF : Hid (FrX [tb] w wr) := hF
        have hBl := below_alloc wr (.cells #[.int .i64 a1, .int .i64 a2, .int .i64 a3] 134)
        have HSa : Hid _ := HS.out.below hBl
        have hBd : BdAt wr kb 0 B := HBD.out.fr hF ((HP.out.noi).sub (by intro m hm; rw [List.mem_singleton.1 hm]; exact PD.mt _)) (fun e => hkb (by rw [List.mem_singleton.1 e]; exact PD.mt _))
        have HBD2 : Hid (BdAt (wr.alloc (.cells #[.int .i64 a1, .int .i64 a2, .int .i64 a3] 134)) kb 0 B) := hBd.below hBl
        have hlk2 := NM.look (HSa.out.am) i (by omega)
        obtain ⟨d0, d1, d2, d3, d4, d5, d6⟩ := HSa.out.cells
        dsimp only at hlk2 d0 d1 d2 d3 d4 d5 d6
        have hpw : pb < wr.heap.size := HS.out.box.lt
        have HSET : Hid (∀ W, PvS w0 W ⟨pb, mb, tb, qb, gb, kk, some ⟨b, 0, none⟩, ca, cg⟩ us g s n A (F.take i ++ ats.drop i) parts → ∀ v, v = F.getD i 0 → PvS w0 (W.setCell ⟨tb, i, none⟩ (.int .i8 v)) ⟨pb, mb, tb, qb, gb, kk, some ⟨b, 0, none⟩, ca, cg⟩ us g s n A (F.take (i + 1) ++ ats.drop (i + 1)) parts) := fun W hW v hv => by
          have h := hW.setT i v
          rw [hv, take_set_step F ats i (by rw [HP.out.tl]; exact hlt) (by rw [HP.out.tl, HFL.out])] at h
          rw [hv]
          exact h
        have hne1 : ¬ b = wr.heap.size := by omega
        have hftA := HSa.out.tr.free i
        have hctA := HSa.out.tcell hlt
        dsimp only at hftA hctA
        clear hS hF hcells hx hlk ham hil hft hct hBd e0 e1 e2 e3 e4 e5 e6
        by_cases hAi : A i ≠ 0
        · have hd : decide (A i ≠ 0) = true := decide_eq_true hAi
          rw [hd] at hlk2
          have HV : Hid (A i = F.getD i 0) := by show _ = _; rw [HLI.out, if_pos hAi]
          clear hAi hd
          generalize A i = ai at *
          go_wp2_with fail
          go_roundw
          case rel => exact ⟨i + 1, by go_num, by omega, HSET.out _ HSa.out _ HV.out, (HF.out.trans (FrX.of_below hBl)).trans (setCell_fr _ _ _ _)⟩
          case measure => simp [intOf]; omega
        · have hd : decide (A i ≠ 0) = false := decide_eq_false hAi
          rw [hd] at hlk2
          have HV : Hid (btr B (a1, a2, a3) = F.getD i 0) := by show _ = _; rw [HLI.out, if_neg hAi]
          have CT : Hid _ := HTR.out _ a1 a2 a3 HBD2.out hoa
          have HAR : Hid (∀ w3, Below (wr.alloc (.cells #[.int .i64 a1, .int .i64 a2, .int .i64 a3] 134)).heap.size (wr.alloc (.cells #[.int .i64 a1, .int .i64 a2, .int .i64 a3] 134)) w3 → PvS w0 w3 ⟨pb, mb, tb, qb, gb, kk, some ⟨b, 0, none⟩, ca, cg⟩ us g s n A (F.take i ++ ats.drop i) parts ∧ FrX [tb] w w3) := fun w3 h3 => ⟨HSa.out.below h3, (HF.out.trans (FrX.of_below hBl)).trans (FrX.of_below h3)⟩
          clear hAi hd hftA hctA
          generalize btr B (a1, a2, a3) = ai at *
          go_wp2_with (first | (go_at_call 179; refine Calls.mono CT.out ?_; rintro e w3 ⟨rfl, hb3⟩; obtain ⟨hS3, hF3⟩ := HAR.out w3 hb3; obtain ⟨y0, y1, y2, y3, y4, y5, y6⟩ := hS3.cells; have y7 := hS3.tr.free i; have y8 := hS3.tcell hlt; have HS3 : Hid _ := hS3; have HF3 : Hid _ := hF3; dsimp only at y0 y1 y2 y3 y4 y5 y6 y7 y8; clear hS3 hF3))
          go_roundw
          case rel => exact ⟨i + 1, by go_num, by omega, HSET.out _ HS3.out _ HV.out, HF3.out.trans (setCell_fr _ _ _ _)⟩
          case measure => simp [intOf]; omega
    · have hie : i = us.length := by omega
      subst hie
      have hlt' : ¬ ((us.length : Nat) : Int) < (us.length : Int) := by omega
      have e1 : F.take us.length ++ ats.drop us.length = F := by rw [← HFL.out, List.take_length, List.drop_eq_nil_of_le (by rw [HP.out.tl, HFL.out]; exact Nat.le_refl _), List.append_nil]
      rw [e1] at hS
      have HS : Hid _ := hS
      have HF : Hid _ := hF
      obtain ⟨d0, d1, d2, d3, d4, d5, d6⟩ := hS.cells
      dsimp only at d0 d1 d2 d3 d4 d5 d6
      have CT : Hid (Calls Tryz.prog 180 #[.slice (some ⟨gb, 0, none⟩) g.length cg, .slice (some ⟨qb, 0, none⟩) g.length g.length, .slice (some ⟨tb, 0, none⟩) us.length us.length] wr.drew fun e w' => e = .returned (.tuple #[]) ∧ Blk w' qb 159 ((gtr F 0 g).map tv8) ∧ FrX [qb] wr.drew w') := callsIn_wide.1 (truths_in wr.drew gb qb tb cg us g F parts hgl HGW.out hS.gol n10 (fun e => n6 e.symm) hS.pr hS.pl hS.tr hS.tl HT3.out)
      have HPL : Hid (pb < wr.drew.heap.size) := hS.box.lt
      clear hS hF e1
      go_wp2_with fail
      go_region_held3 (fun X => X.cell? ⟨pb, 2, none⟩ = some (.slice (some ⟨gb, 0, none⟩) g.length cg) ∧ X.cell? ⟨pb, 5, none⟩ = some (.slice (some ⟨tb, 0, none⟩) us.length us.length) ∧ X.cell? ⟨pb, 6, none⟩ = some (.slice (some ⟨qb, 0, none⟩) g.length g.length)) (first | exact ⟨d2, d5, d6⟩ | exact ⟨y2, y5, y6⟩) (first | (go_at_call 180; refine Calls.mono CT.out ?_; rintro e w4 ⟨rfl, hB4, hF4⟩; have y2 : w4.cell? ⟨pb, 2, none⟩ = some (.slice (some ⟨gb, 0, none⟩) g.length cg) := (hF4.cell 2 HPL.out (by simp [n3])).trans d2; have y5 : w4.cell? ⟨pb, 5, none⟩ = some (.slice (some ⟨tb, 0, none⟩) us.length us.length) := (hF4.cell 5 HPL.out (by simp [n3])).trans d5; have y6 : w4.cell? ⟨pb, 6, none⟩ = some (.slice (some ⟨qb, 0, none⟩) g.length g.length) := (hF4.cell 6 HPL.out (by simp [n3])).trans d6))
      go_wp2_with fail
      go_end0
      have hF5 : FrX [qb] wr w4 := (FrX.of_below (Below.refl _ _).drew).trans hF4
      exact ⟨rfl, HS.out.withP hF5 hB4 (gtr_len _ _ _), (HF.out.sub (M' := PD.M _) (by intro m hm; rw [List.mem_singleton.1 hm]; exact PD.mt _)).trans (hF5.sub (by intro m hm; rw [List.mem_singleton.1 hm]; exact PD.mq _))⟩
end Go.Proofs.YtkinoehmcfhgbaaGreatDoor.Vl
set_option linter.unusedVariables false
set_option linter.unusedSimpArgs false
namespace Go.Proofs.YtkinoehmcfhgbaaGreatDoor.Vl
open Go.RowKit

theorem wis_init (w : World) (B : Bd) (l r n : Nat) (c : Int) (cs0 : List Value) (hC : BdC w cs0 B) :
    WiS w B l r c n 0 ((((w.alloc (.cells #[.int .i64 (l : Int), .int .i64 (r : Int), .int .i64 c] 134)).alloc (.cells Tryz.zeroCells192 192)).alloc (.cells Tryz.zeroCells192 192)).setCells (w.heap.size + 2) 0 cs0) := by
  have s1 : (w.alloc (.cells #[.int .i64 (l : Int), .int .i64 (r : Int), .int .i64 c] 134)).heap.size = w.heap.size + 1 := by simp
  have b1 := below_alloc w (.cells #[.int .i64 (l : Int), .int .i64 (r : Int), .int .i64 c] 134)
  have c0 : (w.alloc (.cells #[.int .i64 (l : Int), .int .i64 (r : Int), .int .i64 c] 134)).cell? ⟨w.heap.size, 0, none⟩ = some (.int .i64 l) := by simp
  have c1 : (w.alloc (.cells #[.int .i64 (l : Int), .int .i64 (r : Int), .int .i64 c] 134)).cell? ⟨w.heap.size, 1, none⟩ = some (.int .i64 r) := by simp
  have c2 : (w.alloc (.cells #[.int .i64 (l : Int), .int .i64 (r : Int), .int .i64 c] 134)).cell? ⟨w.heap.size, 2, none⟩ = some (.int .i64 c) := by simp
  generalize w.alloc (.cells #[.int .i64 (l : Int), .int .i64 (r : Int), .int .i64 c] 134) = W1 at *
  have b2 := below_alloc W1 (.cells Tryz.zeroCells192 192)
  have r1 := zrow W1
  rw [s1] at r1
  have s2 : (W1.alloc (.cells Tryz.zeroCells192 192)).heap.size = w.heap.size + 2 := by rw [World.size_alloc, s1]
  generalize W1.alloc (.cells Tryz.zeroCells192 192) = W2 at *
  have b3 := below_alloc W2 (.cells Tryz.zeroCells192 192)
  have r2 := zrow W2
  rw [s2] at r2
  have r1' := row_on r1 b3 (by omega)
  have s3 : (W2.alloc (.cells Tryz.zeroCells192 192)).heap.size = w.heap.size + 3 := by rw [World.size_alloc, s2]
  generalize W2.alloc (.cells Tryz.zeroCells192 192) = W3 at *
  have b12 := b1.trans (b2.mono b1.size)
  have b13 := b12.trans (b3.mono b12.size)
  have b23 := b2.trans (b3.mono b2.size)
  have co : ∀ k, (W3.setCells (w.heap.size + 2) 0 cs0).cell? ⟨w.heap.size, k, none⟩ = W1.cell? ⟨w.heap.size, k, none⟩ := fun k => by
    rw [World.cell?_setCells_out _ _ _ _ _ (fun e => by dsimp only at e; omega)]
    exact b23.cell (p := ⟨w.heap.size, k, none⟩) (by dsimp only; omega)
  have bF := Av.below_cells (a := w) (B := w.heap.size + 2) (by omega) cs0 0 W3 b13
  refine ⟨bF, by rw [Av.size_cells]; omega, by rw [co]; exact c0, by rw [co]; exact c1, by rw [co]; exact c2, Av.Row.far (by omega) _ _ _ r1', Av.Row.cells _ _ _ r2 (by rw [hC.len]; omega) hC.one, cs0, ?_, World.rangeAt_setCells_same W3 _ 0 cs0 (by rw [hC.len]; exact r2.there 0 75 (by omega))⟩
  have hN := (hC.nb (w.heap.size + 2) (by omega))
  refine ⟨hN.len, fun i j hi hj => ?_⟩
  have e : bmix B l r c n 0 i j = B i j := by unfold bmix; rw [if_neg (by omega)]
  rw [e]
  obtain ⟨e1, e2, v, e3, e4, e5⟩ := hN.at_ i j hi hj
  exact ⟨e1, e2, v, e3, e4.below bF, e5⟩
/-- A slice that lies from block m on. -/
def Nb' (m : Nat) (v : Value) : Prop := ∀ g o n c, v = .slice (some ⟨g, o, none⟩) n c → m ≤ g
theorem concat3 (X : World) (v1 v2 : Value) (l1 l2 : List Int) (n : Nat) (t1 t2 : TypeId) (h1 : IntsR X v1 l1) (h2 : IntsR X v2 l2) (b1 : l1.length ≤ 4000) (b2 : l2.length ≤ 4000) :
    Calls Tryz.prog 267 #[.slice (some ⟨X.heap.size + 1, 0, none⟩) 3 3] ((X.alloc (.cells #[.int .i64 (n : Int)] t1)).alloc (.cells #[v1, .slice (some ⟨X.heap.size, 0, none⟩) 1 1, v2] t2)) fun e w' => ∃ v', e = .returned v' ∧ (IntsR w' v' (l1 ++ (n : Int) :: l2) ∧ Nb' X.heap.size v') ∧ Below X.heap.size X w' := by
  have ba := below_alloc X (.cells #[.int .i64 (n : Int)] t1)
  have bb := ba.alloc ba.size (.cells #[v1, .slice (some ⟨X.heap.size, 0, none⟩) 1 1, v2] t2)
  have hsz : ((X.alloc (.cells #[.int .i64 (n : Int)] t1)).alloc (.cells #[v1, .slice (some ⟨X.heap.size, 0, none⟩) 1 1, v2] t2)).heap.size = X.heap.size + 2 := by simp
  have c0 : ((X.alloc (.cells #[.int .i64 (n : Int)] t1)).alloc (.cells #[v1, .slice (some ⟨X.heap.size, 0, none⟩) 1 1, v2] t2)).cell? ⟨X.heap.size, 0, none⟩ = some (iv n) := by simp [iv]
  have hP : IPartsR ((X.alloc (.cells #[.int .i64 (n : Int)] t1)).alloc (.cells #[v1, .slice (some ⟨X.heap.size, 0, none⟩) 1 1, v2] t2)) (.slice (some ⟨X.heap.size + 1, 0, none⟩) 3 3) [l1, [(n : Int)], l2] := by
    refine Or.inr ⟨X.heap.size + 1, 3, [v1, .slice (some ⟨X.heap.size, 0, none⟩) 1 1, v2], rfl, Nat.le_refl _, by decide, by rw [hsz]; omega, rfl, fun j x hx => ?_, fun j x ys hx hy => ?_⟩
    · match j, hx with
      | 0, hx => cases hx; simp
      | 1, hx => cases hx; simp
      | 2, hx => cases hx; simp
    · match j, hx, hy with
      | 0, hx, hy => cases hx; cases hy; exact h1.below bb
      | 1, hx, hy =>
        cases hx; cases hy
        refine Or.inr ⟨X.heap.size, 1, rfl, Nat.le_refl _, by decide, by rw [hsz]; omega, fun k x hk => ?_⟩
        match k, hk with
        | 0, hk => cases hk; exact c0
      | 2, hx, hy => cases hx; cases hy; exact h2.below bb
  refine (concatI_any _ [l1, [(n : Int)], l2] _ hP (by simp; omega) (by simp)).mono fun e w' ⟨v', he, hc, hb⟩ => ⟨v', he, ?_, bb.trans (hb.mono (by rw [hsz]; omega))⟩
  have ef : [l1, [(n : Int)], l2].flatten = l1 ++ (n : Int) :: l2 := by simp
  rw [ef] at hc
  unfold CatR at hc
  refine ⟨own_ints hc, fun g o m k e => ?_⟩
  rcases hc.2 with ⟨h3, _⟩ | ⟨g', cap, cur, hv, hg, _⟩
  · rw [h3] at e; cases e
  · rw [hv] at e; cases e; rw [hsz] at hg; omega
theorem drews (X : World) (a c : Obj) : ((X.alloc a).alloc c).drew.drew.drew = (X.drew.drew.drew.alloc a).alloc c := rfl
theorem concat3d (X : World) (v1 v2 : Value) (l1 l2 : List Int) (n : Nat) (t1 t2 : TypeId) (h1 : IntsR X v1 l1) (h2 : IntsR X v2 l2) (b1 : l1.length ≤ 4000) (b2 : l2.length ≤ 4000) :
    Calls Tryz.prog 267 #[.slice (some ⟨X.heap.size + 1, 0, none⟩) 3 3] ((X.alloc (.cells #[.int .i64 (n : Int)] t1)).alloc (.cells #[v1, .slice (some ⟨X.heap.size, 0, none⟩) 1 1, v2] t2)).drew.drew.drew fun e w' => ∃ v', e = .returned v' ∧ (IntsR w' v' (l1 ++ (n : Int) :: l2) ∧ Nb' X.heap.size v') ∧ Below X.heap.size X w' := by
  rw [drews]
  have hd : Below X.heap.size X X.drew.drew.drew := (Below.refl _ _).drew.drew.drew
  exact (concat3 X.drew.drew.drew v1 v2 l1 l2 n t1 t2 (h1.below hd) (h2.below hd) b1 b2).mono fun e w' ⟨v', he, hv, hb⟩ => ⟨v', he, hv, hd.trans hb⟩
def bpl (x : Option (Int × List Nat)) : List Nat := (x.map (·.2)).getD []
theorem bwith_eq (B : Bd) (l r n i j : Nat) (c : Int) : bwith B l r c n i j = if bkn (B i l) = true ∧ bkn (B r j) = true ∧ ¬ (bkn (B i j) = true ∧ bmo (B i j) ≤ bmo (B i l) + c + bmo (B r j)) then some (bmo (B i l) + c + bmo (B r j), bpl (B i l) ++ n :: bpl (B r j)) else B i j := by
  unfold bwith
  cases h1 : B i l with
  | none => rw [if_neg (fun h => by cases h.1)]
  | some x =>
    obtain ⟨m1, p1⟩ := x
    cases h2 : B r j with
    | none => rw [if_neg (fun h => by cases h.2.1)]
    | some y =>
      obtain ⟨m2, p2⟩ := y
      cases h3 : B i j with
      | none => rw [if_pos ⟨rfl, rfl, fun h => by cases h.1⟩]; rfl
      | some z =>
        obtain ⟨m3, p3⟩ := z
        dsimp only
        by_cases hle : m3 ≤ m1 + c + m2
        · rw [if_pos hle, if_neg (fun h => h.2.2 ⟨rfl, hle⟩)]
        · rw [if_neg hle, if_pos ⟨rfl, rfl, fun h => hle h.2⟩]; rfl
set_option maxRecDepth 100000 in
set_option maxHeartbeats 40000000 in
theorem with_any (w : World) (b : Nat) (B : Bd) (l r n : Nat) (c : Int) (h : BdAt w b 0 B) (hl : l < 5) (hr : r < 5) (hc : -1000000 ≤ c ∧ c ≤ 1000000) (hn : n ≤ 4000)
    (hbig : ∀ i j, i < 5 → j < 5 → -1000000000 ≤ bmo (B i j) ∧ bmo (B i j) ≤ 1000000000) (hby : ∀ i j, i < 5 → j < 5 → (bby (B i j)).length ≤ 4000) :
    Calls Tryz.prog 240 #[.pointer (some ⟨b, 0, none⟩), .agg #[.int .i64 l, .int .i64 r, .int .i64 c], .int .i64 n] w fun e w' => ∃ cs, e = .returned (.agg cs.toArray) ∧ BdC w' cs (bwith B l r c n) ∧ Below w.heap.size w w' := by
  obtain ⟨cs0, hC0, hr0⟩ := h.cells
  have hi : (Tryz.prog.info? 192).map (·.size) = some cs0.length := by rw [hC0.len]; exact Tryz.infoBds
  have hbw := h.1
  have hone := all_oneCell_toArray hC0.one
  have hB2 : Below w.heap.size w ((w.alloc (.cells #[.int .i64 (l : Int), .int .i64 (r : Int), .int .i64 c] 134)).alloc (.cells Tryz.zeroCells192 192)) := (below_alloc w _).alloc (by simp) _
  have hB3 := hB2.alloc (by simp; omega) (.cells Tryz.zeroCells192 192)
  have hrL : ((w.alloc (.cells #[.int .i64 (l : Int), .int .i64 (r : Int), .int .i64 c] 134)).alloc (.cells Tryz.zeroCells192 192)).rangeAt b 0 cs0 := fun j v hv => (hB2.cell (p := ⟨b, 0 + j, none⟩) hbw).trans (hr0 j v hv)
  have hRow := zrow ((w.alloc (.cells #[.int .i64 (l : Int), .int .i64 (r : Int), .int .i64 c] 134)).alloc (.cells Tryz.zeroCells192 192))
  have hsz : ((w.alloc (.cells #[.int .i64 (l : Int), .int .i64 (r : Int), .int .i64 c] 134)).alloc (.cells Tryz.zeroCells192 192)).heap.size = w.heap.size + 1 + 1 := by simp
  have hcz : cs0.toArray.size = 75 := by simp [hC0.len]
  have hth := hRow.there 0 75 (by omega)
  rw [hsz] at hth
  have hth' : ((((w.alloc (.cells #[.int .i64 (l : Int), .int .i64 (r : Int), .int .i64 c] 134)).alloc (.cells Tryz.zeroCells192 192))).alloc (.cells Tryz.zeroCells192 192)).there (w.heap.size + 1 + 1) 0 cs0.toArray.size := by rw [hcz]; exact hth
  have hi2 : (Tryz.prog.info? 192).map (·.size) = some cs0.toArray.size := by rw [hcz]; exact Tryz.infoBds
  go_enter Tryz.func240, Tryz.ntmps240
  go_wp2_with (first | (refine wpList_load_mid rfl 192 (.tmp 15) rfl b 0 rfl cs0 _ ?_ Tryz.underlying192 rfl hi ?_; (exact hrL)) | (refine wpList_store_mid rfl 192 (.tmp 7) (.tmp 16) rfl (w.heap.size + 1 + 1) 0 cs0.toArray rfl rfl ?_ hi2 hone ?_; (exact hth')))
  have HW := wis_init w B l r n c cs0 hC0
  generalize ((((w.alloc (.cells #[.int .i64 (l : Int), .int .i64 (r : Int), .int .i64 c] 134)).alloc (.cells Tryz.zeroCells192 192)).alloc (.cells Tryz.zeroCells192 192)).setCells (w.heap.size + 1 + 1) 0 cs0) = W0 at *
  clear hB2 hB3 hrL hRow hsz hcz hth hth' hi2 hone hi hr0
  have HWi : Hid (WiS w B l r c n 0 W0) := HW
  clear HW
  go_loopw [17] (fun s17 wr => ∃ i : Nat, s17 = .int .i64 (i : Int) ∧ i ≤ 5 ∧ WiS w B l r c n (i * 5) wr) (fun s17 _ => 5 - (intOf s17).toNat)
  case atStart => exact ⟨0, rfl, by omega, HWi.out⟩
  case round =>
    clear HWi
    obtain ⟨i, rfl, hi, hS⟩ := hrel
    by_cases hlt : i < 5
    · have hlt' : (i : Int) < 5 := by omega
      have HS : Hid (WiS w B l r c n (i * 5) wr) := hS
      clear hS
      go_wp2_with fail
      obtain ⟨W1, hW1⟩ : ∃ W1, W1 = wr := ⟨_, rfl⟩
      subst hW1
      go_loopw [20] (fun s20 wr => ∃ j : Nat, s20 = .int .i64 (j : Int) ∧ j ≤ 5 ∧ WiS w B l r c n (i * 5 + j) wr) (fun s20 _ => 5 - (intOf s20).toNat)
      case atStart => exact ⟨0, rfl, by omega, HS.out⟩
      case round =>
        clear HS
        obtain ⟨j, rfl, hj, hS⟩ := hrel
        have HS : Hid (WiS w B l r c n (i * 5 + j) wr) := hS
        clear hS
        by_cases hlj : j < 5
        · have hlj' : (j : Int) < 5 := by omega
          have E := bwith_eq B l r n i j c
          have hA := (h.below HS.out.below).2 i l hlt hl
          have hD := (h.below HS.out.below).2 r j hr hlj
          obtain ⟨k1, m1, v1, z1, i1⟩ := hA
          obtain ⟨k2, m2, v2, z2, i2⟩ := hD
          have hM : ∃ v3, wr.cell? ⟨w.heap.size + 2, i * 15 + j * 3, none⟩ = some (.bool (bkn (B i j))) ∧ wr.cell? ⟨w.heap.size + 2, i * 15 + j * 3 + 1, none⟩ = some (.int .i64 (bmo (B i j))) ∧ wr.cell? ⟨w.heap.size + 2, i * 15 + j * 3 + 2, none⟩ = some v3 := by
            obtain ⟨cs, q1, q2⟩ := HS.out.more
            obtain ⟨e1, e2, v3, e3, _⟩ := q1.at_ i j hlt hlj
            have eb : bmix B l r c n (i * 5 + j) i j = B i j := by unfold bmix; rw [if_neg (by omega)]
            rw [eb] at e1 e2
            have f1 := q2 _ _ e1
            have f2 := q2 _ _ e2
            have f3 := q2 _ _ e3
            rw [Nat.zero_add] at f1 f2 f3
            exact ⟨v3, f1, f2, f3⟩
          obtain ⟨v3, k3, m3, z3⟩ := hM
          have ha0 := HS.out.a0
          have ha1 := HS.out.a1
          have ha2 := HS.out.a2
          have g1 := hbig i l hlt hl
          have g2 := hbig r j hr hlj
          rw [Nat.zero_add] at k1 m1 z1 k2 m2 z2
          have HI1 : Hid (IntsR wr v1 (bby (B i l))) := i1
          have HI2 : Hid (IntsR wr v2 (bby (B r j))) := i2
          have HE : Hid _ := E
          have B1 : Hid ((bby (B i l)).length ≤ 4000) := hby i l hlt hl
          have B2 : Hid ((bby (B r j)).length ≤ 4000) := hby r j hr hlj
          clear i1 i2 E
          have hwsz := HS.out.size
          have l5 : (l : Int) < 5 := by omega
          have r5 : (r : Int) < 5 := by omega
          generalize bkn (B i l) = K1 at *
          generalize bkn (B r j) = K2 at *
          generalize bkn (B i j) = K3 at *
          generalize bmo (B i l) = M1 at *
          generalize bmo (B r j) = M2 at *
          generalize bmo (B i j) = M3 at *
          have w1 : IntKind.i64.wrap (M1 + c) = M1 + c := by rw [IntKind.wrap_i64]; omega
          have w2 : IntKind.i64.wrap (M1 + c + M2) = M1 + c + M2 := by rw [IntKind.wrap_i64]; omega
          have bd : Below wr.heap.size wr wr.drew.drew := (Below.refl _ _).drew.drew
          have SK : Hid (bwith B l r c n i j = B i j → WiS w B l r c n (i * 5 + (j + 1)) wr.drew.drew) := fun e => (HS.out.skip hlj e).on bd
          clear bd
          cases K1 with
          | false =>
            have e : Hid (bwith B l r c n i j = B i j) := by show _ = _; rw [HE.out, if_neg (fun h => by cases h.1)]
            go_wp2_with fail
            go_region
            go_wp2_with fail
            go_region
            go_wp2_with fail
            exact ⟨⟨j + 1, rfl, by omega, SK.out e.out⟩, by simp [intOf]; omega⟩
          | true =>
            cases K2 with
            | false =>
              have e : Hid (bwith B l r c n i j = B i j) := by show _ = _; rw [HE.out, if_neg (fun h => by cases h.2.1)]
              go_wp2_with fail
              go_region
              go_wp2_with fail
              go_region
              go_wp2_with fail
              exact ⟨⟨j + 1, rfl, by omega, SK.out e.out⟩, by simp [intOf]; omega⟩
            | true =>
              obtain ⟨xa1, xc1, rfl⟩ := HI1.out.shape
              obtain ⟨xa2, xc2, rfl⟩ := HI2.out.shape
              have hbr : b < wr.heap.size := Nat.lt_of_lt_of_le hbw HS.out.below.size
              have zz1 : ∀ (o1 : Obj), (wr.alloc o1).cell? ⟨b, i * 15 + l * 3 + 2, none⟩ = some (.slice xa1 (bby (B i l)).length xc1) := fun o1 => by rw [World.cell?_alloc_past _ _ _ hbr]; exact z1
              have zz2 : ∀ (o1 : Obj), (wr.alloc o1).cell? ⟨b, r * 15 + j * 3 + 2, none⟩ = some (.slice xa2 (bby (B r j)).length xc2) := fun o1 => by rw [World.cell?_alloc_past _ _ _ hbr]; exact z2
              have zz3 : ∀ (o1 o2 : Obj), ((wr.alloc o1).alloc o2).cell? ⟨b, i * 15 + l * 3 + 2, none⟩ = some (.slice xa1 (bby (B i l)).length xc1) := fun o1 o2 => by rw [World.cell?_alloc_past _ _ _ (by simp; omega)]; exact zz1 o1
              have zz4 : ∀ (o1 o2 : Obj), ((wr.alloc o1).alloc o2).cell? ⟨b, r * 15 + j * 3 + 2, none⟩ = some (.slice xa2 (bby (B r j)).length xc2) := fun o1 o2 => by rw [World.cell?_alloc_past _ _ _ (by simp; omega)]; exact zz2 o1
              have hbm : ¬ b = w.heap.size + 1 + 1 := by omega
              have HL : Hid ((bby (B i l) ++ (n : Int) :: bby (B r j)).length = (bby (B i l)).length + ((bby (B r j)).length + 1)) := by show _ = _; simp
              have HP : Hid (bwith B l r c n i j = some (M1 + c + M2, bpl (B i l) ++ n :: bpl (B r j)) → ∀ (w3 : World) (v : Value), WiS w B l r c n (i * 5 + j) w3 → IntsR w3 v (bby (B i l) ++ (n : Int) :: bby (B r j)) ∧ Nb' wr.heap.size v → WiS w B l r c n (i * 5 + (j + 1)) (((w3.setCell ⟨w.heap.size + 1 + 1, i * 15 + j * 3, none⟩ (.bool true)).setCell ⟨w.heap.size + 1 + 1, i * 15 + j * 3 + 1, none⟩ (.int .i64 (M1 + c + M2))).setCell ⟨w.heap.size + 1 + 1, i * 15 + j * 3 + 2, none⟩ v)) := fun e w3 v hw hv => by
                refine hw.put hlt hlj e ?_ (fun g o m k e2 => by have := hv.2 g o m k e2; exact ⟨by omega, by omega⟩)
                have ep : (bpl (B i l) ++ n :: bpl (B r j)).map (fun (x : Nat) => (x : Int)) = bby (B i l) ++ (n : Int) :: bby (B r j) := by rw [List.map_append, List.map_cons]; rfl
                rw [ep]
                exact hv.1
              by_cases hle : M3 ≤ M1 + c + M2
              · cases K3 with
                | true =>
                  have e : Hid (bwith B l r c n i j = B i j) := by show _ = _; rw [HE.out, if_neg (fun h => h.2.2 ⟨rfl, hle⟩)]
                  clear HP zz1 zz2 zz3 zz4
                  go_wp2_with fail
                  go_region
                  go_wp2_with fail
                  go_region
                  go_wp2_with fail
                  exact ⟨⟨j + 1, rfl, by omega, SK.out e.out⟩, by simp [intOf]; omega⟩
                | false =>
                  have E2 : Hid (bwith B l r c n i j = some (M1 + c + M2, bpl (B i l) ++ n :: bpl (B r j))) := by show _ = _; rw [HE.out, if_pos ⟨rfl, rfl, fun h => by cases h.1⟩]
                  go_wp2_with fail
                  go_region
                  go_wp2_with fail
                  go_region
                  go_wp2_with fail
                  go_region_held3 (fun w' => w'.cell? ⟨b, i * 15 + l * 3 + 2, none⟩ = some (.slice xa1 (bby (B i l)).length xc1) ∧ w'.cell? ⟨b, r * 15 + j * 3 + 2, none⟩ = some (.slice xa2 (bby (B r j)).length xc2)) (first | (refine ⟨?_, ?_⟩ <;> assumption) | (refine ⟨(so3 hbm).trans ?_, (so3 hbm).trans ?_⟩ <;> assumption) | (simp [*])) (first | (go_at_call 267; refine Calls.mono (concat3d wr _ _ _ _ n _ _ HI1.out HI2.out B1.out B2.out) ?_; rintro e w3 ⟨v', rfl, hv', hb3'⟩; obtain ⟨xa3, xc3, rfl⟩ := hv'.1.shape; rw [HL.out] at hv'; have HV : Hid _ := hv'; clear hv'; have hS3 : Hid (WiS w B l r c n (i * 5 + j) w3) := HS.out.on hb3'; obtain ⟨⟨u0, hu0⟩, hf0⟩ := hS3.out.row2.cell (i * 15 + j * 3) (by omega); obtain ⟨⟨u1, hu1⟩, hf1⟩ := hS3.out.row2.cell (i * 15 + j * 3 + 1) (by omega); obtain ⟨⟨u2, hu2⟩, hf2⟩ := hS3.out.row2.cell (i * 15 + j * 3 + 2) (by omega); have t1 := (hb3'.cell (p := ⟨b, i * 15 + l * 3 + 2, none⟩) hbr).trans z1; have t2 := (hb3'.cell (p := ⟨b, r * 15 + j * 3 + 2, none⟩) hbr).trans z2))
                  go_wp2_with fail
                  exact ⟨⟨j + 1, rfl, by omega, HP.out E2.out _ _ hS3.out HV.out⟩, by simp [intOf]; omega⟩
              · cases K3 with
                | true =>
                  have E2 : Hid (bwith B l r c n i j = some (M1 + c + M2, bpl (B i l) ++ n :: bpl (B r j))) := by show _ = _; rw [HE.out, if_pos ⟨rfl, rfl, fun h => hle h.2⟩]
                  go_wp2_with fail
                  go_region
                  go_wp2_with fail
                  go_region
                  go_wp2_with fail
                  go_region_held3 (fun w' => w'.cell? ⟨b, i * 15 + l * 3 + 2, none⟩ = some (.slice xa1 (bby (B i l)).length xc1) ∧ w'.cell? ⟨b, r * 15 + j * 3 + 2, none⟩ = some (.slice xa2 (bby (B r j)).length xc2)) (first | (refine ⟨?_, ?_⟩ <;> assumption) | (refine ⟨(so3 hbm).trans ?_, (so3 hbm).trans ?_⟩ <;> assumption) | (simp [*])) (first | (go_at_call 267; refine Calls.mono (concat3d wr _ _ _ _ n _ _ HI1.out HI2.out B1.out B2.out) ?_; rintro e w3 ⟨v', rfl, hv', hb3'⟩; obtain ⟨xa3, xc3, rfl⟩ := hv'.1.shape; rw [HL.out] at hv'; have HV : Hid _ := hv'; clear hv'; have hS3 : Hid (WiS w B l r c n (i * 5 + j) w3) := HS.out.on hb3'; obtain ⟨⟨u0, hu0⟩, hf0⟩ := hS3.out.row2.cell (i * 15 + j * 3) (by omega); obtain ⟨⟨u1, hu1⟩, hf1⟩ := hS3.out.row2.cell (i * 15 + j * 3 + 1) (by omega); obtain ⟨⟨u2, hu2⟩, hf2⟩ := hS3.out.row2.cell (i * 15 + j * 3 + 2) (by omega); have t1 := (hb3'.cell (p := ⟨b, i * 15 + l * 3 + 2, none⟩) hbr).trans z1; have t2 := (hb3'.cell (p := ⟨b, r * 15 + j * 3 + 2, none⟩) hbr).trans z2))
                  go_wp2_with fail
                  exact ⟨⟨j + 1, rfl, by omega, HP.out E2.out _ _ hS3.out HV.out⟩, by simp [intOf]; omega⟩
                | false =>
                  have E2 : Hid (bwith B l r c n i j = some (M1 + c + M2, bpl (B i l) ++ n :: bpl (B r j))) := by show _ = _; rw [HE.out, if_pos ⟨rfl, rfl, fun h => by cases h.1⟩]
                  go_wp2_with fail
                  go_region
                  go_wp2_with fail
                  go_region
                  go_wp2_with fail
                  go_region_held3 (fun w' => w'.cell? ⟨b, i * 15 + l * 3 + 2, none⟩ = some (.slice xa1 (bby (B i l)).length xc1) ∧ w'.cell? ⟨b, r * 15 + j * 3 + 2, none⟩ = some (.slice xa2 (bby (B r j)).length xc2)) (first | (refine ⟨?_, ?_⟩ <;> assumption) | (refine ⟨(so3 hbm).trans ?_, (so3 hbm).trans ?_⟩ <;> assumption) | (simp [*])) (first | (go_at_call 267; refine Calls.mono (concat3d wr _ _ _ _ n _ _ HI1.out HI2.out B1.out B2.out) ?_; rintro e w3 ⟨v', rfl, hv', hb3'⟩; obtain ⟨xa3, xc3, rfl⟩ := hv'.1.shape; rw [HL.out] at hv'; have HV : Hid _ := hv'; clear hv'; have hS3 : Hid (WiS w B l r c n (i * 5 + j) w3) := HS.out.on hb3'; obtain ⟨⟨u0, hu0⟩, hf0⟩ := hS3.out.row2.cell (i * 15 + j * 3) (by omega); obtain ⟨⟨u1, hu1⟩, hf1⟩ := hS3.out.row2.cell (i * 15 + j * 3 + 1) (by omega); obtain ⟨⟨u2, hu2⟩, hf2⟩ := hS3.out.row2.cell (i * 15 + j * 3 + 2) (by omega); have t1 := (hb3'.cell (p := ⟨b, i * 15 + l * 3 + 2, none⟩) hbr).trans z1; have t2 := (hb3'.cell (p := ⟨b, r * 15 + j * 3 + 2, none⟩) hbr).trans z2))
                  go_wp2_with fail
                  exact ⟨⟨j + 1, rfl, by omega, HP.out E2.out _ _ hS3.out HV.out⟩, by simp [intOf]; omega⟩
        · have hj5 : j = 5 := by omega
          subst hj5
          have hlj' : ¬ (((5 : Nat) : Int) < 5) := by omega
          go_wp2_with fail
          exact ⟨⟨i + 1, rfl, by omega, by rw [Nat.add_mul]; exact HS.out⟩, by simp [intOf]; omega⟩
    · have hi5 : i = 5 := by omega
      subst hi5
      have hlt' : ¬ (((5 : Nat) : Int) < 5) := by omega
      obtain ⟨cs, q1, q2⟩ := hS.more
      have hcl := q1.len
      have hiA : (Tryz.prog.info? 192).map (·.size) = some cs.length := by rw [hcl]; exact Tryz.infoBds
      have hcz : cs.toArray.size = 75 := by simp [hcl]
      have hiB : (Tryz.prog.info? 192).map (·.size) = some cs.toArray.size := by rw [hcz]; exact Tryz.infoBds
      have honeB := all_oneCell_toArray q1.to.one
      have hth : wr.there (w.heap.size + 1) 0 cs.toArray.size := by rw [hcz]; exact hS.row1.there 0 75 (by omega)
      have HF : Hid (BdC (wr.setCells (w.heap.size + 1) 0 cs) cs (bwith B l r c n) ∧ Below w.heap.size w (wr.setCells (w.heap.size + 1) 0 cs)) := by
        refine ⟨⟨hcl, fun i j hi hj => ?_⟩, Av.below_cells (a := w) (by omega) cs 0 wr hS.below⟩
        have e : bmix B l r c n (5 * 5) i j = bwith B l r c n i j := by unfold bmix; rw [if_pos (by omega)]
        obtain ⟨e1, e2, v, e3, e4, e5⟩ := q1.at_ i j hi hj
        rw [e] at e1 e2 e4
        exact ⟨e1, e2, v, e3, e4.sets (fun g o n c h => by have := (e5 g o n c h).2; omega) _ _⟩
      have HR1 : Hid (Av.Row wr (w.heap.size + 1) 75) := hS.row1
      clear hS q1 hcz
      go_wp2_with (first | (refine wpList_load_mid rfl 192 (.tmp 7) rfl (w.heap.size + 1 + 1) 0 rfl cs _ ?_ Tryz.underlying192 rfl hiA ?_; (exact q2)) | (refine wpList_store_mid rfl 192 (.tmp 6) (.tmp 97) rfl (w.heap.size + 1) 0 cs.toArray rfl rfl ?_ hiB honeB ?_; (exact hth)))
      exact Av.postN cs rfl rfl Tryz.underlying192 rfl Tryz.infoBds HR1.out hcl ⟨cs, rfl, HF.out.1, HF.out.2⟩
end Go.Proofs.YtkinoehmcfhgbaaGreatDoor.Vl
set_option linter.unusedVariables false
set_option linter.unusedSimpArgs false
namespace Go.Proofs.YtkinoehmcfhgbaaGreatDoor.Vl
open Go.RowKit

/-- What stays so all along. -/
structure SX (us : List Atm) (g : List Pt) : Prop where
  ok : ∀ a ∈ us, okA a
  us5 : us.length ≤ 576
  gl : g.length ≤ 8000
  g0 : 0 < g.length
  gw : GW us.length g
/-- How a search ends. -/
def SrR (w0 : World) (D : PD) (us : List Atm) (g : List Pt) (m : Nat) (A : Nat → Int) (E : En) (s' : Nat) (w : World) (e : Ending) (w' : World) : Prop :=
  ∃ (ws : List Nat) (n' : Nat) (A' : Nat → Int) (ats' parts' : List Int), e = .returned (.agg (enC E.v E.pf ws E.md).toArray) ∧ SetR ws E.nd ∧ E.pf.length ≤ 400010 ∧ PvS w0 w' D us g s' n' A' ats' parts' ∧ n' + 2 * s' ≤ m ∧ (E.v = 0 → A' = A) ∧ FrX D.M w w'
def SrC (w0 : World) (D : PD) (us : List Atm) (g : List Pt) (k : Nat) : Prop := ∀ (w : World) (s n : Nat) (A : Nat → Int) (ats parts : List Int) (B : Bd) (cs : List Value), s ≤ k → PvS w0 w D us g s n A ats parts → BdC w cs B → SI us A B → n + 2 * s ≤ 100000 →
  Calls Tryz.prog 88 #[.pointer (some ⟨D.pb, 0, none⟩), .agg cs.toArray] w (SrR w0 D us g (n + 2 * s) A (sch us g k s A B).1 (sch us g k s A B).2 w)
/-- Only memory that is new to w is touched. -/
theorem PvS.far {w0 w X Y : World} {D : PD} {us : List Atm} {g : List Pt} {s n s' n' : Nat} {A A' : Nat → Int} {ats parts ats' parts' : List Int} (h : PvS w0 w D us g s n A ats parts) (hX : PvS w0 X D us g s' n' A' ats' parts') (hb : Below w.heap.size X Y) : PvS w0 Y D us g s' n' A' ats' parts' := by
  have b1 := h.box.lt
  have b2 := h.am.lt
  have b3 := h.tr.lt
  have b4 := h.pr.lt
  have b5 := h.gol.1
  have hw := h.h0.size
  have f : ∀ k, k < w.heap.size → Y.heap[k]? = X.heap[k]? := fun k hk => hb.block k hk
  have fc : ∀ k o, k < w.heap.size → Y.cell? ⟨k, o, none⟩ = X.cell? ⟨k, o, none⟩ := fun k o hk => World.cell?_of_block (a := ⟨k, o, none⟩) (f k hk)
  refine ⟨hX.h0.trans (hb.mono hw), hX.hM, hX.hd, (f _ b1).trans hX.box, ?_, ⟨Nat.lt_of_lt_of_le hX.gol.1 hb.size, fun j x hx => ?_⟩, hX.gne, hX.gcap, ?_, (f _ b3).trans hX.tr, hX.tl, (f _ b4).trans hX.pr, hX.pl⟩
  · rcases h.atm with ⟨e1, e2⟩ | ⟨b, cap, e1, e2, e3, e4, e5⟩
    · exact Or.inl ⟨e1, e2⟩
    · rcases hX.atm with ⟨q1, q2⟩ | ⟨b', cap', q1, q2, q3, q4, q5⟩
      · exact Or.inl ⟨q1, q2⟩
      · rw [e1] at q1
        cases q1
        exact Or.inr ⟨b, cap, e1, e2, e3, Nat.lt_of_lt_of_le q4 hb.size, fun j x hx => by
          obtain ⟨a1, a2, a3⟩ := q5 j x hx
          exact ⟨(fc _ _ e4).trans a1, (fc _ _ e4).trans a2, (fc _ _ e4).trans a3⟩⟩
  · obtain ⟨h1, h2, h3, h4⟩ := hX.gol.2 j x hx
    exact ⟨(fc _ _ b5).trans h1, (fc _ _ b5).trans h2, (fc _ _ b5).trans h3, (fc _ _ b5).trans h4⟩
  · obtain ⟨Dw, ⟨es, clock, hbb, r⟩, h2, h3⟩ := hX.am
    exact ⟨Dw, ⟨es, clock, (f _ b2).trans hbb, r⟩, h2, h3⟩
theorem FrX.far {M : List Nat} {w X Y : World} (h : FrX M w X) (hb : Below w.heap.size X Y) : FrX M w Y :=
  ⟨hb.os.trans h.os, hb.tape.trans h.tape, hb.output.trans h.output, Nat.le_trans h.size hb.size, fun k hk h1 => (hb.block k hk).trans (h.block k hk h1)⟩
theorem below_cellsN {n : Nat} {b : Nat} (hn : n ≤ b) : ∀ (vs : List Value) (o : Nat) (X Y : World), Below n X Y → Below n X (Y.setCells b o vs)
  | [], o, X, Y, h => h
  | v :: r, o, X, Y, h => by
    rw [World.setCells]
    exact below_cellsN hn r (o + 1) X _ (h.setCell (p := ⟨b, o, none⟩) hn v)
theorem SI.by4 {us : List Atm} {A : Nat → Int} {B : Bd} (h : SI us A B) (hok : ∀ a ∈ us, okA a) : ∀ a ∈ us, ∀ t, (brs B a t).length ≤ 4000 := fun a ha t => by have := brs_len h hok (hok a ha) t; omega
theorem SI.byx {us : List Atm} {A : Nat → Int} {B : Bd} (h : SI us A B) (hok : ∀ a ∈ us, okA a) : ∀ a t, ∀ x ∈ brs B a t, x < us.length := fun a t x hx => brs_in h hok a t x hx
theorem SI.bby4 {us : List Atm} {A : Nat → Int} {B : Bd} (h : SI us A B) (hok : ∀ a ∈ us, okA a) : ∀ i j, i < 5 → j < 5 → (bby (B i j)).length ≤ 4000 := fun i j hi hj => by
  cases hb : B i j with
  | none => simp [bby]
  | some q =>
    obtain ⟨m, p⟩ := q
    have := bsim_len h.sim (EA_in hok) hj hb
    simp [bby]
    omega
theorem SI.bmo9 {us : List Atm} {A : Nat → Int} {B : Bd} (h : SI us A B) (hok : ∀ a ∈ us, okA a) : ∀ i j, i < 5 → j < 5 → -1000000000 ≤ bmo (B i j) ∧ bmo (B i j) ≤ 1000000000 := fun i j hi hj => by
  cases hb : B i j with
  | none => simp [bmo]
  | some q =>
    obtain ⟨m, p⟩ := q
    have := bok_big h.ok (K := 1000000) (by decide) (EA_big hok) hj hb
    simp [bmo]
    omega
end Go.Proofs.YtkinoehmcfhgbaaGreatDoor.Vl
