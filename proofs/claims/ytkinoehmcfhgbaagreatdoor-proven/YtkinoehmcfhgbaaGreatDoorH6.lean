/-
  goal.add, goalOf, whole.
  Plain: of a text that is a condition: its symbols are well formed; how many atoms it has.
  The walk of the prover's begin.
-/
import Derived.Test.YtkinoehmcfhgbaaGreatDoorH2
import Derived.Test.YtkinoehmcfhgbaaGreatDoorY5
import Derived.Test.YtkinoehmcfhgbaaGreatDoorB0
import Derived.Test.YtkinoehmcfhgbaaGreatDoorH19
import Derived.Test.YtkinoehmcfhgbaaGreatDoorV15
set_option linter.unusedVariables false
set_option linter.unusedSimpArgs false
namespace Go.Proofs.YtkinoehmcfhgbaaGreatDoor.Vl
open Go.RowKit

theorem gadd_any (w0 : World) (us : List Atm) (qa : Option Addr) (ca : Nat) (hat : Atms w0 (.slice qa us.length ca) us) (hus : us.length ≤ 4000) (k : Nat) : AddC w0 us qa ca k := by
  induction k using Nat.strongRecOn with
  | ind k ih => exact add_step w0 us qa ca hat hus k ih
set_option maxRecDepth 100000 in
set_option maxHeartbeats 2000000 in
theorem goalOf_any (w : World) (us : List Atm) (qa : Option Addr) (ca : Nat) (lv : Value) (ys : List Sym) (hat : Atms w (.slice qa us.length ca) us) (hus : us.length ≤ 4000) (hl : CdS w lv ys) (hwf : WF 1 ys) (hu : ∀ y ∈ ys, y.1 = 6 → y.2 ∈ us) (hn : ys.length ≤ 8000) :
    Calls Tryz.prog 127 #[lv, .slice qa us.length ca] w fun e w' => ∃ gb cg, e = .returned (.slice (some ⟨gb, 0, none⟩) (gad us ys.length ys 2 0).1.length cg) ∧ w.heap.size ≤ gb ∧ (gad us ys.length ys 2 0).1.length ≤ cg ∧ Gol w' gb (gad us ys.length ys 2 0).1 ∧ Below w.heap.size w w' := by
  have hG : GS w (w.alloc (.cells #[.slice none 0 0] 177)) w.heap.size [] (.slice none 0 0) := ⟨below_alloc w _, Nat.le_refl _, heap_alloc_new w _, World.ownsRow_nil _ _ _ _⟩
  have CA : Hid (Calls Tryz.prog 178 #[.pointer (some ⟨w.heap.size, 0, none⟩), lv, .slice qa us.length ca, .int .i8 2] (w.alloc (.cells #[.slice none 0 0] 177)) fun e w' => ∃ rv v', e = .returned rv ∧ CdS w rv (gad us ys.length ys 2 0).2 ∧ GS w w' w.heap.size ([] ++ (gad us ys.length ys 2 0).1) v') := gadd_any w us qa ca hat hus ys.length _ _ [] _ lv ys 2 1 hG hl hwf (by omega) (Nat.le_refl _) hu (Or.inr rfl) (by simpa using hn)
  obtain ⟨_, _, _, hne, _⟩ := gad_is us (fun _ => 0) (fun _ => Or.inl rfl) [] (fun a _ => by simp) ys.length ys 2 0 1 (Or.inr rfl) hwf (by omega) (Nat.le_refl _) hu
  obtain ⟨lp, lc, rfl⟩ := hl.shape
  have HNE : Hid _ := hne
  clear hG hl hwf hu hat hne
  generalize gad us ys.length ys 2 0 = GG at *
  go_enter Tryz.func127, Tryz.ntmps127
  go_wp2_with fail
  refine Calls.mono CA.out ?_
  rintro e w1 ⟨rv, v, rfl, hrv, hG1⟩
  rw [List.nil_append] at hG1
  have cB := hG1.box.cell (i := 0) rfl
  obtain ⟨gb, cg, rfl, h1, h2, h3, h4⟩ := own_gol hG1.own HNE.out
  have HB : Hid (Below w.heap.size w w1) := hG1.b0
  have H4 : Hid _ := h4
  clear hG1 h4
  go_wp2_with fail
  go_ret
  exact ⟨gb, cg, rfl, by omega, h2, H4.out, HB.out⟩
end Go.Proofs.YtkinoehmcfhgbaaGreatDoor.Vl
set_option linter.unusedVariables false
set_option linter.unusedSimpArgs false
namespace Go.Proofs.YtkinoehmcfhgbaaGreatDoor.Vl
open Go.RowKit

theorem pos_wf {s : ByteArray} : ∀ (ys : List Sym) (k : Nat) (m : Int) (ps : List Nat), 0 ≤ m → Pos s k m ys ps → WF m ys
  | [], k, m, ps, _, h => by obtain ⟨_, _, rfl⟩ := h; rfl
  | y :: r, k, m, ps, hm, h => by
    obtain ⟨j, ps', rfl, hk, hm0, hs, hp⟩ := h
    have hr := kind_range hk hs
    have hpr := prt_range y.1
    exact ⟨by omega, hr.1, hr.2, pos_wf r (k + j) _ ps' (by omega) hp⟩
theorem pars_wf {s : ByteArray} {ys : List Sym} (h : pars s = some ys) : WF 1 ys := by
  obtain ⟨_, hprs, _, _⟩ := pars_facts h
  obtain ⟨ps, hps⟩ := pos_of s ys 0 1 (Nat.zero_le _) hprs
  exact pos_wf ys 0 1 ps (by decide) hps
theorem itoa_ne (n : Int) : 1 ≤ (Lib.itoa n).length := by
  unfold Lib.itoa
  split
  · simp
  · exact List.length_pos_iff.2 (dec_head _).1
theorem atm_seven {l : List UInt8} {q : Atm} {k : Nat} (h : atm l = some (q, k)) : 7 ≤ k := by
  obtain ⟨a, c, n, tail, hf, _, ht⟩ := atm_form h
  have h1 := congrArg List.length hf.1
  have h2 := congrArg List.length ht
  have h3 := itoa_ne n
  simp only [List.length_cons, List.length_append, List.length_drop] at h1 h2
  omega
/-- How many of the symbols are atoms. -/
def ats6 (ys : List Sym) : Nat := ys.countP fun y => y.1 == 6
theorem pos_few {s : ByteArray} : ∀ (ys : List Sym) (k : Nat) (m : Int) (ps : List Nat), Pos s k m ys ps → k + 7 * ats6 ys ≤ s.size
  | [], k, m, ps, h => by obtain ⟨_, h, _⟩ := h; simp [ats6]; omega
  | y :: r, k, m, ps, h => by
    obtain ⟨j, ps', rfl, hk, hm0, hs, hp⟩ := h
    have ih := pos_few r (k + j) _ ps' hp
    have e : ats6 (y :: r) = ats6 r + if y.1 = 6 then 1 else 0 := by
      unfold ats6
      rw [List.countP_cons]
      by_cases h6 : y.1 = 6 <;> simp [h6]
    rw [e]
    by_cases h6 : y.1 = 6
    · rw [if_pos h6]
      have hj : 7 ≤ j := by
        cases hl : rest s k with
        | nil => rw [hl] at hs; cases hs
        | cons c q =>
          rw [hl] at hs
          simp only [sym] at hs
          split at hs
          · injection hs with hs
            injection hs with h1 h2
            rw [← h1] at h6
            have := mk_le (c.toNat : Int)
            dsimp only at h6
            omega
          · obtain ⟨q', h1, h2⟩ := Option.map_eq_some_iff.1 hs
            injection h2 with h2 h3
            have := atm_seven (q := q'.1) (k := q'.2) h1
            omega
      omega
    · rw [if_neg h6]; omega
theorem uqs_few : ∀ (ds : List Sym) (l : List Atm), (ds.foldl addA l).length ≤ l.length + ats6 ds
  | [], l => by simp [ats6]
  | y :: r, l => by
    have ih := uqs_few r (addA l y)
    have e : ats6 (y :: r) = ats6 r + if y.1 = 6 then 1 else 0 := by
      unfold ats6
      rw [List.countP_cons]
      by_cases h6 : y.1 = 6 <;> simp [h6]
    rw [List.foldl_cons, e]
    have h2 : (addA l y).length ≤ l.length + if y.1 = 6 then 1 else 0 := by
      unfold addA
      split
      · split <;> simp
      · simp
    omega
theorem pars_few {s : ByteArray} {ys : List Sym} (h : pars s = some ys) : (uqs ys).length ≤ 571 := by
  obtain ⟨hs4, hprs, _, _⟩ := pars_facts h
  obtain ⟨ps, hps⟩ := pos_of s ys 0 1 (Nat.zero_le _) hprs
  have h1 := pos_few ys 0 1 ps hps
  have h2 := uqs_few ys []
  unfold uqs
  simp only [List.length_nil] at h2
  omega
theorem pars_len {s : ByteArray} {ys : List Sym} (h : pars s = some ys) : ys.length ≤ 4000 := by
  obtain ⟨hs4, hprs, _, _⟩ := pars_facts h
  obtain ⟨ps, hps⟩ := pos_of s ys 0 1 (Nat.zero_le _) hprs
  have := pos_len ys 0 1 ps hps
  omega
theorem pars_in {ys : List Sym} : ∀ y ∈ ys, y.1 = 6 → y.2 ∈ uqs ys := by
  intro y hy h6
  have h := uqs_in ys y hy h6
  rcases nmb_mem (uqs ys) y.2 0 with ⟨h1, _⟩ | ⟨h1, _⟩
  · omega
  · exact h1
theorem gad_le (us : List Atm) : ∀ (k : Nat) (l : List Sym) (w : Int) (p : Nat), (gad us k l w p).1.length + (gad us k l w p).2.length ≤ l.length
  | 0, l, w, p => by simp [gad]
  | k + 1, [], w, p => by simp [gad]
  | k + 1, y :: r, w, p => by
    unfold gad
    split
    · have := gad_le us k r (tnot w) p
      simp only [List.length_cons]; omega
    · split
      · simp
        omega
      · split
        · have h1 := gad_le us k r (if y.1 = 5 then tnot w else w) (p + 1)
          have h2 := gad_le us k (gad us k r (if y.1 = 5 then tnot w else w) (p + 1)).2 w (p + 1 + (gad us k r (if y.1 = 5 then tnot w else w) (p + 1)).1.length)
          simp only [List.length_cons, List.length_append]
          omega
        · simp
          omega
/-- What holds of the symbols of a text that is a condition. -/
theorem PC.pars {s : ByteArray} {ys : List Sym} (h : pars s = some ys) : PC (uqs ys) ys (gad (uqs ys) ys.length ys 2 0).1 := by
  have hl := pars_len h
  have hg := gad_le (uqs ys) ys.length ys 2 0
  exact PC.of (uqs_nodup ys) (by have := pars_few h; omega) (pars_facts h).2.2.2 (pars_wf h) (Nat.le_refl _) pars_in (by omega)
end Go.Proofs.YtkinoehmcfhgbaaGreatDoor.Vl
set_option linter.unusedVariables false
set_option linter.unusedSimpArgs false
namespace Go.Proofs.YtkinoehmcfhgbaaGreatDoor.Vl
open Go.RowKit

theorem Tryz.infoTru : (Tryz.prog.info? 159).map (fun i => (i.zero, i.size, i.bytes)) = some (some (.int .i8 0), 1, 1) := by kernel_rfl
/-- A prover between two conditions. -/
structure PvI (w0 w : World) (pb kb mb : Nat) : Prop where
  h0 : Below w0.heap.size w0 w
  hp : w0.heap.size ≤ pb
  hm : w0.heap.size ≤ mb
  hk : w0.heap.size ≤ kb
  hpm : pb ≠ mb
  hkp : kb ≠ pb
  hkm : kb ≠ mb
  kl : kb < w.heap.size
  box : ∃ v1 v2 s v5 v6, Blk w pb 180 [.pointer (some ⟨kb, 0, none⟩), v1, v2, .int .i64 s, .map (some mb), v5, v6]
  nm : ∃ n f, NM w mb n f
set_option maxRecDepth 100000 in
set_option maxHeartbeats 12000000 in
theorem begin_any {s : ByteArray} {ys : List Sym} (hp : pars s = some ys) (w0 w : World) (pb kb mb : Nat) (lv : Value) (bu : Nat) (hI : PvI w0 w pb kb mb) (hs : Syms w0.heap.size w0 lv ys) (hcp : ∀ b cap, lv = .slice (some ⟨b, 0, none⟩) ys.length cap → ys.length ≤ cap) (hbu : bu ≤ 20000) :
    Calls Tryz.prog 87 #[.pointer (some ⟨pb, 0, none⟩), lv, .int .i64 (bu : Int)] w fun e w' => e = .returned (.tuple #[]) ∧ ∃ tb qb gb qa ca cg ats parts, PvS w0 w' ⟨pb, mb, tb, qb, gb, kb, qa, ca, cg⟩ (uqs ys) (gad (uqs ys) ys.length ys 2 0).1 bu 0 (fun _ => 0) ats parts ∧ FrX [pb, mb] w w' ∧ w.heap.size ≤ tb ∧ w.heap.size ≤ qb := by
  have hyl := pars_len hp
  have hul := pars_few hp
  have hwf := pars_wf hp
  have hin := @pars_in ys
  have hgl := gad_le (uqs ys) ys.length ys 2 0
  obtain ⟨i0, hi, hz0, hz1, hz2⟩ := info_parts Tryz.infoTru
  have hsw : Syms w.heap.size w lv ys := (hs.below hI.h0).more hI.h0.size
  have CA : Hid (Calls Tryz.prog 85 #[lv] w fun e w' => ∃ u, e = .returned u ∧ w'.ownsRow w.heap.size 134 3 u (uqs ys).length (cells3 (uqs ys)) ∧ Below w.heap.size w w') := catoms_any lv ys w hsw hyl
  have hpos := wf_pos hwf (by decide)
  have HCD : Hid (∀ X, Below w0.heap.size w0 X → CdS X lv ys) := fun X hX => by
    obtain ⟨b, cap, e1, e2, e3⟩ := hs
    refine Or.inr ⟨b, 0, cap, e1, hpos, ?_, Nat.lt_of_lt_of_le e2 hX.size, fun j y hy => ?_⟩
    · exact hcp _ _ e1
    · obtain ⟨z0, z1, z2, z3⟩ := e3 j y hy
      rw [Nat.zero_add]
      exact ⟨(hX.cell (p := ⟨b, j * 4, none⟩) e2).trans z0, (hX.cell (p := ⟨b, j * 4 + 1, none⟩) e2).trans z1, (hX.cell (p := ⟨b, j * 4 + 2, none⟩) e2).trans z2, (hX.cell (p := ⟨b, j * 4 + 3, none⟩) e2).trans z3⟩
  have HGO : Hid (∀ X qa ca, Below w0.heap.size w0 X → Atms X (.slice qa (uqs ys).length ca) (uqs ys) → Calls Tryz.prog 127 #[lv, .slice qa (uqs ys).length ca] X fun e w' => ∃ gb cg, e = .returned (.slice (some ⟨gb, 0, none⟩) (gad (uqs ys) ys.length ys 2 0).1.length cg) ∧ X.heap.size ≤ gb ∧ (gad (uqs ys) ys.length ys 2 0).1.length ≤ cg ∧ Gol w' gb (gad (uqs ys) ys.length ys 2 0).1 ∧ Below X.heap.size X w') := fun X qa ca hX hA => goalOf_any X (uqs ys) qa ca lv ys hA (by omega) (HCD.out X hX) hwf hin (by omega)
  have hglen : (gad (uqs ys) ys.length ys 2 0).1.length ≤ 8000 := by omega
  generalize (gad (uqs ys) ys.length ys 2 0).1 = g at *
  generalize uqs ys = us at *
  obtain ⟨v1, v2, s0, v5, v6, hbox⟩ := hI.box
  obtain ⟨n0, f0, hnm⟩ := hI.nm
  have hpl := hbox.lt
  have hml := hnm.lt
  have hpm := hI.hpm
  have h00 := hI.h0
  have hhp := hI.hp
  have hhm := hI.hm
  have hlv : ∃ lb lc, lv = .slice (some ⟨lb, 0, none⟩) ys.length lc := by obtain ⟨b, cap, e, _⟩ := hs; exact ⟨b, cap, e⟩
  obtain ⟨lb, lc, rfl⟩ := hlv
  clear hsw hs hin hwf hgl hI HCD hp
  go_enter Tryz.func87, Tryz.ntmps87
  go_wp2_with fail
  refine Calls.mono CA.out ?_
  rintro e w1 ⟨u, rfl, hown, hb1⟩
  have hat1 : Atms w1 u us := own_latms hown
  obtain ⟨qa, ca, rfl⟩ := atms_shape hat1
  have hqb : ∀ q, qa = some ⟨q, 0, none⟩ → w.heap.size ≤ q := fun q e => own_block hown q (by rw [e]; rfl)
  have hbx1 := hbox.below hb1
  have hnm1 := hnm.fr (M := []) (FrX.of_below hb1) List.not_mem_nil
  have hs1 := hb1.size
  -- the atoms are laid into the prover
  have hbx2 := hbx1.set 1 (.slice qa us.length ca)
  have hf2 := setCell_fr w1 pb 1 (.slice qa us.length ca)
  have hnm2 := hnm1.fr hf2 (by simp; exact fun e => hpm e.symm)
  have hat2 : Atms (w1.setCell ⟨pb, 1, none⟩ (.slice qa us.length ca)) (.slice qa us.length ca) us := by
    rcases hat1 with h1 | ⟨q, c, h1, h2, h3, h4, h5⟩
    · exact Or.inl h1
    · have hq := hqb q (by injection h1)
      have ec : ∀ o, (w1.setCell ⟨pb, 1, none⟩ (.slice qa us.length ca)).cell? ⟨q, o, none⟩ = w1.cell? ⟨q, o, none⟩ := fun o => hf2.cell o h4 (by simp; omega)
      exact Or.inr ⟨q, c, h1, h2, h3, Nat.lt_of_lt_of_le h4 hf2.size, fun j a ha => ⟨(ec _).trans (h5 j a ha).1, (ec _).trans (h5 j a ha).2.1, (ec _).trans (h5 j a ha).2.2⟩⟩
  have hb02 : Below w0.heap.size w0 (w1.setCell ⟨pb, 1, none⟩ (.slice qa us.length ca)) := (h00.trans (hb1.mono h00.size)).setCell (p := ⟨pb, 1, none⟩) hhp _
  have CG : Hid _ := HGO.out _ qa ca hb02 hat2
  have x0 : w1.cell? ⟨pb, 1, none⟩ = some v1 := hbx1.cell rfl
  have x1 := hbx1.free 1
  have x2 : (w1.setCell ⟨pb, 1, none⟩ (.slice qa us.length ca)).cell? ⟨pb, 1, none⟩ = some (.slice qa us.length ca) := hbx2.cell rfl
  have hF2 : FrX [pb, mb] w (w1.setCell ⟨pb, 1, none⟩ (.slice qa us.length ca)) := (FrX.of_below hb1).trans (hf2.sub (by simp))
  clear hat1 hown hbx1 hnm1 hf2 hbox hnm
  go_wp2_with fail
  refine Calls.mono CG.out ?_
  rintro e w3 ⟨gb, cg, rfl, hgb, hgc, hgol, hb3⟩
  rw [World.size_setCell] at hgb
  generalize w1.setCell ⟨pb, 1, none⟩ (.slice qa us.length ca) = W2 at *
  have hs3 := hb3.size
  have hsW := hF2.size
  have hbx3 := hbx2.below hb3
  have hnm3 := hnm2.fr (M := []) (FrX.of_below hb3) List.not_mem_nil
  have hat3 := hat2.below hb3
  have hbx4 := (hbx3.set 2 (.slice (some ⟨gb, 0, none⟩) g.length cg)).set 3 (.int .i64 (bu : Int))
  have hf4 : FrX [pb] w3 ((w3.setCell ⟨pb, 2, none⟩ (.slice (some ⟨gb, 0, none⟩) g.length cg)).setCell ⟨pb, 3, none⟩ (.int .i64 (bu : Int))) := (setCell_fr w3 pb 2 _).trans (setCell_fr _ pb 3 _)
  have hnm4 := hnm3.fr hf4 (by simp; exact fun e => hpm e.symm)
  have y0 : w3.cell? ⟨pb, 2, none⟩ = some v2 := hbx3.cell rfl
  have y1 := hbx3.free 2
  have y2 : w3.cell? ⟨pb, 3, none⟩ = some (.int .i64 s0) := hbx3.cell rfl
  have y3 := hbx3.free 3
  have y4 : w3.cell? ⟨pb, 4, none⟩ = some (.map (some mb)) := hbx3.cell rfl
  obtain ⟨w5, hclr, hnm5, hg5⟩ := NM.clear hnm4 0
  have hf5 : FrX [mb] ((w3.setCell ⟨pb, 2, none⟩ (.slice (some ⟨gb, 0, none⟩) g.length cg)).setCell ⟨pb, 3, none⟩ (.int .i64 (bu : Int))) w5 := FrX.of_grown hg5 (by simp)
  have hbx5 := hbx4.fr hf5 (by simp [hpm])
  have hF35 : FrX [pb, mb] w3 w5 := (hf4.sub (by simp)).trans (hf5.sub (by simp))
  have hF5 : FrX [pb, mb] w w5 := (hF2.trans (FrX.of_below hb3)).trans hF35
  have hs5 := hF35.size
  have hgl3 := hgol.1
  have hgol5 := hgol.fr hF35 (by simp; omega)
  have hat5 : Atms w5 (.slice qa us.length ca) us := by
    rcases hat3 with h1 | ⟨q, c, h1, h2, h3, h4, h5⟩
    · exact Or.inl h1
    · have hq := hqb q (by injection h1)
      have ec : ∀ o, w5.cell? ⟨q, o, none⟩ = w3.cell? ⟨q, o, none⟩ := fun o => hF35.cell o h4 (by simp; omega)
      exact Or.inr ⟨q, c, h1, h2, h3, Nat.lt_of_lt_of_le h4 hF35.size, fun j a ha => ⟨(ec _).trans (h5 j a ha).1, (ec _).trans (h5 j a ha).2.1, (ec _).trans (h5 j a ha).2.2⟩⟩
  have z1 : w5.cell? ⟨pb, 1, none⟩ = some (.slice qa us.length ca) := hbx5.cell rfl
  clear hat2 hat3 hgol hbx2 hbx3 hbx4 hnm2 hnm3 hnm4 hf4 hf5 hb3 hg5 hF35 hb1
  go_wp2_with (at_make; refine wpList_make_full _ rfl _ _ 178 rfl w5.heap.size 159 i0 (.int .i8 0) 1 Tryz.underlying178 hi hz0 hz1 .i64 .i64 _ _ us.length rfl rfl rfl rfl (by rw [hz2]; omega) (by unfold maxLen; omega) (Nat.le_refl _) ?_)
  intro w6 hown6 hgrow6
  have hbk6 : Blk w6 w5.heap.size 159 ((List.replicate us.length (0 : Int)).map tv8) := by
    have h := hown6
    rw [toList_madeCells_one] at h
    have h2 := blk_made h
    rw [List.map_replicate]
    exact h2
  have h56 : Below w5.heap.size w5 w6 := (Below.refl _ w5).grown hgrow6 (Nat.le_refl _) (by intro k h; cases h)
  have hbx6 := hbx5.below h56
  have hl6 := hbk6.lt
  have hbx7 := hbx6.set 5 (.slice (some ⟨w5.heap.size, 0, none⟩) us.length us.length)
  have u0 : w6.cell? ⟨pb, 5, none⟩ = some v5 := hbx6.cell rfl
  have u1 := hbx6.free 5
  have hf7 := setCell_fr w6 pb 5 (.slice (some ⟨w5.heap.size, 0, none⟩) us.length us.length)
  have u2 : (w6.setCell ⟨pb, 5, none⟩ (.slice (some ⟨w5.heap.size, 0, none⟩) us.length us.length)).cell? ⟨pb, 2, none⟩ = some (.slice (some ⟨gb, 0, none⟩) g.length cg) := hbx7.cell rfl
  have hbk7 := hbk6.fr hf7 (by simp; omega)
  have hF57 : FrX [pb] w5 (w6.setCell ⟨pb, 5, none⟩ (.slice (some ⟨w5.heap.size, 0, none⟩) us.length us.length)) := (FrX.of_below h56).trans hf7
  have hsz7 : (w6.setCell ⟨pb, 5, none⟩ (.slice (some ⟨w5.heap.size, 0, none⟩) us.length us.length)).heap.size = w6.heap.size := World.size_setCell _ _ _
  clear hown6 hgrow6 hbx5 hbx6 hbk6 hf7
  go_wp2_with (at_make; refine wpList_make_full _ rfl _ _ 178 rfl w6.heap.size 159 i0 (.int .i8 0) 1 Tryz.underlying178 hi hz0 hz1 .i64 .i64 _ _ g.length rfl rfl rfl rfl (by rw [hz2]; omega) (by unfold maxLen; omega) (by first | exact Nat.le_refl _ | (rw [hsz7]; exact Nat.le_refl _)) ?_)
  intro w8 hown8 hgrow8
  generalize w6.setCell ⟨pb, 5, none⟩ (.slice (some ⟨w5.heap.size, 0, none⟩) us.length us.length) = W7 at *
  have hbk8 : Blk w8 w6.heap.size 159 ((List.replicate g.length (0 : Int)).map tv8) := by
    have h := hown8
    rw [toList_madeCells_one] at h
    have h2 := blk_made (by first | exact h | (rw [hsz7] at h; exact h))
    rw [List.map_replicate]
    first
      | exact h2
      | (rw [hsz7] at h2; exact h2)
  have h78 : Below W7.heap.size W7 w8 := (Below.refl _ W7).grown hgrow8 (Nat.le_refl _) (by intro k h; cases h)
  have hbx8 := hbx7.below h78
  have hbx9 := hbx8.set 6 (.slice (some ⟨w6.heap.size, 0, none⟩) g.length g.length)
  have t0 : w8.cell? ⟨pb, 6, none⟩ = some v6 := hbx8.cell rfl
  have t1 := hbx8.free 6
  have hf9 := setCell_fr w8 pb 6 (.slice (some ⟨w6.heap.size, 0, none⟩) g.length g.length)
  have hF59 : FrX [pb] w5 (w8.setCell ⟨pb, 6, none⟩ (.slice (some ⟨w6.heap.size, 0, none⟩) g.length g.length)) := (hF57.trans (FrX.of_below h78)).trans hf9
  have hF9 : FrX [pb, mb] w (w8.setCell ⟨pb, 6, none⟩ (.slice (some ⟨w6.heap.size, 0, none⟩) g.length g.length)) := hF5.trans (hF59.sub (by simp))
  have hbk7' := (hbk7.below h78).fr hf9 (by simp; omega)
  have hbk9 := hbk8.fr hf9 (by simp; omega)
  have hgl5 := hgol5.1
  have HPV : Hid (PvS w0 (w8.setCell ⟨pb, 6, none⟩ (.slice (some ⟨w6.heap.size, 0, none⟩) g.length g.length)) ⟨pb, mb, w5.heap.size, w6.heap.size, gb, kb, qa, ca, cg⟩ us g bu 0 (fun _ => 0) (List.replicate us.length 0) (List.replicate g.length 0)) := by
    refine ⟨hF9.below h00 (by intro m hm; simp at hm; rcases hm with rfl | rfl; exact hhp; exact hhm), ?_, ?_, hbx9, ?_, hgol5.fr hF59 (by simp; omega), ?_, hgc, hnm5.fr hF59 (by simp; exact fun e => hpm e.symm), hbk7', by simp, hbk9, by simp⟩
    · intro m hm
      simp only [PD.M, List.mem_cons, List.not_mem_nil, or_false] at hm
      have := h00.size
      rcases hm with rfl | rfl | rfl | rfl <;> omega
    · simp only [PD.M, List.nodup_cons, List.mem_cons, List.not_mem_nil, or_false, not_or, List.nodup_nil, and_true, not_false_eq_true]
      omega
    · rcases hat5 with h1 | ⟨q, c, h1, h2, h3, h4, h5⟩
      · exact Or.inl h1
      · have hq := hqb q (by injection h1)
        have ec : ∀ o, (w8.setCell ⟨pb, 6, none⟩ (.slice (some ⟨w6.heap.size, 0, none⟩) g.length g.length)).cell? ⟨q, o, none⟩ = w5.cell? ⟨q, o, none⟩ := fun o => hF59.cell o h4 (by simp; omega)
        exact Or.inr ⟨q, c, h1, h2, h3, Nat.lt_of_lt_of_le h4 hF59.size, fun j a ha => ⟨(ec _).trans (h5 j a ha).1, (ec _).trans (h5 j a ha).2.1, (ec _).trans (h5 j a ha).2.2⟩⟩
    · simp only [PD.M, List.mem_cons, List.not_mem_nil, or_false]
      omega
  have HF9 : Hid _ := hF9
  clear hbk7' hbk9 hF59 hF9 hbx8 hbx9 hf9 hown8 hgrow8 hbk8 hbk7 hbx7 hat5 hgol5
  go_wp2_with fail
  go_end0
  exact ⟨rfl, _, _, _, _, _, _, _, _, HPV.out, HF9.out, by omega, by omega⟩
end Go.Proofs.YtkinoehmcfhgbaaGreatDoor.Vl
