/-
  The walk of the document's goes at a question.
  The walk of the document's goes at a point.
  The walk of the program's split, where proof's contract is given (UNFINISHED: see NOTES).
  Proof and split together.
  The walks of slices.Index, slices.Contains at atoms, and of Condition.Atoms: a condition's atoms, each once.
-/
import Derived.Test.YtkinoehmcfhgbaaDoorT17
import Derived.Test.YtkinoehmcfhgbaaDoorT7
set_option linter.unusedVariables false
set_option linter.unusedSimpArgs false
namespace Go.Proofs.YtkinoehmcfhgbaaDoor.Vl
open Go.RowKit

set_option maxRecDepth 100000 in
set_option maxHeartbeats 16000000 in
theorem goes_ask {w0 : World} {b gb : Nat} {q : Option Addr} {cap : Nat} {us : List Atm} {s P : ByteArray} {ys : List Sym} {f : Atm → Int} (hp : pars s = some ys) (hus : us = uqs ys) (W : World) (kk k : Nat) (h : DS w0 W b gb q cap us s P k false (byl us f)) (hP : P.size ≤ 200000) (hk : k ≤ P.size) (hf3 : ∀ a, T3 (f a)) (hlt : k < P.size) (h63 : P[k] = 63)
    (IH : ∀ (X : World) (k2 : Nat) (g : Atm → Int), (∀ a, T3 (g a)) → k2 ≤ P.size → k < k2 → DS w0 X b gb q cap us s P k2 false (byl us g) → Calls Tryd.prog 18 #[.pointer (some ⟨b, 0, none⟩)] X fun e w' => e = .returned (.tuple #[]) ∧ FrK b gb X w' ∧ GoP w0 w' b gb q cap us s P g (chk us ys kk g (rest P k2))) :
    Calls Tryd.prog 18 #[.pointer (some ⟨b, 0, none⟩)] W fun e w' => e = .returned (.tuple #[]) ∧ FrK b gb W w' ∧ GoP w0 w' b gb q cap us s P f (chk us ys (kk + 1) f (rest P k)) := by
  obtain ⟨hs4, hprs, hul, hok⟩ := pars_facts hp
  rw [← hus] at hul hok
  have hnd : us.Nodup := by rw [hus]; exact uqs_nodup ys
  have HIH : Hid _ := IH
  clear IH
  have HD : Hid (DS w0 W b gb q cap us s P k false (byl us f)) := h
  obtain ⟨c0, c1, c2, c3, c4, c5⟩ := h.lk.cells
  have f5 := h.lk.free 5
  have f4 := h.lk.free 4
  have hbW := h.lt
  have hgW := h.gl
  clear h
  have hlt' : (k : Int) < (P.size : Int) := by omega
  have hge : decide ((P.size : Int) ≤ (k : Int)) = false := decide_eq_false (by omega)
  have eR := rest_cons P k hlt
  have HK1 : Hid (DS w0 (W.setCell ⟨b, 4, none⟩ (.int .i64 ((k : Int) + 1))).drew.drew b gb q cap us s P (k + 1) false (byl us f)) := ((HD.out.read (grown_cell _ _ _ _) (HD.out.lk.goto (k + 1))).below (Below.refl _ _).drew).below (Below.refl _ _).drew
  have HF1 : Hid (FrK b gb W (W.setCell ⟨b, 4, none⟩ (.int .i64 ((k : Int) + 1))).drew.drew) := ((FrK.of_b (grown_cell _ _ _ _)).trans (.of_below (Below.refl _ _).drew)).trans (.of_below (Below.refl _ _).drew)
  have g1 : ((P[k].toNat : Int) == 46) = false := by rw [h63]; rfl
  have g2 : ((P[k].toNat : Int) == 33) = false := by rw [h63]; rfl
  have g3 : ((P[k].toNat : Int) == 63) = true := by rw [h63]; rfl
  have HC : Hid (chk us ys (kk + 1) f (rest P k) = spl us ys kk f (rest P (k + 1))) := by show _ = _; rw [eR, h63]; exact chk_ask _ _ _ _ _
  have CF : Hid (∀ X, DS w0 X b gb q cap us s P (k + 1) false (byl us f) → _) := fun X hX => figure_any X b (k + 1) us.length cap s P q (.slice (some ⟨gb, 0, none⟩) us.length us.length) 58 hP (by omega) hul hX.lk
  clear eR h63 hus hp hprs
  generalize chk us ys (kk + 1) f (rest P k) = CK at *
  go_enter Tryd.func18, Tryd.ntmps18
  go_wp2_with fail
  go_region
  go_wp2_with fail
  go_region
  go_wp2_with fail
  generalize (W.setCell ⟨b, 4, none⟩ (.int .i64 ((k : Int) + 1))).drew.drew = X1 at *
  refine Calls.mono (CF.out _ HK1.out) ?_
  rintro e w1 ⟨hg1, hcs⟩
  have HF2 : Hid (FrK b gb W w1) := HF1.out.trans (.of_b hg1)
  rcases hcs with ⟨n, r, hfg, hr, rfl, hlk⟩ | ⟨hno, rfl, k', hlk⟩
  · have hD3 := DS.read HK1.out hg1 hlk
    have HD3 : Hid (DS w0 w1 b gb q cap us s P (k + 1 + dlen (rest P (k + 1)) + 1) false (byl us f)) := hD3
    obtain ⟨d0, d1, d2, d3, d4, d5⟩ := hD3.lk.cells
    have z5 := hD3.lk.free 5
    have hnl := (fig_lt hfg).1
    have hrd := (fig_lt hfg).2.1
    have hnx : k + 1 + dlen (rest P (k + 1)) + 1 ≤ P.size := by
      have h1 : (58 :: r).length ≤ (rest P (k + 1)).length - dlen (rest P (k + 1)) := by rw [hrd, List.length_drop]; exact Nat.le_refl _
      rw [rest_len] at h1
      simp only [List.length_cons] at h1
      omega
    obtain ⟨g, cap', hgv, hg1', hg2, hg3, hg4, hg5, hg6⟩ := own_facts hD3.by' (by omega)
    cases hgv
    have hbn : (byl us f)[n]? = some (dt (f (us.getD n (0, 0, 0)))) := by
      unfold byl
      rw [List.getElem?_map, List.getElem?_eq_getElem hnl, List.getD_eq_getElem?_getD, List.getElem?_eq_getElem hnl]; rfl
    have hcell := hg5 n (iv (dt (f (us.getD n (0, 0, 0))))) (by rw [List.getElem?_map, hbn]; rfl)
    have hfz := hg6 n
    have hlt2 : (n : Int) < (us.length : Int) := by omega
    have HSP : Hid (CK = if f (us.getD n (0, 0, 0)) = 0 then (match chk us ys kk (putA f (us.getD n (0, 0, 0)) 1) r with | none => none | some r2 => chk us ys kk (putA f (us.getD n (0, 0, 0)) 2) r2) else none) := by show _ = _; rw [HC.out]; exact spl_yes hfg
    have HBS : Hid (∀ (g : Atm → Int) (t : Int), (byl us g).set n (dt t) = byl us (putA g (us.getD n (0, 0, 0)) t)) := fun g t => byl_set hnd g n hnl t
    have HR : Hid (r = rest P (k + 1 + dlen (rest P (k + 1)) + 1)) := hr
    unfold iv at hcell
    generalize us.getD n (0, 0, 0) = a at *
    have hT := hf3 a
    clear hrd hfg hbn hD3 hg5 hg6 hr hlk CF HC
    by_cases hF0 : f a = 0
    · have hcell' : w1.cell? ⟨gb, n, none⟩ = some (.int .i64 2) := by rw [hF0] at hcell; exact hcell
      have HS2 : Hid (CK = (match chk us ys kk (putA f a 1) r with | none => none | some r2 => chk us ys kk (putA f a 2) r2)) := by show _ = _; rw [HSP.out, if_pos hF0]
      have HF0 : Hid (f a = 0) := hF0
      have HP1 : Hid (DS w0 (w1.setCell ⟨gb, n, none⟩ (.int .i64 1)) b gb q cap us s P (k + 1 + dlen (rest P (k + 1)) + 1) false (byl us (putA f a 1))) := by
        have := HD3.out.put n 1
        rw [show (1 : Int) = dt 1 from rfl, HBS.out f 1] at this
        exact this
      have HFP : Hid (FrK b gb W (w1.setCell ⟨gb, n, none⟩ (.int .i64 1))) := HF2.out.trans (.of_m (grown_cell _ _ _ _))
      clear hcell hT HSP hF0
      go_wp2_with fail
      refine Calls.mono (HIH.out _ _ (putA f a 1) (putA3 hf3 a (Or.inr (Or.inl rfl))) hnx (by omega) HP1.out) ?_
      rintro e w2 ⟨rfl, hF3, hgp⟩
      have HF3 : Hid (FrK b gb W w2) := HFP.out.trans hF3
      obtain ⟨k1, bad1, bs1, hD4, hcs⟩ := hgp
      have HD4 : Hid (DS w0 w2 b gb q cap us s P k1 bad1 bs1) := hD4
      obtain ⟨x0, x1, x2, x3, x4, x5⟩ := hD4.lk.cells
      obtain ⟨g', cap2, hgv2, _, hh2, _, _, hh5, hh6⟩ := own_facts hD4.by' (by omega)
      cases hgv2
      have hbl : n < (bs1.map iv).length := by simp [hD4.bl]; omega
      have y1 := hh5 n _ (List.getElem?_eq_getElem hbl)
      have y2 := hh6 n
      clear hh5 hh6 hD4 hF3
      rcases hcs with ⟨r2, hc1, rfl, rfl, hk1, hrk⟩ | ⟨hc1, rfl⟩
      · have HP2 : Hid (DS w0 (w2.setCell ⟨gb, n, none⟩ (.int .i64 0)) b gb q cap us s P k1 false (byl us (putA f a 2))) := by
          have := HD4.out.put n 0
          rw [show (0 : Int) = dt 2 from rfl, HBS.out (putA f a 1) 2, putA_again] at this
          exact this
        have HFQ : Hid (FrK b gb W (w2.setCell ⟨gb, n, none⟩ (.int .i64 0))) := HF3.out.trans (.of_m (grown_cell _ _ _ _))
        have hkk1 : k < k1 := by
          have h1 := chk_len kk _ _ _ hc1
          rw [← hrk, rest_len, rest_len] at h1
          omega
        rw [← HR.out] at hc1
        have HS3 : Hid (CK = chk us ys kk (putA f a 2) (rest P k1)) := by show _ = _; rw [HS2.out, hc1, hrk]
        clear hc1 hrk
        go_wp2_with fail
        refine Calls.mono (HIH.out _ k1 (putA f a 2) (putA3 hf3 a (Or.inr (Or.inr rfl))) hk1 hkk1 HP2.out) ?_
        rintro e w3 ⟨rfl, hF4, hgp⟩
        have HF4 : Hid (FrK b gb W w3) := HFQ.out.trans hF4
        obtain ⟨k2, bad2, bs2, hD5, hcs⟩ := hgp
        have HD5 : Hid (DS w0 w3 b gb q cap us s P k2 bad2 bs2) := hD5
        obtain ⟨x0, x1, x2, x3, x4, x5⟩ := hD5.lk.cells
        obtain ⟨g', cap2, hgv2, _, hh2, _, _, hh5, hh6⟩ := own_facts hD5.by' (by omega)
        cases hgv2
        have hbl : n < (bs2.map iv).length := by simp [hD5.bl]; omega
        have y1 := hh5 n _ (List.getElem?_eq_getElem hbl)
        have y2 := hh6 n
        clear hh5 hh6 hD5 hF4
        have HCS : Hid _ := hcs
        clear hcs
        go_wp2_with fail
        go_end0
        refine ⟨rfl, HF4.out.trans (.of_m (grown_cell _ _ _ _)), ?_⟩
        rcases HCS.out with ⟨r3, hc2, rfl, rfl, hk2, hrk2⟩ | ⟨hc2, rfl⟩
        · have e : (byl us (putA f a 2)).set n 2 = byl us f := by
            have := HBS.out (putA f a 2) 0
            rw [putA_back HF0.out] at this
            exact this
          have := HD5.out.put n 2
          rw [e] at this
          exact GoP.ok this (HS3.out.trans hc2) hk2 hrk2
        · exact GoP.no (HD5.out.put n 2) (HS3.out.trans hc2)
      · rw [← HR.out] at hc1
        have HS3 : Hid (CK = none) := by show _ = _; rw [HS2.out, hc1]
        have HP2 : Hid (DS w0 (w2.setCell ⟨gb, n, none⟩ (.int .i64 0)) b gb q cap us s P k1 true (bs1.set n 0)) := HD4.out.put n 0
        have HFQ : Hid (FrK b gb W (w2.setCell ⟨gb, n, none⟩ (.int .i64 0))) := HF3.out.trans (.of_m (grown_cell _ _ _ _))
        clear hc1
        go_wp2_with fail
        refine Calls.mono (goes_bad HP2.out) ?_
        rintro e w3 ⟨rfl, hF4, hD5⟩
        have HF4 : Hid (FrK b gb W w3) := HFQ.out.trans hF4
        have HD5 : Hid (DS w0 w3 b gb q cap us s P k1 true (bs1.set n 0)) := hD5
        obtain ⟨x0, x1, x2, x3, x4, x5⟩ := hD5.lk.cells
        obtain ⟨g', cap2, hgv2, _, hh2, _, _, hh5, hh6⟩ := own_facts hD5.by' (by omega)
        cases hgv2
        have hbl : n < ((bs1.set n 0).map iv).length := by have := hD5.bl; simp only [List.length_map]; omega
        have y1 := hh5 n _ (List.getElem?_eq_getElem hbl)
        have y2 := hh6 n
        clear hh5 hh6 hD5 hF4
        go_wp2_with fail
        go_end0
        exact ⟨rfl, HF4.out.trans (.of_m (grown_cell _ _ _ _)), GoP.no (HD5.out.put n 2) HS3.out⟩
    · have HN : Hid (CK = none) := by show _ = _; rw [HSP.out, if_neg hF0]
      obtain ⟨D, hD, hne⟩ : ∃ D : Int, w1.cell? ⟨gb, n, none⟩ = some (.int .i64 D) ∧ (D != 2) = true := by
        refine ⟨dt (f a), hcell, ?_⟩
        rcases hT with hT | hT | hT
        · exact absurd hT hF0
        · rw [hT]; rfl
        · rw [hT]; rfl
      clear hcell hT HSP hF0
      go_wp2_with fail
      exact bodyPost_ret (results_none rfl _ _ _) rfl ⟨rfl, HF2.out.trans (.of_b (grown_cell _ _ _ _)), GoP.no (HD3.out.read (grown_cell _ _ _ _) (HD3.out.lk.spoil true)) HN.out⟩
  · obtain ⟨d0, d1, d2, d3, d4, d5⟩ := hlk.cells
    have z5 := hlk.free 5
    have HN : Hid (CK = none) := by show _ = _; rw [HC.out]; exact spl_no hno
    have HD3 : Hid (DS w0 w1 b gb q cap us s P k' true (byl us f)) := DS.read HK1.out hg1 hlk
    clear hno hlk CF
    go_wp2_with fail
    exact bodyPost_ret (results_none rfl _ _ _) rfl ⟨rfl, HF2.out.trans (.of_b (grown_cell _ _ _ _)), GoP.no (HD3.out.read (grown_cell _ _ _ _) (HD3.out.lk.spoil true)) HN.out⟩
end Go.Proofs.YtkinoehmcfhgbaaDoor.Vl
set_option linter.unusedVariables false
set_option linter.unusedSimpArgs false
namespace Go.Proofs.YtkinoehmcfhgbaaDoor.Vl
open Go.RowKit

set_option maxRecDepth 100000 in
set_option maxHeartbeats 16000000 in
theorem goes_dot {w0 : World} {b gb : Nat} {q : Option Addr} {cap : Nat} {us : List Atm} {s P : ByteArray} {ys : List Sym} {f : Atm → Int} (hp : pars s = some ys) (hus : us = uqs ys) (W : World) (kk k : Nat) (h : DS w0 W b gb q cap us s P k false (byl us f)) (hP : P.size ≤ 200000) (hk : k ≤ P.size) (hf3 : ∀ a, T3 (f a)) (hlt : k < P.size) (h46 : P[k] = 46) :
    Calls Tryd.prog 18 #[.pointer (some ⟨b, 0, none⟩)] W fun e w' => e = .returned (.tuple #[]) ∧ FrK b gb W w' ∧ GoP w0 w' b gb q cap us s P f (chk us ys (kk + 1) f (rest P k)) := by
  obtain ⟨hs4, hprs, hul, hok⟩ := pars_facts hp
  rw [← hus] at hul hok
  have hnd : us.Nodup := by rw [hus]; exact uqs_nodup ys
  have HD : Hid (DS w0 W b gb q cap us s P k false (byl us f)) := h
  obtain ⟨c0, c1, c2, c3, c4, c5⟩ := h.lk.cells
  have f5 := h.lk.free 5
  have f4 := h.lk.free 4
  have hbW := h.lt
  have hgW := h.gl
  clear h
  have hlt' : (k : Int) < (P.size : Int) := by omega
  have hge : decide ((P.size : Int) ≤ (k : Int)) = false := decide_eq_false (by omega)
  have eR := rest_cons P k hlt
  have HK1 : Hid (DS w0 (W.setCell ⟨b, 4, none⟩ (.int .i64 ((k : Int) + 1))).drew.drew b gb q cap us s P (k + 1) false (byl us f)) := ((HD.out.read (grown_cell _ _ _ _) (HD.out.lk.goto (k + 1))).below (Below.refl _ _).drew).below (Below.refl _ _).drew
  have HF1 : Hid (FrK b gb W (W.setCell ⟨b, 4, none⟩ (.int .i64 ((k : Int) + 1))).drew.drew) := ((FrK.of_b (grown_cell _ _ _ _)).trans (.of_below (Below.refl _ _).drew)).trans (.of_below (Below.refl _ _).drew)
  have g1 : ((P[k].toNat : Int) == 46) = true := by rw [h46]; rfl
  have HC : Hid (chk us ys (kk + 1) f (rest P k) = if (trun f ys).headD 0 = 1 then some (rest P (k + 1)) else none) := by show _ = _; rw [eR, h46]; exact chk_dot _ _ _ _ _
  have HW : Hid (((wrun us (byl us f) ys).headD 0 = 1) ↔ ((trun f ys).headD 0 = 1)) := by show _ ↔ _; rw [hus]; exact worth_chk hf3 hp
  have CW : Hid (∀ X, DS w0 X b gb q cap us s P (k + 1) false (byl us f) → Calls Tryd.prog 28 #[.string s, .slice q us.length cap, .slice (some ⟨gb, 0, none⟩) us.length us.length] X fun e w' => e = .returned (.int .i64 ((wrun us (byl us f) ys).headD 0)) ∧ Below X.heap.size X w') := fun X hX => worth_any s _ _ us (byl us f) ys X hs4 hprs hX.c.at' (own_ints (by rw [byl_len]; exact hX.by')) (byl_len _ _) hul byl_range (by rw [hus]; exact uqs_in ys)
  generalize (wrun us (byl us f) ys).headD 0 = WV at *
  clear eR h46 hus hp hprs hs4
  go_enter Tryd.func18, Tryd.ntmps18
  go_wp2_with fail
  go_region
  go_wp2_with fail
  go_region
  go_wp2_with fail
  generalize (W.setCell ⟨b, 4, none⟩ (.int .i64 ((k : Int) + 1))).drew.drew = X1 at *
  obtain ⟨d0, d1, d2, d3, d4, d5⟩ := HK1.out.lk.cells
  have hbX : b < X1.heap.size := HK1.out.lt
  have m0 : X1.drew.cell? ⟨b, 0, none⟩ = some (.string s) := d0
  have m1 : X1.drew.cell? ⟨b, 1, none⟩ = some (.slice q us.length cap) := d1
  have m2 : X1.drew.cell? ⟨b, 2, none⟩ = some (.slice (some ⟨gb, 0, none⟩) us.length us.length) := d2
  have HK2 : Hid (DS w0 X1.drew b gb q cap us s P (k + 1) false (byl us f)) := HK1.out.below (Below.refl _ _).drew
  have HF2 : Hid (FrK b gb W X1.drew) := HF1.out.trans (.of_below (Below.refl _ _).drew)
  clear c0 c1 c2 c3 c4 c5 f4 f5 d3 d4 d5 d0 d1 d2 hge g1 hok hnd hf3 HD
  go_region_held3 (fun X => X.cell? ⟨b, 0, none⟩ = some (.string s) ∧ X.cell? ⟨b, 1, none⟩ = some (.slice q us.length cap) ∧ X.cell? ⟨b, 2, none⟩ = some (.slice (some ⟨gb, 0, none⟩) us.length us.length)) ((first | exact ⟨m0, m1, m2⟩ | exact ⟨m0', m1', m2'⟩)) (first | (go_at_call 28; refine Calls.mono (CW.out _ HK2.out) ?_; rintro e w2 ⟨rfl, hb2⟩; have m0' : w2.cell? ⟨b, 0, none⟩ = some (.string s) := (hb2.cell (p := ⟨b, 0, none⟩) hbX).trans m0; have m1' : w2.cell? ⟨b, 1, none⟩ = some (.slice q us.length cap) := (hb2.cell (p := ⟨b, 1, none⟩) hbX).trans m1; have m2' : w2.cell? ⟨b, 2, none⟩ = some (.slice (some ⟨gb, 0, none⟩) us.length us.length) := (hb2.cell (p := ⟨b, 2, none⟩) hbX).trans m2))
  have HK3 : Hid (DS w0 w2 b gb q cap us s P (k + 1) false (byl us f)) := HK2.out.below hb2
  have HF3 : Hid (FrK b gb W w2) := HF2.out.trans (.of_below hb2)
  have f5 := HK3.out.lk.free 5
  have d5 := HK3.out.lk.cells.2.2.2.2.2
  clear m0 m1 m2 m0' m1' m2'
  by_cases hv1 : WV = 1
  · have hv2 : (WV != 1) = false := by simp [hv1]
    have HC2 : Hid (chk us ys (kk + 1) f (rest P k) = some (rest P (k + 1))) := by show _ = _; rw [HC.out, if_pos (HW.out.1 hv1)]
    go_wp2_with fail
    go_end0
    exact ⟨rfl, HF3.out.trans (.of_b (grown_cell _ _ _ _)), GoP.ok (HK3.out.read (grown_cell _ _ _ _) (HK3.out.lk.spoil false)) HC2.out (by omega) rfl⟩
  · have hv2 : (WV != 1) = true := by simp [hv1]
    have HC2 : Hid (chk us ys (kk + 1) f (rest P k) = none) := by show _ = _; rw [HC.out, if_neg (fun e => hv1 (HW.out.2 e))]
    go_wp2_with fail
    go_end0
    exact ⟨rfl, HF3.out.trans (.of_b (grown_cell _ _ _ _)), GoP.no (HK3.out.read (grown_cell _ _ _ _) (HK3.out.lk.spoil true)) HC2.out⟩

end Go.Proofs.YtkinoehmcfhgbaaDoor.Vl
set_option linter.unusedVariables false
set_option linter.unusedSimpArgs false
namespace Go.Proofs.YtkinoehmcfhgbaaDoor.Vl
open Go.RowKit

set_option maxRecDepth 100000 in
set_option maxHeartbeats 4000000 in
theorem ksplit_of {w0 : World} {b mb : Nat} {vW : Value} {ys : List Sym} {q : Option Addr} {cap : Nat} {us : List Atm} {n : Nat} {f : Atm → Int} (w : World) (k : Nat) (r : List UInt8) (h : KS w0 w b mb vW ys q cap us r n f) (hgl : Gl w0) (hl : n + 1 + r.length ≤ 200000) (hN : us.length ≤ 4000) (hok : ∀ a ∈ us, okA a) (hf3 : ∀ a, T3 (f a))
    (hpr : ∀ W l n f, (∀ a, T3 (f a)) → l.length < r.length → n + l.length ≤ 200000 → KS w0 W b mb vW ys q cap us l n f → Calls Tryd.prog 30 #[.pointer (some ⟨b, 0, none⟩)] W (PE w0 W b mb vW ys q cap us (n + l.length) f (chk us ys k f l))) :
    Calls Tryd.prog 45 #[.pointer (some ⟨b, 0, none⟩)] w (PE w0 w b mb vW ys q cap us (n + 1 + r.length) f (spl us ys k f r)) := by
  have HPR : Hid _ := hpr
  have CA : Hid _ := atomK h hgl (by omega) hN
  have hbw := h.kn.lt
  have hmw := h.am.lt
  clear h hpr
  go_enter Tryd.func45, Tryd.ntmps45
  go_wp2_with fail
  refine Calls.mono CA.out ?_
  rintro e w1 ⟨hf1, hcs⟩
  have LOOK : Hid (∀ (a1 a2 a3 : Int) (r' : List UInt8), KS w0 w1 b mb vW ys q cap us r' n f → okA (a1, a2, a3) → KS w0 (w1.alloc (.cells #[.int .i64 a1, .int .i64 a2, .int .i64 a3] 52)) b mb vW ys q cap us r' n f ∧ (w1.alloc (.cells #[.int .i64 a1, .int .i64 a2, .int .i64 a3] 52)).cell? ⟨b, 3, none⟩ = some (.map (some mb)) ∧ (Instr.lookup 70 (.map (some mb)) (.agg #[.int .i64 a1, .int .i64 a2, .int .i64 a3]) false).run Tryd.prog ((w1.alloc (.cells #[.int .i64 a1, .int .i64 a2, .int .i64 a3] 52)).drew) = .ok (.int .i8 (f (a1, a2, a3))) ((w1.alloc (.cells #[.int .i64 a1, .int .i64 a2, .int .i64 a3] 52)).drew)) := fun a1 a2 a3 r' hk ho => by
    have h2 := hk.below (below_alloc w1 (.cells #[.int .i64 a1, .int .i64 a2, .int .i64 a3] 52))
    exact ⟨h2, h2.kn.cells.2.2.2, AM.look (h2.am.drewN 1) (a1, a2, a3) ho⟩
  rcases hcs with ⟨i, r1, hfg, hil, rfl, hk1⟩ | ⟨hfg, rfl, hk1⟩
  · have hoa := okA_getD hok i hil
    have hr1 := fig_len hfg
    have HS : Hid (spl us ys k f r = spl1 us ys k f (us.getD i (0, 0, 0)) r1) := spl_some hfg
    obtain ⟨⟨a1, a2, a3⟩, ea⟩ : ∃ a, us.getD i (0, 0, 0) = a := ⟨_, rfl⟩
    rw [ea] at hoa HS
    obtain ⟨h2, c3, hlook⟩ := LOOK.out a1 a2 a3 _ hk1 hoa
    have HK2 : Hid (KS w0 (w1.alloc (.cells #[.int .i64 a1, .int .i64 a2, .int .i64 a3] 52)) b mb vW ys q cap us r1 n f) := h2
    have HF2 : Hid (FrK b mb w (w1.alloc (.cells #[.int .i64 a1, .int .i64 a2, .int .i64 a3] 52))) := hf1.trans (.of_below (below_alloc _ _))
    rw [ea]
    unfold avV
    dsimp only
    have hT := hf3 (a1, a2, a3)
    have hsz := hf1.size
    clear h2 hk1 LOOK hf1 hfg ea
    have HKD : Hid (KS w0 (w1.alloc (.cells #[.int .i64 a1, .int .i64 a2, .int .i64 a3] 52)).drew b mb vW ys q cap us r1 n f) := HK2.out.below (Below.refl _ _).drew
    have HFD : Hid (FrK b mb w (w1.alloc (.cells #[.int .i64 a1, .int .i64 a2, .int .i64 a3] 52)).drew) := HF2.out.trans (.of_below (Below.refl _ _).drew)
    by_cases hF0 : f (a1, a2, a3) = 0
    · rw [hF0] at hlook
      have HF0 : Hid _ := hF0
      have TK : Hid _ := takeK HKD.out 58 (by omega)
      cases his : is1 58 r1
      · rw [his] at TK
        have HX : Hid (spl us ys k f r = none) := by
          show _ = _
          rw [HS.out]
          cases r1 with
          | nil => rfl
          | cons d r2 => exact if_neg (fun e => by simp [is1, e.2] at his)
        clear HS his hF0
        go_wp2_with fail
        go_region_with (first | (go_at_call 42; refine Calls.mono TK.out ?_; rintro e w2 ⟨rfl, K3, F3⟩))
        all_goals
          have HX2 : Hid (PE w0 w b mb vW ys q cap us (n + 1 + r.length) f (spl us ys k f r) (.returned (.bool false)) w2) := ⟨HFD.out.trans F3, _, _, _, K3, Or.inr ⟨HX.out, rfl⟩⟩
          clear K3 F3
          go_wp2_with fail
          go_ret
          exact HX2.out
      · rw [his] at TK
        obtain ⟨r2, rfl, er⟩ := is1_cons his
        rw [er] at TK
        clear his er hF0
        go_wp2_with fail
        go_region_with (first | (go_at_call 42; refine Calls.mono TK.out ?_; rintro e w2 ⟨rfl, K3, F3⟩))
        all_goals
          have hA : w2.heap[w1.heap.size]? = some (.cells #[.int .i64 a1, .int .i64 a2, .int .i64 a3] 52 (0, 0)) := (F3.block w1.heap.size (by show _ < (w1.heap.push _).size; simp) (by omega) (by omega)).trans (heap_alloc_new _ _)
          have z0 : w2.cell? ⟨w1.heap.size, 0, none⟩ = some (.int .i64 a1) := by simp [World.cell?, hA]
          have z1 : w2.cell? ⟨w1.heap.size, 1, none⟩ = some (.int .i64 a2) := by simp [World.cell?, hA]
          have z2 : w2.cell? ⟨w1.heap.size, 2, none⟩ = some (.int .i64 a3) := by simp [World.cell?, hA]
          have d3 := K3.kn.cells.2.2.2
          have HK3 : Hid (KS w0 w2 b mb vW ys q cap us r2 n f) := K3
          have HF3 : Hid (FrK b mb w w2) := HFD.out.trans F3
          have HA : Hid _ := hA
          clear hA K3 F3 hlook c3
          obtain ⟨w3, hput, K4, F4⟩ := KS.put (HK3.out.below (Below.refl _ _).drew) a1 a2 a3 hoa 1 (Or.inr (Or.inl rfl)) (by omega)
          have HF4 : Hid (FrK b mb w w3) := (HF3.out.trans (.of_below (Below.refl _ _).drew)).trans F4
          have hA3 : w3.heap[w1.heap.size]? = some (.cells #[.int .i64 a1, .int .i64 a2, .int .i64 a3] 52 (0, 0)) := (F4.block w1.heap.size (by show _ < w2.heap.size; exact (Array.getElem?_eq_some_iff.1 HA.out).1) (by omega) (by omega)).trans HA.out
          have HA3 : Hid _ := hA3
          have HK4 : Hid (KS w0 w3 b mb vW ys q cap us r2 (n + 1) (putA f (a1, a2, a3) 1)) := K4
          clear K4 F4 hA3
          go_wp2_with fail
          go_region
          go_wp2_with fail
          all_goals
            refine Calls.mono (HPR.out _ r2 (n + 1) _ (putA3 hf3 _ (Or.inr (Or.inl rfl))) (by simp only [List.length_cons] at hr1; omega) (by simp only [List.length_cons] at hr1; omega) HK4.out) ?_
            rintro e w4 ⟨F5, l', n', f', K5, ⟨r3, e1, rfl, rfl, e4, rfl⟩ | ⟨e1, rfl⟩⟩
            · have hl3 := chk_len _ _ _ _ e1
              have HS3 : Hid (spl us ys k f r = chk us ys k (putA f (a1, a2, a3) 2) l') := by
                show _ = _
                rw [HS.out]
                show (if _ then _ else _) = _
                rw [if_pos ⟨HF0.out, rfl⟩, e1]
              have hA4 : w4.heap[w1.heap.size]? = some (.cells #[.int .i64 a1, .int .i64 a2, .int .i64 a3] 52 (0, 0)) := (F5.block w1.heap.size (Array.getElem?_eq_some_iff.1 HA3.out).1 (by omega) (by omega)).trans HA3.out
              have y0 : w4.cell? ⟨w1.heap.size, 0, none⟩ = some (.int .i64 a1) := by simp [World.cell?, hA4]
              have y1 : w4.cell? ⟨w1.heap.size, 1, none⟩ = some (.int .i64 a2) := by simp [World.cell?, hA4]
              have y2 : w4.cell? ⟨w1.heap.size, 2, none⟩ = some (.int .i64 a3) := by simp [World.cell?, hA4]
              have d4 := K5.kn.cells.2.2.2
              simp only [List.length_cons] at hr1
              obtain ⟨w5, hput2, K6, F6⟩ := KS.put (K5.below (Below.refl _ _).drew) a1 a2 a3 hoa 2 (Or.inr (Or.inr rfl)) (by omega)
              rw [putA_again] at K6
              have HF6 : Hid (FrK b mb w w5) := ((HF4.out.trans F5).trans (.of_below (Below.refl _ _).drew)).trans F6
              have hA5 : w5.heap[w1.heap.size]? = some (.cells #[.int .i64 a1, .int .i64 a2, .int .i64 a3] 52 (0, 0)) := (F6.block w1.heap.size (by show _ < w4.heap.size; exact (Array.getElem?_eq_some_iff.1 hA4).1) (by omega) (by omega)).trans hA4
              have HA5 : Hid _ := hA5
              have HK6 : Hid (KS w0 w5 b mb vW ys q cap us l' (n' + 1) (putA f (a1, a2, a3) 2)) := K6
              clear hA4 hA5 K5 F5 K6 F6 e1 hput z0 z1 z2 d3
              go_wp2_with fail
              go_region
              go_wp2_with fail
              all_goals
                refine Calls.mono (HPR.out _ l' (n' + 1) _ (putA3 hf3 _ (Or.inr (Or.inr rfl))) (by omega) (by omega) HK6.out) ?_
                rintro e w6 ⟨F7, l6, n6, f6, K7, ⟨r7, e1, rfl, rfl, e7, rfl⟩ | ⟨e1, rfl⟩⟩
                · have hA6 : w6.heap[w1.heap.size]? = some (.cells #[.int .i64 a1, .int .i64 a2, .int .i64 a3] 52 (0, 0)) := (F7.block w1.heap.size (Array.getElem?_eq_some_iff.1 HA5.out).1 (by omega) (by omega)).trans HA5.out
                  have x0 : w6.cell? ⟨w1.heap.size, 0, none⟩ = some (.int .i64 a1) := by simp [World.cell?, hA6]
                  have x1 : w6.cell? ⟨w1.heap.size, 1, none⟩ = some (.int .i64 a2) := by simp [World.cell?, hA6]
                  have x2 : w6.cell? ⟨w1.heap.size, 2, none⟩ = some (.int .i64 a3) := by simp [World.cell?, hA6]
                  have d6 := K7.kn.cells.2.2.2
                  obtain ⟨w7, hdel, K8, F8⟩ := KS.del (K7.below (Below.refl _ _).drew) a1 a2 a3 hoa 0
                  rw [putA_back HF0.out] at K8
                  have HX2 : Hid (PE w0 w b mb vW ys q cap us (n + 1 + r.length) f (spl us ys k f r) (.returned (.bool true)) w7) := ⟨((HF6.out.trans F7).trans (.of_below (Below.refl _ _).drew)).trans F8, _, _, _, K8, Or.inl ⟨_, by rw [HS3.out, e1], rfl, rfl, by omega, rfl⟩⟩
                  clear hA6 K7 F7 K8 F8 e1 e7 y0 y1 y2 d4 hput2
                  go_wp2_with fail
                  go_region
                  go_wp2_with fail
                  all_goals
                    go_ret
                    exact HX2.out
                · have HX2 : Hid (PE w0 w b mb vW ys q cap us (n + 1 + r.length) f (spl us ys k f r) (.returned (.bool false)) w6) := ⟨HF6.out.trans F7, _, _, _, K7, Or.inr ⟨by rw [HS3.out, e1], rfl⟩⟩
                  clear K7 F7 e1
                  go_wp2_with fail
                  go_ret
                  exact HX2.out
            · have HX2 : Hid (PE w0 w b mb vW ys q cap us (n + 1 + r.length) f (spl us ys k f r) (.returned (.bool false)) w4) := by
                refine ⟨HF4.out.trans F5, _, _, _, K5, Or.inr ⟨?_, rfl⟩⟩
                rw [HS.out]
                show (if _ then _ else _) = _
                rw [if_pos ⟨HF0.out, rfl⟩, e1]
              clear K5 F5 e1
              go_wp2_with fail
              go_ret
              exact HX2.out
    · have hne : ((f (a1, a2, a3)) != 0) = true := by simpa using hF0
      have HX : Hid (spl us ys k f r = none) := by
        show _ = _
        rw [HS.out]
        cases r1 with
        | nil => rfl
        | cons d r2 => exact if_neg (fun e => hF0 e.1)
      have hne2 : ((f (a1, a2, a3)) == 0) = false := by simpa using hF0
      generalize f (a1, a2, a3) = FA at *
      clear hF0 HS
      go_wp2_with fail
      go_region
      go_wp2_with fail
      go_ret
      exact ⟨HFD.out, _, _, _, HKD.out, Or.inr ⟨HX.out, rfl⟩⟩
  · have HX : Hid (spl us ys k f r = none) := spl_none hfg
    have HKN : Hid _ := hk1
    have HF1 : Hid (FrK b mb w w1) := hf1
    unfold avV
    dsimp only
    clear hfg hk1 LOOK hf1
    go_wp2_with fail
    go_region
    go_wp2_with fail
    go_ret
    exact ⟨HF1.out.trans (.of_below (below_alloc _ _).drew), _, _, _, HKN.out.below (below_alloc _ _).drew, Or.inr ⟨HX.out, rfl⟩⟩
end Go.Proofs.YtkinoehmcfhgbaaDoor.Vl
set_option linter.unusedVariables false
namespace Go.Proofs.YtkinoehmcfhgbaaDoor.Vl
open Go.RowKit

theorem kproof_any {w0 : World} {b mb : Nat} {vW : Value} {s : ByteArray} {ys : List Sym} {q : Option Addr} {cap : Nat} {us : List Atm} (hp : pars s = some ys) (hgl : Gl w0) (hN : us.length ≤ 4000) (hok : ∀ a ∈ us, okA a) :
    ∀ (k : Nat) (W : World) (l : List UInt8) (n : Nat) (f : Atm → Int), (∀ a, T3 (f a)) → l.length < k → n + l.length ≤ 200000 → KS w0 W b mb vW ys q cap us l n f → Calls Tryd.prog 30 #[.pointer (some ⟨b, 0, none⟩)] W (PE w0 W b mb vW ys q cap us (n + l.length) f (chk us ys k f l))
  | 0, W, l, n, f, hf, hl, hm, h => absurd hl (Nat.not_lt_zero _)
  | k + 1, W, l, n, f, hf, hl, hm, h =>
    kproof_of hp W k l h hgl (by omega) hN hok hf fun W' r hr h' =>
      ksplit_of W' k r h' hgl (by omega) hN hok hf fun W2 l2 n2 f2 hf2 hl2 hm2 h2 =>
        kproof_any hp hgl hN hok k W2 l2 n2 f2 hf2 (by omega) hm2 h2
end Go.Proofs.YtkinoehmcfhgbaaDoor.Vl
set_option linter.unusedVariables false
set_option linter.unusedSimpArgs false
namespace Go.Proofs.YtkinoehmcfhgbaaDoor.Vl
open Go.RowKit

theorem eq_latm (w : World) (x y z a b c : Int) : (binOp .eql 52 (.agg #[.int .i64 x, .int .i64 y, .int .i64 z]) (.agg #[.int .i64 a, .int .i64 b, .int .i64 c])).run Tryd.prog w = .ok (.bool (x == a && (y == b && z == c))) w := by
  have e1 : Tryd.prog.underlying 52 = some (.struct (Tryd.prog.fieldsOf 52)) := by kernel_rfl
  have e2 : Tryd.prog.stoodInHeld 52 = false := by kernel_rfl
  rw [run_eql_struct, run_equalIn_agg _ 9999 _ _ _ e1 e2]
  simp only [Program.fieldsOf, Tryd.underlying52]
  simp [Op.eqFields, part, run_equalIn_int, Tryd.underlying3, Tryd.underlying50]
  by_cases h1 : x = a <;> by_cases h2 : y = b <;> by_cases h3 : z = c <;> simp [h1, h2, h3]
theorem own_latms {w : World} {base : Nat} {v : Value} {ls : List Atm} (h : w.ownsRow base 52 3 v ls.length (cells3 ls)) : Atms w v ls := by
  rcases h.2 with ⟨h1, h2⟩ | ⟨g, cap, cur, hv, hg, hh, h3, h4, h5, h6⟩
  · exact Or.inl ⟨h1, by cases ls <;> simp_all⟩
  · have hlt : g < w.heap.size := by
      rcases Nat.lt_or_ge g w.heap.size with h | h
      · exact h
      · rw [Array.getElem?_eq_none h] at hh; cases hh
    refine Or.inr ⟨g, cap, hv, h3, h4, hlt, fun j a ha => ?_⟩
    have hc := cells3_at ls j a ha
    have e : ∀ i u, (cells3 ls)[i]? = some u → w.cell? ⟨g, i, none⟩ = some u := by
      intro i u hu
      rw [← h6, List.getElem?_take] at hu
      split at hu
      · have : cur[i]? = some u := by simpa using hu
        simp [World.cell?, hh, this]
      · cases hu
    exact ⟨e _ _ hc.1, e _ _ hc.2.1, e _ _ hc.2.2⟩

set_option maxRecDepth 100000 in
set_option maxHeartbeats 1000000 in
theorem index_any (v : Value) (ls : List Atm) (a1 a2 a3 : Int) (w : World) (hl : Atms w v ls) (hn : ls.length ≤ 4000) :
    Calls Tryd.prog 53 #[v, .agg #[.int .i64 a1, .int .i64 a2, .int .i64 a3]] w fun e w' => e = .returned (.int .i64 (nmb ls (a1, a2, a3) 0)) ∧ Below w.heap.size w w' := by
  rcases hl with ⟨rfl, rfl⟩ | ⟨b, cap, rfl, hc1, hc2, hb, hcells⟩
  · go_enter Tryd.func53, Tryd.ntmps53
    go_wp2
    go_loop [5, 8] (fun s5 i => i = .int .i64 0) (fun s5 i => 0)
    case atStart => rfl
    case round =>
      obtain rfl := hrel
      go_wp2
      go_ret
      exact ⟨rfl, below_alloc _ _⟩
  · have HC : Hid _ := hcells
    clear hcells
    have hbne : ¬ b = w.heap.size := by omega
    go_enter Tryd.func53, Tryd.ntmps53
    go_wp2
    have hB := below_alloc w (.cells #[.int .i64 a1, .int .i64 a2, .int .i64 a3] 52)
    have c1 : (w.alloc (.cells #[.int .i64 a1, .int .i64 a2, .int .i64 a3] 52)).cell? ⟨w.heap.size, 0, none⟩ = some (.int .i64 a1) := by simp
    have c2 : (w.alloc (.cells #[.int .i64 a1, .int .i64 a2, .int .i64 a3] 52)).cell? ⟨w.heap.size, 1, none⟩ = some (.int .i64 a2) := by simp
    have c3 : (w.alloc (.cells #[.int .i64 a1, .int .i64 a2, .int .i64 a3] 52)).cell? ⟨w.heap.size, 2, none⟩ = some (.int .i64 a3) := by simp
    have HWs : w.heap.size < (w.alloc (.cells #[.int .i64 a1, .int .i64 a2, .int .i64 a3] 52)).heap.size := by simp
    generalize w.alloc (.cells #[.int .i64 a1, .int .i64 a2, .int .i64 a3] 52) = W at *
    have hWs : w.heap.size < W.heap.size := HWs
    clear HWs
    go_loopw [5, 8] (fun s5 i wr => ∃ k : Nat, i = .int .i64 (k : Int) ∧ k ≤ ls.length ∧ nmb ls (a1, a2, a3) 0 = nmb (ls.drop k) (a1, a2, a3) k ∧ Below W.heap.size W wr) (fun _ i _ => ls.length - (intOf i).toNat)
    case atStart => exact ⟨0, rfl, Nat.zero_le _, rfl, Below.refl _ _⟩
    case round =>
      obtain ⟨k, rfl, hk, hq, hBr⟩ := hrel
      have Q : Hid _ := hq
      clear hq
      by_cases hlt : k < ls.length
      · obtain ⟨⟨x1, x2, x3⟩, hx⟩ : ∃ x, ls[k]? = some x := ⟨_, List.getElem?_eq_getElem hlt⟩
        obtain ⟨z1, z2, z3⟩ := HC.out k _ hx
        have E : Hid (nmb (ls.drop k) (a1, a2, a3) k = if (a1 == x1 && (a2 == x2 && a3 == x3)) = true then (k : Int) else nmb (ls.drop (k + 1)) (a1, a2, a3) ((k + 1 : Nat) : Int)) := by
          show _ = _
          have : ls[k] = (x1, x2, x3) := by rw [List.getElem?_eq_getElem hlt] at hx; exact Option.some.inj hx
          rw [List.drop_eq_getElem_cons hlt, this, nmb]
          have e : ((x1, x2, x3) = (a1, a2, a3)) ↔ ((a1 == x1 && (a2 == x2 && a3 == x3)) = true) := by
            simp [Prod.ext_iff]
            constructor
            · rintro ⟨h1, h2, h3⟩; exact ⟨h1.symm, h2.symm, h3.symm⟩
            · rintro ⟨h1, h2, h3⟩; exact ⟨h1.symm, h2.symm, h3.symm⟩
          by_cases h : (x1, x2, x3) = (a1, a2, a3)
          · rw [if_pos h, if_pos (e.1 h)]
          · rw [if_neg h, if_neg (fun h2 => h (e.2 h2))]; rfl
        have hlt' : (k : Int) < (ls.length : Int) := by omega
        clear hx
        have hbW : b < W.heap.size := Nat.lt_trans hb hWs
        have y1 := (hBr.cell (p := ⟨b, k * 3, none⟩) hbW).trans ((hB.cell (p := ⟨b, k * 3, none⟩) hb).trans z1)
        have y2 := (hBr.cell (p := ⟨b, k * 3 + 1, none⟩) hbW).trans ((hB.cell (p := ⟨b, k * 3 + 1, none⟩) hb).trans z2)
        have y3 := (hBr.cell (p := ⟨b, k * 3 + 2, none⟩) hbW).trans ((hB.cell (p := ⟨b, k * 3 + 2, none⟩) hb).trans z3)
        have v1 := (hBr.cell (p := ⟨w.heap.size, 0, none⟩) hWs).trans c1
        have v2 := (hBr.cell (p := ⟨w.heap.size, 1, none⟩) hWs).trans c2
        have v3 := (hBr.cell (p := ⟨w.heap.size, 2, none⟩) hWs).trans c3
        clear z1 z2 z3 c1 c2 c3
        have heq := fun w => eq_latm w a1 a2 a3 x1 x2 x3
        go_wp2
        all_goals (go_quiet (fail))
        cases hE : (a1 == x1 && (a2 == x2 && a3 == x3)) with
        | false =>
          go_wp2
          go_roundw
          case rel => exact ⟨k + 1, by go_num, by omega, by rw [Q.out, E.out, hE]; rfl, below_drewN hBr _⟩
          case measure => simp [intOf]; omega
        | true =>
          go_wp2
          go_ret
          refine ⟨ret_int ?_, hB.trans ((below_drewN hBr _).mono (by omega))⟩
          rw [Q.out, E.out, hE]; rfl
      · have hlt' : ¬ (k : Int) < (ls.length : Int) := by omega
        go_wp2
        go_ret
        refine ⟨ret_int ?_, hB.trans (hBr.mono (by omega))⟩
        rw [Q.out, List.drop_eq_nil_of_le (by omega)]; rfl

set_option maxRecDepth 100000 in
set_option maxHeartbeats 1000000 in
theorem contains_any (v : Value) (ls : List Atm) (a1 a2 a3 : Int) (w : World) (hl : Atms w v ls) (hn : ls.length ≤ 4000) :
    Calls Tryd.prog 41 #[v, .agg #[.int .i64 a1, .int .i64 a2, .int .i64 a3]] w fun e w' => e = .returned (.bool (decide (0 ≤ nmb ls (a1, a2, a3) 0))) ∧ Below w.heap.size w w' := by
  have CI : Hid (∀ w, Atms w v ls → Calls Tryd.prog 53 #[v, .agg #[.int .i64 a1, .int .i64 a2, .int .i64 a3]] w fun e w' => e = .returned (.int .i64 (nmb ls (a1, a2, a3) 0)) ∧ Below w.heap.size w w') := fun w h => index_any v ls a1 a2 a3 w h hn
  have h2 : Atms (w.alloc (.cells #[.int .i64 a1, .int .i64 a2, .int .i64 a3] 52)) v ls := hl.below (below_alloc _ _)
  obtain ⟨q, c, rfl⟩ := atms_shape hl
  clear hl
  generalize nmb ls (a1, a2, a3) 0 = NN at *
  go_enter Tryd.func41, Tryd.ntmps41
  go_wp2_with (go_at_call 53; refine (CI.out _ h2).mono ?_; rintro e w1 ⟨rfl, hb1⟩)
  go_ret
  exact ⟨rfl, (below_alloc w _).trans (hb1.mono (by simp))⟩
theorem uqs_snoc6 (ds : List Sym) (a : Atm) : uqs (ds ++ [(6, a)]) = if nmb (uqs ds) a 0 < 0 then uqs ds ++ [a] else uqs ds := by rw [uqs_snoc, addA, if_pos rfl]
theorem uqs_snocN (ds : List Sym) (y : Sym) (h : y.1 ≠ 6) : uqs (ds ++ [y]) = uqs ds := by rw [uqs_snoc, addA, if_neg h]

set_option maxRecDepth 100000 in
set_option maxHeartbeats 2000000 in
theorem catoms_any (v : Value) (ys : List Sym) (w : World) (hs : Syms w.heap.size w v ys) (hy : ys.length ≤ 4000) :
    Calls Tryd.prog 29 #[v] w fun e w' => ∃ u, e = .returned u ∧ w'.ownsRow w.heap.size 52 3 u (uqs ys).length (cells3 (uqs ys)) ∧ Below w.heap.size w w' := by
  obtain ⟨b, cap, rfl, hb, hcells⟩ := hs
  have HC : Hid _ := hcells
  clear hcells
  obtain ⟨i0, hi, hz0, hz1, hz2⟩ := info_parts Tryd.infoLA
  go_enter Tryd.func29, Tryd.ntmps29
  go_wp2_with fail
  go_loopw [3, 5, 8] (fun u s5 i wr => ∃ k : Nat, i = .int .i64 (k : Int) ∧ k ≤ ys.length ∧ wr.ownsRow w.heap.size 52 3 u (uqs (ys.take k)).length (cells3 (uqs (ys.take k))) ∧ Below w.heap.size w wr) (fun _ _ i _ => ys.length - (intOf i).toNat)
  case atStart => exact ⟨0, rfl, Nat.zero_le _, World.ownsRow_nil _ _ _ _, Below.refl _ _⟩
  case round =>
    obtain ⟨k, rfl, hk, hown, hbw⟩ := hrel
    by_cases hlt : k < ys.length
    · obtain ⟨⟨q, a1, a2, a3⟩, hx⟩ : ∃ x, ys[k]? = some x := ⟨_, List.getElem?_eq_getElem hlt⟩
      obtain ⟨z0, z1, z2, z3⟩ := HC.out k _ hx
      dsimp only at z0 z1 z2 z3
      have hul : (uqs (ys.take k)).length ≤ 4000 := by
        have := foldA_len (ys.take k) []
        unfold uqs; simp at this; omega
      have ht : ys.take (k + 1) = ys.take k ++ [(q, a1, a2, a3)] := by rw [List.take_add_one, hx]; rfl
      have y0 := (hbw.cell (p := ⟨b, k * 4, none⟩) hb).trans z0
      have y1 := (hbw.cell (p := ⟨b, k * 4 + 1, none⟩) hb).trans z1
      have y2 := (hbw.cell (p := ⟨b, k * 4 + 2, none⟩) hb).trans z2
      have y3 := (hbw.cell (p := ⟨b, k * 4 + 3, none⟩) hb).trans z3
      have hlt' : (k : Int) < (ys.length : Int) := by omega
      have hsz := hbw.size
      have hbx : Below w.heap.size w (wr.alloc (.cells #[.int .i64 q, .int .i64 a1, .int .i64 a2, .int .i64 a3] 54)) := hbw.alloc hsz _
      have hox := hown.alloc (.cells #[.int .i64 q, .int .i64 a1, .int .i64 a2, .int .i64 a3] 54)
      have hat : Atms (wr.alloc (.cells #[.int .i64 q, .int .i64 a1, .int .i64 a2, .int .i64 a3] 54)) u3 (uqs (ys.take k)) := own_latms hox
      have HOX : Hid _ := hox
      have HBX : Hid _ := hbx
      have HT : Hid (ys.take (k + 1) = ys.take k ++ [(q, a1, a2, a3)]) := ht
      clear z0 z1 z2 z3 hx ht hown hbw hox hbx
      by_cases h6 : q = 6
      · subst h6
        have HU : Hid (uqs (ys.take (k + 1)) = if nmb (uqs (ys.take k)) (a1, a2, a3) 0 < 0 then uqs (ys.take k) ++ [(a1, a2, a3)] else uqs (ys.take k)) := by show _ = _; rw [HT.out, uqs_snoc6]
        generalize hU : uqs (ys.take k) = U at *
        have CN : Hid (∀ w, Atms w u3 U → Calls Tryd.prog 41 #[u3, .agg #[.int .i64 a1, .int .i64 a2, .int .i64 a3]] w fun e w' => e = .returned (.bool (decide (0 ≤ nmb U (a1, a2, a3) 0))) ∧ Below w.heap.size w w') := fun w h => contains_any u3 U a1 a2 a3 w h hul
        obtain ⟨qa, qc, eu⟩ := atms_shape hat
        subst eu
        clear hU
        have m0 : ∀ w2, Below (wr.heap.size + 1) (wr.alloc (.cells #[.int .i64 6, .int .i64 a1, .int .i64 a2, .int .i64 a3] 54)) w2 → w2.cell? ⟨wr.heap.size, 1, none⟩ = some (.int .i64 a1) ∧ w2.cell? ⟨wr.heap.size, 2, none⟩ = some (.int .i64 a2) ∧ w2.cell? ⟨wr.heap.size, 3, none⟩ = some (.int .i64 a3) := fun w2 h => ⟨(h.cell (p := ⟨wr.heap.size, 1, none⟩) (by simp)).trans (by simp), (h.cell (p := ⟨wr.heap.size, 2, none⟩) (by simp)).trans (by simp), (h.cell (p := ⟨wr.heap.size, 3, none⟩) (by simp)).trans (by simp)⟩
        have M0 : Hid _ := m0
        clear m0
        by_cases hneg : nmb U (a1, a2, a3) 0 < 0
        · have HU2 : Hid (uqs (ys.take (k + 1)) = U ++ [(a1, a2, a3)]) := by show _ = _; rw [HU.out, if_pos hneg]
          have hd : decide (0 ≤ nmb U (a1, a2, a3) 0) = false := decide_eq_false (by omega)
          rw [hd] at CN
          clear HU hd hneg
          go_wp2_with (first
            | (go_at_call 41; refine (CN.out _ hat).mono ?_; rintro e w2 ⟨rfl, hb2⟩; obtain ⟨n1, n2, n3⟩ := M0.out w2 (by simpa using hb2); have hw12 : wr.heap.size < w2.heap.size := (by have := hb2.size; simp at this; omega))
            | (at_builtin; refine wpList_append_own _ rfl _ _ 71 rfl w.heap.size 52 i0 (.agg #[.int .i64 0, .int .i64 0, .int .i64 0]) 3 24 Tryd.underlying71 hi hz0 hz1 hz2 rfl (by decide) _ _ _ rfl ((ownsRow_below HOX.out hb2).alloc _) ⟨w2.heap.size, 0, none⟩ 1 1 [.int .i64 a1, .int .i64 a2, .int .i64 a3] rfl rfl (three_new _ _ rfl _ _ _ _) (one_iii _ _ _) (by unfold maxLen; omega) (by omega) (by simp; omega) ?_))
          intro v' w3 hown3 hgrow _
          have hbb : Below w.heap.size w w2 := HBX.out.trans (hb2.mono (by simp; omega))
          have hb3 := (hbb.alloc hbb.size _).grown hgrow (by have := hbb.size; simp; omega) (own_block HOX.out)
          have HO3 : Hid _ := hown3
          have HB3 : Hid _ := hb3
          clear hgrow n1 n2 n3 hown3 hb3
          go_wp2_with fail
          go_roundw
          case rel => exact ⟨k + 1, by go_num, by omega, by rw [HU2.out, cells3_snoc, List.length_append]; exact HO3.out, HB3.out⟩
          case measure => simp [intOf]; omega
        · have HU2 : Hid (uqs (ys.take (k + 1)) = U) := by show _ = _; rw [HU.out, if_neg hneg]
          have hd : decide (0 ≤ nmb U (a1, a2, a3) 0) = true := decide_eq_true (by omega)
          rw [hd] at CN
          clear HU hd hneg
          go_wp2_with (go_at_call 41; refine (CN.out _ hat).mono ?_; rintro e w2 ⟨rfl, hb2⟩; obtain ⟨n1, n2, n3⟩ := M0.out w2 (by simpa using hb2))
          have hbb : Below w.heap.size w w2 := HBX.out.trans (hb2.mono (by simp; omega))
          go_roundw
          case rel => exact ⟨k + 1, by go_num, by omega, by rw [HU2.out]; exact ownsRow_below HOX.out hb2, hbb⟩
          case measure => simp [intOf]; omega
      · have HU2 : Hid (uqs (ys.take (k + 1)) = uqs (ys.take k)) := by show _ = _; rw [HT.out, uqs_snocN _ _ h6]
        have hq6 : (q == 6) = false := by simpa using h6
        go_wp2_with fail
        go_roundw
        case rel => exact ⟨k + 1, by go_num, by omega, by rw [HU2.out]; exact HOX.out, HBX.out⟩
        case measure => simp [intOf]; omega
    · have hke : k = ys.length := by omega
      subst hke
      rw [List.take_length] at hown
      have hlt' : ¬ ((ys.length : Nat) : Int) < (ys.length : Int) := by omega
      go_wp2_with fail
      go_ret
      exact ⟨_, rfl, hown, hbw⟩
end Go.Proofs.YtkinoehmcfhgbaaDoor.Vl
