/-
  The walk of the document's goes.
  The walk of the document's goes at a question.
  The walk of the document's goes at a point.
  The document's goes, and its Confirm.
-/
import Derived.Test.YtkinoehmcfhgbaaGreatDoorT17
import Derived.Test.YtkinoehmcfhgbaaGreatDoorT9
import Derived.Test.YtkinoehmcfhgbaaGreatDoorV15
set_option linter.unusedVariables false
set_option linter.unusedSimpArgs false
namespace Go.Proofs.YtkinoehmcfhgbaaGreatDoor.Vl
open Go.RowKit

theorem DS.put {w0 w : World} {b gb : Nat} {q : Option Addr} {cap : Nat} {us : List Atm} {s P : ByteArray} {k : Nat} {bad : Bool} {bs : List Int} (h : DS w0 w b gb q cap us s P k bad bs) (n : Nat) (x : Int) : DS w0 (w.setCell ⟨gb, n, none⟩ (.int .i64 x)) b gb q cap us s P k bad (bs.set n x) := by
  have hg : w.grownBy (w.setCell ⟨gb, n, none⟩ (.int .i64 x)) (some gb) := grown_cell _ _ _ _
  refine ⟨h.c.fr (.of_m hg), (hg.block b h.lt (fun e => h.c.hbm (by injection e))).trans h.lk, ?_, by simp [h.bl], Nat.lt_of_lt_of_le h.gl hg.size⟩
  have := own_set h.by' n (iv x)
  rw [← List.map_set] at this
  exact this
/-- How a look at a part of a proof ends, as the document goes. -/
def GoP (w0 w' : World) (b gb : Nat) (q : Option Addr) (cap : Nat) (us : List Atm) (s P : ByteArray) (f : Atm → Int) (res : Option (List UInt8)) : Prop := ∃ k' bad' bs', DS w0 w' b gb q cap us s P k' bad' bs' ∧
      ((∃ r, res = some r ∧ bad' = false ∧ bs' = byl us f ∧ k' ≤ P.size ∧ rest P k' = r) ∨ (res = none ∧ bad' = true))
section
variable {w0 w w' : World} {b gb : Nat} {q : Option Addr} {cap : Nat} {us : List Atm} {s P : ByteArray} {f : Atm → Int} {res : Option (List UInt8)} {k k' : Nat} {bs : List Int}
theorem GoP.ok {r : List UInt8} (h : DS w0 w' b gb q cap us s P k' false (byl us f)) (h1 : res = some r) (h3 : k' ≤ P.size) (h4 : rest P k' = r) : GoP w0 w' b gb q cap us s P f res := ⟨k', false, _, h, Or.inl ⟨r, h1, rfl, rfl, h3, h4⟩⟩
theorem GoP.no (h : DS w0 w' b gb q cap us s P k' true bs) (h1 : res = none) : GoP w0 w' b gb q cap us s P f res := ⟨k', true, bs, h, Or.inr ⟨h1, rfl⟩⟩

set_option maxRecDepth 100000 in
set_option maxHeartbeats 2000000 in
theorem goes_bad (h : DS w0 w b gb q cap us s P k true bs) :
    Calls Tryz.prog 84 #[.pointer (some ⟨b, 0, none⟩)] w fun e w' => e = .returned (.tuple #[]) ∧ FrK b gb w w' ∧ DS w0 w' b gb q cap us s P k true bs := by
  obtain ⟨c0, c1, c2, c3, c4, c5⟩ := h.lk.cells
  have f5 := h.lk.free 5
  have HD : Hid (DS w0 w b gb q cap us s P k true bs) := h
  clear h
  go_enter Tryz.func84, Tryz.ntmps84
  go_wp2_with fail
  go_region
  go_wp2_with fail
  exact bodyPost_ret (results_none rfl _ _ _) rfl ⟨rfl, (FrK.of_below (Below.refl _ _).drew).trans (.of_b (grown_cell _ _ _ _)), (HD.out.below (Below.refl _ _).drew).read (grown_cell _ _ _ _) ((HD.out.below (Below.refl _ _).drew).lk.spoil true)⟩
end
theorem spl_no {us : List Atm} {ys : List Sym} {k : Nat} {f : Atm → Int} {l : List UInt8} (h : ∀ n r, fig us.length l ≠ some (n, 58 :: r)) : spl us ys k f l = none := by
  unfold spl
  split
  · rfl
  · rfl
  · rename_i n d r1 hf
    rw [if_neg]
    rintro ⟨_, rfl⟩
    exact h n r1 hf
theorem spl_yes {us : List Atm} {ys : List Sym} {k : Nat} {f : Atm → Int} {l r : List UInt8} {n : Nat} (h : fig us.length l = some (n, 58 :: r)) : spl us ys k f l = if f (us.getD n (0, 0, 0)) = 0 then
      (match chk us ys k (putA f (us.getD n (0, 0, 0)) 1) r with
      | none => none
      | some r2 => chk us ys k (putA f (us.getD n (0, 0, 0)) 2) r2) else none := by
  unfold spl
  rw [h]
  by_cases hf : f (us.getD n (0, 0, 0)) = 0
  · rw [if_pos hf]; dsimp only; rw [if_pos ⟨hf, rfl⟩]; rfl
  · rw [if_neg hf]; dsimp only; rw [if_neg (fun e => hf e.1)]
theorem chk_else {us : List Atm} {ys : List Sym} {k : Nat} {f : Atm → Int} {c : UInt8} {r : List UInt8} (h1 : c ≠ 46) (h2 : c ≠ 33) (h3 : c ≠ 63) : chk us ys (k + 1) f (c :: r) = none := by simp [chk, h1, h2, h3]
theorem worth_chk {s : ByteArray} {ys : List Sym} {f : Atm → Int} (hf : ∀ a, T3 (f a)) (hp : pars s = some ys) : ((wrun (uqs ys) (byl (uqs ys) f) ys).headD 0 = 1) ↔ ((trun f ys).headD 0 = 1) := by
  obtain ⟨t, h1, h2, h3⟩ := worth_trun (kn := f) hf hp (byl (uqs ys) f) (fun a ha => by
    have hg := nmb_get (uqs ys) a 0 ha
    rw [Int.sub_zero] at hg
    unfold byl
    rw [List.getD_eq_getElem?_getD, List.getElem?_map, hg]; rfl)
  rw [h2, h3]
  show dt t = 1 ↔ t = 1
  rcases h1 with rfl | rfl | rfl <;> simp [dt]
theorem u8_ne {c d : UInt8} (h : c ≠ d) : ((c.toNat : Int) == (d.toNat : Int)) = false := by
  rw [beq_eq_false_iff_ne]; intro e
  exact h (UInt8.toNat_inj.1 (by have := Int.ofNat.inj e; exact this))

set_option maxRecDepth 100000 in
set_option maxHeartbeats 16000000 in
theorem goes_bang {w0 : World} {b gb : Nat} {q : Option Addr} {cap : Nat} {us : List Atm} {s P : ByteArray} {ys : List Sym} {f : Atm → Int} (hp : pars s = some ys) (hus : us = uqs ys) (W : World) (kk k : Nat) (h : DS w0 W b gb q cap us s P k false (byl us f)) (hP : P.size ≤ 200000) (hk : k ≤ P.size) (hf3 : ∀ a, T3 (f a)) (hlt : k < P.size) (h46 : P[k] ≠ 46) (h33 : P[k] = 33) :
    Calls Tryz.prog 84 #[.pointer (some ⟨b, 0, none⟩)] W fun e w' => e = .returned (.tuple #[]) ∧ FrK b gb W w' ∧ GoP w0 w' b gb q cap us s P f (chk us ys (kk + 1) f (rest P k)) := by
  obtain ⟨hs4, hprs, hul, hok⟩ := pars_facts hp
  rw [← hus] at hul hok
  have hnd : us.Nodup := by rw [hus]; exact uqs_nodup ys
  have HD : Hid (DS w0 W b gb q cap us s P k false (byl us f)) := h
  obtain ⟨c0, c1, c2, c3, c4, c5⟩ := h.lk.cells
  have f5 := h.lk.free 5
  have f4 := h.lk.free 4
  have hbW := h.lt
  have hgW := h.gl
  clear h
  have hlt' : (k : Int) < (P.size : Int) := by omega
  have hge : decide ((P.size : Int) ≤ (k : Int)) = false := decide_eq_false (by omega)
  have eR := rest_cons P k hlt
  have HK1 : Hid (DS w0 (W.setCell ⟨b, 4, none⟩ (.int .i64 ((k : Int) + 1))).drew.drew b gb q cap us s P (k + 1) false (byl us f)) := ((HD.out.read (grown_cell _ _ _ _) (HD.out.lk.goto (k + 1))).below (Below.refl _ _).drew).below (Below.refl _ _).drew
  have HF1 : Hid (FrK b gb W (W.setCell ⟨b, 4, none⟩ (.int .i64 ((k : Int) + 1))).drew.drew) := ((FrK.of_b (grown_cell _ _ _ _)).trans (.of_below (Below.refl _ _).drew)).trans (.of_below (Below.refl _ _).drew)
  have g1 : ((P[k].toNat : Int) == 46) = false := u8_ne (d := 46) h46
  have g2 : ((P[k].toNat : Int) == 33) = true := by rw [h33]; rfl
  have HC : Hid (chk us ys (kk + 1) f (rest P k) = (match lks us f ((rest P (k + 1)).length + 1) (rest P (k + 1)) with | some (ats, r') => if cyc ats then some r' else none | none => none)) := by show _ = _; rw [eR, h33]; exact chk_bang _ _ _ _ _
  have CY : Hid (∀ X, DS w0 X b gb q cap us s P (k + 1) false (byl us f) → Calls Tryz.prog 120 #[.pointer (some ⟨b, 0, none⟩)] X fun e w' => e = .returned (.tuple #[]) ∧ FrK b gb X w' ∧ CyP w0 w' b gb q cap us s P f (lks us f ((rest P (k + 1)).length + 1) (rest P (k + 1)))) := fun X hX => dcycle_any X (k + 1) hX hP (by omega) hul hok hf3
  clear eR h46 h33
  generalize lks us f ((rest P (k + 1)).length + 1) (rest P (k + 1)) = LK at *
  generalize chk us ys (kk + 1) f (rest P k) = CK at *
  go_enter Tryz.func84, Tryz.ntmps84
  go_wp2_with fail
  go_region
  go_wp2_with fail
  go_region
  go_wp2_with fail
  generalize (W.setCell ⟨b, 4, none⟩ (.int .i64 ((k : Int) + 1))).drew.drew = X1 at *
  refine Calls.mono (CY.out _ HK1.out) ?_
  rintro e w2 ⟨rfl, hF2, hcy⟩
  have HCY : Hid _ := hcy
  have HF2 : Hid (FrK b gb W w2) := HF1.out.trans hF2
  clear hcy hF2
  go_wp2_with fail
  go_end0
  refine ⟨rfl, HF2.out, ?_⟩
  obtain ⟨k', bad', hDS, hcs⟩ := HCY.out
  rcases hcs with ⟨ats, r, h1, h2, rfl, h4, h5⟩ | ⟨rfl, h1⟩
  · exact GoP.ok hDS (by rw [HC.out, h1]; simp [h2]) h4 h5
  · refine GoP.no hDS ?_
    rw [HC.out]
    cases hL : LK with
    | none => rfl
    | some x => obtain ⟨ats, r⟩ := x; simp [h1 ats r hL]

set_option maxRecDepth 100000 in
set_option maxHeartbeats 16000000 in
theorem goes_else {w0 : World} {b gb : Nat} {q : Option Addr} {cap : Nat} {us : List Atm} {s P : ByteArray} {ys : List Sym} {f : Atm → Int} (hp : pars s = some ys) (hus : us = uqs ys) (W : World) (kk k : Nat) (h : DS w0 W b gb q cap us s P k false (byl us f)) (hP : P.size ≤ 200000) (hk : k ≤ P.size) (hf3 : ∀ a, T3 (f a)) (hlt : k < P.size) (h46 : P[k] ≠ 46) (h33 : P[k] ≠ 33) (h63 : P[k] ≠ 63) :
    Calls Tryz.prog 84 #[.pointer (some ⟨b, 0, none⟩)] W fun e w' => e = .returned (.tuple #[]) ∧ FrK b gb W w' ∧ GoP w0 w' b gb q cap us s P f (chk us ys (kk + 1) f (rest P k)) := by
  obtain ⟨hs4, hprs, hul, hok⟩ := pars_facts hp
  rw [← hus] at hul hok
  have hnd : us.Nodup := by rw [hus]; exact uqs_nodup ys
  have HD : Hid (DS w0 W b gb q cap us s P k false (byl us f)) := h
  obtain ⟨c0, c1, c2, c3, c4, c5⟩ := h.lk.cells
  have f5 := h.lk.free 5
  have f4 := h.lk.free 4
  have hbW := h.lt
  have hgW := h.gl
  clear h
  have hlt' : (k : Int) < (P.size : Int) := by omega
  have hge : decide ((P.size : Int) ≤ (k : Int)) = false := decide_eq_false (by omega)
  have eR := rest_cons P k hlt
  have HK1 : Hid (DS w0 (W.setCell ⟨b, 4, none⟩ (.int .i64 ((k : Int) + 1))).drew.drew b gb q cap us s P (k + 1) false (byl us f)) := ((HD.out.read (grown_cell _ _ _ _) (HD.out.lk.goto (k + 1))).below (Below.refl _ _).drew).below (Below.refl _ _).drew
  have HF1 : Hid (FrK b gb W (W.setCell ⟨b, 4, none⟩ (.int .i64 ((k : Int) + 1))).drew.drew) := ((FrK.of_b (grown_cell _ _ _ _)).trans (.of_below (Below.refl _ _).drew)).trans (.of_below (Below.refl _ _).drew)
  have g1 : ((P[k].toNat : Int) == 46) = false := u8_ne (d := 46) h46
  have g2 : ((P[k].toNat : Int) == 33) = false := u8_ne (d := 33) h33
  have g3 : ((P[k].toNat : Int) == 63) = false := u8_ne (d := 63) h63
  have HC : Hid (chk us ys (kk + 1) f (rest P k) = none) := by show _ = _; rw [eR]; exact chk_else h46 h33 h63
  clear eR h46 h33 h63
  go_enter Tryz.func84, Tryz.ntmps84
  go_wp2_with fail
  go_region
  go_wp2_with fail
  go_region
  go_wp2_with fail
  go_end0
  exact ⟨rfl, HF1.out.trans (.of_b (grown_cell _ _ _ _)), GoP.no (HK1.out.read (grown_cell _ _ _ _) (HK1.out.lk.spoil true)) HC.out⟩

set_option maxRecDepth 100000 in
set_option maxHeartbeats 16000000 in
theorem goes_end {w0 : World} {b gb : Nat} {q : Option Addr} {cap : Nat} {us : List Atm} {s P : ByteArray} {ys : List Sym} {f : Atm → Int} (hp : pars s = some ys) (hus : us = uqs ys) (W : World) (kk k : Nat) (h : DS w0 W b gb q cap us s P k false (byl us f)) (hP : P.size ≤ 200000) (hk : k ≤ P.size) (hf3 : ∀ a, T3 (f a)) (hlt : ¬ k < P.size) :
    Calls Tryz.prog 84 #[.pointer (some ⟨b, 0, none⟩)] W fun e w' => e = .returned (.tuple #[]) ∧ FrK b gb W w' ∧ GoP w0 w' b gb q cap us s P f (chk us ys (kk + 1) f (rest P k)) := by
  obtain ⟨hs4, hprs, hul, hok⟩ := pars_facts hp
  rw [← hus] at hul hok
  have hnd : us.Nodup := by rw [hus]; exact uqs_nodup ys
  have HD : Hid (DS w0 W b gb q cap us s P k false (byl us f)) := h
  obtain ⟨c0, c1, c2, c3, c4, c5⟩ := h.lk.cells
  have f5 := h.lk.free 5
  have f4 := h.lk.free 4
  have hbW := h.lt
  have hgW := h.gl
  clear h
  have hge : decide ((P.size : Int) ≤ (k : Int)) = true := decide_eq_true (by omega)
  have HC : Hid (chk us ys (kk + 1) f (rest P k) = none) := by show _ = _; rw [rest_end P k (by omega)]; rfl
  go_enter Tryz.func84, Tryz.ntmps84
  go_wp2_with fail
  go_region
  go_wp2_with fail
  exact bodyPost_ret (results_none rfl _ _ _) rfl ⟨rfl, (FrK.of_below (Below.refl _ _).drew).trans (.of_b (grown_cell _ _ _ _)), GoP.no ((HD.out.below (Below.refl _ _).drew).read (grown_cell _ _ _ _) ((HD.out.below (Below.refl _ _).drew).lk.spoil true)) HC.out⟩

end Go.Proofs.YtkinoehmcfhgbaaGreatDoor.Vl
set_option linter.unusedVariables false
set_option linter.unusedSimpArgs false
namespace Go.Proofs.YtkinoehmcfhgbaaGreatDoor.Vl
open Go.RowKit

set_option maxRecDepth 100000 in
set_option maxHeartbeats 16000000 in
theorem goes_ask {w0 : World} {b gb : Nat} {q : Option Addr} {cap : Nat} {us : List Atm} {s P : ByteArray} {ys : List Sym} {f : Atm → Int} (hp : pars s = some ys) (hus : us = uqs ys) (W : World) (kk k : Nat) (h : DS w0 W b gb q cap us s P k false (byl us f)) (hP : P.size ≤ 200000) (hk : k ≤ P.size) (hf3 : ∀ a, T3 (f a)) (hlt : k < P.size) (h63 : P[k] = 63)
    (IH : ∀ (X : World) (k2 : Nat) (g : Atm → Int), (∀ a, T3 (g a)) → k2 ≤ P.size → k < k2 → DS w0 X b gb q cap us s P k2 false (byl us g) → Calls Tryz.prog 84 #[.pointer (some ⟨b, 0, none⟩)] X fun e w' => e = .returned (.tuple #[]) ∧ FrK b gb X w' ∧ GoP w0 w' b gb q cap us s P g (chk us ys kk g (rest P k2))) :
    Calls Tryz.prog 84 #[.pointer (some ⟨b, 0, none⟩)] W fun e w' => e = .returned (.tuple #[]) ∧ FrK b gb W w' ∧ GoP w0 w' b gb q cap us s P f (chk us ys (kk + 1) f (rest P k)) := by
  obtain ⟨hs4, hprs, hul, hok⟩ := pars_facts hp
  rw [← hus] at hul hok
  have hnd : us.Nodup := by rw [hus]; exact uqs_nodup ys
  have HIH : Hid _ := IH
  clear IH
  have HD : Hid (DS w0 W b gb q cap us s P k false (byl us f)) := h
  obtain ⟨c0, c1, c2, c3, c4, c5⟩ := h.lk.cells
  have f5 := h.lk.free 5
  have f4 := h.lk.free 4
  have hbW := h.lt
  have hgW := h.gl
  clear h
  have hlt' : (k : Int) < (P.size : Int) := by omega
  have hge : decide ((P.size : Int) ≤ (k : Int)) = false := decide_eq_false (by omega)
  have eR := rest_cons P k hlt
  have HK1 : Hid (DS w0 (W.setCell ⟨b, 4, none⟩ (.int .i64 ((k : Int) + 1))).drew.drew b gb q cap us s P (k + 1) false (byl us f)) := ((HD.out.read (grown_cell _ _ _ _) (HD.out.lk.goto (k + 1))).below (Below.refl _ _).drew).below (Below.refl _ _).drew
  have HF1 : Hid (FrK b gb W (W.setCell ⟨b, 4, none⟩ (.int .i64 ((k : Int) + 1))).drew.drew) := ((FrK.of_b (grown_cell _ _ _ _)).trans (.of_below (Below.refl _ _).drew)).trans (.of_below (Below.refl _ _).drew)
  have g1 : ((P[k].toNat : Int) == 46) = false := by rw [h63]; rfl
  have g2 : ((P[k].toNat : Int) == 33) = false := by rw [h63]; rfl
  have g3 : ((P[k].toNat : Int) == 63) = true := by rw [h63]; rfl
  have HC : Hid (chk us ys (kk + 1) f (rest P k) = spl us ys kk f (rest P (k + 1))) := by show _ = _; rw [eR, h63]; exact chk_ask _ _ _ _ _
  have CF : Hid (∀ X, DS w0 X b gb q cap us s P (k + 1) false (byl us f) → _) := fun X hX => figure_any X b (k + 1) us.length cap s P q (.slice (some ⟨gb, 0, none⟩) us.length us.length) 58 hP (by omega) hul hX.lk
  clear eR h63 hus hp hprs
  generalize chk us ys (kk + 1) f (rest P k) = CK at *
  go_enter Tryz.func84, Tryz.ntmps84
  go_wp2_with fail
  go_region
  go_wp2_with fail
  go_region
  go_wp2_with fail
  generalize (W.setCell ⟨b, 4, none⟩ (.int .i64 ((k : Int) + 1))).drew.drew = X1 at *
  refine Calls.mono (CF.out _ HK1.out) ?_
  rintro e w1 ⟨hg1, hcs⟩
  have HF2 : Hid (FrK b gb W w1) := HF1.out.trans (.of_b hg1)
  rcases hcs with ⟨n, r, hfg, hr, rfl, hlk⟩ | ⟨hno, rfl, k', hlk⟩
  · have hD3 := DS.read HK1.out hg1 hlk
    have HD3 : Hid (DS w0 w1 b gb q cap us s P (k + 1 + dlen (rest P (k + 1)) + 1) false (byl us f)) := hD3
    obtain ⟨d0, d1, d2, d3, d4, d5⟩ := hD3.lk.cells
    have z5 := hD3.lk.free 5
    have hnl := (fig_lt hfg).1
    have hrd := (fig_lt hfg).2.1
    have hnx : k + 1 + dlen (rest P (k + 1)) + 1 ≤ P.size := by
      have h1 : (58 :: r).length ≤ (rest P (k + 1)).length - dlen (rest P (k + 1)) := by rw [hrd, List.length_drop]; exact Nat.le_refl _
      rw [rest_len] at h1
      simp only [List.length_cons] at h1
      omega
    obtain ⟨g, cap', hgv, hg1', hg2, hg3, hg4, hg5, hg6⟩ := own_facts hD3.by' (by omega)
    cases hgv
    have hbn : (byl us f)[n]? = some (dt (f (us.getD n (0, 0, 0)))) := by
      unfold byl
      rw [List.getElem?_map, List.getElem?_eq_getElem hnl, List.getD_eq_getElem?_getD, List.getElem?_eq_getElem hnl]; rfl
    have hcell := hg5 n (iv (dt (f (us.getD n (0, 0, 0))))) (by rw [List.getElem?_map, hbn]; rfl)
    have hfz := hg6 n
    have hlt2 : (n : Int) < (us.length : Int) := by omega
    have HSP : Hid (CK = if f (us.getD n (0, 0, 0)) = 0 then (match chk us ys kk (putA f (us.getD n (0, 0, 0)) 1) r with | none => none | some r2 => chk us ys kk (putA f (us.getD n (0, 0, 0)) 2) r2) else none) := by show _ = _; rw [HC.out]; exact spl_yes hfg
    have HBS : Hid (∀ (g : Atm → Int) (t : Int), (byl us g).set n (dt t) = byl us (putA g (us.getD n (0, 0, 0)) t)) := fun g t => byl_set hnd g n hnl t
    have HR : Hid (r = rest P (k + 1 + dlen (rest P (k + 1)) + 1)) := hr
    unfold iv at hcell
    generalize us.getD n (0, 0, 0) = a at *
    have hT := hf3 a
    clear hrd hfg hbn hD3 hg5 hg6 hr hlk CF HC
    by_cases hF0 : f a = 0
    · have hcell' : w1.cell? ⟨gb, n, none⟩ = some (.int .i64 2) := by rw [hF0] at hcell; exact hcell
      have HS2 : Hid (CK = (match chk us ys kk (putA f a 1) r with | none => none | some r2 => chk us ys kk (putA f a 2) r2)) := by show _ = _; rw [HSP.out, if_pos hF0]
      have HF0 : Hid (f a = 0) := hF0
      have HP1 : Hid (DS w0 (w1.setCell ⟨gb, n, none⟩ (.int .i64 1)) b gb q cap us s P (k + 1 + dlen (rest P (k + 1)) + 1) false (byl us (putA f a 1))) := by
        have := HD3.out.put n 1
        rw [show (1 : Int) = dt 1 from rfl, HBS.out f 1] at this
        exact this
      have HFP : Hid (FrK b gb W (w1.setCell ⟨gb, n, none⟩ (.int .i64 1))) := HF2.out.trans (.of_m (grown_cell _ _ _ _))
      clear hcell hT HSP hF0
      go_wp2_with fail
      refine Calls.mono (HIH.out _ _ (putA f a 1) (putA3 hf3 a (Or.inr (Or.inl rfl))) hnx (by omega) HP1.out) ?_
      rintro e w2 ⟨rfl, hF3, hgp⟩
      have HF3 : Hid (FrK b gb W w2) := HFP.out.trans hF3
      obtain ⟨k1, bad1, bs1, hD4, hcs⟩ := hgp
      have HD4 : Hid (DS w0 w2 b gb q cap us s P k1 bad1 bs1) := hD4
      obtain ⟨x0, x1, x2, x3, x4, x5⟩ := hD4.lk.cells
      obtain ⟨g', cap2, hgv2, _, hh2, _, _, hh5, hh6⟩ := own_facts hD4.by' (by omega)
      cases hgv2
      have hbl : n < (bs1.map iv).length := by simp [hD4.bl]; omega
      have y1 := hh5 n _ (List.getElem?_eq_getElem hbl)
      have y2 := hh6 n
      clear hh5 hh6 hD4 hF3
      rcases hcs with ⟨r2, hc1, rfl, rfl, hk1, hrk⟩ | ⟨hc1, rfl⟩
      · have HP2 : Hid (DS w0 (w2.setCell ⟨gb, n, none⟩ (.int .i64 0)) b gb q cap us s P k1 false (byl us (putA f a 2))) := by
          have := HD4.out.put n 0
          rw [show (0 : Int) = dt 2 from rfl, HBS.out (putA f a 1) 2, putA_again] at this
          exact this
        have HFQ : Hid (FrK b gb W (w2.setCell ⟨gb, n, none⟩ (.int .i64 0))) := HF3.out.trans (.of_m (grown_cell _ _ _ _))
        have hkk1 : k < k1 := by
          have h1 := chk_len kk _ _ _ hc1
          rw [← hrk, rest_len, rest_len] at h1
          omega
        rw [← HR.out] at hc1
        have HS3 : Hid (CK = chk us ys kk (putA f a 2) (rest P k1)) := by show _ = _; rw [HS2.out, hc1, hrk]
        clear hc1 hrk
        go_wp2_with fail
        refine Calls.mono (HIH.out _ k1 (putA f a 2) (putA3 hf3 a (Or.inr (Or.inr rfl))) hk1 hkk1 HP2.out) ?_
        rintro e w3 ⟨rfl, hF4, hgp⟩
        have HF4 : Hid (FrK b gb W w3) := HFQ.out.trans hF4
        obtain ⟨k2, bad2, bs2, hD5, hcs⟩ := hgp
        have HD5 : Hid (DS w0 w3 b gb q cap us s P k2 bad2 bs2) := hD5
        obtain ⟨x0, x1, x2, x3, x4, x5⟩ := hD5.lk.cells
        obtain ⟨g', cap2, hgv2, _, hh2, _, _, hh5, hh6⟩ := own_facts hD5.by' (by omega)
        cases hgv2
        have hbl : n < (bs2.map iv).length := by simp [hD5.bl]; omega
        have y1 := hh5 n _ (List.getElem?_eq_getElem hbl)
        have y2 := hh6 n
        clear hh5 hh6 hD5 hF4
        have HCS : Hid _ := hcs
        clear hcs
        go_wp2_with fail
        go_end0
        refine ⟨rfl, HF4.out.trans (.of_m (grown_cell _ _ _ _)), ?_⟩
        rcases HCS.out with ⟨r3, hc2, rfl, rfl, hk2, hrk2⟩ | ⟨hc2, rfl⟩
        · have e : (byl us (putA f a 2)).set n 2 = byl us f := by
            have := HBS.out (putA f a 2) 0
            rw [putA_back HF0.out] at this
            exact this
          have := HD5.out.put n 2
          rw [e] at this
          exact GoP.ok this (HS3.out.trans hc2) hk2 hrk2
        · exact GoP.no (HD5.out.put n 2) (HS3.out.trans hc2)
      · rw [← HR.out] at hc1
        have HS3 : Hid (CK = none) := by show _ = _; rw [HS2.out, hc1]
        have HP2 : Hid (DS w0 (w2.setCell ⟨gb, n, none⟩ (.int .i64 0)) b gb q cap us s P k1 true (bs1.set n 0)) := HD4.out.put n 0
        have HFQ : Hid (FrK b gb W (w2.setCell ⟨gb, n, none⟩ (.int .i64 0))) := HF3.out.trans (.of_m (grown_cell _ _ _ _))
        clear hc1
        go_wp2_with fail
        refine Calls.mono (goes_bad HP2.out) ?_
        rintro e w3 ⟨rfl, hF4, hD5⟩
        have HF4 : Hid (FrK b gb W w3) := HFQ.out.trans hF4
        have HD5 : Hid (DS w0 w3 b gb q cap us s P k1 true (bs1.set n 0)) := hD5
        obtain ⟨x0, x1, x2, x3, x4, x5⟩ := hD5.lk.cells
        obtain ⟨g', cap2, hgv2, _, hh2, _, _, hh5, hh6⟩ := own_facts hD5.by' (by omega)
        cases hgv2
        have hbl : n < ((bs1.set n 0).map iv).length := by have := hD5.bl; simp only [List.length_map]; omega
        have y1 := hh5 n _ (List.getElem?_eq_getElem hbl)
        have y2 := hh6 n
        clear hh5 hh6 hD5 hF4
        go_wp2_with fail
        go_end0
        exact ⟨rfl, HF4.out.trans (.of_m (grown_cell _ _ _ _)), GoP.no (HD5.out.put n 2) HS3.out⟩
    · have HN : Hid (CK = none) := by show _ = _; rw [HSP.out, if_neg hF0]
      obtain ⟨D, hD, hne⟩ : ∃ D : Int, w1.cell? ⟨gb, n, none⟩ = some (.int .i64 D) ∧ (D != 2) = true := by
        refine ⟨dt (f a), hcell, ?_⟩
        rcases hT with hT | hT | hT
        · exact absurd hT hF0
        · rw [hT]; rfl
        · rw [hT]; rfl
      clear hcell hT HSP hF0
      go_wp2_with fail
      exact bodyPost_ret (results_none rfl _ _ _) rfl ⟨rfl, HF2.out.trans (.of_b (grown_cell _ _ _ _)), GoP.no (HD3.out.read (grown_cell _ _ _ _) (HD3.out.lk.spoil true)) HN.out⟩
  · obtain ⟨d0, d1, d2, d3, d4, d5⟩ := hlk.cells
    have z5 := hlk.free 5
    have HN : Hid (CK = none) := by show _ = _; rw [HC.out]; exact spl_no hno
    have HD3 : Hid (DS w0 w1 b gb q cap us s P k' true (byl us f)) := DS.read HK1.out hg1 hlk
    clear hno hlk CF
    go_wp2_with fail
    exact bodyPost_ret (results_none rfl _ _ _) rfl ⟨rfl, HF2.out.trans (.of_b (grown_cell _ _ _ _)), GoP.no (HD3.out.read (grown_cell _ _ _ _) (HD3.out.lk.spoil true)) HN.out⟩
end Go.Proofs.YtkinoehmcfhgbaaGreatDoor.Vl
set_option linter.unusedVariables false
set_option linter.unusedSimpArgs false
namespace Go.Proofs.YtkinoehmcfhgbaaGreatDoor.Vl
open Go.RowKit

set_option maxRecDepth 100000 in
set_option maxHeartbeats 16000000 in
theorem goes_dot {w0 : World} {b gb : Nat} {q : Option Addr} {cap : Nat} {us : List Atm} {s P : ByteArray} {ys : List Sym} {f : Atm → Int} (hp : pars s = some ys) (hus : us = uqs ys) (W : World) (kk k : Nat) (h : DS w0 W b gb q cap us s P k false (byl us f)) (hP : P.size ≤ 200000) (hk : k ≤ P.size) (hf3 : ∀ a, T3 (f a)) (hlt : k < P.size) (h46 : P[k] = 46) :
    Calls Tryz.prog 84 #[.pointer (some ⟨b, 0, none⟩)] W fun e w' => e = .returned (.tuple #[]) ∧ FrK b gb W w' ∧ GoP w0 w' b gb q cap us s P f (chk us ys (kk + 1) f (rest P k)) := by
  obtain ⟨hs4, hprs, hul, hok⟩ := pars_facts hp
  rw [← hus] at hul hok
  have hnd : us.Nodup := by rw [hus]; exact uqs_nodup ys
  have HD : Hid (DS w0 W b gb q cap us s P k false (byl us f)) := h
  obtain ⟨c0, c1, c2, c3, c4, c5⟩ := h.lk.cells
  have f5 := h.lk.free 5
  have f4 := h.lk.free 4
  have hbW := h.lt
  have hgW := h.gl
  clear h
  have hlt' : (k : Int) < (P.size : Int) := by omega
  have hge : decide ((P.size : Int) ≤ (k : Int)) = false := decide_eq_false (by omega)
  have eR := rest_cons P k hlt
  have HK1 : Hid (DS w0 (W.setCell ⟨b, 4, none⟩ (.int .i64 ((k : Int) + 1))).drew.drew b gb q cap us s P (k + 1) false (byl us f)) := ((HD.out.read (grown_cell _ _ _ _) (HD.out.lk.goto (k + 1))).below (Below.refl _ _).drew).below (Below.refl _ _).drew
  have HF1 : Hid (FrK b gb W (W.setCell ⟨b, 4, none⟩ (.int .i64 ((k : Int) + 1))).drew.drew) := ((FrK.of_b (grown_cell _ _ _ _)).trans (.of_below (Below.refl _ _).drew)).trans (.of_below (Below.refl _ _).drew)
  have g1 : ((P[k].toNat : Int) == 46) = true := by rw [h46]; rfl
  have HC : Hid (chk us ys (kk + 1) f (rest P k) = if (trun f ys).headD 0 = 1 then some (rest P (k + 1)) else none) := by show _ = _; rw [eR, h46]; exact chk_dot _ _ _ _ _
  have HW : Hid (((wrun us (byl us f) ys).headD 0 = 1) ↔ ((trun f ys).headD 0 = 1)) := by show _ ↔ _; rw [hus]; exact worth_chk hf3 hp
  have CW : Hid (∀ X, DS w0 X b gb q cap us s P (k + 1) false (byl us f) → Calls Tryz.prog 119 #[.string s, .slice q us.length cap, .slice (some ⟨gb, 0, none⟩) us.length us.length] X fun e w' => e = .returned (.int .i64 ((wrun us (byl us f) ys).headD 0)) ∧ Below X.heap.size X w') := fun X hX => worth_any s _ _ us (byl us f) ys X hs4 hprs hX.c.at' (own_ints (by rw [byl_len]; exact hX.by')) (byl_len _ _) hul byl_range (by rw [hus]; exact uqs_in ys)
  generalize (wrun us (byl us f) ys).headD 0 = WV at *
  clear eR h46 hus hp hprs hs4
  go_enter Tryz.func84, Tryz.ntmps84
  go_wp2_with fail
  go_region
  go_wp2_with fail
  go_region
  go_wp2_with fail
  generalize (W.setCell ⟨b, 4, none⟩ (.int .i64 ((k : Int) + 1))).drew.drew = X1 at *
  obtain ⟨d0, d1, d2, d3, d4, d5⟩ := HK1.out.lk.cells
  have hbX : b < X1.heap.size := HK1.out.lt
  have m0 : X1.drew.cell? ⟨b, 0, none⟩ = some (.string s) := d0
  have m1 : X1.drew.cell? ⟨b, 1, none⟩ = some (.slice q us.length cap) := d1
  have m2 : X1.drew.cell? ⟨b, 2, none⟩ = some (.slice (some ⟨gb, 0, none⟩) us.length us.length) := d2
  have HK2 : Hid (DS w0 X1.drew b gb q cap us s P (k + 1) false (byl us f)) := HK1.out.below (Below.refl _ _).drew
  have HF2 : Hid (FrK b gb W X1.drew) := HF1.out.trans (.of_below (Below.refl _ _).drew)
  clear c0 c1 c2 c3 c4 c5 f4 f5 d3 d4 d5 d0 d1 d2 hge g1 hok hnd hf3 HD
  go_region_held3 (fun X => X.cell? ⟨b, 0, none⟩ = some (.string s) ∧ X.cell? ⟨b, 1, none⟩ = some (.slice q us.length cap) ∧ X.cell? ⟨b, 2, none⟩ = some (.slice (some ⟨gb, 0, none⟩) us.length us.length)) ((first | exact ⟨m0, m1, m2⟩ | exact ⟨m0', m1', m2'⟩)) (first | (go_at_call 119; refine Calls.mono (CW.out _ HK2.out) ?_; rintro e w2 ⟨rfl, hb2⟩; have m0' : w2.cell? ⟨b, 0, none⟩ = some (.string s) := (hb2.cell (p := ⟨b, 0, none⟩) hbX).trans m0; have m1' : w2.cell? ⟨b, 1, none⟩ = some (.slice q us.length cap) := (hb2.cell (p := ⟨b, 1, none⟩) hbX).trans m1; have m2' : w2.cell? ⟨b, 2, none⟩ = some (.slice (some ⟨gb, 0, none⟩) us.length us.length) := (hb2.cell (p := ⟨b, 2, none⟩) hbX).trans m2))
  have HK3 : Hid (DS w0 w2 b gb q cap us s P (k + 1) false (byl us f)) := HK2.out.below hb2
  have HF3 : Hid (FrK b gb W w2) := HF2.out.trans (.of_below hb2)
  have f5 := HK3.out.lk.free 5
  have d5 := HK3.out.lk.cells.2.2.2.2.2
  clear m0 m1 m2 m0' m1' m2'
  by_cases hv1 : WV = 1
  · have hv2 : (WV != 1) = false := by simp [hv1]
    have HC2 : Hid (chk us ys (kk + 1) f (rest P k) = some (rest P (k + 1))) := by show _ = _; rw [HC.out, if_pos (HW.out.1 hv1)]
    go_wp2_with fail
    go_end0
    exact ⟨rfl, HF3.out.trans (.of_b (grown_cell _ _ _ _)), GoP.ok (HK3.out.read (grown_cell _ _ _ _) (HK3.out.lk.spoil false)) HC2.out (by omega) rfl⟩
  · have hv2 : (WV != 1) = true := by simp [hv1]
    have HC2 : Hid (chk us ys (kk + 1) f (rest P k) = none) := by show _ = _; rw [HC.out, if_neg (fun e => hv1 (HW.out.2 e))]
    go_wp2_with fail
    go_end0
    exact ⟨rfl, HF3.out.trans (.of_b (grown_cell _ _ _ _)), GoP.no (HK3.out.read (grown_cell _ _ _ _) (HK3.out.lk.spoil true)) HC2.out⟩

end Go.Proofs.YtkinoehmcfhgbaaGreatDoor.Vl
set_option linter.unusedVariables false
set_option linter.unusedSimpArgs false
namespace Go.Proofs.YtkinoehmcfhgbaaGreatDoor.Vl
open Go.RowKit

theorem goes_any {w0 : World} {b gb : Nat} {q : Option Addr} {cap : Nat} {us : List Atm} {s P : ByteArray} {ys : List Sym} (hp : pars s = some ys) (hus : us = uqs ys) (hP : P.size ≤ 200000) :
    ∀ (kk : Nat) (W : World) (k : Nat) (f : Atm → Int), (∀ a, T3 (f a)) → k ≤ P.size → P.size < k + kk → DS w0 W b gb q cap us s P k false (byl us f) →
      Calls Tryz.prog 84 #[.pointer (some ⟨b, 0, none⟩)] W fun e w' => e = .returned (.tuple #[]) ∧ FrK b gb W w' ∧ GoP w0 w' b gb q cap us s P f (chk us ys kk f (rest P k))
  | 0, W, k, f, hf, hk, hl, h => by omega
  | kk + 1, W, k, f, hf, hk, hl, h => by
    by_cases hlt : k < P.size
    · by_cases h46 : P[k] = 46
      · exact goes_dot hp hus W kk k h hP hk hf hlt h46
      · by_cases h33 : P[k] = 33
        · exact goes_bang hp hus W kk k h hP hk hf hlt h46 h33
        · by_cases h63 : P[k] = 63
          · exact goes_ask hp hus W kk k h hP hk hf hlt h63 fun X k2 g hg hk2 hkk h2 => goes_any hp hus hP kk X k2 g hg hk2 (by omega) h2
          · exact goes_else hp hus W kk k h hP hk hf hlt h46 h33 h63
    · exact goes_end hp hus W kk k h hP hk hf hlt

theorem take_set_ints (xs : List Int) (k : Nat) (x : Int) (hk : k < xs.length) (hx : xs[k]? = some x) : (xs.take k ++ List.replicate (xs.length - k) 0).set k x = xs.take (k + 1) ++ List.replicate (xs.length - (k + 1)) 0 := by
  have e1 : List.replicate (xs.length - k) (0 : Int) = 0 :: List.replicate (xs.length - (k + 1)) 0 := by
    rw [show xs.length - k = (xs.length - (k + 1)) + 1 by omega, List.replicate_succ]
  have e2 : xs.take (k + 1) = xs.take k ++ [x] := by
    rw [List.take_add_one, hx]; rfl
  rw [e1, e2, List.set_append, if_neg (by simp; omega)]
  have : k - (List.take k xs).length = 0 := by simp; omega
  rw [this]
  simp

set_option maxRecDepth 100000 in
set_option maxHeartbeats 4000000 in
theorem refConfirm_any (s P : ByteArray) (w : World) (hmax : s.size ≤ maxLen) (hPm : P.size ≤ maxLen) :
    Calls Tryz.prog 50 #[.string s, .string P] w fun e w' => e = .returned (.tuple #[.bool (fAns (pars s) P.data.toList).1, .int .i64 (fAns (pars s) P.data.toList).2]) ∧ Below w.heap.size w w' := by
  have CA : Hid (∀ w, Calls Tryz.prog 81 #[.string s] w fun e w' => AtmsEnd w (pars s) e w') := fun w => Atoms_any s w hmax
  cases hp : pars s with
  | none =>
    rw [hp] at CA
    have CA' : Hid (∀ w, Calls Tryz.prog 81 #[.string s] w fun e w' => ∃ v, e = .returned (.tuple #[v, .bool false]) ∧ Below w.heap.size w w') := fun w => (CA.out w).mono fun e w' h => by obtain ⟨v, h1, _, h2⟩ := h; exact ⟨v, h1, h2⟩
    clear CA
    go_enter Tryz.func50, Tryz.ntmps50
    go_wp2_with (go_at_call 81; refine (CA'.out _).mono ?_; rintro e w1 ⟨v, rfl, hb1⟩)
    go_ret2
    exact ⟨rfl, hb1⟩
  | some ys =>
    rw [hp] at CA
    have CA' : Hid (∀ w, Calls Tryz.prog 81 #[.string s] w fun e w' => ∃ v, e = .returned (.tuple #[v, .bool true]) ∧ Atms w' v (uqs ys) ∧ Below w.heap.size w w') := fun w => (CA.out w).mono fun e w' h => by obtain ⟨v, h1, h3, h2⟩ := h; exact ⟨v, h1, h3 ys rfl, h2⟩
    clear CA
    have hlen : P.data.toList.length = P.size := by rw [Array.length_toList]; rfl
    by_cases hlong : 200000 < P.size
    · have hl' : (200000 : Int) < (P.size : Int) := by omega
      have HR : Hid (fAns (some ys) P.data.toList = (false, 0)) := by show _ = _; unfold fAns cfm; rw [hlen, decide_eq_false (by omega)]; rfl
      go_enter Tryz.func50, Tryz.ntmps50
      go_wp2_with (go_at_call 81; refine (CA'.out _).mono ?_; rintro e w1 ⟨v, rfl, hA1, hb1⟩)
      go_ret2
      exact ⟨by rw [HR.out]; rfl, hb1⟩
    · have hl' : ¬ (200000 : Int) < (P.size : Int) := by omega
      have HR : Hid (fAns (some ys) P.data.toList = (decide (chk (uqs ys) ys (P.size + 1) (fun _ => 0) (rest P 0) = some []), 0)) := by show _ = _; unfold fAns cfm; rw [hlen, decide_eq_true (by omega)]; rfl
      obtain ⟨hs4, hprs, hul, hok⟩ := pars_facts hp
      have CG : Hid (∀ (W : World) (b gb : Nat) (q : Option Addr) (cap : Nat) (w0 : World), DS w0 W b gb q cap (uqs ys) s P 0 false (byl (uqs ys) (fun _ => 0)) → Calls Tryz.prog 84 #[.pointer (some ⟨b, 0, none⟩)] W fun e w' => e = .returned (.tuple #[]) ∧ FrK b gb W w' ∧ GoP w0 w' b gb q cap (uqs ys) s P (fun _ => 0) (chk (uqs ys) ys (P.size + 1) (fun _ => 0) (rest P 0))) := fun W b gb q cap w0 h => goes_any hp rfl (by omega) (P.size + 1) W 0 _ (fun _ => Or.inl rfl) (Nat.zero_le _) (by omega) h
      generalize fAns (some ys) P.data.toList = FA at *
      generalize chk (uqs ys) ys (P.size + 1) (fun _ => 0) (rest P 0) = CK at *
      generalize hU : uqs ys = us at *
      clear hU hok hprs hlen hp
      obtain ⟨i0, hi, hz0, hz1, hz2⟩ := info_parts Tryz.infoInt
      go_enter Tryz.func50, Tryz.ntmps50
      go_wp2_with (first
        | (go_at_call 81; refine (CA'.out _).mono ?_; rintro e w1 ⟨v, rfl, hA1, hb1⟩; obtain ⟨qa, qc, rfl⟩ := atms_shape hA1)
        | (at_make; refine wpList_make_full _ rfl _ _ 167 rfl w1.heap.size 3 i0 (.int .i64 0) 1 Tryz.underlying167 hi hz0 hz1 .i64 .i64 _ _ us.length rfl rfl rfl rfl (by rw [hz2]; omega) (by unfold maxLen; omega) (Nat.le_refl _) ?_))
      intro w3 hown hgrow
      have hown' : w3.ownsRow w1.heap.size 3 1 (.slice (some ⟨w1.heap.size, 0, none⟩) us.length us.length) us.length ((List.replicate us.length (0 : Int)).map iv) := by
        have h := hown
        rw [toList_madeCells_one] at h
        simpa [iv] using h
      have hb3 : Below w1.heap.size w1 w3 := (Below.refl _ w1).grown hgrow (Nat.le_refl _) (by intro k h; cases h)
      clear hown hgrow
      have hg3 : w1.heap.size < w3.heap.size := by
        rcases hown'.2 with ⟨h, _⟩ | ⟨g, c, cur, h, _, hh, _⟩
        · cases h
        · cases h; exact (Array.getElem?_eq_some_iff.1 hh).1
      have hb4 := hb3.trans ((below_alloc w3 (.cells #[.string s, .slice qa us.length qc, .slice (some ⟨w1.heap.size, 0, none⟩) us.length us.length, .string P, .int .i64 0, .bool false] 169)).mono hb3.size)
      have hD0 : DS w1 (w3.alloc (.cells #[.string s, .slice qa us.length qc, .slice (some ⟨w1.heap.size, 0, none⟩) us.length us.length, .string P, .int .i64 0, .bool false] 169)) w3.heap.size w1.heap.size qa qc us s P 0 false (List.replicate us.length 0) := by
        refine ⟨⟨hb4, hb3.size, Nat.le_refl _, by omega, hA1.below hb4, fun g e => ?_⟩, heap_alloc_new _ _, hown'.alloc _, by simp, by simp; omega⟩
        rcases hA1 with ⟨h, _⟩ | ⟨g', c, h, _, _, hlt, _⟩
        · rw [e] at h; cases h
        · rw [e] at h; cases h; omega
      have HD0 : Hid _ := hD0
      have HB1 : Hid (Below w.heap.size w w1) := hb1
      clear hown' hD0 hb4 hb3 hA1 hb1
      go_wp2_with fail
      generalize w3.heap.size = b at *
      generalize w1.heap.size = gb at *
      generalize w3.alloc (.cells #[.string s, .slice qa us.length qc, .slice (some ⟨gb, 0, none⟩) us.length us.length, .string P, .int .i64 0, .bool false] 169) = W0 at *
      have hbl : us.length ≤ 4000 := hul
      go_loopw [9] (fun s9 wr => ∃ i : Nat, s9 = .int .i64 (i : Int) ∧ i ≤ us.length ∧ DS w1 wr b gb qa qc us s P 0 false ((List.replicate us.length (2 : Int)).take i ++ List.replicate (us.length - i) 0)) (fun s9 _ => us.length - (intOf s9).toNat)
      case atStart => exact ⟨0, rfl, Nat.zero_le _, by simpa using HD0.out⟩
      case round =>
        obtain ⟨i, rfl, hi2, hD⟩ := hrel
        have HDX : Hid _ := hD
        obtain ⟨d0, d1, d2, d3, d4, d5⟩ := hD.lk.cells
        by_cases hlt : i < us.length
        · have hlt' : (i : Int) < (us.length : Int) := by omega
          obtain ⟨g', cap2, hgv2, _, hh2, _, _, hh5, hh6⟩ := own_facts hD.by' (by omega)
          cases hgv2
          have hml : i < (((List.replicate us.length (2 : Int)).take i ++ List.replicate (us.length - i) 0).map iv).length := by simp; omega
          have y1 := hh5 i _ (List.getElem?_eq_getElem hml)
          have y2 := hh6 i
          clear hh5 hh6 hD
          generalize (((List.replicate us.length (2 : Int)).take i ++ List.replicate (us.length - i) 0).map iv)[i] = old at *
          go_wp2_with fail
          refine ⟨⟨i + 1, by go_num, by omega, ?_⟩, by simp [intOf]; omega⟩
          have h1 := HDX.out.put i 2
          have h2 := take_set_ints (List.replicate us.length (2 : Int)) i 2 (by simpa using hlt) (by rw [List.getElem?_replicate, if_pos hlt])
          rw [List.length_replicate] at h2
          rw [h2] at h1
          exact h1
        · have hie : i = us.length := by omega
          subst hie
          have hlt' : ¬ ((us.length : Nat) : Int) < (us.length : Int) := by omega
          have HD2 : Hid (DS w1 wr b gb qa qc us s P 0 false (byl us (fun _ => 0))) := by
            show DS _ _ _ _ _ _ _ _ _ _ _ _
            have e : (List.replicate us.length (2 : Int)).take us.length ++ List.replicate (us.length - us.length) 0 = byl us (fun _ => 0) := by
              unfold byl
              rw [Nat.sub_self, List.take_of_length_le (by simp)]
              simp [dt, List.map_const']
            rw [← e]; exact hD
          clear hD d0 d1 d2 d3 d4 d5 HDX
          go_wp2_with fail
          refine Calls.mono (CG.out _ _ _ _ _ _ HD2.out) ?_
          rintro e w4 ⟨rfl, hF4, hgp⟩
          obtain ⟨k', bad', bs', hD5, hcs⟩ := hgp
          obtain ⟨d0, d1, d2, d3, d4, d5⟩ := hD5.lk.cells
          have HBE : Hid (Below w.heap.size w w4) := HB1.out.trans (hD5.c.h0.mono (by have := HB1.out.size; exact this))
          clear hD5 hF4
          rcases hcs with ⟨r, hres, rfl, rfl, hk', hrk⟩ | ⟨hres, rfl⟩
          · by_cases hke : k' = P.size
            · have hke' : ((k' : Int) == (P.size : Int)) = true := by rw [hke]; simp
              have HR2 : Hid (FA = (true, 0)) := by
                show _ = _
                rw [HR.out, hres, ← hrk, rest_end P k' (by omega)]; rfl
              clear hres hrk hke
              go_wp2_with fail
              go_ret2
              exact ⟨by rw [HR2.out]; rfl, HBE.out⟩
            · have hke' : ((k' : Int) == (P.size : Int)) = false := by rw [beq_eq_false_iff_ne]; omega
              have HR2 : Hid (FA = (false, 0)) := by
                show _ = _
                rw [HR.out, hres, ← hrk, rest_cons P k' (by omega)]; rfl
              clear hres hrk hke
              go_wp2_with fail
              go_ret2
              exact ⟨by rw [HR2.out]; rfl, HBE.out⟩
          · have HR2 : Hid (FA = (false, 0)) := by show _ = _; rw [HR.out, hres]; rfl
            clear hres
            go_wp2_with fail
            go_ret2
            exact ⟨by rw [HR2.out]; rfl, HBE.out⟩
end Go.Proofs.YtkinoehmcfhgbaaGreatDoor.Vl
