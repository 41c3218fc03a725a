/-
  The walk of the law Listed.
-/
import Derived.Test.YtpcgmfgjcnmgmaaGreatDoorK0
import Derived.Test.YtpcgmfgjcnmgmaaGreatDoorL6
set_option linter.unusedVariables false
set_option linter.unusedSimpArgs false
namespace Go.Proofs.YtpcgmfgjcnmgmaaGreatDoor.Vl
open Go.RowKit
open Go.Proofs.YtpcgmfgjcnmgmaaGreatDoor.Av (vr Fm Rd Tg sAt Cm Rc tokAt answer Row Row.new below_cells)

def cF : List UInt8 := [62, 38, 38, 97, 45, 48, 60, 61, 48, 46, 48, 45, 97, 60, 61, 48, 46, 48, 45, 98, 60, 61, 48, 46, 97, 45, 98, 60, 61, 48, 46]
def cS : List UInt8 := [62, 38, 97, 45, 98, 60, 61, 48, 46, 97, 45, 98, 60, 61, 45, 49, 46, 97, 45, 98, 60, 61, 45, 49, 46]
def cT : List UInt8 := [62, 38, 97, 45, 98, 60, 61, 48, 46, 33, 97, 45, 98, 60, 61, 45, 49, 46, 38, 97, 45, 98, 60, 61, 48, 46, 98, 45, 97, 60, 61, 48, 46]
theorem cnt_conds : cAns cnt cntP cntC cntQ = ([cF, cS, cT], 0, 0) := by kernel_rfl
theorem cond_cnt (w : World) (hgt : Gt w) : Calls Tryz.prog 9 #[.string cnt] w fun e w' => ∃ v, e = .returned (.tuple #[v, .int .i64 0, .int .i64 0]) ∧ w'.ownsRow w.heap.size 9 1 v 3 ([cF, cS, cT].map strV) ∧ Below w.heap.size w w' := by
  refine (ccond_any cnt w hgt).mono ?_
  rintro e w' ⟨p, c, q, hP, v, he, ho, hb⟩
  obtain ⟨rfl, rfl, rfl⟩ := cnt_prg.det (hP (by rw [cnt_ans]))
  rw [cnt_conds] at he ho
  exact ⟨v, he, ho, hb⟩
theorem cAns_det {s : ByteArray} {p q p' q' : Fm} {c c' : Cm} (h : (answer s).1 = 0 → Prg (tokAt 0 (Av.rest s 0)) p c q) (h' : (answer s).1 = 0 → Prg (tokAt 0 (Av.rest s 0)) p' c' q') : cAns s p' c' q' = cAns s p c q := by
  by_cases h0 : (answer s).1 = 0
  · obtain ⟨rfl, rfl, rfl⟩ := (h h0).det (h' h0)
    rfl
  · unfold cAns
    rw [if_pos h0, if_pos h0]
theorem cAns_len {s : ByteArray} {p q : Fm} {c : Cm} (h : (answer s).1 = 0 → Prg (tokAt 0 (Av.rest s 0)) p c q) : (cAns s p c q).1.length ≤ 1000 := by
  unfold cAns
  split
  · simp
  · rename_i h0
    split
    · rename_i hf
      have h0' : (answer s).1 = 0 := by omega
      obtain ⟨k1, k2, k3, r1, r2, r3, hk⟩ := h h0'
      have hl : (tokAt 0 (Av.rest s 0)).length ≤ 300 := by have := answer_long h0'; have := Av.tokAt_len 0 (Av.rest s 0); have := Av.rest_len s 0; omega
      have h1 := rc_sz r2
      have h2 := nlo_le c
      have h3 := pL_len c (fsy q)
      have h4 := ((walk_is c (fsy q)).2 hf.1).2
      rw [h4, List.length_reverse] at h3
      have h5 := r3.le.1
      simp only [List.length_cons]
      omega
    · simp
/-- An owner's struct in memory. -/
def OAt (w : World) (B n : Nat) (m : List UInt8) (cs : Array Value) : Prop := B < w.heap.size ∧ cs.size = 5 ∧ w.rangeAt B 0 cs.toList ∧ Own w cs n m
theorem OAt.below {w w' : World} {B n : Nat} {m : List UInt8} {cs : Array Value} (h : OAt w B n m cs) (hb : Below w.heap.size w w') : OAt w' B n m cs :=
  ⟨Nat.lt_of_lt_of_le h.1 hb.size, h.2.1, fun j v hv => (hb.cell (p := ⟨B, 0 + j, none⟩) h.1).trans (h.2.2.1 j v hv), h.2.2.2.below hb⟩
theorem oat_put {w : World} {n : Nat} {m : List UInt8} {cs : Array Value} (h5 : cs.size = 5) (hO : Own w cs n m) : (w.alloc (.cells #[.slice none 0 0, .slice none 0 0, .slice none 0 0, .slice none 0 0, .string ⟨#[]⟩] 29)).there w.heap.size 0 cs.size ∧ Below w.heap.size w ((w.alloc (.cells #[.slice none 0 0, .slice none 0 0, .slice none 0 0, .slice none 0 0, .string ⟨#[]⟩] 29)).setCells w.heap.size 0 cs.toList) ∧ OAt ((w.alloc (.cells #[.slice none 0 0, .slice none 0 0, .slice none 0 0, .slice none 0 0, .string ⟨#[]⟩] 29)).setCells w.heap.size 0 cs.toList) w.heap.size n m cs := by
  have hr : Row (w.alloc (.cells #[.slice none 0 0, .slice none 0 0, .slice none 0 0, .slice none 0 0, .string ⟨#[]⟩] 29)) w.heap.size 5 := Row.new w #[.slice none 0 0, .slice none 0 0, .slice none 0 0, .slice none 0 0, .string ⟨#[]⟩] 29 (by decide)
  have ht := hr.there 0 cs.size (by omega)
  have hb : Below w.heap.size w ((w.alloc (.cells #[.slice none 0 0, .slice none 0 0, .slice none 0 0, .slice none 0 0, .string ⟨#[]⟩] 29)).setCells w.heap.size 0 cs.toList) := below_cells (Nat.le_refl _) _ _ _ (below_alloc _ _)
  refine ⟨ht, hb, ?_, h5, World.rangeAt_setCells_same _ _ _ _ (by simpa using ht), hO.below hb⟩
  rw [(grown_setCells _ _ _ _).2]; simp
theorem own_size {w : World} {base : Nat} {v : Value} {n : Nat} {xs : List Value} (h : w.ownsRow base 9 1 v n xs) : ∀ j, v.ownBlock = some j → j < w.heap.size := fun j e => by
  rcases h.2 with ⟨rfl, _⟩ | ⟨g, cap, cur, rfl, _, hh, _⟩
  · cases e
  · cases e
    exact (Array.getElem?_eq_some_iff.1 hh).1
set_option maxHeartbeats 400000 in
theorem numL_any (k : Int) (w : World) : Calls Tryz.prog 11 #[.int .i64 k] w fun e w' => e = .returned (.int .i64 k) ∧ w = w' := by
  go_enter Tryz.func11, Tryz.ntmps11
  go_wp2
  go_ret
  exact ⟨rfl, rfl⟩

set_option maxRecDepth 100000 in
set_option maxHeartbeats 8000000 in
theorem listed_c (s : ByteArray) (w : World) (hgt : Gt w) :
    Calls Tryz.prog 3 #[.string s] w fun e w' => e = .returned (.bool true) ∧ Below w.heap.size w w' := by
  have CN : Hid (∀ k w, Calls Tryz.prog 11 #[.int .i64 k] w fun e w' => e = .returned (.int .i64 k) ∧ w = w') := numL_any
  have HGT : Hid (Gt w) := hgt
  clear hgt
  go_enter Tryz.func3, Tryz.ntmps3
  go_wp2_with fail
  refine Calls.mono (cond_cnt w HGT.out) ?_
  rintro e w1 ⟨v0, rfl, ho0, hb1⟩
  obtain ⟨q0, c0, rfl⟩ := own_shape ho0
  go_wp2_with fail
  have hal := below_alloc w1 (.cells #[strV cF, strV cS, strV cT] 9)
  have t1 : Txts (w1.alloc (.cells #[strV cF, strV cS, strV cT] 9)) (.slice q0 3 c0) [cF, cS, cT] := (Txts.own (L := [cF, cS, cT]) ho0).below hal
  have t2 : Txts (w1.alloc (.cells #[strV cF, strV cS, strV cT] 9)) (.slice (some ⟨w1.heap.size, 0, none⟩) 3 3) [cF, cS, cT] := ⟨_, _, rfl, Or.inr ⟨w1.heap.size, rfl, by simp, fun j l hl => by
    match j, hl with
    | 0, hl => cases hl; simp
    | 1, hl => cases hl; simp
    | 2, hl => cases hl; simp⟩⟩
  refine Calls.mono (same_any [cF, cS, cT] _ _ _ t1 t2 (by decide)) ?_
  rintro e w2 ⟨rfl, hb2⟩
  have b12 : Below w1.heap.size w1 w2 := hal.trans (hb2.mono hal.size)
  have ho2 := ownsRow_below ho0 b12
  have bw2 : Below w.heap.size w w2 := hb1.trans (b12.mono hb1.size)
  clear t1 t2 hal hb2 b12 ho0 hb1
  go_wp2_with (go_at_call 11; refine (CN.out _ _).mono ?_; rintro e w' ⟨rfl, rfl⟩)
  refine Calls.mono (own_any w.heap.size 3 _ _ [109, 105, 110, 101] w2 ho2 bw2.size (by omega)) ?_
  rintro e w3 ⟨cs, rfl, hcs1, hcs2, hO3, hg3⟩
  have bw3 : Below w.heap.size w w3 := bw2.grown hg3 bw2.size (own_block ho2)
  obtain ⟨hth, hbx, hA⟩ := oat_put hcs1 hO3
  have hi0 : (Tryz.prog.info? 29).map (·.size) = some cs.size := by rw [hcs1]; exact Tryz.infoOwned
  have HI : Hid ((Tryz.prog.info? 29).map (·.size) = some cs.toList.length) := by show _ = _; rw [hi0]; simp
  have BX : Hid (Below w.heap.size w ((w3.alloc (.cells #[.slice none 0 0, .slice none 0 0, .slice none 0 0, .slice none 0 0, .string ⟨#[]⟩] 29)).setCells w3.heap.size 0 cs.toList)) := bw3.trans (hbx.mono bw3.size)
  have HA : Hid (OAt ((w3.alloc (.cells #[.slice none 0 0, .slice none 0 0, .slice none 0 0, .slice none 0 0, .string ⟨#[]⟩] 29)).setCells w3.heap.size 0 cs.toList) w3.heap.size 3 [109, 105, 110, 101] cs) := hA
  clear hbx hA hO3 hg3 ho2 bw2 bw3
  go_wp2_with (refine wpList_store_mid rfl 29 (.tmp 7) (.tmp 40) rfl w3.heap.size 0 cs rfl rfl ?_ hi0 hcs2 ?_; (exact hth))
  clear hth hi0 hcs2
  generalize ((w3.alloc (.cells #[.slice none 0 0, .slice none 0 0, .slice none 0 0, .slice none 0 0, .string ⟨#[]⟩] 29)).setCells w3.heap.size 0 cs.toList) = X3 at *
  refine Calls.mono (ccond_any s X3 (HGT.out.on BX.out)) ?_
  rintro e w4 ⟨p, c, q, hP, vx, rfl, hox, hb4⟩
  have HP : Hid _ := hP
  have HL : Hid ((cAns s p c q).1.length ≤ 1000) := cAns_len hP
  have HDET : Hid (∀ p' c' q', ((answer s).1 = 0 → Prg (tokAt 0 (Av.rest s 0)) p' c' q') → cAns s p' c' q' = cAns s p c q) := fun p' c' q' h => cAns_det hP h
  have CR : Hid (∀ X, Calls Tryz.prog 13 #[.string s] X fun e w' => ∃ v, e = .returned (.tuple #[v, .int .i64 (cAns s p c q).2.1, .int .i64 (cAns s p c q).2.2]) ∧ w'.ownsRow X.heap.size 9 1 v (cAns s p c q).1.length ((cAns s p c q).1.map strV) ∧ Below X.heap.size X w') := fun X => refCond_any s p q c X hP
  clear hP HP
  generalize cAns s p c q = AA at *
  obtain ⟨L, e1, e2⟩ := AA
  dsimp only at hox HL CR
  obtain ⟨qx, cx, rfl⟩ := own_shape hox
  have HOX : Hid (w4.ownsRow X3.heap.size 9 1 (.slice qx L.length cx) L.length (L.map strV)) := hox
  have hl1 := HL.out
  clear hox
  go_wp2_with fail
  refine Calls.mono (CR.out _) ?_
  rintro e w5 ⟨vy, rfl, hoy, hb5⟩
  obtain ⟨qy, cy, rfl⟩ := own_shape hoy
  have HOY : Hid (w5.ownsRow w4.heap.size 9 1 (.slice qy L.length cy) L.length (L.map strV)) := hoy
  clear hoy
  go_wp2_with fail
  refine Calls.mono (same_any L _ _ _ ((Txts.own HOX.out).below hb5) (Txts.own HOY.out) (by omega)) ?_
  rintro e w6 ⟨rfl, hb6⟩
  go_wp2_with fail
  have b46 : Below w4.heap.size w4 w6 := hb5.trans (hb6.mono hb5.size)
  have ox6 := ownsRow_below HOX.out b46
  have bX6 : Below X3.heap.size X3 w6 := hb4.trans (b46.mono hb4.size)
  refine Calls.mono (own_any X3.heap.size L.length _ _ [121, 111, 117, 114, 115] w6 ox6 bX6.size (by omega)) ?_
  rintro e w7 ⟨cs2, rfl, hcs21, hcs22, hO7, hg7⟩
  have hne : (Value.slice qy L.length cy).ownBlock = none ∨ (Value.slice qy L.length cy).ownBlock ≠ (Value.slice qx L.length cx).ownBlock := by
    cases hqy : (Value.slice qy L.length cy).ownBlock with
    | none => exact Or.inl rfl
    | some gy =>
      refine Or.inr (fun e => ?_)
      have h1 := own_block HOY.out gy hqy
      have h2 := own_size HOX.out gy e.symm
      omega
  have oy7 := (ownsRow_below HOY.out hb6).kept hg7 hne
  have bX7 : Below X3.heap.size X3 w7 := bX6.grown hg7 bX6.size (own_block ox6)
  obtain ⟨hth, hbx, hA⟩ := oat_put hcs21 hO7
  have hi0 : (Tryz.prog.info? 29).map (·.size) = some cs2.size := by rw [hcs21]; exact Tryz.infoOwned
  have HI2 : Hid ((Tryz.prog.info? 29).map (·.size) = some cs2.toList.length) := by show _ = _; rw [hi0]; simp
  have BX7 : Hid (Below X3.heap.size X3 ((w7.alloc (.cells #[.slice none 0 0, .slice none 0 0, .slice none 0 0, .slice none 0 0, .string ⟨#[]⟩] 29)).setCells w7.heap.size 0 cs2.toList)) := bX7.trans (hbx.mono bX7.size)
  have HB : Hid (OAt ((w7.alloc (.cells #[.slice none 0 0, .slice none 0 0, .slice none 0 0, .slice none 0 0, .string ⟨#[]⟩] 29)).setCells w7.heap.size 0 cs2.toList) w7.heap.size L.length [121, 111, 117, 114, 115] cs2) := hA
  have OY7 : Hid (((w7.alloc (.cells #[.slice none 0 0, .slice none 0 0, .slice none 0 0, .slice none 0 0, .string ⟨#[]⟩] 29)).setCells w7.heap.size 0 cs2.toList).ownsRow w4.heap.size 9 1 (.slice qy L.length cy) L.length (L.map strV)) := ownsRow_below oy7 hbx
  clear hbx hA hO7 hg7 ox6 bX6 bX7 oy7 hne b46 HOY HOX hb6 hb5 hb4
  go_wp2_with (refine wpList_store_mid rfl 29 (.tmp 15) (.tmp 57) rfl w7.heap.size 0 cs2 rfl rfl ?_ hi0 hcs22 ?_; (exact hth))
  clear hth hi0 hcs22
  generalize ((w7.alloc (.cells #[.slice none 0 0, .slice none 0 0, .slice none 0 0, .slice none 0 0, .string ⟨#[]⟩] 29)).setCells w7.heap.size 0 cs2.toList) = X7 at *
  have BW7 : Hid (Below w.heap.size w X7) := BX.out.trans (BX7.out.mono BX.out.size)
  have HA7 : Hid (OAt X7 w3.heap.size 3 [109, 105, 110, 101] cs) := HA.out.below BX7.out
  clear HA BX BX7
  refine Calls.mono (ccond_any s X7 (HGT.out.on BW7.out)) ?_
  rintro e w8 ⟨p', c', q', hP', vz, rfl, hoz, hb8⟩
  rw [HDET.out p' c' q' hP'] at *
  dsimp only at hoz
  obtain ⟨qz, cz, rfl⟩ := own_shape hoz
  have HOZ : Hid (w8.ownsRow X7.heap.size 9 1 (.slice qz L.length cz) L.length (L.map strV)) := hoz
  clear hoz hP' HDET
  go_wp2_with fail
  refine Calls.mono (same_any L _ _ _ (Txts.own HOZ.out) ((Txts.own OY7.out).below hb8) (by omega)) ?_
  rintro e w9 ⟨rfl, hb9⟩
  go_wp2_with fail
  have oz9 := ownsRow_below HOZ.out hb9
  have b79 : Below X7.heap.size X7 w9 := hb8.trans (hb9.mono hb8.size)
  refine Calls.mono (own_any X7.heap.size L.length _ _ [116, 104, 101, 105, 114, 115] w9 oz9 b79.size (by omega)) ?_
  rintro e w10 ⟨cs3, rfl, hcs31, hcs32, hO10, hg10⟩
  have b710 : Below X7.heap.size X7 w10 := b79.grown hg10 b79.size (own_block oz9)
  obtain ⟨hth, hbx, hA⟩ := oat_put hcs31 hO10
  have hi0 : (Tryz.prog.info? 29).map (·.size) = some cs3.size := by rw [hcs31]; exact Tryz.infoOwned
  have HI3 : Hid ((Tryz.prog.info? 29).map (·.size) = some cs3.toList.length) := by show _ = _; rw [hi0]; simp
  have BX10 : Hid (Below X7.heap.size X7 ((w10.alloc (.cells #[.slice none 0 0, .slice none 0 0, .slice none 0 0, .slice none 0 0, .string ⟨#[]⟩] 29)).setCells w10.heap.size 0 cs3.toList)) := b710.trans (hbx.mono b710.size)
  have HC : Hid (OAt ((w10.alloc (.cells #[.slice none 0 0, .slice none 0 0, .slice none 0 0, .slice none 0 0, .string ⟨#[]⟩] 29)).setCells w10.heap.size 0 cs3.toList) w10.heap.size L.length [116, 104, 101, 105, 114, 115] cs3) := hA
  have BW10 : Hid (Below w.heap.size w ((w10.alloc (.cells #[.slice none 0 0, .slice none 0 0, .slice none 0 0, .slice none 0 0, .string ⟨#[]⟩] 29)).setCells w10.heap.size 0 cs3.toList)) := BW7.out.trans (BX10.out.mono BW7.out.size)
  have HA10 : Hid (OAt ((w10.alloc (.cells #[.slice none 0 0, .slice none 0 0, .slice none 0 0, .slice none 0 0, .string ⟨#[]⟩] 29)).setCells w10.heap.size 0 cs3.toList) w3.heap.size 3 [109, 105, 110, 101] cs) := HA7.out.below BX10.out
  have HB10 : Hid (OAt ((w10.alloc (.cells #[.slice none 0 0, .slice none 0 0, .slice none 0 0, .slice none 0 0, .string ⟨#[]⟩] 29)).setCells w10.heap.size 0 cs3.toList) w7.heap.size L.length [121, 111, 117, 114, 115] cs2) := HB.out.below BX10.out
  have rA : ((w10.alloc (.cells #[.slice none 0 0, .slice none 0 0, .slice none 0 0, .slice none 0 0, .string ⟨#[]⟩] 29)).setCells w10.heap.size 0 cs3.toList).rangeAt w3.heap.size 0 cs.toList := HA10.out.2.2.1
  have hi1 := HI.out
  clear hbx hA hO10 hg10 oz9 b79 b710 HOZ OY7 hb8 hb9 HA7 HB BW7 BX10
  go_wp2_with (first | (refine wpList_store_mid rfl 29 (.tmp 20) (.tmp 68) rfl w10.heap.size 0 cs3 rfl rfl ?_ hi0 hcs32 ?_; (exact hth)) | (refine wpList_load_mid rfl 29 (.tmp 7) rfl w3.heap.size 0 rfl cs.toList _ ?_ Tryz.underlying29 rfl hi1 ?_; (exact rA)))
  clear hth hi0 hcs32 rA hi1
  generalize ((w10.alloc (.cells #[.slice none 0 0, .slice none 0 0, .slice none 0 0, .slice none 0 0, .string ⟨#[]⟩] 29)).setCells w10.heap.size 0 cs3.toList) = X10 at *
  refine Calls.mono (stands_any cs 3 [109, 105, 110, 101] X10 HA10.out.2.2.2 (by omega)) ?_
  rintro e w11 ⟨rfl, hb11⟩
  have HB11 : Hid (OAt w11 w7.heap.size L.length [121, 111, 117, 114, 115] cs2) := HB10.out.below hb11
  have HC11 : Hid (OAt w11 w10.heap.size L.length [116, 104, 101, 105, 114, 115] cs3) := HC.out.below hb11
  have BW11 : Hid (Below w.heap.size w w11) := BW10.out.trans (hb11.mono BW10.out.size)
  have rB : w11.rangeAt w7.heap.size 0 cs2.toList := HB11.out.2.2.1
  have hi2 := HI2.out
  clear hb11 HB10 HC BW10 HA10
  go_wp2_with (refine wpList_load_mid rfl 29 (.tmp 15) rfl w7.heap.size 0 rfl cs2.toList _ ?_ Tryz.underlying29 rfl hi2 ?_; (exact rB))
  refine Calls.mono (stands_any cs2 L.length [121, 111, 117, 114, 115] w11 HB11.out.2.2.2 (by omega)) ?_
  rintro e w12 ⟨rfl, hb12⟩
  have HC12 : Hid (OAt w12 w10.heap.size L.length [116, 104, 101, 105, 114, 115] cs3) := HC11.out.below hb12
  have BW12 : Hid (Below w.heap.size w w12) := BW11.out.trans (hb12.mono BW11.out.size)
  have rC : w12.rangeAt w10.heap.size 0 cs3.toList := HC12.out.2.2.1
  have hi3 := HI3.out
  clear hb12 HC11 HB11 BW11 rB hi2
  go_wp2_with (refine wpList_load_mid rfl 29 (.tmp 20) rfl w10.heap.size 0 rfl cs3.toList _ ?_ Tryz.underlying29 rfl hi3 ?_; (exact rC))
  refine Calls.mono (stands_any cs3 L.length [116, 104, 101, 105, 114, 115] w12 HC12.out.2.2.2 (by omega)) ?_
  rintro e w13 ⟨rfl, hb13⟩
  have BW13 : Hid (Below w.heap.size w w13) := BW12.out.trans (hb13.mono BW12.out.size)
  clear hb13 HC12 BW12 rC hi3
  go_wp2_with (go_at_call 11; refine (CN.out _ _).mono ?_; rintro e w' ⟨rfl, rfl⟩)
  go_ret
  exact ⟨by simp, BW13.out⟩
end Go.Proofs.YtpcgmfgjcnmgmaaGreatDoor.Vl
