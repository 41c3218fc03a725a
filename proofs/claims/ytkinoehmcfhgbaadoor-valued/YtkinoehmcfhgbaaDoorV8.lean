/-
  The walks of the document's valued and Value.
-/
import Derived.Test.YtkinoehmcfhgbaaDoorV7
set_option linter.unusedVariables false
set_option linter.unusedSimpArgs false
namespace Go.Proofs.YtkinoehmcfhgbaaDoor.Vl
open Go.RowKit

/-- What an atom's side is at a state. -/
def xv (x1 x2 x3 x4 : Int) (i : Int) : Int := if i = 0 then 0 else if i = 1 then x1 else if i = 2 then x2 else if i = 3 then x3 else x4
def hld (x1 x2 x3 x4 : Int) (a : Atm) : Bool := decide (xv x1 x2 x3 x4 a.1 - xv x1 x2 x3 x4 a.2.1 ≤ a.2.2)
def bi (b : Bool) : Int := if b then 1 else 0
def bys (x1 x2 x3 x4 : Int) (U : List Atm) : List Int := U.map fun a => bi (hld x1 x2 x3 x4 a)
/-- What valued answers. -/
def val (x1 x2 x3 x4 : Int) (ys : List Sym) : Bool := (wrun (uqs ys) (bys x1 x2 x3 x4 (uqs ys)) ys).headD 0 == 1

theorem xv_range {x1 x2 x3 x4 : Int} (h : gds x1 x2 x3 x4 = true) (i : Int) : -1000000000 ≤ xv x1 x2 x3 x4 i ∧ xv x1 x2 x3 x4 i ≤ 1000000000 := by
  simp only [gds, gd, Bool.and_eq_true, decide_eq_true_eq] at h
  unfold xv
  repeat' split
  all_goals omega
theorem nmb_mem : ∀ (l : List Atm) (a : Atm) (i : Int), (nmb l a i = -1 ∧ a ∉ l) ∨ (a ∈ l ∧ i ≤ nmb l a i ∧ nmb l a i < i + l.length)
  | [], a, i => Or.inl ⟨rfl, by simp⟩
  | x :: r, a, i => by
    simp only [nmb]
    split
    · rename_i h; subst h; exact Or.inr ⟨by simp, by omega, by simp; omega⟩
    · rename_i h
      rcases nmb_mem r a (i + 1) with ⟨h1, h2⟩ | ⟨h1, h2, h3⟩
      · exact Or.inl ⟨h1, by simp [h2]; exact fun e => h e.symm⟩
      · exact Or.inr ⟨by simp [h1], by omega, by simp only [List.length_cons]; omega⟩
theorem addA_sub (l : List Atm) (y : Sym) : ∀ a ∈ l, a ∈ addA l y := by
  intro a ha; unfold addA; repeat' split
  all_goals simp [ha]
theorem foldA_sub : ∀ (ds : List Sym) (l : List Atm), (∀ a ∈ l, a ∈ ds.foldl addA l) ∧ ∀ y ∈ ds, y.1 = 6 → y.2 ∈ ds.foldl addA l
  | [], l => ⟨fun a h => h, fun y h => by simp at h⟩
  | d :: r, l => by
    have ih := foldA_sub r (addA l d)
    refine ⟨fun a h => ih.1 a (addA_sub l d a h), fun y hy h6 => ?_⟩
    rcases List.mem_cons.1 hy with rfl | hy
    · apply ih.1
      unfold addA
      rw [if_pos h6]
      split
      · simp
      · rename_i h
        rcases nmb_mem l y.2 0 with ⟨h1, _⟩ | ⟨h1, _⟩
        · omega
        · exact h1
    · exact ih.2 y hy h6
theorem uqs_in (ys : List Sym) : ∀ y ∈ ys, y.1 = 6 → 0 ≤ nmb (uqs ys) y.2 0 ∧ nmb (uqs ys) y.2 0 < (uqs ys).length := by
  intro y hy h6
  have hm : y.2 ∈ uqs ys := (foldA_sub ys []).2 y hy h6
  rcases nmb_mem (uqs ys) y.2 0 with ⟨_, h2⟩ | ⟨_, h2, h3⟩
  · exact absurd hm h2
  · omega
theorem foldA_len : ∀ (ds : List Sym) (l : List Atm), (ds.foldl addA l).length ≤ l.length + ds.length
  | [], l => by simp
  | d :: r, l => by
    have ih := foldA_len r (addA l d)
    have : (addA l d).length ≤ l.length + 1 := by unfold addA; repeat' split
                                                  all_goals simp
    simp only [List.foldl_cons, List.length_cons]; omega
theorem foldA_all (p : Atm → Prop) : ∀ (ds : List Sym) (l : List Atm), (∀ a ∈ l, p a) → (∀ y ∈ ds, y.1 = 6 → p y.2) → ∀ a ∈ ds.foldl addA l, p a
  | [], l, h, _ => h
  | d :: r, l, h, hd => by
    refine foldA_all p r (addA l d) ?_ (fun y hy => hd y (by simp [hy]))
    intro a ha
    unfold addA at ha
    split at ha
    · rename_i h6
      split at ha
      · rcases List.mem_append.1 ha with ha | ha
        · exact h a ha
        · rw [List.mem_singleton] at ha; subst ha; exact hd d (by simp) h6
      · exact h a ha
    · exact h a ha
def okA (a : Atm) : Prop := 0 ≤ a.1 ∧ a.1 ≤ 4 ∧ 0 ≤ a.2.1 ∧ a.2.1 ≤ 4 ∧ -999999 ≤ a.2.2 ∧ a.2.2 ≤ 999999
theorem pos_ok {s : ByteArray} : ∀ (ys : List Sym) (k : Nat) (m : Int) (ps : List Nat), Pos s k m ys ps → ∀ y ∈ ys, y.1 = 6 → okA y.2
  | [], k, m, ps, h => by intro y hy; cases hy
  | y :: r, k, m, ps, h => by
    obtain ⟨j, ps', rfl, hk, hm0, hs, hp⟩ := h
    intro z hz h6
    rcases List.mem_cons.1 hz with rfl | hz
    · rcases sym_kind hk hs with ⟨h0, rfl, _⟩ | ⟨_, a, rfl, ha⟩
      · have := mk_le (s[k].toNat : Int); dsimp only at h6; omega
      · have := atm_facts ha; unfold okA; dsimp only; omega
    · exact pos_ok r _ _ ps' hp z hz h6
theorem pos_len {s : ByteArray} : ∀ (ys : List Sym) (k : Nat) (m : Int) (ps : List Nat), Pos s k m ys ps → k + ys.length ≤ s.size
  | [], k, m, ps, h => by obtain ⟨_, h, _⟩ := h; simp; omega
  | y :: r, k, m, ps, h => by
    obtain ⟨j, ps', rfl, hk, hm0, hs, hp⟩ := h
    have := pos_len r _ _ ps' hp
    have := sym_facts hs
    simp only [List.length_cons]; omega
theorem pars_facts {s : ByteArray} {ys : List Sym} (h : pars s = some ys) : s.size ≤ 4000 ∧ prsA 1 (rest s 0) = some ys ∧ (uqs ys).length ≤ 4000 ∧ ∀ a ∈ uqs ys, okA a := by
  unfold pars at h
  split at h
  · cases h
  · rename_i hs
    have hp : prsA 1 (rest s 0) = some ys := h
    obtain ⟨ps, hps⟩ := pos_of s ys 0 1 (Nat.zero_le _) hp
    have h1 := pos_len ys 0 1 ps hps
    have h2 := foldA_len ys []
    refine ⟨by omega, hp, by unfold uqs; simp at h2; omega, foldA_all okA ys [] (by simp) (pos_ok ys 0 1 ps hps)⟩

theorem take_set_bys (bs : List Int) (k : Nat) (x : Int) (hk : k < bs.length) (hx : bs[k]? = some x) : ((bs.take k ++ List.replicate (bs.length - k) 0).map iv).set k (iv x) = (bs.take (k + 1) ++ List.replicate (bs.length - (k + 1)) 0).map iv := by
  have e1 : List.replicate (bs.length - k) (0 : Int) = 0 :: List.replicate (bs.length - (k + 1)) 0 := by
    rw [show bs.length - k = (bs.length - (k + 1)) + 1 by omega, List.replicate_succ]
  have e2 : bs.take (k + 1) = bs.take k ++ [x] := by
    rw [List.take_add_one, hx]; rfl
  rw [e1, e2, List.map_append, List.map_cons, List.set_append]
  rw [if_neg (by simp; omega)]
  have : k - (List.map iv (List.take k bs)).length = 0 := by simp; omega
  rw [this]
  simp

theorem take_set_same (bs : List Int) (k : Nat) (x : Int) (hk : k < bs.length) (hx : bs[k]? = some 0) {L : Nat} (hL : bs.length = L) : ((bs.take k ++ List.replicate (L - k) 0).map iv).set k (iv 0) = (bs.take k ++ List.replicate (L - k) 0).map iv := by
  subst hL
  have e1 : List.replicate (bs.length - k) (0 : Int) = 0 :: List.replicate (bs.length - (k + 1)) 0 := by
    rw [show bs.length - k = (bs.length - (k + 1)) + 1 by omega, List.replicate_succ]
  rw [e1, List.map_append, List.map_cons, List.set_append]
  rw [if_neg (by simp; omega)]
  have : k - (List.map iv (List.take k bs)).length = 0 := by simp; omega
  rw [this]; rfl
theorem atms_shape {w : World} {v : Value} {ls : List Atm} (h : Atms w v ls) : ∃ q c, v = .slice q ls.length c := by
  rcases h with ⟨h1, h2⟩ | ⟨b, cap, hv, _⟩
  · subst h2; exact ⟨none, 0, h1⟩
  · exact ⟨_, _, hv⟩

set_option maxRecDepth 100000 in
set_option maxHeartbeats 2000000 in
theorem valued_any (s : ByteArray) (x1 x2 x3 x4 : Int) (ys : List Sym) (w : World) (hmax : s.size ≤ maxLen) (hp : pars s = some ys) (hg : gds x1 x2 x3 x4 = true) :
    Calls Tryd.prog 15 #[.string s, stV x1 x2 x3 x4] w fun e w' => e = .returned (.bool (val x1 x2 x3 x4 ys)) ∧ Below w.heap.size w w' := by
  obtain ⟨hs, hprs, hul, hok⟩ := pars_facts hp
  have CAt : Hid (∀ w, Calls Tryd.prog 13 #[.string s] w fun e w' => AtmsEnd w (some ys) e w') := fun w => by rw [← hp]; exact Atoms_any s w hmax
  have HV : Hid (val x1 x2 x3 x4 ys = ((wrun (uqs ys) (bys x1 x2 x3 x4 (uqs ys)) ys).headD 0 == 1)) := rfl
  have CW : Hid (∀ w v1 v2, Atms w v1 (uqs ys) → IntsR w v2 (bys x1 x2 x3 x4 (uqs ys)) → Calls Tryd.prog 28 #[.string s, v1, v2] w fun e w' => e = .returned (.int .i64 ((wrun (uqs ys) (bys x1 x2 x3 x4 (uqs ys)) ys).headD 0)) ∧ Below w.heap.size w w') := fun w v1 v2 h1 h2 =>
    worth_any s v1 v2 (uqs ys) (bys x1 x2 x3 x4 (uqs ys)) ys w hs hprs h1 h2 (by simp [bys]) hul (by intro x hx; simp only [bys, List.mem_map] at hx; obtain ⟨a, _, rfl⟩ := hx; unfold bi; split <;> omega) (uqs_in ys)
  generalize hU : uqs ys = U at *
  have HU : Hid _ := hU
  generalize (wrun U (bys x1 x2 x3 x4 U) ys).headD 0 = WV at *
  have HO : Hid _ := hok
  have HXV : Hid _ := xv_range hg
  clear hU hok hp hprs hg
  obtain ⟨i0, hi, hz0, hz1, hz2⟩ := info_parts Tryd.infoInt
  unfold stV
  go_enter Tryd.func15, Tryd.ntmps15
  go_wp2_with (first
    | (go_at_call 13; refine (CAt.out _).mono ?_; rintro e w1 ⟨v, rfl, hA, hb1⟩; have hA2 : Atms w1 v U := (by have := hA ys rfl; rwa [HU.out] at this); clear hA; have d0 : w1.cell? ⟨w.heap.size, 0, none⟩ = some (.int .i64 x1) := (hb1.cell (p := ⟨w.heap.size, 0, none⟩) (by simp)).trans (by simp); have d1 : w1.cell? ⟨w.heap.size, 1, none⟩ = some (.int .i64 x2) := (hb1.cell (p := ⟨w.heap.size, 1, none⟩) (by simp)).trans (by simp); have d2 : w1.cell? ⟨w.heap.size, 2, none⟩ = some (.int .i64 x3) := (hb1.cell (p := ⟨w.heap.size, 2, none⟩) (by simp)).trans (by simp); have d3 : w1.cell? ⟨w.heap.size, 3, none⟩ = some (.int .i64 x4) := (hb1.cell (p := ⟨w.heap.size, 3, none⟩) (by simp)).trans (by simp); obtain ⟨qa, qc, rfl⟩ := atms_shape hA2)
    | (at_make; refine wpList_make_full _ rfl _ _ 46 rfl (w1.heap.size + 1) 3 i0 (.int .i64 0) 1 Tryd.underlying46 hi hz0 hz1 .i64 .i64 _ _ U.length rfl rfl rfl rfl (by rw [hz2]; omega) (by unfold maxLen; omega) (by simp) ?_))
  intro w3 hown hgrow
  have hw1 : w.heap.size + 1 ≤ w1.heap.size := by have := hb1.size; simpa using this
  have hw1b : Below w.heap.size w w1 := (below_alloc w _).trans (hb1.mono (by simp))
  have e0 : ∀ (i : Nat), i < 5 → (w1.alloc (.cells #[.int .i64 0, .int .i64 x1, .int .i64 x2, .int .i64 x3, .int .i64 x4] 3)).cell? ⟨w1.heap.size, i, none⟩ = some (.int .i64 (xv x1 x2 x3 x4 (i : Int))) := by
    intro i hi
    match i, hi with
    | 0, _ => simp [xv]
    | 1, _ => simp [xv]
    | 2, _ => simp [xv]
    | 3, _ => simp [xv]
    | 4, _ => simp [xv]
  have hA3 : Atms (w1.alloc (.cells #[.int .i64 0, .int .i64 x1, .int .i64 x2, .int .i64 x3, .int .i64 x4] 3)) (.slice qa U.length qc) U := hA2.below (below_alloc _ _)
  have hw2b : Below w.heap.size w (w1.alloc (.cells #[.int .i64 0, .int .i64 x1, .int .i64 x2, .int .i64 x3, .int .i64 x4] 3)) := hw1b.alloc (by omega) _
  have hw2s : (w1.alloc (.cells #[.int .i64 0, .int .i64 x1, .int .i64 x2, .int .i64 x3, .int .i64 x4] 3)).heap.size = w1.heap.size + 1 := by simp
  generalize w1.alloc (.cells #[.int .i64 0, .int .i64 x1, .int .i64 x2, .int .i64 x3, .int .i64 x4] 3) = W2 at *
  have HW2 : Hid (W2.heap.size = w1.heap.size + 1) := hw2s
  clear hw2s
  have hBl : w1.heap.size < w1.heap.size + 1 := Nat.lt_succ_self _
  have HBB : Hid (w.heap.size ≤ w1.heap.size + 1) := by show _ ≤ _; omega
  generalize w1.heap.size + 1 = B at *
  have hown' : w3.ownsRow B 3 1 (.slice (some ⟨B, 0, none⟩) U.length U.length) U.length ((bys x1 x2 x3 x4 U).take 0 ++ List.replicate (U.length - 0) 0 |>.map iv) := by
    have h := hown
    rw [toList_madeCells_one] at h
    simpa [iv] using h
  have hb3 : Below B W2 w3 := (Below.refl _ W2).grown hgrow (by rw [HW2.out]; exact Nat.le_refl _) (by intro k h; cases h)
  have HE : Hid _ := e0
  clear hown hgrow hA2 d0 d1 d2 d3 hb1 hw1b e0
  go_wp2_with fail
  go_loopw [9] (fun i wr => ∃ k : Nat, i = .int .i64 (k : Int) ∧ k ≤ U.length ∧ wr.ownsRow B 3 1 (.slice (some ⟨B, 0, none⟩) U.length U.length) U.length ((bys x1 x2 x3 x4 U).take k ++ List.replicate (U.length - k) 0 |>.map iv) ∧ Below B W2 wr) (fun i _ => U.length - (intOf i).toNat)
  case atStart => exact ⟨0, rfl, Nat.zero_le _, hown', hb3⟩
  case round =>
    obtain ⟨k, rfl, hk, hown, hbw⟩ := hrel
    have hbl : (bys x1 x2 x3 x4 U).length = U.length := by simp [bys]
    by_cases hlt : k < U.length
    · obtain ⟨⟨a1, a2, a3⟩, ha⟩ : ∃ a, U[k]? = some a := ⟨_, List.getElem?_eq_getElem hlt⟩
      have hoa := HO.out _ (List.mem_of_getElem? ha)
      unfold okA at hoa
      dsimp only at hoa
      rcases hA3 with ⟨_, hA3⟩ | ⟨b, cap, hv, hc1, hc2, hb, hcells⟩
      · subst hA3; simp at hlt
      cases hv
      rw [HW2.out] at hb
      obtain ⟨z1, z2, z3⟩ := hcells k _ ha
      have y1 := (hbw.cell (p := ⟨b, k * 3, none⟩) hb).trans z1
      have y2 := (hbw.cell (p := ⟨b, k * 3 + 1, none⟩) hb).trans z2
      have y3 := (hbw.cell (p := ⟨b, k * 3 + 2, none⟩) hb).trans z3
      dsimp only at y1 y2 y3
      obtain ⟨u, rfl⟩ : ∃ u : Nat, a1 = (u : Int) := ⟨a1.toNat, by omega⟩
      obtain ⟨t, rfl⟩ : ∃ t : Nat, a2 = (t : Int) := ⟨a2.toNat, by omega⟩
      have c1 := (hbw.cell (p := ⟨w1.heap.size, u, none⟩) (by dsimp only; omega)).trans (HE.out u (by omega))
      have c2 := (hbw.cell (p := ⟨w1.heap.size, t, none⟩) (by dsimp only; omega)).trans (HE.out t (by omega))
      have hX := HXV.out (u : Int)
      have hY := HXV.out (t : Int)
      have HL : Hid ((bys x1 x2 x3 x4 U)[k]? = some (bi (decide (xv x1 x2 x3 x4 (u : Int) - xv x1 x2 x3 x4 (t : Int) ≤ a3)))) := by
        show _ = _
        unfold bys
        rw [List.getElem?_map, ha]; rfl
      have hu5 : (u : Int) < 5 := by omega
      have ht5 : (t : Int) < 5 := by omega
      have hlt' : (k : Int) < (U.length : Int) := by omega
      obtain ⟨g, cap', hgv, hg1, hg2, hg3, hg4, hg5, hg6⟩ := own_facts hown (by omega)
      cases hgv
      have f1 := hg6 k
      obtain ⟨old, ho⟩ : ∃ old, ((bys x1 x2 x3 x4 U).take k ++ List.replicate (U.length - k) 0 |>.map iv)[k]? = some old := ⟨_, List.getElem?_eq_getElem (by simp [hbl]; omega)⟩
      have f2 := hg5 k old ho
      clear hg5 hg6 z1 z2 z3 hcells ha ho
      generalize xv x1 x2 x3 x4 (u : Int) = X at *
      generalize xv x1 x2 x3 x4 (t : Int) = Y at *
      go_wp2_with fail
      go_quiet (fail)
      have hD := below_drewN (Below.refl wr.heap.size wr) nq
      have f1' := (hD.frozen (p := ⟨B, k, none⟩) hg2).trans f1
      have f2' := (hD.cell (p := ⟨B, k, none⟩) hg2).trans f2
      have hown2 := ownsRow_below hown hD
      have hbw2 := hbw.trans (hD.mono (by have := hbw.size; rw [HW2.out] at this; exact this))
      clear f1 f2 hown hbw hD y1 y2 y3 c1 c2
      generalize wr.drewN nq = WD at *
      by_cases hle : X - Y ≤ a3
      · have HL2 : Hid ((bys x1 x2 x3 x4 U)[k]? = some 1) := by show _ = _; rw [HL.out]; simp [bi, hle]
        go_wp2_with fail
        go_roundw
        case rel => exact ⟨k + 1, by go_num, by omega, by have := own_set hown2 k (iv 1); rw [← hbl, take_set_bys _ k 1 (by omega) HL2.out, hbl] at this; exact this, hbw2.setCell (p := ⟨B, k, none⟩) (Nat.le_refl _) _⟩
        case measure => simp [intOf]; omega
      · have HL2 : Hid ((bys x1 x2 x3 x4 U)[k]? = some 0) := by show _ = _; rw [HL.out]; simp [bi, hle]
        go_wp2_with fail
        go_roundw
        case rel =>
          refine ⟨k + 1, by go_num, by omega, ?_, hbw2⟩
          have := take_set_bys _ k 0 (by omega) HL2.out
          rw [hbl] at this
          rw [← this]
          rw [take_set_same _ k 0 (by omega) HL2.out hbl]
          exact hown2
        case measure => simp [intOf]; omega
    · have hkU : k = U.length := by omega
      subst hkU
      have hI : IntsR wr (.slice (some ⟨B, 0, none⟩) U.length U.length) (bys x1 x2 x3 x4 U) := by
        have : (List.take U.length (bys x1 x2 x3 x4 U) ++ List.replicate (U.length - U.length) 0) = bys x1 x2 x3 x4 U := by
          rw [Nat.sub_self, ← hbl, List.take_length]; simp
        rw [this] at hown
        exact own_ints (by rw [hbl]; exact hown)
      have hA4 := hA3.below (by rw [HW2.out]; exact hbw)
      clear hbl
      go_wp2_with (go_at_call 28; refine (CW.out _ _ _ hA4 hI).mono ?_; rintro e w5 ⟨rfl, hb5⟩)
      go_ret
      exact ⟨by rw [HV.out]; rfl, (hw2b.trans (hbw.mono HBB.out)).trans (hb5.mono (by have := hw2b.size; have := hbw.size; omega))⟩
end Go.Proofs.YtkinoehmcfhgbaaDoor.Vl
