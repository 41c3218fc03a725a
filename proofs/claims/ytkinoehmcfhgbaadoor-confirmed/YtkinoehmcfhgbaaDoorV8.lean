/-
  The walks of the document's valued and Value.
  What a condition comes to at a state, as the program reckons it, is what the document says: plain words alone.
  What is known of a condition by what is known of its atoms, as the program reckons it, is what the document says: plain words alone.
  The walks of the program's truthOf, Truth.Not, Both and Either.
  The map of what is assumed: atoms to truths.
-/
import Derived.Test.YtkinoehmcfhgbaaDoorV6
import Derived.DeepKeys5
import Derived.Maps.Own
import Derived.Maps.Views
set_option linter.unusedVariables false
set_option linter.unusedSimpArgs false
namespace Go.Proofs.YtkinoehmcfhgbaaDoor.Vl
open Go.RowKit

/-- What an atom's side is at a state. -/
def xv (x1 x2 x3 x4 : Int) (i : Int) : Int := if i = 0 then 0 else if i = 1 then x1 else if i = 2 then x2 else if i = 3 then x3 else x4
def hld (x1 x2 x3 x4 : Int) (a : Atm) : Bool := decide (xv x1 x2 x3 x4 a.1 - xv x1 x2 x3 x4 a.2.1 ≤ a.2.2)
def bi (b : Bool) : Int := if b then 1 else 0
def bys (x1 x2 x3 x4 : Int) (U : List Atm) : List Int := U.map fun a => bi (hld x1 x2 x3 x4 a)
/-- What valued answers. -/
def val (x1 x2 x3 x4 : Int) (ys : List Sym) : Bool := (wrun (uqs ys) (bys x1 x2 x3 x4 (uqs ys)) ys).headD 0 == 1

theorem xv_range {x1 x2 x3 x4 : Int} (h : gds x1 x2 x3 x4 = true) (i : Int) : -1000000000 ≤ xv x1 x2 x3 x4 i ∧ xv x1 x2 x3 x4 i ≤ 1000000000 := by
  simp only [gds, gd, Bool.and_eq_true, decide_eq_true_eq] at h
  unfold xv
  repeat' split
  all_goals omega
theorem nmb_mem : ∀ (l : List Atm) (a : Atm) (i : Int), (nmb l a i = -1 ∧ a ∉ l) ∨ (a ∈ l ∧ i ≤ nmb l a i ∧ nmb l a i < i + l.length)
  | [], a, i => Or.inl ⟨rfl, by simp⟩
  | x :: r, a, i => by
    simp only [nmb]
    split
    · rename_i h; subst h; exact Or.inr ⟨by simp, by omega, by simp; omega⟩
    · rename_i h
      rcases nmb_mem r a (i + 1) with ⟨h1, h2⟩ | ⟨h1, h2, h3⟩
      · exact Or.inl ⟨h1, by simp [h2]; exact fun e => h e.symm⟩
      · exact Or.inr ⟨by simp [h1], by omega, by simp only [List.length_cons]; omega⟩
theorem addA_sub (l : List Atm) (y : Sym) : ∀ a ∈ l, a ∈ addA l y := by
  intro a ha; unfold addA; repeat' split
  all_goals simp [ha]
theorem foldA_sub : ∀ (ds : List Sym) (l : List Atm), (∀ a ∈ l, a ∈ ds.foldl addA l) ∧ ∀ y ∈ ds, y.1 = 6 → y.2 ∈ ds.foldl addA l
  | [], l => ⟨fun a h => h, fun y h => by simp at h⟩
  | d :: r, l => by
    have ih := foldA_sub r (addA l d)
    refine ⟨fun a h => ih.1 a (addA_sub l d a h), fun y hy h6 => ?_⟩
    rcases List.mem_cons.1 hy with rfl | hy
    · apply ih.1
      unfold addA
      rw [if_pos h6]
      split
      · simp
      · rename_i h
        rcases nmb_mem l y.2 0 with ⟨h1, _⟩ | ⟨h1, _⟩
        · omega
        · exact h1
    · exact ih.2 y hy h6
theorem uqs_in (ys : List Sym) : ∀ y ∈ ys, y.1 = 6 → 0 ≤ nmb (uqs ys) y.2 0 ∧ nmb (uqs ys) y.2 0 < (uqs ys).length := by
  intro y hy h6
  have hm : y.2 ∈ uqs ys := (foldA_sub ys []).2 y hy h6
  rcases nmb_mem (uqs ys) y.2 0 with ⟨_, h2⟩ | ⟨_, h2, h3⟩
  · exact absurd hm h2
  · omega
theorem foldA_len : ∀ (ds : List Sym) (l : List Atm), (ds.foldl addA l).length ≤ l.length + ds.length
  | [], l => by simp
  | d :: r, l => by
    have ih := foldA_len r (addA l d)
    have : (addA l d).length ≤ l.length + 1 := by unfold addA; repeat' split
                                                  all_goals simp
    simp only [List.foldl_cons, List.length_cons]; omega
theorem foldA_all (p : Atm → Prop) : ∀ (ds : List Sym) (l : List Atm), (∀ a ∈ l, p a) → (∀ y ∈ ds, y.1 = 6 → p y.2) → ∀ a ∈ ds.foldl addA l, p a
  | [], l, h, _ => h
  | d :: r, l, h, hd => by
    refine foldA_all p r (addA l d) ?_ (fun y hy => hd y (by simp [hy]))
    intro a ha
    unfold addA at ha
    split at ha
    · rename_i h6
      split at ha
      · rcases List.mem_append.1 ha with ha | ha
        · exact h a ha
        · rw [List.mem_singleton] at ha; subst ha; exact hd d (by simp) h6
      · exact h a ha
    · exact h a ha
def okA (a : Atm) : Prop := 0 ≤ a.1 ∧ a.1 ≤ 4 ∧ 0 ≤ a.2.1 ∧ a.2.1 ≤ 4 ∧ -999999 ≤ a.2.2 ∧ a.2.2 ≤ 999999
theorem pos_ok {s : ByteArray} : ∀ (ys : List Sym) (k : Nat) (m : Int) (ps : List Nat), Pos s k m ys ps → ∀ y ∈ ys, y.1 = 6 → okA y.2
  | [], k, m, ps, h => by intro y hy; cases hy
  | y :: r, k, m, ps, h => by
    obtain ⟨j, ps', rfl, hk, hm0, hs, hp⟩ := h
    intro z hz h6
    rcases List.mem_cons.1 hz with rfl | hz
    · rcases sym_kind hk hs with ⟨h0, rfl, _⟩ | ⟨_, a, rfl, ha⟩
      · have := mk_le (s[k].toNat : Int); dsimp only at h6; omega
      · have := atm_facts ha; unfold okA; dsimp only; omega
    · exact pos_ok r _ _ ps' hp z hz h6
theorem pos_len {s : ByteArray} : ∀ (ys : List Sym) (k : Nat) (m : Int) (ps : List Nat), Pos s k m ys ps → k + ys.length ≤ s.size
  | [], k, m, ps, h => by obtain ⟨_, h, _⟩ := h; simp; omega
  | y :: r, k, m, ps, h => by
    obtain ⟨j, ps', rfl, hk, hm0, hs, hp⟩ := h
    have := pos_len r _ _ ps' hp
    have := sym_facts hs
    simp only [List.length_cons]; omega
theorem pars_facts {s : ByteArray} {ys : List Sym} (h : pars s = some ys) : s.size ≤ 4000 ∧ prsA 1 (rest s 0) = some ys ∧ (uqs ys).length ≤ 4000 ∧ ∀ a ∈ uqs ys, okA a := by
  unfold pars at h
  split at h
  · cases h
  · rename_i hs
    have hp : prsA 1 (rest s 0) = some ys := h
    obtain ⟨ps, hps⟩ := pos_of s ys 0 1 (Nat.zero_le _) hp
    have h1 := pos_len ys 0 1 ps hps
    have h2 := foldA_len ys []
    refine ⟨by omega, hp, by unfold uqs; simp at h2; omega, foldA_all okA ys [] (by simp) (pos_ok ys 0 1 ps hps)⟩

theorem take_set_bys (bs : List Int) (k : Nat) (x : Int) (hk : k < bs.length) (hx : bs[k]? = some x) : ((bs.take k ++ List.replicate (bs.length - k) 0).map iv).set k (iv x) = (bs.take (k + 1) ++ List.replicate (bs.length - (k + 1)) 0).map iv := by
  have e1 : List.replicate (bs.length - k) (0 : Int) = 0 :: List.replicate (bs.length - (k + 1)) 0 := by
    rw [show bs.length - k = (bs.length - (k + 1)) + 1 by omega, List.replicate_succ]
  have e2 : bs.take (k + 1) = bs.take k ++ [x] := by
    rw [List.take_add_one, hx]; rfl
  rw [e1, e2, List.map_append, List.map_cons, List.set_append]
  rw [if_neg (by simp; omega)]
  have : k - (List.map iv (List.take k bs)).length = 0 := by simp; omega
  rw [this]
  simp

theorem take_set_same (bs : List Int) (k : Nat) (x : Int) (hk : k < bs.length) (hx : bs[k]? = some 0) {L : Nat} (hL : bs.length = L) : ((bs.take k ++ List.replicate (L - k) 0).map iv).set k (iv 0) = (bs.take k ++ List.replicate (L - k) 0).map iv := by
  subst hL
  have e1 : List.replicate (bs.length - k) (0 : Int) = 0 :: List.replicate (bs.length - (k + 1)) 0 := by
    rw [show bs.length - k = (bs.length - (k + 1)) + 1 by omega, List.replicate_succ]
  rw [e1, List.map_append, List.map_cons, List.set_append]
  rw [if_neg (by simp; omega)]
  have : k - (List.map iv (List.take k bs)).length = 0 := by simp; omega
  rw [this]; rfl
theorem atms_shape {w : World} {v : Value} {ls : List Atm} (h : Atms w v ls) : ∃ q c, v = .slice q ls.length c := by
  rcases h with ⟨h1, h2⟩ | ⟨b, cap, hv, _⟩
  · subst h2; exact ⟨none, 0, h1⟩
  · exact ⟨_, _, hv⟩

set_option maxRecDepth 100000 in
set_option maxHeartbeats 2000000 in
theorem valued_any (s : ByteArray) (x1 x2 x3 x4 : Int) (ys : List Sym) (w : World) (hmax : s.size ≤ maxLen) (hp : pars s = some ys) (hg : gds x1 x2 x3 x4 = true) :
    Calls Tryd.prog 15 #[.string s, stV x1 x2 x3 x4] w fun e w' => e = .returned (.bool (val x1 x2 x3 x4 ys)) ∧ Below w.heap.size w w' := by
  obtain ⟨hs, hprs, hul, hok⟩ := pars_facts hp
  have CAt : Hid (∀ w, Calls Tryd.prog 13 #[.string s] w fun e w' => AtmsEnd w (some ys) e w') := fun w => by rw [← hp]; exact Atoms_any s w hmax
  have HV : Hid (val x1 x2 x3 x4 ys = ((wrun (uqs ys) (bys x1 x2 x3 x4 (uqs ys)) ys).headD 0 == 1)) := rfl
  have CW : Hid (∀ w v1 v2, Atms w v1 (uqs ys) → IntsR w v2 (bys x1 x2 x3 x4 (uqs ys)) → Calls Tryd.prog 28 #[.string s, v1, v2] w fun e w' => e = .returned (.int .i64 ((wrun (uqs ys) (bys x1 x2 x3 x4 (uqs ys)) ys).headD 0)) ∧ Below w.heap.size w w') := fun w v1 v2 h1 h2 =>
    worth_any s v1 v2 (uqs ys) (bys x1 x2 x3 x4 (uqs ys)) ys w hs hprs h1 h2 (by simp [bys]) hul (by intro x hx; simp only [bys, List.mem_map] at hx; obtain ⟨a, _, rfl⟩ := hx; unfold bi; split <;> omega) (uqs_in ys)
  generalize hU : uqs ys = U at *
  have HU : Hid _ := hU
  generalize (wrun U (bys x1 x2 x3 x4 U) ys).headD 0 = WV at *
  have HO : Hid _ := hok
  have HXV : Hid _ := xv_range hg
  clear hU hok hp hprs hg
  obtain ⟨i0, hi, hz0, hz1, hz2⟩ := info_parts Tryd.infoInt
  unfold stV
  go_enter Tryd.func15, Tryd.ntmps15
  go_wp2_with (first
    | (go_at_call 13; refine (CAt.out _).mono ?_; rintro e w1 ⟨v, rfl, hA, hb1⟩; have hA2 : Atms w1 v U := (by have := hA ys rfl; rwa [HU.out] at this); clear hA; have d0 : w1.cell? ⟨w.heap.size, 0, none⟩ = some (.int .i64 x1) := (hb1.cell (p := ⟨w.heap.size, 0, none⟩) (by simp)).trans (by simp); have d1 : w1.cell? ⟨w.heap.size, 1, none⟩ = some (.int .i64 x2) := (hb1.cell (p := ⟨w.heap.size, 1, none⟩) (by simp)).trans (by simp); have d2 : w1.cell? ⟨w.heap.size, 2, none⟩ = some (.int .i64 x3) := (hb1.cell (p := ⟨w.heap.size, 2, none⟩) (by simp)).trans (by simp); have d3 : w1.cell? ⟨w.heap.size, 3, none⟩ = some (.int .i64 x4) := (hb1.cell (p := ⟨w.heap.size, 3, none⟩) (by simp)).trans (by simp); obtain ⟨qa, qc, rfl⟩ := atms_shape hA2)
    | (at_make; refine wpList_make_full _ rfl _ _ 46 rfl (w1.heap.size + 1) 3 i0 (.int .i64 0) 1 Tryd.underlying46 hi hz0 hz1 .i64 .i64 _ _ U.length rfl rfl rfl rfl (by rw [hz2]; omega) (by unfold maxLen; omega) (by simp) ?_))
  intro w3 hown hgrow
  have hw1 : w.heap.size + 1 ≤ w1.heap.size := by have := hb1.size; simpa using this
  have hw1b : Below w.heap.size w w1 := (below_alloc w _).trans (hb1.mono (by simp))
  have e0 : ∀ (i : Nat), i < 5 → (w1.alloc (.cells #[.int .i64 0, .int .i64 x1, .int .i64 x2, .int .i64 x3, .int .i64 x4] 3)).cell? ⟨w1.heap.size, i, none⟩ = some (.int .i64 (xv x1 x2 x3 x4 (i : Int))) := by
    intro i hi
    match i, hi with
    | 0, _ => simp [xv]
    | 1, _ => simp [xv]
    | 2, _ => simp [xv]
    | 3, _ => simp [xv]
    | 4, _ => simp [xv]
  have hA3 : Atms (w1.alloc (.cells #[.int .i64 0, .int .i64 x1, .int .i64 x2, .int .i64 x3, .int .i64 x4] 3)) (.slice qa U.length qc) U := hA2.below (below_alloc _ _)
  have hw2b : Below w.heap.size w (w1.alloc (.cells #[.int .i64 0, .int .i64 x1, .int .i64 x2, .int .i64 x3, .int .i64 x4] 3)) := hw1b.alloc (by omega) _
  have hw2s : (w1.alloc (.cells #[.int .i64 0, .int .i64 x1, .int .i64 x2, .int .i64 x3, .int .i64 x4] 3)).heap.size = w1.heap.size + 1 := by simp
  generalize w1.alloc (.cells #[.int .i64 0, .int .i64 x1, .int .i64 x2, .int .i64 x3, .int .i64 x4] 3) = W2 at *
  have HW2 : Hid (W2.heap.size = w1.heap.size + 1) := hw2s
  clear hw2s
  have hBl : w1.heap.size < w1.heap.size + 1 := Nat.lt_succ_self _
  have HBB : Hid (w.heap.size ≤ w1.heap.size + 1) := by show _ ≤ _; omega
  generalize w1.heap.size + 1 = B at *
  have hown' : w3.ownsRow B 3 1 (.slice (some ⟨B, 0, none⟩) U.length U.length) U.length ((bys x1 x2 x3 x4 U).take 0 ++ List.replicate (U.length - 0) 0 |>.map iv) := by
    have h := hown
    rw [toList_madeCells_one] at h
    simpa [iv] using h
  have hb3 : Below B W2 w3 := (Below.refl _ W2).grown hgrow (by rw [HW2.out]; exact Nat.le_refl _) (by intro k h; cases h)
  have HE : Hid _ := e0
  clear hown hgrow hA2 d0 d1 d2 d3 hb1 hw1b e0
  go_wp2_with fail
  go_loopw [9] (fun i wr => ∃ k : Nat, i = .int .i64 (k : Int) ∧ k ≤ U.length ∧ wr.ownsRow B 3 1 (.slice (some ⟨B, 0, none⟩) U.length U.length) U.length ((bys x1 x2 x3 x4 U).take k ++ List.replicate (U.length - k) 0 |>.map iv) ∧ Below B W2 wr) (fun i _ => U.length - (intOf i).toNat)
  case atStart => exact ⟨0, rfl, Nat.zero_le _, hown', hb3⟩
  case round =>
    obtain ⟨k, rfl, hk, hown, hbw⟩ := hrel
    have hbl : (bys x1 x2 x3 x4 U).length = U.length := by simp [bys]
    by_cases hlt : k < U.length
    · obtain ⟨⟨a1, a2, a3⟩, ha⟩ : ∃ a, U[k]? = some a := ⟨_, List.getElem?_eq_getElem hlt⟩
      have hoa := HO.out _ (List.mem_of_getElem? ha)
      unfold okA at hoa
      dsimp only at hoa
      rcases hA3 with ⟨_, hA3⟩ | ⟨b, cap, hv, hc1, hc2, hb, hcells⟩
      · subst hA3; simp at hlt
      cases hv
      rw [HW2.out] at hb
      obtain ⟨z1, z2, z3⟩ := hcells k _ ha
      have y1 := (hbw.cell (p := ⟨b, k * 3, none⟩) hb).trans z1
      have y2 := (hbw.cell (p := ⟨b, k * 3 + 1, none⟩) hb).trans z2
      have y3 := (hbw.cell (p := ⟨b, k * 3 + 2, none⟩) hb).trans z3
      dsimp only at y1 y2 y3
      obtain ⟨u, rfl⟩ : ∃ u : Nat, a1 = (u : Int) := ⟨a1.toNat, by omega⟩
      obtain ⟨t, rfl⟩ : ∃ t : Nat, a2 = (t : Int) := ⟨a2.toNat, by omega⟩
      have c1 := (hbw.cell (p := ⟨w1.heap.size, u, none⟩) (by dsimp only; omega)).trans (HE.out u (by omega))
      have c2 := (hbw.cell (p := ⟨w1.heap.size, t, none⟩) (by dsimp only; omega)).trans (HE.out t (by omega))
      have hX := HXV.out (u : Int)
      have hY := HXV.out (t : Int)
      have HL : Hid ((bys x1 x2 x3 x4 U)[k]? = some (bi (decide (xv x1 x2 x3 x4 (u : Int) - xv x1 x2 x3 x4 (t : Int) ≤ a3)))) := by
        show _ = _
        unfold bys
        rw [List.getElem?_map, ha]; rfl
      have hu5 : (u : Int) < 5 := by omega
      have ht5 : (t : Int) < 5 := by omega
      have hlt' : (k : Int) < (U.length : Int) := by omega
      obtain ⟨g, cap', hgv, hg1, hg2, hg3, hg4, hg5, hg6⟩ := own_facts hown (by omega)
      cases hgv
      have f1 := hg6 k
      obtain ⟨old, ho⟩ : ∃ old, ((bys x1 x2 x3 x4 U).take k ++ List.replicate (U.length - k) 0 |>.map iv)[k]? = some old := ⟨_, List.getElem?_eq_getElem (by simp [hbl]; omega)⟩
      have f2 := hg5 k old ho
      clear hg5 hg6 z1 z2 z3 hcells ha ho
      generalize xv x1 x2 x3 x4 (u : Int) = X at *
      generalize xv x1 x2 x3 x4 (t : Int) = Y at *
      go_wp2_with fail
      go_quiet (fail)
      have hD := below_drewN (Below.refl wr.heap.size wr) nq
      have f1' := (hD.frozen (p := ⟨B, k, none⟩) hg2).trans f1
      have f2' := (hD.cell (p := ⟨B, k, none⟩) hg2).trans f2
      have hown2 := ownsRow_below hown hD
      have hbw2 := hbw.trans (hD.mono (by have := hbw.size; rw [HW2.out] at this; exact this))
      clear f1 f2 hown hbw hD y1 y2 y3 c1 c2
      generalize wr.drewN nq = WD at *
      by_cases hle : X - Y ≤ a3
      · have HL2 : Hid ((bys x1 x2 x3 x4 U)[k]? = some 1) := by show _ = _; rw [HL.out]; simp [bi, hle]
        go_wp2_with fail
        go_roundw
        case rel => exact ⟨k + 1, by go_num, by omega, by have := own_set hown2 k (iv 1); rw [← hbl, take_set_bys _ k 1 (by omega) HL2.out, hbl] at this; exact this, hbw2.setCell (p := ⟨B, k, none⟩) (Nat.le_refl _) _⟩
        case measure => simp [intOf]; omega
      · have HL2 : Hid ((bys x1 x2 x3 x4 U)[k]? = some 0) := by show _ = _; rw [HL.out]; simp [bi, hle]
        go_wp2_with fail
        go_roundw
        case rel =>
          refine ⟨k + 1, by go_num, by omega, ?_, hbw2⟩
          have := take_set_bys _ k 0 (by omega) HL2.out
          rw [hbl] at this
          rw [← this]
          rw [take_set_same _ k 0 (by omega) HL2.out hbl]
          exact hown2
        case measure => simp [intOf]; omega
    · have hkU : k = U.length := by omega
      subst hkU
      have hI : IntsR wr (.slice (some ⟨B, 0, none⟩) U.length U.length) (bys x1 x2 x3 x4 U) := by
        have : (List.take U.length (bys x1 x2 x3 x4 U) ++ List.replicate (U.length - U.length) 0) = bys x1 x2 x3 x4 U := by
          rw [Nat.sub_self, ← hbl, List.take_length]; simp
        rw [this] at hown
        exact own_ints (by rw [hbl]; exact hown)
      have hA4 := hA3.below (by rw [HW2.out]; exact hbw)
      clear hbl
      go_wp2_with (go_at_call 28; refine (CW.out _ _ _ hA4 hI).mono ?_; rintro e w5 ⟨rfl, hb5⟩)
      go_ret
      exact ⟨by rw [HV.out]; rfl, (hw2b.trans (hbw.mono HBB.out)).trans (hb5.mono (by have := hw2b.size; have := hbw.size; omega))⟩
end Go.Proofs.YtkinoehmcfhgbaaDoor.Vl
set_option linter.unusedVariables false
set_option linter.unusedSimpArgs false
namespace Go.Proofs.YtkinoehmcfhgbaaDoor.Vl
open Go.RowKit

/-- The value of a symbol by those of its parts: the first part's (on top), the second's. -/
def bval (x1 x2 x3 x4 : Int) (y : Sym) (t u : Bool) : Bool :=
  if y.1 = 0 then true else if y.1 = 2 then !t else if y.1 = 3 then t && u else if y.1 = 4 then t || u else if y.1 = 5 then !t || u else if y.1 = 6 then hld x1 x2 x3 x4 y.2 else false
/-- One symbol: its parts' values lie on the stack (the first part's on top). -/
def bst (x1 x2 x3 x4 : Int) (y : Sym) (st : List Bool) : List Bool := bval x1 x2 x3 x4 y (st.headD false) (st.tail.headD false) :: st.drop (prt y.1).toNat
def brun (x1 x2 x3 x4 : Int) (ys : List Sym) : List Bool := ys.foldr (bst x1 x2 x3 x4) []
theorem brun_cons (x1 x2 x3 x4 : Int) (y : Sym) (r : List Sym) : brun x1 x2 x3 x4 (y :: r) = bst x1 x2 x3 x4 y (brun x1 x2 x3 x4 r) := rfl
theorem brun_le (x1 x2 x3 x4 : Int) : ∀ ys : List Sym, (brun x1 x2 x3 x4 ys).length ≤ ys.length
  | [] => Nat.le_refl _
  | y :: r => by
    have h2 := brun_le x1 x2 x3 x4 r
    rw [brun_cons, List.length_cons]; unfold bst; simp; omega
theorem brun_len {s : ByteArray} (x1 x2 x3 x4 : Int) : ∀ (ys : List Sym) (k : Nat) (m : Int) (ps : List Nat), Pos s k m ys ps → 0 ≤ m → ((brun x1 x2 x3 x4 ys).length : Int) = m
  | [], k, m, ps, h, _ => by obtain ⟨_, _, rfl⟩ := h; rfl
  | y :: r, k, m, ps, h, hm => by
    obtain ⟨j, ps', rfl, hk, hm0, hs, hp⟩ := h
    have hpr := prt_range y.1
    have ih := brun_len x1 x2 x3 x4 r (k + j) _ ps' hp (by omega)
    rw [brun_cons]; unfold bst
    rw [List.length_cons, List.length_drop]; omega
theorem bpos_at {s : ByteArray} (x1 x2 x3 x4 : Int) : ∀ (ys : List Sym) (k : Nat) (m : Int) (ps : List Nat), Pos s k m ys ps → 0 ≤ m → ∀ n, n < ys.length →
    ∃ y, ys[n]? = some y ∧ 0 ≤ y.1 ∧ y.1 ≤ 6 ∧ (y.1 = 6 → okA y.2) ∧ prt y.1 ≤ (brun x1 x2 x3 x4 (ys.drop (n + 1))).length
  | [], k, m, ps, h, _ => by intro n hn; simp at hn
  | y :: r, k, m, ps, h, hm => by
    have hok := pos_ok (y :: r) k m ps h
    obtain ⟨j, ps', rfl, hk, hm0, hs, hp⟩ := h
    have hpr := prt_range y.1
    intro n hn
    cases n with
    | zero =>
      have := brun_len x1 x2 x3 x4 r (k + j) _ ps' hp (by omega)
      have hr := kind_range hk hs
      exact ⟨y, rfl, hr.1, hr.2, hok y (by simp), by simp only [Nat.zero_add, List.drop_succ_cons, List.drop_zero]; omega⟩
    | succ n =>
      obtain ⟨z, h1, h2, h3, h4, h5⟩ := bpos_at x1 x2 x3 x4 r (k + j) _ ps' hp (by omega) n (by simpa using hn)
      exact ⟨z, by simpa using h1, h2, h3, h4, by simpa using h5⟩
theorem bi_tbl_and (a b : Bool) : tbl 38 (bi a) (bi b) = bi (a && b) := by cases a <;> cases b <;> rfl
theorem bi_tbl_or (a b : Bool) : tbl 124 (bi a) (bi b) = bi (a || b) := by cases a <;> cases b <;> rfl
theorem bi_tbl_imp (a b : Bool) : tbl 62 (bi a) (bi b) = bi (!a || b) := by cases a <;> cases b <;> rfl
theorem bi_not (a : Bool) : (if bi a < 2 then 1 - bi a else bi a) = bi (!a) := by cases a <;> rfl
theorem wst_bst (x1 x2 x3 x4 : Int) (ls : List Atm) (bs : List Int) (y : Sym) (st : List Bool) (h0 : 0 ≤ y.1) (h6 : y.1 ≤ 6) (hd : prt y.1 ≤ st.length)
    (ha : y.1 = 6 → bs.getD (nmb ls y.2 0).toNat 0 = bi (hld x1 x2 x3 x4 y.2)) : wst ls bs y (st.map bi) = (bst x1 x2 x3 x4 y st).map bi := by
  obtain ⟨q, a⟩ := y
  dsimp only at *
  have hq : q = 0 ∨ q = 1 ∨ q = 6 ∨ q = 2 ∨ q = 3 ∨ q = 4 ∨ q = 5 := by omega
  rcases hq with rfl | rfl | rfl | rfl | rfl | rfl | rfl
  · rfl
  · rfl
  · show bs.getD (nmb ls a 0).toNat 0 :: st.map bi = bi (hld x1 x2 x3 x4 a) :: st.map bi
    rw [ha rfl]
  · match st, hd with
    | [], h => exact absurd h (by decide)
    | x :: r, _ =>
      show (if bi x < 2 then 1 - bi x else bi x) :: r.map bi = bi (!x) :: r.map bi
      rw [bi_not]
  · match st, hd with
    | [], h => exact absurd h (by decide)
    | [x], h => simp [prt] at h
    | x :: z :: r, _ =>
      show tbl 38 (bi x) (bi z) :: r.map bi = bi (x && z) :: r.map bi
      rw [bi_tbl_and]
  · match st, hd with
    | [], h => exact absurd h (by decide)
    | [x], h => simp [prt] at h
    | x :: z :: r, _ =>
      show tbl 124 (bi x) (bi z) :: r.map bi = bi (x || z) :: r.map bi
      rw [bi_tbl_or]
  · match st, hd with
    | [], h => exact absurd h (by decide)
    | [x], h => simp [prt] at h
    | x :: z :: r, _ =>
      show tbl 62 (bi x) (bi z) :: r.map bi = bi (!x || z) :: r.map bi
      rw [bi_tbl_imp]
theorem wrun_brun {s : ByteArray} (x1 x2 x3 x4 : Int) (ls : List Atm) (bs : List Int) : ∀ (ys : List Sym) (k : Nat) (m : Int) (ps : List Nat), Pos s k m ys ps → 0 ≤ m →
    (∀ y ∈ ys, y.1 = 6 → bs.getD (nmb ls y.2 0).toNat 0 = bi (hld x1 x2 x3 x4 y.2)) → wrun ls bs ys = (brun x1 x2 x3 x4 ys).map bi
  | [], k, m, ps, h, _, _ => rfl
  | y :: r, k, m, ps, h, hm, ha => by
    obtain ⟨j, ps', rfl, hk, hm0, hs, hp⟩ := h
    have hpr := prt_range y.1
    have hr := kind_range hk hs
    have hl := brun_len x1 x2 x3 x4 r (k + j) _ ps' hp (by omega)
    rw [wrun_cons, brun_cons, wrun_brun x1 x2 x3 x4 ls bs r (k + j) _ ps' hp (by omega) (fun z hz => ha z (by simp [hz]))]
    exact wst_bst x1 x2 x3 x4 ls bs y _ hr.1 hr.2 (by omega) (ha y (by simp))
theorem nmb_get : ∀ (l : List Atm) (a : Atm) (i : Int), a ∈ l → l[(nmb l a i - i).toNat]? = some a
  | [], a, i, h => by cases h
  | x :: r, a, i, h => by
    simp only [nmb]
    split
    · rename_i e; subst e; simp
    · rename_i e
      have ha : a ∈ r := by
        rcases List.mem_cons.1 h with h | h
        · exact absurd h.symm e
        · exact h
      have ih := nmb_get r a (i + 1) ha
      rcases nmb_mem r a (i + 1) with ⟨_, h2⟩ | ⟨_, h2, h3⟩
      · exact absurd ha h2
      · have e2 : (nmb r a (i + 1) - i).toNat = (nmb r a (i + 1) - (i + 1)).toNat + 1 := by omega
        rw [e2, List.getElem?_cons_succ]; exact ih
theorem val_brun {s : ByteArray} {ys : List Sym} (x1 x2 x3 x4 : Int) (h : pars s = some ys) : ∃ b, brun x1 x2 x3 x4 ys = [b] ∧ val x1 x2 x3 x4 ys = b := by
  obtain ⟨hs, hp, _, _⟩ := pars_facts h
  obtain ⟨ps, hps⟩ := pos_of s ys 0 1 (Nat.zero_le _) hp
  have hl := brun_len x1 x2 x3 x4 ys 0 1 ps hps (by omega)
  have hw := wrun_brun x1 x2 x3 x4 (uqs ys) (bys x1 x2 x3 x4 (uqs ys)) ys 0 1 ps hps (by omega) (fun y hy h6 => by
    have hm : y.2 ∈ uqs ys := (foldA_sub ys []).2 y hy h6
    have hg := nmb_get (uqs ys) y.2 0 hm
    rw [Int.sub_zero] at hg
    unfold bys
    rw [List.getD_eq_getElem?_getD, List.getElem?_map, hg]; rfl)
  match hb : brun x1 x2 x3 x4 ys, hl with
  | [], h => simp at h
  | [b], _ =>
    refine ⟨b, rfl, ?_⟩
    unfold val
    rw [hw, hb]
    cases b <;> rfl
  | x :: z :: r, h => simp at h; omega
end Go.Proofs.YtkinoehmcfhgbaaDoor.Vl
set_option linter.unusedVariables false
set_option linter.unusedSimpArgs false
namespace Go.Proofs.YtkinoehmcfhgbaaDoor.Vl
open Go.RowKit

/-- Truths: 0 open, 1 holds, 2 fails. -/
def tnot (t : Int) : Int := if t = 1 then 2 else if t = 2 then 1 else 0
def tboth (t u : Int) : Int := if t = 2 ∨ u = 2 then 2 else if t = 1 ∧ u = 1 then 1 else 0
def teith (t u : Int) : Int := tnot (tboth (tnot t) (tnot u))
def tof (b : Bool) : Int := if b then 1 else 2
/-- A truth is one of three. -/
def T3 (t : Int) : Prop := t = 0 ∨ t = 1 ∨ t = 2
theorem t3_not (t : Int) : T3 (tnot t) := by unfold T3 tnot; split; · omega
                                             · split <;> omega
theorem t3_both (t u : Int) : T3 (tboth t u) := by unfold T3 tboth; split; · omega
                                                   · split <;> omega
theorem t3_of (b : Bool) : T3 (tof b) := by cases b <;> simp [T3, tof]
/-- What is known of a symbol by what is known of its parts: the first part's (on top), the second's. -/
def tval (kn : Atm → Int) (y : Sym) (t u : Int) : Int :=
  if y.1 = 0 then 1 else if y.1 = 2 then tnot t else if y.1 = 3 then tboth t u else if y.1 = 4 then teith t u else if y.1 = 5 then teith (tnot t) u else if y.1 = 6 then kn y.2 else 2
def tst (kn : Atm → Int) (y : Sym) (st : List Int) : List Int := tval kn y (st.headD 0) (st.tail.headD 0) :: st.drop (prt y.1).toNat
def trun (kn : Atm → Int) (ys : List Sym) : List Int := ys.foldr (tst kn) []
theorem trun_cons (kn : Atm → Int) (y : Sym) (r : List Sym) : trun kn (y :: r) = tst kn y (trun kn r) := rfl
theorem tval_t3 {kn : Atm → Int} (hk : ∀ a, T3 (kn a)) (y : Sym) (t u : Int) : T3 (tval kn y t u) := by
  unfold tval
  split; · right; left; rfl
  split; · exact t3_not _
  split; · exact t3_both _ _
  split; · exact t3_not _
  split; · exact t3_not _
  split; · exact hk _
  right; right; rfl
theorem trun_t3 {kn : Atm → Int} (hk : ∀ a, T3 (kn a)) : ∀ (ys : List Sym), ∀ x ∈ trun kn ys, T3 x
  | [], x, h => by cases h
  | y :: r, x, h => by
    rw [trun_cons] at h; unfold tst at h
    rcases List.mem_cons.1 h with rfl | h
    · exact tval_t3 hk _ _ _
    · exact trun_t3 hk r x (List.mem_of_mem_drop h)
theorem trun_le (kn : Atm → Int) : ∀ ys : List Sym, (trun kn ys).length ≤ ys.length
  | [] => Nat.le_refl _
  | y :: r => by
    have h2 := trun_le kn r
    rw [trun_cons, List.length_cons]; unfold tst; simp; omega
theorem trun_len {s : ByteArray} (kn : Atm → Int) : ∀ (ys : List Sym) (k : Nat) (m : Int) (ps : List Nat), Pos s k m ys ps → 0 ≤ m → ((trun kn ys).length : Int) = m
  | [], k, m, ps, h, _ => by obtain ⟨_, _, rfl⟩ := h; rfl
  | y :: r, k, m, ps, h, hm => by
    obtain ⟨j, ps', rfl, hk, hm0, hs, hp⟩ := h
    have hpr := prt_range y.1
    have ih := trun_len kn r (k + j) _ ps' hp (by omega)
    rw [trun_cons]; unfold tst
    rw [List.length_cons, List.length_drop]; omega
theorem tpos_at {s : ByteArray} (kn : Atm → Int) : ∀ (ys : List Sym) (k : Nat) (m : Int) (ps : List Nat), Pos s k m ys ps → 0 ≤ m → ∀ n, n < ys.length →
    ∃ y, ys[n]? = some y ∧ 0 ≤ y.1 ∧ y.1 ≤ 6 ∧ (y.1 = 6 → okA y.2) ∧ prt y.1 ≤ (trun kn (ys.drop (n + 1))).length
  | [], k, m, ps, h, _ => by intro n hn; simp at hn
  | y :: r, k, m, ps, h, hm => by
    have hok := pos_ok (y :: r) k m ps h
    obtain ⟨j, ps', rfl, hk, hm0, hs, hp⟩ := h
    have hpr := prt_range y.1
    intro n hn
    cases n with
    | zero =>
      have := trun_len kn r (k + j) _ ps' hp (by omega)
      have hr := kind_range hk hs
      exact ⟨y, rfl, hr.1, hr.2, hok y (by simp), by simp only [Nat.zero_add, List.drop_succ_cons, List.drop_zero]; omega⟩
    | succ n =>
      obtain ⟨z, h1, h2, h3, h4, h5⟩ := tpos_at kn r (k + j) _ ps' hp (by omega) n (by simpa using hn)
      exact ⟨z, by simpa using h1, h2, h3, h4, by simpa using h5⟩
/-- The document's number of a truth: 2 open, 1 holds, 0 fails. -/
def dt (t : Int) : Int := if t = 0 then 2 else if t = 1 then 1 else 0
theorem dt_not (t : Int) (h : T3 t) : (if dt t < 2 then 1 - dt t else dt t) = dt (tnot t) := by rcases h with rfl | rfl | rfl <;> rfl
theorem dt_and (t u : Int) (h : T3 t) (k : T3 u) : tbl 38 (dt t) (dt u) = dt (tboth t u) := by rcases h with rfl | rfl | rfl <;> rcases k with rfl | rfl | rfl <;> rfl
theorem dt_or (t u : Int) (h : T3 t) (k : T3 u) : tbl 124 (dt t) (dt u) = dt (teith t u) := by rcases h with rfl | rfl | rfl <;> rcases k with rfl | rfl | rfl <;> rfl
theorem dt_imp (t u : Int) (h : T3 t) (k : T3 u) : tbl 62 (dt t) (dt u) = dt (teith (tnot t) u) := by rcases h with rfl | rfl | rfl <;> rcases k with rfl | rfl | rfl <;> rfl
theorem wst_tst (kn : Atm → Int) (ls : List Atm) (bs : List Int) (y : Sym) (st : List Int) (h3 : ∀ x ∈ st, T3 x) (h0 : 0 ≤ y.1) (h6 : y.1 ≤ 6) (hd : prt y.1 ≤ st.length)
    (ha : y.1 = 6 → bs.getD (nmb ls y.2 0).toNat 0 = dt (kn y.2)) : wst ls bs y (st.map dt) = (tst kn y st).map dt := by
  obtain ⟨q, a⟩ := y
  dsimp only at *
  have hq : q = 0 ∨ q = 1 ∨ q = 6 ∨ q = 2 ∨ q = 3 ∨ q = 4 ∨ q = 5 := by omega
  rcases hq with rfl | rfl | rfl | rfl | rfl | rfl | rfl
  · rfl
  · rfl
  · show bs.getD (nmb ls a 0).toNat 0 :: st.map dt = dt (kn a) :: st.map dt
    rw [ha rfl]
  · match st, hd, h3 with
    | [], h, _ => exact absurd h (by decide)
    | x :: r, _, h3 =>
      show (if dt x < 2 then 1 - dt x else dt x) :: r.map dt = dt (tnot x) :: r.map dt
      rw [dt_not x (h3 x (by simp))]
  · match st, hd, h3 with
    | [], h, _ => exact absurd h (by decide)
    | [x], h, _ => simp [prt] at h
    | x :: z :: r, _, h3 =>
      show tbl 38 (dt x) (dt z) :: r.map dt = dt (tboth x z) :: r.map dt
      rw [dt_and x z (h3 x (by simp)) (h3 z (by simp))]
  · match st, hd, h3 with
    | [], h, _ => exact absurd h (by decide)
    | [x], h, _ => simp [prt] at h
    | x :: z :: r, _, h3 =>
      show tbl 124 (dt x) (dt z) :: r.map dt = dt (teith x z) :: r.map dt
      rw [dt_or x z (h3 x (by simp)) (h3 z (by simp))]
  · match st, hd, h3 with
    | [], h, _ => exact absurd h (by decide)
    | [x], h, _ => simp [prt] at h
    | x :: z :: r, _, h3 =>
      show tbl 62 (dt x) (dt z) :: r.map dt = dt (teith (tnot x) z) :: r.map dt
      rw [dt_imp x z (h3 x (by simp)) (h3 z (by simp))]
theorem wrun_trun {s : ByteArray} {kn : Atm → Int} (hk3 : ∀ a, T3 (kn a)) (ls : List Atm) (bs : List Int) : ∀ (ys : List Sym) (k : Nat) (m : Int) (ps : List Nat), Pos s k m ys ps → 0 ≤ m →
    (∀ y ∈ ys, y.1 = 6 → bs.getD (nmb ls y.2 0).toNat 0 = dt (kn y.2)) → wrun ls bs ys = (trun kn ys).map dt
  | [], k, m, ps, h, _, _ => rfl
  | y :: r, k, m, ps, h, hm, ha => by
    obtain ⟨j, ps', rfl, hk, hm0, hs, hp⟩ := h
    have hpr := prt_range y.1
    have hr := kind_range hk hs
    have hl := trun_len kn r (k + j) _ ps' hp (by omega)
    rw [wrun_cons, trun_cons, wrun_trun hk3 ls bs r (k + j) _ ps' hp (by omega) (fun z hz => ha z (by simp [hz]))]
    exact wst_tst kn ls bs y _ (trun_t3 hk3 r) hr.1 hr.2 (by omega) (ha y (by simp))
/-- Of a condition: what the program comes to is what the document comes to, by a list of what is known. -/
theorem worth_trun {s : ByteArray} {ys : List Sym} {kn : Atm → Int} (hk3 : ∀ a, T3 (kn a)) (h : pars s = some ys) (bs : List Int) (hb : ∀ a ∈ uqs ys, bs.getD (nmb (uqs ys) a 0).toNat 0 = dt (kn a)) :
    ∃ t, T3 t ∧ trun kn ys = [t] ∧ wrun (uqs ys) bs ys = [dt t] := by
  obtain ⟨hs, hp, _, _⟩ := pars_facts h
  obtain ⟨ps, hps⟩ := pos_of s ys 0 1 (Nat.zero_le _) hp
  have hl := trun_len kn ys 0 1 ps hps (by omega)
  have hw := wrun_trun hk3 (uqs ys) bs ys 0 1 ps hps (by omega) (fun y hy h6 => hb y.2 ((foldA_sub ys []).2 y hy h6))
  have ht := trun_t3 hk3 ys
  match hb : trun kn ys, hl, ht with
  | [], h, _ => simp at h
  | [t], _, ht => exact ⟨t, ht t (by simp), rfl, by rw [hw, hb]; rfl⟩
  | x :: z :: r, h, _ => simp at h; omega
theorem val_trun {s : ByteArray} {ys : List Sym} (x1 x2 x3 x4 : Int) (h : pars s = some ys) : ∃ t, T3 t ∧ trun (fun a => tof (hld x1 x2 x3 x4 a)) ys = [t] ∧ val x1 x2 x3 x4 ys = (t == 1) := by
  obtain ⟨t, h1, h2, h3⟩ := worth_trun (kn := fun a => tof (hld x1 x2 x3 x4 a)) (fun a => t3_of _) h (bys x1 x2 x3 x4 (uqs ys)) (fun a ha => by
    have hg := nmb_get (uqs ys) a 0 ha
    rw [Int.sub_zero] at hg
    unfold bys
    rw [List.getD_eq_getElem?_getD, List.getElem?_map, hg]
    show bi (hld x1 x2 x3 x4 a) = dt (tof (hld x1 x2 x3 x4 a))
    cases hld x1 x2 x3 x4 a <;> rfl)
  refine ⟨t, h1, h2, ?_⟩
  unfold val
  rw [h3]
  rcases h1 with rfl | rfl | rfl <;> rfl
end Go.Proofs.YtkinoehmcfhgbaaDoor.Vl
set_option linter.unusedVariables false
set_option linter.unusedSimpArgs false
namespace Go.Proofs.YtkinoehmcfhgbaaDoor.Vl
open Go.RowKit

set_option maxHeartbeats 400000 in
theorem truthOf_any (b : Bool) (w : World) : Calls Tryd.prog 23 #[.bool b] w fun e w' => e = .returned (.int .i8 (tof b)) ∧ w = w' := by
  cases b
  all_goals
    go_enter Tryd.func23, Tryd.ntmps23
    go_wp2
    go_ret
    exact ⟨rfl, rfl⟩
set_option maxHeartbeats 400000 in
theorem tnot_any (t : Int) (h : T3 t) (w : World) : Calls Tryd.prog 50 #[.int .i8 t] w fun e w' => e = .returned (.int .i8 (tnot t)) ∧ w = w' := by
  rcases h with rfl | rfl | rfl
  all_goals
    go_enter Tryd.func50, Tryd.ntmps50
    go_wp2
    go_ret
    exact ⟨rfl, rfl⟩
set_option maxHeartbeats 1000000 in
theorem tboth_any (t u : Int) (h : T3 t) (k : T3 u) (w : World) : Calls Tryd.prog 51 #[.int .i8 t, .int .i8 u] w fun e w' => e = .returned (.int .i8 (tboth t u)) ∧ w = w' := by
  rcases h with rfl | rfl | rfl <;> rcases k with rfl | rfl | rfl
  all_goals
    go_enter Tryd.func51, Tryd.ntmps51
    go_wp2
    go_ret
    exact ⟨rfl, rfl⟩
set_option maxHeartbeats 1000000 in
theorem teith_any (t u : Int) (h : T3 t) (k : T3 u) (w : World) : Calls Tryd.prog 52 #[.int .i8 t, .int .i8 u] w fun e w' => e = .returned (.int .i8 (teith t u)) ∧ w = w' := by
  have CN : Hid (∀ t w, T3 t → Calls Tryd.prog 50 #[.int .i8 t] w fun e w' => e = .returned (.int .i8 (tnot t)) ∧ w = w') := fun t w h => tnot_any t h w
  have CB : Hid (∀ t u w, T3 t → T3 u → Calls Tryd.prog 51 #[.int .i8 t, .int .i8 u] w fun e w' => e = .returned (.int .i8 (tboth t u)) ∧ w = w') := fun t u w h k => tboth_any t u h k w
  have HT : Hid (T3 t) := h
  have HU : Hid (T3 u) := k
  clear h k
  go_enter Tryd.func52, Tryd.ntmps52
  go_wp2_with (first
    | (go_at_call 50; refine (CN.out _ _ (by first | exact HT.out | exact HU.out | exact t3_both _ _)).mono ?_; rintro e w' ⟨rfl, rfl⟩)
    | (go_at_call 51; refine (CB.out _ _ _ (t3_not _) (t3_not _)).mono ?_; rintro e w' ⟨rfl, rfl⟩))
  go_ret
  exact ⟨rfl, rfl⟩
set_option maxHeartbeats 400000 in
theorem kparts_any (k : Int) (w : World) : Calls Tryd.prog 20 #[.int .i64 k] w fun e w' => e = .returned (.int .i64 (prt k)) ∧ w = w' := by
  by_cases h2 : k = 2
  · subst h2
    go_enter Tryd.func20, Tryd.ntmps20
    go_wp2
    go_ret
    exact ⟨rfl, rfl⟩
  by_cases h3 : k = 3
  · subst h3
    go_enter Tryd.func20, Tryd.ntmps20
    go_wp2
    go_ret
    exact ⟨rfl, rfl⟩
  by_cases h4 : k = 4
  · subst h4
    go_enter Tryd.func20, Tryd.ntmps20
    go_wp2
    go_ret
    exact ⟨rfl, rfl⟩
  by_cases h5 : k = 5
  · subst h5
    go_enter Tryd.func20, Tryd.ntmps20
    go_wp2
    go_ret
    exact ⟨rfl, rfl⟩
  · have e : prt k = 0 := by unfold prt; simp [h2, h3, h4, h5]
    go_enter Tryd.func20, Tryd.ntmps20
    go_wp2
    go_ret
    exact ⟨by rw [e]; rfl, rfl⟩
/-- A condition as it lies in memory. -/
def Syms (n0 : Nat) (w : World) (v : Value) (ys : List Sym) : Prop :=
  ∃ b cap, v = .slice (some ⟨b, 0, none⟩) ys.length cap ∧ b < n0 ∧ ∀ j y, ys[j]? = some y → w.cell? ⟨b, j * 4, none⟩ = some (.int .i64 y.1) ∧ w.cell? ⟨b, j * 4 + 1, none⟩ = some (.int .i64 y.2.1) ∧ w.cell? ⟨b, j * 4 + 2, none⟩ = some (.int .i64 y.2.2.1) ∧ w.cell? ⟨b, j * 4 + 3, none⟩ = some (.int .i64 y.2.2.2)
theorem Syms.below {n0 : Nat} {w w' : World} {v : Value} {ys : List Sym} (h : Syms n0 w v ys) (hb : Below n0 w w') : Syms n0 w' v ys := by
  obtain ⟨b, cap, h1, h2, h3⟩ := h
  exact ⟨b, cap, h1, h2, fun j y hy => ⟨(hb.cell (p := ⟨b, j * 4, none⟩) h2).trans (h3 j y hy).1, (hb.cell (p := ⟨b, j * 4 + 1, none⟩) h2).trans (h3 j y hy).2.1, (hb.cell (p := ⟨b, j * 4 + 2, none⟩) h2).trans (h3 j y hy).2.2.1, (hb.cell (p := ⟨b, j * 4 + 3, none⟩) h2).trans (h3 j y hy).2.2.2⟩⟩
theorem Syms.more {n0 n1 : Nat} {w : World} {v : Value} {ys : List Sym} (h : Syms n0 w v ys) (hn : n0 ≤ n1) : Syms n1 w v ys := by
  obtain ⟨b, cap, h1, h2, h3⟩ := h
  exact ⟨b, cap, h1, Nat.lt_of_lt_of_le h2 hn, h3⟩
def tv8 (t : Int) : Value := .int .i8 t
theorem rows_put8 (st : List Int) (p : Nat) (hp : p ≤ st.length) (V : Int) : ((V :: st.drop p).reverse.map tv8) = (st.reverse.map tv8).take (st.length - p) ++ [tv8 V] := by
  rw [List.reverse_cons, List.map_append, ← List.map_take, List.take_reverse, show st.length - (st.length - p) = p by omega]; rfl
theorem prt_one' {k : Int} (h : prt k = 1) : k = 2 := by
  unfold prt at h; split at h
  · rename_i e; simpa using e
  · split at h <;> omega
theorem prt_two' {k : Int} (h : prt k = 2) : k = 3 ∨ k = 4 ∨ k = 5 := by
  unfold prt at h; split at h
  · omega
  · split at h
    · rename_i e; simp at e; omega
    · omega
theorem Tryd.infoTruth : (Tryd.prog.info? 60).map (fun i => (i.zero, i.size, i.bytes)) = some (some (.int .i8 0), 1, 1) := by kernel_rfl
theorem one_i8 (x : Int) : ∀ u ∈ [Value.int .i8 x], u.oneCell' = true := by
  intro u hu; simp at hu; subst hu; rfl
end Go.Proofs.YtkinoehmcfhgbaaDoor.Vl
set_option linter.unusedVariables false
set_option linter.unusedSimpArgs false
namespace Go.Proofs.YtkinoehmcfhgbaaDoor.Vl
open Go.RowKit Go.Maps

theorem lawA : WideMaps.KeyLaw Tryd.prog 52 := deep_law_laid (by kernel_rfl) (m := 3) (by omega) (of_decide_eq_true (by kernel_rfl)) (by kernel_rfl) (by kernel_rfl)
theorem keyedA : Keyed Tryd.prog 52 := Keyed.of_law lawA
/-- An atom as a value. -/
def avV (a : Atm) : Value := .agg #[.int .i64 a.1, .int .i64 a.2.1, .int .i64 a.2.2]
theorem key_some (a : Atm) (h : okA a) : ∃ l, keyOf Tryd.prog 52 (avV a) = some l := by
  obtain ⟨a1, a2, a3⟩ := a
  unfold okA at h
  dsimp only at h
  have w1 : (Lit.int .i64 a1).wf = true := by simp [Lit.wf, IntKind.wrap, IntKind.bits, IntKind.signed, IntKind.min, IntKind.max]; omega
  have w2 : (Lit.int .i64 a2).wf = true := by simp [Lit.wf, IntKind.wrap, IntKind.bits, IntKind.signed, IntKind.min, IntKind.max]; omega
  have w3 : (Lit.int .i64 a3).wf = true := by simp [Lit.wf, IntKind.wrap, IntKind.bits, IntKind.signed, IntKind.min, IntKind.max]; omega
  have k1 : Tryd.prog.keyType 52 = true := by kernel_rfl
  have k2 : (Value.agg #[.int .i64 a1, .int .i64 a2, .int .i64 a3]).formed Tryd.prog 52 = true := by kernel_rfl
  have k3 : ∃ d, Tryd.prog.types.size = d + 1 := ⟨Tryd.prog.types.size - 1, by have : 0 < Tryd.prog.types.size := of_decide_eq_true (by kernel_rfl); omega⟩
  obtain ⟨d, hd⟩ := k3
  have k4 : Tryd.prog.keyLits (Tryd.prog.types.size + 1) 52 [.int .i64 a1, .int .i64 a2, .int .i64 a3] = some [.int .i64 a1, .int .i64 a2, .int .i64 a3] := by
    rw [hd]
    have e1 : Tryd.prog.cellsOf 52 = 3 := by kernel_rfl
    have e2 : Tryd.prog.cellsOf 50 = 1 := by kernel_rfl
    have e3 : Tryd.prog.cellsOf 3 = 1 := by kernel_rfl
    simp [Program.keyLits, e1, e2, e3, Tryd.underlying52, Tryd.underlying50, Tryd.underlying3, w1, w2, w3]
  unfold keyOf avV
  rw [Tryd.underlying52]
  dsimp only
  rw [if_pos (by rw [k1, k2]; rfl), show (Value.agg #[.int .i64 a1, .int .i64 a2, .int .i64 a3]).cells.toList = [.int .i64 a1, .int .i64 a2, .int .i64 a3] from rfl, k4]
  exact ⟨_, rfl⟩
/-- What is assumed of atoms, as it lies in memory. -/
def AM (w : World) (b n : Nat) (f : Atm → Int) : Prop := ∃ D : DataW Unit, w.ownsMap Tryd.prog 52 (plainElem Tryd.prog 60) b n D ∧ IsMap D ∧ ∀ a l, okA a → keyOf Tryd.prog 52 (avV a) = some l → D.atKey l (.lit (.int .i8 0)) = .lit (.int .i8 (f a))
theorem AM.made (w : World) : AM (w.alloc (.map #[] 0)) w.heap.size 0 (fun _ => 0) := ⟨.map [], World.ownsMap_made _ _ _ _, ⟨_, rfl⟩, fun a l _ _ => rfl⟩
theorem AM.kept {w w' : World} {b n : Nat} {f : Atm → Int} {row : Option Nat} (h : AM w b n f) (hg : w.grownBy w' row) (hne : some b ≠ row) : AM w' b n f := by
  obtain ⟨D, h1, h2, h3⟩ := h
  exact ⟨D, h1.kept hg hne, h2, h3⟩
theorem AM.lt {w : World} {b n : Nat} {f : Atm → Int} (h : AM w b n f) : b < w.heap.size := by
  obtain ⟨D, h1, _⟩ := h
  exact h1.lt
set_option maxRecDepth 100000 in
theorem AM.look {w : World} {b n : Nat} {f : Atm → Int} (h : AM w b n f) (a : Atm) (ha : okA a) : (Instr.lookup 70 (.map (some b)) (avV a) false).run Tryd.prog w = .ok (.int .i8 (f a)) w := by
  obtain ⟨D, h1, _, h3⟩ := h
  obtain ⟨l, hl⟩ := key_some a ha
  obtain ⟨c, hrun, hat, _⟩ := h1.lookup_int keyedA Tryd.underlying70 Tryd.underlying60 (Tryd.zeroValue60 w) hl
  have := (h3 a l ha hl).symm.trans hat
  injection this with e1
  injection e1 with e2 e3
  rw [hrun, e3]
theorem okA_lit {a b : Atm} {l : Lit} (h1 : keyOf Tryd.prog 52 (avV a) = some l) (h2 : keyOf Tryd.prog 52 (avV b) = some l) : a = b := by
  have := lawA.inj h1 h2
  unfold avV at this
  obtain ⟨a1, a2, a3⟩ := a
  obtain ⟨b1, b2, b3⟩ := b
  simpa using this
/-- One atom's truth is put. -/
def putA (f : Atm → Int) (a : Atm) (t : Int) : Atm → Int := fun x => if x = a then t else f x
theorem wf8 {t : Int} (h : T3 t) : (Lit.int .i8 t).wf = true := by rcases h with rfl | rfl | rfl <;> decide
theorem AM.put {w : World} {b n : Nat} {f : Atm → Int} (h : AM w b n f) (a : Atm) (ha : okA a) (t : Int) (ht : T3 t) (hn : n < maxLen) :
    ∃ w', (Instr.mapUpdate 70 (.map (some b)) (avV a) (.int .i8 t)).run Tryd.prog w = .ok () w' ∧ AM w' b (n + 1) (putA f a t) ∧ w.grownBy w' (some b) := by
  obtain ⟨D, h1, h2, h3⟩ := h
  obtain ⟨l, hl⟩ := key_some a ha
  obtain ⟨w', r1, r2, r3⟩ := h1.update keyedA Tryd.underlying70 hn hl (plainElem_int Tryd.underlying60 (wf8 ht))
  refine ⟨w', r1, ⟨_, r2, ?_, fun x lx hx hlx => ?_⟩, r3⟩
  · exact h2.put _ _
  · unfold putA
    by_cases e : x = a
    · subst e
      obtain rfl : l = lx := Option.some.inj (hl.symm.trans hlx)
      rw [if_pos rfl, atKey_put_same h2 (keyedA.key hl)]
    · rw [if_neg e, atKey_put_other (fun e2 => e (okA_lit (by rw [hlx, e2]) hl))]
      exact h3 x lx hx hlx
theorem AM.del {w : World} {b n : Nat} {f : Atm → Int} (h : AM w b n f) (a : Atm) (ha : okA a) (ty : TypeId) :
    ∃ w', (Builtin.delete_ #[70, 52] ty #[.map (some b), avV a]).run Tryd.prog w = .ok (.tuple #[]) w' ∧ AM w' b n (putA f a 0) ∧ w.grownBy w' (some b) := by
  obtain ⟨D, h1, h2, h3⟩ := h
  obtain ⟨l, hl⟩ := key_some a ha
  obtain ⟨es, clock, hb, F, hs, rfl⟩ := h1
  obtain ⟨es', hrun, F', hsz, hdel, _⟩ := Maps.fit_drop (ty := ty) keyedA Tryd.underlying70 hb F hl
  refine ⟨_, hrun, ⟨_, ⟨es', clock, Go.ChangeMaps.heap_setBlock_same hb _, F', Nat.le_trans hsz hs, rfl⟩, ⟨_, rfl⟩, fun x lx hx hlx => ?_⟩, ⟨rfl, rfl, rfl, by simp [ChangeMaps.setBlock], fun i _ hi => Go.ChangeMaps.heap_setBlock_other hb _ (fun e => hi (by rw [e]))⟩⟩
  have ed : (DataW.map ((es'.toList.map (WideElems.rg Tryd.prog 52 (plainElem Tryd.prog 60))).foldr DataW.insert []) : DataW Unit) = (DataW.map ((es.toList.map (WideElems.rg Tryd.prog 52 (plainElem Tryd.prog 60))).foldr DataW.insert [])).del l := by
    rw [hdel]; rfl
  rw [ed]
  unfold putA
  by_cases e : x = a
  · subst e
    obtain rfl : l = lx := Option.some.inj (hl.symm.trans hlx)
    rw [if_pos rfl, atKey_del_same]
  · rw [if_neg e, atKey_del_other (fun e2 => e (okA_lit (by rw [hlx, e2]) hl))]
    exact h3 x lx hx hlx
theorem AM.clear {w : World} {b n : Nat} {f : Atm → Int} (h : AM w b n f) (ty : TypeId) :
    ∃ w', (Builtin.clear_ #[70] ty #[.map (some b)]).run Tryd.prog w = .ok (.tuple #[]) w' ∧ AM w' b 0 (fun _ => 0) ∧ w.grownBy w' (some b) := by
  obtain ⟨D, h1, h2, h3⟩ := h
  obtain ⟨es, clock, hb, F, hs, rfl⟩ := h1
  refine ⟨ChangeMaps.setBlock w b (.map #[] clock), ?_, ⟨_, ⟨#[], clock, Go.ChangeMaps.heap_setBlock_same hb _, ?_, Nat.le_refl _, rfl⟩, ⟨_, rfl⟩, fun x lx hx hlx => rfl⟩, ⟨rfl, rfl, rfl, by simp [ChangeMaps.setBlock], fun i _ hi => Go.ChangeMaps.heap_setBlock_other hb _ (fun e => hi (by rw [e]))⟩⟩
  · simp [Builtin.clear_, run_underlying Tryd.underlying70, MapKept.run_getObj_map hb, MapKept.run_setObj_map _ hb, Result.andThen, ChangeMaps.setBlock]
  · exact ⟨by simp, MapKept.stamped_empty _, by simp⟩
end Go.Proofs.YtkinoehmcfhgbaaDoor.Vl
