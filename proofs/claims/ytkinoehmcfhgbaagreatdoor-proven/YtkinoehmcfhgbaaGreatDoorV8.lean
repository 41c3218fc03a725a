/-
  The walks of the document's valued and Value.
  What a condition comes to at a state, as the program reckons it, is what the document says: plain words alone.
  Numbers and atoms as the program reads them, and as the document does: plain words alone.
  The program's parser as it lies in memory, and the walks of its small methods: peek, advance, refuse, take, expect, enter, leave.
  Formulas as conditions: their symbols, the bytes of these, what they come to at a state: plain words alone.
  The walk of the parser's method comparison.
  Structs of many cells in a block of their own: what the walks of the parser's greater methods want.
-/
import Derived.Test.YtkinoehmcfhgbaaGreatDoorV6
import Derived.Test.YtkinoehmcfhgbaaGreatDoorV3
import Derived.Lib.AtoiAll
import Derived.Lib.ItoaNum
import Derived.Lib.ItoaMem
import Derived.Lib.IndexMore
import Derived.Test.YtkinoehmcfhgbaaGreatDoorRows
import Derived.WalkKit
import Derived.WalkSpells
import Derived.WalkLawsBesides
import Derived.Lib.Strings
import Derived.Deep.QuietTactic
import Derived.BigQuiet
import Derived.RegionTactic
import Derived.Deep.RegionHeld3
import Derived.Deep.LoopGhost
import Derived.Deep.MidRow
import Derived.Deep.RegionWith
set_option linter.unusedVariables false
set_option linter.unusedSimpArgs false
namespace Go.Proofs.YtkinoehmcfhgbaaGreatDoor.Vl
open Go.RowKit

/-- What an atom's side is at a state. -/
def xv (x1 x2 x3 x4 : Int) (i : Int) : Int := if i = 0 then 0 else if i = 1 then x1 else if i = 2 then x2 else if i = 3 then x3 else x4
def hld (x1 x2 x3 x4 : Int) (a : Atm) : Bool := decide (xv x1 x2 x3 x4 a.1 - xv x1 x2 x3 x4 a.2.1 ≤ a.2.2)
def bi (b : Bool) : Int := if b then 1 else 0
def bys (x1 x2 x3 x4 : Int) (U : List Atm) : List Int := U.map fun a => bi (hld x1 x2 x3 x4 a)
/-- What valued answers. -/
def val (x1 x2 x3 x4 : Int) (ys : List Sym) : Bool := (wrun (uqs ys) (bys x1 x2 x3 x4 (uqs ys)) ys).headD 0 == 1

theorem xv_range {x1 x2 x3 x4 : Int} (h : gds x1 x2 x3 x4 = true) (i : Int) : -1000000000 ≤ xv x1 x2 x3 x4 i ∧ xv x1 x2 x3 x4 i ≤ 1000000000 := by
  simp only [gds, gd, Bool.and_eq_true, decide_eq_true_eq] at h
  unfold xv
  repeat' split
  all_goals omega
theorem nmb_mem : ∀ (l : List Atm) (a : Atm) (i : Int), (nmb l a i = -1 ∧ a ∉ l) ∨ (a ∈ l ∧ i ≤ nmb l a i ∧ nmb l a i < i + l.length)
  | [], a, i => Or.inl ⟨rfl, by simp⟩
  | x :: r, a, i => by
    simp only [nmb]
    split
    · rename_i h; subst h; exact Or.inr ⟨by simp, by omega, by simp; omega⟩
    · rename_i h
      rcases nmb_mem r a (i + 1) with ⟨h1, h2⟩ | ⟨h1, h2, h3⟩
      · exact Or.inl ⟨h1, by simp [h2]; exact fun e => h e.symm⟩
      · exact Or.inr ⟨by simp [h1], by omega, by simp only [List.length_cons]; omega⟩
theorem addA_sub (l : List Atm) (y : Sym) : ∀ a ∈ l, a ∈ addA l y := by
  intro a ha; unfold addA; repeat' split
  all_goals simp [ha]
theorem foldA_sub : ∀ (ds : List Sym) (l : List Atm), (∀ a ∈ l, a ∈ ds.foldl addA l) ∧ ∀ y ∈ ds, y.1 = 6 → y.2 ∈ ds.foldl addA l
  | [], l => ⟨fun a h => h, fun y h => by simp at h⟩
  | d :: r, l => by
    have ih := foldA_sub r (addA l d)
    refine ⟨fun a h => ih.1 a (addA_sub l d a h), fun y hy h6 => ?_⟩
    rcases List.mem_cons.1 hy with rfl | hy
    · apply ih.1
      unfold addA
      rw [if_pos h6]
      split
      · simp
      · rename_i h
        rcases nmb_mem l y.2 0 with ⟨h1, _⟩ | ⟨h1, _⟩
        · omega
        · exact h1
    · exact ih.2 y hy h6
theorem uqs_in (ys : List Sym) : ∀ y ∈ ys, y.1 = 6 → 0 ≤ nmb (uqs ys) y.2 0 ∧ nmb (uqs ys) y.2 0 < (uqs ys).length := by
  intro y hy h6
  have hm : y.2 ∈ uqs ys := (foldA_sub ys []).2 y hy h6
  rcases nmb_mem (uqs ys) y.2 0 with ⟨_, h2⟩ | ⟨_, h2, h3⟩
  · exact absurd hm h2
  · omega
theorem foldA_len : ∀ (ds : List Sym) (l : List Atm), (ds.foldl addA l).length ≤ l.length + ds.length
  | [], l => by simp
  | d :: r, l => by
    have ih := foldA_len r (addA l d)
    have : (addA l d).length ≤ l.length + 1 := by unfold addA; repeat' split
                                                  all_goals simp
    simp only [List.foldl_cons, List.length_cons]; omega
theorem foldA_all (p : Atm → Prop) : ∀ (ds : List Sym) (l : List Atm), (∀ a ∈ l, p a) → (∀ y ∈ ds, y.1 = 6 → p y.2) → ∀ a ∈ ds.foldl addA l, p a
  | [], l, h, _ => h
  | d :: r, l, h, hd => by
    refine foldA_all p r (addA l d) ?_ (fun y hy => hd y (by simp [hy]))
    intro a ha
    unfold addA at ha
    split at ha
    · rename_i h6
      split at ha
      · rcases List.mem_append.1 ha with ha | ha
        · exact h a ha
        · rw [List.mem_singleton] at ha; subst ha; exact hd d (by simp) h6
      · exact h a ha
    · exact h a ha
def okA (a : Atm) : Prop := 0 ≤ a.1 ∧ a.1 ≤ 4 ∧ 0 ≤ a.2.1 ∧ a.2.1 ≤ 4 ∧ -999999 ≤ a.2.2 ∧ a.2.2 ≤ 999999
theorem pos_ok {s : ByteArray} : ∀ (ys : List Sym) (k : Nat) (m : Int) (ps : List Nat), Pos s k m ys ps → ∀ y ∈ ys, y.1 = 6 → okA y.2
  | [], k, m, ps, h => by intro y hy; cases hy
  | y :: r, k, m, ps, h => by
    obtain ⟨j, ps', rfl, hk, hm0, hs, hp⟩ := h
    intro z hz h6
    rcases List.mem_cons.1 hz with rfl | hz
    · rcases sym_kind hk hs with ⟨h0, rfl, _⟩ | ⟨_, a, rfl, ha⟩
      · have := mk_le (s[k].toNat : Int); dsimp only at h6; omega
      · have := atm_facts ha; unfold okA; dsimp only; omega
    · exact pos_ok r _ _ ps' hp z hz h6
theorem pos_len {s : ByteArray} : ∀ (ys : List Sym) (k : Nat) (m : Int) (ps : List Nat), Pos s k m ys ps → k + ys.length ≤ s.size
  | [], k, m, ps, h => by obtain ⟨_, h, _⟩ := h; simp; omega
  | y :: r, k, m, ps, h => by
    obtain ⟨j, ps', rfl, hk, hm0, hs, hp⟩ := h
    have := pos_len r _ _ ps' hp
    have := sym_facts hs
    simp only [List.length_cons]; omega
theorem pars_facts {s : ByteArray} {ys : List Sym} (h : pars s = some ys) : s.size ≤ 4000 ∧ prsA 1 (rest s 0) = some ys ∧ (uqs ys).length ≤ 4000 ∧ ∀ a ∈ uqs ys, okA a := by
  unfold pars at h
  split at h
  · cases h
  · rename_i hs
    have hp : prsA 1 (rest s 0) = some ys := h
    obtain ⟨ps, hps⟩ := pos_of s ys 0 1 (Nat.zero_le _) hp
    have h1 := pos_len ys 0 1 ps hps
    have h2 := foldA_len ys []
    refine ⟨by omega, hp, by unfold uqs; simp at h2; omega, foldA_all okA ys [] (by simp) (pos_ok ys 0 1 ps hps)⟩

theorem take_set_bys (bs : List Int) (k : Nat) (x : Int) (hk : k < bs.length) (hx : bs[k]? = some x) : ((bs.take k ++ List.replicate (bs.length - k) 0).map iv).set k (iv x) = (bs.take (k + 1) ++ List.replicate (bs.length - (k + 1)) 0).map iv := by
  have e1 : List.replicate (bs.length - k) (0 : Int) = 0 :: List.replicate (bs.length - (k + 1)) 0 := by
    rw [show bs.length - k = (bs.length - (k + 1)) + 1 by omega, List.replicate_succ]
  have e2 : bs.take (k + 1) = bs.take k ++ [x] := by
    rw [List.take_add_one, hx]; rfl
  rw [e1, e2, List.map_append, List.map_cons, List.set_append]
  rw [if_neg (by simp; omega)]
  have : k - (List.map iv (List.take k bs)).length = 0 := by simp; omega
  rw [this]
  simp

theorem take_set_same (bs : List Int) (k : Nat) (x : Int) (hk : k < bs.length) (hx : bs[k]? = some 0) {L : Nat} (hL : bs.length = L) : ((bs.take k ++ List.replicate (L - k) 0).map iv).set k (iv 0) = (bs.take k ++ List.replicate (L - k) 0).map iv := by
  subst hL
  have e1 : List.replicate (bs.length - k) (0 : Int) = 0 :: List.replicate (bs.length - (k + 1)) 0 := by
    rw [show bs.length - k = (bs.length - (k + 1)) + 1 by omega, List.replicate_succ]
  rw [e1, List.map_append, List.map_cons, List.set_append]
  rw [if_neg (by simp; omega)]
  have : k - (List.map iv (List.take k bs)).length = 0 := by simp; omega
  rw [this]; rfl
theorem atms_shape {w : World} {v : Value} {ls : List Atm} (h : Atms w v ls) : ∃ q c, v = .slice q ls.length c := by
  rcases h with ⟨h1, h2⟩ | ⟨b, cap, hv, _⟩
  · subst h2; exact ⟨none, 0, h1⟩
  · exact ⟨_, _, hv⟩

set_option maxRecDepth 100000 in
set_option maxHeartbeats 2000000 in
theorem valued_any (s : ByteArray) (x1 x2 x3 x4 : Int) (ys : List Sym) (w : World) (hmax : s.size ≤ maxLen) (hp : pars s = some ys) (hg : gds x1 x2 x3 x4 = true) :
    Calls Tryz.prog 83 #[.string s, stV x1 x2 x3 x4] w fun e w' => e = .returned (.bool (val x1 x2 x3 x4 ys)) ∧ Below w.heap.size w w' := by
  obtain ⟨hs, hprs, hul, hok⟩ := pars_facts hp
  have CAt : Hid (∀ w, Calls Tryz.prog 81 #[.string s] w fun e w' => AtmsEnd w (some ys) e w') := fun w => by rw [← hp]; exact Atoms_any s w hmax
  have HV : Hid (val x1 x2 x3 x4 ys = ((wrun (uqs ys) (bys x1 x2 x3 x4 (uqs ys)) ys).headD 0 == 1)) := rfl
  have CW : Hid (∀ w v1 v2, Atms w v1 (uqs ys) → IntsR w v2 (bys x1 x2 x3 x4 (uqs ys)) → Calls Tryz.prog 119 #[.string s, v1, v2] w fun e w' => e = .returned (.int .i64 ((wrun (uqs ys) (bys x1 x2 x3 x4 (uqs ys)) ys).headD 0)) ∧ Below w.heap.size w w') := fun w v1 v2 h1 h2 =>
    worth_any s v1 v2 (uqs ys) (bys x1 x2 x3 x4 (uqs ys)) ys w hs hprs h1 h2 (by simp [bys]) hul (by intro x hx; simp only [bys, List.mem_map] at hx; obtain ⟨a, _, rfl⟩ := hx; unfold bi; split <;> omega) (uqs_in ys)
  generalize hU : uqs ys = U at *
  have HU : Hid _ := hU
  generalize (wrun U (bys x1 x2 x3 x4 U) ys).headD 0 = WV at *
  have HO : Hid _ := hok
  have HXV : Hid _ := xv_range hg
  clear hU hok hp hprs hg
  obtain ⟨i0, hi, hz0, hz1, hz2⟩ := info_parts Tryz.infoInt
  unfold stV
  go_enter Tryz.func83, Tryz.ntmps83
  go_wp2_with (first
    | (go_at_call 81; refine (CAt.out _).mono ?_; rintro e w1 ⟨v, rfl, hA, hb1⟩; have hA2 : Atms w1 v U := (by have := hA ys rfl; rwa [HU.out] at this); clear hA; have d0 : w1.cell? ⟨w.heap.size, 0, none⟩ = some (.int .i64 x1) := (hb1.cell (p := ⟨w.heap.size, 0, none⟩) (by simp)).trans (by simp); have d1 : w1.cell? ⟨w.heap.size, 1, none⟩ = some (.int .i64 x2) := (hb1.cell (p := ⟨w.heap.size, 1, none⟩) (by simp)).trans (by simp); have d2 : w1.cell? ⟨w.heap.size, 2, none⟩ = some (.int .i64 x3) := (hb1.cell (p := ⟨w.heap.size, 2, none⟩) (by simp)).trans (by simp); have d3 : w1.cell? ⟨w.heap.size, 3, none⟩ = some (.int .i64 x4) := (hb1.cell (p := ⟨w.heap.size, 3, none⟩) (by simp)).trans (by simp); obtain ⟨qa, qc, rfl⟩ := atms_shape hA2)
    | (at_make; refine wpList_make_full _ rfl _ _ 167 rfl (w1.heap.size + 1) 3 i0 (.int .i64 0) 1 Tryz.underlying167 hi hz0 hz1 .i64 .i64 _ _ U.length rfl rfl rfl rfl (by rw [hz2]; omega) (by unfold maxLen; omega) (by simp) ?_))
  intro w3 hown hgrow
  have hw1 : w.heap.size + 1 ≤ w1.heap.size := by have := hb1.size; simpa using this
  have hw1b : Below w.heap.size w w1 := (below_alloc w _).trans (hb1.mono (by simp))
  have e0 : ∀ (i : Nat), i < 5 → (w1.alloc (.cells #[.int .i64 0, .int .i64 x1, .int .i64 x2, .int .i64 x3, .int .i64 x4] 3)).cell? ⟨w1.heap.size, i, none⟩ = some (.int .i64 (xv x1 x2 x3 x4 (i : Int))) := by
    intro i hi
    match i, hi with
    | 0, _ => simp [xv]
    | 1, _ => simp [xv]
    | 2, _ => simp [xv]
    | 3, _ => simp [xv]
    | 4, _ => simp [xv]
  have hA3 : Atms (w1.alloc (.cells #[.int .i64 0, .int .i64 x1, .int .i64 x2, .int .i64 x3, .int .i64 x4] 3)) (.slice qa U.length qc) U := hA2.below (below_alloc _ _)
  have hw2b : Below w.heap.size w (w1.alloc (.cells #[.int .i64 0, .int .i64 x1, .int .i64 x2, .int .i64 x3, .int .i64 x4] 3)) := hw1b.alloc (by omega) _
  have hw2s : (w1.alloc (.cells #[.int .i64 0, .int .i64 x1, .int .i64 x2, .int .i64 x3, .int .i64 x4] 3)).heap.size = w1.heap.size + 1 := by simp
  generalize w1.alloc (.cells #[.int .i64 0, .int .i64 x1, .int .i64 x2, .int .i64 x3, .int .i64 x4] 3) = W2 at *
  have HW2 : Hid (W2.heap.size = w1.heap.size + 1) := hw2s
  clear hw2s
  have hBl : w1.heap.size < w1.heap.size + 1 := Nat.lt_succ_self _
  have HBB : Hid (w.heap.size ≤ w1.heap.size + 1) := by show _ ≤ _; omega
  generalize w1.heap.size + 1 = B at *
  have hown' : w3.ownsRow B 3 1 (.slice (some ⟨B, 0, none⟩) U.length U.length) U.length ((bys x1 x2 x3 x4 U).take 0 ++ List.replicate (U.length - 0) 0 |>.map iv) := by
    have h := hown
    rw [toList_madeCells_one] at h
    simpa [iv] using h
  have hb3 : Below B W2 w3 := (Below.refl _ W2).grown hgrow (by rw [HW2.out]; exact Nat.le_refl _) (by intro k h; cases h)
  have HE : Hid _ := e0
  clear hown hgrow hA2 d0 d1 d2 d3 hb1 hw1b e0
  go_wp2_with fail
  go_loopw [9] (fun i wr => ∃ k : Nat, i = .int .i64 (k : Int) ∧ k ≤ U.length ∧ wr.ownsRow B 3 1 (.slice (some ⟨B, 0, none⟩) U.length U.length) U.length ((bys x1 x2 x3 x4 U).take k ++ List.replicate (U.length - k) 0 |>.map iv) ∧ Below B W2 wr) (fun i _ => U.length - (intOf i).toNat)
  case atStart => exact ⟨0, rfl, Nat.zero_le _, hown', hb3⟩
  case round =>
    obtain ⟨k, rfl, hk, hown, hbw⟩ := hrel
    have hbl : (bys x1 x2 x3 x4 U).length = U.length := by simp [bys]
    by_cases hlt : k < U.length
    · obtain ⟨⟨a1, a2, a3⟩, ha⟩ : ∃ a, U[k]? = some a := ⟨_, List.getElem?_eq_getElem hlt⟩
      have hoa := HO.out _ (List.mem_of_getElem? ha)
      unfold okA at hoa
      dsimp only at hoa
      rcases hA3 with ⟨_, hA3⟩ | ⟨b, cap, hv, hc1, hc2, hb, hcells⟩
      · subst hA3; simp at hlt
      cases hv
      rw [HW2.out] at hb
      obtain ⟨z1, z2, z3⟩ := hcells k _ ha
      have y1 := (hbw.cell (p := ⟨b, k * 3, none⟩) hb).trans z1
      have y2 := (hbw.cell (p := ⟨b, k * 3 + 1, none⟩) hb).trans z2
      have y3 := (hbw.cell (p := ⟨b, k * 3 + 2, none⟩) hb).trans z3
      dsimp only at y1 y2 y3
      obtain ⟨u, rfl⟩ : ∃ u : Nat, a1 = (u : Int) := ⟨a1.toNat, by omega⟩
      obtain ⟨t, rfl⟩ : ∃ t : Nat, a2 = (t : Int) := ⟨a2.toNat, by omega⟩
      have c1 := (hbw.cell (p := ⟨w1.heap.size, u, none⟩) (by dsimp only; omega)).trans (HE.out u (by omega))
      have c2 := (hbw.cell (p := ⟨w1.heap.size, t, none⟩) (by dsimp only; omega)).trans (HE.out t (by omega))
      have hX := HXV.out (u : Int)
      have hY := HXV.out (t : Int)
      have HL : Hid ((bys x1 x2 x3 x4 U)[k]? = some (bi (decide (xv x1 x2 x3 x4 (u : Int) - xv x1 x2 x3 x4 (t : Int) ≤ a3)))) := by
        show _ = _
        unfold bys
        rw [List.getElem?_map, ha]; rfl
      have hu5 : (u : Int) < 5 := by omega
      have ht5 : (t : Int) < 5 := by omega
      have hlt' : (k : Int) < (U.length : Int) := by omega
      obtain ⟨g, cap', hgv, hg1, hg2, hg3, hg4, hg5, hg6⟩ := own_facts hown (by omega)
      cases hgv
      have f1 := hg6 k
      obtain ⟨old, ho⟩ : ∃ old, ((bys x1 x2 x3 x4 U).take k ++ List.replicate (U.length - k) 0 |>.map iv)[k]? = some old := ⟨_, List.getElem?_eq_getElem (by simp [hbl]; omega)⟩
      have f2 := hg5 k old ho
      clear hg5 hg6 z1 z2 z3 hcells ha ho
      generalize xv x1 x2 x3 x4 (u : Int) = X at *
      generalize xv x1 x2 x3 x4 (t : Int) = Y at *
      go_wp2_with fail
      go_quiet (fail)
      have hD := below_drewN (Below.refl wr.heap.size wr) nq
      have f1' := (hD.frozen (p := ⟨B, k, none⟩) hg2).trans f1
      have f2' := (hD.cell (p := ⟨B, k, none⟩) hg2).trans f2
      have hown2 := ownsRow_below hown hD
      have hbw2 := hbw.trans (hD.mono (by have := hbw.size; rw [HW2.out] at this; exact this))
      clear f1 f2 hown hbw hD y1 y2 y3 c1 c2
      generalize wr.drewN nq = WD at *
      by_cases hle : X - Y ≤ a3
      · have HL2 : Hid ((bys x1 x2 x3 x4 U)[k]? = some 1) := by show _ = _; rw [HL.out]; simp [bi, hle]
        go_wp2_with fail
        go_roundw
        case rel => exact ⟨k + 1, by go_num, by omega, by have := own_set hown2 k (iv 1); rw [← hbl, take_set_bys _ k 1 (by omega) HL2.out, hbl] at this; exact this, hbw2.setCell (p := ⟨B, k, none⟩) (Nat.le_refl _) _⟩
        case measure => simp [intOf]; omega
      · have HL2 : Hid ((bys x1 x2 x3 x4 U)[k]? = some 0) := by show _ = _; rw [HL.out]; simp [bi, hle]
        go_wp2_with fail
        go_roundw
        case rel =>
          refine ⟨k + 1, by go_num, by omega, ?_, hbw2⟩
          have := take_set_bys _ k 0 (by omega) HL2.out
          rw [hbl] at this
          rw [← this]
          rw [take_set_same _ k 0 (by omega) HL2.out hbl]
          exact hown2
        case measure => simp [intOf]; omega
    · have hkU : k = U.length := by omega
      subst hkU
      have hI : IntsR wr (.slice (some ⟨B, 0, none⟩) U.length U.length) (bys x1 x2 x3 x4 U) := by
        have : (List.take U.length (bys x1 x2 x3 x4 U) ++ List.replicate (U.length - U.length) 0) = bys x1 x2 x3 x4 U := by
          rw [Nat.sub_self, ← hbl, List.take_length]; simp
        rw [this] at hown
        exact own_ints (by rw [hbl]; exact hown)
      have hA4 := hA3.below (by rw [HW2.out]; exact hbw)
      clear hbl
      go_wp2_with (go_at_call 119; refine (CW.out _ _ _ hA4 hI).mono ?_; rintro e w5 ⟨rfl, hb5⟩)
      go_ret
      exact ⟨by rw [HV.out]; rfl, (hw2b.trans (hbw.mono HBB.out)).trans (hb5.mono (by have := hw2b.size; have := hbw.size; omega))⟩
end Go.Proofs.YtkinoehmcfhgbaaGreatDoor.Vl
set_option linter.unusedVariables false
set_option linter.unusedSimpArgs false
namespace Go.Proofs.YtkinoehmcfhgbaaGreatDoor.Vl
open Go.RowKit

theorem nmb_get : ∀ (l : List Atm) (a : Atm) (i : Int), a ∈ l → l[(nmb l a i - i).toNat]? = some a
  | [], a, i, h => by cases h
  | x :: r, a, i, h => by
    simp only [nmb]
    split
    · rename_i e; subst e; simp
    · rename_i e
      have ha : a ∈ r := by
        rcases List.mem_cons.1 h with h | h
        · exact absurd h.symm e
        · exact h
      have ih := nmb_get r a (i + 1) ha
      rcases nmb_mem r a (i + 1) with ⟨_, h2⟩ | ⟨_, h2, h3⟩
      · exact absurd ha h2
      · have e2 : (nmb r a (i + 1) - i).toNat = (nmb r a (i + 1) - (i + 1)).toNat + 1 := by omega
        rw [e2, List.getElem?_cons_succ]; exact ih
end Go.Proofs.YtkinoehmcfhgbaaGreatDoor.Vl
set_option linter.unusedVariables false
set_option linter.unusedSimpArgs false
namespace Go.Proofs.YtkinoehmcfhgbaaGreatDoor.Vl
open Go.RowKit

/- What the program reads. -/
def bndX (l : List UInt8) : Option Int := match Lib.atoiAll l with
  | .ok v => if Lib.itoa v = l ∧ -999999 ≤ v ∧ v ≤ 999999 then some v else none
  | _ => none

theorem dgo_append (m : Int) : ∀ (a b : List UInt8) (v : Int), 0 ≤ v → 0 ≤ dgo m a v → dgo m (a ++ b) v = dgo m b (dgo m a v)
  | [], b, v, _, _ => rfl
  | c :: r, b, v, hv, h => by
    simp only [dgo, List.cons_append] at h ⊢
    split
    · rename_i hc; rw [if_pos hc] at h; omega
    · rename_i hc
      rw [if_neg hc] at h
      split
      · rename_i hm; rw [if_pos hm] at h; omega
      · rename_i hm
        rw [if_neg hm] at h
        exact dgo_append m r b _ (by omega) h
theorem dgo_ge (m : Int) : ∀ (a : List UInt8) (v : Int), 0 ≤ v → 0 ≤ dgo m a v → v ≤ dgo m a v
  | [], v, _, _ => Int.le_refl _
  | c :: r, v, hv, h => by
    simp only [dgo] at h ⊢
    split
    · rename_i hc; rw [if_pos hc] at h; omega
    · rename_i hc
      rw [if_neg hc] at h
      split
      · rename_i hm; rw [if_pos hm] at h; omega
      · rename_i hm
        rw [if_neg hm] at h
        have := dgo_ge m r _ (by omega) h
        omega
theorem dgo_dig (m : Int) : ∀ (a : List UInt8) (v : Int), 0 ≤ dgo m a v → ∀ c ∈ a, isd c = true
  | [], v, _ => by intro c hc; cases hc
  | c :: r, v, h => by
    simp only [dgo] at h
    split at h
    · omega
    · rename_i hc
      split at h
      · omega
      · intro d hd
        rcases List.mem_cons.1 hd with rfl | hd
        · unfold isd; simp; omega
        · exact dgo_dig m r _ h d hd
theorem dgo_pref (m : Int) : ∀ (a b : List UInt8) (v : Int), 0 ≤ dgo m (a ++ b) v → 0 ≤ v → 0 ≤ dgo m a v
  | [], b, v, _, hv => hv
  | c :: r, b, v, h, hv => by
    simp only [dgo, List.cons_append] at h ⊢
    split
    · rename_i hc; rw [if_pos hc] at h; omega
    · rename_i hc
      rw [if_neg hc] at h
      split
      · rename_i hm; rw [if_pos hm] at h; omega
      · rename_i hm
        rw [if_neg hm] at h
        exact dgo_pref m r b _ h (by omega)
theorem u8_of (d : UInt8) (k : Nat) (hk : k < 10) (h : (d.toNat : Int) - 48 = (k : Int)) : UInt8.ofNat (48 + k) = d := by
  apply UInt8.toNat_inj.1
  simp
  omega
/-- Digits with no 0 too many are the numeral of their value. -/
theorem dec_of (m : Int) : ∀ (n : Nat) (ds : List UInt8), ds.length = n → ds ≠ [] → (ds.headD 0 ≠ 48 ∨ ds.length = 1) → 0 ≤ dgo m ds 0 → Lib.decDigits (dgo m ds 0).toNat = ds
  | 0, ds, hl, hne, _, _ => absurd (List.length_eq_zero_iff.1 hl) hne
  | n + 1, ds, hl, hne, hh, h0 => by
    rcases List.eq_nil_or_concat ds with rfl | ⟨a, d, rfl⟩
    · exact absurd rfl hne
    · rw [List.concat_eq_append] at *
      have hp := dgo_pref m a [d] 0 h0 (Int.le_refl _)
      have ha := dgo_append m a [d] 0 (Int.le_refl _) hp
      have hd := dgo_dig m _ _ h0 d (by simp)
      have hd' : 48 ≤ (d.toNat : Int) ∧ (d.toNat : Int) ≤ 57 := by unfold isd at hd; simpa using hd
      have hv : dgo m (a ++ [d]) 0 = dgo m a 0 * 10 + ((d.toNat : Int) - 48) := by
        rw [ha]; rw [ha] at h0
        simp only [dgo] at h0 ⊢
        split
        · rename_i h; omega
        · split
          · rename_i h1 h2; rw [if_neg h1, if_pos h2] at h0; omega
          · rfl
      rw [hv]
      cases a with
      | nil =>
        have e : dgo m [] 0 = 0 := rfl
        rw [e]
        rw [Lib.decDigits, dif_pos (by omega)]
        simp only [List.nil_append]
        congr 1
        exact u8_of d _ (by omega) (by omega)
      | cons c r =>
        have hc : c ≠ 48 := by
          rcases hh with hh | hh
          · simpa using hh
          · simp at hh
        have hy : 1 ≤ dgo m (c :: r) 0 := by
          have hcd := dgo_dig m _ _ hp c (by simp)
          have hcd' : 48 ≤ (c.toNat : Int) ∧ (c.toNat : Int) ≤ 57 := by unfold isd at hcd; simpa using hcd
          have hc' : (c.toNat : Int) ≠ 48 := by
            intro e; apply hc
            apply UInt8.toNat_inj.1
            have : c.toNat = 48 := by omega
            rw [this]; rfl
          simp only [dgo] at hp ⊢
          rw [if_neg (by omega)] at hp ⊢
          split
          · rename_i h; rw [if_pos h] at hp; omega
          · rename_i h
            rw [if_neg h] at hp
            have := dgo_ge m r _ (by omega) hp
            omega
        rw [Lib.decDigits, dif_neg (by omega)]
        have e1 : (dgo m (c :: r) 0 * 10 + ((d.toNat : Int) - 48)).toNat / 10 = (dgo m (c :: r) 0).toNat := by omega
        have e2 : (dgo m (c :: r) 0 * 10 + ((d.toNat : Int) - 48)).toNat % 10 = d.toNat - 48 := by omega
        rw [e1, e2, dec_of m n (c :: r) (by simpa using hl) (by simp) (Or.inl (by simpa using hc)) hp]
        congr 1
        rw [u8_of d (d.toNat - 48) (by omega) (by omega)]
theorem u8_dig (k : Nat) (hk : k < 10) : ((UInt8.ofNat (48 + k)).toNat : Int) = 48 + (k : Int) := by
  simp; omega
/-- The numeral of a number is read as that number. -/
theorem dgo_dec (m : Int) : ∀ (u : Nat), (u : Int) ≤ m → dgo m (Lib.decDigits u) 0 = (u : Int) := by
  intro u
  induction u using Nat.strongRecOn with
  | _ u ih =>
    intro hu
    by_cases h : u < 10
    · rw [Lib.decDigits, dif_pos h]
      have := u8_dig u h
      simp only [dgo]
      rw [if_neg (by omega), if_neg (by omega)]; omega
    · rw [Lib.decDigits, dif_neg h]
      have h1 := ih (u / 10) (by omega) (by omega)
      rw [dgo_append m _ _ _ (Int.le_refl _) (by omega), h1]
      have := u8_dig (u % 10) (by omega)
      simp only [dgo]
      rw [if_neg (by omega), if_neg (by omega)]; omega
theorem dec_head : ∀ (u : Nat), Lib.decDigits u ≠ [] ∧ (1 ≤ u → (Lib.decDigits u).headD 0 ≠ 48) := by
  intro u
  induction u using Nat.strongRecOn with
  | _ u ih =>
    by_cases h : u < 10
    · rw [Lib.decDigits, dif_pos h]
      refine ⟨by simp, fun h1 e => ?_⟩
      simp only [List.headD_cons] at e
      have h2 := u8_dig u h
      rw [e] at h2
      have : ((48 : UInt8).toNat : Int) = 48 := rfl
      omega
    · rw [Lib.decDigits, dif_neg h]
      have h1 := ih (u / 10) (by omega)
      refine ⟨by simp, fun _ => ?_⟩
      match hd : Lib.decDigits (u / 10), h1 with
      | [], h1 => exact absurd rfl h1.1
      | c :: r, h1 => exact h1.2 (by omega)
theorem dg_dec (u : Nat) (hu : (u : Int) ≤ 999999) : dg 999999 (Lib.decDigits u) = (u : Int) := by
  have h1 := dgo_dec 999999 u hu
  have h2 := dec_head u
  match hd : Lib.decDigits u, h1, h2 with
  | [], _, h2 => exact absurd rfl h2.1
  | c :: r, h1, h2 =>
    rw [dgo_zero, if_neg, h1]
    intro hc
    simp only [Bool.and_eq_true, beq_iff_eq, Bool.not_eq_true', List.isEmpty_eq_false_iff] at hc
    by_cases hu1 : 1 ≤ u
    · exact h2.2 hu1 (by simpa using hc.1)
    · have : u = 0 := by omega
      subst this
      rw [Lib.decDigits, dif_pos (by omega)] at hd
      cases hd
      exact hc.2 rfl
theorem dlen_app : ∀ (a b : List UInt8), (∀ c ∈ a, isd c = true) → dlen (a ++ b) = a.length + dlen b
  | [], b, _ => by simp
  | c :: r, b, h => by
    have := dlen_app r b (fun d hd => h d (by simp [hd]))
    simp only [List.cons_append, dlen, h c (by simp), if_true, List.length_cons]; omega
theorem dlen_take : ∀ (l : List UInt8), ∀ c ∈ l.take (dlen l), isd c = true
  | [] => by simp [dlen]
  | c :: r => by
    simp only [dlen]
    split
    · rename_i h
      intro d hd
      rw [List.take_succ_cons] at hd
      rcases List.mem_cons.1 hd with rfl | hd
      · exact h
      · exact dlen_take r d hd
    · simp
theorem dlen_dot (tail : List UInt8) : dlen (46 :: tail) = 0 := rfl
theorem dec_dig (u : Nat) (hu : (u : Int) ≤ 999999) : ∀ c ∈ Lib.decDigits u, isd c = true :=
  dgo_dig 999999 _ 0 (by rw [dgo_dec 999999 u hu]; omega)
theorem sgd_c (c : UInt8) (r : List UInt8) : sgd (c :: r) = if (c == 45) = true then 1 else 0 := rfl
/-- The numeral of a number, with a point behind it, is read as that number. -/
theorem bnd_itoa (n : Int) (h0 : -999999 ≤ n) (h1 : n ≤ 999999) (tail : List UInt8) : bnd (Lib.itoa n ++ 46 :: tail) = some (n, (Lib.itoa n).length) := by
  unfold Lib.itoa
  split
  · rename_i hn
    have hu : ((n.natAbs : Nat) : Int) ≤ 999999 := by omega
    have hs : sgd (45 :: Lib.decDigits n.natAbs ++ 46 :: tail) = 1 := rfl
    unfold bnd
    rw [hs]
    have hd : (45 :: Lib.decDigits n.natAbs ++ 46 :: tail).drop 1 = Lib.decDigits n.natAbs ++ 46 :: tail := rfl
    rw [hd, dlen_app _ _ (dec_dig _ hu), dlen_dot, Nat.add_zero, List.take_left' rfl, dg_dec _ hu, if_neg (by omega), if_pos rfl]
    simp only [List.length_cons]
    congr 2
    · omega
    · omega
  · rename_i hn
    have hu : ((n.toNat : Nat) : Int) ≤ 999999 := by omega
    have hs : sgd (Lib.decDigits n.toNat ++ 46 :: tail) = 0 := by
      have h2 := dec_head n.toNat
      have h3 := dec_dig n.toNat hu
      match hd : Lib.decDigits n.toNat, h2, h3 with
      | [], h2, _ => exact absurd rfl h2.1
      | c :: r, _, h3 =>
        show sgd (c :: (r ++ 46 :: tail)) = 0
        rw [sgd_c, if_neg]
        intro e
        rw [beq_iff_eq] at e
        have := h3 c (by simp)
        rw [e] at this; cases this
    unfold bnd
    rw [hs, List.drop_zero, dlen_app _ _ (dec_dig _ hu), dlen_dot, Nat.add_zero, List.take_left' rfl, dg_dec _ hu, if_neg (by omega), if_neg (by omega)]
    congr 2
    · omega
    · omega
/-- A number that is read is the numeral of what it is read as. -/
theorem itoa_bnd {l : List UInt8} {n : Int} {k : Nat} (h : bnd l = some (n, k)) : l.take k = Lib.itoa n ∧ -999999 ≤ n ∧ n ≤ 999999 := by
  have hr := bnd_range h
  refine ⟨?_, hr.1, hr.2.1⟩
  unfold bnd at h
  split at h
  · cases h
  · rename_i hc
    generalize hds : (l.drop (sgd l)).take (dlen (l.drop (sgd l))) = ds at *
    have hdg : 0 ≤ dg 999999 ds := by omega
    have hdec : Lib.decDigits (dg 999999 ds).toNat = ds := by
      cases ds with
      | nil => exact absurd hdg (by decide)
      | cons c r =>
        rw [dgo_zero] at hdg ⊢
        split at hdg
        · omega
        · rename_i h48
          rw [if_neg h48]
          refine dec_of 999999 _ (c :: r) rfl (by simp) ?_ hdg
          by_cases hc48 : c = 48
          · right
            subst hc48
            simp only [beq_self_eq_true, Bool.true_and, Bool.not_eq_true', List.isEmpty_eq_false_iff, ne_eq, Decidable.not_not] at h48
            rw [h48]; rfl
          · left; simpa using hc48
    have hk : l.take (sgd l + dlen (l.drop (sgd l))) = l.take (sgd l) ++ ds := by rw [List.take_add, hds]
    rcases Nat.lt_or_ge (sgd l) 1 with hs | hs
    · have hs0 : sgd l = 0 := by omega
      rw [if_neg (by omega)] at h
      have hkk := hk
      injection h with h; injection h with h1 h2
      rw [← h2, hkk, hs0, List.take_zero, List.nil_append, ← h1]
      unfold Lib.itoa
      rw [if_neg (by omega), hdec]
    · have hs1 : sgd l = 1 := by unfold sgd at hs ⊢; split at hs <;> simp_all
      rw [if_pos hs1] at h
      injection h with h; injection h with h1 h2
      have hl : l.take 1 = [45] := by
        cases l with
        | nil => cases hs1
        | cons c r =>
          rw [sgd_c] at hs1
          split at hs1
          · rename_i e; rw [beq_iff_eq] at e; rw [e]; rfl
          · cases hs1
      rw [← h2, hk, hs1, hl, ← h1]
      unfold Lib.itoa
      have hpos : 0 < dg 999999 ds := by
        rcases Int.lt_or_le 0 (dg 999999 ds) with h | h
        · exact h
        · exact absurd (Or.inr ⟨hs1, by omega⟩) hc
      rw [if_pos (by omega)]
      have : (-dg 999999 ds).natAbs = (dg 999999 ds).toNat := by omega
      rw [this, hdec]; rfl
theorem uint_dgo : ∀ (l : List UInt8) (v : Nat), 0 ≤ dgo 999999 l (v : Int) → Lib.parseUint10 v l = .ok (dgo 999999 l (v : Int)).toNat
  | [], v, _ => by simp [Lib.parseUint10, dgo]
  | c :: r, v, h => by
    simp only [dgo] at h ⊢
    split
    · rename_i hc; rw [if_pos hc] at h; omega
    · rename_i hc
      rw [if_neg hc] at h
      split
      · rename_i hm; rw [if_pos hm] at h; omega
      · rename_i hm
        rw [if_neg hm] at h
        have e : ((v : Int) * 10 + ((c.toNat : Int) - 48)) = ((v * 10 + (c.toNat - 48) : Nat) : Int) := by omega
        rw [e] at h hm ⊢
        simp only [Lib.parseUint10]
        rw [if_pos (by omega), if_neg (by omega), if_neg (by omega)]
        exact uint_dgo r _ h
theorem mag_dec (u : Nat) (hu : (u : Int) ≤ 999999) : Lib.parseMag (Lib.decDigits u) = .ok u := by
  unfold Lib.parseMag
  rw [if_neg (dec_head u).1]
  have h1 := dgo_dec 999999 u hu
  have := uint_dgo (Lib.decDigits u) 0 (by rw [show ((0 : Nat) : Int) = 0 from rfl, h1]; omega)
  rw [this, show ((0 : Nat) : Int) = 0 from rfl, h1]; simp
theorem atoi_itoa (n : Int) (h0 : -999999 ≤ n) (h1 : n ≤ 999999) : Lib.atoiAll (Lib.itoa n) = .ok n := by
  unfold Lib.itoa
  split
  · rename_i hn
    have hu : ((n.natAbs : Nat) : Int) ≤ 999999 := by omega
    unfold Lib.atoiAll
    simp only
    rw [show (if UInt8.toNat 45 = 43 ∨ UInt8.toNat 45 = 45 then Lib.decDigits n.natAbs else 45 :: Lib.decDigits n.natAbs) = Lib.decDigits n.natAbs from if_pos (Or.inr rfl), mag_dec _ hu]
    simp only
    rw [if_neg (by simp), if_neg (by omega), if_pos (show UInt8.toNat 45 = 45 from rfl)]
    congr 1; omega
  · rename_i hn
    have hu : ((n.toNat : Nat) : Int) ≤ 999999 := by omega
    have h2 := dec_head n.toNat
    have h3 := dec_dig n.toNat hu
    have h4 := mag_dec _ hu
    match hd : Lib.decDigits n.toNat, h2, h3, h4 with
    | [], h2, _, _ => exact absurd rfl h2.1
    | c :: r, _, h3, h4 =>
      have hc := h3 c (by simp)
      have hc' : 48 ≤ (c.toNat : Int) ∧ (c.toNat : Int) ≤ 57 := by unfold isd at hc; simpa using hc
      unfold Lib.atoiAll
      simp only
      rw [if_neg (by omega), h4]
      simp only
      rw [if_neg (by omega), if_neg (by omega), if_neg (by omega)]
      congr 1; omega
theorem bndX_itoa (n : Int) (h0 : -999999 ≤ n) (h1 : n ≤ 999999) : bndX (Lib.itoa n) = some n := by
  unfold bndX
  rw [atoi_itoa n h0 h1]
  simp [h0, h1]
theorem itoa_bndX {l : List UInt8} {n : Int} (h : bndX l = some n) : l = Lib.itoa n ∧ -999999 ≤ n ∧ n ≤ 999999 := by
  unfold bndX at h
  split at h
  · split at h
    · rename_i hc; cases h; exact ⟨hc.1.symm, hc.2⟩
    · cases h
  · cases h
end Go.Proofs.YtkinoehmcfhgbaaGreatDoor.Vl
set_option linter.unusedVariables false
set_option linter.unusedSimpArgs false
namespace Go.Proofs.YtkinoehmcfhgbaaGreatDoor.Av
open Go.RowKit

theorem set_other (w : World) (b i j : Nat) (u : Value) (h : i ≠ j) : (w.setCell ⟨b, i, none⟩ u).cell? ⟨b, j, none⟩ = w.cell? ⟨b, j, none⟩ := by
  apply World.cell?_setCell_other
  intro e; injection e with _ e2 _; exact h e2
end Go.Proofs.YtkinoehmcfhgbaaGreatDoor.Av
set_option linter.unusedVariables false
set_option linter.unusedSimpArgs false
namespace Go.Proofs.YtkinoehmcfhgbaaGreatDoor.Vl
open Go.RowKit


/- A formula in tokens: what it is made of may be, and its text is short. -/
theorem dec_len : ∀ (k u : Nat), u < 10 ^ (k + 1) → (Lib.decDigits u).length ≤ k + 1
  | 0, u, h => by
    unfold Lib.decDigits
    rw [dif_pos (by omega)]; simp
  | k + 1, u, h => by
    unfold Lib.decDigits
    split
    · simp
    · have := dec_len k (u / 10) (by rw [Nat.pow_succ] at h; omega)
      simp; omega
theorem itoa_len7 {n : Int} (h0 : -999999 ≤ n) (h1 : n ≤ 999999) : (Lib.itoa n).length ≤ 7 := by
  unfold Lib.itoa
  split
  · have := dec_len 5 n.natAbs (by omega); simp; omega
  · have := dec_len 5 n.toNat (by omega); omega
end Go.Proofs.YtkinoehmcfhgbaaGreatDoor.Vl
set_option linter.unusedVariables false
set_option linter.unusedSimpArgs false
namespace Go.Proofs.YtkinoehmcfhgbaaGreatDoor.Av
open Go.RowKit

variable {toks : List (List UInt8 × Nat)} {len : Nat}

theorem ssize (w : World) (a : Addr) (u : Value) : (w.setCell a u).heap.size = w.heap.size := by simp [World.setCell]
theorem sfar (w : World) (k o B j : Nat) (u : Value) (h : k ≠ B) : (w.setCell ⟨k, o, none⟩ u).cell? ⟨B, j, none⟩ = w.cell? ⟨B, j, none⟩ :=
  World.cell?_of_block (Below.heap_setCell w ⟨k, o, none⟩ u B (by show B ≠ k; omega))


theorem results_cell {fn : Func} {tmps : Array Value} {w : World} {k : Nat} {t : TypeId} {a : Addr} {v : Value} (hf : fn.results = #[.cell k t]) (ht : tmps.getD k undef = .pointer (some a)) (hl : (loadVar t a).run Tryz.prog w = .ok v w) : (results fn tmps).run Tryz.prog w = .ok v w := by
  have ht' : (tmps[k]?.getD undef) = .pointer (some a) := by simpa using ht
  simp [results, hf, ht', hl, asAddr]
end Go.Proofs.YtkinoehmcfhgbaaGreatDoor.Av
set_option linter.unusedVariables false
set_option linter.unusedSimpArgs false
namespace Go.Proofs.YtkinoehmcfhgbaaGreatDoor.Av
open Go.RowKit

/-- A block's first n cells, each of one cell, and that they may be written. -/
def Row (w : World) (B n : Nat) : Prop := ∃ cs : List Value, w.rangeAt B 0 cs ∧ cs.length = n ∧ (∀ v ∈ cs, v.oneCell' = true) ∧ ∀ o, w.frozen? ⟨B, o, none⟩ = false
theorem Row.other {B n : Nat} {w : World} (h : Row w B n) (k o : Nat) (u : Value) (h1 : k ≠ B) : Row (w.setCell ⟨k, o, none⟩ u) B n := by
  obtain ⟨cs, a1, a2, a3, a4⟩ := h
  exact ⟨cs, fun j v hv => (sfar w k o B _ u h1).trans (a1 j v hv), a2, a3, fun o' => by rw [World.frozen?_setCell]; exact a4 o'⟩
theorem Row.new (w : World) (a : Array Value) (t : TypeId) (h1 : ∀ v ∈ a.toList, v.oneCell' = true) : Row (w.alloc (.cells a t)) w.heap.size a.size := by
  refine ⟨a.toList, fun j v hv => ?_, by simp, h1, fun o => by simp⟩
  rw [World.cell?_alloc_at _ _ _ _ rfl]; simpa using hv
theorem Row.set {w : World} {B n : Nat} (h : Row w B n) (j : Nat) (u : Value) (hj : j < n) (hu : u.oneCell' = true) : Row (w.setCell ⟨B, j, none⟩ u) B n := by
  obtain ⟨cs, a1, a2, a3, a4⟩ := h
  refine ⟨cs.set j u, fun i v hv => ?_, by simp [a2], fun v hv => ?_, fun o => by rw [World.frozen?_setCell]; exact a4 o⟩
  · by_cases e : j = i
    · subst e
      rw [List.getElem?_set_self (by omega)] at hv
      cases hv
      have := a1 j _ (List.getElem?_eq_getElem (by omega))
      rw [Nat.zero_add] at this ⊢
      exact World.cell?_setCell_same _ _ _ this
    · rw [List.getElem?_set_ne e] at hv
      rw [Nat.zero_add, set_other _ _ _ _ _ e]
      have := a1 i v hv
      rwa [Nat.zero_add] at this
  · rcases List.mem_or_eq_of_mem_set hv with h | h
    · exact a3 v h
    · rw [h]; exact hu
theorem Row.there {w : World} {B n : Nat} (h : Row w B n) (o m : Nat) (hm : o + m ≤ n) : w.there B o m := fun j hj => by
  obtain ⟨cs, a1, a2, a3, a4⟩ := h
  refine ⟨?_, a4 _⟩
  have := a1 (o + j) _ (List.getElem?_eq_getElem (by omega))
  rw [Nat.zero_add] at this
  rw [this]; rfl
theorem Row.cell {w : World} {B n : Nat} (h : Row w B n) (j : Nat) (hj : j < n) : (∃ u, w.cell? ⟨B, j, none⟩ = some u) ∧ w.frozen? ⟨B, j, none⟩ = false := by
  obtain ⟨cs, a1, a2, a3, a4⟩ := h
  have := a1 j _ (List.getElem?_eq_getElem (by omega))
  rw [Nat.zero_add] at this
  exact ⟨⟨_, this⟩, a4 _⟩
theorem Row.cells {B n : Nat} : ∀ (vs : List Value) (o : Nat) (w : World), Row w B n → o + vs.length ≤ n → (∀ v ∈ vs, v.oneCell' = true) → Row (w.setCells B o vs) B n
  | [], _, _, h, _, _ => h
  | v :: r, o, w, h, hl, h1 => by
    rw [World.setCells]
    simp only [List.length_cons] at hl
    exact Row.cells r (o + 1) _ (h.set o v (by omega) (h1 v List.mem_cons_self)) (by omega) (fun u hu => h1 u (List.mem_cons_of_mem _ hu))
theorem Row.far {B n k : Nat} (hk : k ≠ B) : ∀ (vs : List Value) (o : Nat) (w : World), Row w B n → Row (w.setCells k o vs) B n
  | [], _, _, h => h
  | v :: r, o, w, h => by
    rw [World.setCells]
    exact Row.far hk r (o + 1) _ (h.other k o v hk)
theorem size_cells (B : Nat) : ∀ (vs : List Value) (o : Nat) (w : World), (w.setCells B o vs).heap.size = w.heap.size
  | [], _, _ => rfl
  | v :: r, o, w => by
    rw [World.setCells, size_cells B r (o + 1) _, ssize]

/-- A method ends with a struct that it has laid into its result's block. -/
theorem postN {fn : Func} {R : Ending → World → Prop} {tmps : Array Value} {X : World} {B k n : Nat} {t : TypeId} {d : TypeDesc} (cs : List Value) (hf : fn.results = #[.cell k t]) (ht : tmps.getD k undef = .pointer (some ⟨B, 0, none⟩))
    (hu : Tryz.prog.underlying t = some d) (hd : d.isRow = true) (hi : (Tryz.prog.info? t).map (·.size) = some n) (hx : Row X B n) (hl : cs.length = n)
    (hR : R (.returned (.agg cs.toArray)) (X.setCells B 0 cs)) : bodyPost Tryz.prog fn R .ret ⟨tmps, []⟩ (X.setCells B 0 cs) :=
  bodyPost_ret (results_cell hf ht (run_loadVar_mid _ B 0 t cs d (World.rangeAt_setCells_same X B 0 cs (by rw [hl]; exact hx.there 0 n (by omega))) hu hd (by rw [hl]; exact hi))) rfl hR

end Go.Proofs.YtkinoehmcfhgbaaGreatDoor.Av
