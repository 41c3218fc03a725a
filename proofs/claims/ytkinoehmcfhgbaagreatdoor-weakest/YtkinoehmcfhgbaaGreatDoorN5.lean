/-
  The walks of the program's Atom.text and Symbol.text.
  The walks of the program's Symbol.replace and Replace.
-/
import Derived.Test.YtkinoehmcfhgbaaGreatDoorN1
import Derived.Test.YtkinoehmcfhgbaaGreatDoorQ9
import Derived.Test.YtkinoehmcfhgbaaGreatDoorRows
import Derived.Test.YtkinoehmcfhgbaaGreatDoorShelf
import Derived.OwnWalk
set_option linter.unusedVariables false
set_option linter.unusedSimpArgs false
namespace Go.Proofs.YtkinoehmcfhgbaaGreatDoor.Vl
open Go.RowKit
open Go.Sort (grow)

/-- The name of the library's table of powers of ten; that it holds what it should, now and later. -/
def nTab : String := (Rows.listedRow.laid.map (·.1)).getD 2 ""
def Gt (w : World) : Prop := ∀ w', Below w.heap.size w w' → Lib.TabIs Tryz.prog w' nTab .u64 Lib.pow10Tab
theorem Gt.on {w w1 : World} (h : Gt w) (hb : Below w.heap.size w w1) : Gt w1 := fun w' h' => h w' (hb.trans (h'.mono hb.size))
theorem below_grown (w : World) (k : Nat) (os : Array Obj) : Below w.heap.size w (grow (w.drewN k) os) := by
  have h := below_drewN (Below.refl w.heap.size w) k
  refine ⟨h.os, h.tape, h.output, ?_, fun j hj => ?_⟩
  · have : (grow (w.drewN k) os).heap = (w.drewN k).heap ++ os := rfl
    rw [this, Array.size_append]; have := h.size; omega
  · have : (grow (w.drewN k) os).heap = (w.drewN k).heap ++ os := rfl
    rw [this, Array.getElem?_append_left (by have := h.size; omega)]
    exact h.block j hj
theorem itoaN_any (n : Int) (h0 : -9223372036854775808 ≤ n) (h1 : n ≤ 9223372036854775807) (w : World) (hg : Gt w) : Calls Tryz.prog 144 #[.int .i64 n] w fun e w' => e = .returned (.string ⟨(Lib.itoa n).toArray⟩) ∧ Below w.heap.size w w' :=
  (Any.strconv_Itoa Tryz.laysM171 n h0 h1 w (hg w (Below.refl _ _))).mono fun e w' ⟨he, k, os, hw⟩ => ⟨he, by rw [hw]; exact below_grown w k os⟩

def Tw3 (w w' : World) (B : Nat) (a b c : Int) : Prop := Below w.heap.size w w' ∧ B < w'.heap.size ∧ w'.cell? ⟨B, 0, none⟩ = some (.int .i64 a) ∧ w'.cell? ⟨B, 1, none⟩ = some (.int .i64 b) ∧ w'.cell? ⟨B, 2, none⟩ = some (.int .i64 c)
theorem Tw3.on {w X X' : World} {B : Nat} {a b c : Int} (h : Tw3 w X B a b c) (hb : Below X.heap.size X X') : Tw3 w X' B a b c := by
  obtain ⟨h0, h1, h2, h3, h4⟩ := h
  exact ⟨h0.trans (hb.mono h0.size), Nat.lt_of_lt_of_le h1 hb.size, (hb.cell (p := ⟨B, 0, none⟩) h1).trans h2, (hb.cell (p := ⟨B, 1, none⟩) h1).trans h3, (hb.cell (p := ⟨B, 2, none⟩) h1).trans h4⟩
theorem ops_ext {U : Int} (h0 : 0 ≤ U) (h4 : U ≤ 4) : (⟨#[48, 97, 98, 99, 100]⟩ : ByteArray).extract U.toNat (U + 1).toNat = ⟨#[lt U]⟩ := by
  have : U = 0 ∨ U = 1 ∨ U = 2 ∨ U = 3 ∨ U = 4 := by omega
  rcases this with rfl | rfl | rfl | rfl | rfl <;> rfl

attribute [local go_sem high] run_catO
set_option maxRecDepth 100000 in
set_option maxHeartbeats 4000000 in
theorem atext_any (U V N : Int) (w : World) (hU : 0 ≤ U ∧ U ≤ 4) (hV : 0 ≤ V ∧ V ≤ 4) (hN : -999999 ≤ N ∧ N ≤ 999999) (hg : Gt w) :
    Calls Tryz.prog 97 #[.agg #[.int .i64 U, .int .i64 V, .int .i64 N]] w fun e w' => e = .returned (strV (lt U :: 45 :: lt V :: 60 :: 61 :: (Lib.itoa N ++ [46]))) ∧ Below w.heap.size w w' := by
  have CI : Hid (∀ X, Below w.heap.size w X → Calls Tryz.prog 144 #[.int .i64 N] X fun e w' => e = .returned (.string ⟨(Lib.itoa N).toArray⟩) ∧ Below X.heap.size X w') := fun X hX => itoaN_any N (by omega) (by omega) X (hg.on hX)
  have hil := itoa_len7 hN.1 hN.2
  obtain ⟨u0, u4⟩ := hU
  obtain ⟨v0, v4⟩ := hV
  have eU := ops_ext u0 u4
  have eV := ops_ext v0 v4
  have w1 : IntKind.i64.wrap (U + 1) = U + 1 := by rw [IntKind.wrap_i64]; omega
  have w2 : IntKind.i64.wrap (V + 1) = V + 1 := by rw [IntKind.wrap_i64]; omega
  have b1 : U ≤ U + 1 := by omega
  have b2 : U + 1 ≤ 5 := by omega
  have b3 : V ≤ V + 1 := by omega
  have b4 : V + 1 ≤ 5 := by omega
  have b5 : (0 : Int) ≤ U + 1 := by omega
  have b6 : (0 : Int) ≤ V + 1 := by omega
  generalize lt U = LU at *
  generalize lt V = LV at *
  generalize Lib.itoa N = D at *
  have q1 : Sh ⟨#[LU]⟩ := by unfold Sh; show 1 ≤ 100000000; omega
  have q2 : Sh ⟨#[45]⟩ := by unfold Sh; show 1 ≤ 100000000; omega
  have q3 : Sh ((⟨#[LU]⟩ : ByteArray) ++ ⟨#[45]⟩) := sh_app (by show 1 + 1 ≤ 100000000; omega)
  have q4 : Sh ⟨#[LV]⟩ := by unfold Sh; show 1 ≤ 100000000; omega
  have q5 : Sh ((⟨#[LU]⟩ : ByteArray) ++ ⟨#[45]⟩ ++ ⟨#[LV]⟩) := sh_app (by rw [ByteArray.size_append']; show 1 + 1 + 1 ≤ 100000000; omega)
  have q6 : Sh ⟨#[60, 61]⟩ := by unfold Sh; show 2 ≤ 100000000; omega
  have q7 : Sh ((⟨#[LU]⟩ : ByteArray) ++ ⟨#[45]⟩ ++ ⟨#[LV]⟩ ++ ⟨#[60, 61]⟩) := sh_app (by rw [ByteArray.size_append', ByteArray.size_append']; show 1 + 1 + 1 + 2 ≤ 100000000; omega)
  have q8 : Sh ⟨D.toArray⟩ := sh_l (by omega)
  have hDz : (⟨D.toArray⟩ : ByteArray).size = D.length := by simp [ByteArray.size]
  have q9 : Sh ((⟨#[LU]⟩ : ByteArray) ++ ⟨#[45]⟩ ++ ⟨#[LV]⟩ ++ ⟨#[60, 61]⟩ ++ ⟨D.toArray⟩) := sh_app (by rw [ByteArray.size_append', ByteArray.size_append', ByteArray.size_append', hDz]; show 1 + 1 + 1 + 2 + D.length ≤ 100000000; omega)
  have q10 : Sh ⟨#[46]⟩ := by unfold Sh; show 1 ≤ 100000000; omega
  clear hDz
  go_enter Tryz.func97, Tryz.ntmps97
  go_wp2_with fail
  have bb0 : Below w.heap.size w (w.alloc (.cells #[.int .i64 U, .int .i64 V, .int .i64 N] 134)) := below_alloc w _
  generalize hW : (w.alloc (.cells #[.int .i64 U, .int .i64 V, .int .i64 N] 134)) = W at *
  have s0 : w.heap.size < W.heap.size := by rw [← hW]; simp
  have c0 : W.cell? ⟨w.heap.size, 0, none⟩ = some (.int .i64 U) := by rw [← hW]; simp
  have c1 : W.cell? ⟨w.heap.size, 1, none⟩ = some (.int .i64 V) := by rw [← hW]; simp
  have c2 : W.cell? ⟨w.heap.size, 2, none⟩ = some (.int .i64 N) := by rw [← hW]; simp
  have bb1 : Below w.heap.size w W.drew := bb0.drew
  have T0 : Tw3 w W.drew w.heap.size U V N := ⟨bb1, s0, c0, c1, c2⟩
  clear hW
  go_region_held3 (fun w' => Below w.heap.size w w' ∧ w.heap.size < w'.heap.size ∧ w'.cell? ⟨w.heap.size, 0, none⟩ = some (.int .i64 U) ∧ w'.cell? ⟨w.heap.size, 1, none⟩ = some (.int .i64 V) ∧ w'.cell? ⟨w.heap.size, 2, none⟩ = some (.int .i64 N)) (refine ⟨?_, ?_, ?_, ?_, ?_⟩ <;> assumption) (first | (go_at_call 144; refine Calls.mono (CI.out _ T0.1) ?_; rintro e w3 ⟨rfl, hb3⟩; have T1 := T0.on hb3; obtain ⟨t0, t1, t2, t3, t4⟩ := id T1))
  go_wp2_with fail
  go_ret
  refine ⟨?_, t0⟩
  have e1 : (⟨#[LU]⟩ : ByteArray) ++ ⟨#[45]⟩ = ⟨[LU, 45].toArray⟩ := str_app [LU] [45]
  have e2 : (⟨[LU, 45].toArray⟩ : ByteArray) ++ ⟨#[LV]⟩ = ⟨[LU, 45, LV].toArray⟩ := str_app [LU, 45] [LV]
  have e3 : (⟨[LU, 45, LV].toArray⟩ : ByteArray) ++ ⟨#[60, 61]⟩ = ⟨[LU, 45, LV, 60, 61].toArray⟩ := str_app [LU, 45, LV] [60, 61]
  have e4 : (⟨[LU, 45, LV, 60, 61].toArray⟩ : ByteArray) ++ ⟨D.toArray⟩ = ⟨([LU, 45, LV, 60, 61] ++ D).toArray⟩ := str_app [LU, 45, LV, 60, 61] D
  have e5 : (⟨([LU, 45, LV, 60, 61] ++ D).toArray⟩ : ByteArray) ++ ⟨#[46]⟩ = ⟨(([LU, 45, LV, 60, 61] ++ D) ++ [46]).toArray⟩ := str_app ([LU, 45, LV, 60, 61] ++ D) [46]
  show Ending.returned (.string ((((⟨#[LU]⟩ ++ ⟨#[45]⟩ ++ ⟨#[LV]⟩) ++ ⟨#[60, 61]⟩) ++ ⟨D.toArray⟩) ++ ⟨#[46]⟩)) = _
  rw [e1, e2, e3, e4, e5]
  unfold strV
  simp

set_option maxRecDepth 100000 in
set_option maxHeartbeats 1000000 in
theorem stext_any (y : Sym) (w : World) (hy : Good y) (hg : Gt w) :
    Calls Tryz.prog 60 #[.agg #[.int .i64 y.1, .int .i64 y.2.1, .int .i64 y.2.2.1, .int .i64 y.2.2.2]] w fun e w' => e = .returned (.string ⟨(sb y).toArray⟩) ∧ Below w.heap.size w w' := by
  obtain ⟨g0, g6, go, ga⟩ := hy
  obtain ⟨q, U, V, N⟩ := y
  dsimp only at *
  have hq : q = 0 ∨ q = 1 ∨ q = 2 ∨ q = 3 ∨ q = 4 ∨ q = 5 ∨ q = 6 := by omega
  rcases hq with rfl | rfl | rfl | rfl | rfl | rfl | rfl
  iterate 6
    · clear g0 g6 go ga
      go_enter Tryz.func60, Tryz.ntmps60
      go_wp2
      go_ret
      exact ⟨rfl, below_alloc _ _⟩
  · obtain ⟨a1, a2, a3, a4, a5, a6, a7⟩ := ga rfl
    have CA : Hid (∀ X, Below w.heap.size w X → Calls Tryz.prog 97 #[.agg #[.int .i64 U, .int .i64 V, .int .i64 N]] X fun e w' => e = .returned (.string ⟨(sb (6, U, V, N)).toArray⟩) ∧ Below X.heap.size X w') := fun X hX => atext_any U V N X ⟨a1, a2⟩ ⟨a3, a4⟩ ⟨a6, a7⟩ (hg.on hX)
    generalize sb (6, U, V, N) = T at *
    clear g0 g6 go ga a1 a2 a3 a4 a5 a6 a7
    go_enter Tryz.func60, Tryz.ntmps60
    go_wp2_with fail
    refine (CA.out _ (below_alloc _ _)).mono ?_
    rintro e w1 ⟨rfl, hb1⟩
    go_wp2_with fail
    go_ret
    exact ⟨rfl, (below_alloc w _).trans (hb1.mono (by simp))⟩

theorem cells4_at : ∀ (l : List Sym) (j : Nat) (y : Sym), l[j]? = some y → (cells4 l)[j * 4]? = some (.int .i64 y.1) ∧ (cells4 l)[j * 4 + 1]? = some (.int .i64 y.2.1) ∧ (cells4 l)[j * 4 + 2]? = some (.int .i64 y.2.2.1) ∧ (cells4 l)[j * 4 + 3]? = some (.int .i64 y.2.2.2)
  | [], j, a, h => by simp at h
  | x :: r, 0, a, h => by simp at h; subst h; simp [cells4, cell4]
  | x :: r, j + 1, a, h => by
    have := cells4_at r j a (by simpa using h)
    have e1 : (j + 1) * 4 = j * 4 + 4 := by omega
    simp only [cells4, List.flatMap_cons] at *
    rw [e1]
    refine ⟨?_, ?_, ?_, ?_⟩
    · rw [List.getElem?_append_right (by simp [cell4])]; simpa [cell4] using this.1
    · rw [List.getElem?_append_right (by simp [cell4])]; simpa [cell4, Nat.add_assoc] using this.2.1
    · rw [List.getElem?_append_right (by simp [cell4])]; simpa [cell4, Nat.add_assoc] using this.2.2.1
    · rw [List.getElem?_append_right (by simp [cell4])]; simpa [cell4, Nat.add_assoc] using this.2.2.2
theorem sbs_take {ys : List Sym} {k : Nat} {y : Sym} (h : ys[k]? = some y) : sbs (ys.take (k + 1)) = sbs (ys.take k) ++ sb y := by
  rw [List.take_add_one, sbs_append, h]
  simp [sbs]
theorem sbs_take_le (ys : List Sym) (k : Nat) : (sbs (ys.take k)).length ≤ bl ys := by
  have : bl ys = bl (ys.take k) + bl (ys.drop k) := by rw [← bl_app, List.take_append_drop]
  unfold bl at *
  omega
theorem byte_app (a b : List UInt8) : Lib.byteCells (a ++ b) = Lib.byteCells a ++ Lib.strCells ⟨b.toArray⟩ := by
  simp [Lib.byteCells, Lib.strCells]
theorem builder_below {T e : TypeId} {B b : Nat} {bs : List Value} {w w' : World} (h : Lib.IsBuilder T e B b bs w) (hb : Below w.heap.size w w') : Lib.IsBuilder T e B b bs w' := by
  have key : ∀ p, Lib.BuilderAt T e B b p bs w → Lib.BuilderAt T e B b p bs w' := fun p h => by
    have hlt := h.lt
    obtain ⟨h1, v, h2, h3, h4⟩ := h
    exact ⟨h1, v, (hb.block b hlt).trans h2, ownsRow_below h3 hb, h4⟩
  rcases h with h | h
  · exact Or.inl (key _ h)
  · exact Or.inr (key _ h)

set_option maxRecDepth 100000 in
set_option maxHeartbeats 2000000 in
theorem text_any (v : Value) (ys : List Sym) (w : World) (h : CondR w v ys) (hy : ∀ y ∈ ys, Good y) (hl : bl ys ≤ 1000000) (hn : ys.length ≤ 1000000) (hg : Gt w) :
    Calls Tryz.prog 36 #[v] w fun e w' => e = .returned (strV (sbs ys)) ∧ Below w.heap.size w w' := by
  obtain ⟨pa, cap, rfl⟩ := h.shape
  have HC : Hid (CondR w (.slice pa ys.length cap) ys) := h
  have HY : Hid (∀ y ∈ ys, Good y) := hy
  have HG : Hid (Gt w) := hg
  have HFL : Hid (ys.take ys.length = ys) := List.take_length
  have hb0 : Lib.IsBuilder 130 5 w.heap.size w.heap.size [] (w.alloc (.cells #[.pointer none, .slice none 0 0] 130)) := Lib.fresh_isBuilder _ _ w
  clear h hy hg
  go_enter Tryz.func36, Tryz.ntmps36
  go_wp2_with fail
  go_loopw [8] (fun iv wr => ∃ k : Nat, iv = .int .i64 (k : Int) ∧ k ≤ ys.length ∧ Hid (Lib.IsBuilder 130 5 w.heap.size w.heap.size (Lib.byteCells (sbs (ys.take k))) wr) ∧ Below w.heap.size w wr) (fun iv _ => ys.length - (intOf iv).toNat)
  case atStart => exact ⟨0, rfl, Nat.zero_le _, hb0, below_alloc _ _⟩
  case round =>
    obtain ⟨k, rfl, hk, HB, hbr⟩ := hrel
    have hsl := sbs_take_le ys k
    have hwr := hbr.size
    by_cases hlt : k < ys.length
    · have hlt' : (k : Int) < (ys.length : Int) := by omega
      obtain ⟨y, hys⟩ : ∃ y, ys[k]? = some y := ⟨_, List.getElem?_eq_getElem hlt⟩
      have hgy := HY.out y (List.mem_of_getElem? hys)
      have hyl := good_len hgy
      rcases HC.out with ⟨_, h0⟩ | ⟨p, cap', hv, h2, h3, h4, h5, _⟩
      · rw [h0] at hlt; simp at hlt
      cases hv
      obtain ⟨q0, q1, q2, q3⟩ := cells4_at ys k y hys
      have z0 := (hbr.cell (p := ⟨p, 0 + k * 4, none⟩) h4).trans (h5 (k * 4) _ q0)
      have z1 := (hbr.cell (p := ⟨p, 0 + (k * 4 + 1), none⟩) h4).trans (h5 (k * 4 + 1) _ q1)
      have z2 := (hbr.cell (p := ⟨p, 0 + (k * 4 + 2), none⟩) h4).trans (h5 (k * 4 + 2) _ q2)
      have z3 := (hbr.cell (p := ⟨p, 0 + (k * 4 + 3), none⟩) h4).trans (h5 (k * 4 + 3) _ q3)
      simp only [Nat.zero_add] at z0 z1 z2 z3
      have HT : Hid (sbs (ys.take (k + 1)) = sbs (ys.take k) ++ sb y) := sbs_take hys
      have CT : Hid (∀ X, Below w.heap.size w X → Calls Tryz.prog 60 #[.agg #[.int .i64 y.1, .int .i64 y.2.1, .int .i64 y.2.2.1, .int .i64 y.2.2.2]] X fun e w' => e = .returned (.string ⟨(sb y).toArray⟩) ∧ Below X.heap.size X w') := fun X hX => stext_any y X hgy (HG.out.on hX)
      have CW : Hid (∀ X, Lib.IsBuilder 130 5 w.heap.size w.heap.size (Lib.byteCells (sbs (ys.take k))) X → w.heap.size ≤ X.heap.size → Calls Tryz.prog 59 #[.pointer (some ⟨w.heap.size, 0, none⟩), .string ⟨(sb y).toArray⟩] X fun e w' => e = .returned (.tuple #[.int .i64 ((⟨(sb y).toArray⟩ : ByteArray).size), .nilIface]) ∧ Lib.IsBuilder 130 5 w.heap.size w.heap.size (Lib.byteCells (sbs (ys.take (k + 1)))) w' ∧ Below w.heap.size X w') := fun X hX hs => by
        refine (writeString_any w.heap.size w.heap.size _ ⟨(sb y).toArray⟩ X hX (by rw [Lib.byteCells_length]; simp [ByteArray.size]; omega) hs).mono ?_
        rintro e w' ⟨h1, h2, h3⟩
        refine ⟨h1, Or.inr ?_, h3⟩
        rw [HT.out, byte_app]
        exact h2
      have HBB : Hid _ := HB.out
      clear hys hgy h5 q0 q1 q2 q3 HT
      generalize sbs (ys.take k) = TK at *
      generalize hTK1 : sbs (ys.take (k + 1)) = TK1 at *
      generalize sb y = SY at *
      obtain ⟨y1, y2, y3, y4⟩ := y
      dsimp only at z0 z1 z2 z3 CT
      go_wp2_with fail
      refine (CT.out _ (hbr.alloc hwr _)).mono ?_
      rintro e w2 ⟨rfl, hb2⟩
      have hB2 : Below w.heap.size w w2 := (hbr.alloc hwr _).trans (hb2.mono (by simp; omega))
      have hI2 := builder_below (builder_below HBB.out (below_alloc wr _)) hb2
      have HI2 : Hid _ := hI2
      clear hb2 hI2
      go_wp2_with fail
      refine (CW.out _ HI2.out hB2.size).mono ?_
      rintro e w3 ⟨rfl, hI3, hb3⟩
      go_wp2_with fail
      go_roundw
      case rel => exact ⟨k + 1, by go_num, by omega, by rw [hTK1]; exact hI3, hB2.trans hb3⟩
      case measure => simp [intOf]; omega
    · have hke : k = ys.length := by omega
      subst hke
      have hlt' : ¬ (ys.length : Int) < (ys.length : Int) := by omega
      have hBB := HB.out
      rw [HFL.out] at hBB
      have CS : Hid (Calls Tryz.prog 61 #[.pointer (some ⟨w.heap.size, 0, none⟩)] wr fun e w' => e = .returned (.string ⟨(sbs ys).toArray⟩) ∧ Below w.heap.size wr w') := Any.Builder_String_any Tryz.lays169 Tryz.Builder_Extra_169 w.heap.size w.heap.size (sbs ys) wr hBB hwr
      clear hBB HB
      generalize hS : sbs ys = S at *
      go_wp2_with fail
      refine Calls.mono CS.out ?_
      rintro e w2 ⟨rfl, hb2⟩
      go_wp2_with fail
      go_ret
      exact ⟨by rw [hS]; rfl, hbr.trans hb2⟩
end Go.Proofs.YtkinoehmcfhgbaaGreatDoor.Vl
set_option linter.unusedVariables false
set_option linter.unusedSimpArgs false
namespace Go.Proofs.YtkinoehmcfhgbaaGreatDoor.Vl
open Go.RowKit
open Go.Proofs.YtkinoehmcfhgbaaGreatDoor.Av (Row Row.new postN)

theorem below_cells' {a : World} {B : Nat} (hB : a.heap.size ≤ B) : ∀ (vs : List Value) (o : Nat) (w : World), Below a.heap.size a w → Below a.heap.size a (w.setCells B o vs)
  | [], _, _, h => h
  | v :: r, o, w, h => by
    rw [World.setCells]
    exact below_cells' hB r (o + 1) _ (h.setCell (p := ⟨B, o, none⟩) hB v)
theorem row_below {w w' : World} {B n : Nat} (h : Row w B n) (k : Below w.heap.size w w') (hB : B < w.heap.size) : Row w' B n := by
  obtain ⟨cs, a1, a2, a3, a4⟩ := h
  exact ⟨cs, fun j v hv => (k.cell (p := ⟨B, 0 + j, none⟩) hB).trans (a1 j v hv), a2, a3, fun o => (k.frozen (p := ⟨B, o, none⟩) hB).trans (a4 o)⟩
theorem zero4 : (([.int .i64 0, .int .i64 0, .int .i64 0, .int .i64 0] : List Value).all (·.oneCell')) = true := rfl

set_option maxRecDepth 100000 in
set_option maxHeartbeats 2000000 in
theorem srep_any (q U V N x u n : Int) (w : World) (hN : -999999 ≤ N ∧ N ≤ 999999) (hn : -999 ≤ n ∧ n ≤ 999) :
    Calls Tryz.prog 246 #[.agg #[.int .i64 q, .int .i64 U, .int .i64 V, .int .i64 N], .int .i64 x, .int .i64 u, .int .i64 n] w fun e w' => e = .returned (syV (rpl x u n (q, U, V, N))) ∧ Below w.heap.size w w' := by
  have hsz : (w.alloc (.cells #[.int .i64 q, .int .i64 U, .int .i64 V, .int .i64 N] 136)).heap.size = w.heap.size + 1 := by simp
  have hbb : Below w.heap.size w ((w.alloc (.cells #[.int .i64 q, .int .i64 U, .int .i64 V, .int .i64 N] 136)).alloc (.cells #[.int .i64 q, .int .i64 U, .int .i64 V, .int .i64 N] 136)) := (below_alloc w _).alloc (by simp) _
  by_cases h6 : q = 6
  · subst h6
    by_cases hU : U = x
    · have HR : Hid (rpl x u n (6, U, V, N) = aty u V (N - n)) := by show _ = _; unfold rpl; rw [if_pos rfl, if_pos hU]
      have hU' : (x == U) = true := by simp [hU]
      have CA : Hid (∀ X, Calls Tryz.prog 247 #[.int .i64 u, .int .i64 V, .int .i64 (N - n)] X fun e w' => e = .returned (syV (aty u V (N - n))) ∧ Below X.heap.size X w') := fun X => sAtMost_any _ _ _ X
      have hwr : IntKind.i64.wrap (N - n) = N - n := by rw [IntKind.wrap_i64]; omega
      obtain ⟨n1, n2⟩ := hN
      obtain ⟨n3, n4⟩ := hn
      clear hU
      generalize aty u V (N - n) = Y at *
      obtain ⟨y1, y2, y3, y4⟩ := Y
      unfold syV at CA
      dsimp only at CA
      have HR0 : Hid (Row ((w.alloc (.cells #[.int .i64 6, .int .i64 U, .int .i64 V, .int .i64 N] 136)).alloc (.cells #[.int .i64 0, .int .i64 0, .int .i64 0, .int .i64 0] 136)) (w.heap.size + 1) 4) := by
        have := Row.new (w.alloc (.cells #[.int .i64 6, .int .i64 U, .int .i64 V, .int .i64 N] 136)) #[.int .i64 0, .int .i64 0, .int .i64 0, .int .i64 0] 136 (List.all_eq_true.1 zero4)
        rw [hsz] at this
        exact this
      go_enter Tryz.func246, Tryz.ntmps246
      go_wp2_with fail
      refine (CA.out _).mono ?_
      rintro e w1 ⟨rfl, hb1⟩
      have HR1 : Hid (Row w1 (w.heap.size + 1) 4) := row_below HR0.out hb1 (by simp)
      have HB1 : Hid (Below w.heap.size w w1) := ((below_alloc w _).alloc (by simp) _).trans (hb1.mono (by simp; omega))
      have hs1 : w.heap.size + 1 < w1.heap.size := by have := hb1.size; simp at this; omega
      clear hb1 HR0 hbb hsz
      obtain ⟨⟨o0, z0⟩, f0⟩ := HR1.out.cell 0 (by omega)
      obtain ⟨⟨o1, z1⟩, f1⟩ := HR1.out.cell 1 (by omega)
      obtain ⟨⟨o2, z2⟩, f2⟩ := HR1.out.cell 2 (by omega)
      obtain ⟨⟨o3, z3⟩, f3⟩ := HR1.out.cell 3 (by omega)
      go_wp2_with fail
      exact postN (X := w1) (B := w.heap.size + 1) [.int .i64 y1, .int .i64 y2, .int .i64 y3, .int .i64 y4] Tryz.results246 rfl Tryz.underlying136 rfl Tryz.sizeSym HR1.out rfl ⟨by rw [HR.out]; rfl, below_cells' (by omega) _ _ _ HB1.out⟩
    · have hU' : (x == U) = false := by simp; exact fun e => hU e.symm
      by_cases hV : V = x
      · have HR : Hid (rpl x u n (6, U, V, N) = aty U u (N + n)) := by show _ = _; unfold rpl; rw [if_pos rfl, if_neg hU, if_pos hV]
        have hV' : (x == V) = true := by simp [hV]
        have CA : Hid (∀ X, Calls Tryz.prog 247 #[.int .i64 U, .int .i64 u, .int .i64 (N + n)] X fun e w' => e = .returned (syV (aty U u (N + n))) ∧ Below X.heap.size X w') := fun X => sAtMost_any _ _ _ X
        have hwr : IntKind.i64.wrap (N + n) = N + n := by rw [IntKind.wrap_i64]; omega
        obtain ⟨n1, n2⟩ := hN
        obtain ⟨n3, n4⟩ := hn
        clear hU hV
        generalize aty U u (N + n) = Y at *
        obtain ⟨y1, y2, y3, y4⟩ := Y
        unfold syV at CA
        dsimp only at CA
        have HR0 : Hid (Row ((w.alloc (.cells #[.int .i64 6, .int .i64 U, .int .i64 V, .int .i64 N] 136)).alloc (.cells #[.int .i64 0, .int .i64 0, .int .i64 0, .int .i64 0] 136)) (w.heap.size + 1) 4) := by
          have := Row.new (w.alloc (.cells #[.int .i64 6, .int .i64 U, .int .i64 V, .int .i64 N] 136)) #[.int .i64 0, .int .i64 0, .int .i64 0, .int .i64 0] 136 (List.all_eq_true.1 zero4)
          rw [hsz] at this
          exact this
        go_enter Tryz.func246, Tryz.ntmps246
        go_wp2_with fail
        refine (CA.out _).mono ?_
        rintro e w1 ⟨rfl, hb1⟩
        have HR1 : Hid (Row w1 (w.heap.size + 1) 4) := row_below HR0.out hb1 (by simp)
        have HB1 : Hid (Below w.heap.size w w1) := ((below_alloc w _).alloc (by simp) _).trans (hb1.mono (by simp; omega))
        have hs1 : w.heap.size + 1 < w1.heap.size := by have := hb1.size; simp at this; omega
        clear hb1 HR0 hbb hsz
        obtain ⟨⟨o0, z0⟩, f0⟩ := HR1.out.cell 0 (by omega)
        obtain ⟨⟨o1, z1⟩, f1⟩ := HR1.out.cell 1 (by omega)
        obtain ⟨⟨o2, z2⟩, f2⟩ := HR1.out.cell 2 (by omega)
        obtain ⟨⟨o3, z3⟩, f3⟩ := HR1.out.cell 3 (by omega)
        go_wp2_with fail
        exact postN (X := w1) (B := w.heap.size + 1) [.int .i64 y1, .int .i64 y2, .int .i64 y3, .int .i64 y4] Tryz.results246 rfl Tryz.underlying136 rfl Tryz.sizeSym HR1.out rfl ⟨by rw [HR.out]; rfl, below_cells' (by omega) _ _ _ HB1.out⟩
      · have hV' : (x == V) = false := by simp; exact fun e => hV e.symm
        have HR : Hid (rpl x u n (6, U, V, N) = (6, U, V, N)) := by show _ = _; unfold rpl; rw [if_pos rfl, if_neg hU, if_neg hV]
        clear hU hV
        go_enter Tryz.func246, Tryz.ntmps246
        go_wp2
        exact sym_ret 6 U V N Tryz.results246 (by rw [hsz]; rfl) ⟨by rw [HR.out]; rfl, hbb⟩
  · have h6' : (q != 6) = true := by simp [h6]
    have HR : Hid (rpl x u n (q, U, V, N) = (q, U, V, N)) := by show _ = _; unfold rpl; rw [if_neg h6]
    clear h6
    go_enter Tryz.func246, Tryz.ntmps246
    go_wp2
    exact sym_ret q U V N Tryz.results246 (by rw [hsz]; rfl) ⟨by rw [HR.out]; rfl, hbb⟩

theorem own_setN {w : World} {base n g cap sz : Nat} {e : TypeId} {xs : List Value} (h : w.ownsRow base e sz (.slice (some ⟨g, 0, none⟩) n cap) n xs) (j : Nat) (u : Value) : (w.setCell ⟨g, j, none⟩ u).ownsRow base e sz (.slice (some ⟨g, 0, none⟩) n cap) n (xs.set j u) := by
  refine ⟨by rw [List.length_set, h.1], ?_⟩
  rcases h.2 with ⟨h1, h2⟩ | ⟨g', cap', cur, hv, hg, hh, h3, h4, h5, h6⟩
  · cases h1
  · cases hv
    refine Or.inr ⟨g, cap, cur.setIfInBounds j u, rfl, hg, heap_setCell_same w g j cur e u hh, h3, h4, by simpa using h5, ?_⟩
    rw [← h6]
    simp [List.take_set]
theorem own_cells {w : World} {base n g cap : Nat} {e : TypeId} {xs : List Value} (h : w.ownsRow base e 4 (.slice (some ⟨g, 0, none⟩) n cap) n xs) (j : Nat) (hj : j < xs.length) : (∃ u, w.cell? ⟨g, j, none⟩ = some u) ∧ w.frozen? ⟨g, j, none⟩ = false ∧ g < w.heap.size ∧ n ≤ cap ∧ cap ≤ maxLen ∧ base ≤ g := by
  rcases h.2 with ⟨h1, h2⟩ | ⟨g', cap', cur, hv, hg, hh, h3, h4, h5, h6⟩
  · cases h1
  · cases hv
    have hlt : g < w.heap.size := by
      rcases Nat.lt_or_ge g w.heap.size with h | h
      · exact h
      · rw [Array.getElem?_eq_none h] at hh; cases hh
    have hc : j < cur.size := by
      have := congrArg List.length h6
      rw [List.length_take] at this
      simp at this
      omega
    exact ⟨⟨cur[j], by simp [World.cell?, hh, hc]⟩, by simp [World.frozen?, hh], hlt, h3, h4, hg⟩
/-- The first k symbols are replaced. -/
theorem set4 (a : List Value) (y : Sym) (b : List Value) (hb : 4 ≤ b.length) : ((((a ++ b).set a.length (.int .i64 y.1)).set (a.length + 1) (.int .i64 y.2.1)).set (a.length + 2) (.int .i64 y.2.2.1)).set (a.length + 3) (.int .i64 y.2.2.2) = a ++ cell4 y ++ b.drop 4 := by
  match b, hb with
  | b0 :: b1 :: b2 :: b3 :: r, _ =>
    have e : a ++ b0 :: b1 :: b2 :: b3 :: r = a ++ ([b0, b1, b2, b3] ++ r) := rfl
    rw [e]
    simp [List.set_append, cell4]

theorem cell4_len (y : Sym) : (cell4 y).length = 4 := rfl
theorem cells4_snoc (l : List Sym) (y : Sym) : cells4 (l ++ [y]) = cells4 l ++ cell4 y := by rw [cells4_app]; simp [cells4]

set_option maxRecDepth 100000 in
set_option maxHeartbeats 2000000 in
theorem replace_any (v : Value) (ys : List Sym) (x u n : Int) (w : World) (h : CondR w v ys) (hy : ∀ y ∈ ys, -999999 ≤ y.2.2.2 ∧ y.2.2.2 ≤ 999999) (hn : -999 ≤ n ∧ n ≤ 999) (hl : ys.length ≤ 100000) :
    Calls Tryz.prog 210 #[v, .int .i64 x, .int .i64 u, .int .i64 n] w fun e w' => ∃ v', e = .returned v' ∧ CondR w' v' (ys.map (rpl x u n)) ∧ Below w.heap.size w w' := by
  obtain ⟨i0, hi, hz0, hz1, hz2⟩ := info_parts Tryz.infoSym
  obtain ⟨pa, cap, rfl⟩ := h.shape
  have HC : Hid (CondR w (.slice pa ys.length cap) ys) := h
  have HY : Hid (∀ y ∈ ys, -999999 ≤ y.2.2.2 ∧ y.2.2.2 ≤ 999999) := hy
  have HN : Hid (-999 ≤ n ∧ n ≤ 999) := hn
  have HFL : Hid (ys.take ys.length = ys) := List.take_length
  clear h hy
  go_enter Tryz.func210, Tryz.ntmps210
  go_wp2_with (at_make; refine wpList_make_full _ rfl _ _ 75 rfl w.heap.size 136 i0 (.agg #[.int .i64 0, .int .i64 0, .int .i64 0, .int .i64 0]) 4 Tryz.underlying75 hi hz0 hz1 .i64 .i64 _ _ ys.length rfl rfl rfl rfl (by rw [hz2]; omega) (by unfold maxLen; omega) (Nat.le_refl _) ?_)
  intro w1 hown0 hgrow
  have hb1 : Below w.heap.size w w1 := (Below.refl _ _).grown hgrow (Nat.le_refl _) (by intro k h; cases h)
  have hlen0 := hown0.1
  generalize (madeCells _ (ys.length * 4)).toList = X0 at *
  clear hgrow
  go_wp2_with fail
  go_loopw [17] (fun iv wr => ∃ (k : Nat) (r : List Value), iv = .int .i64 (k : Int) ∧ k ≤ ys.length ∧ r.length = (ys.length - k) * 4 ∧ Hid (wr.ownsRow w.heap.size 136 4 (.slice (some ⟨w.heap.size, 0, none⟩) ys.length ys.length) ys.length (cells4 ((ys.take k).map (rpl x u n)) ++ r)) ∧ Below w.heap.size w wr) (fun iv _ => ys.length - (intOf iv).toNat)
  case atStart => exact ⟨0, X0, rfl, Nat.zero_le _, by omega, hown0, hb1⟩
  case round =>
    obtain ⟨k, r, rfl, hk, hr, HO, hbr⟩ := hrel
    have hwr := hbr.size
    by_cases hlt : k < ys.length
    · have hlt' : (k : Int) < (ys.length : Int) := by omega
      obtain ⟨y, hys⟩ : ∃ y, ys[k]? = some y := ⟨_, List.getElem?_eq_getElem hlt⟩
      have hny := HY.out y (List.mem_of_getElem? hys)
      rcases HC.out with ⟨_, h0⟩ | ⟨p, cap', hv, h2, h3, h4, h5, _⟩
      · rw [h0] at hlt; simp at hlt
      cases hv
      obtain ⟨q0, q1, q2, q3⟩ := cells4_at ys k y hys
      have z0 := (hbr.cell (p := ⟨p, 0 + k * 4, none⟩) h4).trans (h5 (k * 4) _ q0)
      have z1 := (hbr.cell (p := ⟨p, 0 + (k * 4 + 1), none⟩) h4).trans (h5 (k * 4 + 1) _ q1)
      have z2 := (hbr.cell (p := ⟨p, 0 + (k * 4 + 2), none⟩) h4).trans (h5 (k * 4 + 2) _ q2)
      have z3 := (hbr.cell (p := ⟨p, 0 + (k * 4 + 3), none⟩) h4).trans (h5 (k * 4 + 3) _ q3)
      simp only [Nat.zero_add] at z0 z1 z2 z3
      have hcl : (cells4 ((ys.take k).map (rpl x u n))).length = k * 4 := by rw [cells4_len, List.length_map, List.length_take]; omega
      have htk : (ys.take (k + 1)).map (rpl x u n) = (ys.take k).map (rpl x u n) ++ [rpl x u n y] := by rw [List.take_add_one, List.map_append, hys]; simp
      have CR : Hid (∀ X, Calls Tryz.prog 246 #[.agg #[.int .i64 y.1, .int .i64 y.2.1, .int .i64 y.2.2.1, .int .i64 y.2.2.2], .int .i64 x, .int .i64 u, .int .i64 n] X fun e w' => e = .returned (syV (rpl x u n y)) ∧ Below X.heap.size X w') := fun X => srep_any y.1 y.2.1 y.2.2.1 y.2.2.2 x u n X hny HN.out
      have HTK : Hid (cells4 ((ys.take (k + 1)).map (rpl x u n)) = cells4 ((ys.take k).map (rpl x u n)) ++ cell4 (rpl x u n y)) := by show _ = _; rw [htk, cells4_snoc]
      clear hys hny h5 q0 q1 q2 q3 htk
      generalize cells4 ((ys.take k).map (rpl x u n)) = P at *
      generalize rpl x u n y = Y at *
      obtain ⟨y1, y2, y3, y4⟩ := y
      obtain ⟨t1, t2, t3, t4⟩ := Y
      unfold syV at CR
      dsimp only at z0 z1 z2 z3 CR
      go_wp2_with fail
      refine (CR.out _).mono ?_
      rintro e w3 ⟨rfl, hb3⟩
      have hB3 : Below w.heap.size w w3 := (hbr.alloc hwr _).trans (hb3.mono (by simp; omega))
      have hO3 := ownsRow_below (ownsRow_below HO.out (below_alloc wr _)) hb3
      have hlP : (P ++ r).length = ys.length * 4 := hO3.1
      obtain ⟨⟨o0, d0⟩, f0, hgs, hc1, hc2, hc3⟩ := own_cells hO3 (k * 4) (by omega)
      obtain ⟨⟨o1, d1⟩, f1, _⟩ := own_cells hO3 (k * 4 + 1) (by omega)
      obtain ⟨⟨o2, d2⟩, f2, _⟩ := own_cells hO3 (k * 4 + 2) (by omega)
      obtain ⟨⟨o3, d3⟩, f3, _⟩ := own_cells hO3 (k * 4 + 3) (by omega)
      have HO4 : Hid ((((((w3.setCell ⟨w.heap.size, k * 4, none⟩ (.int .i64 t1)).setCell ⟨w.heap.size, k * 4 + 1, none⟩ (.int .i64 t2)).setCell ⟨w.heap.size, k * 4 + 2, none⟩ (.int .i64 t3)).setCell ⟨w.heap.size, k * 4 + 3, none⟩ (.int .i64 t4)).ownsRow w.heap.size 136 4 (.slice (some ⟨w.heap.size, 0, none⟩) ys.length ys.length) ys.length (P ++ cell4 (t1, t2, t3, t4) ++ r.drop 4))) := by
        have := own_setN (own_setN (own_setN (own_setN hO3 (k * 4) (.int .i64 t1)) (k * 4 + 1) (.int .i64 t2)) (k * 4 + 2) (.int .i64 t3)) (k * 4 + 3) (.int .i64 t4)
        have e := set4 P (t1, t2, t3, t4) r (by omega)
        rw [hcl] at e
        rw [e] at this
        exact this
      have HB4 : Hid (Below w.heap.size w ((((w3.setCell ⟨w.heap.size, k * 4, none⟩ (.int .i64 t1)).setCell ⟨w.heap.size, k * 4 + 1, none⟩ (.int .i64 t2)).setCell ⟨w.heap.size, k * 4 + 2, none⟩ (.int .i64 t3)).setCell ⟨w.heap.size, k * 4 + 3, none⟩ (.int .i64 t4))) := (((hB3.setCell (p := ⟨w.heap.size, k * 4, none⟩) (Nat.le_refl _) _).setCell (p := ⟨w.heap.size, k * 4 + 1, none⟩) (Nat.le_refl _) _).setCell (p := ⟨w.heap.size, k * 4 + 2, none⟩) (Nat.le_refl _) _).setCell (p := ⟨w.heap.size, k * 4 + 3, none⟩) (Nat.le_refl _) _
      clear hO3 hb3 hB3
      go_wp2_with fail
      go_roundw
      case rel => exact ⟨k + 1, r.drop 4, by go_num, by omega, by rw [List.length_drop]; omega, by rw [HTK.out]; exact HO4.out, HB4.out⟩
      case measure => simp [intOf]; omega
    · have hke : k = ys.length := by omega
      subst hke
      have hlt' : ¬ (ys.length : Int) < (ys.length : Int) := by omega
      have hO := HO.out
      have hr0 : r = [] := List.length_eq_zero_iff.1 (by rw [hr]; omega)
      rw [HFL.out, hr0, List.append_nil] at hO
      have hO2 : wr.ownsRow w.heap.size 136 4 (.slice (some ⟨w.heap.size, 0, none⟩) ys.length ys.length) (ys.map (rpl x u n)).length (cells4 (ys.map (rpl x u n))) := by rw [List.length_map]; exact hO
      go_wp2_with fail
      go_ret
      exact ⟨_, rfl, own_cond hO2, hbr⟩
end Go.Proofs.YtkinoehmcfhgbaaGreatDoor.Vl
