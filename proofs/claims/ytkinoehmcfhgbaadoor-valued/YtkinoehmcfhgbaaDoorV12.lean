/-
  The walks of the program's parseBound, parseAtom and cutSymbol.
-/
import Derived.Test.YtkinoehmcfhgbaaDoorV11
import Derived.Test.YtkinoehmcfhgbaaDoorV7
import Derived.Test.YtkinoehmcfhgbaaDoorShelf
set_option linter.unusedVariables false
set_option linter.unusedSimpArgs false
namespace Go.Proofs.YtkinoehmcfhgbaaDoor.Vl
open Go.RowKit
open Go.Sort (grow)

/- The library's functions, as the kit's contracts have them. -/
theorem c_cut (s sep : ByteArray) (m : Int) (w : World) (hs : s.size < 4294967281) (hm : w.cell? ⟨0, 0, none⟩ = some (.int .i64 m)) :
    Calls Tryd.prog 34 #[.string s, .string sep] w fun e w' => e = .returned (.tuple #[.string ⟨(Lib.cut s.data.toList sep.data.toList).1.toArray⟩, .string ⟨(Lib.cut s.data.toList sep.data.toList).2.1.toArray⟩, .bool (Lib.cut s.data.toList sep.data.toList).2.2]) ∧ ∃ n, w' = w.drewN n :=
  Any.strings_Cut Tryd.lays145 s sep m w hs hm
theorem c_index (s : ByteArray) (c : Int) (w : World) : Calls Tryd.prog 33 #[.string s, .int .u8 c] w fun e w' => e = .returned (.int .i64 (Lib.indexByte s.data.toList c.toNat.toUInt8)) ∧ w' = w :=
  Any.strings_IndexByte Tryd.lays137 s c w
/-- The name of the library's table of powers of ten. -/
def tabName : String := (Rows.valuedRow.laid.map (·.1)).getD 2 ""
theorem c_itoa (n : Int) (h0 : -9223372036854775808 ≤ n) (h1 : n ≤ 9223372036854775807) (w : World) (htab : Lib.TabIs Tryd.prog w tabName .u64 Lib.pow10Tab) :
    Calls Tryd.prog 61 #[.int .i64 n] w fun e w' => e = .returned (.string ⟨(Lib.itoa n).toArray⟩) ∧ ∃ k os, w' = grow (w.drewN k) os :=
  Any.strconv_Itoa Tryd.laysM171 n h0 h1 w htab
theorem c_atoi (s : ByteArray) (hmax : s.size ≤ 9223372036854775806) (v : Int) (h : Lib.atoiAll s.data.toList = .ok v) (w : World) :
    Calls Tryd.prog 60 #[.string s] w fun e w' => e = .returned (.tuple #[.int .i64 v, .nilIface]) ∧ (w' = w ∨ ∃ t, w' = Lib.bytesWorld w 5 t) :=
  Any.strconv_Atoi_ok Tryd.laysC172 s hmax v h w

/- What the library's variables hold. -/
def GlF (w : World) : Prop := (∃ m, w.cell? ⟨0, 0, none⟩ = some (.int .i64 m)) ∧ (∃ ev, w.cell? ⟨1, 0, none⟩ = some ev ∧ (ev = .nilIface ∨ ∃ te pe, ev = .iface te pe)) ∧ (∃ ev, w.cell? ⟨2, 0, none⟩ = some ev ∧ (ev = .nilIface ∨ ∃ te pe, ev = .iface te pe)) ∧ Lib.TabIs Tryd.prog w tabName .u64 Lib.pow10Tab
def Gl (w : World) : Prop := ∀ w', Below w.heap.size w w' → GlF w'
theorem Gl.here {w : World} (h : Gl w) : GlF w := h w (Below.refl _ _)
theorem Gl.on {w w1 : World} (h : Gl w) (hb : Below w.heap.size w w1) : Gl w1 := fun w' h' => h w' (hb.trans (h'.mono hb.size))

theorem below_bytesW (w : World) (e : TypeId) (s : ByteArray) : Below w.heap.size w (Lib.bytesWorld w e s) := by
  refine ⟨rfl, rfl, rfl, ?_, fun k hk => Lib.bytesWorld_at_old w e s k hk⟩
  simp [Lib.bytesWorld, World.freeze, World.alloc, World.drew, -World.alloc_eq, -World.drew_eq]
theorem below_growW (w : World) (k : Nat) (os : Array Obj) : Below w.heap.size w (grow (w.drewN k) os) := by
  have h := below_drewN (Below.refl w.heap.size w) k
  refine ⟨h.os, h.tape, h.output, ?_, fun j hj => ?_⟩
  · have : (grow (w.drewN k) os).heap = (w.drewN k).heap ++ os := rfl
    rw [this, Array.size_append]; have := h.size; omega
  · have : (grow (w.drewN k) os).heap = (w.drewN k).heap ++ os := rfl
    rw [this, Array.getElem?_append_left (by have := h.size; omega)]
    exact h.block j hj
theorem cut_any (s sep : ByteArray) (w : World) (hg : Gl w) (hs : s.size ≤ 4000) :
    Calls Tryd.prog 34 #[.string s, .string sep] w fun e w' => e = .returned (.tuple #[.string ⟨(Lib.cut s.data.toList sep.data.toList).1.toArray⟩, .string ⟨(Lib.cut s.data.toList sep.data.toList).2.1.toArray⟩, .bool (Lib.cut s.data.toList sep.data.toList).2.2]) ∧ Below w.heap.size w w' := by
  obtain ⟨m, hm⟩ := hg.here.1
  exact (c_cut s sep m w (by omega) hm).mono fun e w' h => by
    obtain ⟨h1, n, rfl⟩ := h
    exact ⟨h1, below_drewN (Below.refl _ _) n⟩
theorem atoi_rng {l : List UInt8} {v : Int} (h : Lib.atoiAll l = .ok v) : -9223372036854775808 ≤ v ∧ v ≤ 9223372036854775807 := by
  unfold Lib.atoiAll at h
  split at h
  · cases h
  · simp only at h
    split at h
    · cases h
    · cases h
    · split at h
      · cases h
      · rename_i h1
        split at h
        · cases h
        · rename_i h2
          injection h with h
          split at h <;> omega

set_option maxRecDepth 100000 in
set_option maxHeartbeats 1000000 in
theorem parseBound_any (s : ByteArray) (w : World) (hg : Gl w) (hs : s.size ≤ 4000) :
    Calls Tryd.prog 49 #[.string s] w fun e w' => e = .returned (.tuple #[.int .i64 ((bndX s.data.toList).getD 0), .bool (bndX s.data.toList).isSome]) ∧ Below w.heap.size w w' := by
  cases ha : Lib.atoiAll s.data.toList
  · rename_i v
    have hv := atoi_rng ha
    have CA : Hid (∀ w, Calls Tryd.prog 60 #[.string s] w fun e w' => e = .returned (.tuple #[.int .i64 v, .nilIface]) ∧ Below w.heap.size w w') := fun w => (c_atoi s (by omega) v ha w).mono fun e w' h => by
      obtain ⟨h1, rfl | ⟨t, rfl⟩⟩ := h
      · exact ⟨h1, Below.refl _ _⟩
      · exact ⟨h1, below_bytesW _ _ _⟩
    have CI : Hid (∀ w, Gl w → Calls Tryd.prog 61 #[.int .i64 v] w fun e w' => e = .returned (.string ⟨(Lib.itoa v).toArray⟩) ∧ Below w.heap.size w w') := fun w h => (c_itoa v hv.1 hv.2 w h.here.2.2.2).mono fun e w' h => by
      obtain ⟨h1, k, os, rfl⟩ := h
      exact ⟨h1, below_growW _ _ _⟩
    have HB : Hid (bndX s.data.toList = if Lib.itoa v = s.data.toList ∧ -999999 ≤ v ∧ v ≤ 999999 then some v else none) := by show _ = _; unfold bndX; rw [ha]
    have HT : Hid ((⟨(Lib.itoa v).toArray⟩ : ByteArray).toList = Lib.itoa v) := by show _ = _; rw [ByteArray.toList_eq]
    have HS : Hid (s.toList = s.data.toList) := ByteArray.toList_eq s
    have HE : ((⟨(Lib.itoa v).toArray⟩ : ByteArray).toList == s.toList) = decide (Lib.itoa v = s.data.toList) := by
      rw [HT.out, HS.out, Bool.eq_iff_iff, beq_iff_eq, decide_eq_true_eq]
    clear HT HS
    generalize (⟨(Lib.itoa v).toArray⟩ : ByteArray) = I at *
    generalize bndX s.data.toList = B at *
    clear ha
    by_cases hE : Lib.itoa v = s.data.toList
    · rw [decide_eq_true hE] at HE
      by_cases h1 : v < -999999
      · have HR : Hid (B = none) := by show _ = _; rw [HB.out, if_neg (by omega)]
        go_enter Tryd.func49, Tryd.ntmps49
        go_wp2_with (first
          | (go_at_call 60; refine (CA.out _).mono ?_; rintro e w1 ⟨rfl, hb1⟩)
          | (go_at_call 61; refine (CI.out _ (hg.on hb1)).mono ?_; rintro e w2 ⟨rfl, hb2⟩))
        go_ret2
        exact ⟨by rw [HR.out]; rfl, hb1.trans (hb2.mono hb1.size)⟩
      · by_cases h2 : 999999 < v
        · have HR : Hid (B = none) := by show _ = _; rw [HB.out, if_neg (by omega)]
          go_enter Tryd.func49, Tryd.ntmps49
          go_wp2_with (first
            | (go_at_call 60; refine (CA.out _).mono ?_; rintro e w1 ⟨rfl, hb1⟩)
            | (go_at_call 61; refine (CI.out _ (hg.on hb1)).mono ?_; rintro e w2 ⟨rfl, hb2⟩))
          go_ret2
          exact ⟨by rw [HR.out]; rfl, hb1.trans (hb2.mono hb1.size)⟩
        · have HR : Hid (B = some v) := by show _ = _; rw [HB.out, if_pos ⟨hE, by omega, by omega⟩]
          go_enter Tryd.func49, Tryd.ntmps49
          go_wp2_with (first
            | (go_at_call 60; refine (CA.out _).mono ?_; rintro e w1 ⟨rfl, hb1⟩)
            | (go_at_call 61; refine (CI.out _ (hg.on hb1)).mono ?_; rintro e w2 ⟨rfl, hb2⟩))
          go_ret2
          exact ⟨by rw [HR.out]; rfl, hb1.trans (hb2.mono hb1.size)⟩
    · rw [decide_eq_false hE] at HE
      have HR : Hid (B = none) := by show _ = _; rw [HB.out, if_neg (fun h => hE h.1)]
      go_enter Tryd.func49, Tryd.ntmps49
      go_wp2_with (first
        | (go_at_call 60; refine (CA.out _).mono ?_; rintro e w1 ⟨rfl, hb1⟩)
        | (go_at_call 61; refine (CI.out _ (hg.on hb1)).mono ?_; rintro e w2 ⟨rfl, hb2⟩))
      go_ret2
      exact ⟨by rw [HR.out]; rfl, hb1.trans (hb2.mono hb1.size)⟩
  · have HR : Hid (bndX s.data.toList = none) := by show _ = _; unfold bndX; rw [ha]
    obtain ⟨ev, hv1, hv2⟩ := hg.here.2.1
    have CA : Hid (Calls Tryd.prog 60 #[.string s] w fun e w' => ∃ N x, e = .returned (.tuple #[.int .i64 x, .iface 128 (.pointer (some ⟨N, 0, none⟩))]) ∧ Below w.heap.size w w') := (Any.strconv_Atoi_syntax Tryd.laysC172 s (by omega) ha ev w hv1 hv2).mono fun e w' h => by
      obtain ⟨N, h1, _, _, h2⟩ := h
      exact ⟨N, _, h1, h2⟩
    generalize bndX s.data.toList = B at *
    clear ha hv1
    go_enter Tryd.func49, Tryd.ntmps49
    go_wp2_with (go_at_call 60; refine (CA.out).mono ?_; rintro e w1 ⟨N, x, rfl, hb1⟩)
    go_ret2
    exact ⟨by rw [HR.out]; rfl, hb1⟩
  · have HR : Hid (bndX s.data.toList = none) := by show _ = _; unfold bndX; rw [ha]
    obtain ⟨ev, hv1, hv2⟩ := hg.here.2.2.1
    have CA : Hid (Calls Tryd.prog 60 #[.string s] w fun e w' => ∃ N x, e = .returned (.tuple #[.int .i64 x, .iface 128 (.pointer (some ⟨N, 0, none⟩))]) ∧ Below w.heap.size w w') := (Any.strconv_Atoi_range Tryd.laysC172 s (by omega) ha ev w hv1 hv2).mono fun e w' h => by
      obtain ⟨N, h1, _, _, h2⟩ := h
      exact ⟨N, _, h1, h2⟩
    generalize bndX s.data.toList = B at *
    clear ha hv1
    go_enter Tryd.func49, Tryd.ntmps49
    go_wp2_with (go_at_call 60; refine (CA.out).mono ?_; rintro e w1 ⟨N, x, rfl, hb1⟩)
    go_ret2
    exact ⟨by rw [HR.out]; rfl, hb1⟩
end Go.Proofs.YtkinoehmcfhgbaaDoor.Vl
