/-
  The document's goes, and its Confirm.
  The walk of the law Confirmed.
-/
import Derived.Test.YtkinoehmcfhgbaaDoorT18a
import Derived.Test.YtkinoehmcfhgbaaDoorV16
set_option linter.unusedVariables false
set_option linter.unusedSimpArgs false
namespace Go.Proofs.YtkinoehmcfhgbaaDoor.Vl
open Go.RowKit

theorem goes_any {w0 : World} {b gb : Nat} {q : Option Addr} {cap : Nat} {us : List Atm} {s P : ByteArray} {ys : List Sym} (hp : pars s = some ys) (hus : us = uqs ys) (hP : P.size ≤ 200000) :
    ∀ (kk : Nat) (W : World) (k : Nat) (f : Atm → Int), (∀ a, T3 (f a)) → k ≤ P.size → P.size < k + kk → DS w0 W b gb q cap us s P k false (byl us f) →
      Calls Tryd.prog 18 #[.pointer (some ⟨b, 0, none⟩)] W fun e w' => e = .returned (.tuple #[]) ∧ FrK b gb W w' ∧ GoP w0 w' b gb q cap us s P f (chk us ys kk f (rest P k))
  | 0, W, k, f, hf, hk, hl, h => by omega
  | kk + 1, W, k, f, hf, hk, hl, h => by
    by_cases hlt : k < P.size
    · by_cases h46 : P[k] = 46
      · exact goes_dot hp hus W kk k h hP hk hf hlt h46
      · by_cases h33 : P[k] = 33
        · exact goes_bang hp hus W kk k h hP hk hf hlt h46 h33
        · by_cases h63 : P[k] = 63
          · exact goes_ask hp hus W kk k h hP hk hf hlt h63 fun X k2 g hg hk2 hkk h2 => goes_any hp hus hP kk X k2 g hg hk2 (by omega) h2
          · exact goes_else hp hus W kk k h hP hk hf hlt h46 h33 h63
    · exact goes_end hp hus W kk k h hP hk hf hlt

theorem take_set_ints (xs : List Int) (k : Nat) (x : Int) (hk : k < xs.length) (hx : xs[k]? = some x) : (xs.take k ++ List.replicate (xs.length - k) 0).set k x = xs.take (k + 1) ++ List.replicate (xs.length - (k + 1)) 0 := by
  have e1 : List.replicate (xs.length - k) (0 : Int) = 0 :: List.replicate (xs.length - (k + 1)) 0 := by
    rw [show xs.length - k = (xs.length - (k + 1)) + 1 by omega, List.replicate_succ]
  have e2 : xs.take (k + 1) = xs.take k ++ [x] := by
    rw [List.take_add_one, hx]; rfl
  rw [e1, e2, List.set_append, if_neg (by simp; omega)]
  have : k - (List.take k xs).length = 0 := by simp; omega
  rw [this]
  simp

set_option maxRecDepth 100000 in
set_option maxHeartbeats 4000000 in
theorem refConfirm_any (s P : ByteArray) (w : World) (hmax : s.size ≤ maxLen) (hPm : P.size ≤ maxLen) :
    Calls Tryd.prog 9 #[.string s, .string P] w fun e w' => e = .returned (.tuple #[.bool (fAns (pars s) P.data.toList).1, .int .i64 (fAns (pars s) P.data.toList).2]) ∧ Below w.heap.size w w' := by
  have CA : Hid (∀ w, Calls Tryd.prog 13 #[.string s] w fun e w' => AtmsEnd w (pars s) e w') := fun w => Atoms_any s w hmax
  cases hp : pars s with
  | none =>
    rw [hp] at CA
    have CA' : Hid (∀ w, Calls Tryd.prog 13 #[.string s] w fun e w' => ∃ v, e = .returned (.tuple #[v, .bool false]) ∧ Below w.heap.size w w') := fun w => (CA.out w).mono fun e w' h => by obtain ⟨v, h1, _, h2⟩ := h; exact ⟨v, h1, h2⟩
    clear CA
    go_enter Tryd.func9, Tryd.ntmps9
    go_wp2_with (go_at_call 13; refine (CA'.out _).mono ?_; rintro e w1 ⟨v, rfl, hb1⟩)
    go_ret2
    exact ⟨rfl, hb1⟩
  | some ys =>
    rw [hp] at CA
    have CA' : Hid (∀ w, Calls Tryd.prog 13 #[.string s] w fun e w' => ∃ v, e = .returned (.tuple #[v, .bool true]) ∧ Atms w' v (uqs ys) ∧ Below w.heap.size w w') := fun w => (CA.out w).mono fun e w' h => by obtain ⟨v, h1, h3, h2⟩ := h; exact ⟨v, h1, h3 ys rfl, h2⟩
    clear CA
    have hlen : P.data.toList.length = P.size := by rw [Array.length_toList]; rfl
    by_cases hlong : 200000 < P.size
    · have hl' : (200000 : Int) < (P.size : Int) := by omega
      have HR : Hid (fAns (some ys) P.data.toList = (false, 0)) := by show _ = _; unfold fAns cfm; rw [hlen, decide_eq_false (by omega)]; rfl
      go_enter Tryd.func9, Tryd.ntmps9
      go_wp2_with (go_at_call 13; refine (CA'.out _).mono ?_; rintro e w1 ⟨v, rfl, hA1, hb1⟩)
      go_ret2
      exact ⟨by rw [HR.out]; rfl, hb1⟩
    · have hl' : ¬ (200000 : Int) < (P.size : Int) := by omega
      have HR : Hid (fAns (some ys) P.data.toList = (decide (chk (uqs ys) ys (P.size + 1) (fun _ => 0) (rest P 0) = some []), 0)) := by show _ = _; unfold fAns cfm; rw [hlen, decide_eq_true (by omega)]; rfl
      obtain ⟨hs4, hprs, hul, hok⟩ := pars_facts hp
      have CG : Hid (∀ (W : World) (b gb : Nat) (q : Option Addr) (cap : Nat) (w0 : World), DS w0 W b gb q cap (uqs ys) s P 0 false (byl (uqs ys) (fun _ => 0)) → Calls Tryd.prog 18 #[.pointer (some ⟨b, 0, none⟩)] W fun e w' => e = .returned (.tuple #[]) ∧ FrK b gb W w' ∧ GoP w0 w' b gb q cap (uqs ys) s P (fun _ => 0) (chk (uqs ys) ys (P.size + 1) (fun _ => 0) (rest P 0))) := fun W b gb q cap w0 h => goes_any hp rfl (by omega) (P.size + 1) W 0 _ (fun _ => Or.inl rfl) (Nat.zero_le _) (by omega) h
      generalize fAns (some ys) P.data.toList = FA at *
      generalize chk (uqs ys) ys (P.size + 1) (fun _ => 0) (rest P 0) = CK at *
      generalize hU : uqs ys = us at *
      clear hU hok hprs hlen hp
      obtain ⟨i0, hi, hz0, hz1, hz2⟩ := info_parts Tryd.infoInt
      go_enter Tryd.func9, Tryd.ntmps9
      go_wp2_with (first
        | (go_at_call 13; refine (CA'.out _).mono ?_; rintro e w1 ⟨v, rfl, hA1, hb1⟩; obtain ⟨qa, qc, rfl⟩ := atms_shape hA1)
        | (at_make; refine wpList_make_full _ rfl _ _ 46 rfl w1.heap.size 3 i0 (.int .i64 0) 1 Tryd.underlying46 hi hz0 hz1 .i64 .i64 _ _ us.length rfl rfl rfl rfl (by rw [hz2]; omega) (by unfold maxLen; omega) (Nat.le_refl _) ?_))
      intro w3 hown hgrow
      have hown' : w3.ownsRow w1.heap.size 3 1 (.slice (some ⟨w1.heap.size, 0, none⟩) us.length us.length) us.length ((List.replicate us.length (0 : Int)).map iv) := by
        have h := hown
        rw [toList_madeCells_one] at h
        simpa [iv] using h
      have hb3 : Below w1.heap.size w1 w3 := (Below.refl _ w1).grown hgrow (Nat.le_refl _) (by intro k h; cases h)
      clear hown hgrow
      have hg3 : w1.heap.size < w3.heap.size := by
        rcases hown'.2 with ⟨h, _⟩ | ⟨g, c, cur, h, _, hh, _⟩
        · cases h
        · cases h; exact (Array.getElem?_eq_some_iff.1 hh).1
      have hb4 := hb3.trans ((below_alloc w3 (.cells #[.string s, .slice qa us.length qc, .slice (some ⟨w1.heap.size, 0, none⟩) us.length us.length, .string P, .int .i64 0, .bool false] 48)).mono hb3.size)
      have hD0 : DS w1 (w3.alloc (.cells #[.string s, .slice qa us.length qc, .slice (some ⟨w1.heap.size, 0, none⟩) us.length us.length, .string P, .int .i64 0, .bool false] 48)) w3.heap.size w1.heap.size qa qc us s P 0 false (List.replicate us.length 0) := by
        refine ⟨⟨hb4, hb3.size, Nat.le_refl _, by omega, hA1.below hb4, fun g e => ?_⟩, heap_alloc_new _ _, hown'.alloc _, by simp, by simp; omega⟩
        rcases hA1 with ⟨h, _⟩ | ⟨g', c, h, _, _, hlt, _⟩
        · rw [e] at h; cases h
        · rw [e] at h; cases h; omega
      have HD0 : Hid _ := hD0
      have HB1 : Hid (Below w.heap.size w w1) := hb1
      clear hown' hD0 hb4 hb3 hA1 hb1
      go_wp2_with fail
      generalize w3.heap.size = b at *
      generalize w1.heap.size = gb at *
      generalize w3.alloc (.cells #[.string s, .slice qa us.length qc, .slice (some ⟨gb, 0, none⟩) us.length us.length, .string P, .int .i64 0, .bool false] 48) = W0 at *
      have hbl : us.length ≤ 4000 := hul
      go_loopw [9] (fun s9 wr => ∃ i : Nat, s9 = .int .i64 (i : Int) ∧ i ≤ us.length ∧ DS w1 wr b gb qa qc us s P 0 false ((List.replicate us.length (2 : Int)).take i ++ List.replicate (us.length - i) 0)) (fun s9 _ => us.length - (intOf s9).toNat)
      case atStart => exact ⟨0, rfl, Nat.zero_le _, by simpa using HD0.out⟩
      case round =>
        obtain ⟨i, rfl, hi2, hD⟩ := hrel
        have HDX : Hid _ := hD
        obtain ⟨d0, d1, d2, d3, d4, d5⟩ := hD.lk.cells
        by_cases hlt : i < us.length
        · have hlt' : (i : Int) < (us.length : Int) := by omega
          obtain ⟨g', cap2, hgv2, _, hh2, _, _, hh5, hh6⟩ := own_facts hD.by' (by omega)
          cases hgv2
          have hml : i < (((List.replicate us.length (2 : Int)).take i ++ List.replicate (us.length - i) 0).map iv).length := by simp; omega
          have y1 := hh5 i _ (List.getElem?_eq_getElem hml)
          have y2 := hh6 i
          clear hh5 hh6 hD
          generalize (((List.replicate us.length (2 : Int)).take i ++ List.replicate (us.length - i) 0).map iv)[i] = old at *
          go_wp2_with fail
          refine ⟨⟨i + 1, by go_num, by omega, ?_⟩, by simp [intOf]; omega⟩
          have h1 := HDX.out.put i 2
          have h2 := take_set_ints (List.replicate us.length (2 : Int)) i 2 (by simpa using hlt) (by rw [List.getElem?_replicate, if_pos hlt])
          rw [List.length_replicate] at h2
          rw [h2] at h1
          exact h1
        · have hie : i = us.length := by omega
          subst hie
          have hlt' : ¬ ((us.length : Nat) : Int) < (us.length : Int) := by omega
          have HD2 : Hid (DS w1 wr b gb qa qc us s P 0 false (byl us (fun _ => 0))) := by
            show DS _ _ _ _ _ _ _ _ _ _ _ _
            have e : (List.replicate us.length (2 : Int)).take us.length ++ List.replicate (us.length - us.length) 0 = byl us (fun _ => 0) := by
              unfold byl
              rw [Nat.sub_self, List.take_of_length_le (by simp)]
              simp [dt, List.map_const']
            rw [← e]; exact hD
          clear hD d0 d1 d2 d3 d4 d5 HDX
          go_wp2_with fail
          refine Calls.mono (CG.out _ _ _ _ _ _ HD2.out) ?_
          rintro e w4 ⟨rfl, hF4, hgp⟩
          obtain ⟨k', bad', bs', hD5, hcs⟩ := hgp
          obtain ⟨d0, d1, d2, d3, d4, d5⟩ := hD5.lk.cells
          have HBE : Hid (Below w.heap.size w w4) := HB1.out.trans (hD5.c.h0.mono (by have := HB1.out.size; exact this))
          clear hD5 hF4
          rcases hcs with ⟨r, hres, rfl, rfl, hk', hrk⟩ | ⟨hres, rfl⟩
          · by_cases hke : k' = P.size
            · have hke' : ((k' : Int) == (P.size : Int)) = true := by rw [hke]; simp
              have HR2 : Hid (FA = (true, 0)) := by
                show _ = _
                rw [HR.out, hres, ← hrk, rest_end P k' (by omega)]; rfl
              clear hres hrk hke
              go_wp2_with fail
              go_ret2
              exact ⟨by rw [HR2.out]; rfl, HBE.out⟩
            · have hke' : ((k' : Int) == (P.size : Int)) = false := by rw [beq_eq_false_iff_ne]; omega
              have HR2 : Hid (FA = (false, 0)) := by
                show _ = _
                rw [HR.out, hres, ← hrk, rest_cons P k' (by omega)]; rfl
              clear hres hrk hke
              go_wp2_with fail
              go_ret2
              exact ⟨by rw [HR2.out]; rfl, HBE.out⟩
          · have HR2 : Hid (FA = (false, 0)) := by show _ = _; rw [HR.out, hres]; rfl
            clear hres
            go_wp2_with fail
            go_ret2
            exact ⟨by rw [HR2.out]; rfl, HBE.out⟩
end Go.Proofs.YtkinoehmcfhgbaaDoor.Vl
set_option linter.unusedVariables false
set_option linter.unusedSimpArgs false
namespace Go.Proofs.YtkinoehmcfhgbaaDoor.Vl
open Go.RowKit

def fstB : List UInt8 := [62, 38, 38, 97, 45, 48, 60, 61, 48, 46, 48, 45, 97, 60, 61, 48, 46, 48, 45, 98, 60, 61, 48, 46, 97, 45, 98, 60, 61, 48, 46]
def prfB : List UInt8 := [63, 51, 58, 46, 63, 48, 58, 63, 50, 58, 33, 48, 44, 50, 44, 51, 59, 46, 46]
theorem knownF : fAns (pars ⟨fstB.toArray⟩) prfB = (true, 0) := by kernel_rfl

set_option maxRecDepth 100000 in
set_option maxHeartbeats 2000000 in
theorem confirmed_c (s P : ByteArray) (w : World) (hgl : Gl w) (hmax : s.size ≤ maxLen) (hPm : P.size ≤ maxLen) :
    Calls Tryd.prog 4 #[.string s, .string P] w fun e w' => e = .returned (.bool true) ∧ Below w.heap.size w w' := by
  have C0 : Hid (∀ w, Gl w → Calls Tryd.prog 8 #[.string ⟨#[62, 38, 38, 97, 45, 48, 60, 61, 48, 46, 48, 45, 97, 60, 61, 48, 46, 48, 45, 98, 60, 61, 48, 46, 97, 45, 98, 60, 61, 48, 46]⟩, .string ⟨#[63, 51, 58, 46, 63, 48, 58, 63, 50, 58, 33, 48, 44, 50, 44, 51, 59, 46, 46]⟩] w fun e w' => e = .returned (.tuple #[.bool true, .int .i64 0]) ∧ Below w.heap.size w w') := fun w h => by
    have := cconfirm_any ⟨fstB.toArray⟩ prfB w h (by decide) (by decide)
    rw [knownF] at this
    exact this
  have eP : (⟨P.data.toList.toArray⟩ : ByteArray) = P := by simp
  have hPl : P.data.toList.length ≤ maxLen := by rw [Array.length_toList]; exact hPm
  have C1 : Hid (∀ w, Gl w → Calls Tryd.prog 8 #[.string s, .string P] w fun e w' => e = .returned (.tuple #[.bool (fAns (pars s) P.data.toList).1, .int .i64 (fAns (pars s) P.data.toList).2]) ∧ Below w.heap.size w w') := fun w h => by
    have := cconfirm_any s P.data.toList w h hmax hPl
    rw [eP] at this
    exact this
  have C2 : Hid (∀ w, Calls Tryd.prog 9 #[.string s, .string P] w fun e w' => e = .returned (.tuple #[.bool (fAns (pars s) P.data.toList).1, .int .i64 (fAns (pars s) P.data.toList).2]) ∧ Below w.heap.size w w') := fun w => refConfirm_any s P w hmax hPm
  have CN : Hid (∀ k w, Calls Tryd.prog 6 #[.int .i64 k] w fun e w' => e = .returned (.int .i64 k) ∧ w = w') := num_any
  generalize (fAns (pars s) P.data.toList).1 = V1 at *
  generalize (fAns (pars s) P.data.toList).2 = V2 at *
  clear eP hPl
  go_enter Tryd.func4, Tryd.ntmps4
  go_wp2_with (go_at_call 8; refine (C0.out _ hgl).mono ?_; rintro e w1 ⟨rfl, hb1⟩)
  have hg1 := hgl.on hb1
  have HB1 : Hid (Below w.heap.size w w1) := hb1
  clear C0 hb1
  go_wp2_with (first
    | (go_at_call 6; refine (CN.out _ _).mono ?_; rintro e w' ⟨rfl, rfl⟩)
    | (go_at_call 8; refine (C1.out _ hg1).mono ?_; rintro e w2 ⟨rfl, hb2⟩)
    | (go_at_call 9; refine (C2.out _).mono ?_; rintro e w3 ⟨rfl, hb3⟩))
  go_ret
  refine ⟨by simp, (HB1.out.trans (hb2.mono HB1.out.size)).trans (hb3.mono (by have := hb2.size; have := HB1.out.size; omega))⟩
end Go.Proofs.YtkinoehmcfhgbaaDoor.Vl
