/-
  Proofs, as they are looked over: plain words alone.
  The walks of the library's CutPrefix at one byte, and of the program's take.
  Numbers and atoms as the program reads them, and as the document does: plain words alone.
  A symbol of a condition as the program cuts it off, and as the document reads it: the same. Plain words alone.
-/
import Derived.Test.YtkinoehmcfhgbaaDoorV8
import Derived.Test.YtkinoehmcfhgbaaDoorV4
import Derived.Lib.AtoiAll
import Derived.Lib.ItoaNum
import Derived.Lib.ItoaMem
import Derived.Lib.IndexMore
set_option linter.unusedVariables false
set_option linter.unusedSimpArgs false
namespace Go.Proofs.YtkinoehmcfhgbaaDoor.Vl
open Go.RowKit

/-- A number below N, and what stands behind its digits. -/
def fig (N : Nat) (l : List UInt8) : Option (Nat × List UInt8) :=
  if 0 ≤ dg 4000 (l.take (dlen l)) ∧ dg 4000 (l.take (dlen l)) < (N : Int) then some ((dg 4000 (l.take (dlen l))).toNat, l.drop (dlen l)) else none
theorem fig_lt {N : Nat} {l : List UInt8} {n : Nat} {r : List UInt8} (h : fig N l = some (n, r)) : n < N ∧ r = l.drop (dlen l) ∧ (n : Int) = dg 4000 (l.take (dlen l)) := by
  unfold fig at h
  split at h
  · rename_i hc
    injection h with h
    injection h with h1 h2
    exact ⟨by omega, h2.symm, by omega⟩
  · cases h
theorem fig_len {N : Nat} {l : List UInt8} {n : Nat} {r : List UInt8} (h : fig N l = some (n, r)) : r.length ≤ l.length := by
  rw [(fig_lt h).2.1, List.length_drop]; omega
/-- What is assumed, if an atom is of this truth. -/
def ifA (a : Atm) (t : Int) : Atm := if t = 2 then (a.2.1, a.1, -a.2.2 - 1) else a
/-- The assumptions of a cycle. -/
def lks (us : List Atm) (f : Atm → Int) : Nat → List UInt8 → Option (List Atm × List UInt8)
  | 0, _ => none
  | k + 1, l =>
    match fig us.length l with
    | none => none
    | some (n, []) => none
    | some (n, c :: r) =>
      if f (us.getD n (0, 0, 0)) = 0 then none
      else if c = 44 then (lks us f k r).map fun q => (ifA (us.getD n (0, 0, 0)) (f (us.getD n (0, 0, 0))) :: q.1, q.2)
      else if c = 59 then some ([ifA (us.getD n (0, 0, 0)) (f (us.getD n (0, 0, 0)))], r)
      else none
/-- Each one's right operand is the next one's left one. -/
def chn : Atm → List Atm → Bool
  | _, [] => true
  | last, x :: r => last.2.1 == x.1 && chn x r
def smB (ats : List Atm) : Int := (ats.map fun a => a.2.2).sum
def cyc (ats : List Atm) : Bool := chn (ats.getLastD (0, 0, 0)) ats && decide (smB ats < 0)
/-- A proof at the front of a text: what stands behind it. -/
def chk (us : List Atm) (ys : List Sym) : Nat → (Atm → Int) → List UInt8 → Option (List UInt8)
  | 0, _, _ => none
  | k + 1, f, l =>
    match l with
    | [] => none
    | c :: r =>
      if c = 46 then (if (trun f ys).headD 0 = 1 then some r else none)
      else if c = 33 then (match lks us f (r.length + 1) r with
        | some (ats, r') => if cyc ats then some r' else none
        | none => none)
      else if c = 63 then (match fig us.length r with
        | none => none
        | some (n, []) => none
        | some (n, d :: r1) => if f (us.getD n (0, 0, 0)) = 0 ∧ d = 58 then
            (match chk us ys k (putA f (us.getD n (0, 0, 0)) 1) r1 with
            | none => none
            | some r2 => chk us ys k (putA f (us.getD n (0, 0, 0)) 2) r2)
          else none)
      else none
theorem lks_len {us : List Atm} {f : Atm → Int} : ∀ (k : Nat) (l : List UInt8) (ats : List Atm) (r : List UInt8), lks us f k l = some (ats, r) → r.length < l.length ∧ ats ≠ [] ∧ ats.length ≤ l.length
  | 0, l, ats, r, h => by cases h
  | k + 1, l, ats, r, h => by
    unfold lks at h
    split at h
    · cases h
    · cases h
    · rename_i n c r' hf
      have h1 := fig_len hf
      simp only [List.length_cons] at h1
      split at h
      · cases h
      · split at h
        · obtain ⟨⟨ats', r2⟩, h2, h3⟩ := Option.map_eq_some_iff.1 h
          injection h3 with h4 h5
          subst h4 h5
          have := lks_len k r' ats' r2 h2
          simp only [List.length_cons]
          exact ⟨by omega, by simp, by omega⟩
        · split at h
          · injection h with h
            injection h with h4 h5
            subst h4 h5
            exact ⟨by omega, by simp, by simp; omega⟩
          · cases h
theorem chk_len {us : List Atm} {ys : List Sym} : ∀ (k : Nat) (f : Atm → Int) (l r : List UInt8), chk us ys k f l = some r → r.length < l.length
  | 0, f, l, r, h => by cases h
  | k + 1, f, l, r, h => by
    unfold chk at h
    split at h
    · cases h
    · rename_i c l'
      simp only [List.length_cons]
      split at h
      · split at h
        · injection h with h; subst h; omega
        · cases h
      · split at h
        · split at h
          · rename_i ats r' hl
            have := (lks_len _ _ _ _ hl).1
            split at h
            · injection h with h; subst h; omega
            · cases h
          · cases h
        · split at h
          · split at h
            · cases h
            · cases h
            · rename_i n d r1 hf
              have h1 := fig_len hf
              simp only [List.length_cons] at h1
              split at h
              · split at h
                · cases h
                · rename_i r2 h2
                  have a1 := chk_len k _ _ _ h2
                  have a2 := chk_len k _ _ _ h
                  omega
              · cases h
          · cases h
end Go.Proofs.YtkinoehmcfhgbaaDoor.Vl
set_option linter.unusedVariables false
set_option linter.unusedSimpArgs false
namespace Go.Proofs.YtkinoehmcfhgbaaDoor.Vl
open Go.RowKit

theorem ext_first (d : UInt8) (r : List UInt8) : (⟨(d :: r).toArray⟩ : ByteArray).extract 0 1 = ⟨#[d]⟩ := by
  apply ByteArray.ext
  rw [ByteArray.data_extract]
  simp
theorem ext_rest (d : UInt8) (r : List UInt8) : (⟨(d :: r).toArray⟩ : ByteArray).extract 1 (r.length + 1) = ⟨r.toArray⟩ := by
  apply ByteArray.ext
  rw [ByteArray.data_extract]
  simp
theorem one_eq (d c : UInt8) : ((⟨#[d]⟩ : ByteArray) == ⟨#[c]⟩) = (d == c) := by
  have : ((⟨#[d]⟩ : ByteArray) == ⟨#[c]⟩) = ((#[d] : Array UInt8) == #[c]) := rfl
  rw [this]; simp
/-- What is left behind a mark. -/
def tk1 (c : UInt8) (l : List UInt8) : List UInt8 := match l with | [] => [] | d :: r => if d = c then r else d :: r
def is1 (c : UInt8) (l : List UInt8) : Bool := match l with | [] => false | d :: r => d == c

set_option maxRecDepth 100000 in
set_option maxHeartbeats 1000000 in
theorem hasPrefix_any (l : List UInt8) (c : UInt8) (w : World) (hl : l.length ≤ 1000000) :
    Calls Tryd.prog 71 #[.string ⟨l.toArray⟩, .string ⟨#[c]⟩] w fun e w' => e = .returned (.bool (is1 c l)) ∧ w = w' := by
  cases l with
  | nil =>
    go_enter Tryd.func71, Tryd.ntmps71
    go_wp2
    go_ret
    exact ⟨rfl, rfl⟩
  | cons d r =>
    have h1 := ext_first d r
    have h2 : (⟨(d :: r).toArray⟩ : ByteArray).size = r.length + 1 := by simp [ByteArray.size]
    have h3 := one_eq d c
    have hI : Hid (is1 c (d :: r) = (d == c)) := rfl
    generalize (⟨(d :: r).toArray⟩ : ByteArray) = S at *
    have hs : (1 : Int) ≤ (S.size : Int) := by omega
    go_enter Tryd.func71, Tryd.ntmps71
    go_wp2
    go_ret
    exact ⟨by rw [hI.out]; rfl, rfl⟩

set_option maxRecDepth 100000 in
set_option maxHeartbeats 1000000 in
theorem cutPrefix_any (l : List UInt8) (c : UInt8) (w : World) (hl : l.length ≤ 1000000) :
    Calls Tryd.prog 54 #[.string ⟨l.toArray⟩, .string ⟨#[c]⟩] w fun e w' => e = .returned (.tuple #[.string ⟨(tk1 c l).toArray⟩, .bool (is1 c l)]) ∧ w = w' := by
  have CH : Hid (∀ w, Calls Tryd.prog 71 #[.string ⟨l.toArray⟩, .string ⟨#[c]⟩] w fun e w' => e = .returned (.bool (is1 c l)) ∧ w = w') := fun w => hasPrefix_any l c w hl
  have CC : Calls Tryd.prog 62 #[.string ⟨l.toArray⟩, .string ⟨#[c]⟩] w fun e w' => e = .returned (.tuple #[.string ⟨(tk1 c l).toArray⟩, .bool (is1 c l)]) ∧ w = w' := by
    cases l with
    | nil =>
      have CH' : Hid (∀ w, Calls Tryd.prog 71 #[.string ⟨#[]⟩, .string ⟨#[c]⟩] w fun e w' => e = .returned (.bool false) ∧ w = w') := CH
      clear CH
      go_enter Tryd.func62, Tryd.ntmps62
      go_wp2_with (go_at_call 71; refine (CH'.out _).mono ?_; rintro e w' ⟨rfl, rfl⟩)
      go_ret2
      exact ⟨rfl, rfl⟩
    | cons d r =>
      have h1 := ext_rest d r
      have h2 : (⟨(d :: r).toArray⟩ : ByteArray).size = r.length + 1 := by simp [ByteArray.size]
      have HI : Hid (is1 c (d :: r) = (d == c)) := rfl
      have HT : Hid (tk1 c (d :: r) = if d = c then r else d :: r) := rfl
      have HS : Hid ((⟨(d :: r).toArray⟩ : ByteArray) = ⟨(d :: r).toArray⟩) := rfl
      cases hdc : (d == c)
      · have hne : d ≠ c := by simpa using hdc
        have CH' : Hid (∀ w, Calls Tryd.prog 71 #[.string ⟨(d :: r).toArray⟩, .string ⟨#[c]⟩] w fun e w' => e = .returned (.bool false) ∧ w = w') := by
          have := CH.out
          rw [HI.out, hdc] at this
          exact this
        have HR : Hid (tk1 c (d :: r) = d :: r ∧ is1 c (d :: r) = false) := ⟨by rw [HT.out, if_neg hne], by rw [HI.out, hdc]⟩
        clear CH HI HT
        generalize hS : (⟨(d :: r).toArray⟩ : ByteArray) = S at *
        have HS2 : Hid _ := hS
        clear hS hdc hne
        go_enter Tryd.func62, Tryd.ntmps62
        go_wp2_with (go_at_call 71; refine (CH'.out _).mono ?_; rintro e w' ⟨rfl, rfl⟩)
        go_ret2
        exact ⟨by rw [HR.out.1, HR.out.2, HS2.out]; rfl, rfl⟩
      · have hne : d = c := by simpa using hdc
        have CH' : Hid (∀ w, Calls Tryd.prog 71 #[.string ⟨(d :: r).toArray⟩, .string ⟨#[c]⟩] w fun e w' => e = .returned (.bool true) ∧ w = w') := by
          have := CH.out
          rw [HI.out, hdc] at this
          exact this
        have HR : Hid (tk1 c (d :: r) = r ∧ is1 c (d :: r) = true) := ⟨by rw [HT.out, if_pos hne], by rw [HI.out, hdc]⟩
        clear CH HI HT
        generalize hS : (⟨(d :: r).toArray⟩ : ByteArray) = S at *
        have hs : (1 : Int) ≤ (S.size : Int) := by omega
        clear hS hdc hne
        go_enter Tryd.func62, Tryd.ntmps62
        go_wp2_with (go_at_call 71; refine (CH'.out _).mono ?_; rintro e w' ⟨rfl, rfl⟩)
        go_ret2
        exact ⟨by rw [HR.out.1, HR.out.2]; rfl, rfl⟩
  have CC' : Hid _ := CC
  clear CC CH
  go_enter Tryd.func54, Tryd.ntmps54
  go_wp2_with (go_at_call 62; refine Calls.mono CC'.out ?_; rintro e w' ⟨rfl, rfl⟩)
  go_ret2
  exact ⟨rfl, rfl⟩
end Go.Proofs.YtkinoehmcfhgbaaDoor.Vl
set_option linter.unusedVariables false
set_option linter.unusedSimpArgs false
namespace Go.Proofs.YtkinoehmcfhgbaaDoor.Vl
open Go.RowKit

/- What the program reads. -/
def bndX (l : List UInt8) : Option Int := match Lib.atoiAll l with
  | .ok v => if Lib.itoa v = l ∧ -999999 ≤ v ∧ v ≤ 999999 then some v else none
  | _ => none

theorem dgo_append (m : Int) : ∀ (a b : List UInt8) (v : Int), 0 ≤ v → 0 ≤ dgo m a v → dgo m (a ++ b) v = dgo m b (dgo m a v)
  | [], b, v, _, _ => rfl
  | c :: r, b, v, hv, h => by
    simp only [dgo, List.cons_append] at h ⊢
    split
    · rename_i hc; rw [if_pos hc] at h; omega
    · rename_i hc
      rw [if_neg hc] at h
      split
      · rename_i hm; rw [if_pos hm] at h; omega
      · rename_i hm
        rw [if_neg hm] at h
        exact dgo_append m r b _ (by omega) h
theorem dgo_ge (m : Int) : ∀ (a : List UInt8) (v : Int), 0 ≤ v → 0 ≤ dgo m a v → v ≤ dgo m a v
  | [], v, _, _ => Int.le_refl _
  | c :: r, v, hv, h => by
    simp only [dgo] at h ⊢
    split
    · rename_i hc; rw [if_pos hc] at h; omega
    · rename_i hc
      rw [if_neg hc] at h
      split
      · rename_i hm; rw [if_pos hm] at h; omega
      · rename_i hm
        rw [if_neg hm] at h
        have := dgo_ge m r _ (by omega) h
        omega
theorem dgo_dig (m : Int) : ∀ (a : List UInt8) (v : Int), 0 ≤ dgo m a v → ∀ c ∈ a, isd c = true
  | [], v, _ => by intro c hc; cases hc
  | c :: r, v, h => by
    simp only [dgo] at h
    split at h
    · omega
    · rename_i hc
      split at h
      · omega
      · intro d hd
        rcases List.mem_cons.1 hd with rfl | hd
        · unfold isd; simp; omega
        · exact dgo_dig m r _ h d hd
theorem dgo_pref (m : Int) : ∀ (a b : List UInt8) (v : Int), 0 ≤ dgo m (a ++ b) v → 0 ≤ v → 0 ≤ dgo m a v
  | [], b, v, _, hv => hv
  | c :: r, b, v, h, hv => by
    simp only [dgo, List.cons_append] at h ⊢
    split
    · rename_i hc; rw [if_pos hc] at h; omega
    · rename_i hc
      rw [if_neg hc] at h
      split
      · rename_i hm; rw [if_pos hm] at h; omega
      · rename_i hm
        rw [if_neg hm] at h
        exact dgo_pref m r b _ h (by omega)
theorem u8_of (d : UInt8) (k : Nat) (hk : k < 10) (h : (d.toNat : Int) - 48 = (k : Int)) : UInt8.ofNat (48 + k) = d := by
  apply UInt8.toNat_inj.1
  simp
  omega
/-- Digits with no 0 too many are the numeral of their value. -/
theorem dec_of (m : Int) : ∀ (n : Nat) (ds : List UInt8), ds.length = n → ds ≠ [] → (ds.headD 0 ≠ 48 ∨ ds.length = 1) → 0 ≤ dgo m ds 0 → Lib.decDigits (dgo m ds 0).toNat = ds
  | 0, ds, hl, hne, _, _ => absurd (List.length_eq_zero_iff.1 hl) hne
  | n + 1, ds, hl, hne, hh, h0 => by
    rcases List.eq_nil_or_concat ds with rfl | ⟨a, d, rfl⟩
    · exact absurd rfl hne
    · rw [List.concat_eq_append] at *
      have hp := dgo_pref m a [d] 0 h0 (Int.le_refl _)
      have ha := dgo_append m a [d] 0 (Int.le_refl _) hp
      have hd := dgo_dig m _ _ h0 d (by simp)
      have hd' : 48 ≤ (d.toNat : Int) ∧ (d.toNat : Int) ≤ 57 := by unfold isd at hd; simpa using hd
      have hv : dgo m (a ++ [d]) 0 = dgo m a 0 * 10 + ((d.toNat : Int) - 48) := by
        rw [ha]; rw [ha] at h0
        simp only [dgo] at h0 ⊢
        split
        · rename_i h; omega
        · split
          · rename_i h1 h2; rw [if_neg h1, if_pos h2] at h0; omega
          · rfl
      rw [hv]
      cases a with
      | nil =>
        have e : dgo m [] 0 = 0 := rfl
        rw [e]
        rw [Lib.decDigits, dif_pos (by omega)]
        simp only [List.nil_append]
        congr 1
        exact u8_of d _ (by omega) (by omega)
      | cons c r =>
        have hc : c ≠ 48 := by
          rcases hh with hh | hh
          · simpa using hh
          · simp at hh
        have hy : 1 ≤ dgo m (c :: r) 0 := by
          have hcd := dgo_dig m _ _ hp c (by simp)
          have hcd' : 48 ≤ (c.toNat : Int) ∧ (c.toNat : Int) ≤ 57 := by unfold isd at hcd; simpa using hcd
          have hc' : (c.toNat : Int) ≠ 48 := by
            intro e; apply hc
            apply UInt8.toNat_inj.1
            have : c.toNat = 48 := by omega
            rw [this]; rfl
          simp only [dgo] at hp ⊢
          rw [if_neg (by omega)] at hp ⊢
          split
          · rename_i h; rw [if_pos h] at hp; omega
          · rename_i h
            rw [if_neg h] at hp
            have := dgo_ge m r _ (by omega) hp
            omega
        rw [Lib.decDigits, dif_neg (by omega)]
        have e1 : (dgo m (c :: r) 0 * 10 + ((d.toNat : Int) - 48)).toNat / 10 = (dgo m (c :: r) 0).toNat := by omega
        have e2 : (dgo m (c :: r) 0 * 10 + ((d.toNat : Int) - 48)).toNat % 10 = d.toNat - 48 := by omega
        rw [e1, e2, dec_of m n (c :: r) (by simpa using hl) (by simp) (Or.inl (by simpa using hc)) hp]
        congr 1
        rw [u8_of d (d.toNat - 48) (by omega) (by omega)]
theorem u8_dig (k : Nat) (hk : k < 10) : ((UInt8.ofNat (48 + k)).toNat : Int) = 48 + (k : Int) := by
  simp; omega
/-- The numeral of a number is read as that number. -/
theorem dgo_dec (m : Int) : ∀ (u : Nat), (u : Int) ≤ m → dgo m (Lib.decDigits u) 0 = (u : Int) := by
  intro u
  induction u using Nat.strongRecOn with
  | _ u ih =>
    intro hu
    by_cases h : u < 10
    · rw [Lib.decDigits, dif_pos h]
      have := u8_dig u h
      simp only [dgo]
      rw [if_neg (by omega), if_neg (by omega)]; omega
    · rw [Lib.decDigits, dif_neg h]
      have h1 := ih (u / 10) (by omega) (by omega)
      rw [dgo_append m _ _ _ (Int.le_refl _) (by omega), h1]
      have := u8_dig (u % 10) (by omega)
      simp only [dgo]
      rw [if_neg (by omega), if_neg (by omega)]; omega
theorem dec_head : ∀ (u : Nat), Lib.decDigits u ≠ [] ∧ (1 ≤ u → (Lib.decDigits u).headD 0 ≠ 48) := by
  intro u
  induction u using Nat.strongRecOn with
  | _ u ih =>
    by_cases h : u < 10
    · rw [Lib.decDigits, dif_pos h]
      refine ⟨by simp, fun h1 e => ?_⟩
      simp only [List.headD_cons] at e
      have h2 := u8_dig u h
      rw [e] at h2
      have : ((48 : UInt8).toNat : Int) = 48 := rfl
      omega
    · rw [Lib.decDigits, dif_neg h]
      have h1 := ih (u / 10) (by omega)
      refine ⟨by simp, fun _ => ?_⟩
      match hd : Lib.decDigits (u / 10), h1 with
      | [], h1 => exact absurd rfl h1.1
      | c :: r, h1 => exact h1.2 (by omega)
theorem dg_dec (u : Nat) (hu : (u : Int) ≤ 999999) : dg 999999 (Lib.decDigits u) = (u : Int) := by
  have h1 := dgo_dec 999999 u hu
  have h2 := dec_head u
  match hd : Lib.decDigits u, h1, h2 with
  | [], _, h2 => exact absurd rfl h2.1
  | c :: r, h1, h2 =>
    rw [dgo_zero, if_neg, h1]
    intro hc
    simp only [Bool.and_eq_true, beq_iff_eq, Bool.not_eq_true', List.isEmpty_eq_false_iff] at hc
    by_cases hu1 : 1 ≤ u
    · exact h2.2 hu1 (by simpa using hc.1)
    · have : u = 0 := by omega
      subst this
      rw [Lib.decDigits, dif_pos (by omega)] at hd
      cases hd
      exact hc.2 rfl
theorem dlen_app : ∀ (a b : List UInt8), (∀ c ∈ a, isd c = true) → dlen (a ++ b) = a.length + dlen b
  | [], b, _ => by simp
  | c :: r, b, h => by
    have := dlen_app r b (fun d hd => h d (by simp [hd]))
    simp only [List.cons_append, dlen, h c (by simp), if_true, List.length_cons]; omega
theorem dlen_take : ∀ (l : List UInt8), ∀ c ∈ l.take (dlen l), isd c = true
  | [] => by simp [dlen]
  | c :: r => by
    simp only [dlen]
    split
    · rename_i h
      intro d hd
      rw [List.take_succ_cons] at hd
      rcases List.mem_cons.1 hd with rfl | hd
      · exact h
      · exact dlen_take r d hd
    · simp
theorem dlen_dot (tail : List UInt8) : dlen (46 :: tail) = 0 := rfl
theorem dec_dig (u : Nat) (hu : (u : Int) ≤ 999999) : ∀ c ∈ Lib.decDigits u, isd c = true :=
  dgo_dig 999999 _ 0 (by rw [dgo_dec 999999 u hu]; omega)
theorem isd_45 : isd 45 = false := rfl
theorem sgd_c (c : UInt8) (r : List UInt8) : sgd (c :: r) = if (c == 45) = true then 1 else 0 := rfl
/-- The numeral of a number, with a point behind it, is read as that number. -/
theorem bnd_itoa (n : Int) (h0 : -999999 ≤ n) (h1 : n ≤ 999999) (tail : List UInt8) : bnd (Lib.itoa n ++ 46 :: tail) = some (n, (Lib.itoa n).length) := by
  unfold Lib.itoa
  split
  · rename_i hn
    have hu : ((n.natAbs : Nat) : Int) ≤ 999999 := by omega
    have hs : sgd (45 :: Lib.decDigits n.natAbs ++ 46 :: tail) = 1 := rfl
    unfold bnd
    rw [hs]
    have hd : (45 :: Lib.decDigits n.natAbs ++ 46 :: tail).drop 1 = Lib.decDigits n.natAbs ++ 46 :: tail := rfl
    rw [hd, dlen_app _ _ (dec_dig _ hu), dlen_dot, Nat.add_zero, List.take_left' rfl, dg_dec _ hu, if_neg (by omega), if_pos rfl]
    simp only [List.length_cons]
    congr 2
    · omega
    · omega
  · rename_i hn
    have hu : ((n.toNat : Nat) : Int) ≤ 999999 := by omega
    have hs : sgd (Lib.decDigits n.toNat ++ 46 :: tail) = 0 := by
      have h2 := dec_head n.toNat
      have h3 := dec_dig n.toNat hu
      match hd : Lib.decDigits n.toNat, h2, h3 with
      | [], h2, _ => exact absurd rfl h2.1
      | c :: r, _, h3 =>
        show sgd (c :: (r ++ 46 :: tail)) = 0
        rw [sgd_c, if_neg]
        intro e
        rw [beq_iff_eq] at e
        have := h3 c (by simp)
        rw [e] at this; cases this
    unfold bnd
    rw [hs, List.drop_zero, dlen_app _ _ (dec_dig _ hu), dlen_dot, Nat.add_zero, List.take_left' rfl, dg_dec _ hu, if_neg (by omega), if_neg (by omega)]
    congr 2
    · omega
    · omega
/-- A number that is read is the numeral of what it is read as. -/
theorem itoa_bnd {l : List UInt8} {n : Int} {k : Nat} (h : bnd l = some (n, k)) : l.take k = Lib.itoa n ∧ -999999 ≤ n ∧ n ≤ 999999 := by
  have hr := bnd_range h
  refine ⟨?_, hr.1, hr.2.1⟩
  unfold bnd at h
  split at h
  · cases h
  · rename_i hc
    generalize hds : (l.drop (sgd l)).take (dlen (l.drop (sgd l))) = ds at *
    have hdg : 0 ≤ dg 999999 ds := by omega
    have hdec : Lib.decDigits (dg 999999 ds).toNat = ds := by
      cases ds with
      | nil => exact absurd hdg (by decide)
      | cons c r =>
        rw [dgo_zero] at hdg ⊢
        split at hdg
        · omega
        · rename_i h48
          rw [if_neg h48]
          refine dec_of 999999 _ (c :: r) rfl (by simp) ?_ hdg
          by_cases hc48 : c = 48
          · right
            subst hc48
            simp only [beq_self_eq_true, Bool.true_and, Bool.not_eq_true', List.isEmpty_eq_false_iff, ne_eq, Decidable.not_not] at h48
            rw [h48]; rfl
          · left; simpa using hc48
    have hk : l.take (sgd l + dlen (l.drop (sgd l))) = l.take (sgd l) ++ ds := by rw [List.take_add, hds]
    rcases Nat.lt_or_ge (sgd l) 1 with hs | hs
    · have hs0 : sgd l = 0 := by omega
      rw [if_neg (by omega)] at h
      have hkk := hk
      injection h with h; injection h with h1 h2
      rw [← h2, hkk, hs0, List.take_zero, List.nil_append, ← h1]
      unfold Lib.itoa
      rw [if_neg (by omega), hdec]
    · have hs1 : sgd l = 1 := by unfold sgd at hs ⊢; split at hs <;> simp_all
      rw [if_pos hs1] at h
      injection h with h; injection h with h1 h2
      have hl : l.take 1 = [45] := by
        cases l with
        | nil => cases hs1
        | cons c r =>
          rw [sgd_c] at hs1
          split at hs1
          · rename_i e; rw [beq_iff_eq] at e; rw [e]; rfl
          · cases hs1
      rw [← h2, hk, hs1, hl, ← h1]
      unfold Lib.itoa
      have hpos : 0 < dg 999999 ds := by
        rcases Int.lt_or_le 0 (dg 999999 ds) with h | h
        · exact h
        · exact absurd (Or.inr ⟨hs1, by omega⟩) hc
      rw [if_pos (by omega)]
      have : (-dg 999999 ds).natAbs = (dg 999999 ds).toNat := by omega
      rw [this, hdec]; rfl
theorem uint_dgo : ∀ (l : List UInt8) (v : Nat), 0 ≤ dgo 999999 l (v : Int) → Lib.parseUint10 v l = .ok (dgo 999999 l (v : Int)).toNat
  | [], v, _ => by simp [Lib.parseUint10, dgo]
  | c :: r, v, h => by
    simp only [dgo] at h ⊢
    split
    · rename_i hc; rw [if_pos hc] at h; omega
    · rename_i hc
      rw [if_neg hc] at h
      split
      · rename_i hm; rw [if_pos hm] at h; omega
      · rename_i hm
        rw [if_neg hm] at h
        have e : ((v : Int) * 10 + ((c.toNat : Int) - 48)) = ((v * 10 + (c.toNat - 48) : Nat) : Int) := by omega
        rw [e] at h hm ⊢
        simp only [Lib.parseUint10]
        rw [if_pos (by omega), if_neg (by omega), if_neg (by omega)]
        exact uint_dgo r _ h
theorem mag_dec (u : Nat) (hu : (u : Int) ≤ 999999) : Lib.parseMag (Lib.decDigits u) = .ok u := by
  unfold Lib.parseMag
  rw [if_neg (dec_head u).1]
  have h1 := dgo_dec 999999 u hu
  have := uint_dgo (Lib.decDigits u) 0 (by rw [show ((0 : Nat) : Int) = 0 from rfl, h1]; omega)
  rw [this, show ((0 : Nat) : Int) = 0 from rfl, h1]; simp
theorem atoi_itoa (n : Int) (h0 : -999999 ≤ n) (h1 : n ≤ 999999) : Lib.atoiAll (Lib.itoa n) = .ok n := by
  unfold Lib.itoa
  split
  · rename_i hn
    have hu : ((n.natAbs : Nat) : Int) ≤ 999999 := by omega
    unfold Lib.atoiAll
    simp only
    rw [show (if UInt8.toNat 45 = 43 ∨ UInt8.toNat 45 = 45 then Lib.decDigits n.natAbs else 45 :: Lib.decDigits n.natAbs) = Lib.decDigits n.natAbs from if_pos (Or.inr rfl), mag_dec _ hu]
    simp only
    rw [if_neg (by simp), if_neg (by omega), if_pos (show UInt8.toNat 45 = 45 from rfl)]
    congr 1; omega
  · rename_i hn
    have hu : ((n.toNat : Nat) : Int) ≤ 999999 := by omega
    have h2 := dec_head n.toNat
    have h3 := dec_dig n.toNat hu
    have h4 := mag_dec _ hu
    match hd : Lib.decDigits n.toNat, h2, h3, h4 with
    | [], h2, _, _ => exact absurd rfl h2.1
    | c :: r, _, h3, h4 =>
      have hc := h3 c (by simp)
      have hc' : 48 ≤ (c.toNat : Int) ∧ (c.toNat : Int) ≤ 57 := by unfold isd at hc; simpa using hc
      unfold Lib.atoiAll
      simp only
      rw [if_neg (by omega), h4]
      simp only
      rw [if_neg (by omega), if_neg (by omega), if_neg (by omega)]
      congr 1; omega
theorem bndX_itoa (n : Int) (h0 : -999999 ≤ n) (h1 : n ≤ 999999) : bndX (Lib.itoa n) = some n := by
  unfold bndX
  rw [atoi_itoa n h0 h1]
  simp [h0, h1]
theorem itoa_bndX {l : List UInt8} {n : Int} (h : bndX l = some n) : l = Lib.itoa n ∧ -999999 ≤ n ∧ n ≤ 999999 := by
  unfold bndX at h
  split at h
  · split at h
    · rename_i hc; cases h; exact ⟨hc.1.symm, hc.2⟩
    · cases h
  · cases h
end Go.Proofs.YtkinoehmcfhgbaaDoor.Vl
set_option linter.unusedVariables false
set_option linter.unusedSimpArgs false
namespace Go.Proofs.YtkinoehmcfhgbaaDoor.Vl
open Go.RowKit

def ops5 : List UInt8 := [48, 97, 98, 99, 100]
def mks6 : List UInt8 := [116, 102, 33, 38, 124, 62]
/-- An atom without its point, as the program reads it. -/
def patm (l : List UInt8) : Option Atm :=
  match Lib.cut l [60, 61] with
  | (sides, num, found) =>
    if !found || sides.length != 3 || !(sides.getD 1 0 == 45) || (sides.getD 0 0 == sides.getD 2 0) then none else
    match bndX num with
    | none => none
    | some n => if Lib.indexByte ops5 (sides.getD 0 0) < 0 ∨ Lib.indexByte ops5 (sides.getD 2 0) < 0 then none else some (Lib.indexByte ops5 (sides.getD 0 0), Lib.indexByte ops5 (sides.getD 2 0), n)
/-- A symbol and what stands behind it, as the program cuts it off. -/
def csym : List UInt8 → Option (Sym × List UInt8)
  | [] => none
  | c :: r => if 0 ≤ Lib.indexByte mks6 c then some ((Lib.indexByte mks6 c, 0, 0, 0), r) else
    if (Lib.cut (c :: r) [46]).2.2 = true then (patm (Lib.cut (c :: r) [46]).1).map fun a => ((6, a), (Lib.cut (c :: r) [46]).2.1) else none

theorem ib_no (b c : UInt8) (l : List UInt8) (h : (b == c) = false) (hl : Lib.indexByte l c = -1) : Lib.indexByte (b :: l) c = -1 := by
  simp [Lib.indexByte, h, hl]
theorem mks_mk (c : UInt8) : Lib.indexByte mks6 c = mk (c.toNat : Int) := by
  by_cases h1 : c = 116
  · subst h1; rfl
  by_cases h2 : c = 102
  · subst h2; rfl
  by_cases h3 : c = 33
  · subst h3; rfl
  by_cases h4 : c = 38
  · subst h4; rfl
  by_cases h5 : c = 124
  · subst h5; rfl
  by_cases h6 : c = 62
  · subst h6; rfl
  have e1 : ((c.toNat : Int) == 116) = (c == 116) := u8_beq c 116 (by omega)
  have e2 : ((c.toNat : Int) == 102) = (c == 102) := u8_beq c 102 (by omega)
  have e3 : ((c.toNat : Int) == 33) = (c == 33) := u8_beq c 33 (by omega)
  have e4 : ((c.toNat : Int) == 38) = (c == 38) := u8_beq c 38 (by omega)
  have e5 : ((c.toNat : Int) == 124) = (c == 124) := u8_beq c 124 (by omega)
  have e6 : ((c.toNat : Int) == 62) = (c == 62) := u8_beq c 62 (by omega)
  have m1 : (c == 116) = false := by rw [beq_eq_false_iff_ne]; exact h1
  have m2 : (c == 102) = false := by rw [beq_eq_false_iff_ne]; exact h2
  have m3 : (c == 33) = false := by rw [beq_eq_false_iff_ne]; exact h3
  have m4 : (c == 38) = false := by rw [beq_eq_false_iff_ne]; exact h4
  have m5 : (c == 124) = false := by rw [beq_eq_false_iff_ne]; exact h5
  have m6 : (c == 62) = false := by rw [beq_eq_false_iff_ne]; exact h6
  have hr : mk (c.toNat : Int) = -1 := by
    unfold mk; simp only [e1, e2, e3, e4, e5, e6, m1, m2, m3, m4, m5, m6, Bool.false_eq_true, if_false]
  rw [hr]
  unfold mks6
  exact ib_no _ _ _ (by rw [Bool.beq_comm]; exact m1) (ib_no _ _ _ (by rw [Bool.beq_comm]; exact m2) (ib_no _ _ _ (by rw [Bool.beq_comm]; exact m3) (ib_no _ _ _ (by rw [Bool.beq_comm]; exact m4) (ib_no _ _ _ (by rw [Bool.beq_comm]; exact m5) (ib_no _ _ _ (by rw [Bool.beq_comm]; exact m6) rfl)))))
theorem ops_plu (c : UInt8) : Lib.indexByte ops5 c = plu c := by
  have e1 : ((c.toNat : Int) == 48) = (c == 48) := u8_beq c 48 (by omega)
  have e2 : ((c.toNat : Int) == 97) = (c == 97) := u8_beq c 97 (by omega)
  have e3 : ((c.toNat : Int) == 98) = (c == 98) := u8_beq c 98 (by omega)
  have e4 : ((c.toNat : Int) == 99) = (c == 99) := u8_beq c 99 (by omega)
  have e5 : ((c.toNat : Int) == 100) = (c == 100) := u8_beq c 100 (by omega)
  unfold plu plc ops5
  by_cases h1 : c = 48
  · subst h1; rfl
  by_cases h2 : c = 97
  · subst h2; rfl
  by_cases h3 : c = 98
  · subst h3; rfl
  by_cases h4 : c = 99
  · subst h4; rfl
  by_cases h5 : c = 100
  · subst h5; rfl
  have m1 : (c == 48) = false := by rw [beq_eq_false_iff_ne]; exact h1
  have m2 : (c == 97) = false := by rw [beq_eq_false_iff_ne]; exact h2
  have m3 : (c == 98) = false := by rw [beq_eq_false_iff_ne]; exact h3
  have m4 : (c == 99) = false := by rw [beq_eq_false_iff_ne]; exact h4
  have m5 : (c == 100) = false := by rw [beq_eq_false_iff_ne]; exact h5
  simp only [e1, e2, e3, e4, e5, m1, m2, m3, m4, m5, Bool.or_self, Bool.false_eq_true, if_false]
  exact ib_no _ _ _ (by rw [Bool.beq_comm]; exact m1) (ib_no _ _ _ (by rw [Bool.beq_comm]; exact m2) (ib_no _ _ _ (by rw [Bool.beq_comm]; exact m3) (ib_no _ _ _ (by rw [Bool.beq_comm]; exact m4) (ib_no _ _ _ (by rw [Bool.beq_comm]; exact m5) rfl))))
theorem plu_inj {a c : UInt8} (ha : 0 ≤ plu a) (h : plu a = plu c) : a = c := by
  unfold plu plc at *
  simp only [beq_iff_eq, Bool.or_eq_true] at *
  apply UInt8.toNat_inj.1
  repeat' split at h
  all_goals simp_all
  all_goals omega
theorem plu_not {a : UInt8} (ha : 0 ≤ plu a) : a ≠ 46 ∧ a ≠ 60 ∧ a ≠ 45 := by
  refine ⟨?_, ?_, ?_⟩ <;> intro e <;> subst e <;> exact absurd ha (by decide)

/-- The one form of an atom. -/
def Form (l : List UInt8) (a c : UInt8) (n : Int) (tail : List UInt8) : Prop :=
  l = a :: 45 :: c :: 60 :: 61 :: (Lib.itoa n ++ 46 :: tail) ∧ 0 ≤ plu a ∧ 0 ≤ plu c ∧ plu a ≠ plu c ∧ -999999 ≤ n ∧ n ≤ 999999
theorem atm_form {l : List UInt8} {q : Atm} {k : Nat} (h : atm l = some (q, k)) : ∃ a c n tail, Form l a c n tail ∧ q = (plu a, plu c, n) ∧ tail = l.drop k := by
  match l, h with
  | a :: b :: c :: d :: e :: r, h =>
    simp only [atm] at h
    split at h
    · cases h
    · rename_i h1
      cases hb : bnd r with
      | none => rw [hb] at h; cases h
      | some p =>
        obtain ⟨n, j⟩ := p
        rw [hb] at h
        simp only at h
        split at h
        · cases h
        · rename_i h2
          simp only [Bool.or_eq_true, Bool.not_eq_true', beq_eq_false_iff_ne, not_or, ne_eq, Decidable.not_not, List.cons.injEq, and_true] at h1
          simp only [Bool.or_eq_true, decide_eq_true_eq, Bool.not_eq_true', beq_eq_false_iff_ne, beq_iff_eq, not_or, ne_eq, Decidable.not_not] at h2
          obtain ⟨⟨⟨c1, c2⟩, c3⟩, c4⟩ := h2
          obtain ⟨⟨_, hb45⟩, hd60, he61⟩ := h1
          subst hb45 hd60 he61
          obtain ⟨i1, i2, i3⟩ := itoa_bnd hb
          cases h
          have hj : j < r.length := by
            rcases Nat.lt_or_ge j r.length with hj | hj
            · exact hj
            · rw [List.getD_eq_getElem?_getD, List.getElem?_eq_none hj] at c4; exact absurd c4 (by decide)
          refine ⟨a, c, n, r.drop (j + 1), ⟨?_, by omega, by omega, c3, i2, i3⟩, rfl, ?_⟩
          · have hr : r = r.take j ++ 46 :: r.drop (j + 1) := by
              conv => lhs; rw [← List.take_append_drop j r]
              congr 1
              rw [List.drop_eq_getElem_cons hj]
              congr 1
              rw [List.getD_eq_getElem?_getD, List.getElem?_eq_getElem hj] at c4
              exact c4
            rw [i1] at hr
            rw [← hr]
          · show r.drop (j + 1) = (a :: 45 :: c :: 60 :: 61 :: r).drop (6 + j)
            rw [show 6 + j = (j + 1) + 1 + 1 + 1 + 1 + 1 by omega]
            simp only [List.drop_succ_cons]
theorem form_atm {l : List UInt8} {a c : UInt8} {n : Int} {tail : List UInt8} (h : Form l a c n tail) : ∃ k, atm l = some ((plu a, plu c, n), k) ∧ tail = l.drop k := by
  obtain ⟨rfl, h1, h2, h3, h4, h5⟩ := h
  have hb := bnd_itoa n h4 h5 tail
  refine ⟨6 + (Lib.itoa n).length, ?_, ?_⟩
  · have he : (Lib.itoa n ++ 46 :: tail).isEmpty = false := by simp
    simp only [atm, he, hb]
    have hg : (Lib.itoa n ++ 46 :: tail).getD (Lib.itoa n).length 0 = 46 := by
      rw [List.getD_eq_getElem?_getD, List.getElem?_append_right (Nat.le_refl _)]; simp
    rw [hg]
    have d1 : decide (plu a < 0) = false := by simp; omega
    have d2 : decide (plu c < 0) = false := by simp; omega
    have d3 : (plu a == plu c) = false := by simpa using h3
    rw [d1, d2, d3]; rfl
  · rw [show 6 + (Lib.itoa n).length = ((Lib.itoa n).length + 1) + 1 + 1 + 1 + 1 + 1 by omega]
    simp only [List.drop_succ_cons]
    rw [List.drop_append, List.drop_eq_nil_of_le (by omega)]
    simp
theorem itoa_no (n : Int) (h0 : -999999 ≤ n) (h1 : n ≤ 999999) : ∀ x ∈ Lib.itoa n, x ≠ 46 := by
  intro x hx e
  subst e
  unfold Lib.itoa at hx
  split at hx
  · rcases List.mem_cons.1 hx with h | h
    · exact absurd h (by decide)
    · have := dec_dig _ (by omega) 46 h; cases this
  · have := dec_dig _ (by omega) 46 hx; cases this
theorem cut_dot (x tail : List UInt8) (h : ∀ c ∈ x, c ≠ 46) : Lib.cut (x ++ 46 :: tail) [46] = (x, tail, true) := by
  have hi : Lib.index (x ++ 46 :: tail) [46] = x.length := by
    refine Lib.index_first (by simp) ?_ ?_
    · unfold Lib.occAt; simp [List.isPrefixOf]
    · intro j hj
      unfold Lib.occAt
      rw [List.drop_append_of_le_length (by omega), List.drop_eq_getElem_cons hj]
      simp only [List.cons_append, List.isPrefixOf, Bool.and_true, beq_eq_false_iff_ne]
      exact fun e => h _ (List.getElem_mem hj) e.symm
  unfold Lib.cut
  rw [hi, if_pos (by omega)]
  simp
theorem cut_back {l sep x y : List UInt8} (h : Lib.cut l sep = (x, y, true)) : l = x ++ sep ++ y := by
  unfold Lib.cut at h
  split at h
  · rename_i h0
    rcases Lib.index_spec l sep with ⟨h1, _⟩ | ⟨i, h1, h2, h3, _⟩
    · omega
    · rw [h1, Int.toNat_natCast] at h
      injection h with hx h
      injection h with hy _
      unfold Lib.occAt at h3
      rw [List.isPrefixOf_iff_prefix] at h3
      obtain ⟨t, ht⟩ := h3
      have : y = t := by
        rw [← hy, ← List.drop_drop, ← ht]; simp
      rw [← hx, this, List.append_assoc, ht, List.take_append_drop]
  · cases h
theorem cut_le (a c : UInt8) (num : List UInt8) (ha : a ≠ 60) (hc : c ≠ 60) : Lib.cut (a :: 45 :: c :: 60 :: 61 :: num) [60, 61] = ([a, 45, c], num, true) := by
  have hi : Lib.index (a :: 45 :: c :: 60 :: 61 :: num) [60, 61] = ((3 : Nat) : Int) := by
    refine Lib.index_first (by simp) rfl ?_
    intro j hj
    have ha' : (60 == a) = false := by rw [beq_eq_false_iff_ne]; exact fun e => ha e.symm
    have hc' : (60 == c) = false := by rw [beq_eq_false_iff_ne]; exact fun e => hc e.symm
    match j, hj with
    | 0, _ => simp [Lib.occAt, List.isPrefixOf, ha']
    | 1, _ => simp [Lib.occAt, List.isPrefixOf]
    | 2, _ => simp [Lib.occAt, List.isPrefixOf, hc']
  unfold Lib.cut
  rw [hi, if_pos (by omega)]
  rfl
theorem patm_form {a c : UInt8} {n : Int} (h1 : 0 ≤ plu a) (h2 : 0 ≤ plu c) (h3 : plu a ≠ plu c) (h4 : -999999 ≤ n) (h5 : n ≤ 999999) : patm (a :: 45 :: c :: 60 :: 61 :: Lib.itoa n) = some (plu a, plu c, n) := by
  unfold patm
  rw [cut_le a c _ (plu_not h1).2.1 (plu_not h2).2.1]
  have hac : (a == c) = false := by rw [beq_eq_false_iff_ne]; intro e; subst e; exact h3 rfl
  simp only [List.length_cons, List.length_nil, List.getD_cons_zero, List.getD_cons_succ, hac, bndX_itoa n h4 h5, ops_plu]
  rw [if_neg (by decide), if_neg (by omega)]
theorem form_patm {l : List UInt8} {q : Atm} (h : patm l = some q) : ∃ a c n, l = a :: 45 :: c :: 60 :: 61 :: Lib.itoa n ∧ q = (plu a, plu c, n) ∧ 0 ≤ plu a ∧ 0 ≤ plu c ∧ plu a ≠ plu c ∧ -999999 ≤ n ∧ n ≤ 999999 := by
  unfold patm at h
  match hcut : Lib.cut l [60, 61], h with
  | (sides, num, found), h =>
    simp only at h
    split at h
    · cases h
    · rename_i h1
      cases hb : bndX num with
      | none => rw [hb] at h; cases h
      | some n =>
        rw [hb] at h
        simp only at h
        split at h
        · cases h
        · rename_i h2
          simp only [Bool.or_eq_true, Bool.not_eq_true', bne_iff_ne, beq_eq_false_iff_ne, beq_iff_eq, not_or, ne_eq, Decidable.not_not, Bool.not_eq_false] at h1
          obtain ⟨⟨⟨f1, f2⟩, f3⟩, f4⟩ := h1
          subst f1
          match sides, f2 with
          | [a, b, c], _ =>
            simp only [List.getD_cons_zero, List.getD_cons_succ] at f3 f4 h2 h
            subst f3
            obtain ⟨i1, i2, i3⟩ := itoa_bndX hb
            have hl := cut_back hcut
            rw [ops_plu, ops_plu] at h2 h
            cases h
            refine ⟨a, c, n, by rw [hl, i1]; rfl, rfl, by omega, by omega, fun e => f4 (plu_inj (by omega) e), i2, i3⟩
/-- The two readers cut off the same. -/
theorem csym_sym (c : UInt8) (r : List UInt8) : csym (c :: r) = (sym (c :: r)).map fun q => (q.1, (c :: r).drop q.2) := by
  simp only [csym, sym, mks_mk]
  split
  · simp
  · rename_i hm
    cases ha : atm (c :: r) with
    | some q =>
      obtain ⟨q, k⟩ := q
      obtain ⟨a, c', n, tail, hf, rfl, ht⟩ := atm_form ha
      obtain ⟨hl, h1, h2, h3, h4, h5⟩ := hf
      have hcut : Lib.cut (c :: r) [46] = (a :: 45 :: c' :: 60 :: 61 :: Lib.itoa n, tail, true) := by
        rw [hl]
        refine cut_dot (a :: 45 :: c' :: 60 :: 61 :: Lib.itoa n) tail ?_
        intro x hx
        simp only [List.mem_cons] at hx
        rcases hx with rfl | rfl | rfl | rfl | rfl | hx
        · exact (plu_not h1).1
        · decide
        · exact (plu_not h2).1
        · decide
        · decide
        · exact itoa_no n h4 h5 x hx
      rw [hcut]
      simp only [if_true, patm_form h1 h2 h3 h4 h5, Option.map_some, ht]
    | none =>
      simp only [Option.map_none]
      split
      · rename_i hc
        cases hp : patm (Lib.cut (c :: r) [46]).1 with
        | none => rfl
        | some q =>
          exfalso
          obtain ⟨a, c', n, h0, rfl, h1, h2, h3, h4, h5⟩ := form_patm hp
          have hb := cut_back (l := c :: r) (sep := [46]) (x := (Lib.cut (c :: r) [46]).1) (y := (Lib.cut (c :: r) [46]).2.1) (by rw [← hc])
          rw [h0] at hb
          have hf : Form (c :: r) a c' n (Lib.cut (c :: r) [46]).2.1 := ⟨hb.trans (by simp), h1, h2, h3, h4, h5⟩
          obtain ⟨k, hk, _⟩ := form_atm hf
          rw [ha] at hk; cases hk
      · rfl
end Go.Proofs.YtkinoehmcfhgbaaDoor.Vl
