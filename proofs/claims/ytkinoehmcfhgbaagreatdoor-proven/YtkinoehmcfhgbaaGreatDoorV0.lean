/-
  Plain words on conditions (bytes, numbers, atoms, symbols, values), and the walks of the document's small readers: place, digits, table.
  The walks of the document's readers of conditions: bound, atomAt, number.
  The walks of the document's atomAt and number.
-/
import Derived.Test.YtkinoehmcfhgbaaGreatDoorRows
import Derived.WalkKit
import Derived.WalkSpells
import Derived.WalkLawsBesides
import Derived.Lib.Strings
import Derived.BigQuiet
import Derived.Deep.QuietTactic
import Derived.Deep.MidRow
set_option linter.unusedVariables false
set_option linter.unusedSimpArgs false
namespace Go.Proofs.YtkinoehmcfhgbaaGreatDoor.Vl
open Go.RowKit

theorem ret_int {k : IntKind} {a b : Int} (h : a = b) : Ending.returned (.int k a) = .returned (.int k b) := by rw [h]
theorem ret_bool {a b : Bool} (h : a = b) : Ending.returned (.bool a) = .returned (.bool b) := by rw [h]
theorem u8_beq (a : UInt8) (n : Nat) (h : n < 256) : ((a.toNat : Int) == (n : Int)) = (a == UInt8.ofNat n) := by
  rw [Bool.eq_iff_iff, beq_iff_eq, beq_iff_eq]
  constructor
  · intro h1
    have h2 : a.toNat = n := by omega
    apply UInt8.toNat_inj.1
    rw [h2]; simp; omega
  · intro h1
    subst h1
    simp; omega

/-- The bytes of a text from a place on. -/
def rest (s : ByteArray) (k : Nat) : List UInt8 := s.data.toList.drop k
theorem rest_cons (s : ByteArray) (k : Nat) (h : k < s.size) : rest s k = s[k] :: rest s (k + 1) := by
  unfold rest
  rw [List.drop_eq_getElem_cons (by simpa using h)]; rfl
theorem rest_end (s : ByteArray) (k : Nat) (h : s.size ≤ k) : rest s k = [] := by
  unfold rest; rw [List.drop_eq_nil_iff]; simpa using h
theorem rest_len (s : ByteArray) (k : Nat) : (rest s k).length = s.size - k := by
  unfold rest; rw [List.length_drop]; simp
theorem rest_drop (s : ByteArray) (k n : Nat) : (rest s k).drop n = rest s (k + n) := by
  unfold rest; rw [List.drop_drop]
theorem extract_rest (s : ByteArray) (k e : Nat) : (s.extract k e).data.toList = (rest s k).take (e - k) := by
  unfold rest; rw [Lib.extract_data]
theorem extract_str (s : ByteArray) (k e : Nat) : s.extract k e = ⟨((rest s k).take (e - k)).toArray⟩ := by
  apply Go.WideShapes.bytes_inj; rw [extract_rest]

/- Numbers. -/
def dgo (m : Int) : List UInt8 → Int → Int
  | [], v => v
  | c :: r, v => if (c.toNat : Int) < 48 ∨ 57 < (c.toNat : Int) then -1 else if m < v * 10 + ((c.toNat : Int) - 48) then -1 else dgo m r (v * 10 + ((c.toNat : Int) - 48))
def dg (m : Int) (l : List UInt8) : Int := match l with
  | [] => -1
  | c :: r => if c == 48 && !r.isEmpty then -1 else dgo m (c :: r) 0
theorem dgo_zero (c : UInt8) (r : List UInt8) (m : Int) : dg m (c :: r) = if c == 48 && !r.isEmpty then -1 else dgo m (c :: r) 0 := rfl
theorem dgo_range (m : Int) (hm : 0 ≤ m) : ∀ (l : List UInt8) (v : Int), 0 ≤ v → v ≤ m → -1 ≤ dgo m l v ∧ dgo m l v ≤ m
  | [], v, h0, h1 => by simp only [dgo]; omega
  | c :: r, v, h0, h1 => by
    simp only [dgo]
    split
    · omega
    · split
      · omega
      · exact dgo_range m hm r _ (by omega) (by omega)
theorem dg_range (m : Int) (hm : 0 ≤ m) (l : List UInt8) : -1 ≤ dg m l ∧ dg m l ≤ m := by
  unfold dg
  split
  · omega
  · split
    · omega
    · exact dgo_range m hm _ _ (by omega) hm
def isd (c : UInt8) : Bool := decide (48 ≤ (c.toNat : Int)) && decide ((c.toNat : Int) ≤ 57)
def dlen : List UInt8 → Nat
  | [] => 0
  | c :: r => if isd c then dlen r + 1 else 0
theorem dlen_le : ∀ l : List UInt8, dlen l ≤ l.length
  | [] => Nat.le_refl _
  | c :: r => by
    simp only [dlen, List.length_cons]
    have := dlen_le r
    split <;> omega
def sgd (l : List UInt8) : Nat := if l.headD 0 == 45 then 1 else 0
/-- The number that a list of bytes begins with, and its length. -/
def bnd (l : List UInt8) : Option (Int × Nat) :=
  if dg 999999 ((l.drop (sgd l)).take (dlen (l.drop (sgd l)))) < 0 ∨ (sgd l = 1 ∧ dg 999999 ((l.drop (sgd l)).take (dlen (l.drop (sgd l)))) = 0) then none
  else some (if sgd l = 1 then -dg 999999 ((l.drop (sgd l)).take (dlen (l.drop (sgd l)))) else dg 999999 ((l.drop (sgd l)).take (dlen (l.drop (sgd l)))), sgd l + dlen (l.drop (sgd l)))
theorem bnd_range {l : List UInt8} {n : Int} {k : Nat} (h : bnd l = some (n, k)) : -999999 ≤ n ∧ n ≤ 999999 ∧ k ≤ l.length := by
  unfold bnd at h
  split at h
  · cases h
  · rename_i hc
    have h1 := dg_range 999999 (by omega) ((l.drop (sgd l)).take (dlen (l.drop (sgd l))))
    have h2 := dlen_le (l.drop (sgd l))
    have h3 : sgd l ≤ l.length := by unfold sgd; cases l <;> simp; split <;> omega
    rw [List.length_drop] at h2
    cases h
    refine ⟨?_, ?_, by omega⟩
    · split <;> omega
    · split <;> omega

/- Atoms. -/
def plc (c : Int) : Int := if c == 48 then 0 else if c == 97 || c == 98 || c == 99 || c == 100 then c - 97 + 1 else -1
theorem plc_range (c : Int) : -1 ≤ plc c ∧ plc c ≤ 4 := by
  unfold plc
  split
  · omega
  · split
    · rename_i h; simp at h; omega
    · omega
def plu (c : UInt8) : Int := plc (c.toNat : Int)
abbrev Atm := Int × Int × Int
/-- The atom that a list of bytes begins with, and its length. -/
def atm : List UInt8 → Option (Atm × Nat)
  | a :: b :: c :: d :: e :: r =>
    if r.isEmpty || !(b == 45) || !([d, e] == [60, 61]) then none else
    match bnd r with
    | none => none
    | some (n, k) => if decide (plu a < 0) || decide (plu c < 0) || (plu a == plu c) || !((r.getD k 0) == 46) then none else some ((plu a, plu c, n), 6 + k)
  | _ => none

theorem atm_facts {l : List UInt8} {a : Atm} {k : Nat} (h : atm l = some (a, k)) : 0 ≤ a.1 ∧ a.1 ≤ 4 ∧ 0 ≤ a.2.1 ∧ a.2.1 ≤ 4 ∧ a.1 ≠ a.2.1 ∧ -999999 ≤ a.2.2 ∧ a.2.2 ≤ 999999 ∧ 6 ≤ k ∧ k ≤ l.length ∧ 0 ≤ plu (l.headD 0) := by
  match l, h with
  | x :: b :: c :: d :: e :: r, h =>
    simp only [atm] at h
    split at h
    · cases h
    · cases hb : bnd r with
      | none => rw [hb] at h; cases h
      | some q =>
        obtain ⟨n, j⟩ := q
        rw [hb] at h
        simp only at h
        split at h
        · cases h
        · rename_i hc
          have h1 := bnd_range hb
          have h2 := plc_range (x.toNat : Int)
          have h3 := plc_range (c.toNat : Int)
          simp only [Bool.or_eq_true, decide_eq_true_eq, Bool.not_eq_true', beq_eq_false_iff_ne, beq_iff_eq, not_or, ne_eq, Decidable.not_not] at hc
          obtain ⟨⟨⟨c1, c2⟩, c3⟩, c4⟩ := hc
          have hj : j < r.length := by
            rcases Nat.lt_or_ge j r.length with hj | hj
            · exact hj
            · rw [List.getD_eq_getElem?_getD, List.getElem?_eq_none hj] at c4; exact absurd c4 (by decide)
          cases h
          unfold plu at *
          refine ⟨by dsimp only; omega, h2.2, by dsimp only; omega, h3.2, c3, h1.1, h1.2.1, by omega, by simp only [List.length_cons]; omega, ?_⟩
          simp only [List.headD_cons]; omega

set_option maxHeartbeats 400000 in
theorem place_any (c : Int) (w : World) :
    Calls Tryz.prog 170 #[.int .u8 c] w fun e w' => e = .returned (.int .i64 (plc c)) ∧ w = w' := by
  go_enter Tryz.func170, Tryz.ntmps170
  go_wp2
  all_goals go_ret
  all_goals refine ⟨ret_int ?_, rfl⟩
  all_goals simp_all [plc]

/- What signs come to. -/
def tbl (g x y : Int) : Int :=
  if g == 38 then (if x == 0 || y == 0 then 0 else if x == 1 && y == 1 then 1 else 2)
  else if g == 124 then (if x == 1 || y == 1 then 1 else if x == 0 && y == 0 then 0 else 2)
  else (if x == 0 || y == 1 then 1 else if x == 1 && y == 0 then 0 else 2)
set_option maxHeartbeats 400000 in
theorem table_any (g x y : Int) (w : World) :
    Calls Tryz.prog 172 #[.int .u8 g, .int .i64 x, .int .i64 y] w fun e w' => e = .returned (.int .i64 (tbl g x y)) ∧ w = w' := by
  go_enter Tryz.func172, Tryz.ntmps172
  go_wp2
  all_goals go_ret
  all_goals refine ⟨ret_int ?_, rfl⟩
  all_goals simp_all [tbl]

set_option maxHeartbeats 1000000 in
theorem digits_any (s : ByteArray) (w : World) (m : Int) (hs : s.size ≤ 1000000) (hm : 0 ≤ m) (hm9 : m ≤ 999999) :
    Calls Tryz.prog 146 #[.string s, .int .i64 m] w fun e w' => e = .returned (.int .i64 (dg m s.data.toList)) ∧ w = w' := by
  by_cases h0 : 0 < s.size
  · have hd : s.data.toList = s[0] :: rest s 1 := rest_cons s 0 h0
    have hne : (s.toList.isEmpty) = false := by rw [ByteArray.toList_eq, hd]; rfl
    have hl : (rest s 1).length = s.size - 1 := rest_len s 1
    have e48 : ((s[0].toNat : Int) == 48) = (s[0] == 48) := u8_beq s[0] 48 (by omega)
    by_cases hA : ((s[0].toNat : Int) == 48) = true ∧ (1 : Int) < (s.size : Int)
    · obtain ⟨h2, h1⟩ := hA
      have H : Hid (dg m s.data.toList = -1) := by
        show dg m s.data.toList = -1
        have : (rest s 1).isEmpty = false := by
          rw [List.isEmpty_eq_false_iff]; intro h; rw [h] at hl; simp at hl; omega
        rw [hd, dgo_zero, ← e48, h2, this]; rfl
      clear hd hl e48
      go_enter Tryz.func146, Tryz.ntmps146
      go_wp2
      go_ret
      exact ⟨ret_int H.out.symm, rfl⟩
    · have H : Hid (dg m s.data.toList = dgo m (rest s 0) 0) := by
        show dg m s.data.toList = dgo m s.data.toList 0
        have : (s[0] == 48 && !(rest s 1).isEmpty) = false := by
          rw [← e48]
          by_cases h1 : (1 : Int) < (s.size : Int)
          · have : ((s[0].toNat : Int) == 48) = false := by
              rw [Bool.eq_false_iff]; intro h2; exact hA ⟨h2, h1⟩
            rw [this]; rfl
          · have : rest s 1 = [] := by rw [← List.length_eq_zero_iff]; omega
            rw [this]; simp
        rw [hd, dgo_zero, this]; rfl
      have hh : (((s[0].toNat : Int) == 48) = true ∧ ¬ (1 : Int) < (s.size : Int)) ∨ ((s[0].toNat : Int) == 48) = false := by
        cases hc : ((s[0].toNat : Int) == 48) with
        | false => exact Or.inr rfl
        | true => exact Or.inl ⟨rfl, fun h1 => hA ⟨hc, h1⟩⟩
      clear hd hl e48 hA
      rcases hh with ⟨hh, hh'⟩ | hh
      all_goals
        go_enter Tryz.func146, Tryz.ntmps146
        go_wp2
        go_loop [5, 6] (fun v i => ∃ (k : Nat) (n : Int), k ≤ s.size ∧ i = .int .i64 k ∧ v = .int .i64 n ∧ 0 ≤ n ∧ n ≤ m ∧ dgo m (rest s 0) 0 = dgo m (rest s k) n) (fun _ i => s.size - (intOf i).toNat)
        case atStart => exact ⟨0, 0, Nat.zero_le _, rfl, rfl, by omega, by omega, rfl⟩
        case round =>
          obtain ⟨k, n, hk, rfl, rfl, hn0, hn9, hq⟩ := hrel
          have Q : Hid (dgo m (rest s 0) 0 = dgo m (rest s k) n) := hq
          clear hq
          by_cases hlt : k < s.size
          · have hb : s[k].toNat < 256 := UInt8.toNat_lt _
            have E : Hid (dgo m (rest s k) n = if (s[k].toNat : Int) < 48 ∨ 57 < (s[k].toNat : Int) then -1 else if m < n * 10 + ((s[k].toNat : Int) - 48) then -1 else dgo m (rest s (k + 1)) (n * 10 + ((s[k].toNat : Int) - 48))) := by
              show _ = _
              rw [rest_cons s k hlt]; rfl
            go_wp2
            case roundEnd =>
              go_round
              case rel => exact ⟨k + 1, _, by omega, by go_num, rfl, by omega, by omega, by rw [Q.out, E.out, if_neg (by omega), if_neg (by omega), Int.mul_comm n 10]⟩
              case measure => simp [intOf]; omega
            all_goals go_ret
            · exact ⟨ret_int (by rw [H.out, Q.out, E.out, if_pos (by omega)]), rfl⟩
            · exact ⟨ret_int (by rw [H.out, Q.out, E.out, if_neg (by omega), if_pos (by omega)]), rfl⟩
            · exact ⟨ret_int (by rw [H.out, Q.out, E.out, if_pos (by omega)]), rfl⟩
          · go_wp2
            go_ret
            exact ⟨ret_int (by rw [H.out, Q.out, rest_end s k (by omega)]; rfl), rfl⟩
  · have H : Hid (dg m s.data.toList = -1) := by
      show dg m s.data.toList = -1
      have : s.data.toList = [] := rest_end s 0 (by omega)
      rw [this]; rfl
    have he : s.toList.isEmpty = true := by
      have : s.data.toList = [] := rest_end s 0 (by omega)
      rw [ByteArray.toList_eq, this]; rfl
    go_enter Tryz.func146, Tryz.ntmps146
    go_wp2
    go_ret
    exact ⟨ret_int H.out.symm, rfl⟩
end Go.Proofs.YtkinoehmcfhgbaaGreatDoor.Vl
set_option linter.unusedVariables false
set_option linter.unusedSimpArgs false
namespace Go.Proofs.YtkinoehmcfhgbaaGreatDoor.Vl
open Go.RowKit

def bndV (at_ : Nat) : Option (Int × Nat) → Value
  | none => .tuple #[.int .i64 0, .int .i64 0, .bool false]
  | some (n, k) => .tuple #[.int .i64 n, .int .i64 ((at_ + k : Nat) : Int), .bool true]
theorem sgd_cons (s : ByteArray) (k : Nat) (h : k < s.size) : sgd (rest s k) = if ((s[k].toNat : Int) == 45) then 1 else 0 := by
  have e : ((s[k].toNat : Int) == 45) = (s[k] == 45) := u8_beq s[k] 45 (by omega)
  rw [e, rest_cons s k h]; rfl
theorem sgd_end (s : ByteArray) (k : Nat) (h : ¬ k < s.size) : sgd (rest s k) = 0 := by
  rw [rest_end s k (by omega)]; rfl
theorem dlen_more (s : ByteArray) (k : Nat) (h : k < s.size) (h1 : 48 ≤ (s[k].toNat : Int)) (h2 : (s[k].toNat : Int) ≤ 57) : dlen (rest s k) = dlen (rest s (k + 1)) + 1 := by
  rw [rest_cons s k h]; simp [dlen, isd, h1, h2]
theorem dlen_stop (s : ByteArray) (k : Nat) (h : k < s.size) (h1 : ¬ (48 ≤ (s[k].toNat : Int) ∧ (s[k].toNat : Int) ≤ 57)) : dlen (rest s k) = 0 := by
  have : isd s[k] = false := by
    cases hc : isd s[k] with
    | false => rfl
    | true => unfold isd at hc; simp at hc; omega
  rw [rest_cons s k h, dlen, this]; rfl
theorem dlen_end (s : ByteArray) (k : Nat) (h : ¬ k < s.size) : dlen (rest s k) = 0 := by
  rw [rest_end s k (by omega)]; rfl

/-- What bound answers, of the number read. -/
def bndR (at_ g : Nat) (to_ : Nat) (n : Int) : Value :=
  if n < 0 ∨ (g = 1 ∧ n = 0) then .tuple #[.int .i64 0, .int .i64 0, .bool false] else .tuple #[.int .i64 (if g = 1 then -n else n), .int .i64 (to_ : Int), .bool true]
theorem bndV_eq (s : ByteArray) (k g : Nat) (hg : sgd (rest s k) = g) :
    bndV k (bnd (rest s k)) = bndR k g (k + g + dlen (rest s (k + g))) (dg 999999 ((rest s (k + g)).take (dlen (rest s (k + g))))) := by
  unfold bnd
  rw [hg, rest_drop]
  unfold bndR
  split
  · rfl
  · simp only [bndV, Nat.add_assoc]

set_option maxHeartbeats 1000000 in
theorem bound_any (s : ByteArray) (k : Nat) (w : World) (hs : s.size ≤ 4000) (hk : k ≤ s.size) :
    Calls Tryz.prog 171 #[.string s, .int .i64 (k : Int)] w fun e w' => e = .returned (bndV k (bnd (rest s k))) ∧ w = w' := by
  obtain ⟨g, hg, hg1, hkg⟩ : ∃ g, sgd (rest s k) = g ∧ g ≤ 1 ∧ k + g ≤ s.size := by
    by_cases h : k < s.size
    · refine ⟨_, rfl, ?_, ?_⟩ <;> rw [sgd_cons s k h] <;> split <;> omega
    · refine ⟨_, rfl, ?_, ?_⟩ <;> rw [sgd_end s k h] <;> omega
  have H : Hid (bndV k (bnd (rest s k)) = bndR k g (k + g + dlen (rest s (k + g))) (dg 999999 ((rest s (k + g)).take (dlen (rest s (k + g)))))) := bndV_eq s k g hg
  have CD : Hid (∀ t w, t ≤ s.size → Calls Tryz.prog 146 #[.string (s.extract (k + g) t), .int .i64 999999] w fun e w' => e = .returned (.int .i64 (dg 999999 ((rest s (k + g)).take (t - (k + g))))) ∧ w = w') := fun t w ht => by
    have := digits_any (s.extract (k + g) t) w 999999 (by have := ByteArray.size_extract (a := s) (b := k + g) (e := t); omega) (by omega) (by omega)
    rwa [extract_rest] at this
  have hcase : (¬ k < s.size ∧ g = 0) ∨ (∃ h : k < s.size, ((s[k].toNat : Int) == 45) = true ∧ g = 1) ∨ (∃ h : k < s.size, ((s[k].toNat : Int) == 45) = false ∧ g = 0) := by
    by_cases h : k < s.size
    · rw [sgd_cons s k h] at hg
      cases hc : ((s[k].toNat : Int) == 45) with
      | true => rw [hc] at hg; exact Or.inr (Or.inl ⟨h, hc, by simpa using hg.symm⟩)
      | false => rw [hc] at hg; exact Or.inr (Or.inr ⟨h, hc, by simpa using hg.symm⟩)
    · rw [sgd_end s k h] at hg; exact Or.inl ⟨h, hg.symm⟩
  clear hg
  rcases hcase with ⟨hc1, rfl⟩ | ⟨hc1, hc2, rfl⟩ | ⟨hc1, hc2, rfl⟩
  · go_enter Tryz.func171, Tryz.ntmps171
    go_wp2
    go_loop [7] (fun t => ∃ j : Nat, t = .int .i64 (j : Int) ∧ k + 0 ≤ j ∧ j ≤ s.size ∧ dlen (rest s (k + 0)) = (j - (k + 0)) + dlen (rest s j)) (fun t => s.size - (intOf t).toNat)
    case atStart => exact ⟨k + 0, by simp, by omega, by omega, by omega⟩
    case round =>
      obtain ⟨j, rfl, hj1, hj2, hq⟩ := hrel
      have Q : Hid (dlen (rest s (k + 0)) = (j - (k + 0)) + dlen (rest s j)) := hq
      clear hq
      have C1 : Hid (∀ w, Calls Tryz.prog 146 #[.string (s.extract (k + 0) j), .int .i64 999999] w fun e w' => e = .returned (.int .i64 (dg 999999 ((rest s (k + 0)).take (j - (k + 0))))) ∧ w = w') := fun w => CD.out j w hj2
      obtain ⟨hn0, hn9⟩ := dg_range 999999 (by omega) ((rest s (k + 0)).take (j - (k + 0)))
      generalize hn : dg 999999 ((rest s (k + 0)).take (j - (k + 0))) = n at *
      have HN : Hid (dg 999999 ((rest s (k + 0)).take (j - (k + 0))) = n) := hn
      clear hn
      by_cases hlt : j < s.size
      · by_cases hd : 48 ≤ (s[j].toNat : Int) ∧ (s[j].toNat : Int) ≤ 57
        · obtain ⟨hd1, hd2⟩ := hd
          go_wp2
          go_round
          case rel => exact ⟨j + 1, by go_num, by omega, by omega, by rw [Q.out, dlen_more s j hlt hd1 hd2]; omega⟩
          case measure => simp [intOf]; omega
        · have hz : Hid (dlen (rest s (k + 0)) = j - (k + 0)) := by show _ = _; rw [Q.out, dlen_stop s j hlt hd]; rfl
          have hd' : ((s[j].toNat : Int) < 48) ∨ (48 ≤ (s[j].toNat : Int) ∧ ¬ (s[j].toNat : Int) ≤ 57) := by omega
          clear hd
          rcases hd' with hd | ⟨hd, hd'⟩
          all_goals (
          go_wp2_with (first | (go_at_call 146; refine (C1.out _).mono ?_; rintro e w' ⟨rfl, rfl⟩))
          all_goals refine bodyPost_ret (results_tmp3 rfl _ _ _) rfl ?_
          all_goals refine ⟨?_, rfl⟩
          all_goals rw [H.out, hz.out, HN.out]
          all_goals (unfold bndR; first | (rw [if_pos (by simp_all; done)]; rfl) | (rw [if_neg (by simp_all; try omega)]; simp_all; try omega)))
      · have hz : Hid (dlen (rest s (k + 0)) = j - (k + 0)) := by show _ = _; rw [Q.out, dlen_end s j hlt]; rfl
        (
          go_wp2_with (first | (go_at_call 146; refine (C1.out _).mono ?_; rintro e w' ⟨rfl, rfl⟩))
          all_goals refine bodyPost_ret (results_tmp3 rfl _ _ _) rfl ?_
          all_goals refine ⟨?_, rfl⟩
          all_goals rw [H.out, hz.out, HN.out]
          all_goals (unfold bndR; first | (rw [if_pos (by simp_all; done)]; rfl) | (rw [if_neg (by simp_all; try omega)]; simp_all; try omega)))
  · go_enter Tryz.func171, Tryz.ntmps171
    go_wp2
    go_loop [7] (fun t => ∃ j : Nat, t = .int .i64 (j : Int) ∧ k + 1 ≤ j ∧ j ≤ s.size ∧ dlen (rest s (k + 1)) = (j - (k + 1)) + dlen (rest s j)) (fun t => s.size - (intOf t).toNat)
    case atStart => exact ⟨k + 1, by simp, by omega, by omega, by omega⟩
    case round =>
      obtain ⟨j, rfl, hj1, hj2, hq⟩ := hrel
      have Q : Hid (dlen (rest s (k + 1)) = (j - (k + 1)) + dlen (rest s j)) := hq
      clear hq
      have C1 : Hid (∀ w, Calls Tryz.prog 146 #[.string (s.extract (k + 1) j), .int .i64 999999] w fun e w' => e = .returned (.int .i64 (dg 999999 ((rest s (k + 1)).take (j - (k + 1))))) ∧ w = w') := fun w => CD.out j w hj2
      obtain ⟨hn0, hn9⟩ := dg_range 999999 (by omega) ((rest s (k + 1)).take (j - (k + 1)))
      generalize hn : dg 999999 ((rest s (k + 1)).take (j - (k + 1))) = n at *
      have HN : Hid (dg 999999 ((rest s (k + 1)).take (j - (k + 1))) = n) := hn
      clear hn
      by_cases hlt : j < s.size
      · by_cases hd : 48 ≤ (s[j].toNat : Int) ∧ (s[j].toNat : Int) ≤ 57
        · obtain ⟨hd1, hd2⟩ := hd
          go_wp2
          go_round
          case rel => exact ⟨j + 1, by go_num, by omega, by omega, by rw [Q.out, dlen_more s j hlt hd1 hd2]; omega⟩
          case measure => simp [intOf]; omega
        · have hz : Hid (dlen (rest s (k + 1)) = j - (k + 1)) := by show _ = _; rw [Q.out, dlen_stop s j hlt hd]; rfl
          have hd' : ((s[j].toNat : Int) < 48) ∨ (48 ≤ (s[j].toNat : Int) ∧ ¬ (s[j].toNat : Int) ≤ 57) := by omega
          clear hd
          rcases hd' with hd | ⟨hd, hd'⟩
          all_goals (
          go_wp2_with (first | (go_at_call 146; refine (C1.out _).mono ?_; rintro e w' ⟨rfl, rfl⟩))
          all_goals refine bodyPost_ret (results_tmp3 rfl _ _ _) rfl ?_
          all_goals refine ⟨?_, rfl⟩
          all_goals rw [H.out, hz.out, HN.out]
          all_goals (unfold bndR; first | (rw [if_pos (by simp_all; done)]; rfl) | (rw [if_neg (by simp_all; try omega)]; simp_all; try omega)))
      · have hz : Hid (dlen (rest s (k + 1)) = j - (k + 1)) := by show _ = _; rw [Q.out, dlen_end s j hlt]; rfl
        (
          go_wp2_with (first | (go_at_call 146; refine (C1.out _).mono ?_; rintro e w' ⟨rfl, rfl⟩))
          all_goals refine bodyPost_ret (results_tmp3 rfl _ _ _) rfl ?_
          all_goals refine ⟨?_, rfl⟩
          all_goals rw [H.out, hz.out, HN.out]
          all_goals (unfold bndR; first | (rw [if_pos (by simp_all; done)]; rfl) | (rw [if_neg (by simp_all; try omega)]; simp_all; try omega)))
  · go_enter Tryz.func171, Tryz.ntmps171
    go_wp2
    go_loop [7] (fun t => ∃ j : Nat, t = .int .i64 (j : Int) ∧ k + 0 ≤ j ∧ j ≤ s.size ∧ dlen (rest s (k + 0)) = (j - (k + 0)) + dlen (rest s j)) (fun t => s.size - (intOf t).toNat)
    case atStart => exact ⟨k + 0, by simp, by omega, by omega, by omega⟩
    case round =>
      obtain ⟨j, rfl, hj1, hj2, hq⟩ := hrel
      have Q : Hid (dlen (rest s (k + 0)) = (j - (k + 0)) + dlen (rest s j)) := hq
      clear hq
      have C1 : Hid (∀ w, Calls Tryz.prog 146 #[.string (s.extract (k + 0) j), .int .i64 999999] w fun e w' => e = .returned (.int .i64 (dg 999999 ((rest s (k + 0)).take (j - (k + 0))))) ∧ w = w') := fun w => CD.out j w hj2
      obtain ⟨hn0, hn9⟩ := dg_range 999999 (by omega) ((rest s (k + 0)).take (j - (k + 0)))
      generalize hn : dg 999999 ((rest s (k + 0)).take (j - (k + 0))) = n at *
      have HN : Hid (dg 999999 ((rest s (k + 0)).take (j - (k + 0))) = n) := hn
      clear hn
      by_cases hlt : j < s.size
      · by_cases hd : 48 ≤ (s[j].toNat : Int) ∧ (s[j].toNat : Int) ≤ 57
        · obtain ⟨hd1, hd2⟩ := hd
          go_wp2
          go_round
          case rel => exact ⟨j + 1, by go_num, by omega, by omega, by rw [Q.out, dlen_more s j hlt hd1 hd2]; omega⟩
          case measure => simp [intOf]; omega
        · have hz : Hid (dlen (rest s (k + 0)) = j - (k + 0)) := by show _ = _; rw [Q.out, dlen_stop s j hlt hd]; rfl
          have hd' : ((s[j].toNat : Int) < 48) ∨ (48 ≤ (s[j].toNat : Int) ∧ ¬ (s[j].toNat : Int) ≤ 57) := by omega
          clear hd
          rcases hd' with hd | ⟨hd, hd'⟩
          all_goals (
          go_wp2_with (first | (go_at_call 146; refine (C1.out _).mono ?_; rintro e w' ⟨rfl, rfl⟩))
          all_goals refine bodyPost_ret (results_tmp3 rfl _ _ _) rfl ?_
          all_goals refine ⟨?_, rfl⟩
          all_goals rw [H.out, hz.out, HN.out]
          all_goals (unfold bndR; first | (rw [if_pos (by simp_all; done)]; rfl) | (rw [if_neg (by simp_all; try omega)]; simp_all; try omega)))
      · have hz : Hid (dlen (rest s (k + 0)) = j - (k + 0)) := by show _ = _; rw [Q.out, dlen_end s j hlt]; rfl
        (
          go_wp2_with (first | (go_at_call 146; refine (C1.out _).mono ?_; rintro e w' ⟨rfl, rfl⟩))
          all_goals refine bodyPost_ret (results_tmp3 rfl _ _ _) rfl ?_
          all_goals refine ⟨?_, rfl⟩
          all_goals rw [H.out, hz.out, HN.out]
          all_goals (unfold bndR; first | (rw [if_pos (by simp_all; done)]; rfl) | (rw [if_neg (by simp_all; try omega)]; simp_all; try omega)))

/-- What atomAt answers. -/
def atmV (at_ : Nat) : Option (Atm × Nat) → Value
  | none => .tuple #[.agg #[.int .i64 0, .int .i64 0, .int .i64 0], .int .i64 0, .bool false]
  | some (a, k) => .tuple #[.agg #[.int .i64 a.1, .int .i64 a.2.1, .int .i64 a.2.2], .int .i64 ((at_ + k : Nat) : Int), .bool true]
theorem atm_long (s : ByteArray) (k : Nat) (h : k + 5 < s.size) : atm (rest s k) =
    if !((s[k + 1].toNat : Int) == 45) || !((s.extract (k + 3) (k + 5)).toList == [60, 61]) then none else
    match bnd (rest s (k + 5)) with
    | none => none
    | some (n, j) => if decide (plc s[k].toNat < 0) || decide (plc s[k + 2].toNat < 0) || (plc s[k].toNat == plc s[k + 2].toNat) || !(((rest s (k + 5)).getD j 0) == 46) then none else some ((plc s[k].toNat, plc s[k + 2].toNat, n), 6 + j) := by
  have e1 : ((s[k + 1].toNat : Int) == 45) = (s[k + 1] == 45) := u8_beq s[k + 1] 45 (by omega)
  have e2 : (s.extract (k + 3) (k + 5)).toList = [s[k + 3], s[k + 4]] := by
    rw [ByteArray.toList_eq, extract_rest, rest_cons s (k + 3) (by omega), rest_cons s (k + 3 + 1) (by omega)]
    have : k + 5 - (k + 3) = 2 := by omega
    rw [this]; rfl
  have e3 : (rest s (k + 5)).isEmpty = false := by rw [rest_cons s (k + 5) h]; rfl
  rw [e1, e2, rest_cons s k (by omega), rest_cons s (k + 1) (by omega), rest_cons s (k + 1 + 1) (by omega), rest_cons s (k + 1 + 1 + 1) (by omega), rest_cons s (k + 1 + 1 + 1 + 1) (by omega)]
  simp only [atm, plu]
  rw [e3, Bool.false_or]
  rfl
theorem atm_short (s : ByteArray) (k : Nat) (h : ¬ k + 5 < s.size) : atm (rest s k) = none := by
  have hl := rest_len s k
  match hr : rest s k, hl with
  | [], _ => rfl
  | [_], _ => rfl
  | [_, _], _ => rfl
  | [_, _, _], _ => rfl
  | [_, _, _, _], _ => rfl
  | [_, _, _, _, _], _ => rfl
  | a :: b :: c :: d :: e :: f :: r, hl => simp only [List.length_cons] at hl; omega
theorem point_at (s : ByteArray) (k j : Nat) : ((rest s k).getD j 0 == 46) = if h : k + j < s.size then ((s[k + j].toNat : Int) == 46) else false := by
  rw [List.getD_eq_getElem?_getD]
  split
  · rename_i h
    have e : ((s[k + j].toNat : Int) == 46) = (s[k + j] == 46) := u8_beq s[k + j] 46 (by omega)
    rw [e]
    have : (rest s k)[j]? = some s[k + j] := by
      unfold rest
      rw [List.getElem?_drop, List.getElem?_eq_getElem (by simpa using h)]; rfl
    rw [this]; rfl
  · rename_i h
    have : (rest s k)[j]? = none := by rw [List.getElem?_eq_none_iff, rest_len]; omega
    rw [this]; rfl
end Go.Proofs.YtkinoehmcfhgbaaGreatDoor.Vl
set_option linter.unusedVariables false
set_option linter.unusedSimpArgs false
namespace Go.Proofs.YtkinoehmcfhgbaaGreatDoor.Vl
open Go.RowKit

def atV (a : Atm) : Value := .agg #[.int .i64 a.1, .int .i64 a.2.1, .int .i64 a.2.2]
theorem results_c3 {fn : Func} {tmps : Array Value} {w : World} {k i j : Nat} {t : TypeId} {a : Addr} {v x y : Value} (hf : fn.results = #[.cell k t, .tmp i, .tmp j]) (ht : tmps.getD k undef = .pointer (some a)) (hx : tmps.getD i undef = x) (hy : tmps.getD j undef = y) (hl : (loadVar t a).run Tryz.prog w = .ok v w) : (results fn tmps).run Tryz.prog w = .ok (.tuple #[v, x, y]) w := by
  have ht' : (tmps[k]?.getD undef) = .pointer (some a) := by simpa using ht
  have hx' : (tmps[i]?.getD undef) = x := by simpa using hx
  have hy' : (tmps[j]?.getD undef) = y := by simpa using hy
  simp [results, hf, ht', hx', hy', hl, asAddr]
theorem Tryz.infoAtm : (Tryz.prog.info? 236).map (fun i => (i.zero, i.size, i.bytes)) = some (some (.agg #[.int .i64 0, .int .i64 0, .int .i64 0]), 3, 24) := by kernel_rfl
theorem Tryz.sizeAtm : (Tryz.prog.info? 236).map (·.size) = some 3 := by kernel_rfl
theorem range_new (w : World) (cs : List Value) (t : TypeId) : (w.alloc (.cells cs.toArray t)).rangeAt w.heap.size 0 cs := by
  intro j v hv
  rw [World.cell?_alloc_at _ _ _ _ rfl]; simpa using hv
theorem atm_load (w : World) (x y z : Int) : (loadVar 236 ⟨w.heap.size, 0, none⟩).run Tryz.prog (w.alloc (.cells #[.int .i64 x, .int .i64 y, .int .i64 z] 236)) = .ok (atV (x, y, z)) (w.alloc (.cells #[.int .i64 x, .int .i64 y, .int .i64 z] 236)) :=
  run_loadVar_mid _ _ 0 236 [.int .i64 x, .int .i64 y, .int .i64 z] _ (range_new w [.int .i64 x, .int .i64 y, .int .i64 z] _) Tryz.underlying236 rfl Tryz.sizeAtm
theorem below_alloc (w : World) (o : Obj) : Below w.heap.size w (w.alloc o) := (Below.refl _ w).alloc (Nat.le_refl _) o

set_option maxRecDepth 100000 in
set_option maxHeartbeats 1000000 in
theorem atomAt_any (s : ByteArray) (k : Nat) (w : World) (hs : s.size ≤ 4000) (hk : k ≤ s.size) :
    Calls Tryz.prog 117 #[.string s, .int .i64 (k : Int)] w fun e w' => e = .returned (atmV k (atm (rest s k))) ∧ Below w.heap.size w w' := by
  by_cases hlt : k + 5 < s.size
  · have hl : ¬ (s.size : Int) ≤ (k : Int) + 5 := by omega
    have hl1 : (k : Int) < (s.size : Int) := by omega
    have hl2 : ((k : Int) + 1) < (s.size : Int) := by omega
    have hl3 : ((k : Int) + 2) < (s.size : Int) := by omega
    have hl4 : ((k : Int) + 5) ≤ (s.size : Int) := by omega
    have H : Hid _ := atm_long s k hlt
    cases hx1 : ((s[k + 1].toNat : Int) == 45)
    case false =>
      have hx1' : ((s[k + 1].toNat : Int) != 45) = true := by rw [bne, hx1]; rfl
      have HN : Hid (atm (rest s k) = none) := by show _ = _; rw [H.out, hx1]; rfl
      go_enter Tryz.func117, Tryz.ntmps117
      go_wp2
      refine bodyPost_ret (results_c3 rfl rfl rfl rfl (atm_load w 0 0 0)) rfl ⟨?_, below_alloc _ _⟩
      rw [HN.out]; rfl
    case true =>
      have hx1' : ((s[k + 1].toNat : Int) != 45) = false := by rw [bne, hx1]; rfl
      cases hx2 : ((s.extract (k + 3) (k + 5)).toList == [60, 61])
      case false =>
        have hx2' : ((s.extract (k + 3) (k + 5)).toList != [60, 61]) = true := by rw [bne, hx2]; rfl
        have HN : Hid (atm (rest s k) = none) := by show _ = _; rw [H.out, hx1, hx2]; rfl
        go_enter Tryz.func117, Tryz.ntmps117
        go_wp2
        refine bodyPost_ret (results_c3 rfl rfl rfl rfl (atm_load w 0 0 0)) rfl ⟨?_, below_alloc _ _⟩
        rw [HN.out]; rfl
      case true =>
        have hx2' : ((s.extract (k + 3) (k + 5)).toList != [60, 61]) = false := by rw [bne, hx2]; rfl
        have C3 : Hid (∀ w, Calls Tryz.prog 171 #[.string s, .int .i64 ((k : Int) + 5)] w fun e w' => e = .returned (bndV (k + 5) (bnd (rest s (k + 5)))) ∧ w = w') := fun w => bound_any s (k + 5) w hs (by omega)
        cases hb : bnd (rest s (k + 5)) with
        | none =>
          have HN : Hid (atm (rest s k) = none) := by show _ = _; rw [H.out, hx1, hx2, hb]; rfl
          rw [hb] at C3
          have C3' : Hid (∀ w, Calls Tryz.prog 171 #[.string s, .int .i64 ((k : Int) + 5)] w fun e w' => e = .returned (.tuple #[.int .i64 0, .int .i64 0, .bool false]) ∧ w = w') := C3
          clear H C3
          go_enter Tryz.func117, Tryz.ntmps117
          go_wp2_with (first | (go_at_call 170; refine (place_any _ _).mono ?_; rintro e w' ⟨rfl, rfl⟩) | (go_at_call 171; refine (C3'.out _).mono ?_; rintro e w' ⟨rfl, rfl⟩))
          all_goals (refine bodyPost_ret (results_c3 rfl rfl rfl rfl (atm_load w 0 0 0)) rfl ⟨?_, below_alloc _ _⟩; rw [HN.out]; rfl)
        | some q =>
          obtain ⟨n, j⟩ := q
          obtain ⟨hn1, hn2, hj⟩ := bnd_range hb
          have hj' : (j : Int) ≤ 4000 := by rw [rest_len] at hj; omega
          rw [hb] at C3
          have C3' : Hid (∀ w, Calls Tryz.prog 171 #[.string s, .int .i64 ((k : Int) + 5)] w fun e w' => e = .returned (.tuple #[.int .i64 n, .int .i64 ((k + 5 + j : Nat) : Int), .bool true]) ∧ w = w') := C3
          by_cases hin : k + 5 + j < s.size
          · have hin' : ¬ (s.size : Int) ≤ ((k + 5 + j : Nat) : Int) := by omega
            have H2 : Hid (atm (rest s k) = if decide (plc s[k].toNat < 0) || decide (plc s[k + 2].toNat < 0) || (plc s[k].toNat == plc s[k + 2].toNat) || !((s[k + 5 + j].toNat : Int) == 46) then none else some ((plc s[k].toNat, plc s[k + 2].toNat, n), 6 + j)) := by
              show _ = _; rw [H.out, hx1, hx2, hb]; simp only [point_at]; rw [dif_pos hin]; rfl
            clear H C3 hb
            generalize hm : k + 5 + j = m at *
            have HM : Hid (k + 5 + j = m) := hm
            have hm4 : (m : Int) < 4000 := by omega
            clear hm
            cases hD : (decide (plc s[k].toNat < 0) || decide (plc s[k + 2].toNat < 0) || (plc s[k].toNat == plc s[k + 2].toNat) || !((s[m].toNat : Int) == 46)) with
            | false =>
              have HS : Hid (atm (rest s k) = some ((plc s[k].toNat, plc s[k + 2].toNat, n), 6 + j)) := by show _ = _; rw [H2.out, hD]; rfl
              clear H2
              simp only [Bool.or_eq_false_iff, decide_eq_false_iff_not, Bool.not_eq_false'] at hD
              obtain ⟨⟨⟨d1, d2⟩, d3⟩, d4⟩ := hD
              have d3' : ¬ plc s[k].toNat = plc s[k + 2].toNat := by simpa using d3
              have d4' : ((s[m].toNat : Int) != 46) = false := by rw [bne, d4]; rfl
              go_enter Tryz.func117, Tryz.ntmps117
              go_wp2_with (first | (go_at_call 170; refine (place_any _ _).mono ?_; rintro e w' ⟨rfl, rfl⟩) | (go_at_call 171; refine (C3'.out _).mono ?_; rintro e w' ⟨rfl, rfl⟩))
              refine bodyPost_ret (results_c3 rfl rfl rfl rfl (atm_load w _ _ _)) rfl ⟨?_, below_alloc _ _⟩
              have hh : ((k + (6 + j) : Nat) : Int) = (m : Int) + 1 := by have := HM.out; omega
              rw [HS.out]
              show Ending.returned (.tuple #[_, .int .i64 ((m : Int) + 1), .bool true]) = _
              simp only [atmV, atV]; rw [hh]
            | true =>
              have HN : Hid (atm (rest s k) = none) := by show _ = _; rw [H2.out, hD]; rfl
              have HD : Hid _ := hD
              clear H2 hD
              go_enter Tryz.func117, Tryz.ntmps117
              go_wp2_with (first | (go_at_call 170; refine (place_any _ _).mono ?_; rintro e w' ⟨rfl, rfl⟩) | (go_at_call 171; refine (C3'.out _).mono ?_; rintro e w' ⟨rfl, rfl⟩))
              all_goals first
                | (refine bodyPost_ret (results_c3 rfl rfl rfl rfl (atm_load w 0 0 0)) rfl ⟨?_, below_alloc _ _⟩; rw [HN.out]; rfl)
                | (exfalso; have hD := HD.out; simp only [Bool.or_eq_true, decide_eq_true_eq, Bool.not_eq_true', beq_iff_eq, beq_eq_false_iff_ne, bne_eq_false_iff_eq] at *; omega)
          · have hin' : (s.size : Int) ≤ ((k + 5 + j : Nat) : Int) := by omega
            have HN : Hid (atm (rest s k) = none) := by
              show _ = _; rw [H.out, hx1, hx2, hb]; simp only [point_at]; rw [dif_neg hin]; simp
            clear H C3 hb
            go_enter Tryz.func117, Tryz.ntmps117
            go_wp2_with (first | (go_at_call 170; refine (place_any _ _).mono ?_; rintro e w' ⟨rfl, rfl⟩) | (go_at_call 171; refine (C3'.out _).mono ?_; rintro e w' ⟨rfl, rfl⟩))
            all_goals (refine bodyPost_ret (results_c3 rfl rfl rfl rfl (atm_load w 0 0 0)) rfl ⟨?_, below_alloc _ _⟩; rw [HN.out]; rfl)
  · have HN : Hid (atm (rest s k) = none) := atm_short s k hlt
    have hl : (s.size : Int) ≤ (k : Int) + 5 := by omega
    go_enter Tryz.func117, Tryz.ntmps117
    go_wp2
    refine bodyPost_ret (results_c3 rfl rfl rfl rfl (atm_load w 0 0 0)) rfl ⟨?_, below_alloc _ _⟩
    rw [HN.out]; rfl

end Go.Proofs.YtkinoehmcfhgbaaGreatDoor.Vl
