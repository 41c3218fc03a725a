/-
  Plain words on conditions (bytes, numbers, atoms, symbols, values), and the walks of the document's small readers: place, digits, table.
-/
import Derived.Test.YtkinoehmcfhgbaaDoorRows
import Derived.WalkKit
import Derived.WalkSpells
import Derived.WalkLawsBesides
import Derived.Lib.Strings
set_option linter.unusedVariables false
set_option linter.unusedSimpArgs false
namespace Go.Proofs.YtkinoehmcfhgbaaDoor.Vl
open Go.RowKit

theorem ret_int {k : IntKind} {a b : Int} (h : a = b) : Ending.returned (.int k a) = .returned (.int k b) := by rw [h]
theorem ret_bool {a b : Bool} (h : a = b) : Ending.returned (.bool a) = .returned (.bool b) := by rw [h]
theorem u8_beq (a : UInt8) (n : Nat) (h : n < 256) : ((a.toNat : Int) == (n : Int)) = (a == UInt8.ofNat n) := by
  rw [Bool.eq_iff_iff, beq_iff_eq, beq_iff_eq]
  constructor
  · intro h1
    have h2 : a.toNat = n := by omega
    apply UInt8.toNat_inj.1
    rw [h2]; simp; omega
  · intro h1
    subst h1
    simp; omega

/-- The bytes of a text from a place on. -/
def rest (s : ByteArray) (k : Nat) : List UInt8 := s.data.toList.drop k
theorem rest_cons (s : ByteArray) (k : Nat) (h : k < s.size) : rest s k = s[k] :: rest s (k + 1) := by
  unfold rest
  rw [List.drop_eq_getElem_cons (by simpa using h)]; rfl
theorem rest_end (s : ByteArray) (k : Nat) (h : s.size ≤ k) : rest s k = [] := by
  unfold rest; rw [List.drop_eq_nil_iff]; simpa using h
theorem rest_len (s : ByteArray) (k : Nat) : (rest s k).length = s.size - k := by
  unfold rest; rw [List.length_drop]; simp
theorem rest_drop (s : ByteArray) (k n : Nat) : (rest s k).drop n = rest s (k + n) := by
  unfold rest; rw [List.drop_drop]
theorem rest_zero (s : ByteArray) : rest s 0 = s.data.toList := rfl
theorem extract_rest (s : ByteArray) (k e : Nat) : (s.extract k e).data.toList = (rest s k).take (e - k) := by
  unfold rest; rw [Lib.extract_data]
theorem extract_str (s : ByteArray) (k e : Nat) : s.extract k e = ⟨((rest s k).take (e - k)).toArray⟩ := by
  apply Go.WideShapes.bytes_inj; rw [extract_rest]

/- Numbers. -/
def dgo (m : Int) : List UInt8 → Int → Int
  | [], v => v
  | c :: r, v => if (c.toNat : Int) < 48 ∨ 57 < (c.toNat : Int) then -1 else if m < v * 10 + ((c.toNat : Int) - 48) then -1 else dgo m r (v * 10 + ((c.toNat : Int) - 48))
def dg (m : Int) (l : List UInt8) : Int := match l with
  | [] => -1
  | c :: r => if c == 48 && !r.isEmpty then -1 else dgo m (c :: r) 0
theorem dgo_zero (c : UInt8) (r : List UInt8) (m : Int) : dg m (c :: r) = if c == 48 && !r.isEmpty then -1 else dgo m (c :: r) 0 := rfl
theorem dgo_range (m : Int) (hm : 0 ≤ m) : ∀ (l : List UInt8) (v : Int), 0 ≤ v → v ≤ m → -1 ≤ dgo m l v ∧ dgo m l v ≤ m
  | [], v, h0, h1 => by simp only [dgo]; omega
  | c :: r, v, h0, h1 => by
    simp only [dgo]
    split
    · omega
    · split
      · omega
      · exact dgo_range m hm r _ (by omega) (by omega)
theorem dg_range (m : Int) (hm : 0 ≤ m) (l : List UInt8) : -1 ≤ dg m l ∧ dg m l ≤ m := by
  unfold dg
  split
  · omega
  · split
    · omega
    · exact dgo_range m hm _ _ (by omega) hm
def isd (c : UInt8) : Bool := decide (48 ≤ (c.toNat : Int)) && decide ((c.toNat : Int) ≤ 57)
def dlen : List UInt8 → Nat
  | [] => 0
  | c :: r => if isd c then dlen r + 1 else 0
theorem dlen_le : ∀ l : List UInt8, dlen l ≤ l.length
  | [] => Nat.le_refl _
  | c :: r => by
    simp only [dlen, List.length_cons]
    have := dlen_le r
    split <;> omega
def sgd (l : List UInt8) : Nat := if l.headD 0 == 45 then 1 else 0
/-- The number that a list of bytes begins with, and its length. -/
def bnd (l : List UInt8) : Option (Int × Nat) :=
  if dg 999999 ((l.drop (sgd l)).take (dlen (l.drop (sgd l)))) < 0 ∨ (sgd l = 1 ∧ dg 999999 ((l.drop (sgd l)).take (dlen (l.drop (sgd l)))) = 0) then none
  else some (if sgd l = 1 then -dg 999999 ((l.drop (sgd l)).take (dlen (l.drop (sgd l)))) else dg 999999 ((l.drop (sgd l)).take (dlen (l.drop (sgd l)))), sgd l + dlen (l.drop (sgd l)))
theorem bnd_range {l : List UInt8} {n : Int} {k : Nat} (h : bnd l = some (n, k)) : -999999 ≤ n ∧ n ≤ 999999 ∧ k ≤ l.length := by
  unfold bnd at h
  split at h
  · cases h
  · rename_i hc
    have h1 := dg_range 999999 (by omega) ((l.drop (sgd l)).take (dlen (l.drop (sgd l))))
    have h2 := dlen_le (l.drop (sgd l))
    have h3 : sgd l ≤ l.length := by unfold sgd; cases l <;> simp; split <;> omega
    rw [List.length_drop] at h2
    cases h
    refine ⟨?_, ?_, by omega⟩
    · split <;> omega
    · split <;> omega

/- Atoms. -/
def plc (c : Int) : Int := if c == 48 then 0 else if c == 97 || c == 98 || c == 99 || c == 100 then c - 97 + 1 else -1
theorem plc_range (c : Int) : -1 ≤ plc c ∧ plc c ≤ 4 := by
  unfold plc
  split
  · omega
  · split
    · rename_i h; simp at h; omega
    · omega
def plu (c : UInt8) : Int := plc (c.toNat : Int)
abbrev Atm := Int × Int × Int
/-- The atom that a list of bytes begins with, and its length. -/
def atm : List UInt8 → Option (Atm × Nat)
  | a :: b :: c :: d :: e :: r =>
    if r.isEmpty || !(b == 45) || !([d, e] == [60, 61]) then none else
    match bnd r with
    | none => none
    | some (n, k) => if decide (plu a < 0) || decide (plu c < 0) || (plu a == plu c) || !((r.getD k 0) == 46) then none else some ((plu a, plu c, n), 6 + k)
  | _ => none

theorem atm_facts {l : List UInt8} {a : Atm} {k : Nat} (h : atm l = some (a, k)) : 0 ≤ a.1 ∧ a.1 ≤ 4 ∧ 0 ≤ a.2.1 ∧ a.2.1 ≤ 4 ∧ a.1 ≠ a.2.1 ∧ -999999 ≤ a.2.2 ∧ a.2.2 ≤ 999999 ∧ 6 ≤ k ∧ k ≤ l.length ∧ 0 ≤ plu (l.headD 0) := by
  match l, h with
  | x :: b :: c :: d :: e :: r, h =>
    simp only [atm] at h
    split at h
    · cases h
    · cases hb : bnd r with
      | none => rw [hb] at h; cases h
      | some q =>
        obtain ⟨n, j⟩ := q
        rw [hb] at h
        simp only at h
        split at h
        · cases h
        · rename_i hc
          have h1 := bnd_range hb
          have h2 := plc_range (x.toNat : Int)
          have h3 := plc_range (c.toNat : Int)
          simp only [Bool.or_eq_true, decide_eq_true_eq, Bool.not_eq_true', beq_eq_false_iff_ne, beq_iff_eq, not_or, ne_eq, Decidable.not_not] at hc
          obtain ⟨⟨⟨c1, c2⟩, c3⟩, c4⟩ := hc
          have hj : j < r.length := by
            rcases Nat.lt_or_ge j r.length with hj | hj
            · exact hj
            · rw [List.getD_eq_getElem?_getD, List.getElem?_eq_none hj] at c4; exact absurd c4 (by decide)
          cases h
          unfold plu at *
          refine ⟨by dsimp only; omega, h2.2, by dsimp only; omega, h3.2, c3, h1.1, h1.2.1, by omega, by simp only [List.length_cons]; omega, ?_⟩
          simp only [List.headD_cons]; omega

set_option maxHeartbeats 400000 in
theorem place_any (c : Int) (w : World) :
    Calls Tryd.prog 38 #[.int .u8 c] w fun e w' => e = .returned (.int .i64 (plc c)) ∧ w = w' := by
  go_enter Tryd.func38, Tryd.ntmps38
  go_wp2
  all_goals go_ret
  all_goals refine ⟨ret_int ?_, rfl⟩
  all_goals simp_all [plc]

/- What signs come to. -/
def tbl (g x y : Int) : Int :=
  if g == 38 then (if x == 0 || y == 0 then 0 else if x == 1 && y == 1 then 1 else 2)
  else if g == 124 then (if x == 1 || y == 1 then 1 else if x == 0 && y == 0 then 0 else 2)
  else (if x == 0 || y == 1 then 1 else if x == 1 && y == 0 then 0 else 2)
set_option maxHeartbeats 400000 in
theorem table_any (g x y : Int) (w : World) :
    Calls Tryd.prog 40 #[.int .u8 g, .int .i64 x, .int .i64 y] w fun e w' => e = .returned (.int .i64 (tbl g x y)) ∧ w = w' := by
  go_enter Tryd.func40, Tryd.ntmps40
  go_wp2
  all_goals go_ret
  all_goals refine ⟨ret_int ?_, rfl⟩
  all_goals simp_all [tbl]

set_option maxHeartbeats 1000000 in
theorem digits_any (s : ByteArray) (w : World) (m : Int) (hs : s.size ≤ 1000000) (hm : 0 ≤ m) (hm9 : m ≤ 999999) :
    Calls Tryd.prog 46 #[.string s, .int .i64 m] w fun e w' => e = .returned (.int .i64 (dg m s.data.toList)) ∧ w = w' := by
  by_cases h0 : 0 < s.size
  · have hd : s.data.toList = s[0] :: rest s 1 := rest_cons s 0 h0
    have hne : (s.toList.isEmpty) = false := by rw [ByteArray.toList_eq, hd]; rfl
    have hl : (rest s 1).length = s.size - 1 := rest_len s 1
    have e48 : ((s[0].toNat : Int) == 48) = (s[0] == 48) := u8_beq s[0] 48 (by omega)
    by_cases hA : ((s[0].toNat : Int) == 48) = true ∧ (1 : Int) < (s.size : Int)
    · obtain ⟨h2, h1⟩ := hA
      have H : Hid (dg m s.data.toList = -1) := by
        show dg m s.data.toList = -1
        have : (rest s 1).isEmpty = false := by
          rw [List.isEmpty_eq_false_iff]; intro h; rw [h] at hl; simp at hl; omega
        rw [hd, dgo_zero, ← e48, h2, this]; rfl
      clear hd hl e48
      go_enter Tryd.func46, Tryd.ntmps46
      go_wp2
      go_ret
      exact ⟨ret_int H.out.symm, rfl⟩
    · have H : Hid (dg m s.data.toList = dgo m (rest s 0) 0) := by
        show dg m s.data.toList = dgo m s.data.toList 0
        have : (s[0] == 48 && !(rest s 1).isEmpty) = false := by
          rw [← e48]
          by_cases h1 : (1 : Int) < (s.size : Int)
          · have : ((s[0].toNat : Int) == 48) = false := by
              rw [Bool.eq_false_iff]; intro h2; exact hA ⟨h2, h1⟩
            rw [this]; rfl
          · have : rest s 1 = [] := by rw [← List.length_eq_zero_iff]; omega
            rw [this]; simp
        rw [hd, dgo_zero, this]; rfl
      have hh : (((s[0].toNat : Int) == 48) = true ∧ ¬ (1 : Int) < (s.size : Int)) ∨ ((s[0].toNat : Int) == 48) = false := by
        cases hc : ((s[0].toNat : Int) == 48) with
        | false => exact Or.inr rfl
        | true => exact Or.inl ⟨rfl, fun h1 => hA ⟨hc, h1⟩⟩
      clear hd hl e48 hA
      rcases hh with ⟨hh, hh'⟩ | hh
      all_goals
        go_enter Tryd.func46, Tryd.ntmps46
        go_wp2
        go_loop [5, 6] (fun v i => ∃ (k : Nat) (n : Int), k ≤ s.size ∧ i = .int .i64 k ∧ v = .int .i64 n ∧ 0 ≤ n ∧ n ≤ m ∧ dgo m (rest s 0) 0 = dgo m (rest s k) n) (fun _ i => s.size - (intOf i).toNat)
        case atStart => exact ⟨0, 0, Nat.zero_le _, rfl, rfl, by omega, by omega, rfl⟩
        case round =>
          obtain ⟨k, n, hk, rfl, rfl, hn0, hn9, hq⟩ := hrel
          have Q : Hid (dgo m (rest s 0) 0 = dgo m (rest s k) n) := hq
          clear hq
          by_cases hlt : k < s.size
          · have hb : s[k].toNat < 256 := UInt8.toNat_lt _
            have E : Hid (dgo m (rest s k) n = if (s[k].toNat : Int) < 48 ∨ 57 < (s[k].toNat : Int) then -1 else if m < n * 10 + ((s[k].toNat : Int) - 48) then -1 else dgo m (rest s (k + 1)) (n * 10 + ((s[k].toNat : Int) - 48))) := by
              show _ = _
              rw [rest_cons s k hlt]; rfl
            go_wp2
            case roundEnd =>
              go_round
              case rel => exact ⟨k + 1, _, by omega, by go_num, rfl, by omega, by omega, by rw [Q.out, E.out, if_neg (by omega), if_neg (by omega), Int.mul_comm n 10]⟩
              case measure => simp [intOf]; omega
            all_goals go_ret
            · exact ⟨ret_int (by rw [H.out, Q.out, E.out, if_pos (by omega)]), rfl⟩
            · exact ⟨ret_int (by rw [H.out, Q.out, E.out, if_neg (by omega), if_pos (by omega)]), rfl⟩
            · exact ⟨ret_int (by rw [H.out, Q.out, E.out, if_pos (by omega)]), rfl⟩
          · go_wp2
            go_ret
            exact ⟨ret_int (by rw [H.out, Q.out, rest_end s k (by omega)]; rfl), rfl⟩
  · have H : Hid (dg m s.data.toList = -1) := by
      show dg m s.data.toList = -1
      have : s.data.toList = [] := rest_end s 0 (by omega)
      rw [this]; rfl
    have he : s.toList.isEmpty = true := by
      have : s.data.toList = [] := rest_end s 0 (by omega)
      rw [ByteArray.toList_eq, this]; rfl
    go_enter Tryd.func46, Tryd.ntmps46
    go_wp2
    go_ret
    exact ⟨ret_int H.out.symm, rfl⟩
end Go.Proofs.YtkinoehmcfhgbaaDoor.Vl
