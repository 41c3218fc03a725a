/-
  The walks of the program's Atom.text and Symbol.text.
  What is known of a condition by what is known of its atoms, as the program reckons it, is what the document says: plain words alone.
  The walks of the program's truthOf, Truth.Not, Both and Either.
  The map of what is assumed: atoms to truths.
  Proofs, as they are looked over: plain words alone.
  Plain: the prover's goal: where a condition is of a truth; what is known of its parts is what is known of the condition.
-/
import Derived.Test.YtkinoehmcfhgbaaGreatDoorN0
import Derived.Lib.Builder
import Derived.Lib.AppendStr
import Derived.Laws.Externs
import Derived.Lib.AppendZeros
import Derived.Laws.AppendOwnNone
import Derived.Test.YtkinoehmcfhgbaaGreatDoorRows
import Derived.Test.YtkinoehmcfhgbaaGreatDoorShelf
import Derived.Test.YtkinoehmcfhgbaaGreatDoorV8
import Derived.DeepKeys5
import Derived.Maps.Own
import Derived.Maps.Views
set_option linter.unusedVariables false
set_option linter.unusedSimpArgs false
namespace Go.Proofs.YtkinoehmcfhgbaaGreatDoor.Vl
open Go.RowKit
open Go.Sort (grow)

/-- The name of the library's table of powers of ten; that it holds what it should, now and later. -/
def nTab : String := (Rows.listedRow.laid.map (·.1)).getD 2 ""
def Gt (w : World) : Prop := ∀ w', Below w.heap.size w w' → Lib.TabIs Tryz.prog w' nTab .u64 Lib.pow10Tab
theorem Gt.on {w w1 : World} (h : Gt w) (hb : Below w.heap.size w w1) : Gt w1 := fun w' h' => h w' (hb.trans (h'.mono hb.size))
theorem below_grown (w : World) (k : Nat) (os : Array Obj) : Below w.heap.size w (grow (w.drewN k) os) := by
  have h := below_drewN (Below.refl w.heap.size w) k
  refine ⟨h.os, h.tape, h.output, ?_, fun j hj => ?_⟩
  · have : (grow (w.drewN k) os).heap = (w.drewN k).heap ++ os := rfl
    rw [this, Array.size_append]; have := h.size; omega
  · have : (grow (w.drewN k) os).heap = (w.drewN k).heap ++ os := rfl
    rw [this, Array.getElem?_append_left (by have := h.size; omega)]
    exact h.block j hj
theorem itoaN_any (n : Int) (h0 : -9223372036854775808 ≤ n) (h1 : n ≤ 9223372036854775807) (w : World) (hg : Gt w) : Calls Tryz.prog 144 #[.int .i64 n] w fun e w' => e = .returned (.string ⟨(Lib.itoa n).toArray⟩) ∧ Below w.heap.size w w' :=
  (Any.strconv_Itoa Tryz.laysM171 n h0 h1 w (hg w (Below.refl _ _))).mono fun e w' ⟨he, k, os, hw⟩ => ⟨he, by rw [hw]; exact below_grown w k os⟩

attribute [local go_sem high] run_catO
end Go.Proofs.YtkinoehmcfhgbaaGreatDoor.Vl
set_option linter.unusedVariables false
set_option linter.unusedSimpArgs false
namespace Go.Proofs.YtkinoehmcfhgbaaGreatDoor.Vl
open Go.RowKit

/-- Truths: 0 open, 1 holds, 2 fails. -/
def tnot (t : Int) : Int := if t = 1 then 2 else if t = 2 then 1 else 0
def tboth (t u : Int) : Int := if t = 2 ∨ u = 2 then 2 else if t = 1 ∧ u = 1 then 1 else 0
def teith (t u : Int) : Int := tnot (tboth (tnot t) (tnot u))
def tof (b : Bool) : Int := if b then 1 else 2
/-- A truth is one of three. -/
def T3 (t : Int) : Prop := t = 0 ∨ t = 1 ∨ t = 2
theorem t3_not (t : Int) : T3 (tnot t) := by unfold T3 tnot; split; · omega
                                             · split <;> omega
theorem t3_both (t u : Int) : T3 (tboth t u) := by unfold T3 tboth; split; · omega
                                                   · split <;> omega
theorem t3_of (b : Bool) : T3 (tof b) := by cases b <;> simp [T3, tof]
/-- What is known of a symbol by what is known of its parts: the first part's (on top), the second's. -/
def tval (kn : Atm → Int) (y : Sym) (t u : Int) : Int :=
  if y.1 = 0 then 1 else if y.1 = 2 then tnot t else if y.1 = 3 then tboth t u else if y.1 = 4 then teith t u else if y.1 = 5 then teith (tnot t) u else if y.1 = 6 then kn y.2 else 2
def tst (kn : Atm → Int) (y : Sym) (st : List Int) : List Int := tval kn y (st.headD 0) (st.tail.headD 0) :: st.drop (prt y.1).toNat
def trun (kn : Atm → Int) (ys : List Sym) : List Int := ys.foldr (tst kn) []
theorem trun_cons (kn : Atm → Int) (y : Sym) (r : List Sym) : trun kn (y :: r) = tst kn y (trun kn r) := rfl
theorem tval_t3 {kn : Atm → Int} (hk : ∀ a, T3 (kn a)) (y : Sym) (t u : Int) : T3 (tval kn y t u) := by
  unfold tval
  split; · right; left; rfl
  split; · exact t3_not _
  split; · exact t3_both _ _
  split; · exact t3_not _
  split; · exact t3_not _
  split; · exact hk _
  right; right; rfl
theorem trun_t3 {kn : Atm → Int} (hk : ∀ a, T3 (kn a)) : ∀ (ys : List Sym), ∀ x ∈ trun kn ys, T3 x
  | [], x, h => by cases h
  | y :: r, x, h => by
    rw [trun_cons] at h; unfold tst at h
    rcases List.mem_cons.1 h with rfl | h
    · exact tval_t3 hk _ _ _
    · exact trun_t3 hk r x (List.mem_of_mem_drop h)
theorem trun_le (kn : Atm → Int) : ∀ ys : List Sym, (trun kn ys).length ≤ ys.length
  | [] => Nat.le_refl _
  | y :: r => by
    have h2 := trun_le kn r
    rw [trun_cons, List.length_cons]; unfold tst; simp; omega
theorem trun_len {s : ByteArray} (kn : Atm → Int) : ∀ (ys : List Sym) (k : Nat) (m : Int) (ps : List Nat), Pos s k m ys ps → 0 ≤ m → ((trun kn ys).length : Int) = m
  | [], k, m, ps, h, _ => by obtain ⟨_, _, rfl⟩ := h; rfl
  | y :: r, k, m, ps, h, hm => by
    obtain ⟨j, ps', rfl, hk, hm0, hs, hp⟩ := h
    have hpr := prt_range y.1
    have ih := trun_len kn r (k + j) _ ps' hp (by omega)
    rw [trun_cons]; unfold tst
    rw [List.length_cons, List.length_drop]; omega
theorem tpos_at {s : ByteArray} (kn : Atm → Int) : ∀ (ys : List Sym) (k : Nat) (m : Int) (ps : List Nat), Pos s k m ys ps → 0 ≤ m → ∀ n, n < ys.length →
    ∃ y, ys[n]? = some y ∧ 0 ≤ y.1 ∧ y.1 ≤ 6 ∧ (y.1 = 6 → okA y.2) ∧ prt y.1 ≤ (trun kn (ys.drop (n + 1))).length
  | [], k, m, ps, h, _ => by intro n hn; simp at hn
  | y :: r, k, m, ps, h, hm => by
    have hok := pos_ok (y :: r) k m ps h
    obtain ⟨j, ps', rfl, hk, hm0, hs, hp⟩ := h
    have hpr := prt_range y.1
    intro n hn
    cases n with
    | zero =>
      have := trun_len kn r (k + j) _ ps' hp (by omega)
      have hr := kind_range hk hs
      exact ⟨y, rfl, hr.1, hr.2, hok y (by simp), by simp only [Nat.zero_add, List.drop_succ_cons, List.drop_zero]; omega⟩
    | succ n =>
      obtain ⟨z, h1, h2, h3, h4, h5⟩ := tpos_at kn r (k + j) _ ps' hp (by omega) n (by simpa using hn)
      exact ⟨z, by simpa using h1, h2, h3, h4, by simpa using h5⟩
/-- The document's number of a truth: 2 open, 1 holds, 0 fails. -/
def dt (t : Int) : Int := if t = 0 then 2 else if t = 1 then 1 else 0
theorem dt_not (t : Int) (h : T3 t) : (if dt t < 2 then 1 - dt t else dt t) = dt (tnot t) := by rcases h with rfl | rfl | rfl <;> rfl
theorem dt_and (t u : Int) (h : T3 t) (k : T3 u) : tbl 38 (dt t) (dt u) = dt (tboth t u) := by rcases h with rfl | rfl | rfl <;> rcases k with rfl | rfl | rfl <;> rfl
theorem dt_or (t u : Int) (h : T3 t) (k : T3 u) : tbl 124 (dt t) (dt u) = dt (teith t u) := by rcases h with rfl | rfl | rfl <;> rcases k with rfl | rfl | rfl <;> rfl
theorem dt_imp (t u : Int) (h : T3 t) (k : T3 u) : tbl 62 (dt t) (dt u) = dt (teith (tnot t) u) := by rcases h with rfl | rfl | rfl <;> rcases k with rfl | rfl | rfl <;> rfl
theorem wst_tst (kn : Atm → Int) (ls : List Atm) (bs : List Int) (y : Sym) (st : List Int) (h3 : ∀ x ∈ st, T3 x) (h0 : 0 ≤ y.1) (h6 : y.1 ≤ 6) (hd : prt y.1 ≤ st.length)
    (ha : y.1 = 6 → bs.getD (nmb ls y.2 0).toNat 0 = dt (kn y.2)) : wst ls bs y (st.map dt) = (tst kn y st).map dt := by
  obtain ⟨q, a⟩ := y
  dsimp only at *
  have hq : q = 0 ∨ q = 1 ∨ q = 6 ∨ q = 2 ∨ q = 3 ∨ q = 4 ∨ q = 5 := by omega
  rcases hq with rfl | rfl | rfl | rfl | rfl | rfl | rfl
  · rfl
  · rfl
  · show bs.getD (nmb ls a 0).toNat 0 :: st.map dt = dt (kn a) :: st.map dt
    rw [ha rfl]
  · match st, hd, h3 with
    | [], h, _ => exact absurd h (by decide)
    | x :: r, _, h3 =>
      show (if dt x < 2 then 1 - dt x else dt x) :: r.map dt = dt (tnot x) :: r.map dt
      rw [dt_not x (h3 x (by simp))]
  · match st, hd, h3 with
    | [], h, _ => exact absurd h (by decide)
    | [x], h, _ => simp [prt] at h
    | x :: z :: r, _, h3 =>
      show tbl 38 (dt x) (dt z) :: r.map dt = dt (tboth x z) :: r.map dt
      rw [dt_and x z (h3 x (by simp)) (h3 z (by simp))]
  · match st, hd, h3 with
    | [], h, _ => exact absurd h (by decide)
    | [x], h, _ => simp [prt] at h
    | x :: z :: r, _, h3 =>
      show tbl 124 (dt x) (dt z) :: r.map dt = dt (teith x z) :: r.map dt
      rw [dt_or x z (h3 x (by simp)) (h3 z (by simp))]
  · match st, hd, h3 with
    | [], h, _ => exact absurd h (by decide)
    | [x], h, _ => simp [prt] at h
    | x :: z :: r, _, h3 =>
      show tbl 62 (dt x) (dt z) :: r.map dt = dt (teith (tnot x) z) :: r.map dt
      rw [dt_imp x z (h3 x (by simp)) (h3 z (by simp))]
theorem wrun_trun {s : ByteArray} {kn : Atm → Int} (hk3 : ∀ a, T3 (kn a)) (ls : List Atm) (bs : List Int) : ∀ (ys : List Sym) (k : Nat) (m : Int) (ps : List Nat), Pos s k m ys ps → 0 ≤ m →
    (∀ y ∈ ys, y.1 = 6 → bs.getD (nmb ls y.2 0).toNat 0 = dt (kn y.2)) → wrun ls bs ys = (trun kn ys).map dt
  | [], k, m, ps, h, _, _ => rfl
  | y :: r, k, m, ps, h, hm, ha => by
    obtain ⟨j, ps', rfl, hk, hm0, hs, hp⟩ := h
    have hpr := prt_range y.1
    have hr := kind_range hk hs
    have hl := trun_len kn r (k + j) _ ps' hp (by omega)
    rw [wrun_cons, trun_cons, wrun_trun hk3 ls bs r (k + j) _ ps' hp (by omega) (fun z hz => ha z (by simp [hz]))]
    exact wst_tst kn ls bs y _ (trun_t3 hk3 r) hr.1 hr.2 (by omega) (ha y (by simp))
/-- Of a condition: what the program comes to is what the document comes to, by a list of what is known. -/
theorem worth_trun {s : ByteArray} {ys : List Sym} {kn : Atm → Int} (hk3 : ∀ a, T3 (kn a)) (h : pars s = some ys) (bs : List Int) (hb : ∀ a ∈ uqs ys, bs.getD (nmb (uqs ys) a 0).toNat 0 = dt (kn a)) :
    ∃ t, T3 t ∧ trun kn ys = [t] ∧ wrun (uqs ys) bs ys = [dt t] := by
  obtain ⟨hs, hp, _, _⟩ := pars_facts h
  obtain ⟨ps, hps⟩ := pos_of s ys 0 1 (Nat.zero_le _) hp
  have hl := trun_len kn ys 0 1 ps hps (by omega)
  have hw := wrun_trun hk3 (uqs ys) bs ys 0 1 ps hps (by omega) (fun y hy h6 => hb y.2 ((foldA_sub ys []).2 y hy h6))
  have ht := trun_t3 hk3 ys
  match hb : trun kn ys, hl, ht with
  | [], h, _ => simp at h
  | [t], _, ht => exact ⟨t, ht t (by simp), rfl, by rw [hw, hb]; rfl⟩
  | x :: z :: r, h, _ => simp at h; omega
theorem val_trun {s : ByteArray} {ys : List Sym} (x1 x2 x3 x4 : Int) (h : pars s = some ys) : ∃ t, T3 t ∧ trun (fun a => tof (hld x1 x2 x3 x4 a)) ys = [t] ∧ val x1 x2 x3 x4 ys = (t == 1) := by
  obtain ⟨t, h1, h2, h3⟩ := worth_trun (kn := fun a => tof (hld x1 x2 x3 x4 a)) (fun a => t3_of _) h (bys x1 x2 x3 x4 (uqs ys)) (fun a ha => by
    have hg := nmb_get (uqs ys) a 0 ha
    rw [Int.sub_zero] at hg
    unfold bys
    rw [List.getD_eq_getElem?_getD, List.getElem?_map, hg]
    show bi (hld x1 x2 x3 x4 a) = dt (tof (hld x1 x2 x3 x4 a))
    cases hld x1 x2 x3 x4 a <;> rfl)
  refine ⟨t, h1, h2, ?_⟩
  unfold val
  rw [h3]
  rcases h1 with rfl | rfl | rfl <;> rfl
end Go.Proofs.YtkinoehmcfhgbaaGreatDoor.Vl
set_option linter.unusedVariables false
set_option linter.unusedSimpArgs false
namespace Go.Proofs.YtkinoehmcfhgbaaGreatDoor.Vl
open Go.RowKit

set_option maxHeartbeats 400000 in
theorem tnot_any (t : Int) (h : T3 t) (w : World) : Calls Tryz.prog 167 #[.int .i8 t] w fun e w' => e = .returned (.int .i8 (tnot t)) ∧ w = w' := by
  rcases h with rfl | rfl | rfl
  all_goals
    go_enter Tryz.func167, Tryz.ntmps167
    go_wp2
    go_ret
    exact ⟨rfl, rfl⟩
set_option maxHeartbeats 1000000 in
theorem tboth_any (t u : Int) (h : T3 t) (k : T3 u) (w : World) : Calls Tryz.prog 168 #[.int .i8 t, .int .i8 u] w fun e w' => e = .returned (.int .i8 (tboth t u)) ∧ w = w' := by
  rcases h with rfl | rfl | rfl <;> rcases k with rfl | rfl | rfl
  all_goals
    go_enter Tryz.func168, Tryz.ntmps168
    go_wp2
    go_ret
    exact ⟨rfl, rfl⟩
set_option maxHeartbeats 1000000 in
theorem teith_any (t u : Int) (h : T3 t) (k : T3 u) (w : World) : Calls Tryz.prog 169 #[.int .i8 t, .int .i8 u] w fun e w' => e = .returned (.int .i8 (teith t u)) ∧ w = w' := by
  have CN : Hid (∀ t w, T3 t → Calls Tryz.prog 167 #[.int .i8 t] w fun e w' => e = .returned (.int .i8 (tnot t)) ∧ w = w') := fun t w h => tnot_any t h w
  have CB : Hid (∀ t u w, T3 t → T3 u → Calls Tryz.prog 168 #[.int .i8 t, .int .i8 u] w fun e w' => e = .returned (.int .i8 (tboth t u)) ∧ w = w') := fun t u w h k => tboth_any t u h k w
  have HT : Hid (T3 t) := h
  have HU : Hid (T3 u) := k
  clear h k
  go_enter Tryz.func169, Tryz.ntmps169
  go_wp2_with (first
    | (go_at_call 167; refine (CN.out _ _ (by first | exact HT.out | exact HU.out | exact t3_both _ _)).mono ?_; rintro e w' ⟨rfl, rfl⟩)
    | (go_at_call 168; refine (CB.out _ _ _ (t3_not _) (t3_not _)).mono ?_; rintro e w' ⟨rfl, rfl⟩))
  go_ret
  exact ⟨rfl, rfl⟩
set_option maxHeartbeats 400000 in
theorem kparts_any (k : Int) (w : World) : Calls Tryz.prog 76 #[.int .i64 k] w fun e w' => e = .returned (.int .i64 (prt k)) ∧ w = w' := by
  by_cases h2 : k = 2
  · subst h2
    go_enter Tryz.func76, Tryz.ntmps76
    go_wp2
    go_ret
    exact ⟨rfl, rfl⟩
  by_cases h3 : k = 3
  · subst h3
    go_enter Tryz.func76, Tryz.ntmps76
    go_wp2
    go_ret
    exact ⟨rfl, rfl⟩
  by_cases h4 : k = 4
  · subst h4
    go_enter Tryz.func76, Tryz.ntmps76
    go_wp2
    go_ret
    exact ⟨rfl, rfl⟩
  by_cases h5 : k = 5
  · subst h5
    go_enter Tryz.func76, Tryz.ntmps76
    go_wp2
    go_ret
    exact ⟨rfl, rfl⟩
  · have e : prt k = 0 := by unfold prt; simp [h2, h3, h4, h5]
    go_enter Tryz.func76, Tryz.ntmps76
    go_wp2
    go_ret
    exact ⟨by rw [e]; rfl, rfl⟩
/-- A condition as it lies in memory. -/
def Syms (n0 : Nat) (w : World) (v : Value) (ys : List Sym) : Prop :=
  ∃ b cap, v = .slice (some ⟨b, 0, none⟩) ys.length cap ∧ b < n0 ∧ ∀ j y, ys[j]? = some y → w.cell? ⟨b, j * 4, none⟩ = some (.int .i64 y.1) ∧ w.cell? ⟨b, j * 4 + 1, none⟩ = some (.int .i64 y.2.1) ∧ w.cell? ⟨b, j * 4 + 2, none⟩ = some (.int .i64 y.2.2.1) ∧ w.cell? ⟨b, j * 4 + 3, none⟩ = some (.int .i64 y.2.2.2)
theorem Syms.below {n0 : Nat} {w w' : World} {v : Value} {ys : List Sym} (h : Syms n0 w v ys) (hb : Below n0 w w') : Syms n0 w' v ys := by
  obtain ⟨b, cap, h1, h2, h3⟩ := h
  exact ⟨b, cap, h1, h2, fun j y hy => ⟨(hb.cell (p := ⟨b, j * 4, none⟩) h2).trans (h3 j y hy).1, (hb.cell (p := ⟨b, j * 4 + 1, none⟩) h2).trans (h3 j y hy).2.1, (hb.cell (p := ⟨b, j * 4 + 2, none⟩) h2).trans (h3 j y hy).2.2.1, (hb.cell (p := ⟨b, j * 4 + 3, none⟩) h2).trans (h3 j y hy).2.2.2⟩⟩
theorem Syms.more {n0 n1 : Nat} {w : World} {v : Value} {ys : List Sym} (h : Syms n0 w v ys) (hn : n0 ≤ n1) : Syms n1 w v ys := by
  obtain ⟨b, cap, h1, h2, h3⟩ := h
  exact ⟨b, cap, h1, Nat.lt_of_lt_of_le h2 hn, h3⟩
def tv8 (t : Int) : Value := .int .i8 t
theorem rows_put8 (st : List Int) (p : Nat) (hp : p ≤ st.length) (V : Int) : ((V :: st.drop p).reverse.map tv8) = (st.reverse.map tv8).take (st.length - p) ++ [tv8 V] := by
  rw [List.reverse_cons, List.map_append, ← List.map_take, List.take_reverse, show st.length - (st.length - p) = p by omega]; rfl
theorem Tryz.infoTruth : (Tryz.prog.info? 159).map (fun i => (i.zero, i.size, i.bytes)) = some (some (.int .i8 0), 1, 1) := by kernel_rfl
theorem one_i8 (x : Int) : ∀ u ∈ [Value.int .i8 x], u.oneCell' = true := by
  intro u hu; simp at hu; subst hu; rfl
end Go.Proofs.YtkinoehmcfhgbaaGreatDoor.Vl
set_option linter.unusedVariables false
set_option linter.unusedSimpArgs false
namespace Go.Proofs.YtkinoehmcfhgbaaGreatDoor.Vl
open Go.RowKit Go.Maps

theorem lawA : WideMaps.KeyLaw Tryz.prog 134 := deep_law_laid (by kernel_rfl) (m := 3) (by omega) (of_decide_eq_true (by kernel_rfl)) (by kernel_rfl) (by kernel_rfl)
theorem keyedA : Keyed Tryz.prog 134 := Keyed.of_law lawA
/-- An atom as a value. -/
def avV (a : Atm) : Value := .agg #[.int .i64 a.1, .int .i64 a.2.1, .int .i64 a.2.2]
theorem key_some (a : Atm) (h : okA a) : ∃ l, keyOf Tryz.prog 134 (avV a) = some l := by
  obtain ⟨a1, a2, a3⟩ := a
  unfold okA at h
  dsimp only at h
  have w1 : (Lit.int .i64 a1).wf = true := by simp [Lit.wf, IntKind.wrap, IntKind.bits, IntKind.signed, IntKind.min, IntKind.max]; omega
  have w2 : (Lit.int .i64 a2).wf = true := by simp [Lit.wf, IntKind.wrap, IntKind.bits, IntKind.signed, IntKind.min, IntKind.max]; omega
  have w3 : (Lit.int .i64 a3).wf = true := by simp [Lit.wf, IntKind.wrap, IntKind.bits, IntKind.signed, IntKind.min, IntKind.max]; omega
  have k1 : Tryz.prog.keyType 134 = true := by kernel_rfl
  have k2 : (Value.agg #[.int .i64 a1, .int .i64 a2, .int .i64 a3]).formed Tryz.prog 134 = true := by kernel_rfl
  have k3 : ∃ d, Tryz.prog.types.size = d + 1 := ⟨Tryz.prog.types.size - 1, by have : 0 < Tryz.prog.types.size := of_decide_eq_true (by kernel_rfl); omega⟩
  obtain ⟨d, hd⟩ := k3
  have k4 : Tryz.prog.keyLits (Tryz.prog.types.size + 1) 134 [.int .i64 a1, .int .i64 a2, .int .i64 a3] = some [.int .i64 a1, .int .i64 a2, .int .i64 a3] := by
    rw [hd]
    have e1 : Tryz.prog.cellsOf 134 = 3 := by kernel_rfl
    have e2 : Tryz.prog.cellsOf 132 = 1 := by kernel_rfl
    have e3 : Tryz.prog.cellsOf 3 = 1 := by kernel_rfl
    simp [Program.keyLits, e1, e2, e3, Tryz.underlying134, Tryz.underlying132, Tryz.underlying3, w1, w2, w3]
  unfold keyOf avV
  rw [Tryz.underlying134]
  dsimp only
  rw [if_pos (by rw [k1, k2]; rfl), show (Value.agg #[.int .i64 a1, .int .i64 a2, .int .i64 a3]).cells.toList = [.int .i64 a1, .int .i64 a2, .int .i64 a3] from rfl, k4]
  exact ⟨_, rfl⟩
/-- What is assumed of atoms, as it lies in memory. -/
def AM (w : World) (b n : Nat) (f : Atm → Int) : Prop := ∃ D : DataW Unit, w.ownsMap Tryz.prog 134 (plainElem Tryz.prog 159) b n D ∧ IsMap D ∧ ∀ a l, okA a → keyOf Tryz.prog 134 (avV a) = some l → D.atKey l (.lit (.int .i8 0)) = .lit (.int .i8 (f a))
theorem AM.made (w : World) : AM (w.alloc (.map #[] 0)) w.heap.size 0 (fun _ => 0) := ⟨.map [], World.ownsMap_made _ _ _ _, ⟨_, rfl⟩, fun a l _ _ => rfl⟩
theorem AM.kept {w w' : World} {b n : Nat} {f : Atm → Int} {row : Option Nat} (h : AM w b n f) (hg : w.grownBy w' row) (hne : some b ≠ row) : AM w' b n f := by
  obtain ⟨D, h1, h2, h3⟩ := h
  exact ⟨D, h1.kept hg hne, h2, h3⟩
theorem AM.lt {w : World} {b n : Nat} {f : Atm → Int} (h : AM w b n f) : b < w.heap.size := by
  obtain ⟨D, h1, _⟩ := h
  exact h1.lt
set_option maxRecDepth 100000 in
theorem AM.look {w : World} {b n : Nat} {f : Atm → Int} (h : AM w b n f) (a : Atm) (ha : okA a) : (Instr.lookup 170 (.map (some b)) (avV a) false).run Tryz.prog w = .ok (.int .i8 (f a)) w := by
  obtain ⟨D, h1, _, h3⟩ := h
  obtain ⟨l, hl⟩ := key_some a ha
  obtain ⟨c, hrun, hat, _⟩ := h1.lookup_int keyedA Tryz.underlying170 Tryz.underlying159 (Tryz.zeroValue159 w) hl
  have := (h3 a l ha hl).symm.trans hat
  injection this with e1
  injection e1 with e2 e3
  rw [hrun, e3]
theorem okA_lit {a b : Atm} {l : Lit} (h1 : keyOf Tryz.prog 134 (avV a) = some l) (h2 : keyOf Tryz.prog 134 (avV b) = some l) : a = b := by
  have := lawA.inj h1 h2
  unfold avV at this
  obtain ⟨a1, a2, a3⟩ := a
  obtain ⟨b1, b2, b3⟩ := b
  simpa using this
/-- One atom's truth is put. -/
def putA (f : Atm → Int) (a : Atm) (t : Int) : Atm → Int := fun x => if x = a then t else f x
theorem wf8 {t : Int} (h : T3 t) : (Lit.int .i8 t).wf = true := by rcases h with rfl | rfl | rfl <;> decide
theorem AM.put {w : World} {b n : Nat} {f : Atm → Int} (h : AM w b n f) (a : Atm) (ha : okA a) (t : Int) (ht : T3 t) (hn : n < maxLen) :
    ∃ w', (Instr.mapUpdate 170 (.map (some b)) (avV a) (.int .i8 t)).run Tryz.prog w = .ok () w' ∧ AM w' b (n + 1) (putA f a t) ∧ w.grownBy w' (some b) := by
  obtain ⟨D, h1, h2, h3⟩ := h
  obtain ⟨l, hl⟩ := key_some a ha
  obtain ⟨w', r1, r2, r3⟩ := h1.update keyedA Tryz.underlying170 hn hl (plainElem_int Tryz.underlying159 (wf8 ht))
  refine ⟨w', r1, ⟨_, r2, ?_, fun x lx hx hlx => ?_⟩, r3⟩
  · exact h2.put _ _
  · unfold putA
    by_cases e : x = a
    · subst e
      obtain rfl : l = lx := Option.some.inj (hl.symm.trans hlx)
      rw [if_pos rfl, atKey_put_same h2 (keyedA.key hl)]
    · rw [if_neg e, atKey_put_other (fun e2 => e (okA_lit (by rw [hlx, e2]) hl))]
      exact h3 x lx hx hlx
theorem AM.del {w : World} {b n : Nat} {f : Atm → Int} (h : AM w b n f) (a : Atm) (ha : okA a) (ty : TypeId) :
    ∃ w', (Builtin.delete_ #[170, 134] ty #[.map (some b), avV a]).run Tryz.prog w = .ok (.tuple #[]) w' ∧ AM w' b n (putA f a 0) ∧ w.grownBy w' (some b) := by
  obtain ⟨D, h1, h2, h3⟩ := h
  obtain ⟨l, hl⟩ := key_some a ha
  obtain ⟨es, clock, hb, F, hs, rfl⟩ := h1
  obtain ⟨es', hrun, F', hsz, hdel, _⟩ := Maps.fit_drop (ty := ty) keyedA Tryz.underlying170 hb F hl
  refine ⟨_, hrun, ⟨_, ⟨es', clock, Go.ChangeMaps.heap_setBlock_same hb _, F', Nat.le_trans hsz hs, rfl⟩, ⟨_, rfl⟩, fun x lx hx hlx => ?_⟩, ⟨rfl, rfl, rfl, by simp [ChangeMaps.setBlock], fun i _ hi => Go.ChangeMaps.heap_setBlock_other hb _ (fun e => hi (by rw [e]))⟩⟩
  have ed : (DataW.map ((es'.toList.map (WideElems.rg Tryz.prog 134 (plainElem Tryz.prog 159))).foldr DataW.insert []) : DataW Unit) = (DataW.map ((es.toList.map (WideElems.rg Tryz.prog 134 (plainElem Tryz.prog 159))).foldr DataW.insert [])).del l := by
    rw [hdel]; rfl
  rw [ed]
  unfold putA
  by_cases e : x = a
  · subst e
    obtain rfl : l = lx := Option.some.inj (hl.symm.trans hlx)
    rw [if_pos rfl, atKey_del_same]
  · rw [if_neg e, atKey_del_other (fun e2 => e (okA_lit (by rw [hlx, e2]) hl))]
    exact h3 x lx hx hlx
theorem AM.clear {w : World} {b n : Nat} {f : Atm → Int} (h : AM w b n f) (ty : TypeId) :
    ∃ w', (Builtin.clear_ #[170] ty #[.map (some b)]).run Tryz.prog w = .ok (.tuple #[]) w' ∧ AM w' b 0 (fun _ => 0) ∧ w.grownBy w' (some b) := by
  obtain ⟨D, h1, h2, h3⟩ := h
  obtain ⟨es, clock, hb, F, hs, rfl⟩ := h1
  refine ⟨ChangeMaps.setBlock w b (.map #[] clock), ?_, ⟨_, ⟨#[], clock, Go.ChangeMaps.heap_setBlock_same hb _, ?_, Nat.le_refl _, rfl⟩, ⟨_, rfl⟩, fun x lx hx hlx => rfl⟩, ⟨rfl, rfl, rfl, by simp [ChangeMaps.setBlock], fun i _ hi => Go.ChangeMaps.heap_setBlock_other hb _ (fun e => hi (by rw [e]))⟩⟩
  · simp [Builtin.clear_, run_underlying Tryz.underlying170, MapKept.run_getObj_map hb, MapKept.run_setObj_map _ hb, Result.andThen, ChangeMaps.setBlock]
  · exact ⟨by simp, MapKept.stamped_empty _, by simp⟩
end Go.Proofs.YtkinoehmcfhgbaaGreatDoor.Vl
set_option linter.unusedVariables false
set_option linter.unusedSimpArgs false
namespace Go.Proofs.YtkinoehmcfhgbaaGreatDoor.Vl
open Go.RowKit

/-- A number below N, and what stands behind its digits. -/
def fig (N : Nat) (l : List UInt8) : Option (Nat × List UInt8) :=
  if 0 ≤ dg 4000 (l.take (dlen l)) ∧ dg 4000 (l.take (dlen l)) < (N : Int) then some ((dg 4000 (l.take (dlen l))).toNat, l.drop (dlen l)) else none
theorem fig_lt {N : Nat} {l : List UInt8} {n : Nat} {r : List UInt8} (h : fig N l = some (n, r)) : n < N ∧ r = l.drop (dlen l) ∧ (n : Int) = dg 4000 (l.take (dlen l)) := by
  unfold fig at h
  split at h
  · rename_i hc
    injection h with h
    injection h with h1 h2
    exact ⟨by omega, h2.symm, by omega⟩
  · cases h
theorem fig_len {N : Nat} {l : List UInt8} {n : Nat} {r : List UInt8} (h : fig N l = some (n, r)) : r.length ≤ l.length := by
  rw [(fig_lt h).2.1, List.length_drop]; omega
/-- What is assumed, if an atom is of this truth. -/
def ifA (a : Atm) (t : Int) : Atm := if t = 2 then (a.2.1, a.1, -a.2.2 - 1) else a
/-- The assumptions of a cycle. -/
def lks (us : List Atm) (f : Atm → Int) : Nat → List UInt8 → Option (List Atm × List UInt8)
  | 0, _ => none
  | k + 1, l =>
    match fig us.length l with
    | none => none
    | some (n, []) => none
    | some (n, c :: r) =>
      if f (us.getD n (0, 0, 0)) = 0 then none
      else if c = 44 then (lks us f k r).map fun q => (ifA (us.getD n (0, 0, 0)) (f (us.getD n (0, 0, 0))) :: q.1, q.2)
      else if c = 59 then some ([ifA (us.getD n (0, 0, 0)) (f (us.getD n (0, 0, 0)))], r)
      else none
/-- Each one's right operand is the next one's left one. -/
def chn : Atm → List Atm → Bool
  | _, [] => true
  | last, x :: r => last.2.1 == x.1 && chn x r
def smB (ats : List Atm) : Int := (ats.map fun a => a.2.2).sum
def cyc (ats : List Atm) : Bool := chn (ats.getLastD (0, 0, 0)) ats && decide (smB ats < 0)
/-- A proof at the front of a text: what stands behind it. -/
def chk (us : List Atm) (ys : List Sym) : Nat → (Atm → Int) → List UInt8 → Option (List UInt8)
  | 0, _, _ => none
  | k + 1, f, l =>
    match l with
    | [] => none
    | c :: r =>
      if c = 46 then (if (trun f ys).headD 0 = 1 then some r else none)
      else if c = 33 then (match lks us f (r.length + 1) r with
        | some (ats, r') => if cyc ats then some r' else none
        | none => none)
      else if c = 63 then (match fig us.length r with
        | none => none
        | some (n, []) => none
        | some (n, d :: r1) => if f (us.getD n (0, 0, 0)) = 0 ∧ d = 58 then
            (match chk us ys k (putA f (us.getD n (0, 0, 0)) 1) r1 with
            | none => none
            | some r2 => chk us ys k (putA f (us.getD n (0, 0, 0)) 2) r2)
          else none)
      else none
theorem lks_len {us : List Atm} {f : Atm → Int} : ∀ (k : Nat) (l : List UInt8) (ats : List Atm) (r : List UInt8), lks us f k l = some (ats, r) → r.length < l.length ∧ ats ≠ [] ∧ ats.length ≤ l.length
  | 0, l, ats, r, h => by cases h
  | k + 1, l, ats, r, h => by
    unfold lks at h
    split at h
    · cases h
    · cases h
    · rename_i n c r' hf
      have h1 := fig_len hf
      simp only [List.length_cons] at h1
      split at h
      · cases h
      · split at h
        · obtain ⟨⟨ats', r2⟩, h2, h3⟩ := Option.map_eq_some_iff.1 h
          injection h3 with h4 h5
          subst h4 h5
          have := lks_len k r' ats' r2 h2
          simp only [List.length_cons]
          exact ⟨by omega, by simp, by omega⟩
        · split at h
          · injection h with h
            injection h with h4 h5
            subst h4 h5
            exact ⟨by omega, by simp, by simp; omega⟩
          · cases h
theorem chk_len {us : List Atm} {ys : List Sym} : ∀ (k : Nat) (f : Atm → Int) (l r : List UInt8), chk us ys k f l = some r → r.length < l.length
  | 0, f, l, r, h => by cases h
  | k + 1, f, l, r, h => by
    unfold chk at h
    split at h
    · cases h
    · rename_i c l'
      simp only [List.length_cons]
      split at h
      · split at h
        · injection h with h; subst h; omega
        · cases h
      · split at h
        · split at h
          · rename_i ats r' hl
            have := (lks_len _ _ _ _ hl).1
            split at h
            · injection h with h; subst h; omega
            · cases h
          · cases h
        · split at h
          · split at h
            · cases h
            · cases h
            · rename_i n d r1 hf
              have h1 := fig_len hf
              simp only [List.length_cons] at h1
              split at h
              · split at h
                · cases h
                · rename_i r2 h2
                  have a1 := chk_len k _ _ _ h2
                  have a2 := chk_len k _ _ _ h
                  omega
              · cases h
          · cases h
end Go.Proofs.YtkinoehmcfhgbaaGreatDoor.Vl
set_option linter.unusedVariables false
set_option linter.unusedSimpArgs false
namespace Go.Proofs.YtkinoehmcfhgbaaGreatDoor.Vl
open Go.RowKit

/-- Symbols of which m conditions are to come. -/
def WF : Int → List Sym → Prop
  | m, [] => m = 0
  | m, y :: r => 0 < m ∧ 0 ≤ y.1 ∧ y.1 ≤ 6 ∧ WF (m + prt y.1 - 1) r
/-- A part of a goal: its kind, its second part's place, its atom's number, what is wanted. -/
abbrev Pt := Int × Int × Int × Int
def kof (k w : Int) : Int :=
  if k = 6 then 4 else if k = 0 then (if w = 1 then 0 else 1) else if k = 1 then (if w = 1 then 1 else 0) else if k = 3 then (if w = 1 then 2 else 3) else (if w = 1 then 3 else 2)
/-- The goal: where a condition is of this truth. -/
def gad (us : List Atm) : Nat → List Sym → Int → Nat → List Pt × List Sym
  | 0, l, _, _ => ([], l)
  | _ + 1, [], _, _ => ([], [])
  | k + 1, y :: r, w, p =>
    if y.1 = 2 then gad us k r (tnot w) p
    else if y.1 = 6 then ([(4, 0, nmb us y.2 0, w)], r)
    else if y.1 = 3 ∨ y.1 = 4 ∨ y.1 = 5 then
      ((kof y.1 w, ((p + 1 + (gad us k r (if y.1 = 5 then tnot w else w) (p + 1)).1.length : Nat) : Int), 0, 0) :: ((gad us k r (if y.1 = 5 then tnot w else w) (p + 1)).1 ++ (gad us k (gad us k r (if y.1 = 5 then tnot w else w) (p + 1)).2 w (p + 1 + (gad us k r (if y.1 = 5 then tnot w else w) (p + 1)).1.length)).1),
       (gad us k (gad us k r (if y.1 = 5 then tnot w else w) (p + 1)).2 w (p + 1 + (gad us k r (if y.1 = 5 then tnot w else w) (p + 1)).1.length)).2)
    else ([(kof y.1 w, 0, 0, 0)], r)
/-- What is known of a part, by what is known of the parts behind it, and of the atoms. -/
def gvl (ats : List Int) (p : Nat) (later : List Int) (x : Pt) : Int :=
  if x.1 = 0 then 1 else if x.1 = 1 then 2 else if x.1 = 2 then tboth (later.headD 0) (later.getD (x.2.1.toNat - (p + 1)) 0) else if x.1 = 3 then teith (later.headD 0) (later.getD (x.2.1.toNat - (p + 1)) 0)
  else if x.2.2.2 = 2 then tnot (ats.getD x.2.2.1.toNat 0) else ats.getD x.2.2.1.toNat 0
def gtr (ats : List Int) : Nat → List Pt → List Int
  | _, [] => []
  | p, x :: r => gvl ats p (gtr ats (p + 1) r) x :: gtr ats (p + 1) r
theorem gtr_len (ats : List Int) : ∀ (g : List Pt) (p : Nat), (gtr ats p g).length = g.length
  | [], p => rfl
  | x :: r, p => by simp [gtr, gtr_len ats r (p + 1)]
def twd (w t : Int) : Int := if w = 1 then t else tnot t
theorem tnot_tnot {t : Int} (h : T3 t) : tnot (tnot t) = t := by rcases h with rfl | rfl | rfl <;> rfl
theorem teith_not {t u : Int} (h : T3 t) (k : T3 u) : teith (tnot t) (tnot u) = tnot (tboth t u) := by rcases h with rfl | rfl | rfl <;> rcases k with rfl | rfl | rfl <;> rfl
theorem tboth_not {t u : Int} (h : T3 t) (k : T3 u) : tboth (tnot t) (tnot u) = tnot (teith t u) := by rcases h with rfl | rfl | rfl <;> rcases k with rfl | rfl | rfl <;> rfl
theorem twd_not {w t : Int} (hw : w = 1 ∨ w = 2) (ht : T3 t) : twd (tnot w) t = twd w (tnot t) := by
  rcases hw with rfl | rfl
  · rfl
  · show t = tnot (tnot t); rw [tnot_tnot ht]
/-- What the goal comes to is what the condition comes to (or its opposite); what stands behind it is left as it was. -/
theorem gad_is (us : List Atm) (f : Atm → Int) (hf : ∀ a, T3 (f a)) (ats : List Int) (hat : ∀ a ∈ us, ats.getD (nmb us a 0).toNat 0 = f a) :
    ∀ (k : Nat) (l : List Sym) (w : Int) (p : Nat) (m : Int), w = 1 ∨ w = 2 → WF m l → 0 < m → l.length ≤ k → (∀ y ∈ l, y.1 = 6 → y.2 ∈ us) →
      WF (m - 1) (gad us k l w p).2 ∧ (gad us k l w p).2.length < l.length ∧ (∀ y ∈ (gad us k l w p).2, y ∈ l) ∧ (gad us k l w p).1 ≠ [] ∧
      ∃ t, T3 t ∧ (∀ st : List Int, l.foldr (tst f) st = t :: (gad us k l w p).2.foldr (tst f) st) ∧
        ∀ tail : List Pt, ∃ mid, gtr ats p ((gad us k l w p).1 ++ tail) = twd w t :: (mid ++ gtr ats (p + (gad us k l w p).1.length) tail) ∧ mid.length + 1 = (gad us k l w p).1.length
  | 0, l, w, p, m, hw, hwf, hm, hl, hu => by
    cases l with
    | nil => have : m = 0 := hwf; omega
    | cons y r => simp at hl
  | k + 1, [], w, p, m, hw, hwf, hm, hl, hu => by have : m = 0 := hwf; omega
  | k + 1, y :: r, w, p, m, hw, hwf, hm, hl, hu => by
    obtain ⟨_, h0, h6, hr⟩ := hwf
    have hw2 : tnot w = 1 ∨ tnot w = 2 := by rcases hw with rfl | rfl; exact Or.inr rfl; exact Or.inl rfl
    have hlr : r.length ≤ k := by simp only [List.length_cons] at hl; omega
    have hur : ∀ y ∈ r, y.1 = 6 → y.2 ∈ us := fun z hz => hu z (List.mem_cons_of_mem _ hz)
    by_cases e2 : y.1 = 2
    · have e : gad us (k + 1) (y :: r) w p = gad us k r (tnot w) p := by simp only [gad, if_pos e2]
      have hp : prt y.1 = 1 := by rw [e2]; rfl
      rw [hp] at hr
      obtain ⟨i1, i2, i3, i4, t, i5, i6, i7⟩ := gad_is us f hf ats hat k r (tnot w) p m hw2 (by rw [show m = m + 1 - 1 by omega]; exact hr) hm hlr hur
      rw [e]
      refine ⟨i1, by simp only [List.length_cons]; omega, fun z hz => List.mem_cons_of_mem _ (i3 z hz), i4, tnot t, t3_not t, fun st => ?_, fun tail => ?_⟩
      · rw [List.foldr_cons, i6 st]
        simp only [tst, tval, e2, hp]
        rfl
      · obtain ⟨mid, j1, j2⟩ := i7 tail
        exact ⟨mid, by rw [j1, twd_not hw i5], j2⟩
    · by_cases e6 : y.1 = 6
      · have e : gad us (k + 1) (y :: r) w p = ([(4, 0, nmb us y.2 0, w)], r) := by simp only [gad, if_neg e2, if_pos e6]
        have hp : prt y.1 = 0 := by rw [e6]; rfl
        rw [hp] at hr
        rw [e]
        refine ⟨by rw [show m - 1 = m + 0 - 1 by omega]; exact hr, by simp, fun z hz => List.mem_cons_of_mem _ hz, by simp, f y.2, hf y.2, fun st => ?_, fun tail => ⟨[], ?_, rfl⟩⟩
        · rw [List.foldr_cons]
          simp only [tst, tval, e6, hp]
          rfl
        · have ha := hat y.2 (hu y List.mem_cons_self e6)
          show gvl ats p _ (4, 0, nmb us y.2 0, w) :: _ = _
          simp only [List.nil_append, List.cons_append, List.length_cons, List.length_nil, Nat.zero_add]
          congr 1
          show (if w = 2 then tnot (ats.getD (nmb us y.2 0).toNat 0) else ats.getD (nmb us y.2 0).toNat 0) = twd w (f y.2)
          rw [ha]
          rcases hw with rfl | rfl <;> rfl
      · by_cases e3 : y.1 = 3 ∨ y.1 = 4 ∨ y.1 = 5
        · have hp : prt y.1 = 2 := by rcases e3 with h | h | h <;> (rw [h]; rfl)
          rw [hp] at hr
          have hwf1 : (if y.1 = 5 then tnot w else w) = 1 ∨ (if y.1 = 5 then tnot w else w) = 2 := by split; exact hw2; exact hw
          obtain ⟨i1, i2, i3, i4, t, i5, i6, i7⟩ := gad_is us f hf ats hat k r (if y.1 = 5 then tnot w else w) (p + 1) (m + 1) hwf1 (by rw [show m + 1 = m + 2 - 1 by omega]; exact hr) (by omega) hlr hur
          have e : gad us (k + 1) (y :: r) w p = ((kof y.1 w, ((p + 1 + (gad us k r (if y.1 = 5 then tnot w else w) (p + 1)).1.length : Nat) : Int), 0, 0) :: ((gad us k r (if y.1 = 5 then tnot w else w) (p + 1)).1 ++ (gad us k (gad us k r (if y.1 = 5 then tnot w else w) (p + 1)).2 w (p + 1 + (gad us k r (if y.1 = 5 then tnot w else w) (p + 1)).1.length)).1),
       (gad us k (gad us k r (if y.1 = 5 then tnot w else w) (p + 1)).2 w (p + 1 + (gad us k r (if y.1 = 5 then tnot w else w) (p + 1)).1.length)).2) := by simp only [gad, if_neg e2, if_neg e6, if_pos e3]
          rw [e]
          generalize gad us k r (if y.1 = 5 then tnot w else w) (p + 1) = G1 at *
          obtain ⟨j1, j2, j3, j4, u, j5, j6, j7⟩ := gad_is us f hf ats hat k G1.2 w (p + 1 + G1.1.length) m hw (by rw [show m = m + 1 - 1 by omega]; exact i1) hm (by omega) (fun z hz => hur z (i3 z hz))
          generalize gad us k G1.2 w (p + 1 + G1.1.length) = G2 at *
          dsimp only
          refine ⟨j1, by simp only [List.length_cons]; omega, fun z hz => List.mem_cons_of_mem _ (i3 z (j3 z hz)), by simp, (if y.1 = 3 then tboth t u else if y.1 = 4 then teith t u else teith (tnot t) u), ?_, fun st => ?_, fun tail => ?_⟩
          · split
            · exact t3_both _ _
            · split <;> exact t3_not _
          · rw [List.foldr_cons, i6 st, j6 st]
            rcases e3 with h | h | h <;> (simp only [tst, tval, h, hp]; rfl)
          · obtain ⟨mid2, b1, b2⟩ := j7 tail
            obtain ⟨mid1, a1, a2⟩ := i7 (G2.1 ++ tail)
            rw [b1] at a1
            refine ⟨twd (if y.1 = 5 then tnot w else w) t :: (mid1 ++ (twd w u :: mid2)), ?_, by simp only [List.length_cons, List.length_append]; omega⟩
            rw [List.cons_append, List.append_assoc]
            simp only [gtr]
            rw [a1]
            have hsec : (twd (if y.1 = 5 then tnot w else w) t :: (mid1 ++ twd w u :: (mid2 ++ gtr ats (p + 1 + G1.1.length + G2.1.length) tail))).getD (((p + 1 + G1.1.length : Nat) : Int).toNat - (p + 1)) 0 = twd w u := by
              rw [show ((p + 1 + G1.1.length : Nat) : Int).toNat - (p + 1) = mid1.length + 1 by omega]
              simp
            have elen : p + ((kof y.1 w, ((p + 1 + G1.1.length : Nat) : Int), 0, 0) :: (G1.1 ++ G2.1) : List Pt).length = p + 1 + G1.1.length + G2.1.length := by simp only [List.length_cons, List.length_append]; omega
            rw [elen]
            congr 1
            · unfold gvl
              dsimp only
              rw [hsec, List.headD_cons]
              rcases e3 with h | h | h <;> rcases hw with rfl | rfl <;> simp only [h, kof, twd]
              all_goals first | rfl | skip
              · show teith (tnot t) (tnot u) = tnot (tboth t u); exact teith_not i5 j5
              · show tboth (tnot t) (tnot u) = tnot (teith t u); exact tboth_not i5 j5
              · show tboth t (tnot u) = tnot (teith (tnot t) u)
                have := tboth_not (t3_not t) j5
                rw [tnot_tnot i5] at this
                exact this
            · simp
        · have hq : y.1 = 0 ∨ y.1 = 1 := by omega
          have hp : prt y.1 = 0 := by rcases hq with h | h <;> (rw [h]; rfl)
          have e : gad us (k + 1) (y :: r) w p = ([(kof y.1 w, 0, 0, 0)], r) := by simp only [gad, if_neg e2, if_neg e6, if_neg e3]
          rw [hp] at hr
          rw [e]
          refine ⟨by rw [show m - 1 = m + 0 - 1 by omega]; exact hr, by simp, fun z hz => List.mem_cons_of_mem _ hz, by simp, (if y.1 = 0 then 1 else 2), by split; exact Or.inr (Or.inl rfl); exact Or.inr (Or.inr rfl), fun st => ?_, fun tail => ⟨[], ?_, rfl⟩⟩
          · rw [List.foldr_cons]
            rcases hq with h | h <;> (simp only [tst, tval, h, hp]; rfl)
          · show gvl ats p _ (kof y.1 w, 0, 0, 0) :: _ = _
            simp only [List.nil_append, List.cons_append, List.length_cons, List.length_nil, Nat.zero_add]
            congr 1
            rcases hq with h | h <;> rcases hw with rfl | rfl <;> simp only [h] <;> rfl
end Go.Proofs.YtkinoehmcfhgbaaGreatDoor.Vl
