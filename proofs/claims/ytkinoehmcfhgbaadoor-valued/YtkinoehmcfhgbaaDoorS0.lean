/-
  What is known of a condition by what is known of its atoms, as the program reckons it, is what the document says: plain words alone.
-/
import Derived.Test.YtkinoehmcfhgbaaDoorV18
set_option linter.unusedVariables false
set_option linter.unusedSimpArgs false
namespace Go.Proofs.YtkinoehmcfhgbaaDoor.Vl
open Go.RowKit

/-- Truths: 0 open, 1 holds, 2 fails. -/
def tnot (t : Int) : Int := if t = 1 then 2 else if t = 2 then 1 else 0
def tboth (t u : Int) : Int := if t = 2 ∨ u = 2 then 2 else if t = 1 ∧ u = 1 then 1 else 0
def teith (t u : Int) : Int := tnot (tboth (tnot t) (tnot u))
def tof (b : Bool) : Int := if b then 1 else 2
/-- A truth is one of three. -/
def T3 (t : Int) : Prop := t = 0 ∨ t = 1 ∨ t = 2
theorem t3_not (t : Int) : T3 (tnot t) := by unfold T3 tnot; split; · omega
                                             · split <;> omega
theorem t3_both (t u : Int) : T3 (tboth t u) := by unfold T3 tboth; split; · omega
                                                   · split <;> omega
theorem t3_of (b : Bool) : T3 (tof b) := by cases b <;> simp [T3, tof]
/-- What is known of a symbol by what is known of its parts: the first part's (on top), the second's. -/
def tval (kn : Atm → Int) (y : Sym) (t u : Int) : Int :=
  if y.1 = 0 then 1 else if y.1 = 2 then tnot t else if y.1 = 3 then tboth t u else if y.1 = 4 then teith t u else if y.1 = 5 then teith (tnot t) u else if y.1 = 6 then kn y.2 else 2
def tst (kn : Atm → Int) (y : Sym) (st : List Int) : List Int := tval kn y (st.headD 0) (st.tail.headD 0) :: st.drop (prt y.1).toNat
def trun (kn : Atm → Int) (ys : List Sym) : List Int := ys.foldr (tst kn) []
theorem trun_cons (kn : Atm → Int) (y : Sym) (r : List Sym) : trun kn (y :: r) = tst kn y (trun kn r) := rfl
theorem tval_t3 {kn : Atm → Int} (hk : ∀ a, T3 (kn a)) (y : Sym) (t u : Int) : T3 (tval kn y t u) := by
  unfold tval
  split; · right; left; rfl
  split; · exact t3_not _
  split; · exact t3_both _ _
  split; · exact t3_not _
  split; · exact t3_not _
  split; · exact hk _
  right; right; rfl
theorem trun_t3 {kn : Atm → Int} (hk : ∀ a, T3 (kn a)) : ∀ (ys : List Sym), ∀ x ∈ trun kn ys, T3 x
  | [], x, h => by cases h
  | y :: r, x, h => by
    rw [trun_cons] at h; unfold tst at h
    rcases List.mem_cons.1 h with rfl | h
    · exact tval_t3 hk _ _ _
    · exact trun_t3 hk r x (List.mem_of_mem_drop h)
theorem trun_le (kn : Atm → Int) : ∀ ys : List Sym, (trun kn ys).length ≤ ys.length
  | [] => Nat.le_refl _
  | y :: r => by
    have h2 := trun_le kn r
    rw [trun_cons, List.length_cons]; unfold tst; simp; omega
theorem trun_len {s : ByteArray} (kn : Atm → Int) : ∀ (ys : List Sym) (k : Nat) (m : Int) (ps : List Nat), Pos s k m ys ps → 0 ≤ m → ((trun kn ys).length : Int) = m
  | [], k, m, ps, h, _ => by obtain ⟨_, _, rfl⟩ := h; rfl
  | y :: r, k, m, ps, h, hm => by
    obtain ⟨j, ps', rfl, hk, hm0, hs, hp⟩ := h
    have hpr := prt_range y.1
    have ih := trun_len kn r (k + j) _ ps' hp (by omega)
    rw [trun_cons]; unfold tst
    rw [List.length_cons, List.length_drop]; omega
theorem tpos_at {s : ByteArray} (kn : Atm → Int) : ∀ (ys : List Sym) (k : Nat) (m : Int) (ps : List Nat), Pos s k m ys ps → 0 ≤ m → ∀ n, n < ys.length →
    ∃ y, ys[n]? = some y ∧ 0 ≤ y.1 ∧ y.1 ≤ 6 ∧ (y.1 = 6 → okA y.2) ∧ prt y.1 ≤ (trun kn (ys.drop (n + 1))).length
  | [], k, m, ps, h, _ => by intro n hn; simp at hn
  | y :: r, k, m, ps, h, hm => by
    have hok := pos_ok (y :: r) k m ps h
    obtain ⟨j, ps', rfl, hk, hm0, hs, hp⟩ := h
    have hpr := prt_range y.1
    intro n hn
    cases n with
    | zero =>
      have := trun_len kn r (k + j) _ ps' hp (by omega)
      have hr := kind_range hk hs
      exact ⟨y, rfl, hr.1, hr.2, hok y (by simp), by simp only [Nat.zero_add, List.drop_succ_cons, List.drop_zero]; omega⟩
    | succ n =>
      obtain ⟨z, h1, h2, h3, h4, h5⟩ := tpos_at kn r (k + j) _ ps' hp (by omega) n (by simpa using hn)
      exact ⟨z, by simpa using h1, h2, h3, h4, by simpa using h5⟩
/-- The document's number of a truth: 2 open, 1 holds, 0 fails. -/
def dt (t : Int) : Int := if t = 0 then 2 else if t = 1 then 1 else 0
theorem dt_not (t : Int) (h : T3 t) : (if dt t < 2 then 1 - dt t else dt t) = dt (tnot t) := by rcases h with rfl | rfl | rfl <;> rfl
theorem dt_and (t u : Int) (h : T3 t) (k : T3 u) : tbl 38 (dt t) (dt u) = dt (tboth t u) := by rcases h with rfl | rfl | rfl <;> rcases k with rfl | rfl | rfl <;> rfl
theorem dt_or (t u : Int) (h : T3 t) (k : T3 u) : tbl 124 (dt t) (dt u) = dt (teith t u) := by rcases h with rfl | rfl | rfl <;> rcases k with rfl | rfl | rfl <;> rfl
theorem dt_imp (t u : Int) (h : T3 t) (k : T3 u) : tbl 62 (dt t) (dt u) = dt (teith (tnot t) u) := by rcases h with rfl | rfl | rfl <;> rcases k with rfl | rfl | rfl <;> rfl
theorem wst_tst (kn : Atm → Int) (ls : List Atm) (bs : List Int) (y : Sym) (st : List Int) (h3 : ∀ x ∈ st, T3 x) (h0 : 0 ≤ y.1) (h6 : y.1 ≤ 6) (hd : prt y.1 ≤ st.length)
    (ha : y.1 = 6 → bs.getD (nmb ls y.2 0).toNat 0 = dt (kn y.2)) : wst ls bs y (st.map dt) = (tst kn y st).map dt := by
  obtain ⟨q, a⟩ := y
  dsimp only at *
  have hq : q = 0 ∨ q = 1 ∨ q = 6 ∨ q = 2 ∨ q = 3 ∨ q = 4 ∨ q = 5 := by omega
  rcases hq with rfl | rfl | rfl | rfl | rfl | rfl | rfl
  · rfl
  · rfl
  · show bs.getD (nmb ls a 0).toNat 0 :: st.map dt = dt (kn a) :: st.map dt
    rw [ha rfl]
  · match st, hd, h3 with
    | [], h, _ => exact absurd h (by decide)
    | x :: r, _, h3 =>
      show (if dt x < 2 then 1 - dt x else dt x) :: r.map dt = dt (tnot x) :: r.map dt
      rw [dt_not x (h3 x (by simp))]
  · match st, hd, h3 with
    | [], h, _ => exact absurd h (by decide)
    | [x], h, _ => simp [prt] at h
    | x :: z :: r, _, h3 =>
      show tbl 38 (dt x) (dt z) :: r.map dt = dt (tboth x z) :: r.map dt
      rw [dt_and x z (h3 x (by simp)) (h3 z (by simp))]
  · match st, hd, h3 with
    | [], h, _ => exact absurd h (by decide)
    | [x], h, _ => simp [prt] at h
    | x :: z :: r, _, h3 =>
      show tbl 124 (dt x) (dt z) :: r.map dt = dt (teith x z) :: r.map dt
      rw [dt_or x z (h3 x (by simp)) (h3 z (by simp))]
  · match st, hd, h3 with
    | [], h, _ => exact absurd h (by decide)
    | [x], h, _ => simp [prt] at h
    | x :: z :: r, _, h3 =>
      show tbl 62 (dt x) (dt z) :: r.map dt = dt (teith (tnot x) z) :: r.map dt
      rw [dt_imp x z (h3 x (by simp)) (h3 z (by simp))]
theorem wrun_trun {s : ByteArray} {kn : Atm → Int} (hk3 : ∀ a, T3 (kn a)) (ls : List Atm) (bs : List Int) : ∀ (ys : List Sym) (k : Nat) (m : Int) (ps : List Nat), Pos s k m ys ps → 0 ≤ m →
    (∀ y ∈ ys, y.1 = 6 → bs.getD (nmb ls y.2 0).toNat 0 = dt (kn y.2)) → wrun ls bs ys = (trun kn ys).map dt
  | [], k, m, ps, h, _, _ => rfl
  | y :: r, k, m, ps, h, hm, ha => by
    obtain ⟨j, ps', rfl, hk, hm0, hs, hp⟩ := h
    have hpr := prt_range y.1
    have hr := kind_range hk hs
    have hl := trun_len kn r (k + j) _ ps' hp (by omega)
    rw [wrun_cons, trun_cons, wrun_trun hk3 ls bs r (k + j) _ ps' hp (by omega) (fun z hz => ha z (by simp [hz]))]
    exact wst_tst kn ls bs y _ (trun_t3 hk3 r) hr.1 hr.2 (by omega) (ha y (by simp))
/-- Of a condition: what the program comes to is what the document comes to, by a list of what is known. -/
theorem worth_trun {s : ByteArray} {ys : List Sym} {kn : Atm → Int} (hk3 : ∀ a, T3 (kn a)) (h : pars s = some ys) (bs : List Int) (hb : ∀ a ∈ uqs ys, bs.getD (nmb (uqs ys) a 0).toNat 0 = dt (kn a)) :
    ∃ t, T3 t ∧ trun kn ys = [t] ∧ wrun (uqs ys) bs ys = [dt t] := by
  obtain ⟨hs, hp, _, _⟩ := pars_facts h
  obtain ⟨ps, hps⟩ := pos_of s ys 0 1 (Nat.zero_le _) hp
  have hl := trun_len kn ys 0 1 ps hps (by omega)
  have hw := wrun_trun hk3 (uqs ys) bs ys 0 1 ps hps (by omega) (fun y hy h6 => hb y.2 ((foldA_sub ys []).2 y hy h6))
  have ht := trun_t3 hk3 ys
  match hb : trun kn ys, hl, ht with
  | [], h, _ => simp at h
  | [t], _, ht => exact ⟨t, ht t (by simp), rfl, by rw [hw, hb]; rfl⟩
  | x :: z :: r, h, _ => simp at h; omega
theorem val_trun {s : ByteArray} {ys : List Sym} (x1 x2 x3 x4 : Int) (h : pars s = some ys) : ∃ t, T3 t ∧ trun (fun a => tof (hld x1 x2 x3 x4 a)) ys = [t] ∧ val x1 x2 x3 x4 ys = (t == 1) := by
  obtain ⟨t, h1, h2, h3⟩ := worth_trun (kn := fun a => tof (hld x1 x2 x3 x4 a)) (fun a => t3_of _) h (bys x1 x2 x3 x4 (uqs ys)) (fun a ha => by
    have hg := nmb_get (uqs ys) a 0 ha
    rw [Int.sub_zero] at hg
    unfold bys
    rw [List.getD_eq_getElem?_getD, List.getElem?_map, hg]
    show bi (hld x1 x2 x3 x4 a) = dt (tof (hld x1 x2 x3 x4 a))
    cases hld x1 x2 x3 x4 a <;> rfl)
  refine ⟨t, h1, h2, ?_⟩
  unfold val
  rw [h3]
  rcases h1 with rfl | rfl | rfl <;> rfl
end Go.Proofs.YtkinoehmcfhgbaaDoor.Vl
