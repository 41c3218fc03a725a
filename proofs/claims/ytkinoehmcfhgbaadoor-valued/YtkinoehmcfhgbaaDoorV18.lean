/-
  What a condition comes to at a state, as the program reckons it, is what the document says: plain words alone.
-/
import Derived.Test.YtkinoehmcfhgbaaDoorV8
set_option linter.unusedVariables false
set_option linter.unusedSimpArgs false
namespace Go.Proofs.YtkinoehmcfhgbaaDoor.Vl
open Go.RowKit

/-- The value of a symbol by those of its parts: the first part's (on top), the second's. -/
def bval (x1 x2 x3 x4 : Int) (y : Sym) (t u : Bool) : Bool :=
  if y.1 = 0 then true else if y.1 = 2 then !t else if y.1 = 3 then t && u else if y.1 = 4 then t || u else if y.1 = 5 then !t || u else if y.1 = 6 then hld x1 x2 x3 x4 y.2 else false
/-- One symbol: its parts' values lie on the stack (the first part's on top). -/
def bst (x1 x2 x3 x4 : Int) (y : Sym) (st : List Bool) : List Bool := bval x1 x2 x3 x4 y (st.headD false) (st.tail.headD false) :: st.drop (prt y.1).toNat
def brun (x1 x2 x3 x4 : Int) (ys : List Sym) : List Bool := ys.foldr (bst x1 x2 x3 x4) []
theorem brun_cons (x1 x2 x3 x4 : Int) (y : Sym) (r : List Sym) : brun x1 x2 x3 x4 (y :: r) = bst x1 x2 x3 x4 y (brun x1 x2 x3 x4 r) := rfl
theorem brun_le (x1 x2 x3 x4 : Int) : ∀ ys : List Sym, (brun x1 x2 x3 x4 ys).length ≤ ys.length
  | [] => Nat.le_refl _
  | y :: r => by
    have h2 := brun_le x1 x2 x3 x4 r
    rw [brun_cons, List.length_cons]; unfold bst; simp; omega
theorem brun_len {s : ByteArray} (x1 x2 x3 x4 : Int) : ∀ (ys : List Sym) (k : Nat) (m : Int) (ps : List Nat), Pos s k m ys ps → 0 ≤ m → ((brun x1 x2 x3 x4 ys).length : Int) = m
  | [], k, m, ps, h, _ => by obtain ⟨_, _, rfl⟩ := h; rfl
  | y :: r, k, m, ps, h, hm => by
    obtain ⟨j, ps', rfl, hk, hm0, hs, hp⟩ := h
    have hpr := prt_range y.1
    have ih := brun_len x1 x2 x3 x4 r (k + j) _ ps' hp (by omega)
    rw [brun_cons]; unfold bst
    rw [List.length_cons, List.length_drop]; omega
theorem bpos_at {s : ByteArray} (x1 x2 x3 x4 : Int) : ∀ (ys : List Sym) (k : Nat) (m : Int) (ps : List Nat), Pos s k m ys ps → 0 ≤ m → ∀ n, n < ys.length →
    ∃ y, ys[n]? = some y ∧ 0 ≤ y.1 ∧ y.1 ≤ 6 ∧ (y.1 = 6 → okA y.2) ∧ prt y.1 ≤ (brun x1 x2 x3 x4 (ys.drop (n + 1))).length
  | [], k, m, ps, h, _ => by intro n hn; simp at hn
  | y :: r, k, m, ps, h, hm => by
    have hok := pos_ok (y :: r) k m ps h
    obtain ⟨j, ps', rfl, hk, hm0, hs, hp⟩ := h
    have hpr := prt_range y.1
    intro n hn
    cases n with
    | zero =>
      have := brun_len x1 x2 x3 x4 r (k + j) _ ps' hp (by omega)
      have hr := kind_range hk hs
      exact ⟨y, rfl, hr.1, hr.2, hok y (by simp), by simp only [Nat.zero_add, List.drop_succ_cons, List.drop_zero]; omega⟩
    | succ n =>
      obtain ⟨z, h1, h2, h3, h4, h5⟩ := bpos_at x1 x2 x3 x4 r (k + j) _ ps' hp (by omega) n (by simpa using hn)
      exact ⟨z, by simpa using h1, h2, h3, h4, by simpa using h5⟩
theorem bi_tbl_and (a b : Bool) : tbl 38 (bi a) (bi b) = bi (a && b) := by cases a <;> cases b <;> rfl
theorem bi_tbl_or (a b : Bool) : tbl 124 (bi a) (bi b) = bi (a || b) := by cases a <;> cases b <;> rfl
theorem bi_tbl_imp (a b : Bool) : tbl 62 (bi a) (bi b) = bi (!a || b) := by cases a <;> cases b <;> rfl
theorem bi_not (a : Bool) : (if bi a < 2 then 1 - bi a else bi a) = bi (!a) := by cases a <;> rfl
theorem wst_bst (x1 x2 x3 x4 : Int) (ls : List Atm) (bs : List Int) (y : Sym) (st : List Bool) (h0 : 0 ≤ y.1) (h6 : y.1 ≤ 6) (hd : prt y.1 ≤ st.length)
    (ha : y.1 = 6 → bs.getD (nmb ls y.2 0).toNat 0 = bi (hld x1 x2 x3 x4 y.2)) : wst ls bs y (st.map bi) = (bst x1 x2 x3 x4 y st).map bi := by
  obtain ⟨q, a⟩ := y
  dsimp only at *
  have hq : q = 0 ∨ q = 1 ∨ q = 6 ∨ q = 2 ∨ q = 3 ∨ q = 4 ∨ q = 5 := by omega
  rcases hq with rfl | rfl | rfl | rfl | rfl | rfl | rfl
  · rfl
  · rfl
  · show bs.getD (nmb ls a 0).toNat 0 :: st.map bi = bi (hld x1 x2 x3 x4 a) :: st.map bi
    rw [ha rfl]
  · match st, hd with
    | [], h => exact absurd h (by decide)
    | x :: r, _ =>
      show (if bi x < 2 then 1 - bi x else bi x) :: r.map bi = bi (!x) :: r.map bi
      rw [bi_not]
  · match st, hd with
    | [], h => exact absurd h (by decide)
    | [x], h => simp [prt] at h
    | x :: z :: r, _ =>
      show tbl 38 (bi x) (bi z) :: r.map bi = bi (x && z) :: r.map bi
      rw [bi_tbl_and]
  · match st, hd with
    | [], h => exact absurd h (by decide)
    | [x], h => simp [prt] at h
    | x :: z :: r, _ =>
      show tbl 124 (bi x) (bi z) :: r.map bi = bi (x || z) :: r.map bi
      rw [bi_tbl_or]
  · match st, hd with
    | [], h => exact absurd h (by decide)
    | [x], h => simp [prt] at h
    | x :: z :: r, _ =>
      show tbl 62 (bi x) (bi z) :: r.map bi = bi (!x || z) :: r.map bi
      rw [bi_tbl_imp]
theorem wrun_brun {s : ByteArray} (x1 x2 x3 x4 : Int) (ls : List Atm) (bs : List Int) : ∀ (ys : List Sym) (k : Nat) (m : Int) (ps : List Nat), Pos s k m ys ps → 0 ≤ m →
    (∀ y ∈ ys, y.1 = 6 → bs.getD (nmb ls y.2 0).toNat 0 = bi (hld x1 x2 x3 x4 y.2)) → wrun ls bs ys = (brun x1 x2 x3 x4 ys).map bi
  | [], k, m, ps, h, _, _ => rfl
  | y :: r, k, m, ps, h, hm, ha => by
    obtain ⟨j, ps', rfl, hk, hm0, hs, hp⟩ := h
    have hpr := prt_range y.1
    have hr := kind_range hk hs
    have hl := brun_len x1 x2 x3 x4 r (k + j) _ ps' hp (by omega)
    rw [wrun_cons, brun_cons, wrun_brun x1 x2 x3 x4 ls bs r (k + j) _ ps' hp (by omega) (fun z hz => ha z (by simp [hz]))]
    exact wst_bst x1 x2 x3 x4 ls bs y _ hr.1 hr.2 (by omega) (ha y (by simp))
theorem nmb_get : ∀ (l : List Atm) (a : Atm) (i : Int), a ∈ l → l[(nmb l a i - i).toNat]? = some a
  | [], a, i, h => by cases h
  | x :: r, a, i, h => by
    simp only [nmb]
    split
    · rename_i e; subst e; simp
    · rename_i e
      have ha : a ∈ r := by
        rcases List.mem_cons.1 h with h | h
        · exact absurd h.symm e
        · exact h
      have ih := nmb_get r a (i + 1) ha
      rcases nmb_mem r a (i + 1) with ⟨_, h2⟩ | ⟨_, h2, h3⟩
      · exact absurd ha h2
      · have e2 : (nmb r a (i + 1) - i).toNat = (nmb r a (i + 1) - (i + 1)).toNat + 1 := by omega
        rw [e2, List.getElem?_cons_succ]; exact ih
theorem val_brun {s : ByteArray} {ys : List Sym} (x1 x2 x3 x4 : Int) (h : pars s = some ys) : ∃ b, brun x1 x2 x3 x4 ys = [b] ∧ val x1 x2 x3 x4 ys = b := by
  obtain ⟨hs, hp, _, _⟩ := pars_facts h
  obtain ⟨ps, hps⟩ := pos_of s ys 0 1 (Nat.zero_le _) hp
  have hl := brun_len x1 x2 x3 x4 ys 0 1 ps hps (by omega)
  have hw := wrun_brun x1 x2 x3 x4 (uqs ys) (bys x1 x2 x3 x4 (uqs ys)) ys 0 1 ps hps (by omega) (fun y hy h6 => by
    have hm : y.2 ∈ uqs ys := (foldA_sub ys []).2 y hy h6
    have hg := nmb_get (uqs ys) y.2 0 hm
    rw [Int.sub_zero] at hg
    unfold bys
    rw [List.getD_eq_getElem?_getD, List.getElem?_map, hg]; rfl)
  match hb : brun x1 x2 x3 x4 ys, hl with
  | [], h => simp at h
  | [b], _ =>
    refine ⟨b, rfl, ?_⟩
    unfold val
    rw [hw, hb]
    cases b <;> rfl
  | x :: z :: r, h => simp at h; omega
end Go.Proofs.YtkinoehmcfhgbaaDoor.Vl
