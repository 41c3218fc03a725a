/-
  What a condition comes to by the values of its atoms: plain words, and lists of numbers in memory.
-/
import Derived.Test.YtkinoehmcfhgbaaDoorV4
set_option linter.unusedVariables false
set_option linter.unusedSimpArgs false
namespace Go.Proofs.YtkinoehmcfhgbaaDoor.Vl
open Go.RowKit

def sgk (q : Int) : Int := if q == 3 then 38 else if q == 4 then 124 else 62
/-- One symbol: its parts' values lie on the stack (the first part's on top). -/
def wst (ls : List Atm) (bs : List Int) (y : Sym) (st : List Int) : List Int :=
  if y.1 = 0 then 1 :: st else if y.1 = 1 then 0 :: st else if y.1 = 6 then bs.getD (nmb ls y.2 0).toNat 0 :: st
  else if y.1 = 2 then (match st with | x :: r => (if x < 2 then 1 - x else x) :: r | [] => [])
  else match st with | x :: z :: r => tbl (sgk y.1) x z :: r | _ => []
def wrun (ls : List Atm) (bs : List Int) (ys : List Sym) : List Int := ys.foldr (wst ls bs) []
theorem wrun_cons (ls : List Atm) (bs : List Int) (y : Sym) (r : List Sym) : wrun ls bs (y :: r) = wst ls bs y (wrun ls bs r) := rfl

/-- The symbols of a text from a place on, and where each begins. -/
def Pos (s : ByteArray) : Nat → Int → List Sym → List Nat → Prop
  | k, m, [], ps => ps = [] ∧ k = s.size ∧ m = 0
  | k, m, y :: r, ps => ∃ j ps', ps = k :: ps' ∧ k < s.size ∧ m ≠ 0 ∧ sym (rest s k) = some (y, j) ∧ Pos s (k + j) (m + prt y.1 - 1) r ps'
theorem pos_of (s : ByteArray) : ∀ (ys : List Sym) (k : Nat) (m : Int), k ≤ s.size → prsA m (rest s k) = some ys → ∃ ps, Pos s k m ys ps := by
  intro ys
  induction ys with
  | nil =>
    intro k m hk h
    by_cases hlt : k < s.size
    · exfalso
      rw [rest_cons s k hlt] at h
      by_cases hm : m = 0
      · subst hm; rw [prsA_zero] at h; cases h
      · cases hs : sym (s[k] :: rest s (k + 1)) with
        | none => rw [prsA_none _ _ _ hs] at h; cases h
        | some q =>
          rw [prsA_some m _ _ q.1 q.2 hm hs] at h
          cases hq : prsA (m + prt q.1.1 - 1) ((s[k] :: rest s (k + 1)).drop q.2) <;> rw [hq] at h <;> cases h
    · rw [rest_end s k (by omega), prsA_nil] at h
      split at h
      · exact ⟨[], rfl, by omega, by assumption⟩
      · cases h
  | cons y r ih =>
    intro k m hk h
    by_cases hlt : k < s.size
    · rw [rest_cons s k hlt] at h
      by_cases hm : m = 0
      · subst hm; rw [prsA_zero] at h; cases h
      · cases hs : sym (s[k] :: rest s (k + 1)) with
        | none => rw [prsA_none _ _ _ hs] at h; cases h
        | some q =>
          obtain ⟨z, j⟩ := q
          have hf := sym_facts hs
          rw [prsA_some m _ _ z j hm hs, ← rest_cons s k hlt, rest_drop] at h
          cases hq : prsA (m + prt z.1 - 1) (rest s (k + j)) with
          | none => rw [hq] at h; cases h
          | some r' =>
            rw [hq] at h
            cases h
            have hl : (s[k] :: rest s (k + 1)).length = s.size - k := by rw [← rest_cons s k hlt, rest_len]
            obtain ⟨ps', hps⟩ := ih (k + j) _ (by omega) hq
            exact ⟨k :: ps', j, ps', rfl, hlt, hm, by rw [rest_cons s k hlt]; exact hs, hps⟩
    · rw [rest_end s k (by omega), prsA_nil] at h
      split at h <;> cases h
theorem sym_kind {s : ByteArray} {k : Nat} {y : Sym} {j : Nat} (hk : k < s.size) (h : sym (rest s k) = some (y, j)) :
    (0 ≤ mk (s[k].toNat : Int) ∧ y = (mk (s[k].toNat : Int), 0, 0, 0) ∧ j = 1) ∨ (¬ 0 ≤ mk (s[k].toNat : Int) ∧ ∃ a, y = (6, a) ∧ atm (rest s k) = some (a, j)) := by
  rw [rest_cons s k hk] at h
  simp only [sym] at h
  split at h
  · rename_i hm
    cases h; exact Or.inl ⟨hm, rfl, rfl⟩
  · rename_i hm
    rw [← rest_cons s k hk] at h
    cases ha : atm (rest s k) with
    | none => rw [ha] at h; cases h
    | some q => rw [ha] at h; cases h; exact Or.inr ⟨hm, q.1, rfl, rfl⟩
theorem mk_le (c : Int) : -1 ≤ mk c ∧ mk c ≤ 5 := by
  unfold mk; repeat' split
  all_goals omega
theorem kind_range {s : ByteArray} {k : Nat} {y : Sym} {j : Nat} (hk : k < s.size) (h : sym (rest s k) = some (y, j)) : 0 ≤ y.1 ∧ y.1 ≤ 6 := by
  rcases sym_kind hk h with ⟨h0, rfl, _⟩ | ⟨_, a, rfl, _⟩
  · have := mk_le (s[k].toNat : Int); dsimp only; omega
  · dsimp only; omega
theorem wst_len (ls : List Atm) (bs : List Int) (y : Sym) (st : List Int) (h0 : 0 ≤ y.1) (h6 : y.1 ≤ 6) (h : prt y.1 ≤ st.length) : ((wst ls bs y st).length : Int) = st.length - prt y.1 + 1 := by
  obtain ⟨q, a⟩ := y
  dsimp only at *
  have hq : q = 0 ∨ q = 1 ∨ q = 6 ∨ q = 2 ∨ q = 3 ∨ q = 4 ∨ q = 5 := by omega
  rcases hq with rfl | rfl | rfl | rfl | rfl | rfl | rfl
  · simp [wst, prt]
  · simp [wst, prt]
  · simp [wst, prt]
  · match st, h with
    | [], h => exact absurd h (by decide)
    | x :: r, _ => simp [wst, prt]
  all_goals
    match st, h with
    | [], h => exact absurd h (by decide)
    | [x], h => simp [prt] at h
    | x :: z :: r, _ => simp [wst, prt]; omega
theorem wrun_len {s : ByteArray} (ls : List Atm) (bs : List Int) : ∀ (ys : List Sym) (k : Nat) (m : Int) (ps : List Nat), Pos s k m ys ps → 0 ≤ m → ((wrun ls bs ys).length : Int) = m
  | [], k, m, ps, h, _ => by obtain ⟨_, _, rfl⟩ := h; rfl
  | y :: r, k, m, ps, h, hm => by
    obtain ⟨j, ps', rfl, hk, hm0, hs, hp⟩ := h
    have hr := kind_range hk hs
    have hpr := prt_range y.1
    have ih := wrun_len ls bs r (k + j) _ ps' hp (by omega)
    rw [wrun_cons, wst_len ls bs y _ hr.1 hr.2 (by omega), ih]; omega
theorem pos_at {s : ByteArray} (ls : List Atm) (bs : List Int) : ∀ (ys : List Sym) (k : Nat) (m : Int) (ps : List Nat), Pos s k m ys ps → 0 ≤ m → ps.length = ys.length ∧ ∀ n, n < ys.length →
    ∃ p y j, ps[n]? = some p ∧ ys[n]? = some y ∧ p < s.size ∧ sym (rest s p) = some (y, j) ∧ prt y.1 ≤ (wrun ls bs (ys.drop (n + 1))).length
  | [], k, m, ps, h, _ => by obtain ⟨rfl, _, _⟩ := h; exact ⟨rfl, fun n hn => absurd hn (by simp)⟩
  | y :: r, k, m, ps, h, hm => by
    obtain ⟨j, ps', rfl, hk, hm0, hs, hp⟩ := h
    have hpr := prt_range y.1
    have ih := pos_at ls bs r (k + j) _ ps' hp (by omega)
    refine ⟨by simp [ih.1], fun n hn => ?_⟩
    cases n with
    | zero =>
      have := wrun_len ls bs r (k + j) _ ps' hp (by omega)
      exact ⟨k, y, j, rfl, rfl, hk, hs, by simp only [Nat.zero_add, List.drop_succ_cons, List.drop_zero]; omega⟩
    | succ n =>
      obtain ⟨p, z, i, h1, h2, h3, h4, h5⟩ := ih.2 n (by simpa using hn)
      exact ⟨p, z, i, by simpa using h1, by simpa using h2, h3, h4, by simpa using h5⟩
theorem tbl_range (g x y : Int) : 0 ≤ tbl g x y ∧ tbl g x y ≤ 2 := by
  unfold tbl; repeat' split
  all_goals omega
theorem getD_range {bs : List Int} (h : ∀ x ∈ bs, 0 ≤ x ∧ x ≤ 2) (n : Nat) : 0 ≤ bs.getD n 0 ∧ bs.getD n 0 ≤ 2 := by
  rw [List.getD_eq_getElem?_getD]
  cases hn : bs[n]? with
  | none => simp
  | some x => exact h x (List.mem_of_getElem? hn)
theorem wst_range {ls : List Atm} {bs : List Int} (hb : ∀ x ∈ bs, 0 ≤ x ∧ x ≤ 2) (y : Sym) (st : List Int) (h : ∀ x ∈ st, 0 ≤ x ∧ x ≤ 2) : ∀ x ∈ wst ls bs y st, 0 ≤ x ∧ x ≤ 2 := by
  unfold wst
  split
  · intro x hx; simp at hx; rcases hx with rfl | hx
    · omega
    · exact h x hx
  · split
    · intro x hx; simp at hx; rcases hx with rfl | hx
      · omega
      · exact h x hx
    · split
      · intro x hx
        rcases List.mem_cons.1 hx with rfl | hx
        · exact getD_range hb _
        · exact h x hx
      · split
        · split
          · rename_i x r
            intro z hz
            have hx := h x (by simp)
            rcases List.mem_cons.1 hz with rfl | hz
            · split <;> omega
            · exact h z (by simp [hz])
          · intro x hx; cases hx
        · split
          · intro z hz
            rcases List.mem_cons.1 hz with rfl | hz
            · exact tbl_range _ _ _
            · exact h z (by simp [hz])
          · intro x hx; cases hx
theorem wrun_range {ls : List Atm} {bs : List Int} (hb : ∀ x ∈ bs, 0 ≤ x ∧ x ≤ 2) : ∀ ys : List Sym, ∀ x ∈ wrun ls bs ys, 0 ≤ x ∧ x ≤ 2
  | [] => by intro x hx; cases hx
  | y :: r => by rw [wrun_cons]; exact wst_range hb y _ (wrun_range hb r)

/- Lists of numbers in memory. -/
def iv (x : Int) : Value := .int .i64 x
def IntsR (w : World) (v : Value) (bs : List Int) : Prop :=
  (v = .slice none 0 0 ∧ bs = []) ∨ ∃ b cap, v = .slice (some ⟨b, 0, none⟩) bs.length cap ∧ bs.length ≤ cap ∧ cap ≤ maxLen ∧ b < w.heap.size ∧ ∀ j x, bs[j]? = some x → w.cell? ⟨b, j, none⟩ = some (iv x)
theorem IntsR.below {w w' : World} {v : Value} {ls : List Int} (h : IntsR w v ls) (hb : Below w.heap.size w w') : IntsR w' v ls := by
  rcases h with h | ⟨b, cap, h1, h2, h3, h4, h5⟩
  · exact Or.inl h
  · exact Or.inr ⟨b, cap, h1, h2, h3, Nat.lt_of_lt_of_le h4 hb.size, fun j t ht => (hb.cell (p := ⟨b, j, none⟩) h4).trans (h5 j t ht)⟩
theorem own_facts {w : World} {base n : Nat} {e : TypeId} {v : Value} {xs : List Value} (h : w.ownsRow base e 1 v n xs) (hn : 0 < n) :
    ∃ g cap, v = .slice (some ⟨g, 0, none⟩) n cap ∧ base ≤ g ∧ g < w.heap.size ∧ n ≤ cap ∧ cap ≤ maxLen ∧ (∀ j u, xs[j]? = some u → w.cell? ⟨g, j, none⟩ = some u) ∧ ∀ o, w.frozen? ⟨g, o, none⟩ = false := by
  rcases h.2 with ⟨h1, h2⟩ | ⟨g, cap, cur, hv, hg, hh, h3, h4, h5, h6⟩
  · omega
  · have hlt : g < w.heap.size := by
      rcases Nat.lt_or_ge g w.heap.size with h | h
      · exact h
      · rw [Array.getElem?_eq_none h] at hh; cases hh
    refine ⟨g, cap, hv, hg, hlt, h3, h4, fun j u hu => ?_, fun o => by simp [World.frozen?, hh]⟩
    rw [← h6, List.getElem?_take] at hu
    split at hu
    · have : cur[j]? = some u := by simpa using hu
      simp [World.cell?, hh, this]
    · cases hu
theorem own_take {w : World} {base n g cap : Nat} {e : TypeId} {xs : List Value} (h : w.ownsRow base e 1 (.slice (some ⟨g, 0, none⟩) n cap) n xs) (m : Nat) (hm : m ≤ n) : w.ownsRow base e 1 (.slice (some ⟨g, 0, none⟩) m cap) m (xs.take m) := by
  refine ⟨by rw [List.length_take, h.1]; omega, ?_⟩
  rcases h.2 with ⟨h1, h2⟩ | ⟨g', cap', cur, hv, hg, hh, h3, h4, h5, h6⟩
  · cases h1
  · cases hv
    exact Or.inr ⟨g, cap, cur, rfl, hg, hh, by omega, h4, h5, by rw [← h6, List.take_take]; congr 1; omega⟩
theorem own_set {w : World} {base n g cap : Nat} {e : TypeId} {xs : List Value} (h : w.ownsRow base e 1 (.slice (some ⟨g, 0, none⟩) n cap) n xs) (j : Nat) (u : Value) : (w.setCell ⟨g, j, none⟩ u).ownsRow base e 1 (.slice (some ⟨g, 0, none⟩) n cap) n (xs.set j u) := by
  refine ⟨by rw [List.length_set, h.1], ?_⟩
  rcases h.2 with ⟨h1, h2⟩ | ⟨g', cap', cur, hv, hg, hh, h3, h4, h5, h6⟩
  · cases h1
  · cases hv
    refine Or.inr ⟨g, cap, cur.setIfInBounds j u, rfl, hg, heap_setCell_same w g j cur e u hh, h3, h4, by simpa using h5, ?_⟩
    rw [← h6]
    simp [List.take_set]
theorem own_ints {w : World} {base : Nat} {v : Value} {ls : List Int} (h : w.ownsRow base 3 1 v ls.length (ls.map iv)) : IntsR w v ls := by
  by_cases hn : 0 < ls.length
  · obtain ⟨g, cap, rfl, _, h2, h3, h4, h5, _⟩ := own_facts h hn
    exact Or.inr ⟨g, cap, rfl, h3, h4, h2, fun j x hx => h5 j _ (by rw [List.getElem?_map, hx]; rfl)⟩
  · have hl : ls = [] := List.length_eq_zero_iff.1 (by omega)
    subst hl
    rcases h.2 with ⟨h1, h2⟩ | ⟨g, cap, cur, hv, hg, hh, h3, h4, h5, h6⟩
    · exact Or.inl ⟨h1, rfl⟩
    · have hlt : g < w.heap.size := by
        rcases Nat.lt_or_ge g w.heap.size with h | h
        · exact h
        · rw [Array.getElem?_eq_none h] at hh; cases hh
      exact Or.inr ⟨g, cap, hv, h3, h4, hlt, fun j x hx => by simp at hx⟩
theorem Tryd.infoInt : (Tryd.prog.info? 3).map (fun i => (i.zero, i.size, i.bytes)) = some (some (.int .i64 0), 1, 8) := by kernel_rfl
theorem one_new (w : World) (B : Nat) (hB : B = w.heap.size) (a : Value) (t : TypeId) : ∀ j u, [a][j]? = some u → (w.alloc (.cells #[a] t)).cell? ((⟨B, 0, none⟩ : Addr).add j) = some u := by
  subst hB
  intro j u h
  match j, h with
  | 0, h => simp at h; subst h; simp [Addr.add]
theorem one_i (x : Int) : ∀ u ∈ [Value.int .i64 x], u.oneCell' = true := by
  intro u hu; simp at hu; subst hu; rfl
end Go.Proofs.YtkinoehmcfhgbaaDoor.Vl
