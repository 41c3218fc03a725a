/-
  The document's own machine on tokens, in plain words (no Go): what is wanted is a stack, its top first.
  Plain facts (no Go): of a token its text and the program's kind of it say the same.
-/
import Derived.Test.YtkinoehmcfhgbaaGreatDoorPl
namespace Go.Proofs.YtkinoehmcfhgbaaGreatDoor.Av

def cCommands : List UInt8 := [67, 79, 77, 77, 65, 78, 68, 83]
def cCommand : List UInt8 := [67, 79, 77, 77, 65, 78, 68]
def cMoreCommands : List UInt8 := [77, 79, 82, 69, 45, 67, 79, 77, 77, 65, 78, 68, 83]
def cFormula : List UInt8 := [70, 79, 82, 77, 85, 76, 65]
def cMoreFormula : List UInt8 := [77, 79, 82, 69, 45, 70, 79, 82, 77, 85, 76, 65]
def cFactor : List UInt8 := [70, 65, 67, 84, 79, 82]
def cTerm : List UInt8 := [84, 69, 82, 77]
def cMoreTerm : List UInt8 := [77, 79, 82, 69, 45, 84, 69, 82, 77]
def cRelation : List UInt8 := [82, 69, 76, 65, 84, 73, 79, 78]
def cNumber : List UInt8 := [78, 85, 77, 66, 69, 82]
def cNotEnds : List UInt8 := [78, 79, 84, 45, 69, 78, 68, 83]

def rl (l : List UInt8) : Bool := l == [60] || l == [60, 61] || l == [61] || l == [62] || l == [62, 61]
def dflt (k s : List UInt8) : Bool := k == s && (decide (((k.headD 0).toNat : Int) < 65) || decide (90 < ((k.headD 0).toNat : Int)))
def stTerm (s : List UInt8) (st : List (List UInt8)) : List (List UInt8) × Bool :=
  if 0 ≤ vr s then (cMoreTerm :: st, true) else if s == [45] then (cNumber :: st, true) else (st, decide (0 ≤ dg 999 s))
def stCommand (s : List UInt8) (st : List (List UInt8)) : List (List UInt8) × Bool :=
  if s == [115, 107, 105, 112] then (st, true) else if 0 ≤ vr s then ([58, 61] :: cTerm :: st, true) else
  if s == [105, 102] then (cFormula :: [116, 104, 101, 110] :: cCommands :: [101, 108, 115, 101] :: cCommands :: [101, 110, 100] :: st, true) else
  if s == [119, 104, 105, 108, 101] then (cFormula :: [107, 101, 101, 112] :: cFormula :: [100, 111] :: cCommands :: [101, 110, 100] :: st, true) else (st, false)
def stFactor (s : List UInt8) (st : List (List UInt8)) : List (List UInt8) × Bool :=
  if s == [116, 114, 117, 101] || s == [102, 97, 108, 115, 101] then (st, true) else if s == [110, 111, 116] then (cFactor :: cNotEnds :: st, true) else
  if s == [40] then (cFormula :: [41] :: st, true) else stTerm s (cRelation :: cTerm :: st)
/-- What is wanted behind a token that begins a kind; whether it can. -/
def sts (k s : List UInt8) (st : List (List UInt8)) : List (List UInt8) × Bool :=
  if k == cCommand then stCommand s st else if k == cFactor then stFactor s st else if k == cTerm then stTerm s st else
  if k == cRelation then (st, rl s) else if k == cNumber then (st, decide (0 ≤ dg 999 s)) else (st, dflt k s)
/-- The kinds on top taken apart for a token; how many nots have ended. -/
def opn (s : List UInt8) : List (List UInt8) → Int → List (List UInt8) × Int
  | [], e => ([], e)
  | k :: r, e =>
    if k == cCommands then (cCommand :: cMoreCommands :: r, e) else
    if k == cMoreCommands then (if s == [59] then ([59] :: cCommands :: r, e) else opn s r e) else
    if k == cFormula then (cFactor :: cMoreFormula :: r, e) else
    if k == cMoreFormula then (if s == [111, 114] || s == [97, 110, 100] then (s :: cFormula :: r, e) else opn s r e) else
    if k == cMoreTerm then (if s == [43] || s == [45] then (s :: cNumber :: r, e) else opn s r e) else
    if k == cNotEnds then opn s r (e + 1) else (k :: r, e)
def deeper (t : List UInt8) : Bool := t == [40] || t == [110, 111, 116] || t == [105, 102] || t == [119, 104, 105, 108, 101]
def shut (t : List UInt8) : Bool := t == [41] || t == [101, 110, 100]
/-- One token: an error and its place, or what is wanted then, and the depth. -/
def stepM (t : List UInt8) (i : Nat) (st : List (List UInt8)) (d : Int) : Sum (Int × Int) (List (List UInt8) × Int) :=
  match opn t st 0 with
  | ([], _) => .inl (2, i)
  | (k :: r, n) =>
    if (sts k t r).2 = false then .inl (2, i) else
    if deeper t then (if 10 < d - n + 1 then .inl (3, i) else .inr ((sts k t r).1, d - n + 1)) else
    if shut t then .inr ((sts k t r).1, d - n - 1) else .inr ((sts k t r).1, d - n)
/-- What Check answers, told along the tokens. -/
def runM (len : Nat) : List (List UInt8 × Nat) → List (List UInt8) → Int → Int × Int
  | [], st, _ => if (opn [] st 0).1.isEmpty then (0, 0) else (2, len)
  | (t, i) :: ts, st, d => match stepM t i st d with
    | .inl e => e
    | .inr (st', d') => runM len ts st' d'

theorem stTerm_len (s : List UInt8) (st : List (List UInt8)) : (stTerm s st).1.length ≤ st.length + 1 := by
  unfold stTerm; repeat' split
  all_goals simp
theorem sts_len (k s : List UInt8) (st : List (List UInt8)) : (sts k s st).1.length ≤ st.length + 6 := by
  have h1 := stTerm_len s st
  have h2 := stTerm_len s (cRelation :: cTerm :: st)
  simp only [List.length_cons] at h2
  unfold sts
  repeat' split
  · unfold stCommand; repeat' split
    all_goals simp
  · unfold stFactor; repeat' split
    all_goals first | (simp; done) | omega
  all_goals first | (simp; done) | omega
theorem opn_len (s : List UInt8) (st : List (List UInt8)) : ∀ e, (opn s st e).1.length ≤ st.length + 1 := by
  induction st with
  | nil => intro e; simp [opn]
  | cons k r ih =>
    intro e
    unfold opn
    repeat' split
    all_goals first | (simp; done) | (have := ih e; simp; omega) | (have := ih (e + 1); simp; omega)
theorem opn_end (s : List UInt8) (st : List (List UInt8)) : ∀ e, e ≤ (opn s st e).2 ∧ (opn s st e).2 ≤ e + st.length := by
  induction st with
  | nil => intro e; simp [opn]
  | cons k r ih =>
    intro e
    unfold opn
    repeat' split
    all_goals first | (simp; omega) | (have := ih e; simp; omega) | (have := ih (e + 1); simp; omega)

/-- No kind is the empty text. -/
def Ne (st : List (List UInt8)) : Prop := ∀ x ∈ st, x ≠ []
theorem Ne.cons {k : List UInt8} {r : List (List UInt8)} (hk : k ≠ []) (h : Ne r) : Ne (k :: r) := by
  intro x hx; rw [List.mem_cons] at hx; rcases hx with rfl | hx
  · exact hk
  · exact h x hx
theorem Ne.tail {k : List UInt8} {r : List (List UInt8)} (h : Ne (k :: r)) : Ne r := fun x hx => h x (List.mem_cons_of_mem _ hx)
theorem Ne.head {k : List UInt8} {r : List (List UInt8)} (h : Ne (k :: r)) : k ≠ [] := h k (List.mem_cons_self)
theorem opn_ne (s : List UInt8) (st : List (List UInt8)) : ∀ e, Ne st → Ne (opn s st e).1 := by
  induction st with
  | nil => intro e h; simpa [opn] using h
  | cons k r ih =>
    intro e h
    have ht := h.tail
    unfold opn
    split
    · exact Ne.cons (by decide) (Ne.cons (by decide) ht)
    split
    · split
      · exact Ne.cons (by decide) (Ne.cons (by decide) ht)
      · exact ih e ht
    split
    · exact Ne.cons (by decide) (Ne.cons (by decide) ht)
    split
    · split
      · rename_i hs
        refine Ne.cons ?_ (Ne.cons (by decide) ht)
        intro hh; subst hh; simp at hs
      · exact ih e ht
    split
    · split
      · rename_i hs
        refine Ne.cons ?_ (Ne.cons (by decide) ht)
        intro hh; subst hh; simp at hs
      · exact ih e ht
    split
    · exact ih _ ht
    · exact h
theorem stTerm_ne (s : List UInt8) (st : List (List UInt8)) (h : Ne st) : Ne (stTerm s st).1 := by
  unfold stTerm; repeat' split
  · exact Ne.cons (by decide) h
  · exact Ne.cons (by decide) h
  · exact h
theorem sts_ne (k s : List UInt8) (st : List (List UInt8)) (h : Ne st) : Ne (sts k s st).1 := by
  unfold sts
  split
  · unfold stCommand; repeat' split
    all_goals first | exact h | exact Ne.cons (by decide) (Ne.cons (by decide) h) | exact Ne.cons (by decide) (Ne.cons (by decide) (Ne.cons (by decide) (Ne.cons (by decide) (Ne.cons (by decide) (Ne.cons (by decide) h)))))
  split
  · unfold stFactor; repeat' split
    all_goals first | exact h | exact Ne.cons (by decide) (Ne.cons (by decide) h) | exact stTerm_ne _ _ (Ne.cons (by decide) (Ne.cons (by decide) h))
  split
  · exact stTerm_ne _ _ h
  repeat' split
  all_goals exact h

end Go.Proofs.YtkinoehmcfhgbaaGreatDoor.Av
namespace Go.Proofs.YtkinoehmcfhgbaaGreatDoor.Av

/-- A token's text: a sign is no longer than it is. -/
def Tokish (t : List UInt8) : Prop := t ≠ [] ∧ (0 < sgn t → t.length = sgn t)

def syms : List (List UInt8 × Int) := [([40], 2), ([41], 3), ([59], 4), ([58, 61], 5), ([60], 6), ([60, 61], 7), ([61], 8), ([62], 9), ([62, 61], 10), ([43], 11), ([45], 12)]
def kws : List (List UInt8 × Int) := [([102, 114, 111, 109], 13), ([100, 111], 14), ([116, 111], 15), ([115, 107, 105, 112], 16), ([105, 102], 17), ([116, 104, 101, 110], 18), ([101, 108, 115, 101], 19), ([101, 110, 100], 20), ([119, 104, 105, 108, 101], 21), ([107, 101, 101, 112], 22), ([111, 114], 23), ([97, 110, 100], 24), ([110, 111, 116], 25), ([116, 114, 117, 101], 26), ([102, 97, 108, 115, 101], 27)]

theorem sg1_cases (a : UInt8) (h : sg1 a = true) : a = 40 ∨ a = 41 ∨ a = 59 ∨ a = 60 ∨ a = 61 ∨ a = 62 ∨ a = 43 ∨ a = 45 := by
  unfold sg1 at h
  simp only [Bool.or_eq_true, beq_iff_eq] at h
  rcases h with ((((((h | h) | h) | h) | h) | h) | h) | h <;> simp [h]

theorem sym_cases (t : List UInt8) (h : Tokish t) (hs : 0 < sgn t) : ∃ k, (t, k) ∈ syms := by
  have hl := h.2 hs
  by_cases h2 : sg2 t = true
  · have e : sgn t = 2 := by unfold sgn; rw [if_pos h2]
    rw [e] at hl
    match t, hl with
    | [a, b], _ =>
      unfold sg2 at h2
      simp only [Bool.or_eq_true, Bool.and_eq_true, beq_iff_eq] at h2
      rcases h2 with (⟨rfl, rfl⟩ | ⟨rfl, rfl⟩) | ⟨rfl, rfl⟩
      · exact ⟨5, by decide⟩
      · exact ⟨7, by decide⟩
      · exact ⟨10, by decide⟩
  · match t, hs with
    | a :: r, hs =>
      have h1 : sg1 a = true := by
        cases h3 : sg1 a with
        | true => rfl
        | false => unfold sgn at hs; rw [if_neg h2] at hs; simp [h3] at hs
      have e : sgn (a :: r) = 1 := by unfold sgn; rw [if_neg h2]; simp [h1]
      rw [e] at hl
      have : r = [] := by cases r <;> simp_all
      subst this
      rcases sg1_cases a h1 with rfl | rfl | rfl | rfl | rfl | rfl | rfl | rfl
      · exact ⟨2, by decide⟩
      · exact ⟨3, by decide⟩
      · exact ⟨4, by decide⟩
      · exact ⟨6, by decide⟩
      · exact ⟨8, by decide⟩
      · exact ⟨9, by decide⟩
      · exact ⟨11, by decide⟩
      · exact ⟨12, by decide⟩

theorem kw_key (t : List UInt8) (k : Int) (hk : kw t = k) : k = 1 ∨ (t, k) ∈ kws := by
  unfold kw at hk
  by_cases h1 : t = [102, 114, 111, 109]
  · subst h1; subst hk; exact Or.inr (by decide)
  by_cases h2 : t = [100, 111]
  · subst h2; subst hk; exact Or.inr (by decide)
  by_cases h3 : t = [116, 111]
  · subst h3; subst hk; exact Or.inr (by decide)
  by_cases h4 : t = [115, 107, 105, 112]
  · subst h4; subst hk; exact Or.inr (by decide)
  by_cases h5 : t = [105, 102]
  · subst h5; subst hk; exact Or.inr (by decide)
  by_cases h6 : t = [116, 104, 101, 110]
  · subst h6; subst hk; exact Or.inr (by decide)
  by_cases h7 : t = [101, 108, 115, 101]
  · subst h7; subst hk; exact Or.inr (by decide)
  by_cases h8 : t = [101, 110, 100]
  · subst h8; subst hk; exact Or.inr (by decide)
  by_cases h9 : t = [119, 104, 105, 108, 101]
  · subst h9; subst hk; exact Or.inr (by decide)
  by_cases h10 : t = [107, 101, 101, 112]
  · subst h10; subst hk; exact Or.inr (by decide)
  by_cases h11 : t = [111, 114]
  · subst h11; subst hk; exact Or.inr (by decide)
  by_cases h12 : t = [97, 110, 100]
  · subst h12; subst hk; exact Or.inr (by decide)
  by_cases h13 : t = [110, 111, 116]
  · subst h13; subst hk; exact Or.inr (by decide)
  by_cases h14 : t = [116, 114, 117, 101]
  · subst h14; subst hk; exact Or.inr (by decide)
  by_cases h15 : t = [102, 97, 108, 115, 101]
  · subst h15; subst hk; exact Or.inr (by decide)
  simp [h1, h2, h3, h4, h5, h6, h7, h8, h9, h10, h11, h12, h13, h14, h15] at hk
  exact Or.inl hk.symm
theorem kw_cases (t : List UInt8) : kw t = 1 ∨ (t, kw t) ∈ kws := kw_key t _ rfl
theorem vr_cases (t : List UInt8) : vr t = -1 ∨ t = [97] ∨ t = [98] ∨ t = [99] ∨ t = [100] := by
  unfold vr
  repeat' split
  all_goals first | exact Or.inl rfl | (rename_i h; rw [beq_iff_eq] at h; simp [h])

/-- All that the proofs below ask of kinds: a Bool over the closed tables. -/
theorem syms_kind : ∀ x ∈ syms, (tk x.1).1 = x.2 ∧ vr x.1 = -1 ∧ dg 999 x.1 = -1 ∧ kw x.1 = 1 ∧ 0 < sgn x.1 := by decide
theorem kws_kind : ∀ x ∈ kws, (tk x.1).1 = x.2 ∧ vr x.1 = -1 ∧ dg 999 x.1 = -1 ∧ kw x.1 = x.2 ∧ sgn x.1 = 0 := by decide
theorem syms_inj : ∀ x ∈ syms ++ kws, ∀ y ∈ syms ++ kws, x.2 = y.2 → x.1 = y.1 := by decide
theorem sk_range : ∀ x ∈ syms ++ kws, 2 ≤ x.2 ∧ x.2 ≤ 27 := by decide

/-- A literal: its kind tells it. -/
theorem kind_lit (t c : List UInt8) (k : Int) (h : Tokish t) (hc : (c, k) ∈ syms ++ kws) : (tk t).1 = k ↔ t = c := by
  have hck : (tk c).1 = k := by
    rw [List.mem_append] at hc
    rcases hc with hc | hc
    · exact (syms_kind _ hc).1
    · exact (kws_kind _ hc).1
  constructor
  · intro hk
    by_cases hs : 0 < sgn t
    · obtain ⟨k', hk'⟩ := sym_cases t h hs
      have := (syms_kind _ hk').1
      simp only at this
      exact syms_inj (t, k') (List.mem_append_left _ hk') (c, k) hc (by simp only; omega)
    · have e : tk t = wk t := by unfold tk; rw [if_neg hs]
      have hr := sk_range _ hc
      simp only at hr
      rw [e] at hk
      unfold wk at hk
      rcases kw_cases t with h1 | h1
      · rw [if_neg (by simp [h1])] at hk
        repeat' split at hk
        all_goals (simp at hk; omega)
      · have hr' := sk_range _ (List.mem_append_right _ h1)
        simp only at hr'
        rw [if_pos (by omega)] at hk
        exact syms_inj (t, kw t) (List.mem_append_right _ h1) (c, k) hc hk
  · intro e; rw [e]; exact hck

theorem kind_var (t : List UInt8) (h : Tokish t) : (tk t).1 = 28 ↔ 0 ≤ vr t := by
  by_cases hs : 0 < sgn t
  · obtain ⟨k', hk'⟩ := sym_cases t h hs
    have h1 := syms_kind _ hk'
    have h2 := sk_range _ (List.mem_append_left _ hk')
    simp only at h1 h2
    constructor
    · intro e; omega
    · intro e; omega
  · have e : tk t = wk t := by unfold tk; rw [if_neg hs]
    rw [e]; unfold wk
    rcases kw_cases t with h1 | h1
    · rw [if_neg (by simp [h1])]
      by_cases hv : 0 ≤ vr t
      · rw [if_pos hv]; simp [hv]
      · rw [if_neg hv]; constructor
        · intro h; split at h <;> simp at h
        · intro h; exact absurd h hv
    · have h2 := kws_kind _ h1
      have h3 := sk_range _ (List.mem_append_right _ h1)
      simp only at h2 h3
      rw [if_pos (by omega)]
      constructor
      · intro h; simp only at h; omega
      · intro h; omega

theorem kind_num (t : List UInt8) (h : Tokish t) : (tk t).1 = 29 ↔ 0 ≤ dg 999 t := by
  by_cases hs : 0 < sgn t
  · obtain ⟨k', hk'⟩ := sym_cases t h hs
    have h1 := syms_kind _ hk'
    have h2 := sk_range _ (List.mem_append_left _ hk')
    simp only at h1 h2
    constructor
    · intro e; omega
    · intro e; omega
  · have e : tk t = wk t := by unfold tk; rw [if_neg hs]
    rw [e]; unfold wk
    rcases kw_cases t with h1 | h1
    · rw [if_neg (by simp [h1])]
      rcases vr_cases t with hv | hv
      · rw [if_neg (by omega)]
        by_cases hd : 0 ≤ dg 999 t
        · rw [if_pos hd]; simp [hd]
        · rw [if_neg hd]; simp; omega
      · have hd : vr t ≥ 0 ∧ dg 999 t = -1 := by rcases hv with rfl | rfl | rfl | rfl <;> decide
        rw [if_pos hd.1]; simp; omega
    · have h2 := kws_kind _ h1
      have h3 := sk_range _ (List.mem_append_right _ h1)
      simp only at h2 h3
      rw [if_pos (by omega)]
      constructor
      · intro h; simp only at h; omega
      · intro h; omega

theorem take_sgn (l : List UInt8) (h : 0 < sgn l) : sgn (l.take (sgn l)) = sgn l := by
  by_cases h2 : sg2 l = true
  · match l, h2 with
    | a :: b :: r, h2 =>
      have e : sgn (a :: b :: r) = 2 := by unfold sgn; rw [if_pos h2]
      rw [e]
      have h2' : sg2 [a, b] = true := by simpa [sg2] using h2
      show sgn [a, b] = 2
      unfold sgn; rw [if_pos h2']
  · match l with
    | [] => simp [sgn, sg2] at h
    | a :: r =>
      have h1 : sg1 a = true := by
        cases h3 : sg1 a with
        | true => rfl
        | false => unfold sgn at h; rw [if_neg h2] at h; simp [h3] at h
      have e : sgn (a :: r) = 1 := by unfold sgn; rw [if_neg h2]; simp [h1]
      rw [e]
      show sgn [a] = 1
      simp [sgn, sg2, h1]

theorem tokish_take (a : UInt8) (r : List UInt8) : Tokish ((a :: r).take (tlen (a :: r))) := by
  have hp := tlen_pos (a :: r)
  refine ⟨?_, ?_⟩
  · intro e
    have := congrArg List.length e
    rw [List.length_take] at this; simp at this; omega
  · by_cases hs : 0 < sgn (a :: r)
    · have e : tlen (a :: r) = sgn (a :: r) := by unfold tlen; rw [if_pos hs]
      rw [e, take_sgn _ hs]
      intro _; rw [List.length_take]; have := (sgn_le (a :: r)).1; omega
    · intro hh
      exfalso
      have e : tlen (a :: r) = 1 + wlen r := by unfold tlen; rw [if_neg hs]; rfl
      have h2 : ¬ sg2 (a :: r) = true := by
        intro hh; unfold sgn at hs; rw [if_pos hh] at hs; omega
      have h1 : ¬ sg1 a = true := by
        intro hh; unfold sgn at hs; rw [if_neg h2] at hs; simp [hh] at hs
      rw [e, Nat.add_comm] at hh
      have h3 : sg2 (a :: r.take (wlen r)) = true → sg2 (a :: r) = true := by
        cases r with
        | nil => simp [sg2]
        | cons x y => cases hw : wlen (x :: y) <;> simp [sg2]
      have h4 : ¬ sg2 (a :: r.take (wlen r)) = true := fun hh => h2 (h3 hh)
      have : sgn (a :: r.take (wlen r)) = 0 := by unfold sgn; rw [if_neg h4]; simp [h1]
      rw [List.take_succ_cons] at hh; omega

theorem toks_tokish (f : Nat) : ∀ (i : Nat) (l : List UInt8) (t : List UInt8) (j : Nat), (t, j) ∈ toks f i l → Tokish t := by
  induction f with
  | zero => intro i l t j h; simp [toks] at h
  | succ f ih =>
    intro i l t j h
    cases l with
    | nil => simp [toks] at h
    | cons a r =>
      simp only [toks] at h
      split at h
      · exact ih _ _ _ _ h
      · rw [List.mem_cons] at h
        rcases h with h | h
        · injection h with h1 _; rw [h1]; exact tokish_take a r
        · exact ih _ _ _ _ h

end Go.Proofs.YtkinoehmcfhgbaaGreatDoor.Av
