/-
  The document's own machine on tokens, in plain words (no Go): what is wanted is a stack, its top first.
-/
import Derived.Test.YtkinoehmcfhgbaaPl
namespace Go.Proofs.Ytkinoehmcfhgbaa.Av

def cCommands : List UInt8 := [67, 79, 77, 77, 65, 78, 68, 83]
def cCommand : List UInt8 := [67, 79, 77, 77, 65, 78, 68]
def cMoreCommands : List UInt8 := [77, 79, 82, 69, 45, 67, 79, 77, 77, 65, 78, 68, 83]
def cFormula : List UInt8 := [70, 79, 82, 77, 85, 76, 65]
def cMoreFormula : List UInt8 := [77, 79, 82, 69, 45, 70, 79, 82, 77, 85, 76, 65]
def cFactor : List UInt8 := [70, 65, 67, 84, 79, 82]
def cTerm : List UInt8 := [84, 69, 82, 77]
def cMoreTerm : List UInt8 := [77, 79, 82, 69, 45, 84, 69, 82, 77]
def cRelation : List UInt8 := [82, 69, 76, 65, 84, 73, 79, 78]
def cNumber : List UInt8 := [78, 85, 77, 66, 69, 82]
def cNotEnds : List UInt8 := [78, 79, 84, 45, 69, 78, 68, 83]

def rl (l : List UInt8) : Bool := l == [60] || l == [60, 61] || l == [61] || l == [62] || l == [62, 61]
def dflt (k s : List UInt8) : Bool := k == s && (decide (((k.headD 0).toNat : Int) < 65) || decide (90 < ((k.headD 0).toNat : Int)))
def stTerm (s : List UInt8) (st : List (List UInt8)) : List (List UInt8) × Bool :=
  if 0 ≤ vr s then (cMoreTerm :: st, true) else if s == [45] then (cNumber :: st, true) else (st, decide (0 ≤ dg 999 s))
def stCommand (s : List UInt8) (st : List (List UInt8)) : List (List UInt8) × Bool :=
  if s == [115, 107, 105, 112] then (st, true) else if 0 ≤ vr s then ([58, 61] :: cTerm :: st, true) else
  if s == [105, 102] then (cFormula :: [116, 104, 101, 110] :: cCommands :: [101, 108, 115, 101] :: cCommands :: [101, 110, 100] :: st, true) else
  if s == [119, 104, 105, 108, 101] then (cFormula :: [107, 101, 101, 112] :: cFormula :: [100, 111] :: cCommands :: [101, 110, 100] :: st, true) else (st, false)
def stFactor (s : List UInt8) (st : List (List UInt8)) : List (List UInt8) × Bool :=
  if s == [116, 114, 117, 101] || s == [102, 97, 108, 115, 101] then (st, true) else if s == [110, 111, 116] then (cFactor :: cNotEnds :: st, true) else
  if s == [40] then (cFormula :: [41] :: st, true) else stTerm s (cRelation :: cTerm :: st)
/-- What is wanted behind a token that begins a kind; whether it can. -/
def sts (k s : List UInt8) (st : List (List UInt8)) : List (List UInt8) × Bool :=
  if k == cCommand then stCommand s st else if k == cFactor then stFactor s st else if k == cTerm then stTerm s st else
  if k == cRelation then (st, rl s) else if k == cNumber then (st, decide (0 ≤ dg 999 s)) else (st, dflt k s)
/-- The kinds on top taken apart for a token; how many nots have ended. -/
def opn (s : List UInt8) : List (List UInt8) → Int → List (List UInt8) × Int
  | [], e => ([], e)
  | k :: r, e =>
    if k == cCommands then (cCommand :: cMoreCommands :: r, e) else
    if k == cMoreCommands then (if s == [59] then ([59] :: cCommands :: r, e) else opn s r e) else
    if k == cFormula then (cFactor :: cMoreFormula :: r, e) else
    if k == cMoreFormula then (if s == [111, 114] || s == [97, 110, 100] then (s :: cFormula :: r, e) else opn s r e) else
    if k == cMoreTerm then (if s == [43] || s == [45] then (s :: cNumber :: r, e) else opn s r e) else
    if k == cNotEnds then opn s r (e + 1) else (k :: r, e)
def deeper (t : List UInt8) : Bool := t == [40] || t == [110, 111, 116] || t == [105, 102] || t == [119, 104, 105, 108, 101]
def shut (t : List UInt8) : Bool := t == [41] || t == [101, 110, 100]
/-- One token: an error and its place, or what is wanted then, and the depth. -/
def stepM (t : List UInt8) (i : Nat) (st : List (List UInt8)) (d : Int) : Sum (Int × Int) (List (List UInt8) × Int) :=
  match opn t st 0 with
  | ([], _) => .inl (2, i)
  | (k :: r, n) =>
    if (sts k t r).2 = false then .inl (2, i) else
    if deeper t then (if 10 < d - n + 1 then .inl (3, i) else .inr ((sts k t r).1, d - n + 1)) else
    if shut t then .inr ((sts k t r).1, d - n - 1) else .inr ((sts k t r).1, d - n)
/-- What Check answers, told along the tokens. -/
def runM (len : Nat) : List (List UInt8 × Nat) → List (List UInt8) → Int → Int × Int
  | [], st, _ => if (opn [] st 0).1.isEmpty then (0, 0) else (2, len)
  | (t, i) :: ts, st, d => match stepM t i st d with
    | .inl e => e
    | .inr (st', d') => runM len ts st' d'

theorem stTerm_len (s : List UInt8) (st : List (List UInt8)) : (stTerm s st).1.length ≤ st.length + 1 := by
  unfold stTerm; repeat' split
  all_goals simp
theorem sts_len (k s : List UInt8) (st : List (List UInt8)) : (sts k s st).1.length ≤ st.length + 6 := by
  have h1 := stTerm_len s st
  have h2 := stTerm_len s (cRelation :: cTerm :: st)
  simp only [List.length_cons] at h2
  unfold sts
  repeat' split
  · unfold stCommand; repeat' split
    all_goals simp
  · unfold stFactor; repeat' split
    all_goals first | (simp; done) | omega
  all_goals first | (simp; done) | omega
theorem opn_len (s : List UInt8) (st : List (List UInt8)) : ∀ e, (opn s st e).1.length ≤ st.length + 1 := by
  induction st with
  | nil => intro e; simp [opn]
  | cons k r ih =>
    intro e
    unfold opn
    repeat' split
    all_goals first | (simp; done) | (have := ih e; simp; omega) | (have := ih (e + 1); simp; omega)
theorem opn_end (s : List UInt8) (st : List (List UInt8)) : ∀ e, e ≤ (opn s st e).2 ∧ (opn s st e).2 ≤ e + st.length := by
  induction st with
  | nil => intro e; simp [opn]
  | cons k r ih =>
    intro e
    unfold opn
    repeat' split
    all_goals first | (simp; omega) | (have := ih e; simp; omega) | (have := ih (e + 1); simp; omega)

/-- No kind is the empty text. -/
def Ne (st : List (List UInt8)) : Prop := ∀ x ∈ st, x ≠ []
theorem Ne.cons {k : List UInt8} {r : List (List UInt8)} (hk : k ≠ []) (h : Ne r) : Ne (k :: r) := by
  intro x hx; rw [List.mem_cons] at hx; rcases hx with rfl | hx
  · exact hk
  · exact h x hx
theorem Ne.tail {k : List UInt8} {r : List (List UInt8)} (h : Ne (k :: r)) : Ne r := fun x hx => h x (List.mem_cons_of_mem _ hx)
theorem Ne.head {k : List UInt8} {r : List (List UInt8)} (h : Ne (k :: r)) : k ≠ [] := h k (List.mem_cons_self)
theorem opn_ne (s : List UInt8) (st : List (List UInt8)) : ∀ e, Ne st → Ne (opn s st e).1 := by
  induction st with
  | nil => intro e h; simpa [opn] using h
  | cons k r ih =>
    intro e h
    have ht := h.tail
    unfold opn
    split
    · exact Ne.cons (by decide) (Ne.cons (by decide) ht)
    split
    · split
      · exact Ne.cons (by decide) (Ne.cons (by decide) ht)
      · exact ih e ht
    split
    · exact Ne.cons (by decide) (Ne.cons (by decide) ht)
    split
    · split
      · rename_i hs
        refine Ne.cons ?_ (Ne.cons (by decide) ht)
        intro hh; subst hh; simp at hs
      · exact ih e ht
    split
    · split
      · rename_i hs
        refine Ne.cons ?_ (Ne.cons (by decide) ht)
        intro hh; subst hh; simp at hs
      · exact ih e ht
    split
    · exact ih _ ht
    · exact h
theorem stTerm_ne (s : List UInt8) (st : List (List UInt8)) (h : Ne st) : Ne (stTerm s st).1 := by
  unfold stTerm; repeat' split
  · exact Ne.cons (by decide) h
  · exact Ne.cons (by decide) h
  · exact h
theorem sts_ne (k s : List UInt8) (st : List (List UInt8)) (h : Ne st) : Ne (sts k s st).1 := by
  unfold sts
  split
  · unfold stCommand; repeat' split
    all_goals first | exact h | exact Ne.cons (by decide) (Ne.cons (by decide) h) | exact Ne.cons (by decide) (Ne.cons (by decide) (Ne.cons (by decide) (Ne.cons (by decide) (Ne.cons (by decide) (Ne.cons (by decide) h)))))
  split
  · unfold stFactor; repeat' split
    all_goals first | exact h | exact Ne.cons (by decide) (Ne.cons (by decide) h) | exact stTerm_ne _ _ (Ne.cons (by decide) (Ne.cons (by decide) h))
  split
  · exact stTerm_ne _ _ h
  repeat' split
  all_goals exact h

end Go.Proofs.Ytkinoehmcfhgbaa.Av
