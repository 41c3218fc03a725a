/-
  Plain facts (no walk): the rules of the grammar, one by one: what the parser does and what the document's machine answers.
  Programs as trees, and how they stand in tokens: plain words alone.
-/
import Derived.Test.YtkinoehmcfhgbaaGreatDoorLook
set_option linter.unusedVariables false
set_option linter.unusedSimpArgs false
namespace Go.Proofs.YtkinoehmcfhgbaaGreatDoor.Av
open Go.RowKit

variable {toks : List (List UInt8 × Nat)} {len : Nat}

theorem deeper_iff (t : List UInt8) (h : Tokish t) : deeper t = true ↔ ((tk t).1 = 2 ∨ (tk t).1 = 25 ∨ (tk t).1 = 17 ∨ (tk t).1 = 21) := by
  rw [kind_lit t [40] 2 h (by decide), kind_lit t [110, 111, 116] 25 h (by decide), kind_lit t [105, 102] 17 h (by decide), kind_lit t [119, 104, 105, 108, 101] 21 h (by decide)]
  unfold deeper; simp [or_assoc]
theorem shut_iff (t : List UInt8) (h : Tokish t) : shut t = true ↔ ((tk t).1 = 3 ∨ (tk t).1 = 20) := by
  rw [kind_lit t [41] 3 h (by decide), kind_lit t [101, 110, 100] 20 h (by decide)]
  unfold shut; simp
theorem deeper_no {t : List UInt8} (h : Tokish t) (h1 : (tk t).1 ≠ 2) (h2 : (tk t).1 ≠ 25) (h3 : (tk t).1 ≠ 17) (h4 : (tk t).1 ≠ 21) : deeper t = false := by
  cases hh : deeper t with
  | false => rfl
  | true => rcases (deeper_iff t h).1 hh with e | e | e | e <;> omega
theorem shut_no {t : List UInt8} (h : Tokish t) (h1 : (tk t).1 ≠ 3) (h2 : (tk t).1 ≠ 20) : shut t = false := by
  cases hh : shut t with
  | false => rfl
  | true => rcases (shut_iff t h).1 hh with e | e <;> omega

theorem opn_number (s : List UInt8) (r : List (List UInt8)) : opn s (cNumber :: r) 0 = (cNumber :: r, 0) := by rw [opn_cons]; rfl
theorem opn_relation (s : List UInt8) (r : List (List UInt8)) : opn s (cRelation :: r) 0 = (cRelation :: r, 0) := by rw [opn_cons]; rfl
theorem opn_term (s : List UInt8) (r : List (List UInt8)) : opn s (cTerm :: r) 0 = (cTerm :: r, 0) := by rw [opn_cons]; rfl
theorem sts_number (s : List UInt8) (r : List (List UInt8)) : sts cNumber s r = (r, decide (0 ≤ dg 999 s)) := rfl
theorem sts_relation (s : List UInt8) (r : List (List UInt8)) : sts cRelation s r = (r, rl s) := rfl
theorem sts_term (s : List UInt8) (r : List (List UInt8)) : sts cTerm s r = stTerm s r := rfl
theorem sts_factor (s : List UInt8) (r : List (List UInt8)) : sts cFactor s r = stFactor s r := rfl
theorem sts_command (s : List UInt8) (r : List (List UInt8)) : sts cCommand s r = stCommand s r := rfl

theorem fin_number (h : AllTok toks) {σ : PSt} (ho : Ok toks.length σ) (st : List (List UInt8)) : fin toks len σ (cNumber :: st) = fin toks len (σ.exp (T3 toks len) 29) st := by
  have := fin_must h ho (len := len) (k := cNumber) (st := st) (fun _ => st) (kd (T3 toks len) σ.pos = 29) (fun t => opn_number t st)
    (fun t ht e => by rw [e, sts_number, kind_num t ht]; simp)
    (fun e => by omega)
    (fun t ht e y => ⟨deeper_no ht (by omega) (by omega) (by omega) (by omega), shut_no ht (by omega) (by omega), rfl⟩)
    st (fun _ _ _ _ => rfl)
  rw [this]; unfold PSt.exp; split <;> rfl
theorem rl_iff (t : List UInt8) (h : Tokish t) : rl t = true ↔ (6 ≤ (tk t).1 ∧ (tk t).1 ≤ 10) := by
  have a6 := kind_lit t [60] 6 h (by decide)
  have a7 := kind_lit t [60, 61] 7 h (by decide)
  have a8 := kind_lit t [61] 8 h (by decide)
  have a9 := kind_lit t [62] 9 h (by decide)
  have a10 := kind_lit t [62, 61] 10 h (by decide)
  have e : rl t = true ↔ (t = [60] ∨ t = [60, 61] ∨ t = [61] ∨ t = [62] ∨ t = [62, 61]) := by unfold rl; simp [or_assoc]
  rw [e, ← a6, ← a7, ← a8, ← a9, ← a10]; omega
theorem fin_relation (h : AllTok toks) {σ : PSt} (ho : Ok toks.length σ) (st : List (List UInt8)) : fin toks len σ (cRelation :: st) = if 6 ≤ kd (T3 toks len) σ.pos ∧ kd (T3 toks len) σ.pos ≤ 10 then fin toks len (σ.adv (T3 toks len)) st else fin toks len (σ.ref (T3 toks len) 2) st :=
  fin_must h ho (len := len) (k := cRelation) (st := st) (fun _ => st) (6 ≤ kd (T3 toks len) σ.pos ∧ kd (T3 toks len) σ.pos ≤ 10) (fun t => opn_relation t st)
    (fun t ht e => by rw [e, sts_relation, rl_iff t ht])
    (fun e => by omega)
    (fun t ht e y => ⟨deeper_no ht (by omega) (by omega) (by omega) (by omega), shut_no ht (by omega) (by omega), rfl⟩)
    st (fun _ _ _ _ => rfl)

/-- A token of a kind that stands here: what its rule wants then. -/
theorem fin_goes (h : AllTok toks) {σ : PSt} (ho : Ok toks.length σ) {A B r : List (List UInt8)} {k : List UInt8} (hk : kd (T3 toks len) σ.pos ≠ 0)
    (hop : ∀ t, Tokish t → kd (T3 toks len) σ.pos = (tk t).1 → opn t A 0 = (k :: r, 0) ∧ sts k t r = (B, true) ∧ deeper t = false ∧ shut t = false) : fin toks len σ A = fin toks len (σ.adv (T3 toks len)) B := by
  obtain ⟨h1, he⟩ := kd_lt h ho hk
  rcases look (len := len) h σ ho.1 with ⟨t, i, _, g1, g2, _, g4⟩ | ⟨g1, _⟩
  · obtain ⟨p1, p2, p3, p4⟩ := hop t g1 g2
    rw [fin_plain he g2 g1 g4 p1 (by rw [p2]) p3 p4, p2]
  · omega

theorem fin_orand (h : AllTok toks) {σ : PSt} (ho : Ok toks.length σ) (hk : kd (T3 toks len) σ.pos = 23 ∨ kd (T3 toks len) σ.pos = 24) (st : List (List UInt8)) : fin toks len σ (cMoreFormula :: st) = fin toks len (σ.adv (T3 toks len)) (cFormula :: st) := by
  have hkd : kd (T3 toks len) σ.pos ≠ 0 := by omega
  obtain ⟨h1, he⟩ := kd_lt h ho hkd
  rcases look (len := len) h σ ho.1 with ⟨t, i, _, g1, g2, _, g4⟩ | ⟨g1, _⟩
  · rw [g2] at hk
    rcases hk with hk | hk
    · have e := (kind_lit t [111, 114] 23 g1 (by decide)).1 hk
      subst e
      have l := lit_sts (c := [111, 114]) (k := 23) (by decide) [111, 114] (cFormula :: st)
      rw [fin_plain he g2 g1 g4 (k := [111, 114]) (r := cFormula :: st) (by rw [opn_cons]; rfl) (by rw [l.1]; rfl) (by decide) (by decide), l.1]
    · have e := (kind_lit t [97, 110, 100] 24 g1 (by decide)).1 hk
      subst e
      have l := lit_sts (c := [97, 110, 100]) (k := 24) (by decide) [97, 110, 100] (cFormula :: st)
      rw [fin_plain he g2 g1 g4 (k := [97, 110, 100]) (r := cFormula :: st) (by rw [opn_cons]; rfl) (by rw [l.1]; rfl) (by decide) (by decide), l.1]
  · omega
theorem fin_semi (h : AllTok toks) {σ : PSt} (ho : Ok toks.length σ) (hk : kd (T3 toks len) σ.pos = 4) (st : List (List UInt8)) : fin toks len σ (cMoreCommands :: st) = fin toks len (σ.adv (T3 toks len)) (cCommands :: st) := by
  refine fin_goes h ho (by omega) (k := [59]) (r := cCommands :: st) (fun t ht e => ?_)
  rw [e] at hk
  have e' := (kind_lit t [59] 4 ht (by decide)).1 hk
  subst e'
  have l := lit_sts (c := [59]) (k := 4) (by decide) [59] (cCommands :: st)
  exact ⟨by rw [opn_cons]; rfl, by rw [l.1]; rfl, by decide, by decide⟩
theorem fin_plus (h : AllTok toks) {σ : PSt} (ho : Ok toks.length σ) (hk : kd (T3 toks len) σ.pos = 11) (st : List (List UInt8)) : fin toks len σ (cMoreTerm :: st) = fin toks len (σ.adv (T3 toks len)) (cNumber :: st) := by
  refine fin_goes h ho (by omega) (k := [43]) (r := cNumber :: st) (fun t ht e => ?_)
  rw [e] at hk
  have e' := (kind_lit t [43] 11 ht (by decide)).1 hk
  subst e'
  have l := lit_sts (c := [43]) (k := 11) (by decide) [43] (cNumber :: st)
  exact ⟨by rw [opn_cons]; rfl, by rw [l.1]; rfl, by decide, by decide⟩
theorem fin_minus (h : AllTok toks) {σ : PSt} (ho : Ok toks.length σ) (hk : kd (T3 toks len) σ.pos = 12) (st : List (List UInt8)) : fin toks len σ (cMoreTerm :: st) = fin toks len (σ.adv (T3 toks len)) (cNumber :: st) := by
  refine fin_goes h ho (by omega) (k := [45]) (r := cNumber :: st) (fun t ht e => ?_)
  rw [e] at hk
  have e' := (kind_lit t [45] 12 ht (by decide)).1 hk
  subst e'
  have l := lit_sts (c := [45]) (k := 12) (by decide) [45] (cNumber :: st)
  exact ⟨by rw [opn_cons]; rfl, by rw [l.1]; rfl, by decide, by decide⟩

theorem fin_termV (h : AllTok toks) {σ : PSt} (ho : Ok toks.length σ) (hk : kd (T3 toks len) σ.pos = 28) (st : List (List UInt8)) : fin toks len σ (cTerm :: st) = fin toks len (σ.adv (T3 toks len)) (cMoreTerm :: st) := by
  refine fin_goes h ho (by omega) (k := cTerm) (r := st) (fun t ht e => ?_)
  rw [e] at hk
  exact ⟨opn_term _ _, by rw [sts_term]; unfold stTerm; rw [if_pos ((kind_var t ht).1 hk)], deeper_no ht (by omega) (by omega) (by omega) (by omega), shut_no ht (by omega) (by omega)⟩
theorem fin_termM (h : AllTok toks) {σ : PSt} (ho : Ok toks.length σ) (hk : kd (T3 toks len) σ.pos = 12) (st : List (List UInt8)) : fin toks len σ (cTerm :: st) = fin toks len (σ.adv (T3 toks len)) (cNumber :: st) := by
  refine fin_goes h ho (by omega) (k := cTerm) (r := st) (fun t ht e => ?_)
  rw [e] at hk
  have e' := (kind_lit t [45] 12 ht (by decide)).1 hk
  subst e'
  exact ⟨opn_term _ _, rfl, by decide, by decide⟩
theorem fin_termN (h : AllTok toks) {σ : PSt} (ho : Ok toks.length σ) (h1 : kd (T3 toks len) σ.pos ≠ 28) (h2 : kd (T3 toks len) σ.pos ≠ 12) (st : List (List UInt8)) : fin toks len σ (cTerm :: st) = fin toks len (σ.exp (T3 toks len) 29) st := by
  have hs : ∀ t, Tokish t → kd (T3 toks len) σ.pos = (tk t).1 → sts cTerm t st = (st, decide (0 ≤ dg 999 t)) := fun t ht e => by
    rw [sts_term]; unfold stTerm
    rw [if_neg (fun hh => h1 (by rw [e]; exact (kind_var t ht).2 hh))]
    have : (t == [45]) = false := by
      rw [beq_eq_false_iff_ne]; intro hh; exact h2 (by rw [e]; exact (kind_lit t [45] 12 ht (by decide)).2 hh)
    rw [this]; rfl
  have := fin_must h ho (len := len) (k := cTerm) (st := st) (fun _ => st) (kd (T3 toks len) σ.pos = 29) (fun t => opn_term t st)
    (fun t ht e => by rw [hs t ht e, e, kind_num t ht]; simp)
    (fun e => by omega)
    (fun t ht e y => ⟨deeper_no ht (by omega) (by omega) (by omega) (by omega), shut_no ht (by omega) (by omega), by rw [hs t ht e]⟩)
    st (fun _ _ _ _ => rfl)
  rw [this]; unfold PSt.exp; split <;> rfl

theorem fin_bool (h : AllTok toks) {σ : PSt} (ho : Ok toks.length σ) (hk : kd (T3 toks len) σ.pos = 26 ∨ kd (T3 toks len) σ.pos = 27) (st : List (List UInt8)) : fin toks len σ (cFactor :: st) = fin toks len (σ.adv (T3 toks len)) st := by
  refine fin_goes h ho (by omega) (k := cFactor) (r := st) (fun t ht e => ?_)
  rw [e] at hk
  rcases hk with hk | hk
  · have e' := (kind_lit t [116, 114, 117, 101] 26 ht (by decide)).1 hk
    subst e'
    exact ⟨opn_factor _ _ _, rfl, by decide, by decide⟩
  · have e' := (kind_lit t [102, 97, 108, 115, 101] 27 ht (by decide)).1 hk
    subst e'
    exact ⟨opn_factor _ _ _, rfl, by decide, by decide⟩
/-- Where no formula's own token stands, a FACTOR is a comparison. -/
theorem fin_compare (h : AllTok toks) {σ : PSt} (ho : Ok toks.length σ) (h1 : kd (T3 toks len) σ.pos ≠ 25) (h2 : kd (T3 toks len) σ.pos ≠ 2) (h3 : kd (T3 toks len) σ.pos ≠ 26) (h4 : kd (T3 toks len) σ.pos ≠ 27) (st : List (List UInt8)) :
    fin toks len σ (cFactor :: st) = fin toks len σ (cTerm :: cRelation :: cTerm :: st) := by
  by_cases he : σ.e = 0
  · rcases look (len := len) h σ ho.1 with ⟨t, i, _, g1, g2, _, g4⟩ | ⟨_, _, _, g4⟩
    · rw [fin_tok he g4 (opn_factor t st 0), fin_tok he g4 (opn_term t (cRelation :: cTerm :: st)), sts_factor, sts_term]
      have a1 : (t == [110, 111, 116]) = false := by rw [beq_eq_false_iff_ne]; intro hh; exact h1 (by rw [g2]; exact (kind_lit t _ 25 g1 (by decide)).2 hh)
      have a2 : (t == [40]) = false := by rw [beq_eq_false_iff_ne]; intro hh; exact h2 (by rw [g2]; exact (kind_lit t _ 2 g1 (by decide)).2 hh)
      have a3 : (t == [116, 114, 117, 101]) = false := by rw [beq_eq_false_iff_ne]; intro hh; exact h3 (by rw [g2]; exact (kind_lit t _ 26 g1 (by decide)).2 hh)
      have a4 : (t == [102, 97, 108, 115, 101]) = false := by rw [beq_eq_false_iff_ne]; intro hh; exact h4 (by rw [g2]; exact (kind_lit t _ 27 g1 (by decide)).2 hh)
      have : stFactor t st = stTerm t (cRelation :: cTerm :: st) := by unfold stFactor; rw [a1, a2, a3, a4]; rfl
      rw [this]
    · rw [fin_end he g4 ⟨cFactor, st, 0, opn_factor [] st 0⟩, fin_end he g4 ⟨cTerm, _, 0, opn_term [] _⟩]
  · rw [fin_err he, fin_err he]

/-- A token that opens: it goes deeper, or is refused. -/
theorem fin_enter (h : AllTok toks) {σ : PSt} (ho : Ok toks.length σ) {A B r : List (List UInt8)} {k : List UInt8} (hk : kd (T3 toks len) σ.pos ≠ 0)
    (hop : ∀ t, Tokish t → kd (T3 toks len) σ.pos = (tk t).1 → opn t A 0 = (k :: r, 0) ∧ sts k t r = (B, true) ∧ deeper t = true) : fin toks len σ A = fin toks len (σ.ent (T3 toks len)) B := by
  obtain ⟨h1, he⟩ := kd_lt h ho hk
  have hd := ho.2.2 he
  rcases look (len := len) h σ ho.1 with ⟨t, i, _, g1, g2, g3, g4⟩ | ⟨g1, _⟩
  · obtain ⟨p1, p2, p3⟩ := hop t g1 g2
    rw [fin_tok he g4 p1, p2, p3]
    unfold PSt.ent
    by_cases h10 : σ.d = 10
    · rw [if_pos h10, fin_ref _ he 3 (by omega), g3]
      simp only [Bool.true_eq_false, if_false, if_true]
      rw [if_pos (by omega)]
    · rw [if_neg h10, fin_adv (σ := { σ with d := σ.d + 1 }) _ he hk]
      simp only [Bool.true_eq_false, if_false, if_true]
      rw [if_neg (by omega)]
  · omega
theorem fin_not (h : AllTok toks) {σ : PSt} (ho : Ok toks.length σ) (hk : kd (T3 toks len) σ.pos = 25) (st : List (List UInt8)) : fin toks len σ (cFactor :: st) = fin toks len (σ.ent (T3 toks len)) (cFactor :: cNotEnds :: st) := by
  refine fin_enter h ho (by omega) (k := cFactor) (r := st) (fun t ht e => ?_)
  rw [e] at hk
  have e' := (kind_lit t [110, 111, 116] 25 ht (by decide)).1 hk
  subst e'
  exact ⟨opn_factor _ _ _, rfl, by decide⟩
theorem fin_open (h : AllTok toks) {σ : PSt} (ho : Ok toks.length σ) (hk : kd (T3 toks len) σ.pos = 2) (st : List (List UInt8)) : fin toks len σ (cFactor :: st) = fin toks len (σ.ent (T3 toks len)) (cFormula :: [41] :: st) := by
  refine fin_enter h ho (by omega) (k := cFactor) (r := st) (fun t ht e => ?_)
  rw [e] at hk
  have e' := (kind_lit t [40] 2 ht (by decide)).1 hk
  subst e'
  exact ⟨opn_factor _ _ _, rfl, by decide⟩
theorem fin_if (h : AllTok toks) {σ : PSt} (ho : Ok toks.length σ) (hk : kd (T3 toks len) σ.pos = 17) (st : List (List UInt8)) : fin toks len σ (cCommand :: st) = fin toks len (σ.ent (T3 toks len)) (cFormula :: [116, 104, 101, 110] :: cCommands :: [101, 108, 115, 101] :: cCommands :: [101, 110, 100] :: st) := by
  refine fin_enter h ho (by omega) (k := cCommand) (r := st) (fun t ht e => ?_)
  rw [e] at hk
  have e' := (kind_lit t [105, 102] 17 ht (by decide)).1 hk
  subst e'
  exact ⟨opn_command _ _ _, rfl, by decide⟩
theorem fin_while (h : AllTok toks) {σ : PSt} (ho : Ok toks.length σ) (hk : kd (T3 toks len) σ.pos = 21) (st : List (List UInt8)) : fin toks len σ (cCommand :: st) = fin toks len (σ.ent (T3 toks len)) (cFormula :: [107, 101, 101, 112] :: cFormula :: [100, 111] :: cCommands :: [101, 110, 100] :: st) := by
  refine fin_enter h ho (by omega) (k := cCommand) (r := st) (fun t ht e => ?_)
  rw [e] at hk
  have e' := (kind_lit t [119, 104, 105, 108, 101] 21 ht (by decide)).1 hk
  subst e'
  exact ⟨opn_command _ _ _, rfl, by decide⟩
theorem fin_skip (h : AllTok toks) {σ : PSt} (ho : Ok toks.length σ) (hk : kd (T3 toks len) σ.pos = 16) (st : List (List UInt8)) : fin toks len σ (cCommand :: st) = fin toks len (σ.adv (T3 toks len)) st := by
  refine fin_goes h ho (by omega) (k := cCommand) (r := st) (fun t ht e => ?_)
  rw [e] at hk
  have e' := (kind_lit t [115, 107, 105, 112] 16 ht (by decide)).1 hk
  subst e'
  exact ⟨opn_command _ _ _, rfl, by decide, by decide⟩
theorem fin_assign (h : AllTok toks) {σ : PSt} (ho : Ok toks.length σ) (hk : kd (T3 toks len) σ.pos = 28) (st : List (List UInt8)) : fin toks len σ (cCommand :: st) = fin toks len (σ.adv (T3 toks len)) ([58, 61] :: cTerm :: st) := by
  refine fin_goes h ho (by omega) (k := cCommand) (r := st) (fun t ht e => ?_)
  rw [e] at hk
  have hne : (t == [115, 107, 105, 112]) = false := by
    rw [beq_eq_false_iff_ne]; intro hh; have := (kind_lit t _ 16 ht (by decide)).2 hh; omega
  exact ⟨opn_command _ _ _, by rw [sts_command]; unfold stCommand; rw [hne, if_pos ((kind_var t ht).1 hk)]; rfl, deeper_no ht (by omega) (by omega) (by omega) (by omega), shut_no ht (by omega) (by omega)⟩
theorem fin_nocommand (h : AllTok toks) {σ : PSt} (ho : Ok toks.length σ) (h1 : kd (T3 toks len) σ.pos ≠ 16) (h2 : kd (T3 toks len) σ.pos ≠ 28) (h3 : kd (T3 toks len) σ.pos ≠ 17) (h4 : kd (T3 toks len) σ.pos ≠ 21) (st : List (List UInt8)) : fin toks len σ (cCommand :: st) = fin toks len (σ.ref (T3 toks len) 2) st := by
  have := fin_must h ho (len := len) (k := cCommand) (st := st) (fun _ => st) False (fun t => opn_command t st 0)
    (fun t ht e => by
      have a1 : (t == [115, 107, 105, 112]) = false := by rw [beq_eq_false_iff_ne]; intro hh; exact h1 (by rw [e]; exact (kind_lit t _ 16 ht (by decide)).2 hh)
      have a3 : (t == [105, 102]) = false := by rw [beq_eq_false_iff_ne]; intro hh; exact h3 (by rw [e]; exact (kind_lit t _ 17 ht (by decide)).2 hh)
      have a4 : (t == [119, 104, 105, 108, 101]) = false := by rw [beq_eq_false_iff_ne]; intro hh; exact h4 (by rw [e]; exact (kind_lit t _ 21 ht (by decide)).2 hh)
      rw [sts_command]; unfold stCommand
      rw [a1, if_neg (show ¬ (0 ≤ vr t) from fun hh => h2 (by rw [e]; exact (kind_var t ht).2 hh)), a3, a4]; simp)
    (fun e => by simp)
    (fun t ht e y => y.elim)
    st (fun _ _ _ y => y.elim)
  rw [this, if_neg (by simp)]

theorem goes_ent (h : AllTok toks) {σ : PSt} (ho : Ok toks.length σ) (hk : kd (T3 toks len) σ.pos ≠ 0) : Ok toks.length (σ.ent (T3 toks len)) ∧ σ.pos < (σ.ent (T3 toks len)).pos ∧ ((σ.ent (T3 toks len)).e = 0 → (σ.ent (T3 toks len)).d = σ.d + 1) := by
  obtain ⟨h1, he⟩ := kd_lt h ho hk
  have hd := ho.2.2 he
  unfold PSt.ent
  split
  · refine ⟨(goes_ref ho 3 (by omega)).1, by rw [ref_pos]; exact h1, fun e => absurd e (ref_ne _ _ _ (by omega))⟩
  · have hk' : kd (T3 toks len) ({ σ with d := σ.d + 1 } : PSt).pos ≠ 0 := hk
    obtain ⟨e1, e2, e3⟩ := adv_e (T3 toks len) ({ σ with d := σ.d + 1 } : PSt)
    have e4 := adv_pos (T3 toks len) ({ σ with d := σ.d + 1 } : PSt) hk'
    refine ⟨⟨by rw [e4]; exact h1, fun hh => absurd (e1.trans he) hh, fun _ => by rw [e3]; simp only; omega⟩, by rw [e4]; exact Nat.lt_succ_self _, fun _ => e3⟩

theorem lv_e (σ : PSt) : σ.lv.e = σ.e ∧ σ.lv.pl = σ.pl ∧ σ.lv.pos = σ.pos ∧ σ.lv.d = wrap64 (σ.d - 1) := ⟨rfl, rfl, rfl, rfl⟩
theorem wrap_d {d : Int} (h : 0 ≤ d ∧ d ≤ 10) : wrap64 (d - 1) = d - 1 := by
  rw [← IntWalk.i64_left]; exact IntWalk.i64_in _ (by omega)
theorem opn_shift (s : List UInt8) (st : List (List UInt8)) : ∀ e, opn s st (e + 1) = ((opn s st e).1, (opn s st e).2 + 1) := by
  induction st with
  | nil => intro e; rfl
  | cons k r ih =>
    intro e
    rw [opn_cons, opn_cons]
    repeat' split
    all_goals first | rfl | exact ih _
theorem runM_notEnds (l : List (List UInt8 × Nat)) (st : List (List UInt8)) (d : Int) : runM len l (cNotEnds :: st) (d + 1) = runM len l st d := by
  have ho : ∀ t, opn t (cNotEnds :: st) 0 = ((opn t st 0).1, (opn t st 0).2 + 1) := fun t => by
    have : opn t (cNotEnds :: st) 0 = opn t st (0 + 1) := by rw [opn_cons]; rfl
    rw [this, opn_shift]
  cases l with
  | nil => simp only [runM]; rw [ho]
  | cons a r =>
    obtain ⟨t, i⟩ := a
    rw [runM_step, runM_step, ho]
    rcases opn t st 0 with ⟨o, m⟩
    cases o with
    | nil => rfl
    | cons k r => simp only; rw [show d + 1 - (m + 1) = d - m by omega]
/-- A not ends behind its FACTOR. -/
theorem fin_notEnds {σ : PSt} (ho : Ok toks.length σ) (st : List (List UInt8)) : fin toks len σ (cNotEnds :: st) = fin toks len σ.lv st := by
  by_cases he : σ.e = 0
  · have hd := ho.2.2 he
    unfold fin
    rw [if_pos he, if_pos (show σ.lv.e = 0 from he)]
    show runM len (toks.drop σ.pos) (cNotEnds :: st) σ.d = runM len (toks.drop σ.pos) st (wrap64 (σ.d - 1))
    rw [wrap_d hd, ← runM_notEnds _ st (σ.d - 1)]
    rw [show σ.d - 1 + 1 = σ.d by omega]
  · rw [fin_err he, fin_err (show ¬ σ.lv.e = 0 from he)]; rfl
/-- What shuts: the literal, and the depth. -/
theorem fin_shut (h : AllTok toks) {σ : PSt} (ho : Ok toks.length σ) {c : List UInt8} {k : Int} (hc : (c, k) ∈ syms ++ kws) (hs : shut c = true) (hdp : deeper c = false) (st : List (List UInt8)) :
    fin toks len σ (c :: st) = fin toks len (σ.exp (T3 toks len) k).lv st := by
  have hr := sk_range _ hc
  simp only at hr
  by_cases he : σ.e = 0
  · have hd := ho.2.2 he
    rcases look (len := len) h σ ho.1 with ⟨t, i, _, g1, g2, g3, g4⟩ | ⟨g0, g2, g3, g4⟩
    · rw [fin_tok he g4 (lit_sts hc t st).2, (lit_sts hc t st).1]
      unfold PSt.exp
      rw [g2]
      by_cases htc : t = c
      · rw [if_pos ((kind_lit t c k g1 hc).2 htc)]
        subst htc
        rw [hs, hdp]
        have hkd : kd (T3 toks len) σ.pos ≠ 0 := by rw [g2, (kind_lit t t k g1 hc).2 rfl]; omega
        unfold fin
        obtain ⟨e1, e2, e3⟩ := adv_e (T3 toks len) σ
        have e4 := adv_pos (T3 toks len) σ hkd
        rw [if_pos (show (σ.adv (T3 toks len)).lv.e = 0 from e1.trans he)]
        show _ = runM len (toks.drop (σ.adv (T3 toks len)).pos) st (wrap64 ((σ.adv (T3 toks len)).d - 1))
        rw [e3, e4, wrap_d hd]; simp
      · rw [if_neg (fun hh => htc ((kind_lit t c k g1 hc).1 hh))]
        have : (c == t) = false := by rw [beq_eq_false_iff_ne]; exact fun hh => htc hh.symm
        rw [this]
        rw [fin_err (show ¬ (σ.ref (T3 toks len) 2).lv.e = 0 from ref_ne _ _ _ (by omega))]
        have := fin_ref (toks := toks) (len := len) (T3 toks len) he 2 (by omega) st
        rw [fin_err (ref_ne _ _ _ (by omega))] at this
        show _ = ((σ.ref (T3 toks len) 2).e, (σ.ref (T3 toks len) 2).pl)
        rw [this, g3]; rfl
    · rw [fin_end he g4 ⟨c, st, 0, (lit_sts hc [] st).2⟩]
      unfold PSt.exp
      rw [g2, if_neg (by omega), fin_err (show ¬ (σ.ref (T3 toks len) 2).lv.e = 0 from ref_ne _ _ _ (by omega))]
      have := fin_ref (toks := toks) (len := len) (T3 toks len) he 2 (by omega) st
      rw [fin_err (ref_ne _ _ _ (by omega))] at this
      show _ = ((σ.ref (T3 toks len) 2).e, (σ.ref (T3 toks len) 2).pl)
      rw [this, g3]
  · have hpos := ho.err he
    unfold PSt.exp
    rw [if_neg (by rw [hpos, kd_end]; omega), fin_err he]
    obtain ⟨r1, r2⟩ := ref_err (T3 toks len) σ 2 he
    rw [fin_err (show ¬ (σ.ref (T3 toks len) 2).lv.e = 0 by show ¬ (σ.ref (T3 toks len) 2).e = 0; rw [r1]; exact he)]
    show _ = ((σ.ref (T3 toks len) 2).e, (σ.ref (T3 toks len) 2).pl)
    rw [r1, r2]
/-- Between what opens and what shuts: the depth is as it was. -/
theorem goes_lv {σ σ1 σ2 : PSt} (ho : Ok toks.length σ) (h1 : σ.pos < σ1.pos ∧ (σ1.e = 0 → σ1.d = σ.d + 1)) (he1 : σ1.e = 0 → σ.e = 0) (h2 : Goes toks.length σ1 σ2) : Goes toks.length σ σ2.lv := by
  obtain ⟨g1, g2, g3⟩ := h2
  refine ⟨⟨g1.1, g1.2.1, fun e => ?_⟩, by show σ.pos ≤ σ2.pos; omega, fun e => ?_⟩
  · have e' : σ2.e = 0 := e
    obtain ⟨a1, a2⟩ := g3 e'
    have hd := ho.2.2 (he1 a1)
    have hd1 := h1.2 a1
    have : σ2.lv.d = σ.d := by show wrap64 (σ2.d - 1) = σ.d; rw [a2, hd1, ← IntWalk.i64_left, IntWalk.i64_in _ (by omega)]; omega
    rw [this]; exact hd
  · have e' : σ2.e = 0 := e
    obtain ⟨a1, a2⟩ := g3 e'
    have hd := ho.2.2 (he1 a1)
    have hd1 := h1.2 a1
    exact ⟨he1 a1, by show wrap64 (σ2.d - 1) = σ.d; rw [a2, hd1, ← IntWalk.i64_left, IntWalk.i64_in _ (by omega)]; omega⟩

end Go.Proofs.YtkinoehmcfhgbaaGreatDoor.Av
set_option linter.unusedVariables false
set_option linter.unusedSimpArgs false
namespace Go.Proofs.YtkinoehmcfhgbaaGreatDoor.Av
open Go.RowKit

/-- The text of the token at a place; behind the last one the empty text. -/
def sAt (toks : List (List UInt8 × Nat)) (k : Nat) : List UInt8 := (toks[k]?.map (·.1)).getD []
/-- The TERM at a place: its variable, its number, the place behind it. -/
def trm (toks : List (List UInt8 × Nat)) (k : Nat) : Int × Int × Nat :=
  if 0 ≤ vr (sAt toks k) then
    (if sAt toks (k + 1) == [43] then (vr (sAt toks k), dg 999 (sAt toks (k + 2)), k + 3) else if sAt toks (k + 1) == [45] then (vr (sAt toks k), -dg 999 (sAt toks (k + 2)), k + 3) else (vr (sAt toks k), 0, k + 1))
  else if sAt toks k == [45] then (-1, -dg 999 (sAt toks (k + 1)), k + 2) else (-1, dg 999 (sAt toks k), k + 1)
theorem dgo_range (m : Int) (hm : 0 ≤ m) : ∀ (l : List UInt8) (v : Int), 0 ≤ v → v ≤ m → -1 ≤ dgo m l v ∧ dgo m l v ≤ m
  | [], v, h0, h1 => by simp only [dgo]; omega
  | c :: r, v, h0, h1 => by
    simp only [dgo]
    split
    · omega
    · split
      · omega
      · exact dgo_range m hm r _ (by omega) (by omega)
theorem dg_range (m : Int) (hm : 0 ≤ m) (l : List UInt8) : -1 ≤ dg m l ∧ dg m l ≤ m := by
  cases l with
  | nil => simp only [dg]; omega
  | cons c r =>
    simp only [dg]
    split
    · omega
    · exact dgo_range m hm _ 0 (by omega) hm
theorem trm_range (toks : List (List UInt8 × Nat)) (k : Nat) : -1 ≤ (trm toks k).1 ∧ (trm toks k).1 ≤ 3 ∧ -999 ≤ (trm toks k).2.1 ∧ (trm toks k).2.1 ≤ 999 ∧ k + 1 ≤ (trm toks k).2.2 ∧ (trm toks k).2.2 ≤ k + 3 := by
  have h1 := vr_range (sAt toks k)
  have d0 := dg_range 999 (by omega) (sAt toks k)
  have d1 := dg_range 999 (by omega) (sAt toks (k + 1))
  have d2 := dg_range 999 (by omega) (sAt toks (k + 2))
  unfold trm
  repeat' split
  all_goals dsimp only
  all_goals omega

/-- Formulas. -/
inductive Fm where
  | tt
  | ff
  | cmp (r : Int) (a b : Int × Int)
  | no (f : Fm)
  | and (f g : Fm)
  | or (f g : Fm)
/-- What is read: a FACTOR, a PART, a FORMULA; what goes on behind a part, behind a formula. -/
inductive Tg where
  | fac
  | part
  | form
  | partL (f : Fm)
  | formL (f : Fm)
/-- The relations, as the program numbers them. -/
def rel (l : List UInt8) : Int := if l == [60] then 0 else if l == [60, 61] then 1 else if l == [62] then 3 else if l == [62, 61] then 4 else 2
theorem rel_range (l : List UInt8) : 0 ≤ rel l ∧ rel l ≤ 4 := by
  unfold rel
  repeat' split
  all_goals omega

/-- How a formula stands in tokens. -/
inductive Rd (toks : List (List UInt8 × Nat)) : Tg → Nat → Fm → Nat → Prop
  | tru {k : Nat} : sAt toks k = [116, 114, 117, 101] → Rd toks .fac k .tt (k + 1)
  | fls {k : Nat} : sAt toks k = [102, 97, 108, 115, 101] → Rd toks .fac k .ff (k + 1)
  | no {k k' : Nat} {f : Fm} : sAt toks k = [110, 111, 116] → Rd toks .fac (k + 1) f k' → Rd toks .fac k (.no f) k'
  | par {k k' : Nat} {f : Fm} : sAt toks k = [40] → Rd toks .form (k + 1) f k' → Rd toks .fac k f (k' + 1)
  | cmp {k : Nat} : sAt toks k ≠ [116, 114, 117, 101] → sAt toks k ≠ [102, 97, 108, 115, 101] → sAt toks k ≠ [110, 111, 116] → sAt toks k ≠ [40] →
      Rd toks .fac k (.cmp (rel (sAt toks (trm toks k).2.2)) ((trm toks k).1, (trm toks k).2.1) ((trm toks ((trm toks k).2.2 + 1)).1, (trm toks ((trm toks k).2.2 + 1)).2.1)) (trm toks ((trm toks k).2.2 + 1)).2.2
  | part {k k1 k' : Nat} {f g : Fm} : Rd toks .fac k f k1 → Rd toks (.partL f) k1 g k' → Rd toks .part k g k'
  | partS {k k1 k' : Nat} {f g h : Fm} : sAt toks k = [97, 110, 100] → Rd toks .fac (k + 1) g k1 → Rd toks (.partL (.and f g)) k1 h k' → Rd toks (.partL f) k h k'
  | partE {k : Nat} {f : Fm} : sAt toks k ≠ [97, 110, 100] → Rd toks (.partL f) k f k
  | form {k k1 k' : Nat} {f g : Fm} : Rd toks .part k f k1 → Rd toks (.formL f) k1 g k' → Rd toks .form k g k'
  | formS {k k1 k' : Nat} {f g h : Fm} : sAt toks k = [111, 114] → Rd toks .part (k + 1) g k1 → Rd toks (.formL (.or f g)) k1 h k' → Rd toks (.formL f) k h k'
  | formE {k : Nat} {f : Fm} : sAt toks k ≠ [111, 114] → Rd toks (.formL f) k f k

/-- A reading goes on: of a factor, a part, a formula by at least a token. -/
theorem Rd.le {toks : List (List UInt8 × Nat)} {t : Tg} {k k' : Nat} {f : Fm} (h : Rd toks t k f k') : k ≤ k' ∧ ((t = .fac ∨ t = .part ∨ t = .form) → k + 1 ≤ k') := by
  induction h with
  | tru _ => exact ⟨by omega, fun _ => by omega⟩
  | fls _ => exact ⟨by omega, fun _ => by omega⟩
  | no _ _ ih => exact ⟨by have := ih.1; omega, fun _ => by have := ih.1; omega⟩
  | par _ _ ih => exact ⟨by have := ih.1; omega, fun _ => by have := ih.1; omega⟩
  | @cmp k _ _ _ _ =>
    have h1 := trm_range toks k
    have h2 := trm_range toks ((trm toks k).2.2 + 1)
    exact ⟨by omega, fun _ => by omega⟩
  | part _ _ h1 h2 => have := h1.2 (Or.inl rfl); exact ⟨by have := h2.1; omega, fun _ => by have := h2.1; omega⟩
  | partS _ _ _ h1 h2 => exact ⟨by have := h2.1; have := h1.1; omega, fun h => by rcases h with h | h | h <;> cases h⟩
  | partE _ => exact ⟨Nat.le_refl _, fun h => by rcases h with h | h | h <;> cases h⟩
  | form _ _ h1 h2 => have := h1.2 (Or.inr (Or.inl rfl)); exact ⟨by have := h2.1; omega, fun _ => by have := h2.1; omega⟩
  | formS _ _ _ h1 h2 => exact ⟨by have := h2.1; have := h1.1; omega, fun h => by rcases h with h | h | h <;> cases h⟩
  | formE _ => exact ⟨Nat.le_refl _, fun h => by rcases h with h | h | h <;> cases h⟩

/-- Commands; several in a row lie to the right. -/
inductive Cm where
  | skip
  | asg (x : Int) (t : Int × Int)
  | ite (f : Fm) (a b : Cm)
  | loop (f g : Fm) (a : Cm)
  | seq (a b : Cm)
/-- How a COMMAND (false), COMMANDS (true) stand in tokens. -/
inductive Rc (toks : List (List UInt8 × Nat)) : Bool → Nat → Cm → Nat → Prop
  | skip {k : Nat} : sAt toks k = [115, 107, 105, 112] → Rc toks false k .skip (k + 1)
  | asg {k : Nat} : 0 ≤ vr (sAt toks k) → Rc toks false k (.asg (vr (sAt toks k)) ((trm toks (k + 2)).1, (trm toks (k + 2)).2.1)) (trm toks (k + 2)).2.2
  | ite {k k1 k2 k3 : Nat} {f : Fm} {a b : Cm} : sAt toks k = [105, 102] → Rd toks .form (k + 1) f k1 → Rc toks true (k1 + 1) a k2 → Rc toks true (k2 + 1) b k3 → Rc toks false k (.ite f a b) (k3 + 1)
  | loop {k k1 k2 k3 : Nat} {f g : Fm} {a : Cm} : sAt toks k = [119, 104, 105, 108, 101] → Rd toks .form (k + 1) f k1 → Rd toks .form (k1 + 1) g k2 → Rc toks true (k2 + 1) a k3 → Rc toks false k (.loop f g a) (k3 + 1)
  | one {k k' : Nat} {c : Cm} : Rc toks false k c k' → sAt toks k' ≠ [59] → Rc toks true k c k'
  | seq {k k1 k' : Nat} {c r : Cm} : Rc toks false k c k1 → sAt toks k1 = [59] → Rc toks true (k1 + 1) r k' → Rc toks true k (.seq c r) k'
theorem Rc.le {toks : List (List UInt8 × Nat)} {t : Bool} {k k' : Nat} {c : Cm} (h : Rc toks t k c k') : k + 1 ≤ k' := by
  induction h with
  | skip _ => omega
  | @asg k _ => have h2 := trm_range toks (k + 2); omega
  | ite _ h1 _ _ h2 h3 => have := h1.le.1; omega
  | loop _ h1 h2 _ h3 => have := h1.le.1; have := h2.le.1; omega
  | one _ _ h => exact h
  | seq _ _ _ h1 h2 => omega

variable {toks : List (List UInt8 × Nat)} {len : Nat}
/-- The token at a place, as the program has it and as the document. -/
theorem sAt_tok (hk : AllTok toks) {k : Nat} (h : k ≤ toks.length) :
    (∃ t, Tokish t ∧ k < toks.length ∧ sAt toks k = t ∧ kd (T3 toks len) k = (tk t).1 ∧ vlu (T3 toks len) k = (tk t).2) ∨ (k = toks.length ∧ sAt toks k = [] ∧ kd (T3 toks len) k = 0) := by
  by_cases hl : k < toks.length
  · obtain ⟨⟨t, i⟩, ht⟩ : ∃ t, toks[k]? = some t := ⟨_, List.getElem?_eq_getElem hl⟩
    have h3 := T3_tok (len := len) ht
    refine Or.inl ⟨t, hk t i (List.mem_of_getElem? ht), hl, ?_, ?_, ?_⟩
    · unfold sAt; rw [ht]; rfl
    · unfold kd; rw [h3]
    · unfold vlu; rw [h3]
  · have e : k = toks.length := by omega
    subst e
    exact Or.inr ⟨rfl, by unfold sAt; rw [List.getElem?_eq_none (Nat.le_refl _)]; rfl, kd_end toks len⟩
theorem lits_ne : ∀ x ∈ syms ++ kws, x.1 ≠ [] := by decide
theorem lit_at (hk : AllTok toks) {k : Nat} (h : k ≤ toks.length) {c : List UInt8} {n : Int} (hc : (c, n) ∈ syms ++ kws) : kd (T3 toks len) k = n ↔ sAt toks k = c := by
  rcases sAt_tok (len := len) hk h with ⟨t, ht, hl, hs, h1, h2⟩ | ⟨e, hs, h1⟩
  · rw [h1, hs]; exact kind_lit t c n ht hc
  · rw [h1, hs]
    have := sk_range _ hc
    have h9 := lits_ne _ hc
    exact ⟨fun e => by dsimp only at this; omega, fun e => absurd e.symm h9⟩
theorem tk_var (t : List UInt8) (h : Tokish t) (h8 : (tk t).1 = 28) : (tk t).2 = vr t := by
  unfold tk at h8 ⊢
  by_cases hs : 0 < sgn t
  · obtain ⟨k, hk⟩ := sym_cases t h hs
    have := (syms_kind _ hk).1
    have h9 := sk_range (t, k) (by simp [hk])
    have e : (tk t).1 = 28 := by unfold tk; exact h8
    rw [this] at e; dsimp only at e h9; omega
  · rw [if_neg hs] at h8 ⊢
    unfold wk at h8 ⊢
    have := kw_range t
    split at h8
    · dsimp only at h8; omega
    · rename_i hkw
      rw [if_neg hkw]
      split at h8
      · rename_i hv; rw [if_pos hv]
      · split at h8 <;> simp at h8
theorem tk_num (t : List UInt8) (h : Tokish t) (h8 : (tk t).1 = 29) : (tk t).2 = dg 999 t := by
  unfold tk at h8 ⊢
  by_cases hs : 0 < sgn t
  · obtain ⟨k, hk⟩ := sym_cases t h hs
    have := (syms_kind _ hk).1
    have h9 := sk_range (t, k) (by simp [hk])
    have e : (tk t).1 = 29 := by unfold tk; exact h8
    rw [this] at e; dsimp only at e h9; omega
  · rw [if_neg hs] at h8 ⊢
    unfold wk at h8 ⊢
    have := kw_range t
    split at h8
    · dsimp only at h8; omega
    · rename_i hkw
      rw [if_neg hkw]
      split at h8
      · simp at h8
      · rename_i hv
        rw [if_neg hv]
        split at h8
        · rename_i hd; rw [if_pos hd]
        · simp at h8
theorem var_at (hk : AllTok toks) {k : Nat} (h : k ≤ toks.length) : (kd (T3 toks len) k = 28 → vlu (T3 toks len) k = vr (sAt toks k)) ∧ (kd (T3 toks len) k = 28 ↔ 0 ≤ vr (sAt toks k)) := by
  rcases sAt_tok (len := len) hk h with ⟨t, ht, hl, hs, h1, h2⟩ | ⟨e, hs, h1⟩
  · rw [h1, h2, hs]; exact ⟨tk_var t ht, kind_var t ht⟩
  · rw [h1, hs]; exact ⟨fun e => by omega, fun e => by omega, fun e => absurd e (by decide)⟩
theorem num_at (hk : AllTok toks) {k : Nat} (h : k ≤ toks.length) (h9 : kd (T3 toks len) k = 29) : vlu (T3 toks len) k = dg 999 (sAt toks k) := by
  rcases sAt_tok (len := len) hk h with ⟨t, ht, hl, hs, h1, h2⟩ | ⟨e, hs, h1⟩
  · rw [h2, hs]; exact tk_num t ht (by rw [← h1]; exact h9)
  · omega
end Go.Proofs.YtkinoehmcfhgbaaGreatDoor.Av
