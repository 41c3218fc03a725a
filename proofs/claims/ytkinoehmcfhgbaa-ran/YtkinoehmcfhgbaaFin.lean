/-
  Plain facts (no walk): the parser's state and the document's machine answer alike, rule by rule.
  Plain facts (no walk): the rules of the grammar, one by one: what the parser does and what the document's machine answers.
  Programs as trees, and how they stand in tokens: plain words alone.
  Formulas as conditions: their symbols, the bytes of these, what they come to at a state: plain words alone.
-/
import Derived.Test.YtkinoehmcfhgbaaPar0
import Derived.Test.YtkinoehmcfhgbaaPush
import Derived.Test.YtkinoehmcfhgbaaV18
set_option linter.unusedVariables false
set_option linter.unusedSimpArgs false
namespace Go.Proofs.Ytkinoehmcfhgbaa.Av
open Go.RowKit

/-- What the document's machine answers from where the parser is, with so much wanted yet. -/
def fin (toks : List (List UInt8 × Nat)) (len : Nat) (σ : PSt) (st : List (List UInt8)) : Int × Int := if σ.e = 0 then runM len (toks.drop σ.pos) st σ.d else (σ.e, σ.pl)
def Ok (n : Nat) (σ : PSt) : Prop := σ.pos ≤ n ∧ (σ.e ≠ 0 → σ.pos = n) ∧ (σ.e = 0 → 0 ≤ σ.d ∧ σ.d ≤ 10)
def AllTok (toks : List (List UInt8 × Nat)) : Prop := ∀ t i, (t, i) ∈ toks → Tokish t
def PSt.lv (σ : PSt) : PSt := { σ with d := wrap64 (σ.d - 1) }
def PSt.exp (σ : PSt) (T : List (Int × Int × Int)) (k : Int) : PSt := if kd T σ.pos = k then σ.adv T else σ.ref T 2
def PSt.ent (σ : PSt) (T : List (Int × Int × Int)) : PSt := if σ.d = 10 then σ.ref T 3 else ({ σ with d := σ.d + 1 } : PSt).adv T

variable {toks : List (List UInt8 × Nat)} {len : Nat}

theorem T3_len (toks : List (List UInt8 × Nat)) (len : Nat) : (T3 toks len).length = toks.length + 1 := by simp [T3]
theorem T3_tok {j : Nat} {t : List UInt8} {i : Nat} (h : toks[j]? = some (t, i)) : (T3 toks len).getD j (0, 0, 0) = ((tk t).1, (i : Int), (tk t).2) := by
  have hj : j < toks.length := by
    rcases Nat.lt_or_ge j toks.length with h' | h'
    · exact h'
    · rw [List.getElem?_eq_none h'] at h; cases h
  unfold T3
  rw [List.getD_eq_getElem?_getD, List.getElem?_append_left (by simpa using hj), List.getElem?_map, h]; rfl
theorem T3_end : (T3 toks len).getD toks.length (0, 0, 0) = (0, (len : Int), 0) := by
  unfold T3
  rw [List.getD_eq_getElem?_getD, List.getElem?_append_right (by simp)]; simp

/-- Where the parser looks: at a token, or behind the last. -/
theorem look (h : AllTok toks) (σ : PSt) (hp : σ.pos ≤ toks.length) :
    (∃ (t : List UInt8) (i : Nat), σ.pos < toks.length ∧ Tokish t ∧ kd (T3 toks len) σ.pos = (tk t).1 ∧ plc (T3 toks len) σ.pos = (i : Int) ∧ toks.drop σ.pos = (t, i) :: toks.drop (σ.pos + 1)) ∨
    (σ.pos = toks.length ∧ kd (T3 toks len) σ.pos = 0 ∧ plc (T3 toks len) σ.pos = (len : Int) ∧ toks.drop σ.pos = []) := by
  rcases Nat.lt_or_ge σ.pos toks.length with hlt | hge
  · left
    obtain ⟨⟨t, i⟩, ht⟩ : ∃ x, toks[σ.pos]? = some x := ⟨_, List.getElem?_eq_getElem hlt⟩
    have e := T3_tok (len := len) ht
    refine ⟨t, i, hlt, h t i (List.mem_of_getElem? ht), ?_, ?_, ?_⟩
    · unfold kd; rw [e]
    · unfold plc; rw [e]
    · rw [List.drop_eq_getElem_cons hlt]; rw [List.getElem?_eq_getElem hlt] at ht; rw [Option.some.inj ht]
  · right
    have e : σ.pos = toks.length := by omega
    refine ⟨e, ?_, ?_, ?_⟩
    · unfold kd; rw [e, T3_end]
    · unfold plc; rw [e, T3_end]
    · rw [e]; exact List.drop_length

theorem tk_pos (t : List UInt8) (h : Tokish t) : 1 ≤ (tk t).1 := by
  by_cases hs : 0 < sgn t
  · obtain ⟨k, hk⟩ := sym_cases t h hs
    have h1 := (syms_kind _ hk).1
    have h2 := sk_range _ (List.mem_append_left _ hk)
    simp only at h1 h2; omega
  · have e : tk t = wk t := by unfold tk; rw [if_neg hs]
    rw [e]; unfold wk
    have := kw_range t
    repeat' split
    all_goals (simp; try omega)

theorem fin_err {σ : PSt} (h : ¬ σ.e = 0) (st : List (List UInt8)) : fin toks len σ st = (σ.e, σ.pl) := by unfold fin; rw [if_neg h]
theorem fin_ref {σ : PSt} (T : List (Int × Int × Int)) (h : σ.e = 0) (err : Int) (he : err ≠ 0) (st : List (List UInt8)) : fin toks len (σ.ref T err) st = (err, plc T σ.pos) := by
  unfold PSt.ref; rw [if_pos h]; unfold fin; rw [if_neg (by simpa using he)]
theorem fin_adv {σ : PSt} (T : List (Int × Int × Int)) (h : σ.e = 0) (hk : kd T σ.pos ≠ 0) (st : List (List UInt8)) : fin toks len (σ.adv T) st = runM len (toks.drop (σ.pos + 1)) st σ.d := by
  unfold PSt.adv; rw [if_neg hk]; unfold fin; simp only; rw [if_pos h]

theorem end_some (st : List (List UInt8)) (d : Int) (k : List UInt8) (r : List (List UInt8)) (m : Int) (h : opn [] st 0 = (k :: r, m)) : runM len [] st d = (2, (len : Int)) := by
  simp only [runM]; rw [h]; rfl

/-- Two stacks that open alike answer alike. -/
theorem fin_congr {A B : List (List UInt8)} (h : ∀ t, opn t A 0 = opn t B 0) (σ : PSt) : fin toks len σ A = fin toks len σ B := by
  unfold fin
  split
  · generalize toks.drop σ.pos = l
    cases l with
    | nil => simp only [runM]; rw [h]
    | cons a r => obtain ⟨t, i⟩ := a; rw [runM_step, runM_step, h]
  · rfl
theorem fin_formula (σ : PSt) (st : List (List UInt8)) : fin toks len σ (cFormula :: st) = fin toks len σ (cFactor :: cMoreFormula :: st) :=
  fin_congr (fun t => by rw [opn_cons, opn_factor]; rfl) σ
theorem fin_commands (σ : PSt) (st : List (List UInt8)) : fin toks len σ (cCommands :: st) = fin toks len σ (cCommand :: cMoreCommands :: st) :=
  fin_congr (fun t => by rw [opn_cons, opn_command]; rfl) σ

/-- Two stacks that open alike at the token that stands here. -/
theorem fin_congr_at (h : AllTok toks) {A B : List (List UInt8)} {σ : PSt} (hp : σ.pos ≤ toks.length) (hn : opn [] A 0 = opn [] B 0)
    (ht : ∀ t, Tokish t → kd (T3 toks len) σ.pos = (tk t).1 → opn t A 0 = opn t B 0) : fin toks len σ A = fin toks len σ B := by
  unfold fin
  split
  · rcases look (len := len) h σ hp with ⟨t, i, _, h1, h2, _, h4⟩ | ⟨_, _, _, h4⟩
    · rw [h4, runM_step, runM_step, ht t h1 h2]
    · rw [h4]; simp only [runM]; rw [hn]
  · rfl
theorem fin_popF (h : AllTok toks) {σ : PSt} (hp : σ.pos ≤ toks.length) (h1 : kd (T3 toks len) σ.pos ≠ 23) (h2 : kd (T3 toks len) σ.pos ≠ 24) (st : List (List UInt8)) : fin toks len σ (cMoreFormula :: st) = fin toks len σ st := by
  refine fin_congr_at h hp (by rw [opn_cons]; rfl) (fun t ht e => ?_)
  have a1 : t ≠ [111, 114] := fun hh => h1 (by rw [e]; exact (kind_lit t _ 23 ht (by decide)).2 hh)
  have a2 : t ≠ [97, 110, 100] := fun hh => h2 (by rw [e]; exact (kind_lit t _ 24 ht (by decide)).2 hh)
  rw [opn_cons]
  have b : (t == [111, 114] || t == [97, 110, 100]) = false := by simp [a1, a2]
  rw [b]; rfl
theorem fin_popC (h : AllTok toks) {σ : PSt} (hp : σ.pos ≤ toks.length) (h1 : kd (T3 toks len) σ.pos ≠ 4) (st : List (List UInt8)) : fin toks len σ (cMoreCommands :: st) = fin toks len σ st := by
  refine fin_congr_at h hp (by rw [opn_cons]; rfl) (fun t ht e => ?_)
  have a1 : t ≠ [59] := fun hh => h1 (by rw [e]; exact (kind_lit t _ 4 ht (by decide)).2 hh)
  rw [opn_cons]
  have b : (t == [59]) = false := by simp [a1]
  rw [b]; rfl
theorem fin_popT (h : AllTok toks) {σ : PSt} (hp : σ.pos ≤ toks.length) (h1 : kd (T3 toks len) σ.pos ≠ 11) (h2 : kd (T3 toks len) σ.pos ≠ 12) (st : List (List UInt8)) : fin toks len σ (cMoreTerm :: st) = fin toks len σ st := by
  refine fin_congr_at h hp (by rw [opn_cons]; rfl) (fun t ht e => ?_)
  have a1 : t ≠ [43] := fun hh => h1 (by rw [e]; exact (kind_lit t _ 11 ht (by decide)).2 hh)
  have a2 : t ≠ [45] := fun hh => h2 (by rw [e]; exact (kind_lit t _ 12 ht (by decide)).2 hh)
  rw [opn_cons]
  have b : (t == [43] || t == [45]) = false := by simp [a1, a2]
  rw [b]; rfl

/-- A token that stands here and opens what is wanted into k, r. -/
theorem fin_tok {σ : PSt} {t : List UInt8} {i : Nat} (he : σ.e = 0) (hd : toks.drop σ.pos = (t, i) :: toks.drop (σ.pos + 1)) {A r : List (List UInt8)} {k : List UInt8} (ho : opn t A 0 = (k :: r, 0)) :
    fin toks len σ A = if (sts k t r).2 = false then (2, (i : Int)) else if deeper t then (if 10 < σ.d + 1 then (3, (i : Int)) else runM len (toks.drop (σ.pos + 1)) (sts k t r).1 (σ.d + 1)) else if shut t then runM len (toks.drop (σ.pos + 1)) (sts k t r).1 (σ.d - 1) else runM len (toks.drop (σ.pos + 1)) (sts k t r).1 σ.d := by
  unfold fin; rw [if_pos he, hd, runM_step, ho]; simp

/-- A token that is neither deeper nor shuts: it goes on behind it, or is refused. -/
theorem fin_plain {σ : PSt} {A r : List (List UInt8)} {k : List UInt8} (he : σ.e = 0) {t : List UInt8} {i : Nat} (hkd : kd (T3 toks len) σ.pos = (tk t).1) (ht : Tokish t) (hd : toks.drop σ.pos = (t, i) :: toks.drop (σ.pos + 1))
    (hop : opn t A 0 = (k :: r, 0)) (hsts : (sts k t r).2 = true) (hdp : deeper t = false) (hsh : shut t = false) : fin toks len σ A = fin toks len (σ.adv (T3 toks len)) (sts k t r).1 := by
  rw [fin_tok he hd hop, hsts, hdp, hsh, fin_adv _ he (by rw [hkd]; have := tk_pos t ht; omega)]; rfl

theorem Ok.err {n : Nat} {σ : PSt} (h : Ok n σ) (he : ¬ σ.e = 0) : σ.pos = n := h.2.1 he
theorem ref_err (T : List (Int × Int × Int)) (σ : PSt) (err : Int) (he : ¬ σ.e = 0) : (σ.ref T err).e = σ.e ∧ (σ.ref T err).pl = σ.pl := by unfold PSt.ref; rw [if_neg he]; exact ⟨rfl, rfl⟩
theorem ref_ne (T : List (Int × Int × Int)) (σ : PSt) (err : Int) (h : err ≠ 0) : (σ.ref T err).e ≠ 0 := by
  unfold PSt.ref; split
  · exact h
  · rename_i hh; exact hh
theorem ref_pos (toks : List (List UInt8 × Nat)) (len : Nat) (σ : PSt) (err : Int) : (σ.ref (T3 toks len) err).pos = toks.length := by
  unfold PSt.ref; rw [T3_len]; split <;> rfl
theorem adv_e (T : List (Int × Int × Int)) (σ : PSt) : (σ.adv T).e = σ.e ∧ (σ.adv T).pl = σ.pl ∧ (σ.adv T).d = σ.d := by unfold PSt.adv; split <;> exact ⟨rfl, rfl, rfl⟩
theorem adv_pos (T : List (Int × Int × Int)) (σ : PSt) (h : kd T σ.pos ≠ 0) : (σ.adv T).pos = σ.pos + 1 := by unfold PSt.adv; rw [if_neg h]
theorem kd_end (toks : List (List UInt8 × Nat)) (len : Nat) : kd (T3 toks len) toks.length = 0 := by unfold kd; rw [T3_end]
theorem kd_lt (h : AllTok toks) {σ : PSt} (ho : Ok toks.length σ) (hk : kd (T3 toks len) σ.pos ≠ 0) : σ.pos < toks.length ∧ σ.e = 0 := by
  have h1 := ho.1
  have h2 : σ.pos ≠ toks.length := fun e => hk (by rw [e]; exact kd_end _ _)
  exact ⟨by omega, Classical.byContradiction fun he => h2 (ho.err he)⟩

/-- What a step of the parser keeps: it goes on, or is refused for good; the depth is what it was. -/
def Goes (n : Nat) (σ σ' : PSt) : Prop := Ok n σ' ∧ σ.pos ≤ σ'.pos ∧ (σ'.e = 0 → σ.e = 0 ∧ σ'.d = σ.d)
theorem Goes.refl {n : Nat} {σ : PSt} (h : Ok n σ) : Goes n σ σ := ⟨h, Nat.le_refl _, fun e => ⟨e, rfl⟩⟩
theorem Goes.trans {n : Nat} {a b c : PSt} (h : Goes n a b) (k : Goes n b c) : Goes n a c :=
  ⟨k.1, Nat.le_trans h.2.1 k.2.1, fun e => ⟨(h.2.2 (k.2.2 e).1).1, (k.2.2 e).2.trans (h.2.2 (k.2.2 e).1).2⟩⟩
theorem goes_ref {σ : PSt} (ho : Ok toks.length σ) (err : Int) (h : err ≠ 0) : Goes toks.length σ (σ.ref (T3 toks len) err) :=
  ⟨⟨by rw [ref_pos]; exact Nat.le_refl _, fun _ => ref_pos _ _ _ _, fun e => absurd e (ref_ne _ _ _ h)⟩, by rw [ref_pos]; exact ho.1, fun e => absurd e (ref_ne _ _ _ h)⟩
theorem goes_adv (h : AllTok toks) {σ : PSt} (ho : Ok toks.length σ) : Goes toks.length σ (σ.adv (T3 toks len)) := by
  by_cases hk : kd (T3 toks len) σ.pos = 0
  · have : σ.adv (T3 toks len) = σ := by unfold PSt.adv; rw [if_pos hk]
    rw [this]; exact Goes.refl ho
  · obtain ⟨h1, h2⟩ := kd_lt h ho hk
    obtain ⟨e1, e2, e3⟩ := adv_e (T3 toks len) σ
    have e4 := adv_pos (T3 toks len) σ hk
    exact ⟨⟨by omega, fun hh => absurd (e1.trans h2) hh, fun _ => by rw [e3]; exact ho.2.2 h2⟩, by omega, fun _ => ⟨h2, e3⟩⟩
theorem goes_exp (h : AllTok toks) {σ : PSt} (ho : Ok toks.length σ) (k : Int) : Goes toks.length σ (σ.exp (T3 toks len) k) := by
  unfold PSt.exp; split
  · exact goes_adv h ho
  · exact goes_ref ho 2 (by omega)

theorem fin_end {σ : PSt} {A : List (List UInt8)} (he : σ.e = 0) (hd : toks.drop σ.pos = []) (hA : ∃ k r m, opn [] A 0 = (k :: r, m)) : fin toks len σ A = (2, (len : Int)) := by
  obtain ⟨k, r, m, hA⟩ := hA
  unfold fin; rw [if_pos he, hd]; exact end_some _ _ k r m hA

/-- The rule of a token that must stand here: yes says whether it may. -/
theorem fin_must (h : AllTok toks) {σ : PSt} (ho : Ok toks.length σ) {k : List UInt8} {st : List (List UInt8)} (B : List UInt8 → List (List UInt8)) (yes : Prop) [Decidable yes]
    (hop : ∀ t, opn t (k :: st) 0 = (k :: st, 0))
    (hy : ∀ t, Tokish t → kd (T3 toks len) σ.pos = (tk t).1 → (yes ↔ (sts k t st).2 = true))
    (hn : kd (T3 toks len) σ.pos = 0 → ¬ yes)
    (hb : ∀ t, Tokish t → kd (T3 toks len) σ.pos = (tk t).1 → yes → deeper t = false ∧ shut t = false ∧ (sts k t st).1 = B t)
    (C : List (List UInt8)) (hc : ∀ t, Tokish t → kd (T3 toks len) σ.pos = (tk t).1 → yes → B t = C) :
    fin toks len σ (k :: st) = if yes then fin toks len (σ.adv (T3 toks len)) C else fin toks len (σ.ref (T3 toks len) 2) st := by
  by_cases he : σ.e = 0
  · rcases look (len := len) h σ ho.1 with ⟨t, i, hlt, h1, h2, h3, h4⟩ | ⟨h1, h2, h3, h4⟩
    · by_cases hyes : yes
      · rw [if_pos hyes]
        obtain ⟨g1, g2, g3⟩ := hb t h1 h2 hyes
        rw [fin_plain he h2 h1 h4 (hop t) ((hy t h1 h2).1 hyes) g1 g2, g3, hc t h1 h2 hyes]
      · rw [if_neg hyes, fin_ref _ he 2 (by omega), h3, fin_tok he h4 (hop t)]
        have : (sts k t st).2 = false := by
          cases hh : (sts k t st).2 with
          | false => rfl
          | true => exact absurd ((hy t h1 h2).2 hh) hyes
        rw [if_pos this]
    · rw [if_neg (hn h2), fin_ref _ he 2 (by omega), h3]
      exact fin_end he h4 ⟨k, st, 0, hop []⟩
  · have hpos := ho.err he
    rw [if_neg (hn (by rw [hpos]; exact kd_end _ _)), fin_err he]
    obtain ⟨r1, r2⟩ := ref_err (T3 toks len) σ 2 he
    rw [fin_err (by rw [r1]; exact he), r1, r2]

theorem lit_sts {c : List UInt8} {k : Int} (hc : (c, k) ∈ syms ++ kws) (t : List UInt8) (st : List (List UInt8)) : sts c t st = (st, c == t) ∧ opn t (c :: st) 0 = (c :: st, 0) := by
  have key : ∀ x ∈ syms ++ kws, (x.1 == cCommand) = false ∧ (x.1 == cFactor) = false ∧ (x.1 == cTerm) = false ∧ (x.1 == cRelation) = false ∧ (x.1 == cNumber) = false ∧ (x.1 == cCommands) = false ∧ (x.1 == cMoreCommands) = false ∧ (x.1 == cFormula) = false ∧ (x.1 == cMoreFormula) = false ∧ (x.1 == cMoreTerm) = false ∧ (x.1 == cNotEnds) = false ∧ (decide (((x.1.headD 0).toNat : Int) < 65) || decide (90 < ((x.1.headD 0).toNat : Int))) = true := by decide
  obtain ⟨k1, k2, k3, k4, k5, k6, k7, k8, k9, k10, k11, k12⟩ := key _ hc
  simp only at k1 k2 k3 k4 k5 k6 k7 k8 k9 k10 k11 k12
  refine ⟨?_, ?_⟩
  · unfold sts; rw [k1, k2, k3, k4, k5]; simp only [Bool.false_eq_true, if_false]
    unfold dflt; rw [k12, Bool.and_true]
  · rw [opn_cons, k6, k7, k8, k9, k10, k11]; simp

/-- A literal that must stand here. -/
theorem fin_exp (h : AllTok toks) {σ : PSt} (ho : Ok toks.length σ) {c : List UInt8} {k : Int} (hc : (c, k) ∈ syms ++ kws) (hd : deeper c = false) (hs : shut c = false) (st : List (List UInt8)) :
    fin toks len σ (c :: st) = fin toks len (σ.exp (T3 toks len) k) st := by
  have hr := sk_range _ hc
  simp only at hr
  have := fin_must h ho (k := c) (st := st) (fun _ => st) (kd (T3 toks len) σ.pos = k) (fun t => (lit_sts hc t st).2)
    (fun t ht e => by rw [e, (lit_sts hc t st).1, kind_lit t c k ht hc]; simp only [beq_iff_eq]; exact ⟨fun x => x.symm, fun x => x.symm⟩)
    (fun e => by omega)
    (fun t ht e y => by rw [e, kind_lit t c k ht hc] at y; subst y; exact ⟨hd, hs, by rw [(lit_sts hc _ st).1]⟩)
    st (fun _ _ _ _ => rfl)
  rw [this]; unfold PSt.exp; split <;> rfl

end Go.Proofs.Ytkinoehmcfhgbaa.Av
set_option linter.unusedVariables false
set_option linter.unusedSimpArgs false
namespace Go.Proofs.Ytkinoehmcfhgbaa.Av
open Go.RowKit

variable {toks : List (List UInt8 × Nat)} {len : Nat}

theorem deeper_iff (t : List UInt8) (h : Tokish t) : deeper t = true ↔ ((tk t).1 = 2 ∨ (tk t).1 = 25 ∨ (tk t).1 = 17 ∨ (tk t).1 = 21) := by
  rw [kind_lit t [40] 2 h (by decide), kind_lit t [110, 111, 116] 25 h (by decide), kind_lit t [105, 102] 17 h (by decide), kind_lit t [119, 104, 105, 108, 101] 21 h (by decide)]
  unfold deeper; simp [or_assoc]
theorem shut_iff (t : List UInt8) (h : Tokish t) : shut t = true ↔ ((tk t).1 = 3 ∨ (tk t).1 = 20) := by
  rw [kind_lit t [41] 3 h (by decide), kind_lit t [101, 110, 100] 20 h (by decide)]
  unfold shut; simp
theorem deeper_no {t : List UInt8} (h : Tokish t) (h1 : (tk t).1 ≠ 2) (h2 : (tk t).1 ≠ 25) (h3 : (tk t).1 ≠ 17) (h4 : (tk t).1 ≠ 21) : deeper t = false := by
  cases hh : deeper t with
  | false => rfl
  | true => rcases (deeper_iff t h).1 hh with e | e | e | e <;> omega
theorem shut_no {t : List UInt8} (h : Tokish t) (h1 : (tk t).1 ≠ 3) (h2 : (tk t).1 ≠ 20) : shut t = false := by
  cases hh : shut t with
  | false => rfl
  | true => rcases (shut_iff t h).1 hh with e | e <;> omega

theorem opn_number (s : List UInt8) (r : List (List UInt8)) : opn s (cNumber :: r) 0 = (cNumber :: r, 0) := by rw [opn_cons]; rfl
theorem opn_relation (s : List UInt8) (r : List (List UInt8)) : opn s (cRelation :: r) 0 = (cRelation :: r, 0) := by rw [opn_cons]; rfl
theorem opn_term (s : List UInt8) (r : List (List UInt8)) : opn s (cTerm :: r) 0 = (cTerm :: r, 0) := by rw [opn_cons]; rfl
theorem sts_number (s : List UInt8) (r : List (List UInt8)) : sts cNumber s r = (r, decide (0 ≤ dg 999 s)) := rfl
theorem sts_relation (s : List UInt8) (r : List (List UInt8)) : sts cRelation s r = (r, rl s) := rfl
theorem sts_term (s : List UInt8) (r : List (List UInt8)) : sts cTerm s r = stTerm s r := rfl
theorem sts_factor (s : List UInt8) (r : List (List UInt8)) : sts cFactor s r = stFactor s r := rfl
theorem sts_command (s : List UInt8) (r : List (List UInt8)) : sts cCommand s r = stCommand s r := rfl

theorem fin_number (h : AllTok toks) {σ : PSt} (ho : Ok toks.length σ) (st : List (List UInt8)) : fin toks len σ (cNumber :: st) = fin toks len (σ.exp (T3 toks len) 29) st := by
  have := fin_must h ho (len := len) (k := cNumber) (st := st) (fun _ => st) (kd (T3 toks len) σ.pos = 29) (fun t => opn_number t st)
    (fun t ht e => by rw [e, sts_number, kind_num t ht]; simp)
    (fun e => by omega)
    (fun t ht e y => ⟨deeper_no ht (by omega) (by omega) (by omega) (by omega), shut_no ht (by omega) (by omega), rfl⟩)
    st (fun _ _ _ _ => rfl)
  rw [this]; unfold PSt.exp; split <;> rfl
theorem rl_iff (t : List UInt8) (h : Tokish t) : rl t = true ↔ (6 ≤ (tk t).1 ∧ (tk t).1 ≤ 10) := by
  have a6 := kind_lit t [60] 6 h (by decide)
  have a7 := kind_lit t [60, 61] 7 h (by decide)
  have a8 := kind_lit t [61] 8 h (by decide)
  have a9 := kind_lit t [62] 9 h (by decide)
  have a10 := kind_lit t [62, 61] 10 h (by decide)
  have e : rl t = true ↔ (t = [60] ∨ t = [60, 61] ∨ t = [61] ∨ t = [62] ∨ t = [62, 61]) := by unfold rl; simp [or_assoc]
  rw [e, ← a6, ← a7, ← a8, ← a9, ← a10]; omega
theorem fin_relation (h : AllTok toks) {σ : PSt} (ho : Ok toks.length σ) (st : List (List UInt8)) : fin toks len σ (cRelation :: st) = if 6 ≤ kd (T3 toks len) σ.pos ∧ kd (T3 toks len) σ.pos ≤ 10 then fin toks len (σ.adv (T3 toks len)) st else fin toks len (σ.ref (T3 toks len) 2) st :=
  fin_must h ho (len := len) (k := cRelation) (st := st) (fun _ => st) (6 ≤ kd (T3 toks len) σ.pos ∧ kd (T3 toks len) σ.pos ≤ 10) (fun t => opn_relation t st)
    (fun t ht e => by rw [e, sts_relation, rl_iff t ht])
    (fun e => by omega)
    (fun t ht e y => ⟨deeper_no ht (by omega) (by omega) (by omega) (by omega), shut_no ht (by omega) (by omega), rfl⟩)
    st (fun _ _ _ _ => rfl)

/-- A token of a kind that stands here: what its rule wants then. -/
theorem fin_goes (h : AllTok toks) {σ : PSt} (ho : Ok toks.length σ) {A B r : List (List UInt8)} {k : List UInt8} (hk : kd (T3 toks len) σ.pos ≠ 0)
    (hop : ∀ t, Tokish t → kd (T3 toks len) σ.pos = (tk t).1 → opn t A 0 = (k :: r, 0) ∧ sts k t r = (B, true) ∧ deeper t = false ∧ shut t = false) : fin toks len σ A = fin toks len (σ.adv (T3 toks len)) B := by
  obtain ⟨h1, he⟩ := kd_lt h ho hk
  rcases look (len := len) h σ ho.1 with ⟨t, i, _, g1, g2, _, g4⟩ | ⟨g1, _⟩
  · obtain ⟨p1, p2, p3, p4⟩ := hop t g1 g2
    rw [fin_plain he g2 g1 g4 p1 (by rw [p2]) p3 p4, p2]
  · omega

theorem fin_orand (h : AllTok toks) {σ : PSt} (ho : Ok toks.length σ) (hk : kd (T3 toks len) σ.pos = 23 ∨ kd (T3 toks len) σ.pos = 24) (st : List (List UInt8)) : fin toks len σ (cMoreFormula :: st) = fin toks len (σ.adv (T3 toks len)) (cFormula :: st) := by
  have hkd : kd (T3 toks len) σ.pos ≠ 0 := by omega
  obtain ⟨h1, he⟩ := kd_lt h ho hkd
  rcases look (len := len) h σ ho.1 with ⟨t, i, _, g1, g2, _, g4⟩ | ⟨g1, _⟩
  · rw [g2] at hk
    rcases hk with hk | hk
    · have e := (kind_lit t [111, 114] 23 g1 (by decide)).1 hk
      subst e
      have l := lit_sts (c := [111, 114]) (k := 23) (by decide) [111, 114] (cFormula :: st)
      rw [fin_plain he g2 g1 g4 (k := [111, 114]) (r := cFormula :: st) (by rw [opn_cons]; rfl) (by rw [l.1]; rfl) (by decide) (by decide), l.1]
    · have e := (kind_lit t [97, 110, 100] 24 g1 (by decide)).1 hk
      subst e
      have l := lit_sts (c := [97, 110, 100]) (k := 24) (by decide) [97, 110, 100] (cFormula :: st)
      rw [fin_plain he g2 g1 g4 (k := [97, 110, 100]) (r := cFormula :: st) (by rw [opn_cons]; rfl) (by rw [l.1]; rfl) (by decide) (by decide), l.1]
  · omega
theorem fin_semi (h : AllTok toks) {σ : PSt} (ho : Ok toks.length σ) (hk : kd (T3 toks len) σ.pos = 4) (st : List (List UInt8)) : fin toks len σ (cMoreCommands :: st) = fin toks len (σ.adv (T3 toks len)) (cCommands :: st) := by
  refine fin_goes h ho (by omega) (k := [59]) (r := cCommands :: st) (fun t ht e => ?_)
  rw [e] at hk
  have e' := (kind_lit t [59] 4 ht (by decide)).1 hk
  subst e'
  have l := lit_sts (c := [59]) (k := 4) (by decide) [59] (cCommands :: st)
  exact ⟨by rw [opn_cons]; rfl, by rw [l.1]; rfl, by decide, by decide⟩
theorem fin_plus (h : AllTok toks) {σ : PSt} (ho : Ok toks.length σ) (hk : kd (T3 toks len) σ.pos = 11) (st : List (List UInt8)) : fin toks len σ (cMoreTerm :: st) = fin toks len (σ.adv (T3 toks len)) (cNumber :: st) := by
  refine fin_goes h ho (by omega) (k := [43]) (r := cNumber :: st) (fun t ht e => ?_)
  rw [e] at hk
  have e' := (kind_lit t [43] 11 ht (by decide)).1 hk
  subst e'
  have l := lit_sts (c := [43]) (k := 11) (by decide) [43] (cNumber :: st)
  exact ⟨by rw [opn_cons]; rfl, by rw [l.1]; rfl, by decide, by decide⟩
theorem fin_minus (h : AllTok toks) {σ : PSt} (ho : Ok toks.length σ) (hk : kd (T3 toks len) σ.pos = 12) (st : List (List UInt8)) : fin toks len σ (cMoreTerm :: st) = fin toks len (σ.adv (T3 toks len)) (cNumber :: st) := by
  refine fin_goes h ho (by omega) (k := [45]) (r := cNumber :: st) (fun t ht e => ?_)
  rw [e] at hk
  have e' := (kind_lit t [45] 12 ht (by decide)).1 hk
  subst e'
  have l := lit_sts (c := [45]) (k := 12) (by decide) [45] (cNumber :: st)
  exact ⟨by rw [opn_cons]; rfl, by rw [l.1]; rfl, by decide, by decide⟩

theorem fin_termV (h : AllTok toks) {σ : PSt} (ho : Ok toks.length σ) (hk : kd (T3 toks len) σ.pos = 28) (st : List (List UInt8)) : fin toks len σ (cTerm :: st) = fin toks len (σ.adv (T3 toks len)) (cMoreTerm :: st) := by
  refine fin_goes h ho (by omega) (k := cTerm) (r := st) (fun t ht e => ?_)
  rw [e] at hk
  exact ⟨opn_term _ _, by rw [sts_term]; unfold stTerm; rw [if_pos ((kind_var t ht).1 hk)], deeper_no ht (by omega) (by omega) (by omega) (by omega), shut_no ht (by omega) (by omega)⟩
theorem fin_termM (h : AllTok toks) {σ : PSt} (ho : Ok toks.length σ) (hk : kd (T3 toks len) σ.pos = 12) (st : List (List UInt8)) : fin toks len σ (cTerm :: st) = fin toks len (σ.adv (T3 toks len)) (cNumber :: st) := by
  refine fin_goes h ho (by omega) (k := cTerm) (r := st) (fun t ht e => ?_)
  rw [e] at hk
  have e' := (kind_lit t [45] 12 ht (by decide)).1 hk
  subst e'
  exact ⟨opn_term _ _, rfl, by decide, by decide⟩
theorem fin_termN (h : AllTok toks) {σ : PSt} (ho : Ok toks.length σ) (h1 : kd (T3 toks len) σ.pos ≠ 28) (h2 : kd (T3 toks len) σ.pos ≠ 12) (st : List (List UInt8)) : fin toks len σ (cTerm :: st) = fin toks len (σ.exp (T3 toks len) 29) st := by
  have hs : ∀ t, Tokish t → kd (T3 toks len) σ.pos = (tk t).1 → sts cTerm t st = (st, decide (0 ≤ dg 999 t)) := fun t ht e => by
    rw [sts_term]; unfold stTerm
    rw [if_neg (fun hh => h1 (by rw [e]; exact (kind_var t ht).2 hh))]
    have : (t == [45]) = false := by
      rw [beq_eq_false_iff_ne]; intro hh; exact h2 (by rw [e]; exact (kind_lit t [45] 12 ht (by decide)).2 hh)
    rw [this]; rfl
  have := fin_must h ho (len := len) (k := cTerm) (st := st) (fun _ => st) (kd (T3 toks len) σ.pos = 29) (fun t => opn_term t st)
    (fun t ht e => by rw [hs t ht e, e, kind_num t ht]; simp)
    (fun e => by omega)
    (fun t ht e y => ⟨deeper_no ht (by omega) (by omega) (by omega) (by omega), shut_no ht (by omega) (by omega), by rw [hs t ht e]⟩)
    st (fun _ _ _ _ => rfl)
  rw [this]; unfold PSt.exp; split <;> rfl

theorem fin_bool (h : AllTok toks) {σ : PSt} (ho : Ok toks.length σ) (hk : kd (T3 toks len) σ.pos = 26 ∨ kd (T3 toks len) σ.pos = 27) (st : List (List UInt8)) : fin toks len σ (cFactor :: st) = fin toks len (σ.adv (T3 toks len)) st := by
  refine fin_goes h ho (by omega) (k := cFactor) (r := st) (fun t ht e => ?_)
  rw [e] at hk
  rcases hk with hk | hk
  · have e' := (kind_lit t [116, 114, 117, 101] 26 ht (by decide)).1 hk
    subst e'
    exact ⟨opn_factor _ _ _, rfl, by decide, by decide⟩
  · have e' := (kind_lit t [102, 97, 108, 115, 101] 27 ht (by decide)).1 hk
    subst e'
    exact ⟨opn_factor _ _ _, rfl, by decide, by decide⟩
/-- Where no formula's own token stands, a FACTOR is a comparison. -/
theorem fin_compare (h : AllTok toks) {σ : PSt} (ho : Ok toks.length σ) (h1 : kd (T3 toks len) σ.pos ≠ 25) (h2 : kd (T3 toks len) σ.pos ≠ 2) (h3 : kd (T3 toks len) σ.pos ≠ 26) (h4 : kd (T3 toks len) σ.pos ≠ 27) (st : List (List UInt8)) :
    fin toks len σ (cFactor :: st) = fin toks len σ (cTerm :: cRelation :: cTerm :: st) := by
  by_cases he : σ.e = 0
  · rcases look (len := len) h σ ho.1 with ⟨t, i, _, g1, g2, _, g4⟩ | ⟨_, _, _, g4⟩
    · rw [fin_tok he g4 (opn_factor t st 0), fin_tok he g4 (opn_term t (cRelation :: cTerm :: st)), sts_factor, sts_term]
      have a1 : (t == [110, 111, 116]) = false := by rw [beq_eq_false_iff_ne]; intro hh; exact h1 (by rw [g2]; exact (kind_lit t _ 25 g1 (by decide)).2 hh)
      have a2 : (t == [40]) = false := by rw [beq_eq_false_iff_ne]; intro hh; exact h2 (by rw [g2]; exact (kind_lit t _ 2 g1 (by decide)).2 hh)
      have a3 : (t == [116, 114, 117, 101]) = false := by rw [beq_eq_false_iff_ne]; intro hh; exact h3 (by rw [g2]; exact (kind_lit t _ 26 g1 (by decide)).2 hh)
      have a4 : (t == [102, 97, 108, 115, 101]) = false := by rw [beq_eq_false_iff_ne]; intro hh; exact h4 (by rw [g2]; exact (kind_lit t _ 27 g1 (by decide)).2 hh)
      have : stFactor t st = stTerm t (cRelation :: cTerm :: st) := by unfold stFactor; rw [a1, a2, a3, a4]; rfl
      rw [this]
    · rw [fin_end he g4 ⟨cFactor, st, 0, opn_factor [] st 0⟩, fin_end he g4 ⟨cTerm, _, 0, opn_term [] _⟩]
  · rw [fin_err he, fin_err he]

/-- A token that opens: it goes deeper, or is refused. -/
theorem fin_enter (h : AllTok toks) {σ : PSt} (ho : Ok toks.length σ) {A B r : List (List UInt8)} {k : List UInt8} (hk : kd (T3 toks len) σ.pos ≠ 0)
    (hop : ∀ t, Tokish t → kd (T3 toks len) σ.pos = (tk t).1 → opn t A 0 = (k :: r, 0) ∧ sts k t r = (B, true) ∧ deeper t = true) : fin toks len σ A = fin toks len (σ.ent (T3 toks len)) B := by
  obtain ⟨h1, he⟩ := kd_lt h ho hk
  have hd := ho.2.2 he
  rcases look (len := len) h σ ho.1 with ⟨t, i, _, g1, g2, g3, g4⟩ | ⟨g1, _⟩
  · obtain ⟨p1, p2, p3⟩ := hop t g1 g2
    rw [fin_tok he g4 p1, p2, p3]
    unfold PSt.ent
    by_cases h10 : σ.d = 10
    · rw [if_pos h10, fin_ref _ he 3 (by omega), g3]
      simp only [Bool.true_eq_false, if_false, if_true]
      rw [if_pos (by omega)]
    · rw [if_neg h10, fin_adv (σ := { σ with d := σ.d + 1 }) _ he hk]
      simp only [Bool.true_eq_false, if_false, if_true]
      rw [if_neg (by omega)]
  · omega
theorem fin_not (h : AllTok toks) {σ : PSt} (ho : Ok toks.length σ) (hk : kd (T3 toks len) σ.pos = 25) (st : List (List UInt8)) : fin toks len σ (cFactor :: st) = fin toks len (σ.ent (T3 toks len)) (cFactor :: cNotEnds :: st) := by
  refine fin_enter h ho (by omega) (k := cFactor) (r := st) (fun t ht e => ?_)
  rw [e] at hk
  have e' := (kind_lit t [110, 111, 116] 25 ht (by decide)).1 hk
  subst e'
  exact ⟨opn_factor _ _ _, rfl, by decide⟩
theorem fin_open (h : AllTok toks) {σ : PSt} (ho : Ok toks.length σ) (hk : kd (T3 toks len) σ.pos = 2) (st : List (List UInt8)) : fin toks len σ (cFactor :: st) = fin toks len (σ.ent (T3 toks len)) (cFormula :: [41] :: st) := by
  refine fin_enter h ho (by omega) (k := cFactor) (r := st) (fun t ht e => ?_)
  rw [e] at hk
  have e' := (kind_lit t [40] 2 ht (by decide)).1 hk
  subst e'
  exact ⟨opn_factor _ _ _, rfl, by decide⟩
theorem fin_if (h : AllTok toks) {σ : PSt} (ho : Ok toks.length σ) (hk : kd (T3 toks len) σ.pos = 17) (st : List (List UInt8)) : fin toks len σ (cCommand :: st) = fin toks len (σ.ent (T3 toks len)) (cFormula :: [116, 104, 101, 110] :: cCommands :: [101, 108, 115, 101] :: cCommands :: [101, 110, 100] :: st) := by
  refine fin_enter h ho (by omega) (k := cCommand) (r := st) (fun t ht e => ?_)
  rw [e] at hk
  have e' := (kind_lit t [105, 102] 17 ht (by decide)).1 hk
  subst e'
  exact ⟨opn_command _ _ _, rfl, by decide⟩
theorem fin_while (h : AllTok toks) {σ : PSt} (ho : Ok toks.length σ) (hk : kd (T3 toks len) σ.pos = 21) (st : List (List UInt8)) : fin toks len σ (cCommand :: st) = fin toks len (σ.ent (T3 toks len)) (cFormula :: [107, 101, 101, 112] :: cFormula :: [100, 111] :: cCommands :: [101, 110, 100] :: st) := by
  refine fin_enter h ho (by omega) (k := cCommand) (r := st) (fun t ht e => ?_)
  rw [e] at hk
  have e' := (kind_lit t [119, 104, 105, 108, 101] 21 ht (by decide)).1 hk
  subst e'
  exact ⟨opn_command _ _ _, rfl, by decide⟩
theorem fin_skip (h : AllTok toks) {σ : PSt} (ho : Ok toks.length σ) (hk : kd (T3 toks len) σ.pos = 16) (st : List (List UInt8)) : fin toks len σ (cCommand :: st) = fin toks len (σ.adv (T3 toks len)) st := by
  refine fin_goes h ho (by omega) (k := cCommand) (r := st) (fun t ht e => ?_)
  rw [e] at hk
  have e' := (kind_lit t [115, 107, 105, 112] 16 ht (by decide)).1 hk
  subst e'
  exact ⟨opn_command _ _ _, rfl, by decide, by decide⟩
theorem fin_assign (h : AllTok toks) {σ : PSt} (ho : Ok toks.length σ) (hk : kd (T3 toks len) σ.pos = 28) (st : List (List UInt8)) : fin toks len σ (cCommand :: st) = fin toks len (σ.adv (T3 toks len)) ([58, 61] :: cTerm :: st) := by
  refine fin_goes h ho (by omega) (k := cCommand) (r := st) (fun t ht e => ?_)
  rw [e] at hk
  have hne : (t == [115, 107, 105, 112]) = false := by
    rw [beq_eq_false_iff_ne]; intro hh; have := (kind_lit t _ 16 ht (by decide)).2 hh; omega
  exact ⟨opn_command _ _ _, by rw [sts_command]; unfold stCommand; rw [hne, if_pos ((kind_var t ht).1 hk)]; rfl, deeper_no ht (by omega) (by omega) (by omega) (by omega), shut_no ht (by omega) (by omega)⟩
theorem fin_nocommand (h : AllTok toks) {σ : PSt} (ho : Ok toks.length σ) (h1 : kd (T3 toks len) σ.pos ≠ 16) (h2 : kd (T3 toks len) σ.pos ≠ 28) (h3 : kd (T3 toks len) σ.pos ≠ 17) (h4 : kd (T3 toks len) σ.pos ≠ 21) (st : List (List UInt8)) : fin toks len σ (cCommand :: st) = fin toks len (σ.ref (T3 toks len) 2) st := by
  have := fin_must h ho (len := len) (k := cCommand) (st := st) (fun _ => st) False (fun t => opn_command t st 0)
    (fun t ht e => by
      have a1 : (t == [115, 107, 105, 112]) = false := by rw [beq_eq_false_iff_ne]; intro hh; exact h1 (by rw [e]; exact (kind_lit t _ 16 ht (by decide)).2 hh)
      have a3 : (t == [105, 102]) = false := by rw [beq_eq_false_iff_ne]; intro hh; exact h3 (by rw [e]; exact (kind_lit t _ 17 ht (by decide)).2 hh)
      have a4 : (t == [119, 104, 105, 108, 101]) = false := by rw [beq_eq_false_iff_ne]; intro hh; exact h4 (by rw [e]; exact (kind_lit t _ 21 ht (by decide)).2 hh)
      rw [sts_command]; unfold stCommand
      rw [a1, if_neg (show ¬ (0 ≤ vr t) from fun hh => h2 (by rw [e]; exact (kind_var t ht).2 hh)), a3, a4]; simp)
    (fun e => by simp)
    (fun t ht e y => y.elim)
    st (fun _ _ _ y => y.elim)
  rw [this, if_neg (by simp)]

theorem goes_ent (h : AllTok toks) {σ : PSt} (ho : Ok toks.length σ) (hk : kd (T3 toks len) σ.pos ≠ 0) : Ok toks.length (σ.ent (T3 toks len)) ∧ σ.pos < (σ.ent (T3 toks len)).pos ∧ ((σ.ent (T3 toks len)).e = 0 → (σ.ent (T3 toks len)).d = σ.d + 1) := by
  obtain ⟨h1, he⟩ := kd_lt h ho hk
  have hd := ho.2.2 he
  unfold PSt.ent
  split
  · refine ⟨(goes_ref ho 3 (by omega)).1, by rw [ref_pos]; exact h1, fun e => absurd e (ref_ne _ _ _ (by omega))⟩
  · have hk' : kd (T3 toks len) ({ σ with d := σ.d + 1 } : PSt).pos ≠ 0 := hk
    obtain ⟨e1, e2, e3⟩ := adv_e (T3 toks len) ({ σ with d := σ.d + 1 } : PSt)
    have e4 := adv_pos (T3 toks len) ({ σ with d := σ.d + 1 } : PSt) hk'
    refine ⟨⟨by rw [e4]; exact h1, fun hh => absurd (e1.trans he) hh, fun _ => by rw [e3]; simp only; omega⟩, by rw [e4]; exact Nat.lt_succ_self _, fun _ => e3⟩

theorem lv_e (σ : PSt) : σ.lv.e = σ.e ∧ σ.lv.pl = σ.pl ∧ σ.lv.pos = σ.pos ∧ σ.lv.d = wrap64 (σ.d - 1) := ⟨rfl, rfl, rfl, rfl⟩
theorem wrap_d {d : Int} (h : 0 ≤ d ∧ d ≤ 10) : wrap64 (d - 1) = d - 1 := by
  rw [← IntWalk.i64_left]; exact IntWalk.i64_in _ (by omega)
theorem opn_shift (s : List UInt8) (st : List (List UInt8)) : ∀ e, opn s st (e + 1) = ((opn s st e).1, (opn s st e).2 + 1) := by
  induction st with
  | nil => intro e; rfl
  | cons k r ih =>
    intro e
    rw [opn_cons, opn_cons]
    repeat' split
    all_goals first | rfl | exact ih _
theorem runM_notEnds (l : List (List UInt8 × Nat)) (st : List (List UInt8)) (d : Int) : runM len l (cNotEnds :: st) (d + 1) = runM len l st d := by
  have ho : ∀ t, opn t (cNotEnds :: st) 0 = ((opn t st 0).1, (opn t st 0).2 + 1) := fun t => by
    have : opn t (cNotEnds :: st) 0 = opn t st (0 + 1) := by rw [opn_cons]; rfl
    rw [this, opn_shift]
  cases l with
  | nil => simp only [runM]; rw [ho]
  | cons a r =>
    obtain ⟨t, i⟩ := a
    rw [runM_step, runM_step, ho]
    rcases opn t st 0 with ⟨o, m⟩
    cases o with
    | nil => rfl
    | cons k r => simp only; rw [show d + 1 - (m + 1) = d - m by omega]
/-- A not ends behind its FACTOR. -/
theorem fin_notEnds {σ : PSt} (ho : Ok toks.length σ) (st : List (List UInt8)) : fin toks len σ (cNotEnds :: st) = fin toks len σ.lv st := by
  by_cases he : σ.e = 0
  · have hd := ho.2.2 he
    unfold fin
    rw [if_pos he, if_pos (show σ.lv.e = 0 from he)]
    show runM len (toks.drop σ.pos) (cNotEnds :: st) σ.d = runM len (toks.drop σ.pos) st (wrap64 (σ.d - 1))
    rw [wrap_d hd, ← runM_notEnds _ st (σ.d - 1)]
    rw [show σ.d - 1 + 1 = σ.d by omega]
  · rw [fin_err he, fin_err (show ¬ σ.lv.e = 0 from he)]; rfl
/-- What shuts: the literal, and the depth. -/
theorem fin_shut (h : AllTok toks) {σ : PSt} (ho : Ok toks.length σ) {c : List UInt8} {k : Int} (hc : (c, k) ∈ syms ++ kws) (hs : shut c = true) (hdp : deeper c = false) (st : List (List UInt8)) :
    fin toks len σ (c :: st) = fin toks len (σ.exp (T3 toks len) k).lv st := by
  have hr := sk_range _ hc
  simp only at hr
  by_cases he : σ.e = 0
  · have hd := ho.2.2 he
    rcases look (len := len) h σ ho.1 with ⟨t, i, _, g1, g2, g3, g4⟩ | ⟨g0, g2, g3, g4⟩
    · rw [fin_tok he g4 (lit_sts hc t st).2, (lit_sts hc t st).1]
      unfold PSt.exp
      rw [g2]
      by_cases htc : t = c
      · rw [if_pos ((kind_lit t c k g1 hc).2 htc)]
        subst htc
        rw [hs, hdp]
        have hkd : kd (T3 toks len) σ.pos ≠ 0 := by rw [g2, (kind_lit t t k g1 hc).2 rfl]; omega
        unfold fin
        obtain ⟨e1, e2, e3⟩ := adv_e (T3 toks len) σ
        have e4 := adv_pos (T3 toks len) σ hkd
        rw [if_pos (show (σ.adv (T3 toks len)).lv.e = 0 from e1.trans he)]
        show _ = runM len (toks.drop (σ.adv (T3 toks len)).pos) st (wrap64 ((σ.adv (T3 toks len)).d - 1))
        rw [e3, e4, wrap_d hd]; simp
      · rw [if_neg (fun hh => htc ((kind_lit t c k g1 hc).1 hh))]
        have : (c == t) = false := by rw [beq_eq_false_iff_ne]; exact fun hh => htc hh.symm
        rw [this]
        rw [fin_err (show ¬ (σ.ref (T3 toks len) 2).lv.e = 0 from ref_ne _ _ _ (by omega))]
        have := fin_ref (toks := toks) (len := len) (T3 toks len) he 2 (by omega) st
        rw [fin_err (ref_ne _ _ _ (by omega))] at this
        show _ = ((σ.ref (T3 toks len) 2).e, (σ.ref (T3 toks len) 2).pl)
        rw [this, g3]; rfl
    · rw [fin_end he g4 ⟨c, st, 0, (lit_sts hc [] st).2⟩]
      unfold PSt.exp
      rw [g2, if_neg (by omega), fin_err (show ¬ (σ.ref (T3 toks len) 2).lv.e = 0 from ref_ne _ _ _ (by omega))]
      have := fin_ref (toks := toks) (len := len) (T3 toks len) he 2 (by omega) st
      rw [fin_err (ref_ne _ _ _ (by omega))] at this
      show _ = ((σ.ref (T3 toks len) 2).e, (σ.ref (T3 toks len) 2).pl)
      rw [this, g3]
  · have hpos := ho.err he
    unfold PSt.exp
    rw [if_neg (by rw [hpos, kd_end]; omega), fin_err he]
    obtain ⟨r1, r2⟩ := ref_err (T3 toks len) σ 2 he
    rw [fin_err (show ¬ (σ.ref (T3 toks len) 2).lv.e = 0 by show ¬ (σ.ref (T3 toks len) 2).e = 0; rw [r1]; exact he)]
    show _ = ((σ.ref (T3 toks len) 2).e, (σ.ref (T3 toks len) 2).pl)
    rw [r1, r2]
/-- Between what opens and what shuts: the depth is as it was. -/
theorem goes_lv {σ σ1 σ2 : PSt} (ho : Ok toks.length σ) (h1 : σ.pos < σ1.pos ∧ (σ1.e = 0 → σ1.d = σ.d + 1)) (he1 : σ1.e = 0 → σ.e = 0) (h2 : Goes toks.length σ1 σ2) : Goes toks.length σ σ2.lv := by
  obtain ⟨g1, g2, g3⟩ := h2
  refine ⟨⟨g1.1, g1.2.1, fun e => ?_⟩, by show σ.pos ≤ σ2.pos; omega, fun e => ?_⟩
  · have e' : σ2.e = 0 := e
    obtain ⟨a1, a2⟩ := g3 e'
    have hd := ho.2.2 (he1 a1)
    have hd1 := h1.2 a1
    have : σ2.lv.d = σ.d := by show wrap64 (σ2.d - 1) = σ.d; rw [a2, hd1, ← IntWalk.i64_left, IntWalk.i64_in _ (by omega)]; omega
    rw [this]; exact hd
  · have e' : σ2.e = 0 := e
    obtain ⟨a1, a2⟩ := g3 e'
    have hd := ho.2.2 (he1 a1)
    have hd1 := h1.2 a1
    exact ⟨he1 a1, by show wrap64 (σ2.d - 1) = σ.d; rw [a2, hd1, ← IntWalk.i64_left, IntWalk.i64_in _ (by omega)]; omega⟩

end Go.Proofs.Ytkinoehmcfhgbaa.Av
set_option linter.unusedVariables false
set_option linter.unusedSimpArgs false
namespace Go.Proofs.Ytkinoehmcfhgbaa.Av
open Go.RowKit

/-- The text of the token at a place; behind the last one the empty text. -/
def sAt (toks : List (List UInt8 × Nat)) (k : Nat) : List UInt8 := (toks[k]?.map (·.1)).getD []
/-- The TERM at a place: its variable, its number, the place behind it. -/
def trm (toks : List (List UInt8 × Nat)) (k : Nat) : Int × Int × Nat :=
  if 0 ≤ vr (sAt toks k) then
    (if sAt toks (k + 1) == [43] then (vr (sAt toks k), dg 999 (sAt toks (k + 2)), k + 3) else if sAt toks (k + 1) == [45] then (vr (sAt toks k), -dg 999 (sAt toks (k + 2)), k + 3) else (vr (sAt toks k), 0, k + 1))
  else if sAt toks k == [45] then (-1, -dg 999 (sAt toks (k + 1)), k + 2) else (-1, dg 999 (sAt toks k), k + 1)
theorem dgo_range (m : Int) (hm : 0 ≤ m) : ∀ (l : List UInt8) (v : Int), 0 ≤ v → v ≤ m → -1 ≤ dgo m l v ∧ dgo m l v ≤ m
  | [], v, h0, h1 => by simp only [dgo]; omega
  | c :: r, v, h0, h1 => by
    simp only [dgo]
    split
    · omega
    · split
      · omega
      · exact dgo_range m hm r _ (by omega) (by omega)
theorem dg_range (m : Int) (hm : 0 ≤ m) (l : List UInt8) : -1 ≤ dg m l ∧ dg m l ≤ m := by
  cases l with
  | nil => simp only [dg]; omega
  | cons c r =>
    simp only [dg]
    split
    · omega
    · exact dgo_range m hm _ 0 (by omega) hm
theorem trm_range (toks : List (List UInt8 × Nat)) (k : Nat) : -1 ≤ (trm toks k).1 ∧ (trm toks k).1 ≤ 3 ∧ -999 ≤ (trm toks k).2.1 ∧ (trm toks k).2.1 ≤ 999 ∧ k + 1 ≤ (trm toks k).2.2 ∧ (trm toks k).2.2 ≤ k + 3 := by
  have h1 := vr_range (sAt toks k)
  have d0 := dg_range 999 (by omega) (sAt toks k)
  have d1 := dg_range 999 (by omega) (sAt toks (k + 1))
  have d2 := dg_range 999 (by omega) (sAt toks (k + 2))
  unfold trm
  repeat' split
  all_goals dsimp only
  all_goals omega

/-- Formulas. -/
inductive Fm where
  | tt
  | ff
  | cmp (r : Int) (a b : Int × Int)
  | no (f : Fm)
  | and (f g : Fm)
  | or (f g : Fm)
/-- What is read: a FACTOR, a PART, a FORMULA; what goes on behind a part, behind a formula. -/
inductive Tg where
  | fac
  | part
  | form
  | partL (f : Fm)
  | formL (f : Fm)
/-- The relations, as the program numbers them. -/
def rel (l : List UInt8) : Int := if l == [60] then 0 else if l == [60, 61] then 1 else if l == [62] then 3 else if l == [62, 61] then 4 else 2
theorem rel_range (l : List UInt8) : 0 ≤ rel l ∧ rel l ≤ 4 := by
  unfold rel
  repeat' split
  all_goals omega

/-- How a formula stands in tokens. -/
inductive Rd (toks : List (List UInt8 × Nat)) : Tg → Nat → Fm → Nat → Prop
  | tru {k : Nat} : sAt toks k = [116, 114, 117, 101] → Rd toks .fac k .tt (k + 1)
  | fls {k : Nat} : sAt toks k = [102, 97, 108, 115, 101] → Rd toks .fac k .ff (k + 1)
  | no {k k' : Nat} {f : Fm} : sAt toks k = [110, 111, 116] → Rd toks .fac (k + 1) f k' → Rd toks .fac k (.no f) k'
  | par {k k' : Nat} {f : Fm} : sAt toks k = [40] → Rd toks .form (k + 1) f k' → Rd toks .fac k f (k' + 1)
  | cmp {k : Nat} : sAt toks k ≠ [116, 114, 117, 101] → sAt toks k ≠ [102, 97, 108, 115, 101] → sAt toks k ≠ [110, 111, 116] → sAt toks k ≠ [40] →
      Rd toks .fac k (.cmp (rel (sAt toks (trm toks k).2.2)) ((trm toks k).1, (trm toks k).2.1) ((trm toks ((trm toks k).2.2 + 1)).1, (trm toks ((trm toks k).2.2 + 1)).2.1)) (trm toks ((trm toks k).2.2 + 1)).2.2
  | part {k k1 k' : Nat} {f g : Fm} : Rd toks .fac k f k1 → Rd toks (.partL f) k1 g k' → Rd toks .part k g k'
  | partS {k k1 k' : Nat} {f g h : Fm} : sAt toks k = [97, 110, 100] → Rd toks .fac (k + 1) g k1 → Rd toks (.partL (.and f g)) k1 h k' → Rd toks (.partL f) k h k'
  | partE {k : Nat} {f : Fm} : sAt toks k ≠ [97, 110, 100] → Rd toks (.partL f) k f k
  | form {k k1 k' : Nat} {f g : Fm} : Rd toks .part k f k1 → Rd toks (.formL f) k1 g k' → Rd toks .form k g k'
  | formS {k k1 k' : Nat} {f g h : Fm} : sAt toks k = [111, 114] → Rd toks .part (k + 1) g k1 → Rd toks (.formL (.or f g)) k1 h k' → Rd toks (.formL f) k h k'
  | formE {k : Nat} {f : Fm} : sAt toks k ≠ [111, 114] → Rd toks (.formL f) k f k

/-- A reading goes on: of a factor, a part, a formula by at least a token. -/
theorem Rd.le {toks : List (List UInt8 × Nat)} {t : Tg} {k k' : Nat} {f : Fm} (h : Rd toks t k f k') : k ≤ k' ∧ ((t = .fac ∨ t = .part ∨ t = .form) → k + 1 ≤ k') := by
  induction h with
  | tru _ => exact ⟨by omega, fun _ => by omega⟩
  | fls _ => exact ⟨by omega, fun _ => by omega⟩
  | no _ _ ih => exact ⟨by have := ih.1; omega, fun _ => by have := ih.1; omega⟩
  | par _ _ ih => exact ⟨by have := ih.1; omega, fun _ => by have := ih.1; omega⟩
  | @cmp k _ _ _ _ =>
    have h1 := trm_range toks k
    have h2 := trm_range toks ((trm toks k).2.2 + 1)
    exact ⟨by omega, fun _ => by omega⟩
  | part _ _ h1 h2 => have := h1.2 (Or.inl rfl); exact ⟨by have := h2.1; omega, fun _ => by have := h2.1; omega⟩
  | partS _ _ _ h1 h2 => exact ⟨by have := h2.1; have := h1.1; omega, fun h => by rcases h with h | h | h <;> cases h⟩
  | partE _ => exact ⟨Nat.le_refl _, fun h => by rcases h with h | h | h <;> cases h⟩
  | form _ _ h1 h2 => have := h1.2 (Or.inr (Or.inl rfl)); exact ⟨by have := h2.1; omega, fun _ => by have := h2.1; omega⟩
  | formS _ _ _ h1 h2 => exact ⟨by have := h2.1; have := h1.1; omega, fun h => by rcases h with h | h | h <;> cases h⟩
  | formE _ => exact ⟨Nat.le_refl _, fun h => by rcases h with h | h | h <;> cases h⟩

/-- Commands; several in a row lie to the right. -/
inductive Cm where
  | skip
  | asg (x : Int) (t : Int × Int)
  | ite (f : Fm) (a b : Cm)
  | loop (f g : Fm) (a : Cm)
  | seq (a b : Cm)
/-- How a COMMAND (false), COMMANDS (true) stand in tokens. -/
inductive Rc (toks : List (List UInt8 × Nat)) : Bool → Nat → Cm → Nat → Prop
  | skip {k : Nat} : sAt toks k = [115, 107, 105, 112] → Rc toks false k .skip (k + 1)
  | asg {k : Nat} : 0 ≤ vr (sAt toks k) → Rc toks false k (.asg (vr (sAt toks k)) ((trm toks (k + 2)).1, (trm toks (k + 2)).2.1)) (trm toks (k + 2)).2.2
  | ite {k k1 k2 k3 : Nat} {f : Fm} {a b : Cm} : sAt toks k = [105, 102] → Rd toks .form (k + 1) f k1 → Rc toks true (k1 + 1) a k2 → Rc toks true (k2 + 1) b k3 → Rc toks false k (.ite f a b) (k3 + 1)
  | loop {k k1 k2 k3 : Nat} {f g : Fm} {a : Cm} : sAt toks k = [119, 104, 105, 108, 101] → Rd toks .form (k + 1) f k1 → Rd toks .form (k1 + 1) g k2 → Rc toks true (k2 + 1) a k3 → Rc toks false k (.loop f g a) (k3 + 1)
  | one {k k' : Nat} {c : Cm} : Rc toks false k c k' → sAt toks k' ≠ [59] → Rc toks true k c k'
  | seq {k k1 k' : Nat} {c r : Cm} : Rc toks false k c k1 → sAt toks k1 = [59] → Rc toks true (k1 + 1) r k' → Rc toks true k (.seq c r) k'
theorem Rc.le {toks : List (List UInt8 × Nat)} {t : Bool} {k k' : Nat} {c : Cm} (h : Rc toks t k c k') : k + 1 ≤ k' := by
  induction h with
  | skip _ => omega
  | @asg k _ => have h2 := trm_range toks (k + 2); omega
  | ite _ h1 _ _ h2 h3 => have := h1.le.1; omega
  | loop _ h1 h2 _ h3 => have := h1.le.1; have := h2.le.1; omega
  | one _ _ h => exact h
  | seq _ _ _ h1 h2 => omega

variable {toks : List (List UInt8 × Nat)} {len : Nat}
/-- The token at a place, as the program has it and as the document. -/
theorem sAt_tok (hk : AllTok toks) {k : Nat} (h : k ≤ toks.length) :
    (∃ t, Tokish t ∧ k < toks.length ∧ sAt toks k = t ∧ kd (T3 toks len) k = (tk t).1 ∧ vlu (T3 toks len) k = (tk t).2) ∨ (k = toks.length ∧ sAt toks k = [] ∧ kd (T3 toks len) k = 0) := by
  by_cases hl : k < toks.length
  · obtain ⟨⟨t, i⟩, ht⟩ : ∃ t, toks[k]? = some t := ⟨_, List.getElem?_eq_getElem hl⟩
    have h3 := T3_tok (len := len) ht
    refine Or.inl ⟨t, hk t i (List.mem_of_getElem? ht), hl, ?_, ?_, ?_⟩
    · unfold sAt; rw [ht]; rfl
    · unfold kd; rw [h3]
    · unfold vlu; rw [h3]
  · have e : k = toks.length := by omega
    subst e
    exact Or.inr ⟨rfl, by unfold sAt; rw [List.getElem?_eq_none (Nat.le_refl _)]; rfl, kd_end toks len⟩
theorem lits_ne : ∀ x ∈ syms ++ kws, x.1 ≠ [] := by decide
theorem lit_at (hk : AllTok toks) {k : Nat} (h : k ≤ toks.length) {c : List UInt8} {n : Int} (hc : (c, n) ∈ syms ++ kws) : kd (T3 toks len) k = n ↔ sAt toks k = c := by
  rcases sAt_tok (len := len) hk h with ⟨t, ht, hl, hs, h1, h2⟩ | ⟨e, hs, h1⟩
  · rw [h1, hs]; exact kind_lit t c n ht hc
  · rw [h1, hs]
    have := sk_range _ hc
    have h9 := lits_ne _ hc
    exact ⟨fun e => by dsimp only at this; omega, fun e => absurd e.symm h9⟩
theorem tk_var (t : List UInt8) (h : Tokish t) (h8 : (tk t).1 = 28) : (tk t).2 = vr t := by
  unfold tk at h8 ⊢
  by_cases hs : 0 < sgn t
  · obtain ⟨k, hk⟩ := sym_cases t h hs
    have := (syms_kind _ hk).1
    have h9 := sk_range (t, k) (by simp [hk])
    have e : (tk t).1 = 28 := by unfold tk; exact h8
    rw [this] at e; dsimp only at e h9; omega
  · rw [if_neg hs] at h8 ⊢
    unfold wk at h8 ⊢
    have := kw_range t
    split at h8
    · dsimp only at h8; omega
    · rename_i hkw
      rw [if_neg hkw]
      split at h8
      · rename_i hv; rw [if_pos hv]
      · split at h8 <;> simp at h8
theorem tk_num (t : List UInt8) (h : Tokish t) (h8 : (tk t).1 = 29) : (tk t).2 = dg 999 t := by
  unfold tk at h8 ⊢
  by_cases hs : 0 < sgn t
  · obtain ⟨k, hk⟩ := sym_cases t h hs
    have := (syms_kind _ hk).1
    have h9 := sk_range (t, k) (by simp [hk])
    have e : (tk t).1 = 29 := by unfold tk; exact h8
    rw [this] at e; dsimp only at e h9; omega
  · rw [if_neg hs] at h8 ⊢
    unfold wk at h8 ⊢
    have := kw_range t
    split at h8
    · dsimp only at h8; omega
    · rename_i hkw
      rw [if_neg hkw]
      split at h8
      · simp at h8
      · rename_i hv
        rw [if_neg hv]
        split at h8
        · rename_i hd; rw [if_pos hd]
        · simp at h8
theorem var_at (hk : AllTok toks) {k : Nat} (h : k ≤ toks.length) : (kd (T3 toks len) k = 28 → vlu (T3 toks len) k = vr (sAt toks k)) ∧ (kd (T3 toks len) k = 28 ↔ 0 ≤ vr (sAt toks k)) := by
  rcases sAt_tok (len := len) hk h with ⟨t, ht, hl, hs, h1, h2⟩ | ⟨e, hs, h1⟩
  · rw [h1, h2, hs]; exact ⟨tk_var t ht, kind_var t ht⟩
  · rw [h1, hs]; exact ⟨fun e => by omega, fun e => by omega, fun e => absurd e (by decide)⟩
theorem num_at (hk : AllTok toks) {k : Nat} (h : k ≤ toks.length) (h9 : kd (T3 toks len) k = 29) : vlu (T3 toks len) k = dg 999 (sAt toks k) := by
  rcases sAt_tok (len := len) hk h with ⟨t, ht, hl, hs, h1, h2⟩ | ⟨e, hs, h1⟩
  · rw [h2, hs]; exact tk_num t ht (by rw [← h1]; exact h9)
  · omega
end Go.Proofs.Ytkinoehmcfhgbaa.Av
set_option linter.unusedVariables false
set_option linter.unusedSimpArgs false
namespace Go.Proofs.Ytkinoehmcfhgbaa.Vl
open Go.RowKit
open Go.Proofs.Ytkinoehmcfhgbaa.Av (Fm Rd Tg sAt trm trm_range rel rel_range)

/-- The letter of a place: 0 to 4. -/
def lt (p : Int) : UInt8 := if p = 0 then 48 else if p = 1 then 97 else if p = 2 then 98 else if p = 3 then 99 else 100
theorem lt_plu {p : Int} (h0 : 0 ≤ p) (h4 : p ≤ 4) : plu (lt p) = p := by
  have : p = 0 ∨ p = 1 ∨ p = 2 ∨ p = 3 ∨ p = 4 := by omega
  rcases this with rfl | rfl | rfl | rfl | rfl <;> rfl
theorem lt_mk {p : Int} (h0 : 0 ≤ p) (h4 : p ≤ 4) : mk ((lt p).toNat : Int) = -1 := by
  have : p = 0 ∨ p = 1 ∨ p = 2 ∨ p = 3 ∨ p = 4 := by omega
  rcases this with rfl | rfl | rfl | rfl | rfl <;> rfl
/-- The bytes of a symbol. -/
def sb (y : Sym) : List UInt8 :=
  if y.1 = 0 then [116] else if y.1 = 1 then [102] else if y.1 = 2 then [33] else if y.1 = 3 then [38] else if y.1 = 4 then [124] else if y.1 = 5 then [62] else
  lt y.2.1 :: 45 :: lt y.2.2.1 :: 60 :: 61 :: (Lib.itoa y.2.2.2 ++ [46])
def sbs (ys : List Sym) : List UInt8 := ys.flatMap sb
theorem sbs_append (a b : List Sym) : sbs (a ++ b) = sbs a ++ sbs b := by unfold sbs; rw [List.flatMap_append]
theorem sbs_cons (y : Sym) (b : List Sym) : sbs (y :: b) = sb y ++ sbs b := rfl
/-- Symbols as they are written. -/
def Good (y : Sym) : Prop := 0 ≤ y.1 ∧ y.1 ≤ 6 ∧ (y.1 ≠ 6 → y.2 = (0, 0, 0)) ∧ (y.1 = 6 → 0 ≤ y.2.1 ∧ y.2.1 ≤ 4 ∧ 0 ≤ y.2.2.1 ∧ y.2.2.1 ≤ 4 ∧ y.2.1 ≠ y.2.2.1 ∧ -999999 ≤ y.2.2.2 ∧ y.2.2.2 ≤ 999999)
theorem sb_ne (y : Sym) : ∃ c r, sb y = c :: r := by
  unfold sb
  repeat' split
  all_goals exact ⟨_, _, rfl⟩
theorem sym_sb {y : Sym} (h : Good y) (l : List UInt8) : sym (sb y ++ l) = some (y, (sb y).length) := by
  obtain ⟨q, u, v, n⟩ := y
  obtain ⟨h0, h6, ho, ha⟩ := h
  dsimp only at *
  have hq : q = 0 ∨ q = 1 ∨ q = 2 ∨ q = 3 ∨ q = 4 ∨ q = 5 ∨ q = 6 := by omega
  rcases hq with rfl | rfl | rfl | rfl | rfl | rfl | rfl
  iterate 6
    · have := ho (by decide)
      cases this; rfl
  · obtain ⟨a1, a2, a3, a4, a5, a6, a7⟩ := ha rfl
    have e : sb (6, u, v, n) = lt u :: 45 :: lt v :: 60 :: 61 :: (Lib.itoa n ++ [46]) := rfl
    rw [e]
    show sym (lt u :: (45 :: lt v :: 60 :: 61 :: (Lib.itoa n ++ [46]) ++ l)) = _
    have e2 : 45 :: lt v :: 60 :: 61 :: (Lib.itoa n ++ [46]) ++ l = 45 :: lt v :: 60 :: 61 :: (Lib.itoa n ++ 46 :: l) := by simp
    rw [e2]
    simp only [sym]
    rw [lt_mk a1 a2, if_neg (by decide)]
    have hne : (Lib.itoa n ++ 46 :: l).isEmpty = false := by cases hh : Lib.itoa n <;> rfl
    have hg : (Lib.itoa n ++ 46 :: l).getD (Lib.itoa n).length 0 = 46 := by simp
    simp only [atm]
    rw [bnd_itoa n a6 a7 l, hne]
    dsimp only
    rw [hg, lt_plu a1 a2, lt_plu a3 a4]
    have p1 : decide (u < 0) = false := by simp; omega
    have p2 : decide (v < 0) = false := by simp; omega
    have p3 : (u == v) = false := by simp; exact a5
    rw [p1, p2, p3]
    simp
    omega
theorem prsA_sb {y : Sym} (h : Good y) (m : Int) (hm : m ≠ 0) (l : List UInt8) : prsA m (sb y ++ l) = (prsA (m + prt y.1 - 1) l).map (y :: ·) := by
  obtain ⟨c, r, hc⟩ := sb_ne y
  have hs := sym_sb h l
  rw [hc] at hs ⊢
  rw [List.cons_append] at hs ⊢
  rw [prsA_some m c (r ++ l) y _ hm hs]
  congr 2
  rw [← List.cons_append]; exact List.drop_left

/-- u less v is at most n, as a symbol. -/
def aty (u v n : Int) : Sym := if u = v then (if 0 ≤ n then (0, 0, 0, 0) else (1, 0, 0, 0)) else (6, u, v, n)
def cms (r : Int) (a b : Int × Int) : List Sym :=
  if r = 0 then [aty (a.1 + 1) (b.1 + 1) (b.2 - a.2 - 1)] else if r = 1 then [aty (a.1 + 1) (b.1 + 1) (b.2 - a.2)] else if r = 3 then [aty (b.1 + 1) (a.1 + 1) (a.2 - b.2 - 1)] else if r = 4 then [aty (b.1 + 1) (a.1 + 1) (a.2 - b.2)]
  else [(3, 0, 0, 0), aty (a.1 + 1) (b.1 + 1) (b.2 - a.2), aty (b.1 + 1) (a.1 + 1) (a.2 - b.2)]
/-- The symbols of a formula. -/
def fsy : Fm → List Sym
  | .tt => [(0, 0, 0, 0)]
  | .ff => [(1, 0, 0, 0)]
  | .cmp r a b => cms r a b
  | .no f => (2, 0, 0, 0) :: fsy f
  | .and f g => (3, 0, 0, 0) :: (fsy f ++ fsy g)
  | .or f g => (4, 0, 0, 0) :: (fsy f ++ fsy g)
/-- The value of a term; does a comparison, a formula hold? -/
def tv (x1 x2 x3 x4 : Int) (a : Int × Int) : Int := xv x1 x2 x3 x4 (a.1 + 1) + a.2
def cmpB (r l m : Int) : Bool := if r = 0 then decide (l < m) else if r = 1 then decide (l ≤ m) else if r = 2 then decide (l = m) else if r = 3 then decide (m < l) else decide (m ≤ l)
def ev (x1 x2 x3 x4 : Int) : Fm → Bool
  | .tt => true
  | .ff => false
  | .cmp r a b => cmpB r (tv x1 x2 x3 x4 a) (tv x1 x2 x3 x4 b)
  | .no f => !ev x1 x2 x3 x4 f
  | .and f g => ev x1 x2 x3 x4 f && ev x1 x2 x3 x4 g
  | .or f g => ev x1 x2 x3 x4 f || ev x1 x2 x3 x4 g
/-- Numbers and variables as they may be. -/
def tOk (a : Int × Int) : Prop := -1 ≤ a.1 ∧ a.1 ≤ 3 ∧ -999 ≤ a.2 ∧ a.2 ≤ 999
def fOk : Fm → Prop
  | .cmp r a b => 0 ≤ r ∧ r ≤ 4 ∧ tOk a ∧ tOk b
  | .no f => fOk f
  | .and f g => fOk f ∧ fOk g
  | .or f g => fOk f ∧ fOk g
  | _ => True
theorem aty_good {u v n : Int} (h0 : 0 ≤ u) (h1 : u ≤ 4) (h2 : 0 ≤ v) (h3 : v ≤ 4) (h4 : -999999 ≤ n) (h5 : n ≤ 999999) : Good (aty u v n) := by
  unfold aty
  split
  · split
    · exact ⟨by decide, by decide, fun _ => rfl, fun h => absurd h (by decide)⟩
    · exact ⟨by decide, by decide, fun _ => rfl, fun h => absurd h (by decide)⟩
  · rename_i h; exact ⟨by dsimp only; decide, by dsimp only; decide, fun e => absurd rfl e, fun _ => ⟨h0, h1, h2, h3, h, h4, h5⟩⟩
theorem aty_prt (u v n : Int) : prt (aty u v n).1 = 0 := by
  unfold aty
  split
  · split <;> rfl
  · rfl
theorem prsA_aty {u v n : Int} (h0 : 0 ≤ u) (h1 : u ≤ 4) (h2 : 0 ≤ v) (h3 : v ≤ 4) (h4 : -999999 ≤ n) (h5 : n ≤ 999999) (m : Int) (hm : m ≠ 0) (l : List UInt8) : prsA m (sb (aty u v n) ++ l) = (prsA (m - 1) l).map (aty u v n :: ·) := by
  rw [prsA_sb (aty_good h0 h1 h2 h3 h4 h5) m hm l, aty_prt, Int.add_zero]
theorem good_mark {q : Int} (h0 : 0 ≤ q) (h5 : q ≤ 5) : Good (q, 0, 0, 0) := ⟨h0, by dsimp only; omega, fun _ => rfl, fun h => by dsimp only at h; omega⟩
theorem map_app {ys zs : List Sym} (o : Option (List Sym)) : (o.map (zs ++ ·)).map (ys ++ ·) = o.map ((ys ++ zs) ++ ·) := by cases o <;> simp
theorem map_cons (y : Sym) {zs : List Sym} (o : Option (List Sym)) : (o.map (zs ++ ·)).map (y :: ·) = o.map ((y :: zs) ++ ·) := by cases o <;> simp
theorem prsA_cms {r : Int} {a b : Int × Int} (ha : tOk a) (hb : tOk b) (m : Int) (hm : 0 < m) (l : List UInt8) : prsA m (sbs (cms r a b) ++ l) = (prsA (m - 1) l).map (cms r a b ++ ·) := by
  obtain ⟨a1, a2, a3, a4⟩ := ha
  obtain ⟨b1, b2, b3, b4⟩ := hb
  have one : ∀ u v n, 0 ≤ u → u ≤ 4 → 0 ≤ v → v ≤ 4 → -999999 ≤ n → n ≤ 999999 → prsA m (sbs [aty u v n] ++ l) = (prsA (m - 1) l).map ([aty u v n] ++ ·) := fun u v n h0 h1 h2 h3 h4 h5 => by
    show prsA m ((sb (aty u v n) ++ []) ++ l) = _
    rw [List.append_nil, prsA_aty h0 h1 h2 h3 h4 h5 m (by omega)]; rfl
  unfold cms
  split
  · exact one _ _ _ (by omega) (by omega) (by omega) (by omega) (by omega) (by omega)
  · split
    · exact one _ _ _ (by omega) (by omega) (by omega) (by omega) (by omega) (by omega)
    · split
      · exact one _ _ _ (by omega) (by omega) (by omega) (by omega) (by omega) (by omega)
      · split
        · exact one _ _ _ (by omega) (by omega) (by omega) (by omega) (by omega) (by omega)
        · rw [sbs_cons, sbs_cons, sbs_cons, List.append_assoc, List.append_assoc, List.append_assoc, prsA_sb (good_mark (q := 3) (by decide) (by decide)) m (by omega)]
          show Option.map _ (prsA (m + 2 - 1) _) = _
          rw [prsA_aty (by omega) (by omega) (by omega) (by omega) (by omega) (by omega) _ (by omega), prsA_aty (by omega) (by omega) (by omega) (by omega) (by omega) (by omega) _ (by omega)]
          have e : m + 2 - 1 - 1 - 1 = m - 1 := by omega
          rw [e]
          show Option.map _ (Option.map _ (Option.map _ (prsA (m - 1) l))) = _
          cases prsA (m - 1) l <;> rfl
/-- The bytes of a formula's symbols are read as these symbols. -/
theorem prsA_fsy : ∀ (f : Fm), fOk f → ∀ (m : Int), 0 < m → ∀ l, prsA m (sbs (fsy f) ++ l) = (prsA (m - 1) l).map (fsy f ++ ·)
  | .tt, _, m, hm, l => by
    show prsA m (sb (0, 0, 0, 0) ++ l) = _
    rw [prsA_sb (good_mark (q := 0) (by decide) (by decide)) m (by omega)]
    have e : m + prt (0 : Int) - 1 = m - 1 := by show m + 0 - 1 = _; omega
    dsimp only; rw [e]; rfl
  | .ff, _, m, hm, l => by
    show prsA m (sb (1, 0, 0, 0) ++ l) = _
    rw [prsA_sb (good_mark (q := 1) (by decide) (by decide)) m (by omega)]
    have e : m + prt (1 : Int) - 1 = m - 1 := by show m + 0 - 1 = _; omega
    dsimp only; rw [e]; rfl
  | .cmp r a b, h, m, hm, l => prsA_cms h.2.2.1 h.2.2.2 m hm l
  | .no f, h, m, hm, l => by
    show prsA m (sbs ((2, 0, 0, 0) :: fsy f) ++ l) = Option.map (((2, 0, 0, 0) :: fsy f) ++ ·) _
    rw [sbs_cons, List.append_assoc, prsA_sb (good_mark (q := 2) (by decide) (by decide)) m (by omega)]
    have e : m + prt (2 : Int) - 1 = m := by show m + 1 - 1 = _; omega
    dsimp only; rw [e, prsA_fsy f h m hm l, map_cons]
  | .and f g, h, m, hm, l => by
    show prsA m (sbs ((3, 0, 0, 0) :: (fsy f ++ fsy g)) ++ l) = Option.map (((3, 0, 0, 0) :: (fsy f ++ fsy g)) ++ ·) _
    rw [sbs_cons, sbs_append, List.append_assoc, List.append_assoc, prsA_sb (good_mark (q := 3) (by decide) (by decide)) m (by omega)]
    have e : m + prt (3 : Int) - 1 = m + 1 := by show m + 2 - 1 = _; omega
    dsimp only; rw [e, prsA_fsy f h.1 (m + 1) (by omega), show m + 1 - 1 = m by omega, prsA_fsy g h.2 m hm, map_app, map_cons]
  | .or f g, h, m, hm, l => by
    show prsA m (sbs ((4, 0, 0, 0) :: (fsy f ++ fsy g)) ++ l) = Option.map (((4, 0, 0, 0) :: (fsy f ++ fsy g)) ++ ·) _
    rw [sbs_cons, sbs_append, List.append_assoc, List.append_assoc, prsA_sb (good_mark (q := 4) (by decide) (by decide)) m (by omega)]
    have e : m + prt (4 : Int) - 1 = m + 1 := by show m + 2 - 1 = _; omega
    dsimp only; rw [e, prsA_fsy f h.1 (m + 1) (by omega), show m + 1 - 1 = m by omega, prsA_fsy g h.2 m hm, map_app, map_cons]
theorem brun_aty (x1 x2 x3 x4 u v n : Int) (r : List Sym) : brun x1 x2 x3 x4 (aty u v n :: r) = decide (xv x1 x2 x3 x4 u - xv x1 x2 x3 x4 v ≤ n) :: brun x1 x2 x3 x4 r := by
  rw [brun_cons]
  unfold aty
  split
  · rename_i h; subst h
    split
    · rename_i h; show true :: _ = _; rw [decide_eq_true (by omega)]; rfl
    · rename_i h; show false :: _ = _; rw [decide_eq_false (by omega)]; rfl
  · rfl
theorem brun_cms (x1 x2 x3 x4 r : Int) (a b : Int × Int) (h0 : 0 ≤ r) (h4 : r ≤ 4) (l : List Sym) : brun x1 x2 x3 x4 (cms r a b ++ l) = cmpB r (tv x1 x2 x3 x4 a) (tv x1 x2 x3 x4 b) :: brun x1 x2 x3 x4 l := by
  have hr : r = 0 ∨ r = 1 ∨ r = 3 ∨ r = 4 ∨ r = 2 := by omega
  unfold tv
  rcases hr with rfl | rfl | rfl | rfl | rfl
  · show brun x1 x2 x3 x4 (aty (a.1 + 1) (b.1 + 1) (b.2 - a.2 - 1) :: l) = decide (_ < _) :: _
    rw [brun_aty]; congr 1; rw [decide_eq_decide]; omega
  · show brun x1 x2 x3 x4 (aty (a.1 + 1) (b.1 + 1) (b.2 - a.2) :: l) = decide (_ ≤ _) :: _
    rw [brun_aty]; congr 1; rw [decide_eq_decide]; omega
  · show brun x1 x2 x3 x4 (aty (b.1 + 1) (a.1 + 1) (a.2 - b.2 - 1) :: l) = decide (_ < _) :: _
    rw [brun_aty]; congr 1; rw [decide_eq_decide]; omega
  · show brun x1 x2 x3 x4 (aty (b.1 + 1) (a.1 + 1) (a.2 - b.2) :: l) = decide (_ ≤ _) :: _
    rw [brun_aty]; congr 1; rw [decide_eq_decide]; omega
  · show brun x1 x2 x3 x4 ((3, 0, 0, 0) :: aty (a.1 + 1) (b.1 + 1) (b.2 - a.2) :: aty (b.1 + 1) (a.1 + 1) (a.2 - b.2) :: l) = decide (_ = _) :: _
    rw [brun_cons, brun_aty, brun_aty]
    show (decide _ && decide _) :: brun x1 x2 x3 x4 l = _
    congr 1; rw [← Bool.decide_and, decide_eq_decide]; omega
theorem brun_fsy (x1 x2 x3 x4 : Int) : ∀ (f : Fm), fOk f → ∀ l, brun x1 x2 x3 x4 (fsy f ++ l) = ev x1 x2 x3 x4 f :: brun x1 x2 x3 x4 l
  | .tt, _, l => rfl
  | .ff, _, l => rfl
  | .cmp r a b, h, l => brun_cms x1 x2 x3 x4 r a b h.1 h.2.1 l
  | .no f, h, l => by
    show brun x1 x2 x3 x4 ((2, 0, 0, 0) :: (fsy f ++ l)) = _
    rw [brun_cons, brun_fsy x1 x2 x3 x4 f h l]; rfl
  | .and f g, h, l => by
    show brun x1 x2 x3 x4 ((3, 0, 0, 0) :: ((fsy f ++ fsy g) ++ l)) = _
    rw [brun_cons, List.append_assoc, brun_fsy x1 x2 x3 x4 f h.1, brun_fsy x1 x2 x3 x4 g h.2]; rfl
  | .or f g, h, l => by
    show brun x1 x2 x3 x4 ((4, 0, 0, 0) :: ((fsy f ++ fsy g) ++ l)) = _
    rw [brun_cons, List.append_assoc, brun_fsy x1 x2 x3 x4 f h.1, brun_fsy x1 x2 x3 x4 g h.2]; rfl
/-- The text of a formula as a condition. -/
def ftx (f : Fm) : ByteArray := ⟨(sbs (fsy f)).toArray⟩
theorem pars_ftx {f : Fm} (h : fOk f) (hl : (sbs (fsy f)).length ≤ 4000) : pars (ftx f) = some (fsy f) := by
  have e : (ftx f).size = (sbs (fsy f)).length := by show (sbs (fsy f)).toArray.size = _; simp
  unfold pars
  rw [if_neg (by omega)]
  show prsA 1 (sbs (fsy f)).toArray.toList = _
  have := prsA_fsy f h 1 (by decide) []
  rw [List.append_nil] at this
  rw [List.toList_toArray, this]
  show Option.map _ (prsA 0 []) = _
  rw [prsA_nil]; simp
theorem val_ftx {f : Fm} (h : fOk f) (hl : (sbs (fsy f)).length ≤ 4000) (x1 x2 x3 x4 : Int) : val x1 x2 x3 x4 (fsy f) = ev x1 x2 x3 x4 f := by
  obtain ⟨b, h1, h2⟩ := val_brun x1 x2 x3 x4 (pars_ftx h hl)
  have := brun_fsy x1 x2 x3 x4 f h []
  rw [List.append_nil, h1] at this
  rw [h2]; exact (List.cons.inj this).1

/- A formula in tokens: what it is made of may be, and its text is short. -/
theorem dec_len : ∀ (k u : Nat), u < 10 ^ (k + 1) → (Lib.decDigits u).length ≤ k + 1
  | 0, u, h => by
    unfold Lib.decDigits
    rw [dif_pos (by omega)]; simp
  | k + 1, u, h => by
    unfold Lib.decDigits
    split
    · simp
    · have := dec_len k (u / 10) (by rw [Nat.pow_succ] at h; omega)
      simp; omega
theorem itoa_len {n : Int} (h0 : -9999 ≤ n) (h1 : n ≤ 9999) : (Lib.itoa n).length ≤ 5 := by
  unfold Lib.itoa
  split
  · have := dec_len 3 n.natAbs (by omega); simp; omega
  · have := dec_len 3 n.toNat (by omega); omega
theorem itoa_len7 {n : Int} (h0 : -999999 ≤ n) (h1 : n ≤ 999999) : (Lib.itoa n).length ≤ 7 := by
  unfold Lib.itoa
  split
  · have := dec_len 5 n.natAbs (by omega); simp; omega
  · have := dec_len 5 n.toNat (by omega); omega
theorem aty_len {u v n : Int} (h0 : -9999 ≤ n) (h1 : n ≤ 9999) : (sb (aty u v n)).length ≤ 11 := by
  unfold aty
  split
  · split
    · show 1 ≤ 11; omega
    · show 1 ≤ 11; omega
  · show (lt u :: 45 :: lt v :: 60 :: 61 :: (Lib.itoa n ++ [46])).length ≤ 11
    have := itoa_len h0 h1
    simp; omega
theorem aty_len13 {u v n : Int} (h0 : -999999 ≤ n) (h1 : n ≤ 999999) : (sb (aty u v n)).length ≤ 13 := by
  unfold aty
  split
  · split
    · show 1 ≤ 13; omega
    · show 1 ≤ 13; omega
  · show (lt u :: 45 :: lt v :: 60 :: 61 :: (Lib.itoa n ++ [46])).length ≤ 13
    have := itoa_len7 h0 h1
    simp; omega
theorem cms_len {r : Int} {a b : Int × Int} (ha : tOk a) (hb : tOk b) : (sbs (cms r a b)).length ≤ 23 := by
  obtain ⟨a1, a2, a3, a4⟩ := ha
  obtain ⟨b1, b2, b3, b4⟩ := hb
  have one : ∀ u v n : Int, -9999 ≤ n → n ≤ 9999 → (sbs [aty u v n]).length ≤ 23 := fun u v n h0 h1 => by
    have := aty_len (u := u) (v := v) h0 h1
    show (sb (aty u v n) ++ []).length ≤ 23
    rw [List.append_nil]; omega
  unfold cms
  split
  · exact one _ _ _ (by omega) (by omega)
  · split
    · exact one _ _ _ (by omega) (by omega)
    · split
      · exact one _ _ _ (by omega) (by omega)
      · split
        · exact one _ _ _ (by omega) (by omega)
        · have h1 := aty_len (u := a.1 + 1) (v := b.1 + 1) (n := b.2 - a.2) (by omega) (by omega)
          have h2 := aty_len (u := b.1 + 1) (v := a.1 + 1) (n := a.2 - b.2) (by omega) (by omega)
          have e : (sb (3, 0, 0, 0)).length = 1 := rfl
          have e2 : (sbs []).length = 0 := rfl
          rw [sbs_cons, sbs_cons, sbs_cons, List.length_append, List.length_append, List.length_append, e, e2]
          omega
theorem trm_ok (toks : List (List UInt8 × Nat)) (k : Nat) : tOk ((trm toks k).1, (trm toks k).2.1) := by
  have := trm_range toks k; exact ⟨this.1, this.2.1, this.2.2.1, this.2.2.2.1⟩
def tgF : Tg → Option Fm
  | .partL f => some f
  | .formL f => some f
  | _ => none
theorem rd_ok {toks : List (List UInt8 × Nat)} {t : Tg} {k k' : Nat} {f : Fm} (h : Rd toks t k f k') : (∀ g, tgF t = some g → fOk g) → fOk f := by
  induction h with
  | tru _ => intro _; exact trivial
  | fls _ => intro _; exact trivial
  | no _ _ ih => intro _; exact ih (fun g h => by cases h)
  | par _ _ ih => intro _; exact ih (fun g h => by cases h)
  | cmp _ _ _ _ => intro _; exact ⟨(rel_range _).1, (rel_range _).2, trm_ok _ _, trm_ok _ _⟩
  | part _ _ h1 h2 => intro _; exact h2 (fun g h => by cases h; exact h1 (fun g h => by cases h))
  | partS _ _ _ h1 h2 => intro hg; exact h2 (fun g h => by cases h; exact ⟨hg _ rfl, h1 (fun g h => by cases h)⟩)
  | partE _ => intro hg; exact hg _ rfl
  | form _ _ h1 h2 => intro _; exact h2 (fun g h => by cases h; exact h1 (fun g h => by cases h))
  | formS _ _ _ h1 h2 => intro hg; exact h2 (fun g h => by cases h; exact ⟨hg _ rfl, h1 (fun g h => by cases h)⟩)
  | formE _ => intro hg; exact hg _ rfl
def tgL : Tg → Nat
  | .partL f => (sbs (fsy f)).length
  | .formL f => (sbs (fsy f)).length
  | _ => 0
theorem bin_len (q : Int) (hq : (sb (q, 0, 0, 0)).length = 1) (f g : Fm) : (sbs ((q, 0, 0, 0) :: (fsy f ++ fsy g))).length = 1 + (sbs (fsy f)).length + (sbs (fsy g)).length := by
  rw [sbs_cons, sbs_append, List.length_append, List.length_append, hq]; omega
theorem rd_len {toks : List (List UInt8 × Nat)} {t : Tg} {k k' : Nat} {f : Fm} (h : Rd toks t k f k') : (sbs (fsy f)).length + 8 * k ≤ tgL t + 8 * k' := by
  induction h with
  | tru _ => show 1 + _ ≤ _; omega
  | fls _ => show 1 + _ ≤ _; omega
  | no _ _ ih =>
    show (sbs ((2, 0, 0, 0) :: fsy _)).length + _ ≤ _
    have e : (sb (2, 0, 0, 0)).length = 1 := rfl
    rw [sbs_cons, List.length_append, e]; simp only [tgL] at ih ⊢; omega
  | par _ _ ih => simp only [tgL] at ih ⊢; omega
  | @cmp k _ _ _ _ =>
    have h1 := trm_range toks k
    have h2 := trm_range toks ((trm toks k).2.2 + 1)
    have h3 := cms_len (r := rel (sAt toks (trm toks k).2.2)) (trm_ok toks k) (trm_ok toks ((trm toks k).2.2 + 1))
    show (sbs (cms _ _ _)).length + _ ≤ _
    omega
  | part _ _ h1 h2 => simp only [tgL] at *; omega
  | @partS k k1 k' f g h _ _ _ h1 h2 =>
    simp only [tgL] at *
    have : (sbs (fsy (.and f g))).length = 1 + (sbs (fsy f)).length + (sbs (fsy g)).length := bin_len 3 rfl f g
    omega
  | partE _ => exact Nat.le_refl _
  | form _ _ h1 h2 => simp only [tgL] at *; omega
  | @formS k k1 k' f g h _ _ _ h1 h2 =>
    simp only [tgL] at *
    have : (sbs (fsy (.or f g))).length = 1 + (sbs (fsy f)).length + (sbs (fsy g)).length := bin_len 4 rfl f g
    omega
  | formE _ => exact Nat.le_refl _
end Go.Proofs.Ytkinoehmcfhgbaa.Vl
