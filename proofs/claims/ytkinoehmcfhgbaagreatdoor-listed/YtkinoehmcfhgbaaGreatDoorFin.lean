/-
  Plain facts (no walk): the parser's state and the document's machine answer alike, rule by rule.
-/
import Derived.Test.YtkinoehmcfhgbaaGreatDoorPar0
import Derived.Test.YtkinoehmcfhgbaaGreatDoorKind
import Derived.Test.YtkinoehmcfhgbaaGreatDoorOpn
set_option linter.unusedVariables false
set_option linter.unusedSimpArgs false
namespace Go.Proofs.YtkinoehmcfhgbaaGreatDoor.Av
open Go.RowKit

/-- What the document's machine answers from where the parser is, with so much wanted yet. -/
def fin (toks : List (List UInt8 × Nat)) (len : Nat) (σ : PSt) (st : List (List UInt8)) : Int × Int := if σ.e = 0 then runM len (toks.drop σ.pos) st σ.d else (σ.e, σ.pl)
def Ok (n : Nat) (σ : PSt) : Prop := σ.pos ≤ n ∧ (σ.e ≠ 0 → σ.pos = n) ∧ (σ.e = 0 → 0 ≤ σ.d ∧ σ.d ≤ 10)
def AllTok (toks : List (List UInt8 × Nat)) : Prop := ∀ t i, (t, i) ∈ toks → Tokish t
def PSt.lv (σ : PSt) : PSt := { σ with d := wrap64 (σ.d - 1) }
def PSt.exp (σ : PSt) (T : List (Int × Int × Int)) (k : Int) : PSt := if kd T σ.pos = k then σ.adv T else σ.ref T 2
def PSt.ent (σ : PSt) (T : List (Int × Int × Int)) : PSt := if σ.d = 10 then σ.ref T 3 else ({ σ with d := σ.d + 1 } : PSt).adv T

variable {toks : List (List UInt8 × Nat)} {len : Nat}

theorem T3_len (toks : List (List UInt8 × Nat)) (len : Nat) : (T3 toks len).length = toks.length + 1 := by simp [T3]
theorem T3_tok {j : Nat} {t : List UInt8} {i : Nat} (h : toks[j]? = some (t, i)) : (T3 toks len).getD j (0, 0, 0) = ((tk t).1, (i : Int), (tk t).2) := by
  have hj : j < toks.length := by
    rcases Nat.lt_or_ge j toks.length with h' | h'
    · exact h'
    · rw [List.getElem?_eq_none h'] at h; cases h
  unfold T3
  rw [List.getD_eq_getElem?_getD, List.getElem?_append_left (by simpa using hj), List.getElem?_map, h]; rfl
theorem T3_end : (T3 toks len).getD toks.length (0, 0, 0) = (0, (len : Int), 0) := by
  unfold T3
  rw [List.getD_eq_getElem?_getD, List.getElem?_append_right (by simp)]; simp

/-- Where the parser looks: at a token, or behind the last. -/
theorem look (h : AllTok toks) (σ : PSt) (hp : σ.pos ≤ toks.length) :
    (∃ (t : List UInt8) (i : Nat), σ.pos < toks.length ∧ Tokish t ∧ kd (T3 toks len) σ.pos = (tk t).1 ∧ plc (T3 toks len) σ.pos = (i : Int) ∧ toks.drop σ.pos = (t, i) :: toks.drop (σ.pos + 1)) ∨
    (σ.pos = toks.length ∧ kd (T3 toks len) σ.pos = 0 ∧ plc (T3 toks len) σ.pos = (len : Int) ∧ toks.drop σ.pos = []) := by
  rcases Nat.lt_or_ge σ.pos toks.length with hlt | hge
  · left
    obtain ⟨⟨t, i⟩, ht⟩ : ∃ x, toks[σ.pos]? = some x := ⟨_, List.getElem?_eq_getElem hlt⟩
    have e := T3_tok (len := len) ht
    refine ⟨t, i, hlt, h t i (List.mem_of_getElem? ht), ?_, ?_, ?_⟩
    · unfold kd; rw [e]
    · unfold plc; rw [e]
    · rw [List.drop_eq_getElem_cons hlt]; rw [List.getElem?_eq_getElem hlt] at ht; rw [Option.some.inj ht]
  · right
    have e : σ.pos = toks.length := by omega
    refine ⟨e, ?_, ?_, ?_⟩
    · unfold kd; rw [e, T3_end]
    · unfold plc; rw [e, T3_end]
    · rw [e]; exact List.drop_length

theorem tk_pos (t : List UInt8) (h : Tokish t) : 1 ≤ (tk t).1 := by
  by_cases hs : 0 < sgn t
  · obtain ⟨k, hk⟩ := sym_cases t h hs
    have h1 := (syms_kind _ hk).1
    have h2 := sk_range _ (List.mem_append_left _ hk)
    simp only at h1 h2; omega
  · have e : tk t = wk t := by unfold tk; rw [if_neg hs]
    rw [e]; unfold wk
    have := kw_range t
    repeat' split
    all_goals (simp; try omega)

theorem fin_err {σ : PSt} (h : ¬ σ.e = 0) (st : List (List UInt8)) : fin toks len σ st = (σ.e, σ.pl) := by unfold fin; rw [if_neg h]
theorem fin_ref {σ : PSt} (T : List (Int × Int × Int)) (h : σ.e = 0) (err : Int) (he : err ≠ 0) (st : List (List UInt8)) : fin toks len (σ.ref T err) st = (err, plc T σ.pos) := by
  unfold PSt.ref; rw [if_pos h]; unfold fin; rw [if_neg (by simpa using he)]
theorem fin_adv {σ : PSt} (T : List (Int × Int × Int)) (h : σ.e = 0) (hk : kd T σ.pos ≠ 0) (st : List (List UInt8)) : fin toks len (σ.adv T) st = runM len (toks.drop (σ.pos + 1)) st σ.d := by
  unfold PSt.adv; rw [if_neg hk]; unfold fin; simp only; rw [if_pos h]

theorem end_some (st : List (List UInt8)) (d : Int) (k : List UInt8) (r : List (List UInt8)) (m : Int) (h : opn [] st 0 = (k :: r, m)) : runM len [] st d = (2, (len : Int)) := by
  simp only [runM]; rw [h]; rfl

/-- Two stacks that open alike answer alike. -/
theorem fin_congr {A B : List (List UInt8)} (h : ∀ t, opn t A 0 = opn t B 0) (σ : PSt) : fin toks len σ A = fin toks len σ B := by
  unfold fin
  split
  · generalize toks.drop σ.pos = l
    cases l with
    | nil => simp only [runM]; rw [h]
    | cons a r => obtain ⟨t, i⟩ := a; rw [runM_step, runM_step, h]
  · rfl
theorem fin_formula (σ : PSt) (st : List (List UInt8)) : fin toks len σ (cFormula :: st) = fin toks len σ (cFactor :: cMoreFormula :: st) :=
  fin_congr (fun t => by rw [opn_cons, opn_factor]; rfl) σ
theorem fin_commands (σ : PSt) (st : List (List UInt8)) : fin toks len σ (cCommands :: st) = fin toks len σ (cCommand :: cMoreCommands :: st) :=
  fin_congr (fun t => by rw [opn_cons, opn_command]; rfl) σ

/-- Two stacks that open alike at the token that stands here. -/
theorem fin_congr_at (h : AllTok toks) {A B : List (List UInt8)} {σ : PSt} (hp : σ.pos ≤ toks.length) (hn : opn [] A 0 = opn [] B 0)
    (ht : ∀ t, Tokish t → kd (T3 toks len) σ.pos = (tk t).1 → opn t A 0 = opn t B 0) : fin toks len σ A = fin toks len σ B := by
  unfold fin
  split
  · rcases look (len := len) h σ hp with ⟨t, i, _, h1, h2, _, h4⟩ | ⟨_, _, _, h4⟩
    · rw [h4, runM_step, runM_step, ht t h1 h2]
    · rw [h4]; simp only [runM]; rw [hn]
  · rfl
theorem fin_popF (h : AllTok toks) {σ : PSt} (hp : σ.pos ≤ toks.length) (h1 : kd (T3 toks len) σ.pos ≠ 23) (h2 : kd (T3 toks len) σ.pos ≠ 24) (st : List (List UInt8)) : fin toks len σ (cMoreFormula :: st) = fin toks len σ st := by
  refine fin_congr_at h hp (by rw [opn_cons]; rfl) (fun t ht e => ?_)
  have a1 : t ≠ [111, 114] := fun hh => h1 (by rw [e]; exact (kind_lit t _ 23 ht (by decide)).2 hh)
  have a2 : t ≠ [97, 110, 100] := fun hh => h2 (by rw [e]; exact (kind_lit t _ 24 ht (by decide)).2 hh)
  rw [opn_cons]
  have b : (t == [111, 114] || t == [97, 110, 100]) = false := by simp [a1, a2]
  rw [b]; rfl
theorem fin_popC (h : AllTok toks) {σ : PSt} (hp : σ.pos ≤ toks.length) (h1 : kd (T3 toks len) σ.pos ≠ 4) (st : List (List UInt8)) : fin toks len σ (cMoreCommands :: st) = fin toks len σ st := by
  refine fin_congr_at h hp (by rw [opn_cons]; rfl) (fun t ht e => ?_)
  have a1 : t ≠ [59] := fun hh => h1 (by rw [e]; exact (kind_lit t _ 4 ht (by decide)).2 hh)
  rw [opn_cons]
  have b : (t == [59]) = false := by simp [a1]
  rw [b]; rfl
theorem fin_popT (h : AllTok toks) {σ : PSt} (hp : σ.pos ≤ toks.length) (h1 : kd (T3 toks len) σ.pos ≠ 11) (h2 : kd (T3 toks len) σ.pos ≠ 12) (st : List (List UInt8)) : fin toks len σ (cMoreTerm :: st) = fin toks len σ st := by
  refine fin_congr_at h hp (by rw [opn_cons]; rfl) (fun t ht e => ?_)
  have a1 : t ≠ [43] := fun hh => h1 (by rw [e]; exact (kind_lit t _ 11 ht (by decide)).2 hh)
  have a2 : t ≠ [45] := fun hh => h2 (by rw [e]; exact (kind_lit t _ 12 ht (by decide)).2 hh)
  rw [opn_cons]
  have b : (t == [43] || t == [45]) = false := by simp [a1, a2]
  rw [b]; rfl

/-- A token that stands here and opens what is wanted into k, r. -/
theorem fin_tok {σ : PSt} {t : List UInt8} {i : Nat} (he : σ.e = 0) (hd : toks.drop σ.pos = (t, i) :: toks.drop (σ.pos + 1)) {A r : List (List UInt8)} {k : List UInt8} (ho : opn t A 0 = (k :: r, 0)) :
    fin toks len σ A = if (sts k t r).2 = false then (2, (i : Int)) else if deeper t then (if 10 < σ.d + 1 then (3, (i : Int)) else runM len (toks.drop (σ.pos + 1)) (sts k t r).1 (σ.d + 1)) else if shut t then runM len (toks.drop (σ.pos + 1)) (sts k t r).1 (σ.d - 1) else runM len (toks.drop (σ.pos + 1)) (sts k t r).1 σ.d := by
  unfold fin; rw [if_pos he, hd, runM_step, ho]; simp

/-- A token that is neither deeper nor shuts: it goes on behind it, or is refused. -/
theorem fin_plain {σ : PSt} {A r : List (List UInt8)} {k : List UInt8} (he : σ.e = 0) {t : List UInt8} {i : Nat} (hkd : kd (T3 toks len) σ.pos = (tk t).1) (ht : Tokish t) (hd : toks.drop σ.pos = (t, i) :: toks.drop (σ.pos + 1))
    (hop : opn t A 0 = (k :: r, 0)) (hsts : (sts k t r).2 = true) (hdp : deeper t = false) (hsh : shut t = false) : fin toks len σ A = fin toks len (σ.adv (T3 toks len)) (sts k t r).1 := by
  rw [fin_tok he hd hop, hsts, hdp, hsh, fin_adv _ he (by rw [hkd]; have := tk_pos t ht; omega)]; rfl

theorem Ok.err {n : Nat} {σ : PSt} (h : Ok n σ) (he : ¬ σ.e = 0) : σ.pos = n := h.2.1 he
theorem ref_err (T : List (Int × Int × Int)) (σ : PSt) (err : Int) (he : ¬ σ.e = 0) : (σ.ref T err).e = σ.e ∧ (σ.ref T err).pl = σ.pl := by unfold PSt.ref; rw [if_neg he]; exact ⟨rfl, rfl⟩
theorem ref_ne (T : List (Int × Int × Int)) (σ : PSt) (err : Int) (h : err ≠ 0) : (σ.ref T err).e ≠ 0 := by
  unfold PSt.ref; split
  · exact h
  · rename_i hh; exact hh
theorem ref_pos (toks : List (List UInt8 × Nat)) (len : Nat) (σ : PSt) (err : Int) : (σ.ref (T3 toks len) err).pos = toks.length := by
  unfold PSt.ref; rw [T3_len]; split <;> rfl
theorem adv_e (T : List (Int × Int × Int)) (σ : PSt) : (σ.adv T).e = σ.e ∧ (σ.adv T).pl = σ.pl ∧ (σ.adv T).d = σ.d := by unfold PSt.adv; split <;> exact ⟨rfl, rfl, rfl⟩
theorem adv_pos (T : List (Int × Int × Int)) (σ : PSt) (h : kd T σ.pos ≠ 0) : (σ.adv T).pos = σ.pos + 1 := by unfold PSt.adv; rw [if_neg h]
theorem kd_end (toks : List (List UInt8 × Nat)) (len : Nat) : kd (T3 toks len) toks.length = 0 := by unfold kd; rw [T3_end]
theorem kd_lt (h : AllTok toks) {σ : PSt} (ho : Ok toks.length σ) (hk : kd (T3 toks len) σ.pos ≠ 0) : σ.pos < toks.length ∧ σ.e = 0 := by
  have h1 := ho.1
  have h2 : σ.pos ≠ toks.length := fun e => hk (by rw [e]; exact kd_end _ _)
  exact ⟨by omega, Classical.byContradiction fun he => h2 (ho.err he)⟩

/-- What a step of the parser keeps: it goes on, or is refused for good; the depth is what it was. -/
def Goes (n : Nat) (σ σ' : PSt) : Prop := Ok n σ' ∧ σ.pos ≤ σ'.pos ∧ (σ'.e = 0 → σ.e = 0 ∧ σ'.d = σ.d)
theorem Goes.refl {n : Nat} {σ : PSt} (h : Ok n σ) : Goes n σ σ := ⟨h, Nat.le_refl _, fun e => ⟨e, rfl⟩⟩
theorem Goes.trans {n : Nat} {a b c : PSt} (h : Goes n a b) (k : Goes n b c) : Goes n a c :=
  ⟨k.1, Nat.le_trans h.2.1 k.2.1, fun e => ⟨(h.2.2 (k.2.2 e).1).1, (k.2.2 e).2.trans (h.2.2 (k.2.2 e).1).2⟩⟩
theorem goes_ref {σ : PSt} (ho : Ok toks.length σ) (err : Int) (h : err ≠ 0) : Goes toks.length σ (σ.ref (T3 toks len) err) :=
  ⟨⟨by rw [ref_pos]; exact Nat.le_refl _, fun _ => ref_pos _ _ _ _, fun e => absurd e (ref_ne _ _ _ h)⟩, by rw [ref_pos]; exact ho.1, fun e => absurd e (ref_ne _ _ _ h)⟩
theorem goes_adv (h : AllTok toks) {σ : PSt} (ho : Ok toks.length σ) : Goes toks.length σ (σ.adv (T3 toks len)) := by
  by_cases hk : kd (T3 toks len) σ.pos = 0
  · have : σ.adv (T3 toks len) = σ := by unfold PSt.adv; rw [if_pos hk]
    rw [this]; exact Goes.refl ho
  · obtain ⟨h1, h2⟩ := kd_lt h ho hk
    obtain ⟨e1, e2, e3⟩ := adv_e (T3 toks len) σ
    have e4 := adv_pos (T3 toks len) σ hk
    exact ⟨⟨by omega, fun hh => absurd (e1.trans h2) hh, fun _ => by rw [e3]; exact ho.2.2 h2⟩, by omega, fun _ => ⟨h2, e3⟩⟩
theorem goes_exp (h : AllTok toks) {σ : PSt} (ho : Ok toks.length σ) (k : Int) : Goes toks.length σ (σ.exp (T3 toks len) k) := by
  unfold PSt.exp; split
  · exact goes_adv h ho
  · exact goes_ref ho 2 (by omega)

theorem fin_end {σ : PSt} {A : List (List UInt8)} (he : σ.e = 0) (hd : toks.drop σ.pos = []) (hA : ∃ k r m, opn [] A 0 = (k :: r, m)) : fin toks len σ A = (2, (len : Int)) := by
  obtain ⟨k, r, m, hA⟩ := hA
  unfold fin; rw [if_pos he, hd]; exact end_some _ _ k r m hA

/-- The rule of a token that must stand here: yes says whether it may. -/
theorem fin_must (h : AllTok toks) {σ : PSt} (ho : Ok toks.length σ) {k : List UInt8} {st : List (List UInt8)} (B : List UInt8 → List (List UInt8)) (yes : Prop) [Decidable yes]
    (hop : ∀ t, opn t (k :: st) 0 = (k :: st, 0))
    (hy : ∀ t, Tokish t → kd (T3 toks len) σ.pos = (tk t).1 → (yes ↔ (sts k t st).2 = true))
    (hn : kd (T3 toks len) σ.pos = 0 → ¬ yes)
    (hb : ∀ t, Tokish t → kd (T3 toks len) σ.pos = (tk t).1 → yes → deeper t = false ∧ shut t = false ∧ (sts k t st).1 = B t)
    (C : List (List UInt8)) (hc : ∀ t, Tokish t → kd (T3 toks len) σ.pos = (tk t).1 → yes → B t = C) :
    fin toks len σ (k :: st) = if yes then fin toks len (σ.adv (T3 toks len)) C else fin toks len (σ.ref (T3 toks len) 2) st := by
  by_cases he : σ.e = 0
  · rcases look (len := len) h σ ho.1 with ⟨t, i, hlt, h1, h2, h3, h4⟩ | ⟨h1, h2, h3, h4⟩
    · by_cases hyes : yes
      · rw [if_pos hyes]
        obtain ⟨g1, g2, g3⟩ := hb t h1 h2 hyes
        rw [fin_plain he h2 h1 h4 (hop t) ((hy t h1 h2).1 hyes) g1 g2, g3, hc t h1 h2 hyes]
      · rw [if_neg hyes, fin_ref _ he 2 (by omega), h3, fin_tok he h4 (hop t)]
        have : (sts k t st).2 = false := by
          cases hh : (sts k t st).2 with
          | false => rfl
          | true => exact absurd ((hy t h1 h2).2 hh) hyes
        rw [if_pos this]
    · rw [if_neg (hn h2), fin_ref _ he 2 (by omega), h3]
      exact fin_end he h4 ⟨k, st, 0, hop []⟩
  · have hpos := ho.err he
    rw [if_neg (hn (by rw [hpos]; exact kd_end _ _)), fin_err he]
    obtain ⟨r1, r2⟩ := ref_err (T3 toks len) σ 2 he
    rw [fin_err (by rw [r1]; exact he), r1, r2]

theorem lit_sts {c : List UInt8} {k : Int} (hc : (c, k) ∈ syms ++ kws) (t : List UInt8) (st : List (List UInt8)) : sts c t st = (st, c == t) ∧ opn t (c :: st) 0 = (c :: st, 0) := by
  have key : ∀ x ∈ syms ++ kws, (x.1 == cCommand) = false ∧ (x.1 == cFactor) = false ∧ (x.1 == cTerm) = false ∧ (x.1 == cRelation) = false ∧ (x.1 == cNumber) = false ∧ (x.1 == cCommands) = false ∧ (x.1 == cMoreCommands) = false ∧ (x.1 == cFormula) = false ∧ (x.1 == cMoreFormula) = false ∧ (x.1 == cMoreTerm) = false ∧ (x.1 == cNotEnds) = false ∧ (decide (((x.1.headD 0).toNat : Int) < 65) || decide (90 < ((x.1.headD 0).toNat : Int))) = true := by decide
  obtain ⟨k1, k2, k3, k4, k5, k6, k7, k8, k9, k10, k11, k12⟩ := key _ hc
  simp only at k1 k2 k3 k4 k5 k6 k7 k8 k9 k10 k11 k12
  refine ⟨?_, ?_⟩
  · unfold sts; rw [k1, k2, k3, k4, k5]; simp only [Bool.false_eq_true, if_false]
    unfold dflt; rw [k12, Bool.and_true]
  · rw [opn_cons, k6, k7, k8, k9, k10, k11]; simp

/-- A literal that must stand here. -/
theorem fin_exp (h : AllTok toks) {σ : PSt} (ho : Ok toks.length σ) {c : List UInt8} {k : Int} (hc : (c, k) ∈ syms ++ kws) (hd : deeper c = false) (hs : shut c = false) (st : List (List UInt8)) :
    fin toks len σ (c :: st) = fin toks len (σ.exp (T3 toks len) k) st := by
  have hr := sk_range _ hc
  simp only at hr
  have := fin_must h ho (k := c) (st := st) (fun _ => st) (kd (T3 toks len) σ.pos = k) (fun t => (lit_sts hc t st).2)
    (fun t ht e => by rw [e, (lit_sts hc t st).1, kind_lit t c k ht hc]; simp only [beq_iff_eq]; exact ⟨fun x => x.symm, fun x => x.symm⟩)
    (fun e => by omega)
    (fun t ht e y => by rw [e, kind_lit t c k ht hc] at y; subst y; exact ⟨hd, hs, by rw [(lit_sts hc _ st).1]⟩)
    st (fun _ _ _ _ => rfl)
  rw [this]; unfold PSt.exp; split <;> rfl

end Go.Proofs.YtkinoehmcfhgbaaGreatDoor.Av
