/-
  What the document's Maker answers, in plain words: how the answers for parts come together.
  The walks of the document's ahead and all.
-/
import Derived.Test.YtkinoehmcfhgbaaGreatDoorW5
set_option linter.unusedVariables false
set_option linter.unusedSimpArgs false
namespace Go.Proofs.YtkinoehmcfhgbaaGreatDoor.Vl
open Go.RowKit
open Go.Proofs.YtkinoehmcfhgbaaGreatDoor.Av (vr Fm Rd Tg sAt Cm Rc trm trm_range vr_range)

/-- How long a text is at most ahead of a place. -/
def lbd (k : Nat) : Nat := 4000 + 60000 * (300 - k)
/-- What goes in. -/
def AhPre (ls : List (List UInt8)) (big : Bool) (l : List UInt8) (q : List Sym) (k k' : Nat) : Prop :=
  l.length ≤ lbd k' ∧ (big = false → l = sbs q ∧ bl q ≤ 4000 ∧ Gd (kb k') q ∧ Emp ls (2 * k) (2 * k'))
/-- What comes out. -/
def AhR (ls : List (List UInt8)) (big : Bool) (l : List UInt8) (c : Cm) (q : List Sym) (k k' : Nat) (l' : List UInt8) (ls' : List (List UInt8)) (big' : Bool) : Prop :=
  ls'.length = ls.length ∧ l'.length ≤ lbd k ∧ (big = true → big' = true ∧ l' = l) ∧
  (big = false → big' = !(fit c q) ∧ (fit c q = true → l' = sbs (wpc c q) ∧ Upd ls ls' (2 * k) (2 * k') (cls c q)))
theorem ahr_big {ls : List (List UInt8)} {l : List UInt8} {c : Cm} {q : List Sym} {k k' : Nat} (h : l.length ≤ lbd k') (hk : k ≤ k') : AhR ls true l c q k k' l ls true :=
  ⟨rfl, by unfold lbd at *; omega, fun _ => ⟨rfl, rfl⟩, fun h => by cases h⟩
/-- What has come out not too big. -/
theorem AhR.small {ls : List (List UInt8)} {big : Bool} {l : List UInt8} {c : Cm} {q : List Sym} {k k' : Nat} {l' : List UInt8} {ls' : List (List UInt8)} {big' : Bool} (h : AhR ls big l c q k k' l' ls' big') (hb : big' = false) : big = false ∧ fit c q = true ∧ l' = sbs (wpc c q) ∧ Upd ls ls' (2 * k) (2 * k') (cls c q) := by
  obtain ⟨h1, h2, h3, h4⟩ := h
  cases big with
  | true => rw [(h3 rfl).1] at hb; cases hb
  | false =>
    have := h4 rfl
    rw [hb] at this
    have hf : fit c q = true := by cases hf : fit c q with
      | true => rfl
      | false => rw [hf] at this; exact absurd this.1 (by decide)
    exact ⟨rfl, hf, this.2 hf⟩
theorem AhR.pre {ls : List (List UInt8)} {big : Bool} {l : List UInt8} {c : Cm} {q : List Sym} {k k' k0 j : Nat} {l' : List UInt8} {ls' : List (List UInt8)} {big' : Bool} {toks : List (List UInt8 × Nat)} (h : AhR ls big l c q k k' l' ls' big') (hr : Rc toks true k c k') (hk : k' ≤ 300) (hp : AhPre ls big l q k0 k') (h0 : k0 ≤ j) (hj : j < k) : AhPre ls' big' l' (wpc c q) k0 j := by
  have hle := hr.le
  refine ⟨by have := h.2.1; unfold lbd at *; omega, fun hb => ?_⟩
  obtain ⟨rfl, hf, rfl, hu⟩ := h.small hb
  obtain ⟨_, h2⟩ := hp
  obtain ⟨rfl, h3, h4, h5⟩ := h2 rfl
  exact ⟨rfl, fit_le _ _ hf, (gd_wpc hr hk q h4).mono (by unfold kb; omega), hu.emp (h5.sub (Nat.le_refl _) (by omega)) (Or.inl (by omega))⟩
theorem AhPre.from {ls : List (List UInt8)} {big : Bool} {l : List UInt8} {q : List Sym} {k0 k k' : Nat} (h : AhPre ls big l q k0 k') (hk : k0 ≤ k) : AhPre ls big l q k k' :=
  ⟨h.1, fun hb => by obtain ⟨h1, h2, h3, h4⟩ := h.2 hb; exact ⟨h1, h2, h3, h4.sub (by omega) (Nat.le_refl _)⟩⟩
theorem ahr_seq {ls ls1 ls' : List (List UInt8)} {big big1 big' : Bool} {l l1 l' : List UInt8} {c r : Cm} {q : List Sym} {k k1 k' : Nat} (hp : AhPre ls big l q k k') (h1 : AhR ls big l r q (k1 + 1) k' l1 ls1 big1) (h2 : AhR ls1 big1 l1 c (wpc r q) k k1 l' ls' big') (o1 : k ≤ k1) (o2 : k1 + 1 ≤ k') : AhR ls big l (.seq c r) q k k' l' ls' big' := by
  refine ⟨h2.1.trans h1.1, h2.2.1, fun hb => ?_, fun hb => ?_⟩
  · have a := h1.2.2.1 hb
    have b := h2.2.2.1 a.1
    exact ⟨b.1, b.2.trans a.2⟩
  · have a := h1.2.2.2 hb
    have he := ((hp.2 hb).2.2.2)
    cases hf : fit r q with
    | false =>
      rw [hf] at a
      have b := h2.2.2.1 a.1
      refine ⟨by rw [b.1]; show true = !(fit r q && fit c (wpc r q)); rw [hf]; rfl, fun h => ?_⟩
      have : (fit r q && fit c (wpc r q)) = true := h
      rw [hf] at this; cases this
    | true =>
      rw [hf] at a
      have b := h2.2.2.2 a.1
      refine ⟨by rw [b.1]; show _ = !(fit r q && fit c (wpc r q)); rw [hf]; rfl, fun h => ?_⟩
      have hh : (fit r q && fit c (wpc r q)) = true := h
      rw [hf, Bool.true_and] at hh
      have b2 := b.2 hh
      exact ⟨b2.1, Upd.two he (a.2 rfl).2 b2.2 (Nat.le_refl _) (by omega) (by omega) (by omega) (Nat.le_refl _)⟩
/-- A text of which it is asked whether it is too long. -/
def tol (l : List UInt8) : Bool := decide (4000 < l.length)
theorem ahr_one {ls : List (List UInt8)} {l l' : List UInt8} {c : Cm} {q : List Sym} {k k' : Nat} (hp : AhPre ls false l q k k') (hl : l' = sbs (wpc c q)) (hn : cls c q = []) (hf : fit c q = decide (bl (wpc c q) ≤ 4000)) (hb : l'.length ≤ lbd k) : AhR ls false l c q k k' l' ls (tol l') := by
  refine ⟨rfl, hb, (fun h => by cases h), fun _ => ⟨?_, fun h => ⟨hl, by rw [hn]; exact Upd.refl ((hp.2 rfl).2.2.2)⟩⟩⟩
  rw [hf, hl]
  unfold tol bl
  by_cases h : (sbs (wpc c q)).length ≤ 4000
  · rw [decide_eq_true h, decide_eq_false (by omega)]; rfl
  · rw [decide_eq_false h, decide_eq_true (by omega)]; rfl
/-- What an if comes to. -/
def ifT (f : Fm) (x y : List UInt8) : List UInt8 := [124, 38] ++ sbs (fsy f) ++ x ++ [38, 33] ++ sbs (fsy f) ++ y
theorem sb_m (q : Int) (c : UInt8) (h : sb (q, 0, 0, 0) = [c]) (ys : List Sym) : sbs ((q, 0, 0, 0) :: ys) = c :: sbs ys := by rw [sbs_cons, h]; rfl
theorem ifT_wpc (f : Fm) (a b : Cm) (q : List Sym) : ifT f (sbs (wpc a q)) (sbs (wpc b q)) = sbs (wpc (.ite f a b) q) := by
  unfold ifT
  rw [wpc, sb_m 4 124 rfl, sb_m 3 38 rfl, sbs_append, sbs_append, sb_m 3 38 rfl, sb_m 2 33 rfl, sbs_append]
  simp
theorem tol_fit (l : List UInt8) (ys : List Sym) (h : l = sbs ys) : tol l = !(decide (bl ys ≤ 4000)) := by
  rw [h]
  unfold tol bl
  by_cases h : (sbs ys).length ≤ 4000
  · rw [decide_eq_true h, decide_eq_false (by omega)]; rfl
  · rw [decide_eq_false h, decide_eq_true (by omega)]; rfl
theorem ahr_if {ls ls1 ls2 : List (List UInt8)} {b1 b2 : Bool} {l x y : List UInt8} {f : Fm} {a b : Cm} {q : List Sym} {k k1 k2 k3 : Nat} (hp : AhPre ls false l q k (k3 + 1)) (hf : (sbs (fsy f)).length ≤ 2500) (h1 : AhR ls false l a q (k1 + 1) k2 x ls1 b1) (h2 : AhR ls1 b1 l b q (k2 + 1) k3 y ls2 b2) (o1 : k + 1 ≤ k1) (o2 : k1 + 1 ≤ k2) (o3 : k2 + 1 ≤ k3) (o4 : k3 + 1 ≤ 300) :
    AhR ls false l (.ite f a b) q k (k3 + 1) (ifT f x y) ls2 (b2 || tol (ifT f x y)) := by
  obtain ⟨hl, hq, hg, he⟩ := hp.2 rfl
  have hlen : (ifT f x y).length = 4 + 2 * (sbs (fsy f)).length + x.length + y.length := by unfold ifT; simp; omega
  have hll : l.length ≤ 4000 := by rw [hl]; exact hq
  have a1 := h1.2.2.2 rfl
  have hxy : x.length + y.length ≤ 4000 + lbd (k1 + 1) := by
    cases fa : fit a q with
    | true =>
      rw [fa] at a1
      have e1 := (a1.2 rfl).1
      have := fit_le _ _ fa
      have hx : x.length ≤ 4000 := by rw [e1]; exact this
      have := h2.2.1
      unfold lbd at *
      omega
    | false =>
      rw [fa] at a1
      have b := h2.2.2.1 a1.1
      have := h1.2.1
      rw [b.2]
      omega
  refine ⟨h2.1.trans h1.1, by rw [hlen]; unfold lbd at *; omega, (fun h => by cases h), fun _ => ?_⟩
  cases fa : fit a q with
  | false =>
    rw [fa] at a1
    have b' := h2.2.2.1 a1.1
    refine ⟨by rw [b'.1]; show true = !(fit a q && (fit b q && _)); rw [fa]; rfl, fun h => ?_⟩
    have : (fit a q && (fit b q && decide (bl (wpc (.ite f a b) q) ≤ 4000))) = true := h
    rw [fa] at this; cases this
  | true =>
    rw [fa] at a1
    have c1 := a1.2 rfl
    have b' := h2.2.2.2 a1.1
    cases fb : fit b q with
    | false =>
      rw [fb] at b'
      refine ⟨by rw [b'.1]; show true = !(fit a q && (fit b q && _)); rw [fa, fb]; rfl, fun h => ?_⟩
      have : (fit a q && (fit b q && decide (bl (wpc (.ite f a b) q) ≤ 4000))) = true := h
      rw [fa, fb] at this; cases this
    | true =>
      rw [fb] at b'
      have c2 := b'.2 rfl
      have ei : ifT f x y = sbs (wpc (.ite f a b) q) := by rw [c1.1, c2.1]; exact ifT_wpc f a b q
      refine ⟨?_, fun h => ⟨ei, ?_⟩⟩
      · rw [b'.1, tol_fit _ _ ei]
        show _ = !(fit a q && (fit b q && decide (bl (wpc (.ite f a b) q) ≤ 4000)))
        rw [fa, fb]; rfl
      · exact Upd.two' he c1.2 c2.2 (by omega) (by omega) (by omega) (by omega) (by omega)
/-- A loop's two conditions. -/
def agT (f g : Fm) (x : List UInt8) : List UInt8 := [62, 38] ++ sbs (fsy g) ++ sbs (fsy f) ++ x
def lvT (f g : Fm) (l : List UInt8) : List UInt8 := [62, 38] ++ sbs (fsy g) ++ [33] ++ sbs (fsy f) ++ l
theorem agT_eq (f g : Fm) (a : Cm) : agT f g (sbs (wpc a (fsy g))) = sbs (again f g a) := by
  unfold agT again
  rw [sb_m 5 62 rfl, sb_m 3 38 rfl, sbs_append, sbs_append]
  simp
theorem lvT_eq (f g : Fm) (q : List Sym) : lvT f g (sbs q) = sbs (leav f g q) := by
  unfold lvT leav
  rw [sb_m 5 62 rfl, sb_m 3 38 rfl, sbs_append, sb_m 2 33 rfl, sbs_append]
  simp
theorem ahr_while {ls ls1 : List (List UInt8)} {b1 : Bool} {l x : List UInt8} {f g : Fm} {a : Cm} {q : List Sym} {k k1 k2 k3 : Nat} (hp : AhPre ls false l q k (k3 + 1)) (hlg : (sbs (fsy g)).length ≤ 2500) (h1 : AhR ls false (sbs (fsy g)) a (fsy g) (k2 + 1) k3 x ls1 b1) (o1 : k + 1 ≤ k1) (o2 : k1 + 1 ≤ k2) (o3 : k2 + 1 ≤ k3) (o4 : k3 + 1 ≤ 300) (hn : 2 * (k3 + 1) ≤ ls.length) :
    AhR ls false l (.loop f g a) q k (k3 + 1) (sbs (fsy g)) ((ls1.set (2 * k) (agT f g x)).set (2 * k + 1) (lvT f g l)) (((b1 || tol (agT f g x)) || tol (lvT f g l)) || tol (sbs (fsy g))) := by
  obtain ⟨hl, hq, hg, he⟩ := hp.2 rfl
  refine ⟨by rw [List.length_set, List.length_set]; exact h1.1, by unfold lbd; omega, (fun h => by cases h), fun _ => ?_⟩
  have a1 := h1.2.2.2 rfl
  cases fa : fit a (fsy g) with
  | false =>
    rw [fa] at a1
    refine ⟨by rw [a1.1]; show true = !(fit a (fsy g) && _); rw [fa]; rfl, fun h => ?_⟩
    have : (fit a (fsy g) && (decide (bl (again f g a) ≤ 4000) && (decide (bl (leav f g q) ≤ 4000) && decide (bl (fsy g) ≤ 4000)))) = true := h
    rw [fa] at this; cases this
  | true =>
    rw [fa] at a1
    have c1 := a1.2 rfl
    have ea : agT f g x = sbs (again f g a) := by rw [c1.1]; exact agT_eq f g a
    have el : lvT f g l = sbs (leav f g q) := by rw [hl]; exact lvT_eq f g q
    refine ⟨?_, fun h => ⟨rfl, ?_⟩⟩
    · rw [a1.1, tol_fit _ _ ea, tol_fit _ _ el, tol_fit _ _ rfl]
      show _ = !(fit a (fsy g) && (decide (bl (again f g a) ≤ 4000) && (decide (bl (leav f g q) ≤ 4000) && decide (bl (fsy g) ≤ 4000))))
      rw [fa]
      cases decide (bl (again f g a) ≤ 4000) <;> cases decide (bl (leav f g q) ≤ 4000) <;> cases decide (bl (fsy g) ≤ 4000) <;> rfl
    · rw [ea, el]
      exact Upd.while (by unfold again; rw [sb_m 5 62 rfl]; simp) (by unfold leav; rw [sb_m 5 62 rfl]; simp) he c1.2 (by omega) (by omega) (by omega) hn
end Go.Proofs.YtkinoehmcfhgbaaGreatDoor.Vl
set_option linter.unusedVariables false
set_option linter.unusedSimpArgs false
namespace Go.Proofs.YtkinoehmcfhgbaaGreatDoor.Vl
open Go.RowKit
open Go.Proofs.YtkinoehmcfhgbaaGreatDoor.Av (vr Fm Rd Tg sAt Cm Rc trm trm_range vr_range)

/-- The call has come to such an end. -/
def AhPost (w0 : World) (mb cb lb : Nat) (toks : List (List UInt8 × Nat)) (ls : List (List UInt8)) (big : Bool) (l : List UInt8) (c : Cm) (q : List Sym) (k k' : Nat) (e : Ending) (w' : World) : Prop := ∃ l' ls' big', e = .returned (strV l') ∧ MkAt w0 w' mb cb lb toks ls' big' ∧ AhR ls big l c q k k' l' ls' big'
def AhD (w0 : World) (mb cb lb : Nat) (toks : List (List UInt8 × Nat)) (n : Nat) : Prop := ∀ (k k' : Nat) (c : Cm) (w : World) (ls : List (List UInt8)) (big : Bool) (l : List UInt8) (q : List Sym), Rc toks false k c k' → k' ≤ k + n → k' ≤ toks.length → ls.length = 2 * toks.length → MkAt w0 w mb cb lb toks ls big → AhPre ls big l q k k' →
  Calls Tryz.prog 68 #[.pointer (some ⟨mb, 0, none⟩), .int .i64 (k : Int), strV l] w (AhPost w0 mb cb lb toks ls big l c q k k')
def AlD (w0 : World) (mb cb lb : Nat) (toks : List (List UInt8 × Nat)) (n : Nat) : Prop := ∀ (k k' : Nat) (c : Cm) (w : World) (ls : List (List UInt8)) (big : Bool) (l : List UInt8) (q : List Sym), Rc toks true k c k' → k' ≤ k + n → k' ≤ toks.length → ls.length = 2 * toks.length → MkAt w0 w mb cb lb toks ls big → AhPre ls big l q k k' →
  Calls Tryz.prog 40 #[.pointer (some ⟨mb, 0, none⟩), .int .i64 (k : Int), strV l] w (AhPost w0 mb cb lb toks ls big l c q k k')
variable {w0 : World} {mb cb lb : Nat} {toks : List (List UInt8 × Nat)}
theorem vr_lt {l : List UInt8} (h : 0 ≤ vr l) : l = [lt (vr l + 1)] := by
  unfold vr at h ⊢
  by_cases h1 : (l == [97]) = true
  · rw [if_pos h1]; exact (beq_iff_eq.1 h1)
  · rw [if_neg h1] at h ⊢
    by_cases h2 : (l == [98]) = true
    · rw [if_pos h2]; exact (beq_iff_eq.1 h2)
    · rw [if_neg h2] at h ⊢
      by_cases h3 : (l == [99]) = true
      · rw [if_pos h3]; exact (beq_iff_eq.1 h3)
      · rw [if_neg h3] at h ⊢
        by_cases h4 : (l == [100]) = true
        · rw [if_pos h4]; exact (beq_iff_eq.1 h4)
        · rw [if_neg h4] at h; exact absurd h (by decide)
theorem tolN {l : List UInt8} {n : Int} (h : n = (l.length : Int)) : decide ((4000 : Int) < n) = tol l := by
  subst h
  unfold tol
  by_cases h : 4000 < l.length
  · rw [decide_eq_true h, decide_eq_true (by omega)]
  · rw [decide_eq_false h, decide_eq_false (by omega)]
theorem ifStr (F x y : List UInt8) : (⟨#[124, 38]⟩ : ByteArray) ++ ⟨F.toArray⟩ ++ ⟨x.toArray⟩ ++ ⟨#[38, 33]⟩ ++ ⟨F.toArray⟩ ++ ⟨y.toArray⟩ = ⟨([124, 38] ++ F ++ x ++ [38, 33] ++ F ++ y).toArray⟩ := by
  rw [show (⟨#[124, 38]⟩ : ByteArray) = ⟨[124, 38].toArray⟩ from rfl, show (⟨#[38, 33]⟩ : ByteArray) = ⟨[38, 33].toArray⟩ from rfl, str_app, str_app, str_app, str_app, str_app]
theorem agStr (G F x : List UInt8) : (⟨#[62, 38]⟩ : ByteArray) ++ ⟨G.toArray⟩ ++ ⟨F.toArray⟩ ++ ⟨x.toArray⟩ = ⟨([62, 38] ++ G ++ F ++ x).toArray⟩ := by
  rw [show (⟨#[62, 38]⟩ : ByteArray) = ⟨[62, 38].toArray⟩ from rfl, str_app, str_app, str_app]
theorem lvStr (G F x : List UInt8) : (⟨#[62, 38]⟩ : ByteArray) ++ ⟨G.toArray⟩ ++ ⟨#[33]⟩ ++ ⟨F.toArray⟩ ++ ⟨x.toArray⟩ = ⟨([62, 38] ++ G ++ [33] ++ F ++ x).toArray⟩ := by
  rw [show (⟨#[62, 38]⟩ : ByteArray) = ⟨[62, 38].toArray⟩ from rfl, show (⟨#[33]⟩ : ByteArray) = ⟨[33].toArray⟩ from rfl, str_app, str_app, str_app, str_app]
theorem tolI (l : List UInt8) : decide ((4000 : Int) < (l.length : Int)) = tol l := by
  unfold tol
  by_cases h : 4000 < l.length
  · rw [decide_eq_true h, decide_eq_true (by omega)]
  · rw [decide_eq_false h, decide_eq_false (by omega)]

set_option maxRecDepth 100000 in
set_option maxHeartbeats 1000000 in
theorem maker_all (ht : toks.length ≤ 300) (hl : ∀ j, (sAt toks j).length ≤ 300) (n : Nat) (HA : AhD w0 mb cb lb toks n) (IH : ∀ m, m < n → AlD w0 mb cb lb toks m) : AlD w0 mb cb lb toks n := by
  intro k k' c w ls big l q hr hn hk hls ha hp
  have hkn := hr.le
  have CK : Hid (∀ c1 k1, Rc toks false k c1 k1 → k1 ≤ 300 → Calls Tryz.prog 67 #[.pointer (some ⟨cb, 0, none⟩), .int .i64 (k : Int)] w fun e w' => e = .returned (.int .i64 (k1 : Int)) ∧ Below w.heap.size w w') := fun c1 k1 h1 h2 => skip_any toks cb hl k k1 c1 w h1 h2 ha.code
  have CS : Hid (∀ (j : Nat) (w : World), j ≤ 300 → CodeAt w cb toks → Calls Tryz.prog 66 #[.pointer (some ⟨cb, 0, none⟩), .int .i64 (j : Int)] w fun e w' => e = .returned (.string ⟨(sAt toks j).toArray⟩) ∧ w = w') := fun j w hj hc => code_s toks cb j w hc (by omega)
  have HM : Hid (MkAt w0 w mb cb lb toks ls big) := ha
  have m0 := ha.m0
  have hms := ha.hms
  unfold strV
  cases hr with
  | one h1 h2 =>
    have C1 := CK.out _ _ h1 (by omega)
    have CH := fun w h => HA k k' c w ls big l q h1 hn hk hls h hp
    have HC1 : Hid _ := C1
    have HCH : Hid (∀ w, MkAt w0 w mb cb lb toks ls big → Calls Tryz.prog 68 #[.pointer (some ⟨mb, 0, none⟩), .int .i64 (k : Int), .string ⟨l.toArray⟩] w (AhPost w0 mb cb lb toks ls big l c q k k')) := CH
    have hne : (sAt toks k' == [59]) = false := by rw [beq_eq_false_iff_ne]; exact h2
    have hk3 : k' ≤ 300 := by omega
    clear ha hp C1 CH HA IH h1 h2 CK
    go_enter Tryz.func40, Tryz.ntmps40
    go_wp2_with fail
    refine Calls.mono HC1.out ?_
    rintro e w1 ⟨rfl, hb1⟩
    have A1 := HM.out.below hb1
    have m0' := A1.m0
    have CS1 := CS.out k' w1 hk3 A1.code
    have HCS : Hid _ := CS1
    have HM1 : Hid (MkAt w0 w1 mb cb lb toks ls big) := A1
    clear hb1 A1 m0 CS1 CS HC1
    generalize sAt toks k' = S at *
    go_wp2_with fail
    refine Calls.mono HCS.out ?_
    rintro e w2 ⟨rfl, rfl⟩
    go_wp2_with fail
    refine Calls.mono (HCH.out _ HM1.out) ?_
    rintro e w3 ⟨l', ls', big', rfl, hM, hR⟩
    unfold strV
    go_wp2_with fail
    go_ret
    exact ⟨l', ls', big', rfl, hM, hR⟩
  | @seq _ k1 _ c1 r h1 h2 h3 =>
    have l1 := h1.le
    have l3 := h3.le
    have C1 := CK.out _ _ h1 (by omega)
    have HC1 : Hid _ := C1
    have HCR : Hid (∀ w, MkAt w0 w mb cb lb toks ls big → Calls Tryz.prog 40 #[.pointer (some ⟨mb, 0, none⟩), .int .i64 ((k1 : Int) + 1), .string ⟨l.toArray⟩] w (AhPost w0 mb cb lb toks ls big l r q (k1 + 1) k')) := fun w h => IH (k' - (k1 + 1)) (by omega) (k1 + 1) k' r w ls big l q h3 (by omega) hk hls h (hp.from (by omega))
    have HCH : Hid (∀ w ls1 big1 l1, MkAt w0 w mb cb lb toks ls1 big1 → AhR ls big l r q (k1 + 1) k' l1 ls1 big1 → Calls Tryz.prog 68 #[.pointer (some ⟨mb, 0, none⟩), .int .i64 (k : Int), .string ⟨l1.toArray⟩] w (AhPost w0 mb cb lb toks ls1 big1 l1 c1 (wpc r q) k k1)) := fun w ls1 big1 l1 h hR => HA k k1 c1 w ls1 big1 l1 (wpc r q) h1 (by omega) (by omega) (by rw [hR.1]; exact hls) h (hR.pre h3 (by omega) hp (by omega) (by omega))
    have HP : Hid (AhPre ls big l q k k') := hp
    clear ha hp C1 HA IH h1 h3 CK
    have hk3 : k1 ≤ 300 := by omega
    go_enter Tryz.func40, Tryz.ntmps40
    go_wp2_with fail
    refine Calls.mono HC1.out ?_
    rintro e w1 ⟨rfl, hb1⟩
    have A1 := HM.out.below hb1
    have m0' := A1.m0
    have CS1 := CS.out k1 w1 hk3 A1.code
    rw [h2] at CS1
    have HCS : Hid _ := CS1
    have HM1 : Hid (MkAt w0 w1 mb cb lb toks ls big) := A1
    clear hb1 A1 m0 CS1 CS HC1 h2
    go_wp2_with fail
    refine Calls.mono HCS.out ?_
    rintro e w2 ⟨rfl, rfl⟩
    go_wp2_with fail
    refine Calls.mono (HCR.out _ HM1.out) ?_
    rintro e w3 ⟨l1', ls1, big1, rfl, hM, hR⟩
    unfold strV
    go_wp2_with fail
    refine Calls.mono (HCH.out _ _ _ _ hM hR) ?_
    rintro e w4 ⟨l', ls', big', rfl, hM2, hR2⟩
    unfold strV
    go_wp2_with fail
    go_ret
    exact ⟨l', ls', big', rfl, hM2, ahr_seq HP.out hR hR2 (by omega) (by omega)⟩

set_option maxRecDepth 100000 in
set_option maxHeartbeats 1000000 in
theorem ahead_big (k k' : Nat) (c : Cm) (w : World) (ls : List (List UInt8)) (l : List UInt8) (q : List Sym) (hk : k ≤ k') (ha : MkAt w0 w mb cb lb toks ls true) (hp : AhPre ls true l q k k') :
    Calls Tryz.prog 68 #[.pointer (some ⟨mb, 0, none⟩), .int .i64 (k : Int), strV l] w (AhPost w0 mb cb lb toks ls true l c q k k') := by
  have m2 := ha.m2
  have hms := ha.hms
  have HM : Hid (MkAt w0 w mb cb lb toks ls true) := ha
  have HP : Hid (AhPre ls true l q k k') := hp
  clear ha hp
  unfold strV
  go_enter Tryz.func68, Tryz.ntmps68
  go_wp2_with fail
  go_ret
  exact ⟨l, ls, true, rfl, HM.out, ahr_big HP.out.1 hk⟩

set_option maxRecDepth 100000 in
set_option maxHeartbeats 1000000 in
theorem ahead_skip (ht : toks.length ≤ 300) (k : Nat) (w : World) (ls : List (List UInt8)) (l : List UInt8) (q : List Sym) (h1 : sAt toks k = [115, 107, 105, 112]) (hk : k + 1 ≤ toks.length) (ha : MkAt w0 w mb cb lb toks ls false) (hp : AhPre ls false l q k (k + 1)) :
    Calls Tryz.prog 68 #[.pointer (some ⟨mb, 0, none⟩), .int .i64 (k : Int), strV l] w (AhPost w0 mb cb lb toks ls false l .skip q k (k + 1)) := by
  have CS := code_s toks cb k w ha.code (by omega)
  rw [h1] at CS
  have HCS : Hid _ := CS
  have m0 := ha.m0
  have m2 := ha.m2
  have f2 := ha.fm 2
  have hms := ha.hms
  have HM : Hid (MkAt w0 w mb cb lb toks ls false) := ha
  obtain ⟨e1, e2, e3, e4⟩ := hp.2 rfl
  have hll : l.length ≤ 4000 := by rw [e1]; exact e2
  have HP : Hid (AhR ls false l .skip q k (k + 1) l ls (tol l)) := ahr_one (c := .skip) (l' := l) hp e1 rfl rfl (by have := hp.1; unfold lbd at *; omega)
  clear ha hp CS e1 e2 e3 e4
  unfold strV
  go_enter Tryz.func68, Tryz.ntmps68
  go_wp2_with fail
  refine Calls.mono HCS.out ?_
  rintro e w1 ⟨rfl, rfl⟩
  go_wp2_with fail
  go_ret
  exact ⟨l, ls, tol l, rfl, by rw [tolI]; exact HM.out.setBig _, HP.out⟩

set_option maxRecDepth 100000 in
set_option maxHeartbeats 1000000 in
theorem ahead_asgW (k k2 : Nat) (w : World) (ls : List (List UInt8)) (l S T : List UInt8) (c : Cm) (q : List Sym) (v m : Int) (L : UInt8) (z1 : (S == [115, 107, 105, 112]) = false) (z2 : (S == [105, 102]) = false) (z3 : (S == [119, 104, 105, 108, 101]) = false) (hk : k ≤ 300) (hlen : T.length ≤ 52000)
    (CS : Hid (∀ w, CodeAt w cb toks → Calls Tryz.prog 66 #[.pointer (some ⟨cb, 0, none⟩), .int .i64 (k : Int)] w fun e w' => e = .returned (.string ⟨S.toArray⟩) ∧ w = w'))
    (CT : Hid (Calls Tryz.prog 103 #[.pointer (some ⟨cb, 0, none⟩), .int .i64 ((k : Int) + 2)] w fun e w' => e = .returned (.tuple #[.int .i64 v, .int .i64 m, .int .i64 (k2 : Int)]) ∧ w = w'))
    (CL : Hid (∀ w, Calls Tryz.prog 105 #[.int .i64 v] w fun e w' => e = .returned (.string ⟨[L].toArray⟩) ∧ w = w'))
    (CP : Hid (∀ w, Calls Tryz.prog 104 #[.string ⟨l.toArray⟩, .string ⟨S.toArray⟩, .string ⟨[L].toArray⟩, .int .i64 m] w fun e w' => e = .returned (.string ⟨T.toArray⟩) ∧ Below w.heap.size w w'))
    (HP : Hid (AhR ls false l c q k k2 T ls (tol T))) (HM : Hid (MkAt w0 w mb cb lb toks ls false)) :
    Calls Tryz.prog 68 #[.pointer (some ⟨mb, 0, none⟩), .int .i64 (k : Int), strV l] w (AhPost w0 mb cb lb toks ls false l c q k k2) := by
  have m0 := HM.out.m0
  have m2 := HM.out.m2
  have hms := HM.out.hms
  unfold strV
  go_enter Tryz.func68, Tryz.ntmps68
  go_wp2_with fail
  refine (CS.out _ HM.out.code).mono ?_
  rintro e w1 ⟨rfl, rfl⟩
  go_wp2_with fail
  refine Calls.mono CT.out ?_
  rintro e w1 ⟨rfl, rfl⟩
  go_wp2_with fail
  refine (CS.out _ HM.out.code).mono ?_
  rintro e w1 ⟨rfl, rfl⟩
  go_wp2_with fail
  refine (CL.out _).mono ?_
  rintro e w1 ⟨rfl, rfl⟩
  go_wp2_with fail
  refine (CP.out _).mono ?_
  rintro e w2 ⟨rfl, hb2⟩
  have A2 := HM.out.below hb2
  have m2' := A2.m2
  have f2' := A2.fm 2
  have hms' := A2.hms
  have HM2 : Hid (MkAt w0 w2 mb cb lb toks ls false) := A2
  clear A2 hb2 m0 m2
  go_wp2_with fail
  go_ret
  exact ⟨T, ls, tol T, rfl, by rw [tolI]; exact HM2.out.setBig _, HP.out⟩
theorem ahead_asg (ht : toks.length ≤ 300) (hl : ∀ j, (sAt toks j).length ≤ 300) (k : Nat) (w : World) (ls : List (List UInt8)) (l : List UInt8) (q : List Sym) (hv : 0 ≤ vr (sAt toks k)) (hk : (trm toks (k + 2)).2.2 ≤ toks.length) (ha : MkAt w0 w mb cb lb toks ls false) (hp : AhPre ls false l q k (trm toks (k + 2)).2.2) :
    Calls Tryz.prog 68 #[.pointer (some ⟨mb, 0, none⟩), .int .i64 (k : Int), strV l] w (AhPost w0 mb cb lb toks ls false l (.asg (vr (sAt toks k)) ((trm toks (k + 2)).1, (trm toks (k + 2)).2.1)) q k (trm toks (k + 2)).2.2) := by
  have hr := trm_range toks (k + 2)
  have hvr := vr_range (sAt toks k)
  obtain ⟨z1, z2, z3⟩ := vr_word hv
  have CT := code_term toks cb (k + 2) w ha.code (by omega) hl
  generalize trm toks (k + 2) = R at *
  obtain ⟨v, m, k2⟩ := R
  dsimp only at *
  obtain ⟨e1, e2, e3, e4⟩ := hp.2 rfl
  have hsx : sAt toks k = [lt (vr (sAt toks k) + 1)] := vr_lt hv
  have CS := fun w h => code_s toks cb k w h (by omega)
  generalize hX : vr (sAt toks k) = x at *
  have hpu := fun w => put_any q (x + 1) (v + 1) m (kb k2) w ⟨by omega, by omega⟩ ⟨by omega, by omega⟩ ⟨by omega, by omega⟩ (by unfold kb; omega) e3 e2
  have h1 := map_bl (x := x + 1) (u := v + 1) (n := m) (by omega) (by omega) ⟨by omega, by omega⟩ (by unfold kb; omega) e3
  have h2 := (bl_count e3).1
  have hlen : (sbs (q.map (rpl (x + 1) (v + 1) m))).length ≤ 52000 := by unfold bl at h1 h2 e2; omega
  refine ahead_asgW k k2 w ls l (sAt toks k) (sbs (q.map (rpl (x + 1) (v + 1) m))) (.asg x (v, m)) q v m (lt (v + 1)) z1 z2 z3 (by omega) hlen CS CT (fun w => letter_any v w (by omega) (by omega)) (fun w => ?_) (ahr_one hp rfl rfl rfl (by unfold lbd; omega)) ha
  have := hpu w
  unfold strV at this
  rw [e1, hsx]
  exact this

set_option maxRecDepth 100000 in
set_option maxHeartbeats 1000000 in
theorem ahead_if (ht : toks.length ≤ 300) (hl : ∀ j, (sAt toks j).length ≤ 300) (n k k1 k2 k3 : Nat) (f : Fm) (a b : Cm) (w : World) (ls : List (List UInt8)) (l : List UInt8) (q : List Sym) (IH : AlD w0 mb cb lb toks n) (h1 : sAt toks k = [105, 102]) (r1 : Rd toks .form (k + 1) f k1) (r2 : Rc toks true (k1 + 1) a k2) (r3 : Rc toks true (k2 + 1) b k3) (hn : k3 ≤ k1 + 1 + n) (hk : k3 + 1 ≤ toks.length) (hls : ls.length = 2 * toks.length) (ha : MkAt w0 w mb cb lb toks ls false) (hp : AhPre ls false l q k (k3 + 1)) :
    Calls Tryz.prog 68 #[.pointer (some ⟨mb, 0, none⟩), .int .i64 (k : Int), strV l] w (AhPost w0 mb cb lb toks ls false l (.ite f a b) q k (k3 + 1)) := by
  have l1 := r1.le.2 (by simp)
  have l2 := r2.le
  have l3 := r3.le
  have hlf := rd_len r1
  have hlf2 : (sbs (fsy f)).length ≤ 2500 := by simp only [tgL] at hlf; omega
  obtain ⟨e1, e2, e3, e4⟩ := hp.2 rfl
  have hll : l.length ≤ 4000 := by rw [e1]; exact e2
  have CS : Hid (Calls Tryz.prog 66 #[.pointer (some ⟨cb, 0, none⟩), .int .i64 (k : Int)] w fun e w' => e = .returned (.string ⟨#[105, 102]⟩) ∧ w = w') := by
    have := code_s toks cb k w ha.code (by omega)
    rwa [h1] at this
  have CF : Hid (Calls Tryz.prog 39 #[.pointer (some ⟨cb, 0, none⟩), .int .i64 ((k : Int) + 1)] w fun e w' => e = .returned (.tuple #[.string (ftx f), .int .i64 (k1 : Int)]) ∧ Below w.heap.size w w') := formula_any toks cb hl (k + 1) k1 f w r1 (by omega) ha.code
  have CA : Hid (∀ w, CodeAt w cb toks → Calls Tryz.prog 64 #[.pointer (some ⟨cb, 0, none⟩), .int .i64 ((k1 : Int) + 1)] w fun e w' => e = .returned (.int .i64 (k2 : Int)) ∧ Below w.heap.size w w') := fun w h => all_any toks cb hl (k1 + 1) k2 a w r2 (by omega) h
  have lq : ∀ j, j ≤ k3 + 1 → l.length ≤ lbd j := fun j hj => by unfold lbd; omega
  have C1 : Hid (∀ w, MkAt w0 w mb cb lb toks ls false → Calls Tryz.prog 40 #[.pointer (some ⟨mb, 0, none⟩), .int .i64 ((k1 : Int) + 1), .string ⟨l.toArray⟩] w (AhPost w0 mb cb lb toks ls false l a q (k1 + 1) k2)) := fun w h => IH (k1 + 1) k2 a w ls false l q r2 (by omega) (by omega) hls h ⟨lq _ (by omega), fun _ => ⟨e1, e2, e3.mono (by unfold kb; omega), e4.sub (by omega) (by omega)⟩⟩
  have C2 : Hid (∀ w x ls1 b1, MkAt w0 w mb cb lb toks ls1 b1 → AhR ls false l a q (k1 + 1) k2 x ls1 b1 → Calls Tryz.prog 40 #[.pointer (some ⟨mb, 0, none⟩), .int .i64 ((k2 : Int) + 1), .string ⟨l.toArray⟩] w (AhPost w0 mb cb lb toks ls1 b1 l b q (k2 + 1) k3)) := fun w x ls1 b1 h hR => IH (k2 + 1) k3 b w ls1 b1 l q r3 (by omega) (by omega) (by rw [hR.1]; exact hls) h ⟨lq _ (by omega), fun hb => ⟨e1, e2, e3.mono (by unfold kb; omega), ((hR.small hb).2.2.2).emp (e4.sub (by omega) (by omega)) (Or.inr (by omega))⟩⟩
  have HP : Hid (AhPre ls false l q k (k3 + 1)) := hp
  have m0 := ha.m0
  have m2 := ha.m2
  have hms := ha.hms
  have HM : Hid (MkAt w0 w mb cb lb toks ls false) := ha
  clear ha hp e1 e2 e3 e4 IH r1 r2 r3 lq h1
  unfold strV ftx at *
  have hfl : (sbs (fsy f)).length ≤ 2500 := hlf2
  generalize hF : sbs (fsy f) = F at *
  go_enter Tryz.func68, Tryz.ntmps68
  go_wp2_with fail
  refine Calls.mono CS.out ?_
  rintro e w1 ⟨rfl, rfl⟩
  go_wp2_with fail
  refine Calls.mono CF.out ?_
  rintro e w2 ⟨rfl, hb2⟩
  have A2 := HM.out.below hb2
  have HM2 : Hid (MkAt w0 w2 mb cb lb toks ls false) := A2
  clear hb2 A2 CF CS m0 m2 HM
  go_wp2_with fail
  refine (CA.out _ HM2.out.code).mono ?_
  rintro e w3 ⟨rfl, hb3⟩
  have A3 := HM2.out.below hb3
  have HM3 : Hid (MkAt w0 w3 mb cb lb toks ls false) := A3
  clear hb3 A3 HM2 CA
  go_wp2_with fail
  refine Calls.mono (C1.out _ HM3.out) ?_
  rintro e w4 ⟨x, ls1, b1, rfl, hM4, hR4⟩
  have C2' := C2.out _ _ _ _ hM4 hR4
  have HC2 : Hid _ := C2'
  have HR4 : Hid (AhR ls false l a q (k1 + 1) k2 x ls1 b1) := hR4
  have hlx := hR4.2.1
  clear hM4 hR4 HM3 C2 C1 C2'
  unfold strV
  go_wp2_with fail
  refine Calls.mono HC2.out ?_
  rintro e w5 ⟨y, ls2, b2, rfl, hM5, hR5⟩
  have hly := hR5.2.1
  have HF : Hid (AhR ls false l (.ite f a b) q k (k3 + 1) (ifT f x y) ls2 (b2 || tol (ifT f x y))) := ahr_if HP.out (by rw [hF]; exact hlf2) HR4.out hR5 (by omega) (by omega) (by omega) (by omega)
  have HI : Hid (ifT f x y = [124, 38] ++ F ++ x ++ [38, 33] ++ F ++ y) := by show _ = _; unfold ifT; rw [hF]
  have m2' := hM5.m2
  have f2' := hM5.fm 2
  have hms' := hM5.hms
  have HM5 : Hid (MkAt w0 w5 mb cb lb toks ls2 b2) := hM5
  have hx6 : x.length ≤ 20000000 := by unfold lbd at hlx; omega
  have hy6 : y.length ≤ 20000000 := by unfold lbd at hly; omega
  clear hM5 hR5 hlx hly HR4 HC2
  have HE : Hid ((⟨#[124, 38]⟩ : ByteArray) ++ ⟨F.toArray⟩ ++ ⟨x.toArray⟩ ++ ⟨#[38, 33]⟩ ++ ⟨F.toArray⟩ ++ ⟨y.toArray⟩ = ⟨(ifT f x y).toArray⟩) := by show _ = _; rw [ifStr, HI.out]
  have HL : Hid ((2 : Int) + (F.length : Int) + (x.length : Int) + 2 + (F.length : Int) + (y.length : Int) = ((ifT f x y).length : Int)) := by show _ = _; rw [HI.out]; simp; omega
  clear HI
  generalize ifT f x y = T at *
  unfold strV
  cases b2
  · go_wp2_with fail
    go_ret
    exact ⟨T, ls2, _, congrArg (fun z => Ending.returned (.string z)) HE.out, by rw [tolN HL.out]; exact HM5.out.setBig _, by have := HF.out; rwa [Bool.false_or] at this⟩
  · go_wp2_with fail
    go_ret
    exact ⟨T, ls2, true, congrArg (fun z => Ending.returned (.string z)) HE.out, HM5.out.setBig _, HF.out⟩
end Go.Proofs.YtkinoehmcfhgbaaGreatDoor.Vl
