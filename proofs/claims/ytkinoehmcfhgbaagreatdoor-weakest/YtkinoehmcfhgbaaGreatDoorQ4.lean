/-
  The walks of the parser's methods factor, part, formula, by one induction over what is left of the tokens.
-/
import Derived.Test.YtkinoehmcfhgbaaGreatDoorQ3
set_option linter.unusedVariables false
set_option linter.unusedSimpArgs false
namespace Go.Proofs.YtkinoehmcfhgbaaGreatDoor.Av
open Go.RowKit

variable {toks : List (List UInt8 × Nat)} {len : Nat}

theorem post7a {fn : Func} {R : Ending → World → Prop} {tmps : Array Value} {X : World} {o : Obj} {B k : Nat} {c0 c1 c2 c3 c4 c5 c6 o0 o1 o2 o3 o4 o5 o6 : Value} (hf : fn.results = #[.cell k 98]) (ht : tmps.getD k undef = .pointer (some ⟨B, 0, none⟩)) (hx : Seven X B o0 o1 o2 o3 o4 o5 o6) (hB : B < X.heap.size)
    (hR : R (.returned (.agg #[c0, c1, c2, c3, c4, c5, c6])) ((((((((X.setCell ⟨B, 0, none⟩ c0).setCell ⟨B, 1, none⟩ c1).setCell ⟨B, 2, none⟩ c2).setCell ⟨B, 3, none⟩ c3).setCell ⟨B, 4, none⟩ c4).setCell ⟨B, 5, none⟩ c5).setCell ⟨B, 6, none⟩ c6).alloc o)) : bodyPost Tryz.prog fn R .ret ⟨tmps, []⟩ ((((((((X.setCell ⟨B, 0, none⟩ c0).setCell ⟨B, 1, none⟩ c1).setCell ⟨B, 2, none⟩ c2).setCell ⟨B, 3, none⟩ c3).setCell ⟨B, 4, none⟩ c4).setCell ⟨B, 5, none⟩ c5).setCell ⟨B, 6, none⟩ c6).alloc o) := by
  obtain ⟨⟨a0, a1, a2, a3, a4, a5, a6⟩, _⟩ := (hx.put c0 c1 c2 c3 c4 c5 c6).alloc (by rw [ssize, ssize, ssize, ssize, ssize, ssize, ssize]; exact hB) o
  exact bodyPost_ret (results_cell hf ht (load7 _ B c0 c1 c2 c3 c4 c5 c6 a0 a1 a2 a3 a4 a5 a6)) rfl hR

theorem FR.up {t : Tg} {k : Nat} {P P' : Nat → Prop} {w : World} {v : Value} {σ' : PSt} (h : FR toks t k P w v σ') (hl : ∀ g, P g → g < w.heap.size → P' g) : FR toks t k P' w v σ' := h.same (Same.refl _ _) hl
theorem FR.w7 {t : Tg} {k B : Nat} {X : World} {v : Value} {σ' : PSt} (h : FR toks t k (fun g => B < g) X v σ') (c0 c1 c2 c3 c4 c5 c6 : Value) : FR toks t k (fun g => B ≤ g) (((((((X.setCell ⟨B, 0, none⟩ c0).setCell ⟨B, 1, none⟩ c1).setCell ⟨B, 2, none⟩ c2).setCell ⟨B, 3, none⟩ c3).setCell ⟨B, 4, none⟩ c4).setCell ⟨B, 5, none⟩ c5).setCell ⟨B, 6, none⟩ c6) v σ' :=
  h.same (same7 (fun h => by omega) _ _ _ _ _ _ _ _) (fun g h1 h2 => by omega)
theorem ent_ok {σ : PSt} (hk : kd (T3 toks len) σ.pos ≠ 0) (he : (σ.ent (T3 toks len)).e = 0) : (σ.ent (T3 toks len)).pos = σ.pos + 1 := by
  unfold PSt.ent at he ⊢
  split at he
  · exact absurd he (ref_ne _ _ _ (by decide))
  · rename_i hd
    rw [if_neg hd]; exact adv_pos _ _ hk
theorem FR.no {k B : Nat} {X : World} {σ' : PSt} {c0 c2 c3 c4 c5 c6 : Int} {cp : Option Addr} {cn cc : Nat} (h : FR toks .fac (k + 1) (fun g => B < g) X (.agg #[.int .i64 c0, .slice cp cn cc, .int .i64 c2, .int .i64 c3, .int .i64 c4, .int .i64 c5, .int .i64 c6]) σ') (hs : sAt toks k = [110, 111, 116]) (hz : B < X.heap.size) (t : TypeId) :
    FR toks .fac k (fun g => B ≤ g) ((((((((X.setCell ⟨B, 0, none⟩ (.int .i64 3)).setCell ⟨B, 1, none⟩ (.slice (some ⟨X.heap.size, 0, none⟩) 1 1)).setCell ⟨B, 2, none⟩ (.int .i64 0)).setCell ⟨B, 3, none⟩ (.int .i64 0)).setCell ⟨B, 4, none⟩ (.int .i64 0)).setCell ⟨B, 5, none⟩ (.int .i64 0)).setCell ⟨B, 6, none⟩ (.int .i64 0)).alloc (.cells #[.int .i64 c0, .slice cp cn cc, .int .i64 c2, .int .i64 c3, .int .i64 c4, .int .i64 c5, .int .i64 c6] t)) (.agg #[.int .i64 3, .slice (some ⟨X.heap.size, 0, none⟩) 1 1, .int .i64 0, .int .i64 0, .int .i64 0, .int .i64 0, .int .i64 0]) σ' := by
  obtain ⟨f, cs, e1, hR, hF⟩ := h
  have ecs := fv_inj e1
  subst ecs
  refine ⟨.no f, fv 3 (some ⟨X.heap.size, 0, none⟩) 1 1 0 0 0 0 0, rfl, .no hs hR, ?_⟩
  have s7 := same7 (P := fun g => B < g) (B := B) (fun h => by omega) X (.int .i64 3) (.slice (some ⟨X.heap.size, 0, none⟩) 1 1) (.int .i64 0) (.int .i64 0) (.int .i64 0) (.int .i64 0) (.int .i64 0)
  have hzz : (((((((X.setCell ⟨B, 0, none⟩ (.int .i64 3)).setCell ⟨B, 1, none⟩ (.slice (some ⟨X.heap.size, 0, none⟩) 1 1)).setCell ⟨B, 2, none⟩ (.int .i64 0)).setCell ⟨B, 3, none⟩ (.int .i64 0)).setCell ⟨B, 4, none⟩ (.int .i64 0)).setCell ⟨B, 5, none⟩ (.int .i64 0)).setCell ⟨B, 6, none⟩ (.int .i64 0)).heap.size = X.heap.size := by rw [ssize, ssize, ssize, ssize, ssize, ssize, ssize]
  generalize ((((((X.setCell ⟨B, 0, none⟩ (.int .i64 3)).setCell ⟨B, 1, none⟩ (.slice (some ⟨X.heap.size, 0, none⟩) 1 1)).setCell ⟨B, 2, none⟩ (.int .i64 0)).setCell ⟨B, 3, none⟩ (.int .i64 0)).setCell ⟨B, 4, none⟩ (.int .i64 0)).setCell ⟨B, 5, none⟩ (.int .i64 0)).setCell ⟨B, 6, none⟩ (.int .i64 0) = Y at *
  have sA := same_alloc (fun g => B < g) Y (.cells #[.int .i64 c0, .slice cp cn cc, .int .i64 c2, .int .i64 c3, .int .i64 c4, .int .i64 c5, .int .i64 c6] t)
  refine ⟨X.heap.size, 1, 0, 0, 0, 0, 0, fv c0 cp cn cc c2 c3 c4 c5 c6, rfl, by omega, by rw [asize, hzz]; omega, by omega, by decide, ?_, ((hF.same s7).same sA).mono (fun g h1 h2 => by omega)⟩
  intro j v hv
  rw [← hzz, World.cell?_alloc_at _ _ _ _ rfl]
  unfold fv at hv
  match j, hv with
  | 0, hv => exact hv
  | 1, hv => exact hv
  | 2, hv => exact hv
  | 3, hv => exact hv
  | 4, hv => exact hv
  | 5, hv => exact hv
  | 6, hv => exact hv
  | j + 7, hv => simp at hv
theorem FR.par {k : Nat} {P : Nat → Prop} {X : World} {v : Value} {σ σ' : PSt} (h : FR toks .form (k + 1) P X v σ) (hs : sAt toks k = [40]) (hp : σ'.pos = σ.pos + 1) : FR toks .fac k P X v σ' := by
  obtain ⟨f, cs, e1, hR, hF⟩ := h
  exact ⟨f, cs, e1, by rw [hp]; exact .par hs hR, hF⟩

def FacC (toks : List (List UInt8 × Nat)) (len b tb cap r : Nat) : Prop := ∀ (w : World) (σ : PSt), At w b tb cap (T3 toks len) σ → Ok toks.length σ → toks.length - σ.pos ≤ r → Calls Tryz.prog 224 #[.pointer (some ⟨b, 0, none⟩)] w (PPost b tb cap toks len σ w formV (fun σ' => ∀ st, fin toks len σ (cFactor :: st) = fin toks len σ' st) (FR toks .fac σ.pos (fun g => w.heap.size ≤ g)))
def ForC (toks : List (List UInt8 × Nat)) (len b tb cap r : Nat) : Prop := ∀ (w : World) (σ : PSt), At w b tb cap (T3 toks len) σ → Ok toks.length σ → toks.length - σ.pos ≤ r → Calls Tryz.prog 109 #[.pointer (some ⟨b, 0, none⟩)] w (PPost b tb cap toks len σ w formV (fun σ' => ∀ st, fin toks len σ (cFormula :: st) = fin toks len σ' st) (FR toks .form σ.pos (fun g => w.heap.size ≤ g)))
def PartC (toks : List (List UInt8 × Nat)) (len b tb cap r : Nat) : Prop := ∀ (w : World) (σ : PSt), At w b tb cap (T3 toks len) σ → Ok toks.length σ → toks.length - σ.pos ≤ r → Calls Tryz.prog 157 #[.pointer (some ⟨b, 0, none⟩)] w (PPost b tb cap toks len σ w formV (Link toks len 24 σ) (FR toks .part σ.pos (fun g => w.heap.size ≤ g)))

theorem kd_nonneg (hk : AllTok toks) {σ : PSt} (ho : Ok toks.length σ) : 0 ≤ kd (T3 toks len) σ.pos := by
  rcases look (len := len) hk σ ho.1 with ⟨t, i, _, g1, g2, _, _⟩ | ⟨_, g2, _, _⟩
  · rw [g2]; have := tk_pos t g1; omega
  · omega

set_option maxRecDepth 100000 in
set_option maxHeartbeats 1000000 in
theorem part_c (hk : AllTok toks) (hn : toks.length ≤ 300) (b tb cap r : Nat) (HF : FacC toks len b tb cap r) : PartC toks len b tb cap r := by
  intro w σ h ho hr
  have HC : Hid (∀ (w : World) (σ : PSt), At w b tb cap (T3 toks len) σ → Ok toks.length σ → toks.length - σ.pos ≤ r → Calls Tryz.prog 156 #[.pointer (some ⟨b, 0, none⟩), .int .i64 24, .int .i64 4, .func (.func 224) #[.pointer (some ⟨b, 0, none⟩)] #[]] w (PPost b tb cap toks len σ w formV (fun σ' => Link toks len (-1) σ σ' ∧ kd (T3 toks len) σ'.pos ≠ 24) (FR toks .part σ.pos (fun g => w.heap.size ≤ g)))) := fun w σ h1 h2 h3 =>
    chain_and hk hn b tb cap r (-1) (fun w σ h1 h2 h3 => (HF w σ h1 h2 h3).mono (fun e w' ⟨v, σ', g1, g2, g3, g4, g5, g6, g7⟩ => ⟨v, σ', g1, g2, g3, g4, g5, ⟨fun st => by rw [fin_formula, g6], by have := kd_nonneg (len := len) hk g4.1; omega⟩, g7⟩)) w σ h1 h2 h3
  have H : Hid (At w b tb cap (T3 toks len) σ) := h
  have HO : Hid (Ok toks.length σ) := ho
  have HR : Hid (toks.length - σ.pos ≤ r) := hr
  have hb := h.hb
  have htb := h.htb
  clear h ho hr HF
  go_enter Tryz.func157, Tryz.ntmps157
  go_wp2_with fail
  refine (HC.out _ σ (H.out.alloc _) HO.out HR.out).mono ?_
  rintro e w1 ⟨v1, σ1, rfl, ⟨c0, cp, cn, cc, c2, c3, c4, c5, c6, rfl⟩, hA1, hG1, hK1, hS1, hR1⟩
  have h0 := (Seven.new w (.int .i64 0) (.slice none 0 0) (.int .i64 0) (.int .i64 0) (.int .i64 0) (.int .i64 0) (.int .i64 0) 98).kp hK1 hb (by simp)
  have HZ : Hid (Seven w1 w.heap.size (.int .i64 0) (.slice none 0 0) (.int .i64 0) (.int .i64 0) (.int .i64 0) (.int .i64 0) (.int .i64 0)) := h0
  obtain ⟨⟨z0, z1, z2, z3, z4, z5, z6⟩, hzf⟩ := h0
  have hf0 := hzf 0
  have hf1 := hzf 1
  have hf2 := hzf 2
  have hf3 := hzf 3
  have hf4 := hzf 4
  have hf5 := hzf 5
  have hf6 := hzf 6
  have HS1 : Hid (Link toks len (-1) σ σ1 ∧ kd (T3 toks len) σ1.pos ≠ 24) := hS1
  have HR1 : Hid (σ1.e = 0 → FR toks .part σ.pos (fun g => w.heap.size < g) w1 (.agg #[.int .i64 c0, .slice cp cn cc, .int .i64 c2, .int .i64 c3, .int .i64 c4, .int .i64 c5, .int .i64 c6]) σ1) := fun he => (hR1 he).up (fun g h1 h2 => by rw [asize] at h1; omega)
  clear hzf hS1 hR1
  go_wp2_with fail
  exact post7 Tryz.results157 rfl HZ.out.some ⟨_, σ1, rfl, ⟨_, _, _, _, _, _, _, _, _, rfl⟩, hA1.w7 _ _ _ _ _ _ _ _ hb htb, hG1, (((Kp.refl b w).alloc _).trans hK1).w7 _ _ _ _ _ _ _ _ (Nat.le_refl _), ⟨HS1.out.1.1, HS1.out.2⟩, fun he => (HR1.out he).w7 _ _ _ _ _ _ _⟩

set_option maxRecDepth 100000 in
set_option maxHeartbeats 1000000 in
theorem formula_c (hk : AllTok toks) (hn : toks.length ≤ 300) (b tb cap r : Nat) (HF : PartC toks len b tb cap r) : ForC toks len b tb cap r := by
  intro w σ h ho hr
  have HC : Hid (∀ (w : World) (σ : PSt), At w b tb cap (T3 toks len) σ → Ok toks.length σ → toks.length - σ.pos ≤ r → Calls Tryz.prog 156 #[.pointer (some ⟨b, 0, none⟩), .int .i64 23, .int .i64 5, .func (.func 157) #[.pointer (some ⟨b, 0, none⟩)] #[]] w (PPost b tb cap toks len σ w formV (fun σ' => Link toks len 24 σ σ' ∧ kd (T3 toks len) σ'.pos ≠ 23) (FR toks .form σ.pos (fun g => w.heap.size ≤ g)))) := fun w σ h1 h2 h3 => chain_or hk hn b tb cap r 24 HF w σ h1 h2 h3
  have H : Hid (At w b tb cap (T3 toks len) σ) := h
  have HO : Hid (Ok toks.length σ) := ho
  have HR : Hid (toks.length - σ.pos ≤ r) := hr
  have hb := h.hb
  have htb := h.htb
  clear h ho hr HF
  go_enter Tryz.func109, Tryz.ntmps109
  go_wp2_with fail
  refine (HC.out _ σ (H.out.alloc _) HO.out HR.out).mono ?_
  rintro e w1 ⟨v1, σ1, rfl, ⟨c0, cp, cn, cc, c2, c3, c4, c5, c6, rfl⟩, hA1, hG1, hK1, hS1, hR1⟩
  have h0 := (Seven.new w (.int .i64 0) (.slice none 0 0) (.int .i64 0) (.int .i64 0) (.int .i64 0) (.int .i64 0) (.int .i64 0) 98).kp hK1 hb (by simp)
  have HZ : Hid (Seven w1 w.heap.size (.int .i64 0) (.slice none 0 0) (.int .i64 0) (.int .i64 0) (.int .i64 0) (.int .i64 0) (.int .i64 0)) := h0
  obtain ⟨⟨z0, z1, z2, z3, z4, z5, z6⟩, hzf⟩ := h0
  have hf0 := hzf 0
  have hf1 := hzf 1
  have hf2 := hzf 2
  have hf3 := hzf 3
  have hf4 := hzf 4
  have hf5 := hzf 5
  have hf6 := hzf 6
  have HS1 : Hid (Link toks len 24 σ σ1 ∧ kd (T3 toks len) σ1.pos ≠ 23) := hS1
  have HR1 : Hid (σ1.e = 0 → FR toks .form σ.pos (fun g => w.heap.size < g) w1 (.agg #[.int .i64 c0, .slice cp cn cc, .int .i64 c2, .int .i64 c3, .int .i64 c4, .int .i64 c5, .int .i64 c6]) σ1) := fun he => (hR1 he).up (fun g h1 h2 => by rw [asize] at h1; omega)
  clear hzf hS1 hR1
  go_wp2_with fail
  exact post7 Tryz.results109 rfl HZ.out.some ⟨_, σ1, rfl, ⟨_, _, _, _, _, _, _, _, _, rfl⟩, hA1.w7 _ _ _ _ _ _ _ _ hb htb, hG1, (((Kp.refl b w).alloc _).trans hK1).w7 _ _ _ _ _ _ _ _ (Nat.le_refl _), fun st => by rw [HS1.out.1.1 st, fin_popF hk hG1.1.1 HS1.out.2 HS1.out.1.2], fun he => (HR1.out he).w7 _ _ _ _ _ _ _⟩

set_option maxRecDepth 100000 in
set_option maxHeartbeats 1000000 in
theorem factor_not (hk : AllTok toks) (hn : toks.length ≤ 300) (b tb cap r : Nat) (IH1 : ∀ r', r' < r → FacC toks len b tb cap r') (IH2 : ∀ r', r' < r → ForC toks len b tb cap r') (w : World) (σ : PSt) (h : At w b tb cap (T3 toks len) σ) (ho : Ok toks.length σ) (hr : toks.length - σ.pos ≤ r) (k1 : kd (T3 toks len) σ.pos = 25) :
    Calls Tryz.prog 224 #[.pointer (some ⟨b, 0, none⟩)] w (PPost b tb cap toks len σ w formV (fun σ' => ∀ st, fin toks len σ (cFactor :: st) = fin toks len σ' st) (FR toks .fac σ.pos (fun g => w.heap.size ≤ g))) := by
  have H : Hid (At w b tb cap (T3 toks len) σ) := h
  have HO : Hid (Ok toks.length σ) := ho
  have hb := h.hb
  have htb := h.htb
  have hkd : kd (T3 toks len) σ.pos ≠ 0 := by omega
  have g1 := goes_ent (len := len) hk ho hkd
  have he := (kd_lt (len := len) hk ho hkd).2
  have HKE : Hid (kd (T3 toks len) σ.pos = 25) := k1
  have HKD : Hid (kd (T3 toks len) σ.pos ≠ 0) := hkd
  have HE : Hid (Ok toks.length (σ.ent (T3 toks len)) ∧ σ.pos < (σ.ent (T3 toks len)).pos ∧ ((σ.ent (T3 toks len)).e = 0 → (σ.ent (T3 toks len)).d = σ.d + 1)) := g1
  have HEE : Hid (σ.e = 0) := he
  have hrr : toks.length - (σ.ent (T3 toks len)).pos < r := by have := g1.2.1; have := (kd_lt (len := len) hk ho hkd).1; omega
  have HI : Hid (FacC toks len b tb cap (toks.length - (σ.ent (T3 toks len)).pos)) := IH1 _ hrr
  have HS0 : Hid (∀ st, fin toks len σ (cFactor :: st) = fin toks len (σ.ent (T3 toks len)) (cFactor :: cNotEnds :: st)) := fun st => fin_not hk ho k1 st
  clear hkd g1 he hrr k1
  clear h ho hr IH1 IH2
  go_enter Tryz.func224, Tryz.ntmps224
  go_wp2_with fail
  refine (peek_c b tb cap _ σ (H.out.alloc _) HO.out).mono ?_
  rw [HKE.out]
  rintro e w1 ⟨rfl, nq, rfl⟩
  have HA1 : Hid (At ((w.alloc (.cells #[.int .i64 0, .slice none 0 0, .int .i64 0, .int .i64 0, .int .i64 0, .int .i64 0, .int .i64 0] 98)).drewN nq) b tb cap (T3 toks len) σ) := (H.out.alloc _).drewN nq
  have HK1 : Hid (Kp b w ((w.alloc (.cells #[.int .i64 0, .slice none 0 0, .int .i64 0, .int .i64 0, .int .i64 0, .int .i64 0, .int .i64 0] 98)).drewN nq)) := ((Kp.refl b w).alloc _).drewN nq
  have HZ1 : Hid (Seven ((w.alloc (.cells #[.int .i64 0, .slice none 0 0, .int .i64 0, .int .i64 0, .int .i64 0, .int .i64 0, .int .i64 0] 98)).drewN nq) w.heap.size (.int .i64 0) (.slice none 0 0) (.int .i64 0) (.int .i64 0) (.int .i64 0) (.int .i64 0) (.int .i64 0)) := (Seven.new w (.int .i64 0) (.slice none 0 0) (.int .i64 0) (.int .i64 0) (.int .i64 0) (.int .i64 0) (.int .i64 0) 98).kp (b := b) ((Kp.refl b _).drewN nq) hb (by simp)
  go_wp2_with fail
  refine (enter_c hk hn b tb cap _ σ HA1.out HO.out HKD.out).mono ?_
  rintro e w2 ⟨rfl, hA2, hK2⟩
  have HA2 : Hid (At w2 b tb cap (T3 toks len) (σ.ent (T3 toks len))) := hA2
  have HK2 : Hid (Kp b w w2) := HK1.out.trans hK2
  have HZ2 : Hid (Seven w2 w.heap.size (.int .i64 0) (.slice none 0 0) (.int .i64 0) (.int .i64 0) (.int .i64 0) (.int .i64 0) (.int .i64 0)) := HZ1.out.kp hK2 hb (by simp)
  have hz2 : w.heap.size < w2.heap.size := by have := hK2.size; simp at this; omega
  clear hA2 hK2
  go_wp2_with fail
  refine (HI.out _ _ HA2.out HE.out.1 (Nat.le_refl _)).mono ?_
  rintro e w3 ⟨v3, σ3, rfl, ⟨c0, cp, cn, cc, c2, c3, c4, c5, c6, rfl⟩, hA3, hG3, hK3, hS3, hR3⟩
  have HA3 : Hid (At w3 b tb cap (T3 toks len) σ3) := hA3
  have HG3 : Hid (Goes toks.length (σ.ent (T3 toks len)) σ3) := hG3
  have HK3 : Hid (Kp b w w3) := HK2.out.trans hK3
  have HZ3 : Hid (Seven w3 w.heap.size (.int .i64 0) (.slice none 0 0) (.int .i64 0) (.int .i64 0) (.int .i64 0) (.int .i64 0) (.int .i64 0)) := HZ2.out.kp hK3 hb hz2
  have HS3 : Hid (∀ st, fin toks len (σ.ent (T3 toks len)) (cFactor :: st) = fin toks len σ3 st) := hS3
  have hz3 : w.heap.size < w3.heap.size := by have := hK3.size; omega
  have hlt3 : b < w3.heap.size := by omega
  have HR3 : Hid (σ3.e = 0 → FR toks .fac (σ.pos + 1) (fun g => w.heap.size < g) w3 (.agg #[.int .i64 c0, .slice cp cn cc, .int .i64 c2, .int .i64 c3, .int .i64 c4, .int .i64 c5, .int .i64 c6]) σ3) := fun he => by
    have h9 := hR3 he
    rw [ent_ok HKD.out (HG3.out.2.2 he).1] at h9
    exact h9.up (fun g h1 h2 => by omega)
  clear hA3 hG3 hK3 hS3 hR3
  go_wp2_with fail
  refine (leave_c b tb cap _ σ3 (HA3.out.alloc _)).mono ?_
  rintro e w4 ⟨rfl, hA4, hK4⟩
  have HA4 : Hid (At w4 b tb cap (T3 toks len) σ3.lv) := hA4
  have HK4 : Hid (Kp b w w4) := (HK3.out.alloc _).trans hK4
  have HZN : Hid (Seven w4 w.heap.size (.int .i64 0) (.slice none 0 0) (.int .i64 0) (.int .i64 0) (.int .i64 0) (.int .i64 0) (.int .i64 0)) := (HZ3.out.alloc hz3 _).kp hK4 hb (by rw [asize]; omega)
  obtain ⟨⟨a0, a1, a2, a3, a4, a5, a6⟩, _⟩ := (Seven.new w3 (.int .i64 c0) (.slice cp cn cc) (.int .i64 c2) (.int .i64 c3) (.int .i64 c4) (.int .i64 c5) (.int .i64 c6) 98).kp hK4 hlt3 (by rw [asize]; omega)
  have hz4 : w.heap.size < w4.heap.size := by have := hK4.size; rw [asize] at this; omega
  have hz5 : w3.heap.size < w4.heap.size := by have := hK4.size; rw [asize] at this; omega
  have HR4 : Hid (σ3.e = 0 → FR toks .fac (σ.pos + 1) (fun g => w.heap.size < g) w4 (.agg #[.int .i64 c0, .slice cp cn cc, .int .i64 c2, .int .i64 c3, .int .i64 c4, .int .i64 c5, .int .i64 c6]) σ3) := fun he => (HR3.out he).same ((same_alloc _ _ _).trans (hK4.same (fun h => by omega))) (fun g h1 h2 => h1)
  clear hA4 hK4
  obtain ⟨⟨z0, z1, z2, z3, z4, z5, z6⟩, hzf⟩ := HZN.out
  have hf0 := hzf 0
  have hf1 := hzf 1
  have hf2 := hzf 2
  have hf3 := hzf 3
  have hf4 := hzf 4
  have hf5 := hzf 5
  have hf6 := hzf 6
  clear hzf
  go_wp2_with fail
  exact post7a Tryz.results224 rfl HZN.out hz4 ⟨_, σ3.lv, rfl, ⟨_, _, _, _, _, _, _, _, _, rfl⟩, (HA4.out.w7 _ _ _ _ _ _ _ _ hb htb).alloc _, goes_lv HO.out HE.out.2 (fun _ => HEE.out) HG3.out, (HK4.out.w7 _ _ _ _ _ _ _ _ (Nat.le_refl _)).alloc _, fun st => by rw [HS0.out st, HS3.out, fin_notEnds HG3.out.1], fun he => FR.no (HR4.out he) ((lit_at (len := len) hk HO.out.1 (c := [110, 111, 116]) (n := 25) (by decide)).1 HKE.out) hz4 _⟩


set_option maxRecDepth 100000 in
set_option maxHeartbeats 1000000 in
theorem factor_open (hk : AllTok toks) (hn : toks.length ≤ 300) (b tb cap r : Nat) (IH1 : ∀ r', r' < r → FacC toks len b tb cap r') (IH2 : ∀ r', r' < r → ForC toks len b tb cap r') (w : World) (σ : PSt) (h : At w b tb cap (T3 toks len) σ) (ho : Ok toks.length σ) (hr : toks.length - σ.pos ≤ r) (k1 : kd (T3 toks len) σ.pos = 2) :
    Calls Tryz.prog 224 #[.pointer (some ⟨b, 0, none⟩)] w (PPost b tb cap toks len σ w formV (fun σ' => ∀ st, fin toks len σ (cFactor :: st) = fin toks len σ' st) (FR toks .fac σ.pos (fun g => w.heap.size ≤ g))) := by
  have H : Hid (At w b tb cap (T3 toks len) σ) := h
  have HO : Hid (Ok toks.length σ) := ho
  have hb := h.hb
  have htb := h.htb
  have hkd : kd (T3 toks len) σ.pos ≠ 0 := by omega
  have g1 := goes_ent (len := len) hk ho hkd
  have he := (kd_lt (len := len) hk ho hkd).2
  have HKE : Hid (kd (T3 toks len) σ.pos = 2) := k1
  have HKD : Hid (kd (T3 toks len) σ.pos ≠ 0) := hkd
  have HE : Hid (Ok toks.length (σ.ent (T3 toks len)) ∧ σ.pos < (σ.ent (T3 toks len)).pos ∧ ((σ.ent (T3 toks len)).e = 0 → (σ.ent (T3 toks len)).d = σ.d + 1)) := g1
  have HEE : Hid (σ.e = 0) := he
  have hrr : toks.length - (σ.ent (T3 toks len)).pos < r := by have := g1.2.1; have := (kd_lt (len := len) hk ho hkd).1; omega
  have HI : Hid (ForC toks len b tb cap (toks.length - (σ.ent (T3 toks len)).pos)) := IH2 _ hrr
  have HS0 : Hid (∀ st, fin toks len σ (cFactor :: st) = fin toks len (σ.ent (T3 toks len)) (cFormula :: [41] :: st)) := fun st => fin_open hk ho k1 st
  clear hkd g1 he hrr k1
  clear h ho hr IH1 IH2
  go_enter Tryz.func224, Tryz.ntmps224
  go_wp2_with fail
  refine (peek_c b tb cap _ σ (H.out.alloc _) HO.out).mono ?_
  rw [HKE.out]
  rintro e w1 ⟨rfl, nq, rfl⟩
  have HA1 : Hid (At ((w.alloc (.cells #[.int .i64 0, .slice none 0 0, .int .i64 0, .int .i64 0, .int .i64 0, .int .i64 0, .int .i64 0] 98)).drewN nq) b tb cap (T3 toks len) σ) := (H.out.alloc _).drewN nq
  have HK1 : Hid (Kp b w ((w.alloc (.cells #[.int .i64 0, .slice none 0 0, .int .i64 0, .int .i64 0, .int .i64 0, .int .i64 0, .int .i64 0] 98)).drewN nq)) := ((Kp.refl b w).alloc _).drewN nq
  have HZ1 : Hid (Seven ((w.alloc (.cells #[.int .i64 0, .slice none 0 0, .int .i64 0, .int .i64 0, .int .i64 0, .int .i64 0, .int .i64 0] 98)).drewN nq) w.heap.size (.int .i64 0) (.slice none 0 0) (.int .i64 0) (.int .i64 0) (.int .i64 0) (.int .i64 0) (.int .i64 0)) := (Seven.new w (.int .i64 0) (.slice none 0 0) (.int .i64 0) (.int .i64 0) (.int .i64 0) (.int .i64 0) (.int .i64 0) 98).kp (b := b) ((Kp.refl b _).drewN nq) hb (by simp)
  go_wp2_with fail
  refine (enter_c hk hn b tb cap _ σ HA1.out HO.out HKD.out).mono ?_
  rintro e w2 ⟨rfl, hA2, hK2⟩
  have HA2 : Hid (At w2 b tb cap (T3 toks len) (σ.ent (T3 toks len))) := hA2
  have HK2 : Hid (Kp b w w2) := HK1.out.trans hK2
  have HZ2 : Hid (Seven w2 w.heap.size (.int .i64 0) (.slice none 0 0) (.int .i64 0) (.int .i64 0) (.int .i64 0) (.int .i64 0) (.int .i64 0)) := HZ1.out.kp hK2 hb (by simp)
  have hz2 : w.heap.size < w2.heap.size := by have := hK2.size; simp at this; omega
  clear hA2 hK2
  go_wp2_with fail
  refine (HI.out _ _ HA2.out HE.out.1 (Nat.le_refl _)).mono ?_
  rintro e w3 ⟨v3, σ3, rfl, ⟨c0, cp, cn, cc, c2, c3, c4, c5, c6, rfl⟩, hA3, hG3, hK3, hS3, hR3⟩
  have HA3 : Hid (At w3 b tb cap (T3 toks len) σ3) := hA3
  have HG3 : Hid (Goes toks.length (σ.ent (T3 toks len)) σ3) := hG3
  have HK3 : Hid (Kp b w w3) := HK2.out.trans hK3
  have HZ3 : Hid (Seven w3 w.heap.size (.int .i64 0) (.slice none 0 0) (.int .i64 0) (.int .i64 0) (.int .i64 0) (.int .i64 0) (.int .i64 0)) := HZ2.out.kp hK3 hb hz2
  have HS3 : Hid (∀ st, fin toks len (σ.ent (T3 toks len)) (cFormula :: st) = fin toks len σ3 st) := hS3
  have hz3 : w.heap.size < w3.heap.size := by have := hK3.size; omega
  have hlt3 : b < w3.heap.size := by omega
  have HR3 : Hid (σ3.e = 0 → FR toks .form (σ.pos + 1) (fun g => w.heap.size < g) w3 (.agg #[.int .i64 c0, .slice cp cn cc, .int .i64 c2, .int .i64 c3, .int .i64 c4, .int .i64 c5, .int .i64 c6]) σ3) := fun he => by
    have h9 := hR3 he
    rw [ent_ok HKD.out (HG3.out.2.2 he).1] at h9
    exact h9.up (fun g h1 h2 => by omega)
  clear hA3 hG3 hK3 hS3 hR3
  go_wp2_with fail
  refine (expect_c hn b tb cap 3 _ σ3 (HA3.out.alloc _) HG3.out.1).mono ?_
  rintro e w4 ⟨x4, rfl, hA4, hK4⟩
  have HA4 : Hid (At w4 b tb cap (T3 toks len) (σ3.exp (T3 toks len) 3)) := hA4
  have HK4 : Hid (Kp b w w4) := (HK3.out.alloc _).trans hK4
  have HZ4 : Hid (Seven w4 w.heap.size (.int .i64 0) (.slice none 0 0) (.int .i64 0) (.int .i64 0) (.int .i64 0) (.int .i64 0) (.int .i64 0)) := (HZ3.out.alloc hz3 _).kp hK4 hb (by rw [asize]; omega)
  have HN4 : Hid (Seven w4 w3.heap.size (.int .i64 c0) (.slice cp cn cc) (.int .i64 c2) (.int .i64 c3) (.int .i64 c4) (.int .i64 c5) (.int .i64 c6)) := (Seven.new w3 (.int .i64 c0) (.slice cp cn cc) (.int .i64 c2) (.int .i64 c3) (.int .i64 c4) (.int .i64 c5) (.int .i64 c6) 98).kp hK4 hlt3 (by rw [asize]; omega)
  have hz4 : w.heap.size < w4.heap.size := by have := hK4.size; rw [asize] at this; omega
  have hz5 : w3.heap.size < w4.heap.size := by have := hK4.size; rw [asize] at this; omega
  have HS45 : Hid (Same (fun g => w.heap.size < g) w3 w4) := (same_alloc _ _ _).trans (hK4.same (fun h => by omega))
  clear hA4 hK4
  go_wp2_with fail
  refine (leave_c b tb cap _ _ HA4.out).mono ?_
  rintro e w5 ⟨rfl, hA5, hK5⟩
  have HA5 : Hid (At w5 b tb cap (T3 toks len) (σ3.exp (T3 toks len) 3).lv) := hA5
  have HK5 : Hid (Kp b w w5) := HK4.out.trans hK5
  have HZN : Hid (Seven w5 w.heap.size (.int .i64 0) (.slice none 0 0) (.int .i64 0) (.int .i64 0) (.int .i64 0) (.int .i64 0) (.int .i64 0)) := HZ4.out.kp hK5 hb hz4
  obtain ⟨⟨a0, a1, a2, a3, a4, a5, a6⟩, _⟩ := HN4.out.kp hK5 hlt3 hz5
  have HR5 : Hid (σ3.e = 0 → FR toks .form (σ.pos + 1) (fun g => w.heap.size < g) w5 (.agg #[.int .i64 c0, .slice cp cn cc, .int .i64 c2, .int .i64 c3, .int .i64 c4, .int .i64 c5, .int .i64 c6]) σ3) := fun he => (HR3.out he).same (HS45.out.trans (hK5.same (fun h => by omega))) (fun g h1 h2 => h1)
  clear hA5 hK5
  obtain ⟨⟨z0, z1, z2, z3, z4, z5, z6⟩, hzf⟩ := HZN.out
  have hf0 := hzf 0
  have hf1 := hzf 1
  have hf2 := hzf 2
  have hf3 := hzf 3
  have hf4 := hzf 4
  have hf5 := hzf 5
  have hf6 := hzf 6
  clear hzf
  go_wp2_with fail
  exact post7 Tryz.results224 rfl HZN.out.some ⟨_, (σ3.exp (T3 toks len) 3).lv, rfl, ⟨_, _, _, _, _, _, _, _, _, rfl⟩, HA5.out.w7 _ _ _ _ _ _ _ _ hb htb, goes_lv HO.out HE.out.2 (fun _ => HEE.out) (HG3.out.trans (goes_exp hk HG3.out.1 3)), HK5.out.w7 _ _ _ _ _ _ _ _ (Nat.le_refl _), fun st => by rw [HS0.out st, HS3.out, fin_shut hk HG3.out.1 (c := [41]) (k := 3) (by decide) (by decide) (by decide)], fun he => by
    obtain ⟨_, q2, q3⟩ := exp_ok (len := len) hk he
    exact (FR.par (HR5.out q2) ((lit_at (len := len) hk HO.out.1 (c := [40]) (n := 2) (by decide)).1 HKE.out) (q3 (by decide))).w7 _ _ _ _ _ _ _⟩


set_option maxRecDepth 100000 in
set_option maxHeartbeats 1000000 in
theorem factor_true (hk : AllTok toks) (hn : toks.length ≤ 300) (b tb cap r : Nat) (IH1 : ∀ r', r' < r → FacC toks len b tb cap r') (IH2 : ∀ r', r' < r → ForC toks len b tb cap r') (w : World) (σ : PSt) (h : At w b tb cap (T3 toks len) σ) (ho : Ok toks.length σ) (hr : toks.length - σ.pos ≤ r) (k1 : kd (T3 toks len) σ.pos = 26) :
    Calls Tryz.prog 224 #[.pointer (some ⟨b, 0, none⟩)] w (PPost b tb cap toks len σ w formV (fun σ' => ∀ st, fin toks len σ (cFactor :: st) = fin toks len σ' st) (FR toks .fac σ.pos (fun g => w.heap.size ≤ g))) := by
  have H : Hid (At w b tb cap (T3 toks len) σ) := h
  have HO : Hid (Ok toks.length σ) := ho
  have hb := h.hb
  have htb := h.htb
  have HKE : Hid (kd (T3 toks len) σ.pos = 26) := k1
  have HG : Hid (Goes toks.length σ (σ.adv (T3 toks len))) := goes_adv hk ho
  have HS0 : Hid (∀ st, fin toks len σ (cFactor :: st) = fin toks len (σ.adv (T3 toks len)) st) := fun st => fin_bool hk ho (by omega) st
  clear k1
  clear h ho hr IH1 IH2
  go_enter Tryz.func224, Tryz.ntmps224
  go_wp2_with fail
  refine (peek_c b tb cap _ σ (H.out.alloc _) HO.out).mono ?_
  rw [HKE.out]
  rintro e w1 ⟨rfl, nq, rfl⟩
  have HA1 : Hid (At ((w.alloc (.cells #[.int .i64 0, .slice none 0 0, .int .i64 0, .int .i64 0, .int .i64 0, .int .i64 0, .int .i64 0] 98)).drewN nq) b tb cap (T3 toks len) σ) := (H.out.alloc _).drewN nq
  have HK1 : Hid (Kp b w ((w.alloc (.cells #[.int .i64 0, .slice none 0 0, .int .i64 0, .int .i64 0, .int .i64 0, .int .i64 0, .int .i64 0] 98)).drewN nq)) := ((Kp.refl b w).alloc _).drewN nq
  have HZ1 : Hid (Seven ((w.alloc (.cells #[.int .i64 0, .slice none 0 0, .int .i64 0, .int .i64 0, .int .i64 0, .int .i64 0, .int .i64 0] 98)).drewN nq) w.heap.size (.int .i64 0) (.slice none 0 0) (.int .i64 0) (.int .i64 0) (.int .i64 0) (.int .i64 0) (.int .i64 0)) := (Seven.new w (.int .i64 0) (.slice none 0 0) (.int .i64 0) (.int .i64 0) (.int .i64 0) (.int .i64 0) (.int .i64 0) 98).kp (b := b) ((Kp.refl b _).drewN nq) hb (by simp)
  go_wp2_with fail
  refine (advance_c hn b tb cap _ σ HA1.out HO.out).mono ?_
  rintro e w2 ⟨x2, y2, v2, rfl, hA2, hK2⟩
  have HA2 : Hid (At w2 b tb cap (T3 toks len) (σ.adv (T3 toks len))) := hA2
  have HK2 : Hid (Kp b w w2) := HK1.out.trans hK2
  have HZN : Hid (Seven w2 w.heap.size (.int .i64 0) (.slice none 0 0) (.int .i64 0) (.int .i64 0) (.int .i64 0) (.int .i64 0) (.int .i64 0)) := HZ1.out.kp hK2 hb (by simp)
  clear hA2 hK2
  obtain ⟨⟨z0, z1, z2, z3, z4, z5, z6⟩, hzf⟩ := HZN.out
  have hf0 := hzf 0
  have hf1 := hzf 1
  have hf2 := hzf 2
  have hf3 := hzf 3
  have hf4 := hzf 4
  have hf5 := hzf 5
  have hf6 := hzf 6
  clear hzf
  go_wp2_with fail
  exact post7 Tryz.results224 rfl HZN.out.some ⟨_, _, rfl, ⟨_, _, _, _, _, _, _, _, _, rfl⟩, HA2.out.w7 _ _ _ _ _ _ _ _ hb htb, HG.out, HK2.out.w7 _ _ _ _ _ _ _ _ (Nat.le_refl _), HS0.out, fun he => ⟨.tt, _, rfl, by rw [adv_pos _ _ (by rw [HKE.out]; decide)]; exact .tru ((lit_at (len := len) hk HO.out.1 (c := [116, 114, 117, 101]) (n := 26) (by decide)).1 HKE.out), ⟨_, _, _, _, _, _, _, _, rfl⟩⟩⟩


set_option maxRecDepth 100000 in
set_option maxHeartbeats 1000000 in
theorem factor_false (hk : AllTok toks) (hn : toks.length ≤ 300) (b tb cap r : Nat) (IH1 : ∀ r', r' < r → FacC toks len b tb cap r') (IH2 : ∀ r', r' < r → ForC toks len b tb cap r') (w : World) (σ : PSt) (h : At w b tb cap (T3 toks len) σ) (ho : Ok toks.length σ) (hr : toks.length - σ.pos ≤ r) (k1 : kd (T3 toks len) σ.pos = 27) :
    Calls Tryz.prog 224 #[.pointer (some ⟨b, 0, none⟩)] w (PPost b tb cap toks len σ w formV (fun σ' => ∀ st, fin toks len σ (cFactor :: st) = fin toks len σ' st) (FR toks .fac σ.pos (fun g => w.heap.size ≤ g))) := by
  have H : Hid (At w b tb cap (T3 toks len) σ) := h
  have HO : Hid (Ok toks.length σ) := ho
  have hb := h.hb
  have htb := h.htb
  have HKE : Hid (kd (T3 toks len) σ.pos = 27) := k1
  have HG : Hid (Goes toks.length σ (σ.adv (T3 toks len))) := goes_adv hk ho
  have HS0 : Hid (∀ st, fin toks len σ (cFactor :: st) = fin toks len (σ.adv (T3 toks len)) st) := fun st => fin_bool hk ho (by omega) st
  clear k1
  clear h ho hr IH1 IH2
  go_enter Tryz.func224, Tryz.ntmps224
  go_wp2_with fail
  refine (peek_c b tb cap _ σ (H.out.alloc _) HO.out).mono ?_
  rw [HKE.out]
  rintro e w1 ⟨rfl, nq, rfl⟩
  have HA1 : Hid (At ((w.alloc (.cells #[.int .i64 0, .slice none 0 0, .int .i64 0, .int .i64 0, .int .i64 0, .int .i64 0, .int .i64 0] 98)).drewN nq) b tb cap (T3 toks len) σ) := (H.out.alloc _).drewN nq
  have HK1 : Hid (Kp b w ((w.alloc (.cells #[.int .i64 0, .slice none 0 0, .int .i64 0, .int .i64 0, .int .i64 0, .int .i64 0, .int .i64 0] 98)).drewN nq)) := ((Kp.refl b w).alloc _).drewN nq
  have HZ1 : Hid (Seven ((w.alloc (.cells #[.int .i64 0, .slice none 0 0, .int .i64 0, .int .i64 0, .int .i64 0, .int .i64 0, .int .i64 0] 98)).drewN nq) w.heap.size (.int .i64 0) (.slice none 0 0) (.int .i64 0) (.int .i64 0) (.int .i64 0) (.int .i64 0) (.int .i64 0)) := (Seven.new w (.int .i64 0) (.slice none 0 0) (.int .i64 0) (.int .i64 0) (.int .i64 0) (.int .i64 0) (.int .i64 0) 98).kp (b := b) ((Kp.refl b _).drewN nq) hb (by simp)
  go_wp2_with fail
  refine (advance_c hn b tb cap _ σ HA1.out HO.out).mono ?_
  rintro e w2 ⟨x2, y2, v2, rfl, hA2, hK2⟩
  have HA2 : Hid (At w2 b tb cap (T3 toks len) (σ.adv (T3 toks len))) := hA2
  have HK2 : Hid (Kp b w w2) := HK1.out.trans hK2
  have HZN : Hid (Seven w2 w.heap.size (.int .i64 0) (.slice none 0 0) (.int .i64 0) (.int .i64 0) (.int .i64 0) (.int .i64 0) (.int .i64 0)) := HZ1.out.kp hK2 hb (by simp)
  clear hA2 hK2
  obtain ⟨⟨z0, z1, z2, z3, z4, z5, z6⟩, hzf⟩ := HZN.out
  have hf0 := hzf 0
  have hf1 := hzf 1
  have hf2 := hzf 2
  have hf3 := hzf 3
  have hf4 := hzf 4
  have hf5 := hzf 5
  have hf6 := hzf 6
  clear hzf
  go_wp2_with fail
  exact post7 Tryz.results224 rfl HZN.out.some ⟨_, _, rfl, ⟨_, _, _, _, _, _, _, _, _, rfl⟩, HA2.out.w7 _ _ _ _ _ _ _ _ hb htb, HG.out, HK2.out.w7 _ _ _ _ _ _ _ _ (Nat.le_refl _), HS0.out, fun he => ⟨.ff, _, rfl, by rw [adv_pos _ _ (by rw [HKE.out]; decide)]; exact .fls ((lit_at (len := len) hk HO.out.1 (c := [102, 97, 108, 115, 101]) (n := 27) (by decide)).1 HKE.out), ⟨_, _, _, _, _, _, _, _, rfl⟩⟩⟩


set_option maxRecDepth 100000 in
set_option maxHeartbeats 1000000 in
theorem factor_cmp (hk : AllTok toks) (hn : toks.length ≤ 300) (b tb cap r : Nat) (IH1 : ∀ r', r' < r → FacC toks len b tb cap r') (IH2 : ∀ r', r' < r → ForC toks len b tb cap r') (w : World) (σ : PSt) (h : At w b tb cap (T3 toks len) σ) (ho : Ok toks.length σ) (hr : toks.length - σ.pos ≤ r) (k1 : kd (T3 toks len) σ.pos ≠ 25) (k2 : kd (T3 toks len) σ.pos ≠ 2) (k3 : kd (T3 toks len) σ.pos ≠ 26) (k4 : kd (T3 toks len) σ.pos ≠ 27) :
    Calls Tryz.prog 224 #[.pointer (some ⟨b, 0, none⟩)] w (PPost b tb cap toks len σ w formV (fun σ' => ∀ st, fin toks len σ (cFactor :: st) = fin toks len σ' st) (FR toks .fac σ.pos (fun g => w.heap.size ≤ g))) := by
  have H : Hid (At w b tb cap (T3 toks len) σ) := h
  have HO : Hid (Ok toks.length σ) := ho
  have hb := h.hb
  have htb := h.htb
  obtain ⟨K, hKe⟩ : ∃ K, kd (T3 toks len) σ.pos = K := ⟨_, rfl⟩
  have HKE : Hid (kd (T3 toks len) σ.pos = K) := hKe
  have HS0 : Hid (∀ st, fin toks len σ (cFactor :: st) = fin toks len σ (cTerm :: cRelation :: cTerm :: st)) := fun st => fin_compare hk ho k1 k2 k3 k4 st
  have b1 : (K == 25) = false := by rw [beq_eq_false_iff_ne, ← hKe]; exact k1
  have b2 : (K == 2) = false := by rw [beq_eq_false_iff_ne, ← hKe]; exact k2
  have b3 : (K == 26) = false := by rw [beq_eq_false_iff_ne, ← hKe]; exact k3
  have b4 : (K == 27) = false := by rw [beq_eq_false_iff_ne, ← hKe]; exact k4
  have HNE : Hid (sAt toks σ.pos ≠ [116, 114, 117, 101] ∧ sAt toks σ.pos ≠ [102, 97, 108, 115, 101] ∧ sAt toks σ.pos ≠ [110, 111, 116] ∧ sAt toks σ.pos ≠ [40]) := ⟨fun e => k3 ((lit_at (len := len) hk ho.1 (c := [116, 114, 117, 101]) (n := 26) (by decide)).2 e), fun e => k4 ((lit_at (len := len) hk ho.1 (c := [102, 97, 108, 115, 101]) (n := 27) (by decide)).2 e), fun e => k1 ((lit_at (len := len) hk ho.1 (c := [110, 111, 116]) (n := 25) (by decide)).2 e), fun e => k2 ((lit_at (len := len) hk ho.1 (c := [40]) (n := 2) (by decide)).2 e)⟩
  clear hKe k1 k2 k3 k4
  clear h ho hr IH1 IH2
  go_enter Tryz.func224, Tryz.ntmps224
  go_wp2_with fail
  refine (peek_c b tb cap _ σ (H.out.alloc _) HO.out).mono ?_
  rw [HKE.out]
  rintro e w1 ⟨rfl, nq, rfl⟩
  have HA1 : Hid (At ((w.alloc (.cells #[.int .i64 0, .slice none 0 0, .int .i64 0, .int .i64 0, .int .i64 0, .int .i64 0, .int .i64 0] 98)).drewN nq) b tb cap (T3 toks len) σ) := (H.out.alloc _).drewN nq
  have HK1 : Hid (Kp b w ((w.alloc (.cells #[.int .i64 0, .slice none 0 0, .int .i64 0, .int .i64 0, .int .i64 0, .int .i64 0, .int .i64 0] 98)).drewN nq)) := ((Kp.refl b w).alloc _).drewN nq
  have HZ1 : Hid (Seven ((w.alloc (.cells #[.int .i64 0, .slice none 0 0, .int .i64 0, .int .i64 0, .int .i64 0, .int .i64 0, .int .i64 0] 98)).drewN nq) w.heap.size (.int .i64 0) (.slice none 0 0) (.int .i64 0) (.int .i64 0) (.int .i64 0) (.int .i64 0) (.int .i64 0)) := (Seven.new w (.int .i64 0) (.slice none 0 0) (.int .i64 0) (.int .i64 0) (.int .i64 0) (.int .i64 0) (.int .i64 0) 98).kp (b := b) ((Kp.refl b _).drewN nq) hb (by simp)
  go_wp2_with fail
  refine (comparison_c hk hn b tb cap _ σ HA1.out HO.out).mono ?_
  rintro e w2 ⟨v2, σ2, rfl, ⟨c0, cp, cn, cc, c2, c3, c4, c5, c6, rfl⟩, hA2, hG2, hK2, hS2, hR2⟩
  have HR2 : Hid _ := hR2
  clear hR2
  have HA2 : Hid (At w2 b tb cap (T3 toks len) σ2) := hA2
  have HG2 : Hid (Goes toks.length σ σ2) := hG2
  have HS2 : Hid (∀ st, fin toks len σ (cTerm :: cRelation :: cTerm :: st) = fin toks len σ2 st) := hS2
  have HK2 : Hid (Kp b w w2) := HK1.out.trans hK2
  have HZN : Hid (Seven w2 w.heap.size (.int .i64 0) (.slice none 0 0) (.int .i64 0) (.int .i64 0) (.int .i64 0) (.int .i64 0) (.int .i64 0)) := HZ1.out.kp hK2 hb (by simp)
  clear hA2 hK2 hG2 hS2
  obtain ⟨⟨z0, z1, z2, z3, z4, z5, z6⟩, hzf⟩ := HZN.out
  have hf0 := hzf 0
  have hf1 := hzf 1
  have hf2 := hzf 2
  have hf3 := hzf 3
  have hf4 := hzf 4
  have hf5 := hzf 5
  have hf6 := hzf 6
  clear hzf
  go_wp2_with fail
  exact post7 Tryz.results224 rfl HZN.out.some ⟨_, _, rfl, ⟨_, _, _, _, _, _, _, _, _, rfl⟩, HA2.out.w7 _ _ _ _ _ _ _ _ hb htb, HG2.out, HK2.out.w7 _ _ _ _ _ _ _ _ (Nat.le_refl _), fun st => (HS0.out st).trans (HS2.out st), fun he => by
    obtain ⟨p, n, c, e1, e2⟩ := HR2.out he
    exact ⟨.cmp (rel (sAt toks (trm toks σ.pos).2.2)) ((trm toks σ.pos).1, (trm toks σ.pos).2.1) ((trm toks ((trm toks σ.pos).2.2 + 1)).1, (trm toks ((trm toks σ.pos).2.2 + 1)).2.1), _, e1, by rw [e2]; exact .cmp HNE.out.1 HNE.out.2.1 HNE.out.2.2.1 HNE.out.2.2.2, ⟨p, n, c, rfl⟩⟩⟩


theorem factor_step (hk : AllTok toks) (hn : toks.length ≤ 300) (b tb cap r : Nat) (IH1 : ∀ r', r' < r → FacC toks len b tb cap r') (IH2 : ∀ r', r' < r → ForC toks len b tb cap r') : FacC toks len b tb cap r := by
  intro w σ h ho hr
  by_cases k1 : kd (T3 toks len) σ.pos = 25
  · exact factor_not hk hn b tb cap r IH1 IH2 w σ h ho hr k1
  by_cases k2 : kd (T3 toks len) σ.pos = 2
  · exact factor_open hk hn b tb cap r IH1 IH2 w σ h ho hr k2
  by_cases k3 : kd (T3 toks len) σ.pos = 26
  · exact factor_true hk hn b tb cap r IH1 IH2 w σ h ho hr k3
  by_cases k4 : kd (T3 toks len) σ.pos = 27
  · exact factor_false hk hn b tb cap r IH1 IH2 w σ h ho hr k4
  exact factor_cmp hk hn b tb cap r IH1 IH2 w σ h ho hr k1 k2 k3 k4
theorem exprs (hk : AllTok toks) (hn : toks.length ≤ 300) (b tb cap : Nat) (r : Nat) : FacC toks len b tb cap r ∧ ForC toks len b tb cap r := by
  induction r using Nat.strongRecOn with
  | _ r ih =>
    have hf := factor_step hk hn b tb cap r (fun r' h => (ih r' h).1) (fun r' h => (ih r' h).2)
    exact ⟨hf, formula_c hk hn b tb cap r (part_c hk hn b tb cap r hf)⟩
theorem formula_any (hk : AllTok toks) (hn : toks.length ≤ 300) (b tb cap : Nat) (w : World) (σ : PSt) (h : At w b tb cap (T3 toks len) σ) (ho : Ok toks.length σ) :
    Calls Tryz.prog 109 #[.pointer (some ⟨b, 0, none⟩)] w (PPost b tb cap toks len σ w formV (fun σ' => ∀ st, fin toks len σ (cFormula :: st) = fin toks len σ' st) (FR toks .form σ.pos (fun g => w.heap.size ≤ g))) :=
  (exprs hk hn b tb cap (toks.length - σ.pos)).2 w σ h ho (Nat.le_refl _)

end Go.Proofs.YtkinoehmcfhgbaaGreatDoor.Av
