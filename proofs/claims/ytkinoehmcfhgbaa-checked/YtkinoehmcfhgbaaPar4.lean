/-
  The walks of the parser's methods factor, part, formula, by one induction over what is left of the tokens.
-/
import Derived.Test.YtkinoehmcfhgbaaPar3
set_option linter.unusedVariables false
set_option linter.unusedSimpArgs false
namespace Go.Proofs.Ytkinoehmcfhgbaa.Av
open Go.RowKit

variable {toks : List (List UInt8 × Nat)} {len : Nat}

theorem post7a {fn : Func} {R : Ending → World → Prop} {tmps : Array Value} {X : World} {o : Obj} {B k : Nat} {c0 c1 c2 c3 c4 c5 c6 o0 o1 o2 o3 o4 o5 o6 : Value} (hf : fn.results = #[.cell k 47]) (ht : tmps.getD k undef = .pointer (some ⟨B, 0, none⟩)) (hx : Seven X B o0 o1 o2 o3 o4 o5 o6) (hB : B < X.heap.size)
    (hR : R (.returned (.agg #[c0, c1, c2, c3, c4, c5, c6])) ((((((((X.setCell ⟨B, 0, none⟩ c0).setCell ⟨B, 1, none⟩ c1).setCell ⟨B, 2, none⟩ c2).setCell ⟨B, 3, none⟩ c3).setCell ⟨B, 4, none⟩ c4).setCell ⟨B, 5, none⟩ c5).setCell ⟨B, 6, none⟩ c6).alloc o)) : bodyPost Try.prog fn R .ret ⟨tmps, []⟩ ((((((((X.setCell ⟨B, 0, none⟩ c0).setCell ⟨B, 1, none⟩ c1).setCell ⟨B, 2, none⟩ c2).setCell ⟨B, 3, none⟩ c3).setCell ⟨B, 4, none⟩ c4).setCell ⟨B, 5, none⟩ c5).setCell ⟨B, 6, none⟩ c6).alloc o) := by
  obtain ⟨⟨a0, a1, a2, a3, a4, a5, a6⟩, _⟩ := (hx.put c0 c1 c2 c3 c4 c5 c6).alloc (by rw [ssize, ssize, ssize, ssize, ssize, ssize, ssize]; exact hB) o
  exact bodyPost_ret (results_cell hf ht (load7 _ B c0 c1 c2 c3 c4 c5 c6 a0 a1 a2 a3 a4 a5 a6)) rfl hR

def FacC (toks : List (List UInt8 × Nat)) (len b tb cap r : Nat) : Prop := ∀ (w : World) (σ : PSt), At w b tb cap (T3 toks len) σ → Ok toks.length σ → toks.length - σ.pos ≤ r → Calls Try.prog 79 #[.pointer (some ⟨b, 0, none⟩)] w (PPost b tb cap toks len σ w formV (fun σ' => ∀ st, fin toks len σ (cFactor :: st) = fin toks len σ' st))
def ForC (toks : List (List UInt8 × Nat)) (len b tb cap r : Nat) : Prop := ∀ (w : World) (σ : PSt), At w b tb cap (T3 toks len) σ → Ok toks.length σ → toks.length - σ.pos ≤ r → Calls Try.prog 40 #[.pointer (some ⟨b, 0, none⟩)] w (PPost b tb cap toks len σ w formV (fun σ' => ∀ st, fin toks len σ (cFormula :: st) = fin toks len σ' st))
def PartC (toks : List (List UInt8 × Nat)) (len b tb cap r : Nat) : Prop := ∀ (w : World) (σ : PSt), At w b tb cap (T3 toks len) σ → Ok toks.length σ → toks.length - σ.pos ≤ r → Calls Try.prog 62 #[.pointer (some ⟨b, 0, none⟩)] w (PPost b tb cap toks len σ w formV (Link toks len 24 σ))

theorem kd_nonneg (hk : AllTok toks) {σ : PSt} (ho : Ok toks.length σ) : 0 ≤ kd (T3 toks len) σ.pos := by
  rcases look (len := len) hk σ ho.1 with ⟨t, i, _, g1, g2, _, _⟩ | ⟨_, g2, _, _⟩
  · rw [g2]; have := tk_pos t g1; omega
  · omega

set_option maxRecDepth 100000 in
set_option maxHeartbeats 1000000 in
theorem part_c (hk : AllTok toks) (hn : toks.length ≤ 300) (b tb cap r : Nat) (HF : FacC toks len b tb cap r) : PartC toks len b tb cap r := by
  intro w σ h ho hr
  have HC : Hid (∀ (w : World) (σ : PSt), At w b tb cap (T3 toks len) σ → Ok toks.length σ → toks.length - σ.pos ≤ r → Calls Try.prog 61 #[.pointer (some ⟨b, 0, none⟩), .int .i64 24, .int .i64 4, .func (.func 79) #[.pointer (some ⟨b, 0, none⟩)] #[]] w (PPost b tb cap toks len σ w formV (fun σ' => Link toks len (-1) σ σ' ∧ kd (T3 toks len) σ'.pos ≠ 24))) := fun w σ h1 h2 h3 =>
    chain_and hk hn b tb cap r (-1) (fun w σ h1 h2 h3 => (HF w σ h1 h2 h3).mono (fun e w' ⟨v, σ', g1, g2, g3, g4, g5, g6⟩ => ⟨v, σ', g1, g2, g3, g4, g5, fun st => by rw [fin_formula, g6], by have := kd_nonneg (len := len) hk g4.1; omega⟩)) w σ h1 h2 h3
  have H : Hid (At w b tb cap (T3 toks len) σ) := h
  have HO : Hid (Ok toks.length σ) := ho
  have HR : Hid (toks.length - σ.pos ≤ r) := hr
  have hb := h.hb
  have htb := h.htb
  clear h ho hr HF
  go_enter Try.func62, Try.ntmps62
  go_wp2_with fail
  refine (HC.out _ σ (H.out.alloc _) HO.out HR.out).mono ?_
  rintro e w1 ⟨v1, σ1, rfl, ⟨c0, cp, cn, cc, c2, c3, c4, c5, c6, rfl⟩, hA1, hG1, hK1, hS1⟩
  have h0 := (Seven.new w (.int .i64 0) (.slice none 0 0) (.int .i64 0) (.int .i64 0) (.int .i64 0) (.int .i64 0) (.int .i64 0) 47).kp hK1 hb (by simp)
  have HZ : Hid (Seven w1 w.heap.size (.int .i64 0) (.slice none 0 0) (.int .i64 0) (.int .i64 0) (.int .i64 0) (.int .i64 0) (.int .i64 0)) := h0
  obtain ⟨⟨z0, z1, z2, z3, z4, z5, z6⟩, hzf⟩ := h0
  have hf0 := hzf 0
  have hf1 := hzf 1
  have hf2 := hzf 2
  have hf3 := hzf 3
  have hf4 := hzf 4
  have hf5 := hzf 5
  have hf6 := hzf 6
  have HS1 : Hid (Link toks len (-1) σ σ1 ∧ kd (T3 toks len) σ1.pos ≠ 24) := hS1
  clear hzf hS1
  go_wp2_with fail
  exact post7 Try.results62 rfl HZ.out.some ⟨_, σ1, rfl, ⟨_, _, _, _, _, _, _, _, _, rfl⟩, hA1.w7 _ _ _ _ _ _ _ _ hb htb, hG1, (((Kp.refl b w).alloc _).trans hK1).w7 _ _ _ _ _ _ _ _ (Nat.le_refl _), HS1.out.1.1, HS1.out.2⟩

set_option maxRecDepth 100000 in
set_option maxHeartbeats 1000000 in
theorem formula_c (hk : AllTok toks) (hn : toks.length ≤ 300) (b tb cap r : Nat) (HF : PartC toks len b tb cap r) : ForC toks len b tb cap r := by
  intro w σ h ho hr
  have HC : Hid (∀ (w : World) (σ : PSt), At w b tb cap (T3 toks len) σ → Ok toks.length σ → toks.length - σ.pos ≤ r → Calls Try.prog 61 #[.pointer (some ⟨b, 0, none⟩), .int .i64 23, .int .i64 5, .func (.func 62) #[.pointer (some ⟨b, 0, none⟩)] #[]] w (PPost b tb cap toks len σ w formV (fun σ' => Link toks len 24 σ σ' ∧ kd (T3 toks len) σ'.pos ≠ 23))) := fun w σ h1 h2 h3 => chain_or hk hn b tb cap r 24 HF w σ h1 h2 h3
  have H : Hid (At w b tb cap (T3 toks len) σ) := h
  have HO : Hid (Ok toks.length σ) := ho
  have HR : Hid (toks.length - σ.pos ≤ r) := hr
  have hb := h.hb
  have htb := h.htb
  clear h ho hr HF
  go_enter Try.func40, Try.ntmps40
  go_wp2_with fail
  refine (HC.out _ σ (H.out.alloc _) HO.out HR.out).mono ?_
  rintro e w1 ⟨v1, σ1, rfl, ⟨c0, cp, cn, cc, c2, c3, c4, c5, c6, rfl⟩, hA1, hG1, hK1, hS1⟩
  have h0 := (Seven.new w (.int .i64 0) (.slice none 0 0) (.int .i64 0) (.int .i64 0) (.int .i64 0) (.int .i64 0) (.int .i64 0) 47).kp hK1 hb (by simp)
  have HZ : Hid (Seven w1 w.heap.size (.int .i64 0) (.slice none 0 0) (.int .i64 0) (.int .i64 0) (.int .i64 0) (.int .i64 0) (.int .i64 0)) := h0
  obtain ⟨⟨z0, z1, z2, z3, z4, z5, z6⟩, hzf⟩ := h0
  have hf0 := hzf 0
  have hf1 := hzf 1
  have hf2 := hzf 2
  have hf3 := hzf 3
  have hf4 := hzf 4
  have hf5 := hzf 5
  have hf6 := hzf 6
  have HS1 : Hid (Link toks len 24 σ σ1 ∧ kd (T3 toks len) σ1.pos ≠ 23) := hS1
  clear hzf hS1
  go_wp2_with fail
  exact post7 Try.results40 rfl HZ.out.some ⟨_, σ1, rfl, ⟨_, _, _, _, _, _, _, _, _, rfl⟩, hA1.w7 _ _ _ _ _ _ _ _ hb htb, hG1, (((Kp.refl b w).alloc _).trans hK1).w7 _ _ _ _ _ _ _ _ (Nat.le_refl _), fun st => by rw [HS1.out.1.1 st, fin_popF hk hG1.1.1 HS1.out.2 HS1.out.1.2]⟩

set_option maxRecDepth 100000 in
set_option maxHeartbeats 1000000 in
theorem factor_not (hk : AllTok toks) (hn : toks.length ≤ 300) (b tb cap r : Nat) (IH1 : ∀ r', r' < r → FacC toks len b tb cap r') (IH2 : ∀ r', r' < r → ForC toks len b tb cap r') (w : World) (σ : PSt) (h : At w b tb cap (T3 toks len) σ) (ho : Ok toks.length σ) (hr : toks.length - σ.pos ≤ r) (k1 : kd (T3 toks len) σ.pos = 25) :
    Calls Try.prog 79 #[.pointer (some ⟨b, 0, none⟩)] w (PPost b tb cap toks len σ w formV (fun σ' => ∀ st, fin toks len σ (cFactor :: st) = fin toks len σ' st)) := by
  have H : Hid (At w b tb cap (T3 toks len) σ) := h
  have HO : Hid (Ok toks.length σ) := ho
  have hb := h.hb
  have htb := h.htb
  have hkd : kd (T3 toks len) σ.pos ≠ 0 := by omega
  have g1 := goes_ent (len := len) hk ho hkd
  have he := (kd_lt (len := len) hk ho hkd).2
  have HKE : Hid (kd (T3 toks len) σ.pos = 25) := k1
  have HKD : Hid (kd (T3 toks len) σ.pos ≠ 0) := hkd
  have HE : Hid (Ok toks.length (σ.ent (T3 toks len)) ∧ σ.pos < (σ.ent (T3 toks len)).pos ∧ ((σ.ent (T3 toks len)).e = 0 → (σ.ent (T3 toks len)).d = σ.d + 1)) := g1
  have HEE : Hid (σ.e = 0) := he
  have hrr : toks.length - (σ.ent (T3 toks len)).pos < r := by have := g1.2.1; have := (kd_lt (len := len) hk ho hkd).1; omega
  have HI : Hid (FacC toks len b tb cap (toks.length - (σ.ent (T3 toks len)).pos)) := IH1 _ hrr
  have HS0 : Hid (∀ st, fin toks len σ (cFactor :: st) = fin toks len (σ.ent (T3 toks len)) (cFactor :: cNotEnds :: st)) := fun st => fin_not hk ho k1 st
  clear hkd g1 he hrr k1
  clear h ho hr IH1 IH2
  go_enter Try.func79, Try.ntmps79
  go_wp2_with fail
  refine (peek_c b tb cap _ σ (H.out.alloc _) HO.out).mono ?_
  rw [HKE.out]
  rintro e w1 ⟨rfl, nq, rfl⟩
  have HA1 : Hid (At ((w.alloc (.cells #[.int .i64 0, .slice none 0 0, .int .i64 0, .int .i64 0, .int .i64 0, .int .i64 0, .int .i64 0] 47)).drewN nq) b tb cap (T3 toks len) σ) := (H.out.alloc _).drewN nq
  have HK1 : Hid (Kp b w ((w.alloc (.cells #[.int .i64 0, .slice none 0 0, .int .i64 0, .int .i64 0, .int .i64 0, .int .i64 0, .int .i64 0] 47)).drewN nq)) := ((Kp.refl b w).alloc _).drewN nq
  have HZ1 : Hid (Seven ((w.alloc (.cells #[.int .i64 0, .slice none 0 0, .int .i64 0, .int .i64 0, .int .i64 0, .int .i64 0, .int .i64 0] 47)).drewN nq) w.heap.size (.int .i64 0) (.slice none 0 0) (.int .i64 0) (.int .i64 0) (.int .i64 0) (.int .i64 0) (.int .i64 0)) := (Seven.new w (.int .i64 0) (.slice none 0 0) (.int .i64 0) (.int .i64 0) (.int .i64 0) (.int .i64 0) (.int .i64 0) 47).kp (b := b) ((Kp.refl b _).drewN nq) hb (by simp)
  go_wp2_with fail
  refine (enter_c hk hn b tb cap _ σ HA1.out HO.out HKD.out).mono ?_
  rintro e w2 ⟨rfl, hA2, hK2⟩
  have HA2 : Hid (At w2 b tb cap (T3 toks len) (σ.ent (T3 toks len))) := hA2
  have HK2 : Hid (Kp b w w2) := HK1.out.trans hK2
  have HZ2 : Hid (Seven w2 w.heap.size (.int .i64 0) (.slice none 0 0) (.int .i64 0) (.int .i64 0) (.int .i64 0) (.int .i64 0) (.int .i64 0)) := HZ1.out.kp hK2 hb (by simp)
  have hz2 : w.heap.size < w2.heap.size := by have := hK2.size; simp at this; omega
  clear hA2 hK2
  go_wp2_with fail
  refine (HI.out _ _ HA2.out HE.out.1 (Nat.le_refl _)).mono ?_
  rintro e w3 ⟨v3, σ3, rfl, ⟨c0, cp, cn, cc, c2, c3, c4, c5, c6, rfl⟩, hA3, hG3, hK3, hS3⟩
  have HA3 : Hid (At w3 b tb cap (T3 toks len) σ3) := hA3
  have HG3 : Hid (Goes toks.length (σ.ent (T3 toks len)) σ3) := hG3
  have HK3 : Hid (Kp b w w3) := HK2.out.trans hK3
  have HZ3 : Hid (Seven w3 w.heap.size (.int .i64 0) (.slice none 0 0) (.int .i64 0) (.int .i64 0) (.int .i64 0) (.int .i64 0) (.int .i64 0)) := HZ2.out.kp hK3 hb hz2
  have HS3 : Hid (∀ st, fin toks len (σ.ent (T3 toks len)) (cFactor :: st) = fin toks len σ3 st) := hS3
  have hz3 : w.heap.size < w3.heap.size := by have := hK3.size; omega
  have hlt3 : b < w3.heap.size := by omega
  clear hA3 hG3 hK3 hS3
  go_wp2_with fail
  refine (leave_c b tb cap _ σ3 (HA3.out.alloc _)).mono ?_
  rintro e w4 ⟨rfl, hA4, hK4⟩
  have HA4 : Hid (At w4 b tb cap (T3 toks len) σ3.lv) := hA4
  have HK4 : Hid (Kp b w w4) := (HK3.out.alloc _).trans hK4
  have HZN : Hid (Seven w4 w.heap.size (.int .i64 0) (.slice none 0 0) (.int .i64 0) (.int .i64 0) (.int .i64 0) (.int .i64 0) (.int .i64 0)) := (HZ3.out.alloc hz3 _).kp hK4 hb (by rw [asize]; omega)
  obtain ⟨⟨a0, a1, a2, a3, a4, a5, a6⟩, _⟩ := (Seven.new w3 (.int .i64 c0) (.slice cp cn cc) (.int .i64 c2) (.int .i64 c3) (.int .i64 c4) (.int .i64 c5) (.int .i64 c6) 47).kp hK4 hlt3 (by rw [asize]; omega)
  have hz4 : w.heap.size < w4.heap.size := by have := hK4.size; rw [asize] at this; omega
  have hz5 : w3.heap.size < w4.heap.size := by have := hK4.size; rw [asize] at this; omega
  clear hA4 hK4
  obtain ⟨⟨z0, z1, z2, z3, z4, z5, z6⟩, hzf⟩ := HZN.out
  have hf0 := hzf 0
  have hf1 := hzf 1
  have hf2 := hzf 2
  have hf3 := hzf 3
  have hf4 := hzf 4
  have hf5 := hzf 5
  have hf6 := hzf 6
  clear hzf
  go_wp2_with fail
  exact post7a Try.results79 rfl HZN.out hz4 ⟨_, σ3.lv, rfl, ⟨_, _, _, _, _, _, _, _, _, rfl⟩, (HA4.out.w7 _ _ _ _ _ _ _ _ hb htb).alloc _, goes_lv HO.out HE.out.2 (fun _ => HEE.out) HG3.out, (HK4.out.w7 _ _ _ _ _ _ _ _ (Nat.le_refl _)).alloc _, fun st => by rw [HS0.out st, HS3.out, fin_notEnds HG3.out.1]⟩


set_option maxRecDepth 100000 in
set_option maxHeartbeats 1000000 in
theorem factor_open (hk : AllTok toks) (hn : toks.length ≤ 300) (b tb cap r : Nat) (IH1 : ∀ r', r' < r → FacC toks len b tb cap r') (IH2 : ∀ r', r' < r → ForC toks len b tb cap r') (w : World) (σ : PSt) (h : At w b tb cap (T3 toks len) σ) (ho : Ok toks.length σ) (hr : toks.length - σ.pos ≤ r) (k1 : kd (T3 toks len) σ.pos = 2) :
    Calls Try.prog 79 #[.pointer (some ⟨b, 0, none⟩)] w (PPost b tb cap toks len σ w formV (fun σ' => ∀ st, fin toks len σ (cFactor :: st) = fin toks len σ' st)) := by
  have H : Hid (At w b tb cap (T3 toks len) σ) := h
  have HO : Hid (Ok toks.length σ) := ho
  have hb := h.hb
  have htb := h.htb
  have hkd : kd (T3 toks len) σ.pos ≠ 0 := by omega
  have g1 := goes_ent (len := len) hk ho hkd
  have he := (kd_lt (len := len) hk ho hkd).2
  have HKE : Hid (kd (T3 toks len) σ.pos = 2) := k1
  have HKD : Hid (kd (T3 toks len) σ.pos ≠ 0) := hkd
  have HE : Hid (Ok toks.length (σ.ent (T3 toks len)) ∧ σ.pos < (σ.ent (T3 toks len)).pos ∧ ((σ.ent (T3 toks len)).e = 0 → (σ.ent (T3 toks len)).d = σ.d + 1)) := g1
  have HEE : Hid (σ.e = 0) := he
  have hrr : toks.length - (σ.ent (T3 toks len)).pos < r := by have := g1.2.1; have := (kd_lt (len := len) hk ho hkd).1; omega
  have HI : Hid (ForC toks len b tb cap (toks.length - (σ.ent (T3 toks len)).pos)) := IH2 _ hrr
  have HS0 : Hid (∀ st, fin toks len σ (cFactor :: st) = fin toks len (σ.ent (T3 toks len)) (cFormula :: [41] :: st)) := fun st => fin_open hk ho k1 st
  clear hkd g1 he hrr k1
  clear h ho hr IH1 IH2
  go_enter Try.func79, Try.ntmps79
  go_wp2_with fail
  refine (peek_c b tb cap _ σ (H.out.alloc _) HO.out).mono ?_
  rw [HKE.out]
  rintro e w1 ⟨rfl, nq, rfl⟩
  have HA1 : Hid (At ((w.alloc (.cells #[.int .i64 0, .slice none 0 0, .int .i64 0, .int .i64 0, .int .i64 0, .int .i64 0, .int .i64 0] 47)).drewN nq) b tb cap (T3 toks len) σ) := (H.out.alloc _).drewN nq
  have HK1 : Hid (Kp b w ((w.alloc (.cells #[.int .i64 0, .slice none 0 0, .int .i64 0, .int .i64 0, .int .i64 0, .int .i64 0, .int .i64 0] 47)).drewN nq)) := ((Kp.refl b w).alloc _).drewN nq
  have HZ1 : Hid (Seven ((w.alloc (.cells #[.int .i64 0, .slice none 0 0, .int .i64 0, .int .i64 0, .int .i64 0, .int .i64 0, .int .i64 0] 47)).drewN nq) w.heap.size (.int .i64 0) (.slice none 0 0) (.int .i64 0) (.int .i64 0) (.int .i64 0) (.int .i64 0) (.int .i64 0)) := (Seven.new w (.int .i64 0) (.slice none 0 0) (.int .i64 0) (.int .i64 0) (.int .i64 0) (.int .i64 0) (.int .i64 0) 47).kp (b := b) ((Kp.refl b _).drewN nq) hb (by simp)
  go_wp2_with fail
  refine (enter_c hk hn b tb cap _ σ HA1.out HO.out HKD.out).mono ?_
  rintro e w2 ⟨rfl, hA2, hK2⟩
  have HA2 : Hid (At w2 b tb cap (T3 toks len) (σ.ent (T3 toks len))) := hA2
  have HK2 : Hid (Kp b w w2) := HK1.out.trans hK2
  have HZ2 : Hid (Seven w2 w.heap.size (.int .i64 0) (.slice none 0 0) (.int .i64 0) (.int .i64 0) (.int .i64 0) (.int .i64 0) (.int .i64 0)) := HZ1.out.kp hK2 hb (by simp)
  have hz2 : w.heap.size < w2.heap.size := by have := hK2.size; simp at this; omega
  clear hA2 hK2
  go_wp2_with fail
  refine (HI.out _ _ HA2.out HE.out.1 (Nat.le_refl _)).mono ?_
  rintro e w3 ⟨v3, σ3, rfl, ⟨c0, cp, cn, cc, c2, c3, c4, c5, c6, rfl⟩, hA3, hG3, hK3, hS3⟩
  have HA3 : Hid (At w3 b tb cap (T3 toks len) σ3) := hA3
  have HG3 : Hid (Goes toks.length (σ.ent (T3 toks len)) σ3) := hG3
  have HK3 : Hid (Kp b w w3) := HK2.out.trans hK3
  have HZ3 : Hid (Seven w3 w.heap.size (.int .i64 0) (.slice none 0 0) (.int .i64 0) (.int .i64 0) (.int .i64 0) (.int .i64 0) (.int .i64 0)) := HZ2.out.kp hK3 hb hz2
  have HS3 : Hid (∀ st, fin toks len (σ.ent (T3 toks len)) (cFormula :: st) = fin toks len σ3 st) := hS3
  have hz3 : w.heap.size < w3.heap.size := by have := hK3.size; omega
  have hlt3 : b < w3.heap.size := by omega
  clear hA3 hG3 hK3 hS3
  go_wp2_with fail
  refine (expect_c hn b tb cap 3 _ σ3 (HA3.out.alloc _) HG3.out.1).mono ?_
  rintro e w4 ⟨x4, rfl, hA4, hK4⟩
  have HA4 : Hid (At w4 b tb cap (T3 toks len) (σ3.exp (T3 toks len) 3)) := hA4
  have HK4 : Hid (Kp b w w4) := (HK3.out.alloc _).trans hK4
  have HZ4 : Hid (Seven w4 w.heap.size (.int .i64 0) (.slice none 0 0) (.int .i64 0) (.int .i64 0) (.int .i64 0) (.int .i64 0) (.int .i64 0)) := (HZ3.out.alloc hz3 _).kp hK4 hb (by rw [asize]; omega)
  have HN4 : Hid (Seven w4 w3.heap.size (.int .i64 c0) (.slice cp cn cc) (.int .i64 c2) (.int .i64 c3) (.int .i64 c4) (.int .i64 c5) (.int .i64 c6)) := (Seven.new w3 (.int .i64 c0) (.slice cp cn cc) (.int .i64 c2) (.int .i64 c3) (.int .i64 c4) (.int .i64 c5) (.int .i64 c6) 47).kp hK4 hlt3 (by rw [asize]; omega)
  have hz4 : w.heap.size < w4.heap.size := by have := hK4.size; rw [asize] at this; omega
  have hz5 : w3.heap.size < w4.heap.size := by have := hK4.size; rw [asize] at this; omega
  clear hA4 hK4
  go_wp2_with fail
  refine (leave_c b tb cap _ _ HA4.out).mono ?_
  rintro e w5 ⟨rfl, hA5, hK5⟩
  have HA5 : Hid (At w5 b tb cap (T3 toks len) (σ3.exp (T3 toks len) 3).lv) := hA5
  have HK5 : Hid (Kp b w w5) := HK4.out.trans hK5
  have HZN : Hid (Seven w5 w.heap.size (.int .i64 0) (.slice none 0 0) (.int .i64 0) (.int .i64 0) (.int .i64 0) (.int .i64 0) (.int .i64 0)) := HZ4.out.kp hK5 hb hz4
  obtain ⟨⟨a0, a1, a2, a3, a4, a5, a6⟩, _⟩ := HN4.out.kp hK5 hlt3 hz5
  clear hA5 hK5
  obtain ⟨⟨z0, z1, z2, z3, z4, z5, z6⟩, hzf⟩ := HZN.out
  have hf0 := hzf 0
  have hf1 := hzf 1
  have hf2 := hzf 2
  have hf3 := hzf 3
  have hf4 := hzf 4
  have hf5 := hzf 5
  have hf6 := hzf 6
  clear hzf
  go_wp2_with fail
  exact post7 Try.results79 rfl HZN.out.some ⟨_, (σ3.exp (T3 toks len) 3).lv, rfl, ⟨_, _, _, _, _, _, _, _, _, rfl⟩, HA5.out.w7 _ _ _ _ _ _ _ _ hb htb, goes_lv HO.out HE.out.2 (fun _ => HEE.out) (HG3.out.trans (goes_exp hk HG3.out.1 3)), HK5.out.w7 _ _ _ _ _ _ _ _ (Nat.le_refl _), fun st => by rw [HS0.out st, HS3.out, fin_shut hk HG3.out.1 (c := [41]) (k := 3) (by decide) (by decide) (by decide)]⟩


set_option maxRecDepth 100000 in
set_option maxHeartbeats 1000000 in
theorem factor_true (hk : AllTok toks) (hn : toks.length ≤ 300) (b tb cap r : Nat) (IH1 : ∀ r', r' < r → FacC toks len b tb cap r') (IH2 : ∀ r', r' < r → ForC toks len b tb cap r') (w : World) (σ : PSt) (h : At w b tb cap (T3 toks len) σ) (ho : Ok toks.length σ) (hr : toks.length - σ.pos ≤ r) (k1 : kd (T3 toks len) σ.pos = 26) :
    Calls Try.prog 79 #[.pointer (some ⟨b, 0, none⟩)] w (PPost b tb cap toks len σ w formV (fun σ' => ∀ st, fin toks len σ (cFactor :: st) = fin toks len σ' st)) := by
  have H : Hid (At w b tb cap (T3 toks len) σ) := h
  have HO : Hid (Ok toks.length σ) := ho
  have hb := h.hb
  have htb := h.htb
  have HKE : Hid (kd (T3 toks len) σ.pos = 26) := k1
  have HG : Hid (Goes toks.length σ (σ.adv (T3 toks len))) := goes_adv hk ho
  have HS0 : Hid (∀ st, fin toks len σ (cFactor :: st) = fin toks len (σ.adv (T3 toks len)) st) := fun st => fin_bool hk ho (by omega) st
  clear k1
  clear h ho hr IH1 IH2
  go_enter Try.func79, Try.ntmps79
  go_wp2_with fail
  refine (peek_c b tb cap _ σ (H.out.alloc _) HO.out).mono ?_
  rw [HKE.out]
  rintro e w1 ⟨rfl, nq, rfl⟩
  have HA1 : Hid (At ((w.alloc (.cells #[.int .i64 0, .slice none 0 0, .int .i64 0, .int .i64 0, .int .i64 0, .int .i64 0, .int .i64 0] 47)).drewN nq) b tb cap (T3 toks len) σ) := (H.out.alloc _).drewN nq
  have HK1 : Hid (Kp b w ((w.alloc (.cells #[.int .i64 0, .slice none 0 0, .int .i64 0, .int .i64 0, .int .i64 0, .int .i64 0, .int .i64 0] 47)).drewN nq)) := ((Kp.refl b w).alloc _).drewN nq
  have HZ1 : Hid (Seven ((w.alloc (.cells #[.int .i64 0, .slice none 0 0, .int .i64 0, .int .i64 0, .int .i64 0, .int .i64 0, .int .i64 0] 47)).drewN nq) w.heap.size (.int .i64 0) (.slice none 0 0) (.int .i64 0) (.int .i64 0) (.int .i64 0) (.int .i64 0) (.int .i64 0)) := (Seven.new w (.int .i64 0) (.slice none 0 0) (.int .i64 0) (.int .i64 0) (.int .i64 0) (.int .i64 0) (.int .i64 0) 47).kp (b := b) ((Kp.refl b _).drewN nq) hb (by simp)
  go_wp2_with fail
  refine (advance_c hn b tb cap _ σ HA1.out HO.out).mono ?_
  rintro e w2 ⟨x2, y2, v2, rfl, hA2, hK2⟩
  have HA2 : Hid (At w2 b tb cap (T3 toks len) (σ.adv (T3 toks len))) := hA2
  have HK2 : Hid (Kp b w w2) := HK1.out.trans hK2
  have HZN : Hid (Seven w2 w.heap.size (.int .i64 0) (.slice none 0 0) (.int .i64 0) (.int .i64 0) (.int .i64 0) (.int .i64 0) (.int .i64 0)) := HZ1.out.kp hK2 hb (by simp)
  clear hA2 hK2
  obtain ⟨⟨z0, z1, z2, z3, z4, z5, z6⟩, hzf⟩ := HZN.out
  have hf0 := hzf 0
  have hf1 := hzf 1
  have hf2 := hzf 2
  have hf3 := hzf 3
  have hf4 := hzf 4
  have hf5 := hzf 5
  have hf6 := hzf 6
  clear hzf
  go_wp2_with fail
  exact post7 Try.results79 rfl HZN.out.some ⟨_, _, rfl, ⟨_, _, _, _, _, _, _, _, _, rfl⟩, HA2.out.w7 _ _ _ _ _ _ _ _ hb htb, HG.out, HK2.out.w7 _ _ _ _ _ _ _ _ (Nat.le_refl _), HS0.out⟩


set_option maxRecDepth 100000 in
set_option maxHeartbeats 1000000 in
theorem factor_false (hk : AllTok toks) (hn : toks.length ≤ 300) (b tb cap r : Nat) (IH1 : ∀ r', r' < r → FacC toks len b tb cap r') (IH2 : ∀ r', r' < r → ForC toks len b tb cap r') (w : World) (σ : PSt) (h : At w b tb cap (T3 toks len) σ) (ho : Ok toks.length σ) (hr : toks.length - σ.pos ≤ r) (k1 : kd (T3 toks len) σ.pos = 27) :
    Calls Try.prog 79 #[.pointer (some ⟨b, 0, none⟩)] w (PPost b tb cap toks len σ w formV (fun σ' => ∀ st, fin toks len σ (cFactor :: st) = fin toks len σ' st)) := by
  have H : Hid (At w b tb cap (T3 toks len) σ) := h
  have HO : Hid (Ok toks.length σ) := ho
  have hb := h.hb
  have htb := h.htb
  have HKE : Hid (kd (T3 toks len) σ.pos = 27) := k1
  have HG : Hid (Goes toks.length σ (σ.adv (T3 toks len))) := goes_adv hk ho
  have HS0 : Hid (∀ st, fin toks len σ (cFactor :: st) = fin toks len (σ.adv (T3 toks len)) st) := fun st => fin_bool hk ho (by omega) st
  clear k1
  clear h ho hr IH1 IH2
  go_enter Try.func79, Try.ntmps79
  go_wp2_with fail
  refine (peek_c b tb cap _ σ (H.out.alloc _) HO.out).mono ?_
  rw [HKE.out]
  rintro e w1 ⟨rfl, nq, rfl⟩
  have HA1 : Hid (At ((w.alloc (.cells #[.int .i64 0, .slice none 0 0, .int .i64 0, .int .i64 0, .int .i64 0, .int .i64 0, .int .i64 0] 47)).drewN nq) b tb cap (T3 toks len) σ) := (H.out.alloc _).drewN nq
  have HK1 : Hid (Kp b w ((w.alloc (.cells #[.int .i64 0, .slice none 0 0, .int .i64 0, .int .i64 0, .int .i64 0, .int .i64 0, .int .i64 0] 47)).drewN nq)) := ((Kp.refl b w).alloc _).drewN nq
  have HZ1 : Hid (Seven ((w.alloc (.cells #[.int .i64 0, .slice none 0 0, .int .i64 0, .int .i64 0, .int .i64 0, .int .i64 0, .int .i64 0] 47)).drewN nq) w.heap.size (.int .i64 0) (.slice none 0 0) (.int .i64 0) (.int .i64 0) (.int .i64 0) (.int .i64 0) (.int .i64 0)) := (Seven.new w (.int .i64 0) (.slice none 0 0) (.int .i64 0) (.int .i64 0) (.int .i64 0) (.int .i64 0) (.int .i64 0) 47).kp (b := b) ((Kp.refl b _).drewN nq) hb (by simp)
  go_wp2_with fail
  refine (advance_c hn b tb cap _ σ HA1.out HO.out).mono ?_
  rintro e w2 ⟨x2, y2, v2, rfl, hA2, hK2⟩
  have HA2 : Hid (At w2 b tb cap (T3 toks len) (σ.adv (T3 toks len))) := hA2
  have HK2 : Hid (Kp b w w2) := HK1.out.trans hK2
  have HZN : Hid (Seven w2 w.heap.size (.int .i64 0) (.slice none 0 0) (.int .i64 0) (.int .i64 0) (.int .i64 0) (.int .i64 0) (.int .i64 0)) := HZ1.out.kp hK2 hb (by simp)
  clear hA2 hK2
  obtain ⟨⟨z0, z1, z2, z3, z4, z5, z6⟩, hzf⟩ := HZN.out
  have hf0 := hzf 0
  have hf1 := hzf 1
  have hf2 := hzf 2
  have hf3 := hzf 3
  have hf4 := hzf 4
  have hf5 := hzf 5
  have hf6 := hzf 6
  clear hzf
  go_wp2_with fail
  exact post7 Try.results79 rfl HZN.out.some ⟨_, _, rfl, ⟨_, _, _, _, _, _, _, _, _, rfl⟩, HA2.out.w7 _ _ _ _ _ _ _ _ hb htb, HG.out, HK2.out.w7 _ _ _ _ _ _ _ _ (Nat.le_refl _), HS0.out⟩


set_option maxRecDepth 100000 in
set_option maxHeartbeats 1000000 in
theorem factor_cmp (hk : AllTok toks) (hn : toks.length ≤ 300) (b tb cap r : Nat) (IH1 : ∀ r', r' < r → FacC toks len b tb cap r') (IH2 : ∀ r', r' < r → ForC toks len b tb cap r') (w : World) (σ : PSt) (h : At w b tb cap (T3 toks len) σ) (ho : Ok toks.length σ) (hr : toks.length - σ.pos ≤ r) (k1 : kd (T3 toks len) σ.pos ≠ 25) (k2 : kd (T3 toks len) σ.pos ≠ 2) (k3 : kd (T3 toks len) σ.pos ≠ 26) (k4 : kd (T3 toks len) σ.pos ≠ 27) :
    Calls Try.prog 79 #[.pointer (some ⟨b, 0, none⟩)] w (PPost b tb cap toks len σ w formV (fun σ' => ∀ st, fin toks len σ (cFactor :: st) = fin toks len σ' st)) := by
  have H : Hid (At w b tb cap (T3 toks len) σ) := h
  have HO : Hid (Ok toks.length σ) := ho
  have hb := h.hb
  have htb := h.htb
  obtain ⟨K, hKe⟩ : ∃ K, kd (T3 toks len) σ.pos = K := ⟨_, rfl⟩
  have HKE : Hid (kd (T3 toks len) σ.pos = K) := hKe
  have HS0 : Hid (∀ st, fin toks len σ (cFactor :: st) = fin toks len σ (cTerm :: cRelation :: cTerm :: st)) := fun st => fin_compare hk ho k1 k2 k3 k4 st
  have b1 : (K == 25) = false := by rw [beq_eq_false_iff_ne, ← hKe]; exact k1
  have b2 : (K == 2) = false := by rw [beq_eq_false_iff_ne, ← hKe]; exact k2
  have b3 : (K == 26) = false := by rw [beq_eq_false_iff_ne, ← hKe]; exact k3
  have b4 : (K == 27) = false := by rw [beq_eq_false_iff_ne, ← hKe]; exact k4
  clear hKe k1 k2 k3 k4
  clear h ho hr IH1 IH2
  go_enter Try.func79, Try.ntmps79
  go_wp2_with fail
  refine (peek_c b tb cap _ σ (H.out.alloc _) HO.out).mono ?_
  rw [HKE.out]
  rintro e w1 ⟨rfl, nq, rfl⟩
  have HA1 : Hid (At ((w.alloc (.cells #[.int .i64 0, .slice none 0 0, .int .i64 0, .int .i64 0, .int .i64 0, .int .i64 0, .int .i64 0] 47)).drewN nq) b tb cap (T3 toks len) σ) := (H.out.alloc _).drewN nq
  have HK1 : Hid (Kp b w ((w.alloc (.cells #[.int .i64 0, .slice none 0 0, .int .i64 0, .int .i64 0, .int .i64 0, .int .i64 0, .int .i64 0] 47)).drewN nq)) := ((Kp.refl b w).alloc _).drewN nq
  have HZ1 : Hid (Seven ((w.alloc (.cells #[.int .i64 0, .slice none 0 0, .int .i64 0, .int .i64 0, .int .i64 0, .int .i64 0, .int .i64 0] 47)).drewN nq) w.heap.size (.int .i64 0) (.slice none 0 0) (.int .i64 0) (.int .i64 0) (.int .i64 0) (.int .i64 0) (.int .i64 0)) := (Seven.new w (.int .i64 0) (.slice none 0 0) (.int .i64 0) (.int .i64 0) (.int .i64 0) (.int .i64 0) (.int .i64 0) 47).kp (b := b) ((Kp.refl b _).drewN nq) hb (by simp)
  go_wp2_with fail
  refine (comparison_c hk hn b tb cap _ σ HA1.out HO.out).mono ?_
  rintro e w2 ⟨v2, σ2, rfl, ⟨c0, cp, cn, cc, c2, c3, c4, c5, c6, rfl⟩, hA2, hG2, hK2, hS2⟩
  have HA2 : Hid (At w2 b tb cap (T3 toks len) σ2) := hA2
  have HG2 : Hid (Goes toks.length σ σ2) := hG2
  have HS2 : Hid (∀ st, fin toks len σ (cTerm :: cRelation :: cTerm :: st) = fin toks len σ2 st) := hS2
  have HK2 : Hid (Kp b w w2) := HK1.out.trans hK2
  have HZN : Hid (Seven w2 w.heap.size (.int .i64 0) (.slice none 0 0) (.int .i64 0) (.int .i64 0) (.int .i64 0) (.int .i64 0) (.int .i64 0)) := HZ1.out.kp hK2 hb (by simp)
  clear hA2 hK2 hG2 hS2
  obtain ⟨⟨z0, z1, z2, z3, z4, z5, z6⟩, hzf⟩ := HZN.out
  have hf0 := hzf 0
  have hf1 := hzf 1
  have hf2 := hzf 2
  have hf3 := hzf 3
  have hf4 := hzf 4
  have hf5 := hzf 5
  have hf6 := hzf 6
  clear hzf
  go_wp2_with fail
  exact post7 Try.results79 rfl HZN.out.some ⟨_, _, rfl, ⟨_, _, _, _, _, _, _, _, _, rfl⟩, HA2.out.w7 _ _ _ _ _ _ _ _ hb htb, HG2.out, HK2.out.w7 _ _ _ _ _ _ _ _ (Nat.le_refl _), fun st => (HS0.out st).trans (HS2.out st)⟩


theorem factor_step (hk : AllTok toks) (hn : toks.length ≤ 300) (b tb cap r : Nat) (IH1 : ∀ r', r' < r → FacC toks len b tb cap r') (IH2 : ∀ r', r' < r → ForC toks len b tb cap r') : FacC toks len b tb cap r := by
  intro w σ h ho hr
  by_cases k1 : kd (T3 toks len) σ.pos = 25
  · exact factor_not hk hn b tb cap r IH1 IH2 w σ h ho hr k1
  by_cases k2 : kd (T3 toks len) σ.pos = 2
  · exact factor_open hk hn b tb cap r IH1 IH2 w σ h ho hr k2
  by_cases k3 : kd (T3 toks len) σ.pos = 26
  · exact factor_true hk hn b tb cap r IH1 IH2 w σ h ho hr k3
  by_cases k4 : kd (T3 toks len) σ.pos = 27
  · exact factor_false hk hn b tb cap r IH1 IH2 w σ h ho hr k4
  exact factor_cmp hk hn b tb cap r IH1 IH2 w σ h ho hr k1 k2 k3 k4
theorem exprs (hk : AllTok toks) (hn : toks.length ≤ 300) (b tb cap : Nat) (r : Nat) : FacC toks len b tb cap r ∧ ForC toks len b tb cap r := by
  induction r using Nat.strongRecOn with
  | _ r ih =>
    have hf := factor_step hk hn b tb cap r (fun r' h => (ih r' h).1) (fun r' h => (ih r' h).2)
    exact ⟨hf, formula_c hk hn b tb cap r (part_c hk hn b tb cap r hf)⟩
theorem formula_any (hk : AllTok toks) (hn : toks.length ≤ 300) (b tb cap : Nat) (w : World) (σ : PSt) (h : At w b tb cap (T3 toks len) σ) (ho : Ok toks.length σ) :
    Calls Try.prog 40 #[.pointer (some ⟨b, 0, none⟩)] w (PPost b tb cap toks len σ w formV (fun σ' => ∀ st, fin toks len σ (cFormula :: st) = fin toks len σ' st)) :=
  (exprs hk hn b tb cap (toks.length - σ.pos)).2 w σ h ho (Nat.le_refl _)

end Go.Proofs.Ytkinoehmcfhgbaa.Av
