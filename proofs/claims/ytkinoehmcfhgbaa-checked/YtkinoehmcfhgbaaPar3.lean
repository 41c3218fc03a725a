/-
  The walks of the parser's method chain, at its two links.
-/
import Derived.Test.YtkinoehmcfhgbaaPar2
import Derived.Deep.LoopGhost
import Derived.Deep.RegionWith
set_option linter.unusedVariables false
set_option linter.unusedSimpArgs false
namespace Go.Proofs.Ytkinoehmcfhgbaa.Av
open Go.RowKit

variable {toks : List (List UInt8 × Nat)} {len : Nat}

/-- What a link of a chain does: a PART's worth, and what goes on is still wanted. -/
def Link (toks : List (List UInt8 × Nat)) (len : Nat) (ex : Int) (σ σ' : PSt) : Prop := (∀ st, fin toks len σ (cFormula :: st) = fin toks len σ' (cMoreFormula :: st)) ∧ kd (T3 toks len) σ'.pos ≠ ex
theorem link_step (hk : AllTok toks) {σ0 σ σ2 : PSt} {ex btw : Int} (h0 : ∀ st, fin toks len σ0 (cFormula :: st) = fin toks len σ (cMoreFormula :: st)) (ho : Ok toks.length σ) (hb : btw = 23 ∨ btw = 24) (hkd : kd (T3 toks len) σ.pos = btw) (h2 : Link toks len ex (σ.adv (T3 toks len)) σ2) : ∀ st, fin toks len σ0 (cFormula :: st) = fin toks len σ2 (cMoreFormula :: st) := fun st => by
  rw [h0 st, fin_orand hk ho (by omega), h2.1 st]

/-- Seven cells that a method has laid. -/
def Seven (w : World) (B : Nat) (c0 c1 c2 c3 c4 c5 c6 : Value) : Prop := (w.cell? ⟨B, 0, none⟩ = some c0 ∧ w.cell? ⟨B, 1, none⟩ = some c1 ∧ w.cell? ⟨B, 2, none⟩ = some c2 ∧ w.cell? ⟨B, 3, none⟩ = some c3 ∧ w.cell? ⟨B, 4, none⟩ = some c4 ∧ w.cell? ⟨B, 5, none⟩ = some c5 ∧ w.cell? ⟨B, 6, none⟩ = some c6) ∧ ∀ o, w.frozen? ⟨B, o, none⟩ = false
theorem Seven.kp {b B : Nat} {w w' : World} {c0 c1 c2 c3 c4 c5 c6 : Value} (h : Seven w B c0 c1 c2 c3 c4 c5 c6) (k : Kp b w w') (h1 : b < B) (h2 : B < w.heap.size) : Seven w' B c0 c1 c2 c3 c4 c5 c6 := by
  obtain ⟨⟨a0, a1, a2, a3, a4, a5, a6⟩, hf⟩ := h
  have e := kfar k h1 h2
  exact ⟨⟨(e _).trans a0, (e _).trans a1, (e _).trans a2, (e _).trans a3, (e _).trans a4, (e _).trans a5, (e _).trans a6⟩, fun o => (k.frozen (p := ⟨B, o, none⟩) h2 (by show B ≠ b; omega)).trans (hf o)⟩
theorem Seven.other {B k o : Nat} {w : World} {u c0 c1 c2 c3 c4 c5 c6 : Value} (h : Seven w B c0 c1 c2 c3 c4 c5 c6) (h1 : k ≠ B) : Seven (w.setCell ⟨k, o, none⟩ u) B c0 c1 c2 c3 c4 c5 c6 := by
  obtain ⟨⟨a0, a1, a2, a3, a4, a5, a6⟩, hf⟩ := h
  have e := fun j => sfar w k o B j u h1
  exact ⟨⟨(e _).trans a0, (e _).trans a1, (e _).trans a2, (e _).trans a3, (e _).trans a4, (e _).trans a5, (e _).trans a6⟩, fun o' => by rw [World.frozen?_setCell]; exact hf o'⟩
theorem Seven.new (w : World) (c0 c1 c2 c3 c4 c5 c6 : Value) (t : TypeId) : Seven (w.alloc (.cells #[c0, c1, c2, c3, c4, c5, c6] t)) w.heap.size c0 c1 c2 c3 c4 c5 c6 := by
  refine ⟨⟨by simp, by simp, by simp, by simp, by simp, by simp, by simp⟩, fun o => by simp⟩
theorem Seven.some {w : World} {B : Nat} {c0 c1 c2 c3 c4 c5 c6 : Value} (h : Seven w B c0 c1 c2 c3 c4 c5 c6) : ∀ j, j < 7 → ∃ u, w.cell? ⟨B, j, none⟩ = Option.some u := by
  obtain ⟨⟨a0, a1, a2, a3, a4, a5, a6⟩, hf⟩ := h
  intro j hj
  match j, hj with
  | 0, _ => exact ⟨_, a0⟩
  | 1, _ => exact ⟨_, a1⟩
  | 2, _ => exact ⟨_, a2⟩
  | 3, _ => exact ⟨_, a3⟩
  | 4, _ => exact ⟨_, a4⟩
  | 5, _ => exact ⟨_, a5⟩
  | 6, _ => exact ⟨_, a6⟩
theorem Seven.alloc {w : World} {B : Nat} {c0 c1 c2 c3 c4 c5 c6 : Value} (h : Seven w B c0 c1 c2 c3 c4 c5 c6) (hB : B < w.heap.size) (o : Obj) : Seven (w.alloc o) B c0 c1 c2 c3 c4 c5 c6 := by
  obtain ⟨⟨a0, a1, a2, a3, a4, a5, a6⟩, hf⟩ := h
  have e := fun j => afar w o B j hB
  exact ⟨⟨(e _).trans a0, (e _).trans a1, (e _).trans a2, (e _).trans a3, (e _).trans a4, (e _).trans a5, (e _).trans a6⟩, fun j => ((below_alloc w o).frozen (p := ⟨B, j, none⟩) hB).trans (hf j)⟩
theorem Seven.put {X : World} {B : Nat} {o0 o1 o2 o3 o4 o5 o6 : Value} (h : Seven X B o0 o1 o2 o3 o4 o5 o6) (c0 c1 c2 c3 c4 c5 c6 : Value) : Seven (((((((X.setCell ⟨B, 0, none⟩ c0).setCell ⟨B, 1, none⟩ c1).setCell ⟨B, 2, none⟩ c2).setCell ⟨B, 3, none⟩ c3).setCell ⟨B, 4, none⟩ c4).setCell ⟨B, 5, none⟩ c5).setCell ⟨B, 6, none⟩ c6) B c0 c1 c2 c3 c4 c5 c6 := by
  have hx := h.some
  refine ⟨⟨by rw [set_other _ _ _ _ _ (by omega), set_other _ _ _ _ _ (by omega), set_other _ _ _ _ _ (by omega), set_other _ _ _ _ _ (by omega), set_other _ _ _ _ _ (by omega), set_other _ _ _ _ _ (by omega)]; exact set_same _ _ _ (by exact hx 0 (by omega)), by rw [set_other _ _ _ _ _ (by omega), set_other _ _ _ _ _ (by omega), set_other _ _ _ _ _ (by omega), set_other _ _ _ _ _ (by omega), set_other _ _ _ _ _ (by omega)]; exact set_same _ _ _ (by rw [set_other _ _ _ _ _ (by omega)]; exact hx 1 (by omega)), by rw [set_other _ _ _ _ _ (by omega), set_other _ _ _ _ _ (by omega), set_other _ _ _ _ _ (by omega), set_other _ _ _ _ _ (by omega)]; exact set_same _ _ _ (by rw [set_other _ _ _ _ _ (by omega), set_other _ _ _ _ _ (by omega)]; exact hx 2 (by omega)), by rw [set_other _ _ _ _ _ (by omega), set_other _ _ _ _ _ (by omega), set_other _ _ _ _ _ (by omega)]; exact set_same _ _ _ (by rw [set_other _ _ _ _ _ (by omega), set_other _ _ _ _ _ (by omega), set_other _ _ _ _ _ (by omega)]; exact hx 3 (by omega)), by rw [set_other _ _ _ _ _ (by omega), set_other _ _ _ _ _ (by omega)]; exact set_same _ _ _ (by rw [set_other _ _ _ _ _ (by omega), set_other _ _ _ _ _ (by omega), set_other _ _ _ _ _ (by omega), set_other _ _ _ _ _ (by omega)]; exact hx 4 (by omega)), by rw [set_other _ _ _ _ _ (by omega)]; exact set_same _ _ _ (by rw [set_other _ _ _ _ _ (by omega), set_other _ _ _ _ _ (by omega), set_other _ _ _ _ _ (by omega), set_other _ _ _ _ _ (by omega), set_other _ _ _ _ _ (by omega)]; exact hx 5 (by omega)), by exact set_same _ _ _ (by rw [set_other _ _ _ _ _ (by omega), set_other _ _ _ _ _ (by omega), set_other _ _ _ _ _ (by omega), set_other _ _ _ _ _ (by omega), set_other _ _ _ _ _ (by omega), set_other _ _ _ _ _ (by omega)]; exact hx 6 (by omega))⟩, fun o => ?_⟩
  rw [World.frozen?_setCell, World.frozen?_setCell, World.frozen?_setCell, World.frozen?_setCell, World.frozen?_setCell, World.frozen?_setCell, World.frozen?_setCell]; exact h.2 o
theorem Seven.far7 {X : World} {B B' : Nat} {o0 o1 o2 o3 o4 o5 o6 : Value} (h : Seven X B' o0 o1 o2 o3 o4 o5 o6) (hne : B ≠ B') (c0 c1 c2 c3 c4 c5 c6 : Value) : Seven (((((((X.setCell ⟨B, 0, none⟩ c0).setCell ⟨B, 1, none⟩ c1).setCell ⟨B, 2, none⟩ c2).setCell ⟨B, 3, none⟩ c3).setCell ⟨B, 4, none⟩ c4).setCell ⟨B, 5, none⟩ c5).setCell ⟨B, 6, none⟩ c6) B' o0 o1 o2 o3 o4 o5 o6 :=
  ((((((h.other hne).other hne).other hne).other hne).other hne).other hne).other hne

set_option maxRecDepth 100000 in
set_option maxHeartbeats 1000000 in
theorem chain_and (hk : AllTok toks) (hn : toks.length ≤ 300) (b tb cap r : Nat) (ex : Int)
    (LK : ∀ (w : World) (σ : PSt), At w b tb cap (T3 toks len) σ → Ok toks.length σ → toks.length - σ.pos ≤ r → Calls Try.prog 79 #[.pointer (some ⟨b, 0, none⟩)] w (PPost b tb cap toks len σ w formV (Link toks len ex σ)))
    (w : World) (σ : PSt) (h : At w b tb cap (T3 toks len) σ) (ho : Ok toks.length σ) (hr : toks.length - σ.pos ≤ r) :
    Calls Try.prog 61 #[.pointer (some ⟨b, 0, none⟩), .int .i64 24, .int .i64 4, .func (.func 79) #[.pointer (some ⟨b, 0, none⟩)] #[]] w (PPost b tb cap toks len σ w formV (fun σ' => Link toks len ex σ σ' ∧ kd (T3 toks len) σ'.pos ≠ 24)) := by
  have HL : Hid (∀ (w : World) (σ : PSt), At w b tb cap (T3 toks len) σ → Ok toks.length σ → toks.length - σ.pos ≤ r → Calls Try.prog 79 #[.pointer (some ⟨b, 0, none⟩)] w (PPost b tb cap toks len σ w formV (Link toks len ex σ))) := LK
  have H : Hid (At w b tb cap (T3 toks len) σ) := h
  have HO : Hid (Ok toks.length σ) := ho
  have HR : Hid (toks.length - σ.pos ≤ r) := hr
  have hb := h.hb
  have htb := h.htb
  clear LK h ho hr
  go_enter Try.func61, Try.ntmps61
  go_wp2_with fail
  refine (HL.out _ σ (H.out.alloc _) HO.out HR.out).mono ?_
  rintro e w1 ⟨v1, σ1, rfl, ⟨c0, cp, cn, cc, c2, c3, c4, c5, c6, rfl⟩, hA1, hG1, hK1, hS1⟩
  have hz1 : w.heap.size < w1.heap.size := by have := hK1.size; simp at this; omega
  have HS1 : Hid (Link toks len ex σ σ1) := hS1
  have H0 : Hid (Seven w1 w.heap.size (.int .i64 0) (.slice none 0 0) (.int .i64 0) (.int .i64 0) (.int .i64 0) (.int .i64 0) (.int .i64 0)) := (Seven.new w _ _ _ _ _ _ _ _).kp hK1 hb (by simp)
  have hKw : Kp b w w1 := ((Kp.refl b w).alloc _).trans hK1
  have HK1 : Hid (Kp b w w1) := hKw
  have HA1 : Hid (At w1 b tb cap (T3 toks len) σ1) := hA1
  have HG1 : Hid (Goes toks.length σ σ1) := hG1
  clear hS1 hK1 hKw hA1 hG1
  go_wp2_with fail
  go_loopg [] (toks.length - σ1.pos) (fun g wr => ∃ (σ2 : PSt) (d0 : Int) (dp : Option Addr) (dn dc : Nat) (d2 d3 d4 d5 d6 : Int), At wr b tb cap (T3 toks len) σ2 ∧ Goes toks.length σ σ2 ∧ Link toks len ex σ σ2 ∧ g = toks.length - σ2.pos ∧ Kp b w wr ∧ w1.heap.size < wr.heap.size ∧ Seven wr w1.heap.size (.int .i64 d0) (.slice dp dn dc) (.int .i64 d2) (.int .i64 d3) (.int .i64 d4) (.int .i64 d5) (.int .i64 d6) ∧ Seven wr w.heap.size (.int .i64 0) (.slice none 0 0) (.int .i64 0) (.int .i64 0) (.int .i64 0) (.int .i64 0) (.int .i64 0))
  case atStart => exact ⟨σ1, c0, cp, cn, cc, c2, c3, c4, c5, c6, HA1.out.alloc _, HG1.out, HS1.out, rfl, HK1.out.alloc _, by simp, Seven.new _ _ _ _ _ _ _ _ _, H0.out.alloc hz1 _⟩
  case round =>
    obtain ⟨σ2, d0, dp, dn, dc, d2, d3, d4, d5, d6, hA2, hG2, hL2, hg, hK2, hz2, h7, h0⟩ := hrel
    have HA2 : Hid (At wr b tb cap (T3 toks len) σ2) := hA2
    have HG2 : Hid (Goes toks.length σ σ2) := hG2
    have HL2 : Hid (Link toks len ex σ σ2) := hL2
    have Hg : Hid (gk = toks.length - σ2.pos) := hg
    have HK2 : Hid (Kp b w wr) := hK2
    have H7 : Hid (Seven wr w1.heap.size (.int .i64 d0) (.slice dp dn dc) (.int .i64 d2) (.int .i64 d3) (.int .i64 d4) (.int .i64 d5) (.int .i64 d6)) := h7
    have H00 : Hid (Seven wr w.heap.size (.int .i64 0) (.slice none 0 0) (.int .i64 0) (.int .i64 0) (.int .i64 0) (.int .i64 0) (.int .i64 0)) := h0
    clear hA2 hG2 hL2 hg hK2 h7 h0
    by_cases kb : kd (T3 toks len) σ2.pos = 24
    · have HKB : Hid (kd (T3 toks len) σ2.pos = 24) := kb
      clear kb
      go_wp2_with fail
      refine (take_yes hn b tb cap 24 _ σ2 HA2.out HG2.out.1 HKB.out).mono ?_
      rintro e w3 ⟨rfl, hA3, hK3⟩
      have HA3 : Hid (At w3 b tb cap (T3 toks len) (σ2.adv (T3 toks len))) := hA3
      have HK3 : Hid (Kp b wr w3) := hK3
      have hz3 : w1.heap.size < w3.heap.size := by have := hK3.size; omega
      obtain ⟨⟨a0, a1, a2, a3, a4, a5, a6⟩, haf⟩ := H7.out.kp hK3 (by omega) hz2
      have hlt : b < w1.heap.size := by omega
      have H73 : Hid (Seven w3.drew w1.heap.size (.int .i64 d0) (.slice dp dn dc) (.int .i64 d2) (.int .i64 d3) (.int .i64 d4) (.int .i64 d5) (.int .i64 d6)) := (H7.out.kp hK3 hlt hz2).kp ((Kp.refl b w3).drew) hlt hz3
      clear hA3 hK3
      have hf0 := haf 0
      have hf1 := haf 1
      have hf2 := haf 2
      have hf3 := haf 3
      have hf4 := haf 4
      have hf5 := haf 5
      have hf6 := haf 6
      go_wp2_with fail
      go_region_with (first | (go_at_call 79; refine (HL.out _ _ HA3.out.drew (goes_adv hk HG2.out.1).1 ?_).mono ?_; (have := HR.out; have := HG1.out.2.1; have := (Goes.trans HG2.out (goes_adv (len := len) hk HG2.out.1)).2.1; omega); rintro e w4 ⟨v4, σ4, rfl, ⟨e0, ep, en, ec, e2, e3, e4, e5, e6, rfl⟩, hA4, hG4, hK4, hS4⟩; obtain ⟨⟨q0, q1, q2, q3, q4, q5, q6⟩, hqf⟩ := H73.out.kp hK4 hlt hz3; have hz4 : w1.heap.size < w4.heap.size := by have := hK4.size; exact Nat.lt_of_lt_of_le hz3 this))
      all_goals
        have HS4 : Hid (Link toks len ex (σ2.adv (T3 toks len)) σ4) := hS4
        have HQ7 : Hid (Seven w4 w1.heap.size (.int .i64 d0) (.slice dp dn dc) (.int .i64 d2) (.int .i64 d3) (.int .i64 d4) (.int .i64 d5) (.int .i64 d6)) := ⟨⟨q0, q1, q2, q3, q4, q5, q6⟩, hqf⟩
        have hK5 : Kp b wr w4 := (HK3.out.drew).trans hK4
        have HK5 : Hid (Kp b wr w4) := hK5
        have HQ0 : Hid (Seven w4 w.heap.size (.int .i64 0) (.slice none 0 0) (.int .i64 0) (.int .i64 0) (.int .i64 0) (.int .i64 0) (.int .i64 0)) := H00.out.kp hK5 hb (by omega)
        have HA4 : Hid (At w4 b tb cap (T3 toks len) σ4) := hA4
        have HG4 : Hid (Goes toks.length (σ2.adv (T3 toks len)) σ4) := hG4
        have hz5 : w.heap.size < w4.heap.size := by omega
        clear hS4 hK4 hK5 hA4 hG4 q0 q1 q2 q3 q4 q5 q6 hqf a0 a1 a2 a3 a4 a5 a6 haf hf0 hf1 hf2 hf3 hf4 hf5 hf6
        go_wp2_with fail
        go_roundg (toks.length - σ4.pos)
        case measure =>
          have h1 := Hg.out
          have h2 := HG4.out.2.1
          have h3 := adv_pos (T3 toks len) σ2 (by rw [HKB.out]; omega)
          have h4 := (kd_lt (len := len) hk HG2.out.1 (by rw [HKB.out]; omega)).1
          omega
        case rel =>
          have hg5 := HG2.out.trans ((goes_adv (len := len) hk HG2.out.1).trans HG4.out)
          have hp : w1.heap.size < (((((((w4.setCell ⟨w1.heap.size, 0, none⟩ (.int .i64 4)).setCell ⟨w1.heap.size, 1, none⟩ (.slice (some ⟨w4.heap.size, 0, none⟩) 2 2)).setCell ⟨w1.heap.size, 2, none⟩ (.int .i64 0)).setCell ⟨w1.heap.size, 3, none⟩ (.int .i64 0)).setCell ⟨w1.heap.size, 4, none⟩ (.int .i64 0)).setCell ⟨w1.heap.size, 5, none⟩ (.int .i64 0)).setCell ⟨w1.heap.size, 6, none⟩ (.int .i64 0)).heap.size := by rw [ssize, ssize, ssize, ssize, ssize, ssize, ssize]; exact hz4
          refine ⟨σ4, 4, some ⟨w4.heap.size, 0, none⟩, 2, 2, 0, 0, 0, 0, 0, (HA4.out.w7 w1.heap.size (.int .i64 4) (.slice (some ⟨w4.heap.size, 0, none⟩) 2 2) (.int .i64 0) (.int .i64 0) (.int .i64 0) (.int .i64 0) (.int .i64 0) hlt (by omega)).alloc _, hg5, ⟨link_step hk HL2.out.1 HG2.out.1 (by omega) HKB.out HS4.out, HS4.out.2⟩, rfl, ((HK2.out.trans HK5.out).w7 w1.heap.size (.int .i64 4) (.slice (some ⟨w4.heap.size, 0, none⟩) 2 2) (.int .i64 0) (.int .i64 0) (.int .i64 0) (.int .i64 0) (.int .i64 0) (by omega)).alloc _, ?_, (HQ7.out.put (.int .i64 4) (.slice (some ⟨w4.heap.size, 0, none⟩) 2 2) (.int .i64 0) (.int .i64 0) (.int .i64 0) (.int .i64 0) (.int .i64 0)).alloc hp _, (HQ0.out.far7 (by omega) (.int .i64 4) (.slice (some ⟨w4.heap.size, 0, none⟩) 2 2) (.int .i64 0) (.int .i64 0) (.int .i64 0) (.int .i64 0) (.int .i64 0)).alloc (Nat.lt_trans hz1 hp) _⟩
          rw [asize]; omega
    · have HKB : Hid (¬ kd (T3 toks len) σ2.pos = 24) := kb
      clear kb
      go_wp2_with fail
      refine (take_no hn b tb cap 24 _ σ2 HA2.out HG2.out.1 HKB.out).mono ?_
      rintro e w3 ⟨rfl, hA3, hK3⟩
      have HA3 : Hid (At w3 b tb cap (T3 toks len) σ2) := hA3
      have HK3 : Hid (Kp b wr w3) := hK3
      have hz3 : w1.heap.size < w3.heap.size := by have := hK3.size; omega
      obtain ⟨⟨a0, a1, a2, a3, a4, a5, a6⟩, haf⟩ := H7.out.kp hK3 (by omega) hz2
      have h03 := H00.out.kp hK3 hb (by omega)
      have HZ : Hid (Seven w3 w.heap.size (.int .i64 0) (.slice none 0 0) (.int .i64 0) (.int .i64 0) (.int .i64 0) (.int .i64 0) (.int .i64 0)) := h03
      obtain ⟨⟨z0, z1, z2, z3, z4, z5, z6⟩, hzf⟩ := h03
      have hf0 := hzf 0
      have hf1 := hzf 1
      have hf2 := hzf 2
      have hf3 := hzf 3
      have hf4 := hzf 4
      have hf5 := hzf 5
      have hf6 := hzf 6
      clear hA3 hK3 haf hzf
      go_wp2_with fail
      refine post7 Try.results61 rfl HZ.out.some ⟨_, σ2, rfl, ⟨_, _, _, _, _, _, _, _, _, rfl⟩, HA3.out.w7 _ _ _ _ _ _ _ _ hb htb, HG2.out, (HK2.out.trans HK3.out).w7 _ _ _ _ _ _ _ _ (Nat.le_refl _), HL2.out, HKB.out⟩

set_option maxRecDepth 100000 in
set_option maxHeartbeats 1000000 in
theorem chain_or (hk : AllTok toks) (hn : toks.length ≤ 300) (b tb cap r : Nat) (ex : Int)
    (LK : ∀ (w : World) (σ : PSt), At w b tb cap (T3 toks len) σ → Ok toks.length σ → toks.length - σ.pos ≤ r → Calls Try.prog 62 #[.pointer (some ⟨b, 0, none⟩)] w (PPost b tb cap toks len σ w formV (Link toks len ex σ)))
    (w : World) (σ : PSt) (h : At w b tb cap (T3 toks len) σ) (ho : Ok toks.length σ) (hr : toks.length - σ.pos ≤ r) :
    Calls Try.prog 61 #[.pointer (some ⟨b, 0, none⟩), .int .i64 23, .int .i64 5, .func (.func 62) #[.pointer (some ⟨b, 0, none⟩)] #[]] w (PPost b tb cap toks len σ w formV (fun σ' => Link toks len ex σ σ' ∧ kd (T3 toks len) σ'.pos ≠ 23)) := by
  have HL : Hid (∀ (w : World) (σ : PSt), At w b tb cap (T3 toks len) σ → Ok toks.length σ → toks.length - σ.pos ≤ r → Calls Try.prog 62 #[.pointer (some ⟨b, 0, none⟩)] w (PPost b tb cap toks len σ w formV (Link toks len ex σ))) := LK
  have H : Hid (At w b tb cap (T3 toks len) σ) := h
  have HO : Hid (Ok toks.length σ) := ho
  have HR : Hid (toks.length - σ.pos ≤ r) := hr
  have hb := h.hb
  have htb := h.htb
  clear LK h ho hr
  go_enter Try.func61, Try.ntmps61
  go_wp2_with fail
  refine (HL.out _ σ (H.out.alloc _) HO.out HR.out).mono ?_
  rintro e w1 ⟨v1, σ1, rfl, ⟨c0, cp, cn, cc, c2, c3, c4, c5, c6, rfl⟩, hA1, hG1, hK1, hS1⟩
  have hz1 : w.heap.size < w1.heap.size := by have := hK1.size; simp at this; omega
  have HS1 : Hid (Link toks len ex σ σ1) := hS1
  have H0 : Hid (Seven w1 w.heap.size (.int .i64 0) (.slice none 0 0) (.int .i64 0) (.int .i64 0) (.int .i64 0) (.int .i64 0) (.int .i64 0)) := (Seven.new w _ _ _ _ _ _ _ _).kp hK1 hb (by simp)
  have hKw : Kp b w w1 := ((Kp.refl b w).alloc _).trans hK1
  have HK1 : Hid (Kp b w w1) := hKw
  have HA1 : Hid (At w1 b tb cap (T3 toks len) σ1) := hA1
  have HG1 : Hid (Goes toks.length σ σ1) := hG1
  clear hS1 hK1 hKw hA1 hG1
  go_wp2_with fail
  go_loopg [] (toks.length - σ1.pos) (fun g wr => ∃ (σ2 : PSt) (d0 : Int) (dp : Option Addr) (dn dc : Nat) (d2 d3 d4 d5 d6 : Int), At wr b tb cap (T3 toks len) σ2 ∧ Goes toks.length σ σ2 ∧ Link toks len ex σ σ2 ∧ g = toks.length - σ2.pos ∧ Kp b w wr ∧ w1.heap.size < wr.heap.size ∧ Seven wr w1.heap.size (.int .i64 d0) (.slice dp dn dc) (.int .i64 d2) (.int .i64 d3) (.int .i64 d4) (.int .i64 d5) (.int .i64 d6) ∧ Seven wr w.heap.size (.int .i64 0) (.slice none 0 0) (.int .i64 0) (.int .i64 0) (.int .i64 0) (.int .i64 0) (.int .i64 0))
  case atStart => exact ⟨σ1, c0, cp, cn, cc, c2, c3, c4, c5, c6, HA1.out.alloc _, HG1.out, HS1.out, rfl, HK1.out.alloc _, by simp, Seven.new _ _ _ _ _ _ _ _ _, H0.out.alloc hz1 _⟩
  case round =>
    obtain ⟨σ2, d0, dp, dn, dc, d2, d3, d4, d5, d6, hA2, hG2, hL2, hg, hK2, hz2, h7, h0⟩ := hrel
    have HA2 : Hid (At wr b tb cap (T3 toks len) σ2) := hA2
    have HG2 : Hid (Goes toks.length σ σ2) := hG2
    have HL2 : Hid (Link toks len ex σ σ2) := hL2
    have Hg : Hid (gk = toks.length - σ2.pos) := hg
    have HK2 : Hid (Kp b w wr) := hK2
    have H7 : Hid (Seven wr w1.heap.size (.int .i64 d0) (.slice dp dn dc) (.int .i64 d2) (.int .i64 d3) (.int .i64 d4) (.int .i64 d5) (.int .i64 d6)) := h7
    have H00 : Hid (Seven wr w.heap.size (.int .i64 0) (.slice none 0 0) (.int .i64 0) (.int .i64 0) (.int .i64 0) (.int .i64 0) (.int .i64 0)) := h0
    clear hA2 hG2 hL2 hg hK2 h7 h0
    by_cases kb : kd (T3 toks len) σ2.pos = 23
    · have HKB : Hid (kd (T3 toks len) σ2.pos = 23) := kb
      clear kb
      go_wp2_with fail
      refine (take_yes hn b tb cap 23 _ σ2 HA2.out HG2.out.1 HKB.out).mono ?_
      rintro e w3 ⟨rfl, hA3, hK3⟩
      have HA3 : Hid (At w3 b tb cap (T3 toks len) (σ2.adv (T3 toks len))) := hA3
      have HK3 : Hid (Kp b wr w3) := hK3
      have hz3 : w1.heap.size < w3.heap.size := by have := hK3.size; omega
      obtain ⟨⟨a0, a1, a2, a3, a4, a5, a6⟩, haf⟩ := H7.out.kp hK3 (by omega) hz2
      have hlt : b < w1.heap.size := by omega
      have H73 : Hid (Seven w3.drew w1.heap.size (.int .i64 d0) (.slice dp dn dc) (.int .i64 d2) (.int .i64 d3) (.int .i64 d4) (.int .i64 d5) (.int .i64 d6)) := (H7.out.kp hK3 hlt hz2).kp ((Kp.refl b w3).drew) hlt hz3
      clear hA3 hK3
      have hf0 := haf 0
      have hf1 := haf 1
      have hf2 := haf 2
      have hf3 := haf 3
      have hf4 := haf 4
      have hf5 := haf 5
      have hf6 := haf 6
      go_wp2_with fail
      go_region_with (first | (go_at_call 62; refine (HL.out _ _ HA3.out.drew (goes_adv hk HG2.out.1).1 ?_).mono ?_; (have := HR.out; have := HG1.out.2.1; have := (Goes.trans HG2.out (goes_adv (len := len) hk HG2.out.1)).2.1; omega); rintro e w4 ⟨v4, σ4, rfl, ⟨e0, ep, en, ec, e2, e3, e4, e5, e6, rfl⟩, hA4, hG4, hK4, hS4⟩; obtain ⟨⟨q0, q1, q2, q3, q4, q5, q6⟩, hqf⟩ := H73.out.kp hK4 hlt hz3; have hz4 : w1.heap.size < w4.heap.size := by have := hK4.size; exact Nat.lt_of_lt_of_le hz3 this))
      all_goals
        have HS4 : Hid (Link toks len ex (σ2.adv (T3 toks len)) σ4) := hS4
        have HQ7 : Hid (Seven w4 w1.heap.size (.int .i64 d0) (.slice dp dn dc) (.int .i64 d2) (.int .i64 d3) (.int .i64 d4) (.int .i64 d5) (.int .i64 d6)) := ⟨⟨q0, q1, q2, q3, q4, q5, q6⟩, hqf⟩
        have hK5 : Kp b wr w4 := (HK3.out.drew).trans hK4
        have HK5 : Hid (Kp b wr w4) := hK5
        have HQ0 : Hid (Seven w4 w.heap.size (.int .i64 0) (.slice none 0 0) (.int .i64 0) (.int .i64 0) (.int .i64 0) (.int .i64 0) (.int .i64 0)) := H00.out.kp hK5 hb (by omega)
        have HA4 : Hid (At w4 b tb cap (T3 toks len) σ4) := hA4
        have HG4 : Hid (Goes toks.length (σ2.adv (T3 toks len)) σ4) := hG4
        have hz5 : w.heap.size < w4.heap.size := by omega
        clear hS4 hK4 hK5 hA4 hG4 q0 q1 q2 q3 q4 q5 q6 hqf a0 a1 a2 a3 a4 a5 a6 haf hf0 hf1 hf2 hf3 hf4 hf5 hf6
        go_wp2_with fail
        go_roundg (toks.length - σ4.pos)
        case measure =>
          have h1 := Hg.out
          have h2 := HG4.out.2.1
          have h3 := adv_pos (T3 toks len) σ2 (by rw [HKB.out]; omega)
          have h4 := (kd_lt (len := len) hk HG2.out.1 (by rw [HKB.out]; omega)).1
          omega
        case rel =>
          have hg5 := HG2.out.trans ((goes_adv (len := len) hk HG2.out.1).trans HG4.out)
          have hp : w1.heap.size < (((((((w4.setCell ⟨w1.heap.size, 0, none⟩ (.int .i64 5)).setCell ⟨w1.heap.size, 1, none⟩ (.slice (some ⟨w4.heap.size, 0, none⟩) 2 2)).setCell ⟨w1.heap.size, 2, none⟩ (.int .i64 0)).setCell ⟨w1.heap.size, 3, none⟩ (.int .i64 0)).setCell ⟨w1.heap.size, 4, none⟩ (.int .i64 0)).setCell ⟨w1.heap.size, 5, none⟩ (.int .i64 0)).setCell ⟨w1.heap.size, 6, none⟩ (.int .i64 0)).heap.size := by rw [ssize, ssize, ssize, ssize, ssize, ssize, ssize]; exact hz4
          refine ⟨σ4, 5, some ⟨w4.heap.size, 0, none⟩, 2, 2, 0, 0, 0, 0, 0, (HA4.out.w7 w1.heap.size (.int .i64 5) (.slice (some ⟨w4.heap.size, 0, none⟩) 2 2) (.int .i64 0) (.int .i64 0) (.int .i64 0) (.int .i64 0) (.int .i64 0) hlt (by omega)).alloc _, hg5, ⟨link_step hk HL2.out.1 HG2.out.1 (by omega) HKB.out HS4.out, HS4.out.2⟩, rfl, ((HK2.out.trans HK5.out).w7 w1.heap.size (.int .i64 5) (.slice (some ⟨w4.heap.size, 0, none⟩) 2 2) (.int .i64 0) (.int .i64 0) (.int .i64 0) (.int .i64 0) (.int .i64 0) (by omega)).alloc _, ?_, (HQ7.out.put (.int .i64 5) (.slice (some ⟨w4.heap.size, 0, none⟩) 2 2) (.int .i64 0) (.int .i64 0) (.int .i64 0) (.int .i64 0) (.int .i64 0)).alloc hp _, (HQ0.out.far7 (by omega) (.int .i64 5) (.slice (some ⟨w4.heap.size, 0, none⟩) 2 2) (.int .i64 0) (.int .i64 0) (.int .i64 0) (.int .i64 0) (.int .i64 0)).alloc (Nat.lt_trans hz1 hp) _⟩
          rw [asize]; omega
    · have HKB : Hid (¬ kd (T3 toks len) σ2.pos = 23) := kb
      clear kb
      go_wp2_with fail
      refine (take_no hn b tb cap 23 _ σ2 HA2.out HG2.out.1 HKB.out).mono ?_
      rintro e w3 ⟨rfl, hA3, hK3⟩
      have HA3 : Hid (At w3 b tb cap (T3 toks len) σ2) := hA3
      have HK3 : Hid (Kp b wr w3) := hK3
      have hz3 : w1.heap.size < w3.heap.size := by have := hK3.size; omega
      obtain ⟨⟨a0, a1, a2, a3, a4, a5, a6⟩, haf⟩ := H7.out.kp hK3 (by omega) hz2
      have h03 := H00.out.kp hK3 hb (by omega)
      have HZ : Hid (Seven w3 w.heap.size (.int .i64 0) (.slice none 0 0) (.int .i64 0) (.int .i64 0) (.int .i64 0) (.int .i64 0) (.int .i64 0)) := h03
      obtain ⟨⟨z0, z1, z2, z3, z4, z5, z6⟩, hzf⟩ := h03
      have hf0 := hzf 0
      have hf1 := hzf 1
      have hf2 := hzf 2
      have hf3 := hzf 3
      have hf4 := hzf 4
      have hf5 := hzf 5
      have hf6 := hzf 6
      clear hA3 hK3 haf hzf
      go_wp2_with fail
      refine post7 Try.results61 rfl HZ.out.some ⟨_, σ2, rfl, ⟨_, _, _, _, _, _, _, _, _, rfl⟩, HA3.out.w7 _ _ _ _ _ _ _ _ hb htb, HG2.out, (HK2.out.trans HK3.out).w7 _ _ _ _ _ _ _ _ (Nat.le_refl _), HL2.out, HKB.out⟩

end Go.Proofs.Ytkinoehmcfhgbaa.Av
