/-
  The walks of the parser's method chain, at its two links.
-/
import Derived.Test.YtkinoehmcfhgbaaGreatDoorQ2
import Derived.Deep.LoopGhost
import Derived.Deep.RegionWith
set_option linter.unusedVariables false
set_option linter.unusedSimpArgs false
namespace Go.Proofs.YtkinoehmcfhgbaaGreatDoor.Av
open Go.RowKit

variable {toks : List (List UInt8 × Nat)} {len : Nat}

/-- What a link of a chain does: a PART's worth, and what goes on is still wanted. -/
def Link (toks : List (List UInt8 × Nat)) (len : Nat) (ex : Int) (σ σ' : PSt) : Prop := (∀ st, fin toks len σ (cFormula :: st) = fin toks len σ' (cMoreFormula :: st)) ∧ kd (T3 toks len) σ'.pos ≠ ex
theorem link_step (hk : AllTok toks) {σ0 σ σ2 : PSt} {ex btw : Int} (h0 : ∀ st, fin toks len σ0 (cFormula :: st) = fin toks len σ (cMoreFormula :: st)) (ho : Ok toks.length σ) (hb : btw = 23 ∨ btw = 24) (hkd : kd (T3 toks len) σ.pos = btw) (h2 : Link toks len ex (σ.adv (T3 toks len)) σ2) : ∀ st, fin toks len σ0 (cFormula :: st) = fin toks len σ2 (cMoreFormula :: st) := fun st => by
  rw [h0 st, fin_orand hk ho (by omega), h2.1 st]

/-- Seven cells that a method has laid. -/
def Seven (w : World) (B : Nat) (c0 c1 c2 c3 c4 c5 c6 : Value) : Prop := (w.cell? ⟨B, 0, none⟩ = some c0 ∧ w.cell? ⟨B, 1, none⟩ = some c1 ∧ w.cell? ⟨B, 2, none⟩ = some c2 ∧ w.cell? ⟨B, 3, none⟩ = some c3 ∧ w.cell? ⟨B, 4, none⟩ = some c4 ∧ w.cell? ⟨B, 5, none⟩ = some c5 ∧ w.cell? ⟨B, 6, none⟩ = some c6) ∧ ∀ o, w.frozen? ⟨B, o, none⟩ = false
theorem Seven.kp {b B : Nat} {w w' : World} {c0 c1 c2 c3 c4 c5 c6 : Value} (h : Seven w B c0 c1 c2 c3 c4 c5 c6) (k : Kp b w w') (h1 : b < B) (h2 : B < w.heap.size) : Seven w' B c0 c1 c2 c3 c4 c5 c6 := by
  obtain ⟨⟨a0, a1, a2, a3, a4, a5, a6⟩, hf⟩ := h
  have e := kfar k h1 h2
  exact ⟨⟨(e _).trans a0, (e _).trans a1, (e _).trans a2, (e _).trans a3, (e _).trans a4, (e _).trans a5, (e _).trans a6⟩, fun o => (k.frozen (p := ⟨B, o, none⟩) h2 (by show B ≠ b; omega)).trans (hf o)⟩
theorem Seven.other {B k o : Nat} {w : World} {u c0 c1 c2 c3 c4 c5 c6 : Value} (h : Seven w B c0 c1 c2 c3 c4 c5 c6) (h1 : k ≠ B) : Seven (w.setCell ⟨k, o, none⟩ u) B c0 c1 c2 c3 c4 c5 c6 := by
  obtain ⟨⟨a0, a1, a2, a3, a4, a5, a6⟩, hf⟩ := h
  have e := fun j => sfar w k o B j u h1
  exact ⟨⟨(e _).trans a0, (e _).trans a1, (e _).trans a2, (e _).trans a3, (e _).trans a4, (e _).trans a5, (e _).trans a6⟩, fun o' => by rw [World.frozen?_setCell]; exact hf o'⟩
theorem Seven.new (w : World) (c0 c1 c2 c3 c4 c5 c6 : Value) (t : TypeId) : Seven (w.alloc (.cells #[c0, c1, c2, c3, c4, c5, c6] t)) w.heap.size c0 c1 c2 c3 c4 c5 c6 := by
  refine ⟨⟨by simp, by simp, by simp, by simp, by simp, by simp, by simp⟩, fun o => by simp⟩
theorem Seven.some {w : World} {B : Nat} {c0 c1 c2 c3 c4 c5 c6 : Value} (h : Seven w B c0 c1 c2 c3 c4 c5 c6) : ∀ j, j < 7 → ∃ u, w.cell? ⟨B, j, none⟩ = Option.some u := by
  obtain ⟨⟨a0, a1, a2, a3, a4, a5, a6⟩, hf⟩ := h
  intro j hj
  match j, hj with
  | 0, _ => exact ⟨_, a0⟩
  | 1, _ => exact ⟨_, a1⟩
  | 2, _ => exact ⟨_, a2⟩
  | 3, _ => exact ⟨_, a3⟩
  | 4, _ => exact ⟨_, a4⟩
  | 5, _ => exact ⟨_, a5⟩
  | 6, _ => exact ⟨_, a6⟩
theorem Seven.alloc {w : World} {B : Nat} {c0 c1 c2 c3 c4 c5 c6 : Value} (h : Seven w B c0 c1 c2 c3 c4 c5 c6) (hB : B < w.heap.size) (o : Obj) : Seven (w.alloc o) B c0 c1 c2 c3 c4 c5 c6 := by
  obtain ⟨⟨a0, a1, a2, a3, a4, a5, a6⟩, hf⟩ := h
  have e := fun j => afar w o B j hB
  exact ⟨⟨(e _).trans a0, (e _).trans a1, (e _).trans a2, (e _).trans a3, (e _).trans a4, (e _).trans a5, (e _).trans a6⟩, fun j => ((below_alloc w o).frozen (p := ⟨B, j, none⟩) hB).trans (hf j)⟩
theorem Seven.put {X : World} {B : Nat} {o0 o1 o2 o3 o4 o5 o6 : Value} (h : Seven X B o0 o1 o2 o3 o4 o5 o6) (c0 c1 c2 c3 c4 c5 c6 : Value) : Seven (((((((X.setCell ⟨B, 0, none⟩ c0).setCell ⟨B, 1, none⟩ c1).setCell ⟨B, 2, none⟩ c2).setCell ⟨B, 3, none⟩ c3).setCell ⟨B, 4, none⟩ c4).setCell ⟨B, 5, none⟩ c5).setCell ⟨B, 6, none⟩ c6) B c0 c1 c2 c3 c4 c5 c6 := by
  have hx := h.some
  refine ⟨⟨by rw [set_other _ _ _ _ _ (by omega), set_other _ _ _ _ _ (by omega), set_other _ _ _ _ _ (by omega), set_other _ _ _ _ _ (by omega), set_other _ _ _ _ _ (by omega), set_other _ _ _ _ _ (by omega)]; exact set_same _ _ _ (by exact hx 0 (by omega)), by rw [set_other _ _ _ _ _ (by omega), set_other _ _ _ _ _ (by omega), set_other _ _ _ _ _ (by omega), set_other _ _ _ _ _ (by omega), set_other _ _ _ _ _ (by omega)]; exact set_same _ _ _ (by rw [set_other _ _ _ _ _ (by omega)]; exact hx 1 (by omega)), by rw [set_other _ _ _ _ _ (by omega), set_other _ _ _ _ _ (by omega), set_other _ _ _ _ _ (by omega), set_other _ _ _ _ _ (by omega)]; exact set_same _ _ _ (by rw [set_other _ _ _ _ _ (by omega), set_other _ _ _ _ _ (by omega)]; exact hx 2 (by omega)), by rw [set_other _ _ _ _ _ (by omega), set_other _ _ _ _ _ (by omega), set_other _ _ _ _ _ (by omega)]; exact set_same _ _ _ (by rw [set_other _ _ _ _ _ (by omega), set_other _ _ _ _ _ (by omega), set_other _ _ _ _ _ (by omega)]; exact hx 3 (by omega)), by rw [set_other _ _ _ _ _ (by omega), set_other _ _ _ _ _ (by omega)]; exact set_same _ _ _ (by rw [set_other _ _ _ _ _ (by omega), set_other _ _ _ _ _ (by omega), set_other _ _ _ _ _ (by omega), set_other _ _ _ _ _ (by omega)]; exact hx 4 (by omega)), by rw [set_other _ _ _ _ _ (by omega)]; exact set_same _ _ _ (by rw [set_other _ _ _ _ _ (by omega), set_other _ _ _ _ _ (by omega), set_other _ _ _ _ _ (by omega), set_other _ _ _ _ _ (by omega), set_other _ _ _ _ _ (by omega)]; exact hx 5 (by omega)), by exact set_same _ _ _ (by rw [set_other _ _ _ _ _ (by omega), set_other _ _ _ _ _ (by omega), set_other _ _ _ _ _ (by omega), set_other _ _ _ _ _ (by omega), set_other _ _ _ _ _ (by omega), set_other _ _ _ _ _ (by omega)]; exact hx 6 (by omega))⟩, fun o => ?_⟩
  rw [World.frozen?_setCell, World.frozen?_setCell, World.frozen?_setCell, World.frozen?_setCell, World.frozen?_setCell, World.frozen?_setCell, World.frozen?_setCell]; exact h.2 o
theorem Seven.far7 {X : World} {B B' : Nat} {o0 o1 o2 o3 o4 o5 o6 : Value} (h : Seven X B' o0 o1 o2 o3 o4 o5 o6) (hne : B ≠ B') (c0 c1 c2 c3 c4 c5 c6 : Value) : Seven (((((((X.setCell ⟨B, 0, none⟩ c0).setCell ⟨B, 1, none⟩ c1).setCell ⟨B, 2, none⟩ c2).setCell ⟨B, 3, none⟩ c3).setCell ⟨B, 4, none⟩ c4).setCell ⟨B, 5, none⟩ c5).setCell ⟨B, 6, none⟩ c6) B' o0 o1 o2 o3 o4 o5 o6 :=
  ((((((h.other hne).other hne).other hne).other hne).other hne).other hne).other hne

theorem same7 {P : Nat → Prop} {B : Nat} (h : ¬ P B) (X : World) (c0 c1 c2 c3 c4 c5 c6 : Value) : Same P X (((((((X.setCell ⟨B, 0, none⟩ c0).setCell ⟨B, 1, none⟩ c1).setCell ⟨B, 2, none⟩ c2).setCell ⟨B, 3, none⟩ c3).setCell ⟨B, 4, none⟩ c4).setCell ⟨B, 5, none⟩ c5).setCell ⟨B, 6, none⟩ c6) :=
  (((((((same_set P _ B 0 c0 h).trans (same_set P _ B 1 c1 h)).trans (same_set P _ B 2 c2 h)).trans (same_set P _ B 3 c3 h)).trans (same_set P _ B 4 c4 h)).trans (same_set P _ B 5 c5 h)).trans (same_set P _ B 6 c6 h))
theorem fv_inj {k : Int} {p : Option Addr} {n c : Nat} {r a1 a2 a3 a4 : Int} {cs : List Value} (h : Value.agg #[.int .i64 k, .slice p n c, .int .i64 r, .int .i64 a1, .int .i64 a2, .int .i64 a3, .int .i64 a4] = .agg cs.toArray) : cs = fv k p n c r a1 a2 a3 a4 := by
  have e3 := congrArg Array.toList (Value.agg.inj h)
  rw [List.toList_toArray] at e3; exact e3.symm

theorem chain_andrel (hk : AllTok toks) {b B lo : Nat} {wr w3 w4 : World} {σ σ2 σ4 : PSt} {d0 d2 d3 d4 d5 d6 e0 e2 e3 e4 e5 e6 : Int} {dp ep : Option Addr} {dn dc en ec : Nat}
    (ho : Ok toks.length σ2) (hkd : kd (T3 toks len) σ2.pos = 24) (hG4 : Goes toks.length (σ2.adv (T3 toks len)) σ4)
    (hC2 : σ2.e = 0 → ∃ F, (∀ h k', Rd toks (.partL F) σ2.pos h k' → Rd toks .part σ.pos h k') ∧ IsF wr (fun g => lo < g ∧ g ≠ B) F (fv d0 dp dn dc d2 d3 d4 d5 d6))
    (hR4 : σ4.e = 0 → FR toks .fac (σ2.adv (T3 toks len)).pos (fun g => w3.drew.heap.size ≤ g) w4 (.agg #[.int .i64 e0, .slice ep en ec, .int .i64 e2, .int .i64 e3, .int .i64 e4, .int .i64 e5, .int .i64 e6]) σ4)
    (hK5 : Kp b wr w4) (hbl : b ≤ lo) (hbB : b < B) (hB3 : B < w3.heap.size) (hlB : lo < B) (hB4 : B < w4.heap.size) (he : σ4.e = 0) (t : TypeId) :
    ∃ F, (∀ h k', Rd toks (.partL F) σ4.pos h k' → Rd toks .part σ.pos h k') ∧ IsF ((((((((w4.setCell ⟨B, 0, none⟩ (.int .i64 4)).setCell ⟨B, 1, none⟩ (.slice (some ⟨w4.heap.size, 0, none⟩) 2 2)).setCell ⟨B, 2, none⟩ (.int .i64 0)).setCell ⟨B, 3, none⟩ (.int .i64 0)).setCell ⟨B, 4, none⟩ (.int .i64 0)).setCell ⟨B, 5, none⟩ (.int .i64 0)).setCell ⟨B, 6, none⟩ (.int .i64 0)).alloc (.cells #[.int .i64 d0, .slice dp dn dc, .int .i64 d2, .int .i64 d3, .int .i64 d4, .int .i64 d5, .int .i64 d6, .int .i64 e0, .slice ep en ec, .int .i64 e2, .int .i64 e3, .int .i64 e4, .int .i64 e5, .int .i64 e6] t)) (fun g => lo < g ∧ g ≠ B) F (fv 4 (some ⟨w4.heap.size, 0, none⟩) 2 2 0 0 0 0 0) := by
  have hea := (hG4.2.2 he).1
  have he2 : σ2.e = 0 := (adv_e (T3 toks len) σ2).1 ▸ hea
  obtain ⟨F, hF, mF⟩ := hC2 he2
  obtain ⟨G, cs, e1, hG, mG⟩ := hR4 he
  have ecs := fv_inj e1
  subst ecs
  have hap := adv_pos (T3 toks len) σ2 (by rw [hkd]; omega)
  rw [hap] at hG
  have hs := (lit_at (len := len) hk ho.1 (c := [97, 110, 100]) (n := 24) (by decide)).1 hkd
  refine ⟨.and F G, fun h k' hL => hF h k' (.partS hs hG hL), ?_⟩
  have m1 := (mF.same (hK5.same (P := fun g => lo < g ∧ g ≠ B) (fun h => by omega)))
  have m2 : IsF w4 (fun g => lo < g ∧ g ≠ B) G (fv e0 ep en ec e2 e3 e4 e5 e6) := mG.mono (fun g h1 h2 => by have e9 : w3.drew.heap.size = w3.heap.size := rfl; rw [e9] at h1; exact ⟨by omega, by omega⟩)
  have s7 := same7 (P := fun g => lo < g ∧ g ≠ B) (B := B) (fun h => h.2 rfl) w4 (.int .i64 4) (.slice (some ⟨w4.heap.size, 0, none⟩) 2 2) (.int .i64 0) (.int .i64 0) (.int .i64 0) (.int .i64 0) (.int .i64 0)
  have hz : (((((((w4.setCell ⟨B, 0, none⟩ (.int .i64 4)).setCell ⟨B, 1, none⟩ (.slice (some ⟨w4.heap.size, 0, none⟩) 2 2)).setCell ⟨B, 2, none⟩ (.int .i64 0)).setCell ⟨B, 3, none⟩ (.int .i64 0)).setCell ⟨B, 4, none⟩ (.int .i64 0)).setCell ⟨B, 5, none⟩ (.int .i64 0)).setCell ⟨B, 6, none⟩ (.int .i64 0)).heap.size = w4.heap.size := by rw [ssize, ssize, ssize, ssize, ssize, ssize, ssize]
  generalize ((((((w4.setCell ⟨B, 0, none⟩ (.int .i64 4)).setCell ⟨B, 1, none⟩ (.slice (some ⟨w4.heap.size, 0, none⟩) 2 2)).setCell ⟨B, 2, none⟩ (.int .i64 0)).setCell ⟨B, 3, none⟩ (.int .i64 0)).setCell ⟨B, 4, none⟩ (.int .i64 0)).setCell ⟨B, 5, none⟩ (.int .i64 0)).setCell ⟨B, 6, none⟩ (.int .i64 0) = X at *
  have sA := same_alloc (fun g => lo < g ∧ g ≠ B) X (.cells #[.int .i64 d0, .slice dp dn dc, .int .i64 d2, .int .i64 d3, .int .i64 d4, .int .i64 d5, .int .i64 d6, .int .i64 e0, .slice ep en ec, .int .i64 e2, .int .i64 e3, .int .i64 e4, .int .i64 e5, .int .i64 e6] t)
  refine ⟨w4.heap.size, 2, 0, 0, 0, 0, 0, fv d0 dp dn dc d2 d3 d4 d5 d6, fv e0 ep en ec e2 e3 e4 e5 e6, rfl, ⟨by omega, by omega⟩, by rw [asize, hz]; omega, by omega, by decide, ?_, ?_, (m1.same s7).same sA, (m2.same s7).same sA⟩
  · intro j v hv
    rw [← hz, World.cell?_alloc_at _ _ _ _ rfl]
    unfold fv at hv
    match j, hv with
    | 0, hv => exact hv
    | 1, hv => exact hv
    | 2, hv => exact hv
    | 3, hv => exact hv
    | 4, hv => exact hv
    | 5, hv => exact hv
    | 6, hv => exact hv
    | j + 7, hv => simp at hv
  · intro j v hv
    rw [← hz, World.cell?_alloc_at _ _ _ _ rfl]
    unfold fv at hv
    match j, hv with
    | 0, hv => exact hv
    | 1, hv => exact hv
    | 2, hv => exact hv
    | 3, hv => exact hv
    | 4, hv => exact hv
    | 5, hv => exact hv
    | 6, hv => exact hv
    | j + 7, hv => simp at hv

set_option maxRecDepth 100000 in
set_option maxHeartbeats 2000000 in
theorem chain_and (hk : AllTok toks) (hn : toks.length ≤ 300) (b tb cap r : Nat) (ex : Int)
    (LK : ∀ (w : World) (σ : PSt), At w b tb cap (T3 toks len) σ → Ok toks.length σ → toks.length - σ.pos ≤ r → Calls Tryz.prog 224 #[.pointer (some ⟨b, 0, none⟩)] w (PPost b tb cap toks len σ w formV (Link toks len ex σ) (FR toks .fac σ.pos (fun g => w.heap.size ≤ g))))
    (w : World) (σ : PSt) (h : At w b tb cap (T3 toks len) σ) (ho : Ok toks.length σ) (hr : toks.length - σ.pos ≤ r) :
    Calls Tryz.prog 156 #[.pointer (some ⟨b, 0, none⟩), .int .i64 24, .int .i64 4, .func (.func 224) #[.pointer (some ⟨b, 0, none⟩)] #[]] w (PPost b tb cap toks len σ w formV (fun σ' => Link toks len ex σ σ' ∧ kd (T3 toks len) σ'.pos ≠ 24) (FR toks .part σ.pos (fun g => w.heap.size ≤ g))) := by
  have HL : Hid (∀ (w : World) (σ : PSt), At w b tb cap (T3 toks len) σ → Ok toks.length σ → toks.length - σ.pos ≤ r → Calls Tryz.prog 224 #[.pointer (some ⟨b, 0, none⟩)] w (PPost b tb cap toks len σ w formV (Link toks len ex σ) (FR toks .fac σ.pos (fun g => w.heap.size ≤ g)))) := LK
  have H : Hid (At w b tb cap (T3 toks len) σ) := h
  have HO : Hid (Ok toks.length σ) := ho
  have HR : Hid (toks.length - σ.pos ≤ r) := hr
  have hb := h.hb
  have htb := h.htb
  clear LK h ho hr
  go_enter Tryz.func156, Tryz.ntmps156
  go_wp2_with fail
  refine (HL.out _ σ (H.out.alloc _) HO.out HR.out).mono ?_
  rintro e w1 ⟨v1, σ1, rfl, ⟨c0, cp, cn, cc, c2, c3, c4, c5, c6, rfl⟩, hA1, hG1, hK1, hS1, hR1⟩
  have HC1 : Hid (σ1.e = 0 → ∃ F, (∀ h k', Rd toks (.partL F) σ1.pos h k' → Rd toks .part σ.pos h k') ∧ IsF w1 (fun g => w.heap.size < g ∧ g ≠ w1.heap.size) F (fv c0 cp cn cc c2 c3 c4 c5 c6)) := fun he => by
    obtain ⟨F, cs, e1, hrd, hF⟩ := hR1 he
    have e2 : cs = fv c0 cp cn cc c2 c3 c4 c5 c6 := by
      have e3 := congrArg Array.toList (Value.agg.inj e1)
      rw [List.toList_toArray] at e3; exact e3.symm
    subst e2
    refine ⟨F, fun h k' hL => .part hrd hL, hF.mono (fun g h1 h2 => ?_)⟩
    rw [asize] at h1
    exact ⟨by omega, by omega⟩
  clear hR1
  have hz1 : w.heap.size < w1.heap.size := by have := hK1.size; simp at this; omega
  have HS1 : Hid (Link toks len ex σ σ1) := hS1
  have H0 : Hid (Seven w1 w.heap.size (.int .i64 0) (.slice none 0 0) (.int .i64 0) (.int .i64 0) (.int .i64 0) (.int .i64 0) (.int .i64 0)) := (Seven.new w _ _ _ _ _ _ _ _).kp hK1 hb (by simp)
  have hKw : Kp b w w1 := ((Kp.refl b w).alloc _).trans hK1
  have HK1 : Hid (Kp b w w1) := hKw
  have HA1 : Hid (At w1 b tb cap (T3 toks len) σ1) := hA1
  have HG1 : Hid (Goes toks.length σ σ1) := hG1
  clear hS1 hK1 hKw hA1 hG1
  go_wp2_with fail
  go_loopg [] (toks.length - σ1.pos) (fun g wr => ∃ (σ2 : PSt) (d0 : Int) (dp : Option Addr) (dn dc : Nat) (d2 d3 d4 d5 d6 : Int), Hid (σ2.e = 0 → ∃ F, (∀ h k', Rd toks (.partL F) σ2.pos h k' → Rd toks .part σ.pos h k') ∧ IsF wr (fun g => w.heap.size < g ∧ g ≠ w1.heap.size) F (fv d0 dp dn dc d2 d3 d4 d5 d6)) ∧ At wr b tb cap (T3 toks len) σ2 ∧ Goes toks.length σ σ2 ∧ Link toks len ex σ σ2 ∧ g = toks.length - σ2.pos ∧ Kp b w wr ∧ w1.heap.size < wr.heap.size ∧ Seven wr w1.heap.size (.int .i64 d0) (.slice dp dn dc) (.int .i64 d2) (.int .i64 d3) (.int .i64 d4) (.int .i64 d5) (.int .i64 d6) ∧ Seven wr w.heap.size (.int .i64 0) (.slice none 0 0) (.int .i64 0) (.int .i64 0) (.int .i64 0) (.int .i64 0) (.int .i64 0))
  case atStart => exact ⟨σ1, c0, cp, cn, cc, c2, c3, c4, c5, c6, (fun he => by obtain ⟨F, h1, h2⟩ := HC1.out he; exact ⟨F, h1, h2.same (same_alloc _ _ _)⟩), HA1.out.alloc _, HG1.out, HS1.out, rfl, HK1.out.alloc _, by simp, Seven.new _ _ _ _ _ _ _ _ _, H0.out.alloc hz1 _⟩
  case round =>
    obtain ⟨σ2, d0, dp, dn, dc, d2, d3, d4, d5, d6, HC2, hA2, hG2, hL2, hg, hK2, hz2, h7, h0⟩ := hrel
    have HA2 : Hid (At wr b tb cap (T3 toks len) σ2) := hA2
    have HG2 : Hid (Goes toks.length σ σ2) := hG2
    have HL2 : Hid (Link toks len ex σ σ2) := hL2
    have Hg : Hid (gk = toks.length - σ2.pos) := hg
    have HK2 : Hid (Kp b w wr) := hK2
    have H7 : Hid (Seven wr w1.heap.size (.int .i64 d0) (.slice dp dn dc) (.int .i64 d2) (.int .i64 d3) (.int .i64 d4) (.int .i64 d5) (.int .i64 d6)) := h7
    have H00 : Hid (Seven wr w.heap.size (.int .i64 0) (.slice none 0 0) (.int .i64 0) (.int .i64 0) (.int .i64 0) (.int .i64 0) (.int .i64 0)) := h0
    clear hA2 hG2 hL2 hg hK2 h7 h0
    by_cases kb : kd (T3 toks len) σ2.pos = 24
    · have HKB : Hid (kd (T3 toks len) σ2.pos = 24) := kb
      clear kb
      go_wp2_with fail
      refine (take_yes hn b tb cap 24 _ σ2 HA2.out HG2.out.1 HKB.out).mono ?_
      rintro e w3 ⟨rfl, hA3, hK3⟩
      have HA3 : Hid (At w3 b tb cap (T3 toks len) (σ2.adv (T3 toks len))) := hA3
      have HK3 : Hid (Kp b wr w3) := hK3
      have hz3 : w1.heap.size < w3.heap.size := by have := hK3.size; omega
      obtain ⟨⟨a0, a1, a2, a3, a4, a5, a6⟩, haf⟩ := H7.out.kp hK3 (by omega) hz2
      have hlt : b < w1.heap.size := by omega
      have H73 : Hid (Seven w3.drew w1.heap.size (.int .i64 d0) (.slice dp dn dc) (.int .i64 d2) (.int .i64 d3) (.int .i64 d4) (.int .i64 d5) (.int .i64 d6)) := (H7.out.kp hK3 hlt hz2).kp ((Kp.refl b w3).drew) hlt hz3
      clear hA3 hK3
      have hf0 := haf 0
      have hf1 := haf 1
      have hf2 := haf 2
      have hf3 := haf 3
      have hf4 := haf 4
      have hf5 := haf 5
      have hf6 := haf 6
      go_wp2_with fail
      go_region_with (first | (go_at_call 224; refine (HL.out _ _ HA3.out.drew (goes_adv hk HG2.out.1).1 ?_).mono ?_; (have := HR.out; have := HG1.out.2.1; have := (Goes.trans HG2.out (goes_adv (len := len) hk HG2.out.1)).2.1; omega); rintro e w4 ⟨v4, σ4, rfl, ⟨e0, ep, en, ec, e2, e3, e4, e5, e6, rfl⟩, hA4, hG4, hK4, hS4, hR4⟩; obtain ⟨⟨q0, q1, q2, q3, q4, q5, q6⟩, hqf⟩ := H73.out.kp hK4 hlt hz3; have hz4 : w1.heap.size < w4.heap.size := by have := hK4.size; exact Nat.lt_of_lt_of_le hz3 this))
      all_goals
        have HS4 : Hid (Link toks len ex (σ2.adv (T3 toks len)) σ4) := hS4
        have HR4 : Hid (σ4.e = 0 → FR toks .fac (σ2.adv (T3 toks len)).pos (fun g => w3.drew.heap.size ≤ g) w4 (.agg #[.int .i64 e0, .slice ep en ec, .int .i64 e2, .int .i64 e3, .int .i64 e4, .int .i64 e5, .int .i64 e6]) σ4) := hR4
        clear hR4
        have HQ7 : Hid (Seven w4 w1.heap.size (.int .i64 d0) (.slice dp dn dc) (.int .i64 d2) (.int .i64 d3) (.int .i64 d4) (.int .i64 d5) (.int .i64 d6)) := ⟨⟨q0, q1, q2, q3, q4, q5, q6⟩, hqf⟩
        have hK5 : Kp b wr w4 := (HK3.out.drew).trans hK4
        have HK5 : Hid (Kp b wr w4) := hK5
        have HQ0 : Hid (Seven w4 w.heap.size (.int .i64 0) (.slice none 0 0) (.int .i64 0) (.int .i64 0) (.int .i64 0) (.int .i64 0) (.int .i64 0)) := H00.out.kp hK5 hb (by omega)
        have HA4 : Hid (At w4 b tb cap (T3 toks len) σ4) := hA4
        have HG4 : Hid (Goes toks.length (σ2.adv (T3 toks len)) σ4) := hG4
        have hz5 : w.heap.size < w4.heap.size := by omega
        clear hS4 hK4 hK5 hA4 hG4 q0 q1 q2 q3 q4 q5 q6 hqf a0 a1 a2 a3 a4 a5 a6 haf hf0 hf1 hf2 hf3 hf4 hf5 hf6
        go_wp2_with fail
        go_roundg (toks.length - σ4.pos)
        case measure =>
          have h1 := Hg.out
          have h2 := HG4.out.2.1
          have h3 := adv_pos (T3 toks len) σ2 (by rw [HKB.out]; omega)
          have h4 := (kd_lt (len := len) hk HG2.out.1 (by rw [HKB.out]; omega)).1
          omega
        case rel =>
          have hg5 := HG2.out.trans ((goes_adv (len := len) hk HG2.out.1).trans HG4.out)
          have hp : w1.heap.size < (((((((w4.setCell ⟨w1.heap.size, 0, none⟩ (.int .i64 4)).setCell ⟨w1.heap.size, 1, none⟩ (.slice (some ⟨w4.heap.size, 0, none⟩) 2 2)).setCell ⟨w1.heap.size, 2, none⟩ (.int .i64 0)).setCell ⟨w1.heap.size, 3, none⟩ (.int .i64 0)).setCell ⟨w1.heap.size, 4, none⟩ (.int .i64 0)).setCell ⟨w1.heap.size, 5, none⟩ (.int .i64 0)).setCell ⟨w1.heap.size, 6, none⟩ (.int .i64 0)).heap.size := by rw [ssize, ssize, ssize, ssize, ssize, ssize, ssize]; exact hz4
          refine ⟨σ4, 4, some ⟨w4.heap.size, 0, none⟩, 2, 2, 0, 0, 0, 0, 0, ?_, (HA4.out.w7 w1.heap.size (.int .i64 4) (.slice (some ⟨w4.heap.size, 0, none⟩) 2 2) (.int .i64 0) (.int .i64 0) (.int .i64 0) (.int .i64 0) (.int .i64 0) hlt (by omega)).alloc _, hg5, ⟨link_step hk HL2.out.1 HG2.out.1 (by omega) HKB.out HS4.out, HS4.out.2⟩, rfl, ((HK2.out.trans HK5.out).w7 w1.heap.size (.int .i64 4) (.slice (some ⟨w4.heap.size, 0, none⟩) 2 2) (.int .i64 0) (.int .i64 0) (.int .i64 0) (.int .i64 0) (.int .i64 0) (by omega)).alloc _, ?_, (HQ7.out.put (.int .i64 4) (.slice (some ⟨w4.heap.size, 0, none⟩) 2 2) (.int .i64 0) (.int .i64 0) (.int .i64 0) (.int .i64 0) (.int .i64 0)).alloc hp _, (HQ0.out.far7 (by omega) (.int .i64 4) (.slice (some ⟨w4.heap.size, 0, none⟩) 2 2) (.int .i64 0) (.int .i64 0) (.int .i64 0) (.int .i64 0) (.int .i64 0)).alloc (Nat.lt_trans hz1 hp) _⟩
          · refine fun he => chain_andrel hk HG2.out.1 HKB.out HG4.out HC2.out HR4.out HK5.out (by omega) hlt (by omega) (by omega) (by omega) he _
          rw [asize]; omega
    · have HKB : Hid (¬ kd (T3 toks len) σ2.pos = 24) := kb
      clear kb
      go_wp2_with fail
      refine (take_no hn b tb cap 24 _ σ2 HA2.out HG2.out.1 HKB.out).mono ?_
      rintro e w3 ⟨rfl, hA3, hK3⟩
      have HA3 : Hid (At w3 b tb cap (T3 toks len) σ2) := hA3
      have HK3 : Hid (Kp b wr w3) := hK3
      have hz3 : w1.heap.size < w3.heap.size := by have := hK3.size; omega
      obtain ⟨⟨a0, a1, a2, a3, a4, a5, a6⟩, haf⟩ := H7.out.kp hK3 (by omega) hz2
      have h03 := H00.out.kp hK3 hb (by omega)
      have HZ : Hid (Seven w3 w.heap.size (.int .i64 0) (.slice none 0 0) (.int .i64 0) (.int .i64 0) (.int .i64 0) (.int .i64 0) (.int .i64 0)) := h03
      obtain ⟨⟨z0, z1, z2, z3, z4, z5, z6⟩, hzf⟩ := h03
      have hf0 := hzf 0
      have hf1 := hzf 1
      have hf2 := hzf 2
      have hf3 := hzf 3
      have hf4 := hzf 4
      have hf5 := hzf 5
      have hf6 := hzf 6
      clear hA3 hK3 haf hzf
      go_wp2_with fail
      refine post7 Tryz.results156 rfl HZ.out.some ⟨_, σ2, rfl, ⟨_, _, _, _, _, _, _, _, _, rfl⟩, HA3.out.w7 _ _ _ _ _ _ _ _ hb htb, HG2.out, (HK2.out.trans HK3.out).w7 _ _ _ _ _ _ _ _ (Nat.le_refl _), ⟨HL2.out, HKB.out⟩, fun he => ?_⟩
      obtain ⟨F, h1, h2⟩ := HC2.out he
      refine ⟨F, _, rfl, h1 _ _ (.partE (fun e => HKB.out ((lit_at (len := len) hk HG2.out.1.1 (c := [97, 110, 100]) (n := 24) (by decide)).2 e))), ?_⟩
      have hs1 := h2.same (HK3.out.same (fun h => by omega))
      refine (IsF.same (same7 (fun h => by omega) _ _ _ _ _ _ _ _) hs1).mono (fun g h1 h2 => by omega)

theorem chain_orrel (hk : AllTok toks) {b B lo : Nat} {wr w3 w4 : World} {σ σ2 σ4 : PSt} {d0 d2 d3 d4 d5 d6 e0 e2 e3 e4 e5 e6 : Int} {dp ep : Option Addr} {dn dc en ec : Nat}
    (ho : Ok toks.length σ2) (hkd : kd (T3 toks len) σ2.pos = 23) (hG4 : Goes toks.length (σ2.adv (T3 toks len)) σ4)
    (hC2 : σ2.e = 0 → ∃ F, (∀ h k', Rd toks (.formL F) σ2.pos h k' → Rd toks .form σ.pos h k') ∧ IsF wr (fun g => lo < g ∧ g ≠ B) F (fv d0 dp dn dc d2 d3 d4 d5 d6))
    (hR4 : σ4.e = 0 → FR toks .part (σ2.adv (T3 toks len)).pos (fun g => w3.drew.heap.size ≤ g) w4 (.agg #[.int .i64 e0, .slice ep en ec, .int .i64 e2, .int .i64 e3, .int .i64 e4, .int .i64 e5, .int .i64 e6]) σ4)
    (hK5 : Kp b wr w4) (hbl : b ≤ lo) (hbB : b < B) (hB3 : B < w3.heap.size) (hlB : lo < B) (hB4 : B < w4.heap.size) (he : σ4.e = 0) (t : TypeId) :
    ∃ F, (∀ h k', Rd toks (.formL F) σ4.pos h k' → Rd toks .form σ.pos h k') ∧ IsF ((((((((w4.setCell ⟨B, 0, none⟩ (.int .i64 5)).setCell ⟨B, 1, none⟩ (.slice (some ⟨w4.heap.size, 0, none⟩) 2 2)).setCell ⟨B, 2, none⟩ (.int .i64 0)).setCell ⟨B, 3, none⟩ (.int .i64 0)).setCell ⟨B, 4, none⟩ (.int .i64 0)).setCell ⟨B, 5, none⟩ (.int .i64 0)).setCell ⟨B, 6, none⟩ (.int .i64 0)).alloc (.cells #[.int .i64 d0, .slice dp dn dc, .int .i64 d2, .int .i64 d3, .int .i64 d4, .int .i64 d5, .int .i64 d6, .int .i64 e0, .slice ep en ec, .int .i64 e2, .int .i64 e3, .int .i64 e4, .int .i64 e5, .int .i64 e6] t)) (fun g => lo < g ∧ g ≠ B) F (fv 5 (some ⟨w4.heap.size, 0, none⟩) 2 2 0 0 0 0 0) := by
  have hea := (hG4.2.2 he).1
  have he2 : σ2.e = 0 := (adv_e (T3 toks len) σ2).1 ▸ hea
  obtain ⟨F, hF, mF⟩ := hC2 he2
  obtain ⟨G, cs, e1, hG, mG⟩ := hR4 he
  have ecs := fv_inj e1
  subst ecs
  have hap := adv_pos (T3 toks len) σ2 (by rw [hkd]; omega)
  rw [hap] at hG
  have hs := (lit_at (len := len) hk ho.1 (c := [111, 114]) (n := 23) (by decide)).1 hkd
  refine ⟨.or F G, fun h k' hL => hF h k' (.formS hs hG hL), ?_⟩
  have m1 := (mF.same (hK5.same (P := fun g => lo < g ∧ g ≠ B) (fun h => by omega)))
  have m2 : IsF w4 (fun g => lo < g ∧ g ≠ B) G (fv e0 ep en ec e2 e3 e4 e5 e6) := mG.mono (fun g h1 h2 => by have e9 : w3.drew.heap.size = w3.heap.size := rfl; rw [e9] at h1; exact ⟨by omega, by omega⟩)
  have s7 := same7 (P := fun g => lo < g ∧ g ≠ B) (B := B) (fun h => h.2 rfl) w4 (.int .i64 5) (.slice (some ⟨w4.heap.size, 0, none⟩) 2 2) (.int .i64 0) (.int .i64 0) (.int .i64 0) (.int .i64 0) (.int .i64 0)
  have hz : (((((((w4.setCell ⟨B, 0, none⟩ (.int .i64 5)).setCell ⟨B, 1, none⟩ (.slice (some ⟨w4.heap.size, 0, none⟩) 2 2)).setCell ⟨B, 2, none⟩ (.int .i64 0)).setCell ⟨B, 3, none⟩ (.int .i64 0)).setCell ⟨B, 4, none⟩ (.int .i64 0)).setCell ⟨B, 5, none⟩ (.int .i64 0)).setCell ⟨B, 6, none⟩ (.int .i64 0)).heap.size = w4.heap.size := by rw [ssize, ssize, ssize, ssize, ssize, ssize, ssize]
  generalize ((((((w4.setCell ⟨B, 0, none⟩ (.int .i64 5)).setCell ⟨B, 1, none⟩ (.slice (some ⟨w4.heap.size, 0, none⟩) 2 2)).setCell ⟨B, 2, none⟩ (.int .i64 0)).setCell ⟨B, 3, none⟩ (.int .i64 0)).setCell ⟨B, 4, none⟩ (.int .i64 0)).setCell ⟨B, 5, none⟩ (.int .i64 0)).setCell ⟨B, 6, none⟩ (.int .i64 0) = X at *
  have sA := same_alloc (fun g => lo < g ∧ g ≠ B) X (.cells #[.int .i64 d0, .slice dp dn dc, .int .i64 d2, .int .i64 d3, .int .i64 d4, .int .i64 d5, .int .i64 d6, .int .i64 e0, .slice ep en ec, .int .i64 e2, .int .i64 e3, .int .i64 e4, .int .i64 e5, .int .i64 e6] t)
  refine ⟨w4.heap.size, 2, 0, 0, 0, 0, 0, fv d0 dp dn dc d2 d3 d4 d5 d6, fv e0 ep en ec e2 e3 e4 e5 e6, rfl, ⟨by omega, by omega⟩, by rw [asize, hz]; omega, by omega, by decide, ?_, ?_, (m1.same s7).same sA, (m2.same s7).same sA⟩
  · intro j v hv
    rw [← hz, World.cell?_alloc_at _ _ _ _ rfl]
    unfold fv at hv
    match j, hv with
    | 0, hv => exact hv
    | 1, hv => exact hv
    | 2, hv => exact hv
    | 3, hv => exact hv
    | 4, hv => exact hv
    | 5, hv => exact hv
    | 6, hv => exact hv
    | j + 7, hv => simp at hv
  · intro j v hv
    rw [← hz, World.cell?_alloc_at _ _ _ _ rfl]
    unfold fv at hv
    match j, hv with
    | 0, hv => exact hv
    | 1, hv => exact hv
    | 2, hv => exact hv
    | 3, hv => exact hv
    | 4, hv => exact hv
    | 5, hv => exact hv
    | 6, hv => exact hv
    | j + 7, hv => simp at hv

set_option maxRecDepth 100000 in
set_option maxHeartbeats 2000000 in
theorem chain_or (hk : AllTok toks) (hn : toks.length ≤ 300) (b tb cap r : Nat) (ex : Int)
    (LK : ∀ (w : World) (σ : PSt), At w b tb cap (T3 toks len) σ → Ok toks.length σ → toks.length - σ.pos ≤ r → Calls Tryz.prog 157 #[.pointer (some ⟨b, 0, none⟩)] w (PPost b tb cap toks len σ w formV (Link toks len ex σ) (FR toks .part σ.pos (fun g => w.heap.size ≤ g))))
    (w : World) (σ : PSt) (h : At w b tb cap (T3 toks len) σ) (ho : Ok toks.length σ) (hr : toks.length - σ.pos ≤ r) :
    Calls Tryz.prog 156 #[.pointer (some ⟨b, 0, none⟩), .int .i64 23, .int .i64 5, .func (.func 157) #[.pointer (some ⟨b, 0, none⟩)] #[]] w (PPost b tb cap toks len σ w formV (fun σ' => Link toks len ex σ σ' ∧ kd (T3 toks len) σ'.pos ≠ 23) (FR toks .form σ.pos (fun g => w.heap.size ≤ g))) := by
  have HL : Hid (∀ (w : World) (σ : PSt), At w b tb cap (T3 toks len) σ → Ok toks.length σ → toks.length - σ.pos ≤ r → Calls Tryz.prog 157 #[.pointer (some ⟨b, 0, none⟩)] w (PPost b tb cap toks len σ w formV (Link toks len ex σ) (FR toks .part σ.pos (fun g => w.heap.size ≤ g)))) := LK
  have H : Hid (At w b tb cap (T3 toks len) σ) := h
  have HO : Hid (Ok toks.length σ) := ho
  have HR : Hid (toks.length - σ.pos ≤ r) := hr
  have hb := h.hb
  have htb := h.htb
  clear LK h ho hr
  go_enter Tryz.func156, Tryz.ntmps156
  go_wp2_with fail
  refine (HL.out _ σ (H.out.alloc _) HO.out HR.out).mono ?_
  rintro e w1 ⟨v1, σ1, rfl, ⟨c0, cp, cn, cc, c2, c3, c4, c5, c6, rfl⟩, hA1, hG1, hK1, hS1, hR1⟩
  have HC1 : Hid (σ1.e = 0 → ∃ F, (∀ h k', Rd toks (.formL F) σ1.pos h k' → Rd toks .form σ.pos h k') ∧ IsF w1 (fun g => w.heap.size < g ∧ g ≠ w1.heap.size) F (fv c0 cp cn cc c2 c3 c4 c5 c6)) := fun he => by
    obtain ⟨F, cs, e1, hrd, hF⟩ := hR1 he
    have e2 : cs = fv c0 cp cn cc c2 c3 c4 c5 c6 := by
      have e3 := congrArg Array.toList (Value.agg.inj e1)
      rw [List.toList_toArray] at e3; exact e3.symm
    subst e2
    refine ⟨F, fun h k' hL => .form hrd hL, hF.mono (fun g h1 h2 => ?_)⟩
    rw [asize] at h1
    exact ⟨by omega, by omega⟩
  clear hR1
  have hz1 : w.heap.size < w1.heap.size := by have := hK1.size; simp at this; omega
  have HS1 : Hid (Link toks len ex σ σ1) := hS1
  have H0 : Hid (Seven w1 w.heap.size (.int .i64 0) (.slice none 0 0) (.int .i64 0) (.int .i64 0) (.int .i64 0) (.int .i64 0) (.int .i64 0)) := (Seven.new w _ _ _ _ _ _ _ _).kp hK1 hb (by simp)
  have hKw : Kp b w w1 := ((Kp.refl b w).alloc _).trans hK1
  have HK1 : Hid (Kp b w w1) := hKw
  have HA1 : Hid (At w1 b tb cap (T3 toks len) σ1) := hA1
  have HG1 : Hid (Goes toks.length σ σ1) := hG1
  clear hS1 hK1 hKw hA1 hG1
  go_wp2_with fail
  go_loopg [] (toks.length - σ1.pos) (fun g wr => ∃ (σ2 : PSt) (d0 : Int) (dp : Option Addr) (dn dc : Nat) (d2 d3 d4 d5 d6 : Int), Hid (σ2.e = 0 → ∃ F, (∀ h k', Rd toks (.formL F) σ2.pos h k' → Rd toks .form σ.pos h k') ∧ IsF wr (fun g => w.heap.size < g ∧ g ≠ w1.heap.size) F (fv d0 dp dn dc d2 d3 d4 d5 d6)) ∧ At wr b tb cap (T3 toks len) σ2 ∧ Goes toks.length σ σ2 ∧ Link toks len ex σ σ2 ∧ g = toks.length - σ2.pos ∧ Kp b w wr ∧ w1.heap.size < wr.heap.size ∧ Seven wr w1.heap.size (.int .i64 d0) (.slice dp dn dc) (.int .i64 d2) (.int .i64 d3) (.int .i64 d4) (.int .i64 d5) (.int .i64 d6) ∧ Seven wr w.heap.size (.int .i64 0) (.slice none 0 0) (.int .i64 0) (.int .i64 0) (.int .i64 0) (.int .i64 0) (.int .i64 0))
  case atStart => exact ⟨σ1, c0, cp, cn, cc, c2, c3, c4, c5, c6, (fun he => by obtain ⟨F, h1, h2⟩ := HC1.out he; exact ⟨F, h1, h2.same (same_alloc _ _ _)⟩), HA1.out.alloc _, HG1.out, HS1.out, rfl, HK1.out.alloc _, by simp, Seven.new _ _ _ _ _ _ _ _ _, H0.out.alloc hz1 _⟩
  case round =>
    obtain ⟨σ2, d0, dp, dn, dc, d2, d3, d4, d5, d6, HC2, hA2, hG2, hL2, hg, hK2, hz2, h7, h0⟩ := hrel
    have HA2 : Hid (At wr b tb cap (T3 toks len) σ2) := hA2
    have HG2 : Hid (Goes toks.length σ σ2) := hG2
    have HL2 : Hid (Link toks len ex σ σ2) := hL2
    have Hg : Hid (gk = toks.length - σ2.pos) := hg
    have HK2 : Hid (Kp b w wr) := hK2
    have H7 : Hid (Seven wr w1.heap.size (.int .i64 d0) (.slice dp dn dc) (.int .i64 d2) (.int .i64 d3) (.int .i64 d4) (.int .i64 d5) (.int .i64 d6)) := h7
    have H00 : Hid (Seven wr w.heap.size (.int .i64 0) (.slice none 0 0) (.int .i64 0) (.int .i64 0) (.int .i64 0) (.int .i64 0) (.int .i64 0)) := h0
    clear hA2 hG2 hL2 hg hK2 h7 h0
    by_cases kb : kd (T3 toks len) σ2.pos = 23
    · have HKB : Hid (kd (T3 toks len) σ2.pos = 23) := kb
      clear kb
      go_wp2_with fail
      refine (take_yes hn b tb cap 23 _ σ2 HA2.out HG2.out.1 HKB.out).mono ?_
      rintro e w3 ⟨rfl, hA3, hK3⟩
      have HA3 : Hid (At w3 b tb cap (T3 toks len) (σ2.adv (T3 toks len))) := hA3
      have HK3 : Hid (Kp b wr w3) := hK3
      have hz3 : w1.heap.size < w3.heap.size := by have := hK3.size; omega
      obtain ⟨⟨a0, a1, a2, a3, a4, a5, a6⟩, haf⟩ := H7.out.kp hK3 (by omega) hz2
      have hlt : b < w1.heap.size := by omega
      have H73 : Hid (Seven w3.drew w1.heap.size (.int .i64 d0) (.slice dp dn dc) (.int .i64 d2) (.int .i64 d3) (.int .i64 d4) (.int .i64 d5) (.int .i64 d6)) := (H7.out.kp hK3 hlt hz2).kp ((Kp.refl b w3).drew) hlt hz3
      clear hA3 hK3
      have hf0 := haf 0
      have hf1 := haf 1
      have hf2 := haf 2
      have hf3 := haf 3
      have hf4 := haf 4
      have hf5 := haf 5
      have hf6 := haf 6
      go_wp2_with fail
      go_region_with (first | (go_at_call 157; refine (HL.out _ _ HA3.out.drew (goes_adv hk HG2.out.1).1 ?_).mono ?_; (have := HR.out; have := HG1.out.2.1; have := (Goes.trans HG2.out (goes_adv (len := len) hk HG2.out.1)).2.1; omega); rintro e w4 ⟨v4, σ4, rfl, ⟨e0, ep, en, ec, e2, e3, e4, e5, e6, rfl⟩, hA4, hG4, hK4, hS4, hR4⟩; obtain ⟨⟨q0, q1, q2, q3, q4, q5, q6⟩, hqf⟩ := H73.out.kp hK4 hlt hz3; have hz4 : w1.heap.size < w4.heap.size := by have := hK4.size; exact Nat.lt_of_lt_of_le hz3 this))
      all_goals
        have HS4 : Hid (Link toks len ex (σ2.adv (T3 toks len)) σ4) := hS4
        have HR4 : Hid (σ4.e = 0 → FR toks .part (σ2.adv (T3 toks len)).pos (fun g => w3.drew.heap.size ≤ g) w4 (.agg #[.int .i64 e0, .slice ep en ec, .int .i64 e2, .int .i64 e3, .int .i64 e4, .int .i64 e5, .int .i64 e6]) σ4) := hR4
        clear hR4
        have HQ7 : Hid (Seven w4 w1.heap.size (.int .i64 d0) (.slice dp dn dc) (.int .i64 d2) (.int .i64 d3) (.int .i64 d4) (.int .i64 d5) (.int .i64 d6)) := ⟨⟨q0, q1, q2, q3, q4, q5, q6⟩, hqf⟩
        have hK5 : Kp b wr w4 := (HK3.out.drew).trans hK4
        have HK5 : Hid (Kp b wr w4) := hK5
        have HQ0 : Hid (Seven w4 w.heap.size (.int .i64 0) (.slice none 0 0) (.int .i64 0) (.int .i64 0) (.int .i64 0) (.int .i64 0) (.int .i64 0)) := H00.out.kp hK5 hb (by omega)
        have HA4 : Hid (At w4 b tb cap (T3 toks len) σ4) := hA4
        have HG4 : Hid (Goes toks.length (σ2.adv (T3 toks len)) σ4) := hG4
        have hz5 : w.heap.size < w4.heap.size := by omega
        clear hS4 hK4 hK5 hA4 hG4 q0 q1 q2 q3 q4 q5 q6 hqf a0 a1 a2 a3 a4 a5 a6 haf hf0 hf1 hf2 hf3 hf4 hf5 hf6
        go_wp2_with fail
        go_roundg (toks.length - σ4.pos)
        case measure =>
          have h1 := Hg.out
          have h2 := HG4.out.2.1
          have h3 := adv_pos (T3 toks len) σ2 (by rw [HKB.out]; omega)
          have h4 := (kd_lt (len := len) hk HG2.out.1 (by rw [HKB.out]; omega)).1
          omega
        case rel =>
          have hg5 := HG2.out.trans ((goes_adv (len := len) hk HG2.out.1).trans HG4.out)
          have hp : w1.heap.size < (((((((w4.setCell ⟨w1.heap.size, 0, none⟩ (.int .i64 5)).setCell ⟨w1.heap.size, 1, none⟩ (.slice (some ⟨w4.heap.size, 0, none⟩) 2 2)).setCell ⟨w1.heap.size, 2, none⟩ (.int .i64 0)).setCell ⟨w1.heap.size, 3, none⟩ (.int .i64 0)).setCell ⟨w1.heap.size, 4, none⟩ (.int .i64 0)).setCell ⟨w1.heap.size, 5, none⟩ (.int .i64 0)).setCell ⟨w1.heap.size, 6, none⟩ (.int .i64 0)).heap.size := by rw [ssize, ssize, ssize, ssize, ssize, ssize, ssize]; exact hz4
          refine ⟨σ4, 5, some ⟨w4.heap.size, 0, none⟩, 2, 2, 0, 0, 0, 0, 0, ?_, (HA4.out.w7 w1.heap.size (.int .i64 5) (.slice (some ⟨w4.heap.size, 0, none⟩) 2 2) (.int .i64 0) (.int .i64 0) (.int .i64 0) (.int .i64 0) (.int .i64 0) hlt (by omega)).alloc _, hg5, ⟨link_step hk HL2.out.1 HG2.out.1 (by omega) HKB.out HS4.out, HS4.out.2⟩, rfl, ((HK2.out.trans HK5.out).w7 w1.heap.size (.int .i64 5) (.slice (some ⟨w4.heap.size, 0, none⟩) 2 2) (.int .i64 0) (.int .i64 0) (.int .i64 0) (.int .i64 0) (.int .i64 0) (by omega)).alloc _, ?_, (HQ7.out.put (.int .i64 5) (.slice (some ⟨w4.heap.size, 0, none⟩) 2 2) (.int .i64 0) (.int .i64 0) (.int .i64 0) (.int .i64 0) (.int .i64 0)).alloc hp _, (HQ0.out.far7 (by omega) (.int .i64 5) (.slice (some ⟨w4.heap.size, 0, none⟩) 2 2) (.int .i64 0) (.int .i64 0) (.int .i64 0) (.int .i64 0) (.int .i64 0)).alloc (Nat.lt_trans hz1 hp) _⟩
          · refine fun he => chain_orrel hk HG2.out.1 HKB.out HG4.out HC2.out HR4.out HK5.out (by omega) hlt (by omega) (by omega) (by omega) he _
          rw [asize]; omega
    · have HKB : Hid (¬ kd (T3 toks len) σ2.pos = 23) := kb
      clear kb
      go_wp2_with fail
      refine (take_no hn b tb cap 23 _ σ2 HA2.out HG2.out.1 HKB.out).mono ?_
      rintro e w3 ⟨rfl, hA3, hK3⟩
      have HA3 : Hid (At w3 b tb cap (T3 toks len) σ2) := hA3
      have HK3 : Hid (Kp b wr w3) := hK3
      have hz3 : w1.heap.size < w3.heap.size := by have := hK3.size; omega
      obtain ⟨⟨a0, a1, a2, a3, a4, a5, a6⟩, haf⟩ := H7.out.kp hK3 (by omega) hz2
      have h03 := H00.out.kp hK3 hb (by omega)
      have HZ : Hid (Seven w3 w.heap.size (.int .i64 0) (.slice none 0 0) (.int .i64 0) (.int .i64 0) (.int .i64 0) (.int .i64 0) (.int .i64 0)) := h03
      obtain ⟨⟨z0, z1, z2, z3, z4, z5, z6⟩, hzf⟩ := h03
      have hf0 := hzf 0
      have hf1 := hzf 1
      have hf2 := hzf 2
      have hf3 := hzf 3
      have hf4 := hzf 4
      have hf5 := hzf 5
      have hf6 := hzf 6
      clear hA3 hK3 haf hzf
      go_wp2_with fail
      refine post7 Tryz.results156 rfl HZ.out.some ⟨_, σ2, rfl, ⟨_, _, _, _, _, _, _, _, _, rfl⟩, HA3.out.w7 _ _ _ _ _ _ _ _ hb htb, HG2.out, (HK2.out.trans HK3.out).w7 _ _ _ _ _ _ _ _ (Nat.le_refl _), ⟨HL2.out, HKB.out⟩, fun he => ?_⟩
      obtain ⟨F, h1, h2⟩ := HC2.out he
      refine ⟨F, _, rfl, h1 _ _ (.formE (fun e => HKB.out ((lit_at (len := len) hk HG2.out.1.1 (c := [111, 114]) (n := 23) (by decide)).2 e))), ?_⟩
      have hs1 := h2.same (HK3.out.same (fun h => by omega))
      refine (IsF.same (same7 (fun h => by omega) _ _ _ _ _ _ _ _) hs1).mono (fun g h1 h2 => by omega)

end Go.Proofs.YtkinoehmcfhgbaaGreatDoor.Av
