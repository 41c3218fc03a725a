/-
  The walk of the document's ahead at a while; all of ahead.
-/
import Derived.Test.YtkinoehmcfhgbaaGreatDoorL3
import Derived.Deep.RegionHeld3
set_option linter.unusedVariables false
set_option linter.unusedSimpArgs false
namespace Go.Proofs.YtkinoehmcfhgbaaGreatDoor.Vl
open Go.RowKit
open Go.Proofs.YtkinoehmcfhgbaaGreatDoor.Av (vr Fm Rd Tg sAt Cm Rc trm trm_range vr_range)
variable {w0 : World} {mb cb lb : Nat} {toks : List (List UInt8 × Nat)}

/-- A text that is short enough to be put together with others. -/
def Sh (a : ByteArray) : Prop := a.size ≤ 100000000
theorem run_catO {P : Program} (w : World) (a b : ByteArray) (ha : Sh a) (hb : Sh b) : (Op.stringOp .add a b).run P w = .ok (.string (a ++ b)) w :=
  run_string_add_sum w a b (by unfold Sh at ha hb; omega)
theorem sh_l {l : List UInt8} (h : l.length ≤ 100000000) : Sh ⟨l.toArray⟩ := by simpa [Sh, ByteArray.size] using h
theorem sh_app {a b : ByteArray} (h : a.size + b.size ≤ 100000000) : Sh (a ++ b) := by unfold Sh; rw [ByteArray.size_append']; exact h
theorem MkAt.at {w : World} {ls : List (List UInt8)} {big : Bool} (h : MkAt w0 w mb cb lb toks ls big) (j : Nat) (hj : j < ls.length) : ∃ l, w.cell? ⟨lb, j, none⟩ = some (.string ⟨List.toArray l⟩) := ⟨_, h.cells j _ (List.getElem?_eq_getElem hj)⟩

attribute [local go_sem high] run_catO
set_option maxRecDepth 100000 in
set_option maxHeartbeats 4000000 in
theorem ahead_while (ht : toks.length ≤ 300) (hl : ∀ j, (sAt toks j).length ≤ 300) (n k k1 k2 k3 : Nat) (f g : Fm) (a : Cm) (w : World) (ls : List (List UInt8)) (l : List UInt8) (q : List Sym) (IH : AlD w0 mb cb lb toks n) (h1 : sAt toks k = [119, 104, 105, 108, 101]) (r1 : Rd toks .form (k + 1) f k1) (r2 : Rd toks .form (k1 + 1) g k2) (r3 : Rc toks true (k2 + 1) a k3) (hn : k3 ≤ k2 + 1 + n) (hk : k3 + 1 ≤ toks.length) (hls : ls.length = 2 * toks.length) (ha : MkAt w0 w mb cb lb toks ls false) (hp : AhPre ls false l q k (k3 + 1)) :
    Calls Tryz.prog 68 #[.pointer (some ⟨mb, 0, none⟩), .int .i64 (k : Int), strV l] w (AhPost w0 mb cb lb toks ls false l (.loop f g a) q k (k3 + 1)) := by
  have l1 := r1.le.2 (by simp)
  have l2 := r2.le.2 (by simp)
  have l3 := r3.le
  have hlf := rd_len r1
  have hlf2 : (sbs (fsy f)).length ≤ 2500 := by simp only [tgL] at hlf; omega
  have hlg := rd_len r2
  have hlg2 : (sbs (fsy g)).length ≤ 2500 := by simp only [tgL] at hlg; omega
  obtain ⟨e1, e2, e3, e4⟩ := hp.2 rfl
  have hll : l.length ≤ 4000 := by rw [e1]; exact e2
  have CS : Hid (Calls Tryz.prog 66 #[.pointer (some ⟨cb, 0, none⟩), .int .i64 (k : Int)] w fun e w' => e = .returned (.string ⟨#[119, 104, 105, 108, 101]⟩) ∧ w = w') := by
    have := code_s toks cb k w ha.code (by omega)
    rwa [h1] at this
  have CF : Hid (Calls Tryz.prog 39 #[.pointer (some ⟨cb, 0, none⟩), .int .i64 ((k : Int) + 1)] w fun e w' => e = .returned (.tuple #[.string (ftx f), .int .i64 (k1 : Int)]) ∧ Below w.heap.size w w') := formula_any toks cb hl (k + 1) k1 f w r1 (by omega) ha.code
  have CG : Hid (∀ w, CodeAt w cb toks → Calls Tryz.prog 39 #[.pointer (some ⟨cb, 0, none⟩), .int .i64 ((k1 : Int) + 1)] w fun e w' => e = .returned (.tuple #[.string (ftx g), .int .i64 (k2 : Int)]) ∧ Below w.heap.size w w') := fun w h => formula_any toks cb hl (k1 + 1) k2 g w r2 (by omega) h
  have C1 : Hid (∀ w, MkAt w0 w mb cb lb toks ls false → Calls Tryz.prog 40 #[.pointer (some ⟨mb, 0, none⟩), .int .i64 ((k2 : Int) + 1), .string ⟨(sbs (fsy g)).toArray⟩] w (AhPost w0 mb cb lb toks ls false (sbs (fsy g)) a (fsy g) (k2 + 1) k3)) := fun w h => IH (k2 + 1) k3 a w ls false (sbs (fsy g)) (fsy g) r3 (by omega) (by omega) hls h ⟨by unfold lbd; omega, fun _ => ⟨rfl, by unfold bl; omega, (gd_fsy g (rd_ok r2 (fun g h => by cases h))).mono (by unfold kb; omega), e4.sub (by omega) (by omega)⟩⟩
  have HP : Hid (∀ x ls1 b1, AhR ls false (sbs (fsy g)) a (fsy g) (k2 + 1) k3 x ls1 b1 → AhR ls false l (.loop f g a) q k (k3 + 1) (sbs (fsy g)) ((ls1.set (2 * k) (agT f g x)).set (2 * k + 1) (lvT f g l)) (((b1 || tol (agT f g x)) || tol (lvT f g l)) || tol (sbs (fsy g)))) := fun x ls1 b1 h => ahr_while (k1 := k1) hp hlg2 h (by omega) (by omega) (by omega) (by omega) (by omega)
  have m0 := ha.m0
  have m2 := ha.m2
  have hms := ha.hms
  have hne : ¬ mb = lb := ha.hml
  have hne' : ¬ lb = mb := fun e => ha.hml e.symm
  have HM : Hid (MkAt w0 w mb cb lb toks ls false) := ha
  clear ha hp e1 e2 e3 e4 IH r1 r2 r3 h1
  unfold strV ftx at *
  have HA : Hid (∀ x, agT f g x = [62, 38] ++ sbs (fsy g) ++ sbs (fsy f) ++ x) := fun x => rfl
  have HV : Hid (lvT f g l = [62, 38] ++ sbs (fsy g) ++ [33] ++ sbs (fsy f) ++ l) := rfl
  generalize hF : sbs (fsy f) = F at *
  generalize hG : sbs (fsy g) = G at *
  generalize hLV : lvT f g l = LV at *
  go_enter Tryz.func68, Tryz.ntmps68
  go_wp2_with fail
  refine Calls.mono CS.out ?_
  rintro e w1 ⟨rfl, rfl⟩
  go_wp2_with fail
  refine Calls.mono CF.out ?_
  rintro e w2 ⟨rfl, hb2⟩
  have A2 := HM.out.below hb2
  have HM2 : Hid (MkAt w0 w2 mb cb lb toks ls false) := A2
  clear hb2 A2 CF CS m0 m2 HM
  go_wp2_with fail
  refine (CG.out _ HM2.out.code).mono ?_
  rintro e w3 ⟨rfl, hb3⟩
  have A3 := HM2.out.below hb3
  have HM3 : Hid (MkAt w0 w3 mb cb lb toks ls false) := A3
  have n1 := A3.m1
  have hms3 := A3.hms
  have hls3 := A3.hls
  have hln : (2 * (k : Int)) < (ls.length : Int) := by omega
  have hlnN : 2 * k < ls.length := by omega
  have htn : (2 * (k : Int)).toNat = 2 * k := by omega
  have hln2 : (2 * (k : Int)) + 1 < (ls.length : Int) := by omega
  have HLS : Hid (ls.length = 2 * toks.length) := hls
  clear hb3 A3 HM2 CG
  go_wp2_with fail
  have CX : Hid (Calls Tryz.prog 40 #[.pointer (some ⟨mb, 0, none⟩), .int .i64 ((k2 : Int) + 1), .string ⟨G.toArray⟩] w3.drew (fun e w' => ∃ x ls1 b1, e = .returned (.string ⟨List.toArray x⟩) ∧ Sh ⟨x.toArray⟩ ∧ x.length ≤ 20000000 ∧ Hid (MkAt w0 w' mb cb lb toks ls1 b1) ∧ Hid (AhR ls false G a (fsy g) (k2 + 1) k3 x ls1 b1) ∧ w'.cell? ⟨mb, 1, none⟩ = some (.slice (some ⟨lb, 0, none⟩) ls.length ls.length) ∧ (∃ z, w'.cell? ⟨lb, 2 * k, none⟩ = some (.string ⟨List.toArray z⟩)) ∧ w'.frozen? ⟨lb, 2 * k, none⟩ = false)) := Calls.mono (C1.out _ HM3.out.drew) (by
    rintro e w' ⟨x, ls1, b1, h1, h2, h3⟩
    have hm1 := h2.m1
    rw [h3.1] at hm1
    have hxl : x.length ≤ 20000000 := by have := h3.2.1; unfold lbd at this; omega
    exact ⟨x, ls1, b1, h1, sh_l (by omega), hxl, h2, h3, hm1, h2.at (2 * k) (by rw [h3.1]; omega), h2.fl _⟩)
  clear C1 HM3 hls
  have hin0 : (0 : Int) ≤ 2 * (k : Int) := by omega
  have hz1 : (⟨G.toArray⟩ : ByteArray).size = G.length := by simp [ByteArray.size]
  have hz2 : (⟨F.toArray⟩ : ByteArray).size = F.length := by simp [ByteArray.size]
  have hz3 : (⟨#[62, 38]⟩ : ByteArray).size = 2 := rfl
  have q1 : Sh ⟨#[62, 38]⟩ := by unfold Sh; rw [hz3]; omega
  have q2 : Sh ⟨G.toArray⟩ := by unfold Sh; rw [hz1]; omega
  have q3 : Sh ((⟨#[62, 38]⟩ : ByteArray) ++ ⟨G.toArray⟩) := sh_app (by rw [hz1, hz3]; omega)
  have q4 : Sh ⟨F.toArray⟩ := by unfold Sh; rw [hz2]; omega
  have q5 : Sh ((⟨#[62, 38]⟩ : ByteArray) ++ ⟨G.toArray⟩ ++ ⟨F.toArray⟩) := sh_app (by rw [ByteArray.size_append', hz1, hz2, hz3]; omega)
  clear hz1 hz2 hz3
  have v1 : IntKind.i64.wrap ((k2 : Int) + 1) = (k2 : Int) + 1 := by rw [IntKind.wrap_i64]; omega
  have v2 : IntKind.i64.wrap (2 * (k : Int)) = 2 * (k : Int) := by rw [IntKind.wrap_i64]; omega
  go_region_held3 (fun w' => w'.cell? ⟨mb, 1, none⟩ = some (.slice (some ⟨lb, 0, none⟩) ls.length ls.length)) (first | assumption | (refine (mk_far _ ⟨lb, 2 * k, none⟩ _ mb 1 hne).trans ?_; assumption)) (first | (go_at_call 40; refine Calls.mono CX.out ?_; rintro e w4 ⟨x, ls1, b1, rfl, q6, hx6, HM4, HR4, n1', ⟨z, hz⟩, fz⟩))
  rename_i hHeld
  clear hHeld
  have HP1 := HP.out x ls1 b1 HR4.out
  have hl1 : ls1.length = ls.length := HR4.out.1
  have hM5 := HM4.out.setLoop (2 * k) (agT f g x) (by omega)
  unfold strV at hM5
  rw [agStr G F x, ← HA.out x]
  have hag : (agT f g x).length = 2 + G.length + F.length + x.length := by rw [HA.out x]; simp; omega
  have hlv : LV.length = 2 + G.length + 1 + F.length + l.length := by rw [HV.out]; simp; omega
  have HLV : Hid ((⟨#[62, 38]⟩ : ByteArray) ++ ⟨G.toArray⟩ ++ ⟨#[33]⟩ ++ ⟨F.toArray⟩ ++ ⟨l.toArray⟩ = ⟨LV.toArray⟩) := by show _ = _; rw [lvStr, HV.out]
  have hag2 : (agT f g x).length ≤ 30000000 := by omega
  generalize agT f g x = AG at *
  have HAGL : Hid (AG.length = 2 + G.length + F.length + x.length) := hag
  have HLVL : Hid (LV.length = 2 + G.length + 1 + F.length + l.length) := hlv
  clear hag hlv HA HV HM4 HR4 HP q1 q2 q3 q4 q5 q6 n1' hz fz CX
  have HL1 : Hid (ls1.length = ls.length) := hl1
  generalize w4.setCell ⟨lb, 2 * k, none⟩ (.string ⟨AG.toArray⟩) = w5 at *
  have o1 := hM5.m1
  rw [List.length_set, hl1] at o1
  obtain ⟨z', hz'⟩ := hM5.at (2 * k + 1) (by rw [List.length_set]; omega)
  have fz' := hM5.fl (2 * k + 1)
  have oms := hM5.hms
  have p2 := hM5.m2
  have f2 := hM5.fm 2
  have pz : w5.cell? ⟨lb, 2 * k, none⟩ = some (.string ⟨AG.toArray⟩) := hM5.cells (2 * k) AG (List.getElem?_set_self (by omega))
  have htn2 : (2 * (k : Int) + 1).toNat = 2 * k + 1 := by omega
  have HM5 : Hid (MkAt w0 w5 mb cb lb toks (ls1.set (2 * k) AG) b1) := hM5
  clear hM5 hl1
  have HM6 : Hid (∀ B B', MkAt w0 (((w5.setCell ⟨lb, 2 * k + 1, none⟩ (.string ((⟨#[62, 38]⟩ : ByteArray) ++ ⟨G.toArray⟩ ++ ⟨#[33]⟩ ++ ⟨F.toArray⟩ ++ ⟨l.toArray⟩))).setCell ⟨mb, 2, none⟩ (.bool B)).setCell ⟨mb, 2, none⟩ (.bool B')) mb cb lb toks ((ls1.set (2 * k) AG).set (2 * k + 1) LV) B') := fun B B' => by
    rw [HLV.out]
    exact ((HM5.out.setLoop (2 * k + 1) LV (by rw [List.length_set, HL1.out]; omega)).setBig B).setBig B'
  cases b1
  · go_wp2_with fail
    all_goals
      go_ret
      refine ⟨G, _, _, rfl, HM6.out _ _, ?_⟩
      first
        | (rw [← tolI AG, ← tolI G, ← tolN (l := LV) (n := 2 + (G.length : Int) + 1 + (F.length : Int) + (l.length : Int)) (by have := HLVL.out; omega), Bool.false_or] at HP1; exact HP1)
        | (have e : (false || tol AG || tol LV || tol G) = true := by
             unfold tol
             simp only [Bool.false_or, Bool.or_eq_true, decide_eq_true_eq]
             have := HLVL.out
             omega
           rw [e] at HP1
           exact HP1)
  · go_wp2_with fail
    go_ret
    exact ⟨G, _, _, rfl, HM6.out _ _, HP1⟩

theorem maker_ahead (ht : toks.length ≤ 300) (hl : ∀ j, (sAt toks j).length ≤ 300) (n : Nat) (IH : ∀ m, m < n → AlD w0 mb cb lb toks m) : AhD w0 mb cb lb toks n := by
  intro k k' c w ls big l q hr hn hk hls ha hp
  have hle := hr.le
  cases big with
  | true => exact ahead_big k k' c w ls l q (by omega) ha hp
  | false =>
    cases hr with
    | skip h1 => exact ahead_skip ht k w ls l q h1 hk ha hp
    | asg h1 => exact ahead_asg ht hl k w ls l q h1 hk ha hp
    | @ite _ k1 k2 k3 f a b h1 r1 r2 r3 =>
      have l1 := r1.le.2 (by simp)
      exact ahead_if ht hl (n - 2) k k1 k2 k3 f a b w ls l q (IH _ (by have := r2.le; have := r3.le; omega)) h1 r1 r2 r3 (by omega) hk hls ha hp
    | @loop _ k1 k2 k3 f g a h1 r1 r2 r3 =>
      have l1 := r1.le.2 (by simp)
      have l2 := r2.le.2 (by simp)
      exact ahead_while ht hl (n - 2) k k1 k2 k3 f g a w ls l q (IH _ (by have := r3.le; omega)) h1 r1 r2 r3 (by omega) hk hls ha hp
theorem makes (ht : toks.length ≤ 300) (hl : ∀ j, (sAt toks j).length ≤ 300) (n : Nat) : AlD w0 mb cb lb toks n := by
  induction n using Nat.strongRecOn with
  | ind n ih => exact maker_all ht hl n (maker_ahead ht hl n ih) ih
end Go.Proofs.YtkinoehmcfhgbaaGreatDoor.Vl
