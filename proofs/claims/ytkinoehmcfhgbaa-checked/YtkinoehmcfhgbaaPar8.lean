/-
  The walk of the parser's method commands.
-/
import Derived.Test.YtkinoehmcfhgbaaPar7
import Derived.Deep.LoopGhost
set_option linter.unusedVariables false
set_option linter.unusedSimpArgs false
namespace Go.Proofs.Ytkinoehmcfhgbaa.Av
open Go.RowKit

variable {toks : List (List UInt8 × Nat)} {len : Nat}

theorem Try.infoCmd2 : (Try.prog.info? 118).map (fun i => (i.zero, i.size, i.bytes)) = some (some (.agg #[.int .i64 0, .int .i64 0, .int .i64 0, .int .i64 0, .int .i64 0, .slice none 0 0, .int .i64 0, .int .i64 0, .int .i64 0, .int .i64 0, .int .i64 0, .int .i64 0, .slice none 0 0, .int .i64 0, .int .i64 0, .int .i64 0, .int .i64 0, .int .i64 0, .slice none 0 0, .slice none 0 0]), 20, 224) := by kernel_rfl

theorem fold_set (l : List (Value × Nat)) : ∀ (A : Array Value), (∀ x ∈ l, x.1.oneCell' = true) → (∀ v ∈ A.toList, v.oneCell' = true) →
    (l.foldl (fun (cs : Array Value) (x : Value × Nat) => cs.setIfInBounds x.snd x.fst) A).size = A.size ∧ ∀ v ∈ (l.foldl (fun (cs : Array Value) (x : Value × Nat) => cs.setIfInBounds x.snd x.fst) A).toList, v.oneCell' = true := by
  induction l with
  | nil => intro A _ h; exact ⟨rfl, h⟩
  | cons a r ih =>
    intro A h1 h2
    obtain ⟨e1, e2⟩ := ih (A.setIfInBounds a.2 a.1) (fun x hx => h1 x (List.mem_cons_of_mem _ hx)) (fun v hv => by
      rw [Array.toList_setIfInBounds] at hv
      rcases List.mem_or_eq_of_mem_set hv with h | h
      · exact h2 v h
      · rw [h]; exact h1 a List.mem_cons_self)
    exact ⟨by rw [List.foldl_cons, e1, Array.size_setIfInBounds], e2⟩
theorem bld20 (cs : Array Value) (h : cs.size = 20) (h1 : ∀ v ∈ cs.toList, v.oneCell' = true) : ∃ C : Array Value, Array.foldl (fun (cs : Array Value) (x : Value × Nat) => cs.setIfInBounds x.snd x.fst) #[.int .i64 0, .int .i64 0, .int .i64 0, .int .i64 0, .int .i64 0, .slice none 0 0, .int .i64 0, .int .i64 0, .int .i64 0, .int .i64 0, .int .i64 0, .int .i64 0, .slice none 0 0, .int .i64 0, .int .i64 0, .int .i64 0, .int .i64 0, .int .i64 0, .slice none 0 0, .slice none 0 0] cs.zipIdx 0 20 = C ∧ C.size = 20 ∧ ∀ v ∈ C.toList, v.oneCell' = true := by
  refine ⟨_, rfl, ?_⟩
  have hz : cs.zipIdx.size = 20 := by simp [h]
  rw [← hz, ← Array.foldl_toList]
  have := fold_set cs.zipIdx.toList #[.int .i64 0, .int .i64 0, .int .i64 0, .int .i64 0, .int .i64 0, .slice none 0 0, .int .i64 0, .int .i64 0, .int .i64 0, .int .i64 0, .int .i64 0, .int .i64 0, .slice none 0 0, .int .i64 0, .int .i64 0, .int .i64 0, .int .i64 0, .int .i64 0, .slice none 0 0, .slice none 0 0] (fun x hx => h1 x.1 (by
    rw [Array.toList_zipIdx] at hx
    exact List.fst_mem_of_mem_zipIdx hx)) (List.all_eq_true.1 zero20)
  exact ⟨this.1.trans hz.symm, this.2⟩

theorem Kp.grownBy {b : Nat} {w w1 w2 : World} {row : Option Nat} (h : Kp b w w1) (hg : w1.grownBy w2 row) (hr : ∀ k, row = some k → w.heap.size ≤ k) : Kp b w w2 :=
  ⟨hg.os.trans h.os, hg.tape.trans h.tape, hg.output.trans h.output, Nat.le_trans h.size hg.size, fun k hk hb => (hg.block k (Nat.lt_of_lt_of_le hk h.size) (fun e => by have := hr k e.symm; omega)).trans (h.block k hk hb)⟩
theorem At.grownBy {w1 w2 : World} {b tb cap : Nat} {T : List (Int × Int × Int)} {σ : PSt} {row : Option Nat} (h : At w1 b tb cap T σ) (hg : w1.grownBy w2 row) (hr : ∀ k, row = some k → b < k ∧ tb < k) : At w2 b tb cap T σ := by
  have e1 : w2.heap[b]? = w1.heap[b]? := hg.block b h.hb (fun e => by have := hr b e.symm; omega)
  have e2 : w2.heap[tb]? = w1.heap[tb]? := hg.block tb h.htb (fun e => by have := hr tb e.symm; omega)
  have hc : ∀ j, w2.cell? ⟨b, j, none⟩ = w1.cell? ⟨b, j, none⟩ := fun j => World.cell?_of_block (a := ⟨b, j, none⟩) e1
  have ht : ∀ j, w2.cell? ⟨tb, j, none⟩ = w1.cell? ⟨tb, j, none⟩ := fun j => World.cell?_of_block (a := ⟨tb, j, none⟩) e2
  exact ⟨Nat.lt_of_lt_of_le h.hb hg.size, Nat.lt_of_lt_of_le h.htb hg.size, h.hne, h.hcap, h.hcm, (hc 0).trans h.c0, (hc 1).trans h.c1, (hc 2).trans h.c2, (hc 3).trans h.c3, (hc 4).trans h.c4, fun o => (World.frozen?_of_block (a := ⟨b, o, none⟩) e1).trans (h.f o), fun j hj => by
    obtain ⟨a1, a2, a3⟩ := h.toks j hj
    exact ⟨(ht _).trans a1, (ht _).trans a2, (ht _).trans a3⟩⟩
theorem own_kp {b : Nat} {w w1 : World} {base : Nat} {e : TypeId} {size : Nat} {v : Value} {n : Nat} {xs : List Value} (h : w.ownsRow base e size v n xs) (k : Kp b w w1) (hb : b < base) : w1.ownsRow base e size v n xs := by
  obtain ⟨h1, h2⟩ := h
  refine ⟨h1, ?_⟩
  rcases h2 with h2 | ⟨g, cap, cur, hv, hg, hh, r⟩
  · exact Or.inl h2
  · have : g < w.heap.size := by
      rcases Nat.lt_or_ge g w.heap.size with h | h
      · exact h
      · rw [Array.getElem?_eq_none h] at hh; cases hh
    exact Or.inr ⟨g, cap, cur, hv, hg, by rw [k.block g this (fun e => by have := Option.some.inj e; omega)]; exact hh, r⟩
theorem own_new (w : World) (base : Nat) (cs : Array Value) (h : cs.size = 20) (hb : base ≤ w.heap.size) : (w.alloc (.cells cs 118)).ownsRow base 118 20 (.slice (some ⟨w.heap.size, 0, none⟩) 1 1) 1 cs.toList :=
  ⟨by simp [h], Or.inr ⟨w.heap.size, 1, cs, rfl, hb, heap_alloc_new w _, Nat.le_refl _, by decide, by omega, by rw [List.take_of_length_le (by simp [h])]⟩⟩
theorem own_slice {w : World} {base : Nat} {e : TypeId} {size : Nat} {v : Value} {n : Nat} {xs : List Value} (h : w.ownsRow base e size v n xs) : sliceV v := by
  rcases h.2 with ⟨rfl, _⟩ | ⟨g, cap, cur, rfl, _⟩
  · exact ⟨none, 0, 0, rfl⟩
  · exact ⟨_, _, _, rfl⟩
theorem new_cells (w : World) (cs : Array Value) (t : TypeId) : ∀ j u, cs.toList[j]? = some u → (w.alloc (.cells cs t)).cell? ((⟨w.heap.size, 0, none⟩ : Addr).add j) = some u := by
  intro j u h
  rw [Addr.add_mid, World.cell?_alloc_at _ _ _ _ rfl]; simpa using h

set_option maxRecDepth 100000 in
set_option maxHeartbeats 1000000 in
theorem commands_step (hk : AllTok toks) (hn : toks.length ≤ 300) (b tb cap r : Nat) (HF : ComC toks len b tb cap r) : ComsC toks len b tb cap r := by
  intro w σ h ho hr
  have HC : Hid (ComC toks len b tb cap r) := HF
  have H : Hid (At w b tb cap (T3 toks len) σ) := h
  have HO : Hid (Ok toks.length σ) := ho
  have HR : Hid (toks.length - σ.pos ≤ r) := hr
  have hb := h.hb
  have htb := h.htb
  clear h ho hr HF
  go_enter Try.func41, Try.ntmps41
  go_wp2_with fail
  refine (HC.out _ σ H.out HO.out HR.out).mono ?_
  rintro e w1 ⟨v1, σ1, rfl, ⟨cs, rfl, hcs1, hcs2⟩, hA1, hG1, hK1, hS1⟩
  have HA1 : Hid (At w1 b tb cap (T3 toks len) σ1) := hA1
  have HG1 : Hid (Goes toks.length σ σ1) := hG1
  have HK1 : Hid (Kp b w w1) := hK1
  have HS1 : Hid (∀ st, fin toks len σ (cCommand :: st) = fin toks len σ1 st) := hS1
  have hz1 := hK1.size
  obtain ⟨C, hC1, hC2, hC3⟩ := bld20 cs hcs1 (all_mem hcs2)
  have HB : Hid (_ = C) := hC1
  have HW : Hid _ := own_new w1 w.heap.size C hC2 hz1
  clear hC1
  obtain ⟨i0, hi, hz0, hzz1, hzz2⟩ := info_parts Try.infoCmd2
  clear hA1 hG1 hK1 hS1 hcs2 hC2 hC3
  go_wp2_with fail
  rw [HB.out]
  clear hcs1
  go_loopg [3] (toks.length - σ1.pos) (fun g v wr => ∃ (σ2 : PSt) (m : Nat) (xs : List Value), At wr b tb cap (T3 toks len) σ2 ∧ Goes toks.length σ σ2 ∧ (∀ st, fin toks len σ (cCommands :: st) = fin toks len σ2 (cMoreCommands :: st)) ∧ g = toks.length - σ2.pos ∧ Kp b w wr ∧ wr.ownsRow w.heap.size 118 20 v m xs ∧ m ≤ 1 + σ2.pos)
  case atStart => exact ⟨σ1, 1, _, HA1.out.alloc _, HG1.out, fun st => by rw [fin_commands, HS1.out], rfl, HK1.out.alloc _, HW.out, by omega⟩
  case round =>
    obtain ⟨σ2, m, xs, hA2, hG2, hS2, hg, hK2, hown, hm⟩ := hrel
    have HA2 : Hid (At wr b tb cap (T3 toks len) σ2) := hA2
    have HG2 : Hid (Goes toks.length σ σ2) := hG2
    have HS2 : Hid (∀ st, fin toks len σ (cCommands :: st) = fin toks len σ2 (cMoreCommands :: st)) := hS2
    have Hg : Hid (gk = toks.length - σ2.pos) := hg
    have HK2 : Hid (Kp b w wr) := hK2
    have HW2 : Hid (wr.ownsRow w.heap.size 118 20 u3 m xs) := hown
    have hm3 : m ≤ 301 := by have := hG2.1.1; omega
    have HM : Hid (m ≤ 1 + σ2.pos) := hm
    have hzr := hK2.size
    clear hA2 hG2 hS2 hg hK2 hown hm
    by_cases kb : kd (T3 toks len) σ2.pos = 4
    · have HKB : Hid (kd (T3 toks len) σ2.pos = 4) := kb
      clear kb
      go_wp2_with fail
      refine (take_yes hn b tb cap 4 _ σ2 HA2.out HG2.out.1 HKB.out).mono ?_
      rintro e w3 ⟨rfl, hA3, hK3⟩
      have HA3 : Hid (At w3 b tb cap (T3 toks len) (σ2.adv (T3 toks len))) := hA3
      have HK3 : Hid (Kp b w w3) := HK2.out.trans hK3
      have HW3 : Hid (w3.ownsRow w.heap.size 118 20 u3 m xs) := own_kp HW2.out hK3 hb
      have HGA : Hid (Goes toks.length σ2 (σ2.adv (T3 toks len))) := goes_adv hk HG2.out.1
      clear hA3 hK3
      go_wp2_with fail
      refine (HC.out _ _ HA3.out HGA.out.1 (by have h1 := HR.out; have h2 := HG2.out.2.1; have h3 := HGA.out.2.1; omega)).mono ?_
      rintro e w4 ⟨v4, σ4, rfl, ⟨ds, rfl, hds1, hds2⟩, hA4, hG4, hK4, hS4⟩
      have HA4 : Hid (At w4 b tb cap (T3 toks len) σ4) := hA4
      have HG4 : Hid (Goes toks.length (σ2.adv (T3 toks len)) σ4) := hG4
      have HK4 : Hid (Kp b w w4) := HK3.out.trans hK4
      have HW4 : Hid (w4.ownsRow w.heap.size 118 20 u3 m xs) := own_kp HW3.out hK4 hb
      have HS4 : Hid (∀ st, fin toks len (σ2.adv (T3 toks len)) (cCommand :: st) = fin toks len σ4 st) := hS4
      have hz4 := HK4.out.size
      obtain ⟨D, hD1, hD2, hD3⟩ := bld20 ds hds1 (all_mem hds2)
      have HB4 : Hid (_ = D) := hD1
      have HD1 : Hid (D.size = 20) := hD2
      have HD2 : Hid (∀ u ∈ D.toList, u.oneCell' = true) := hD3
      clear hA4 hG4 hK4 hS4 hds2 hD1 hD2 hD3
      go_wp2_with (at_builtin; (rw [HB4.out]); refine wpList_append_own _ rfl _ _ 48 rfl w.heap.size 118 i0 _ 20 224 Try.underlying48 hi hz0 hzz1 hzz2 rfl (by decide) _ _ _ rfl (HW4.out.alloc _) ⟨w4.heap.size, 0, none⟩ 1 1 D.toList rfl (by simpa using HD1.out) (new_cells _ _ _) HD2.out (by unfold maxLen; omega) (by omega) (by rw [asize]; omega) ?_)
      intro v5 w5 hown5 hgrow _
      have hob := own_block HW4.out
      have HK5 : Hid (Kp b w w5) := (HK4.out.alloc _).grownBy hgrow hob
      have HA5 : Hid (At w5 b tb cap (T3 toks len) σ4) := (HA4.out.alloc _).grownBy hgrow (fun k e => ⟨by have := hob k e; omega, by have := hob k e; omega⟩)
      have HW5 : Hid (w5.ownsRow w.heap.size 118 20 v5 (m + 1) (xs ++ D.toList)) := hown5
      clear hown5 hgrow hob hds1
      go_wp2_with fail
      go_roundg (toks.length - σ4.pos)
      case measure =>
        have h1 := Hg.out
        have h2 := HG4.out.2.1
        have h3 := adv_pos (T3 toks len) σ2 (by rw [HKB.out]; omega)
        have h4 := (kd_lt (len := len) hk HG2.out.1 (by rw [HKB.out]; omega)).1
        omega
      case rel =>
        have h2 := HG4.out.2.1
        have h3 := adv_pos (T3 toks len) σ2 (by rw [HKB.out]; omega)
        have h5 := HM.out
        exact ⟨σ4, m + 1, _, HA5.out, HG2.out.trans (HGA.out.trans HG4.out), fun st => by rw [HS2.out st, fin_semi hk HG2.out.1 HKB.out, fin_commands, HS4.out], rfl, HK5.out, HW5.out, by omega⟩
    · have HKB : Hid (¬ kd (T3 toks len) σ2.pos = 4) := kb
      have HSF : Hid (∀ st, fin toks len σ (cCommands :: st) = fin toks len σ2 st) := fun st => by rw [HS2.out st, fin_popC hk HG2.out.1.1 kb]
      clear kb
      go_wp2_with fail
      refine (take_no hn b tb cap 4 _ σ2 HA2.out HG2.out.1 HKB.out).mono ?_
      rintro e w3 ⟨rfl, hA3, hK3⟩
      have HV : Hid (sliceV u3) := own_slice HW2.out
      go_wp2_with fail
      go_ret
      exact ⟨_, σ2, rfl, HV.out, hA3, HG2.out, HK2.out.trans hK3, HSF.out⟩

theorem coms (hk : AllTok toks) (hn : toks.length ≤ 300) (b tb cap : Nat) (r : Nat) : ComsC toks len b tb cap r := by
  induction r with
  | zero => exact commands_step hk hn b tb cap 0 (command_step hk hn b tb cap 0 (fun h => absurd h (Nat.lt_irrefl 0)))
  | succ r ih => exact commands_step hk hn b tb cap (r + 1) (command_step hk hn b tb cap (r + 1) (fun _ => ih))
theorem program_any (hk : AllTok toks) (hn : toks.length ≤ 300) (b tb cap : Nat) (w : World) (σ : PSt) (h : At w b tb cap (T3 toks len) σ) (ho : Ok toks.length σ) :
    Calls Try.prog 23 #[.pointer (some ⟨b, 0, none⟩)] w (PPost b tb cap toks len σ w (aggV 15) (fun σ' => fin toks len σ st0 = if σ'.e = 0 then (0, 0) else (σ'.e, σ'.pl))) :=
  program_c hk hn b tb cap 0 (coms hk hn b tb cap toks.length) w σ h ho

end Go.Proofs.Ytkinoehmcfhgbaa.Av
