/-
  The walk of the parser's method command.
-/
import Derived.Test.YtkinoehmcfhgbaaGreatDoorQ6
set_option linter.unusedVariables false
set_option linter.unusedSimpArgs false
namespace Go.Proofs.YtkinoehmcfhgbaaGreatDoor.Av
open Go.RowKit

variable {toks : List (List UInt8 × Nat)} {len : Nat}

theorem zero20 : (([.int .i64 0, .int .i64 0, .int .i64 0, .int .i64 0, .int .i64 0, .slice none 0 0, .int .i64 0, .int .i64 0, .int .i64 0, .int .i64 0, .int .i64 0, .int .i64 0, .slice none 0 0, .int .i64 0, .int .i64 0, .int .i64 0, .int .i64 0, .int .i64 0, .slice none 0 0, .slice none 0 0] : List Value).all (·.oneCell')) = true := rfl
theorem zero20a : (#[.int .i64 0, .int .i64 0, .int .i64 0, .int .i64 0, .int .i64 0, .slice none 0 0, .int .i64 0, .int .i64 0, .int .i64 0, .int .i64 0, .int .i64 0, .int .i64 0, .slice none 0 0, .int .i64 0, .int .i64 0, .int .i64 0, .int .i64 0, .int .i64 0, .slice none 0 0, .slice none 0 0] : Array Value).all (·.oneCell') = true := all_oneCell_toArray (List.all_eq_true.1 zero20)
theorem CR.up {k B : Nat} {w : World} {cs : Array Value} {σ' : PSt} (h : CR toks k (fun g => B + 1 ≤ g) w (.agg cs) σ') (L : List Value) : CR toks k (fun g => B ≤ g) (w.setCells B 0 L) (.agg cs.toList.toArray) σ' := by
  obtain ⟨c, y, e, h1, h2⟩ := h
  have e2 : cs = y.toArray := by injection e
  subst e2
  exact ⟨c, y, rfl, h1, (h2.same (same_sets _ B (fun h => by omega) L 0 _)).mono (fun g h1 h2 => by omega)⟩

set_option maxRecDepth 100000 in
set_option maxHeartbeats 1000000 in
theorem command_skip (hk : AllTok toks) (hn : toks.length ≤ 300) (b tb cap r : Nat) (IH : 0 < r → ComsC toks len b tb cap (r - 1)) (w : World) (σ : PSt) (h : At w b tb cap (T3 toks len) σ) (ho : Ok toks.length σ) (hr : toks.length - σ.pos ≤ r) (k1 : kd (T3 toks len) σ.pos = 16) :
    Calls Tryz.prog 158 #[.pointer (some ⟨b, 0, none⟩)] w (PPost b tb cap toks len σ w (aggV 20) (fun σ' => ∀ st, fin toks len σ (cCommand :: st) = fin toks len σ' st) (CR toks σ.pos (fun g => w.heap.size ≤ g))) := by
  have H : Hid (At w b tb cap (T3 toks len) σ) := h
  have HO : Hid (Ok toks.length σ) := ho
  have HRR : Hid (toks.length - σ.pos ≤ r) := hr
  have HIH : Hid (0 < r → ComsC toks len b tb cap (r - 1)) := IH
  have hb := h.hb
  have htb := h.htb
  have HKE : Hid (kd (T3 toks len) σ.pos = 16) := k1
  have HG : Hid (Goes toks.length σ (σ.adv (T3 toks len))) := goes_adv hk ho
  have HS : Hid (∀ st, fin toks len σ (cCommand :: st) = fin toks len (σ.adv (T3 toks len)) st) := fun st => fin_skip hk ho k1 st
  have HRS : Hid (Rc toks false σ.pos .skip (σ.adv (T3 toks len)).pos) := by
    rw [adv_pos _ _ (by rw [k1]; decide)]; exact .skip ((lit_at (len := len) hk ho.1 (c := [115, 107, 105, 112]) (n := 16) (by decide)).1 k1)
  clear k1
  have HR0 : Hid (Row (w.alloc (.cells #[.int .i64 0, .int .i64 0, .int .i64 0, .int .i64 0, .int .i64 0, .slice none 0 0, .int .i64 0, .int .i64 0, .int .i64 0, .int .i64 0, .int .i64 0, .int .i64 0, .slice none 0 0, .int .i64 0, .int .i64 0, .int .i64 0, .int .i64 0, .int .i64 0, .slice none 0 0, .slice none 0 0] 228)) w.heap.size 20) := Row.new w #[.int .i64 0, .int .i64 0, .int .i64 0, .int .i64 0, .int .i64 0, .slice none 0 0, .int .i64 0, .int .i64 0, .int .i64 0, .int .i64 0, .int .i64 0, .int .i64 0, .slice none 0 0, .int .i64 0, .int .i64 0, .int .i64 0, .int .i64 0, .int .i64 0, .slice none 0 0, .slice none 0 0] 228 (List.all_eq_true.1 zero20)
  clear h ho hr IH
  go_enter Tryz.func158, Tryz.ntmps158
  go_wp2_with fail
  refine (peek_c b tb cap _ σ (H.out.alloc _) HO.out).mono ?_
  rw [HKE.out]
  rintro e w1 ⟨rfl, nq, rfl⟩
  have HA1 : Hid (At ((w.alloc (.cells #[.int .i64 0, .int .i64 0, .int .i64 0, .int .i64 0, .int .i64 0, .slice none 0 0, .int .i64 0, .int .i64 0, .int .i64 0, .int .i64 0, .int .i64 0, .int .i64 0, .slice none 0 0, .int .i64 0, .int .i64 0, .int .i64 0, .int .i64 0, .int .i64 0, .slice none 0 0, .slice none 0 0] 228)).drewN nq) b tb cap (T3 toks len) σ) := (H.out.alloc _).drewN nq
  have HK1 : Hid (Kp b w ((w.alloc (.cells #[.int .i64 0, .int .i64 0, .int .i64 0, .int .i64 0, .int .i64 0, .slice none 0 0, .int .i64 0, .int .i64 0, .int .i64 0, .int .i64 0, .int .i64 0, .int .i64 0, .slice none 0 0, .int .i64 0, .int .i64 0, .int .i64 0, .int .i64 0, .int .i64 0, .slice none 0 0, .slice none 0 0] 228)).drewN nq)) := ((Kp.refl b w).alloc _).drewN nq
  have HR1 : Hid (Row ((w.alloc (.cells #[.int .i64 0, .int .i64 0, .int .i64 0, .int .i64 0, .int .i64 0, .slice none 0 0, .int .i64 0, .int .i64 0, .int .i64 0, .int .i64 0, .int .i64 0, .int .i64 0, .slice none 0 0, .int .i64 0, .int .i64 0, .int .i64 0, .int .i64 0, .int .i64 0, .slice none 0 0, .slice none 0 0] 228)).drewN nq) w.heap.size 20) := HR0.out.kp (b := b) ((Kp.refl b _).drewN nq) hb (by rw [asize]; omega)
  have hz1 : w.heap.size < ((w.alloc (.cells #[.int .i64 0, .int .i64 0, .int .i64 0, .int .i64 0, .int .i64 0, .slice none 0 0, .int .i64 0, .int .i64 0, .int .i64 0, .int .i64 0, .int .i64 0, .int .i64 0, .slice none 0 0, .int .i64 0, .int .i64 0, .int .i64 0, .int .i64 0, .int .i64 0, .slice none 0 0, .slice none 0 0] 228)).drewN nq).heap.size := by show w.heap.size < (w.alloc (.cells #[.int .i64 0, .int .i64 0, .int .i64 0, .int .i64 0, .int .i64 0, .slice none 0 0, .int .i64 0, .int .i64 0, .int .i64 0, .int .i64 0, .int .i64 0, .int .i64 0, .slice none 0 0, .int .i64 0, .int .i64 0, .int .i64 0, .int .i64 0, .int .i64 0, .slice none 0 0, .slice none 0 0] 228)).heap.size; rw [asize]; omega
  go_wp2_with fail
  refine (advance_c hn b tb cap _ σ HA1.out HO.out).mono ?_
  rintro e w2 ⟨x2, y2, v2, rfl, hA2, hK2⟩
  have HA2 : Hid (At w2 b tb cap (T3 toks len) (σ.adv (T3 toks len))) := hA2
  have HK2 : Hid (Kp b w w2) := HK1.out.trans hK2
  have HR2 : Hid (Row w2 w.heap.size 20) := HR1.out.kp hK2 hb hz1
  have hth := HR2.out.there 0 20 (by omega)
  clear hA2 hK2
  go_wp2_with (refine wpList_store_mid rfl 228 (.tmp 2) (.tmp 9) rfl w.heap.size 0 #[.int .i64 0, .int .i64 0, .int .i64 0, .int .i64 0, .int .i64 0, .slice none 0 0, .int .i64 0, .int .i64 0, .int .i64 0, .int .i64 0, .int .i64 0, .int .i64 0, .slice none 0 0, .int .i64 0, .int .i64 0, .int .i64 0, .int .i64 0, .int .i64 0, .slice none 0 0, .slice none 0 0] rfl rfl ?_ ?_ ?_ ?_; (exact hth); (exact Tryz.infoCmd); (exact zero20a))
  exact postN [.int .i64 0, .int .i64 0, .int .i64 0, .int .i64 0, .int .i64 0, .slice none 0 0, .int .i64 0, .int .i64 0, .int .i64 0, .int .i64 0, .int .i64 0, .int .i64 0, .slice none 0 0, .int .i64 0, .int .i64 0, .int .i64 0, .int .i64 0, .int .i64 0, .slice none 0 0, .slice none 0 0] Tryz.results158 rfl Tryz.underlying228 rfl Tryz.infoCmd HR2.out rfl ⟨_, _, rfl, ⟨#[.int .i64 0, .int .i64 0, .int .i64 0, .int .i64 0, .int .i64 0, .slice none 0 0, .int .i64 0, .int .i64 0, .int .i64 0, .int .i64 0, .int .i64 0, .int .i64 0, .slice none 0 0, .int .i64 0, .int .i64 0, .int .i64 0, .int .i64 0, .int .i64 0, .slice none 0 0, .slice none 0 0], rfl, rfl, zero20a⟩, At.cells hb htb _ _ _ HA2.out, HG.out, Kp.cells (Nat.le_refl _) _ _ _ HK2.out, HS.out, fun _ => ⟨.skip, _, rfl, HRS.out, _, rfl, rfl, rfl⟩⟩

set_option maxRecDepth 100000 in
set_option maxHeartbeats 1000000 in
theorem command_other (hk : AllTok toks) (hn : toks.length ≤ 300) (b tb cap r : Nat) (IH : 0 < r → ComsC toks len b tb cap (r - 1)) (w : World) (σ : PSt) (h : At w b tb cap (T3 toks len) σ) (ho : Ok toks.length σ) (hr : toks.length - σ.pos ≤ r) (k1 : kd (T3 toks len) σ.pos ≠ 16) (k2 : kd (T3 toks len) σ.pos ≠ 28) (k3 : kd (T3 toks len) σ.pos ≠ 17) (k4 : kd (T3 toks len) σ.pos ≠ 21) :
    Calls Tryz.prog 158 #[.pointer (some ⟨b, 0, none⟩)] w (PPost b tb cap toks len σ w (aggV 20) (fun σ' => ∀ st, fin toks len σ (cCommand :: st) = fin toks len σ' st) (CR toks σ.pos (fun g => w.heap.size ≤ g))) := by
  have H : Hid (At w b tb cap (T3 toks len) σ) := h
  have HO : Hid (Ok toks.length σ) := ho
  have HRR : Hid (toks.length - σ.pos ≤ r) := hr
  have HIH : Hid (0 < r → ComsC toks len b tb cap (r - 1)) := IH
  have hb := h.hb
  have htb := h.htb
  obtain ⟨K, hKe⟩ : ∃ K, kd (T3 toks len) σ.pos = K := ⟨_, rfl⟩
  have HKE : Hid (kd (T3 toks len) σ.pos = K) := hKe
  have b1 : (K == 16) = false := by rw [beq_eq_false_iff_ne, ← hKe]; exact k1
  have b2 : (K == 28) = false := by rw [beq_eq_false_iff_ne, ← hKe]; exact k2
  have b3 : (K == 17) = false := by rw [beq_eq_false_iff_ne, ← hKe]; exact k3
  have b4 : (K == 21) = false := by rw [beq_eq_false_iff_ne, ← hKe]; exact k4
  have HG : Hid (Goes toks.length σ (σ.ref (T3 toks len) 2)) := goes_ref ho 2 (by omega)
  have HS : Hid (∀ st, fin toks len σ (cCommand :: st) = fin toks len (σ.ref (T3 toks len) 2) st) := fun st => fin_nocommand hk ho k1 k2 k3 k4 st
  clear k1 k2 k3 k4 hKe
  have HR0 : Hid (Row (w.alloc (.cells #[.int .i64 0, .int .i64 0, .int .i64 0, .int .i64 0, .int .i64 0, .slice none 0 0, .int .i64 0, .int .i64 0, .int .i64 0, .int .i64 0, .int .i64 0, .int .i64 0, .slice none 0 0, .int .i64 0, .int .i64 0, .int .i64 0, .int .i64 0, .int .i64 0, .slice none 0 0, .slice none 0 0] 228)) w.heap.size 20) := Row.new w #[.int .i64 0, .int .i64 0, .int .i64 0, .int .i64 0, .int .i64 0, .slice none 0 0, .int .i64 0, .int .i64 0, .int .i64 0, .int .i64 0, .int .i64 0, .int .i64 0, .slice none 0 0, .int .i64 0, .int .i64 0, .int .i64 0, .int .i64 0, .int .i64 0, .slice none 0 0, .slice none 0 0] 228 (List.all_eq_true.1 zero20)
  clear h ho hr IH
  go_enter Tryz.func158, Tryz.ntmps158
  go_wp2_with fail
  refine (peek_c b tb cap _ σ (H.out.alloc _) HO.out).mono ?_
  rw [HKE.out]
  rintro e w1 ⟨rfl, nq, rfl⟩
  have HA1 : Hid (At ((w.alloc (.cells #[.int .i64 0, .int .i64 0, .int .i64 0, .int .i64 0, .int .i64 0, .slice none 0 0, .int .i64 0, .int .i64 0, .int .i64 0, .int .i64 0, .int .i64 0, .int .i64 0, .slice none 0 0, .int .i64 0, .int .i64 0, .int .i64 0, .int .i64 0, .int .i64 0, .slice none 0 0, .slice none 0 0] 228)).drewN nq) b tb cap (T3 toks len) σ) := (H.out.alloc _).drewN nq
  have HK1 : Hid (Kp b w ((w.alloc (.cells #[.int .i64 0, .int .i64 0, .int .i64 0, .int .i64 0, .int .i64 0, .slice none 0 0, .int .i64 0, .int .i64 0, .int .i64 0, .int .i64 0, .int .i64 0, .int .i64 0, .slice none 0 0, .int .i64 0, .int .i64 0, .int .i64 0, .int .i64 0, .int .i64 0, .slice none 0 0, .slice none 0 0] 228)).drewN nq)) := ((Kp.refl b w).alloc _).drewN nq
  have HR1 : Hid (Row ((w.alloc (.cells #[.int .i64 0, .int .i64 0, .int .i64 0, .int .i64 0, .int .i64 0, .slice none 0 0, .int .i64 0, .int .i64 0, .int .i64 0, .int .i64 0, .int .i64 0, .int .i64 0, .slice none 0 0, .int .i64 0, .int .i64 0, .int .i64 0, .int .i64 0, .int .i64 0, .slice none 0 0, .slice none 0 0] 228)).drewN nq) w.heap.size 20) := HR0.out.kp (b := b) ((Kp.refl b _).drewN nq) hb (by rw [asize]; omega)
  have hz1 : w.heap.size < ((w.alloc (.cells #[.int .i64 0, .int .i64 0, .int .i64 0, .int .i64 0, .int .i64 0, .slice none 0 0, .int .i64 0, .int .i64 0, .int .i64 0, .int .i64 0, .int .i64 0, .int .i64 0, .slice none 0 0, .int .i64 0, .int .i64 0, .int .i64 0, .int .i64 0, .int .i64 0, .slice none 0 0, .slice none 0 0] 228)).drewN nq).heap.size := by show w.heap.size < (w.alloc (.cells #[.int .i64 0, .int .i64 0, .int .i64 0, .int .i64 0, .int .i64 0, .slice none 0 0, .int .i64 0, .int .i64 0, .int .i64 0, .int .i64 0, .int .i64 0, .int .i64 0, .slice none 0 0, .int .i64 0, .int .i64 0, .int .i64 0, .int .i64 0, .int .i64 0, .slice none 0 0, .slice none 0 0] 228)).heap.size; rw [asize]; omega
  go_wp2_with fail
  refine (refuse_c hn b tb cap 2 _ σ HA1.out HO.out).mono ?_
  rintro e w2 ⟨rfl, hA2, hK2⟩
  have HA2 : Hid (At w2 b tb cap (T3 toks len) (σ.ref (T3 toks len) 2)) := hA2
  have HK2 : Hid (Kp b w w2) := HK1.out.trans hK2
  have HR2 : Hid (Row w2 w.heap.size 20) := HR1.out.kp hK2 hb hz1
  have hth := HR2.out.there 0 20 (by omega)
  clear hA2 hK2
  go_wp2_with (refine wpList_store_mid rfl 228 (.tmp 2) (.tmp 24) rfl w.heap.size 0 #[.int .i64 0, .int .i64 0, .int .i64 0, .int .i64 0, .int .i64 0, .slice none 0 0, .int .i64 0, .int .i64 0, .int .i64 0, .int .i64 0, .int .i64 0, .int .i64 0, .slice none 0 0, .int .i64 0, .int .i64 0, .int .i64 0, .int .i64 0, .int .i64 0, .slice none 0 0, .slice none 0 0] rfl rfl ?_ ?_ ?_ ?_; (exact hth); (exact Tryz.infoCmd); (exact zero20a))
  exact postN [.int .i64 0, .int .i64 0, .int .i64 0, .int .i64 0, .int .i64 0, .slice none 0 0, .int .i64 0, .int .i64 0, .int .i64 0, .int .i64 0, .int .i64 0, .int .i64 0, .slice none 0 0, .int .i64 0, .int .i64 0, .int .i64 0, .int .i64 0, .int .i64 0, .slice none 0 0, .slice none 0 0] Tryz.results158 rfl Tryz.underlying228 rfl Tryz.infoCmd HR2.out rfl ⟨_, _, rfl, ⟨#[.int .i64 0, .int .i64 0, .int .i64 0, .int .i64 0, .int .i64 0, .slice none 0 0, .int .i64 0, .int .i64 0, .int .i64 0, .int .i64 0, .int .i64 0, .int .i64 0, .slice none 0 0, .int .i64 0, .int .i64 0, .int .i64 0, .int .i64 0, .int .i64 0, .slice none 0 0, .slice none 0 0], rfl, rfl, zero20a⟩, At.cells hb htb _ _ _ HA2.out, HG.out, Kp.cells (Nat.le_refl _) _ _ _ HK2.out, HS.out, fun he => absurd he (ref_ne _ _ _ (by omega))⟩

set_option maxRecDepth 100000 in
set_option maxHeartbeats 1000000 in
theorem command_assign (hk : AllTok toks) (hn : toks.length ≤ 300) (b tb cap r : Nat) (IH : 0 < r → ComsC toks len b tb cap (r - 1)) (w : World) (σ : PSt) (h : At w b tb cap (T3 toks len) σ) (ho : Ok toks.length σ) (hr : toks.length - σ.pos ≤ r) (k1 : kd (T3 toks len) σ.pos = 28) :
    Calls Tryz.prog 158 #[.pointer (some ⟨b, 0, none⟩)] w (PPost b tb cap toks len σ w (aggV 20) (fun σ' => ∀ st, fin toks len σ (cCommand :: st) = fin toks len σ' st) (CR toks σ.pos (fun g => w.heap.size ≤ g))) := by
  have H : Hid (At w b tb cap (T3 toks len) σ) := h
  have HO : Hid (Ok toks.length σ) := ho
  have HRR : Hid (toks.length - σ.pos ≤ r) := hr
  have HIH : Hid (0 < r → ComsC toks len b tb cap (r - 1)) := IH
  have hb := h.hb
  have htb := h.htb
  have HKE : Hid (kd (T3 toks len) σ.pos = 28) := k1
  have hr0 : 0 < r := by have := (kd_lt (len := len) hk ho (by omega)).1; omega
  clear k1
  have HR0 : Hid (Row (w.alloc (.cells #[.int .i64 0, .int .i64 0, .int .i64 0, .int .i64 0, .int .i64 0, .slice none 0 0, .int .i64 0, .int .i64 0, .int .i64 0, .int .i64 0, .int .i64 0, .int .i64 0, .slice none 0 0, .int .i64 0, .int .i64 0, .int .i64 0, .int .i64 0, .int .i64 0, .slice none 0 0, .slice none 0 0] 228)) w.heap.size 20) := Row.new w #[.int .i64 0, .int .i64 0, .int .i64 0, .int .i64 0, .int .i64 0, .slice none 0 0, .int .i64 0, .int .i64 0, .int .i64 0, .int .i64 0, .int .i64 0, .int .i64 0, .slice none 0 0, .int .i64 0, .int .i64 0, .int .i64 0, .int .i64 0, .int .i64 0, .slice none 0 0, .slice none 0 0] 228 (List.all_eq_true.1 zero20)
  clear h ho hr IH
  go_enter Tryz.func158, Tryz.ntmps158
  go_wp2_with fail
  refine (peek_c b tb cap _ σ (H.out.alloc _) HO.out).mono ?_
  rw [HKE.out]
  rintro e w1 ⟨rfl, nq, rfl⟩
  have HA1 : Hid (At ((w.alloc (.cells #[.int .i64 0, .int .i64 0, .int .i64 0, .int .i64 0, .int .i64 0, .slice none 0 0, .int .i64 0, .int .i64 0, .int .i64 0, .int .i64 0, .int .i64 0, .int .i64 0, .slice none 0 0, .int .i64 0, .int .i64 0, .int .i64 0, .int .i64 0, .int .i64 0, .slice none 0 0, .slice none 0 0] 228)).drewN nq) b tb cap (T3 toks len) σ) := (H.out.alloc _).drewN nq
  have HK1 : Hid (Kp b w ((w.alloc (.cells #[.int .i64 0, .int .i64 0, .int .i64 0, .int .i64 0, .int .i64 0, .slice none 0 0, .int .i64 0, .int .i64 0, .int .i64 0, .int .i64 0, .int .i64 0, .int .i64 0, .slice none 0 0, .int .i64 0, .int .i64 0, .int .i64 0, .int .i64 0, .int .i64 0, .slice none 0 0, .slice none 0 0] 228)).drewN nq)) := ((Kp.refl b w).alloc _).drewN nq
  have HR1 : Hid (Row ((w.alloc (.cells #[.int .i64 0, .int .i64 0, .int .i64 0, .int .i64 0, .int .i64 0, .slice none 0 0, .int .i64 0, .int .i64 0, .int .i64 0, .int .i64 0, .int .i64 0, .int .i64 0, .slice none 0 0, .int .i64 0, .int .i64 0, .int .i64 0, .int .i64 0, .int .i64 0, .slice none 0 0, .slice none 0 0] 228)).drewN nq) w.heap.size 20) := HR0.out.kp (b := b) ((Kp.refl b _).drewN nq) hb (by rw [asize]; omega)
  have hz1 : w.heap.size < ((w.alloc (.cells #[.int .i64 0, .int .i64 0, .int .i64 0, .int .i64 0, .int .i64 0, .slice none 0 0, .int .i64 0, .int .i64 0, .int .i64 0, .int .i64 0, .int .i64 0, .int .i64 0, .slice none 0 0, .int .i64 0, .int .i64 0, .int .i64 0, .int .i64 0, .int .i64 0, .slice none 0 0, .slice none 0 0] 228)).drewN nq).heap.size := by show w.heap.size < (w.alloc (.cells #[.int .i64 0, .int .i64 0, .int .i64 0, .int .i64 0, .int .i64 0, .slice none 0 0, .int .i64 0, .int .i64 0, .int .i64 0, .int .i64 0, .int .i64 0, .int .i64 0, .slice none 0 0, .int .i64 0, .int .i64 0, .int .i64 0, .int .i64 0, .int .i64 0, .slice none 0 0, .slice none 0 0] 228)).heap.size; rw [asize]; omega
  go_wp2_with fail
  refine (assignment_c hk hn b tb cap r _ σ HA1.out HO.out HKE.out).mono ?_
  rintro e w2 ⟨v2, σ2, rfl, ⟨cs, rfl, hcs1, hcs2⟩, hA2, hG2, hK2, hS2, hR2⟩
  have HA2 : Hid (At w2 b tb cap (T3 toks len) σ2) := hA2
  have HK2 : Hid (Kp b w w2) := HK1.out.trans hK2
  have HR2 : Hid (Row w2 w.heap.size 20) := HR1.out.kp hK2 hb hz1
  have hth := HR2.out.there 0 20 (by omega)
  clear hA2 hK2
  have HG2 : Hid (Goes toks.length σ σ2) := hG2
  have HS2 : Hid (∀ st, fin toks len σ (cCommand :: st) = fin toks len σ2 st) := hS2
  have hth2 := HR2.out.there 0 cs.size (by omega)
  have hi2 : (Tryz.prog.info? 228).map (·.size) = some cs.size := by rw [hcs1]; exact Tryz.infoCmd
  have HC1 : Hid (cs.size = 20) := hcs1
  have HCR : Hid (σ2.e = 0 → CR toks σ.pos (fun g => w.heap.size + 1 ≤ g) w2 (.agg cs) σ2) := by intro he; have := hR2 he; rw [show ((w.alloc (.cells #[.int .i64 0, .int .i64 0, .int .i64 0, .int .i64 0, .int .i64 0, .slice none 0 0, .int .i64 0, .int .i64 0, .int .i64 0, .int .i64 0, .int .i64 0, .int .i64 0, .slice none 0 0, .int .i64 0, .int .i64 0, .int .i64 0, .int .i64 0, .int .i64 0, .slice none 0 0, .slice none 0 0] 228)).drewN nq).heap.size = w.heap.size + 1 from by show (w.alloc (.cells #[.int .i64 0, .int .i64 0, .int .i64 0, .int .i64 0, .int .i64 0, .slice none 0 0, .int .i64 0, .int .i64 0, .int .i64 0, .int .i64 0, .int .i64 0, .int .i64 0, .slice none 0 0, .int .i64 0, .int .i64 0, .int .i64 0, .int .i64 0, .int .i64 0, .slice none 0 0, .slice none 0 0] 228)).heap.size = _; rw [asize]] at this; exact this
  clear hcs1 hG2 hS2 hth hR2
  go_wp2_with (refine wpList_store_mid rfl 228 (.tmp 2) (.tmp 13) rfl w.heap.size 0 cs rfl rfl ?_ hi2 hcs2 ?_; (exact hth2))
  exact postN cs.toList Tryz.results158 rfl Tryz.underlying228 rfl Tryz.infoCmd HR2.out (by simpa using HC1.out) ⟨_, σ2, rfl, ⟨cs.toList.toArray, rfl, by simpa using HC1.out, by simpa using hcs2⟩, At.cells hb htb _ _ _ HA2.out, HG2.out, Kp.cells (Nat.le_refl _) _ _ _ HK2.out, HS2.out, fun he => (HCR.out he).up _⟩

set_option maxRecDepth 100000 in
set_option maxHeartbeats 1000000 in
theorem command_if (hk : AllTok toks) (hn : toks.length ≤ 300) (b tb cap r : Nat) (IH : 0 < r → ComsC toks len b tb cap (r - 1)) (w : World) (σ : PSt) (h : At w b tb cap (T3 toks len) σ) (ho : Ok toks.length σ) (hr : toks.length - σ.pos ≤ r) (k1 : kd (T3 toks len) σ.pos = 17) :
    Calls Tryz.prog 158 #[.pointer (some ⟨b, 0, none⟩)] w (PPost b tb cap toks len σ w (aggV 20) (fun σ' => ∀ st, fin toks len σ (cCommand :: st) = fin toks len σ' st) (CR toks σ.pos (fun g => w.heap.size ≤ g))) := by
  have H : Hid (At w b tb cap (T3 toks len) σ) := h
  have HO : Hid (Ok toks.length σ) := ho
  have HRR : Hid (toks.length - σ.pos ≤ r) := hr
  have HIH : Hid (0 < r → ComsC toks len b tb cap (r - 1)) := IH
  have hb := h.hb
  have htb := h.htb
  have HKE : Hid (kd (T3 toks len) σ.pos = 17) := k1
  have hr0 : 0 < r := by have := (kd_lt (len := len) hk ho (by omega)).1; omega
  clear k1
  have HR0 : Hid (Row (w.alloc (.cells #[.int .i64 0, .int .i64 0, .int .i64 0, .int .i64 0, .int .i64 0, .slice none 0 0, .int .i64 0, .int .i64 0, .int .i64 0, .int .i64 0, .int .i64 0, .int .i64 0, .slice none 0 0, .int .i64 0, .int .i64 0, .int .i64 0, .int .i64 0, .int .i64 0, .slice none 0 0, .slice none 0 0] 228)) w.heap.size 20) := Row.new w #[.int .i64 0, .int .i64 0, .int .i64 0, .int .i64 0, .int .i64 0, .slice none 0 0, .int .i64 0, .int .i64 0, .int .i64 0, .int .i64 0, .int .i64 0, .int .i64 0, .slice none 0 0, .int .i64 0, .int .i64 0, .int .i64 0, .int .i64 0, .int .i64 0, .slice none 0 0, .slice none 0 0] 228 (List.all_eq_true.1 zero20)
  clear h ho hr IH
  go_enter Tryz.func158, Tryz.ntmps158
  go_wp2_with fail
  refine (peek_c b tb cap _ σ (H.out.alloc _) HO.out).mono ?_
  rw [HKE.out]
  rintro e w1 ⟨rfl, nq, rfl⟩
  have HA1 : Hid (At ((w.alloc (.cells #[.int .i64 0, .int .i64 0, .int .i64 0, .int .i64 0, .int .i64 0, .slice none 0 0, .int .i64 0, .int .i64 0, .int .i64 0, .int .i64 0, .int .i64 0, .int .i64 0, .slice none 0 0, .int .i64 0, .int .i64 0, .int .i64 0, .int .i64 0, .int .i64 0, .slice none 0 0, .slice none 0 0] 228)).drewN nq) b tb cap (T3 toks len) σ) := (H.out.alloc _).drewN nq
  have HK1 : Hid (Kp b w ((w.alloc (.cells #[.int .i64 0, .int .i64 0, .int .i64 0, .int .i64 0, .int .i64 0, .slice none 0 0, .int .i64 0, .int .i64 0, .int .i64 0, .int .i64 0, .int .i64 0, .int .i64 0, .slice none 0 0, .int .i64 0, .int .i64 0, .int .i64 0, .int .i64 0, .int .i64 0, .slice none 0 0, .slice none 0 0] 228)).drewN nq)) := ((Kp.refl b w).alloc _).drewN nq
  have HR1 : Hid (Row ((w.alloc (.cells #[.int .i64 0, .int .i64 0, .int .i64 0, .int .i64 0, .int .i64 0, .slice none 0 0, .int .i64 0, .int .i64 0, .int .i64 0, .int .i64 0, .int .i64 0, .int .i64 0, .slice none 0 0, .int .i64 0, .int .i64 0, .int .i64 0, .int .i64 0, .int .i64 0, .slice none 0 0, .slice none 0 0] 228)).drewN nq) w.heap.size 20) := HR0.out.kp (b := b) ((Kp.refl b _).drewN nq) hb (by rw [asize]; omega)
  have hz1 : w.heap.size < ((w.alloc (.cells #[.int .i64 0, .int .i64 0, .int .i64 0, .int .i64 0, .int .i64 0, .slice none 0 0, .int .i64 0, .int .i64 0, .int .i64 0, .int .i64 0, .int .i64 0, .int .i64 0, .slice none 0 0, .int .i64 0, .int .i64 0, .int .i64 0, .int .i64 0, .int .i64 0, .slice none 0 0, .slice none 0 0] 228)).drewN nq).heap.size := by show w.heap.size < (w.alloc (.cells #[.int .i64 0, .int .i64 0, .int .i64 0, .int .i64 0, .int .i64 0, .slice none 0 0, .int .i64 0, .int .i64 0, .int .i64 0, .int .i64 0, .int .i64 0, .int .i64 0, .slice none 0 0, .int .i64 0, .int .i64 0, .int .i64 0, .int .i64 0, .int .i64 0, .slice none 0 0, .slice none 0 0] 228)).heap.size; rw [asize]; omega
  go_wp2_with fail
  refine (choice_c hk hn b tb cap r (HIH.out hr0) _ σ HA1.out HO.out HRR.out HKE.out).mono ?_
  rintro e w2 ⟨v2, σ2, rfl, ⟨cs, rfl, hcs1, hcs2⟩, hA2, hG2, hK2, hS2, hR2⟩
  have HA2 : Hid (At w2 b tb cap (T3 toks len) σ2) := hA2
  have HK2 : Hid (Kp b w w2) := HK1.out.trans hK2
  have HR2 : Hid (Row w2 w.heap.size 20) := HR1.out.kp hK2 hb hz1
  have hth := HR2.out.there 0 20 (by omega)
  clear hA2 hK2
  have HG2 : Hid (Goes toks.length σ σ2) := hG2
  have HS2 : Hid (∀ st, fin toks len σ (cCommand :: st) = fin toks len σ2 st) := hS2
  have hth2 := HR2.out.there 0 cs.size (by omega)
  have hi2 : (Tryz.prog.info? 228).map (·.size) = some cs.size := by rw [hcs1]; exact Tryz.infoCmd
  have HC1 : Hid (cs.size = 20) := hcs1
  have HCR : Hid (σ2.e = 0 → CR toks σ.pos (fun g => w.heap.size + 1 ≤ g) w2 (.agg cs) σ2) := by intro he; have := hR2 he; rw [show ((w.alloc (.cells #[.int .i64 0, .int .i64 0, .int .i64 0, .int .i64 0, .int .i64 0, .slice none 0 0, .int .i64 0, .int .i64 0, .int .i64 0, .int .i64 0, .int .i64 0, .int .i64 0, .slice none 0 0, .int .i64 0, .int .i64 0, .int .i64 0, .int .i64 0, .int .i64 0, .slice none 0 0, .slice none 0 0] 228)).drewN nq).heap.size = w.heap.size + 1 from by show (w.alloc (.cells #[.int .i64 0, .int .i64 0, .int .i64 0, .int .i64 0, .int .i64 0, .slice none 0 0, .int .i64 0, .int .i64 0, .int .i64 0, .int .i64 0, .int .i64 0, .int .i64 0, .slice none 0 0, .int .i64 0, .int .i64 0, .int .i64 0, .int .i64 0, .int .i64 0, .slice none 0 0, .slice none 0 0] 228)).heap.size = _; rw [asize]] at this; exact this
  clear hcs1 hG2 hS2 hth hR2
  go_wp2_with (refine wpList_store_mid rfl 228 (.tmp 2) (.tmp 17) rfl w.heap.size 0 cs rfl rfl ?_ hi2 hcs2 ?_; (exact hth2))
  exact postN cs.toList Tryz.results158 rfl Tryz.underlying228 rfl Tryz.infoCmd HR2.out (by simpa using HC1.out) ⟨_, σ2, rfl, ⟨cs.toList.toArray, rfl, by simpa using HC1.out, by simpa using hcs2⟩, At.cells hb htb _ _ _ HA2.out, HG2.out, Kp.cells (Nat.le_refl _) _ _ _ HK2.out, HS2.out, fun he => (HCR.out he).up _⟩

set_option maxRecDepth 100000 in
set_option maxHeartbeats 1000000 in
theorem command_while (hk : AllTok toks) (hn : toks.length ≤ 300) (b tb cap r : Nat) (IH : 0 < r → ComsC toks len b tb cap (r - 1)) (w : World) (σ : PSt) (h : At w b tb cap (T3 toks len) σ) (ho : Ok toks.length σ) (hr : toks.length - σ.pos ≤ r) (k1 : kd (T3 toks len) σ.pos = 21) :
    Calls Tryz.prog 158 #[.pointer (some ⟨b, 0, none⟩)] w (PPost b tb cap toks len σ w (aggV 20) (fun σ' => ∀ st, fin toks len σ (cCommand :: st) = fin toks len σ' st) (CR toks σ.pos (fun g => w.heap.size ≤ g))) := by
  have H : Hid (At w b tb cap (T3 toks len) σ) := h
  have HO : Hid (Ok toks.length σ) := ho
  have HRR : Hid (toks.length - σ.pos ≤ r) := hr
  have HIH : Hid (0 < r → ComsC toks len b tb cap (r - 1)) := IH
  have hb := h.hb
  have htb := h.htb
  have HKE : Hid (kd (T3 toks len) σ.pos = 21) := k1
  have hr0 : 0 < r := by have := (kd_lt (len := len) hk ho (by omega)).1; omega
  clear k1
  have HR0 : Hid (Row (w.alloc (.cells #[.int .i64 0, .int .i64 0, .int .i64 0, .int .i64 0, .int .i64 0, .slice none 0 0, .int .i64 0, .int .i64 0, .int .i64 0, .int .i64 0, .int .i64 0, .int .i64 0, .slice none 0 0, .int .i64 0, .int .i64 0, .int .i64 0, .int .i64 0, .int .i64 0, .slice none 0 0, .slice none 0 0] 228)) w.heap.size 20) := Row.new w #[.int .i64 0, .int .i64 0, .int .i64 0, .int .i64 0, .int .i64 0, .slice none 0 0, .int .i64 0, .int .i64 0, .int .i64 0, .int .i64 0, .int .i64 0, .int .i64 0, .slice none 0 0, .int .i64 0, .int .i64 0, .int .i64 0, .int .i64 0, .int .i64 0, .slice none 0 0, .slice none 0 0] 228 (List.all_eq_true.1 zero20)
  clear h ho hr IH
  go_enter Tryz.func158, Tryz.ntmps158
  go_wp2_with fail
  refine (peek_c b tb cap _ σ (H.out.alloc _) HO.out).mono ?_
  rw [HKE.out]
  rintro e w1 ⟨rfl, nq, rfl⟩
  have HA1 : Hid (At ((w.alloc (.cells #[.int .i64 0, .int .i64 0, .int .i64 0, .int .i64 0, .int .i64 0, .slice none 0 0, .int .i64 0, .int .i64 0, .int .i64 0, .int .i64 0, .int .i64 0, .int .i64 0, .slice none 0 0, .int .i64 0, .int .i64 0, .int .i64 0, .int .i64 0, .int .i64 0, .slice none 0 0, .slice none 0 0] 228)).drewN nq) b tb cap (T3 toks len) σ) := (H.out.alloc _).drewN nq
  have HK1 : Hid (Kp b w ((w.alloc (.cells #[.int .i64 0, .int .i64 0, .int .i64 0, .int .i64 0, .int .i64 0, .slice none 0 0, .int .i64 0, .int .i64 0, .int .i64 0, .int .i64 0, .int .i64 0, .int .i64 0, .slice none 0 0, .int .i64 0, .int .i64 0, .int .i64 0, .int .i64 0, .int .i64 0, .slice none 0 0, .slice none 0 0] 228)).drewN nq)) := ((Kp.refl b w).alloc _).drewN nq
  have HR1 : Hid (Row ((w.alloc (.cells #[.int .i64 0, .int .i64 0, .int .i64 0, .int .i64 0, .int .i64 0, .slice none 0 0, .int .i64 0, .int .i64 0, .int .i64 0, .int .i64 0, .int .i64 0, .int .i64 0, .slice none 0 0, .int .i64 0, .int .i64 0, .int .i64 0, .int .i64 0, .int .i64 0, .slice none 0 0, .slice none 0 0] 228)).drewN nq) w.heap.size 20) := HR0.out.kp (b := b) ((Kp.refl b _).drewN nq) hb (by rw [asize]; omega)
  have hz1 : w.heap.size < ((w.alloc (.cells #[.int .i64 0, .int .i64 0, .int .i64 0, .int .i64 0, .int .i64 0, .slice none 0 0, .int .i64 0, .int .i64 0, .int .i64 0, .int .i64 0, .int .i64 0, .int .i64 0, .slice none 0 0, .int .i64 0, .int .i64 0, .int .i64 0, .int .i64 0, .int .i64 0, .slice none 0 0, .slice none 0 0] 228)).drewN nq).heap.size := by show w.heap.size < (w.alloc (.cells #[.int .i64 0, .int .i64 0, .int .i64 0, .int .i64 0, .int .i64 0, .slice none 0 0, .int .i64 0, .int .i64 0, .int .i64 0, .int .i64 0, .int .i64 0, .int .i64 0, .slice none 0 0, .int .i64 0, .int .i64 0, .int .i64 0, .int .i64 0, .int .i64 0, .slice none 0 0, .slice none 0 0] 228)).heap.size; rw [asize]; omega
  go_wp2_with fail
  refine (loop_c hk hn b tb cap r (HIH.out hr0) _ σ HA1.out HO.out HRR.out HKE.out).mono ?_
  rintro e w2 ⟨v2, σ2, rfl, ⟨cs, rfl, hcs1, hcs2⟩, hA2, hG2, hK2, hS2, hR2⟩
  have HA2 : Hid (At w2 b tb cap (T3 toks len) σ2) := hA2
  have HK2 : Hid (Kp b w w2) := HK1.out.trans hK2
  have HR2 : Hid (Row w2 w.heap.size 20) := HR1.out.kp hK2 hb hz1
  have hth := HR2.out.there 0 20 (by omega)
  clear hA2 hK2
  have HG2 : Hid (Goes toks.length σ σ2) := hG2
  have HS2 : Hid (∀ st, fin toks len σ (cCommand :: st) = fin toks len σ2 st) := hS2
  have hth2 := HR2.out.there 0 cs.size (by omega)
  have hi2 : (Tryz.prog.info? 228).map (·.size) = some cs.size := by rw [hcs1]; exact Tryz.infoCmd
  have HC1 : Hid (cs.size = 20) := hcs1
  have HCR : Hid (σ2.e = 0 → CR toks σ.pos (fun g => w.heap.size + 1 ≤ g) w2 (.agg cs) σ2) := by intro he; have := hR2 he; rw [show ((w.alloc (.cells #[.int .i64 0, .int .i64 0, .int .i64 0, .int .i64 0, .int .i64 0, .slice none 0 0, .int .i64 0, .int .i64 0, .int .i64 0, .int .i64 0, .int .i64 0, .int .i64 0, .slice none 0 0, .int .i64 0, .int .i64 0, .int .i64 0, .int .i64 0, .int .i64 0, .slice none 0 0, .slice none 0 0] 228)).drewN nq).heap.size = w.heap.size + 1 from by show (w.alloc (.cells #[.int .i64 0, .int .i64 0, .int .i64 0, .int .i64 0, .int .i64 0, .slice none 0 0, .int .i64 0, .int .i64 0, .int .i64 0, .int .i64 0, .int .i64 0, .int .i64 0, .slice none 0 0, .int .i64 0, .int .i64 0, .int .i64 0, .int .i64 0, .int .i64 0, .slice none 0 0, .slice none 0 0] 228)).heap.size = _; rw [asize]] at this; exact this
  clear hcs1 hG2 hS2 hth hR2
  go_wp2_with (refine wpList_store_mid rfl 228 (.tmp 2) (.tmp 21) rfl w.heap.size 0 cs rfl rfl ?_ hi2 hcs2 ?_; (exact hth2))
  exact postN cs.toList Tryz.results158 rfl Tryz.underlying228 rfl Tryz.infoCmd HR2.out (by simpa using HC1.out) ⟨_, σ2, rfl, ⟨cs.toList.toArray, rfl, by simpa using HC1.out, by simpa using hcs2⟩, At.cells hb htb _ _ _ HA2.out, HG2.out, Kp.cells (Nat.le_refl _) _ _ _ HK2.out, HS2.out, fun he => (HCR.out he).up _⟩

theorem command_step (hk : AllTok toks) (hn : toks.length ≤ 300) (b tb cap r : Nat) (IH : 0 < r → ComsC toks len b tb cap (r - 1)) : ComC toks len b tb cap r := by
  intro w σ h ho hr
  by_cases k1 : kd (T3 toks len) σ.pos = 16
  · exact command_skip hk hn b tb cap r IH w σ h ho hr k1
  by_cases k2 : kd (T3 toks len) σ.pos = 28
  · exact command_assign hk hn b tb cap r IH w σ h ho hr k2
  by_cases k3 : kd (T3 toks len) σ.pos = 17
  · exact command_if hk hn b tb cap r IH w σ h ho hr k3
  by_cases k4 : kd (T3 toks len) σ.pos = 21
  · exact command_while hk hn b tb cap r IH w σ h ho hr k4
  exact command_other hk hn b tb cap r IH w σ h ho hr k1 k2 k3 k4

end Go.Proofs.YtkinoehmcfhgbaaGreatDoor.Av
