/-
  The walk of the program's cycle.
  The walk of the program's proof, where split's contract is given.
  Plain words of a split; what is assumed, put and taken away, while the kernel is at work.
  The walk of the program's split, where proof's contract is given (UNFINISHED: see NOTES).
  Proof and split together.
-/
import Derived.Test.YtkinoehmcfhgbaaGreatDoorS3k
import Derived.Deep.MidRow
set_option linter.unusedVariables false
set_option linter.unusedSimpArgs false
namespace Go.Proofs.YtkinoehmcfhgbaaGreatDoor.Vl
open Go.RowKit

theorem ats_cells {w : World} {base : Nat} {v : Value} {ats : List Atm} (h : w.ownsRow base 134 3 v ats.length (cells3 ats)) (hn : 0 < ats.length) :
    ∃ g cap, v = .slice (some ⟨g, 0, none⟩) ats.length cap ∧ base ≤ g ∧ g < w.heap.size ∧ ∀ j a, ats[j]? = some a → w.cell? ⟨g, j * 3, none⟩ = some (.int .i64 a.1) ∧ w.cell? ⟨g, j * 3 + 1, none⟩ = some (.int .i64 a.2.1) ∧ w.cell? ⟨g, j * 3 + 2, none⟩ = some (.int .i64 a.2.2) := by
  rcases h.2 with ⟨h1, h2⟩ | ⟨g, cap, cur, hv, hg, hh, h3, h4, h5, h6⟩
  · omega
  · refine ⟨g, cap, hv, hg, (Array.getElem?_eq_some_iff.1 hh).1, fun j a ha => ?_⟩
    have hc := cells3_at ats j a ha
    have e : ∀ i u, (cells3 ats)[i]? = some u → w.cell? ⟨g, i, none⟩ = some u := by
      intro i u hu
      rw [← h6, List.getElem?_take] at hu
      split at hu
      · have : cur[i]? = some u := by simpa using hu
        simp [World.cell?, hh, this]
      · cases hu
    exact ⟨e _ _ hc.1, e _ _ hc.2.1, e _ _ hc.2.2⟩
/-- The one ahead of place j: the last one ahead of the first. -/
def prv (ats : List Atm) (j : Nat) : Atm := if j = 0 then ats.getLastD (0, 0, 0) else ats.getD (j - 1) (0, 0, 0)
theorem chn_drop (ats : List Atm) (j : Nat) (a : Atm) (h : ats[j]? = some a) : chn (prv ats j) (ats.drop j) = ((prv ats j).2.1 == a.1 && chn (prv ats (j + 1)) (ats.drop (j + 1))) := by
  have hl := (List.getElem?_eq_some_iff.1 h).1
  have e : ats.drop j = a :: ats.drop (j + 1) := by
    rw [List.drop_eq_getElem_cons hl]
    congr 1
    rw [List.getElem?_eq_getElem hl] at h
    exact Option.some.inj h
  have e2 : prv ats (j + 1) = a := by
    unfold prv
    rw [if_neg (by omega), show j + 1 - 1 = j by omega, List.getD_eq_getElem?_getD, h]; rfl
  rw [e, e2]; rfl
theorem smB_take (ats : List Atm) (j : Nat) (a : Atm) (h : ats[j]? = some a) : smB (ats.take (j + 1)) = smB (ats.take j) + a.2.2 := by
  unfold smB
  rw [List.take_add_one, h]
  simp

set_option maxRecDepth 100000 in
set_option maxHeartbeats 4000000 in
theorem kcycle_any {w0 : World} {b mb : Nat} {vW : Value} {ys : List Sym} {q : Option Addr} {cap : Nat} {us : List Atm} {n : Nat} {f : Atm → Int} (w : World) (l : List UInt8) (h : KS w0 w b mb vW ys q cap us l n f) (hgl : Gl w0) (hl : l.length ≤ 200000) (hN : us.length ≤ 4000) (hok : ∀ a ∈ us, okA a) (hf3 : ∀ a, T3 (f a)) (hbd : ∀ ats r, lks us f (l.length + 1) l = some (ats, r) → ∀ a ∈ ats, -1000000 ≤ a.2.2 ∧ a.2.2 ≤ 1000000) :
    Calls Tryz.prog 125 #[.pointer (some ⟨b, 0, none⟩)] w fun e w' => FrK b mb w w' ∧ ∃ l', KS w0 w' b mb vW ys q cap us l' n f ∧
      ((∃ ats r, lks us f (l.length + 1) l = some (ats, r) ∧ l' = r ∧ e = .returned (.bool (cyc ats))) ∨ (lks us f (l.length + 1) l = none ∧ e = .returned (.bool false))) := by
  have hlen : ∀ ats r, lks us f (l.length + 1) l = some (ats, r) → ats ≠ [] ∧ ats.length ≤ 200000 := fun ats r he => by
    obtain ⟨_, h1, h2⟩ := lks_len _ _ _ _ he
    exact ⟨h1, by omega⟩
  have CA : Hid _ := assumptions_any w l h hgl hl hN hok hf3
  have hbw := h.kn.lt
  have hmw := h.am.lt
  have HLN : Hid _ := hlen
  have HBD : Hid _ := hbd
  clear h hlen hbd hf3 hok
  go_enter Tryz.func125, Tryz.ntmps125
  go_wp2_with fail
  refine Calls.mono CA.out ?_
  rintro e w1 ⟨hf1, v, l', hk1, hcs⟩
  rcases hcs with ⟨ats, r, hlk, rfl, rfl, hown⟩ | ⟨hlk, rfl⟩
  · obtain ⟨hne, hal⟩ := HLN.out _ _ hlk
    have hpos : 0 < ats.length := List.length_pos_iff.2 hne
    obtain ⟨g, vc, rfl, hg1, hg2, hcells⟩ := ats_cells hown hpos
    have hlast : ats[ats.length - 1]? = some (prv ats 0) := by
      unfold prv
      rw [if_pos rfl, List.getLastD_eq_getLast?, List.getLast?_eq_getElem?]
      rw [List.getElem?_eq_getElem (by omega)]; rfl
    obtain ⟨z0, z1, z2⟩ := hcells _ _ hlast
    have HCE : Hid _ := hcells
    have HK1 : Hid (KS w0 w1 b mb vW ys q cap us l' n f) := hk1
    have HF1 : Hid (FrK b mb w w1) := hf1
    have HB : Hid _ := HBD.out _ _ hlk
    have HLK : Hid (lks us f (l.length + 1) l = some (ats, l')) := hlk
    have hsub : IntKind.i64.wrap ((ats.length : Int) - 1) = ((ats.length - 1 : Nat) : Int) := by rw [IntWalk.i64_in _ (by omega)]; omega
    have hidx : ((ats.length - 1 : Nat) : Int) < (ats.length : Int) := by omega
    clear hown hk1 hf1 hcells hlk hlast
    obtain ⟨⟨p1, p2, p3⟩, hpr⟩ : ∃ p, prv ats 0 = p := ⟨_, rfl⟩
    rw [hpr] at z0 z1 z2
    have HPR : Hid (prv ats 0 = (p1, p2, p3)) := hpr
    clear hpr
    dsimp only at z0 z1 z2
    go_wp2_with fail
    go_region
    go_wp2_with fail
    have hX0 : Below w1.heap.size w1 (w1.alloc (.cells #[.int .i64 p1, .int .i64 p2, .int .i64 p3] 134)).drew := (below_alloc _ _).drew
    have hL0 : (w1.alloc (.cells #[.int .i64 p1, .int .i64 p2, .int .i64 p3] 134)).drew.heap[w1.heap.size]? = some (.cells #[.int .i64 p1, .int .i64 p2, .int .i64 p3] 134 (0, 0)) := heap_alloc_new _ _
    clear z0 z1 z2
    have HB2 : Hid (∀ (j : Nat) (a : Atm), ats[j]? = some a → -1000000 ≤ a.2.2 ∧ a.2.2 ≤ 1000000) := fun j a ha => HB.out a (List.mem_of_getElem? ha)
    have HSB : Hid (∀ j, j ≤ ats.length → -1000000 * (j : Int) ≤ smB (ats.take j) ∧ smB (ats.take j) ≤ 1000000 * (j : Int)) := fun j => by
      induction j with
      | zero => intro _; simp [smB]
      | succ j ih =>
        intro hj
        have := ih (by omega)
        obtain ⟨a, ha⟩ : ∃ a, ats[j]? = some a := ⟨_, List.getElem?_eq_getElem (by omega)⟩
        have hb := HB2.out j a ha
        rw [smB_take ats j a ha]
        constructor <;> (push_cast; omega)
    go_loopw [5, 8, 24] (fun s5 s8 s24 wr => ∃ (j : Nat) (o1 o2 o3 : Int), j ≤ ats.length ∧ s24 = .int .i64 (j : Int) ∧ s5 = .int .i64 (smB (ats.take j)) ∧ chn (prv ats 0) ats = chn (prv ats j) (ats.drop j) ∧ prv ats j = (o1, o2, o3) ∧ wr.heap[w1.heap.size]? = some (.cells #[.int .i64 o1, .int .i64 o2, .int .i64 o3] 134 (0, 0)) ∧ Below w1.heap.size w1 wr) (fun _ _ s24 _ => ats.length - (intOf s24).toNat)
    case atStart => exact ⟨0, p1, p2, p3, Nat.zero_le _, rfl, rfl, rfl, HPR.out, hL0, hX0⟩
    case round =>
      obtain ⟨j, o1, o2, o3, hj, rfl, rfl, hch, hpv, hLb, hbr⟩ := hrel
      have HCH : Hid _ := hch
      have HPV : Hid (prv ats j = (o1, o2, o3)) := hpv
      have hsj := HSB.out j hj
      clear hch hpv
      by_cases hlt : j < ats.length
      · obtain ⟨⟨a1, a2, a3⟩, ha⟩ : ∃ a, ats[j]? = some a := ⟨_, List.getElem?_eq_getElem hlt⟩
        obtain ⟨y0, y1, y2⟩ := HCE.out j _ ha
        dsimp only at y0 y1 y2
        have b3 := HB2.out j _ ha
        dsimp only at b3
        have hST := smB_take ats j _ ha
        dsimp only at hST
        have hCD := chn_drop ats j _ ha
        rw [HPV.out] at hCD
        dsimp only at hCD
        have x0 := (hbr.cell (p := ⟨g, j * 3, none⟩) hg2).trans y0
        have x1 := (hbr.cell (p := ⟨g, j * 3 + 1, none⟩) hg2).trans y1
        have x2 := (hbr.cell (p := ⟨g, j * 3 + 2, none⟩) hg2).trans y2
        have hlt' : (j : Int) < (ats.length : Int) := by omega
        have hsb := hbr.size
        have hLlt : w1.heap.size < wr.heap.size := (Array.getElem?_eq_some_iff.1 hLb).1
        have q0 : (wr.alloc (.cells #[.int .i64 a1, .int .i64 a2, .int .i64 a3] 134)).cell? ⟨w1.heap.size, 0, none⟩ = some (.int .i64 o1) := ((below_alloc wr _).cell (p := ⟨w1.heap.size, 0, none⟩) hLlt).trans (by simp [World.cell?, hLb])
        have q1 : (wr.alloc (.cells #[.int .i64 a1, .int .i64 a2, .int .i64 a3] 134)).cell? ⟨w1.heap.size, 1, none⟩ = some (.int .i64 o2) := ((below_alloc wr _).cell (p := ⟨w1.heap.size, 1, none⟩) hLlt).trans (by simp [World.cell?, hLb])
        have q2 : (wr.alloc (.cells #[.int .i64 a1, .int .i64 a2, .int .i64 a3] 134)).cell? ⟨w1.heap.size, 2, none⟩ = some (.int .i64 o3) := ((below_alloc wr _).cell (p := ⟨w1.heap.size, 2, none⟩) hLlt).trans (by simp [World.cell?, hLb])
        have qh : (wr.alloc (.cells #[.int .i64 a1, .int .i64 a2, .int .i64 a3] 134)).heap[w1.heap.size]? = some (.cells #[.int .i64 o1, .int .i64 o2, .int .i64 o3] 134 (0, 0)) := (Below.heap_alloc _ _ _ hLlt).trans hLb
        have qf : ∀ o, (wr.alloc (.cells #[.int .i64 a1, .int .i64 a2, .int .i64 a3] 134)).frozen? ⟨w1.heap.size, o, none⟩ = false := fun o => Lib.frozen_of_heap qh o
        have qf0 := qf 0
        have qf1 := qf 1
        have qf2 := qf 2
        have hwr : IntKind.i64.wrap (smB (ats.take j) + a3) = smB (ats.take j) + a3 := IntWalk.i64_in _ (by omega)
        have hbe : Below w1.heap.size w1 (wr.alloc (.cells #[.int .i64 a1, .int .i64 a2, .int .i64 a3] 134)) := hbr.alloc hsb _
        have HQH : Hid _ := qh
        have HBE : Hid _ := hbe
        have HSJ : Hid (smB (ats.take (j + 1)) = smB (ats.take j) + a3) := hST
        have HCD : Hid (chn (o1, o2, o3) (ats.drop j) = (o2 == a1 && chn (prv ats (j + 1)) (ats.drop (j + 1)))) := hCD
        have HPN : Hid (prv ats (j + 1) = (a1, a2, a3)) := by
          show _ = _
          unfold prv
          rw [if_neg (by omega), show j + 1 - 1 = j by omega, List.getD_eq_getElem?_getD, ha]; rfl
        clear qf hLb qh hbe hST hCD ha y0 y1 y2
        generalize smB (ats.take j) = SM at *
        cases heq : (o2 == a1)
        · have hnq : o2 ≠ a1 := by simpa using heq
          have hnq2 : (o2 != a1) = true := by simpa using hnq
          go_wp2_with fail
          go_ret
          refine ⟨HF1.out.trans (.of_below HBE.out), _, HK1.out.below HBE.out, Or.inl ⟨ats, _, HLK.out, rfl, ?_⟩⟩
          have : cyc ats = false := by
            unfold cyc
            rw [show ats.getLastD (0, 0, 0) = prv ats 0 from rfl, HCH.out, HPV.out, HCD.out, heq]; rfl
          rw [this]; rfl
        · have hnq2 : (o2 != a1) = false := by rw [bne, heq]; rfl
          have hth : (wr.alloc (.cells #[.int .i64 a1, .int .i64 a2, .int .i64 a3] 134)).there w1.heap.size 0 3 := fun i hi => by
            match i, hi with
            | 0, _ => exact ⟨by rw [q0]; rfl, qf0⟩
            | 1, _ => exact ⟨by rw [q1]; rfl, qf1⟩
            | 2, _ => exact ⟨by rw [q2]; rfl, qf2⟩
          clear q2 qf0 qf1 qf2
          have h1c : (#[Value.int .i64 a1, .int .i64 a2, .int .i64 a3] : Array Value).all (·.oneCell') = true := by simp [Value.oneCell']
          go_wp2_with (refine wpList_store_mid rfl 134 (.tmp 6) (.tmp 37) rfl w1.heap.size 0 #[.int .i64 a1, .int .i64 a2, .int .i64 a3] rfl rfl ?_ ?_ ?_ ?_; (exact hth); (exact Tryz.sizeLAtm); (exact h1c))
          refine ⟨⟨j + 1, a1, a2, a3, by omega, by push_cast; rfl, by rw [HSJ.out], ?_, HPN.out, ?_, ?_⟩, ?_⟩
          · rw [HCH.out, HPV.out, HCD.out, heq]; rfl
          · exact heap_setCell_same _ _ 2 _ _ _ (heap_setCell_same _ _ 1 _ _ _ (heap_setCell_same _ _ 0 _ _ _ HQH.out))
          · exact ((HBE.out.setCell (p := ⟨w1.heap.size, 0, none⟩) (Nat.le_refl _) _).setCell (p := ⟨w1.heap.size, 1, none⟩) (Nat.le_refl _) _).setCell (p := ⟨w1.heap.size, 2, none⟩) (Nat.le_refl _) _
          · simp only [intOf]; omega
      · have hlt' : ¬ (j : Int) < (ats.length : Int) := by omega
        have hje : j = ats.length := by omega
        subst hje
        rw [List.take_length] at *
        go_wp2_with fail
        go_ret
        refine ⟨HF1.out.trans (.of_below hbr), _, HK1.out.below hbr, Or.inl ⟨ats, _, HLK.out, rfl, ?_⟩⟩
        have : cyc ats = decide (smB ats < 0) := by
          unfold cyc
          rw [show ats.getLastD (0, 0, 0) = prv ats 0 from rfl, HCH.out, List.drop_length]; rfl
        rw [this]; rfl
  · go_wp2_with fail
    go_ret
    exact ⟨hf1, l', hk1, Or.inr ⟨hlk, rfl⟩⟩
end Go.Proofs.YtkinoehmcfhgbaaGreatDoor.Vl
set_option linter.unusedVariables false
set_option linter.unusedSimpArgs false
namespace Go.Proofs.YtkinoehmcfhgbaaGreatDoor.Vl
open Go.RowKit

theorem lks_bd {us : List Atm} {f : Atm → Int} (hok : ∀ a ∈ us, okA a) : ∀ (k : Nat) (l : List UInt8) (ats : List Atm) (r : List UInt8), lks us f k l = some (ats, r) → ∀ a ∈ ats, -1000000 ≤ a.2.2 ∧ a.2.2 ≤ 1000000
  | 0, l, ats, r, h => by cases h
  | k + 1, l, ats, r, h => by
    unfold lks at h
    split at h
    · cases h
    · cases h
    · rename_i n c r' hf
      have hn := (fig_lt hf).1
      have ho := okA_getD hok n hn
      have hb : -1000000 ≤ (ifA (us.getD n (0, 0, 0)) (f (us.getD n (0, 0, 0)))).2.2 ∧ (ifA (us.getD n (0, 0, 0)) (f (us.getD n (0, 0, 0)))).2.2 ≤ 1000000 := by
        unfold okA at ho
        unfold ifA
        split <;> first | omega | (dsimp only; omega)
      split at h
      · cases h
      · split at h
        · obtain ⟨⟨ats', r2⟩, h2, h3⟩ := Option.map_eq_some_iff.1 h
          injection h3 with h4 h5
          subst h4 h5
          intro a ha
          rcases List.mem_cons.1 ha with rfl | ha
          · exact hb
          · exact lks_bd hok k r' ats' r2 h2 a ha
        · split at h
          · injection h with h
            injection h with h4 h5
            subst h4 h5
            intro a ha
            rcases List.mem_cons.1 ha with rfl | ha
            · exact hb
            · cases ha
          · cases h
/-- What is behind a split's mark. -/
def spl (us : List Atm) (ys : List Sym) (k : Nat) (f : Atm → Int) (r : List UInt8) : Option (List UInt8) :=
  match fig us.length r with
  | none => none
  | some (n, []) => none
  | some (n, d :: r1) => if f (us.getD n (0, 0, 0)) = 0 ∧ d = 58 then
      (match chk us ys k (putA f (us.getD n (0, 0, 0)) 1) r1 with
      | none => none
      | some r2 => chk us ys k (putA f (us.getD n (0, 0, 0)) 2) r2)
    else none
theorem chk_dot (us : List Atm) (ys : List Sym) (k : Nat) (f : Atm → Int) (r : List UInt8) : chk us ys (k + 1) f (46 :: r) = if (trun f ys).headD 0 = 1 then some r else none := by simp [chk]
theorem chk_bang (us : List Atm) (ys : List Sym) (k : Nat) (f : Atm → Int) (r : List UInt8) : chk us ys (k + 1) f (33 :: r) = (match lks us f (r.length + 1) r with | some (ats, r') => if cyc ats then some r' else none | none => none) := by simp [chk]; rfl
theorem chk_ask (us : List Atm) (ys : List Sym) (k : Nat) (f : Atm → Int) (r : List UInt8) : chk us ys (k + 1) f (63 :: r) = spl us ys k f r := by simp [chk, spl]; rfl
/-- How a look at a part of a proof ends. -/
def PE (w0 w : World) (b mb : Nat) (vW : Value) (ys : List Sym) (q : Option Addr) (cap : Nat) (us : List Atm) (m : Nat) (f : Atm → Int) (res : Option (List UInt8)) : Ending → World → Prop := fun e w' =>
  FrK b mb w w' ∧ ∃ l' n' f', KS w0 w' b mb vW ys q cap us l' n' f' ∧ ((∃ r, res = some r ∧ l' = r ∧ f' = f ∧ n' + r.length ≤ m ∧ e = .returned (.bool true)) ∨ (res = none ∧ e = .returned (.bool false)))
theorem is1_cons {c : UInt8} {l : List UInt8} (h : is1 c l = true) : ∃ r, l = c :: r ∧ tk1 c l = r := by
  cases l with
  | nil => simp [is1] at h
  | cons d r => simp [is1] at h; subst h; exact ⟨r, rfl, by simp [tk1]⟩
theorem tk1_of {c : UInt8} {l : List UInt8} (h : is1 c l = false) : tk1 c l = l := by
  cases l with
  | nil => rfl
  | cons d r => simp [is1] at h; simp [tk1, h]

set_option maxRecDepth 100000 in
set_option maxHeartbeats 4000000 in
theorem kproof_of {w0 : World} {b mb : Nat} {vW : Value} {s : ByteArray} {ys : List Sym} {q : Option Addr} {cap : Nat} {us : List Atm} {n : Nat} {f : Atm → Int} (hp : pars s = some ys) (w : World) (k : Nat) (l : List UInt8) (h : KS w0 w b mb vW ys q cap us l n f) (hgl : Gl w0) (hl : l.length ≤ 200000) (hN : us.length ≤ 4000) (hok : ∀ a ∈ us, okA a) (hf3 : ∀ a, T3 (f a))
    (hsp : ∀ W r, r.length < l.length → KS w0 W b mb vW ys q cap us r n f → Calls Tryz.prog 126 #[.pointer (some ⟨b, 0, none⟩)] W (PE w0 W b mb vW ys q cap us (n + 1 + r.length) f (spl us ys k f r))) :
    Calls Tryz.prog 86 #[.pointer (some ⟨b, 0, none⟩)] w (PE w0 w b mb vW ys q cap us (n + l.length) f (chk us ys (k + 1) f l)) := by
  have HSP : Hid _ := hsp
  obtain ⟨T, hT⟩ : ∃ T, (trun f ys).headD 0 = T := ⟨_, rfl⟩
  have HT : Hid ((trun f ys).headD 0 = T) := hT
  have HSE : Hid (∀ W r, KS w0 W b mb vW ys q cap us r n f → Calls Tryz.prog 124 #[vW, .map (some mb)] W fun e w' => e = .returned (.int .i8 T) ∧ Below W.heap.size W w') := fun W r hk => hT ▸ settled_any hp vW mb n f hf3 W hk.c.sw hk.am
  have HCY : Hid (∀ W r, r.length ≤ 200000 → KS w0 W b mb vW ys q cap us r n f → Calls Tryz.prog 125 #[.pointer (some ⟨b, 0, none⟩)] W fun e w' => FrK b mb W w' ∧ ∃ l', KS w0 w' b mb vW ys q cap us l' n f ∧
      ((∃ ats r', lks us f (r.length + 1) r = some (ats, r') ∧ l' = r' ∧ e = .returned (.bool (cyc ats))) ∨ (lks us f (r.length + 1) r = none ∧ e = .returned (.bool false)))) := fun W r hr hk => kcycle_any W r hk hgl hr hN hok hf3 (fun ats r' he => lks_bd hok _ _ _ _ he)
  have TK : Hid _ := fun (c : UInt8) => takeK h c hl
  clear hsp h hf3 hok hp hT
  go_enter Tryz.func86, Tryz.ntmps86
  go_wp2_with fail
  refine Calls.mono (TK.out 46) ?_
  rintro e w1 ⟨rfl, K1, F1⟩
  cases h1 : is1 46 l
  · rw [tk1_of h1] at K1
    have HF1 : Hid (FrK b mb w w1) := F1
    have HK1 : Hid (KS w0 w1 b mb vW ys q cap us l n f) := K1
    clear F1 K1 TK
    go_wp2_with fail
    refine Calls.mono (takeK HK1.out 33 hl) ?_
    rintro e w2 ⟨rfl, K2, F2⟩
    cases h2 : is1 33 l
    · rw [tk1_of h2] at K2
      have HF2 : Hid (FrK b mb w w2) := HF1.out.trans F2
      have HK2 : Hid (KS w0 w2 b mb vW ys q cap us l n f) := K2
      clear F2 K2 HK1 HF1
      go_wp2_with fail
      refine Calls.mono (takeK HK2.out 63 hl) ?_
      rintro e w3 ⟨rfl, K3, F3⟩
      cases h3 : is1 63 l
      · have HF3 : Hid (FrK b mb w w3) := HF2.out.trans F3
        have HK3 : Hid (KS w0 w3 b mb vW ys q cap us (tk1 63 l) n f) := K3
        have HC : Hid (chk us ys (k + 1) f l = none) := by
          show _ = _
          cases l with
          | nil => rfl
          | cons d r =>
            simp [is1] at h1 h2 h3
            simp [chk, h1, h2, h3]
        clear F3 K3 HK2 HF2 h1 h2 h3
        go_wp2_with fail
        go_ret
        exact ⟨HF3.out, _, _, _, HK3.out, Or.inr ⟨HC.out, rfl⟩⟩
      · obtain ⟨r, rfl, er⟩ := is1_cons h3
        rw [er] at K3
        have HF3 : Hid (FrK b mb w w3) := HF2.out.trans F3
        have HK3 : Hid (KS w0 w3 b mb vW ys q cap us r n f) := K3
        clear F3 K3 HK2 HF2 h1 h2 h3 er
        rw [chk_ask]
        go_wp2_with fail
        refine Calls.mono (HSP.out _ r (by simp) HK3.out) ?_
        rintro e w4 ⟨F4, l', n', f', K4, ⟨r', e1, e2, e3, e4, rfl⟩ | ⟨e1, rfl⟩⟩
        · have HX : Hid (PE w0 w b mb vW ys q cap us (n + (63 :: r).length) f (spl us ys k f r) (.returned (.bool true)) w4) := ⟨HF3.out.trans F4, l', n', f', K4, Or.inl ⟨r', e1, e2, e3, by simp only [List.length_cons]; omega, rfl⟩⟩
          clear F4 K4 e1 e2 e3 e4
          go_wp2_with fail
          go_ret
          exact HX.out
        · have HX : Hid (PE w0 w b mb vW ys q cap us (n + (63 :: r).length) f (spl us ys k f r) (.returned (.bool false)) w4) := ⟨HF3.out.trans F4, l', n', f', K4, Or.inr ⟨e1, rfl⟩⟩
          clear F4 K4 e1
          go_wp2_with fail
          go_ret
          exact HX.out
    · obtain ⟨r, rfl, er⟩ := is1_cons h2
      rw [er] at K2
      have HF2 : Hid (FrK b mb w w2) := HF1.out.trans F2
      have HK2 : Hid (KS w0 w2 b mb vW ys q cap us r n f) := K2
      clear F2 K2 HK1 HF1 h1 h2 er
      rw [chk_bang]
      go_wp2_with fail
      refine Calls.mono (HCY.out _ r (by simp only [List.length_cons] at hl; omega) HK2.out) ?_
      rintro e w4 ⟨F4, l', K4, ⟨ats, r', e1, e2, rfl⟩ | ⟨e1, rfl⟩⟩
      · have hr' := (lks_len _ _ _ _ e1).1
        have HX : Hid (PE w0 w b mb vW ys q cap us (n + (33 :: r).length) f (match lks us f (r.length + 1) r with | some (ats, r') => if cyc ats then some r' else none | none => none) (.returned (.bool (cyc ats))) w4) := by
          show PE _ _ _ _ _ _ _ _ _ _ _ _ _ _
          rw [e1]
          dsimp only
          refine ⟨HF2.out.trans F4, l', n, f, K4, ?_⟩
          cases hc : cyc ats
          · exact Or.inr ⟨by simp, rfl⟩
          · exact Or.inl ⟨r', by simp, e2, rfl, by simp only [List.length_cons]; omega, rfl⟩
        clear F4 K4 e1 e2
        generalize cyc ats = C at *
        go_wp2_with fail
        go_ret
        exact HX.out
      · have HX : Hid (PE w0 w b mb vW ys q cap us (n + (33 :: r).length) f (match lks us f (r.length + 1) r with | some (ats, r') => if cyc ats then some r' else none | none => none) (.returned (.bool false)) w4) := by
          show PE _ _ _ _ _ _ _ _ _ _ _ _ _ _
          rw [e1]
          exact ⟨HF2.out.trans F4, l', n, f, K4, Or.inr ⟨rfl, rfl⟩⟩
        clear F4 K4 e1
        go_wp2_with fail
        go_ret
        exact HX.out
  · obtain ⟨r, rfl, er⟩ := is1_cons h1
    rw [er] at K1
    obtain ⟨c0, _, _, c3⟩ := K1.kn.cells
    have HF1 : Hid (FrK b mb w w1) := F1
    have HK1 : Hid (KS w0 w1 b mb vW ys q cap us r n f) := K1
    clear F1 K1 TK h1 er
    have HKD : Hid (KS w0 w1.drew b mb vW ys q cap us r n f) := HK1.out.below (Below.refl _ _).drew
    go_wp2_with fail
    go_region_with (first | (go_at_call 124; refine Calls.mono (HSE.out _ r HKD.out) ?_; rintro e w4 ⟨rfl, hb4⟩))
    all_goals
      have K4 := HKD.out.below hb4
      have HX : Hid (PE w0 w b mb vW ys q cap us (n + (46 :: r).length) f (if T = 1 then some r else none) (.returned (.bool (T == 1))) w4) := by
        refine ⟨(HF1.out.trans (.of_below (Below.refl _ _).drew)).trans (.of_below hb4), r, n, f, K4, ?_⟩
        by_cases hT1 : T = 1
        · subst hT1; exact Or.inl ⟨r, by simp, rfl, rfl, by simp only [List.length_cons]; omega, rfl⟩
        · exact Or.inr ⟨by simp [hT1], by simp [hT1]⟩
      clear K4 hb4
      go_wp2_with fail
      go_ret
      rw [chk_dot, HT.out]
      exact HX.out
end Go.Proofs.YtkinoehmcfhgbaaGreatDoor.Vl
set_option linter.unusedVariables false
set_option linter.unusedSimpArgs false
namespace Go.Proofs.YtkinoehmcfhgbaaGreatDoor.Vl
open Go.RowKit

def spl1 (us : List Atm) (ys : List Sym) (k : Nat) (f : Atm → Int) (a : Atm) : List UInt8 → Option (List UInt8)
  | [] => none
  | d :: r1 => if f a = 0 ∧ d = 58 then
      (match chk us ys k (putA f a 1) r1 with
      | none => none
      | some r2 => chk us ys k (putA f a 2) r2)
    else none
theorem spl_none {us : List Atm} {ys : List Sym} {k : Nat} {f : Atm → Int} {r : List UInt8} (h : fig us.length r = none) : spl us ys k f r = none := by unfold spl; rw [h]
theorem spl_some {us : List Atm} {ys : List Sym} {k i : Nat} {f : Atm → Int} {r r1 : List UInt8} (h : fig us.length r = some (i, r1)) : spl us ys k f r = spl1 us ys k f (us.getD i (0, 0, 0)) r1 := by
  unfold spl; rw [h]; cases r1 <;> rfl
theorem putA3 {f : Atm → Int} (h : ∀ a, T3 (f a)) (a : Atm) {t : Int} (ht : T3 t) : ∀ x, T3 (putA f a t x) := fun x => by unfold putA; split; exact ht; exact h x
theorem putA_back {f : Atm → Int} {a : Atm} (h : f a = 0) (t : Int) : putA (putA f a t) a 0 = f := by
  funext x; unfold putA; by_cases e : x = a
  · subst e; simp [h]
  · simp [e]
theorem putA_again (f : Atm → Int) (a : Atm) (t u : Int) : putA (putA f a t) a u = putA f a u := by
  funext x; unfold putA; by_cases e : x = a <;> simp [e]

theorem KS.put {w0 w : World} {b mb : Nat} {vW : Value} {ys : List Sym} {q : Option Addr} {cap : Nat} {us : List Atm} {l : List UInt8} {n : Nat} {f : Atm → Int} (h : KS w0 w b mb vW ys q cap us l n f) (a1 a2 a3 : Int) (ha : okA (a1, a2, a3)) (t : Int) (ht : T3 t) (hn : n ≤ 200000) :
    ∃ w', (Instr.mapUpdate 170 (.map (some mb)) (.agg #[.int .i64 a1, .int .i64 a2, .int .i64 a3]) (.int .i8 t)).run Tryz.prog w = .ok () w' ∧ KS w0 w' b mb vW ys q cap us l (n + 1) (putA f (a1, a2, a3) t) ∧ FrK b mb w w' := by
  obtain ⟨w', h1, h2, h3⟩ := AM.put h.am (a1, a2, a3) ha t ht (Nat.lt_of_le_of_lt hn (by decide))
  exact ⟨w', h1, ⟨h.c.fr (.of_m h3), h.kn.kept h3 (fun e => h.c.hbm (by injection e)), h2⟩, .of_m h3⟩
theorem KS.del {w0 w : World} {b mb : Nat} {vW : Value} {ys : List Sym} {q : Option Addr} {cap : Nat} {us : List Atm} {l : List UInt8} {n : Nat} {f : Atm → Int} (h : KS w0 w b mb vW ys q cap us l n f) (a1 a2 a3 : Int) (ha : okA (a1, a2, a3)) (ty : TypeId) :
    ∃ w', (Builtin.delete_ #[170, 134] ty #[.map (some mb), .agg #[.int .i64 a1, .int .i64 a2, .int .i64 a3]]).run Tryz.prog w = .ok (.tuple #[]) w' ∧ KS w0 w' b mb vW ys q cap us l n (putA f (a1, a2, a3) 0) ∧ FrK b mb w w' := by
  obtain ⟨w', h1, h2, h3⟩ := AM.del h.am (a1, a2, a3) ha ty
  exact ⟨w', h1, ⟨h.c.fr (.of_m h3), h.kn.kept h3 (fun e => h.c.hbm (by injection e)), h2⟩, .of_m h3⟩
end Go.Proofs.YtkinoehmcfhgbaaGreatDoor.Vl
set_option linter.unusedVariables false
set_option linter.unusedSimpArgs false
namespace Go.Proofs.YtkinoehmcfhgbaaGreatDoor.Vl
open Go.RowKit

set_option maxRecDepth 100000 in
set_option maxHeartbeats 4000000 in
theorem ksplit_of {w0 : World} {b mb : Nat} {vW : Value} {ys : List Sym} {q : Option Addr} {cap : Nat} {us : List Atm} {n : Nat} {f : Atm → Int} (w : World) (k : Nat) (r : List UInt8) (h : KS w0 w b mb vW ys q cap us r n f) (hgl : Gl w0) (hl : n + 1 + r.length ≤ 200000) (hN : us.length ≤ 4000) (hok : ∀ a ∈ us, okA a) (hf3 : ∀ a, T3 (f a))
    (hpr : ∀ W l n f, (∀ a, T3 (f a)) → l.length < r.length → n + l.length ≤ 200000 → KS w0 W b mb vW ys q cap us l n f → Calls Tryz.prog 86 #[.pointer (some ⟨b, 0, none⟩)] W (PE w0 W b mb vW ys q cap us (n + l.length) f (chk us ys k f l))) :
    Calls Tryz.prog 126 #[.pointer (some ⟨b, 0, none⟩)] w (PE w0 w b mb vW ys q cap us (n + 1 + r.length) f (spl us ys k f r)) := by
  have HPR : Hid _ := hpr
  have CA : Hid _ := atomK h hgl (by omega) hN
  have hbw := h.kn.lt
  have hmw := h.am.lt
  clear h hpr
  go_enter Tryz.func126, Tryz.ntmps126
  go_wp2_with fail
  refine Calls.mono CA.out ?_
  rintro e w1 ⟨hf1, hcs⟩
  have LOOK : Hid (∀ (a1 a2 a3 : Int) (r' : List UInt8), KS w0 w1 b mb vW ys q cap us r' n f → okA (a1, a2, a3) → KS w0 (w1.alloc (.cells #[.int .i64 a1, .int .i64 a2, .int .i64 a3] 134)) b mb vW ys q cap us r' n f ∧ (w1.alloc (.cells #[.int .i64 a1, .int .i64 a2, .int .i64 a3] 134)).cell? ⟨b, 3, none⟩ = some (.map (some mb)) ∧ (Instr.lookup 170 (.map (some mb)) (.agg #[.int .i64 a1, .int .i64 a2, .int .i64 a3]) false).run Tryz.prog ((w1.alloc (.cells #[.int .i64 a1, .int .i64 a2, .int .i64 a3] 134)).drew) = .ok (.int .i8 (f (a1, a2, a3))) ((w1.alloc (.cells #[.int .i64 a1, .int .i64 a2, .int .i64 a3] 134)).drew)) := fun a1 a2 a3 r' hk ho => by
    have h2 := hk.below (below_alloc w1 (.cells #[.int .i64 a1, .int .i64 a2, .int .i64 a3] 134))
    exact ⟨h2, h2.kn.cells.2.2.2, AM.look (h2.am.drewN 1) (a1, a2, a3) ho⟩
  rcases hcs with ⟨i, r1, hfg, hil, rfl, hk1⟩ | ⟨hfg, rfl, hk1⟩
  · have hoa := okA_getD hok i hil
    have hr1 := fig_len hfg
    have HS : Hid (spl us ys k f r = spl1 us ys k f (us.getD i (0, 0, 0)) r1) := spl_some hfg
    obtain ⟨⟨a1, a2, a3⟩, ea⟩ : ∃ a, us.getD i (0, 0, 0) = a := ⟨_, rfl⟩
    rw [ea] at hoa HS
    obtain ⟨h2, c3, hlook⟩ := LOOK.out a1 a2 a3 _ hk1 hoa
    have HK2 : Hid (KS w0 (w1.alloc (.cells #[.int .i64 a1, .int .i64 a2, .int .i64 a3] 134)) b mb vW ys q cap us r1 n f) := h2
    have HF2 : Hid (FrK b mb w (w1.alloc (.cells #[.int .i64 a1, .int .i64 a2, .int .i64 a3] 134))) := hf1.trans (.of_below (below_alloc _ _))
    rw [ea]
    unfold avV
    dsimp only
    have hT := hf3 (a1, a2, a3)
    have hsz := hf1.size
    clear h2 hk1 LOOK hf1 hfg ea
    have HKD : Hid (KS w0 (w1.alloc (.cells #[.int .i64 a1, .int .i64 a2, .int .i64 a3] 134)).drew b mb vW ys q cap us r1 n f) := HK2.out.below (Below.refl _ _).drew
    have HFD : Hid (FrK b mb w (w1.alloc (.cells #[.int .i64 a1, .int .i64 a2, .int .i64 a3] 134)).drew) := HF2.out.trans (.of_below (Below.refl _ _).drew)
    by_cases hF0 : f (a1, a2, a3) = 0
    · rw [hF0] at hlook
      have HF0 : Hid _ := hF0
      have TK : Hid _ := takeK HKD.out 58 (by omega)
      cases his : is1 58 r1
      · rw [his] at TK
        have HX : Hid (spl us ys k f r = none) := by
          show _ = _
          rw [HS.out]
          cases r1 with
          | nil => rfl
          | cons d r2 => exact if_neg (fun e => by simp [is1, e.2] at his)
        clear HS his hF0
        go_wp2_with fail
        go_region_with (first | (go_at_call 123; refine Calls.mono TK.out ?_; rintro e w2 ⟨rfl, K3, F3⟩))
        all_goals
          have HX2 : Hid (PE w0 w b mb vW ys q cap us (n + 1 + r.length) f (spl us ys k f r) (.returned (.bool false)) w2) := ⟨HFD.out.trans F3, _, _, _, K3, Or.inr ⟨HX.out, rfl⟩⟩
          clear K3 F3
          go_wp2_with fail
          go_ret
          exact HX2.out
      · rw [his] at TK
        obtain ⟨r2, rfl, er⟩ := is1_cons his
        rw [er] at TK
        clear his er hF0
        go_wp2_with fail
        go_region_with (first | (go_at_call 123; refine Calls.mono TK.out ?_; rintro e w2 ⟨rfl, K3, F3⟩))
        all_goals
          have hA : w2.heap[w1.heap.size]? = some (.cells #[.int .i64 a1, .int .i64 a2, .int .i64 a3] 134 (0, 0)) := (F3.block w1.heap.size (by show _ < (w1.heap.push _).size; simp) (by omega) (by omega)).trans (heap_alloc_new _ _)
          have z0 : w2.cell? ⟨w1.heap.size, 0, none⟩ = some (.int .i64 a1) := by simp [World.cell?, hA]
          have z1 : w2.cell? ⟨w1.heap.size, 1, none⟩ = some (.int .i64 a2) := by simp [World.cell?, hA]
          have z2 : w2.cell? ⟨w1.heap.size, 2, none⟩ = some (.int .i64 a3) := by simp [World.cell?, hA]
          have d3 := K3.kn.cells.2.2.2
          have HK3 : Hid (KS w0 w2 b mb vW ys q cap us r2 n f) := K3
          have HF3 : Hid (FrK b mb w w2) := HFD.out.trans F3
          have HA : Hid _ := hA
          clear hA K3 F3 hlook c3
          obtain ⟨w3, hput, K4, F4⟩ := KS.put (HK3.out.below (Below.refl _ _).drew) a1 a2 a3 hoa 1 (Or.inr (Or.inl rfl)) (by omega)
          have HF4 : Hid (FrK b mb w w3) := (HF3.out.trans (.of_below (Below.refl _ _).drew)).trans F4
          have hA3 : w3.heap[w1.heap.size]? = some (.cells #[.int .i64 a1, .int .i64 a2, .int .i64 a3] 134 (0, 0)) := (F4.block w1.heap.size (by show _ < w2.heap.size; exact (Array.getElem?_eq_some_iff.1 HA.out).1) (by omega) (by omega)).trans HA.out
          have HA3 : Hid _ := hA3
          have HK4 : Hid (KS w0 w3 b mb vW ys q cap us r2 (n + 1) (putA f (a1, a2, a3) 1)) := K4
          clear K4 F4 hA3
          go_wp2_with fail
          go_region
          go_wp2_with fail
          all_goals
            refine Calls.mono (HPR.out _ r2 (n + 1) _ (putA3 hf3 _ (Or.inr (Or.inl rfl))) (by simp only [List.length_cons] at hr1; omega) (by simp only [List.length_cons] at hr1; omega) HK4.out) ?_
            rintro e w4 ⟨F5, l', n', f', K5, ⟨r3, e1, rfl, rfl, e4, rfl⟩ | ⟨e1, rfl⟩⟩
            · have hl3 := chk_len _ _ _ _ e1
              have HS3 : Hid (spl us ys k f r = chk us ys k (putA f (a1, a2, a3) 2) l') := by
                show _ = _
                rw [HS.out]
                show (if _ then _ else _) = _
                rw [if_pos ⟨HF0.out, rfl⟩, e1]
              have hA4 : w4.heap[w1.heap.size]? = some (.cells #[.int .i64 a1, .int .i64 a2, .int .i64 a3] 134 (0, 0)) := (F5.block w1.heap.size (Array.getElem?_eq_some_iff.1 HA3.out).1 (by omega) (by omega)).trans HA3.out
              have y0 : w4.cell? ⟨w1.heap.size, 0, none⟩ = some (.int .i64 a1) := by simp [World.cell?, hA4]
              have y1 : w4.cell? ⟨w1.heap.size, 1, none⟩ = some (.int .i64 a2) := by simp [World.cell?, hA4]
              have y2 : w4.cell? ⟨w1.heap.size, 2, none⟩ = some (.int .i64 a3) := by simp [World.cell?, hA4]
              have d4 := K5.kn.cells.2.2.2
              simp only [List.length_cons] at hr1
              obtain ⟨w5, hput2, K6, F6⟩ := KS.put (K5.below (Below.refl _ _).drew) a1 a2 a3 hoa 2 (Or.inr (Or.inr rfl)) (by omega)
              rw [putA_again] at K6
              have HF6 : Hid (FrK b mb w w5) := ((HF4.out.trans F5).trans (.of_below (Below.refl _ _).drew)).trans F6
              have hA5 : w5.heap[w1.heap.size]? = some (.cells #[.int .i64 a1, .int .i64 a2, .int .i64 a3] 134 (0, 0)) := (F6.block w1.heap.size (by show _ < w4.heap.size; exact (Array.getElem?_eq_some_iff.1 hA4).1) (by omega) (by omega)).trans hA4
              have HA5 : Hid _ := hA5
              have HK6 : Hid (KS w0 w5 b mb vW ys q cap us l' (n' + 1) (putA f (a1, a2, a3) 2)) := K6
              clear hA4 hA5 K5 F5 K6 F6 e1 hput z0 z1 z2 d3
              go_wp2_with fail
              go_region
              go_wp2_with fail
              all_goals
                refine Calls.mono (HPR.out _ l' (n' + 1) _ (putA3 hf3 _ (Or.inr (Or.inr rfl))) (by omega) (by omega) HK6.out) ?_
                rintro e w6 ⟨F7, l6, n6, f6, K7, ⟨r7, e1, rfl, rfl, e7, rfl⟩ | ⟨e1, rfl⟩⟩
                · have hA6 : w6.heap[w1.heap.size]? = some (.cells #[.int .i64 a1, .int .i64 a2, .int .i64 a3] 134 (0, 0)) := (F7.block w1.heap.size (Array.getElem?_eq_some_iff.1 HA5.out).1 (by omega) (by omega)).trans HA5.out
                  have x0 : w6.cell? ⟨w1.heap.size, 0, none⟩ = some (.int .i64 a1) := by simp [World.cell?, hA6]
                  have x1 : w6.cell? ⟨w1.heap.size, 1, none⟩ = some (.int .i64 a2) := by simp [World.cell?, hA6]
                  have x2 : w6.cell? ⟨w1.heap.size, 2, none⟩ = some (.int .i64 a3) := by simp [World.cell?, hA6]
                  have d6 := K7.kn.cells.2.2.2
                  obtain ⟨w7, hdel, K8, F8⟩ := KS.del (K7.below (Below.refl _ _).drew) a1 a2 a3 hoa 0
                  rw [putA_back HF0.out] at K8
                  have HX2 : Hid (PE w0 w b mb vW ys q cap us (n + 1 + r.length) f (spl us ys k f r) (.returned (.bool true)) w7) := ⟨((HF6.out.trans F7).trans (.of_below (Below.refl _ _).drew)).trans F8, _, _, _, K8, Or.inl ⟨_, by rw [HS3.out, e1], rfl, rfl, by omega, rfl⟩⟩
                  clear hA6 K7 F7 K8 F8 e1 e7 y0 y1 y2 d4 hput2
                  go_wp2_with fail
                  go_region
                  go_wp2_with fail
                  all_goals
                    go_ret
                    exact HX2.out
                · have HX2 : Hid (PE w0 w b mb vW ys q cap us (n + 1 + r.length) f (spl us ys k f r) (.returned (.bool false)) w6) := ⟨HF6.out.trans F7, _, _, _, K7, Or.inr ⟨by rw [HS3.out, e1], rfl⟩⟩
                  clear K7 F7 e1
                  go_wp2_with fail
                  go_ret
                  exact HX2.out
            · have HX2 : Hid (PE w0 w b mb vW ys q cap us (n + 1 + r.length) f (spl us ys k f r) (.returned (.bool false)) w4) := by
                refine ⟨HF4.out.trans F5, _, _, _, K5, Or.inr ⟨?_, rfl⟩⟩
                rw [HS.out]
                show (if _ then _ else _) = _
                rw [if_pos ⟨HF0.out, rfl⟩, e1]
              clear K5 F5 e1
              go_wp2_with fail
              go_ret
              exact HX2.out
    · have hne : ((f (a1, a2, a3)) != 0) = true := by simpa using hF0
      have HX : Hid (spl us ys k f r = none) := by
        show _ = _
        rw [HS.out]
        cases r1 with
        | nil => rfl
        | cons d r2 => exact if_neg (fun e => hF0 e.1)
      have hne2 : ((f (a1, a2, a3)) == 0) = false := by simpa using hF0
      generalize f (a1, a2, a3) = FA at *
      clear hF0 HS
      go_wp2_with fail
      go_region
      go_wp2_with fail
      go_ret
      exact ⟨HFD.out, _, _, _, HKD.out, Or.inr ⟨HX.out, rfl⟩⟩
  · have HX : Hid (spl us ys k f r = none) := spl_none hfg
    have HKN : Hid _ := hk1
    have HF1 : Hid (FrK b mb w w1) := hf1
    unfold avV
    dsimp only
    clear hfg hk1 LOOK hf1
    go_wp2_with fail
    go_region
    go_wp2_with fail
    go_ret
    exact ⟨HF1.out.trans (.of_below (below_alloc _ _).drew), _, _, _, HKN.out.below (below_alloc _ _).drew, Or.inr ⟨HX.out, rfl⟩⟩
end Go.Proofs.YtkinoehmcfhgbaaGreatDoor.Vl
set_option linter.unusedVariables false
namespace Go.Proofs.YtkinoehmcfhgbaaGreatDoor.Vl
open Go.RowKit

theorem kproof_any {w0 : World} {b mb : Nat} {vW : Value} {s : ByteArray} {ys : List Sym} {q : Option Addr} {cap : Nat} {us : List Atm} (hp : pars s = some ys) (hgl : Gl w0) (hN : us.length ≤ 4000) (hok : ∀ a ∈ us, okA a) :
    ∀ (k : Nat) (W : World) (l : List UInt8) (n : Nat) (f : Atm → Int), (∀ a, T3 (f a)) → l.length < k → n + l.length ≤ 200000 → KS w0 W b mb vW ys q cap us l n f → Calls Tryz.prog 86 #[.pointer (some ⟨b, 0, none⟩)] W (PE w0 W b mb vW ys q cap us (n + l.length) f (chk us ys k f l))
  | 0, W, l, n, f, hf, hl, hm, h => absurd hl (Nat.not_lt_zero _)
  | k + 1, W, l, n, f, hf, hl, hm, h =>
    kproof_of hp W k l h hgl (by omega) hN hok hf fun W' r hr h' =>
      ksplit_of W' k r h' hgl (by omega) hN hok hf fun W2 l2 n2 f2 hf2 hl2 hm2 h2 =>
        kproof_any hp hgl hN hok k W2 l2 n2 f2 hf2 (by omega) hm2 h2
end Go.Proofs.YtkinoehmcfhgbaaGreatDoor.Vl
