/-
  The walk of the document's cycle.
-/
import Derived.Test.YtkinoehmcfhgbaaGreatDoorT14
import Derived.Test.YtkinoehmcfhgbaaGreatDoorT2
import Derived.Test.YtkinoehmcfhgbaaGreatDoorT9
import Derived.Deep.CutBlock
set_option linter.unusedVariables false
set_option linter.unusedSimpArgs false
namespace Go.Proofs.YtkinoehmcfhgbaaGreatDoor.Vl
open Go.RowKit

/-- The document's look at a proof in memory: what stays. -/
structure DC (w0 w : World) (b gb : Nat) (q : Option Addr) (cap : Nat) (us : List Atm) : Prop where
  h0 : Below w0.heap.size w0 w
  hb : w0.heap.size ≤ b
  hm : w0.heap.size ≤ gb
  hbm : b ≠ gb
  at' : Atms w (.slice q us.length cap) us
  ab : ∀ g, q = some ⟨g, 0, none⟩ → g ≠ b ∧ g ≠ gb
theorem DC.fr {w0 w w' : World} {b gb : Nat} {q : Option Addr} {cap : Nat} {us : List Atm} (h : DC w0 w b gb q cap us) (hf : FrK b gb w w') : DC w0 w' b gb q cap us := by
  refine ⟨hf.below h.h0 h.hb h.hm, h.hb, h.hm, h.hbm, ?_, h.ab⟩
  rcases h.at' with h1 | ⟨g, c, h1, h2, h3, h4, h5⟩
  · exact Or.inl h1
  · obtain ⟨n1, n2⟩ := h.ab g (by injection h1)
    have e := hf.block g h4 n1 n2
    have ec : ∀ o, w'.cell? ⟨g, o, none⟩ = w.cell? ⟨g, o, none⟩ := fun o => World.cell?_of_block (a := ⟨g, o, none⟩) e
    exact Or.inr ⟨g, c, h1, h2, h3, Nat.lt_of_lt_of_le h4 hf.size, fun j a ha => ⟨(ec _).trans (h5 j a ha).1, (ec _).trans (h5 j a ha).2.1, (ec _).trans (h5 j a ha).2.2⟩⟩
/-- Where it stands, whether it is wrong, what is assumed. -/
structure DS (w0 w : World) (b gb : Nat) (q : Option Addr) (cap : Nat) (us : List Atm) (s P : ByteArray) (k : Nat) (bad : Bool) (bs : List Int) : Prop where
  c : DC w0 w b gb q cap us
  lk : LkAt w b s (.slice q us.length cap) (.slice (some ⟨gb, 0, none⟩) us.length us.length) P k bad
  by' : w.ownsRow w0.heap.size 3 1 (.slice (some ⟨gb, 0, none⟩) us.length us.length) us.length (bs.map iv)
  bl : bs.length = us.length
  gl : gb < w.heap.size
section
variable {w0 w w' : World} {b gb : Nat} {q : Option Addr} {cap : Nat} {us : List Atm} {s P : ByteArray} {k k' : Nat} {bad bad' : Bool} {bs : List Int}
theorem DS.below (h : DS w0 w b gb q cap us s P k bad bs) (hb : Below w.heap.size w w') : DS w0 w' b gb q cap us s P k bad bs := by
  have hlt : b < w.heap.size := (Array.getElem?_eq_some_iff.1 h.lk).1
  exact ⟨h.c.fr (.of_below hb), (hb.block b hlt).trans h.lk, ownsRow_below h.by' hb, h.bl, Nat.lt_of_lt_of_le h.gl hb.size⟩
theorem DS.lt (h : DS w0 w b gb q cap us s P k bad bs) : b < w.heap.size := (Array.getElem?_eq_some_iff.1 h.lk).1
theorem DS.read (h : DS w0 w b gb q cap us s P k bad bs) (hg : w.grownBy w' (some b)) (hk : LkAt w' b s (.slice q us.length cap) (.slice (some ⟨gb, 0, none⟩) us.length us.length) P k' bad') : DS w0 w' b gb q cap us s P k' bad' bs :=
  ⟨h.c.fr (.of_b hg), hk, h.by'.kept hg (Or.inr (fun e => h.c.hbm (by simp [Value.ownBlock] at e; exact e.symm))), h.bl, Nat.lt_of_lt_of_le h.gl hg.size⟩
theorem DS.own {row : Option Nat} (h : DS w0 w b gb q cap us s P k bad bs) (hg : w.grownBy w' row) (hr : ∀ r, row = some r → r ≠ b ∧ r ≠ gb) (hc : DC w0 w' b gb q cap us) : DS w0 w' b gb q cap us s P k bad bs :=
  ⟨hc, (hg.block b h.lt (fun e => (hr b e.symm).1 rfl)).trans h.lk, h.by'.kept hg (Or.inr (fun e => by simp [Value.ownBlock] at e; exact (hr gb e.symm).2 rfl)), h.bl, Nat.lt_of_lt_of_le h.gl hg.size⟩
end

/-- How the look at a cycle ends. -/
def CyP (w0 w' : World) (b gb : Nat) (q : Option Addr) (cap : Nat) (us : List Atm) (s P : ByteArray) (f : Atm → Int) (LK : Option (List Atm × List UInt8)) : Prop := ∃ k' bad', DS w0 w' b gb q cap us s P k' bad' (byl us f) ∧
      ((∃ ats r, LK = some (ats, r) ∧ cyc ats = true ∧ bad' = false ∧ k' ≤ P.size ∧ rest P k' = r) ∨ (bad' = true ∧ ∀ ats r, LK = some (ats, r) → cyc ats = false))
theorem CyP.ok {w0 w' : World} {b gb : Nat} {q : Option Addr} {cap : Nat} {us : List Atm} {s P : ByteArray} {f : Atm → Int} {LK : Option (List Atm × List UInt8)} {k' : Nat} {ats : List Atm} {r : List UInt8} (h : DS w0 w' b gb q cap us s P k' false (byl us f)) (h1 : LK = some (ats, r)) (h2 : cyc ats = true) (h3 : k' ≤ P.size) (h4 : rest P k' = r) : CyP w0 w' b gb q cap us s P f LK := ⟨k', false, h, Or.inl ⟨ats, r, h1, h2, rfl, h3, h4⟩⟩
theorem CyP.no {w0 w' : World} {b gb : Nat} {q : Option Addr} {cap : Nat} {us : List Atm} {s P : ByteArray} {f : Atm → Int} {LK : Option (List Atm × List UInt8)} {k' : Nat} (h : DS w0 w' b gb q cap us s P k' true (byl us f)) (h1 : ∀ ats r, LK = some (ats, r) → cyc ats = false) : CyP w0 w' b gb q cap us s P f LK := ⟨k', true, h, Or.inr ⟨rfl, h1⟩⟩
theorem sum_in (s a i : Int) (h1 : -1000000 * i ≤ s) (h2 : s ≤ 1000000 * i) (h3 : -1000000 ≤ a) (h4 : a ≤ 1000000) (h5 : i ≤ 200000) : IntKind.i64.wrap (s + a) = s + a := IntWalk.i64_in _ (by omega)
theorem smB_bd : ∀ (ats : List Atm), (∀ a ∈ ats, -1000000 ≤ a.2.2 ∧ a.2.2 ≤ 1000000) → -1000000 * (ats.length : Int) ≤ smB ats ∧ smB ats ≤ 1000000 * (ats.length : Int)
  | [], _ => by simp [smB]
  | a :: r, h => by
    have ih := smB_bd r (fun x hx => h x (List.mem_cons_of_mem _ hx))
    have h1 := h a List.mem_cons_self
    have e : smB (a :: r) = a.2.2 + smB r := by simp [smB]
    rw [e, List.length_cons]
    omega

set_option maxRecDepth 100000 in
set_option maxHeartbeats 4000000 in
theorem dcycle_any {w0 : World} {b gb : Nat} {q : Option Addr} {cap : Nat} {us : List Atm} {s P : ByteArray} {f : Atm → Int} (w : World) (k : Nat) (h : DS w0 w b gb q cap us s P k false (byl us f)) (hP : P.size ≤ 200000) (hk : k ≤ P.size) (hN : us.length ≤ 4000) (hok : ∀ a ∈ us, okA a) (hf3 : ∀ a, T3 (f a)) :
    Calls Tryz.prog 120 #[.pointer (some ⟨b, 0, none⟩)] w fun e w' => e = .returned (.tuple #[]) ∧ FrK b gb w w' ∧ CyP w0 w' b gb q cap us s P f (lks us f ((rest P k).length + 1) (rest P k)) := by
  obtain ⟨i0, hi, hz0, hz1, hz2⟩ := info_parts Tryz.infoAtm
  have HD : Hid (DS w0 w b gb q cap us s P k false (byl us f)) := h
  have hbw := h.lt
  have hgw := h.gl
  generalize hLK : lks us f ((rest P k).length + 1) (rest P k) = LK
  have HLK : Hid (lks us f ((rest P k).length + 1) (rest P k) = LK) := hLK
  clear h hLK
  go_enter Tryz.func120, Tryz.ntmps120
  go_wp2_with fail
  go_loopw [2, 3, 4, 5, 6, 7] (fun v m s4 s5 s6 s7 wr => ∃ (j kk : Nat) (done : List Atm) (more : Bool), m = .bool more ∧ k ≤ j ∧ j ≤ P.size ∧ done.length ≤ j ∧ DS w0 wr b gb q cap us s P j false (byl us f) ∧ FrK b gb w wr ∧ wr.ownsRow w.heap.size 236 3 v done.length (cells3 done) ∧ (more = true → (rest P j).length < kk ∧ LK = (lks us f kk (rest P j)).map (fun x => (done ++ x.1, x.2))) ∧ (more = false → LK = some (done, rest P j))) (fun _ m _ _ _ _ wr => match m with | .bool true => P.size + 1 - lkPos wr b | _ => 0)
  case atStart => exact ⟨k, (rest P k).length + 1, [], true, rfl, Nat.le_refl _, hk, Nat.zero_le _, HD.out, FrK.refl _ _ _, World.ownsRow_nil _ _ _ _, fun _ => ⟨by omega, by rw [← HLK.out]; cases lks us f ((rest P k).length + 1) (rest P k) <;> rfl⟩, fun e => by cases e⟩
  case round =>
    obtain ⟨j, kk, done, more, rfl, hkj, hj, hdl, hDS, hfr, hown, hm1, hm2⟩ := hrel
    obtain ⟨W1, hW1⟩ : ∃ W1, W1 = wr := ⟨_, rfl⟩
    subst hW1
    obtain ⟨c0, c1, c2, c3, c4, c5⟩ := hDS.lk.cells
    have hbW := hDS.lt
    have HPW : Hid (lkPos W1 b = j) := lkPos_of hDS.lk
    have HDS : Hid (DS w0 W1 b gb q cap us s P j false (byl us f)) := hDS
    have HFR : Hid (FrK b gb w W1) := hfr
    have HOW : Hid (W1.ownsRow w.heap.size 236 3 u2 done.length (cells3 done)) := hown
    have HM1 : Hid _ := hm1
    have HM2 : Hid _ := hm2
    clear hDS hfr hown hm1 hm2
    cases more
    · have hLK := HM2.out rfl
      have HLF : Hid (LK = some (done, rest P j)) := hLK
      have hne : done ≠ [] := fun e => by
        have h1 : lks us f ((rest P k).length + 1) (rest P k) = some (done, rest P j) := HLK.out.trans hLK
        exact (lks_len _ _ _ _ h1).2.1 e
      have hbd : ∀ a ∈ done, -1000000 ≤ a.2.2 ∧ a.2.2 ≤ 1000000 := lks_bd hok _ _ _ _ (HLK.out.trans hLK)
      have HNE : Hid (done ≠ []) := hne
      have HBD : Hid (∀ a ∈ done, -1000000 ≤ a.2.2 ∧ a.2.2 ≤ 1000000) := hbd
      have hdp : 0 < done.length := List.length_pos_iff.2 hne
      clear hLK hne hbd HM1 HM2
      obtain ⟨g, cp, rfl, hg1, hg2, hat⟩ : ∃ g cp, u2 = .slice (some ⟨g, 0, none⟩) done.length cp ∧ w.heap.size ≤ g ∧ g < W1.heap.size ∧ ∀ j a, done[j]? = some a → W1.cell? ⟨g, j * 3, none⟩ = some (.int .i64 a.1) ∧ W1.cell? ⟨g, j * 3 + 1, none⟩ = some (.int .i64 a.2.1) ∧ W1.cell? ⟨g, j * 3 + 2, none⟩ = some (.int .i64 a.2.2) := by
        rcases own_atms HOW.out with ⟨_, h⟩ | ⟨g, cp, h1, h2, h3, h4, h5⟩
        · rw [h] at hdp; cases hdp
        · exact ⟨g, cp, h1, own_block HOW.out g (by rw [h1]; rfl), h4, h5⟩
      have HAT : Hid _ := hat
      clear hat HOW
      go_wp2_with fail
      go_loopw [8, 9] (fun s8 s9 wx => ∃ (i : Nat) (bad : Bool), s9 = .int .i64 (i : Int) ∧ i ≤ done.length ∧ s8 = .int .i64 (smI done i) ∧ bad = dbad done i ∧ DS w0 wx b gb q cap us s P j bad (byl us f) ∧ FrK b gb w wx ∧ W1.grownBy wx (some b)) (fun _ s9 _ => done.length - (intOf s9).toNat)
      case atStart => exact ⟨0, false, rfl, Nat.zero_le _, rfl, rfl, HDS.out, HFR.out, World.grownBy.refl _ _⟩
      case round =>
        obtain ⟨i, bad, rfl, hi', rfl, rfl, hDx, hfx, hgx⟩ := hrel
        obtain ⟨c0, c1, c2, c3, c4, c5⟩ := hDx.lk.cells
        have f5 := hDx.lk.free 5
        have HDX : Hid (DS w0 wr b gb q cap us s P j (dbad done i) (byl us f)) := hDx
        have HFX : Hid (FrK b gb w wr) := hfx
        have HGX : Hid (W1.grownBy wr (some b)) := hgx
        have hsm : -1000000 * (i : Int) ≤ smI done i ∧ smI done i ≤ 1000000 * (i : Int) := by
          unfold smI
          have h1 := smB_bd (done.take i) (fun a ha => HBD.out a (List.mem_of_mem_take ha))
          rw [List.length_take, Nat.min_eq_left hi'] at h1
          exact h1
        clear hDx hfx hgx
        have hdl2 : (done.length : Int) ≤ 200000 := by omega
        have hgb : g ≠ b := by omega
        have ecell : ∀ o, wr.cell? ⟨g, o, none⟩ = W1.cell? ⟨g, o, none⟩ := fun o => World.cell?_of_block (a := ⟨g, o, none⟩) (HGX.out.block g hg2 (fun e => hgb (by injection e)))
        have HEC : Hid _ := ecell
        clear ecell
        by_cases hlt : i < done.length
        · obtain ⟨⟨a1, a2, a3⟩, ha⟩ : ∃ a, done[i]? = some a := ⟨_, List.getElem?_eq_getElem hlt⟩
          have hnl : (i + 1) % done.length < done.length := Nat.mod_lt _ hdp
          obtain ⟨⟨e1, e2, e3⟩, he⟩ : ∃ a, done[(i + 1) % done.length]? = some a := ⟨_, List.getElem?_eq_getElem hnl⟩
          have y1 := (HEC.out _).trans (HAT.out i _ ha).2.1
          have y2 := (HEC.out _).trans (HAT.out i _ ha).2.2
          have z0 := (HEC.out _).trans (HAT.out ((i + 1) % done.length) _ he).1
          dsimp only at y1 y2 z0
          have hb3 := HBD.out _ (List.mem_of_getElem? ha)
          dsimp only at hb3
          have HSM : Hid (smI done (i + 1) = smI done i + a3) := smI_succ done i _ ha
          have HDB : Hid (dbad done (i + 1) = (dbad done i || (a2 != e1))) := by
            show _ = _
            rw [dbad_succ, List.getD_eq_getElem?_getD, List.getD_eq_getElem?_getD, ha, he]; rfl
          have hwr : IntKind.i64.wrap (smI done i + a3) = smI done i + a3 := sum_in _ _ _ hsm.1 hsm.2 hb3.1 hb3.2 (by omega)
          have hlt' : (i : Int) < (done.length : Int) := by omega
          have hrem : ((i : Int) + 1).tmod (done.length : Int) = (((i + 1) % done.length : Nat) : Int) := by
            rw [show (i : Int) + 1 = ((i + 1 : Nat) : Int) from rfl, ← Int.ofNat_tmod]
          have hnl' : (((i + 1) % done.length : Nat) : Int) < (done.length : Int) := by omega
          have hd0 : ((done.length : Int) == 0) = false := beq_eq_false_iff_ne.2 (by omega)
          clear ha he
          generalize smI done i = SM at *
          generalize dbad done i = BD at *
          generalize (i + 1) % done.length = NX at *
          cases BD
          · go_wp2_with fail
            go_region
            go_wp2_with fail
            refine ⟨⟨i + 1, (a2 != e1), by go_num, by omega, by rw [HSM.out], by rw [HDB.out]; rfl, ?_, ?_, ?_⟩, by simp [intOf]; omega⟩
            · exact (DS.read HDX.out (grown_cell _ _ _ _) (HDX.out.lk.spoil _)).below (Below.refl _ _).drew
            · exact (HFX.out.trans (.of_b (grown_cell _ _ _ _))).trans (.of_below (Below.refl _ _).drew)
            · exact HGX.out.trans ((grown_cell _ _ _ _).trans ⟨rfl, rfl, rfl, Nat.le_refl _, fun _ _ _ => rfl⟩)
          · go_wp2_with fail
            go_region
            go_wp2_with fail
            refine ⟨⟨i + 1, true, by go_num, by omega, by rw [HSM.out], by rw [HDB.out]; rfl, ?_, ?_, ?_⟩, by simp [intOf]; omega⟩
            · exact (DS.read HDX.out (grown_cell _ _ _ _) (HDX.out.lk.spoil _)).below (Below.refl _ _).drew
            · exact (HFX.out.trans (.of_b (grown_cell _ _ _ _))).trans (.of_below (Below.refl _ _).drew)
            · exact HGX.out.trans ((grown_cell _ _ _ _).trans ⟨rfl, rfl, rfl, Nat.le_refl _, fun _ _ _ => rfl⟩)
        · have hie : i = done.length := by omega
          subst hie
          have hlt' : ¬ ((done.length : Nat) : Int) < (done.length : Int) := by omega
          have HCY : Hid (cyc done = !(dbad done done.length || decide (0 ≤ smI done done.length))) := by show _ = _; rw [smI_all]; exact cyc_dbad done HNE.out
          generalize smI done done.length = SM at *
          generalize dbad done done.length = BD at *
          cases BD
          · by_cases hs0 : 0 ≤ SM
            · have hs0' : decide (0 ≤ SM) = true := decide_eq_true hs0
              have HC2 : Hid (cyc done = false) := by show _ = _; rw [HCY.out, hs0']; rfl
              clear HCY
              go_wp2_with fail
              go_end0
              refine ⟨rfl, HFX.out.trans (.of_b (grown_cell _ _ _ _)), CyP.no (HDX.out.read (grown_cell _ _ _ _) (HDX.out.lk.spoil true)) (fun ats r h => ?_)⟩
              rw [HLF.out] at h; injection h with h; injection h with h1 h2; subst h1; exact HC2.out
            · have hs0' : decide (0 ≤ SM) = false := decide_eq_false hs0
              have HC2 : Hid (cyc done = true) := by show _ = _; rw [HCY.out, hs0']; rfl
              clear HCY
              go_wp2_with fail
              go_end0
              exact ⟨rfl, HFX.out.trans (.of_b (grown_cell _ _ _ _)), CyP.ok (HDX.out.read (grown_cell _ _ _ _) (HDX.out.lk.spoil false)) HLF.out HC2.out hj rfl⟩
          · have HC2 : Hid (cyc done = false) := by show _ = _; rw [HCY.out]; rfl
            clear HCY
            go_wp2_with fail
            go_end0
            refine ⟨rfl, HFX.out.trans (.of_b (grown_cell _ _ _ _)), CyP.no (HDX.out.read (grown_cell _ _ _ _) (HDX.out.lk.spoil true)) (fun ats r h => ?_)⟩
            rw [HLF.out] at h; injection h with h; injection h with h1 h2; subst h1; exact HC2.out
    · obtain ⟨hkk, hLK⟩ := HM1.out rfl
      have HL1 : Hid (LK = (lks us f kk (rest P j)).map (fun x => (done ++ x.1, x.2))) := hLK
      clear hLK HM1 HM2
      go_upto_block 2 with fail
      go_cut [4, 5] from 10 to 96 (fun s4 s5 wc => (∃ t : Nat, s5 = .int .i64 (t : Int)) ∧ s4 = .int .u8 ((stm (rest P j)).toNat : Int) ∧ Below W1.heap.size W1 wc)
      case first =>
        go_wp2_with fail
        go_loopw [4, 5] (fun s4 s5 wx => ∃ t : Nat, s5 = .int .i64 (t : Int) ∧ j ≤ t ∧ t ≤ P.size ∧ s4 = .int .u8 59 ∧ stm (rest P j) = stm (rest P t) ∧ Below W1.heap.size W1 wx) (fun _ s5 _ => P.size - (intOf s5).toNat)
        case atStart => exact ⟨j, rfl, Nat.le_refl _, hj, rfl, rfl, Below.refl _ _⟩
        case round =>
          obtain ⟨t, rfl, hjt, htP, rfl, hst, hbx⟩ := hrel
          have HST : Hid (stm (rest P j) = stm (rest P t)) := hst
          have HBX : Hid (Below W1.heap.size W1 wr) := hbx
          have x3 := (hbx.cell (p := ⟨b, 3, none⟩) hbW).trans c3
          clear hst hbx
          by_cases hlt : t < P.size
          · have hlt' : (t : Int) < (P.size : Int) := by omega
            have eR := rest_cons P t hlt
            by_cases h59 : P[t] = 59
            · have g1 : ((P[t].toNat : Int) != 59) = false := by rw [h59]; rfl
              have HS2 : Hid (stm (rest P j) = 59) := by show _ = _; rw [HST.out, eR, h59]; rfl
              clear eR h59
              go_wp2_with fail
              go_meet
              exact ⟨⟨t, rfl⟩, by rw [HS2.out]; rfl, HBX.out⟩
            · have g1 : ((P[t].toNat : Int) != 59) = true := by
                rw [bne_iff_ne]; intro e
                exact h59 (UInt8.toNat_inj.1 (by have := Int.ofNat.inj e; exact this))
              by_cases h44 : P[t] = 44
              · have g2 : ((P[t].toNat : Int) == 44) = true := by rw [h44]; rfl
                have HS2 : Hid (stm (rest P j) = 44) := by show _ = _; rw [HST.out, eR, h44]; rfl
                clear eR h59 h44
                go_wp2_with fail
                go_meet
                exact ⟨⟨t, rfl⟩, by rw [HS2.out]; rfl, HBX.out⟩
              · have g2 : ((P[t].toNat : Int) == 44) = false := by
                  rw [beq_eq_false_iff_ne]; intro e
                  exact h44 (UInt8.toNat_inj.1 (by have := Int.ofNat.inj e; exact this))
                have HS2 : Hid (stm (rest P j) = stm (rest P (t + 1))) := by
                  show _ = _
                  rw [HST.out, eR]
                  conv => lhs; unfold stm
                  rw [if_neg h59, if_neg h44]
                clear eR h59 h44
                go_wp2_with fail
                exact ⟨⟨t + 1, by go_num, by omega, by omega, rfl, HS2.out, HBX.out⟩, by simp [intOf]; omega⟩
          · have hlt' : ¬ (t : Int) < (P.size : Int) := by omega
            have HS2 : Hid (stm (rest P j) = 59) := by show _ = _; rw [HST.out, rest_end P t (by omega)]; rfl
            go_wp2_with fail
            go_meet
            exact ⟨⟨t, rfl⟩, by rw [HS2.out]; rfl, HBX.out⟩
      case rest =>
        obtain ⟨⟨t, rfl⟩, rfl, hbc⟩ := hcut
        have hD2 := DS.below HDS.out hbc
        have HD2 : Hid (DS w0 wc b gb q cap us s P j false (byl us f)) := hD2
        have HF2 : Hid (FrK b gb w wc) := HFR.out.trans (.of_below hbc)
        have HO2 : Hid (wc.ownsRow w.heap.size 236 3 u2 done.length (cells3 done)) := ownsRow_below HOW.out hbc
        have CF : Hid _ := figure_any wc b j us.length cap s P q (.slice (some ⟨gb, 0, none⟩) us.length us.length) (stm (rest P j)) hP hj hN hD2.lk
        have hen := stm_two (rest P j)
        obtain ⟨kk', rfl⟩ : ∃ kk', kk = kk' + 1 := ⟨kk - 1, by omega⟩
        clear hD2 HDS HFR HOW hbc c0 c1 c2 c3 c4 c5
        generalize hEN : stm (rest P j) = en at *
        go_wp2_with fail
        refine Calls.mono CF.out ?_
        rintro e w1 ⟨hg1, hcs⟩
        have hO3 := own_fr HO2.out (FrK.of_b (mb := gb) hg1) hbw hgw
        have HO3 : Hid (w1.ownsRow w.heap.size 236 3 u2 done.length (cells3 done)) := hO3
        have HF3 : Hid (FrK b gb w w1) := HF2.out.trans (.of_b hg1)
        rcases hcs with ⟨n, r, hfg, hr, rfl, hlk⟩ | ⟨hno, rfl, k', hlk⟩
        · have hD3 := DS.read HD2.out hg1 hlk
          have HD3 : Hid (DS w0 w1 b gb q cap us s P (j + dlen (rest P j) + 1) false (byl us f)) := hD3
          obtain ⟨d0, d1, d2, d3, d4, d5⟩ := hD3.lk.cells
          have f5 := hD3.lk.free 5
          have hnl := (fig_lt hfg).1
          have hrd := (fig_lt hfg).2.1
          have hST : lks us f (kk' + 1) (rest P j) = lstp us f kk' (us.getD n (0, 0, 0)) (en :: r) := lks_yes hfg
          have hnx : j + dlen (rest P j) + 1 ≤ P.size := by
            have h1 : (en :: r).length ≤ (rest P j).length - dlen (rest P j) := by rw [hrd, List.length_drop]; exact Nat.le_refl _
            rw [rest_len] at h1
            simp only [List.length_cons] at h1
            omega
          have hby := hD3.by'
          obtain ⟨g, cap', hgv, hg1', hg2, hg3, hg4, hg5, hg6⟩ := own_facts hby (by omega)
          cases hgv
          have hbn : (byl us f)[n]? = some (dt (f (us.getD n (0, 0, 0)))) := by
            unfold byl
            rw [List.getElem?_map, List.getElem?_eq_getElem hnl, List.getD_eq_getElem?_getD, List.getElem?_eq_getElem hnl]; rfl
          have hcell := hg5 n (iv (dt (f (us.getD n (0, 0, 0))))) (by rw [List.getElem?_map, hbn]; rfl)
          have hlt' : (n : Int) < (us.length : Int) := by omega
          obtain ⟨⟨a1, a2, a3⟩, ea⟩ : ∃ a, us.getD n (0, 0, 0) = a := ⟨_, rfl⟩
          have hoa := okA_getD hok n hnl
          rw [ea] at hST hcell hoa
          unfold iv at hcell
          have hT := hf3 (a1, a2, a3)
          have HST : Hid (LK = (lstp us f kk' (a1, a2, a3) (en :: r)).map (fun x => (done ++ x.1, x.2))) := by show _ = _; rw [HL1.out, hST]
          have HR : Hid (r = rest P (j + dlen (rest P j) + 1)) := hr
          clear HL1 hST hr hrd hfg hbn hD3 hby hg5 hg6 hlk CF
          by_cases hF0 : f (a1, a2, a3) = 0
          · have HN : Hid (LK = none) := by show _ = _; rw [HST.out]; simp only [lstp, hF0, if_true]; rfl
            rw [hF0] at hcell
            have hcell' : w1.cell? ⟨gb, n, none⟩ = some (.int .i64 2) := hcell
            clear hcell HST
            go_wp2_with fail
            refine bodyPost_ret (results_none rfl _ _ _) rfl ⟨rfl, HF3.out.trans (.of_b (grown_cell _ _ _ _)), CyP.no (HD3.out.read (grown_cell _ _ _ _) (HD3.out.lk.spoil true)) (fun ats r h => ?_)⟩
            rw [HN.out] at h; cases h
          · have HF0 : Hid (f (a1, a2, a3) ≠ 0) := hF0
            have hat := HD3.out.c.at'
            rcases hat with h4 | ⟨ga, ca, h4, h5, h6, h7, h8⟩
            · rw [h4.2] at hnl; simp at hnl
            have eq : q = some ⟨ga, 0, none⟩ := by injection h4
            subst eq
            have ha : us[n]? = some (a1, a2, a3) := by
              rw [List.getD_eq_getElem?_getD, List.getElem?_eq_getElem hnl] at ea
              rw [List.getElem?_eq_getElem hnl]; exact congrArg some ea
            obtain ⟨z0, z1, z2⟩ := h8 n _ ha
            dsimp only at z0 z1 z2
            have hw1 : IntKind.i64.wrap (-a3) = -a3 := IntWalk.i64_in _ (by unfold okA at hoa; dsimp only at hoa; omega)
            have hw2 : IntKind.i64.wrap (-a3 - 1) = -a3 - 1 := IntWalk.i64_in _ (by unfold okA at hoa; dsimp only at hoa; omega)
            have hgab := HD3.out.c.ab ga rfl
            clear h8 ha h4 ea hoa
            have hmore : ((en.toNat : Int) == 44) = decide (en = 44) := by
              rcases hen with rfl | rfl <;> rfl
            have hds : done.length ≤ 200000 := by omega
            have hs3 := HF3.out.size
            have hb1 : b < w1.heap.size := by omega
            have hg1w : gb < w1.heap.size := by omega
            have m2 : (w1.alloc (.cells #[.int .i64 a1, .int .i64 a2, .int .i64 a3] 236)).cell? ⟨b, 2, none⟩ = some (.slice (some ⟨gb, 0, none⟩) us.length us.length) := ((below_alloc w1 _).cell (p := ⟨b, 2, none⟩) hb1).trans d2
            -- what is appended
            have APP : Hid (∀ (x1 x2 x3 : Int) (X : World), ifA (a1, a2, a3) (f (a1, a2, a3)) = (x1, x2, x3) → LK = (if en = 44 then (lks us f kk' r).map (fun x => ((done ++ [(x1, x2, x3)]) ++ x.1, x.2)) else some (done ++ [(x1, x2, x3)], r))) := fun x1 x2 x3 X hx => by
              rw [HST.out]
              simp only [lstp, if_neg HF0.out, hx]
              rcases hen with rfl | rfl
              · rw [if_neg (by decide), if_pos rfl, if_neg (by decide)]; rfl
              · rw [if_pos rfl, if_pos rfl, Option.map_map]
                congr 1
                funext x
                simp
            have HOB : Hid (∀ r, u2.ownBlock = some r → w.heap.size ≤ r) := own_block HO3.out
            have FIN : Hid (∀ (x1 x2 x3 : Int) (X Y : Obj) (w4 : World) (v' : Value), w4.ownsRow w.heap.size 236 3 v' (done.length + 1) (cells3 done ++ [.int .i64 x1, .int .i64 x2, .int .i64 x3]) → ((w1.alloc X).alloc Y).grownBy w4 u2.ownBlock → DS w0 w4 b gb (some ⟨ga, 0, none⟩) cap us s P (j + dlen (rest P j) + 1) false (byl us f) ∧ FrK b gb w w4 ∧ w4.ownsRow w.heap.size 236 3 v' (done ++ [(x1, x2, x3)]).length (cells3 (done ++ [(x1, x2, x3)]))) := fun x1 x2 x3 X Y w4 v' ho hg => by
              have hg4 : w1.grownBy w4 u2.ownBlock := (World.grownBy_alloc w1 _ _).trans ((World.grownBy_alloc _ _ _).trans hg)
              have hF4 : FrK b gb w w4 := FrK.own HF3.out hg4 HOB.out
              refine ⟨DS.own HD3.out hg4 (fun r e => ?_) (HD.out.c.fr hF4), hF4, ?_⟩
              · have := HOB.out r e; omega
              · rw [List.length_append, cells3_snoc]; exact ho
            rcases hT with hT | hT | hT
            · exact absurd hT HF0.out
            · rw [hT] at hcell
              have hcell' : w1.cell? ⟨gb, n, none⟩ = some (.int .i64 1) := hcell
              have m3 : (w1.alloc (.cells #[.int .i64 a1, .int .i64 a2, .int .i64 a3] 236)).cell? ⟨gb, n, none⟩ = some (.int .i64 1) := ((below_alloc w1 _).cell (p := ⟨gb, n, none⟩) hg1w).trans hcell'
              have HLKN : Hid _ := APP.out a1 a2 a3 w1 (by rw [hT]; rfl)
              clear hcell hT HST APP
              rcases hen with rfl | rfl
              all_goals
                go_wp2_with (at_builtin; refine wpList_append_own _ rfl _ _ 163 rfl w.heap.size 236 i0 (.agg #[.int .i64 0, .int .i64 0, .int .i64 0]) 3 24 Tryz.underlying163 hi hz0 hz1 hz2 rfl (by decide) _ _ _ rfl ((HO3.out.alloc _).alloc _) ⟨w1.heap.size + 1, 0, none⟩ 1 1 [.int .i64 a1, .int .i64 a2, .int .i64 a3] rfl rfl (three_new _ _ (by simp) _ _ _ _) (one_iii _ _ _) (by unfold maxLen; omega) (by omega) (by simp; omega) ?_)
                intro v' w4 hown4 hgrow _
                obtain ⟨q1, q2, q3⟩ := FIN.out a1 a2 a3 _ _ w4 v' hown4 hgrow
                have Q1 : Hid _ := q1
                have Q2 : Hid _ := q2
                have Q3 : Hid _ := q3
                have HP1 := lkPos_of q1.lk
                have HP0 := lkPos_of HD2.out.lk
                clear q1 q2 q3 hown4 hgrow
                go_wp2_with fail
              · refine ⟨⟨j + dlen (rest P j) + 1, kk', done ++ [(a1, a2, a3)], false, rfl, by omega, hnx, by simp only [List.length_append, List.length_cons, List.length_nil]; omega, Q1.out, Q2.out, Q3.out, (fun e => by cases e), fun _ => ?_⟩, ?_⟩
                · rw [← HR.out, HLKN.out]; simp
                · have := HPW.out
                  show 0 < P.size + 1 - lkPos W1 b
                  omega
              · refine ⟨⟨j + dlen (rest P j) + 1, kk', done ++ [(a1, a2, a3)], true, rfl, by omega, hnx, by simp only [List.length_append, List.length_cons, List.length_nil]; omega, Q1.out, Q2.out, Q3.out, fun _ => ⟨?_, ?_⟩, (fun e => by cases e)⟩, ?_⟩
                · rw [rest_len] at hkk ⊢; omega
                · rw [← HR.out, HLKN.out]; simp
                · have := HPW.out
                  show P.size + 1 - lkPos w4 b < P.size + 1 - lkPos W1 b
                  omega
            · rw [hT] at hcell
              have hcell' : w1.cell? ⟨gb, n, none⟩ = some (.int .i64 0) := hcell
              have m3 : (w1.alloc (.cells #[.int .i64 a1, .int .i64 a2, .int .i64 a3] 236)).cell? ⟨gb, n, none⟩ = some (.int .i64 0) := ((below_alloc w1 _).cell (p := ⟨gb, n, none⟩) hg1w).trans hcell'
              have HLKN : Hid _ := APP.out a2 a1 (-a3 - 1) w1 (by rw [hT]; rfl)
              clear hcell hT HST APP
              rcases hen with rfl | rfl
              all_goals
                go_wp2_with (at_builtin; refine wpList_append_own _ rfl _ _ 163 rfl w.heap.size 236 i0 (.agg #[.int .i64 0, .int .i64 0, .int .i64 0]) 3 24 Tryz.underlying163 hi hz0 hz1 hz2 rfl (by decide) _ _ _ rfl ((HO3.out.alloc _).alloc _) ⟨w1.heap.size + 1, 0, none⟩ 1 1 [.int .i64 a2, .int .i64 a1, .int .i64 (-a3 - 1)] rfl rfl (three_new _ _ (by simp) _ _ _ _) (one_iii _ _ _) (by unfold maxLen; omega) (by omega) (by simp; omega) ?_)
                intro v' w4 hown4 hgrow _
                obtain ⟨q1, q2, q3⟩ := FIN.out a2 a1 (-a3 - 1) _ _ w4 v' hown4 hgrow
                have Q1 : Hid _ := q1
                have Q2 : Hid _ := q2
                have Q3 : Hid _ := q3
                have HP1 := lkPos_of q1.lk
                have HP0 := lkPos_of HD2.out.lk
                clear q1 q2 q3 hown4 hgrow
                go_wp2_with fail
              · refine ⟨⟨j + dlen (rest P j) + 1, kk', done ++ [(a2, a1, -a3 - 1)], false, rfl, by omega, hnx, by simp only [List.length_append, List.length_cons, List.length_nil]; omega, Q1.out, Q2.out, Q3.out, (fun e => by cases e), fun _ => ?_⟩, ?_⟩
                · rw [← HR.out, HLKN.out]; simp
                · have := HPW.out
                  show 0 < P.size + 1 - lkPos W1 b
                  omega
              · refine ⟨⟨j + dlen (rest P j) + 1, kk', done ++ [(a2, a1, -a3 - 1)], true, rfl, by omega, hnx, by simp only [List.length_append, List.length_cons, List.length_nil]; omega, Q1.out, Q2.out, Q3.out, fun _ => ⟨?_, ?_⟩, (fun e => by cases e)⟩, ?_⟩
                · rw [rest_len] at hkk ⊢; omega
                · rw [← HR.out, HLKN.out]; simp
                · have := HPW.out
                  show P.size + 1 - lkPos w4 b < P.size + 1 - lkPos W1 b
                  omega
        · obtain ⟨d0, d1, d2, d3, d4, d5⟩ := hlk.cells
          have f5 := hlk.free 5
          have HN : Hid (LK = none) := by
            show _ = _
            rw [HL1.out, lks_no (by rw [hEN]; exact hno)]; rfl
          have HD3 : Hid (DS w0 w1 b gb q cap us s P k' true (byl us f)) := DS.read HD2.out hg1 hlk
          clear hno hlk CF
          go_wp2_with fail
          refine bodyPost_ret (results_none rfl _ _ _) rfl ⟨rfl, HF3.out.trans (.of_b (grown_cell _ _ _ _)), CyP.no (HD3.out.read (grown_cell _ _ _ _) (HD3.out.lk.spoil true)) (fun ats r h => ?_)⟩
          rw [HN.out] at h; cases h
end Go.Proofs.YtkinoehmcfhgbaaGreatDoor.Vl
