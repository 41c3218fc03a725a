/-
  The program's kernel at work: what is kept; an atom by its number; a mark.
  The walk of the program's assumptions: what is assumed of each of a cycle's atoms.
  The document's look at a proof, plain: how a cycle's numbers end, when it comes back; what is assumed as a list.
-/
import Derived.Test.YtkinoehmcfhgbaaDoorT6
set_option linter.unusedVariables false
set_option linter.unusedSimpArgs false
namespace Go.Proofs.YtkinoehmcfhgbaaDoor.Vl
open Go.RowKit

/-- All old memory but blocks b and mb is as it was. -/
structure FrK (b mb : Nat) (w w' : World) : Prop where
  os : w'.os = w.os
  tape : w'.tape = w.tape
  output : w'.output = w.output
  size : w.heap.size ≤ w'.heap.size
  block : ∀ k, k < w.heap.size → k ≠ b → k ≠ mb → w'.heap[k]? = w.heap[k]?
theorem FrK.refl (b mb : Nat) (w : World) : FrK b mb w w := ⟨rfl, rfl, rfl, Nat.le_refl _, fun _ _ _ _ => rfl⟩
theorem FrK.trans {b mb : Nat} {a c d : World} (h : FrK b mb a c) (k : FrK b mb c d) : FrK b mb a d :=
  ⟨k.os.trans h.os, k.tape.trans h.tape, k.output.trans h.output, Nat.le_trans h.size k.size, fun i hi h1 h2 => (k.block i (Nat.lt_of_lt_of_le hi h.size) h1 h2).trans (h.block i hi h1 h2)⟩
theorem FrK.of_below {b mb : Nat} {w w' : World} (h : Below w.heap.size w w') : FrK b mb w w' := ⟨h.os, h.tape, h.output, h.size, fun k hk _ _ => h.block k hk⟩
theorem FrK.of_b {b mb : Nat} {w w' : World} (h : w.grownBy w' (some b)) : FrK b mb w w' := ⟨h.os, h.tape, h.output, h.size, fun k hk h1 _ => h.block k hk (fun e => h1 (by injection e))⟩
theorem FrK.of_m {b mb : Nat} {w w' : World} (h : w.grownBy w' (some mb)) : FrK b mb w w' := ⟨h.os, h.tape, h.output, h.size, fun k hk _ h2 => h.block k hk (fun e => h2 (by injection e))⟩
theorem FrK.below {b mb : Nat} {w0 w w' : World} (h : FrK b mb w w') (h0 : Below w0.heap.size w0 w) (hb : w0.heap.size ≤ b) (hm : w0.heap.size ≤ mb) : Below w0.heap.size w0 w' :=
  ⟨h.os.trans h0.os, h.tape.trans h0.tape, h.output.trans h0.output, Nat.le_trans h0.size h.size, fun k hk => (h.block k (Nat.lt_of_lt_of_le hk h0.size) (by omega) (by omega)).trans (h0.block k hk)⟩
/-- What stays: the condition, its atoms. -/
structure KC (w0 w : World) (b mb : Nat) (vW : Value) (ys : List Sym) (q : Option Addr) (cap : Nat) (us : List Atm) : Prop where
  h0 : Below w0.heap.size w0 w
  hb : w0.heap.size ≤ b
  hm : w0.heap.size ≤ mb
  hbm : b ≠ mb
  at' : Atms w (.slice q us.length cap) us
  ab : ∀ g, q = some ⟨g, 0, none⟩ → g ≠ b ∧ g ≠ mb
  sy : ∃ g c, vW = .slice (some ⟨g, 0, none⟩) ys.length c ∧ g ≠ b ∧ g ≠ mb
  sw : Syms w.heap.size w vW ys
theorem KC.fr {w0 w w' : World} {b mb : Nat} {vW : Value} {ys : List Sym} {q : Option Addr} {cap : Nat} {us : List Atm} (h : KC w0 w b mb vW ys q cap us) (hf : FrK b mb w w') : KC w0 w' b mb vW ys q cap us := by
  refine ⟨hf.below h.h0 h.hb h.hm, h.hb, h.hm, h.hbm, ?_, h.ab, h.sy, ?_⟩
  · rcases h.at' with h1 | ⟨g, c, h1, h2, h3, h4, h5⟩
    · exact Or.inl h1
    · obtain ⟨n1, n2⟩ := h.ab g (by injection h1)
      have e := hf.block g h4 n1 n2
      have ec : ∀ o, w'.cell? ⟨g, o, none⟩ = w.cell? ⟨g, o, none⟩ := fun o => World.cell?_of_block (a := ⟨g, o, none⟩) e
      exact Or.inr ⟨g, c, h1, h2, h3, Nat.lt_of_lt_of_le h4 hf.size, fun j a ha => ⟨(ec _).trans (h5 j a ha).1, (ec _).trans (h5 j a ha).2.1, (ec _).trans (h5 j a ha).2.2⟩⟩
  · obtain ⟨g, c, e1, n1, n2⟩ := h.sy
    obtain ⟨g', c', e2, h2, h3⟩ := h.sw
    have eg : g' = g := by rw [e1] at e2; injection e2 with a; injection a with a; injection a with a; exact a.symm
    subst eg
    have e := hf.block g' h2 n1 n2
    have ec : ∀ o, w'.cell? ⟨g', o, none⟩ = w.cell? ⟨g', o, none⟩ := fun o => World.cell?_of_block (a := ⟨g', o, none⟩) e
    exact ⟨g', c', e2, Nat.lt_of_lt_of_le h2 hf.size, fun j y hy => ⟨(ec _).trans (h3 j y hy).1, (ec _).trans (h3 j y hy).2.1, (ec _).trans (h3 j y hy).2.2.1, (ec _).trans (h3 j y hy).2.2.2⟩⟩
/-- The kernel at work: what is left of the proof, what is assumed. -/
structure KS (w0 w : World) (b mb : Nat) (vW : Value) (ys : List Sym) (q : Option Addr) (cap : Nat) (us : List Atm) (l : List UInt8) (n : Nat) (f : Atm → Int) : Prop where
  c : KC w0 w b mb vW ys q cap us
  kn : KnAt w b vW (.slice q us.length cap) l mb
  am : AM w mb n f
section
variable {w0 w w' : World} {b mb : Nat} {vW : Value} {ys : List Sym} {q : Option Addr} {cap : Nat} {us : List Atm} {l l' : List UInt8} {n : Nat} {f : Atm → Int}
theorem KS.below (h : KS w0 w b mb vW ys q cap us l n f) (hb : Below w.heap.size w w') : KS w0 w' b mb vW ys q cap us l n f := ⟨h.c.fr (.of_below hb), h.kn.below hb, h.am.below hb⟩
theorem KS.read (h : KS w0 w b mb vW ys q cap us l n f) (hg : w.grownBy w' (some b)) (hk : KnAt w' b vW (.slice q us.length cap) l' mb) : KS w0 w' b mb vW ys q cap us l' n f := ⟨h.c.fr (.of_b hg), hk, h.am.kept hg (fun e => h.c.hbm (by injection e with e; exact e.symm))⟩
theorem takeK (h : KS w0 w b mb vW ys q cap us l n f) (c : UInt8) (hl : l.length ≤ 200000) :
    Calls Tryd.prog 42 #[.pointer (some ⟨b, 0, none⟩), .string ⟨#[c]⟩] w fun e w' => e = .returned (.bool (is1 c l)) ∧ KS w0 w' b mb vW ys q cap us (tk1 c l) n f ∧ FrK b mb w w' :=
  (take_any w b mb vW _ l c (by omega) h.kn).mono fun e w' ⟨h1, h2, h3⟩ => ⟨h1, h.read h3 h2, .of_b h3⟩
theorem atomK (h : KS w0 w b mb vW ys q cap us l n f) (hgl : Gl w0) (hl : l.length ≤ 200000) (hN : us.length ≤ 4000) :
    Calls Tryd.prog 57 #[.pointer (some ⟨b, 0, none⟩)] w fun e w' => FrK b mb w w' ∧
      ((∃ i r, fig us.length l = some (i, r) ∧ i < us.length ∧ e = .returned (.tuple #[avV (us.getD i (0, 0, 0)), .bool true]) ∧ KS w0 w' b mb vW ys q cap us r n f) ∨
       (fig us.length l = none ∧ e = .returned (.tuple #[avV (0, 0, 0), .bool false]) ∧ KS w0 w' b mb vW ys q cap us (l.drop (dlen l)) n f)) := by
  obtain ⟨F1, F2⟩ := fig_is hN l
  by_cases hex : ∃ v, Lib.atoiAll (l.take (dlen l)) = .ok v ∧ Lib.itoa v = l.take (dlen l) ∧ v < (us.length : Int)
  · obtain ⟨v, h1, h2, h3⟩ := hex
    obtain ⟨v0, hf⟩ := F1 v h1 h2 h3
    obtain ⟨i, rfl⟩ : ∃ i : Nat, v = (i : Int) := ⟨v.toNat, by omega⟩
    have hi : i < us.length := by omega
    rcases h.c.at' with h4 | ⟨g, c, h4, h5, h6, h7, h8⟩
    · rw [h4.2] at hi; simp at hi
    · have eq : q = some ⟨g, 0, none⟩ := by injection h4
      subst eq
      have ha : us[i]? = some us[i] := List.getElem?_eq_getElem hi
      have eD : us.getD i (0, 0, 0) = us[i] := by rw [List.getD_eq_getElem?_getD, ha]; rfl
      obtain ⟨z0, z1, z2⟩ := h8 i us[i] ha
      refine (atom_some w0 w b mb vW g i us[i].1 us[i].2.1 us[i].2.2 us.length cap l hgl h.c.h0 h.c.hb hl h.kn h1 h2 hi (h.c.ab g rfl).1 h7 z0 z1 z2).mono ?_
      rintro e w' ⟨g1, g2, g3⟩
      refine ⟨.of_b g1, Or.inl ⟨i, l.drop (dlen l), by rw [hf]; rfl, hi, ?_, h.read g1 g3⟩⟩
      rw [g2, eD]
  · refine (atom_none w0 w b mb vW q us.length cap l hgl h.c.h0 h.c.hb hl h.kn (fun v h1 h2 h3 => hex ⟨v, h1, h2, h3⟩)).mono ?_
    rintro e w' ⟨g1, g2, g3⟩
    exact ⟨.of_b g1, Or.inr ⟨F2 (fun v h1 h2 h3 => hex ⟨v, h1, h2, h3⟩), g2, h.read g1 g3⟩⟩
end
end Go.Proofs.YtkinoehmcfhgbaaDoor.Vl
set_option linter.unusedVariables false
set_option linter.unusedSimpArgs false
namespace Go.Proofs.YtkinoehmcfhgbaaDoor.Vl
open Go.RowKit

theorem Tryd.infoLA : (Tryd.prog.info? 52).map (fun i => (i.zero, i.size, i.bytes)) = some (some (.agg #[.int .i64 0, .int .i64 0, .int .i64 0]), 3, 24) := by kernel_rfl
/-- How much of the proof is left. -/
def knLen (w : World) (b : Nat) : Nat := match w.cell? ⟨b, 2, none⟩ with | some (.string S) => S.size | _ => 0
theorem knLen_of {w : World} {b mb : Nat} {vW vA : Value} {l : List UInt8} (h : KnAt w b vW vA l mb) : knLen w b = l.length := by
  unfold knLen; rw [h.cells.2.2.1]; simp [ByteArray.size]
theorem AM.drewN {w : World} {b n : Nat} {f : Atm → Int} (h : AM w b n f) (k : Nat) : AM (w.drewN k) b n f := h
theorem FrK.own {b mb : Nat} {w wr w2 : World} {row : Option Nat} (h : FrK b mb w wr) (hg : wr.grownBy w2 row) (hr : ∀ k, row = some k → w.heap.size ≤ k) : FrK b mb w w2 :=
  ⟨hg.os.trans h.os, hg.tape.trans h.tape, hg.output.trans h.output, Nat.le_trans h.size hg.size, fun k hk h1 h2 => (hg.block k (Nat.lt_of_lt_of_le hk h.size) (fun e => by have := hr k e.symm; omega)).trans (h.block k hk h1 h2)⟩
theorem bl_drewN (w : World) (k : Nat) : Below w.heap.size w (w.drewN k) := ⟨rfl, rfl, rfl, Nat.le_refl _, fun _ _ => rfl⟩
theorem own_fr {b mb W : Nat} {wr w1 : World} {e : TypeId} {sz : Nat} {v : Value} {m : Nat} {xs : List Value} (h : wr.ownsRow W e sz v m xs) (hf : FrK b mb wr w1) (hb : b < W) (hm : mb < W) : w1.ownsRow W e sz v m xs := by
  refine ⟨h.1, ?_⟩
  rcases h.2 with h2 | ⟨g, cap, cur, h1, h2, h3, h4⟩
  · exact Or.inl h2
  · exact Or.inr ⟨g, cap, cur, h1, h2, (hf.block g (Array.getElem?_eq_some_iff.1 h3).1 (by omega) (by omega)).trans h3, h4⟩
def lstp (us : List Atm) (f : Atm → Int) (k : Nat) (a : Atm) : List UInt8 → Option (List Atm × List UInt8)
  | [] => none
  | c :: r2 => if f a = 0 then none else if c = 44 then (lks us f k r2).map (fun x => (ifA a (f a) :: x.1, x.2)) else if c = 59 then some ([ifA a (f a)], r2) else none
theorem lks_step {us : List Atm} {f : Atm → Int} {k i : Nat} {r r1 : List UInt8} {a : Atm} (h : fig us.length r = some (i, r1)) (ea : us.getD i (0, 0, 0) = a) : lks us f (k + 1) r = lstp us f k a r1 := by
  subst ea
  cases r1 with
  | nil => simp only [lks, h, lstp]
  | cons c r2 => simp only [lks, h, lstp]
theorem okA_getD {us : List Atm} (h : ∀ a ∈ us, okA a) (i : Nat) (hi : i < us.length) : okA (us.getD i (0, 0, 0)) := by
  rw [List.getD_eq_getElem?_getD, List.getElem?_eq_getElem hi]; exact h _ (List.getElem_mem hi)

set_option maxRecDepth 100000 in
set_option maxHeartbeats 4000000 in
theorem assumptions_any {w0 : World} {b mb : Nat} {vW : Value} {ys : List Sym} {q : Option Addr} {cap : Nat} {us : List Atm} {n : Nat} {f : Atm → Int} (w : World) (l : List UInt8) (h : KS w0 w b mb vW ys q cap us l n f) (hgl : Gl w0) (hl : l.length ≤ 200000) (hN : us.length ≤ 4000) (hok : ∀ a ∈ us, okA a) (hf3 : ∀ a, T3 (f a)) :
    Calls Tryd.prog 56 #[.pointer (some ⟨b, 0, none⟩)] w fun e w' => FrK b mb w w' ∧ ∃ v l', KS w0 w' b mb vW ys q cap us l' n f ∧
      ((∃ ats r, lks us f (l.length + 1) l = some (ats, r) ∧ l' = r ∧ e = .returned (.tuple #[v, .bool true]) ∧ w'.ownsRow w.heap.size 52 3 v ats.length (cells3 ats)) ∨ (lks us f (l.length + 1) l = none ∧ e = .returned (.tuple #[v, .bool false]))) := by
  obtain ⟨i0, hi, hz0, hz1, hz2⟩ := info_parts Tryd.infoLA
  have HC : Hid (KC w0 w b mb vW ys q cap us) := h.c
  have HK : Hid _ := h.kn
  have HM : Hid _ := h.am
  have hbw := h.kn.lt
  have hmw := h.am.lt
  clear h
  go_enter Tryd.func56, Tryd.ntmps56
  go_wp2_with fail
  go_loopw [4, 5, 6, 7] (fun v p fd t wr => ∃ (k : Nat) (r : List UInt8) (done : List Atm), lks us f (l.length + 1) l = (lks us f k r).map (fun x => (done ++ x.1, x.2)) ∧ r.length < k ∧ r.length ≤ l.length ∧ done.length + r.length ≤ l.length ∧ KnAt wr b vW (.slice q us.length cap) r mb ∧ AM wr mb n f ∧ FrK b mb w wr ∧ wr.ownsRow w.heap.size 52 3 v done.length (cells3 done)) (fun _ _ _ _ wr => knLen wr b)
  case atStart => exact ⟨l.length + 1, l, [], by cases lks us f (l.length + 1) l <;> rfl, by omega, Nat.le_refl _, by simp, HK.out, HM.out, FrK.refl _ _ _, World.ownsRow_nil _ _ _ _⟩
  case round =>
    obtain ⟨k, r, done, hlk, hrk, hrl, hdr, hkn, ham, hfr, hown⟩ := hrel
    have hKS : KS w0 wr b mb vW ys q cap us r n f := ⟨HC.out.fr hfr, hkn, ham⟩
    have HLK : Hid _ := hlk
    have HKW : Hid (knLen wr b = r.length) := knLen_of hkn
    clear hlk
    go_wp2_with fail
    refine Calls.mono (atomK hKS hgl (by omega) hN) ?_
    rintro e w1 ⟨hf1, hcs⟩
    have hown1 := own_fr hown hf1 hbw hmw
    have hfr1 := hfr.trans hf1
    clear hown hfr hKS hkn ham hf1
    have LOOK : Hid (∀ (a1 a2 a3 : Int) (r' : List UInt8), KS w0 w1 b mb vW ys q cap us r' n f → okA (a1, a2, a3) → KS w0 (w1.alloc (.cells #[.int .i64 a1, .int .i64 a2, .int .i64 a3] 52)) b mb vW ys q cap us r' n f ∧ (w1.alloc (.cells #[.int .i64 a1, .int .i64 a2, .int .i64 a3] 52)).cell? ⟨b, 3, none⟩ = some (.map (some mb)) ∧ ∀ m, (Instr.lookup 70 (.map (some mb)) (.agg #[.int .i64 a1, .int .i64 a2, .int .i64 a3]) false).run Tryd.prog ((w1.alloc (.cells #[.int .i64 a1, .int .i64 a2, .int .i64 a3] 52)).drewN m) = .ok (.int .i8 (f (a1, a2, a3))) ((w1.alloc (.cells #[.int .i64 a1, .int .i64 a2, .int .i64 a3] 52)).drewN m)) := fun a1 a2 a3 r' hk ho => by
      have h2 := hk.below (below_alloc w1 (.cells #[.int .i64 a1, .int .i64 a2, .int .i64 a3] 52))
      exact ⟨h2, h2.kn.cells.2.2.2, fun m => AM.look (h2.am.drewN m) (a1, a2, a3) ho⟩
    rcases hcs with ⟨i, r1, hfg, hil, rfl, hk1⟩ | ⟨hfg, rfl, hk1⟩
    · have hoa := okA_getD hok i hil
      have hr1 := fig_len hfg
      obtain ⟨⟨a1, a2, a3⟩, ea⟩ : ∃ a, us.getD i (0, 0, 0) = a := ⟨_, rfl⟩
      rw [ea] at hoa
      obtain ⟨h2, c3, hlook⟩ := LOOK.out a1 a2 a3 _ hk1 hoa
      have HK2 : Hid (KS w0 (w1.alloc (.cells #[.int .i64 a1, .int .i64 a2, .int .i64 a3] 52)) b mb vW ys q cap us r1 n f) := h2
      have HF2 : Hid (FrK b mb w (w1.alloc (.cells #[.int .i64 a1, .int .i64 a2, .int .i64 a3] 52))) := hfr1.trans (.of_below (below_alloc _ _))
      have HO2 : Hid ((w1.alloc (.cells #[.int .i64 a1, .int .i64 a2, .int .i64 a3] 52)).ownsRow w.heap.size 52 3 u4 done.length (cells3 done)) := hown1.alloc _
      have hoa3 : -999999 ≤ a3 ∧ a3 ≤ 999999 := by unfold okA at hoa; dsimp only at hoa; omega
      rw [ea]
      unfold avV
      dsimp only
      have hT := hf3 (a1, a2, a3)
      have HSTEP : Hid (∀ k', lks us f (k' + 1) r = lstp us f k' (a1, a2, a3) r1) := fun k' => lks_step hfg ea
      obtain ⟨k', rfl⟩ : ∃ k', k = k' + 1 := ⟨k - 1, by omega⟩
      clear h2 hk1 LOOK hfr1 hown1
      by_cases hF0 : f (a1, a2, a3) = 0
      · have HN : Hid (lks us f (l.length + 1) l = none) := by
          show _ = _
          rw [HLK.out, HSTEP.out k']
          cases r1 with
          | nil => rfl
          | cons c r2 => simp only [lstp, hF0, if_true]; rfl
        rw [hF0] at hlook
        clear HSTEP HLK hF0 hT
        go_wp2_with fail
        go_quiet (fail)
        go_wp2_with fail
        go_ret2
        exact ⟨HF2.out.trans (.of_below (bl_drewN _ _)), _, _, KS.below HK2.out (bl_drewN _ _), Or.inr ⟨HN.out, rfl⟩⟩
      · have CI : Hid (∀ X, Calls Tryd.prog 63 #[.agg #[.int .i64 a1, .int .i64 a2, .int .i64 a3], .int .i8 (f (a1, a2, a3))] X fun e w' => e = .returned (.agg #[.int .i64 (ifA (a1, a2, a3) (f (a1, a2, a3))).1, .int .i64 (ifA (a1, a2, a3) (f (a1, a2, a3))).2.1, .int .i64 (ifA (a1, a2, a3) (f (a1, a2, a3))).2.2]) ∧ Below X.heap.size X w') := fun X => if_any a1 a2 a3 _ hT hoa3 X
        have hne : ((f (a1, a2, a3)) == 0) = false := by simpa using hF0
        have HF0 : Hid (f (a1, a2, a3) ≠ 0) := hF0
        generalize hIA : ifA (a1, a2, a3) (f (a1, a2, a3)) = IA at *
        obtain ⟨x1, x2, x3⟩ := IA
        dsimp only at CI
        generalize hFA : f (a1, a2, a3) = FA at *
        have HFA : Hid (f (a1, a2, a3) = FA) := hFA
        have HIA : Hid (ifA (a1, a2, a3) FA = (x1, x2, x3)) := hIA
        clear hFA hIA hF0 hT
        go_wp2_with fail
        go_quiet (fail)
        go_wp2_with fail
        refine Calls.mono (CI.out _) ?_
        rintro e w3 ⟨rfl, hb3⟩
        have K3 : KS w0 w3 b mb vW ys q cap us r1 n f := (KS.below HK2.out (bl_drewN _ _)).below hb3
        have F3 : FrK b mb w w3 := (HF2.out.trans (.of_below (bl_drewN _ _))).trans (.of_below hb3)
        have O3 : w3.ownsRow w.heap.size 52 3 u4 done.length (cells3 done) := ownsRow_below (ownsRow_below HO2.out (bl_drewN _ _)) hb3
        have hs3 := F3.size
        have hdl : done.length ≤ 200000 := by omega
        have HK3 : Hid (KS w0 w3 b mb vW ys q cap us r1 n f) := K3
        have HF3 : Hid (FrK b mb w w3) := F3
        have HOB : Hid (∀ k, u4.ownBlock = some k → w.heap.size ≤ k) := own_block O3
        clear K3 F3 HK2 HF2 HO2 hb3 c3 hlook CI
        go_wp2_with (at_builtin; refine wpList_append_own _ rfl _ _ 71 rfl w.heap.size 52 i0 (.agg #[.int .i64 0, .int .i64 0, .int .i64 0]) 3 24 Tryd.underlying71 hi hz0 hz1 hz2 rfl (by decide) _ _ _ rfl (O3.alloc _) ⟨w3.heap.size, 0, none⟩ 1 1 [.int .i64 x1, .int .i64 x2, .int .i64 x3] rfl rfl (three_new _ _ rfl _ _ _ _) (one_iii _ _ _) (by unfold maxLen; omega) (by omega) (by simp; omega) ?_)
        intro v' w4 hown4 hgrow _
        have hg4 : w3.grownBy w4 u4.ownBlock := (World.grownBy_alloc w3 _ _).trans hgrow
        have F4 : FrK b mb w w4 := HF3.out.own hg4 HOB.out
        have K4 : KS w0 w4 b mb vW ys q cap us r1 n f := ⟨HC.out.fr F4, HK3.out.kn.kept hg4 (fun e => by have := HOB.out b e.symm; omega), HK3.out.am.kept hg4 (fun e => by have := HOB.out mb e.symm; omega)⟩
        clear O3 hgrow hg4 HK3 HF3 HOB
        go_wp2_with fail
        refine Calls.mono (takeK K4 44 (by omega)) ?_
        rintro e w5 ⟨rfl, K5, f5⟩
        have F5 := F4.trans f5
        have O5 := own_fr hown4 f5 hbw hmw
        clear hown4 f5 F4 K4
        have HST : Hid (lks us f (l.length + 1) l = (lstp us f k' (a1, a2, a3) r1).map (fun x => (done ++ x.1, x.2))) := by show _ = _; rw [HLK.out, HSTEP.out k']
        have hF0 : ¬ f (a1, a2, a3) = 0 := by rw [HFA.out]; exact HF0.out
        have hO5 : w5.ownsRow w.heap.size 52 3 v' (done ++ [(x1, x2, x3)]).length (cells3 (done ++ [(x1, x2, x3)])) := by rw [List.length_append, cells3_snoc]; exact O5
        have HO5 : Hid _ := hO5
        obtain ⟨va, vc, ev⟩ : ∃ va vc, v' = .slice va (done.length + 1) vc := by
          rcases O5.2 with ⟨h1, h2⟩ | ⟨g, c, cur, h1, _⟩
          · omega
          · exact ⟨_, _, h1⟩
        subst ev
        clear O5 hO5 HSTEP HLK hne
        cases hi1 : is1 44 r1
        · have ht1 : tk1 44 r1 = r1 := by
            cases r1 with
            | nil => rfl
            | cons c r2 => simp only [is1] at hi1; simp only [tk1]; rw [if_neg (by simpa using hi1)]
          rw [ht1] at K5
          have HF5 : Hid (FrK b mb w w5) := F5
          have hlr : r1.length ≤ 200000 := by omega
          have HK5 : Hid (KS w0 w5 b mb vW ys q cap us r1 n f) := K5
          clear ht1 F5 K5
          go_wp2_with fail
          refine Calls.mono (takeK HK5.out 59 hlr) ?_
          rintro e w6 ⟨rfl, K6, f6⟩
          have HO6 : Hid _ := own_fr HO5.out f6 hbw hmw
          have HF6 : Hid (FrK b mb w w6) := HF5.out.trans f6
          have HK6 : Hid (KS w0 w6 b mb vW ys q cap us (tk1 59 r1) n f) := K6
          clear K6 f6 HF5 HK5 HO5
          go_wp2_with fail
          go_ret2
          refine ⟨HF6.out, .slice va (done.length + 1) vc, tk1 59 r1, HK6.out, ?_⟩
          cases r1 with
          | nil => exact Or.inr ⟨by rw [HST.out]; rfl, rfl⟩
          | cons c r2 =>
            have hc44 : c ≠ 44 := by simpa [is1] using hi1
            by_cases hc : c = 59
            · refine Or.inl ⟨done ++ [(x1, x2, x3)], r2, ?_, ?_, ?_, HO6.out⟩
              · rw [HST.out]; simp only [lstp, if_neg hF0, if_neg hc44, if_pos hc]; rw [HFA.out, HIA.out]; rfl
              · simp only [tk1, if_pos hc]
              · subst hc; rfl
            · refine Or.inr ⟨?_, ?_⟩
              · rw [HST.out]; simp only [lstp, if_neg hF0, if_neg hc44, if_neg hc]; rfl
              · have : is1 59 (c :: r2) = false := by simp only [is1]; simpa using hc
                rw [this]; rfl
        · cases r1 with
          | nil => cases hi1
          | cons c r2 =>
            have hc44 : c = 44 := by simpa [is1] using hi1
            have ht1 : tk1 44 (c :: r2) = r2 := by simp only [tk1, if_pos hc44]
            rw [ht1] at K5
            have HF5 : Hid (FrK b mb w w5) := F5
            have HK5 : Hid (KS w0 w5 b mb vW ys q cap us r2 n f) := K5
            have hkl0 := knLen_of HK5.out.kn
            have HEQ : Hid (lks us f (l.length + 1) l = (lks us f k' r2).map (fun x => ((done ++ [(x1, x2, x3)]) ++ x.1, x.2))) := by
              show _ = _
              rw [HST.out]; simp only [lstp, if_neg hF0, if_pos hc44]; rw [HFA.out, HIA.out, Option.map_map]
              congr 1
              funext x
              simp
            simp only [List.length_cons] at hr1
            clear ht1 F5 K5 HST hF0 hi1
            go_wp2_with fail
            go_roundw
            case rel => exact ⟨k', r2, done ++ [(x1, x2, x3)], HEQ.out, by omega, by omega, by simp only [List.length_append, List.length_cons, List.length_nil]; omega, HK5.out.kn, HK5.out.am, HF5.out, HO5.out⟩
            case measure =>
              rw [knLen_of HK5.out.kn, HKW.out]; omega
    · obtain ⟨h2, c3, hlook⟩ := LOOK.out 0 0 0 _ hk1 (by unfold okA; dsimp only; omega)
      have HN : Hid (lks us f (l.length + 1) l = none) := by
        show _ = _
        rw [HLK.out]
        cases k with
        | zero => rfl
        | succ k => simp only [lks, hfg]; rfl
      have HK2 : Hid _ := h2
      have HF2 : Hid (FrK b mb w (w1.alloc (.cells #[.int .i64 0, .int .i64 0, .int .i64 0] 52))) := hfr1.trans (.of_below (below_alloc _ _))
      clear h2 hk1 LOOK
      unfold avV
      generalize f (0, 0, 0) = FA at *
      go_wp2_with fail
      go_quiet (fail)
      go_wp2_with fail
      go_ret2
      exact ⟨HF2.out.trans (.of_below (bl_drewN _ _)), _, _, KS.below HK2.out (bl_drewN _ _), Or.inr ⟨HN.out, rfl⟩⟩
end Go.Proofs.YtkinoehmcfhgbaaDoor.Vl
set_option linter.unusedVariables false
set_option linter.unusedSimpArgs false
namespace Go.Proofs.YtkinoehmcfhgbaaDoor.Vl
open Go.RowKit

/-- The mark that ends a number in a cycle, as the document looks for it. -/
def stm : List UInt8 → UInt8
  | [] => 59
  | c :: r => if c = 59 then 59 else if c = 44 then 44 else stm r
theorem stm_two : ∀ l, stm l = 59 ∨ stm l = 44
  | [] => Or.inl rfl
  | c :: r => by
    unfold stm
    split
    · exact Or.inl rfl
    · split
      · exact Or.inr rfl
      · exact stm_two r
theorem isd_no {c : UInt8} (h : isd c = true) : c ≠ 59 ∧ c ≠ 44 := by
  unfold isd at h
  simp only [Bool.and_eq_true, decide_eq_true_eq] at h
  constructor <;> (rintro rfl; simp at h)
theorem stm_drop : ∀ l, stm l = stm (l.drop (dlen l))
  | [] => rfl
  | c :: r => by
    unfold dlen
    split
    · rename_i hc
      have := isd_no hc
      rw [List.drop_succ_cons, ← stm_drop r]
      conv => lhs; unfold stm
      rw [if_neg this.1, if_neg this.2]
    · rfl
/-- Where the document finds no number with the mark that it looks for, there is none. -/
theorem lks_no {us : List Atm} {f : Atm → Int} {k : Nat} {l : List UInt8} (h : ∀ n r, fig us.length l ≠ some (n, stm l :: r)) : lks us f (k + 1) l = none := by
  unfold lks
  split
  · rfl
  · rfl
  · rename_i n c r hf
    have e := (fig_lt hf).2.1
    have hs := stm_drop l
    rw [← e] at hs
    split
    · rfl
    · split
      · rename_i hc
        subst hc
        exact absurd hf (by rw [show stm l = 44 by rw [hs]; rfl] at h; exact h n r)
      · split
        · rename_i hc
          subst hc
          exact absurd hf (by rw [show stm l = 59 by rw [hs]; rfl] at h; exact h n r)
        · rfl
theorem lks_yes {us : List Atm} {f : Atm → Int} {k : Nat} {l : List UInt8} {n : Nat} {c : UInt8} {r : List UInt8} (h : fig us.length l = some (n, c :: r)) : lks us f (k + 1) l = lstp us f k (us.getD n (0, 0, 0)) (c :: r) := by
  simp only [lks, h, lstp]
/-- The document's look at a cycle: of the first i one whose right operand is not the next one's left one. -/
def dbad (ats : List Atm) (i : Nat) : Bool := (List.range i).any fun j => (ats.getD j (0, 0, 0)).2.1 != (ats.getD ((j + 1) % ats.length) (0, 0, 0)).1
theorem dbad_succ (ats : List Atm) (i : Nat) : dbad ats (i + 1) = (dbad ats i || ((ats.getD i (0, 0, 0)).2.1 != (ats.getD ((i + 1) % ats.length) (0, 0, 0)).1)) := by
  unfold dbad; rw [List.range_succ, List.any_append]; simp
def smI (ats : List Atm) (i : Nat) : Int := smB (ats.take i)
theorem smI_succ (ats : List Atm) (i : Nat) (a : Atm) (h : ats[i]? = some a) : smI ats (i + 1) = smI ats i + a.2.2 := by
  unfold smI smB
  rw [List.take_add_one, h]
  simp
theorem smI_all (ats : List Atm) : smI ats ats.length = smB ats := by unfold smI; rw [List.take_length]
theorem chn_iff : ∀ (ats : List Atm) (last : Atm), chn last ats = true ↔ ∀ j, j < ats.length → ((last :: ats).getD j (0, 0, 0)).2.1 = (ats.getD j (0, 0, 0)).1
  | [], last => by simp [chn]
  | x :: r, last => by
    unfold chn
    rw [Bool.and_eq_true, chn_iff r x]
    constructor
    · rintro ⟨h1, h2⟩ j hj
      cases j with
      | zero => simpa using h1
      | succ j => have := h2 j (by simpa using hj); simpa using this
    · intro h
      refine ⟨?_, fun j hj => ?_⟩
      · have := h 0 (by simp); simpa using this
      · have := h (j + 1) (by simpa using hj); simpa using this
theorem cyc_dbad (ats : List Atm) (hne : ats ≠ []) : cyc ats = !(dbad ats ats.length || decide (0 ≤ smB ats)) := by
  have hl : 0 < ats.length := List.length_pos_iff.2 hne
  have hlast : ats.getLastD (0, 0, 0) = ats.getD (ats.length - 1) (0, 0, 0) := by
    rw [List.getD_eq_getElem?_getD, List.getElem?_eq_getElem (by omega), List.getLastD_eq_getLast?, List.getLast?_eq_getElem?, List.getElem?_eq_getElem (by omega)]
  have e1 : chn (ats.getLastD (0, 0, 0)) ats = !dbad ats ats.length := by
    rw [Bool.eq_iff_iff, chn_iff]
    simp only [Bool.not_eq_true', dbad, List.any_eq_false, List.mem_range, bne_iff_ne, ne_eq, Decidable.not_not]
    constructor
    · intro h j hj
      by_cases hj1 : j + 1 < ats.length
      · have := h (j + 1) hj1
        rw [Nat.mod_eq_of_lt hj1]
        simpa using this
      · have e : j + 1 = ats.length := by omega
        have := h 0 hl
        rw [e, Nat.mod_self]
        rw [hlast, show ats.length - 1 = j by omega] at this
        simpa using this
    · intro h j hj
      cases j with
      | zero =>
        have := h (ats.length - 1) (by omega)
        rw [show ats.length - 1 + 1 = ats.length by omega, Nat.mod_self] at this
        rw [hlast]
        simpa using this
      | succ j =>
        have := h j (by omega)
        rw [Nat.mod_eq_of_lt (by omega)] at this
        simpa using this
  unfold cyc
  rw [e1]
  cases dbad ats ats.length
  · by_cases h : smB ats < 0
    · have : ¬ 0 ≤ smB ats := by omega
      simp [h, this]
    · have : 0 ≤ smB ats := by omega
      simp [h, this]
  · simp
/-- What is assumed, as the document's list has it. -/
def byl (us : List Atm) (f : Atm → Int) : List Int := us.map fun a => dt (f a)
theorem byl_len (us : List Atm) (f : Atm → Int) : (byl us f).length = us.length := by simp [byl]
theorem byl_set {us : List Atm} (hnd : us.Nodup) (f : Atm → Int) (j : Nat) (hj : j < us.length) (t : Int) : (byl us f).set j (dt t) = byl us (putA f (us.getD j (0, 0, 0)) t) := by
  unfold byl
  apply List.ext_getElem?
  intro i
  rw [List.getElem?_set, List.getElem?_map, List.getElem?_map]
  have ej : us.getD j (0, 0, 0) = us[j] := by rw [List.getD_eq_getElem?_getD, List.getElem?_eq_getElem hj]; rfl
  by_cases e : j = i
  · subst e
    rw [if_pos rfl, if_pos (by simpa using hj), List.getElem?_eq_getElem hj]
    simp only [Option.map_some, putA, ej, if_true]
  · rw [if_neg e]
    by_cases hi : i < us.length
    · rw [List.getElem?_eq_getElem hi]
      simp only [Option.map_some, putA, ej]
      rw [if_neg]
      intro h
      exact e ((List.getElem_inj hnd).1 h.symm)
    · rw [List.getElem?_eq_none (by omega)]; rfl
theorem byl_range {us : List Atm} {f : Atm → Int} : ∀ x ∈ byl us f, 0 ≤ x ∧ x ≤ 2 := by
  intro x hx
  simp only [byl, List.mem_map] at hx
  obtain ⟨a, _, rfl⟩ := hx
  unfold dt; repeat' split
  all_goals omega
theorem addA_nodup {l : List Atm} (h : l.Nodup) (y : Sym) : (addA l y).Nodup := by
  unfold addA
  split
  · split
    · rename_i h1
      rcases nmb_mem l y.2 0 with ⟨_, h2⟩ | ⟨_, h2, _⟩
      · rw [List.nodup_append]
        refine ⟨h, by simp, ?_⟩
        intro a ha b hb
        rw [List.mem_singleton] at hb
        subst hb
        rintro rfl
        exact h2 ha
      · omega
    · exact h
  · exact h
theorem foldA_nodup : ∀ (ds : List Sym) (l : List Atm), l.Nodup → (ds.foldl addA l).Nodup
  | [], l, h => h
  | d :: r, l, h => foldA_nodup r (addA l d) (addA_nodup h d)
theorem uqs_nodup (ys : List Sym) : (uqs ys).Nodup := foldA_nodup ys [] List.nodup_nil
end Go.Proofs.YtkinoehmcfhgbaaDoor.Vl
