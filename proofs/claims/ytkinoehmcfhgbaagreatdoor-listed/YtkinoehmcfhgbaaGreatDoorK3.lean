/-
  The walk of the law's own.
  The document's example, THE COUNT, as it stands in tokens.
  The walk of the law Listed.
-/
import Derived.Test.YtkinoehmcfhgbaaGreatDoorN24
import Derived.Maps.Range
import Derived.Test.YtkinoehmcfhgbaaGreatDoorM5
import Derived.Test.YtkinoehmcfhgbaaGreatDoorL6
set_option linter.unusedVariables false
set_option linter.unusedSimpArgs false
namespace Go.Proofs.YtkinoehmcfhgbaaGreatDoor.Vl
open Go.RowKit
open Go.Proofs.YtkinoehmcfhgbaaGreatDoor.Av (Row Row.new Row.cells postN)

theorem Row.grown {w w' : World} {B n : Nat} {row : Option Nat} (h : Row w B n) (hg : w.grownBy w' row) (hB : B < w.heap.size) (hne : some B ≠ row) : Row w' B n := by
  obtain ⟨cs, a1, a2, a3, a4⟩ := h
  exact ⟨cs, fun j v hv => (World.cell?_of_block (a := ⟨B, 0 + j, none⟩) (hg.block B hB hne)).trans (a1 j v hv), a2, a3, fun o => (World.frozen?_of_block (a := ⟨B, o, none⟩) (hg.block B hB hne)).trans (a4 o)⟩
theorem Txts.far {w : World} {v : Value} {n R : Nat} {m : List UInt8} (h : Txts w v (List.replicate n m)) (hR : w.cell? ⟨R, 0, none⟩ = some (.slice none 0 0)) (vs : List Value) : Txts (w.setCells R 0 vs) v (List.replicate n m) := by
  obtain ⟨q, c, rfl, h⟩ := h
  refine ⟨q, c, rfl, h.imp id ?_⟩
  rintro ⟨g, h1, h2, h3⟩
  refine ⟨g, h1, by rw [(grown_setCells R vs 0 w).2]; exact h2, fun j l hl => ?_⟩
  have hn : 0 < n := by
    rw [List.getElem?_replicate] at hl
    split at hl
    · omega
    · cases hl
  have h0 := h3 0 m (by rw [List.getElem?_replicate, if_pos hn])
  have hne : g ≠ R := fun e => by subst e; rw [hR] at h0; cases h0
  rw [World.cell?_setCells_out R vs 0 w ⟨g, j, none⟩ (fun hb _ => absurd hb hne)]
  exact h3 j l hl
theorem Tryz.infoOwned : (Tryz.prog.info? 29).map (·.size) = some 5 := by kernel_rfl

set_option maxRecDepth 100000 in
set_option maxHeartbeats 4000000 in
theorem own_any (base n : Nat) (v : Value) (xs : List Value) (m : List UInt8) (w : World) (h : w.ownsRow base 9 1 v n xs) (hb0 : base ≤ w.heap.size) (hn : n ≤ 100000) :
    Calls Tryz.prog 14 #[v, .string ⟨m.toArray⟩] w fun e w' => ∃ cs, e = .returned (.agg cs) ∧ cs.size = 5 ∧ cs.all (·.oneCell') = true ∧ Own w' cs n m ∧ w.grownBy w' v.ownBlock := by
  have hxl : xs.length = n := by have := h.1; omega
  have HR0 : Hid (Row (w.alloc (.cells #[.slice none 0 0, .slice none 0 0, .slice none 0 0, .slice none 0 0, .string ⟨#[]⟩] 29)) w.heap.size 5) := Row.new w #[.slice none 0 0, .slice none 0 0, .slice none 0 0, .slice none 0 0, .string ⟨#[]⟩] 29 (by decide)
  have hown0 := h.alloc (.cells #[.slice none 0 0, .slice none 0 0, .slice none 0 0, .slice none 0 0, .string ⟨#[]⟩] 29)
  have hob : ∀ j, v.ownBlock = some j → base ≤ j := own_block h
  have hlt : ∀ j, v.ownBlock = some j → j < w.heap.size := fun j e => by
    rcases h.2 with ⟨rfl, _⟩ | ⟨g, cap, cur, rfl, _, hh, _⟩
    · cases e
    · cases e
      exact (Array.getElem?_eq_some_iff.1 hh).1
  have HNE : Hid (some w.heap.size ≠ v.ownBlock) := fun e => by have := hlt _ e.symm; omega
  have HOB : Hid _ := hob
  have HB1 : Hid (w.grownBy (w.alloc (.cells #[.slice none 0 0, .slice none 0 0, .slice none 0 0, .slice none 0 0, .string ⟨#[]⟩] 29)) v.ownBlock) := World.grownBy_alloc w _ _
  obtain ⟨q, c, rfl⟩ := own_shape h
  clear h hob hlt
  go_enter Tryz.func14, Tryz.ntmps14
  go_wp2_with fail
  have hz0 : (w.alloc (.cells #[.slice none 0 0, .slice none 0 0, .slice none 0 0, .slice none 0 0, .string ⟨#[]⟩] 29)).cell? ⟨w.heap.size, 0, none⟩ = some (.slice none 0 0) := by simp
  generalize hW1 : (w.alloc (.cells #[.slice none 0 0, .slice none 0 0, .slice none 0 0, .slice none 0 0, .string ⟨#[]⟩] 29)) = w1 at *
  have hz1 : w1.heap.size = w.heap.size + 1 := by rw [← hW1]; simp
  clear hW1
  go_loopw [5] (fun i wr => ∃ k : Nat, k ≤ n ∧ i = .int .i64 (k : Int) ∧ wr.ownsRow base 9 1 (.slice q n c) n (List.replicate k (strV m) ++ xs.drop k) ∧ w1.grownBy wr (Value.slice q n c).ownBlock) (fun i _ => n - (intOf i).toNat)
  case atStart => exact ⟨0, Nat.zero_le _, rfl, by simpa using hown0, World.grownBy.refl _ _⟩
  case round =>
    obtain ⟨k, hk, rfl, hown, hgr⟩ := hrel
    by_cases hlt : k < n
    · obtain ⟨g, cap, e1, hg1, hg2, hg3, hg4, hg5, hg6⟩ := own_facts hown (by omega)
      cases e1
      obtain ⟨x, hx⟩ : ∃ x, xs[k]? = some x := ⟨_, List.getElem?_eq_getElem (by omega)⟩
      have hd : xs.drop k = x :: xs.drop (k + 1) := by
        rw [List.drop_eq_getElem_cons (by omega)]
        congr 1
        rw [List.getElem?_eq_getElem (by omega)] at hx
        exact Option.some.inj hx
      have x1 : wr.cell? ⟨g, k, none⟩ = some x := hg5 k x (by rw [List.getElem?_append_right (by simp), hd]; simp)
      have x2 : wr.frozen? ⟨g, k, none⟩ = false := hg6 k
      have hs := own_set hown k (strV m)
      have es : (List.replicate k (strV m) ++ xs.drop k).set k (strV m) = List.replicate (k + 1) (strV m) ++ xs.drop (k + 1) := by
        rw [hd, List.set_append_right _ _ (by simp), List.length_replicate, Nat.sub_self, List.set_cons_zero, List.replicate_succ', List.append_assoc]; rfl
      rw [es] at hs
      have hlt' : (k : Int) < (n : Int) := by omega
      have HS : Hid _ := hs
      have HG : Hid (w1.grownBy (wr.setCell ⟨g, k, none⟩ (strV m)) (some g)) := hgr.trans ⟨rfl, rfl, rfl, by simp [World.setCell], fun j _ hj => Below.heap_setCell wr ⟨g, k, none⟩ (strV m) j (fun e => hj (by rw [e]; rfl))⟩
      clear hs es hd hx hown hg5 hg6 hgr
      go_wp2_with fail
      go_roundw
      case rel => exact ⟨k + 1, by omega, by go_num, HS.out, HG.out⟩
      case measure => simp [intOf]; omega
    · have hkn : k = n := by omega
      subst hkn
      have hlt' : ¬ (k : Int) < (k : Int) := by omega
      have ed : xs.drop k = [] := List.drop_eq_nil_of_le (by omega)
      rw [ed, List.append_nil] at hown
      have hrs := hgr.size
      have HGR : Hid _ := hgr
      go_wp2_with (at_builtin; refine append_marks _ rfl _ _ rfl base (.slice q k c) k 1 m rfl (hown.alloc _) wr.heap.size 1 rfl (fun j hj => by have e : j = 0 := (by omega); subst e; simp [strV]) (by omega) (by omega) (by omega) ?_)
      intro v1 w2 hown2 ht1 km1 hg1
      have hs2 := hg1.size
      rw [World.size_alloc] at hs2
      have G2 : Hid (w1.grownBy w2 (Value.slice q k c).ownBlock) := (HGR.out.trans (World.grownBy_alloc _ _ _)).trans hg1
      obtain ⟨q1, c1, rfl⟩ := ht1.shape
      have T1 : Hid (Txts w2 (.slice q1 (List.replicate (k + 1) m).length c1) (List.replicate (k + 1) m)) := ht1
      clear km1 hg1 hown ht1
      go_wp2_with (at_builtin; refine append_marks _ rfl _ _ rfl base (.slice q k c) k 2 m rfl (hown2.alloc _) w2.heap.size 2 rfl (fun j hj => by have e : j = 0 ∨ j = 1 := (by omega); rcases e with rfl | rfl <;> simp [strV]) (by omega) (by omega) (by omega) ?_)
      intro v2 w3 hown3 ht2 km2 hg2
      have hs3 := hg2.size
      rw [World.size_alloc] at hs3
      have G3 : Hid (w1.grownBy w3 (Value.slice q k c).ownBlock) := (G2.out.trans (World.grownBy_alloc _ _ _)).trans hg2
      have K3 : Hid (KM m w2 w3) := (KM.alloc m w2 _).trans km2
      obtain ⟨q2, c2, rfl⟩ := ht2.shape
      have T2 : Hid (Txts w3 (.slice q2 (List.replicate (k + 2) m).length c2) (List.replicate (k + 2) m)) := ht2
      clear km2 hg2 hown2 ht2
      go_wp2_with (at_builtin; refine append_marks _ rfl _ _ rfl base (.slice q k c) k 3 m rfl (hown3.alloc _) w3.heap.size 3 rfl (fun j hj => by have e : j = 0 ∨ j = 1 ∨ j = 2 := (by omega); rcases e with rfl | rfl | rfl <;> simp [strV]) (by omega) (by omega) (by omega) ?_)
      intro v3 w4 hown4 ht3 km3 hg3
      have hs4 := hg3.size
      rw [World.size_alloc] at hs4
      have G4 : Hid (w1.grownBy w4 (Value.slice q k c).ownBlock) := (G3.out.trans (World.grownBy_alloc _ _ _)).trans hg3
      have K4 : Hid (KM m w3 w4) := (KM.alloc m w3 _).trans km3
      obtain ⟨q3, c3, rfl⟩ := ht3.shape
      have T0 : Hid (Txts w4 (.slice q k c) (List.replicate k m)) := Txts.own (base := base) (by rw [List.length_replicate, List.map_replicate]; exact hown4)
      have T3 : Hid (Txts w4 (.slice q3 (List.replicate (k + 3) m).length c3) (List.replicate (k + 3) m)) := ht3
      have HR4 : Hid (Row w4 w.heap.size 5) := Row.grown HR0.out G4.out (by omega) HNE.out
      have ZR : Hid (w4.cell? ⟨w.heap.size, 0, none⟩ = some (.slice none 0 0)) := (World.cell?_of_block (a := ⟨w.heap.size, 0, none⟩) (G4.out.block _ (by show w.heap.size < _; omega) HNE.out)).trans hz0
      have HB4 : Hid (w.grownBy w4 (Value.slice q k c).ownBlock) := HB1.out.trans G4.out
      simp only [List.length_replicate] at *
      clear km3 hg3 hown4 ht3
      obtain ⟨⟨u0, z0⟩, f0⟩ := HR4.out.cell 0 (by omega)
      obtain ⟨⟨u1, z1⟩, f1⟩ := HR4.out.cell 1 (by omega)
      obtain ⟨⟨u2, z2⟩, f2⟩ := HR4.out.cell 2 (by omega)
      obtain ⟨⟨u3, z3⟩, f3⟩ := HR4.out.cell 3 (by omega)
      obtain ⟨⟨u4, z4⟩, f4⟩ := HR4.out.cell 4 (by omega)
      go_wp2_with fail
      refine postN (X := w4) (B := w.heap.size) [.slice q k c, .slice q1 (k + 1) c1, .slice q2 (k + 2) c2, .slice q3 (k + 3) c3, strV m] Tryz.results14 rfl Tryz.underlying29 rfl Tryz.infoOwned HR4.out rfl ⟨_, rfl, rfl, by simp [strV, Value.oneCell'], ⟨_, _, _, _, rfl, T0.out.far ZR.out _, (((T1.out.km K3.out).km K4.out).far ZR.out _), ((T2.out.km K4.out).far ZR.out _), T3.out.far ZR.out _⟩, HB4.out.andThen (grown_setCells w.heap.size _ 0 w4).1 (fun j e => by cases e; exact Or.inl (Nat.le_refl _))⟩
end Go.Proofs.YtkinoehmcfhgbaaGreatDoor.Vl
set_option linter.unusedVariables false
set_option linter.unusedSimpArgs false
namespace Go.Proofs.YtkinoehmcfhgbaaGreatDoor.Vl
open Go.RowKit
open Go.Proofs.YtkinoehmcfhgbaaGreatDoor.Av (vr Fm Rd Tg sAt Cm Rc tokAt answer)

/-- THE COUNT. -/
def cnt : ByteArray := ⟨#[102, 114, 111, 109, 32, 97, 32, 61, 32, 48, 32, 97, 110, 100, 32, 98, 32, 62, 61, 32, 48, 32, 100, 111, 32, 119, 104, 105, 108, 101, 32, 97, 32, 60, 32, 98, 32, 107, 101, 101, 112, 32, 97, 32, 60, 61, 32, 98, 32, 100, 111, 32, 97, 32, 58, 61, 32, 97, 32, 43, 32, 49, 32, 101, 110, 100, 32, 116, 111, 32, 97, 32, 61, 32, 98]⟩
def cntT : List (List UInt8 × Nat) := [([102, 114, 111, 109], 0), ([97], 5), ([61], 7), ([48], 9), ([97, 110, 100], 11), ([98], 15), ([62, 61], 17), ([48], 20), ([100, 111], 22), ([119, 104, 105, 108, 101], 25), ([97], 31), ([60], 33), ([98], 35), ([107, 101, 101, 112], 37), ([97], 42), ([60, 61], 44), ([98], 47), ([100, 111], 49), ([97], 52), ([58, 61], 54), ([97], 57), ([43], 59), ([49], 61), ([101, 110, 100], 63), ([116, 111], 67), ([97], 70), ([61], 72), ([98], 74)]
theorem cnt_ans : answer cnt = (0, 0) := by kernel_rfl
theorem cnt_tok : tokAt 0 (Av.rest cnt 0) = cntT := by kernel_rfl
def cntP : Fm := .and (.cmp 2 (0, 0) (-1, 0)) (.cmp 4 (1, 0) (-1, 0))
def cntC : Cm := .loop (.cmp 0 (0, 0) (1, 0)) (.cmp 1 (0, 0) (1, 0)) (.asg 0 (0, 1))
def cntQ : Fm := .cmp 2 (0, 0) (1, 0)
theorem one_form {toks : List (List UInt8 × Nat)} {k k1 : Nat} {f : Fm} (h : Rd toks .fac k f k1) (h1 : sAt toks k1 ≠ [97, 110, 100]) (h2 : sAt toks k1 ≠ [111, 114]) : Rd toks .form k f k1 :=
  .form (.part h (.partE h1)) (.formE h2)
theorem cnt_prg : Prg (tokAt 0 (Av.rest cnt 0)) cntP cntC cntQ := by
  rw [cnt_tok]
  refine ⟨8, 24, 28, ?_, ?_, ?_, by decide⟩
  · refine .form (.part (k1 := 4) (f := .cmp 2 (0, 0) (-1, 0)) (Rd.cmpE (k1 := 2) (by decide) (by decide) (by decide) (by decide) (by kernel_rfl) (by kernel_rfl) (by kernel_rfl)) (.partS (k1 := 8) (g := .cmp 4 (1, 0) (-1, 0)) (by decide) (Rd.cmpE (k1 := 6) (by decide) (by decide) (by decide) (by decide) (by kernel_rfl) (by kernel_rfl) (by kernel_rfl)) (.partE (by decide)))) (.formE (by decide))
  · refine .one (.loop (k1 := 13) (k2 := 17) (k3 := 23) (by decide) ?_ ?_ ?_) (by decide)
    · exact one_form (Rd.cmpE (k1 := 11) (by decide) (by decide) (by decide) (by decide) (by kernel_rfl) (by kernel_rfl) (by kernel_rfl)) (by decide) (by decide)
    · exact one_form (Rd.cmpE (k1 := 15) (by decide) (by decide) (by decide) (by decide) (by kernel_rfl) (by kernel_rfl) (by kernel_rfl)) (by decide) (by decide)
    · exact .one (Rc.asgE (by decide) (by kernel_rfl) (by kernel_rfl)) (by decide)
  · exact one_form (Rd.cmpE (k1 := 26) (by decide) (by decide) (by decide) (by decide) (by kernel_rfl) (by kernel_rfl) (by kernel_rfl)) (by decide) (by decide)
end Go.Proofs.YtkinoehmcfhgbaaGreatDoor.Vl
set_option linter.unusedVariables false
set_option linter.unusedSimpArgs false
namespace Go.Proofs.YtkinoehmcfhgbaaGreatDoor.Vl
open Go.RowKit
open Go.Proofs.YtkinoehmcfhgbaaGreatDoor.Av (vr Fm Rd Tg sAt Cm Rc tokAt answer Row Row.new below_cells)

def cF : List UInt8 := [62, 38, 38, 97, 45, 48, 60, 61, 48, 46, 48, 45, 97, 60, 61, 48, 46, 48, 45, 98, 60, 61, 48, 46, 97, 45, 98, 60, 61, 48, 46]
def cS : List UInt8 := [62, 38, 97, 45, 98, 60, 61, 48, 46, 97, 45, 98, 60, 61, 45, 49, 46, 97, 45, 98, 60, 61, 45, 49, 46]
def cT : List UInt8 := [62, 38, 97, 45, 98, 60, 61, 48, 46, 33, 97, 45, 98, 60, 61, 45, 49, 46, 38, 97, 45, 98, 60, 61, 48, 46, 98, 45, 97, 60, 61, 48, 46]
theorem cnt_conds : cAns cnt cntP cntC cntQ = ([cF, cS, cT], 0, 0) := by kernel_rfl
theorem cond_cnt (w : World) (hgt : Gt w) : Calls Tryz.prog 11 #[.string cnt] w fun e w' => ∃ v, e = .returned (.tuple #[v, .int .i64 0, .int .i64 0]) ∧ w'.ownsRow w.heap.size 9 1 v 3 ([cF, cS, cT].map strV) ∧ Below w.heap.size w w' := by
  refine (ccond_any cnt w hgt).mono ?_
  rintro e w' ⟨p, c, q, hP, v, he, ho, hb⟩
  obtain ⟨rfl, rfl, rfl⟩ := cnt_prg.det (hP (by rw [cnt_ans]))
  rw [cnt_conds] at he ho
  exact ⟨v, he, ho, hb⟩
theorem cAns_det {s : ByteArray} {p q p' q' : Fm} {c c' : Cm} (h : (answer s).1 = 0 → Prg (tokAt 0 (Av.rest s 0)) p c q) (h' : (answer s).1 = 0 → Prg (tokAt 0 (Av.rest s 0)) p' c' q') : cAns s p' c' q' = cAns s p c q := by
  by_cases h0 : (answer s).1 = 0
  · obtain ⟨rfl, rfl, rfl⟩ := (h h0).det (h' h0)
    rfl
  · unfold cAns
    rw [if_pos h0, if_pos h0]
theorem cAns_len {s : ByteArray} {p q : Fm} {c : Cm} (h : (answer s).1 = 0 → Prg (tokAt 0 (Av.rest s 0)) p c q) : (cAns s p c q).1.length ≤ 1000 := by
  unfold cAns
  split
  · simp
  · rename_i h0
    split
    · rename_i hf
      have h0' : (answer s).1 = 0 := by omega
      obtain ⟨k1, k2, k3, r1, r2, r3, hk⟩ := h h0'
      have hl : (tokAt 0 (Av.rest s 0)).length ≤ 300 := by have := answer_long h0'; have := Av.tokAt_len 0 (Av.rest s 0); have := Av.rest_len s 0; omega
      have h1 := rc_sz r2
      have h2 := nlo_le c
      have h3 := pL_len c (fsy q)
      have h4 := ((walk_is c (fsy q)).2 hf.1).2
      rw [h4, List.length_reverse] at h3
      have h5 := r3.le.1
      simp only [List.length_cons, List.length_map]
      omega
    · simp
/-- An owner's struct in memory. -/
def OAt (w : World) (B n : Nat) (m : List UInt8) (cs : Array Value) : Prop := B < w.heap.size ∧ cs.size = 5 ∧ w.rangeAt B 0 cs.toList ∧ Own w cs n m
theorem OAt.below {w w' : World} {B n : Nat} {m : List UInt8} {cs : Array Value} (h : OAt w B n m cs) (hb : Below w.heap.size w w') : OAt w' B n m cs :=
  ⟨Nat.lt_of_lt_of_le h.1 hb.size, h.2.1, fun j v hv => (hb.cell (p := ⟨B, 0 + j, none⟩) h.1).trans (h.2.2.1 j v hv), h.2.2.2.below hb⟩
theorem oat_put {w : World} {n : Nat} {m : List UInt8} {cs : Array Value} (h5 : cs.size = 5) (hO : Own w cs n m) : (w.alloc (.cells #[.slice none 0 0, .slice none 0 0, .slice none 0 0, .slice none 0 0, .string ⟨#[]⟩] 29)).there w.heap.size 0 cs.size ∧ Below w.heap.size w ((w.alloc (.cells #[.slice none 0 0, .slice none 0 0, .slice none 0 0, .slice none 0 0, .string ⟨#[]⟩] 29)).setCells w.heap.size 0 cs.toList) ∧ OAt ((w.alloc (.cells #[.slice none 0 0, .slice none 0 0, .slice none 0 0, .slice none 0 0, .string ⟨#[]⟩] 29)).setCells w.heap.size 0 cs.toList) w.heap.size n m cs := by
  have hr : Row (w.alloc (.cells #[.slice none 0 0, .slice none 0 0, .slice none 0 0, .slice none 0 0, .string ⟨#[]⟩] 29)) w.heap.size 5 := Row.new w #[.slice none 0 0, .slice none 0 0, .slice none 0 0, .slice none 0 0, .string ⟨#[]⟩] 29 (by decide)
  have ht := hr.there 0 cs.size (by omega)
  have hb : Below w.heap.size w ((w.alloc (.cells #[.slice none 0 0, .slice none 0 0, .slice none 0 0, .slice none 0 0, .string ⟨#[]⟩] 29)).setCells w.heap.size 0 cs.toList) := below_cells (Nat.le_refl _) _ _ _ (below_alloc _ _)
  refine ⟨ht, hb, ?_, h5, World.rangeAt_setCells_same _ _ _ _ (by simpa using ht), hO.below hb⟩
  rw [(grown_setCells _ _ _ _).2]; simp
theorem own_size {w : World} {base : Nat} {v : Value} {n : Nat} {xs : List Value} (h : w.ownsRow base 9 1 v n xs) : ∀ j, v.ownBlock = some j → j < w.heap.size := fun j e => by
  rcases h.2 with ⟨rfl, _⟩ | ⟨g, cap, cur, rfl, _, hh, _⟩
  · cases e
  · cases e
    exact (Array.getElem?_eq_some_iff.1 hh).1
set_option maxHeartbeats 400000 in
theorem numL_any (k : Int) (w : World) : Calls Tryz.prog 13 #[.int .i64 k] w fun e w' => e = .returned (.int .i64 k) ∧ w = w' := by
  go_enter Tryz.func13, Tryz.ntmps13
  go_wp2
  go_ret
  exact ⟨rfl, rfl⟩

set_option maxRecDepth 100000 in
set_option maxHeartbeats 8000000 in
theorem listed_c (s : ByteArray) (w : World) (hgt : Gt w) :
    Calls Tryz.prog 3 #[.string s] w fun e w' => e = .returned (.bool true) ∧ Below w.heap.size w w' := by
  have CN : Hid (∀ k w, Calls Tryz.prog 13 #[.int .i64 k] w fun e w' => e = .returned (.int .i64 k) ∧ w = w') := numL_any
  have HGT : Hid (Gt w) := hgt
  clear hgt
  go_enter Tryz.func3, Tryz.ntmps3
  go_wp2_with fail
  refine Calls.mono (cond_cnt w HGT.out) ?_
  rintro e w1 ⟨v0, rfl, ho0, hb1⟩
  obtain ⟨q0, c0, rfl⟩ := own_shape ho0
  go_wp2_with fail
  have hal := below_alloc w1 (.cells #[strV cF, strV cS, strV cT] 9)
  have t1 : Txts (w1.alloc (.cells #[strV cF, strV cS, strV cT] 9)) (.slice q0 3 c0) [cF, cS, cT] := (Txts.own (L := [cF, cS, cT]) ho0).below hal
  have t2 : Txts (w1.alloc (.cells #[strV cF, strV cS, strV cT] 9)) (.slice (some ⟨w1.heap.size, 0, none⟩) 3 3) [cF, cS, cT] := ⟨_, _, rfl, Or.inr ⟨w1.heap.size, rfl, by simp, fun j l hl => by
    match j, hl with
    | 0, hl => cases hl; simp
    | 1, hl => cases hl; simp
    | 2, hl => cases hl; simp⟩⟩
  refine Calls.mono (same_any [cF, cS, cT] _ _ _ t1 t2 (by decide)) ?_
  rintro e w2 ⟨rfl, hb2⟩
  have b12 : Below w1.heap.size w1 w2 := hal.trans (hb2.mono hal.size)
  have ho2 := ownsRow_below ho0 b12
  have bw2 : Below w.heap.size w w2 := hb1.trans (b12.mono hb1.size)
  clear t1 t2 hal hb2 b12 ho0 hb1
  go_wp2_with (go_at_call 13; refine (CN.out _ _).mono ?_; rintro e w' ⟨rfl, rfl⟩)
  refine Calls.mono (own_any w.heap.size 3 _ _ [109, 105, 110, 101] w2 ho2 bw2.size (by omega)) ?_
  rintro e w3 ⟨cs, rfl, hcs1, hcs2, hO3, hg3⟩
  have bw3 : Below w.heap.size w w3 := bw2.grown hg3 bw2.size (own_block ho2)
  obtain ⟨hth, hbx, hA⟩ := oat_put hcs1 hO3
  have hi0 : (Tryz.prog.info? 29).map (·.size) = some cs.size := by rw [hcs1]; exact Tryz.infoOwned
  have HI : Hid ((Tryz.prog.info? 29).map (·.size) = some cs.toList.length) := by show _ = _; rw [hi0]; simp
  have BX : Hid (Below w.heap.size w ((w3.alloc (.cells #[.slice none 0 0, .slice none 0 0, .slice none 0 0, .slice none 0 0, .string ⟨#[]⟩] 29)).setCells w3.heap.size 0 cs.toList)) := bw3.trans (hbx.mono bw3.size)
  have HA : Hid (OAt ((w3.alloc (.cells #[.slice none 0 0, .slice none 0 0, .slice none 0 0, .slice none 0 0, .string ⟨#[]⟩] 29)).setCells w3.heap.size 0 cs.toList) w3.heap.size 3 [109, 105, 110, 101] cs) := hA
  clear hbx hA hO3 hg3 ho2 bw2 bw3
  go_wp2_with (refine wpList_store_mid rfl 29 (.tmp 7) (.tmp 40) rfl w3.heap.size 0 cs rfl rfl ?_ hi0 hcs2 ?_; (exact hth))
  clear hth hi0 hcs2
  generalize ((w3.alloc (.cells #[.slice none 0 0, .slice none 0 0, .slice none 0 0, .slice none 0 0, .string ⟨#[]⟩] 29)).setCells w3.heap.size 0 cs.toList) = X3 at *
  refine Calls.mono (ccond_any s X3 (HGT.out.on BX.out)) ?_
  rintro e w4 ⟨p, c, q, hP, vx, rfl, hox, hb4⟩
  have HP : Hid _ := hP
  have HL : Hid ((cAns s p c q).1.length ≤ 1000) := cAns_len hP
  have HDET : Hid (∀ p' c' q', ((answer s).1 = 0 → Prg (tokAt 0 (Av.rest s 0)) p' c' q') → cAns s p' c' q' = cAns s p c q) := fun p' c' q' h => cAns_det hP h
  have CR : Hid (∀ X, Calls Tryz.prog 15 #[.string s] X fun e w' => ∃ v, e = .returned (.tuple #[v, .int .i64 (cAns s p c q).2.1, .int .i64 (cAns s p c q).2.2]) ∧ w'.ownsRow X.heap.size 9 1 v (cAns s p c q).1.length ((cAns s p c q).1.map strV) ∧ Below X.heap.size X w') := fun X => refCond_any s p q c X hP
  clear hP HP
  generalize cAns s p c q = AA at *
  obtain ⟨L, e1, e2⟩ := AA
  dsimp only at hox HL CR
  obtain ⟨qx, cx, rfl⟩ := own_shape hox
  have HOX : Hid (w4.ownsRow X3.heap.size 9 1 (.slice qx L.length cx) L.length (L.map strV)) := hox
  have hl1 := HL.out
  clear hox
  go_wp2_with fail
  refine Calls.mono (CR.out _) ?_
  rintro e w5 ⟨vy, rfl, hoy, hb5⟩
  obtain ⟨qy, cy, rfl⟩ := own_shape hoy
  have HOY : Hid (w5.ownsRow w4.heap.size 9 1 (.slice qy L.length cy) L.length (L.map strV)) := hoy
  clear hoy
  go_wp2_with fail
  refine Calls.mono (same_any L _ _ _ ((Txts.own HOX.out).below hb5) (Txts.own HOY.out) (by omega)) ?_
  rintro e w6 ⟨rfl, hb6⟩
  go_wp2_with fail
  have b46 : Below w4.heap.size w4 w6 := hb5.trans (hb6.mono hb5.size)
  have ox6 := ownsRow_below HOX.out b46
  have bX6 : Below X3.heap.size X3 w6 := hb4.trans (b46.mono hb4.size)
  refine Calls.mono (own_any X3.heap.size L.length _ _ [121, 111, 117, 114, 115] w6 ox6 bX6.size (by omega)) ?_
  rintro e w7 ⟨cs2, rfl, hcs21, hcs22, hO7, hg7⟩
  have hne : (Value.slice qy L.length cy).ownBlock = none ∨ (Value.slice qy L.length cy).ownBlock ≠ (Value.slice qx L.length cx).ownBlock := by
    cases hqy : (Value.slice qy L.length cy).ownBlock with
    | none => exact Or.inl rfl
    | some gy =>
      refine Or.inr (fun e => ?_)
      have h1 := own_block HOY.out gy hqy
      have h2 := own_size HOX.out gy e.symm
      omega
  have oy7 := (ownsRow_below HOY.out hb6).kept hg7 hne
  have bX7 : Below X3.heap.size X3 w7 := bX6.grown hg7 bX6.size (own_block ox6)
  obtain ⟨hth, hbx, hA⟩ := oat_put hcs21 hO7
  have hi0 : (Tryz.prog.info? 29).map (·.size) = some cs2.size := by rw [hcs21]; exact Tryz.infoOwned
  have HI2 : Hid ((Tryz.prog.info? 29).map (·.size) = some cs2.toList.length) := by show _ = _; rw [hi0]; simp
  have BX7 : Hid (Below X3.heap.size X3 ((w7.alloc (.cells #[.slice none 0 0, .slice none 0 0, .slice none 0 0, .slice none 0 0, .string ⟨#[]⟩] 29)).setCells w7.heap.size 0 cs2.toList)) := bX7.trans (hbx.mono bX7.size)
  have HB : Hid (OAt ((w7.alloc (.cells #[.slice none 0 0, .slice none 0 0, .slice none 0 0, .slice none 0 0, .string ⟨#[]⟩] 29)).setCells w7.heap.size 0 cs2.toList) w7.heap.size L.length [121, 111, 117, 114, 115] cs2) := hA
  have OY7 : Hid (((w7.alloc (.cells #[.slice none 0 0, .slice none 0 0, .slice none 0 0, .slice none 0 0, .string ⟨#[]⟩] 29)).setCells w7.heap.size 0 cs2.toList).ownsRow w4.heap.size 9 1 (.slice qy L.length cy) L.length (L.map strV)) := ownsRow_below oy7 hbx
  clear hbx hA hO7 hg7 ox6 bX6 bX7 oy7 hne b46 HOY HOX hb6 hb5 hb4
  go_wp2_with (refine wpList_store_mid rfl 29 (.tmp 15) (.tmp 57) rfl w7.heap.size 0 cs2 rfl rfl ?_ hi0 hcs22 ?_; (exact hth))
  clear hth hi0 hcs22
  generalize ((w7.alloc (.cells #[.slice none 0 0, .slice none 0 0, .slice none 0 0, .slice none 0 0, .string ⟨#[]⟩] 29)).setCells w7.heap.size 0 cs2.toList) = X7 at *
  have BW7 : Hid (Below w.heap.size w X7) := BX.out.trans (BX7.out.mono BX.out.size)
  have HA7 : Hid (OAt X7 w3.heap.size 3 [109, 105, 110, 101] cs) := HA.out.below BX7.out
  clear HA BX BX7
  refine Calls.mono (ccond_any s X7 (HGT.out.on BW7.out)) ?_
  rintro e w8 ⟨p', c', q', hP', vz, rfl, hoz, hb8⟩
  rw [HDET.out p' c' q' hP'] at *
  dsimp only at hoz
  obtain ⟨qz, cz, rfl⟩ := own_shape hoz
  have HOZ : Hid (w8.ownsRow X7.heap.size 9 1 (.slice qz L.length cz) L.length (L.map strV)) := hoz
  clear hoz hP' HDET
  go_wp2_with fail
  refine Calls.mono (same_any L _ _ _ (Txts.own HOZ.out) ((Txts.own OY7.out).below hb8) (by omega)) ?_
  rintro e w9 ⟨rfl, hb9⟩
  go_wp2_with fail
  have oz9 := ownsRow_below HOZ.out hb9
  have b79 : Below X7.heap.size X7 w9 := hb8.trans (hb9.mono hb8.size)
  refine Calls.mono (own_any X7.heap.size L.length _ _ [116, 104, 101, 105, 114, 115] w9 oz9 b79.size (by omega)) ?_
  rintro e w10 ⟨cs3, rfl, hcs31, hcs32, hO10, hg10⟩
  have b710 : Below X7.heap.size X7 w10 := b79.grown hg10 b79.size (own_block oz9)
  obtain ⟨hth, hbx, hA⟩ := oat_put hcs31 hO10
  have hi0 : (Tryz.prog.info? 29).map (·.size) = some cs3.size := by rw [hcs31]; exact Tryz.infoOwned
  have HI3 : Hid ((Tryz.prog.info? 29).map (·.size) = some cs3.toList.length) := by show _ = _; rw [hi0]; simp
  have BX10 : Hid (Below X7.heap.size X7 ((w10.alloc (.cells #[.slice none 0 0, .slice none 0 0, .slice none 0 0, .slice none 0 0, .string ⟨#[]⟩] 29)).setCells w10.heap.size 0 cs3.toList)) := b710.trans (hbx.mono b710.size)
  have HC : Hid (OAt ((w10.alloc (.cells #[.slice none 0 0, .slice none 0 0, .slice none 0 0, .slice none 0 0, .string ⟨#[]⟩] 29)).setCells w10.heap.size 0 cs3.toList) w10.heap.size L.length [116, 104, 101, 105, 114, 115] cs3) := hA
  have BW10 : Hid (Below w.heap.size w ((w10.alloc (.cells #[.slice none 0 0, .slice none 0 0, .slice none 0 0, .slice none 0 0, .string ⟨#[]⟩] 29)).setCells w10.heap.size 0 cs3.toList)) := BW7.out.trans (BX10.out.mono BW7.out.size)
  have HA10 : Hid (OAt ((w10.alloc (.cells #[.slice none 0 0, .slice none 0 0, .slice none 0 0, .slice none 0 0, .string ⟨#[]⟩] 29)).setCells w10.heap.size 0 cs3.toList) w3.heap.size 3 [109, 105, 110, 101] cs) := HA7.out.below BX10.out
  have HB10 : Hid (OAt ((w10.alloc (.cells #[.slice none 0 0, .slice none 0 0, .slice none 0 0, .slice none 0 0, .string ⟨#[]⟩] 29)).setCells w10.heap.size 0 cs3.toList) w7.heap.size L.length [121, 111, 117, 114, 115] cs2) := HB.out.below BX10.out
  have rA : ((w10.alloc (.cells #[.slice none 0 0, .slice none 0 0, .slice none 0 0, .slice none 0 0, .string ⟨#[]⟩] 29)).setCells w10.heap.size 0 cs3.toList).rangeAt w3.heap.size 0 cs.toList := HA10.out.2.2.1
  have hi1 := HI.out
  clear hbx hA hO10 hg10 oz9 b79 b710 HOZ OY7 hb8 hb9 HA7 HB BW7 BX10
  go_wp2_with (first | (refine wpList_store_mid rfl 29 (.tmp 20) (.tmp 68) rfl w10.heap.size 0 cs3 rfl rfl ?_ hi0 hcs32 ?_; (exact hth)) | (refine wpList_load_mid rfl 29 (.tmp 7) rfl w3.heap.size 0 rfl cs.toList _ ?_ Tryz.underlying29 rfl hi1 ?_; (exact rA)))
  clear hth hi0 hcs32 rA hi1
  generalize ((w10.alloc (.cells #[.slice none 0 0, .slice none 0 0, .slice none 0 0, .slice none 0 0, .string ⟨#[]⟩] 29)).setCells w10.heap.size 0 cs3.toList) = X10 at *
  refine Calls.mono (stands_any cs 3 [109, 105, 110, 101] X10 HA10.out.2.2.2 (by omega)) ?_
  rintro e w11 ⟨rfl, hb11⟩
  have HB11 : Hid (OAt w11 w7.heap.size L.length [121, 111, 117, 114, 115] cs2) := HB10.out.below hb11
  have HC11 : Hid (OAt w11 w10.heap.size L.length [116, 104, 101, 105, 114, 115] cs3) := HC.out.below hb11
  have BW11 : Hid (Below w.heap.size w w11) := BW10.out.trans (hb11.mono BW10.out.size)
  have rB : w11.rangeAt w7.heap.size 0 cs2.toList := HB11.out.2.2.1
  have hi2 := HI2.out
  clear hb11 HB10 HC BW10 HA10
  go_wp2_with (refine wpList_load_mid rfl 29 (.tmp 15) rfl w7.heap.size 0 rfl cs2.toList _ ?_ Tryz.underlying29 rfl hi2 ?_; (exact rB))
  refine Calls.mono (stands_any cs2 L.length [121, 111, 117, 114, 115] w11 HB11.out.2.2.2 (by omega)) ?_
  rintro e w12 ⟨rfl, hb12⟩
  have HC12 : Hid (OAt w12 w10.heap.size L.length [116, 104, 101, 105, 114, 115] cs3) := HC11.out.below hb12
  have BW12 : Hid (Below w.heap.size w w12) := BW11.out.trans (hb12.mono BW11.out.size)
  have rC : w12.rangeAt w10.heap.size 0 cs3.toList := HC12.out.2.2.1
  have hi3 := HI3.out
  clear hb12 HC11 HB11 BW11 rB hi2
  go_wp2_with (refine wpList_load_mid rfl 29 (.tmp 20) rfl w10.heap.size 0 rfl cs3.toList _ ?_ Tryz.underlying29 rfl hi3 ?_; (exact rC))
  refine Calls.mono (stands_any cs3 L.length [116, 104, 101, 105, 114, 115] w12 HC12.out.2.2.2 (by omega)) ?_
  rintro e w13 ⟨rfl, hb13⟩
  have BW13 : Hid (Below w.heap.size w w13) := BW12.out.trans (hb13.mono BW12.out.size)
  clear hb13 HC12 BW12 rC hi3
  go_wp2_with (go_at_call 13; refine (CN.out _ _).mono ?_; rintro e w' ⟨rfl, rfl⟩)
  go_ret
  exact ⟨by simp, BW13.out⟩
end Go.Proofs.YtkinoehmcfhgbaaGreatDoor.Vl
