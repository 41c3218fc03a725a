/-
  The walks of Parse and Check: the program answers what the document's machine answers.
-/
import Derived.Test.YtkinoehmcfhgbaaPar8
import Derived.Test.YtkinoehmcfhgbaaRead
set_option linter.unusedVariables false
set_option linter.unusedSimpArgs false
namespace Go.Proofs.Ytkinoehmcfhgbaa.Av
open Go.RowKit

variable {toks : List (List UInt8 × Nat)} {len : Nat}

def flat3 (l : List (Int × Int × Int)) : List Value := l.flatMap fun x => [.int .i64 x.1, .int .i64 x.2.1, .int .i64 x.2.2]
theorem flat3_eq (toks : List (List UInt8 × Nat)) (len : Nat) : cells3 toks ++ [.int .i64 0, .int .i64 (len : Int), .int .i64 0] = flat3 (T3 toks len) := by
  unfold T3 flat3 cells3
  rw [List.flatMap_append, List.flatMap_map]; rfl
theorem flat3_get (l : List (Int × Int × Int)) : ∀ (j : Nat), j < l.length → (flat3 l)[j * 3]? = some (.int .i64 (kd l j)) ∧ (flat3 l)[j * 3 + 1]? = some (.int .i64 (plc l j)) ∧ (flat3 l)[j * 3 + 2]? = some (.int .i64 (vlu l j)) := by
  induction l with
  | nil => intro j h; simp at h
  | cons a r ih =>
    intro j h
    cases j with
    | zero => simp [flat3, kd, plc, vlu]
    | succ j =>
      simp only [List.length_cons] at h
      have := ih j (by omega)
      have e1 : (j + 1) * 3 = j * 3 + 1 + 1 + 1 := by omega
      rw [e1]
      simpa [flat3, kd, plc, vlu] using this
theorem own_at {w : World} {base : Nat} {v : Value} {T : List (Int × Int × Int)} (h0 : 0 < T.length) (h : w.ownsRow base 97 3 v T.length (flat3 T)) :
    ∃ g cap, v = .slice (some ⟨g, 0, none⟩) T.length cap ∧ base ≤ g ∧ g < w.heap.size ∧ T.length ≤ cap ∧ cap ≤ maxLen ∧ ∀ j, j < T.length → w.cell? ⟨g, j * 3, none⟩ = some (.int .i64 (kd T j)) ∧ w.cell? ⟨g, j * 3 + 1, none⟩ = some (.int .i64 (plc T j)) ∧ w.cell? ⟨g, j * 3 + 2, none⟩ = some (.int .i64 (vlu T j)) := by
  rcases h.2 with ⟨_, h2⟩ | ⟨g, cap, cur, hv, hg, hh, h3, h4, h5, h6⟩
  · omega
  · have hlt : g < w.heap.size := by
      rcases Nat.lt_or_ge g w.heap.size with h | h
      · exact h
      · rw [Array.getElem?_eq_none h] at hh; cases hh
    refine ⟨g, cap, hv, hg, hlt, h3, h4, fun j hj => ?_⟩
    have key : ∀ (o : Nat) (u : Value), o < T.length * 3 → (flat3 T)[o]? = some u → w.cell? ⟨g, o, none⟩ = some u := by
      intro o u ho hu
      have : (cur.toList.take (T.length * 3))[o]? = some u := by rw [h6]; exact hu
      rw [List.getElem?_take, if_pos ho] at this
      simp [World.cell?, hh]
      simpa using this
    obtain ⟨a1, a2, a3⟩ := flat3_get T j hj
    exact ⟨key _ _ (by omega) a1, key _ _ (by omega) a2, key _ _ (by omega) a3⟩

def σ0 : PSt := { pos := 0, d := 0, e := 0, pl := 0 }
theorem at_new {w : World} {g cap : Nat} {T : List (Int × Int × Int)} (hg : g < w.heap.size) (hc : T.length ≤ cap) (hm : cap ≤ maxLen)
    (hT : ∀ j, j < T.length → w.cell? ⟨g, j * 3, none⟩ = some (.int .i64 (kd T j)) ∧ w.cell? ⟨g, j * 3 + 1, none⟩ = some (.int .i64 (plc T j)) ∧ w.cell? ⟨g, j * 3 + 2, none⟩ = some (.int .i64 (vlu T j))) :
    At (w.alloc (.cells #[.slice (some ⟨g, 0, none⟩) T.length cap, .int .i64 0, .int .i64 0, .int .i64 0, .int .i64 0] 74)) w.heap.size g cap T σ0 := by
  refine ⟨by rw [asize]; omega, by rw [asize]; omega, by omega, hc, hm, by simp, by simp [σ0], by simp [σ0], by simp [σ0], by simp [σ0], fun o => by simp, fun j hj => ?_⟩
  obtain ⟨a1, a2, a3⟩ := hT j hj
  exact ⟨(afar _ _ _ _ hg).trans a1, (afar _ _ _ _ hg).trans a2, (afar _ _ _ _ hg).trans a3⟩

theorem want_fin (s : ByteArray) : fin (tokAt 0 (rest s 0)) s.size σ0 st0 = want s := by
  unfold fin want; rw [if_pos (show σ0.e = 0 from rfl)]; rfl
theorem ok0 : Ok toks.length σ0 := ⟨Nat.zero_le _, fun h => absurd rfl h, fun _ => ⟨by decide, by decide⟩⟩
theorem results_cell3 {fn : Func} {tmps : Array Value} {w : World} {k i j : Nat} {t : TypeId} {a : Addr} {v x y : Value} (hf : fn.results = #[.cell k t, .tmp i, .tmp j]) (ht : tmps.getD k undef = .pointer (some a)) (hx : tmps.getD i undef = x) (hy : tmps.getD j undef = y) (hl : (loadVar t a).run Try.prog w = .ok v w) : (results fn tmps).run Try.prog w = .ok (.tuple #[v, x, y]) w := by
  have ht' : (tmps[k]?.getD undef) = .pointer (some a) := by simpa using ht
  have hx' : (tmps[i]?.getD undef) = x := by simpa using hx
  have hy' : (tmps[j]?.getD undef) = y := by simpa using hy
  simp [results, hf, ht', hx', hy', hl, asAddr]
theorem post3 {fn : Func} {R : Ending → World → Prop} {tmps : Array Value} {X : World} {B k i j n : Nat} {t : TypeId} {d : TypeDesc} {x y : Value} (cs : List Value) (hf : fn.results = #[.cell k t, .tmp i, .tmp j]) (ht : tmps.getD k undef = .pointer (some ⟨B, 0, none⟩)) (hx : tmps.getD i undef = x) (hy : tmps.getD j undef = y)
    (hu : Try.prog.underlying t = some d) (hd : d.isRow = true) (hi : (Try.prog.info? t).map (·.size) = some n) (hr : Row X B n) (hl : cs.length = n)
    (hR : R (.returned (.tuple #[.agg cs.toArray, x, y])) (X.setCells B 0 cs)) : bodyPost Try.prog fn R .ret ⟨tmps, []⟩ (X.setCells B 0 cs) :=
  bodyPost_ret (results_cell3 hf ht hx hy (run_loadVar_mid _ B 0 t cs d (World.rangeAt_setCells_same X B 0 cs (by rw [hl]; exact hr.there 0 n (by omega))) hu hd (by rw [hl]; exact hi))) rfl hR

theorem post3d {fn : Func} {R : Ending → World → Prop} {tmps : Array Value} {X : World} {B k i j n : Nat} {t : TypeId} {d : TypeDesc} {x y : Value} (cs : List Value) (hf : fn.results = #[.cell k t, .tmp i, .tmp j]) (ht : tmps.getD k undef = .pointer (some ⟨B, 0, none⟩)) (hx : tmps.getD i undef = x) (hy : tmps.getD j undef = y)
    (hu : Try.prog.underlying t = some d) (hd : d.isRow = true) (hi : (Try.prog.info? t).map (·.size) = some n) (hr : Row X B n) (hl : cs.length = n)
    (hR : R (.returned (.tuple #[.agg cs.toArray, x, y])) (X.setCells B 0 cs).drew) : bodyPost Try.prog fn R .ret ⟨tmps, []⟩ (X.setCells B 0 cs).drew :=
  bodyPost_ret (results_cell3 hf ht hx hy (run_loadVar_mid _ B 0 t cs d ((World.rangeAt_drew _ _ _ _).2 (World.rangeAt_setCells_same X B 0 cs (by rw [hl]; exact hr.there 0 n (by omega)))) hu hd (by rw [hl]; exact hi))) rfl hR

theorem zero15 : (([.int .i64 0, .slice none 0 0, .int .i64 0, .int .i64 0, .int .i64 0, .int .i64 0, .int .i64 0, .slice none 0 0, .int .i64 0, .slice none 0 0, .int .i64 0, .int .i64 0, .int .i64 0, .int .i64 0, .int .i64 0] : List Value).all (·.oneCell')) = true := rfl
theorem zero15a : (#[.int .i64 0, .slice none 0 0, .int .i64 0, .int .i64 0, .int .i64 0, .int .i64 0, .int .i64 0, .slice none 0 0, .int .i64 0, .slice none 0 0, .int .i64 0, .int .i64 0, .int .i64 0, .int .i64 0, .int .i64 0] : Array Value).all (·.oneCell') = true := all_oneCell_toArray (List.all_eq_true.1 zero15)
def W15 (w : World) : World := w.alloc (.cells #[.int .i64 0, .slice none 0 0, .int .i64 0, .int .i64 0, .int .i64 0, .int .i64 0, .int .i64 0, .slice none 0 0, .int .i64 0, .slice none 0 0, .int .i64 0, .int .i64 0, .int .i64 0, .int .i64 0, .int .i64 0] 50)
theorem row15 (w : World) : Row (w.alloc (.cells #[.int .i64 0, .slice none 0 0, .int .i64 0, .int .i64 0, .int .i64 0, .int .i64 0, .int .i64 0, .slice none 0 0, .int .i64 0, .slice none 0 0, .int .i64 0, .int .i64 0, .int .i64 0, .int .i64 0, .int .i64 0] 50)) w.heap.size 15 := Row.new w _ _ (List.all_eq_true.1 zero15)
theorem below_cells {a : World} {B : Nat} (hB : a.heap.size ≤ B) : ∀ (vs : List Value) (o : Nat) (w : World), Below a.heap.size a w → Below a.heap.size a (w.setCells B o vs)
  | [], _, _, h => h
  | v :: r, o, w, h => by
    rw [World.setCells]
    exact below_cells hB r (o + 1) _ (h.setCell (p := ⟨B, o, none⟩) hB v)
theorem Row.below {w w' : World} {B n : Nat} (h : Row w B n) (k : Below w.heap.size w w') (hB : B < w.heap.size) : Row w' B n := by
  obtain ⟨cs, a1, a2, a3, a4⟩ := h
  exact ⟨cs, fun j v hv => (k.cell (p := ⟨B, 0 + j, none⟩) hB).trans (a1 j v hv), a2, a3, fun o => (k.frozen (p := ⟨B, o, none⟩) hB).trans (a4 o)⟩

theorem Row.kpOld {b B n : Nat} {w w' : World} (h : Row w B n) (k : Kp b w w') (h1 : B ≠ b) (h2 : B < w.heap.size) : Row w' B n := by
  obtain ⟨cs, a1, a2, a3, a4⟩ := h
  exact ⟨cs, fun j v hv => (k.cell (p := ⟨B, 0 + j, none⟩) h2 h1).trans (a1 j v hv), a2, a3, fun o => (k.frozen (p := ⟨B, o, none⟩) h2 h1).trans (a4 o)⟩

def ParseEnd (w : World) (r : Int × Int) (e : Ending) (w' : World) : Prop := ∃ cs : Array Value, e = .returned (.tuple #[.agg cs, .int .i64 r.1, .int .i64 r.2]) ∧ cs.size = 15 ∧ cs.all (·.oneCell') = true ∧ Below w.heap.size w w'

set_option maxRecDepth 100000 in
set_option maxHeartbeats 1000000 in
theorem parse_any (s : ByteArray) (w : World) (hs : s.size ≤ 300) :
    Calls Try.prog 12 #[.string s] w (ParseEnd w (want s)) := by
  have hk : AllTok (tokAt 0 (rest s 0)) := fun t i h => toks_tokish _ _ _ _ _ h
  have hn : (tokAt 0 (rest s 0)).length ≤ 300 := by have := tokAt_len 0 (rest s 0); rw [rest_len] at this; omega
  have HW : Hid (fin (tokAt 0 (rest s 0)) s.size σ0 st0 = want s) := want_fin s
  have CS : Hid (∀ w, Calls Try.prog 22 #[.string s] w fun e w' => ∃ v, e = .returned v ∧ w'.ownsRow w.heap.size 97 3 v (T3 (tokAt 0 (rest s 0)) s.size).length (flat3 (T3 (tokAt 0 (rest s 0)) s.size)) ∧ Below w.heap.size w w') := fun w => by
    rw [← flat3_eq, T3_len]; exact scan_any s w hs
  generalize want s = R at *
  generalize tokAt 0 (rest s 0) = toks at *
  have HR0 : Hid (Row _ w.heap.size 15) := row15 w
  have hle : ¬ (300 : Int) < (s.size : Int) := by omega
  go_enter Try.func12, Try.ntmps12
  go_wp2_with fail
  refine (CS.out _).mono ?_
  rintro e w1 ⟨v1, rfl, hown, hb1⟩
  obtain ⟨g, cap, rfl, hg0, hg1, hg2, hg3, hg4⟩ := own_at (by rw [T3_len]; omega) hown
  have HA1 : Hid (At _ w1.heap.size g cap (T3 toks s.size) σ0) := at_new hg1 hg2 hg3 hg4
  have HB1 : Hid (Below w.heap.size w w1) := (below_alloc w _).trans (hb1.mono (by rw [asize]; omega))
  have HR1 : Hid (Row w1 w.heap.size 15) := HR0.out.below hb1 (by rw [asize]; omega)
  have hz1 : w.heap.size < w1.heap.size := by have := hb1.size; rw [asize] at this; omega
  clear hown hb1 hg0 hg1 hg2 hg3 hg4
  go_wp2_with fail
  refine (program_any hk hn w1.heap.size g cap _ σ0 HA1.out ok0).mono ?_
  rintro e w2 ⟨v2, σ2, rfl, ⟨cs, rfl, hcs1, hcs2⟩, hA2, hG2, hK2, hS2⟩
  have HA2 : Hid (At w2 w1.heap.size g cap (T3 toks s.size) σ2) := hA2
  have HS2 : Hid (R = if σ2.e = 0 then (0, 0) else (σ2.e, σ2.pl)) := HW.out.symm.trans hS2
  have HB2 : Hid (Below w.heap.size w w2) := Kp.below (HB1.out.alloc (by omega) _) hK2 (by omega)
  have HR2 : Hid (Row w2 w.heap.size 15) := (HR1.out.alloc hz1 _).kpOld hK2 (by omega) (by rw [asize]; omega)
  have hz2 : w1.heap.size < w2.heap.size := by have := hK2.size; rw [asize] at this; omega
  have hgz : g < w2.heap.size := hA2.htb
  have hth0 := (row15 w2).there 0 cs.size (by omega)
  have hi0 : (Try.prog.info? 50).map (·.size) = some cs.size := by rw [hcs1]; exact Try.infoPrg
  have hcl : cs.toList.length = 15 := by simpa using hcs1
  have HAX : Hid (At ((w2.alloc (.cells #[.int .i64 0, .slice none 0 0, .int .i64 0, .int .i64 0, .int .i64 0, .int .i64 0, .int .i64 0, .slice none 0 0, .int .i64 0, .slice none 0 0, .int .i64 0, .int .i64 0, .int .i64 0, .int .i64 0, .int .i64 0] 50)).setCells w2.heap.size 0 cs.toList) w1.heap.size g cap (T3 toks s.size) σ2) := At.cells hz2 hgz _ _ _ (hA2.alloc _)
  have HBX : Hid (Below w.heap.size w ((w2.alloc (.cells #[.int .i64 0, .slice none 0 0, .int .i64 0, .int .i64 0, .int .i64 0, .int .i64 0, .int .i64 0, .slice none 0 0, .int .i64 0, .slice none 0 0, .int .i64 0, .int .i64 0, .int .i64 0, .int .i64 0, .int .i64 0] 50)).setCells w2.heap.size 0 cs.toList)) := below_cells (by omega) _ _ _ (HB2.out.alloc (by omega) _)
  have HRX : Hid (Row ((w2.alloc (.cells #[.int .i64 0, .slice none 0 0, .int .i64 0, .int .i64 0, .int .i64 0, .int .i64 0, .int .i64 0, .slice none 0 0, .int .i64 0, .slice none 0 0, .int .i64 0, .int .i64 0, .int .i64 0, .int .i64 0, .int .i64 0] 50)).setCells w2.heap.size 0 cs.toList) w.heap.size 15) := Row.far (by omega) _ _ _ (HR2.out.alloc (by omega) _)
  have HPX : Hid (Row ((w2.alloc (.cells #[.int .i64 0, .slice none 0 0, .int .i64 0, .int .i64 0, .int .i64 0, .int .i64 0, .int .i64 0, .slice none 0 0, .int .i64 0, .slice none 0 0, .int .i64 0, .int .i64 0, .int .i64 0, .int .i64 0, .int .i64 0] 50)).setCells w2.heap.size 0 cs.toList) w2.heap.size 15) := Row.cells _ _ _ (row15 w2) (by omega) (all_mem hcs2)
  clear hA2 hG2 hK2 hS2
  by_cases he : σ2.e = 0
  · have he' : (σ2.e != 0) = false := by simp [he]
    have HE : Hid (R = (0, 0)) := by show R = (0, 0); rw [HS2.out, if_pos he]
    have c3 := HAX.out.c3
    have c4 := HAX.out.c4
    clear he
    generalize σ2.e = E at *
    obtain ⟨ds, hd1, hd2, hd3, _⟩ := HPX.out
    have hall : ds.toArray.all (·.oneCell') = true := all_oneCell_toArray hd3
    have hi1 : (Try.prog.info? 50).map (·.size) = some ds.length := by rw [hd2]; exact Try.infoPrg
    have hi2 : (Try.prog.info? 50).map (·.size) = some ds.toArray.size := by simpa using hi1
    have hth2 := HRX.out.there 0 ds.toArray.size (by simp; omega)
    have HD : Hid (ds.length = 15) := hd2
    clear hd2 hcs1 hcl
    go_wp2_with (first | (refine wpList_store_mid rfl 50 (.tmp 6) (.tmp 14) rfl w2.heap.size 0 cs rfl rfl ?_ hi0 hcs2 ?_; (exact hth0)) | (refine wpList_load_mid rfl 50 (.tmp 6) rfl w2.heap.size 0 rfl ds _ ?_ Try.underlying50 rfl hi1 ?_; (exact hd1)) | (refine wpList_store_mid rfl 50 (.tmp 2) (.tmp 23) rfl w.heap.size 0 ds.toArray rfl rfl ?_ hi2 hall ?_; (exact hth2)))
    exact post3 ds Try.results12 rfl rfl rfl Try.underlying50 rfl Try.infoPrg HRX.out HD.out ⟨ds.toArray, by rw [HE.out]; rfl, by simpa using HD.out, hall, below_cells (Nat.le_refl _) _ _ _ HBX.out⟩
  · have he' : (σ2.e != 0) = true := by simpa using he
    have HE : Hid (R = (σ2.e, σ2.pl)) := by show R = _; rw [HS2.out, if_neg he]
    have c3 := HAX.out.c3
    have c4 := HAX.out.c4
    clear he
    generalize σ2.e = E at *
    generalize σ2.pl = L at *
    have hth2 := HRX.out.there 0 15 (by omega)
    clear hcs1 hcl
    go_wp2_with (first | (refine wpList_store_mid rfl 50 (.tmp 6) (.tmp 14) rfl w2.heap.size 0 cs rfl rfl ?_ hi0 hcs2 ?_; (exact hth0)))
    generalize ((w2.alloc (.cells #[.int .i64 0, .slice none 0 0, .int .i64 0, .int .i64 0, .int .i64 0, .int .i64 0, .int .i64 0, .slice none 0 0, .int .i64 0, .slice none 0 0, .int .i64 0, .int .i64 0, .int .i64 0, .int .i64 0, .int .i64 0] 50)).setCells w2.heap.size 0 cs.toList) = W at *
    clear hth0 hi0 hcs2 HPX HAX HA1 HA2 HS2 HB1 HB2 HR0 HR1 HR2 CS HW
    have hne1 : ¬ w.heap.size = w1.heap.size := by omega
    have hne2 : ¬ w1.heap.size = w.heap.size := by omega
    obtain ⟨⟨u0, z0⟩, f0⟩ := HRX.out.cell 0 (by omega)
    obtain ⟨⟨u1, z1⟩, f1⟩ := HRX.out.cell 1 (by omega)
    obtain ⟨⟨u2, z2⟩, f2⟩ := HRX.out.cell 2 (by omega)
    obtain ⟨⟨u3, z3⟩, f3⟩ := HRX.out.cell 3 (by omega)
    obtain ⟨⟨u4, z4⟩, f4⟩ := HRX.out.cell 4 (by omega)
    obtain ⟨⟨u5, z5⟩, f5⟩ := HRX.out.cell 5 (by omega)
    obtain ⟨⟨u6, z6⟩, f6⟩ := HRX.out.cell 6 (by omega)
    obtain ⟨⟨u7, z7⟩, f7⟩ := HRX.out.cell 7 (by omega)
    obtain ⟨⟨u8, z8⟩, f8⟩ := HRX.out.cell 8 (by omega)
    obtain ⟨⟨u9, z9⟩, f9⟩ := HRX.out.cell 9 (by omega)
    obtain ⟨⟨u10, z10⟩, f10⟩ := HRX.out.cell 10 (by omega)
    obtain ⟨⟨u11, z11⟩, f11⟩ := HRX.out.cell 11 (by omega)
    obtain ⟨⟨u12, z12⟩, f12⟩ := HRX.out.cell 12 (by omega)
    obtain ⟨⟨u13, z13⟩, f13⟩ := HRX.out.cell 13 (by omega)
    obtain ⟨⟨u14, z14⟩, f14⟩ := HRX.out.cell 14 (by omega)
    go_region
    go_wp2_with fail
    exact post3d (X := W) (B := w.heap.size) [.int .i64 0, .slice none 0 0, .int .i64 0, .int .i64 0, .int .i64 0, .int .i64 0, .int .i64 0, .slice none 0 0, .int .i64 0, .slice none 0 0, .int .i64 0, .int .i64 0, .int .i64 0, .int .i64 0, .int .i64 0] Try.results12 rfl rfl rfl Try.underlying50 rfl Try.infoPrg HRX.out rfl ⟨_, by rw [HE.out]; rfl, rfl, zero15a, (below_cells (Nat.le_refl _) _ _ _ HBX.out).drew⟩

set_option maxRecDepth 100000 in
set_option maxHeartbeats 400000 in
theorem parse_long (s : ByteArray) (w : World) (hs : ¬ s.size ≤ 300) :
    Calls Try.prog 12 #[.string s] w (ParseEnd w (1, 0)) := by
  have hle : (300 : Int) < (s.size : Int) := by omega
  have HR0 : Hid (Row _ w.heap.size 15) := row15 w
  have hth := HR0.out.there 0 15 (by omega)
  go_enter Try.func12, Try.ntmps12
  go_wp2_with (refine wpList_store_mid rfl 50 (.tmp 2) (.tmp 10) rfl w.heap.size 0 #[.int .i64 0, .slice none 0 0, .int .i64 0, .int .i64 0, .int .i64 0, .int .i64 0, .int .i64 0, .slice none 0 0, .int .i64 0, .slice none 0 0, .int .i64 0, .int .i64 0, .int .i64 0, .int .i64 0, .int .i64 0] rfl rfl ?_ ?_ ?_ ?_; (exact hth); (exact Try.infoPrg); (exact zero15a))
  exact post3 [.int .i64 0, .slice none 0 0, .int .i64 0, .int .i64 0, .int .i64 0, .int .i64 0, .int .i64 0, .slice none 0 0, .int .i64 0, .slice none 0 0, .int .i64 0, .int .i64 0, .int .i64 0, .int .i64 0, .int .i64 0] Try.results12 rfl rfl rfl Try.underlying50 rfl Try.infoPrg HR0.out rfl ⟨_, rfl, rfl, zero15a, below_cells (Nat.le_refl _) _ _ _ (below_alloc w _)⟩

/-- What the document answers of any text. -/
def answer (s : ByteArray) : Int × Int := if s.size ≤ 300 then want s else (1, 0)
theorem parse_c (s : ByteArray) (w : World) : Calls Try.prog 12 #[.string s] w (ParseEnd w (answer s)) := by
  unfold answer
  by_cases h : s.size ≤ 300
  · rw [if_pos h]; exact parse_any s w h
  · rw [if_neg h]; exact parse_long s w h

set_option maxRecDepth 100000 in
set_option maxHeartbeats 400000 in
theorem check_c (s : ByteArray) (w : World) :
    Calls Try.prog 5 #[.string s] w fun e w' => e = .returned (.tuple #[.int .i64 (answer s).1, .int .i64 (answer s).2]) ∧ Below w.heap.size w w' := by
  have HP : Hid (Calls Try.prog 12 #[.string s] w (ParseEnd w (answer s))) := parse_c s w
  generalize answer s = R at *
  go_enter Try.func5, Try.ntmps5
  go_wp2_with fail
  refine HP.out.mono ?_
  rintro e w1 ⟨cs, rfl, hcs1, hcs2, hb1⟩
  have hth0 := (row15 w1).there 0 cs.size (by omega)
  have hi0 : (Try.prog.info? 50).map (·.size) = some cs.size := by rw [hcs1]; exact Try.infoPrg
  clear hcs1
  go_wp2_with (refine wpList_store_mid rfl 50 (.tmp 4) (.tmp 10) rfl w1.heap.size 0 cs rfl rfl ?_ hi0 hcs2 ?_; (exact hth0))
  go_ret2
  exact ⟨rfl, below_cells (by have := hb1.size; omega) _ _ _ (hb1.alloc hb1.size _)⟩

end Go.Proofs.Ytkinoehmcfhgbaa.Av
