/-
  The walk of Parse: what it answers, and what lies in memory behind it.
  Plain words that both halves, the program's and the document's, are said in: what is answered, short texts.
-/
import Derived.Test.YtkinoehmcfhgbaaGreatDoorQ8
import Derived.Test.YtkinoehmcfhgbaaGreatDoorF1
import Derived.Laws.BytesArg
import Derived.Deep.RegionHeld3
set_option linter.unusedVariables false
set_option linter.unusedSimpArgs false
namespace Go.Proofs.YtkinoehmcfhgbaaGreatDoor.Av
open Go.RowKit

variable {toks : List (List UInt8 × Nat)} {len : Nat}

def flat3 (l : List (Int × Int × Int)) : List Value := l.flatMap fun x => [.int .i64 x.1, .int .i64 x.2.1, .int .i64 x.2.2]
theorem flat3_eq (toks : List (List UInt8 × Nat)) (len : Nat) : cells3 toks ++ [.int .i64 0, .int .i64 (len : Int), .int .i64 0] = flat3 (T3 toks len) := by
  unfold T3 flat3 cells3
  rw [List.flatMap_append, List.flatMap_map]; rfl
theorem flat3_get (l : List (Int × Int × Int)) : ∀ (j : Nat), j < l.length → (flat3 l)[j * 3]? = some (.int .i64 (kd l j)) ∧ (flat3 l)[j * 3 + 1]? = some (.int .i64 (plc l j)) ∧ (flat3 l)[j * 3 + 2]? = some (.int .i64 (vlu l j)) := by
  induction l with
  | nil => intro j h; simp at h
  | cons a r ih =>
    intro j h
    cases j with
    | zero => simp [flat3, kd, plc, vlu]
    | succ j =>
      simp only [List.length_cons] at h
      have := ih j (by omega)
      have e1 : (j + 1) * 3 = j * 3 + 1 + 1 + 1 := by omega
      rw [e1]
      simpa [flat3, kd, plc, vlu] using this
theorem own_at {w : World} {base : Nat} {v : Value} {T : List (Int × Int × Int)} (h0 : 0 < T.length) (h : w.ownsRow base 216 3 v T.length (flat3 T)) :
    ∃ g cap, v = .slice (some ⟨g, 0, none⟩) T.length cap ∧ base ≤ g ∧ g < w.heap.size ∧ T.length ≤ cap ∧ cap ≤ maxLen ∧ ∀ j, j < T.length → w.cell? ⟨g, j * 3, none⟩ = some (.int .i64 (kd T j)) ∧ w.cell? ⟨g, j * 3 + 1, none⟩ = some (.int .i64 (plc T j)) ∧ w.cell? ⟨g, j * 3 + 2, none⟩ = some (.int .i64 (vlu T j)) := by
  rcases h.2 with ⟨_, h2⟩ | ⟨g, cap, cur, hv, hg, hh, h3, h4, h5, h6⟩
  · omega
  · have hlt : g < w.heap.size := by
      rcases Nat.lt_or_ge g w.heap.size with h | h
      · exact h
      · rw [Array.getElem?_eq_none h] at hh; cases hh
    refine ⟨g, cap, hv, hg, hlt, h3, h4, fun j hj => ?_⟩
    have key : ∀ (o : Nat) (u : Value), o < T.length * 3 → (flat3 T)[o]? = some u → w.cell? ⟨g, o, none⟩ = some u := by
      intro o u ho hu
      have : (cur.toList.take (T.length * 3))[o]? = some u := by rw [h6]; exact hu
      rw [List.getElem?_take, if_pos ho] at this
      simp [World.cell?, hh]
      simpa using this
    obtain ⟨a1, a2, a3⟩ := flat3_get T j hj
    exact ⟨key _ _ (by omega) a1, key _ _ (by omega) a2, key _ _ (by omega) a3⟩

def σ0 : PSt := { pos := 0, d := 0, e := 0, pl := 0 }
theorem at_new {w : World} {g cap : Nat} {T : List (Int × Int × Int)} (hg : g < w.heap.size) (hc : T.length ≤ cap) (hm : cap ≤ maxLen)
    (hT : ∀ j, j < T.length → w.cell? ⟨g, j * 3, none⟩ = some (.int .i64 (kd T j)) ∧ w.cell? ⟨g, j * 3 + 1, none⟩ = some (.int .i64 (plc T j)) ∧ w.cell? ⟨g, j * 3 + 2, none⟩ = some (.int .i64 (vlu T j))) :
    At (w.alloc (.cells #[.slice (some ⟨g, 0, none⟩) T.length cap, .int .i64 0, .int .i64 0, .int .i64 0, .int .i64 0] 148)) w.heap.size g cap T σ0 := by
  refine ⟨by rw [asize]; omega, by rw [asize]; omega, by omega, hc, hm, by simp, by simp [σ0], by simp [σ0], by simp [σ0], by simp [σ0], fun o => by simp, fun j hj => ?_⟩
  obtain ⟨a1, a2, a3⟩ := hT j hj
  exact ⟨(afar _ _ _ _ hg).trans a1, (afar _ _ _ _ hg).trans a2, (afar _ _ _ _ hg).trans a3⟩

theorem want_fin (s : ByteArray) : fin (tokAt 0 (rest s 0)) s.size σ0 st0 = want s := by
  unfold fin want; rw [if_pos (show σ0.e = 0 from rfl)]; rfl
theorem ok0 : Ok toks.length σ0 := ⟨Nat.zero_le _, fun h => absurd rfl h, fun _ => ⟨by decide, by decide⟩⟩
theorem results_cell3 {fn : Func} {tmps : Array Value} {w : World} {k i j : Nat} {t : TypeId} {a : Addr} {v x y : Value} (hf : fn.results = #[.cell k t, .tmp i, .tmp j]) (ht : tmps.getD k undef = .pointer (some a)) (hx : tmps.getD i undef = x) (hy : tmps.getD j undef = y) (hl : (loadVar t a).run Tryz.prog w = .ok v w) : (results fn tmps).run Tryz.prog w = .ok (.tuple #[v, x, y]) w := by
  have ht' : (tmps[k]?.getD undef) = .pointer (some a) := by simpa using ht
  have hx' : (tmps[i]?.getD undef) = x := by simpa using hx
  have hy' : (tmps[j]?.getD undef) = y := by simpa using hy
  simp [results, hf, ht', hx', hy', hl, asAddr]
theorem post3 {fn : Func} {R : Ending → World → Prop} {tmps : Array Value} {X : World} {B k i j n : Nat} {t : TypeId} {d : TypeDesc} {x y : Value} (cs : List Value) (hf : fn.results = #[.cell k t, .tmp i, .tmp j]) (ht : tmps.getD k undef = .pointer (some ⟨B, 0, none⟩)) (hx : tmps.getD i undef = x) (hy : tmps.getD j undef = y)
    (hu : Tryz.prog.underlying t = some d) (hd : d.isRow = true) (hi : (Tryz.prog.info? t).map (·.size) = some n) (hr : Row X B n) (hl : cs.length = n)
    (hR : R (.returned (.tuple #[.agg cs.toArray, x, y])) (X.setCells B 0 cs)) : bodyPost Tryz.prog fn R .ret ⟨tmps, []⟩ (X.setCells B 0 cs) :=
  bodyPost_ret (results_cell3 hf ht hx hy (run_loadVar_mid _ B 0 t cs d (World.rangeAt_setCells_same X B 0 cs (by rw [hl]; exact hr.there 0 n (by omega))) hu hd (by rw [hl]; exact hi))) rfl hR

theorem post3d {fn : Func} {R : Ending → World → Prop} {tmps : Array Value} {X : World} {B k i j n : Nat} {t : TypeId} {d : TypeDesc} {x y : Value} (cs : List Value) (hf : fn.results = #[.cell k t, .tmp i, .tmp j]) (ht : tmps.getD k undef = .pointer (some ⟨B, 0, none⟩)) (hx : tmps.getD i undef = x) (hy : tmps.getD j undef = y)
    (hu : Tryz.prog.underlying t = some d) (hd : d.isRow = true) (hi : (Tryz.prog.info? t).map (·.size) = some n) (hr : Row X B n) (hl : cs.length = n)
    (hR : R (.returned (.tuple #[.agg cs.toArray, x, y])) (X.setCells B 0 cs).drew) : bodyPost Tryz.prog fn R .ret ⟨tmps, []⟩ (X.setCells B 0 cs).drew :=
  bodyPost_ret (results_cell3 hf ht hx hy (run_loadVar_mid _ B 0 t cs d ((World.rangeAt_drew _ _ _ _).2 (World.rangeAt_setCells_same X B 0 cs (by rw [hl]; exact hr.there 0 n (by omega)))) hu hd (by rw [hl]; exact hi))) rfl hR

theorem zero15 : (([.int .i64 0, .slice none 0 0, .int .i64 0, .int .i64 0, .int .i64 0, .int .i64 0, .int .i64 0, .slice none 0 0, .int .i64 0, .slice none 0 0, .int .i64 0, .int .i64 0, .int .i64 0, .int .i64 0, .int .i64 0] : List Value).all (·.oneCell')) = true := rfl
theorem zero15a : (#[.int .i64 0, .slice none 0 0, .int .i64 0, .int .i64 0, .int .i64 0, .int .i64 0, .int .i64 0, .slice none 0 0, .int .i64 0, .slice none 0 0, .int .i64 0, .int .i64 0, .int .i64 0, .int .i64 0, .int .i64 0] : Array Value).all (·.oneCell') = true := all_oneCell_toArray (List.all_eq_true.1 zero15)
def W15 (w : World) : World := w.alloc (.cells #[.int .i64 0, .slice none 0 0, .int .i64 0, .int .i64 0, .int .i64 0, .int .i64 0, .int .i64 0, .slice none 0 0, .int .i64 0, .slice none 0 0, .int .i64 0, .int .i64 0, .int .i64 0, .int .i64 0, .int .i64 0] 101)
theorem row15 (w : World) : Row (w.alloc (.cells #[.int .i64 0, .slice none 0 0, .int .i64 0, .int .i64 0, .int .i64 0, .int .i64 0, .int .i64 0, .slice none 0 0, .int .i64 0, .slice none 0 0, .int .i64 0, .int .i64 0, .int .i64 0, .int .i64 0, .int .i64 0] 101)) w.heap.size 15 := Row.new w _ _ (List.all_eq_true.1 zero15)
theorem below_cells {a : World} {B : Nat} (hB : a.heap.size ≤ B) : ∀ (vs : List Value) (o : Nat) (w : World), Below a.heap.size a w → Below a.heap.size a (w.setCells B o vs)
  | [], _, _, h => h
  | v :: r, o, w, h => by
    rw [World.setCells]
    exact below_cells hB r (o + 1) _ (h.setCell (p := ⟨B, o, none⟩) hB v)
theorem Row.below {w w' : World} {B n : Nat} (h : Row w B n) (k : Below w.heap.size w w') (hB : B < w.heap.size) : Row w' B n := by
  obtain ⟨cs, a1, a2, a3, a4⟩ := h
  exact ⟨cs, fun j v hv => (k.cell (p := ⟨B, 0 + j, none⟩) hB).trans (a1 j v hv), a2, a3, fun o => (k.frozen (p := ⟨B, o, none⟩) hB).trans (a4 o)⟩

theorem Row.kpOld {b B n : Nat} {w w' : World} (h : Row w B n) (k : Kp b w w') (h1 : B ≠ b) (h2 : B < w.heap.size) : Row w' B n := by
  obtain ⟨cs, a1, a2, a3, a4⟩ := h
  exact ⟨cs, fun j v hv => (k.cell (p := ⟨B, 0 + j, none⟩) h2 h1).trans (a1 j v hv), a2, a3, fun o => (k.frozen (p := ⟨B, o, none⟩) h2 h1).trans (a4 o)⟩

theorem PrR.same {k : Nat} {P : Nat → Prop} {w w' : World} {v : Value} {σ' : PSt} (h : PrR toks k P w v σ') (hs : Same P w w') : PrR toks k P w' v σ' := by
  obtain ⟨p, c, q, y, k1, k2, k3, h1, h2, h3, h4, h5, h6, h7, ⟨g, n, m, ys, g1, g2, g3⟩, h9⟩ := h
  exact ⟨p, c, q, y, k1, k2, k3, h1, h2, h3, h4, h5, h6, h7.same hs, ⟨g, n, m, ys, g1, g2.same hs, g3.same hs⟩, h9.same hs⟩
theorem PrR.mono {k : Nat} {P P' : Nat → Prop} {w : World} {v : Value} {σ' : PSt} (h : PrR toks k P w v σ') (hs : ∀ g, P g → g < w.heap.size → P' g) : PrR toks k P' w v σ' := by
  obtain ⟨p, c, q, y, k1, k2, k3, h1, h2, h3, h4, h5, h6, h7, ⟨g, n, m, ys, g1, g2, g3⟩, h9⟩ := h
  exact ⟨p, c, q, y, k1, k2, k3, h1, h2, h3, h4, h5, h6, h7.mono hs, ⟨g, n, m, ys, g1, g2.mono hs, g3.mono hs⟩, h9.mono hs⟩
theorem range_eq {w : World} {B : Nat} {a b : List Value} (h : w.rangeAt B 0 a) (k : w.rangeAt B 0 b) (hl : a.length = b.length) : a = b := by
  have := cs_take h k (by omega)
  rw [← hl, List.drop_zero, List.take_of_length_le (Nat.le_refl _)] at this
  exact this
/-- What Parse ends with: the program's cells; and where it takes the text, what lies there. -/
def ParseEnd (toks : List (List UInt8 × Nat)) (w : World) (r : Int × Int) (e : Ending) (w' : World) : Prop := ∃ cs : Array Value, e = .returned (.tuple #[.agg cs, .int .i64 r.1, .int .i64 r.2]) ∧ cs.size = 15 ∧ cs.all (·.oneCell') = true ∧ Below w.heap.size w w' ∧ (r.1 = 0 → PrR toks 0 (fun g => w.heap.size ≤ g) w' (.agg cs) σ0)

set_option maxRecDepth 100000 in
set_option maxHeartbeats 1000000 in
theorem parse_any (s : ByteArray) (w : World) (hs : s.size ≤ 300) :
    Calls Tryz.prog 42 #[.string s] w (ParseEnd (tokAt 0 (rest s 0)) w (want s)) := by
  have hk : AllTok (tokAt 0 (rest s 0)) := fun t i h => toks_tokish _ _ _ _ _ h
  have hn : (tokAt 0 (rest s 0)).length ≤ 300 := by have := tokAt_len 0 (rest s 0); rw [rest_len] at this; omega
  have HW : Hid (fin (tokAt 0 (rest s 0)) s.size σ0 st0 = want s) := want_fin s
  have CS : Hid (∀ w, Calls Tryz.prog 69 #[.string s] w fun e w' => ∃ v, e = .returned v ∧ w'.ownsRow w.heap.size 216 3 v (T3 (tokAt 0 (rest s 0)) s.size).length (flat3 (T3 (tokAt 0 (rest s 0)) s.size)) ∧ Below w.heap.size w w') := fun w => by
    rw [← flat3_eq, T3_len]; exact scan_any s w hs
  generalize want s = R at *
  generalize tokAt 0 (rest s 0) = toks at *
  have HR0 : Hid (Row _ w.heap.size 15) := row15 w
  have hle : ¬ (300 : Int) < (s.size : Int) := by omega
  go_enter Tryz.func42, Tryz.ntmps42
  go_wp2_with fail
  refine (CS.out _).mono ?_
  rintro e w1 ⟨v1, rfl, hown, hb1⟩
  obtain ⟨g, cap, rfl, hg0, hg1, hg2, hg3, hg4⟩ := own_at (by rw [T3_len]; omega) hown
  have HA1 : Hid (At _ w1.heap.size g cap (T3 toks s.size) σ0) := at_new hg1 hg2 hg3 hg4
  have HB1 : Hid (Below w.heap.size w w1) := (below_alloc w _).trans (hb1.mono (by rw [asize]; omega))
  have HR1 : Hid (Row w1 w.heap.size 15) := HR0.out.below hb1 (by rw [asize]; omega)
  have hz1 : w.heap.size < w1.heap.size := by have := hb1.size; rw [asize] at this; omega
  clear hown hb1 hg0 hg1 hg2 hg3 hg4
  go_wp2_with fail
  refine (program_any hk hn w1.heap.size g cap _ σ0 HA1.out ok0).mono ?_
  rintro e w2 ⟨v2, σ2, rfl, ⟨cs, rfl, hcs1, hcs2⟩, hA2, hG2, hK2, hS2, hR2⟩
  have HPR : Hid (σ2.e = 0 → PrR toks 0 (fun g => w1.heap.size + 1 ≤ g) w2 (.agg cs) σ0) := by
    intro he
    have := hR2 he
    rw [asize] at this
    exact this
  clear hR2
  have HA2 : Hid (At w2 w1.heap.size g cap (T3 toks s.size) σ2) := hA2
  have HS2 : Hid (R = if σ2.e = 0 then (0, 0) else (σ2.e, σ2.pl)) := HW.out.symm.trans hS2
  have HB2 : Hid (Below w.heap.size w w2) := Kp.below (HB1.out.alloc (by omega) _) hK2 (by omega)
  have HR2 : Hid (Row w2 w.heap.size 15) := (HR1.out.alloc hz1 _).kpOld hK2 (by omega) (by rw [asize]; omega)
  have hz2 : w1.heap.size < w2.heap.size := by have := hK2.size; rw [asize] at this; omega
  have hgz : g < w2.heap.size := hA2.htb
  have hth0 := (row15 w2).there 0 cs.size (by omega)
  have hi0 : (Tryz.prog.info? 101).map (·.size) = some cs.size := by rw [hcs1]; exact Tryz.infoPrg
  have hcl : cs.toList.length = 15 := by simpa using hcs1
  have HAX : Hid (At ((w2.alloc (.cells #[.int .i64 0, .slice none 0 0, .int .i64 0, .int .i64 0, .int .i64 0, .int .i64 0, .int .i64 0, .slice none 0 0, .int .i64 0, .slice none 0 0, .int .i64 0, .int .i64 0, .int .i64 0, .int .i64 0, .int .i64 0] 101)).setCells w2.heap.size 0 cs.toList) w1.heap.size g cap (T3 toks s.size) σ2) := At.cells hz2 hgz _ _ _ (hA2.alloc _)
  have HBX : Hid (Below w.heap.size w ((w2.alloc (.cells #[.int .i64 0, .slice none 0 0, .int .i64 0, .int .i64 0, .int .i64 0, .int .i64 0, .int .i64 0, .slice none 0 0, .int .i64 0, .slice none 0 0, .int .i64 0, .int .i64 0, .int .i64 0, .int .i64 0, .int .i64 0] 101)).setCells w2.heap.size 0 cs.toList)) := below_cells (by omega) _ _ _ (HB2.out.alloc (by omega) _)
  have HRX : Hid (Row ((w2.alloc (.cells #[.int .i64 0, .slice none 0 0, .int .i64 0, .int .i64 0, .int .i64 0, .int .i64 0, .int .i64 0, .slice none 0 0, .int .i64 0, .slice none 0 0, .int .i64 0, .int .i64 0, .int .i64 0, .int .i64 0, .int .i64 0] 101)).setCells w2.heap.size 0 cs.toList) w.heap.size 15) := Row.far (by omega) _ _ _ (HR2.out.alloc (by omega) _)
  have HPX : Hid (Row ((w2.alloc (.cells #[.int .i64 0, .slice none 0 0, .int .i64 0, .int .i64 0, .int .i64 0, .int .i64 0, .int .i64 0, .slice none 0 0, .int .i64 0, .slice none 0 0, .int .i64 0, .int .i64 0, .int .i64 0, .int .i64 0, .int .i64 0] 101)).setCells w2.heap.size 0 cs.toList) w2.heap.size 15) := Row.cells _ _ _ (row15 w2) (by omega) (all_mem hcs2)
  clear hA2 hG2 hK2 hS2
  by_cases he : σ2.e = 0
  · have he' : (σ2.e != 0) = false := by simp [he]
    have HE : Hid (R = (0, 0)) := by show R = (0, 0); rw [HS2.out, if_pos he]
    have c3 := HAX.out.c3
    have c4 := HAX.out.c4
    have HPE : Hid (PrR toks 0 (fun g => w1.heap.size + 1 ≤ g) w2 (.agg cs) σ0) := HPR.out he
    clear he HPR
    generalize σ2.e = E at *
    obtain ⟨ds, hd1, hd2, hd3, _⟩ := HPX.out
    have hall : ds.toArray.all (·.oneCell') = true := all_oneCell_toArray hd3
    have hi1 : (Tryz.prog.info? 101).map (·.size) = some ds.length := by rw [hd2]; exact Tryz.infoPrg
    have hi2 : (Tryz.prog.info? 101).map (·.size) = some ds.toArray.size := by simpa using hi1
    have hth2 := HRX.out.there 0 ds.toArray.size (by simp; omega)
    have HD : Hid (ds.length = 15) := hd2
    have HDS : Hid (ds = cs.toList) := range_eq hd1 (World.rangeAt_setCells_same _ _ _ _ (by rw [hcl]; exact (row15 w2).there 0 15 (by omega))) (by rw [hd2, hcl])
    clear hd2 hcs1 hcl
    go_wp2_with (first | (refine wpList_store_mid rfl 101 (.tmp 6) (.tmp 14) rfl w2.heap.size 0 cs rfl rfl ?_ hi0 hcs2 ?_; (exact hth0)) | (refine wpList_load_mid rfl 101 (.tmp 6) rfl w2.heap.size 0 rfl ds _ ?_ Tryz.underlying101 rfl hi1 ?_; (exact hd1)) | (refine wpList_store_mid rfl 101 (.tmp 2) (.tmp 23) rfl w.heap.size 0 ds.toArray rfl rfl ?_ hi2 hall ?_; (exact hth2)))
    exact post3 ds Tryz.results42 rfl rfl rfl Tryz.underlying101 rfl Tryz.infoPrg HRX.out HD.out ⟨ds.toArray, by rw [HE.out]; rfl, by simpa using HD.out, hall, below_cells (Nat.le_refl _) _ _ _ HBX.out, fun _ => by
      have h1 := (HPE.out.mono (P' := fun g => w1.heap.size + 1 ≤ g ∧ g < w2.heap.size) (fun g h1 h2 => ⟨h1, h2⟩)).same (same_alloc _ w2 (.cells #[.int .i64 0, .slice none 0 0, .int .i64 0, .int .i64 0, .int .i64 0, .int .i64 0, .int .i64 0, .slice none 0 0, .int .i64 0, .slice none 0 0, .int .i64 0, .int .i64 0, .int .i64 0, .int .i64 0, .int .i64 0] 101))
      have h2 := (h1.same (same_sets _ w2.heap.size (fun h => by omega) cs.toList 0 _)).same (same_sets _ w.heap.size (fun h => by omega) ds 0 _)
      rw [HDS.out]
      rw [HDS.out] at h2
      exact h2.mono (fun g h _ => by omega)⟩
  · have he' : (σ2.e != 0) = true := by simpa using he
    have HE : Hid (R = (σ2.e, σ2.pl)) := by show R = _; rw [HS2.out, if_neg he]
    have c3 := HAX.out.c3
    have c4 := HAX.out.c4
    have HNE : Hid (¬ σ2.e = 0) := he
    clear he HPR
    generalize σ2.e = E at *
    generalize σ2.pl = L at *
    have hth2 := HRX.out.there 0 15 (by omega)
    clear hcs1 hcl
    go_wp2_with (first | (refine wpList_store_mid rfl 101 (.tmp 6) (.tmp 14) rfl w2.heap.size 0 cs rfl rfl ?_ hi0 hcs2 ?_; (exact hth0)))
    generalize ((w2.alloc (.cells #[.int .i64 0, .slice none 0 0, .int .i64 0, .int .i64 0, .int .i64 0, .int .i64 0, .int .i64 0, .slice none 0 0, .int .i64 0, .slice none 0 0, .int .i64 0, .int .i64 0, .int .i64 0, .int .i64 0, .int .i64 0] 101)).setCells w2.heap.size 0 cs.toList) = W at *
    clear hth0 hi0 hcs2 HPX HAX HA1 HA2 HS2 HB1 HB2 HR0 HR1 HR2 CS HW
    have hne1 : ¬ w.heap.size = w1.heap.size := by omega
    have hne2 : ¬ w1.heap.size = w.heap.size := by omega
    obtain ⟨⟨u0, z0⟩, f0⟩ := HRX.out.cell 0 (by omega)
    obtain ⟨⟨u1, z1⟩, f1⟩ := HRX.out.cell 1 (by omega)
    obtain ⟨⟨u2, z2⟩, f2⟩ := HRX.out.cell 2 (by omega)
    obtain ⟨⟨u3, z3⟩, f3⟩ := HRX.out.cell 3 (by omega)
    obtain ⟨⟨u4, z4⟩, f4⟩ := HRX.out.cell 4 (by omega)
    obtain ⟨⟨u5, z5⟩, f5⟩ := HRX.out.cell 5 (by omega)
    obtain ⟨⟨u6, z6⟩, f6⟩ := HRX.out.cell 6 (by omega)
    obtain ⟨⟨u7, z7⟩, f7⟩ := HRX.out.cell 7 (by omega)
    obtain ⟨⟨u8, z8⟩, f8⟩ := HRX.out.cell 8 (by omega)
    obtain ⟨⟨u9, z9⟩, f9⟩ := HRX.out.cell 9 (by omega)
    obtain ⟨⟨u10, z10⟩, f10⟩ := HRX.out.cell 10 (by omega)
    obtain ⟨⟨u11, z11⟩, f11⟩ := HRX.out.cell 11 (by omega)
    obtain ⟨⟨u12, z12⟩, f12⟩ := HRX.out.cell 12 (by omega)
    obtain ⟨⟨u13, z13⟩, f13⟩ := HRX.out.cell 13 (by omega)
    obtain ⟨⟨u14, z14⟩, f14⟩ := HRX.out.cell 14 (by omega)
    go_region
    go_wp2_with fail
    exact post3d (X := W) (B := w.heap.size) [.int .i64 0, .slice none 0 0, .int .i64 0, .int .i64 0, .int .i64 0, .int .i64 0, .int .i64 0, .slice none 0 0, .int .i64 0, .slice none 0 0, .int .i64 0, .int .i64 0, .int .i64 0, .int .i64 0, .int .i64 0] Tryz.results42 rfl rfl rfl Tryz.underlying101 rfl Tryz.infoPrg HRX.out rfl ⟨_, by rw [HE.out]; rfl, rfl, zero15a, (below_cells (Nat.le_refl _) _ _ _ HBX.out).drew, fun h0 => by rw [HE.out] at h0; exact absurd h0 HNE.out⟩

set_option maxRecDepth 100000 in
set_option maxHeartbeats 400000 in
theorem parse_long (s : ByteArray) (w : World) (hs : ¬ s.size ≤ 300) :
    Calls Tryz.prog 42 #[.string s] w (ParseEnd (tokAt 0 (rest s 0)) w (1, 0)) := by
  have hle : (300 : Int) < (s.size : Int) := by omega
  have HR0 : Hid (Row _ w.heap.size 15) := row15 w
  have hth := HR0.out.there 0 15 (by omega)
  go_enter Tryz.func42, Tryz.ntmps42
  go_wp2_with (refine wpList_store_mid rfl 101 (.tmp 2) (.tmp 10) rfl w.heap.size 0 #[.int .i64 0, .slice none 0 0, .int .i64 0, .int .i64 0, .int .i64 0, .int .i64 0, .int .i64 0, .slice none 0 0, .int .i64 0, .slice none 0 0, .int .i64 0, .int .i64 0, .int .i64 0, .int .i64 0, .int .i64 0] rfl rfl ?_ ?_ ?_ ?_; (exact hth); (exact Tryz.infoPrg); (exact zero15a))
  exact post3 [.int .i64 0, .slice none 0 0, .int .i64 0, .int .i64 0, .int .i64 0, .int .i64 0, .int .i64 0, .slice none 0 0, .int .i64 0, .slice none 0 0, .int .i64 0, .int .i64 0, .int .i64 0, .int .i64 0, .int .i64 0] Tryz.results42 rfl rfl rfl Tryz.underlying101 rfl Tryz.infoPrg HR0.out rfl ⟨_, rfl, rfl, zero15a, below_cells (Nat.le_refl _) _ _ _ (below_alloc w _), fun h0 => by cases h0⟩

/-- What the document answers of any text. -/
def answer (s : ByteArray) : Int × Int := if s.size ≤ 300 then want s else (1, 0)
theorem parse_c (s : ByteArray) (w : World) : Calls Tryz.prog 42 #[.string s] w (ParseEnd (tokAt 0 (rest s 0)) w (answer s)) := by
  unfold answer
  by_cases h : s.size ≤ 300
  · rw [if_pos h]; exact parse_any s w h
  · rw [if_neg h]; exact parse_long s w h

end Go.Proofs.YtkinoehmcfhgbaaGreatDoor.Av
set_option linter.unusedVariables false
set_option linter.unusedSimpArgs false
namespace Go.Proofs.YtkinoehmcfhgbaaGreatDoor.Vl
open Go.RowKit
open Go.Proofs.YtkinoehmcfhgbaaGreatDoor.Av (vr Fm Rd Tg sAt Cm Rc set_other Tk2 tokAt answer Row Row.new trm trm_range vr_range)

def strV (l : List UInt8) : Value := .string ⟨l.toArray⟩
theorem str_app (a b : List UInt8) : (⟨a.toArray⟩ : ByteArray) ++ ⟨b.toArray⟩ = ⟨(a ++ b).toArray⟩ := by
  rw [ByteArray.ext_iff, ByteArray.data_append]; simp
theorem mk_other (w : World) (b o p : Nat) (u : Value) (h : p ≠ o) : (w.setCell ⟨b, p, none⟩ u).cell? ⟨b, o, none⟩ = w.cell? ⟨b, o, none⟩ := Av.set_other _ _ _ _ _ h
/-- A text of which it is asked whether it is too long. -/
def tol (l : List UInt8) : Bool := decide (4000 < l.length)
theorem tol_fit (l : List UInt8) (ys : List Sym) (h : l = sbs ys) : tol l = !(decide (bl ys ≤ 4000)) := by
  rw [h]
  unfold tol bl
  by_cases h : (sbs ys).length ≤ 4000
  · rw [decide_eq_true h, decide_eq_false (by omega)]; rfl
  · rw [decide_eq_false h, decide_eq_true (by omega)]; rfl
/-- A text that is short enough to be put together with others. -/
def Sh (a : ByteArray) : Prop := a.size ≤ 100000000
theorem run_catO {P : Program} (w : World) (a b : ByteArray) (ha : Sh a) (hb : Sh b) : (Op.stringOp .add a b).run P w = .ok (.string (a ++ b)) w :=
  run_string_add_sum w a b (by unfold Sh at ha hb; omega)
theorem sh_l {l : List UInt8} (h : l.length ≤ 100000000) : Sh ⟨l.toArray⟩ := by simpa [Sh, ByteArray.size] using h
theorem sh_app {a b : ByteArray} (h : a.size + b.size ≤ 100000000) : Sh (a ++ b) := by unfold Sh; rw [ByteArray.size_append']; exact h
/-- A program in tokens: what is to hold ahead, the commands, what is to hold behind. -/
def Prg (toks : List (List UInt8 × Nat)) (p : Fm) (c : Cm) (q : Fm) : Prop := ∃ k1 k2 k3, Rd toks .form 1 p k1 ∧ Rc toks true (k1 + 1) c k2 ∧ Rd toks .form (k2 + 1) q k3 ∧ k3 ≤ toks.length
theorem answer_long {s : ByteArray} (h : (answer s).1 = 0) : s.size ≤ 300 := by
  unfold answer at h
  by_cases hs : s.size ≤ 300
  · exact hs
  · rw [if_neg hs] at h; cases h
/-- What Holds answers. -/
def hAns (s : ByteArray) (behind : Bool) (x1 x2 x3 x4 : Int) (p q : Fm) : Bool × Int × Int :=
  if (answer s).1 ≠ 0 then (false, (answer s).1, (answer s).2) else if gds x1 x2 x3 x4 = false then (false, 4, 0) else (ev x1 x2 x3 x4 (if behind then q else p), 0, 0)
/-- What is answered of a run. -/
def oV (s : RS) : List Value := [.int .i64 (kn s), .int .i64 s.x1, .int .i64 s.x2, .int .i64 s.x3, .int .i64 s.x4, .int .i64 s.n]
def r0 : RS := { x1 := 0, x2 := 0, x3 := 0, x4 := 0, n := 0, e := -1 }
theorem oV_r0 : oV r0 = [.int .i64 0, .int .i64 0, .int .i64 0, .int .i64 0, .int .i64 0, .int .i64 0] := rfl
/-- What Run answers. -/
def dAns (s : ByteArray) (x1 x2 x3 x4 fuel : Int) (c : Cm) : RS × Int × Int :=
  if (answer s).1 ≠ 0 then (r0, (answer s).1, (answer s).2) else if gds x1 x2 x3 x4 = false then (r0, 4, 0) else if fuel < 0 ∨ 10000 < fuel then (r0, 5, 0) else (ex fuel c { x1 := x1, x2 := x2, x3 := x3, x4 := x4, n := 0, e := -1 }, 0, 0)
theorem Tryz.infoOut : (Tryz.prog.info? 41).map (·.size) = some 6 := by kernel_rfl
theorem zero6 : (([.int .i64 0, .int .i64 0, .int .i64 0, .int .i64 0, .int .i64 0, .int .i64 0] : List Value).all (·.oneCell')) = true := rfl
theorem zero6a : (#[.int .i64 0, .int .i64 0, .int .i64 0, .int .i64 0, .int .i64 0, .int .i64 0] : Array Value).all (·.oneCell') = true := all_oneCell_toArray (List.all_eq_true.1 zero6)
theorem row6 (w : World) : Row (w.alloc (.cells #[.int .i64 0, .int .i64 0, .int .i64 0, .int .i64 0, .int .i64 0, .int .i64 0] 41)) w.heap.size 6 := Row.new w _ _ (List.all_eq_true.1 zero6)
theorem two_newO (w : World) (u v : Obj) : Below w.heap.size w ((w.alloc u).alloc v) := (below_alloc w _).alloc (by simp) _
theorem st_cells {w w2 : World} {x1 x2 x3 x4 : Int} {o : Obj} {t : TypeId} (hb : Below ((w.alloc (.cells #[.int .i64 x1, .int .i64 x2, .int .i64 x3, .int .i64 x4] t)).alloc o).heap.size ((w.alloc (.cells #[.int .i64 x1, .int .i64 x2, .int .i64 x3, .int .i64 x4] t)).alloc o) w2) :
    w2.cell? ⟨w.heap.size, 0, none⟩ = some (.int .i64 x1) ∧ w2.cell? ⟨w.heap.size, 1, none⟩ = some (.int .i64 x2) ∧ w2.cell? ⟨w.heap.size, 2, none⟩ = some (.int .i64 x3) ∧ w2.cell? ⟨w.heap.size, 3, none⟩ = some (.int .i64 x4) :=
  ⟨(hb.cell (p := ⟨w.heap.size, 0, none⟩) (by simp; omega)).trans (by simp), (hb.cell (p := ⟨w.heap.size, 1, none⟩) (by simp; omega)).trans (by simp), (hb.cell (p := ⟨w.heap.size, 2, none⟩) (by simp; omega)).trans (by simp), (hb.cell (p := ⟨w.heap.size, 3, none⟩) (by simp; omega)).trans (by simp)⟩
/-- The first condition. -/
def one (p : Fm) (c : Cm) (q : Fm) : List Sym := (5, 0, 0, 0) :: (fsy p ++ wpc c (fsy q))
/-- What Conditions answers. -/
def cAns (s : ByteArray) (p : Fm) (c : Cm) (q : Fm) : List (List UInt8) × Int × Int :=
  if (answer s).1 ≠ 0 then ([], (answer s).1, (answer s).2) else if fit c (fsy q) = true ∧ bl (one p c q) ≤ 4000 then (sbs (one p c q) :: (cls c (fsy q)).map sbs, 0, 0) else ([], 6, 0)
theorem Tryz.infoStr : (Tryz.prog.info? 9).map (fun i => (i.zero, i.size, i.bytes)) = some (some (.string ⟨#[]⟩), 1, 16) := by kernel_rfl
theorem own_base {w : World} {b b' : Nat} {e : TypeId} {size : Nat} {v : Value} {n : Nat} {xs : List Value} (h : w.ownsRow b e size v n xs) (hb : b' ≤ b) : w.ownsRow b' e size v n xs := by
  obtain ⟨h1, h2⟩ := h
  refine ⟨h1, ?_⟩
  rcases h2 with h2 | ⟨g, cap, cur, hv, hg, r⟩
  · exact Or.inl h2
  · exact Or.inr ⟨g, cap, cur, hv, Nat.le_trans hb hg, r⟩

end Go.Proofs.YtkinoehmcfhgbaaGreatDoor.Vl
