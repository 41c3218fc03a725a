/-
  The walk of Parse: what it answers, and what lies in memory behind it.
  The walk of the document's Holds.
  The walk of the document's Do.
-/
import Derived.Test.YtmpbgbdhpahpjaaQ7
import Derived.Test.YtmpbgbdhpahpjaaRead
import Derived.Test.YtmpbgbdhpahpjaaW6
set_option linter.unusedVariables false
set_option linter.unusedSimpArgs false
namespace Go.Proofs.Ytmpbgbdhpahpjaa.Av
open Go.RowKit

variable {toks : List (List UInt8 × Nat)} {len : Nat}

def flat3 (l : List (Int × Int × Int)) : List Value := l.flatMap fun x => [.int .i64 x.1, .int .i64 x.2.1, .int .i64 x.2.2]
theorem flat3_eq (toks : List (List UInt8 × Nat)) (len : Nat) : cells3 toks ++ [.int .i64 0, .int .i64 (len : Int), .int .i64 0] = flat3 (T3 toks len) := by
  unfold T3 flat3 cells3
  rw [List.flatMap_append, List.flatMap_map]; rfl
theorem flat3_get (l : List (Int × Int × Int)) : ∀ (j : Nat), j < l.length → (flat3 l)[j * 3]? = some (.int .i64 (kd l j)) ∧ (flat3 l)[j * 3 + 1]? = some (.int .i64 (plc l j)) ∧ (flat3 l)[j * 3 + 2]? = some (.int .i64 (vlu l j)) := by
  induction l with
  | nil => intro j h; simp at h
  | cons a r ih =>
    intro j h
    cases j with
    | zero => simp [flat3, kd, plc, vlu]
    | succ j =>
      simp only [List.length_cons] at h
      have := ih j (by omega)
      have e1 : (j + 1) * 3 = j * 3 + 1 + 1 + 1 := by omega
      rw [e1]
      simpa [flat3, kd, plc, vlu] using this
theorem own_at {w : World} {base : Nat} {v : Value} {T : List (Int × Int × Int)} (h0 : 0 < T.length) (h : w.ownsRow base 97 3 v T.length (flat3 T)) :
    ∃ g cap, v = .slice (some ⟨g, 0, none⟩) T.length cap ∧ base ≤ g ∧ g < w.heap.size ∧ T.length ≤ cap ∧ cap ≤ maxLen ∧ ∀ j, j < T.length → w.cell? ⟨g, j * 3, none⟩ = some (.int .i64 (kd T j)) ∧ w.cell? ⟨g, j * 3 + 1, none⟩ = some (.int .i64 (plc T j)) ∧ w.cell? ⟨g, j * 3 + 2, none⟩ = some (.int .i64 (vlu T j)) := by
  rcases h.2 with ⟨_, h2⟩ | ⟨g, cap, cur, hv, hg, hh, h3, h4, h5, h6⟩
  · omega
  · have hlt : g < w.heap.size := by
      rcases Nat.lt_or_ge g w.heap.size with h | h
      · exact h
      · rw [Array.getElem?_eq_none h] at hh; cases hh
    refine ⟨g, cap, hv, hg, hlt, h3, h4, fun j hj => ?_⟩
    have key : ∀ (o : Nat) (u : Value), o < T.length * 3 → (flat3 T)[o]? = some u → w.cell? ⟨g, o, none⟩ = some u := by
      intro o u ho hu
      have : (cur.toList.take (T.length * 3))[o]? = some u := by rw [h6]; exact hu
      rw [List.getElem?_take, if_pos ho] at this
      simp [World.cell?, hh]
      simpa using this
    obtain ⟨a1, a2, a3⟩ := flat3_get T j hj
    exact ⟨key _ _ (by omega) a1, key _ _ (by omega) a2, key _ _ (by omega) a3⟩

def σ0 : PSt := { pos := 0, d := 0, e := 0, pl := 0 }
theorem at_new {w : World} {g cap : Nat} {T : List (Int × Int × Int)} (hg : g < w.heap.size) (hc : T.length ≤ cap) (hm : cap ≤ maxLen)
    (hT : ∀ j, j < T.length → w.cell? ⟨g, j * 3, none⟩ = some (.int .i64 (kd T j)) ∧ w.cell? ⟨g, j * 3 + 1, none⟩ = some (.int .i64 (plc T j)) ∧ w.cell? ⟨g, j * 3 + 2, none⟩ = some (.int .i64 (vlu T j))) :
    At (w.alloc (.cells #[.slice (some ⟨g, 0, none⟩) T.length cap, .int .i64 0, .int .i64 0, .int .i64 0, .int .i64 0] 74)) w.heap.size g cap T σ0 := by
  refine ⟨by rw [asize]; omega, by rw [asize]; omega, by omega, hc, hm, by simp, by simp [σ0], by simp [σ0], by simp [σ0], by simp [σ0], fun o => by simp, fun j hj => ?_⟩
  obtain ⟨a1, a2, a3⟩ := hT j hj
  exact ⟨(afar _ _ _ _ hg).trans a1, (afar _ _ _ _ hg).trans a2, (afar _ _ _ _ hg).trans a3⟩

theorem want_fin (s : ByteArray) : fin (tokAt 0 (rest s 0)) s.size σ0 st0 = want s := by
  unfold fin want; rw [if_pos (show σ0.e = 0 from rfl)]; rfl
theorem ok0 : Ok toks.length σ0 := ⟨Nat.zero_le _, fun h => absurd rfl h, fun _ => ⟨by decide, by decide⟩⟩
theorem results_cell3 {fn : Func} {tmps : Array Value} {w : World} {k i j : Nat} {t : TypeId} {a : Addr} {v x y : Value} (hf : fn.results = #[.cell k t, .tmp i, .tmp j]) (ht : tmps.getD k undef = .pointer (some a)) (hx : tmps.getD i undef = x) (hy : tmps.getD j undef = y) (hl : (loadVar t a).run Try.prog w = .ok v w) : (results fn tmps).run Try.prog w = .ok (.tuple #[v, x, y]) w := by
  have ht' : (tmps[k]?.getD undef) = .pointer (some a) := by simpa using ht
  have hx' : (tmps[i]?.getD undef) = x := by simpa using hx
  have hy' : (tmps[j]?.getD undef) = y := by simpa using hy
  simp [results, hf, ht', hx', hy', hl, asAddr]
theorem post3 {fn : Func} {R : Ending → World → Prop} {tmps : Array Value} {X : World} {B k i j n : Nat} {t : TypeId} {d : TypeDesc} {x y : Value} (cs : List Value) (hf : fn.results = #[.cell k t, .tmp i, .tmp j]) (ht : tmps.getD k undef = .pointer (some ⟨B, 0, none⟩)) (hx : tmps.getD i undef = x) (hy : tmps.getD j undef = y)
    (hu : Try.prog.underlying t = some d) (hd : d.isRow = true) (hi : (Try.prog.info? t).map (·.size) = some n) (hr : Row X B n) (hl : cs.length = n)
    (hR : R (.returned (.tuple #[.agg cs.toArray, x, y])) (X.setCells B 0 cs)) : bodyPost Try.prog fn R .ret ⟨tmps, []⟩ (X.setCells B 0 cs) :=
  bodyPost_ret (results_cell3 hf ht hx hy (run_loadVar_mid _ B 0 t cs d (World.rangeAt_setCells_same X B 0 cs (by rw [hl]; exact hr.there 0 n (by omega))) hu hd (by rw [hl]; exact hi))) rfl hR

theorem post3d {fn : Func} {R : Ending → World → Prop} {tmps : Array Value} {X : World} {B k i j n : Nat} {t : TypeId} {d : TypeDesc} {x y : Value} (cs : List Value) (hf : fn.results = #[.cell k t, .tmp i, .tmp j]) (ht : tmps.getD k undef = .pointer (some ⟨B, 0, none⟩)) (hx : tmps.getD i undef = x) (hy : tmps.getD j undef = y)
    (hu : Try.prog.underlying t = some d) (hd : d.isRow = true) (hi : (Try.prog.info? t).map (·.size) = some n) (hr : Row X B n) (hl : cs.length = n)
    (hR : R (.returned (.tuple #[.agg cs.toArray, x, y])) (X.setCells B 0 cs).drew) : bodyPost Try.prog fn R .ret ⟨tmps, []⟩ (X.setCells B 0 cs).drew :=
  bodyPost_ret (results_cell3 hf ht hx hy (run_loadVar_mid _ B 0 t cs d ((World.rangeAt_drew _ _ _ _).2 (World.rangeAt_setCells_same X B 0 cs (by rw [hl]; exact hr.there 0 n (by omega)))) hu hd (by rw [hl]; exact hi))) rfl hR

theorem zero15 : (([.int .i64 0, .slice none 0 0, .int .i64 0, .int .i64 0, .int .i64 0, .int .i64 0, .int .i64 0, .slice none 0 0, .int .i64 0, .slice none 0 0, .int .i64 0, .int .i64 0, .int .i64 0, .int .i64 0, .int .i64 0] : List Value).all (·.oneCell')) = true := rfl
theorem zero15a : (#[.int .i64 0, .slice none 0 0, .int .i64 0, .int .i64 0, .int .i64 0, .int .i64 0, .int .i64 0, .slice none 0 0, .int .i64 0, .slice none 0 0, .int .i64 0, .int .i64 0, .int .i64 0, .int .i64 0, .int .i64 0] : Array Value).all (·.oneCell') = true := all_oneCell_toArray (List.all_eq_true.1 zero15)
def W15 (w : World) : World := w.alloc (.cells #[.int .i64 0, .slice none 0 0, .int .i64 0, .int .i64 0, .int .i64 0, .int .i64 0, .int .i64 0, .slice none 0 0, .int .i64 0, .slice none 0 0, .int .i64 0, .int .i64 0, .int .i64 0, .int .i64 0, .int .i64 0] 50)
theorem row15 (w : World) : Row (w.alloc (.cells #[.int .i64 0, .slice none 0 0, .int .i64 0, .int .i64 0, .int .i64 0, .int .i64 0, .int .i64 0, .slice none 0 0, .int .i64 0, .slice none 0 0, .int .i64 0, .int .i64 0, .int .i64 0, .int .i64 0, .int .i64 0] 50)) w.heap.size 15 := Row.new w _ _ (List.all_eq_true.1 zero15)
theorem below_cells {a : World} {B : Nat} (hB : a.heap.size ≤ B) : ∀ (vs : List Value) (o : Nat) (w : World), Below a.heap.size a w → Below a.heap.size a (w.setCells B o vs)
  | [], _, _, h => h
  | v :: r, o, w, h => by
    rw [World.setCells]
    exact below_cells hB r (o + 1) _ (h.setCell (p := ⟨B, o, none⟩) hB v)
theorem Row.below {w w' : World} {B n : Nat} (h : Row w B n) (k : Below w.heap.size w w') (hB : B < w.heap.size) : Row w' B n := by
  obtain ⟨cs, a1, a2, a3, a4⟩ := h
  exact ⟨cs, fun j v hv => (k.cell (p := ⟨B, 0 + j, none⟩) hB).trans (a1 j v hv), a2, a3, fun o => (k.frozen (p := ⟨B, o, none⟩) hB).trans (a4 o)⟩

theorem Row.kpOld {b B n : Nat} {w w' : World} (h : Row w B n) (k : Kp b w w') (h1 : B ≠ b) (h2 : B < w.heap.size) : Row w' B n := by
  obtain ⟨cs, a1, a2, a3, a4⟩ := h
  exact ⟨cs, fun j v hv => (k.cell (p := ⟨B, 0 + j, none⟩) h2 h1).trans (a1 j v hv), a2, a3, fun o => (k.frozen (p := ⟨B, o, none⟩) h2 h1).trans (a4 o)⟩

theorem PrR.same {k : Nat} {P : Nat → Prop} {w w' : World} {v : Value} {σ' : PSt} (h : PrR toks k P w v σ') (hs : Same P w w') : PrR toks k P w' v σ' := by
  obtain ⟨p, c, q, y, k1, k2, k3, h1, h2, h3, h4, h5, h6, h7, ⟨g, n, m, ys, g1, g2, g3⟩, h9⟩ := h
  exact ⟨p, c, q, y, k1, k2, k3, h1, h2, h3, h4, h5, h6, h7.same hs, ⟨g, n, m, ys, g1, g2.same hs, g3.same hs⟩, h9.same hs⟩
theorem PrR.mono {k : Nat} {P P' : Nat → Prop} {w : World} {v : Value} {σ' : PSt} (h : PrR toks k P w v σ') (hs : ∀ g, P g → g < w.heap.size → P' g) : PrR toks k P' w v σ' := by
  obtain ⟨p, c, q, y, k1, k2, k3, h1, h2, h3, h4, h5, h6, h7, ⟨g, n, m, ys, g1, g2, g3⟩, h9⟩ := h
  exact ⟨p, c, q, y, k1, k2, k3, h1, h2, h3, h4, h5, h6, h7.mono hs, ⟨g, n, m, ys, g1, g2.mono hs, g3.mono hs⟩, h9.mono hs⟩
theorem range_eq {w : World} {B : Nat} {a b : List Value} (h : w.rangeAt B 0 a) (k : w.rangeAt B 0 b) (hl : a.length = b.length) : a = b := by
  have := cs_take h k (by omega)
  rw [← hl, List.drop_zero, List.take_of_length_le (Nat.le_refl _)] at this
  exact this
/-- What Parse ends with: the program's cells; and where it takes the text, what lies there. -/
def ParseEnd (toks : List (List UInt8 × Nat)) (w : World) (r : Int × Int) (e : Ending) (w' : World) : Prop := ∃ cs : Array Value, e = .returned (.tuple #[.agg cs, .int .i64 r.1, .int .i64 r.2]) ∧ cs.size = 15 ∧ cs.all (·.oneCell') = true ∧ Below w.heap.size w w' ∧ (r.1 = 0 → PrR toks 0 (fun g => w.heap.size ≤ g) w' (.agg cs) σ0)

set_option maxRecDepth 100000 in
set_option maxHeartbeats 1000000 in
theorem parse_any (s : ByteArray) (w : World) (hs : s.size ≤ 300) :
    Calls Try.prog 12 #[.string s] w (ParseEnd (tokAt 0 (rest s 0)) w (want s)) := by
  have hk : AllTok (tokAt 0 (rest s 0)) := fun t i h => toks_tokish _ _ _ _ _ h
  have hn : (tokAt 0 (rest s 0)).length ≤ 300 := by have := tokAt_len 0 (rest s 0); rw [rest_len] at this; omega
  have HW : Hid (fin (tokAt 0 (rest s 0)) s.size σ0 st0 = want s) := want_fin s
  have CS : Hid (∀ w, Calls Try.prog 22 #[.string s] w fun e w' => ∃ v, e = .returned v ∧ w'.ownsRow w.heap.size 97 3 v (T3 (tokAt 0 (rest s 0)) s.size).length (flat3 (T3 (tokAt 0 (rest s 0)) s.size)) ∧ Below w.heap.size w w') := fun w => by
    rw [← flat3_eq, T3_len]; exact scan_any s w hs
  generalize want s = R at *
  generalize tokAt 0 (rest s 0) = toks at *
  have HR0 : Hid (Row _ w.heap.size 15) := row15 w
  have hle : ¬ (300 : Int) < (s.size : Int) := by omega
  go_enter Try.func12, Try.ntmps12
  go_wp2_with fail
  refine (CS.out _).mono ?_
  rintro e w1 ⟨v1, rfl, hown, hb1⟩
  obtain ⟨g, cap, rfl, hg0, hg1, hg2, hg3, hg4⟩ := own_at (by rw [T3_len]; omega) hown
  have HA1 : Hid (At _ w1.heap.size g cap (T3 toks s.size) σ0) := at_new hg1 hg2 hg3 hg4
  have HB1 : Hid (Below w.heap.size w w1) := (below_alloc w _).trans (hb1.mono (by rw [asize]; omega))
  have HR1 : Hid (Row w1 w.heap.size 15) := HR0.out.below hb1 (by rw [asize]; omega)
  have hz1 : w.heap.size < w1.heap.size := by have := hb1.size; rw [asize] at this; omega
  clear hown hb1 hg0 hg1 hg2 hg3 hg4
  go_wp2_with fail
  refine (program_any hk hn w1.heap.size g cap _ σ0 HA1.out ok0).mono ?_
  rintro e w2 ⟨v2, σ2, rfl, ⟨cs, rfl, hcs1, hcs2⟩, hA2, hG2, hK2, hS2, hR2⟩
  have HPR : Hid (σ2.e = 0 → PrR toks 0 (fun g => w1.heap.size + 1 ≤ g) w2 (.agg cs) σ0) := by
    intro he
    have := hR2 he
    rw [asize] at this
    exact this
  clear hR2
  have HA2 : Hid (At w2 w1.heap.size g cap (T3 toks s.size) σ2) := hA2
  have HS2 : Hid (R = if σ2.e = 0 then (0, 0) else (σ2.e, σ2.pl)) := HW.out.symm.trans hS2
  have HB2 : Hid (Below w.heap.size w w2) := Kp.below (HB1.out.alloc (by omega) _) hK2 (by omega)
  have HR2 : Hid (Row w2 w.heap.size 15) := (HR1.out.alloc hz1 _).kpOld hK2 (by omega) (by rw [asize]; omega)
  have hz2 : w1.heap.size < w2.heap.size := by have := hK2.size; rw [asize] at this; omega
  have hgz : g < w2.heap.size := hA2.htb
  have hth0 := (row15 w2).there 0 cs.size (by omega)
  have hi0 : (Try.prog.info? 50).map (·.size) = some cs.size := by rw [hcs1]; exact Try.infoPrg
  have hcl : cs.toList.length = 15 := by simpa using hcs1
  have HAX : Hid (At ((w2.alloc (.cells #[.int .i64 0, .slice none 0 0, .int .i64 0, .int .i64 0, .int .i64 0, .int .i64 0, .int .i64 0, .slice none 0 0, .int .i64 0, .slice none 0 0, .int .i64 0, .int .i64 0, .int .i64 0, .int .i64 0, .int .i64 0] 50)).setCells w2.heap.size 0 cs.toList) w1.heap.size g cap (T3 toks s.size) σ2) := At.cells hz2 hgz _ _ _ (hA2.alloc _)
  have HBX : Hid (Below w.heap.size w ((w2.alloc (.cells #[.int .i64 0, .slice none 0 0, .int .i64 0, .int .i64 0, .int .i64 0, .int .i64 0, .int .i64 0, .slice none 0 0, .int .i64 0, .slice none 0 0, .int .i64 0, .int .i64 0, .int .i64 0, .int .i64 0, .int .i64 0] 50)).setCells w2.heap.size 0 cs.toList)) := below_cells (by omega) _ _ _ (HB2.out.alloc (by omega) _)
  have HRX : Hid (Row ((w2.alloc (.cells #[.int .i64 0, .slice none 0 0, .int .i64 0, .int .i64 0, .int .i64 0, .int .i64 0, .int .i64 0, .slice none 0 0, .int .i64 0, .slice none 0 0, .int .i64 0, .int .i64 0, .int .i64 0, .int .i64 0, .int .i64 0] 50)).setCells w2.heap.size 0 cs.toList) w.heap.size 15) := Row.far (by omega) _ _ _ (HR2.out.alloc (by omega) _)
  have HPX : Hid (Row ((w2.alloc (.cells #[.int .i64 0, .slice none 0 0, .int .i64 0, .int .i64 0, .int .i64 0, .int .i64 0, .int .i64 0, .slice none 0 0, .int .i64 0, .slice none 0 0, .int .i64 0, .int .i64 0, .int .i64 0, .int .i64 0, .int .i64 0] 50)).setCells w2.heap.size 0 cs.toList) w2.heap.size 15) := Row.cells _ _ _ (row15 w2) (by omega) (all_mem hcs2)
  clear hA2 hG2 hK2 hS2
  by_cases he : σ2.e = 0
  · have he' : (σ2.e != 0) = false := by simp [he]
    have HE : Hid (R = (0, 0)) := by show R = (0, 0); rw [HS2.out, if_pos he]
    have c3 := HAX.out.c3
    have c4 := HAX.out.c4
    have HPE : Hid (PrR toks 0 (fun g => w1.heap.size + 1 ≤ g) w2 (.agg cs) σ0) := HPR.out he
    clear he HPR
    generalize σ2.e = E at *
    obtain ⟨ds, hd1, hd2, hd3, _⟩ := HPX.out
    have hall : ds.toArray.all (·.oneCell') = true := all_oneCell_toArray hd3
    have hi1 : (Try.prog.info? 50).map (·.size) = some ds.length := by rw [hd2]; exact Try.infoPrg
    have hi2 : (Try.prog.info? 50).map (·.size) = some ds.toArray.size := by simpa using hi1
    have hth2 := HRX.out.there 0 ds.toArray.size (by simp; omega)
    have HD : Hid (ds.length = 15) := hd2
    have HDS : Hid (ds = cs.toList) := range_eq hd1 (World.rangeAt_setCells_same _ _ _ _ (by rw [hcl]; exact (row15 w2).there 0 15 (by omega))) (by rw [hd2, hcl])
    clear hd2 hcs1 hcl
    go_wp2_with (first | (refine wpList_store_mid rfl 50 (.tmp 6) (.tmp 14) rfl w2.heap.size 0 cs rfl rfl ?_ hi0 hcs2 ?_; (exact hth0)) | (refine wpList_load_mid rfl 50 (.tmp 6) rfl w2.heap.size 0 rfl ds _ ?_ Try.underlying50 rfl hi1 ?_; (exact hd1)) | (refine wpList_store_mid rfl 50 (.tmp 2) (.tmp 23) rfl w.heap.size 0 ds.toArray rfl rfl ?_ hi2 hall ?_; (exact hth2)))
    exact post3 ds Try.results12 rfl rfl rfl Try.underlying50 rfl Try.infoPrg HRX.out HD.out ⟨ds.toArray, by rw [HE.out]; rfl, by simpa using HD.out, hall, below_cells (Nat.le_refl _) _ _ _ HBX.out, fun _ => by
      have h1 := (HPE.out.mono (P' := fun g => w1.heap.size + 1 ≤ g ∧ g < w2.heap.size) (fun g h1 h2 => ⟨h1, h2⟩)).same (same_alloc _ w2 (.cells #[.int .i64 0, .slice none 0 0, .int .i64 0, .int .i64 0, .int .i64 0, .int .i64 0, .int .i64 0, .slice none 0 0, .int .i64 0, .slice none 0 0, .int .i64 0, .int .i64 0, .int .i64 0, .int .i64 0, .int .i64 0] 50))
      have h2 := (h1.same (same_sets _ w2.heap.size (fun h => by omega) cs.toList 0 _)).same (same_sets _ w.heap.size (fun h => by omega) ds 0 _)
      rw [HDS.out]
      rw [HDS.out] at h2
      exact h2.mono (fun g h _ => by omega)⟩
  · have he' : (σ2.e != 0) = true := by simpa using he
    have HE : Hid (R = (σ2.e, σ2.pl)) := by show R = _; rw [HS2.out, if_neg he]
    have c3 := HAX.out.c3
    have c4 := HAX.out.c4
    have HNE : Hid (¬ σ2.e = 0) := he
    clear he HPR
    generalize σ2.e = E at *
    generalize σ2.pl = L at *
    have hth2 := HRX.out.there 0 15 (by omega)
    clear hcs1 hcl
    go_wp2_with (first | (refine wpList_store_mid rfl 50 (.tmp 6) (.tmp 14) rfl w2.heap.size 0 cs rfl rfl ?_ hi0 hcs2 ?_; (exact hth0)))
    generalize ((w2.alloc (.cells #[.int .i64 0, .slice none 0 0, .int .i64 0, .int .i64 0, .int .i64 0, .int .i64 0, .int .i64 0, .slice none 0 0, .int .i64 0, .slice none 0 0, .int .i64 0, .int .i64 0, .int .i64 0, .int .i64 0, .int .i64 0] 50)).setCells w2.heap.size 0 cs.toList) = W at *
    clear hth0 hi0 hcs2 HPX HAX HA1 HA2 HS2 HB1 HB2 HR0 HR1 HR2 CS HW
    have hne1 : ¬ w.heap.size = w1.heap.size := by omega
    have hne2 : ¬ w1.heap.size = w.heap.size := by omega
    obtain ⟨⟨u0, z0⟩, f0⟩ := HRX.out.cell 0 (by omega)
    obtain ⟨⟨u1, z1⟩, f1⟩ := HRX.out.cell 1 (by omega)
    obtain ⟨⟨u2, z2⟩, f2⟩ := HRX.out.cell 2 (by omega)
    obtain ⟨⟨u3, z3⟩, f3⟩ := HRX.out.cell 3 (by omega)
    obtain ⟨⟨u4, z4⟩, f4⟩ := HRX.out.cell 4 (by omega)
    obtain ⟨⟨u5, z5⟩, f5⟩ := HRX.out.cell 5 (by omega)
    obtain ⟨⟨u6, z6⟩, f6⟩ := HRX.out.cell 6 (by omega)
    obtain ⟨⟨u7, z7⟩, f7⟩ := HRX.out.cell 7 (by omega)
    obtain ⟨⟨u8, z8⟩, f8⟩ := HRX.out.cell 8 (by omega)
    obtain ⟨⟨u9, z9⟩, f9⟩ := HRX.out.cell 9 (by omega)
    obtain ⟨⟨u10, z10⟩, f10⟩ := HRX.out.cell 10 (by omega)
    obtain ⟨⟨u11, z11⟩, f11⟩ := HRX.out.cell 11 (by omega)
    obtain ⟨⟨u12, z12⟩, f12⟩ := HRX.out.cell 12 (by omega)
    obtain ⟨⟨u13, z13⟩, f13⟩ := HRX.out.cell 13 (by omega)
    obtain ⟨⟨u14, z14⟩, f14⟩ := HRX.out.cell 14 (by omega)
    go_region
    go_wp2_with fail
    exact post3d (X := W) (B := w.heap.size) [.int .i64 0, .slice none 0 0, .int .i64 0, .int .i64 0, .int .i64 0, .int .i64 0, .int .i64 0, .slice none 0 0, .int .i64 0, .slice none 0 0, .int .i64 0, .int .i64 0, .int .i64 0, .int .i64 0, .int .i64 0] Try.results12 rfl rfl rfl Try.underlying50 rfl Try.infoPrg HRX.out rfl ⟨_, by rw [HE.out]; rfl, rfl, zero15a, (below_cells (Nat.le_refl _) _ _ _ HBX.out).drew, fun h0 => by rw [HE.out] at h0; exact absurd h0 HNE.out⟩

set_option maxRecDepth 100000 in
set_option maxHeartbeats 400000 in
theorem parse_long (s : ByteArray) (w : World) (hs : ¬ s.size ≤ 300) :
    Calls Try.prog 12 #[.string s] w (ParseEnd (tokAt 0 (rest s 0)) w (1, 0)) := by
  have hle : (300 : Int) < (s.size : Int) := by omega
  have HR0 : Hid (Row _ w.heap.size 15) := row15 w
  have hth := HR0.out.there 0 15 (by omega)
  go_enter Try.func12, Try.ntmps12
  go_wp2_with (refine wpList_store_mid rfl 50 (.tmp 2) (.tmp 10) rfl w.heap.size 0 #[.int .i64 0, .slice none 0 0, .int .i64 0, .int .i64 0, .int .i64 0, .int .i64 0, .int .i64 0, .slice none 0 0, .int .i64 0, .slice none 0 0, .int .i64 0, .int .i64 0, .int .i64 0, .int .i64 0, .int .i64 0] rfl rfl ?_ ?_ ?_ ?_; (exact hth); (exact Try.infoPrg); (exact zero15a))
  exact post3 [.int .i64 0, .slice none 0 0, .int .i64 0, .int .i64 0, .int .i64 0, .int .i64 0, .int .i64 0, .slice none 0 0, .int .i64 0, .slice none 0 0, .int .i64 0, .int .i64 0, .int .i64 0, .int .i64 0, .int .i64 0] Try.results12 rfl rfl rfl Try.underlying50 rfl Try.infoPrg HR0.out rfl ⟨_, rfl, rfl, zero15a, below_cells (Nat.le_refl _) _ _ _ (below_alloc w _), fun h0 => by cases h0⟩

/-- What the document answers of any text. -/
def answer (s : ByteArray) : Int × Int := if s.size ≤ 300 then want s else (1, 0)
theorem parse_c (s : ByteArray) (w : World) : Calls Try.prog 12 #[.string s] w (ParseEnd (tokAt 0 (rest s 0)) w (answer s)) := by
  unfold answer
  by_cases h : s.size ≤ 300
  · rw [if_pos h]; exact parse_any s w h
  · rw [if_neg h]; exact parse_long s w h

end Go.Proofs.Ytmpbgbdhpahpjaa.Av
set_option linter.unusedVariables false
set_option linter.unusedSimpArgs false
namespace Go.Proofs.Ytmpbgbdhpahpjaa.Vl
open Go.RowKit
open Go.Proofs.Ytmpbgbdhpahpjaa.Av (vr Fm Rd Tg sAt Cm Rc Kp set_other Tk2 want tokAt read_any read_long answer)

/-- A program in tokens: what is to hold ahead, the commands, what is to hold behind. -/
def Prg (toks : List (List UInt8 × Nat)) (p : Fm) (c : Cm) (q : Fm) : Prop := ∃ k1 k2 k3, Rd toks .form 1 p k1 ∧ Rc toks true (k1 + 1) c k2 ∧ Rd toks .form (k2 + 1) q k3 ∧ k3 ≤ toks.length
theorem sAt_len (s : ByteArray) (hs : s.size ≤ 300) (j : Nat) : (sAt (tokAt 0 (Av.rest s 0)) j).length ≤ 300 := by
  unfold sAt
  cases h : (tokAt 0 (Av.rest s 0))[j]? with
  | none => simp
  | some t =>
    have hm := List.mem_of_getElem? h
    have := Av.toks_mem _ 0 (Av.rest s 0) t.1 t.2 (by unfold Av.tokAt at hm; exact hm)
    have hr : (Av.rest s 0).length ≤ 300 := by have := Av.rest_len s 0; omega
    show t.1.length ≤ 300
    omega
theorem tk2_at {w : World} {v : Value} {toks : List (List UInt8 × Nat)} (h : Tk2 w v toks) (hn : 0 < toks.length) (t : TypeId) : CodeAt (w.alloc (.cells #[v] t)) w.heap.size toks := by
  rcases h with ⟨_, rfl⟩ | ⟨g, cap, rfl, h2, h3, h4, h5⟩
  · simp at hn
  · refine ⟨g, cap, ?_, h2, h3, by simp; omega, by simp, fun j x hx => ?_⟩
    · rw [World.cell?_alloc_at _ _ _ _ rfl]; rfl
    · have := (h5 j x.1 x.2 hx).1
      exact ((below_alloc w _).cell (p := ⟨g, j * 2, none⟩) h4).trans this
theorem tk2_slice {w : World} {v : Value} {toks : List (List UInt8 × Nat)} (h : Tk2 w v toks) (hn : 0 < toks.length) : ∃ g cap, v = .slice (some ⟨g, 0, none⟩) toks.length cap := by
  rcases h with ⟨_, rfl⟩ | ⟨g, cap, rfl, _⟩
  · simp at hn
  · exact ⟨g, cap, rfl⟩
theorem answer_long {s : ByteArray} (h : (answer s).1 = 0) : s.size ≤ 300 := by
  unfold answer at h
  by_cases hs : s.size ≤ 300
  · exact hs
  · rw [if_neg hs] at h; cases h
theorem read2 (s : ByteArray) (w : World) :
    Calls Try.prog 13 #[.string s] w fun e w' => ∃ v, e = .returned (.tuple #[v, .int .i64 (answer s).1, .int .i64 (answer s).2]) ∧ ((answer s).1 = 0 → Tk2 w' v (tokAt 0 (Av.rest s 0))) ∧ Below w.heap.size w w' := by
  unfold answer
  by_cases h : s.size ≤ 300
  · rw [if_pos h]; exact read_any s w h
  · rw [if_neg h]; exact (read_long s w h).mono fun e w' ⟨h1, h2⟩ => ⟨_, h1, fun h => (by cases h), by rw [h2]; exact Below.refl _ _⟩
/-- What Holds answers. -/
def hAns (s : ByteArray) (behind : Bool) (x1 x2 x3 x4 : Int) (p q : Fm) : Bool × Int × Int :=
  if (answer s).1 ≠ 0 then (false, (answer s).1, (answer s).2) else if gds x1 x2 x3 x4 = false then (false, 4, 0) else (ev x1 x2 x3 x4 (if behind then q else p), 0, 0)

set_option maxRecDepth 100000 in
set_option maxHeartbeats 1000000 in
theorem refHolds_any (s : ByteArray) (behind : Bool) (x1 x2 x3 x4 : Int) (p q : Fm) (c : Cm) (w : World) (hP : (answer s).1 = 0 → Prg (tokAt 0 (Av.rest s 0)) p c q) :
    Calls Try.prog 11 #[.string s, .bool behind, .agg #[.int .i64 x1, .int .i64 x2, .int .i64 x3, .int .i64 x4]] w fun e w' => e = .returned (.tuple #[.bool (hAns s behind x1 x2 x3 x4 p q).1, .int .i64 (hAns s behind x1 x2 x3 x4 p q).2.1, .int .i64 (hAns s behind x1 x2 x3 x4 p q).2.2]) ∧ Below w.heap.size w w' := by
  have C1 : Hid (∀ w, Calls Try.prog 13 #[.string s] w fun e w' => ∃ v, e = .returned (.tuple #[v, .int .i64 (answer s).1, .int .i64 (answer s).2]) ∧ ((answer s).1 = 0 → Tk2 w' v (tokAt 0 (Av.rest s 0))) ∧ Below w.heap.size w w') := fun w => read2 s w
  have CG : Hid (∀ w, Calls Try.prog 17 #[.agg #[.int .i64 x1, .int .i64 x2, .int .i64 x3, .int .i64 x4]] w fun e w' => e = .returned (.bool (gds x1 x2 x3 x4)) ∧ Below w.heap.size w w') := fun w => good_any x1 x2 x3 x4 w
  by_cases h0 : (answer s).1 = 0
  · have hs := answer_long h0
    obtain ⟨k1, k2, k3, r1, r2, r3, hk3⟩ := hP h0
    have hl := sAt_len s hs
    have htl : (tokAt 0 (Av.rest s 0)).length ≤ 300 := by have := Av.tokAt_len 0 (Av.rest s 0); have := Av.rest_len s 0; omega
    have e1 := r1.le.2 (by simp)
    have e2 := r2.le
    have e3 := r3.le.2 (by simp)
    cases hg : gds x1 x2 x3 x4
    · have HR : Hid (hAns s behind x1 x2 x3 x4 p q = (false, 4, 0)) := by
        show _ = _
        unfold hAns
        rw [if_neg (by omega), if_pos hg]
      rw [hg] at CG
      clear r1 r2 r3 hP hl
      generalize hAns s behind x1 x2 x3 x4 p q = R at *
      generalize tokAt 0 (Av.rest s 0) = toks at *
      generalize answer s = W at *
      go_enter Try.func11, Try.ntmps11
      go_wp2_with fail
      refine (C1.out _).mono ?_
      rintro e w2 ⟨v, rfl, hT, hb2⟩
      have hbb := (below_alloc w (.cells #[.int .i64 x1, .int .i64 x2, .int .i64 x3, .int .i64 x4] 29)).trans (hb2.mono (by simp))
      have d0 : w2.cell? ⟨w.heap.size, 0, none⟩ = some (.int .i64 x1) := (hb2.cell (p := ⟨w.heap.size, 0, none⟩) (by simp)).trans (by rw [World.cell?_alloc_at _ _ _ _ rfl]; rfl)
      have d1 : w2.cell? ⟨w.heap.size, 1, none⟩ = some (.int .i64 x2) := (hb2.cell (p := ⟨w.heap.size, 1, none⟩) (by simp)).trans (by rw [World.cell?_alloc_at _ _ _ _ rfl]; rfl)
      have d2 : w2.cell? ⟨w.heap.size, 2, none⟩ = some (.int .i64 x3) := (hb2.cell (p := ⟨w.heap.size, 2, none⟩) (by simp)).trans (by rw [World.cell?_alloc_at _ _ _ _ rfl]; rfl)
      have d3 : w2.cell? ⟨w.heap.size, 3, none⟩ = some (.int .i64 x4) := (hb2.cell (p := ⟨w.heap.size, 3, none⟩) (by simp)).trans (by rw [World.cell?_alloc_at _ _ _ _ rfl]; rfl)
      have HBB : Hid (Below w.heap.size w w2) := hbb
      clear hT hb2 hbb
      go_wp2_with fail
      refine (CG.out _).mono ?_
      rintro e w3 ⟨rfl, hb3⟩
      go_wp2_with fail
      go_ret3
      exact ⟨by (rw [HR.out]) <;> rfl, HBB.out.trans (hb3.mono HBB.out.size)⟩
    · have HR : Hid (hAns s behind x1 x2 x3 x4 p q = (ev x1 x2 x3 x4 (if behind then q else p), 0, 0)) := by
        show _ = _
        unfold hAns
        rw [if_neg (by omega), if_neg (by rw [hg]; decide)]
      rw [hg] at CG
      have CP : Hid (∀ w B, CodeAt w B (tokAt 0 (Av.rest s 0)) → Calls Try.prog 18 #[.pointer (some ⟨B, 0, none⟩)] w fun e w' => e = .returned (.tuple #[.int .i64 1, .int .i64 ((k1 : Int) + 1), .int .i64 ((k2 : Int) + 1)]) ∧ Below w.heap.size w w') := fun w B hc => parts_any _ B hl k1 k2 p c w r1 r2 (by omega) hc
      have CF : Hid (∀ w B, CodeAt w B (tokAt 0 (Av.rest s 0)) → Calls Try.prog 20 #[.pointer (some ⟨B, 0, none⟩), .int .i64 1] w fun e w' => e = .returned (.tuple #[.string (ftx p), .int .i64 (k1 : Int)]) ∧ Below w.heap.size w w') := fun w B hc => formula_any _ B hl 1 k1 p w r1 (by omega) hc
      have CQ : Hid (∀ w B, CodeAt w B (tokAt 0 (Av.rest s 0)) → Calls Try.prog 20 #[.pointer (some ⟨B, 0, none⟩), .int .i64 ((k2 : Int) + 1)] w fun e w' => e = .returned (.tuple #[.string (ftx q), .int .i64 (k3 : Int)]) ∧ Below w.heap.size w w') := fun w B hc => formula_any _ B hl (k2 + 1) k3 q w r3 (by omega) hc
      have CV : Hid (∀ w, Calls Try.prog 21 #[.string (ftx p), .agg #[.int .i64 x1, .int .i64 x2, .int .i64 x3, .int .i64 x4]] w fun e w' => e = .returned (.bool (ev x1 x2 x3 x4 p)) ∧ Below w.heap.size w w') := fun w => valued_f p _ _ _ _ w (rd_ok r1 (fun g h => by cases h)) (by have := rd_len r1; simp only [tgL] at this; omega) hg
      have CW : Hid (∀ w, Calls Try.prog 21 #[.string (ftx q), .agg #[.int .i64 x1, .int .i64 x2, .int .i64 x3, .int .i64 x4]] w fun e w' => e = .returned (.bool (ev x1 x2 x3 x4 q)) ∧ Below w.heap.size w w') := fun w => valued_f q _ _ _ _ w (rd_ok r3 (fun g h => by cases h)) (by have := rd_len r3; simp only [tgL] at this; omega) hg
      have HZ : Hid ((answer s).1 = 0) := h0
      have htp : 0 < (tokAt 0 (Av.rest s 0)).length := by omega
      clear r1 r2 r3 hP hl
      generalize hAns s behind x1 x2 x3 x4 p q = R at *
      generalize tokAt 0 (Av.rest s 0) = toks at *
      generalize answer s = W at *
      cases behind
      · have HX : Hid (R = (ev x1 x2 x3 x4 p, 0, 0)) := HR.out
        have CX := CF
        have CY := CV
        clear CF CQ CV CW HR
        generalize ftx p = PX at *
        generalize ev x1 x2 x3 x4 p = VX at *
        go_enter Try.func11, Try.ntmps11
        go_wp2_with fail
        refine (C1.out _).mono ?_
        rintro e w2 ⟨v, rfl, hT, hb2⟩
        have hT2 := hT HZ.out
        obtain ⟨tg, tc, rfl⟩ := tk2_slice hT2 htp
        have hs2 : w.heap.size < w2.heap.size := by have := hb2.size; simp at this; omega
        have hbb := (below_alloc w (.cells #[.int .i64 x1, .int .i64 x2, .int .i64 x3, .int .i64 x4] 29)).trans (hb2.mono (by simp))
        have d0 : w2.cell? ⟨w.heap.size, 0, none⟩ = some (.int .i64 x1) := (hb2.cell (p := ⟨w.heap.size, 0, none⟩) (by simp)).trans (by rw [World.cell?_alloc_at _ _ _ _ rfl]; rfl)
        have d1 : w2.cell? ⟨w.heap.size, 1, none⟩ = some (.int .i64 x2) := (hb2.cell (p := ⟨w.heap.size, 1, none⟩) (by simp)).trans (by rw [World.cell?_alloc_at _ _ _ _ rfl]; rfl)
        have d2 : w2.cell? ⟨w.heap.size, 2, none⟩ = some (.int .i64 x3) := (hb2.cell (p := ⟨w.heap.size, 2, none⟩) (by simp)).trans (by rw [World.cell?_alloc_at _ _ _ _ rfl]; rfl)
        have d3 : w2.cell? ⟨w.heap.size, 3, none⟩ = some (.int .i64 x4) := (hb2.cell (p := ⟨w.heap.size, 3, none⟩) (by simp)).trans (by rw [World.cell?_alloc_at _ _ _ _ rfl]; rfl)
        have HBB : Hid (Below w.heap.size w w2) := hbb
        have HT2 : Hid (Tk2 w2 (.slice (some ⟨tg, 0, none⟩) toks.length tc) toks) := hT2
        clear hT hb2 hbb hT2
        go_wp2_with fail
        refine (CG.out _).mono ?_
        rintro e w3 ⟨rfl, hb3⟩
        have HC3 : Hid (CodeAt (w3.alloc (.cells #[.slice (some ⟨tg, 0, none⟩) toks.length tc] 61)) w3.heap.size toks) := tk2_at (HT2.out.below hb3) htp _
        have e0 := (hb3.cell (p := ⟨w.heap.size, 0, none⟩) hs2).trans d0
        have e1 := (hb3.cell (p := ⟨w.heap.size, 1, none⟩) hs2).trans d1
        have e2 := (hb3.cell (p := ⟨w.heap.size, 2, none⟩) hs2).trans d2
        have e3 := (hb3.cell (p := ⟨w.heap.size, 3, none⟩) hs2).trans d3
        have hs3 : w.heap.size < w3.heap.size := by have := hb3.size; omega
        have HB3 : Hid (Below w.heap.size w (w3.alloc (.cells #[.slice (some ⟨tg, 0, none⟩) toks.length tc] 61))) := (HBB.out.trans (hb3.mono HBB.out.size)).alloc (by omega) _
        clear d0 d1 d2 d3 hb3 HBB HT2
        go_wp2_with fail
        refine (CP.out _ _ HC3.out).mono ?_
        rintro e w4 ⟨rfl, hb4⟩
        have HC4 : Hid (CodeAt w4 w3.heap.size toks) := HC3.out.below hb4
        have HB4 : Hid (Below w.heap.size w w4) := HB3.out.trans (hb4.mono HB3.out.size)
        have f0 : w4.cell? ⟨w.heap.size, 0, none⟩ = some (.int .i64 x1) := (hb4.cell (p := ⟨w.heap.size, 0, none⟩) (by simp; omega)).trans ((below_alloc w3 _).cell (p := ⟨w.heap.size, 0, none⟩) hs3 |>.trans e0)
        have f1 : w4.cell? ⟨w.heap.size, 1, none⟩ = some (.int .i64 x2) := (hb4.cell (p := ⟨w.heap.size, 1, none⟩) (by simp; omega)).trans ((below_alloc w3 _).cell (p := ⟨w.heap.size, 1, none⟩) hs3 |>.trans e1)
        have f2 : w4.cell? ⟨w.heap.size, 2, none⟩ = some (.int .i64 x3) := (hb4.cell (p := ⟨w.heap.size, 2, none⟩) (by simp; omega)).trans ((below_alloc w3 _).cell (p := ⟨w.heap.size, 2, none⟩) hs3 |>.trans e2)
        have f3 : w4.cell? ⟨w.heap.size, 3, none⟩ = some (.int .i64 x4) := (hb4.cell (p := ⟨w.heap.size, 3, none⟩) (by simp; omega)).trans ((below_alloc w3 _).cell (p := ⟨w.heap.size, 3, none⟩) hs3 |>.trans e3)
        have hs4 : w.heap.size < w4.heap.size := by have := hb4.size; simp at this; omega
        clear e0 e1 e2 e3 hb4 HC3 HB3
        go_wp2_with fail
        refine (CX.out _ _ HC4.out).mono ?_
        rintro e w5 ⟨rfl, hb5⟩
        have HB5 : Hid (Below w.heap.size w w5) := HB4.out.trans (hb5.mono HB4.out.size)
        have g0 := (hb5.cell (p := ⟨w.heap.size, 0, none⟩) hs4).trans f0
        have g1 := (hb5.cell (p := ⟨w.heap.size, 1, none⟩) hs4).trans f1
        have g2 := (hb5.cell (p := ⟨w.heap.size, 2, none⟩) hs4).trans f2
        have g3 := (hb5.cell (p := ⟨w.heap.size, 3, none⟩) hs4).trans f3
        clear f0 f1 f2 f3 hb5 HC4 HB4
        go_wp2_with fail
        refine (CY.out _).mono ?_
        rintro e w6 ⟨rfl, hb6⟩
        go_wp2_with fail
        go_ret3
        exact ⟨by (rw [HX.out]) <;> rfl, HB5.out.trans (hb6.mono HB5.out.size)⟩
      · have HX : Hid (R = (ev x1 x2 x3 x4 q, 0, 0)) := HR.out
        have CX := CQ
        have CY := CW
        clear CF CQ CV CW HR
        generalize ftx q = PX at *
        generalize ev x1 x2 x3 x4 q = VX at *
        go_enter Try.func11, Try.ntmps11
        go_wp2_with fail
        refine (C1.out _).mono ?_
        rintro e w2 ⟨v, rfl, hT, hb2⟩
        have hT2 := hT HZ.out
        obtain ⟨tg, tc, rfl⟩ := tk2_slice hT2 htp
        have hs2 : w.heap.size < w2.heap.size := by have := hb2.size; simp at this; omega
        have hbb := (below_alloc w (.cells #[.int .i64 x1, .int .i64 x2, .int .i64 x3, .int .i64 x4] 29)).trans (hb2.mono (by simp))
        have d0 : w2.cell? ⟨w.heap.size, 0, none⟩ = some (.int .i64 x1) := (hb2.cell (p := ⟨w.heap.size, 0, none⟩) (by simp)).trans (by rw [World.cell?_alloc_at _ _ _ _ rfl]; rfl)
        have d1 : w2.cell? ⟨w.heap.size, 1, none⟩ = some (.int .i64 x2) := (hb2.cell (p := ⟨w.heap.size, 1, none⟩) (by simp)).trans (by rw [World.cell?_alloc_at _ _ _ _ rfl]; rfl)
        have d2 : w2.cell? ⟨w.heap.size, 2, none⟩ = some (.int .i64 x3) := (hb2.cell (p := ⟨w.heap.size, 2, none⟩) (by simp)).trans (by rw [World.cell?_alloc_at _ _ _ _ rfl]; rfl)
        have d3 : w2.cell? ⟨w.heap.size, 3, none⟩ = some (.int .i64 x4) := (hb2.cell (p := ⟨w.heap.size, 3, none⟩) (by simp)).trans (by rw [World.cell?_alloc_at _ _ _ _ rfl]; rfl)
        have HBB : Hid (Below w.heap.size w w2) := hbb
        have HT2 : Hid (Tk2 w2 (.slice (some ⟨tg, 0, none⟩) toks.length tc) toks) := hT2
        clear hT hb2 hbb hT2
        go_wp2_with fail
        refine (CG.out _).mono ?_
        rintro e w3 ⟨rfl, hb3⟩
        have HC3 : Hid (CodeAt (w3.alloc (.cells #[.slice (some ⟨tg, 0, none⟩) toks.length tc] 61)) w3.heap.size toks) := tk2_at (HT2.out.below hb3) htp _
        have e0 := (hb3.cell (p := ⟨w.heap.size, 0, none⟩) hs2).trans d0
        have e1 := (hb3.cell (p := ⟨w.heap.size, 1, none⟩) hs2).trans d1
        have e2 := (hb3.cell (p := ⟨w.heap.size, 2, none⟩) hs2).trans d2
        have e3 := (hb3.cell (p := ⟨w.heap.size, 3, none⟩) hs2).trans d3
        have hs3 : w.heap.size < w3.heap.size := by have := hb3.size; omega
        have HB3 : Hid (Below w.heap.size w (w3.alloc (.cells #[.slice (some ⟨tg, 0, none⟩) toks.length tc] 61))) := (HBB.out.trans (hb3.mono HBB.out.size)).alloc (by omega) _
        clear d0 d1 d2 d3 hb3 HBB HT2
        go_wp2_with fail
        refine (CP.out _ _ HC3.out).mono ?_
        rintro e w4 ⟨rfl, hb4⟩
        have HC4 : Hid (CodeAt w4 w3.heap.size toks) := HC3.out.below hb4
        have HB4 : Hid (Below w.heap.size w w4) := HB3.out.trans (hb4.mono HB3.out.size)
        have f0 : w4.cell? ⟨w.heap.size, 0, none⟩ = some (.int .i64 x1) := (hb4.cell (p := ⟨w.heap.size, 0, none⟩) (by simp; omega)).trans ((below_alloc w3 _).cell (p := ⟨w.heap.size, 0, none⟩) hs3 |>.trans e0)
        have f1 : w4.cell? ⟨w.heap.size, 1, none⟩ = some (.int .i64 x2) := (hb4.cell (p := ⟨w.heap.size, 1, none⟩) (by simp; omega)).trans ((below_alloc w3 _).cell (p := ⟨w.heap.size, 1, none⟩) hs3 |>.trans e1)
        have f2 : w4.cell? ⟨w.heap.size, 2, none⟩ = some (.int .i64 x3) := (hb4.cell (p := ⟨w.heap.size, 2, none⟩) (by simp; omega)).trans ((below_alloc w3 _).cell (p := ⟨w.heap.size, 2, none⟩) hs3 |>.trans e2)
        have f3 : w4.cell? ⟨w.heap.size, 3, none⟩ = some (.int .i64 x4) := (hb4.cell (p := ⟨w.heap.size, 3, none⟩) (by simp; omega)).trans ((below_alloc w3 _).cell (p := ⟨w.heap.size, 3, none⟩) hs3 |>.trans e3)
        have hs4 : w.heap.size < w4.heap.size := by have := hb4.size; simp at this; omega
        clear e0 e1 e2 e3 hb4 HC3 HB3
        go_wp2_with fail
        refine (CX.out _ _ HC4.out).mono ?_
        rintro e w5 ⟨rfl, hb5⟩
        have HB5 : Hid (Below w.heap.size w w5) := HB4.out.trans (hb5.mono HB4.out.size)
        have g0 := (hb5.cell (p := ⟨w.heap.size, 0, none⟩) hs4).trans f0
        have g1 := (hb5.cell (p := ⟨w.heap.size, 1, none⟩) hs4).trans f1
        have g2 := (hb5.cell (p := ⟨w.heap.size, 2, none⟩) hs4).trans f2
        have g3 := (hb5.cell (p := ⟨w.heap.size, 3, none⟩) hs4).trans f3
        clear f0 f1 f2 f3 hb5 HC4 HB4
        go_wp2_with fail
        refine (CY.out _).mono ?_
        rintro e w6 ⟨rfl, hb6⟩
        go_wp2_with fail
        go_ret3
        exact ⟨by (rw [HX.out]) <;> rfl, HB5.out.trans (hb6.mono HB5.out.size)⟩
  · have h0' : ((answer s).1 != 0) = true := by simpa using h0
    have HR : Hid (hAns s behind x1 x2 x3 x4 p q = (false, (answer s).1, (answer s).2)) := by
      show _ = _
      unfold hAns
      rw [if_pos h0]
    clear hP h0 CG
    generalize hAns s behind x1 x2 x3 x4 p q = R at *
    generalize tokAt 0 (Av.rest s 0) = toks at *
    generalize answer s = W at *
    go_enter Try.func11, Try.ntmps11
    go_wp2_with fail
    refine (C1.out _).mono ?_
    rintro e w2 ⟨v, rfl, hT, hb2⟩
    have hbb := (below_alloc w (.cells #[.int .i64 x1, .int .i64 x2, .int .i64 x3, .int .i64 x4] 29)).trans (hb2.mono (by simp))
    clear hT
    go_wp2_with fail
    go_ret3
    exact ⟨by (rw [HR.out]) <;> rfl, hbb⟩
end Go.Proofs.Ytmpbgbdhpahpjaa.Vl
set_option linter.unusedVariables false
set_option linter.unusedSimpArgs false
namespace Go.Proofs.Ytmpbgbdhpahpjaa.Vl
open Go.RowKit
open Go.Proofs.Ytmpbgbdhpahpjaa.Av (vr Fm Rd Tg sAt Cm Rc Kp set_other Tk2 want tokAt answer post3 post3d below_cells Row Row.new Row.kpOld)

/-- What is answered of a run. -/
def oV (s : RS) : List Value := [.int .i64 (kn s), .int .i64 s.x1, .int .i64 s.x2, .int .i64 s.x3, .int .i64 s.x4, .int .i64 s.n]
def r0 : RS := { x1 := 0, x2 := 0, x3 := 0, x4 := 0, n := 0, e := -1 }
theorem oV_r0 : oV r0 = [.int .i64 0, .int .i64 0, .int .i64 0, .int .i64 0, .int .i64 0, .int .i64 0] := rfl
/-- What Run answers. -/
def dAns (s : ByteArray) (x1 x2 x3 x4 fuel : Int) (c : Cm) : RS × Int × Int :=
  if (answer s).1 ≠ 0 then (r0, (answer s).1, (answer s).2) else if gds x1 x2 x3 x4 = false then (r0, 4, 0) else if fuel < 0 ∨ 10000 < fuel then (r0, 5, 0) else (ex fuel c { x1 := x1, x2 := x2, x3 := x3, x4 := x4, n := 0, e := -1 }, 0, 0)
theorem Try.infoOut : (Try.prog.info? 31).map (·.size) = some 6 := by kernel_rfl
theorem zero6 : (([.int .i64 0, .int .i64 0, .int .i64 0, .int .i64 0, .int .i64 0, .int .i64 0] : List Value).all (·.oneCell')) = true := rfl
theorem zero6a : (#[.int .i64 0, .int .i64 0, .int .i64 0, .int .i64 0, .int .i64 0, .int .i64 0] : Array Value).all (·.oneCell') = true := all_oneCell_toArray (List.all_eq_true.1 zero6)
theorem row6 (w : World) : Row (w.alloc (.cells #[.int .i64 0, .int .i64 0, .int .i64 0, .int .i64 0, .int .i64 0, .int .i64 0] 31)) w.heap.size 6 := Row.new w _ _ (List.all_eq_true.1 zero6)
theorem two_newO (w : World) (u v : Obj) : Below w.heap.size w ((w.alloc u).alloc v) := (below_alloc w _).alloc (by simp) _
theorem st_cells {w w2 : World} {x1 x2 x3 x4 : Int} {o : Obj} {t : TypeId} (hb : Below ((w.alloc (.cells #[.int .i64 x1, .int .i64 x2, .int .i64 x3, .int .i64 x4] t)).alloc o).heap.size ((w.alloc (.cells #[.int .i64 x1, .int .i64 x2, .int .i64 x3, .int .i64 x4] t)).alloc o) w2) :
    w2.cell? ⟨w.heap.size, 0, none⟩ = some (.int .i64 x1) ∧ w2.cell? ⟨w.heap.size, 1, none⟩ = some (.int .i64 x2) ∧ w2.cell? ⟨w.heap.size, 2, none⟩ = some (.int .i64 x3) ∧ w2.cell? ⟨w.heap.size, 3, none⟩ = some (.int .i64 x4) :=
  ⟨(hb.cell (p := ⟨w.heap.size, 0, none⟩) (by simp; omega)).trans (by simp), (hb.cell (p := ⟨w.heap.size, 1, none⟩) (by simp; omega)).trans (by simp), (hb.cell (p := ⟨w.heap.size, 2, none⟩) (by simp; omega)).trans (by simp), (hb.cell (p := ⟨w.heap.size, 3, none⟩) (by simp; omega)).trans (by simp)⟩

theorem run_new {w3 : World} {v : Value} {t u : TypeId} {toks : List (List UInt8 × Nat)} {x1 x2 x3 x4 fuel : Int} (hc : CodeAt (w3.alloc (.cells #[v] t)) w3.heap.size toks) :
    RunAt ((w3.alloc (.cells #[v] t)).alloc (.cells #[.pointer (some ⟨w3.heap.size, 0, none⟩), .int .i64 x1, .int .i64 x2, .int .i64 x3, .int .i64 x4, .int .i64 0, .int .i64 fuel, .int .i64 (-1)] u)) (w3.heap.size + 1) w3.heap.size toks fuel { x1 := x1, x2 := x2, x3 := x3, x4 := x4, n := 0, e := -1 } := by
  obtain ⟨g, cap, h1, h2, h3, h4, h5, h6⟩ := hc.below (below_alloc _ (.cells #[.pointer (some ⟨w3.heap.size, 0, none⟩), .int .i64 x1, .int .i64 x2, .int .i64 x3, .int .i64 x4, .int .i64 0, .int .i64 fuel, .int .i64 (-1)] u))
  obtain ⟨g', cap', q1, q2, q3, q4, q5, q6⟩ := hc
  have hsz : (w3.alloc (.cells #[v] t)).heap.size = w3.heap.size + 1 := by simp
  have e : (w3.alloc (.cells #[v] t)).cell? ⟨w3.heap.size, 0, none⟩ = ((w3.alloc (.cells #[v] t)).alloc (.cells #[.pointer (some ⟨w3.heap.size, 0, none⟩), .int .i64 x1, .int .i64 x2, .int .i64 x3, .int .i64 x4, .int .i64 0, .int .i64 fuel, .int .i64 (-1)] u)).cell? ⟨w3.heap.size, 0, none⟩ := ((below_alloc _ _).cell (p := ⟨w3.heap.size, 0, none⟩) q5).symm
  have eg : g = g' := by
    rw [q1, h1] at e
    have := Option.some.inj e
    injection this with a b c
    injection a with a
    injection a with a
    exact a.symm
  exact ⟨⟨g, cap, h1, h2, h3, by rw [eg, ← hsz]; exact q4, by omega, h6⟩, by simp, by simp, by simp, by simp, by simp, by simp, by simp, by simp, by simp, fun o => by simp⟩

set_option maxRecDepth 100000 in
set_option maxHeartbeats 2000000 in
theorem refDo_any (s : ByteArray) (x1 x2 x3 x4 fuel : Int) (p q : Fm) (c : Cm) (w : World) (hP : (answer s).1 = 0 → Prg (tokAt 0 (Av.rest s 0)) p c q) :
    Calls Try.prog 10 #[.string s, .agg #[.int .i64 x1, .int .i64 x2, .int .i64 x3, .int .i64 x4], .int .i64 fuel] w fun e w' => e = .returned (.tuple #[.agg (oV (dAns s x1 x2 x3 x4 fuel c).1).toArray, .int .i64 (dAns s x1 x2 x3 x4 fuel c).2.1, .int .i64 (dAns s x1 x2 x3 x4 fuel c).2.2]) ∧ Below w.heap.size w w' := by
  have C1 : Hid (∀ w, Calls Try.prog 13 #[.string s] w fun e w' => ∃ v, e = .returned (.tuple #[v, .int .i64 (answer s).1, .int .i64 (answer s).2]) ∧ ((answer s).1 = 0 → Tk2 w' v (tokAt 0 (Av.rest s 0))) ∧ Below w.heap.size w w') := fun w => read2 s w
  have CG : Hid (∀ w, Calls Try.prog 17 #[.agg #[.int .i64 x1, .int .i64 x2, .int .i64 x3, .int .i64 x4]] w fun e w' => e = .returned (.bool (gds x1 x2 x3 x4)) ∧ Below w.heap.size w w') := fun w => good_any x1 x2 x3 x4 w
  have HR0 : Hid (Row ((w.alloc (.cells #[.int .i64 x1, .int .i64 x2, .int .i64 x3, .int .i64 x4] 29)).alloc (.cells #[.int .i64 0, .int .i64 0, .int .i64 0, .int .i64 0, .int .i64 0, .int .i64 0] 31)) (w.heap.size + 1) 6) := by
    have := row6 (w.alloc (.cells #[.int .i64 x1, .int .i64 x2, .int .i64 x3, .int .i64 x4] 29))
    rw [show (w.alloc (.cells #[.int .i64 x1, .int .i64 x2, .int .i64 x3, .int .i64 x4] 29)).heap.size = w.heap.size + 1 by simp] at this
    exact this
  by_cases h0 : (answer s).1 = 0
  · have h0' : ((answer s).1 != 0) = false := by simp [h0]
    cases hg : gds x1 x2 x3 x4
    · have HR : Hid (dAns s x1 x2 x3 x4 fuel c = (r0, 4, 0)) := by
        show _ = _
        unfold dAns
        rw [if_neg (by omega), if_pos hg]
      rw [hg] at CG
      clear hP
      generalize dAns s x1 x2 x3 x4 fuel c = R at *
      generalize tokAt 0 (Av.rest s 0) = toks at *
      generalize answer s = W at *
      go_enter Try.func10, Try.ntmps10
      go_wp2_with fail
      refine (C1.out _).mono ?_
      rintro e w2 ⟨v, rfl, hT, hb2⟩
      have HB2 : Hid (Below w.heap.size w w2) := (two_newO w _ _).trans (hb2.mono (two_newO w _ _).size)
      have HR2 : Hid (Row w2 (w.heap.size + 1) 6) := HR0.out.below hb2 (by simp)
      have hs2 : w.heap.size + 1 < w2.heap.size := by have := hb2.size; simp at this; omega
      obtain ⟨d0, d1, d2, d3⟩ := st_cells hb2
      clear hT hb2
      go_wp2_with fail
      refine (CG.out _).mono ?_
      rintro e w3 ⟨rfl, hb3⟩
      have HB3 : Hid (Below w.heap.size w w3) := HB2.out.trans (hb3.mono HB2.out.size)
      have HR3 : Hid (Row w3 (w.heap.size + 1) 6) := HR2.out.below hb3 hs2
      clear d0 d1 d2 d3 hb3
      have hth := HR3.out.there 0 6 (by omega)
      go_wp2_with (refine wpList_store_mid rfl 31 (.tmp 6) (.tmp 33) rfl (w.heap.size + 1) 0 #[.int .i64 0, .int .i64 0, .int .i64 0, .int .i64 0, .int .i64 0, .int .i64 0] rfl rfl ?_ ?_ ?_ ?_; (exact hth); (exact Try.infoOut); (exact zero6a))
      exact post3 [.int .i64 0, .int .i64 0, .int .i64 0, .int .i64 0, .int .i64 0, .int .i64 0] Try.results10 rfl rfl rfl Try.underlying31 rfl Try.infoOut HR3.out rfl ⟨by (rw [HR.out]) <;> rfl, below_cells (by omega) _ _ _ (HB3.out)⟩
    · by_cases hf : fuel < 0 ∨ 10000 < fuel
      · have HR : Hid (dAns s x1 x2 x3 x4 fuel c = (r0, 5, 0)) := by
          show _ = _
          unfold dAns
          rw [if_neg (by omega), if_neg (by rw [hg]; decide), if_pos hf]
        rw [hg] at CG
        clear hP
        generalize dAns s x1 x2 x3 x4 fuel c = R at *
        generalize tokAt 0 (Av.rest s 0) = toks at *
        generalize answer s = W at *
        have hw : fuel < 0 ∨ (¬ fuel < 0 ∧ 10000 < fuel) := by omega
        clear hf
        rcases hw with hf | ⟨hf1, hf⟩
        · go_enter Try.func10, Try.ntmps10
          go_wp2_with fail
          refine (C1.out _).mono ?_
          rintro e w2 ⟨v, rfl, hT, hb2⟩
          have HB2 : Hid (Below w.heap.size w w2) := (two_newO w _ _).trans (hb2.mono (two_newO w _ _).size)
          have HR2 : Hid (Row w2 (w.heap.size + 1) 6) := HR0.out.below hb2 (by simp)
          have hs2 : w.heap.size + 1 < w2.heap.size := by have := hb2.size; simp at this; omega
          obtain ⟨d0, d1, d2, d3⟩ := st_cells hb2
          clear hT hb2
          go_wp2_with fail
          refine (CG.out _).mono ?_
          rintro e w3 ⟨rfl, hb3⟩
          have HB3 : Hid (Below w.heap.size w w3) := HB2.out.trans (hb3.mono HB2.out.size)
          have HR3 : Hid (Row w3 (w.heap.size + 1) 6) := HR2.out.below hb3 hs2
          clear d0 d1 d2 d3 hb3
          have hth := HR3.out.there 0 6 (by omega)
          go_wp2_with (refine wpList_store_mid rfl 31 (.tmp 6) (.tmp 40) rfl (w.heap.size + 1) 0 #[.int .i64 0, .int .i64 0, .int .i64 0, .int .i64 0, .int .i64 0, .int .i64 0] rfl rfl ?_ ?_ ?_ ?_; (exact hth); (exact Try.infoOut); (exact zero6a))
          exact post3 [.int .i64 0, .int .i64 0, .int .i64 0, .int .i64 0, .int .i64 0, .int .i64 0] Try.results10 rfl rfl rfl Try.underlying31 rfl Try.infoOut HR3.out rfl ⟨by (rw [HR.out]) <;> rfl, below_cells (by omega) _ _ _ (HB3.out)⟩
        · go_enter Try.func10, Try.ntmps10
          go_wp2_with fail
          refine (C1.out _).mono ?_
          rintro e w2 ⟨v, rfl, hT, hb2⟩
          have HB2 : Hid (Below w.heap.size w w2) := (two_newO w _ _).trans (hb2.mono (two_newO w _ _).size)
          have HR2 : Hid (Row w2 (w.heap.size + 1) 6) := HR0.out.below hb2 (by simp)
          have hs2 : w.heap.size + 1 < w2.heap.size := by have := hb2.size; simp at this; omega
          obtain ⟨d0, d1, d2, d3⟩ := st_cells hb2
          clear hT hb2
          go_wp2_with fail
          refine (CG.out _).mono ?_
          rintro e w3 ⟨rfl, hb3⟩
          have HB3 : Hid (Below w.heap.size w w3) := HB2.out.trans (hb3.mono HB2.out.size)
          have HR3 : Hid (Row w3 (w.heap.size + 1) 6) := HR2.out.below hb3 hs2
          clear d0 d1 d2 d3 hb3
          have hth := HR3.out.there 0 6 (by omega)
          go_wp2_with (refine wpList_store_mid rfl 31 (.tmp 6) (.tmp 40) rfl (w.heap.size + 1) 0 #[.int .i64 0, .int .i64 0, .int .i64 0, .int .i64 0, .int .i64 0, .int .i64 0] rfl rfl ?_ ?_ ?_ ?_; (exact hth); (exact Try.infoOut); (exact zero6a))
          exact post3 [.int .i64 0, .int .i64 0, .int .i64 0, .int .i64 0, .int .i64 0, .int .i64 0] Try.results10 rfl rfl rfl Try.underlying31 rfl Try.infoOut HR3.out rfl ⟨by (rw [HR.out]) <;> rfl, below_cells (by omega) _ _ _ (HB3.out)⟩
      · have hff : ¬ fuel < 0 := by omega
        have hff2 : ¬ 10000 < fuel := by omega
        have HR : Hid (dAns s x1 x2 x3 x4 fuel c = (ex fuel c { x1 := x1, x2 := x2, x3 := x3, x4 := x4, n := 0, e := -1 }, 0, 0)) := by
          show _ = _
          unfold dAns
          rw [if_neg (by omega), if_neg (by rw [hg]; decide), if_neg hf]
        rw [hg] at CG
        have hs := answer_long h0
        obtain ⟨k1, k2, k3, r1, r2, r3, hk3⟩ := hP h0
        have hl := sAt_len s hs
        have htl : (tokAt 0 (Av.rest s 0)).length ≤ 300 := by have := Av.tokAt_len 0 (Av.rest s 0); have := Av.rest_len s 0; omega
        have e1 := r1.le.2 (by simp)
        have e2 := r2.le
        have e3 := r3.le.2 (by simp)
        have htp : 0 < (tokAt 0 (Av.rest s 0)).length := by omega
        have CP : Hid (∀ w B, CodeAt w B (tokAt 0 (Av.rest s 0)) → Calls Try.prog 18 #[.pointer (some ⟨B, 0, none⟩)] w fun e w' => e = .returned (.tuple #[.int .i64 1, .int .i64 ((k1 : Int) + 1), .int .i64 ((k2 : Int) + 1)]) ∧ Below w.heap.size w w') := fun w B hc => parts_any _ B hl k1 k2 p c w r1 r2 (by omega) hc
        have hin : Inv fuel { x1 := x1, x2 := x2, x3 := x3, x4 := x4, n := 0, e := -1 } := ⟨by dsimp only; omega, by dsimp only; omega, hg, by dsimp only; omega, by dsimp only; omega⟩
        have CA : Hid (∀ w rb cb, RunAt w rb cb (tokAt 0 (Av.rest s 0)) fuel { x1 := x1, x2 := x2, x3 := x3, x4 := x4, n := 0, e := -1 } → Calls Try.prog 19 #[.pointer (some ⟨rb, 0, none⟩), .int .i64 ((k1 : Int) + 1)] w fun e w' => e = .returned (.tuple #[]) ∧ RunAt w' rb cb (tokAt 0 (Av.rest s 0)) fuel (ex fuel c { x1 := x1, x2 := x2, x3 := x3, x4 := x4, n := 0, e := -1 }) ∧ Kp rb w w') := fun w rb cb ha => runs _ rb cb fuel (by omega) hl k2 (k1 + 1) k2 c w _ r2 (by omega) (by omega) ha hin (by dsimp only; omega)
        have HZ : Hid ((answer s).1 = 0) := h0
        clear r1 r2 r3 hP hl hin e1 e2 e3 hk3 hs h0
        generalize dAns s x1 x2 x3 x4 fuel c = R at *
        generalize tokAt 0 (Av.rest s 0) = toks at *
        generalize answer s = W at *
        generalize hEX : ex fuel c { x1 := x1, x2 := x2, x3 := x3, x4 := x4, n := 0, e := -1 } = E at *
        clear hEX
        go_enter Try.func10, Try.ntmps10
        go_wp2_with fail
        refine (C1.out _).mono ?_
        rintro e w2 ⟨v, rfl, hT, hb2⟩
        have HB2 : Hid (Below w.heap.size w w2) := (two_newO w _ _).trans (hb2.mono (two_newO w _ _).size)
        have HR2 : Hid (Row w2 (w.heap.size + 1) 6) := HR0.out.below hb2 (by simp)
        have hs2 : w.heap.size + 1 < w2.heap.size := by have := hb2.size; simp at this; omega
        obtain ⟨d0, d1, d2, d3⟩ := st_cells hb2
        have hT2 := hT HZ.out
        obtain ⟨tg, tc, rfl⟩ := tk2_slice hT2 htp
        have HT2 : Hid (Tk2 w2 (.slice (some ⟨tg, 0, none⟩) toks.length tc) toks) := hT2
        clear hT hb2 hT2
        go_wp2_with fail
        refine (CG.out _).mono ?_
        rintro e w3 ⟨rfl, hb3⟩
        have hc3 : CodeAt (w3.alloc (.cells #[.slice (some ⟨tg, 0, none⟩) toks.length tc] 61)) w3.heap.size toks := tk2_at (HT2.out.below hb3) htp _
        have e0 := (hb3.cell (p := ⟨w.heap.size, 0, none⟩) (by show w.heap.size < _; omega)).trans d0
        have e1 := (hb3.cell (p := ⟨w.heap.size, 1, none⟩) (by show w.heap.size < _; omega)).trans d1
        have e2 := (hb3.cell (p := ⟨w.heap.size, 2, none⟩) (by show w.heap.size < _; omega)).trans d2
        have e3 := (hb3.cell (p := ⟨w.heap.size, 3, none⟩) (by show w.heap.size < _; omega)).trans d3
        have hs3 : w.heap.size + 1 < w3.heap.size := by have := hb3.size; omega
        have HB3 : Hid (Below w.heap.size w w3) := HB2.out.trans (hb3.mono HB2.out.size)
        have HR3 : Hid (Row w3 (w.heap.size + 1) 6) := HR2.out.below hb3 hs2
        have HRA : Hid (RunAt (w3.alloc (.cells #[.slice (some ⟨tg, 0, none⟩) toks.length tc] 61) |>.alloc (.cells #[.pointer (some ⟨w3.heap.size, 0, none⟩), .int .i64 x1, .int .i64 x2, .int .i64 x3, .int .i64 x4, .int .i64 0, .int .i64 fuel, .int .i64 (-1)] 64)) (w3.heap.size + 1) w3.heap.size toks fuel { x1 := x1, x2 := x2, x3 := x3, x4 := x4, n := 0, e := -1 }) := run_new hc3
        have HC3 : Hid (CodeAt (w3.alloc (.cells #[.slice (some ⟨tg, 0, none⟩) toks.length tc] 61) |>.alloc (.cells #[.pointer (some ⟨w3.heap.size, 0, none⟩), .int .i64 x1, .int .i64 x2, .int .i64 x3, .int .i64 x4, .int .i64 0, .int .i64 fuel, .int .i64 (-1)] 64)) w3.heap.size toks) := hc3.below (below_alloc _ _)
        have g0 := ((below_alloc w3 (.cells #[.slice (some ⟨tg, 0, none⟩) toks.length tc] 61)).cell (p := ⟨w.heap.size, 0, none⟩) (by show w.heap.size < _; omega)).trans e0
        have g1 := ((below_alloc w3 (.cells #[.slice (some ⟨tg, 0, none⟩) toks.length tc] 61)).cell (p := ⟨w.heap.size, 1, none⟩) (by show w.heap.size < _; omega)).trans e1
        have g2 := ((below_alloc w3 (.cells #[.slice (some ⟨tg, 0, none⟩) toks.length tc] 61)).cell (p := ⟨w.heap.size, 2, none⟩) (by show w.heap.size < _; omega)).trans e2
        have g3 := ((below_alloc w3 (.cells #[.slice (some ⟨tg, 0, none⟩) toks.length tc] 61)).cell (p := ⟨w.heap.size, 3, none⟩) (by show w.heap.size < _; omega)).trans e3
        clear d0 d1 d2 d3 hb3 HT2 HB2 HR2 hc3 e0 e1 e2 e3
        go_wp2_with fail
        refine (CP.out _ _ HC3.out).mono ?_
        rintro e w4 ⟨rfl, hb4⟩
        have HA4 : Hid (RunAt w4 (w3.heap.size + 1) w3.heap.size toks fuel { x1 := x1, x2 := x2, x3 := x3, x4 := x4, n := 0, e := -1 }) := HRA.out.below hb4
        have hs4 : w3.heap.size + 1 < w4.heap.size := by have := hb4.size; simp at this; omega
        have HB4 : Hid (Below w.heap.size w w4) := ((HB3.out.alloc (by omega) _).alloc (by simp; omega) _).trans (hb4.mono (by simp; omega))
        have HR4 : Hid (Row w4 (w.heap.size + 1) 6) := (((HR3.out.alloc hs3 _).alloc (by simp; omega) _)).below hb4 (by simp; omega)
        clear g0 g1 g2 g3 hb4 HRA HC3 HB3 HR3
        go_wp2_with fail
        refine (CA.out _ _ _ HA4.out).mono ?_
        rintro e w5 ⟨rfl, A5, K5⟩
        have HB5 : Hid (Below w.heap.size w w5) := Kp.below HB4.out K5 (by omega)
        have HR5 : Hid (Row w5 (w.heap.size + 1) 6) := HR4.out.kpOld K5 (by omega) (by omega)
        have c7 := A5.c7
        have f7 := A5.f 7
        have HA5 : Hid (RunAt w5 (w3.heap.size + 1) w3.heap.size toks fuel E) := A5
        clear A5 K5 HB4 HR4 HA4
        by_cases hE : E.e < 0
        · have HO6 : Hid (oV E = [.int .i64 0, .int .i64 E.x1, .int .i64 E.x2, .int .i64 E.x3, .int .i64 E.x4, .int .i64 E.n]) := by
            show _ = _
            unfold oV kn
            rw [if_pos hE]
          have hEd : decide (E.e < 0) = true := decide_eq_true hE
          have h6 : RunAt (w5.setCell ⟨w3.heap.size + 1, 7, none⟩ (.int .i64 0)) (w3.heap.size + 1) w3.heap.size toks fuel { E with e := 0 } := HA5.out.put 7 0 (by decide) rfl rfl rfl rfl rfl (by decide) rfl (by decide)
          have hr6 : Row (w5.setCell ⟨w3.heap.size + 1, 7, none⟩ (.int .i64 0)) (w.heap.size + 1) 6 := HR5.out.other _ _ _ (by omega)
          have hb6 : Below w.heap.size w (w5.setCell ⟨w3.heap.size + 1, 7, none⟩ (.int .i64 0)) := HB5.out.setCell (p := ⟨w3.heap.size + 1, 7, none⟩) (by show w.heap.size ≤ w3.heap.size + 1; omega) _
          go_wp2_with fail
          generalize hw6 : w5.setCell ⟨w3.heap.size + 1, 7, none⟩ (.int .i64 0) = w6 at *
          generalize hs6 : ({ E with e := 0 } : RS) = s6 at *
          have HA6 : Hid (RunAt w6 (w3.heap.size + 1) w3.heap.size toks fuel s6) := h6
          have HR6 : Hid (Row w6 (w.heap.size + 1) 6) := hr6
          have HB6 : Hid (Below w.heap.size w w6) := hb6
          have HO6 : Hid (oV E = [.int .i64 s6.e, .int .i64 s6.x1, .int .i64 s6.x2, .int .i64 s6.x3, .int .i64 s6.x4, .int .i64 s6.n]) := by rw [← hs6]; exact HO6.out
          clear h6 hr6 hb6 c7 f7 hw6 hs6 HA5 HR5 HB5
          have c1 := HA6.out.c1
          have c2 := HA6.out.c2
          have c3 := HA6.out.c3
          have c4 := HA6.out.c4
          have c5 := HA6.out.c5
          have c7 := HA6.out.c7
          have hne1 : ¬ w.heap.size + 1 = w3.heap.size + 1 := by omega
          have hne2 : ¬ w3.heap.size + 1 = w.heap.size + 1 := by omega
          obtain ⟨⟨u0, z0⟩, f0⟩ := HR6.out.cell 0 (by omega)
          obtain ⟨⟨u1, z1⟩, f1⟩ := HR6.out.cell 1 (by omega)
          obtain ⟨⟨u2, z2⟩, f2⟩ := HR6.out.cell 2 (by omega)
          obtain ⟨⟨u3, z3⟩, f3⟩ := HR6.out.cell 3 (by omega)
          obtain ⟨⟨u4, z4⟩, f4⟩ := HR6.out.cell 4 (by omega)
          obtain ⟨⟨u5, z5⟩, f5⟩ := HR6.out.cell 5 (by omega)
          go_region
          go_wp2_with fail
          exact post3d (X := w6) (B := w.heap.size + 1) [.int .i64 s6.e, .int .i64 s6.x1, .int .i64 s6.x2, .int .i64 s6.x3, .int .i64 s6.x4, .int .i64 s6.n] Try.results10 rfl rfl rfl Try.underlying31 rfl Try.infoOut HR6.out rfl ⟨by rw [HR.out]; (rw [HO6.out]) <;> rfl, (below_cells (by omega) _ _ _ HB6.out).drew⟩
        · have HO6 : Hid (oV E = [.int .i64 E.e, .int .i64 E.x1, .int .i64 E.x2, .int .i64 E.x3, .int .i64 E.x4, .int .i64 E.n]) := by
            show _ = _
            unfold oV kn
            rw [if_neg hE]
          have hEd : decide (E.e < 0) = false := decide_eq_false hE
          go_wp2_with fail
          have HA6 := HA5
          have HR6 := HR5
          have HB6 := HB5
          clear HA5 HR5 HB5 c7 f7
          generalize w5 = w6 at *
          generalize E = s6 at *
          have c1 := HA6.out.c1
          have c2 := HA6.out.c2
          have c3 := HA6.out.c3
          have c4 := HA6.out.c4
          have c5 := HA6.out.c5
          have c7 := HA6.out.c7
          have hne1 : ¬ w.heap.size + 1 = w3.heap.size + 1 := by omega
          have hne2 : ¬ w3.heap.size + 1 = w.heap.size + 1 := by omega
          obtain ⟨⟨u0, z0⟩, f0⟩ := HR6.out.cell 0 (by omega)
          obtain ⟨⟨u1, z1⟩, f1⟩ := HR6.out.cell 1 (by omega)
          obtain ⟨⟨u2, z2⟩, f2⟩ := HR6.out.cell 2 (by omega)
          obtain ⟨⟨u3, z3⟩, f3⟩ := HR6.out.cell 3 (by omega)
          obtain ⟨⟨u4, z4⟩, f4⟩ := HR6.out.cell 4 (by omega)
          obtain ⟨⟨u5, z5⟩, f5⟩ := HR6.out.cell 5 (by omega)
          go_region
          go_wp2_with fail
          exact post3d (X := w6) (B := w.heap.size + 1) [.int .i64 s6.e, .int .i64 s6.x1, .int .i64 s6.x2, .int .i64 s6.x3, .int .i64 s6.x4, .int .i64 s6.n] Try.results10 rfl rfl rfl Try.underlying31 rfl Try.infoOut HR6.out rfl ⟨by rw [HR.out]; (rw [HO6.out]) <;> rfl, (below_cells (by omega) _ _ _ HB6.out).drew⟩
  · have h0' : ((answer s).1 != 0) = true := by simpa using h0
    have HR : Hid (dAns s x1 x2 x3 x4 fuel c = (r0, (answer s).1, (answer s).2)) := by
      show _ = _
      unfold dAns
      rw [if_pos h0]
    clear hP CG h0
    generalize dAns s x1 x2 x3 x4 fuel c = R at *
    generalize tokAt 0 (Av.rest s 0) = toks at *
    generalize answer s = W at *
    go_enter Try.func10, Try.ntmps10
    go_wp2_with fail
    refine (C1.out _).mono ?_
    rintro e w2 ⟨v, rfl, hT, hb2⟩
    have HB2 : Hid (Below w.heap.size w w2) := (two_newO w _ _).trans (hb2.mono (two_newO w _ _).size)
    have HR2 : Hid (Row w2 (w.heap.size + 1) 6) := HR0.out.below hb2 (by simp)
    have hs2 : w.heap.size + 1 < w2.heap.size := by have := hb2.size; simp at this; omega
    obtain ⟨d0, d1, d2, d3⟩ := st_cells hb2
    clear hT hb2 d0 d1 d2 d3
    have hth := HR2.out.there 0 6 (by omega)
    go_wp2_with (refine wpList_store_mid rfl 31 (.tmp 6) (.tmp 26) rfl (w.heap.size + 1) 0 #[.int .i64 0, .int .i64 0, .int .i64 0, .int .i64 0, .int .i64 0, .int .i64 0] rfl rfl ?_ ?_ ?_ ?_; (exact hth); (exact Try.infoOut); (exact zero6a))
    exact post3 [.int .i64 0, .int .i64 0, .int .i64 0, .int .i64 0, .int .i64 0, .int .i64 0] Try.results10 rfl rfl rfl Try.underlying31 rfl Try.infoOut HR2.out rfl ⟨by (rw [HR.out]) <;> rfl, below_cells (by omega) _ _ _ (HB2.out)⟩
end Go.Proofs.Ytmpbgbdhpahpjaa.Vl
