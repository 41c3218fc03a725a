/-
  The statements' proves.
-/
import Derived.Test.YtkinoehmcfhgbaaGreatDoorE6
import Derived.Test.YtkinoehmcfhgbaaGreatDoorT18
import Derived.Test.YtkinoehmcfhgbaaGreatDoorE1
import Derived.BigRegion
set_option linter.unusedVariables false
set_option linter.unusedSimpArgs false
namespace Go.Proofs.YtkinoehmcfhgbaaGreatDoor.Vl
open Go.RowKit

theorem Blk.set7 {X : World} {b : Nat} {ty : TypeId} {a0 a1 a2 a3 a4 a5 a6 : Value} (h : Blk X b ty [a0, a1, a2, a3, a4, a5, a6]) (v0 v1 v2 v3 v4 v5 v6 : Value) : Blk (((((((X.setCell ⟨b, 0, none⟩ v0).setCell ⟨b, 1, none⟩ v1).setCell ⟨b, 2, none⟩ v2).setCell ⟨b, 3, none⟩ v3).setCell ⟨b, 4, none⟩ v4).setCell ⟨b, 5, none⟩ v5).setCell ⟨b, 6, none⟩ v6) b ty [v0, v1, v2, v3, v4, v5, v6] := (((((((h.set 0 v0).set 1 v1).set 2 v2).set 3 v3).set 4 v4).set 5 v5).set 6 v6)
theorem below_set1 {w X : World} {b : Nat} (h : Below w.heap.size w X) (o : Nat) (v : Value) (hb : w.heap.size ≤ b := by omega) : Below w.heap.size w (X.setCell ⟨b, o, none⟩ v) := h.grown (grown_set b o v X) h.size (fun j hj => by cases hj; exact hb)
set_option maxRecDepth 100000 in
set_option maxHeartbeats 4000000 in
theorem proves_e7 (s : ByteArray) (bu : Int) (w : World) {b0 : Bool}
    (CF : Hid (∀ X, Below w.heap.size w X → Calls Tryz.prog 48 #[.string s, .int .i64 bu] X fun e w' => ∃ pv, e = .returned (.tuple #[.agg #[.int .i64 0, .int .i64 0, .int .i64 0, .int .i64 0, .int .i64 0, .int .i64 0, pv], .int .i64 7, .bool true]) ∧ Txts w' pv [] ∧ Below X.heap.size X w'))
    (CV : Hid (∀ X, Calls Tryz.prog 49 #[.string s, .agg #[.int .i64 0, .int .i64 0, .int .i64 0, .int .i64 0]] X fun e w' => e = .returned (.tuple #[.bool b0, .int .i64 7]) ∧ Below X.heap.size X w')) :
    Calls Tryz.prog 23 #[.string s, .int .i64 bu] w fun e w' => ∃ q c, e = .returned (.tuple #[.agg #[.int .i64 0, .int .i64 0, .int .i64 0, .int .i64 0, .int .i64 0, .int .i64 0, (.slice q 0 c)], .bool true]) ∧ Below w.heap.size w w' := by
  have CN : Hid (∀ k w, Calls Tryz.prog 13 #[.int .i64 k] w fun e w' => e = .returned (.int .i64 k) ∧ w = w') := numP_any
  have HR0 : Hid (Blk (w.alloc (.cells #[.int .i64 0, .int .i64 0, .int .i64 0, .int .i64 0, .int .i64 0, .int .i64 0, .slice none 0 0] 51)) w.heap.size 51 [.int .i64 0, .int .i64 0, .int .i64 0, .int .i64 0, .int .i64 0, .int .i64 0, .slice none 0 0]) := heap_alloc_new w _
  have h0s : (w.alloc (.cells #[.int .i64 0, .int .i64 0, .int .i64 0, .int .i64 0, .int .i64 0, .int .i64 0, .slice none 0 0] 51)).heap.size = w.heap.size + 1 := by simp
  have HB0 : Hid (Below w.heap.size w (w.alloc (.cells #[.int .i64 0, .int .i64 0, .int .i64 0, .int .i64 0, .int .i64 0, .int .i64 0, .slice none 0 0] 51))) := below_alloc w _
  go_enter Tryz.func23, Tryz.ntmps23
  go_wp2_with fail
  refine Calls.mono (CF.out _ HB0.out) ?_
  generalize (w.alloc (.cells #[.int .i64 0, .int .i64 0, .int .i64 0, .int .i64 0, .int .i64 0, .int .i64 0, .slice none 0 0] 51)) = w0 at *
  rintro e w1 ⟨pv, rfl, ht1, hb1⟩
  obtain ⟨q, c, rfl⟩ := ht1.shape
  have HT1 : Hid (Txts w1 (.slice q ([] : List (List UInt8)).length c) []) := ht1
  simp only [List.length_nil, List.length_cons] at HT1 ⊢
  clear ht1 CF
  go_wp2_with fail
  refine Calls.mono (CV.out _) ?_
  rintro e w2 ⟨rfl, hb2⟩
  have hA2 : Blk w2 w1.heap.size 51 [.int .i64 0, .int .i64 0, .int .i64 0, .int .i64 0, .int .i64 0, .int .i64 0, (.slice q 0 c)] := Blk.below (w := w1.alloc (.cells #[.int .i64 0, .int .i64 0, .int .i64 0, .int .i64 0, .int .i64 0, .int .i64 0, (.slice q 0 c)] 51)) (heap_alloc_new w1 _) hb2
  have h1s := hb1.size
  have b02 : Below w0.heap.size w0 w2 := (hb1.alloc (by omega) _).trans (hb2.mono (by simp; omega))
  have HT2 : Hid (Txts w2 (.slice q 0 c) []) := (HT1.out.below (below_alloc w1 _)).below hb2
  have HA2 : Hid (Blk w2 w1.heap.size 51 [.int .i64 0, .int .i64 0, .int .i64 0, .int .i64 0, .int .i64 0, .int .i64 0, (.slice q 0 c)]) := hA2
  have HB2 : Hid (Below w0.heap.size w0 w2) := b02
  clear hb1 hb2 hA2 b02 HT1 CV
  obtain ⟨ce, HCE⟩ : ∃ ce : List Value, Hid (ce = [.int .i64 0, .int .i64 0, .int .i64 0, .int .i64 0, .int .i64 0, .int .i64 0, (.slice q 0 c)]) := ⟨_, rfl⟩
  have honA : (#[.int .i64 0, .int .i64 0, .int .i64 0, .int .i64 0, .int .i64 0, .int .i64 0, (.slice q 0 c)] : Array Value).all (·.oneCell') = true := by simp [Value.oneCell']
  have HFIN : Hid (∀ X, Below w0.heap.size w0 X → Av.Row X w.heap.size 7 ∧ (loadVar 51 ⟨w.heap.size, 0, none⟩).run Tryz.prog (X.setCells w.heap.size 0 ce) = .ok (.agg ce.toArray) (X.setCells w.heap.size 0 ce) ∧ Below w.heap.size w (X.setCells w.heap.size 0 ce)) := fun X hX => by
    have hR7 : Av.Row X w.heap.size 7 := Blk.row (HR0.out.below hX) (fun u hu => by simp at hu; rcases hu with rfl | rfl <;> rfl)
    exact ⟨hR7, ansV_load (World.rangeAt_setCells_same X w.heap.size 0 ce (by rw [HCE.out]; exact hR7.there 0 7 (by omega))) (by rw [HCE.out]; rfl), below_cellsN (Nat.le_refl _) _ 0 w X (HB0.out.trans (hX.mono HB0.out.size))⟩
  have HR2 : Hid (Blk w2 w.heap.size 51 [.int .i64 0, .int .i64 0, .int .i64 0, .int .i64 0, .int .i64 0, .int .i64 0, .slice none 0 0]) := HR0.out.below HB2.out
  obtain ⟨F, hF⟩ : ∃ F, (((((((w2.setCell ⟨w.heap.size, 0, none⟩ (.int .i64 0)).setCell ⟨w.heap.size, 1, none⟩ (.int .i64 0)).setCell ⟨w.heap.size, 2, none⟩ (.int .i64 0)).setCell ⟨w.heap.size, 3, none⟩ (.int .i64 0)).setCell ⟨w.heap.size, 4, none⟩ (.int .i64 0)).setCell ⟨w.heap.size, 5, none⟩ (.int .i64 0)).setCell ⟨w.heap.size, 6, none⟩ (.slice q 0 c)).drew = F := ⟨_, rfl⟩
  have hFB : Blk F w.heap.size 51 [.int .i64 0, .int .i64 0, .int .i64 0, .int .i64 0, .int .i64 0, .int .i64 0, (.slice q 0 c)] := by rw [← hF]; exact Blk.drew (Blk.set7 HR2.out (.int .i64 0) (.int .i64 0) (.int .i64 0) (.int .i64 0) (.int .i64 0) (.int .i64 0) (.slice q 0 c))
  have HLD : Hid ((loadVar 51 ⟨w.heap.size, 0, none⟩).run Tryz.prog F = .ok (.agg #[.int .i64 0, .int .i64 0, .int .i64 0, .int .i64 0, .int .i64 0, .int .i64 0, (.slice q 0 c)]) F) := ansV_load hFB.range rfl
  have HF : Hid (Below w.heap.size w F) := by show Below _ _ _; rw [← hF]; exact Below.drew (below_set1 (below_set1 (below_set1 (below_set1 (below_set1 (below_set1 (below_set1 (HB0.out.trans (HB2.out.mono HB0.out.size)) 0 (.int .i64 0)) 1 (.int .i64 0)) 2 (.int .i64 0)) 3 (.int .i64 0)) 4 (.int .i64 0)) 5 (.int .i64 0)) 6 (.slice q 0 c))
  have HFE : Hid ((((((((w2.setCell ⟨w.heap.size, 0, none⟩ (.int .i64 0)).setCell ⟨w.heap.size, 1, none⟩ (.int .i64 0)).setCell ⟨w.heap.size, 2, none⟩ (.int .i64 0)).setCell ⟨w.heap.size, 3, none⟩ (.int .i64 0)).setCell ⟨w.heap.size, 4, none⟩ (.int .i64 0)).setCell ⟨w.heap.size, 5, none⟩ (.int .i64 0)).setCell ⟨w.heap.size, 6, none⟩ (.slice q 0 c)).drew = F) := hF
  clear hFB hF
  have n0 : w2.cell? ⟨w1.heap.size, 0, none⟩ = some (.int .i64 0) := HA2.out.cell rfl
  have n1 : w2.cell? ⟨w1.heap.size, 1, none⟩ = some (.int .i64 0) := HA2.out.cell rfl
  have n2 : w2.cell? ⟨w1.heap.size, 2, none⟩ = some (.int .i64 0) := HA2.out.cell rfl
  have n3 : w2.cell? ⟨w1.heap.size, 3, none⟩ = some (.int .i64 0) := HA2.out.cell rfl
  have n4 : w2.cell? ⟨w1.heap.size, 4, none⟩ = some (.int .i64 0) := HA2.out.cell rfl
  have n5 : w2.cell? ⟨w1.heap.size, 5, none⟩ = some (.int .i64 0) := HA2.out.cell rfl
  have n6 : w2.cell? ⟨w1.heap.size, 6, none⟩ = some ((.slice q 0 c)) := HA2.out.cell rfl
  have nl := HA2.out.lt
  have hq := fun X => eqlS X 0 0 0 0 0 0 0 0
  have r0 : w2.cell? ⟨w.heap.size, 0, none⟩ = some (.int .i64 0) := HR2.out.cell rfl
  have s0 : w2.frozen? ⟨w.heap.size, 0, none⟩ = false := HR2.out.free 0
  have r1 : w2.cell? ⟨w.heap.size, 1, none⟩ = some (.int .i64 0) := HR2.out.cell rfl
  have s1 : w2.frozen? ⟨w.heap.size, 1, none⟩ = false := HR2.out.free 1
  have r2 : w2.cell? ⟨w.heap.size, 2, none⟩ = some (.int .i64 0) := HR2.out.cell rfl
  have s2 : w2.frozen? ⟨w.heap.size, 2, none⟩ = false := HR2.out.free 2
  have r3 : w2.cell? ⟨w.heap.size, 3, none⟩ = some (.int .i64 0) := HR2.out.cell rfl
  have s3 : w2.frozen? ⟨w.heap.size, 3, none⟩ = false := HR2.out.free 3
  have r4 : w2.cell? ⟨w.heap.size, 4, none⟩ = some (.int .i64 0) := HR2.out.cell rfl
  have s4 : w2.frozen? ⟨w.heap.size, 4, none⟩ = false := HR2.out.free 4
  have r5 : w2.cell? ⟨w.heap.size, 5, none⟩ = some (.int .i64 0) := HR2.out.cell rfl
  have s5 : w2.frozen? ⟨w.heap.size, 5, none⟩ = false := HR2.out.free 5
  have r6 : w2.cell? ⟨w.heap.size, 6, none⟩ = some (.slice none 0 0) := HR2.out.cell rfl
  have s6 : w2.frozen? ⟨w.heap.size, 6, none⟩ = false := HR2.out.free 6
  have rl := HR2.out.lt
  have hne : ¬ w.heap.size = w1.heap.size := by omega
  have hne2 : ¬ w1.heap.size = w.heap.size := by omega
  clear HFIN HA2 HT2 HB2
  go_wp2_with (go_at_call 13; refine (CN.out _ _).mono ?_; rintro e w' ⟨rfl, rfl⟩)
  go_region
  go_wp2_with fail
  rw [HFE.out]
  exact bodyPost_ret (results_c2 rfl rfl rfl HLD.out) rfl ⟨_, _, rfl, HF.out⟩
set_option maxRecDepth 100000 in
set_option maxHeartbeats 4000000 in
theorem proves_e8a (s : ByteArray) (bu : Int) (w : World) {b0 : Bool} (hb : bu < 0)
    (CF : Hid (∀ X, Below w.heap.size w X → Calls Tryz.prog 48 #[.string s, .int .i64 bu] X fun e w' => ∃ pv, e = .returned (.tuple #[.agg #[.int .i64 0, .int .i64 0, .int .i64 0, .int .i64 0, .int .i64 0, .int .i64 0, pv], .int .i64 8, .bool true]) ∧ Txts w' pv [] ∧ Below X.heap.size X w'))
    (CV : Hid (∀ X, Calls Tryz.prog 49 #[.string s, .agg #[.int .i64 0, .int .i64 0, .int .i64 0, .int .i64 0]] X fun e w' => e = .returned (.tuple #[.bool b0, .int .i64 0]) ∧ Below X.heap.size X w')) :
    Calls Tryz.prog 23 #[.string s, .int .i64 bu] w fun e w' => ∃ q c, e = .returned (.tuple #[.agg #[.int .i64 0, .int .i64 0, .int .i64 0, .int .i64 0, .int .i64 0, .int .i64 0, (.slice q 0 c)], .bool true]) ∧ Below w.heap.size w w' := by
  have CN : Hid (∀ k w, Calls Tryz.prog 13 #[.int .i64 k] w fun e w' => e = .returned (.int .i64 k) ∧ w = w') := numP_any
  have HR0 : Hid (Blk (w.alloc (.cells #[.int .i64 0, .int .i64 0, .int .i64 0, .int .i64 0, .int .i64 0, .int .i64 0, .slice none 0 0] 51)) w.heap.size 51 [.int .i64 0, .int .i64 0, .int .i64 0, .int .i64 0, .int .i64 0, .int .i64 0, .slice none 0 0]) := heap_alloc_new w _
  have h0s : (w.alloc (.cells #[.int .i64 0, .int .i64 0, .int .i64 0, .int .i64 0, .int .i64 0, .int .i64 0, .slice none 0 0] 51)).heap.size = w.heap.size + 1 := by simp
  have HB0 : Hid (Below w.heap.size w (w.alloc (.cells #[.int .i64 0, .int .i64 0, .int .i64 0, .int .i64 0, .int .i64 0, .int .i64 0, .slice none 0 0] 51))) := below_alloc w _
  go_enter Tryz.func23, Tryz.ntmps23
  go_wp2_with fail
  refine Calls.mono (CF.out _ HB0.out) ?_
  generalize (w.alloc (.cells #[.int .i64 0, .int .i64 0, .int .i64 0, .int .i64 0, .int .i64 0, .int .i64 0, .slice none 0 0] 51)) = w0 at *
  rintro e w1 ⟨pv, rfl, ht1, hb1⟩
  obtain ⟨q, c, rfl⟩ := ht1.shape
  have HT1 : Hid (Txts w1 (.slice q ([] : List (List UInt8)).length c) []) := ht1
  simp only [List.length_nil, List.length_cons] at HT1 ⊢
  clear ht1 CF
  go_wp2_with fail
  refine Calls.mono (CV.out _) ?_
  rintro e w2 ⟨rfl, hb2⟩
  have hA2 : Blk w2 w1.heap.size 51 [.int .i64 0, .int .i64 0, .int .i64 0, .int .i64 0, .int .i64 0, .int .i64 0, (.slice q 0 c)] := Blk.below (w := w1.alloc (.cells #[.int .i64 0, .int .i64 0, .int .i64 0, .int .i64 0, .int .i64 0, .int .i64 0, (.slice q 0 c)] 51)) (heap_alloc_new w1 _) hb2
  have h1s := hb1.size
  have b02 : Below w0.heap.size w0 w2 := (hb1.alloc (by omega) _).trans (hb2.mono (by simp; omega))
  have HT2 : Hid (Txts w2 (.slice q 0 c) []) := (HT1.out.below (below_alloc w1 _)).below hb2
  have HA2 : Hid (Blk w2 w1.heap.size 51 [.int .i64 0, .int .i64 0, .int .i64 0, .int .i64 0, .int .i64 0, .int .i64 0, (.slice q 0 c)]) := hA2
  have HB2 : Hid (Below w0.heap.size w0 w2) := b02
  clear hb1 hb2 hA2 b02 HT1 CV
  obtain ⟨ce, HCE⟩ : ∃ ce : List Value, Hid (ce = [.int .i64 0, .int .i64 0, .int .i64 0, .int .i64 0, .int .i64 0, .int .i64 0, (.slice q 0 c)]) := ⟨_, rfl⟩
  have honA : (#[.int .i64 0, .int .i64 0, .int .i64 0, .int .i64 0, .int .i64 0, .int .i64 0, (.slice q 0 c)] : Array Value).all (·.oneCell') = true := by simp [Value.oneCell']
  have HFIN : Hid (∀ X, Below w0.heap.size w0 X → Av.Row X w.heap.size 7 ∧ (loadVar 51 ⟨w.heap.size, 0, none⟩).run Tryz.prog (X.setCells w.heap.size 0 ce) = .ok (.agg ce.toArray) (X.setCells w.heap.size 0 ce) ∧ Below w.heap.size w (X.setCells w.heap.size 0 ce)) := fun X hX => by
    have hR7 : Av.Row X w.heap.size 7 := Blk.row (HR0.out.below hX) (fun u hu => by simp at hu; rcases hu with rfl | rfl <;> rfl)
    exact ⟨hR7, ansV_load (World.rangeAt_setCells_same X w.heap.size 0 ce (by rw [HCE.out]; exact hR7.there 0 7 (by omega))) (by rw [HCE.out]; rfl), below_cellsN (Nat.le_refl _) _ 0 w X (HB0.out.trans (hX.mono HB0.out.size))⟩
  have HR2 : Hid (Blk w2 w.heap.size 51 [.int .i64 0, .int .i64 0, .int .i64 0, .int .i64 0, .int .i64 0, .int .i64 0, .slice none 0 0]) := HR0.out.below HB2.out
  obtain ⟨F, hF⟩ : ∃ F, (((((((w2.setCell ⟨w.heap.size, 0, none⟩ (.int .i64 0)).setCell ⟨w.heap.size, 1, none⟩ (.int .i64 0)).setCell ⟨w.heap.size, 2, none⟩ (.int .i64 0)).setCell ⟨w.heap.size, 3, none⟩ (.int .i64 0)).setCell ⟨w.heap.size, 4, none⟩ (.int .i64 0)).setCell ⟨w.heap.size, 5, none⟩ (.int .i64 0)).setCell ⟨w.heap.size, 6, none⟩ (.slice q 0 c)).drew = F := ⟨_, rfl⟩
  have hFB : Blk F w.heap.size 51 [.int .i64 0, .int .i64 0, .int .i64 0, .int .i64 0, .int .i64 0, .int .i64 0, (.slice q 0 c)] := by rw [← hF]; exact Blk.drew (Blk.set7 HR2.out (.int .i64 0) (.int .i64 0) (.int .i64 0) (.int .i64 0) (.int .i64 0) (.int .i64 0) (.slice q 0 c))
  have HLD : Hid ((loadVar 51 ⟨w.heap.size, 0, none⟩).run Tryz.prog F = .ok (.agg #[.int .i64 0, .int .i64 0, .int .i64 0, .int .i64 0, .int .i64 0, .int .i64 0, (.slice q 0 c)]) F) := ansV_load hFB.range rfl
  have HF : Hid (Below w.heap.size w F) := by show Below _ _ _; rw [← hF]; exact Below.drew (below_set1 (below_set1 (below_set1 (below_set1 (below_set1 (below_set1 (below_set1 (HB0.out.trans (HB2.out.mono HB0.out.size)) 0 (.int .i64 0)) 1 (.int .i64 0)) 2 (.int .i64 0)) 3 (.int .i64 0)) 4 (.int .i64 0)) 5 (.int .i64 0)) 6 (.slice q 0 c))
  have HFE : Hid ((((((((w2.setCell ⟨w.heap.size, 0, none⟩ (.int .i64 0)).setCell ⟨w.heap.size, 1, none⟩ (.int .i64 0)).setCell ⟨w.heap.size, 2, none⟩ (.int .i64 0)).setCell ⟨w.heap.size, 3, none⟩ (.int .i64 0)).setCell ⟨w.heap.size, 4, none⟩ (.int .i64 0)).setCell ⟨w.heap.size, 5, none⟩ (.int .i64 0)).setCell ⟨w.heap.size, 6, none⟩ (.slice q 0 c)).drew = F) := hF
  clear hFB hF
  have n0 : w2.cell? ⟨w1.heap.size, 0, none⟩ = some (.int .i64 0) := HA2.out.cell rfl
  have n1 : w2.cell? ⟨w1.heap.size, 1, none⟩ = some (.int .i64 0) := HA2.out.cell rfl
  have n2 : w2.cell? ⟨w1.heap.size, 2, none⟩ = some (.int .i64 0) := HA2.out.cell rfl
  have n3 : w2.cell? ⟨w1.heap.size, 3, none⟩ = some (.int .i64 0) := HA2.out.cell rfl
  have n4 : w2.cell? ⟨w1.heap.size, 4, none⟩ = some (.int .i64 0) := HA2.out.cell rfl
  have n5 : w2.cell? ⟨w1.heap.size, 5, none⟩ = some (.int .i64 0) := HA2.out.cell rfl
  have n6 : w2.cell? ⟨w1.heap.size, 6, none⟩ = some ((.slice q 0 c)) := HA2.out.cell rfl
  have nl := HA2.out.lt
  have hq := fun X => eqlS X 0 0 0 0 0 0 0 0
  have r0 : w2.cell? ⟨w.heap.size, 0, none⟩ = some (.int .i64 0) := HR2.out.cell rfl
  have s0 : w2.frozen? ⟨w.heap.size, 0, none⟩ = false := HR2.out.free 0
  have r1 : w2.cell? ⟨w.heap.size, 1, none⟩ = some (.int .i64 0) := HR2.out.cell rfl
  have s1 : w2.frozen? ⟨w.heap.size, 1, none⟩ = false := HR2.out.free 1
  have r2 : w2.cell? ⟨w.heap.size, 2, none⟩ = some (.int .i64 0) := HR2.out.cell rfl
  have s2 : w2.frozen? ⟨w.heap.size, 2, none⟩ = false := HR2.out.free 2
  have r3 : w2.cell? ⟨w.heap.size, 3, none⟩ = some (.int .i64 0) := HR2.out.cell rfl
  have s3 : w2.frozen? ⟨w.heap.size, 3, none⟩ = false := HR2.out.free 3
  have r4 : w2.cell? ⟨w.heap.size, 4, none⟩ = some (.int .i64 0) := HR2.out.cell rfl
  have s4 : w2.frozen? ⟨w.heap.size, 4, none⟩ = false := HR2.out.free 4
  have r5 : w2.cell? ⟨w.heap.size, 5, none⟩ = some (.int .i64 0) := HR2.out.cell rfl
  have s5 : w2.frozen? ⟨w.heap.size, 5, none⟩ = false := HR2.out.free 5
  have r6 : w2.cell? ⟨w.heap.size, 6, none⟩ = some (.slice none 0 0) := HR2.out.cell rfl
  have s6 : w2.frozen? ⟨w.heap.size, 6, none⟩ = false := HR2.out.free 6
  have rl := HR2.out.lt
  have hne : ¬ w.heap.size = w1.heap.size := by omega
  have hne2 : ¬ w1.heap.size = w.heap.size := by omega
  clear HFIN HA2 HT2 HB2
  go_wp2_with (go_at_call 13; refine (CN.out _ _).mono ?_; rintro e w' ⟨rfl, rfl⟩)
  go_region
  go_wp2_with fail
  rw [HFE.out]
  exact bodyPost_ret (results_c2 rfl rfl rfl HLD.out) rfl ⟨_, _, rfl, HF.out⟩
set_option maxRecDepth 100000 in
set_option maxHeartbeats 4000000 in
theorem proves_e8b (s : ByteArray) (bu : Int) (w : World) {b0 : Bool} (hb0 : ¬ bu < 0) (hb : 20000 < bu)
    (CF : Hid (∀ X, Below w.heap.size w X → Calls Tryz.prog 48 #[.string s, .int .i64 bu] X fun e w' => ∃ pv, e = .returned (.tuple #[.agg #[.int .i64 0, .int .i64 0, .int .i64 0, .int .i64 0, .int .i64 0, .int .i64 0, pv], .int .i64 8, .bool true]) ∧ Txts w' pv [] ∧ Below X.heap.size X w'))
    (CV : Hid (∀ X, Calls Tryz.prog 49 #[.string s, .agg #[.int .i64 0, .int .i64 0, .int .i64 0, .int .i64 0]] X fun e w' => e = .returned (.tuple #[.bool b0, .int .i64 0]) ∧ Below X.heap.size X w')) :
    Calls Tryz.prog 23 #[.string s, .int .i64 bu] w fun e w' => ∃ q c, e = .returned (.tuple #[.agg #[.int .i64 0, .int .i64 0, .int .i64 0, .int .i64 0, .int .i64 0, .int .i64 0, (.slice q 0 c)], .bool true]) ∧ Below w.heap.size w w' := by
  have CN : Hid (∀ k w, Calls Tryz.prog 13 #[.int .i64 k] w fun e w' => e = .returned (.int .i64 k) ∧ w = w') := numP_any
  have HR0 : Hid (Blk (w.alloc (.cells #[.int .i64 0, .int .i64 0, .int .i64 0, .int .i64 0, .int .i64 0, .int .i64 0, .slice none 0 0] 51)) w.heap.size 51 [.int .i64 0, .int .i64 0, .int .i64 0, .int .i64 0, .int .i64 0, .int .i64 0, .slice none 0 0]) := heap_alloc_new w _
  have h0s : (w.alloc (.cells #[.int .i64 0, .int .i64 0, .int .i64 0, .int .i64 0, .int .i64 0, .int .i64 0, .slice none 0 0] 51)).heap.size = w.heap.size + 1 := by simp
  have HB0 : Hid (Below w.heap.size w (w.alloc (.cells #[.int .i64 0, .int .i64 0, .int .i64 0, .int .i64 0, .int .i64 0, .int .i64 0, .slice none 0 0] 51))) := below_alloc w _
  go_enter Tryz.func23, Tryz.ntmps23
  go_wp2_with fail
  refine Calls.mono (CF.out _ HB0.out) ?_
  generalize (w.alloc (.cells #[.int .i64 0, .int .i64 0, .int .i64 0, .int .i64 0, .int .i64 0, .int .i64 0, .slice none 0 0] 51)) = w0 at *
  rintro e w1 ⟨pv, rfl, ht1, hb1⟩
  obtain ⟨q, c, rfl⟩ := ht1.shape
  have HT1 : Hid (Txts w1 (.slice q ([] : List (List UInt8)).length c) []) := ht1
  simp only [List.length_nil, List.length_cons] at HT1 ⊢
  clear ht1 CF
  go_wp2_with fail
  refine Calls.mono (CV.out _) ?_
  rintro e w2 ⟨rfl, hb2⟩
  have hA2 : Blk w2 w1.heap.size 51 [.int .i64 0, .int .i64 0, .int .i64 0, .int .i64 0, .int .i64 0, .int .i64 0, (.slice q 0 c)] := Blk.below (w := w1.alloc (.cells #[.int .i64 0, .int .i64 0, .int .i64 0, .int .i64 0, .int .i64 0, .int .i64 0, (.slice q 0 c)] 51)) (heap_alloc_new w1 _) hb2
  have h1s := hb1.size
  have b02 : Below w0.heap.size w0 w2 := (hb1.alloc (by omega) _).trans (hb2.mono (by simp; omega))
  have HT2 : Hid (Txts w2 (.slice q 0 c) []) := (HT1.out.below (below_alloc w1 _)).below hb2
  have HA2 : Hid (Blk w2 w1.heap.size 51 [.int .i64 0, .int .i64 0, .int .i64 0, .int .i64 0, .int .i64 0, .int .i64 0, (.slice q 0 c)]) := hA2
  have HB2 : Hid (Below w0.heap.size w0 w2) := b02
  clear hb1 hb2 hA2 b02 HT1 CV
  obtain ⟨ce, HCE⟩ : ∃ ce : List Value, Hid (ce = [.int .i64 0, .int .i64 0, .int .i64 0, .int .i64 0, .int .i64 0, .int .i64 0, (.slice q 0 c)]) := ⟨_, rfl⟩
  have honA : (#[.int .i64 0, .int .i64 0, .int .i64 0, .int .i64 0, .int .i64 0, .int .i64 0, (.slice q 0 c)] : Array Value).all (·.oneCell') = true := by simp [Value.oneCell']
  have HFIN : Hid (∀ X, Below w0.heap.size w0 X → Av.Row X w.heap.size 7 ∧ (loadVar 51 ⟨w.heap.size, 0, none⟩).run Tryz.prog (X.setCells w.heap.size 0 ce) = .ok (.agg ce.toArray) (X.setCells w.heap.size 0 ce) ∧ Below w.heap.size w (X.setCells w.heap.size 0 ce)) := fun X hX => by
    have hR7 : Av.Row X w.heap.size 7 := Blk.row (HR0.out.below hX) (fun u hu => by simp at hu; rcases hu with rfl | rfl <;> rfl)
    exact ⟨hR7, ansV_load (World.rangeAt_setCells_same X w.heap.size 0 ce (by rw [HCE.out]; exact hR7.there 0 7 (by omega))) (by rw [HCE.out]; rfl), below_cellsN (Nat.le_refl _) _ 0 w X (HB0.out.trans (hX.mono HB0.out.size))⟩
  have HR2 : Hid (Blk w2 w.heap.size 51 [.int .i64 0, .int .i64 0, .int .i64 0, .int .i64 0, .int .i64 0, .int .i64 0, .slice none 0 0]) := HR0.out.below HB2.out
  obtain ⟨F, hF⟩ : ∃ F, (((((((w2.setCell ⟨w.heap.size, 0, none⟩ (.int .i64 0)).setCell ⟨w.heap.size, 1, none⟩ (.int .i64 0)).setCell ⟨w.heap.size, 2, none⟩ (.int .i64 0)).setCell ⟨w.heap.size, 3, none⟩ (.int .i64 0)).setCell ⟨w.heap.size, 4, none⟩ (.int .i64 0)).setCell ⟨w.heap.size, 5, none⟩ (.int .i64 0)).setCell ⟨w.heap.size, 6, none⟩ (.slice q 0 c)).drew = F := ⟨_, rfl⟩
  have hFB : Blk F w.heap.size 51 [.int .i64 0, .int .i64 0, .int .i64 0, .int .i64 0, .int .i64 0, .int .i64 0, (.slice q 0 c)] := by rw [← hF]; exact Blk.drew (Blk.set7 HR2.out (.int .i64 0) (.int .i64 0) (.int .i64 0) (.int .i64 0) (.int .i64 0) (.int .i64 0) (.slice q 0 c))
  have HLD : Hid ((loadVar 51 ⟨w.heap.size, 0, none⟩).run Tryz.prog F = .ok (.agg #[.int .i64 0, .int .i64 0, .int .i64 0, .int .i64 0, .int .i64 0, .int .i64 0, (.slice q 0 c)]) F) := ansV_load hFB.range rfl
  have HF : Hid (Below w.heap.size w F) := by show Below _ _ _; rw [← hF]; exact Below.drew (below_set1 (below_set1 (below_set1 (below_set1 (below_set1 (below_set1 (below_set1 (HB0.out.trans (HB2.out.mono HB0.out.size)) 0 (.int .i64 0)) 1 (.int .i64 0)) 2 (.int .i64 0)) 3 (.int .i64 0)) 4 (.int .i64 0)) 5 (.int .i64 0)) 6 (.slice q 0 c))
  have HFE : Hid ((((((((w2.setCell ⟨w.heap.size, 0, none⟩ (.int .i64 0)).setCell ⟨w.heap.size, 1, none⟩ (.int .i64 0)).setCell ⟨w.heap.size, 2, none⟩ (.int .i64 0)).setCell ⟨w.heap.size, 3, none⟩ (.int .i64 0)).setCell ⟨w.heap.size, 4, none⟩ (.int .i64 0)).setCell ⟨w.heap.size, 5, none⟩ (.int .i64 0)).setCell ⟨w.heap.size, 6, none⟩ (.slice q 0 c)).drew = F) := hF
  clear hFB hF
  have n0 : w2.cell? ⟨w1.heap.size, 0, none⟩ = some (.int .i64 0) := HA2.out.cell rfl
  have n1 : w2.cell? ⟨w1.heap.size, 1, none⟩ = some (.int .i64 0) := HA2.out.cell rfl
  have n2 : w2.cell? ⟨w1.heap.size, 2, none⟩ = some (.int .i64 0) := HA2.out.cell rfl
  have n3 : w2.cell? ⟨w1.heap.size, 3, none⟩ = some (.int .i64 0) := HA2.out.cell rfl
  have n4 : w2.cell? ⟨w1.heap.size, 4, none⟩ = some (.int .i64 0) := HA2.out.cell rfl
  have n5 : w2.cell? ⟨w1.heap.size, 5, none⟩ = some (.int .i64 0) := HA2.out.cell rfl
  have n6 : w2.cell? ⟨w1.heap.size, 6, none⟩ = some ((.slice q 0 c)) := HA2.out.cell rfl
  have nl := HA2.out.lt
  have hq := fun X => eqlS X 0 0 0 0 0 0 0 0
  have r0 : w2.cell? ⟨w.heap.size, 0, none⟩ = some (.int .i64 0) := HR2.out.cell rfl
  have s0 : w2.frozen? ⟨w.heap.size, 0, none⟩ = false := HR2.out.free 0
  have r1 : w2.cell? ⟨w.heap.size, 1, none⟩ = some (.int .i64 0) := HR2.out.cell rfl
  have s1 : w2.frozen? ⟨w.heap.size, 1, none⟩ = false := HR2.out.free 1
  have r2 : w2.cell? ⟨w.heap.size, 2, none⟩ = some (.int .i64 0) := HR2.out.cell rfl
  have s2 : w2.frozen? ⟨w.heap.size, 2, none⟩ = false := HR2.out.free 2
  have r3 : w2.cell? ⟨w.heap.size, 3, none⟩ = some (.int .i64 0) := HR2.out.cell rfl
  have s3 : w2.frozen? ⟨w.heap.size, 3, none⟩ = false := HR2.out.free 3
  have r4 : w2.cell? ⟨w.heap.size, 4, none⟩ = some (.int .i64 0) := HR2.out.cell rfl
  have s4 : w2.frozen? ⟨w.heap.size, 4, none⟩ = false := HR2.out.free 4
  have r5 : w2.cell? ⟨w.heap.size, 5, none⟩ = some (.int .i64 0) := HR2.out.cell rfl
  have s5 : w2.frozen? ⟨w.heap.size, 5, none⟩ = false := HR2.out.free 5
  have r6 : w2.cell? ⟨w.heap.size, 6, none⟩ = some (.slice none 0 0) := HR2.out.cell rfl
  have s6 : w2.frozen? ⟨w.heap.size, 6, none⟩ = false := HR2.out.free 6
  have rl := HR2.out.lt
  have hne : ¬ w.heap.size = w1.heap.size := by omega
  have hne2 : ¬ w1.heap.size = w.heap.size := by omega
  clear HFIN HA2 HT2 HB2
  go_wp2_with (go_at_call 13; refine (CN.out _ _).mono ?_; rintro e w' ⟨rfl, rfl⟩)
  go_region
  go_wp2_with fail
  rw [HFE.out]
  exact bodyPost_ret (results_c2 rfl rfl rfl HLD.out) rfl ⟨_, _, rfl, HF.out⟩
set_option maxRecDepth 100000 in
set_option maxHeartbeats 4000000 in
theorem proves_p (s : ByteArray) (bu : Int) (w : World) {b0 : Bool} {d : Int} (pf : List UInt8) (hb0 : ¬ bu < 0) (hb1 : ¬ 20000 < bu) (hn0 : ¬ bu = 0) (CC : Hid (∀ X, Calls Tryz.prog 50 #[.string s, .string ⟨pf.toArray⟩] X fun e w' => e = .returned (.tuple #[.bool true, .int .i64 d]) ∧ Below X.heap.size X w'))
    (CF : Hid (∀ X, Below w.heap.size w X → Calls Tryz.prog 48 #[.string s, .int .i64 bu] X fun e w' => ∃ pv, e = .returned (.tuple #[.agg #[.int .i64 0, .int .i64 0, .int .i64 0, .int .i64 0, .int .i64 0, .int .i64 0, pv], .int .i64 0, .bool true]) ∧ Txts w' pv [pf] ∧ Below X.heap.size X w'))
    (CV : Hid (∀ X, Calls Tryz.prog 49 #[.string s, .agg #[.int .i64 0, .int .i64 0, .int .i64 0, .int .i64 0]] X fun e w' => e = .returned (.tuple #[.bool b0, .int .i64 0]) ∧ Below X.heap.size X w')) :
    Calls Tryz.prog 23 #[.string s, .int .i64 bu] w fun e w' => ∃ q c, e = .returned (.tuple #[.agg #[.int .i64 0, .int .i64 0, .int .i64 0, .int .i64 0, .int .i64 0, .int .i64 0, (.slice q 1 c)], .bool true]) ∧ Below w.heap.size w w' := by
  have CN : Hid (∀ k w, Calls Tryz.prog 13 #[.int .i64 k] w fun e w' => e = .returned (.int .i64 k) ∧ w = w') := numP_any
  have HR0 : Hid (Blk (w.alloc (.cells #[.int .i64 0, .int .i64 0, .int .i64 0, .int .i64 0, .int .i64 0, .int .i64 0, .slice none 0 0] 51)) w.heap.size 51 [.int .i64 0, .int .i64 0, .int .i64 0, .int .i64 0, .int .i64 0, .int .i64 0, .slice none 0 0]) := heap_alloc_new w _
  have h0s : (w.alloc (.cells #[.int .i64 0, .int .i64 0, .int .i64 0, .int .i64 0, .int .i64 0, .int .i64 0, .slice none 0 0] 51)).heap.size = w.heap.size + 1 := by simp
  have HB0 : Hid (Below w.heap.size w (w.alloc (.cells #[.int .i64 0, .int .i64 0, .int .i64 0, .int .i64 0, .int .i64 0, .int .i64 0, .slice none 0 0] 51))) := below_alloc w _
  go_enter Tryz.func23, Tryz.ntmps23
  go_wp2_with fail
  refine Calls.mono (CF.out _ HB0.out) ?_
  generalize (w.alloc (.cells #[.int .i64 0, .int .i64 0, .int .i64 0, .int .i64 0, .int .i64 0, .int .i64 0, .slice none 0 0] 51)) = w0 at *
  rintro e w1 ⟨pv, rfl, ht1, hb1⟩
  obtain ⟨q, c, rfl⟩ := ht1.shape
  have HT1 : Hid (Txts w1 (.slice q ([pf] : List (List UInt8)).length c) [pf]) := ht1
  simp only [List.length_nil, List.length_cons] at HT1 ⊢
  clear ht1 CF
  go_wp2_with fail
  refine Calls.mono (CV.out _) ?_
  rintro e w2 ⟨rfl, hb2⟩
  have hA2 : Blk w2 w1.heap.size 51 [.int .i64 0, .int .i64 0, .int .i64 0, .int .i64 0, .int .i64 0, .int .i64 0, (.slice q 1 c)] := Blk.below (w := w1.alloc (.cells #[.int .i64 0, .int .i64 0, .int .i64 0, .int .i64 0, .int .i64 0, .int .i64 0, (.slice q 1 c)] 51)) (heap_alloc_new w1 _) hb2
  have h1s := hb1.size
  have b02 : Below w0.heap.size w0 w2 := (hb1.alloc (by omega) _).trans (hb2.mono (by simp; omega))
  have HT2 : Hid (Txts w2 (.slice q 1 c) [pf]) := (HT1.out.below (below_alloc w1 _)).below hb2
  have HA2 : Hid (Blk w2 w1.heap.size 51 [.int .i64 0, .int .i64 0, .int .i64 0, .int .i64 0, .int .i64 0, .int .i64 0, (.slice q 1 c)]) := hA2
  have HB2 : Hid (Below w0.heap.size w0 w2) := b02
  clear hb1 hb2 hA2 b02 HT1 CV
  obtain ⟨ce, HCE⟩ : ∃ ce : List Value, Hid (ce = [.int .i64 0, .int .i64 0, .int .i64 0, .int .i64 0, .int .i64 0, .int .i64 0, (.slice q 1 c)]) := ⟨_, rfl⟩
  have honA : (#[.int .i64 0, .int .i64 0, .int .i64 0, .int .i64 0, .int .i64 0, .int .i64 0, (.slice q 1 c)] : Array Value).all (·.oneCell') = true := by simp [Value.oneCell']
  have HFIN : Hid (∀ X, Below w0.heap.size w0 X → Av.Row X w.heap.size 7 ∧ (loadVar 51 ⟨w.heap.size, 0, none⟩).run Tryz.prog (X.setCells w.heap.size 0 ce) = .ok (.agg ce.toArray) (X.setCells w.heap.size 0 ce) ∧ Below w.heap.size w (X.setCells w.heap.size 0 ce)) := fun X hX => by
    have hR7 : Av.Row X w.heap.size 7 := Blk.row (HR0.out.below hX) (fun u hu => by simp at hu; rcases hu with rfl | rfl <;> rfl)
    exact ⟨hR7, ansV_load (World.rangeAt_setCells_same X w.heap.size 0 ce (by rw [HCE.out]; exact hR7.there 0 7 (by omega))) (by rw [HCE.out]; rfl), below_cellsN (Nat.le_refl _) _ 0 w X (HB0.out.trans (hX.mono HB0.out.size))⟩
  have n0 : w2.cell? ⟨w1.heap.size, 0, none⟩ = some (.int .i64 0) := HA2.out.cell rfl
  have n1 : w2.cell? ⟨w1.heap.size, 1, none⟩ = some (.int .i64 0) := HA2.out.cell rfl
  have n2 : w2.cell? ⟨w1.heap.size, 2, none⟩ = some (.int .i64 0) := HA2.out.cell rfl
  have n3 : w2.cell? ⟨w1.heap.size, 3, none⟩ = some (.int .i64 0) := HA2.out.cell rfl
  have n4 : w2.cell? ⟨w1.heap.size, 4, none⟩ = some (.int .i64 0) := HA2.out.cell rfl
  have n5 : w2.cell? ⟨w1.heap.size, 5, none⟩ = some (.int .i64 0) := HA2.out.cell rfl
  have n6 : w2.cell? ⟨w1.heap.size, 6, none⟩ = some ((.slice q 1 c)) := HA2.out.cell rfl
  have nl := HA2.out.lt
  go_wp2_with (go_at_call 13; refine (CN.out _ _).mono ?_; rintro e w' ⟨rfl, rfl⟩)
  clear n0 n1 n2 n3 n4 n5 n6 nl
  refine Calls.mono (plain_any 0 0 0 0 0 q 1 c w2 (Or.inl ⟨rfl, rfl, rfl, rfl, rfl, rfl⟩)) ?_
  rintro e w3 ⟨rfl, hb3⟩
  have HA3 : Hid (Blk w3 w1.heap.size 51 [.int .i64 0, .int .i64 0, .int .i64 0, .int .i64 0, .int .i64 0, .int .i64 0, (.slice q 1 c)]) := HA2.out.below hb3
  have HB3 : Hid (Below w0.heap.size w0 w3) := HB2.out.trans (hb3.mono HB2.out.size)
  have HT3 : Hid (Txts w3 (.slice q 1 c) [pf]) := HT2.out.below hb3
  clear HA2 HB2 HT2 hb3
  have n0 : w3.cell? ⟨w1.heap.size, 0, none⟩ = some (.int .i64 0) := HA3.out.cell rfl
  have n1 : w3.cell? ⟨w1.heap.size, 1, none⟩ = some (.int .i64 0) := HA3.out.cell rfl
  have n2 : w3.cell? ⟨w1.heap.size, 2, none⟩ = some (.int .i64 0) := HA3.out.cell rfl
  have n3 : w3.cell? ⟨w1.heap.size, 3, none⟩ = some (.int .i64 0) := HA3.out.cell rfl
  have n4 : w3.cell? ⟨w1.heap.size, 4, none⟩ = some (.int .i64 0) := HA3.out.cell rfl
  have n5 : w3.cell? ⟨w1.heap.size, 5, none⟩ = some (.int .i64 0) := HA3.out.cell rfl
  have n6 : w3.cell? ⟨w1.heap.size, 6, none⟩ = some ((.slice q 1 c)) := HA3.out.cell rfl
  have nl := HA3.out.lt
  obtain ⟨g, np⟩ : ∃ g, q = some ⟨g, 0, none⟩ ∧ w3.cell? ⟨g, 0, none⟩ = some (.string ⟨pf.toArray⟩) := by
    obtain ⟨q', c', e1, h⟩ := HT3.out
    cases e1
    rcases h with h | ⟨g, h1, h2, h3⟩
    · cases h
    · exact ⟨g, h1, h3 0 pf rfl⟩
  obtain ⟨rfl, np⟩ := np
  go_wp2_with fail
  refine Calls.mono (CC.out _) ?_
  rintro e w4 ⟨rfl, hb4⟩
  clear n0 n1 n2 n3 n4 n5 n6 nl
  clear np
  have HA4 : Hid (Blk w4 w1.heap.size 51 [.int .i64 0, .int .i64 0, .int .i64 0, .int .i64 0, .int .i64 0, .int .i64 0, (.slice (some ⟨g, 0, none⟩) 1 c)]) := HA3.out.below hb4
  have HB4 : Hid (Below w0.heap.size w0 w4) := HB3.out.trans (hb4.mono HB3.out.size)
  have HRR : Hid (Av.Row w4 w.heap.size 7) := (HFIN.out w4 HB4.out).1
  have HLD : Hid ((loadVar 51 ⟨w.heap.size, 0, none⟩).run Tryz.prog (w4.setCells w.heap.size 0 ce) = .ok (.agg ce.toArray) (w4.setCells w.heap.size 0 ce)) := (HFIN.out w4 HB4.out).2.1
  have HF : Hid (Below w.heap.size w (w4.setCells w.heap.size 0 ce)) := (HFIN.out w4 HB4.out).2.2
  have n0 : w4.cell? ⟨w1.heap.size, 0, none⟩ = some (.int .i64 0) := HA4.out.cell rfl
  have n1 : w4.cell? ⟨w1.heap.size, 1, none⟩ = some (.int .i64 0) := HA4.out.cell rfl
  have n2 : w4.cell? ⟨w1.heap.size, 2, none⟩ = some (.int .i64 0) := HA4.out.cell rfl
  have n3 : w4.cell? ⟨w1.heap.size, 3, none⟩ = some (.int .i64 0) := HA4.out.cell rfl
  have n4 : w4.cell? ⟨w1.heap.size, 4, none⟩ = some (.int .i64 0) := HA4.out.cell rfl
  have n5 : w4.cell? ⟨w1.heap.size, 5, none⟩ = some (.int .i64 0) := HA4.out.cell rfl
  have n6 : w4.cell? ⟨w1.heap.size, 6, none⟩ = some ((.slice (some ⟨g, 0, none⟩) 1 c)) := HA4.out.cell rfl
  have nl := HA4.out.lt
  clear HFIN HA3 HA4 HT3 HB3 HB4 hb4
  go_wp2_with (refine wpList_store_mid rfl 51 (.tmp 4) (.tmp 103) rfl w.heap.size 0 #[.int .i64 0, .int .i64 0, .int .i64 0, .int .i64 0, .int .i64 0, .int .i64 0, (.slice (some ⟨g, 0, none⟩) 1 c)] rfl rfl ?_ Tryz.infoAns honA ?_; (exact HRR.out.there 0 7 (by omega)); (rw [show (#[.int .i64 0, .int .i64 0, .int .i64 0, .int .i64 0, .int .i64 0, .int .i64 0, (.slice (some ⟨g, 0, none⟩) 1 c)] : Array Value).toList = ce from HCE.out.symm]))
  exact bodyPost_ret (results_c2 rfl rfl rfl HLD.out) rfl ⟨_, _, by rw [HCE.out]; rfl, HF.out⟩
set_option maxRecDepth 100000 in
set_option maxHeartbeats 4000000 in
theorem proves_r (s : ByteArray) (bu : Int) (w : World) (m1 m2 m3 m4 : Int) {b0 : Bool} (hb0 : ¬ bu < 0) (hb1 : ¬ 20000 < bu) (hn0 : ¬ bu = 0) (CC : Hid (∀ X, Calls Tryz.prog 49 #[.string s, .agg #[.int .i64 m1, .int .i64 m2, .int .i64 m3, .int .i64 m4]] X fun e w' => e = .returned (.tuple #[.bool false, .int .i64 0]) ∧ Below X.heap.size X w'))
    (CF : Hid (∀ X, Below w.heap.size w X → Calls Tryz.prog 48 #[.string s, .int .i64 bu] X fun e w' => ∃ pv, e = .returned (.tuple #[.agg #[.int .i64 1, .int .i64 0, .int .i64 m1, .int .i64 m2, .int .i64 m3, .int .i64 m4, pv], .int .i64 0, .bool true]) ∧ Txts w' pv [] ∧ Below X.heap.size X w'))
    (CV : Hid (∀ X, Calls Tryz.prog 49 #[.string s, .agg #[.int .i64 0, .int .i64 0, .int .i64 0, .int .i64 0]] X fun e w' => e = .returned (.tuple #[.bool b0, .int .i64 0]) ∧ Below X.heap.size X w')) :
    Calls Tryz.prog 23 #[.string s, .int .i64 bu] w fun e w' => ∃ q c, e = .returned (.tuple #[.agg #[.int .i64 1, .int .i64 0, .int .i64 m1, .int .i64 m2, .int .i64 m3, .int .i64 m4, (.slice q 0 c)], .bool true]) ∧ Below w.heap.size w w' := by
  have CN : Hid (∀ k w, Calls Tryz.prog 13 #[.int .i64 k] w fun e w' => e = .returned (.int .i64 k) ∧ w = w') := numP_any
  have HR0 : Hid (Blk (w.alloc (.cells #[.int .i64 0, .int .i64 0, .int .i64 0, .int .i64 0, .int .i64 0, .int .i64 0, .slice none 0 0] 51)) w.heap.size 51 [.int .i64 0, .int .i64 0, .int .i64 0, .int .i64 0, .int .i64 0, .int .i64 0, .slice none 0 0]) := heap_alloc_new w _
  have h0s : (w.alloc (.cells #[.int .i64 0, .int .i64 0, .int .i64 0, .int .i64 0, .int .i64 0, .int .i64 0, .slice none 0 0] 51)).heap.size = w.heap.size + 1 := by simp
  have HB0 : Hid (Below w.heap.size w (w.alloc (.cells #[.int .i64 0, .int .i64 0, .int .i64 0, .int .i64 0, .int .i64 0, .int .i64 0, .slice none 0 0] 51))) := below_alloc w _
  go_enter Tryz.func23, Tryz.ntmps23
  go_wp2_with fail
  refine Calls.mono (CF.out _ HB0.out) ?_
  generalize (w.alloc (.cells #[.int .i64 0, .int .i64 0, .int .i64 0, .int .i64 0, .int .i64 0, .int .i64 0, .slice none 0 0] 51)) = w0 at *
  rintro e w1 ⟨pv, rfl, ht1, hb1⟩
  obtain ⟨q, c, rfl⟩ := ht1.shape
  have HT1 : Hid (Txts w1 (.slice q ([] : List (List UInt8)).length c) []) := ht1
  simp only [List.length_nil, List.length_cons] at HT1 ⊢
  clear ht1 CF
  go_wp2_with fail
  refine Calls.mono (CV.out _) ?_
  rintro e w2 ⟨rfl, hb2⟩
  have hA2 : Blk w2 w1.heap.size 51 [.int .i64 1, .int .i64 0, .int .i64 m1, .int .i64 m2, .int .i64 m3, .int .i64 m4, (.slice q 0 c)] := Blk.below (w := w1.alloc (.cells #[.int .i64 1, .int .i64 0, .int .i64 m1, .int .i64 m2, .int .i64 m3, .int .i64 m4, (.slice q 0 c)] 51)) (heap_alloc_new w1 _) hb2
  have h1s := hb1.size
  have b02 : Below w0.heap.size w0 w2 := (hb1.alloc (by omega) _).trans (hb2.mono (by simp; omega))
  have HT2 : Hid (Txts w2 (.slice q 0 c) []) := (HT1.out.below (below_alloc w1 _)).below hb2
  have HA2 : Hid (Blk w2 w1.heap.size 51 [.int .i64 1, .int .i64 0, .int .i64 m1, .int .i64 m2, .int .i64 m3, .int .i64 m4, (.slice q 0 c)]) := hA2
  have HB2 : Hid (Below w0.heap.size w0 w2) := b02
  clear hb1 hb2 hA2 b02 HT1 CV
  obtain ⟨ce, HCE⟩ : ∃ ce : List Value, Hid (ce = [.int .i64 1, .int .i64 0, .int .i64 m1, .int .i64 m2, .int .i64 m3, .int .i64 m4, (.slice q 0 c)]) := ⟨_, rfl⟩
  have honA : (#[.int .i64 1, .int .i64 0, .int .i64 m1, .int .i64 m2, .int .i64 m3, .int .i64 m4, (.slice q 0 c)] : Array Value).all (·.oneCell') = true := by simp [Value.oneCell']
  have HFIN : Hid (∀ X, Below w0.heap.size w0 X → Av.Row X w.heap.size 7 ∧ (loadVar 51 ⟨w.heap.size, 0, none⟩).run Tryz.prog (X.setCells w.heap.size 0 ce) = .ok (.agg ce.toArray) (X.setCells w.heap.size 0 ce) ∧ Below w.heap.size w (X.setCells w.heap.size 0 ce)) := fun X hX => by
    have hR7 : Av.Row X w.heap.size 7 := Blk.row (HR0.out.below hX) (fun u hu => by simp at hu; rcases hu with rfl | rfl <;> rfl)
    exact ⟨hR7, ansV_load (World.rangeAt_setCells_same X w.heap.size 0 ce (by rw [HCE.out]; exact hR7.there 0 7 (by omega))) (by rw [HCE.out]; rfl), below_cellsN (Nat.le_refl _) _ 0 w X (HB0.out.trans (hX.mono HB0.out.size))⟩
  have n0 : w2.cell? ⟨w1.heap.size, 0, none⟩ = some (.int .i64 1) := HA2.out.cell rfl
  have n1 : w2.cell? ⟨w1.heap.size, 1, none⟩ = some (.int .i64 0) := HA2.out.cell rfl
  have n2 : w2.cell? ⟨w1.heap.size, 2, none⟩ = some (.int .i64 m1) := HA2.out.cell rfl
  have n3 : w2.cell? ⟨w1.heap.size, 3, none⟩ = some (.int .i64 m2) := HA2.out.cell rfl
  have n4 : w2.cell? ⟨w1.heap.size, 4, none⟩ = some (.int .i64 m3) := HA2.out.cell rfl
  have n5 : w2.cell? ⟨w1.heap.size, 5, none⟩ = some (.int .i64 m4) := HA2.out.cell rfl
  have n6 : w2.cell? ⟨w1.heap.size, 6, none⟩ = some ((.slice q 0 c)) := HA2.out.cell rfl
  have nl := HA2.out.lt
  go_wp2_with (go_at_call 13; refine (CN.out _ _).mono ?_; rintro e w' ⟨rfl, rfl⟩)
  clear n0 n1 n2 n3 n4 n5 n6 nl
  refine Calls.mono (plain_any 1 m1 m2 m3 m4 q 0 c w2 (Or.inr (Or.inl ⟨rfl, rfl⟩))) ?_
  rintro e w3 ⟨rfl, hb3⟩
  have HA3 : Hid (Blk w3 w1.heap.size 51 [.int .i64 1, .int .i64 0, .int .i64 m1, .int .i64 m2, .int .i64 m3, .int .i64 m4, (.slice q 0 c)]) := HA2.out.below hb3
  have HB3 : Hid (Below w0.heap.size w0 w3) := HB2.out.trans (hb3.mono HB2.out.size)
  have HT3 : Hid (Txts w3 (.slice q 0 c) []) := HT2.out.below hb3
  clear HA2 HB2 HT2 hb3
  have n0 : w3.cell? ⟨w1.heap.size, 0, none⟩ = some (.int .i64 1) := HA3.out.cell rfl
  have n1 : w3.cell? ⟨w1.heap.size, 1, none⟩ = some (.int .i64 0) := HA3.out.cell rfl
  have n2 : w3.cell? ⟨w1.heap.size, 2, none⟩ = some (.int .i64 m1) := HA3.out.cell rfl
  have n3 : w3.cell? ⟨w1.heap.size, 3, none⟩ = some (.int .i64 m2) := HA3.out.cell rfl
  have n4 : w3.cell? ⟨w1.heap.size, 4, none⟩ = some (.int .i64 m3) := HA3.out.cell rfl
  have n5 : w3.cell? ⟨w1.heap.size, 5, none⟩ = some (.int .i64 m4) := HA3.out.cell rfl
  have n6 : w3.cell? ⟨w1.heap.size, 6, none⟩ = some ((.slice q 0 c)) := HA3.out.cell rfl
  have nl := HA3.out.lt
  go_wp2_with fail
  refine Calls.mono (CC.out _) ?_
  rintro e w4 ⟨rfl, hb4⟩
  clear n0 n1 n2 n3 n4 n5 n6 nl
  have HA4 : Hid (Blk w4 w1.heap.size 51 [.int .i64 1, .int .i64 0, .int .i64 m1, .int .i64 m2, .int .i64 m3, .int .i64 m4, (.slice q 0 c)]) := HA3.out.below hb4
  have HB4 : Hid (Below w0.heap.size w0 w4) := HB3.out.trans (hb4.mono HB3.out.size)
  have HRR : Hid (Av.Row w4 w.heap.size 7) := (HFIN.out w4 HB4.out).1
  have HLD : Hid ((loadVar 51 ⟨w.heap.size, 0, none⟩).run Tryz.prog (w4.setCells w.heap.size 0 ce) = .ok (.agg ce.toArray) (w4.setCells w.heap.size 0 ce)) := (HFIN.out w4 HB4.out).2.1
  have HF : Hid (Below w.heap.size w (w4.setCells w.heap.size 0 ce)) := (HFIN.out w4 HB4.out).2.2
  have n0 : w4.cell? ⟨w1.heap.size, 0, none⟩ = some (.int .i64 1) := HA4.out.cell rfl
  have n1 : w4.cell? ⟨w1.heap.size, 1, none⟩ = some (.int .i64 0) := HA4.out.cell rfl
  have n2 : w4.cell? ⟨w1.heap.size, 2, none⟩ = some (.int .i64 m1) := HA4.out.cell rfl
  have n3 : w4.cell? ⟨w1.heap.size, 3, none⟩ = some (.int .i64 m2) := HA4.out.cell rfl
  have n4 : w4.cell? ⟨w1.heap.size, 4, none⟩ = some (.int .i64 m3) := HA4.out.cell rfl
  have n5 : w4.cell? ⟨w1.heap.size, 5, none⟩ = some (.int .i64 m4) := HA4.out.cell rfl
  have n6 : w4.cell? ⟨w1.heap.size, 6, none⟩ = some ((.slice q 0 c)) := HA4.out.cell rfl
  have nl := HA4.out.lt
  clear HFIN HA3 HA4 HT3 HB3 HB4 hb4
  go_wp2_with (refine wpList_store_mid rfl 51 (.tmp 4) (.tmp 114) rfl w.heap.size 0 #[.int .i64 1, .int .i64 0, .int .i64 m1, .int .i64 m2, .int .i64 m3, .int .i64 m4, (.slice q 0 c)] rfl rfl ?_ Tryz.infoAns honA ?_; (exact HRR.out.there 0 7 (by omega)); (rw [show (#[.int .i64 1, .int .i64 0, .int .i64 m1, .int .i64 m2, .int .i64 m3, .int .i64 m4, (.slice q 0 c)] : Array Value).toList = ce from HCE.out.symm]))
  exact bodyPost_ret (results_c2 rfl rfl rfl HLD.out) rfl ⟨_, _, by rw [HCE.out]; rfl, HF.out⟩
set_option maxRecDepth 100000 in
set_option maxHeartbeats 4000000 in
theorem proves_u0 (s : ByteArray) (bu : Int) (w : World) {b0 : Bool} {k : Int} (hz : bu = 0) (CC : Hid (∀ X, Calls Tryz.prog 51 #[.string s] X fun e w' => e = .returned (.int .i64 k) ∧ Below X.heap.size X w'))
    (CF : Hid (∀ X, Below w.heap.size w X → Calls Tryz.prog 48 #[.string s, .int .i64 bu] X fun e w' => ∃ pv, e = .returned (.tuple #[.agg #[.int .i64 2, .int .i64 0, .int .i64 0, .int .i64 0, .int .i64 0, .int .i64 0, pv], .int .i64 0, .bool true]) ∧ Txts w' pv [] ∧ Below X.heap.size X w'))
    (CV : Hid (∀ X, Calls Tryz.prog 49 #[.string s, .agg #[.int .i64 0, .int .i64 0, .int .i64 0, .int .i64 0]] X fun e w' => e = .returned (.tuple #[.bool b0, .int .i64 0]) ∧ Below X.heap.size X w')) :
    Calls Tryz.prog 23 #[.string s, .int .i64 bu] w fun e w' => ∃ q c, e = .returned (.tuple #[.agg #[.int .i64 2, .int .i64 0, .int .i64 0, .int .i64 0, .int .i64 0, .int .i64 0, (.slice q 0 c)], .bool true]) ∧ Below w.heap.size w w' := by
  subst hz
  have CN : Hid (∀ k w, Calls Tryz.prog 13 #[.int .i64 k] w fun e w' => e = .returned (.int .i64 k) ∧ w = w') := numP_any
  have HR0 : Hid (Blk (w.alloc (.cells #[.int .i64 0, .int .i64 0, .int .i64 0, .int .i64 0, .int .i64 0, .int .i64 0, .slice none 0 0] 51)) w.heap.size 51 [.int .i64 0, .int .i64 0, .int .i64 0, .int .i64 0, .int .i64 0, .int .i64 0, .slice none 0 0]) := heap_alloc_new w _
  have h0s : (w.alloc (.cells #[.int .i64 0, .int .i64 0, .int .i64 0, .int .i64 0, .int .i64 0, .int .i64 0, .slice none 0 0] 51)).heap.size = w.heap.size + 1 := by simp
  have HB0 : Hid (Below w.heap.size w (w.alloc (.cells #[.int .i64 0, .int .i64 0, .int .i64 0, .int .i64 0, .int .i64 0, .int .i64 0, .slice none 0 0] 51))) := below_alloc w _
  go_enter Tryz.func23, Tryz.ntmps23
  go_wp2_with fail
  refine Calls.mono (CF.out _ HB0.out) ?_
  generalize (w.alloc (.cells #[.int .i64 0, .int .i64 0, .int .i64 0, .int .i64 0, .int .i64 0, .int .i64 0, .slice none 0 0] 51)) = w0 at *
  rintro e w1 ⟨pv, rfl, ht1, hb1⟩
  obtain ⟨q, c, rfl⟩ := ht1.shape
  have HT1 : Hid (Txts w1 (.slice q ([] : List (List UInt8)).length c) []) := ht1
  simp only [List.length_nil, List.length_cons] at HT1 ⊢
  clear ht1 CF
  go_wp2_with fail
  refine Calls.mono (CV.out _) ?_
  rintro e w2 ⟨rfl, hb2⟩
  have hA2 : Blk w2 w1.heap.size 51 [.int .i64 2, .int .i64 0, .int .i64 0, .int .i64 0, .int .i64 0, .int .i64 0, (.slice q 0 c)] := Blk.below (w := w1.alloc (.cells #[.int .i64 2, .int .i64 0, .int .i64 0, .int .i64 0, .int .i64 0, .int .i64 0, (.slice q 0 c)] 51)) (heap_alloc_new w1 _) hb2
  have h1s := hb1.size
  have b02 : Below w0.heap.size w0 w2 := (hb1.alloc (by omega) _).trans (hb2.mono (by simp; omega))
  have HT2 : Hid (Txts w2 (.slice q 0 c) []) := (HT1.out.below (below_alloc w1 _)).below hb2
  have HA2 : Hid (Blk w2 w1.heap.size 51 [.int .i64 2, .int .i64 0, .int .i64 0, .int .i64 0, .int .i64 0, .int .i64 0, (.slice q 0 c)]) := hA2
  have HB2 : Hid (Below w0.heap.size w0 w2) := b02
  clear hb1 hb2 hA2 b02 HT1 CV
  obtain ⟨ce, HCE⟩ : ∃ ce : List Value, Hid (ce = [.int .i64 2, .int .i64 0, .int .i64 0, .int .i64 0, .int .i64 0, .int .i64 0, (.slice q 0 c)]) := ⟨_, rfl⟩
  have honA : (#[.int .i64 2, .int .i64 0, .int .i64 0, .int .i64 0, .int .i64 0, .int .i64 0, (.slice q 0 c)] : Array Value).all (·.oneCell') = true := by simp [Value.oneCell']
  have HFIN : Hid (∀ X, Below w0.heap.size w0 X → Av.Row X w.heap.size 7 ∧ (loadVar 51 ⟨w.heap.size, 0, none⟩).run Tryz.prog (X.setCells w.heap.size 0 ce) = .ok (.agg ce.toArray) (X.setCells w.heap.size 0 ce) ∧ Below w.heap.size w (X.setCells w.heap.size 0 ce)) := fun X hX => by
    have hR7 : Av.Row X w.heap.size 7 := Blk.row (HR0.out.below hX) (fun u hu => by simp at hu; rcases hu with rfl | rfl <;> rfl)
    exact ⟨hR7, ansV_load (World.rangeAt_setCells_same X w.heap.size 0 ce (by rw [HCE.out]; exact hR7.there 0 7 (by omega))) (by rw [HCE.out]; rfl), below_cellsN (Nat.le_refl _) _ 0 w X (HB0.out.trans (hX.mono HB0.out.size))⟩
  have n0 : w2.cell? ⟨w1.heap.size, 0, none⟩ = some (.int .i64 2) := HA2.out.cell rfl
  have n1 : w2.cell? ⟨w1.heap.size, 1, none⟩ = some (.int .i64 0) := HA2.out.cell rfl
  have n2 : w2.cell? ⟨w1.heap.size, 2, none⟩ = some (.int .i64 0) := HA2.out.cell rfl
  have n3 : w2.cell? ⟨w1.heap.size, 3, none⟩ = some (.int .i64 0) := HA2.out.cell rfl
  have n4 : w2.cell? ⟨w1.heap.size, 4, none⟩ = some (.int .i64 0) := HA2.out.cell rfl
  have n5 : w2.cell? ⟨w1.heap.size, 5, none⟩ = some (.int .i64 0) := HA2.out.cell rfl
  have n6 : w2.cell? ⟨w1.heap.size, 6, none⟩ = some ((.slice q 0 c)) := HA2.out.cell rfl
  have nl := HA2.out.lt
  go_wp2_with (go_at_call 13; refine (CN.out _ _).mono ?_; rintro e w' ⟨rfl, rfl⟩)
  clear n0 n1 n2 n3 n4 n5 n6 nl
  refine Calls.mono (plain_any 2 0 0 0 0 q 0 c w2 (Or.inr (Or.inr ⟨rfl, rfl, rfl, rfl, rfl, rfl⟩))) ?_
  rintro e w3 ⟨rfl, hb3⟩
  have HA3 : Hid (Blk w3 w1.heap.size 51 [.int .i64 2, .int .i64 0, .int .i64 0, .int .i64 0, .int .i64 0, .int .i64 0, (.slice q 0 c)]) := HA2.out.below hb3
  have HB3 : Hid (Below w0.heap.size w0 w3) := HB2.out.trans (hb3.mono HB2.out.size)
  have HT3 : Hid (Txts w3 (.slice q 0 c) []) := HT2.out.below hb3
  clear HA2 HB2 HT2 hb3
  have n0 : w3.cell? ⟨w1.heap.size, 0, none⟩ = some (.int .i64 2) := HA3.out.cell rfl
  have n1 : w3.cell? ⟨w1.heap.size, 1, none⟩ = some (.int .i64 0) := HA3.out.cell rfl
  have n2 : w3.cell? ⟨w1.heap.size, 2, none⟩ = some (.int .i64 0) := HA3.out.cell rfl
  have n3 : w3.cell? ⟨w1.heap.size, 3, none⟩ = some (.int .i64 0) := HA3.out.cell rfl
  have n4 : w3.cell? ⟨w1.heap.size, 4, none⟩ = some (.int .i64 0) := HA3.out.cell rfl
  have n5 : w3.cell? ⟨w1.heap.size, 5, none⟩ = some (.int .i64 0) := HA3.out.cell rfl
  have n6 : w3.cell? ⟨w1.heap.size, 6, none⟩ = some ((.slice q 0 c)) := HA3.out.cell rfl
  have nl := HA3.out.lt
  go_wp2_with fail
  refine Calls.mono (CC.out _) ?_
  rintro e w4 ⟨rfl, hb4⟩
  clear n0 n1 n2 n3 n4 n5 n6 nl
  have HA4 : Hid (Blk w4 w1.heap.size 51 [.int .i64 2, .int .i64 0, .int .i64 0, .int .i64 0, .int .i64 0, .int .i64 0, (.slice q 0 c)]) := HA3.out.below hb4
  have HB4 : Hid (Below w0.heap.size w0 w4) := HB3.out.trans (hb4.mono HB3.out.size)
  have HRR : Hid (Av.Row w4 w.heap.size 7) := (HFIN.out w4 HB4.out).1
  have HLD : Hid ((loadVar 51 ⟨w.heap.size, 0, none⟩).run Tryz.prog (w4.setCells w.heap.size 0 ce) = .ok (.agg ce.toArray) (w4.setCells w.heap.size 0 ce)) := (HFIN.out w4 HB4.out).2.1
  have HF : Hid (Below w.heap.size w (w4.setCells w.heap.size 0 ce)) := (HFIN.out w4 HB4.out).2.2
  have n0 : w4.cell? ⟨w1.heap.size, 0, none⟩ = some (.int .i64 2) := HA4.out.cell rfl
  have n1 : w4.cell? ⟨w1.heap.size, 1, none⟩ = some (.int .i64 0) := HA4.out.cell rfl
  have n2 : w4.cell? ⟨w1.heap.size, 2, none⟩ = some (.int .i64 0) := HA4.out.cell rfl
  have n3 : w4.cell? ⟨w1.heap.size, 3, none⟩ = some (.int .i64 0) := HA4.out.cell rfl
  have n4 : w4.cell? ⟨w1.heap.size, 4, none⟩ = some (.int .i64 0) := HA4.out.cell rfl
  have n5 : w4.cell? ⟨w1.heap.size, 5, none⟩ = some (.int .i64 0) := HA4.out.cell rfl
  have n6 : w4.cell? ⟨w1.heap.size, 6, none⟩ = some ((.slice q 0 c)) := HA4.out.cell rfl
  have nl := HA4.out.lt
  clear HFIN HA3 HA4 HT3 HB3 HB4 hb4
  go_wp2_with (refine wpList_store_mid rfl 51 (.tmp 4) (.tmp 123) rfl w.heap.size 0 #[.int .i64 2, .int .i64 0, .int .i64 0, .int .i64 0, .int .i64 0, .int .i64 0, (.slice q 0 c)] rfl rfl ?_ Tryz.infoAns honA ?_; (exact HRR.out.there 0 7 (by omega)); (rw [show (#[.int .i64 2, .int .i64 0, .int .i64 0, .int .i64 0, .int .i64 0, .int .i64 0, (.slice q 0 c)] : Array Value).toList = ce from HCE.out.symm]))
  exact bodyPost_ret (results_c2 rfl rfl rfl HLD.out) rfl ⟨_, _, by rw [HCE.out]; rfl, HF.out⟩
set_option maxRecDepth 100000 in
set_option maxHeartbeats 4000000 in
theorem proves_u1 (s : ByteArray) (bu : Int) (w : World) {b0 : Bool} {k : Int} (hb0 : ¬ bu < 0) (hb1 : ¬ 20000 < bu) (hn0 : ¬ bu = 0) (hb2 : bu < 20000) (CC : Hid (∀ X, Calls Tryz.prog 51 #[.string s] X fun e w' => e = .returned (.int .i64 k) ∧ Below X.heap.size X w'))
    (CF : Hid (∀ X, Below w.heap.size w X → Calls Tryz.prog 48 #[.string s, .int .i64 bu] X fun e w' => ∃ pv, e = .returned (.tuple #[.agg #[.int .i64 2, .int .i64 0, .int .i64 0, .int .i64 0, .int .i64 0, .int .i64 0, pv], .int .i64 0, .bool true]) ∧ Txts w' pv [] ∧ Below X.heap.size X w'))
    (CV : Hid (∀ X, Calls Tryz.prog 49 #[.string s, .agg #[.int .i64 0, .int .i64 0, .int .i64 0, .int .i64 0]] X fun e w' => e = .returned (.tuple #[.bool b0, .int .i64 0]) ∧ Below X.heap.size X w')) :
    Calls Tryz.prog 23 #[.string s, .int .i64 bu] w fun e w' => ∃ q c, e = .returned (.tuple #[.agg #[.int .i64 2, .int .i64 0, .int .i64 0, .int .i64 0, .int .i64 0, .int .i64 0, (.slice q 0 c)], .bool true]) ∧ Below w.heap.size w w' := by
  have CN : Hid (∀ k w, Calls Tryz.prog 13 #[.int .i64 k] w fun e w' => e = .returned (.int .i64 k) ∧ w = w') := numP_any
  have HR0 : Hid (Blk (w.alloc (.cells #[.int .i64 0, .int .i64 0, .int .i64 0, .int .i64 0, .int .i64 0, .int .i64 0, .slice none 0 0] 51)) w.heap.size 51 [.int .i64 0, .int .i64 0, .int .i64 0, .int .i64 0, .int .i64 0, .int .i64 0, .slice none 0 0]) := heap_alloc_new w _
  have h0s : (w.alloc (.cells #[.int .i64 0, .int .i64 0, .int .i64 0, .int .i64 0, .int .i64 0, .int .i64 0, .slice none 0 0] 51)).heap.size = w.heap.size + 1 := by simp
  have HB0 : Hid (Below w.heap.size w (w.alloc (.cells #[.int .i64 0, .int .i64 0, .int .i64 0, .int .i64 0, .int .i64 0, .int .i64 0, .slice none 0 0] 51))) := below_alloc w _
  go_enter Tryz.func23, Tryz.ntmps23
  go_wp2_with fail
  refine Calls.mono (CF.out _ HB0.out) ?_
  generalize (w.alloc (.cells #[.int .i64 0, .int .i64 0, .int .i64 0, .int .i64 0, .int .i64 0, .int .i64 0, .slice none 0 0] 51)) = w0 at *
  rintro e w1 ⟨pv, rfl, ht1, hb1⟩
  obtain ⟨q, c, rfl⟩ := ht1.shape
  have HT1 : Hid (Txts w1 (.slice q ([] : List (List UInt8)).length c) []) := ht1
  simp only [List.length_nil, List.length_cons] at HT1 ⊢
  clear ht1 CF
  go_wp2_with fail
  refine Calls.mono (CV.out _) ?_
  rintro e w2 ⟨rfl, hb2⟩
  have hA2 : Blk w2 w1.heap.size 51 [.int .i64 2, .int .i64 0, .int .i64 0, .int .i64 0, .int .i64 0, .int .i64 0, (.slice q 0 c)] := Blk.below (w := w1.alloc (.cells #[.int .i64 2, .int .i64 0, .int .i64 0, .int .i64 0, .int .i64 0, .int .i64 0, (.slice q 0 c)] 51)) (heap_alloc_new w1 _) hb2
  have h1s := hb1.size
  have b02 : Below w0.heap.size w0 w2 := (hb1.alloc (by omega) _).trans (hb2.mono (by simp; omega))
  have HT2 : Hid (Txts w2 (.slice q 0 c) []) := (HT1.out.below (below_alloc w1 _)).below hb2
  have HA2 : Hid (Blk w2 w1.heap.size 51 [.int .i64 2, .int .i64 0, .int .i64 0, .int .i64 0, .int .i64 0, .int .i64 0, (.slice q 0 c)]) := hA2
  have HB2 : Hid (Below w0.heap.size w0 w2) := b02
  clear hb1 hb2 hA2 b02 HT1 CV
  obtain ⟨ce, HCE⟩ : ∃ ce : List Value, Hid (ce = [.int .i64 2, .int .i64 0, .int .i64 0, .int .i64 0, .int .i64 0, .int .i64 0, (.slice q 0 c)]) := ⟨_, rfl⟩
  have honA : (#[.int .i64 2, .int .i64 0, .int .i64 0, .int .i64 0, .int .i64 0, .int .i64 0, (.slice q 0 c)] : Array Value).all (·.oneCell') = true := by simp [Value.oneCell']
  have HFIN : Hid (∀ X, Below w0.heap.size w0 X → Av.Row X w.heap.size 7 ∧ (loadVar 51 ⟨w.heap.size, 0, none⟩).run Tryz.prog (X.setCells w.heap.size 0 ce) = .ok (.agg ce.toArray) (X.setCells w.heap.size 0 ce) ∧ Below w.heap.size w (X.setCells w.heap.size 0 ce)) := fun X hX => by
    have hR7 : Av.Row X w.heap.size 7 := Blk.row (HR0.out.below hX) (fun u hu => by simp at hu; rcases hu with rfl | rfl <;> rfl)
    exact ⟨hR7, ansV_load (World.rangeAt_setCells_same X w.heap.size 0 ce (by rw [HCE.out]; exact hR7.there 0 7 (by omega))) (by rw [HCE.out]; rfl), below_cellsN (Nat.le_refl _) _ 0 w X (HB0.out.trans (hX.mono HB0.out.size))⟩
  have n0 : w2.cell? ⟨w1.heap.size, 0, none⟩ = some (.int .i64 2) := HA2.out.cell rfl
  have n1 : w2.cell? ⟨w1.heap.size, 1, none⟩ = some (.int .i64 0) := HA2.out.cell rfl
  have n2 : w2.cell? ⟨w1.heap.size, 2, none⟩ = some (.int .i64 0) := HA2.out.cell rfl
  have n3 : w2.cell? ⟨w1.heap.size, 3, none⟩ = some (.int .i64 0) := HA2.out.cell rfl
  have n4 : w2.cell? ⟨w1.heap.size, 4, none⟩ = some (.int .i64 0) := HA2.out.cell rfl
  have n5 : w2.cell? ⟨w1.heap.size, 5, none⟩ = some (.int .i64 0) := HA2.out.cell rfl
  have n6 : w2.cell? ⟨w1.heap.size, 6, none⟩ = some ((.slice q 0 c)) := HA2.out.cell rfl
  have nl := HA2.out.lt
  go_wp2_with (go_at_call 13; refine (CN.out _ _).mono ?_; rintro e w' ⟨rfl, rfl⟩)
  clear n0 n1 n2 n3 n4 n5 n6 nl
  refine Calls.mono (plain_any 2 0 0 0 0 q 0 c w2 (Or.inr (Or.inr ⟨rfl, rfl, rfl, rfl, rfl, rfl⟩))) ?_
  rintro e w3 ⟨rfl, hb3⟩
  have HA3 : Hid (Blk w3 w1.heap.size 51 [.int .i64 2, .int .i64 0, .int .i64 0, .int .i64 0, .int .i64 0, .int .i64 0, (.slice q 0 c)]) := HA2.out.below hb3
  have HB3 : Hid (Below w0.heap.size w0 w3) := HB2.out.trans (hb3.mono HB2.out.size)
  have HT3 : Hid (Txts w3 (.slice q 0 c) []) := HT2.out.below hb3
  clear HA2 HB2 HT2 hb3
  have n0 : w3.cell? ⟨w1.heap.size, 0, none⟩ = some (.int .i64 2) := HA3.out.cell rfl
  have n1 : w3.cell? ⟨w1.heap.size, 1, none⟩ = some (.int .i64 0) := HA3.out.cell rfl
  have n2 : w3.cell? ⟨w1.heap.size, 2, none⟩ = some (.int .i64 0) := HA3.out.cell rfl
  have n3 : w3.cell? ⟨w1.heap.size, 3, none⟩ = some (.int .i64 0) := HA3.out.cell rfl
  have n4 : w3.cell? ⟨w1.heap.size, 4, none⟩ = some (.int .i64 0) := HA3.out.cell rfl
  have n5 : w3.cell? ⟨w1.heap.size, 5, none⟩ = some (.int .i64 0) := HA3.out.cell rfl
  have n6 : w3.cell? ⟨w1.heap.size, 6, none⟩ = some ((.slice q 0 c)) := HA3.out.cell rfl
  have nl := HA3.out.lt
  go_wp2_with fail
  refine Calls.mono (CC.out _) ?_
  rintro e w4 ⟨rfl, hb4⟩
  clear n0 n1 n2 n3 n4 n5 n6 nl
  have HA4 : Hid (Blk w4 w1.heap.size 51 [.int .i64 2, .int .i64 0, .int .i64 0, .int .i64 0, .int .i64 0, .int .i64 0, (.slice q 0 c)]) := HA3.out.below hb4
  have HB4 : Hid (Below w0.heap.size w0 w4) := HB3.out.trans (hb4.mono HB3.out.size)
  have HRR : Hid (Av.Row w4 w.heap.size 7) := (HFIN.out w4 HB4.out).1
  have HLD : Hid ((loadVar 51 ⟨w.heap.size, 0, none⟩).run Tryz.prog (w4.setCells w.heap.size 0 ce) = .ok (.agg ce.toArray) (w4.setCells w.heap.size 0 ce)) := (HFIN.out w4 HB4.out).2.1
  have HF : Hid (Below w.heap.size w (w4.setCells w.heap.size 0 ce)) := (HFIN.out w4 HB4.out).2.2
  have n0 : w4.cell? ⟨w1.heap.size, 0, none⟩ = some (.int .i64 2) := HA4.out.cell rfl
  have n1 : w4.cell? ⟨w1.heap.size, 1, none⟩ = some (.int .i64 0) := HA4.out.cell rfl
  have n2 : w4.cell? ⟨w1.heap.size, 2, none⟩ = some (.int .i64 0) := HA4.out.cell rfl
  have n3 : w4.cell? ⟨w1.heap.size, 3, none⟩ = some (.int .i64 0) := HA4.out.cell rfl
  have n4 : w4.cell? ⟨w1.heap.size, 4, none⟩ = some (.int .i64 0) := HA4.out.cell rfl
  have n5 : w4.cell? ⟨w1.heap.size, 5, none⟩ = some (.int .i64 0) := HA4.out.cell rfl
  have n6 : w4.cell? ⟨w1.heap.size, 6, none⟩ = some ((.slice q 0 c)) := HA4.out.cell rfl
  have nl := HA4.out.lt
  clear HFIN HA3 HA4 HT3 HB3 HB4 hb4
  go_wp2_with (refine wpList_store_mid rfl 51 (.tmp 4) (.tmp 123) rfl w.heap.size 0 #[.int .i64 2, .int .i64 0, .int .i64 0, .int .i64 0, .int .i64 0, .int .i64 0, (.slice q 0 c)] rfl rfl ?_ Tryz.infoAns honA ?_; (exact HRR.out.there 0 7 (by omega)); (rw [show (#[.int .i64 2, .int .i64 0, .int .i64 0, .int .i64 0, .int .i64 0, .int .i64 0, (.slice q 0 c)] : Array Value).toList = ce from HCE.out.symm]))
  exact bodyPost_ret (results_c2 rfl rfl rfl HLD.out) rfl ⟨_, _, by rw [HCE.out]; rfl, HF.out⟩
set_option maxRecDepth 100000 in
set_option maxHeartbeats 4000000 in
theorem proves_u2 (s : ByteArray) (bu : Int) (w : World) {b0 : Bool} {k : Int} (hb0 : ¬ bu < 0) (hb1 : ¬ 20000 < bu) (hn0 : ¬ bu = 0) (hb2 : ¬ bu < 20000) (hk : 12 < k) (CC : Hid (∀ X, Calls Tryz.prog 51 #[.string s] X fun e w' => e = .returned (.int .i64 k) ∧ Below X.heap.size X w'))
    (CF : Hid (∀ X, Below w.heap.size w X → Calls Tryz.prog 48 #[.string s, .int .i64 bu] X fun e w' => ∃ pv, e = .returned (.tuple #[.agg #[.int .i64 2, .int .i64 0, .int .i64 0, .int .i64 0, .int .i64 0, .int .i64 0, pv], .int .i64 0, .bool true]) ∧ Txts w' pv [] ∧ Below X.heap.size X w'))
    (CV : Hid (∀ X, Calls Tryz.prog 49 #[.string s, .agg #[.int .i64 0, .int .i64 0, .int .i64 0, .int .i64 0]] X fun e w' => e = .returned (.tuple #[.bool b0, .int .i64 0]) ∧ Below X.heap.size X w')) :
    Calls Tryz.prog 23 #[.string s, .int .i64 bu] w fun e w' => ∃ q c, e = .returned (.tuple #[.agg #[.int .i64 2, .int .i64 0, .int .i64 0, .int .i64 0, .int .i64 0, .int .i64 0, (.slice q 0 c)], .bool true]) ∧ Below w.heap.size w w' := by
  have CN : Hid (∀ k w, Calls Tryz.prog 13 #[.int .i64 k] w fun e w' => e = .returned (.int .i64 k) ∧ w = w') := numP_any
  have HR0 : Hid (Blk (w.alloc (.cells #[.int .i64 0, .int .i64 0, .int .i64 0, .int .i64 0, .int .i64 0, .int .i64 0, .slice none 0 0] 51)) w.heap.size 51 [.int .i64 0, .int .i64 0, .int .i64 0, .int .i64 0, .int .i64 0, .int .i64 0, .slice none 0 0]) := heap_alloc_new w _
  have h0s : (w.alloc (.cells #[.int .i64 0, .int .i64 0, .int .i64 0, .int .i64 0, .int .i64 0, .int .i64 0, .slice none 0 0] 51)).heap.size = w.heap.size + 1 := by simp
  have HB0 : Hid (Below w.heap.size w (w.alloc (.cells #[.int .i64 0, .int .i64 0, .int .i64 0, .int .i64 0, .int .i64 0, .int .i64 0, .slice none 0 0] 51))) := below_alloc w _
  go_enter Tryz.func23, Tryz.ntmps23
  go_wp2_with fail
  refine Calls.mono (CF.out _ HB0.out) ?_
  generalize (w.alloc (.cells #[.int .i64 0, .int .i64 0, .int .i64 0, .int .i64 0, .int .i64 0, .int .i64 0, .slice none 0 0] 51)) = w0 at *
  rintro e w1 ⟨pv, rfl, ht1, hb1⟩
  obtain ⟨q, c, rfl⟩ := ht1.shape
  have HT1 : Hid (Txts w1 (.slice q ([] : List (List UInt8)).length c) []) := ht1
  simp only [List.length_nil, List.length_cons] at HT1 ⊢
  clear ht1 CF
  go_wp2_with fail
  refine Calls.mono (CV.out _) ?_
  rintro e w2 ⟨rfl, hb2⟩
  have hA2 : Blk w2 w1.heap.size 51 [.int .i64 2, .int .i64 0, .int .i64 0, .int .i64 0, .int .i64 0, .int .i64 0, (.slice q 0 c)] := Blk.below (w := w1.alloc (.cells #[.int .i64 2, .int .i64 0, .int .i64 0, .int .i64 0, .int .i64 0, .int .i64 0, (.slice q 0 c)] 51)) (heap_alloc_new w1 _) hb2
  have h1s := hb1.size
  have b02 : Below w0.heap.size w0 w2 := (hb1.alloc (by omega) _).trans (hb2.mono (by simp; omega))
  have HT2 : Hid (Txts w2 (.slice q 0 c) []) := (HT1.out.below (below_alloc w1 _)).below hb2
  have HA2 : Hid (Blk w2 w1.heap.size 51 [.int .i64 2, .int .i64 0, .int .i64 0, .int .i64 0, .int .i64 0, .int .i64 0, (.slice q 0 c)]) := hA2
  have HB2 : Hid (Below w0.heap.size w0 w2) := b02
  clear hb1 hb2 hA2 b02 HT1 CV
  obtain ⟨ce, HCE⟩ : ∃ ce : List Value, Hid (ce = [.int .i64 2, .int .i64 0, .int .i64 0, .int .i64 0, .int .i64 0, .int .i64 0, (.slice q 0 c)]) := ⟨_, rfl⟩
  have honA : (#[.int .i64 2, .int .i64 0, .int .i64 0, .int .i64 0, .int .i64 0, .int .i64 0, (.slice q 0 c)] : Array Value).all (·.oneCell') = true := by simp [Value.oneCell']
  have HFIN : Hid (∀ X, Below w0.heap.size w0 X → Av.Row X w.heap.size 7 ∧ (loadVar 51 ⟨w.heap.size, 0, none⟩).run Tryz.prog (X.setCells w.heap.size 0 ce) = .ok (.agg ce.toArray) (X.setCells w.heap.size 0 ce) ∧ Below w.heap.size w (X.setCells w.heap.size 0 ce)) := fun X hX => by
    have hR7 : Av.Row X w.heap.size 7 := Blk.row (HR0.out.below hX) (fun u hu => by simp at hu; rcases hu with rfl | rfl <;> rfl)
    exact ⟨hR7, ansV_load (World.rangeAt_setCells_same X w.heap.size 0 ce (by rw [HCE.out]; exact hR7.there 0 7 (by omega))) (by rw [HCE.out]; rfl), below_cellsN (Nat.le_refl _) _ 0 w X (HB0.out.trans (hX.mono HB0.out.size))⟩
  have n0 : w2.cell? ⟨w1.heap.size, 0, none⟩ = some (.int .i64 2) := HA2.out.cell rfl
  have n1 : w2.cell? ⟨w1.heap.size, 1, none⟩ = some (.int .i64 0) := HA2.out.cell rfl
  have n2 : w2.cell? ⟨w1.heap.size, 2, none⟩ = some (.int .i64 0) := HA2.out.cell rfl
  have n3 : w2.cell? ⟨w1.heap.size, 3, none⟩ = some (.int .i64 0) := HA2.out.cell rfl
  have n4 : w2.cell? ⟨w1.heap.size, 4, none⟩ = some (.int .i64 0) := HA2.out.cell rfl
  have n5 : w2.cell? ⟨w1.heap.size, 5, none⟩ = some (.int .i64 0) := HA2.out.cell rfl
  have n6 : w2.cell? ⟨w1.heap.size, 6, none⟩ = some ((.slice q 0 c)) := HA2.out.cell rfl
  have nl := HA2.out.lt
  go_wp2_with (go_at_call 13; refine (CN.out _ _).mono ?_; rintro e w' ⟨rfl, rfl⟩)
  clear n0 n1 n2 n3 n4 n5 n6 nl
  refine Calls.mono (plain_any 2 0 0 0 0 q 0 c w2 (Or.inr (Or.inr ⟨rfl, rfl, rfl, rfl, rfl, rfl⟩))) ?_
  rintro e w3 ⟨rfl, hb3⟩
  have HA3 : Hid (Blk w3 w1.heap.size 51 [.int .i64 2, .int .i64 0, .int .i64 0, .int .i64 0, .int .i64 0, .int .i64 0, (.slice q 0 c)]) := HA2.out.below hb3
  have HB3 : Hid (Below w0.heap.size w0 w3) := HB2.out.trans (hb3.mono HB2.out.size)
  have HT3 : Hid (Txts w3 (.slice q 0 c) []) := HT2.out.below hb3
  clear HA2 HB2 HT2 hb3
  have n0 : w3.cell? ⟨w1.heap.size, 0, none⟩ = some (.int .i64 2) := HA3.out.cell rfl
  have n1 : w3.cell? ⟨w1.heap.size, 1, none⟩ = some (.int .i64 0) := HA3.out.cell rfl
  have n2 : w3.cell? ⟨w1.heap.size, 2, none⟩ = some (.int .i64 0) := HA3.out.cell rfl
  have n3 : w3.cell? ⟨w1.heap.size, 3, none⟩ = some (.int .i64 0) := HA3.out.cell rfl
  have n4 : w3.cell? ⟨w1.heap.size, 4, none⟩ = some (.int .i64 0) := HA3.out.cell rfl
  have n5 : w3.cell? ⟨w1.heap.size, 5, none⟩ = some (.int .i64 0) := HA3.out.cell rfl
  have n6 : w3.cell? ⟨w1.heap.size, 6, none⟩ = some ((.slice q 0 c)) := HA3.out.cell rfl
  have nl := HA3.out.lt
  go_wp2_with fail
  refine Calls.mono (CC.out _) ?_
  rintro e w4 ⟨rfl, hb4⟩
  clear n0 n1 n2 n3 n4 n5 n6 nl
  have HA4 : Hid (Blk w4 w1.heap.size 51 [.int .i64 2, .int .i64 0, .int .i64 0, .int .i64 0, .int .i64 0, .int .i64 0, (.slice q 0 c)]) := HA3.out.below hb4
  have HB4 : Hid (Below w0.heap.size w0 w4) := HB3.out.trans (hb4.mono HB3.out.size)
  have HRR : Hid (Av.Row w4 w.heap.size 7) := (HFIN.out w4 HB4.out).1
  have HLD : Hid ((loadVar 51 ⟨w.heap.size, 0, none⟩).run Tryz.prog (w4.setCells w.heap.size 0 ce) = .ok (.agg ce.toArray) (w4.setCells w.heap.size 0 ce)) := (HFIN.out w4 HB4.out).2.1
  have HF : Hid (Below w.heap.size w (w4.setCells w.heap.size 0 ce)) := (HFIN.out w4 HB4.out).2.2
  have n0 : w4.cell? ⟨w1.heap.size, 0, none⟩ = some (.int .i64 2) := HA4.out.cell rfl
  have n1 : w4.cell? ⟨w1.heap.size, 1, none⟩ = some (.int .i64 0) := HA4.out.cell rfl
  have n2 : w4.cell? ⟨w1.heap.size, 2, none⟩ = some (.int .i64 0) := HA4.out.cell rfl
  have n3 : w4.cell? ⟨w1.heap.size, 3, none⟩ = some (.int .i64 0) := HA4.out.cell rfl
  have n4 : w4.cell? ⟨w1.heap.size, 4, none⟩ = some (.int .i64 0) := HA4.out.cell rfl
  have n5 : w4.cell? ⟨w1.heap.size, 5, none⟩ = some (.int .i64 0) := HA4.out.cell rfl
  have n6 : w4.cell? ⟨w1.heap.size, 6, none⟩ = some ((.slice q 0 c)) := HA4.out.cell rfl
  have nl := HA4.out.lt
  clear HFIN HA3 HA4 HT3 HB3 HB4 hb4
  go_wp2_with (refine wpList_store_mid rfl 51 (.tmp 4) (.tmp 123) rfl w.heap.size 0 #[.int .i64 2, .int .i64 0, .int .i64 0, .int .i64 0, .int .i64 0, .int .i64 0, (.slice q 0 c)] rfl rfl ?_ Tryz.infoAns honA ?_; (exact HRR.out.there 0 7 (by omega)); (rw [show (#[.int .i64 2, .int .i64 0, .int .i64 0, .int .i64 0, .int .i64 0, .int .i64 0, (.slice q 0 c)] : Array Value).toList = ce from HCE.out.symm]))
  exact bodyPost_ret (results_c2 rfl rfl rfl HLD.out) rfl ⟨_, _, by rw [HCE.out]; rfl, HF.out⟩
end Go.Proofs.YtkinoehmcfhgbaaGreatDoor.Vl
