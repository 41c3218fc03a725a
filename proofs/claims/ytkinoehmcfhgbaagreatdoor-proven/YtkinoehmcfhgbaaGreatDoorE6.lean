/-
  The statements' found: Prove twice, its lists written over by their owner.
-/
import Derived.Test.YtkinoehmcfhgbaaGreatDoorN20
set_option linter.unusedVariables false
set_option linter.unusedSimpArgs false
namespace Go.Proofs.YtkinoehmcfhgbaaGreatDoor.Vl
open Go.RowKit
open Go.Proofs.YtkinoehmcfhgbaaGreatDoor.Av (Row Row.new below_cells)

theorem append_copy {ops : Array Oper} {rest : List Oper} {o : Oper} {a : Act} {Q : Exit → Act → World → Prop} (w : World) (hgd : o.guard = none) (s x : Operand)
    (ho : o.op = .call { callee := .builtin .append, args := #[s, x], argTypes := #[22, 22] }) (b0 : Nat) (v : Value) (L : List (List UInt8)) (hs : a.eval s = .slice none 0 0) (hx : a.eval x = v) (hown : w.ownsRow b0 9 1 v L.length (L.map strV)) (hL : L.length ≤ 1000)
    (h : ∀ v' w', w'.ownsRow w.heap.size 9 1 v' L.length (L.map strV) → w.grownBy w' none → wpList Tryz.prog ops Q rest (a.put o.dst v') w') :
    wpList Tryz.prog ops Q (o :: rest) a w := by
  obtain ⟨i0, hi, hz0, hz1, hz2⟩ := info_parts Tryz.infoStr
  rcases hown.2 with ⟨e1, e2⟩ | ⟨g, cap, cur, e1, hg, hh, h3, h4, h5, h6⟩
  · have hl : L = [] := List.eq_nil_of_length_eq_zero e2
    subst hl
    exact wpList_append_own_none hgd s x 22 ho w.heap.size 9 i0 1 Tryz.underlying22 hi (.slice none 0 0) 0 [] hs (World.ownsRow_nil _ _ _ _) (hx.trans e1) (h _ _ (World.ownsRow_nil _ _ _ _) (World.grownBy.refl _ _))
  · refine wpList_append_own w hgd s x 22 ho w.heap.size 9 i0 (.string ⟨#[]⟩) 1 16 Tryz.underlying22 hi hz0 hz1 hz2 rfl (by decide) (.slice none 0 0) 0 [] hs (World.ownsRow_nil _ _ _ _) ⟨g, 0, none⟩ L.length cap (L.map strV) (hx.trans e1) (by simp) (fun j u hu => ?_) (fun u hu => by obtain ⟨l, _, rfl⟩ := List.mem_map.1 hu; rfl) (by unfold maxLen; omega) (by omega) (Nat.le_refl _) (fun v' w' h1 h2 _ => h v' w' (by simpa using h1) h2)
    rw [Addr.add_lit, Nat.zero_add]
    rw [← h6, List.getElem?_take] at hu
    split at hu
    · have : cur[j]? = some u := by simpa using hu
      simp [World.cell?, hh, this]
    · cases hu
theorem grownP_size (g : Nat) : ∀ (vs : List Value) (o : Nat) (w : World), (w.setCells g o vs).heap.size = w.heap.size
  | [], o, w => rfl
  | v :: vs, o, w => (grownP_size g vs (o + 1) (w.setCell ⟨g, o, none⟩ v)).trans (by simp [World.setCell])
/-- An owner's struct in memory. -/
def OAtP (w : World) (B n : Nat) (m : List UInt8) (cs : Array Value) : Prop := B < w.heap.size ∧ cs.size = 5 ∧ w.rangeAt B 0 cs.toList ∧ Own w cs n m
theorem OAtP.below {w w' : World} {B n : Nat} {m : List UInt8} {cs : Array Value} (h : OAtP w B n m cs) (hb : Below w.heap.size w w') : OAtP w' B n m cs :=
  ⟨Nat.lt_of_lt_of_le h.1 hb.size, h.2.1, fun j v hv => (hb.cell (p := ⟨B, 0 + j, none⟩) h.1).trans (h.2.2.1 j v hv), h.2.2.2.below hb⟩
theorem oatp_put {w : World} {n : Nat} {m : List UInt8} {cs : Array Value} (h5 : cs.size = 5) (hO : Own w cs n m) : (w.alloc (.cells #[.slice none 0 0, .slice none 0 0, .slice none 0 0, .slice none 0 0, .string ⟨#[]⟩] 29)).there w.heap.size 0 cs.size ∧ Below w.heap.size w ((w.alloc (.cells #[.slice none 0 0, .slice none 0 0, .slice none 0 0, .slice none 0 0, .string ⟨#[]⟩] 29)).setCells w.heap.size 0 cs.toList) ∧ OAtP ((w.alloc (.cells #[.slice none 0 0, .slice none 0 0, .slice none 0 0, .slice none 0 0, .string ⟨#[]⟩] 29)).setCells w.heap.size 0 cs.toList) w.heap.size n m cs := by
  have hr : Row (w.alloc (.cells #[.slice none 0 0, .slice none 0 0, .slice none 0 0, .slice none 0 0, .string ⟨#[]⟩] 29)) w.heap.size 5 := Row.new w #[.slice none 0 0, .slice none 0 0, .slice none 0 0, .slice none 0 0, .string ⟨#[]⟩] 29 (by decide)
  have ht := hr.there 0 cs.size (by omega)
  have hb : Below w.heap.size w ((w.alloc (.cells #[.slice none 0 0, .slice none 0 0, .slice none 0 0, .slice none 0 0, .string ⟨#[]⟩] 29)).setCells w.heap.size 0 cs.toList) := below_cells (Nat.le_refl _) _ _ _ (below_alloc _ _)
  refine ⟨ht, hb, ?_, h5, World.rangeAt_setCells_same _ _ _ _ (by simpa using ht), hO.below hb⟩
  rw [(grownP_size _ _ _ _)]; simp
theorem numP_any (k : Int) (w : World) : Calls Tryz.prog 13 #[.int .i64 k] w fun e w' => e = .returned (.int .i64 k) ∧ w = w' := by
  go_enter Tryz.func13, Tryz.ntmps13
  go_wp2
  go_ret
  exact ⟨rfl, rfl⟩
theorem own_sizeP {w : World} {base : Nat} {v : Value} {n : Nat} {xs : List Value} (h : w.ownsRow base 9 1 v n xs) : ∀ j, v.ownBlock = some j → j < w.heap.size := fun j e => by
  rcases h.2 with ⟨rfl, _⟩ | ⟨g, cap, cur, rfl, _, hh, _⟩
  · cases e
  · cases e
    exact (Array.getElem?_eq_some_iff.1 hh).1
theorem own_ne {v : Value} {u : Option Nat} (h : ∀ j, v.ownBlock = some j → u ≠ some j) : v.ownBlock = none ∨ v.ownBlock ≠ u := by
  cases e : v.ownBlock with
  | none => exact Or.inl rfl
  | some j => exact Or.inr (fun e' => h j e e'.symm)
theorem grown_set (g o : Nat) (v : Value) (w : World) : w.grownBy (w.setCell ⟨g, o, none⟩ v) (some g) := ⟨rfl, rfl, rfl, by simp [World.setCell], fun k _ hk => Below.heap_setCell w ⟨g, o, none⟩ v k (fun e => hk (by rw [e]))⟩
theorem txts_far {w : World} {v : Value} {L : List (List UInt8)} {b : Nat} {ty : TypeId} {x : Int} {cs vs : List Value} (h : Txts w v L) (hb : Blk w b ty (.int .i64 x :: cs)) : Txts (w.setCells b 0 vs) v L := by
  obtain ⟨q, c, rfl, h⟩ := h
  refine ⟨q, c, rfl, ?_⟩
  cases L with
  | nil => exact Or.inl rfl
  | cons l r =>
    rcases h with h | ⟨g, h1, h2, h3⟩
    · cases h
    · have hne : g ≠ b := fun e => by
        subst e
        have := (h3 0 l rfl).symm.trans (hb.cell rfl)
        cases this
      refine Or.inr ⟨g, h1, by rw [grownP_size]; exact h2, fun j u hu => ?_⟩
      rw [World.cell?_setCells_out b vs 0 w ⟨g, j, none⟩ (fun hb _ => absurd hb hne)]
      exact h3 j u hu
/-- What Prove answers has at most one proof. -/
theorem cpA_len (p : Option (List Sym)) (bu : Int) : (cpA p bu).1.2.2.length ≤ 1 := by
  unfold cpA
  split
  · simp
  · split
    · unfold prA
      split
      · simp
      · split <;> simp
    · simp

set_option maxRecDepth 100000 in
set_option maxHeartbeats 4000000 in
theorem foundL_any (s : ByteArray) (bu : Int) (w : World) (hgl : Gl w) (hgt : Gt w) (hmax : s.size ≤ maxLen) (v : Int) (m1 m2 m3 m4 : Int) (L : List (List UInt8)) (ec : Int) (hA : cpA (pars s) bu = ((v, (m1, m2, m3, m4), L), ec)) :
    Calls Tryz.prog 48 #[.string s, .int .i64 bu] w fun e w' => ∃ pv, e = .returned (.tuple #[.agg #[.int .i64 v, .int .i64 0, .int .i64 m1, .int .i64 m2, .int .i64 m3, .int .i64 m4, pv], .int .i64 ec, .bool true]) ∧ Txts w' pv L ∧ Below w.heap.size w w' := by
  have CP : Hid (∀ X, Below w.heap.size w X → Calls Tryz.prog 27 #[.string s, .int .i64 bu] X fun e w' => ∃ pv, e = .returned (.tuple #[.agg #[.int .i64 v, .int .i64 0, .int .i64 m1, .int .i64 m2, .int .i64 m3, .int .i64 m4, pv], .int .i64 ec]) ∧ w'.ownsRow X.heap.size 9 1 pv L.length (L.map strV) ∧ Below X.heap.size X w') := fun X hX => by
    have h := cprove_any s bu X (hgl.on hX) (hgt.on hX) hmax
    rw [hA] at h
    exact h
  have hL := cpA_len (pars s) bu
  rw [hA] at hL
  dsimp only at hL
  clear hA hgl hgt hmax
  have HR0 : Hid (Blk (w.alloc (.cells #[.int .i64 0, .int .i64 0, .int .i64 0, .int .i64 0, .int .i64 0, .int .i64 0, .slice none 0 0] 51)) w.heap.size 51 [.int .i64 0, .int .i64 0, .int .i64 0, .int .i64 0, .int .i64 0, .int .i64 0, .slice none 0 0]) := heap_alloc_new w _
  have h0s : (w.alloc (.cells #[.int .i64 0, .int .i64 0, .int .i64 0, .int .i64 0, .int .i64 0, .int .i64 0, .slice none 0 0] 51)).heap.size = w.heap.size + 1 := by simp
  have HB0 : Hid (Below w.heap.size w (w.alloc (.cells #[.int .i64 0, .int .i64 0, .int .i64 0, .int .i64 0, .int .i64 0, .int .i64 0, .slice none 0 0] 51))) := below_alloc w _
  go_enter Tryz.func48, Tryz.ntmps48
  go_wp2_with fail
  refine Calls.mono (CP.out _ HB0.out) ?_
  generalize (w.alloc (.cells #[.int .i64 0, .int .i64 0, .int .i64 0, .int .i64 0, .int .i64 0, .int .i64 0, .slice none 0 0] 51)) = w0 at *
  rintro e w1 ⟨pv, rfl, ho1, hb1⟩
  obtain ⟨q1, c1, rfl⟩ := own_shape ho1
  go_wp2_with (at_builtin; refine append_copy _ rfl _ _ rfl w0.heap.size (.slice q1 L.length c1) L rfl rfl (by exact (ho1.alloc _).alloc _) (by omega) ?_)
  have h1s := hb1.size
  have ha1 : Blk ((w1.alloc (.cells #[.int .i64 v, .int .i64 0, .int .i64 m1, .int .i64 m2, .int .i64 m3, .int .i64 m4, (.slice q1 L.length c1)] 51)).alloc (.cells #[.int .i64 v, .int .i64 0, .int .i64 m1, .int .i64 m2, .int .i64 m3, .int .i64 m4, .slice none 0 0] 51)) w1.heap.size 51 [.int .i64 v, .int .i64 0, .int .i64 m1, .int .i64 m2, .int .i64 m3, .int .i64 m4, (.slice q1 L.length c1)] := Blk.below (w := w1.alloc (.cells #[.int .i64 v, .int .i64 0, .int .i64 m1, .int .i64 m2, .int .i64 m3, .int .i64 m4, (.slice q1 L.length c1)] 51)) (heap_alloc_new w1 _) (below_alloc _ _)
  have hbb1 : Blk ((w1.alloc (.cells #[.int .i64 v, .int .i64 0, .int .i64 m1, .int .i64 m2, .int .i64 m3, .int .i64 m4, (.slice q1 L.length c1)] 51)).alloc (.cells #[.int .i64 v, .int .i64 0, .int .i64 m1, .int .i64 m2, .int .i64 m3, .int .i64 m4, .slice none 0 0] 51)) (w1.heap.size + 1) 51 [.int .i64 v, .int .i64 0, .int .i64 m1, .int .i64 m2, .int .i64 m3, .int .i64 m4, .slice none 0 0] := by
    have := heap_alloc_new (w1.alloc (.cells #[.int .i64 v, .int .i64 0, .int .i64 m1, .int .i64 m2, .int .i64 m3, .int .i64 m4, (.slice q1 L.length c1)] 51)) (.cells #[.int .i64 v, .int .i64 0, .int .i64 m1, .int .i64 m2, .int .i64 m3, .int .i64 m4, .slice none 0 0] 51)
    rw [World.size_alloc] at this
    exact this
  have hoA := (ho1.alloc (.cells #[.int .i64 v, .int .i64 0, .int .i64 m1, .int .i64 m2, .int .i64 m3, .int .i64 m4, (.slice q1 L.length c1)] 51)).alloc (.cells #[.int .i64 v, .int .i64 0, .int .i64 m1, .int .i64 m2, .int .i64 m3, .int .i64 m4, .slice none 0 0] 51)
  have hbA : Below w0.heap.size w0 ((w1.alloc (.cells #[.int .i64 v, .int .i64 0, .int .i64 m1, .int .i64 m2, .int .i64 m3, .int .i64 m4, (.slice q1 L.length c1)] 51)).alloc (.cells #[.int .i64 v, .int .i64 0, .int .i64 m1, .int .i64 m2, .int .i64 m3, .int .i64 m4, .slice none 0 0] 51)) := (hb1.alloc (by omega) _).alloc (by simp; omega) _
  have hsA : ((w1.alloc (.cells #[.int .i64 v, .int .i64 0, .int .i64 m1, .int .i64 m2, .int .i64 m3, .int .i64 m4, (.slice q1 L.length c1)] 51)).alloc (.cells #[.int .i64 v, .int .i64 0, .int .i64 m1, .int .i64 m2, .int .i64 m3, .int .i64 m4, .slice none 0 0] 51)).heap.size = w1.heap.size + 2 := by simp
  have hq1 := own_sizeP ho1
  clear ho1 hb1
  generalize ((w1.alloc (.cells #[.int .i64 v, .int .i64 0, .int .i64 m1, .int .i64 m2, .int .i64 m3, .int .i64 m4, (.slice q1 L.length c1)] 51)).alloc (.cells #[.int .i64 v, .int .i64 0, .int .i64 m1, .int .i64 m2, .int .i64 m3, .int .i64 m4, .slice none 0 0] 51)) = wA at *
  intro pv2 w2 ho2 hg2
  obtain ⟨q2, c2, rfl⟩ := own_shape ho2
  have hg2s := hg2.size
  have ha2 : Blk w2 w1.heap.size 51 [.int .i64 v, .int .i64 0, .int .i64 m1, .int .i64 m2, .int .i64 m3, .int .i64 m4, (.slice q1 L.length c1)] := (hg2.block _ (by omega) (by simp)).trans ha1
  have hb2 : Blk w2 (w1.heap.size + 1) 51 [.int .i64 v, .int .i64 0, .int .i64 m1, .int .i64 m2, .int .i64 m3, .int .i64 m4, .slice none 0 0] := (hg2.block _ (by omega) (by simp)).trans hbb1
  have ho12 := hoA.kept hg2 (own_ne (fun j _ h => by cases h))
  have hB2 : Below w0.heap.size w0 w2 := hbA.grown hg2 (by omega) (fun j hj => by cases hj)
  have hgs := grown_set (w1.heap.size + 1) 6 (.slice q2 L.length c2) w2
  have ha3 : Blk (w2.setCell ⟨w1.heap.size + 1, 6, none⟩ (.slice q2 L.length c2)) w1.heap.size 51 [.int .i64 v, .int .i64 0, .int .i64 m1, .int .i64 m2, .int .i64 m3, .int .i64 m4, (.slice q1 L.length c1)] := ha2.other 6 (.slice q2 L.length c2) (by omega)
  have hb3 : Blk (w2.setCell ⟨w1.heap.size + 1, 6, none⟩ (.slice q2 L.length c2)) (w1.heap.size + 1) 51 [.int .i64 v, .int .i64 0, .int .i64 m1, .int .i64 m2, .int .i64 m3, .int .i64 m4, (.slice q2 L.length c2)] := hb2.set 6 (.slice q2 L.length c2)
  have ho13 := ho12.kept hgs (own_ne (fun j hj h => by cases h; have := hq1 _ hj; omega))
  have ho23 := ho2.kept hgs (own_ne (fun j hj h => by cases h; have := own_block ho2 _ hj; omega))
  have hB3 : Below w0.heap.size w0 (w2.setCell ⟨w1.heap.size + 1, 6, none⟩ (.slice q2 L.length c2)) := hB2.grown hgs (by have := hB2.size; omega) (fun j hj => by cases hj; omega)
  have a6 : w2.cell? ⟨w1.heap.size, 6, none⟩ = some (.slice q1 L.length c1) := ha2.cell rfl
  have b6 : w2.cell? ⟨w1.heap.size + 1, 6, none⟩ = some (.slice none 0 0) := hb2.cell rfl
  have bf : w2.frozen? ⟨w1.heap.size + 1, 6, none⟩ = false := hb2.free 6
  have y6 : (w2.setCell ⟨w1.heap.size + 1, 6, none⟩ (.slice q2 L.length c2)).cell? ⟨w1.heap.size, 6, none⟩ = some (.slice q1 L.length c1) := ha3.cell rfl
  have H13 : Hid ((w2.setCell ⟨w1.heap.size + 1, 6, none⟩ (.slice q2 L.length c2)).ownsRow w0.heap.size 9 1 (.slice q1 L.length c1) L.length (L.map strV)) := ho13
  have H23 : Hid ((w2.setCell ⟨w1.heap.size + 1, 6, none⟩ (.slice q2 L.length c2)).ownsRow (w1.heap.size + 1 + 1) 9 1 (.slice q2 L.length c2) L.length (L.map strV)) := ho23
  have HB3 : Hid (Below w0.heap.size w0 (w2.setCell ⟨w1.heap.size + 1, 6, none⟩ (.slice q2 L.length c2))) := hB3
  have HBB3 : Hid (Blk (w2.setCell ⟨w1.heap.size + 1, 6, none⟩ (.slice q2 L.length c2)) (w1.heap.size + 1) 51 [.int .i64 v, .int .i64 0, .int .i64 m1, .int .i64 m2, .int .i64 m3, .int .i64 m4, (.slice q2 L.length c2)]) := hb3
  have HS3 : Hid ((w2.setCell ⟨w1.heap.size + 1, 6, none⟩ (.slice q2 L.length c2)).heap.size = w2.heap.size) := by show _ = _; simp [World.setCell]
  clear ho13 ho23 hB3 hb3 ha3 ha2 hb2 ho12 hB2 hgs ha1 hbb1 hoA hbA ho2 hg2
  go_wp2_with fail
  generalize (w2.setCell ⟨w1.heap.size + 1, 6, none⟩ (.slice q2 L.length c2)) = Y at *
  clear a6 b6 bf y6
  refine Calls.mono (own_any w0.heap.size L.length _ _ [109, 105, 110, 101] Y H13.out HB3.out.size (by omega)) ?_
  rintro e w3 ⟨cs, rfl, hcs1, hcs2, hO3, hg3⟩
  have b33 : Blk w3 (w1.heap.size + 1) 51 [.int .i64 v, .int .i64 0, .int .i64 m1, .int .i64 m2, .int .i64 m3, .int .i64 m4, (.slice q2 L.length c2)] := (hg3.block _ HBB3.out.lt (fun e => by have := hq1 _ e.symm; omega)).trans HBB3.out
  have o33 := H23.out.kept hg3 (own_ne (fun j hj h => by have h1 := hq1 _ h; have h2 := own_block H23.out _ hj; omega))
  have bw3 : Below w0.heap.size w0 w3 := HB3.out.grown hg3 HB3.out.size (own_block H13.out)
  obtain ⟨hth, hbx, hA⟩ := oatp_put hcs1 hO3
  have hi0 : (Tryz.prog.info? 29).map (·.size) = some cs.size := by rw [hcs1]; exact Tryz.infoOwned
  have HI : Hid ((Tryz.prog.info? 29).map (·.size) = some cs.toList.length) := by show _ = _; rw [hi0]; simp
  have BX : Hid (Below w0.heap.size w0 ((w3.alloc (.cells #[.slice none 0 0, .slice none 0 0, .slice none 0 0, .slice none 0 0, .string ⟨#[]⟩] 29)).setCells w3.heap.size 0 cs.toList)) := bw3.trans (hbx.mono bw3.size)
  have HA : Hid (OAtP ((w3.alloc (.cells #[.slice none 0 0, .slice none 0 0, .slice none 0 0, .slice none 0 0, .string ⟨#[]⟩] 29)).setCells w3.heap.size 0 cs.toList) w3.heap.size L.length [109, 105, 110, 101] cs) := hA
  have HBX : Hid (Blk ((w3.alloc (.cells #[.slice none 0 0, .slice none 0 0, .slice none 0 0, .slice none 0 0, .string ⟨#[]⟩] 29)).setCells w3.heap.size 0 cs.toList) (w1.heap.size + 1) 51 [.int .i64 v, .int .i64 0, .int .i64 m1, .int .i64 m2, .int .i64 m3, .int .i64 m4, (.slice q2 L.length c2)]) := b33.below hbx
  have HT : Hid (Txts ((w3.alloc (.cells #[.slice none 0 0, .slice none 0 0, .slice none 0 0, .slice none 0 0, .string ⟨#[]⟩] 29)).setCells w3.heap.size 0 cs.toList) (.slice q2 L.length c2) L) := (Txts.own o33).below hbx
  clear hbx hA hO3 hg3 o33 bw3 b33 H13 H23 HB3 HBB3 HS3
  go_wp2_with (refine wpList_store_mid rfl 29 (.tmp 10) (.tmp 33) rfl w3.heap.size 0 cs rfl rfl ?_ hi0 hcs2 ?_; (exact hth))
  clear hth hi0 hcs2
  generalize ((w3.alloc (.cells #[.slice none 0 0, .slice none 0 0, .slice none 0 0, .slice none 0 0, .string ⟨#[]⟩] 29)).setCells w3.heap.size 0 cs.toList) = X3 at *
  refine Calls.mono (CP.out X3 (HB0.out.trans (BX.out.mono HB0.out.size))) ?_
  rintro e w4 ⟨pv4, rfl, ho4, hb4⟩
  obtain ⟨q4, c4, rfl⟩ := own_shape ho4
  have HO4 : Hid (w4.ownsRow X3.heap.size 9 1 (.slice q4 L.length c4) L.length (L.map strV)) := ho4
  have HB4 : Hid (Below X3.heap.size X3 w4) := hb4
  have bb4 := HBX.out.below hb4
  have hlt4 := bb4.lt
  have n0 : w4.cell? ⟨w1.heap.size + 1, 0, none⟩ = some (.int .i64 v) := bb4.cell rfl
  have n1 : w4.cell? ⟨w1.heap.size + 1, 1, none⟩ = some (.int .i64 0) := bb4.cell rfl
  have n2 : w4.cell? ⟨w1.heap.size + 1, 2, none⟩ = some (.int .i64 m1) := bb4.cell rfl
  have n3 : w4.cell? ⟨w1.heap.size + 1, 3, none⟩ = some (.int .i64 m2) := bb4.cell rfl
  have n4 : w4.cell? ⟨w1.heap.size + 1, 4, none⟩ = some (.int .i64 m3) := bb4.cell rfl
  have n5 : w4.cell? ⟨w1.heap.size + 1, 5, none⟩ = some (.int .i64 m4) := bb4.cell rfl
  have n6 : w4.cell? ⟨w1.heap.size + 1, 6, none⟩ = some (.slice q2 L.length c2) := bb4.cell rfl
  clear ho4 hb4 bb4
  go_wp2_with fail
  clear n0 n1 n2 n3 n4 n5 n6
  refine Calls.mono (alike_any v m1 m2 m3 m4 (.slice q2 L.length c2) (.slice q4 L.length c4) L _ ((HT.out.below HB4.out).below (below_alloc _ _)) ((Txts.own HO4.out).below (below_alloc _ _)) (by omega)) ?_
  rintro e w6 ⟨rfl, hb6⟩
  have c6 : w6.cell? ⟨w4.heap.size, 6, none⟩ = some (.slice q4 L.length c4) := (hb6.cell (p := ⟨w4.heap.size, 6, none⟩) (by simp)).trans (Blk.cell (heap_alloc_new w4 _) rfl)
  have ox6 := ownsRow_below (HO4.out.alloc (.cells #[.int .i64 v, .int .i64 0, .int .i64 m1, .int .i64 m2, .int .i64 m3, .int .i64 m4, (.slice q4 L.length c4)] 51)) hb6
  have bX6 : Below X3.heap.size X3 w6 := (HB4.out.alloc HB4.out.size _).trans (hb6.mono (by have := HB4.out.size; simp; omega))
  have OX6 : Hid (w6.ownsRow X3.heap.size 9 1 (.slice q4 L.length c4) L.length (L.map strV)) := ox6
  have BX6 : Hid (Below X3.heap.size X3 w6) := bX6
  clear ox6 bX6 hb6 HO4 HB4
  go_wp2_with fail
  clear c6
  refine Calls.mono (own_any X3.heap.size L.length _ _ [121, 111, 117, 114, 115] w6 OX6.out BX6.out.size (by omega)) ?_
  rintro e w7 ⟨cs2, rfl, hcs21, hcs22, hO7, hg7⟩
  have bX7 : Below X3.heap.size X3 w7 := BX6.out.grown hg7 BX6.out.size (own_block OX6.out)
  obtain ⟨hth, hbx, hA⟩ := oatp_put hcs21 hO7
  have hi0 : (Tryz.prog.info? 29).map (·.size) = some cs2.size := by rw [hcs21]; exact Tryz.infoOwned
  have HI2 : Hid ((Tryz.prog.info? 29).map (·.size) = some cs2.toList.length) := by show _ = _; rw [hi0]; simp
  have BX7 : Hid (Below X3.heap.size X3 ((w7.alloc (.cells #[.slice none 0 0, .slice none 0 0, .slice none 0 0, .slice none 0 0, .string ⟨#[]⟩] 29)).setCells w7.heap.size 0 cs2.toList)) := bX7.trans (hbx.mono bX7.size)
  have HA7 : Hid (OAtP ((w7.alloc (.cells #[.slice none 0 0, .slice none 0 0, .slice none 0 0, .slice none 0 0, .string ⟨#[]⟩] 29)).setCells w7.heap.size 0 cs2.toList) w3.heap.size L.length [109, 105, 110, 101] cs) := HA.out.below BX7.out
  have HB7 : Hid (OAtP ((w7.alloc (.cells #[.slice none 0 0, .slice none 0 0, .slice none 0 0, .slice none 0 0, .string ⟨#[]⟩] 29)).setCells w7.heap.size 0 cs2.toList) w7.heap.size L.length [121, 111, 117, 114, 115] cs2) := hA
  have rA : ((w7.alloc (.cells #[.slice none 0 0, .slice none 0 0, .slice none 0 0, .slice none 0 0, .string ⟨#[]⟩] 29)).setCells w7.heap.size 0 cs2.toList).rangeAt w3.heap.size 0 cs.toList := HA7.out.2.2.1
  have hi1 := HI.out
  clear hbx hA hO7 hg7 bX7 OX6 BX6 HA
  go_wp2_with (first | (refine wpList_store_mid rfl 29 (.tmp 14) (.tmp 45) rfl w7.heap.size 0 cs2 rfl rfl ?_ hi0 hcs22 ?_; (exact hth)) | (refine wpList_load_mid rfl 29 (.tmp 10) rfl w3.heap.size 0 rfl cs.toList _ ?_ Tryz.underlying29 rfl hi1 ?_; (exact rA)))
  clear hth hi0 hcs22 rA hi1
  generalize ((w7.alloc (.cells #[.slice none 0 0, .slice none 0 0, .slice none 0 0, .slice none 0 0, .string ⟨#[]⟩] 29)).setCells w7.heap.size 0 cs2.toList) = X7 at *
  refine Calls.mono (stands_any cs L.length [109, 105, 110, 101] X7 HA7.out.2.2.2 (by omega)) ?_
  rintro e w8 ⟨rfl, hb8⟩
  have HB8 : Hid (OAtP w8 w7.heap.size L.length [121, 111, 117, 114, 115] cs2) := HB7.out.below hb8
  have BX8 : Hid (Below X3.heap.size X3 w8) := BX7.out.trans (hb8.mono BX7.out.size)
  have rB : w8.rangeAt w7.heap.size 0 cs2.toList := HB8.out.2.2.1
  have hi2 := HI2.out
  clear hb8 HB7 BX7 HA7
  go_wp2_with (refine wpList_load_mid rfl 29 (.tmp 14) rfl w7.heap.size 0 rfl cs2.toList _ ?_ Tryz.underlying29 rfl hi2 ?_; (exact rB))
  refine Calls.mono (stands_any cs2 L.length [121, 111, 117, 114, 115] w8 HB8.out.2.2.2 (by omega)) ?_
  rintro e w9 ⟨rfl, hb9⟩
  have bX9 : Below X3.heap.size X3 w9 := BX8.out.trans (hb9.mono BX8.out.size)
  have bb9 := HBX.out.below bX9
  have hT9 := HT.out.below bX9
  have b09 : Below w0.heap.size w0 w9 := BX.out.trans (bX9.mono BX.out.size)
  have hR9 := HR0.out.below b09
  have hR7 : Av.Row w9 w.heap.size 7 := Blk.row hR9 (fun u hu => by simp at hu; rcases hu with rfl | rfl <;> rfl)
  have HRR : Hid (Av.Row w9 w.heap.size 7) := hR7
  obtain ⟨ce, HCE⟩ : ∃ ce : List Value, Hid (ce = [.int .i64 v, .int .i64 0, .int .i64 m1, .int .i64 m2, .int .i64 m3, .int .i64 m4, (.slice q2 L.length c2)]) := ⟨_, rfl⟩
  have honA : (#[.int .i64 v, .int .i64 0, .int .i64 m1, .int .i64 m2, .int .i64 m3, .int .i64 m4, (.slice q2 L.length c2)] : Array Value).all (·.oneCell') = true := by simp [Value.oneCell']
  have HLD : Hid ((loadVar 51 ⟨w.heap.size, 0, none⟩).run Tryz.prog (w9.setCells w.heap.size 0 ce) = .ok (.agg ce.toArray) (w9.setCells w.heap.size 0 ce)) := ansV_load (World.rangeAt_setCells_same w9 w.heap.size 0 ce (by rw [HCE.out]; exact hR7.there 0 7 (by omega))) (by rw [HCE.out]; rfl)
  have HF : Hid (Below w.heap.size w (w9.setCells w.heap.size 0 ce)) := below_cellsN (Nat.le_refl _) _ 0 w w9 (HB0.out.trans (b09.mono HB0.out.size))
  have HTF : Hid (Txts (w9.setCells w.heap.size 0 ce) (.slice q2 L.length c2) L) := txts_far hT9 hR9
  have hlt9 := bb9.lt
  have n0 : w9.cell? ⟨w1.heap.size + 1, 0, none⟩ = some (.int .i64 v) := bb9.cell rfl
  have n1 : w9.cell? ⟨w1.heap.size + 1, 1, none⟩ = some (.int .i64 0) := bb9.cell rfl
  have n2 : w9.cell? ⟨w1.heap.size + 1, 2, none⟩ = some (.int .i64 m1) := bb9.cell rfl
  have n3 : w9.cell? ⟨w1.heap.size + 1, 3, none⟩ = some (.int .i64 m2) := bb9.cell rfl
  have n4 : w9.cell? ⟨w1.heap.size + 1, 4, none⟩ = some (.int .i64 m3) := bb9.cell rfl
  have n5 : w9.cell? ⟨w1.heap.size + 1, 5, none⟩ = some (.int .i64 m4) := bb9.cell rfl
  have n6 : w9.cell? ⟨w1.heap.size + 1, 6, none⟩ = some (.slice q2 L.length c2) := bb9.cell rfl
  clear hb9 bX9 bb9 hT9 b09 hR9 hR7 HBX HT HB8 BX8 rB hi2
  go_wp2_with (refine wpList_store_mid rfl 51 (.tmp 4) (.tmp 50) rfl w.heap.size 0 #[.int .i64 v, .int .i64 0, .int .i64 m1, .int .i64 m2, .int .i64 m3, .int .i64 m4, (.slice q2 L.length c2)] rfl rfl ?_ Tryz.infoAns honA ?_; (exact HRR.out.there 0 7 (by omega)); (rw [show (#[.int .i64 v, .int .i64 0, .int .i64 m1, .int .i64 m2, .int .i64 m3, .int .i64 m4, (.slice q2 L.length c2)] : Array Value).toList = ce from HCE.out.symm]))
  exact bodyPost_ret (results_c3 rfl rfl rfl rfl HLD.out) rfl ⟨_, by rw [HCE.out]; rfl, HTF.out, HF.out⟩
end Go.Proofs.YtkinoehmcfhgbaaGreatDoor.Vl
