/-
  What a condition comes to by the values of its atoms: plain words, and lists of numbers in memory.
  The walk of the document's worth.
  The walks of the document's good, and of the program's inRange and MayBe: a state that may be.
  The walks of the document's valued and Value.
-/
import Derived.Test.YtkinoehmcfhgbaaV0
import Derived.Deep.RegionHeld3
import Derived.OwnWalk
set_option linter.unusedVariables false
set_option linter.unusedSimpArgs false
namespace Go.Proofs.Ytkinoehmcfhgbaa.Vl
open Go.RowKit

def sgk (q : Int) : Int := if q == 3 then 38 else if q == 4 then 124 else 62
/-- One symbol: its parts' values lie on the stack (the first part's on top). -/
def wst (ls : List Atm) (bs : List Int) (y : Sym) (st : List Int) : List Int :=
  if y.1 = 0 then 1 :: st else if y.1 = 1 then 0 :: st else if y.1 = 6 then bs.getD (nmb ls y.2 0).toNat 0 :: st
  else if y.1 = 2 then (match st with | x :: r => (if x < 2 then 1 - x else x) :: r | [] => [])
  else match st with | x :: z :: r => tbl (sgk y.1) x z :: r | _ => []
def wrun (ls : List Atm) (bs : List Int) (ys : List Sym) : List Int := ys.foldr (wst ls bs) []
theorem wrun_cons (ls : List Atm) (bs : List Int) (y : Sym) (r : List Sym) : wrun ls bs (y :: r) = wst ls bs y (wrun ls bs r) := rfl

/-- The symbols of a text from a place on, and where each begins. -/
def Pos (s : ByteArray) : Nat → Int → List Sym → List Nat → Prop
  | k, m, [], ps => ps = [] ∧ k = s.size ∧ m = 0
  | k, m, y :: r, ps => ∃ j ps', ps = k :: ps' ∧ k < s.size ∧ m ≠ 0 ∧ sym (rest s k) = some (y, j) ∧ Pos s (k + j) (m + prt y.1 - 1) r ps'
theorem pos_of (s : ByteArray) : ∀ (ys : List Sym) (k : Nat) (m : Int), k ≤ s.size → prsA m (rest s k) = some ys → ∃ ps, Pos s k m ys ps := by
  intro ys
  induction ys with
  | nil =>
    intro k m hk h
    by_cases hlt : k < s.size
    · exfalso
      rw [rest_cons s k hlt] at h
      by_cases hm : m = 0
      · subst hm; rw [prsA_zero] at h; cases h
      · cases hs : sym (s[k] :: rest s (k + 1)) with
        | none => rw [prsA_none _ _ _ hs] at h; cases h
        | some q =>
          rw [prsA_some m _ _ q.1 q.2 hm hs] at h
          cases hq : prsA (m + prt q.1.1 - 1) ((s[k] :: rest s (k + 1)).drop q.2) <;> rw [hq] at h <;> cases h
    · rw [rest_end s k (by omega), prsA_nil] at h
      split at h
      · exact ⟨[], rfl, by omega, by assumption⟩
      · cases h
  | cons y r ih =>
    intro k m hk h
    by_cases hlt : k < s.size
    · rw [rest_cons s k hlt] at h
      by_cases hm : m = 0
      · subst hm; rw [prsA_zero] at h; cases h
      · cases hs : sym (s[k] :: rest s (k + 1)) with
        | none => rw [prsA_none _ _ _ hs] at h; cases h
        | some q =>
          obtain ⟨z, j⟩ := q
          have hf := sym_facts hs
          rw [prsA_some m _ _ z j hm hs, ← rest_cons s k hlt, rest_drop] at h
          cases hq : prsA (m + prt z.1 - 1) (rest s (k + j)) with
          | none => rw [hq] at h; cases h
          | some r' =>
            rw [hq] at h
            cases h
            have hl : (s[k] :: rest s (k + 1)).length = s.size - k := by rw [← rest_cons s k hlt, rest_len]
            obtain ⟨ps', hps⟩ := ih (k + j) _ (by omega) hq
            exact ⟨k :: ps', j, ps', rfl, hlt, hm, by rw [rest_cons s k hlt]; exact hs, hps⟩
    · rw [rest_end s k (by omega), prsA_nil] at h
      split at h <;> cases h
theorem sym_kind {s : ByteArray} {k : Nat} {y : Sym} {j : Nat} (hk : k < s.size) (h : sym (rest s k) = some (y, j)) :
    (0 ≤ mk (s[k].toNat : Int) ∧ y = (mk (s[k].toNat : Int), 0, 0, 0) ∧ j = 1) ∨ (¬ 0 ≤ mk (s[k].toNat : Int) ∧ ∃ a, y = (6, a) ∧ atm (rest s k) = some (a, j)) := by
  rw [rest_cons s k hk] at h
  simp only [sym] at h
  split at h
  · rename_i hm
    cases h; exact Or.inl ⟨hm, rfl, rfl⟩
  · rename_i hm
    rw [← rest_cons s k hk] at h
    cases ha : atm (rest s k) with
    | none => rw [ha] at h; cases h
    | some q => rw [ha] at h; cases h; exact Or.inr ⟨hm, q.1, rfl, rfl⟩
theorem mk_le (c : Int) : -1 ≤ mk c ∧ mk c ≤ 5 := by
  unfold mk; repeat' split
  all_goals omega
theorem kind_range {s : ByteArray} {k : Nat} {y : Sym} {j : Nat} (hk : k < s.size) (h : sym (rest s k) = some (y, j)) : 0 ≤ y.1 ∧ y.1 ≤ 6 := by
  rcases sym_kind hk h with ⟨h0, rfl, _⟩ | ⟨_, a, rfl, _⟩
  · have := mk_le (s[k].toNat : Int); dsimp only; omega
  · dsimp only; omega
theorem wst_len (ls : List Atm) (bs : List Int) (y : Sym) (st : List Int) (h0 : 0 ≤ y.1) (h6 : y.1 ≤ 6) (h : prt y.1 ≤ st.length) : ((wst ls bs y st).length : Int) = st.length - prt y.1 + 1 := by
  obtain ⟨q, a⟩ := y
  dsimp only at *
  have hq : q = 0 ∨ q = 1 ∨ q = 6 ∨ q = 2 ∨ q = 3 ∨ q = 4 ∨ q = 5 := by omega
  rcases hq with rfl | rfl | rfl | rfl | rfl | rfl | rfl
  · simp [wst, prt]
  · simp [wst, prt]
  · simp [wst, prt]
  · match st, h with
    | [], h => exact absurd h (by decide)
    | x :: r, _ => simp [wst, prt]
  all_goals
    match st, h with
    | [], h => exact absurd h (by decide)
    | [x], h => simp [prt] at h
    | x :: z :: r, _ => simp [wst, prt]; omega
theorem wrun_len {s : ByteArray} (ls : List Atm) (bs : List Int) : ∀ (ys : List Sym) (k : Nat) (m : Int) (ps : List Nat), Pos s k m ys ps → 0 ≤ m → ((wrun ls bs ys).length : Int) = m
  | [], k, m, ps, h, _ => by obtain ⟨_, _, rfl⟩ := h; rfl
  | y :: r, k, m, ps, h, hm => by
    obtain ⟨j, ps', rfl, hk, hm0, hs, hp⟩ := h
    have hr := kind_range hk hs
    have hpr := prt_range y.1
    have ih := wrun_len ls bs r (k + j) _ ps' hp (by omega)
    rw [wrun_cons, wst_len ls bs y _ hr.1 hr.2 (by omega), ih]; omega
theorem pos_at {s : ByteArray} (ls : List Atm) (bs : List Int) : ∀ (ys : List Sym) (k : Nat) (m : Int) (ps : List Nat), Pos s k m ys ps → 0 ≤ m → ps.length = ys.length ∧ ∀ n, n < ys.length →
    ∃ p y j, ps[n]? = some p ∧ ys[n]? = some y ∧ p < s.size ∧ sym (rest s p) = some (y, j) ∧ prt y.1 ≤ (wrun ls bs (ys.drop (n + 1))).length
  | [], k, m, ps, h, _ => by obtain ⟨rfl, _, _⟩ := h; exact ⟨rfl, fun n hn => absurd hn (by simp)⟩
  | y :: r, k, m, ps, h, hm => by
    obtain ⟨j, ps', rfl, hk, hm0, hs, hp⟩ := h
    have hpr := prt_range y.1
    have ih := pos_at ls bs r (k + j) _ ps' hp (by omega)
    refine ⟨by simp [ih.1], fun n hn => ?_⟩
    cases n with
    | zero =>
      have := wrun_len ls bs r (k + j) _ ps' hp (by omega)
      exact ⟨k, y, j, rfl, rfl, hk, hs, by simp only [Nat.zero_add, List.drop_succ_cons, List.drop_zero]; omega⟩
    | succ n =>
      obtain ⟨p, z, i, h1, h2, h3, h4, h5⟩ := ih.2 n (by simpa using hn)
      exact ⟨p, z, i, by simpa using h1, by simpa using h2, h3, h4, by simpa using h5⟩
theorem tbl_range (g x y : Int) : 0 ≤ tbl g x y ∧ tbl g x y ≤ 2 := by
  unfold tbl; repeat' split
  all_goals omega
theorem getD_range {bs : List Int} (h : ∀ x ∈ bs, 0 ≤ x ∧ x ≤ 2) (n : Nat) : 0 ≤ bs.getD n 0 ∧ bs.getD n 0 ≤ 2 := by
  rw [List.getD_eq_getElem?_getD]
  cases hn : bs[n]? with
  | none => simp
  | some x => exact h x (List.mem_of_getElem? hn)
theorem wst_range {ls : List Atm} {bs : List Int} (hb : ∀ x ∈ bs, 0 ≤ x ∧ x ≤ 2) (y : Sym) (st : List Int) (h : ∀ x ∈ st, 0 ≤ x ∧ x ≤ 2) : ∀ x ∈ wst ls bs y st, 0 ≤ x ∧ x ≤ 2 := by
  unfold wst
  split
  · intro x hx; simp at hx; rcases hx with rfl | hx
    · omega
    · exact h x hx
  · split
    · intro x hx; simp at hx; rcases hx with rfl | hx
      · omega
      · exact h x hx
    · split
      · intro x hx
        rcases List.mem_cons.1 hx with rfl | hx
        · exact getD_range hb _
        · exact h x hx
      · split
        · split
          · rename_i x r
            intro z hz
            have hx := h x (by simp)
            rcases List.mem_cons.1 hz with rfl | hz
            · split <;> omega
            · exact h z (by simp [hz])
          · intro x hx; cases hx
        · split
          · intro z hz
            rcases List.mem_cons.1 hz with rfl | hz
            · exact tbl_range _ _ _
            · exact h z (by simp [hz])
          · intro x hx; cases hx
theorem wrun_range {ls : List Atm} {bs : List Int} (hb : ∀ x ∈ bs, 0 ≤ x ∧ x ≤ 2) : ∀ ys : List Sym, ∀ x ∈ wrun ls bs ys, 0 ≤ x ∧ x ≤ 2
  | [] => by intro x hx; cases hx
  | y :: r => by rw [wrun_cons]; exact wst_range hb y _ (wrun_range hb r)

/- Lists of numbers in memory. -/
def iv (x : Int) : Value := .int .i64 x
def IntsR (w : World) (v : Value) (bs : List Int) : Prop :=
  (v = .slice none 0 0 ∧ bs = []) ∨ ∃ b cap, v = .slice (some ⟨b, 0, none⟩) bs.length cap ∧ bs.length ≤ cap ∧ cap ≤ maxLen ∧ b < w.heap.size ∧ ∀ j x, bs[j]? = some x → w.cell? ⟨b, j, none⟩ = some (iv x)
theorem IntsR.below {w w' : World} {v : Value} {ls : List Int} (h : IntsR w v ls) (hb : Below w.heap.size w w') : IntsR w' v ls := by
  rcases h with h | ⟨b, cap, h1, h2, h3, h4, h5⟩
  · exact Or.inl h
  · exact Or.inr ⟨b, cap, h1, h2, h3, Nat.lt_of_lt_of_le h4 hb.size, fun j t ht => (hb.cell (p := ⟨b, j, none⟩) h4).trans (h5 j t ht)⟩
theorem own_facts {w : World} {base n : Nat} {e : TypeId} {v : Value} {xs : List Value} (h : w.ownsRow base e 1 v n xs) (hn : 0 < n) :
    ∃ g cap, v = .slice (some ⟨g, 0, none⟩) n cap ∧ base ≤ g ∧ g < w.heap.size ∧ n ≤ cap ∧ cap ≤ maxLen ∧ (∀ j u, xs[j]? = some u → w.cell? ⟨g, j, none⟩ = some u) ∧ ∀ o, w.frozen? ⟨g, o, none⟩ = false := by
  rcases h.2 with ⟨h1, h2⟩ | ⟨g, cap, cur, hv, hg, hh, h3, h4, h5, h6⟩
  · omega
  · have hlt : g < w.heap.size := by
      rcases Nat.lt_or_ge g w.heap.size with h | h
      · exact h
      · rw [Array.getElem?_eq_none h] at hh; cases hh
    refine ⟨g, cap, hv, hg, hlt, h3, h4, fun j u hu => ?_, fun o => by simp [World.frozen?, hh]⟩
    rw [← h6, List.getElem?_take] at hu
    split at hu
    · have : cur[j]? = some u := by simpa using hu
      simp [World.cell?, hh, this]
    · cases hu
theorem own_take {w : World} {base n g cap : Nat} {e : TypeId} {xs : List Value} (h : w.ownsRow base e 1 (.slice (some ⟨g, 0, none⟩) n cap) n xs) (m : Nat) (hm : m ≤ n) : w.ownsRow base e 1 (.slice (some ⟨g, 0, none⟩) m cap) m (xs.take m) := by
  refine ⟨by rw [List.length_take, h.1]; omega, ?_⟩
  rcases h.2 with ⟨h1, h2⟩ | ⟨g', cap', cur, hv, hg, hh, h3, h4, h5, h6⟩
  · cases h1
  · cases hv
    exact Or.inr ⟨g, cap, cur, rfl, hg, hh, by omega, h4, h5, by rw [← h6, List.take_take]; congr 1; omega⟩
theorem own_set {w : World} {base n g cap : Nat} {e : TypeId} {xs : List Value} (h : w.ownsRow base e 1 (.slice (some ⟨g, 0, none⟩) n cap) n xs) (j : Nat) (u : Value) : (w.setCell ⟨g, j, none⟩ u).ownsRow base e 1 (.slice (some ⟨g, 0, none⟩) n cap) n (xs.set j u) := by
  refine ⟨by rw [List.length_set, h.1], ?_⟩
  rcases h.2 with ⟨h1, h2⟩ | ⟨g', cap', cur, hv, hg, hh, h3, h4, h5, h6⟩
  · cases h1
  · cases hv
    refine Or.inr ⟨g, cap, cur.setIfInBounds j u, rfl, hg, heap_setCell_same w g j cur e u hh, h3, h4, by simpa using h5, ?_⟩
    rw [← h6]
    simp [List.take_set]
theorem own_ints {w : World} {base : Nat} {v : Value} {ls : List Int} (h : w.ownsRow base 3 1 v ls.length (ls.map iv)) : IntsR w v ls := by
  by_cases hn : 0 < ls.length
  · obtain ⟨g, cap, rfl, _, h2, h3, h4, h5, _⟩ := own_facts h hn
    exact Or.inr ⟨g, cap, rfl, h3, h4, h2, fun j x hx => h5 j _ (by rw [List.getElem?_map, hx]; rfl)⟩
  · have hl : ls = [] := List.length_eq_zero_iff.1 (by omega)
    subst hl
    rcases h.2 with ⟨h1, h2⟩ | ⟨g, cap, cur, hv, hg, hh, h3, h4, h5, h6⟩
    · exact Or.inl ⟨h1, rfl⟩
    · have hlt : g < w.heap.size := by
        rcases Nat.lt_or_ge g w.heap.size with h | h
        · exact h
        · rw [Array.getElem?_eq_none h] at hh; cases hh
      exact Or.inr ⟨g, cap, hv, h3, h4, hlt, fun j x hx => by simp at hx⟩
theorem Try.infoInt : (Try.prog.info? 3).map (fun i => (i.zero, i.size, i.bytes)) = some (some (.int .i64 0), 1, 8) := by kernel_rfl
theorem one_new (w : World) (B : Nat) (hB : B = w.heap.size) (a : Value) (t : TypeId) : ∀ j u, [a][j]? = some u → (w.alloc (.cells #[a] t)).cell? ((⟨B, 0, none⟩ : Addr).add j) = some u := by
  subst hB
  intro j u h
  match j, h with
  | 0, h => simp at h; subst h; simp [Addr.add]
theorem one_i (x : Int) : ∀ u ∈ [Value.int .i64 x], u.oneCell' = true := by
  intro u hu; simp at hu; subst hu; rfl
end Go.Proofs.Ytkinoehmcfhgbaa.Vl
set_option linter.unusedVariables false
set_option linter.unusedSimpArgs false
namespace Go.Proofs.Ytkinoehmcfhgbaa.Vl
open Go.RowKit

theorem mk_plc (c : Int) (h : 0 ≤ mk c) : plc c < 0 := by
  unfold mk at h
  unfold plc
  repeat' split at h
  all_goals first | omega | (simp_all; done)
theorem atm_mark (s : ByteArray) (k : Nat) (hk : k < s.size) (h : 0 ≤ mk (s[k].toNat : Int)) : atm (rest s k) = none := by
  cases ha : atm (rest s k) with
  | none => rfl
  | some q =>
    have := atm_facts (a := q.1) (k := q.2) ha
    have h1 := this.2.2.2.2.2.2.2.2.2
    rw [rest_cons s k hk] at h1
    simp only [List.headD_cons, plu] at h1
    have := mk_plc _ h
    omega

theorem mk_inv (c : Int) : (mk c = 0 → c = 116) ∧ (mk c = 1 → c = 102) ∧ (mk c = 2 → c = 33) ∧ (mk c = 3 → c = 38) ∧ (mk c = 4 → c = 124) ∧ (mk c = 5 → c = 62) := by
  unfold mk
  repeat' split
  all_goals simp_all

theorem wst_le (ls : List Atm) (bs : List Int) (y : Sym) (st : List Int) : (wst ls bs y st).length ≤ st.length + 1 := by
  unfold wst
  repeat' split
  all_goals simp only [List.length_cons, List.length_nil]
  all_goals omega
theorem wrun_le (ls : List Atm) (bs : List Int) : ∀ ys : List Sym, (wrun ls bs ys).length ≤ ys.length
  | [] => Nat.le_refl _
  | y :: r => by
    have h1 := wst_le ls bs y (wrun ls bs r)
    have h2 := wrun_le ls bs r
    rw [wrun_cons, List.length_cons]; omega
theorem own_shape {w : World} {base n : Nat} {e : TypeId} {v : Value} {xs : List Value} (h : w.ownsRow base e 1 v n xs) : ∃ q c, v = .slice q n c := by
  rcases h.2 with ⟨h1, h2⟩ | ⟨g, cap, cur, hv, _⟩
  · subst h2; exact ⟨none, 0, h1⟩
  · exact ⟨_, _, hv⟩

set_option maxRecDepth 100000 in
set_option maxHeartbeats 4000000 in
theorem worth_any (s : ByteArray) (v1 v2 : Value) (ls : List Atm) (bs : List Int) (ys : List Sym) (w : World) (hs : s.size ≤ 4000) (hp : prsA 1 (rest s 0) = some ys)
    (hl : Atms w v1 ls) (hb : IntsR w v2 bs) (hlen : bs.length = ls.length) (hn : ls.length ≤ 4000) (hbs : ∀ x ∈ bs, 0 ≤ x ∧ x ≤ 2)
    (hin : ∀ y ∈ ys, y.1 = 6 → 0 ≤ nmb ls y.2 0 ∧ nmb ls y.2 0 < ls.length) :
    Calls Try.prog 36 #[.string s, v1, v2] w fun e w' => e = .returned (.int .i64 ((wrun ls bs ys).headD 0)) ∧ Below w.heap.size w w' := by
  obtain ⟨PS, hPS⟩ := pos_of s ys 0 1 (Nat.zero_le _) hp
  have HPA : Hid _ := pos_at ls bs ys 0 1 PS hPS (by omega)
  have hlast := wrun_len ls bs ys 0 1 PS hPS (by omega)
  have HPS : Hid (Pos s 0 1 ys PS) := hPS
  have HB : Hid _ := hbs
  have HI : Hid _ := hin
  have HR : Hid _ := wrun_range (ls := ls) hbs
  clear hPS hbs hin hp
  obtain ⟨i0, hi, hz0, hz1, hz2⟩ := info_parts Try.infoInt
  go_enter Try.func36, Try.ntmps36
  go_wp2_with fail
  go_loopw [7, 8] (fun v i wr => ∃ (k : Nat) (m : Int) (qs ps : List Nat) (zs : List Sym), k ≤ s.size ∧ i = .int .i64 (k : Int) ∧ PS = qs ++ ps ∧ qs.length ≤ k ∧ Pos s k m zs ps ∧ wr.ownsRow w.heap.size 3 1 v qs.length (qs.map (fun (q : Nat) => iv (q : Int))) ∧ Below w.heap.size w wr) (fun _ i _ => s.size - (intOf i).toNat)
  case atStart => exact ⟨0, 1, [], PS, ys, Nat.zero_le _, rfl, rfl, Nat.le_refl _, HPS.out, World.ownsRow_nil _ _ _ _, Below.refl _ _⟩
  case round =>
    obtain ⟨k, m, qs, ps, zs, hk, rfl, hq, hql, hpos, hown, hnx⟩ := hrel
    have Q : Hid (PS = qs ++ ps) := hq
    clear hq
    have hnxs := hnx.size
    by_cases hlt : k < s.size
    · cases zs with
      | nil => obtain ⟨_, h, _⟩ := hpos; omega
      | cons y r =>
        obtain ⟨j, ps', rfl, _, hm0, hsym, hpos'⟩ := hpos
        have hj := sym_facts hsym
        rw [rest_len] at hj
        have HP : Hid _ := hpos'
        clear hpos'
        have Q2 : Hid (PS = (qs ++ [k]) ++ ps') := by show _ = _; rw [Q.out, List.append_assoc]; rfl
        have hkk : k ≤ 4000 := by omega
        have CA : Hid (∀ w, Calls Try.prog 52 #[.string s, .int .i64 (k : Int)] w fun e w' => e = .returned (atmV k (atm (rest s k))) ∧ Below w.heap.size w w') := fun w => atomAt_any s k w (by omega) (by omega)
        have hat : (atm (rest s k) = none ∧ j = 1) ∨ ∃ a, atm (rest s k) = some (a, j) := by
          rcases sym_kind hlt hsym with ⟨h1, h2, h3⟩ | ⟨h1, a, h2, h3⟩
          · exact Or.inl ⟨atm_mark s k hlt h1, h3⟩
          · exact Or.inr ⟨a, h3⟩
        clear hsym
        rcases hat with ⟨ha, rfl⟩ | ⟨⟨a1, a2, a3⟩, ha⟩
        · rw [ha] at CA
          have CA' : Hid (∀ w, Calls Try.prog 52 #[.string s, .int .i64 (k : Int)] w fun e w' => e = .returned (.tuple #[.agg #[.int .i64 0, .int .i64 0, .int .i64 0], .int .i64 0, .bool false]) ∧ Below w.heap.size w w') := CA
          clear CA ha
          go_wp2_with (at_builtin; refine wpList_append_own _ rfl _ _ 90 rfl w.heap.size 3 i0 (.int .i64 0) 1 8 Try.underlying90 hi hz0 hz1 hz2 rfl (by decide) _ _ _ rfl (hown.alloc _) ⟨wr.heap.size, 0, none⟩ 1 1 [.int .i64 (k : Int)] rfl rfl (one_new _ _ rfl _ _) (one_i _) (by unfold maxLen; omega) (by omega) (by simp; omega) ?_)
          intro v' w2 hown2 hgrow _
          have hb2 := (hnx.alloc (by omega) _).grown hgrow (by simp; omega) (own_block hown)
          clear hown hgrow
          go_wp2_with (go_at_call 52; refine (CA'.out _).mono ?_; rintro e w3 ⟨rfl, hb3⟩)
          have hb2s := hb2.size
          have hb3s := hb3.size
          go_roundw
          case rel => exact ⟨k + 1, _, qs ++ [k], ps', r, by omega, by go_num, Q2.out, by simp; omega, HP.out, by simpa [iv] using (ownsRow_below hown2 hb3).alloc _, (hb2.trans (hb3.mono hb2s)).alloc (by omega) _⟩
          case measure => simp [intOf]; omega
        · rw [ha] at CA
          have CA' : Hid (∀ w, Calls Try.prog 52 #[.string s, .int .i64 (k : Int)] w fun e w' => e = .returned (.tuple #[.agg #[.int .i64 a1, .int .i64 a2, .int .i64 a3], .int .i64 ((k + j : Nat) : Int), .bool true]) ∧ Below w.heap.size w w') := CA
          clear CA ha
          generalize hJ : k + j = J at *
          go_wp2_with (at_builtin; refine wpList_append_own _ rfl _ _ 90 rfl w.heap.size 3 i0 (.int .i64 0) 1 8 Try.underlying90 hi hz0 hz1 hz2 rfl (by decide) _ _ _ rfl (hown.alloc _) ⟨wr.heap.size, 0, none⟩ 1 1 [.int .i64 (k : Int)] rfl rfl (one_new _ _ rfl _ _) (one_i _) (by unfold maxLen; omega) (by omega) (by simp; omega) ?_)
          intro v' w2 hown2 hgrow _
          have hb2 := (hnx.alloc (by omega) _).grown hgrow (by simp; omega) (own_block hown)
          clear hown hgrow
          go_wp2_with (go_at_call 52; refine (CA'.out _).mono ?_; rintro e w3 ⟨rfl, hb3⟩)
          have hb2s := hb2.size
          have hb3s := hb3.size
          go_roundw
          case rel => exact ⟨J, _, qs ++ [k], ps', r, by omega, rfl, Q2.out, by simp; omega, HP.out, by simpa [iv] using (ownsRow_below hown2 hb3).alloc _, (hb2.trans (hb3.mono hb2s)).alloc (by omega) _⟩
          case measure => simp [intOf]; omega
    · have hps : ps = [] := by
        cases zs with
        | nil => exact hpos.1
        | cons y r => obtain ⟨j, ps', _, h, _⟩ := hpos; omega
      subst hps
      have hPq : PS = qs := by rw [Q.out, List.append_nil]
      subst hPq
      obtain ⟨hPL, hPA⟩ := HPA.out
      have HPA2 : Hid _ := hPA
      have HPL : Hid (PS.length = ys.length) := hPL
      clear hPA HPA Q hpos
      have hpl : 0 < PS.length := by
        rcases Nat.eq_zero_or_pos PS.length with h | h
        · rw [h] at hPL
          have : ys = [] := List.length_eq_zero_iff.1 hPL.symm
          subst this; simp [wrun] at hlast
        · exact h
      clear hPL
      obtain ⟨W1, hW1⟩ : ∃ W1, W1 = wr := ⟨_, rfl⟩
      subst hW1
      obtain ⟨g, cap, rfl, hg1, hg2, hg3, hg4, hg5, _⟩ := own_facts hown hpl
      have HG : Hid _ := hg5
      clear hg5
      go_wp2_with fail
      go_loopw [12, 13] (fun v i wr => ∃ (n : Nat), n ≤ ys.length ∧ i = .int .i64 ((n : Int) - 1) ∧ wr.ownsRow W1.heap.size 3 1 v (wrun ls bs (ys.drop n)).length ((wrun ls bs (ys.drop n)).reverse.map iv) ∧ Below W1.heap.size W1 wr) (fun _ i _ => ((intOf i) + 1).toNat)
      case atStart => exact ⟨ys.length, Nat.le_refl _, by rw [HPL.out], by rw [List.drop_length]; exact World.ownsRow_nil _ _ _ _, Below.refl _ _⟩
      case round =>
        obtain ⟨n, hny, rfl, hown2, hnx2⟩ := hrel
        rcases Nat.eq_zero_or_pos n with rfl | hpos
        · rw [List.drop_zero] at hown2
          obtain ⟨x, hx⟩ : ∃ x, wrun ls bs ys = [x] := by
            match hw : wrun ls bs ys, hlast with
            | [], h => simp at h
            | [x], _ => exact ⟨x, rfl⟩
            | x :: z :: r, h => simp at h; omega
          rw [hx] at hown2
          obtain ⟨g2, cap2, rfl, _, _, _, _, hc5, _⟩ := own_facts hown2 (by simp)
          have hc0 := hc5 0 (iv x) rfl
          unfold iv at hc0
          clear hc5
          go_wp2_with fail
          go_ret
          refine ⟨ret_int ?_, hnx.trans (hnx2.mono hnxs)⟩
          rw [hx]; rfl
        · obtain ⟨n, rfl⟩ : ∃ n', n = n' + 1 := ⟨n - 1, by omega⟩
          obtain ⟨p, y, j, hp1, hp2, hp3, hp4, hp5⟩ := HPA2.out n (by omega)
          have hcell : wr.cell? ⟨g, n, none⟩ = some (.int .i64 (p : Int)) := (hnx2.cell (p := ⟨g, n, none⟩) hg2).trans (HG.out n _ (by rw [List.getElem?_map, hp1]; rfl))
          have hdrop : ys.drop n = y :: ys.drop (n + 1) := by
            rw [List.drop_eq_getElem_cons (by omega)]
            congr 1
            rw [List.getElem?_eq_getElem (by omega)] at hp2
            exact Option.some.inj hp2
          have HD : Hid (wrun ls bs (ys.drop n) = wst ls bs y (wrun ls bs (ys.drop (n + 1)))) := by show _ = _; rw [hdrop, wrun_cons]
          have HRS : Hid _ := HR.out (ys.drop (n + 1))
          have hmem : y ∈ ys := List.mem_of_getElem? hp2
          have hsl : (wrun ls bs (ys.drop (n + 1))).length ≤ 8000 := by
            have h1 := wrun_le ls bs (ys.drop (n + 1))
            have h2 := HPL.out
            rw [List.length_drop] at h1
            omega
          clear hdrop hp1 hp2
          generalize hst : wrun ls bs (ys.drop (n + 1)) = st at *
          clear hst
          have hdep := hp5
          clear hp5
          have hnx2s := hnx2.size
          have hpp : (p : Int) < (s.size : Int) := by omega
          have hnn : ((n + 1 : Nat) : Int) - 1 = (n : Int) := by omega
          have hng : (n : Int) < (PS.length : Int) := by have := HPL.out; omega
          rcases sym_kind hp3 hp4 with ⟨h0, rfl, _⟩ | ⟨h0, a, rfl, ha⟩
          · dsimp only at hdep HD
            have hmr := mk_le (s[p].toNat : Int)
            have hq : mk (s[p].toNat : Int) = 0 ∨ mk (s[p].toNat : Int) = 1 ∨ mk (s[p].toNat : Int) = 2 ∨ mk (s[p].toNat : Int) = 3 ∨ mk (s[p].toNat : Int) = 4 ∨ mk (s[p].toNat : Int) = 5 := by omega
            rcases hq with hq | hq | hq | hq | hq | hq <;> rw [hq] at hdep HD
            · have hc : (s[p].toNat : Int) = 116 := by have := mk_inv (s[p].toNat : Int); omega
              have HW : Hid (wst ls bs (0, 0, 0, 0) st = 1 :: st) := rfl
              obtain ⟨qa, qc, rfl⟩ := own_shape hown2
              go_wp2_with (at_builtin; refine wpList_append_own _ rfl _ _ 90 rfl W1.heap.size 3 i0 (.int .i64 0) 1 8 Try.underlying90 hi hz0 hz1 hz2 rfl (by decide) _ _ _ rfl (hown2.alloc _) ⟨wr.heap.size, 0, none⟩ 1 1 [.int .i64 1] rfl rfl (one_new _ _ rfl _ _) (one_i _) (by unfold maxLen; omega) (by omega) (by simp; omega) ?_)
              intro v' w2 hown3 hgrow _
              have hb2 := (hnx2.alloc (by omega) _).grown hgrow (by simp; omega) (own_block hown2)
              clear hown2 hgrow
              go_wp2_with fail
              go_roundw
              case rel => exact ⟨n, by omega, by go_num, by rw [HD.out, HW.out]; simpa [iv] using hown3, hb2⟩
              case measure => simp [intOf]
            · have hc : (s[p].toNat : Int) = 102 := by have := mk_inv (s[p].toNat : Int); omega
              have HW : Hid (wst ls bs (1, 0, 0, 0) st = 0 :: st) := rfl
              obtain ⟨qa, qc, rfl⟩ := own_shape hown2
              go_wp2_with (at_builtin; refine wpList_append_own _ rfl _ _ 90 rfl W1.heap.size 3 i0 (.int .i64 0) 1 8 Try.underlying90 hi hz0 hz1 hz2 rfl (by decide) _ _ _ rfl (hown2.alloc _) ⟨wr.heap.size, 0, none⟩ 1 1 [.int .i64 0] rfl rfl (one_new _ _ rfl _ _) (one_i _) (by unfold maxLen; omega) (by omega) (by simp; omega) ?_)
              intro v' w2 hown3 hgrow _
              have hb2 := (hnx2.alloc (by omega) _).grown hgrow (by simp; omega) (own_block hown2)
              clear hown2 hgrow
              go_wp2_with fail
              go_roundw
              case rel => exact ⟨n, by omega, by go_num, by rw [HD.out, HW.out]; simpa [iv] using hown3, hb2⟩
              case measure => simp [intOf]
            · have hc : (s[p].toNat : Int) = 33 := by have := mk_inv (s[p].toNat : Int); omega
              obtain ⟨x, r, rfl⟩ : ∃ x r, st = x :: r := by
                match st, hdep with
                | [], h => exact absurd h (by decide)
                | x :: r, _ => exact ⟨x, r, rfl⟩
              have hx2 := HRS.out x (by simp)
              obtain ⟨g2, cap2, rfl, hh1, hh2, hh3, hh4, hh5, hh6⟩ := own_facts hown2 (by simp)
              have c1 : wr.cell? ⟨g2, r.length, none⟩ = some (.int .i64 x) := hh5 _ _ (by simp [iv])
              have f1 := hh6 r.length
              clear hh5 hh6
              have hrl : (x :: r).length = r.length + 1 := rfl
              by_cases hx : x < 2
              · have HW : Hid (wst ls bs (2, 0, 0, 0) (x :: r) = (1 - x) :: r) := by show (if x < 2 then 1 - x else x) :: r = _; rw [if_pos hx]
                go_wp2_with fail
                go_roundw
                case rel => exact ⟨n, by omega, by go_num, by rw [HD.out, HW.out]; have := own_set hown2 r.length (iv (1 - x)); simpa [iv, List.set_append] using this, hnx2.setCell (p := ⟨g2, r.length, none⟩) hh1 _⟩
                case measure => simp [intOf]
              · have HW : Hid (wst ls bs (2, 0, 0, 0) (x :: r) = x :: r) := by show (if x < 2 then 1 - x else x) :: r = _; rw [if_neg hx]
                go_wp2_with fail
                go_roundw
                case rel => exact ⟨n, by omega, by go_num, by rw [HD.out, HW.out]; exact hown2, hnx2⟩
                case measure => simp [intOf]
            · have hc : (s[p].toNat : Int) = 38 := by have := mk_inv (s[p].toNat : Int); omega
              obtain ⟨x, z, r, rfl⟩ : ∃ x z r, st = x :: z :: r := by
                match st, hdep with
                | [], h => exact absurd h (by decide)
                | [x], h => simp [prt] at h
                | x :: z :: r, _ => exact ⟨x, z, r, rfl⟩
              have HW : Hid (wst ls bs (3, 0, 0, 0) (x :: z :: r) = tbl 38 x z :: r) := rfl
              obtain ⟨g2, cap2, rfl, hh1, hh2, hh3, hh4, hh5, hh6⟩ := own_facts hown2 (by simp)
              have c1 : wr.cell? ⟨g2, r.length + 1, none⟩ = some (.int .i64 x) := hh5 _ _ (by simp [iv])
              have c2 : wr.cell? ⟨g2, r.length, none⟩ = some (.int .i64 z) := hh5 _ _ (by simp [iv])
              clear hh5 hh6
              have hrl : (x :: z :: r).length = r.length + 2 := rfl
              rw [hrl] at hown2 hh3 ⊢
              have hown4 := own_take hown2 r.length (by omega)
              have hrow : ((List.map iv (x :: z :: r).reverse).take r.length) = r.reverse.map iv := by simp
              rw [hrow] at hown4
              simp only [hrl, List.length_cons] at hsl
              generalize hRR : r.length = R at *
              have HRR : Hid (r.length = R) := hRR
              clear hRR
              have i0' : (0 : Int) ≤ (R : Int) + 1 := by omega
              have i1 : (R : Int) + 1 < (R : Int) + 2 := by omega
              have i2 : (R : Int) < (R : Int) + 2 := by omega
              have i3 : IntKind.i64.wrap ((R : Int) + 1) = (R : Int) + 1 := IntWalk.i64_in _ (by omega)
              have i4 : IntKind.i64.wrap (R : Int) = (R : Int) := IntWalk.i64_in _ (by omega)
              have i5 : (R : Int) + 2 - 1 = (R : Int) + 1 := by omega
              have i6 : (R : Int) + 2 - 2 = (R : Int) := by omega
              have i7 : ((R : Int) + 1).toNat = R + 1 := by omega
              go_wp2_with fail
              go_region_held3 (fun w' => w'.cell? ⟨g2, R + 1, none⟩ = some (.int .i64 x) ∧ w'.cell? ⟨g2, R, none⟩ = some (.int .i64 z)) (simp [*]) (first | (go_at_call 54; refine (table_any _ _ _ _).mono ?_; rintro e w' ⟨rfl, rfl⟩))
              have hown5 : wr.drew.ownsRow W1.heap.size 3 1 (.slice (some ⟨g2, 0, none⟩) R cap2) R (r.reverse.map iv) := hown4
              have hnx5 : Below W1.heap.size W1 wr.drew := hnx2.drew
              have hs5 : W1.heap.size ≤ wr.drew.heap.size := hnx5.size
              clear hown2 hown4 hnx2 c1 c2
              generalize wr.drew = WD at *
              go_wp2_with (at_builtin; refine wpList_append_own _ rfl _ _ 90 rfl W1.heap.size 3 i0 (.int .i64 0) 1 8 Try.underlying90 hi hz0 hz1 hz2 rfl (by decide) _ _ _ rfl (hown5.alloc _) ⟨WD.heap.size, 0, none⟩ 1 1 [.int .i64 (tbl 38 x z)] rfl rfl (one_new _ _ rfl _ _) (one_i _) (by unfold maxLen; omega) (by omega) (by simp; omega) ?_)
              intro v' w2 hown3 hgrow _
              have hb2 := (hnx5.alloc (by omega) _).grown hgrow (by simp; omega) (own_block hown5)
              clear hown5 hgrow
              go_wp2_with fail
              go_roundw
              case rel => exact ⟨n, by omega, by go_num, by rw [HD.out, HW.out, List.length_cons, HRR.out]; simpa [iv] using hown3, hb2⟩
              case measure => simp [intOf]
            · have hc : (s[p].toNat : Int) = 124 := by have := mk_inv (s[p].toNat : Int); omega
              obtain ⟨x, z, r, rfl⟩ : ∃ x z r, st = x :: z :: r := by
                match st, hdep with
                | [], h => exact absurd h (by decide)
                | [x], h => simp [prt] at h
                | x :: z :: r, _ => exact ⟨x, z, r, rfl⟩
              have HW : Hid (wst ls bs (4, 0, 0, 0) (x :: z :: r) = tbl 124 x z :: r) := rfl
              obtain ⟨g2, cap2, rfl, hh1, hh2, hh3, hh4, hh5, hh6⟩ := own_facts hown2 (by simp)
              have c1 : wr.cell? ⟨g2, r.length + 1, none⟩ = some (.int .i64 x) := hh5 _ _ (by simp [iv])
              have c2 : wr.cell? ⟨g2, r.length, none⟩ = some (.int .i64 z) := hh5 _ _ (by simp [iv])
              clear hh5 hh6
              have hrl : (x :: z :: r).length = r.length + 2 := rfl
              rw [hrl] at hown2 hh3 ⊢
              have hown4 := own_take hown2 r.length (by omega)
              have hrow : ((List.map iv (x :: z :: r).reverse).take r.length) = r.reverse.map iv := by simp
              rw [hrow] at hown4
              simp only [hrl, List.length_cons] at hsl
              generalize hRR : r.length = R at *
              have HRR : Hid (r.length = R) := hRR
              clear hRR
              have i0' : (0 : Int) ≤ (R : Int) + 1 := by omega
              have i1 : (R : Int) + 1 < (R : Int) + 2 := by omega
              have i2 : (R : Int) < (R : Int) + 2 := by omega
              have i3 : IntKind.i64.wrap ((R : Int) + 1) = (R : Int) + 1 := IntWalk.i64_in _ (by omega)
              have i4 : IntKind.i64.wrap (R : Int) = (R : Int) := IntWalk.i64_in _ (by omega)
              have i5 : (R : Int) + 2 - 1 = (R : Int) + 1 := by omega
              have i6 : (R : Int) + 2 - 2 = (R : Int) := by omega
              have i7 : ((R : Int) + 1).toNat = R + 1 := by omega
              go_wp2_with fail
              go_region_held3 (fun w' => w'.cell? ⟨g2, R + 1, none⟩ = some (.int .i64 x) ∧ w'.cell? ⟨g2, R, none⟩ = some (.int .i64 z)) (simp [*]) (first | (go_at_call 54; refine (table_any _ _ _ _).mono ?_; rintro e w' ⟨rfl, rfl⟩))
              have hown5 : wr.drew.ownsRow W1.heap.size 3 1 (.slice (some ⟨g2, 0, none⟩) R cap2) R (r.reverse.map iv) := hown4
              have hnx5 : Below W1.heap.size W1 wr.drew := hnx2.drew
              have hs5 : W1.heap.size ≤ wr.drew.heap.size := hnx5.size
              clear hown2 hown4 hnx2 c1 c2
              generalize wr.drew = WD at *
              go_wp2_with (at_builtin; refine wpList_append_own _ rfl _ _ 90 rfl W1.heap.size 3 i0 (.int .i64 0) 1 8 Try.underlying90 hi hz0 hz1 hz2 rfl (by decide) _ _ _ rfl (hown5.alloc _) ⟨WD.heap.size, 0, none⟩ 1 1 [.int .i64 (tbl 124 x z)] rfl rfl (one_new _ _ rfl _ _) (one_i _) (by unfold maxLen; omega) (by omega) (by simp; omega) ?_)
              intro v' w2 hown3 hgrow _
              have hb2 := (hnx5.alloc (by omega) _).grown hgrow (by simp; omega) (own_block hown5)
              clear hown5 hgrow
              go_wp2_with fail
              go_roundw
              case rel => exact ⟨n, by omega, by go_num, by rw [HD.out, HW.out, List.length_cons, HRR.out]; simpa [iv] using hown3, hb2⟩
              case measure => simp [intOf]
            · have hc : (s[p].toNat : Int) = 62 := by have := mk_inv (s[p].toNat : Int); omega
              obtain ⟨x, z, r, rfl⟩ : ∃ x z r, st = x :: z :: r := by
                match st, hdep with
                | [], h => exact absurd h (by decide)
                | [x], h => simp [prt] at h
                | x :: z :: r, _ => exact ⟨x, z, r, rfl⟩
              have HW : Hid (wst ls bs (5, 0, 0, 0) (x :: z :: r) = tbl 62 x z :: r) := rfl
              obtain ⟨g2, cap2, rfl, hh1, hh2, hh3, hh4, hh5, hh6⟩ := own_facts hown2 (by simp)
              have c1 : wr.cell? ⟨g2, r.length + 1, none⟩ = some (.int .i64 x) := hh5 _ _ (by simp [iv])
              have c2 : wr.cell? ⟨g2, r.length, none⟩ = some (.int .i64 z) := hh5 _ _ (by simp [iv])
              clear hh5 hh6
              have hrl : (x :: z :: r).length = r.length + 2 := rfl
              rw [hrl] at hown2 hh3 ⊢
              have hown4 := own_take hown2 r.length (by omega)
              have hrow : ((List.map iv (x :: z :: r).reverse).take r.length) = r.reverse.map iv := by simp
              rw [hrow] at hown4
              simp only [hrl, List.length_cons] at hsl
              generalize hRR : r.length = R at *
              have HRR : Hid (r.length = R) := hRR
              clear hRR
              have i0' : (0 : Int) ≤ (R : Int) + 1 := by omega
              have i1 : (R : Int) + 1 < (R : Int) + 2 := by omega
              have i2 : (R : Int) < (R : Int) + 2 := by omega
              have i3 : IntKind.i64.wrap ((R : Int) + 1) = (R : Int) + 1 := IntWalk.i64_in _ (by omega)
              have i4 : IntKind.i64.wrap (R : Int) = (R : Int) := IntWalk.i64_in _ (by omega)
              have i5 : (R : Int) + 2 - 1 = (R : Int) + 1 := by omega
              have i6 : (R : Int) + 2 - 2 = (R : Int) := by omega
              have i7 : ((R : Int) + 1).toNat = R + 1 := by omega
              go_wp2_with fail
              go_region_held3 (fun w' => w'.cell? ⟨g2, R + 1, none⟩ = some (.int .i64 x) ∧ w'.cell? ⟨g2, R, none⟩ = some (.int .i64 z)) (simp [*]) (first | (go_at_call 54; refine (table_any _ _ _ _).mono ?_; rintro e w' ⟨rfl, rfl⟩))
              have hown5 : wr.drew.ownsRow W1.heap.size 3 1 (.slice (some ⟨g2, 0, none⟩) R cap2) R (r.reverse.map iv) := hown4
              have hnx5 : Below W1.heap.size W1 wr.drew := hnx2.drew
              have hs5 : W1.heap.size ≤ wr.drew.heap.size := hnx5.size
              clear hown2 hown4 hnx2 c1 c2
              generalize wr.drew = WD at *
              go_wp2_with (at_builtin; refine wpList_append_own _ rfl _ _ 90 rfl W1.heap.size 3 i0 (.int .i64 0) 1 8 Try.underlying90 hi hz0 hz1 hz2 rfl (by decide) _ _ _ rfl (hown5.alloc _) ⟨WD.heap.size, 0, none⟩ 1 1 [.int .i64 (tbl 62 x z)] rfl rfl (one_new _ _ rfl _ _) (one_i _) (by unfold maxLen; omega) (by omega) (by simp; omega) ?_)
              intro v' w2 hown3 hgrow _
              have hb2 := (hnx5.alloc (by omega) _).grown hgrow (by simp; omega) (own_block hown5)
              clear hown5 hgrow
              go_wp2_with fail
              go_roundw
              case rel => exact ⟨n, by omega, by go_num, by rw [HD.out, HW.out, List.length_cons, HRR.out]; simpa [iv] using hown3, hb2⟩
              case measure => simp [intOf]
          · obtain ⟨a1, a2, a3⟩ := a
            obtain ⟨g1, g2, g3, g4, g5, g6⟩ := mk_no _ h0
            obtain ⟨hi0, hi1⟩ := HI.out _ hmem rfl
            dsimp only at hi0 hi1
            have CA : Hid (∀ w, Calls Try.prog 52 #[.string s, .int .i64 (p : Int)] w fun e w' => e = .returned (atmV p (atm (rest s p))) ∧ Below w.heap.size w w') := fun w => atomAt_any s p w (by omega) (by omega)
            rw [ha] at CA
            have CA' : Hid (∀ w, Calls Try.prog 52 #[.string s, .int .i64 (p : Int)] w fun e w' => e = .returned (.tuple #[.agg #[.int .i64 a1, .int .i64 a2, .int .i64 a3], .int .i64 ((p + j : Nat) : Int), .bool true]) ∧ Below w.heap.size w w') := CA
            have hall : Below w.heap.size w wr := hnx.trans (hnx2.mono hnxs)
            have hl2 := hl.below hall
            have hb2 := hb.below hall
            obtain ⟨N, hN⟩ : ∃ N : Nat, nmb ls (a1, a2, a3) 0 = (N : Int) := ⟨(nmb ls (a1, a2, a3) 0).toNat, by omega⟩
            have CN : Hid (∀ w, Atms w v1 ls → Calls Try.prog 53 #[v1, .agg #[.int .i64 a1, .int .i64 a2, .int .i64 a3]] w fun e w' => e = .returned (.int .i64 (N : Int)) ∧ Below w.heap.size w w') := fun w h => by rw [← hN]; exact number_any v1 ls (a1, a2, a3) w h (by omega)
            have hN' : N < bs.length := by omega
            obtain ⟨x, hx⟩ : ∃ x, bs[N]? = some x := ⟨_, List.getElem?_eq_getElem hN'⟩
            have HW : Hid (wst ls bs (6, a1, a2, a3) st = x :: st) := by
              show bs.getD (nmb ls (a1, a2, a3) 0).toNat 0 :: st = _
              rw [hN, List.getD_eq_getElem?_getD, Int.toNat_natCast, hx]; rfl
            rcases hb2 with ⟨_, hb2⟩ | ⟨bb, bcap, rfl, hbc1, hbc2, hbb, hbcells⟩
            · subst hb2; simp at hN'
            have hxc := hbcells N x hx
            unfold iv at hxc
            have hNN : (N : Int) < (bs.length : Int) := by omega
            clear hbcells CA hN hi0 hi1 hx ha hN' hlen
            obtain ⟨qa, qc, rfl⟩ := own_shape hown2
            go_wp2_with (first
              | (go_at_call 52; refine (CA'.out _).mono ?_; rintro e w3 ⟨rfl, hb3⟩; have hat : Atms (w3.alloc (.cells #[.int .i64 a1, .int .i64 a2, .int .i64 a3] 92)) v1 ls := (hl2.below hb3).below (below_alloc _ _))
              | (go_at_call 53; refine (CN.out _ hat).mono ?_; rintro e w4 ⟨rfl, hb4⟩; have hb4s : w3.heap.size + 1 ≤ w4.heap.size := (by have := hb4.size; simpa using this); have hbw : Below wr.heap.size wr w4 := hb3.trans (((below_alloc w3 _).mono hb3.size).trans (hb4.mono (by have := hb3.size; simp; omega))); have hxc4 := (hbw.cell (p := ⟨bb, N, none⟩) hbb).trans hxc; have hown6 := ownsRow_below hown2 hbw)
              | (at_builtin; refine wpList_append_own _ rfl _ _ 90 rfl W1.heap.size 3 i0 (.int .i64 0) 1 8 Try.underlying90 hi hz0 hz1 hz2 rfl (by decide) _ _ _ rfl (hown6.alloc _) ⟨w4.heap.size, 0, none⟩ 1 1 [.int .i64 x] rfl rfl (one_new _ _ rfl _ _) (one_i _) (by unfold maxLen; omega) (by omega) (by have := hb3.size; simp; omega) ?_))
            intro v' w5 hown3 hgrow _
            have hb3s := hb3.size
            have hb5 := ((hnx2.trans (hbw.mono hnx2s)).alloc (by omega) _).grown hgrow (by simp; omega) (own_block hown6)
            clear hown2 hown6 hgrow hxc hxc4
            go_wp2_with fail
            go_roundw
            case rel => exact ⟨n, by omega, by go_num, by rw [HD.out, HW.out]; simpa [iv] using hown3, hb5⟩
            case measure => simp [intOf]
end Go.Proofs.Ytkinoehmcfhgbaa.Vl
set_option linter.unusedVariables false
set_option linter.unusedSimpArgs false
namespace Go.Proofs.Ytkinoehmcfhgbaa.Vl
open Go.RowKit

def gd (x : Int) : Bool := decide (-1000000000 ≤ x) && decide (x ≤ 1000000000)
def gds (x1 x2 x3 x4 : Int) : Bool := gd x1 && (gd x2 && (gd x3 && gd x4))
def stV (x1 x2 x3 x4 : Int) : Value := .agg #[.int .i64 x1, .int .i64 x2, .int .i64 x3, .int .i64 x4]
theorem gd_yes {x : Int} (h : gd x = true) : ¬ x < -1000000000 ∧ ¬ 1000000000 < x := by unfold gd at h; simp at h; omega
theorem gd_no {x : Int} (h : gd x = false) : x < -1000000000 ∨ (¬ x < -1000000000 ∧ 1000000000 < x) := by unfold gd at h; simp at h; omega

set_option maxHeartbeats 400000 in
theorem inRange_any (x : Int) (w : World) :
    Calls Try.prog 26 #[.int .i64 x] w fun e w' => e = .returned (.bool (gd x)) ∧ w = w' := by
  go_enter Try.func26, Try.ntmps26
  go_wp2
  all_goals go_ret
  all_goals refine ⟨ret_bool ?_, rfl⟩
  all_goals (unfold gd; simp_all)
  all_goals omega

def At4 (x1 x2 x3 x4 : Int) (i : Value) : Prop := i = .int .i64 0 ∨ (i = .int .i64 1 ∧ gd x1 = true) ∨ (i = .int .i64 2 ∧ gd x1 = true ∧ gd x2 = true) ∨ (i = .int .i64 3 ∧ gd x1 = true ∧ gd x2 = true ∧ gd x3 = true) ∨ (i = .int .i64 4 ∧ gd x1 = true ∧ gd x2 = true ∧ gd x3 = true ∧ gd x4 = true)
theorem below4 (w : World) (o : Obj) : Below w.heap.size w (w.alloc o) := below_alloc w o

set_option maxRecDepth 100000 in
set_option maxHeartbeats 1000000 in
theorem good_any (x1 x2 x3 x4 : Int) (w : World) :
    Calls Try.prog 17 #[stV x1 x2 x3 x4] w fun e w' => e = .returned (.bool (gds x1 x2 x3 x4)) ∧ Below w.heap.size w w' := by
  unfold stV
  generalize hG : gds x1 x2 x3 x4 = G
  have HG : Hid (gds x1 x2 x3 x4 = G) := hG
  clear hG
  go_enter Try.func17, Try.ntmps17
  go_wp2
  go_loop [3] (fun i => At4 x1 x2 x3 x4 i) (fun i => 4 - (intOf i).toNat)
  case atStart => exact Or.inl rfl
  case round =>
    rcases hrel with rfl | ⟨rfl, h1⟩ | ⟨rfl, h1, h2⟩ | ⟨rfl, h1, h2, h3⟩ | ⟨rfl, h1, h2, h3, h4⟩
    · cases hx : gd x1 with
      | false =>
        rcases gd_no hx with hy | ⟨hy, hy'⟩
        all_goals
          go_wp2
          go_ret
          exact ⟨ret_bool (by rw [← HG.out]; simp [gds, hx]), below_alloc _ _⟩
      | true =>
        obtain ⟨hy, hy'⟩ := gd_yes hx
        go_wp2
        go_round
        case rel => exact Or.inr (Or.inl ⟨rfl, hx⟩)
        case measure => simp [intOf]
    · cases hx : gd x2 with
      | false =>
        rcases gd_no hx with hy | ⟨hy, hy'⟩
        all_goals
          go_wp2
          go_ret
          exact ⟨ret_bool (by rw [← HG.out]; simp [gds, hx]), below_alloc _ _⟩
      | true =>
        obtain ⟨hy, hy'⟩ := gd_yes hx
        go_wp2
        go_round
        case rel => exact Or.inr (Or.inr (Or.inl ⟨rfl, h1, hx⟩))
        case measure => simp [intOf]
    · cases hx : gd x3 with
      | false =>
        rcases gd_no hx with hy | ⟨hy, hy'⟩
        all_goals
          go_wp2
          go_ret
          exact ⟨ret_bool (by rw [← HG.out]; simp [gds, hx]), below_alloc _ _⟩
      | true =>
        obtain ⟨hy, hy'⟩ := gd_yes hx
        go_wp2
        go_round
        case rel => exact Or.inr (Or.inr (Or.inr (Or.inl ⟨rfl, h1, h2, hx⟩)))
        case measure => simp [intOf]
    · cases hx : gd x4 with
      | false =>
        rcases gd_no hx with hy | ⟨hy, hy'⟩
        all_goals
          go_wp2
          go_ret
          exact ⟨ret_bool (by rw [← HG.out]; simp [gds, hx]), below_alloc _ _⟩
      | true =>
        obtain ⟨hy, hy'⟩ := gd_yes hx
        go_wp2
        go_round
        case rel => exact Or.inr (Or.inr (Or.inr (Or.inr ⟨rfl, h1, h2, h3, hx⟩)))
        case measure => simp [intOf]
    · go_wp2
      go_ret
      exact ⟨ret_bool (by rw [← HG.out]; simp [gds, h1, h2, h3, h4]), below_alloc _ _⟩

theorem idx4_0 (x1 x2 x3 x4 : Int) (w : World) : Sem.run Try.prog (Instr.index 29 (.agg #[.int .i64 x1, .int .i64 x2, .int .i64 x3, .int .i64 x4]) (.int .i64 0)) w = .ok (.int .i64 x1) w := by kernel_rfl
theorem idx4_1 (x1 x2 x3 x4 : Int) (w : World) : Sem.run Try.prog (Instr.index 29 (.agg #[.int .i64 x1, .int .i64 x2, .int .i64 x3, .int .i64 x4]) (.int .i64 1)) w = .ok (.int .i64 x2) w := by kernel_rfl
theorem idx4_2 (x1 x2 x3 x4 : Int) (w : World) : Sem.run Try.prog (Instr.index 29 (.agg #[.int .i64 x1, .int .i64 x2, .int .i64 x3, .int .i64 x4]) (.int .i64 2)) w = .ok (.int .i64 x3) w := by kernel_rfl
theorem idx4_3 (x1 x2 x3 x4 : Int) (w : World) : Sem.run Try.prog (Instr.index 29 (.agg #[.int .i64 x1, .int .i64 x2, .int .i64 x3, .int .i64 x4]) (.int .i64 3)) w = .ok (.int .i64 x4) w := by kernel_rfl

set_option maxRecDepth 100000 in
set_option maxHeartbeats 1000000 in
theorem mayBe_any (x1 x2 x3 x4 : Int) (w : World) :
    Calls Try.prog 14 #[stV x1 x2 x3 x4] w fun e w' => e = .returned (.bool (gds x1 x2 x3 x4)) ∧ Below w.heap.size w w' := by
  unfold stV
  generalize hG : gds x1 x2 x3 x4 = G
  have HG : Hid (gds x1 x2 x3 x4 = G) := hG
  clear hG
  have CR : Hid (∀ x b w, gd x = b → Calls Try.prog 26 #[.int .i64 x] w fun e w' => e = .returned (.bool b) ∧ w = w') := fun x b w h => by rw [← h]; exact inRange_any x w
  have ix0 := idx4_0 x1 x2 x3 x4
  have ix1 := idx4_1 x1 x2 x3 x4
  have ix2 := idx4_2 x1 x2 x3 x4
  have ix3 := idx4_3 x1 x2 x3 x4
  go_enter Try.func14, Try.ntmps14
  go_wp2_with fail
  go_loop [6] (fun i => At4 x1 x2 x3 x4 i) (fun i => 4 - (intOf i).toNat)
  case atStart => exact Or.inl rfl
  case round =>
    rcases hrel with rfl | ⟨rfl, h1⟩ | ⟨rfl, h1, h2⟩ | ⟨rfl, h1, h2, h3⟩ | ⟨rfl, h1, h2, h3, h4⟩
    · cases hx : gd x1 with
      | false =>
        go_wp2_with (go_at_call 26; refine (CR.out x1 false _ hx).mono ?_; rintro e w' ⟨rfl, rfl⟩)
        go_ret
        exact ⟨ret_bool (by rw [← HG.out]; simp [gds, hx]), below_alloc _ _⟩
      | true =>
        go_wp2_with (go_at_call 26; refine (CR.out x1 true _ hx).mono ?_; rintro e w' ⟨rfl, rfl⟩)
        go_round
        case rel => exact Or.inr (Or.inl ⟨rfl, hx⟩)
        case measure => simp [intOf]
    · cases hx : gd x2 with
      | false =>
        go_wp2_with (go_at_call 26; refine (CR.out x2 false _ hx).mono ?_; rintro e w' ⟨rfl, rfl⟩)
        go_ret
        exact ⟨ret_bool (by rw [← HG.out]; simp [gds, hx]), below_alloc _ _⟩
      | true =>
        go_wp2_with (go_at_call 26; refine (CR.out x2 true _ hx).mono ?_; rintro e w' ⟨rfl, rfl⟩)
        go_round
        case rel => exact Or.inr (Or.inr (Or.inl ⟨rfl, h1, hx⟩))
        case measure => simp [intOf]
    · cases hx : gd x3 with
      | false =>
        go_wp2_with (go_at_call 26; refine (CR.out x3 false _ hx).mono ?_; rintro e w' ⟨rfl, rfl⟩)
        go_ret
        exact ⟨ret_bool (by rw [← HG.out]; simp [gds, hx]), below_alloc _ _⟩
      | true =>
        go_wp2_with (go_at_call 26; refine (CR.out x3 true _ hx).mono ?_; rintro e w' ⟨rfl, rfl⟩)
        go_round
        case rel => exact Or.inr (Or.inr (Or.inr (Or.inl ⟨rfl, h1, h2, hx⟩)))
        case measure => simp [intOf]
    · cases hx : gd x4 with
      | false =>
        go_wp2_with (go_at_call 26; refine (CR.out x4 false _ hx).mono ?_; rintro e w' ⟨rfl, rfl⟩)
        go_ret
        exact ⟨ret_bool (by rw [← HG.out]; simp [gds, hx]), below_alloc _ _⟩
      | true =>
        go_wp2_with (go_at_call 26; refine (CR.out x4 true _ hx).mono ?_; rintro e w' ⟨rfl, rfl⟩)
        go_round
        case rel => exact Or.inr (Or.inr (Or.inr (Or.inr ⟨rfl, h1, h2, h3, hx⟩)))
        case measure => simp [intOf]
    · go_wp2_with fail
      go_ret
      exact ⟨ret_bool (by rw [← HG.out]; simp [gds, h1, h2, h3, h4]), below_alloc _ _⟩
end Go.Proofs.Ytkinoehmcfhgbaa.Vl
set_option linter.unusedVariables false
set_option linter.unusedSimpArgs false
namespace Go.Proofs.Ytkinoehmcfhgbaa.Vl
open Go.RowKit

/-- What an atom's side is at a state. -/
def xv (x1 x2 x3 x4 : Int) (i : Int) : Int := if i = 0 then 0 else if i = 1 then x1 else if i = 2 then x2 else if i = 3 then x3 else x4
def hld (x1 x2 x3 x4 : Int) (a : Atm) : Bool := decide (xv x1 x2 x3 x4 a.1 - xv x1 x2 x3 x4 a.2.1 ≤ a.2.2)
def bi (b : Bool) : Int := if b then 1 else 0
def bys (x1 x2 x3 x4 : Int) (U : List Atm) : List Int := U.map fun a => bi (hld x1 x2 x3 x4 a)
/-- What valued answers. -/
def val (x1 x2 x3 x4 : Int) (ys : List Sym) : Bool := (wrun (uqs ys) (bys x1 x2 x3 x4 (uqs ys)) ys).headD 0 == 1

theorem xv_range {x1 x2 x3 x4 : Int} (h : gds x1 x2 x3 x4 = true) (i : Int) : -1000000000 ≤ xv x1 x2 x3 x4 i ∧ xv x1 x2 x3 x4 i ≤ 1000000000 := by
  simp only [gds, gd, Bool.and_eq_true, decide_eq_true_eq] at h
  unfold xv
  repeat' split
  all_goals omega
theorem nmb_mem : ∀ (l : List Atm) (a : Atm) (i : Int), (nmb l a i = -1 ∧ a ∉ l) ∨ (a ∈ l ∧ i ≤ nmb l a i ∧ nmb l a i < i + l.length)
  | [], a, i => Or.inl ⟨rfl, by simp⟩
  | x :: r, a, i => by
    simp only [nmb]
    split
    · rename_i h; subst h; exact Or.inr ⟨by simp, by omega, by simp; omega⟩
    · rename_i h
      rcases nmb_mem r a (i + 1) with ⟨h1, h2⟩ | ⟨h1, h2, h3⟩
      · exact Or.inl ⟨h1, by simp [h2]; exact fun e => h e.symm⟩
      · exact Or.inr ⟨by simp [h1], by omega, by simp only [List.length_cons]; omega⟩
theorem addA_sub (l : List Atm) (y : Sym) : ∀ a ∈ l, a ∈ addA l y := by
  intro a ha; unfold addA; repeat' split
  all_goals simp [ha]
theorem foldA_sub : ∀ (ds : List Sym) (l : List Atm), (∀ a ∈ l, a ∈ ds.foldl addA l) ∧ ∀ y ∈ ds, y.1 = 6 → y.2 ∈ ds.foldl addA l
  | [], l => ⟨fun a h => h, fun y h => by simp at h⟩
  | d :: r, l => by
    have ih := foldA_sub r (addA l d)
    refine ⟨fun a h => ih.1 a (addA_sub l d a h), fun y hy h6 => ?_⟩
    rcases List.mem_cons.1 hy with rfl | hy
    · apply ih.1
      unfold addA
      rw [if_pos h6]
      split
      · simp
      · rename_i h
        rcases nmb_mem l y.2 0 with ⟨h1, _⟩ | ⟨h1, _⟩
        · omega
        · exact h1
    · exact ih.2 y hy h6
theorem uqs_in (ys : List Sym) : ∀ y ∈ ys, y.1 = 6 → 0 ≤ nmb (uqs ys) y.2 0 ∧ nmb (uqs ys) y.2 0 < (uqs ys).length := by
  intro y hy h6
  have hm : y.2 ∈ uqs ys := (foldA_sub ys []).2 y hy h6
  rcases nmb_mem (uqs ys) y.2 0 with ⟨_, h2⟩ | ⟨_, h2, h3⟩
  · exact absurd hm h2
  · omega
theorem foldA_len : ∀ (ds : List Sym) (l : List Atm), (ds.foldl addA l).length ≤ l.length + ds.length
  | [], l => by simp
  | d :: r, l => by
    have ih := foldA_len r (addA l d)
    have : (addA l d).length ≤ l.length + 1 := by unfold addA; repeat' split
                                                  all_goals simp
    simp only [List.foldl_cons, List.length_cons]; omega
theorem foldA_all (p : Atm → Prop) : ∀ (ds : List Sym) (l : List Atm), (∀ a ∈ l, p a) → (∀ y ∈ ds, y.1 = 6 → p y.2) → ∀ a ∈ ds.foldl addA l, p a
  | [], l, h, _ => h
  | d :: r, l, h, hd => by
    refine foldA_all p r (addA l d) ?_ (fun y hy => hd y (by simp [hy]))
    intro a ha
    unfold addA at ha
    split at ha
    · rename_i h6
      split at ha
      · rcases List.mem_append.1 ha with ha | ha
        · exact h a ha
        · rw [List.mem_singleton] at ha; subst ha; exact hd d (by simp) h6
      · exact h a ha
    · exact h a ha
def okA (a : Atm) : Prop := 0 ≤ a.1 ∧ a.1 ≤ 4 ∧ 0 ≤ a.2.1 ∧ a.2.1 ≤ 4 ∧ -999999 ≤ a.2.2 ∧ a.2.2 ≤ 999999
theorem pos_ok {s : ByteArray} : ∀ (ys : List Sym) (k : Nat) (m : Int) (ps : List Nat), Pos s k m ys ps → ∀ y ∈ ys, y.1 = 6 → okA y.2
  | [], k, m, ps, h => by intro y hy; cases hy
  | y :: r, k, m, ps, h => by
    obtain ⟨j, ps', rfl, hk, hm0, hs, hp⟩ := h
    intro z hz h6
    rcases List.mem_cons.1 hz with rfl | hz
    · rcases sym_kind hk hs with ⟨h0, rfl, _⟩ | ⟨_, a, rfl, ha⟩
      · have := mk_le (s[k].toNat : Int); dsimp only at h6; omega
      · have := atm_facts ha; unfold okA; dsimp only; omega
    · exact pos_ok r _ _ ps' hp z hz h6
theorem pos_len {s : ByteArray} : ∀ (ys : List Sym) (k : Nat) (m : Int) (ps : List Nat), Pos s k m ys ps → k + ys.length ≤ s.size
  | [], k, m, ps, h => by obtain ⟨_, h, _⟩ := h; simp; omega
  | y :: r, k, m, ps, h => by
    obtain ⟨j, ps', rfl, hk, hm0, hs, hp⟩ := h
    have := pos_len r _ _ ps' hp
    have := sym_facts hs
    simp only [List.length_cons]; omega
theorem pars_facts {s : ByteArray} {ys : List Sym} (h : pars s = some ys) : s.size ≤ 4000 ∧ prsA 1 (rest s 0) = some ys ∧ (uqs ys).length ≤ 4000 ∧ ∀ a ∈ uqs ys, okA a := by
  unfold pars at h
  split at h
  · cases h
  · rename_i hs
    have hp : prsA 1 (rest s 0) = some ys := h
    obtain ⟨ps, hps⟩ := pos_of s ys 0 1 (Nat.zero_le _) hp
    have h1 := pos_len ys 0 1 ps hps
    have h2 := foldA_len ys []
    refine ⟨by omega, hp, by unfold uqs; simp at h2; omega, foldA_all okA ys [] (by simp) (pos_ok ys 0 1 ps hps)⟩

theorem take_set_bys (bs : List Int) (k : Nat) (x : Int) (hk : k < bs.length) (hx : bs[k]? = some x) : ((bs.take k ++ List.replicate (bs.length - k) 0).map iv).set k (iv x) = (bs.take (k + 1) ++ List.replicate (bs.length - (k + 1)) 0).map iv := by
  have e1 : List.replicate (bs.length - k) (0 : Int) = 0 :: List.replicate (bs.length - (k + 1)) 0 := by
    rw [show bs.length - k = (bs.length - (k + 1)) + 1 by omega, List.replicate_succ]
  have e2 : bs.take (k + 1) = bs.take k ++ [x] := by
    rw [List.take_add_one, hx]; rfl
  rw [e1, e2, List.map_append, List.map_cons, List.set_append]
  rw [if_neg (by simp; omega)]
  have : k - (List.map iv (List.take k bs)).length = 0 := by simp; omega
  rw [this]
  simp

theorem take_set_same (bs : List Int) (k : Nat) (x : Int) (hk : k < bs.length) (hx : bs[k]? = some 0) {L : Nat} (hL : bs.length = L) : ((bs.take k ++ List.replicate (L - k) 0).map iv).set k (iv 0) = (bs.take k ++ List.replicate (L - k) 0).map iv := by
  subst hL
  have e1 : List.replicate (bs.length - k) (0 : Int) = 0 :: List.replicate (bs.length - (k + 1)) 0 := by
    rw [show bs.length - k = (bs.length - (k + 1)) + 1 by omega, List.replicate_succ]
  rw [e1, List.map_append, List.map_cons, List.set_append]
  rw [if_neg (by simp; omega)]
  have : k - (List.map iv (List.take k bs)).length = 0 := by simp; omega
  rw [this]; rfl
theorem atms_shape {w : World} {v : Value} {ls : List Atm} (h : Atms w v ls) : ∃ q c, v = .slice q ls.length c := by
  rcases h with ⟨h1, h2⟩ | ⟨b, cap, hv, _⟩
  · subst h2; exact ⟨none, 0, h1⟩
  · exact ⟨_, _, hv⟩

set_option maxRecDepth 100000 in
set_option maxHeartbeats 2000000 in
theorem valued_any (s : ByteArray) (x1 x2 x3 x4 : Int) (ys : List Sym) (w : World) (hmax : s.size ≤ maxLen) (hp : pars s = some ys) (hg : gds x1 x2 x3 x4 = true) :
    Calls Try.prog 21 #[.string s, stV x1 x2 x3 x4] w fun e w' => e = .returned (.bool (val x1 x2 x3 x4 ys)) ∧ Below w.heap.size w w' := by
  obtain ⟨hs, hprs, hul, hok⟩ := pars_facts hp
  have CAt : Hid (∀ w, Calls Try.prog 35 #[.string s] w fun e w' => AtmsEnd w (some ys) e w') := fun w => by rw [← hp]; exact Atoms_any s w hmax
  have HV : Hid (val x1 x2 x3 x4 ys = ((wrun (uqs ys) (bys x1 x2 x3 x4 (uqs ys)) ys).headD 0 == 1)) := rfl
  have CW : Hid (∀ w v1 v2, Atms w v1 (uqs ys) → IntsR w v2 (bys x1 x2 x3 x4 (uqs ys)) → Calls Try.prog 36 #[.string s, v1, v2] w fun e w' => e = .returned (.int .i64 ((wrun (uqs ys) (bys x1 x2 x3 x4 (uqs ys)) ys).headD 0)) ∧ Below w.heap.size w w') := fun w v1 v2 h1 h2 =>
    worth_any s v1 v2 (uqs ys) (bys x1 x2 x3 x4 (uqs ys)) ys w hs hprs h1 h2 (by simp [bys]) hul (by intro x hx; simp only [bys, List.mem_map] at hx; obtain ⟨a, _, rfl⟩ := hx; unfold bi; split <;> omega) (uqs_in ys)
  generalize hU : uqs ys = U at *
  have HU : Hid _ := hU
  generalize (wrun U (bys x1 x2 x3 x4 U) ys).headD 0 = WV at *
  have HO : Hid _ := hok
  have HXV : Hid _ := xv_range hg
  clear hU hok hp hprs hg
  obtain ⟨i0, hi, hz0, hz1, hz2⟩ := info_parts Try.infoInt
  unfold stV
  go_enter Try.func21, Try.ntmps21
  go_wp2_with (first
    | (go_at_call 35; refine (CAt.out _).mono ?_; rintro e w1 ⟨v, rfl, hA, hb1⟩; have hA2 : Atms w1 v U := (by have := hA ys rfl; rwa [HU.out] at this); clear hA; have d0 : w1.cell? ⟨w.heap.size, 0, none⟩ = some (.int .i64 x1) := (hb1.cell (p := ⟨w.heap.size, 0, none⟩) (by simp)).trans (by simp); have d1 : w1.cell? ⟨w.heap.size, 1, none⟩ = some (.int .i64 x2) := (hb1.cell (p := ⟨w.heap.size, 1, none⟩) (by simp)).trans (by simp); have d2 : w1.cell? ⟨w.heap.size, 2, none⟩ = some (.int .i64 x3) := (hb1.cell (p := ⟨w.heap.size, 2, none⟩) (by simp)).trans (by simp); have d3 : w1.cell? ⟨w.heap.size, 3, none⟩ = some (.int .i64 x4) := (hb1.cell (p := ⟨w.heap.size, 3, none⟩) (by simp)).trans (by simp); obtain ⟨qa, qc, rfl⟩ := atms_shape hA2)
    | (at_make; refine wpList_make_full _ rfl _ _ 90 rfl (w1.heap.size + 1) 3 i0 (.int .i64 0) 1 Try.underlying90 hi hz0 hz1 .i64 .i64 _ _ U.length rfl rfl rfl rfl (by rw [hz2]; omega) (by unfold maxLen; omega) (by simp) ?_))
  intro w3 hown hgrow
  have hw1 : w.heap.size + 1 ≤ w1.heap.size := by have := hb1.size; simpa using this
  have hw1b : Below w.heap.size w w1 := (below_alloc w _).trans (hb1.mono (by simp))
  have e0 : ∀ (i : Nat), i < 5 → (w1.alloc (.cells #[.int .i64 0, .int .i64 x1, .int .i64 x2, .int .i64 x3, .int .i64 x4] 3)).cell? ⟨w1.heap.size, i, none⟩ = some (.int .i64 (xv x1 x2 x3 x4 (i : Int))) := by
    intro i hi
    match i, hi with
    | 0, _ => simp [xv]
    | 1, _ => simp [xv]
    | 2, _ => simp [xv]
    | 3, _ => simp [xv]
    | 4, _ => simp [xv]
  have hA3 : Atms (w1.alloc (.cells #[.int .i64 0, .int .i64 x1, .int .i64 x2, .int .i64 x3, .int .i64 x4] 3)) (.slice qa U.length qc) U := hA2.below (below_alloc _ _)
  have hw2b : Below w.heap.size w (w1.alloc (.cells #[.int .i64 0, .int .i64 x1, .int .i64 x2, .int .i64 x3, .int .i64 x4] 3)) := hw1b.alloc (by omega) _
  have hw2s : (w1.alloc (.cells #[.int .i64 0, .int .i64 x1, .int .i64 x2, .int .i64 x3, .int .i64 x4] 3)).heap.size = w1.heap.size + 1 := by simp
  generalize w1.alloc (.cells #[.int .i64 0, .int .i64 x1, .int .i64 x2, .int .i64 x3, .int .i64 x4] 3) = W2 at *
  have HW2 : Hid (W2.heap.size = w1.heap.size + 1) := hw2s
  clear hw2s
  have hBl : w1.heap.size < w1.heap.size + 1 := Nat.lt_succ_self _
  have HBB : Hid (w.heap.size ≤ w1.heap.size + 1) := by show _ ≤ _; omega
  generalize w1.heap.size + 1 = B at *
  have hown' : w3.ownsRow B 3 1 (.slice (some ⟨B, 0, none⟩) U.length U.length) U.length ((bys x1 x2 x3 x4 U).take 0 ++ List.replicate (U.length - 0) 0 |>.map iv) := by
    have h := hown
    rw [toList_madeCells_one] at h
    simpa [iv] using h
  have hb3 : Below B W2 w3 := (Below.refl _ W2).grown hgrow (by rw [HW2.out]; exact Nat.le_refl _) (by intro k h; cases h)
  have HE : Hid _ := e0
  clear hown hgrow hA2 d0 d1 d2 d3 hb1 hw1b e0
  go_wp2_with fail
  go_loopw [9] (fun i wr => ∃ k : Nat, i = .int .i64 (k : Int) ∧ k ≤ U.length ∧ wr.ownsRow B 3 1 (.slice (some ⟨B, 0, none⟩) U.length U.length) U.length ((bys x1 x2 x3 x4 U).take k ++ List.replicate (U.length - k) 0 |>.map iv) ∧ Below B W2 wr) (fun i _ => U.length - (intOf i).toNat)
  case atStart => exact ⟨0, rfl, Nat.zero_le _, hown', hb3⟩
  case round =>
    obtain ⟨k, rfl, hk, hown, hbw⟩ := hrel
    have hbl : (bys x1 x2 x3 x4 U).length = U.length := by simp [bys]
    by_cases hlt : k < U.length
    · obtain ⟨⟨a1, a2, a3⟩, ha⟩ : ∃ a, U[k]? = some a := ⟨_, List.getElem?_eq_getElem hlt⟩
      have hoa := HO.out _ (List.mem_of_getElem? ha)
      unfold okA at hoa
      dsimp only at hoa
      rcases hA3 with ⟨_, hA3⟩ | ⟨b, cap, hv, hc1, hc2, hb, hcells⟩
      · subst hA3; simp at hlt
      cases hv
      rw [HW2.out] at hb
      obtain ⟨z1, z2, z3⟩ := hcells k _ ha
      have y1 := (hbw.cell (p := ⟨b, k * 3, none⟩) hb).trans z1
      have y2 := (hbw.cell (p := ⟨b, k * 3 + 1, none⟩) hb).trans z2
      have y3 := (hbw.cell (p := ⟨b, k * 3 + 2, none⟩) hb).trans z3
      dsimp only at y1 y2 y3
      obtain ⟨u, rfl⟩ : ∃ u : Nat, a1 = (u : Int) := ⟨a1.toNat, by omega⟩
      obtain ⟨t, rfl⟩ : ∃ t : Nat, a2 = (t : Int) := ⟨a2.toNat, by omega⟩
      have c1 := (hbw.cell (p := ⟨w1.heap.size, u, none⟩) (by dsimp only; omega)).trans (HE.out u (by omega))
      have c2 := (hbw.cell (p := ⟨w1.heap.size, t, none⟩) (by dsimp only; omega)).trans (HE.out t (by omega))
      have hX := HXV.out (u : Int)
      have hY := HXV.out (t : Int)
      have HL : Hid ((bys x1 x2 x3 x4 U)[k]? = some (bi (decide (xv x1 x2 x3 x4 (u : Int) - xv x1 x2 x3 x4 (t : Int) ≤ a3)))) := by
        show _ = _
        unfold bys
        rw [List.getElem?_map, ha]; rfl
      have hu5 : (u : Int) < 5 := by omega
      have ht5 : (t : Int) < 5 := by omega
      have hlt' : (k : Int) < (U.length : Int) := by omega
      obtain ⟨g, cap', hgv, hg1, hg2, hg3, hg4, hg5, hg6⟩ := own_facts hown (by omega)
      cases hgv
      have f1 := hg6 k
      obtain ⟨old, ho⟩ : ∃ old, ((bys x1 x2 x3 x4 U).take k ++ List.replicate (U.length - k) 0 |>.map iv)[k]? = some old := ⟨_, List.getElem?_eq_getElem (by simp [hbl]; omega)⟩
      have f2 := hg5 k old ho
      clear hg5 hg6 z1 z2 z3 hcells ha ho
      generalize xv x1 x2 x3 x4 (u : Int) = X at *
      generalize xv x1 x2 x3 x4 (t : Int) = Y at *
      go_wp2_with fail
      go_quiet (fail)
      have hD := below_drewN (Below.refl wr.heap.size wr) nq
      have f1' := (hD.frozen (p := ⟨B, k, none⟩) hg2).trans f1
      have f2' := (hD.cell (p := ⟨B, k, none⟩) hg2).trans f2
      have hown2 := ownsRow_below hown hD
      have hbw2 := hbw.trans (hD.mono (by have := hbw.size; rw [HW2.out] at this; exact this))
      clear f1 f2 hown hbw hD y1 y2 y3 c1 c2
      generalize wr.drewN nq = WD at *
      by_cases hle : X - Y ≤ a3
      · have HL2 : Hid ((bys x1 x2 x3 x4 U)[k]? = some 1) := by show _ = _; rw [HL.out]; simp [bi, hle]
        go_wp2_with fail
        go_roundw
        case rel => exact ⟨k + 1, by go_num, by omega, by have := own_set hown2 k (iv 1); rw [← hbl, take_set_bys _ k 1 (by omega) HL2.out, hbl] at this; exact this, hbw2.setCell (p := ⟨B, k, none⟩) (Nat.le_refl _) _⟩
        case measure => simp [intOf]; omega
      · have HL2 : Hid ((bys x1 x2 x3 x4 U)[k]? = some 0) := by show _ = _; rw [HL.out]; simp [bi, hle]
        go_wp2_with fail
        go_roundw
        case rel =>
          refine ⟨k + 1, by go_num, by omega, ?_, hbw2⟩
          have := take_set_bys _ k 0 (by omega) HL2.out
          rw [hbl] at this
          rw [← this]
          rw [take_set_same _ k 0 (by omega) HL2.out hbl]
          exact hown2
        case measure => simp [intOf]; omega
    · have hkU : k = U.length := by omega
      subst hkU
      have hI : IntsR wr (.slice (some ⟨B, 0, none⟩) U.length U.length) (bys x1 x2 x3 x4 U) := by
        have : (List.take U.length (bys x1 x2 x3 x4 U) ++ List.replicate (U.length - U.length) 0) = bys x1 x2 x3 x4 U := by
          rw [Nat.sub_self, ← hbl, List.take_length]; simp
        rw [this] at hown
        exact own_ints (by rw [hbl]; exact hown)
      have hA4 := hA3.below (by rw [HW2.out]; exact hbw)
      clear hbl
      go_wp2_with (go_at_call 36; refine (CW.out _ _ _ hA4 hI).mono ?_; rintro e w5 ⟨rfl, hb5⟩)
      go_ret
      exact ⟨by rw [HV.out]; rfl, (hw2b.trans (hbw.mono HBB.out)).trans (hb5.mono (by have := hw2b.size; have := hbw.size; omega))⟩
end Go.Proofs.Ytkinoehmcfhgbaa.Vl
