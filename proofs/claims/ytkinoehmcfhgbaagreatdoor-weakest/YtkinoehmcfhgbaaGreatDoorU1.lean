/-
  Plain: what must hold ahead of commands, at a state, and the runs from there: without loops it is what holds behind; with loops whose conditions hold it is enough.
  Plain: a program's conditions are conditions, one each; of a program without loops: its condition and its run.
-/
import Derived.Test.YtkinoehmcfhgbaaGreatDoorF1
set_option linter.unusedVariables false
set_option linter.unusedSimpArgs false
namespace Go.Proofs.YtkinoehmcfhgbaaGreatDoor.Vl
open Go.RowKit
open Go.Proofs.YtkinoehmcfhgbaaGreatDoor.Av (Fm Cm)

/-- A list of symbols that comes to one value, whatever lies beneath it. -/
def Vq (q : List Sym) (v : RS → Bool) : Prop := ∀ (s : RS) (st : List Bool), q.foldr (bst s.x1 s.x2 s.x3 s.x4) st = v s :: st
theorem brun_all (x1 x2 x3 x4 : Int) : ∀ st : List Bool, brun x1 x2 x3 x4 (st.map fun b => if b then ((0, 0, 0, 0) : Sym) else (1, 0, 0, 0)) = st
  | [] => rfl
  | b :: r => by
    rw [List.map_cons, brun_cons, brun_all x1 x2 x3 x4 r]
    cases b <;> rfl
theorem vq_fsy {f : Fm} (h : fOk f) : Vq (fsy f) (fun s => s.ev f) := fun s st => by
  have := brun_fsy s.x1 s.x2 s.x3 s.x4 f h (st.map fun b => if b then ((0, 0, 0, 0) : Sym) else (1, 0, 0, 0))
  rw [brun_all] at this
  show _ = ev s.x1 s.x2 s.x3 s.x4 f :: st
  rw [← this]
  unfold brun
  rw [List.foldr_append]
  congr 1
  exact (brun_all _ _ _ _ _).symm
/-- Symbols whose atoms are of two places. -/
def Gq (q : List Sym) : Prop := ∀ y ∈ q, y.1 = 6 → 0 ≤ y.2.1 ∧ y.2.1 ≤ 4 ∧ 0 ≤ y.2.2.1 ∧ y.2.2.1 ≤ 4 ∧ y.2.1 ≠ y.2.2.1
/-- Commands as they may be. -/
def cOkk : Cm → Prop
  | .asg x t => 0 ≤ x ∧ x ≤ 3 ∧ tOk t
  | .ite f a b => fOk f ∧ cOkk a ∧ cOkk b
  | .loop f g a => fOk f ∧ fOk g ∧ cOkk a
  | .seq a b => cOkk a ∧ cOkk b
  | _ => True
theorem Gq.app {a b : List Sym} (h : Gq a) (k : Gq b) : Gq (a ++ b) := fun y hy => by
  rcases List.mem_append.1 hy with h1 | h1
  · exact h y h1
  · exact k y h1
theorem Gq.mark {q : Int} (h : q ≠ 6) {b : List Sym} (k : Gq b) : Gq ((q, 0, 0, 0) :: b) := fun y hy => by
  rcases List.mem_cons.1 hy with rfl | h1
  · intro e; exact absurd e h
  · exact k y h1
theorem aty_gq {u v n : Int} (h0 : 0 ≤ u) (h1 : u ≤ 4) (h2 : 0 ≤ v) (h3 : v ≤ 4) : (aty u v n).1 = 6 → 0 ≤ (aty u v n).2.1 ∧ (aty u v n).2.1 ≤ 4 ∧ 0 ≤ (aty u v n).2.2.1 ∧ (aty u v n).2.2.1 ≤ 4 ∧ (aty u v n).2.1 ≠ (aty u v n).2.2.1 := by
  intro e
  unfold aty at e ⊢
  by_cases hu : u = v
  · rw [if_pos hu] at e
    split at e <;> (dsimp only at e; omega)
  · rw [if_neg hu]; exact ⟨h0, h1, h2, h3, hu⟩
theorem gq_one {y : Sym} (h : y.1 = 6 → 0 ≤ y.2.1 ∧ y.2.1 ≤ 4 ∧ 0 ≤ y.2.2.1 ∧ y.2.2.1 ≤ 4 ∧ y.2.1 ≠ y.2.2.1) : Gq [y] := fun z hz => by
  rw [List.mem_singleton.1 hz]; exact h
theorem gq_fsy : ∀ (f : Fm), fOk f → Gq (fsy f)
  | .tt, _ => Gq.mark (by decide) (fun y hy => by cases hy)
  | .ff, _ => Gq.mark (by decide) (fun y hy => by cases hy)
  | .cmp r a b, h => by
    obtain ⟨_, _, ⟨a1, a2, _, _⟩, ⟨b1, b2, _, _⟩⟩ := h
    show Gq (cms r a b)
    unfold cms
    split
    · exact gq_one (aty_gq (by omega) (by omega) (by omega) (by omega))
    · split
      · exact gq_one (aty_gq (by omega) (by omega) (by omega) (by omega))
      · split
        · exact gq_one (aty_gq (by omega) (by omega) (by omega) (by omega))
        · split
          · exact gq_one (aty_gq (by omega) (by omega) (by omega) (by omega))
          · exact Gq.mark (by decide) (Gq.app (gq_one (aty_gq (by omega) (by omega) (by omega) (by omega))) (gq_one (aty_gq (by omega) (by omega) (by omega) (by omega))))
  | .no f, h => Gq.mark (by decide) (gq_fsy f h)
  | .and f g, h => Gq.mark (by decide) (Gq.app (gq_fsy f h.1) (gq_fsy g h.2))
  | .or f g, h => Gq.mark (by decide) (Gq.app (gq_fsy f h.1) (gq_fsy g h.2))
theorem gq_wpc : ∀ (c : Cm), cOkk c → ∀ q, Gq q → Gq (wpc c q)
  | .skip, _, q, h => h
  | .asg x t, hc, q, h => by
    obtain ⟨c1, c2, c3, c4, _, _⟩ := hc
    intro y hy
    obtain ⟨z, hz, rfl⟩ := List.mem_map.1 hy
    unfold rpl
    split
    · rename_i h6
      obtain ⟨z1, z2, z3, z4, z5⟩ := h z hz h6
      split
      · exact aty_gq (by omega) (by omega) z3 z4
      · split
        · exact aty_gq z1 z2 (by omega) (by omega)
        · exact h z hz
    · exact h z hz
  | .ite f a b, hc, q, h => Gq.mark (by decide) (Gq.mark (by decide) (Gq.app (gq_fsy f hc.1) (Gq.app (gq_wpc a hc.2.1 q h) (Gq.mark (by decide) (Gq.mark (by decide) (Gq.app (gq_fsy f hc.1) (gq_wpc b hc.2.2 q h)))))))
  | .loop f g a, hc, q, h => gq_fsy g hc.2.1
  | .seq a b, hc, q, h => gq_wpc a hc.1 _ (gq_wpc b hc.2 q h)
/-- What must hold ahead of commands, at a state. -/
def wpv : Cm → (RS → Bool) → RS → Bool
  | .skip, v, s => v s
  | .asg x t, v, s => v (s.set x (s.tv t))
  | .ite f a b, v, s => if s.ev f then wpv a v s else wpv b v s
  | .loop f g a, v, s => s.ev g
  | .seq a b, v, s => wpv a (wpv b v) s
theorem xv_set (s : RS) (x v : Int) (h0 : 0 ≤ x) (h3 : x ≤ 3) (i : Int) (i0 : 0 ≤ i) (i4 : i ≤ 4) : xv (s.set x v).x1 (s.set x v).x2 (s.set x v).x3 (s.set x v).x4 i = if i = x + 1 then v else xv s.x1 s.x2 s.x3 s.x4 i := by
  have hx : x = 0 ∨ x = 1 ∨ x = 2 ∨ x = 3 := by omega
  have hi : i = 0 ∨ i = 1 ∨ i = 2 ∨ i = 3 ∨ i = 4 := by omega
  rcases hx with rfl | rfl | rfl | rfl <;> rcases hi with rfl | rfl | rfl | rfl | rfl <;> rfl
theorem bst_aty (x1 x2 x3 x4 u v n : Int) (st : List Bool) : bst x1 x2 x3 x4 (aty u v n) st = decide (xv x1 x2 x3 x4 u - xv x1 x2 x3 x4 v ≤ n) :: st := by
  unfold aty
  split
  · rename_i h; subst h
    split
    · rename_i h; show true :: _ = _; rw [decide_eq_true (by omega)]; rfl
    · rename_i h; show false :: _ = _; rw [decide_eq_false (by omega)]; rfl
  · rfl
theorem bst_rpl (s : RS) (x : Int) (t : Int × Int) (h0 : 0 ≤ x) (h3 : x ≤ 3) (ht : tOk t) (y : Sym) (hy : y.1 = 6 → 0 ≤ y.2.1 ∧ y.2.1 ≤ 4 ∧ 0 ≤ y.2.2.1 ∧ y.2.2.1 ≤ 4 ∧ y.2.1 ≠ y.2.2.1) (st : List Bool) :
    bst s.x1 s.x2 s.x3 s.x4 (rpl (x + 1) (t.1 + 1) t.2 y) st = bst (s.set x (s.tv t)).x1 (s.set x (s.tv t)).x2 (s.set x (s.tv t)).x3 (s.set x (s.tv t)).x4 y st := by
  obtain ⟨t1, t2, t3, t4⟩ := ht
  unfold rpl
  by_cases h6 : y.1 = 6
  · obtain ⟨y1, y2, y3, y4, y5⟩ := hy h6
    have e : bst (s.set x (s.tv t)).x1 (s.set x (s.tv t)).x2 (s.set x (s.tv t)).x3 (s.set x (s.tv t)).x4 y st = decide ((if y.2.1 = x + 1 then s.tv t else xv s.x1 s.x2 s.x3 s.x4 y.2.1) - (if y.2.2.1 = x + 1 then s.tv t else xv s.x1 s.x2 s.x3 s.x4 y.2.2.1) ≤ y.2.2.2) :: st := by
      obtain ⟨q, u, v, n⟩ := y
      dsimp only at *
      subst h6
      show decide (_ - _ ≤ _) :: st = _
      dsimp only
      rw [xv_set s x _ h0 h3 u y1 y2, xv_set s x _ h0 h3 v y3 y4]
    have et : s.tv t = xv s.x1 s.x2 s.x3 s.x4 (t.1 + 1) + t.2 := rfl
    rw [e, if_pos h6]
    by_cases hu : y.2.1 = x + 1
    · rw [if_pos hu, if_pos hu, if_neg (by omega), bst_aty, et]
      congr 1; rw [decide_eq_decide]; omega
    · rw [if_neg hu, if_neg hu]
      by_cases hv : y.2.2.1 = x + 1
      · rw [if_pos hv, if_pos hv, bst_aty, et]
        congr 1; rw [decide_eq_decide]; omega
      · rw [if_neg hv, if_neg hv]
        obtain ⟨q, u, v, n⟩ := y
        dsimp only at *
        subst h6
        rfl
  · rw [if_neg h6]
    unfold bst bval
    simp only [h6, if_false]
theorem vq_wpc : ∀ (c : Cm), cOkk c → ∀ q v, Gq q → Vq q v → Vq (wpc c q) (wpv c v)
  | .skip, _, q, v, _, h => h
  | .asg x t, hc, q, v, hg, h => fun s st => by
    show (q.map (rpl (x + 1) (t.1 + 1) t.2)).foldr _ st = v (s.set x (s.tv t)) :: st
    rw [← h (s.set x (s.tv t)) st]
    clear h
    induction q with
    | nil => rfl
    | cons y r ih =>
      rw [List.map_cons, List.foldr_cons, List.foldr_cons, ih (fun z hz => hg z (List.mem_cons_of_mem _ hz)), bst_rpl s x t hc.1 hc.2.1 hc.2.2 y (hg y List.mem_cons_self)]
  | .ite f a b, hc, q, v, hg, h => fun s st => by
    have ha := vq_wpc a hc.2.1 q v hg h
    have hb := vq_wpc b hc.2.2 q v hg h
    have hf := vq_fsy hc.1
    show List.foldr _ st ((4, 0, 0, 0) :: (3, 0, 0, 0) :: (fsy f ++ (wpc a q ++ ((3, 0, 0, 0) :: (2, 0, 0, 0) :: (fsy f ++ wpc b q))))) = _
    rw [List.foldr_cons, List.foldr_cons, List.foldr_append, List.foldr_append, List.foldr_cons, List.foldr_cons, List.foldr_append, hb s]
    have e1 : List.foldr (bst s.x1 s.x2 s.x3 s.x4) (wpv b v s :: st) (fsy f) = s.ev f :: wpv b v s :: st := hf s _
    rw [e1]
    show bst _ _ _ _ (4, 0, 0, 0) (bst _ _ _ _ (3, 0, 0, 0) (List.foldr _ (List.foldr _ ((!s.ev f && wpv b v s) :: st) (wpc a q)) (fsy f))) = (if s.ev f then wpv a v s else wpv b v s) :: st
    rw [ha s, hf s]
    show ((s.ev f && wpv a v s) || (!s.ev f && wpv b v s)) :: st = _
    cases s.ev f <;> simp
  | .loop f g a, hc, q, v, hg, h => vq_fsy hc.2.1
  | .seq a b, hc, q, v, hg, h => vq_wpc a hc.1 _ _ (gq_wpc b hc.2 q hg) (vq_wpc b hc.2 q v hg h)
/-- What hangs on the four variables alone. -/
def Rsp (v : RS → Bool) : Prop := ∀ s t : RS, s.x1 = t.x1 → s.x2 = t.x2 → s.x3 = t.x3 → s.x4 = t.x4 → v s = v t
theorem rsp_ev (f : Fm) : Rsp (fun s => s.ev f) := fun s t h1 h2 h3 h4 => by
  show ev _ _ _ _ f = ev _ _ _ _ f
  rw [h1, h2, h3, h4]
theorem rsp_wpv : ∀ (c : Cm) (v : RS → Bool), Rsp v → Rsp (wpv c v)
  | .skip, v, h => h
  | .asg x t, v, h => fun s r h1 h2 h3 h4 => by
    show v (s.set x (s.tv t)) = v (r.set x (r.tv t))
    have e : s.tv t = r.tv t := by show tv _ _ _ _ t = tv _ _ _ _ t; rw [h1, h2, h3, h4]
    rw [e]
    unfold RS.set
    apply h <;> (split; · first | rfl | assumption) <;> (split; · first | rfl | assumption) <;> split <;> first | rfl | assumption
  | .ite f a b, v, h => fun s r h1 h2 h3 h4 => by
    show (if s.ev f then wpv a v s else wpv b v s) = (if r.ev f then wpv a v r else wpv b v r)
    rw [rsp_wpv a v h s r h1 h2 h3 h4, rsp_wpv b v h s r h1 h2 h3 h4, show s.ev f = r.ev f from rsp_ev f s r h1 h2 h3 h4]
  | .loop f g a, v, h => rsp_ev g
  | .seq a b, v, h => rsp_wpv a _ (rsp_wpv b v h)
/-- Programs without loops. -/
def noL : Cm → Bool
  | .ite _ a b => noL a && noL b
  | .loop _ _ _ => false
  | .seq a b => noL a && noL b
  | _ => true
theorem cls_noL : ∀ (c : Cm) (q : List Sym), cls c q = [] ↔ noL c = true
  | .skip, q => by simp [cls, noL]
  | .asg x t, q => by simp [cls, noL]
  | .ite f a b, q => by simp [cls, noL, cls_noL a, cls_noL b]
  | .loop f g a, q => by simp [cls, noL]
  | .seq a b, q => by simp [cls, noL, cls_noL a, cls_noL b]
theorem stp_x (fuel : Int) (s : RS) : (stp fuel s).x1 = s.x1 ∧ (stp fuel s).x2 = s.x2 ∧ (stp fuel s).x3 = s.x3 ∧ (stp fuel s).x4 = s.x4 := by
  unfold stp; split <;> exact ⟨rfl, rfl, rfl, rfl⟩
theorem rsp_stp {v : RS → Bool} (h : Rsp v) (fuel : Int) (s : RS) : v (stp fuel s) = v s := by
  obtain ⟨h1, h2, h3, h4⟩ := stp_x fuel s
  exact h _ _ h1 h2 h3 h4
/-- A run without loops that comes to its end: what must hold ahead is what holds behind. -/
theorem ex_wpv (fuel : Int) : ∀ (c : Cm), noL c = true → ∀ (v : RS → Bool), Rsp v → ∀ s, (ex fuel c s).e < 0 → wpv c v s = v (ex fuel c s)
  | .skip, _, v, hv, s, h => (rsp_stp hv fuel s).symm
  | .asg x t, _, v, hv, s, h => by
    show v (s.set x (s.tv t)) = v (asgn fuel x t s)
    have h' : (asgn fuel x t s).e < 0 := h
    unfold asgn at h' ⊢
    split
    · rename_i hn; rw [if_pos hn] at h'; simp at h'
    · rename_i hn
      rw [if_neg hn] at h'
      split
      · exact hv _ _ rfl rfl rfl rfl
      · rename_i hg; rw [if_neg hg] at h'; simp at h'
  | .ite f a b, hc, v, hv, s, h => by
    simp only [noL, Bool.and_eq_true] at hc
    simp only [ex] at h ⊢
    show (if s.ev f then wpv a v s else wpv b v s) = _
    have ef : (stp fuel s).ev f = s.ev f := rsp_stp (rsp_ev f) fuel s
    by_cases h0 : 0 ≤ (stp fuel s).e
    · rw [if_pos h0] at h; omega
    · rw [if_neg h0] at h ⊢
      rw [ef] at h ⊢
      cases hf : s.ev f
      · rw [hf] at h
        have := ex_wpv fuel b hc.2 v hv (stp fuel s) (by simpa using h)
        rw [rsp_stp (rsp_wpv b v hv)] at this
        simpa using this
      · rw [hf] at h
        have := ex_wpv fuel a hc.1 v hv (stp fuel s) (by simpa using h)
        rw [rsp_stp (rsp_wpv a v hv)] at this
        simpa using this
  | .loop f g a, hc, v, hv, s, h => by cases hc
  | .seq a b, hc, v, hv, s, h => by
    simp only [noL, Bool.and_eq_true] at hc
    simp only [ex] at h ⊢
    split
    · rename_i h0; rw [if_pos h0] at h; omega
    · rename_i h0
      rw [if_neg h0] at h
      show wpv a (wpv b v) s = _
      rw [ex_wpv fuel a hc.1 (wpv b v) (rsp_wpv b v hv) s (by omega), ex_wpv fuel b hc.2 v hv _ h]
/-- How many steps a run without loops has, at most. -/
def szc : Cm → Int
  | .ite _ a b => 1 + szc a + szc b
  | .seq a b => szc a + szc b
  | _ => 1
theorem szc_pos : ∀ c, 1 ≤ szc c
  | .skip => by simp [szc]
  | .asg _ _ => by simp [szc]
  | .ite f a b => by have := szc_pos a; have := szc_pos b; simp only [szc]; omega
  | .loop _ _ _ => by simp [szc]
  | .seq a b => by have := szc_pos a; have := szc_pos b; simp only [szc]; omega
theorem ex_steps (fuel : Int) : ∀ (c : Cm), noL c = true → ∀ s, s.e < 0 → s.n + szc c ≤ fuel → (ex fuel c s).e ≠ 1 ∧ (ex fuel c s).n ≤ s.n + szc c ∧ ((ex fuel c s).e < 0 ∨ (ex fuel c s).e = 2)
  | .skip, _, s, he, h => by
    simp only [szc] at h
    show (stp fuel s).e ≠ 1 ∧ (stp fuel s).n ≤ s.n + 1 ∧ _
    simp only [ex]
    unfold stp
    rw [if_neg (by omega)]
    dsimp only
    omega
  | .asg x t, _, s, he, h => by
    simp only [szc] at h
    show (asgn fuel x t s).e ≠ 1 ∧ (asgn fuel x t s).n ≤ s.n + 1 ∧ _
    simp only [ex]
    unfold asgn
    rw [if_neg (by omega)]
    have hs := set_n s x (s.tv t)
    split
    · dsimp only; omega
    · dsimp only; omega
  | .ite f a b, hc, s, he, h => by
    simp only [noL, Bool.and_eq_true] at hc
    simp only [szc] at h ⊢
    have pa := szc_pos a
    have pb := szc_pos b
    have e1 : (stp fuel s).e = s.e ∧ (stp fuel s).n = s.n + 1 := by
      unfold stp
      rw [if_neg (by omega)]
      exact ⟨rfl, rfl⟩
    have ia := ex_steps fuel a hc.1 (stp fuel s) (by omega) (by omega)
    have ib := ex_steps fuel b hc.2 (stp fuel s) (by omega) (by omega)
    simp only [ex]
    rw [if_neg (by omega)]
    split
    · omega
    · omega
  | .loop f g a, hc, s, he, h => by cases hc
  | .seq a b, hc, s, he, h => by
    simp only [noL, Bool.and_eq_true] at hc
    simp only [szc] at h ⊢
    have pa := szc_pos a
    have pb := szc_pos b
    have ia := ex_steps fuel a hc.1 s he (by omega)
    simp only [ex]
    split
    · omega
    · have ib := ex_steps fuel b hc.2 (ex fuel a s) (by omega) (by omega)
      omega
/-- The conditions of the loops, at every state. -/
def cvp : Cm → (RS → Bool) → Prop
  | .ite _ a b, v => cvp a v ∧ cvp b v
  | .loop f g a, v => (∀ s : RS, s.ev g = true → s.ev f = true → wpv a (fun s => s.ev g) s = true) ∧ (∀ s : RS, s.ev g = true → s.ev f = false → v s = true) ∧ cvp a (fun s => s.ev g)
  | .seq a b, v => cvp a (wpv b v) ∧ cvp b v
  | _, _ => True
theorem cls_cvp : ∀ (c : Cm), cOkk c → ∀ q v, Gq q → Vq q v → (∀ l ∈ cls c q, ∀ s : RS, l.foldr (bst s.x1 s.x2 s.x3 s.x4) [] = [true]) → cvp c v
  | .skip, _, q, v, _, _, _ => trivial
  | .asg x t, _, q, v, _, _, _ => trivial
  | .ite f a b, hc, q, v, hg, hv, h => ⟨cls_cvp a hc.2.1 q v hg hv (fun l hl => h l (List.mem_append_left _ hl)), cls_cvp b hc.2.2 q v hg hv (fun l hl => h l (List.mem_append_right _ hl))⟩
  | .loop f g a, hc, q, v, hg, hv, h => by
    have h1 := h (again f g a) (by simp [cls])
    have h2 := h (leav f g q) (by simp [cls])
    have hf := vq_fsy hc.1
    have hgv := vq_fsy hc.2.1
    have hw := vq_wpc a hc.2.2 (fsy g) _ (gq_fsy g hc.2.1) hgv
    refine ⟨fun s hsg hsf => ?_, fun s hsg hsf => ?_, cls_cvp a hc.2.2 (fsy g) _ (gq_fsy g hc.2.1) hgv (fun l hl => h l (by simp [cls, hl]))⟩
    · have := h1 s
      unfold again at this
      rw [List.foldr_cons, List.foldr_cons, List.foldr_append, List.foldr_append, hw s, hf s, hgv s] at this
      have e : (!(s.ev g && s.ev f) || wpv a (fun s => s.ev g) s) :: ([] : List Bool) = [true] := this
      rw [hsg, hsf] at e
      simpa using e
    · have := h2 s
      unfold leav at this
      rw [List.foldr_cons, List.foldr_cons, List.foldr_append, List.foldr_cons, List.foldr_append, hv s, hf s] at this
      have e : bst s.x1 s.x2 s.x3 s.x4 (5, 0, 0, 0) (bst s.x1 s.x2 s.x3 s.x4 (3, 0, 0, 0) (List.foldr (bst s.x1 s.x2 s.x3 s.x4) ((!s.ev f) :: v s :: []) (fsy g))) = [true] := this
      rw [hgv s] at e
      have e2 : (!(s.ev g && !s.ev f) || v s) :: ([] : List Bool) = [true] := e
      rw [hsg, hsf] at e2
      simpa using e2
  | .seq a b, hc, q, v, hg, hv, h => ⟨cls_cvp a hc.1 _ _ (gq_wpc b hc.2 q hg) (vq_wpc b hc.2 q v hg hv) (fun l hl => h l (List.mem_append_left _ hl)), cls_cvp b hc.2 q v hg hv (fun l hl => h l (List.mem_append_right _ hl))⟩
/-- A run that comes to its end: if the conditions of the loops hold at every state, what must hold ahead is enough. -/
theorem ex_sound (fuel : Int) : ∀ (c : Cm) (v : RS → Bool), Rsp v → cvp c v → ∀ s, Inv fuel s → wpv c v s = true → (ex fuel c s).e < 0 → v (ex fuel c s) = true
  | .skip, v, hv, _, s, hi, hw, he => by
    show v (stp fuel s) = true
    rw [rsp_stp hv]; exact hw
  | .asg x t, v, hv, hc, s, hi, hw, he => by rw [← ex_wpv fuel (.asg x t) rfl v hv s he]; exact hw
  | .ite f a b, v, hv, hc, s, hi, hw, he => by
    have hw' : (if s.ev f then wpv a v s else wpv b v s) = true := hw
    have ef : (stp fuel s).ev f = s.ev f := rsp_stp (rsp_ev f) fuel s
    have h1 := inv_stp hi
    simp only [ex] at he ⊢
    split
    · rename_i h0; rw [if_pos h0] at he; omega
    · rename_i h0
      rw [if_neg h0] at he
      rw [ef] at he ⊢
      cases hf : s.ev f
      · rw [hf] at he hw'
        have := ex_sound fuel b v hv hc.2 (stp fuel s) h1.1 (by rw [rsp_stp (rsp_wpv b v hv)]; simpa using hw') (by simpa using he)
        simpa using this
      · rw [hf] at he hw'
        have := ex_sound fuel a v hv hc.1 (stp fuel s) h1.1 (by rw [rsp_stp (rsp_wpv a v hv)]; simpa using hw') (by simpa using he)
        simpa using this
  | .loop f g a, v, hv, hc, s, hi, hw, he => by
    obtain ⟨c1, c2, c3⟩ := hc
    have key : ∀ (m : Nat) (s : RS), Inv fuel s → fuel - s.n < m → s.ev g = true → (whl fuel f (ex fuel a) m s).e < 0 → v (whl fuel f (ex fuel a) m s) = true := by
      intro m
      induction m with
      | zero => intro s hi hm; have := hi.2.1; omega
      | succ m ih =>
        intro s hi hm hg he
        have h1 := inv_stp hi
        have e1 : (stp fuel s).ev g = s.ev g := rsp_stp (rsp_ev g) fuel s
        simp only [whl] at he ⊢
        by_cases h0 : 0 ≤ (stp fuel s).e
        · rw [if_pos h0] at he; omega
        · rw [if_neg h0] at he ⊢
          cases hf : (stp fuel s).ev f
          · rw [hf] at he
            simp only [Bool.false_eq_true, if_false]
            exact c2 _ (e1.trans hg) hf
          · rw [hf] at he
            simp only [if_true] at he ⊢
            have h2 := inv_ex a _ h1.1
            by_cases h3 : 0 ≤ (ex fuel a (stp fuel s)).e
            · rw [if_pos h3] at he; omega
            · rw [if_neg h3] at he ⊢
              have hn := h1.2.2 (by omega)
              exact ih _ h2.1 (by omega) (ex_sound fuel a _ (rsp_ev g) c3 _ h1.1 (c1 _ (e1.trans hg) hf) (by omega)) he
    exact key _ s hi (by have := hi.1; have := hi.2.1; omega) hw he
  | .seq a b, v, hv, hc, s, hi, hw, he => by
    have h1 := inv_ex a s hi
    simp only [ex] at he ⊢
    split
    · rename_i h0; rw [if_pos h0] at he; omega
    · rename_i h0
      rw [if_neg h0] at he
      exact ex_sound fuel b v hv hc.2 _ h1.1 (ex_sound fuel a _ (rsp_wpv b v hv) hc.1 s hi hw (by omega)) he
end Go.Proofs.YtkinoehmcfhgbaaGreatDoor.Vl
set_option linter.unusedVariables false
set_option linter.unusedSimpArgs false
namespace Go.Proofs.YtkinoehmcfhgbaaGreatDoor.Vl
open Go.RowKit
open Go.Proofs.YtkinoehmcfhgbaaGreatDoor.Av (Fm Cm Rc Rd)

/-- Symbols of which m conditions are to come. -/
def WFc : Int → List Sym → Prop
  | m, [] => m = 0
  | m, y :: r => 0 < m ∧ WFc (m + prt y.1 - 1) r
/-- A list of symbols that is one condition. -/
def Wc (ys : List Sym) : Prop := ∀ (m : Int) (l : List Sym), 0 ≤ m → WFc m l → WFc (m + 1) (ys ++ l)
theorem Wc.lit {y : Sym} (h : prt y.1 = 0) : Wc [y] := fun m l hm hl => ⟨by omega, by rw [h]; rw [show m + 1 + 0 - 1 = m by omega]; exact hl⟩
theorem Wc.no {y : Sym} {f : List Sym} (h : prt y.1 = 1) (hf : Wc f) : Wc (y :: f) := fun m l hm hl => ⟨by omega, by rw [h, show m + 1 + 1 - 1 = m + 1 by omega]; exact hf m l hm hl⟩
theorem Wc.two {y : Sym} {f g : List Sym} (h : prt y.1 = 2) (hf : Wc f) (hg : Wc g) : Wc (y :: (f ++ g)) := fun m l hm hl => ⟨by omega, by rw [h, show m + 1 + 2 - 1 = (m + 1) + 1 by omega]; show WFc (m + 1 + 1) ((f ++ g) ++ l); rw [List.append_assoc]; exact hf (m + 1) _ (by omega) (hg m l hm hl)⟩
theorem prt_aty (u v n : Int) : prt (aty u v n).1 = 0 := by
  unfold aty
  split
  · split <;> rfl
  · rfl
theorem wc_fsy : ∀ (f : Fm), Wc (fsy f)
  | .tt => Wc.lit rfl
  | .ff => Wc.lit rfl
  | .cmp r a b => by
    show Wc (cms r a b)
    unfold cms
    split
    · exact Wc.lit (prt_aty _ _ _)
    · split
      · exact Wc.lit (prt_aty _ _ _)
      · split
        · exact Wc.lit (prt_aty _ _ _)
        · split
          · exact Wc.lit (prt_aty _ _ _)
          · exact Wc.two (f := [_]) (g := [_]) rfl (Wc.lit (prt_aty _ _ _)) (Wc.lit (prt_aty _ _ _))
  | .no f => Wc.no rfl (wc_fsy f)
  | .and f g => Wc.two rfl (wc_fsy f) (wc_fsy g)
  | .or f g => Wc.two rfl (wc_fsy f) (wc_fsy g)
theorem prt_rpl (x u n : Int) (y : Sym) : prt (rpl x u n y).1 = prt y.1 := by
  unfold rpl
  split
  · rename_i h6
    have e : prt y.1 = 0 := by rw [h6]; rfl
    split
    · rw [prt_aty, e]
    · split
      · rw [prt_aty, e]
      · rfl
  · rfl
theorem wfc_map (x u n : Int) : ∀ (ys l : List Sym) (m : Int), WFc m (ys ++ l) → WFc m (ys.map (rpl x u n) ++ l)
  | [], l, m, h => h
  | y :: r, l, m, h => ⟨h.1, by rw [prt_rpl]; exact wfc_map x u n r l _ h.2⟩
theorem Wc.map {ys : List Sym} (h : Wc ys) (x u n : Int) : Wc (ys.map (rpl x u n)) := fun m l hm hl => wfc_map x u n ys l _ (h m l hm hl)
theorem wc_wpc : ∀ (c : Cm) (q : List Sym), Wc q → Wc (wpc c q)
  | .skip, q, h => h
  | .asg x t, q, h => h.map _ _ _
  | .ite f a b, q, h => by
    have h1 : Wc ((3, 0, 0, 0) :: (fsy f ++ wpc a q)) := Wc.two rfl (wc_fsy f) (wc_wpc a q h)
    have h2 : Wc ((3, 0, 0, 0) :: (((2, 0, 0, 0) :: fsy f) ++ wpc b q)) := Wc.two rfl (Wc.no rfl (wc_fsy f)) (wc_wpc b q h)
    have := Wc.two (y := (4, 0, 0, 0)) rfl h1 h2
    simpa [wpc] using this
  | .loop f g a, q, h => wc_fsy g
  | .seq a b, q, h => wc_wpc a _ (wc_wpc b q h)
/-- Of a program without loops: its one condition holds at a state just if its run from there ends as it should, or need not. -/
theorem one_run {p q : Fm} {c : Cm} (hp : fOk p) (hq : fOk q) (hc : cOkk c) (hn : noL c = true) (fuel : Int) (s : RS) (he : (ex fuel c s).e < 0) :
    ((5, 0, 0, 0) :: (fsy p ++ wpc c (fsy q)) : List Sym).foldr (bst s.x1 s.x2 s.x3 s.x4) [] = [!(s.ev p) || (ex fuel c s).ev q] := by
  have h1 := vq_wpc c hc (fsy q) _ (gq_fsy q hq) (vq_fsy hq) s []
  rw [List.foldr_cons, List.foldr_append, h1, vq_fsy hp s]
  rw [← ex_wpv fuel c hn (fun s => s.ev q) (rsp_ev q) s he]
  rfl
/-- The bytes of symbols that are a condition are read as these symbols. -/
theorem prsA_wfc : ∀ (ys : List Sym) (m : Int), (∀ y ∈ ys, Good y) → WFc m ys → prsA m (sbs ys) = some ys
  | [], m, _, h => by
    have : m = 0 := h
    subst this
    show prsA 0 [] = _
    rw [prsA_nil]; rfl
  | y :: r, m, hg, h => by
    rw [sbs_cons, prsA_sb (hg y List.mem_cons_self) m (by have := h.1; omega), prsA_wfc r _ (fun z hz => hg z (List.mem_cons_of_mem _ hz)) h.2]; rfl
theorem pars_wc {ys : List Sym} (hg : ∀ y ∈ ys, Good y) (h : Wc ys) (hb : bl ys ≤ 4000) : pars ⟨(sbs ys).toArray⟩ = some ys := by
  have e : (⟨(sbs ys).toArray⟩ : ByteArray).size = (sbs ys).length := by simp [ByteArray.size]
  unfold pars
  rw [if_neg (by unfold bl at hb; omega)]
  show prsA 1 (sbs ys).toArray.toList = _
  have h1 := h 0 [] (Int.le_refl _) rfl
  rw [List.append_nil] at h1
  rw [List.toList_toArray]
  exact prsA_wfc ys 1 hg h1
theorem rc_okk {toks : List (List UInt8 × Nat)} {t : Bool} {k k' : Nat} {c : Cm} (h : Rc toks t k c k') : cOkk c := by
  induction h with
  | skip _ => exact trivial
  | @asg k hv =>
    have h1 := Av.vr_range (Av.sAt toks k)
    exact ⟨hv, by omega, trm_ok _ _⟩
  | ite _ h1 _ _ h2 h3 => exact ⟨rd_ok h1 (fun g h => by cases h), h2, h3⟩
  | loop _ h1 h2 _ h3 => exact ⟨rd_ok h1 (fun g h => by cases h), rd_ok h2 (fun g h => by cases h), h3⟩
  | one _ _ h => exact h
  | seq _ _ _ h1 h2 => exact ⟨h1, h2⟩
theorem rc_szc {toks : List (List UInt8 × Nat)} {t : Bool} {k k' : Nat} {c : Cm} (h : Rc toks t k c k') : szc c + (k : Int) ≤ (k' : Int) := by
  induction h with
  | skip _ => simp only [szc]; omega
  | @asg k _ => have h2 := Av.trm_range toks (k + 2); simp only [szc]; omega
  | ite _ h1 _ _ h2 h3 => have := h1.le.1; simp only [szc]; omega
  | loop _ h1 h2 r3 h3 => have := h1.le.1; have := h2.le.1; have := r3.le; simp only [szc]; omega
  | one _ _ h => exact h
  | seq _ _ _ h1 h2 => simp only [szc]; omega
end Go.Proofs.YtkinoehmcfhgbaaGreatDoor.Vl
