/-
  The walk of the document's worth.
  The walks of the document's good, and of the program's inRange and MayBe: a state that may be.
-/
import Derived.Test.YtkinoehmcfhgbaaGreatDoorV3
import Derived.Deep.RegionHeld3
import Derived.OwnWalk
set_option linter.unusedVariables false
set_option linter.unusedSimpArgs false
namespace Go.Proofs.YtkinoehmcfhgbaaGreatDoor.Vl
open Go.RowKit

theorem mk_plc (c : Int) (h : 0 ≤ mk c) : plc c < 0 := by
  unfold mk at h
  unfold plc
  repeat' split at h
  all_goals first | omega | (simp_all; done)
theorem atm_mark (s : ByteArray) (k : Nat) (hk : k < s.size) (h : 0 ≤ mk (s[k].toNat : Int)) : atm (rest s k) = none := by
  cases ha : atm (rest s k) with
  | none => rfl
  | some q =>
    have := atm_facts (a := q.1) (k := q.2) ha
    have h1 := this.2.2.2.2.2.2.2.2.2
    rw [rest_cons s k hk] at h1
    simp only [List.headD_cons, plu] at h1
    have := mk_plc _ h
    omega

theorem mk_inv (c : Int) : (mk c = 0 → c = 116) ∧ (mk c = 1 → c = 102) ∧ (mk c = 2 → c = 33) ∧ (mk c = 3 → c = 38) ∧ (mk c = 4 → c = 124) ∧ (mk c = 5 → c = 62) := by
  unfold mk
  repeat' split
  all_goals simp_all

theorem wst_le (ls : List Atm) (bs : List Int) (y : Sym) (st : List Int) : (wst ls bs y st).length ≤ st.length + 1 := by
  unfold wst
  repeat' split
  all_goals simp only [List.length_cons, List.length_nil]
  all_goals omega
theorem wrun_le (ls : List Atm) (bs : List Int) : ∀ ys : List Sym, (wrun ls bs ys).length ≤ ys.length
  | [] => Nat.le_refl _
  | y :: r => by
    have h1 := wst_le ls bs y (wrun ls bs r)
    have h2 := wrun_le ls bs r
    rw [wrun_cons, List.length_cons]; omega
theorem own_shape {w : World} {base n : Nat} {e : TypeId} {v : Value} {xs : List Value} (h : w.ownsRow base e 1 v n xs) : ∃ q c, v = .slice q n c := by
  rcases h.2 with ⟨h1, h2⟩ | ⟨g, cap, cur, hv, _⟩
  · subst h2; exact ⟨none, 0, h1⟩
  · exact ⟨_, _, hv⟩

set_option maxRecDepth 100000 in
set_option maxHeartbeats 4000000 in
theorem worth_any (s : ByteArray) (v1 v2 : Value) (ls : List Atm) (bs : List Int) (ys : List Sym) (w : World) (hs : s.size ≤ 4000) (hp : prsA 1 (rest s 0) = some ys)
    (hl : Atms w v1 ls) (hb : IntsR w v2 bs) (hlen : bs.length = ls.length) (hn : ls.length ≤ 4000) (hbs : ∀ x ∈ bs, 0 ≤ x ∧ x ≤ 2)
    (hin : ∀ y ∈ ys, y.1 = 6 → 0 ≤ nmb ls y.2 0 ∧ nmb ls y.2 0 < ls.length) :
    Calls Tryz.prog 119 #[.string s, v1, v2] w fun e w' => e = .returned (.int .i64 ((wrun ls bs ys).headD 0)) ∧ Below w.heap.size w w' := by
  obtain ⟨PS, hPS⟩ := pos_of s ys 0 1 (Nat.zero_le _) hp
  have HPA : Hid _ := pos_at ls bs ys 0 1 PS hPS (by omega)
  have hlast := wrun_len ls bs ys 0 1 PS hPS (by omega)
  have HPS : Hid (Pos s 0 1 ys PS) := hPS
  have HB : Hid _ := hbs
  have HI : Hid _ := hin
  have HR : Hid _ := wrun_range (ls := ls) hbs
  clear hPS hbs hin hp
  obtain ⟨i0, hi, hz0, hz1, hz2⟩ := info_parts Tryz.infoInt
  go_enter Tryz.func119, Tryz.ntmps119
  go_wp2_with fail
  go_loopw [7, 8] (fun v i wr => ∃ (k : Nat) (m : Int) (qs ps : List Nat) (zs : List Sym), k ≤ s.size ∧ i = .int .i64 (k : Int) ∧ PS = qs ++ ps ∧ qs.length ≤ k ∧ Pos s k m zs ps ∧ wr.ownsRow w.heap.size 3 1 v qs.length (qs.map (fun (q : Nat) => iv (q : Int))) ∧ Below w.heap.size w wr) (fun _ i _ => s.size - (intOf i).toNat)
  case atStart => exact ⟨0, 1, [], PS, ys, Nat.zero_le _, rfl, rfl, Nat.le_refl _, HPS.out, World.ownsRow_nil _ _ _ _, Below.refl _ _⟩
  case round =>
    obtain ⟨k, m, qs, ps, zs, hk, rfl, hq, hql, hpos, hown, hnx⟩ := hrel
    have Q : Hid (PS = qs ++ ps) := hq
    clear hq
    have hnxs := hnx.size
    by_cases hlt : k < s.size
    · cases zs with
      | nil => obtain ⟨_, h, _⟩ := hpos; omega
      | cons y r =>
        obtain ⟨j, ps', rfl, _, hm0, hsym, hpos'⟩ := hpos
        have hj := sym_facts hsym
        rw [rest_len] at hj
        have HP : Hid _ := hpos'
        clear hpos'
        have Q2 : Hid (PS = (qs ++ [k]) ++ ps') := by show _ = _; rw [Q.out, List.append_assoc]; rfl
        have hkk : k ≤ 4000 := by omega
        have CA : Hid (∀ w, Calls Tryz.prog 117 #[.string s, .int .i64 (k : Int)] w fun e w' => e = .returned (atmV k (atm (rest s k))) ∧ Below w.heap.size w w') := fun w => atomAt_any s k w (by omega) (by omega)
        have hat : (atm (rest s k) = none ∧ j = 1) ∨ ∃ a, atm (rest s k) = some (a, j) := by
          rcases sym_kind hlt hsym with ⟨h1, h2, h3⟩ | ⟨h1, a, h2, h3⟩
          · exact Or.inl ⟨atm_mark s k hlt h1, h3⟩
          · exact Or.inr ⟨a, h3⟩
        clear hsym
        rcases hat with ⟨ha, rfl⟩ | ⟨⟨a1, a2, a3⟩, ha⟩
        · rw [ha] at CA
          have CA' : Hid (∀ w, Calls Tryz.prog 117 #[.string s, .int .i64 (k : Int)] w fun e w' => e = .returned (.tuple #[.agg #[.int .i64 0, .int .i64 0, .int .i64 0], .int .i64 0, .bool false]) ∧ Below w.heap.size w w') := CA
          clear CA ha
          go_wp2_with (at_builtin; refine wpList_append_own _ rfl _ _ 167 rfl w.heap.size 3 i0 (.int .i64 0) 1 8 Tryz.underlying167 hi hz0 hz1 hz2 rfl (by decide) _ _ _ rfl (hown.alloc _) ⟨wr.heap.size, 0, none⟩ 1 1 [.int .i64 (k : Int)] rfl rfl (one_new _ _ rfl _ _) (one_i _) (by unfold maxLen; omega) (by omega) (by simp; omega) ?_)
          intro v' w2 hown2 hgrow _
          have hb2 := (hnx.alloc (by omega) _).grown hgrow (by simp; omega) (own_block hown)
          clear hown hgrow
          go_wp2_with (go_at_call 117; refine (CA'.out _).mono ?_; rintro e w3 ⟨rfl, hb3⟩)
          have hb2s := hb2.size
          have hb3s := hb3.size
          go_roundw
          case rel => exact ⟨k + 1, _, qs ++ [k], ps', r, by omega, by go_num, Q2.out, by simp; omega, HP.out, by simpa [iv] using (ownsRow_below hown2 hb3).alloc _, (hb2.trans (hb3.mono hb2s)).alloc (by omega) _⟩
          case measure => simp [intOf]; omega
        · rw [ha] at CA
          have CA' : Hid (∀ w, Calls Tryz.prog 117 #[.string s, .int .i64 (k : Int)] w fun e w' => e = .returned (.tuple #[.agg #[.int .i64 a1, .int .i64 a2, .int .i64 a3], .int .i64 ((k + j : Nat) : Int), .bool true]) ∧ Below w.heap.size w w') := CA
          clear CA ha
          generalize hJ : k + j = J at *
          go_wp2_with (at_builtin; refine wpList_append_own _ rfl _ _ 167 rfl w.heap.size 3 i0 (.int .i64 0) 1 8 Tryz.underlying167 hi hz0 hz1 hz2 rfl (by decide) _ _ _ rfl (hown.alloc _) ⟨wr.heap.size, 0, none⟩ 1 1 [.int .i64 (k : Int)] rfl rfl (one_new _ _ rfl _ _) (one_i _) (by unfold maxLen; omega) (by omega) (by simp; omega) ?_)
          intro v' w2 hown2 hgrow _
          have hb2 := (hnx.alloc (by omega) _).grown hgrow (by simp; omega) (own_block hown)
          clear hown hgrow
          go_wp2_with (go_at_call 117; refine (CA'.out _).mono ?_; rintro e w3 ⟨rfl, hb3⟩)
          have hb2s := hb2.size
          have hb3s := hb3.size
          go_roundw
          case rel => exact ⟨J, _, qs ++ [k], ps', r, by omega, rfl, Q2.out, by simp; omega, HP.out, by simpa [iv] using (ownsRow_below hown2 hb3).alloc _, (hb2.trans (hb3.mono hb2s)).alloc (by omega) _⟩
          case measure => simp [intOf]; omega
    · have hps : ps = [] := by
        cases zs with
        | nil => exact hpos.1
        | cons y r => obtain ⟨j, ps', _, h, _⟩ := hpos; omega
      subst hps
      have hPq : PS = qs := by rw [Q.out, List.append_nil]
      subst hPq
      obtain ⟨hPL, hPA⟩ := HPA.out
      have HPA2 : Hid _ := hPA
      have HPL : Hid (PS.length = ys.length) := hPL
      clear hPA HPA Q hpos
      have hpl : 0 < PS.length := by
        rcases Nat.eq_zero_or_pos PS.length with h | h
        · rw [h] at hPL
          have : ys = [] := List.length_eq_zero_iff.1 hPL.symm
          subst this; simp [wrun] at hlast
        · exact h
      clear hPL
      obtain ⟨W1, hW1⟩ : ∃ W1, W1 = wr := ⟨_, rfl⟩
      subst hW1
      obtain ⟨g, cap, rfl, hg1, hg2, hg3, hg4, hg5, _⟩ := own_facts hown hpl
      have HG : Hid _ := hg5
      clear hg5
      go_wp2_with fail
      go_loopw [12, 13] (fun v i wr => ∃ (n : Nat), n ≤ ys.length ∧ i = .int .i64 ((n : Int) - 1) ∧ wr.ownsRow W1.heap.size 3 1 v (wrun ls bs (ys.drop n)).length ((wrun ls bs (ys.drop n)).reverse.map iv) ∧ Below W1.heap.size W1 wr) (fun _ i _ => ((intOf i) + 1).toNat)
      case atStart => exact ⟨ys.length, Nat.le_refl _, by rw [HPL.out], by rw [List.drop_length]; exact World.ownsRow_nil _ _ _ _, Below.refl _ _⟩
      case round =>
        obtain ⟨n, hny, rfl, hown2, hnx2⟩ := hrel
        rcases Nat.eq_zero_or_pos n with rfl | hpos
        · rw [List.drop_zero] at hown2
          obtain ⟨x, hx⟩ : ∃ x, wrun ls bs ys = [x] := by
            match hw : wrun ls bs ys, hlast with
            | [], h => simp at h
            | [x], _ => exact ⟨x, rfl⟩
            | x :: z :: r, h => simp at h; omega
          rw [hx] at hown2
          obtain ⟨g2, cap2, rfl, _, _, _, _, hc5, _⟩ := own_facts hown2 (by simp)
          have hc0 := hc5 0 (iv x) rfl
          unfold iv at hc0
          clear hc5
          go_wp2_with fail
          go_ret
          refine ⟨ret_int ?_, hnx.trans (hnx2.mono hnxs)⟩
          rw [hx]; rfl
        · obtain ⟨n, rfl⟩ : ∃ n', n = n' + 1 := ⟨n - 1, by omega⟩
          obtain ⟨p, y, j, hp1, hp2, hp3, hp4, hp5⟩ := HPA2.out n (by omega)
          have hcell : wr.cell? ⟨g, n, none⟩ = some (.int .i64 (p : Int)) := (hnx2.cell (p := ⟨g, n, none⟩) hg2).trans (HG.out n _ (by rw [List.getElem?_map, hp1]; rfl))
          have hdrop : ys.drop n = y :: ys.drop (n + 1) := by
            rw [List.drop_eq_getElem_cons (by omega)]
            congr 1
            rw [List.getElem?_eq_getElem (by omega)] at hp2
            exact Option.some.inj hp2
          have HD : Hid (wrun ls bs (ys.drop n) = wst ls bs y (wrun ls bs (ys.drop (n + 1)))) := by show _ = _; rw [hdrop, wrun_cons]
          have HRS : Hid _ := HR.out (ys.drop (n + 1))
          have hmem : y ∈ ys := List.mem_of_getElem? hp2
          have hsl : (wrun ls bs (ys.drop (n + 1))).length ≤ 8000 := by
            have h1 := wrun_le ls bs (ys.drop (n + 1))
            have h2 := HPL.out
            rw [List.length_drop] at h1
            omega
          clear hdrop hp1 hp2
          generalize hst : wrun ls bs (ys.drop (n + 1)) = st at *
          clear hst
          have hdep := hp5
          clear hp5
          have hnx2s := hnx2.size
          have hpp : (p : Int) < (s.size : Int) := by omega
          have hnn : ((n + 1 : Nat) : Int) - 1 = (n : Int) := by omega
          have hng : (n : Int) < (PS.length : Int) := by have := HPL.out; omega
          rcases sym_kind hp3 hp4 with ⟨h0, rfl, _⟩ | ⟨h0, a, rfl, ha⟩
          · dsimp only at hdep HD
            have hmr := mk_le (s[p].toNat : Int)
            have hq : mk (s[p].toNat : Int) = 0 ∨ mk (s[p].toNat : Int) = 1 ∨ mk (s[p].toNat : Int) = 2 ∨ mk (s[p].toNat : Int) = 3 ∨ mk (s[p].toNat : Int) = 4 ∨ mk (s[p].toNat : Int) = 5 := by omega
            rcases hq with hq | hq | hq | hq | hq | hq <;> rw [hq] at hdep HD
            · have hc : (s[p].toNat : Int) = 116 := by have := mk_inv (s[p].toNat : Int); omega
              have HW : Hid (wst ls bs (0, 0, 0, 0) st = 1 :: st) := rfl
              obtain ⟨qa, qc, rfl⟩ := own_shape hown2
              go_wp2_with (at_builtin; refine wpList_append_own _ rfl _ _ 167 rfl W1.heap.size 3 i0 (.int .i64 0) 1 8 Tryz.underlying167 hi hz0 hz1 hz2 rfl (by decide) _ _ _ rfl (hown2.alloc _) ⟨wr.heap.size, 0, none⟩ 1 1 [.int .i64 1] rfl rfl (one_new _ _ rfl _ _) (one_i _) (by unfold maxLen; omega) (by omega) (by simp; omega) ?_)
              intro v' w2 hown3 hgrow _
              have hb2 := (hnx2.alloc (by omega) _).grown hgrow (by simp; omega) (own_block hown2)
              clear hown2 hgrow
              go_wp2_with fail
              go_roundw
              case rel => exact ⟨n, by omega, by go_num, by rw [HD.out, HW.out]; simpa [iv] using hown3, hb2⟩
              case measure => simp [intOf]
            · have hc : (s[p].toNat : Int) = 102 := by have := mk_inv (s[p].toNat : Int); omega
              have HW : Hid (wst ls bs (1, 0, 0, 0) st = 0 :: st) := rfl
              obtain ⟨qa, qc, rfl⟩ := own_shape hown2
              go_wp2_with (at_builtin; refine wpList_append_own _ rfl _ _ 167 rfl W1.heap.size 3 i0 (.int .i64 0) 1 8 Tryz.underlying167 hi hz0 hz1 hz2 rfl (by decide) _ _ _ rfl (hown2.alloc _) ⟨wr.heap.size, 0, none⟩ 1 1 [.int .i64 0] rfl rfl (one_new _ _ rfl _ _) (one_i _) (by unfold maxLen; omega) (by omega) (by simp; omega) ?_)
              intro v' w2 hown3 hgrow _
              have hb2 := (hnx2.alloc (by omega) _).grown hgrow (by simp; omega) (own_block hown2)
              clear hown2 hgrow
              go_wp2_with fail
              go_roundw
              case rel => exact ⟨n, by omega, by go_num, by rw [HD.out, HW.out]; simpa [iv] using hown3, hb2⟩
              case measure => simp [intOf]
            · have hc : (s[p].toNat : Int) = 33 := by have := mk_inv (s[p].toNat : Int); omega
              obtain ⟨x, r, rfl⟩ : ∃ x r, st = x :: r := by
                match st, hdep with
                | [], h => exact absurd h (by decide)
                | x :: r, _ => exact ⟨x, r, rfl⟩
              have hx2 := HRS.out x (by simp)
              obtain ⟨g2, cap2, rfl, hh1, hh2, hh3, hh4, hh5, hh6⟩ := own_facts hown2 (by simp)
              have c1 : wr.cell? ⟨g2, r.length, none⟩ = some (.int .i64 x) := hh5 _ _ (by simp [iv])
              have f1 := hh6 r.length
              clear hh5 hh6
              have hrl : (x :: r).length = r.length + 1 := rfl
              by_cases hx : x < 2
              · have HW : Hid (wst ls bs (2, 0, 0, 0) (x :: r) = (1 - x) :: r) := by show (if x < 2 then 1 - x else x) :: r = _; rw [if_pos hx]
                go_wp2_with fail
                go_roundw
                case rel => exact ⟨n, by omega, by go_num, by rw [HD.out, HW.out]; have := own_set hown2 r.length (iv (1 - x)); simpa [iv, List.set_append] using this, hnx2.setCell (p := ⟨g2, r.length, none⟩) hh1 _⟩
                case measure => simp [intOf]
              · have HW : Hid (wst ls bs (2, 0, 0, 0) (x :: r) = x :: r) := by show (if x < 2 then 1 - x else x) :: r = _; rw [if_neg hx]
                go_wp2_with fail
                go_roundw
                case rel => exact ⟨n, by omega, by go_num, by rw [HD.out, HW.out]; exact hown2, hnx2⟩
                case measure => simp [intOf]
            · have hc : (s[p].toNat : Int) = 38 := by have := mk_inv (s[p].toNat : Int); omega
              obtain ⟨x, z, r, rfl⟩ : ∃ x z r, st = x :: z :: r := by
                match st, hdep with
                | [], h => exact absurd h (by decide)
                | [x], h => simp [prt] at h
                | x :: z :: r, _ => exact ⟨x, z, r, rfl⟩
              have HW : Hid (wst ls bs (3, 0, 0, 0) (x :: z :: r) = tbl 38 x z :: r) := rfl
              obtain ⟨g2, cap2, rfl, hh1, hh2, hh3, hh4, hh5, hh6⟩ := own_facts hown2 (by simp)
              have c1 : wr.cell? ⟨g2, r.length + 1, none⟩ = some (.int .i64 x) := hh5 _ _ (by simp [iv])
              have c2 : wr.cell? ⟨g2, r.length, none⟩ = some (.int .i64 z) := hh5 _ _ (by simp [iv])
              clear hh5 hh6
              have hrl : (x :: z :: r).length = r.length + 2 := rfl
              rw [hrl] at hown2 hh3 ⊢
              have hown4 := own_take hown2 r.length (by omega)
              have hrow : ((List.map iv (x :: z :: r).reverse).take r.length) = r.reverse.map iv := by simp
              rw [hrow] at hown4
              simp only [hrl, List.length_cons] at hsl
              generalize hRR : r.length = R at *
              have HRR : Hid (r.length = R) := hRR
              clear hRR
              have i0' : (0 : Int) ≤ (R : Int) + 1 := by omega
              have i1 : (R : Int) + 1 < (R : Int) + 2 := by omega
              have i2 : (R : Int) < (R : Int) + 2 := by omega
              have i3 : IntKind.i64.wrap ((R : Int) + 1) = (R : Int) + 1 := IntWalk.i64_in _ (by omega)
              have i4 : IntKind.i64.wrap (R : Int) = (R : Int) := IntWalk.i64_in _ (by omega)
              have i5 : (R : Int) + 2 - 1 = (R : Int) + 1 := by omega
              have i6 : (R : Int) + 2 - 2 = (R : Int) := by omega
              have i7 : ((R : Int) + 1).toNat = R + 1 := by omega
              go_wp2_with fail
              go_region_held3 (fun w' => w'.cell? ⟨g2, R + 1, none⟩ = some (.int .i64 x) ∧ w'.cell? ⟨g2, R, none⟩ = some (.int .i64 z)) (simp [*]) (first | (go_at_call 172; refine (table_any _ _ _ _).mono ?_; rintro e w' ⟨rfl, rfl⟩))
              have hown5 : wr.drew.ownsRow W1.heap.size 3 1 (.slice (some ⟨g2, 0, none⟩) R cap2) R (r.reverse.map iv) := hown4
              have hnx5 : Below W1.heap.size W1 wr.drew := hnx2.drew
              have hs5 : W1.heap.size ≤ wr.drew.heap.size := hnx5.size
              clear hown2 hown4 hnx2 c1 c2
              generalize wr.drew = WD at *
              go_wp2_with (at_builtin; refine wpList_append_own _ rfl _ _ 167 rfl W1.heap.size 3 i0 (.int .i64 0) 1 8 Tryz.underlying167 hi hz0 hz1 hz2 rfl (by decide) _ _ _ rfl (hown5.alloc _) ⟨WD.heap.size, 0, none⟩ 1 1 [.int .i64 (tbl 38 x z)] rfl rfl (one_new _ _ rfl _ _) (one_i _) (by unfold maxLen; omega) (by omega) (by simp; omega) ?_)
              intro v' w2 hown3 hgrow _
              have hb2 := (hnx5.alloc (by omega) _).grown hgrow (by simp; omega) (own_block hown5)
              clear hown5 hgrow
              go_wp2_with fail
              go_roundw
              case rel => exact ⟨n, by omega, by go_num, by rw [HD.out, HW.out, List.length_cons, HRR.out]; simpa [iv] using hown3, hb2⟩
              case measure => simp [intOf]
            · have hc : (s[p].toNat : Int) = 124 := by have := mk_inv (s[p].toNat : Int); omega
              obtain ⟨x, z, r, rfl⟩ : ∃ x z r, st = x :: z :: r := by
                match st, hdep with
                | [], h => exact absurd h (by decide)
                | [x], h => simp [prt] at h
                | x :: z :: r, _ => exact ⟨x, z, r, rfl⟩
              have HW : Hid (wst ls bs (4, 0, 0, 0) (x :: z :: r) = tbl 124 x z :: r) := rfl
              obtain ⟨g2, cap2, rfl, hh1, hh2, hh3, hh4, hh5, hh6⟩ := own_facts hown2 (by simp)
              have c1 : wr.cell? ⟨g2, r.length + 1, none⟩ = some (.int .i64 x) := hh5 _ _ (by simp [iv])
              have c2 : wr.cell? ⟨g2, r.length, none⟩ = some (.int .i64 z) := hh5 _ _ (by simp [iv])
              clear hh5 hh6
              have hrl : (x :: z :: r).length = r.length + 2 := rfl
              rw [hrl] at hown2 hh3 ⊢
              have hown4 := own_take hown2 r.length (by omega)
              have hrow : ((List.map iv (x :: z :: r).reverse).take r.length) = r.reverse.map iv := by simp
              rw [hrow] at hown4
              simp only [hrl, List.length_cons] at hsl
              generalize hRR : r.length = R at *
              have HRR : Hid (r.length = R) := hRR
              clear hRR
              have i0' : (0 : Int) ≤ (R : Int) + 1 := by omega
              have i1 : (R : Int) + 1 < (R : Int) + 2 := by omega
              have i2 : (R : Int) < (R : Int) + 2 := by omega
              have i3 : IntKind.i64.wrap ((R : Int) + 1) = (R : Int) + 1 := IntWalk.i64_in _ (by omega)
              have i4 : IntKind.i64.wrap (R : Int) = (R : Int) := IntWalk.i64_in _ (by omega)
              have i5 : (R : Int) + 2 - 1 = (R : Int) + 1 := by omega
              have i6 : (R : Int) + 2 - 2 = (R : Int) := by omega
              have i7 : ((R : Int) + 1).toNat = R + 1 := by omega
              go_wp2_with fail
              go_region_held3 (fun w' => w'.cell? ⟨g2, R + 1, none⟩ = some (.int .i64 x) ∧ w'.cell? ⟨g2, R, none⟩ = some (.int .i64 z)) (simp [*]) (first | (go_at_call 172; refine (table_any _ _ _ _).mono ?_; rintro e w' ⟨rfl, rfl⟩))
              have hown5 : wr.drew.ownsRow W1.heap.size 3 1 (.slice (some ⟨g2, 0, none⟩) R cap2) R (r.reverse.map iv) := hown4
              have hnx5 : Below W1.heap.size W1 wr.drew := hnx2.drew
              have hs5 : W1.heap.size ≤ wr.drew.heap.size := hnx5.size
              clear hown2 hown4 hnx2 c1 c2
              generalize wr.drew = WD at *
              go_wp2_with (at_builtin; refine wpList_append_own _ rfl _ _ 167 rfl W1.heap.size 3 i0 (.int .i64 0) 1 8 Tryz.underlying167 hi hz0 hz1 hz2 rfl (by decide) _ _ _ rfl (hown5.alloc _) ⟨WD.heap.size, 0, none⟩ 1 1 [.int .i64 (tbl 124 x z)] rfl rfl (one_new _ _ rfl _ _) (one_i _) (by unfold maxLen; omega) (by omega) (by simp; omega) ?_)
              intro v' w2 hown3 hgrow _
              have hb2 := (hnx5.alloc (by omega) _).grown hgrow (by simp; omega) (own_block hown5)
              clear hown5 hgrow
              go_wp2_with fail
              go_roundw
              case rel => exact ⟨n, by omega, by go_num, by rw [HD.out, HW.out, List.length_cons, HRR.out]; simpa [iv] using hown3, hb2⟩
              case measure => simp [intOf]
            · have hc : (s[p].toNat : Int) = 62 := by have := mk_inv (s[p].toNat : Int); omega
              obtain ⟨x, z, r, rfl⟩ : ∃ x z r, st = x :: z :: r := by
                match st, hdep with
                | [], h => exact absurd h (by decide)
                | [x], h => simp [prt] at h
                | x :: z :: r, _ => exact ⟨x, z, r, rfl⟩
              have HW : Hid (wst ls bs (5, 0, 0, 0) (x :: z :: r) = tbl 62 x z :: r) := rfl
              obtain ⟨g2, cap2, rfl, hh1, hh2, hh3, hh4, hh5, hh6⟩ := own_facts hown2 (by simp)
              have c1 : wr.cell? ⟨g2, r.length + 1, none⟩ = some (.int .i64 x) := hh5 _ _ (by simp [iv])
              have c2 : wr.cell? ⟨g2, r.length, none⟩ = some (.int .i64 z) := hh5 _ _ (by simp [iv])
              clear hh5 hh6
              have hrl : (x :: z :: r).length = r.length + 2 := rfl
              rw [hrl] at hown2 hh3 ⊢
              have hown4 := own_take hown2 r.length (by omega)
              have hrow : ((List.map iv (x :: z :: r).reverse).take r.length) = r.reverse.map iv := by simp
              rw [hrow] at hown4
              simp only [hrl, List.length_cons] at hsl
              generalize hRR : r.length = R at *
              have HRR : Hid (r.length = R) := hRR
              clear hRR
              have i0' : (0 : Int) ≤ (R : Int) + 1 := by omega
              have i1 : (R : Int) + 1 < (R : Int) + 2 := by omega
              have i2 : (R : Int) < (R : Int) + 2 := by omega
              have i3 : IntKind.i64.wrap ((R : Int) + 1) = (R : Int) + 1 := IntWalk.i64_in _ (by omega)
              have i4 : IntKind.i64.wrap (R : Int) = (R : Int) := IntWalk.i64_in _ (by omega)
              have i5 : (R : Int) + 2 - 1 = (R : Int) + 1 := by omega
              have i6 : (R : Int) + 2 - 2 = (R : Int) := by omega
              have i7 : ((R : Int) + 1).toNat = R + 1 := by omega
              go_wp2_with fail
              go_region_held3 (fun w' => w'.cell? ⟨g2, R + 1, none⟩ = some (.int .i64 x) ∧ w'.cell? ⟨g2, R, none⟩ = some (.int .i64 z)) (simp [*]) (first | (go_at_call 172; refine (table_any _ _ _ _).mono ?_; rintro e w' ⟨rfl, rfl⟩))
              have hown5 : wr.drew.ownsRow W1.heap.size 3 1 (.slice (some ⟨g2, 0, none⟩) R cap2) R (r.reverse.map iv) := hown4
              have hnx5 : Below W1.heap.size W1 wr.drew := hnx2.drew
              have hs5 : W1.heap.size ≤ wr.drew.heap.size := hnx5.size
              clear hown2 hown4 hnx2 c1 c2
              generalize wr.drew = WD at *
              go_wp2_with (at_builtin; refine wpList_append_own _ rfl _ _ 167 rfl W1.heap.size 3 i0 (.int .i64 0) 1 8 Tryz.underlying167 hi hz0 hz1 hz2 rfl (by decide) _ _ _ rfl (hown5.alloc _) ⟨WD.heap.size, 0, none⟩ 1 1 [.int .i64 (tbl 62 x z)] rfl rfl (one_new _ _ rfl _ _) (one_i _) (by unfold maxLen; omega) (by omega) (by simp; omega) ?_)
              intro v' w2 hown3 hgrow _
              have hb2 := (hnx5.alloc (by omega) _).grown hgrow (by simp; omega) (own_block hown5)
              clear hown5 hgrow
              go_wp2_with fail
              go_roundw
              case rel => exact ⟨n, by omega, by go_num, by rw [HD.out, HW.out, List.length_cons, HRR.out]; simpa [iv] using hown3, hb2⟩
              case measure => simp [intOf]
          · obtain ⟨a1, a2, a3⟩ := a
            obtain ⟨g1, g2, g3, g4, g5, g6⟩ := mk_no _ h0
            obtain ⟨hi0, hi1⟩ := HI.out _ hmem rfl
            dsimp only at hi0 hi1
            have CA : Hid (∀ w, Calls Tryz.prog 117 #[.string s, .int .i64 (p : Int)] w fun e w' => e = .returned (atmV p (atm (rest s p))) ∧ Below w.heap.size w w') := fun w => atomAt_any s p w (by omega) (by omega)
            rw [ha] at CA
            have CA' : Hid (∀ w, Calls Tryz.prog 117 #[.string s, .int .i64 (p : Int)] w fun e w' => e = .returned (.tuple #[.agg #[.int .i64 a1, .int .i64 a2, .int .i64 a3], .int .i64 ((p + j : Nat) : Int), .bool true]) ∧ Below w.heap.size w w') := CA
            have hall : Below w.heap.size w wr := hnx.trans (hnx2.mono hnxs)
            have hl2 := hl.below hall
            have hb2 := hb.below hall
            obtain ⟨N, hN⟩ : ∃ N : Nat, nmb ls (a1, a2, a3) 0 = (N : Int) := ⟨(nmb ls (a1, a2, a3) 0).toNat, by omega⟩
            have CN : Hid (∀ w, Atms w v1 ls → Calls Tryz.prog 118 #[v1, .agg #[.int .i64 a1, .int .i64 a2, .int .i64 a3]] w fun e w' => e = .returned (.int .i64 (N : Int)) ∧ Below w.heap.size w w') := fun w h => by rw [← hN]; exact number_any v1 ls (a1, a2, a3) w h (by omega)
            have hN' : N < bs.length := by omega
            obtain ⟨x, hx⟩ : ∃ x, bs[N]? = some x := ⟨_, List.getElem?_eq_getElem hN'⟩
            have HW : Hid (wst ls bs (6, a1, a2, a3) st = x :: st) := by
              show bs.getD (nmb ls (a1, a2, a3) 0).toNat 0 :: st = _
              rw [hN, List.getD_eq_getElem?_getD, Int.toNat_natCast, hx]; rfl
            rcases hb2 with ⟨_, hb2⟩ | ⟨bb, bcap, rfl, hbc1, hbc2, hbb, hbcells⟩
            · subst hb2; simp at hN'
            have hxc := hbcells N x hx
            unfold iv at hxc
            have hNN : (N : Int) < (bs.length : Int) := by omega
            clear hbcells CA hN hi0 hi1 hx ha hN' hlen
            obtain ⟨qa, qc, rfl⟩ := own_shape hown2
            go_wp2_with (first
              | (go_at_call 117; refine (CA'.out _).mono ?_; rintro e w3 ⟨rfl, hb3⟩; have hat : Atms (w3.alloc (.cells #[.int .i64 a1, .int .i64 a2, .int .i64 a3] 236)) v1 ls := (hl2.below hb3).below (below_alloc _ _))
              | (go_at_call 118; refine (CN.out _ hat).mono ?_; rintro e w4 ⟨rfl, hb4⟩; have hb4s : w3.heap.size + 1 ≤ w4.heap.size := (by have := hb4.size; simpa using this); have hbw : Below wr.heap.size wr w4 := hb3.trans (((below_alloc w3 _).mono hb3.size).trans (hb4.mono (by have := hb3.size; simp; omega))); have hxc4 := (hbw.cell (p := ⟨bb, N, none⟩) hbb).trans hxc; have hown6 := ownsRow_below hown2 hbw)
              | (at_builtin; refine wpList_append_own _ rfl _ _ 167 rfl W1.heap.size 3 i0 (.int .i64 0) 1 8 Tryz.underlying167 hi hz0 hz1 hz2 rfl (by decide) _ _ _ rfl (hown6.alloc _) ⟨w4.heap.size, 0, none⟩ 1 1 [.int .i64 x] rfl rfl (one_new _ _ rfl _ _) (one_i _) (by unfold maxLen; omega) (by omega) (by have := hb3.size; simp; omega) ?_))
            intro v' w5 hown3 hgrow _
            have hb3s := hb3.size
            have hb5 := ((hnx2.trans (hbw.mono hnx2s)).alloc (by omega) _).grown hgrow (by simp; omega) (own_block hown6)
            clear hown2 hown6 hgrow hxc hxc4
            go_wp2_with fail
            go_roundw
            case rel => exact ⟨n, by omega, by go_num, by rw [HD.out, HW.out]; simpa [iv] using hown3, hb5⟩
            case measure => simp [intOf]
end Go.Proofs.YtkinoehmcfhgbaaGreatDoor.Vl
set_option linter.unusedVariables false
set_option linter.unusedSimpArgs false
namespace Go.Proofs.YtkinoehmcfhgbaaGreatDoor.Vl
open Go.RowKit

def gd (x : Int) : Bool := decide (-1000000000 ≤ x) && decide (x ≤ 1000000000)
def gds (x1 x2 x3 x4 : Int) : Bool := gd x1 && (gd x2 && (gd x3 && gd x4))
def stV (x1 x2 x3 x4 : Int) : Value := .agg #[.int .i64 x1, .int .i64 x2, .int .i64 x3, .int .i64 x4]
theorem gd_yes {x : Int} (h : gd x = true) : ¬ x < -1000000000 ∧ ¬ 1000000000 < x := by unfold gd at h; simp at h; omega
theorem gd_no {x : Int} (h : gd x = false) : x < -1000000000 ∨ (¬ x < -1000000000 ∧ 1000000000 < x) := by unfold gd at h; simp at h; omega

def At4 (x1 x2 x3 x4 : Int) (i : Value) : Prop := i = .int .i64 0 ∨ (i = .int .i64 1 ∧ gd x1 = true) ∨ (i = .int .i64 2 ∧ gd x1 = true ∧ gd x2 = true) ∨ (i = .int .i64 3 ∧ gd x1 = true ∧ gd x2 = true ∧ gd x3 = true) ∨ (i = .int .i64 4 ∧ gd x1 = true ∧ gd x2 = true ∧ gd x3 = true ∧ gd x4 = true)
set_option maxRecDepth 100000 in
set_option maxHeartbeats 1000000 in
theorem good_any (x1 x2 x3 x4 : Int) (w : World) :
    Calls Tryz.prog 82 #[stV x1 x2 x3 x4] w fun e w' => e = .returned (.bool (gds x1 x2 x3 x4)) ∧ Below w.heap.size w w' := by
  unfold stV
  generalize hG : gds x1 x2 x3 x4 = G
  have HG : Hid (gds x1 x2 x3 x4 = G) := hG
  clear hG
  go_enter Tryz.func82, Tryz.ntmps82
  go_wp2
  go_loop [3] (fun i => At4 x1 x2 x3 x4 i) (fun i => 4 - (intOf i).toNat)
  case atStart => exact Or.inl rfl
  case round =>
    rcases hrel with rfl | ⟨rfl, h1⟩ | ⟨rfl, h1, h2⟩ | ⟨rfl, h1, h2, h3⟩ | ⟨rfl, h1, h2, h3, h4⟩
    · cases hx : gd x1 with
      | false =>
        rcases gd_no hx with hy | ⟨hy, hy'⟩
        all_goals
          go_wp2
          go_ret
          exact ⟨ret_bool (by rw [← HG.out]; simp [gds, hx]), below_alloc _ _⟩
      | true =>
        obtain ⟨hy, hy'⟩ := gd_yes hx
        go_wp2
        go_round
        case rel => exact Or.inr (Or.inl ⟨rfl, hx⟩)
        case measure => simp [intOf]
    · cases hx : gd x2 with
      | false =>
        rcases gd_no hx with hy | ⟨hy, hy'⟩
        all_goals
          go_wp2
          go_ret
          exact ⟨ret_bool (by rw [← HG.out]; simp [gds, hx]), below_alloc _ _⟩
      | true =>
        obtain ⟨hy, hy'⟩ := gd_yes hx
        go_wp2
        go_round
        case rel => exact Or.inr (Or.inr (Or.inl ⟨rfl, h1, hx⟩))
        case measure => simp [intOf]
    · cases hx : gd x3 with
      | false =>
        rcases gd_no hx with hy | ⟨hy, hy'⟩
        all_goals
          go_wp2
          go_ret
          exact ⟨ret_bool (by rw [← HG.out]; simp [gds, hx]), below_alloc _ _⟩
      | true =>
        obtain ⟨hy, hy'⟩ := gd_yes hx
        go_wp2
        go_round
        case rel => exact Or.inr (Or.inr (Or.inr (Or.inl ⟨rfl, h1, h2, hx⟩)))
        case measure => simp [intOf]
    · cases hx : gd x4 with
      | false =>
        rcases gd_no hx with hy | ⟨hy, hy'⟩
        all_goals
          go_wp2
          go_ret
          exact ⟨ret_bool (by rw [← HG.out]; simp [gds, hx]), below_alloc _ _⟩
      | true =>
        obtain ⟨hy, hy'⟩ := gd_yes hx
        go_wp2
        go_round
        case rel => exact Or.inr (Or.inr (Or.inr (Or.inr ⟨rfl, h1, h2, h3, hx⟩)))
        case measure => simp [intOf]
    · go_wp2
      go_ret
      exact ⟨ret_bool (by rw [← HG.out]; simp [gds, h1, h2, h3, h4]), below_alloc _ _⟩

end Go.Proofs.YtkinoehmcfhgbaaGreatDoor.Vl
