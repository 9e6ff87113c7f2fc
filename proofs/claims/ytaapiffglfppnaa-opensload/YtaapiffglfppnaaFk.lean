/- The program's Fork; no statement is proved in this text. -/
import Derived.Test.YtaapiffglfppnaaPb
namespace Go.Proofs.Ytaapiffglfppnaa
open Go.ChangeShapes Go.WideShapes Go.ChangeAt Go.RowKit Go.Deep
attribute [local go_sem ↓] Go.wp_at_zero Go.wp_at_succ

theorem under72 : Try.prog.underlying 72 = some (.array 6 70) := by kernel_rfl
theorem info70 : ∃ i, Try.prog.info? 70 = some i := by
  have h : (Try.prog.info? 70).map (·.size) = some 1 := by kernel_rfl
  cases hi : Try.prog.info? 70 with
  | none => rw [hi] at h; cases h
  | some i => exact ⟨i, rfl⟩
theorem zero72 (w : World) : (zeroValue 72).run Try.prog w = .ok (.agg #[.pointer none, .pointer none, .pointer none, .pointer none, .pointer none, .pointer none]) w := by kernel_rfl
theorem eqp (w : World) (x : Option Nat) : (Op.equalIn 9999 70 (pv x) (.pointer none)).run Try.prog w = .ok (decide (x = none)) w := by
  cases x with
  | none => kernel_rfl
  | some a => kernel_rfl
theorem part6 (w : World) (v0 v1 v2 v3 v4 v5 : Value) : (part 70 #[v0, v1, v2, v3, v4, v5] 0).run Try.prog w = .ok v0 w ∧ (part 70 #[v0, v1, v2, v3, v4, v5] 1).run Try.prog w = .ok v1 w ∧ (part 70 #[v0, v1, v2, v3, v4, v5] 2).run Try.prog w = .ok v2 w ∧ (part 70 #[v0, v1, v2, v3, v4, v5] 3).run Try.prog w = .ok v3 w ∧ (part 70 #[v0, v1, v2, v3, v4, v5] 4).run Try.prog w = .ok v4 w ∧ (part 70 #[v0, v1, v2, v3, v4, v5] 5).run Try.prog w = .ok v5 w := ⟨by kernel_rfl, by kernel_rfl, by kernel_rfl, by kernel_rfl, by kernel_rfl, by kernel_rfl⟩
theorem eqR6 (w : World) (a0 a1 a2 a3 a4 a5 : Option Nat) : (Op.equalIn 10000 72 (.agg #[pv a0, pv a1, pv a2, pv a3, pv a4, pv a5]) (.agg #[.pointer none, .pointer none, .pointer none, .pointer none, .pointer none, .pointer none])).run Try.prog w = .ok (decide (a0 = none ∧ a1 = none ∧ a2 = none ∧ a3 = none ∧ a4 = none ∧ a5 = none)) w := by
  obtain ⟨i, hi⟩ := info70
  have hc : Try.prog.cellsOf 70 = 1 := by kernel_rfl
  obtain ⟨p0, p1, p2, p3, p4, p5⟩ := part6 w (pv a0) (pv a1) (pv a2) (pv a3) (pv a4) (pv a5)
  obtain ⟨z0, z1, z2, z3, z4, z5⟩ := part6 w (.pointer none) (.pointer none) (.pointer none) (.pointer none) (.pointer none) (.pointer none)
  rw [run_equalIn_array (P := Try.prog) (w := w) 9999 _ _ under72 hi, hc, show List.range 6 = [0, 1, 2, 3, 4, 5] from rfl]
  cases a0 <;> cases a1 <;> cases a2 <;> cases a3 <;> cases a4 <;> cases a5 <;> simp [Op.eqItems, p0, p1, p2, p3, p4, p5, z0, z1, z2, z3, z4, z5, eqp, Result.andThen]
theorem pv_one (x : Option Nat) : (pv x).oneCell' = true := by cases x <;> rfl
def forkT (A : Tab) (r q : Nat) : Tab := fun r' g => if r' = q then A r g else A r' g
theorem Tg.row6 {w : World} {t : Nat} {A : Tab} {V : Nat → Op4} {r q : Nat} (h : Tg w t A V) (hr : r < 6) (hq : q < 6) (hrq : r ≠ q) : Tg ((((((w.setCell ⟨t, q * 6, none⟩ (pv (A r 0))).setCell ⟨t, q * 6 + 1, none⟩ (pv (A r 1))).setCell ⟨t, q * 6 + 2, none⟩ (pv (A r 2))).setCell ⟨t, q * 6 + 3, none⟩ (pv (A r 3))).setCell ⟨t, q * 6 + 4, none⟩ (pv (A r 4))).setCell ⟨t, q * 6 + 5, none⟩ (pv (A r 5))) t (forkT A r q) V := by
  have step : ∀ (i : Nat) (W : World) (B : Tab), i < 6 → Tg W t B V → (∀ g, g < 6 → B r g = A r g) → Tg (W.setCell ⟨t, q * 6 + i, none⟩ (pv (A r i))) t (upd B q i (A r i)) V ∧ ∀ g, g < 6 → upd B q i (A r i) r g = A r g := fun i W B hi hB hg => by
    refine ⟨hB.set q i hq hi (A r i) fun a ha => hB.obj r i a hr hi (by rw [hg i hi]; exact ha), fun g hgl => ?_⟩
    rw [upd_other fun hc => hrq hc.1]
    exact hg g hgl
  obtain ⟨t0, g0⟩ := step 0 w A (by omega) h fun _ _ => rfl
  obtain ⟨t1, g1⟩ := step 1 _ _ (by omega) t0 g0
  obtain ⟨t2, g2⟩ := step 2 _ _ (by omega) t1 g1
  obtain ⟨t3, g3⟩ := step 3 _ _ (by omega) t2 g2
  obtain ⟨t4, g4⟩ := step 4 _ _ (by omega) t3 g3
  obtain ⟨t5, _⟩ := step 5 _ _ (by omega) t4 g4
  refine t5.ext fun r' g hr' hg => ?_
  unfold forkT upd
  by_cases e : r' = q
  · subst e
    rw [if_pos rfl]
    have hg6 : g = 0 ∨ g = 1 ∨ g = 2 ∨ g = 3 ∨ g = 4 ∨ g = 5 := by omega
    rcases hg6 with rfl | rfl | rfl | rfl | rfl | rfl <;> simp
  · rw [if_neg e, if_neg fun h => e h.1, if_neg fun h => e h.1, if_neg fun h => e h.1, if_neg fun h => e h.1, if_neg fun h => e h.1, if_neg fun h => e h.1]
set_option maxRecDepth 100000 in
set_option maxHeartbeats 1600000 in
theorem fork_arg (w : World) (v : Value) (p c : Int) (h : ¬ (1 ≤ p ∧ p ≤ 6 ∧ 1 ≤ c ∧ c ≤ 6 ∧ p ≠ c)) : Calls Try.prog 26 #[v, i64 p, i64 c] w fun e w' => e = .returned (i64 1) ∧ w' = w := by
  have HC := hid (proc_ok w p)
  have HD := hid (proc_ok w c)
  by_cases hp : 1 ≤ p ∧ p ≤ 6
  · rw [decide_eq_true hp] at HC
    by_cases hc : 1 ≤ c ∧ c ≤ 6
    · rw [decide_eq_true hc] at HD
      have hq : (p == c) = true := beq_iff_eq.2 (by omega)
      clear h hp hc
      go_enter Try.func26, Try.ntmps26
      go_wp2_with fail
      refine HC.out.mono ?_
      rintro e2 w2 ⟨rfl, hv⟩
      replace hv := hv.symm
      subst hv
      go_wp2_with fail
      refine HD.out.mono ?_
      rintro e2 w2 ⟨rfl, hv⟩
      replace hv := hv.symm
      subst hv
      clear HC HD
      go_wp2_with fail
      go_ret
      exact ⟨rfl, rfl⟩
    · rw [decide_eq_false hc] at HD
      clear h hp hc
      go_enter Try.func26, Try.ntmps26
      go_wp2_with fail
      refine HC.out.mono ?_
      rintro e2 w2 ⟨rfl, hv⟩
      replace hv := hv.symm
      subst hv
      go_wp2_with fail
      refine HD.out.mono ?_
      rintro e2 w2 ⟨rfl, hv⟩
      replace hv := hv.symm
      subst hv
      clear HC HD
      go_wp2_with fail
      go_ret
      exact ⟨rfl, rfl⟩
  · rw [decide_eq_false hp] at HC
    clear h hp HD
    go_enter Try.func26, Try.ntmps26
    go_wp2_with fail
    refine HC.out.mono ?_
    rintro e2 w2 ⟨rfl, hv⟩
    replace hv := hv.symm
    subst hv
    clear HC
    go_wp2_with fail
    go_ret
    exact ⟨rfl, rfl⟩
set_option maxRecDepth 100000 in
set_option maxHeartbeats 1600000 in
theorem fork_st (w : World) (t r q : Nat) (A : Tab) (V : Nat → Op4) (h : Tg w t A V) (hr : r < 6) (hq : q < 6) (hrq : r ≠ q) (hc : ¬ ∀ g, g < 6 → A q g = none) : Calls Try.prog 26 #[pq t, i64 ((r : Int) + 1), i64 ((q : Int) + 1)] w fun e w' => e = .returned (i64 7) ∧ w' = w := by
  have HC := hid (proc_ok w ((r : Int) + 1))
  have HD := hid (proc_ok w ((q : Int) + 1))
  rw [decide_eq_true (show 1 ≤ (r : Int) + 1 ∧ (r : Int) + 1 ≤ 6 by omega)] at HC
  rw [decide_eq_true (show 1 ≤ (q : Int) + 1 ∧ (q : Int) + 1 ≤ 6 by omega)] at HD
  have hqq : ((r : Int) + 1 == (q : Int) + 1) = false := beq_false_of_ne (by omega)
  have hz := fun W => zero72 W
  have heq := fun W => eqR6 W (A q 0) (A q 1) (A q 2) (A q 3) (A q 4) (A q 5)
  have c0 : w.cell? ⟨t, q * 6, none⟩ = some (pv (A q 0)) := h.cell q 0 hq (by omega)
  have c1 := h.cell q 1 hq (by omega)
  have c2 := h.cell q 2 hq (by omega)
  have c3 := h.cell q 3 hq (by omega)
  have c4 := h.cell q 4 hq (by omega)
  have c5 := h.cell q 5 hq (by omega)
  have ht := h.lt
  rw [decide_eq_false (show ¬ (A q 0 = none ∧ A q 1 = none ∧ A q 2 = none ∧ A q 3 = none ∧ A q 4 = none ∧ A q 5 = none) from fun ⟨h0, h1, h2, h3, h4, h5⟩ => hc fun g hg => by
    have hg6 : g = 0 ∨ g = 1 ∨ g = 2 ∨ g = 3 ∨ g = 4 ∨ g = 5 := by omega
    rcases hg6 with rfl | rfl | rfl | rfl | rfl | rfl <;> assumption)] at heq
  clear h hc hrq
  go_enter Try.func26, Try.ntmps26
  go_wp2_with fail
  refine HC.out.mono ?_
  rintro e2 w2 ⟨rfl, hv⟩
  replace hv := hv.symm
  subst hv
  go_wp2_with fail
  refine HD.out.mono ?_
  rintro e2 w2 ⟨rfl, hv⟩
  replace hv := hv.symm
  subst hv
  clear HC HD
  go_wp2_with fail
  go_ret
  exact ⟨rfl, rfl⟩
set_option maxRecDepth 100000 in
set_option maxHeartbeats 1600000 in
theorem fork_yes (w : World) (t r q : Nat) (A : Tab) (V : Nat → Op4) (h : Tg w t A V) (hr : r < 6) (hq : q < 6) (hrq : r ≠ q) (hc : ∀ g, g < 6 → A q g = none) : Calls Try.prog 26 #[pq t, i64 ((r : Int) + 1), i64 ((q : Int) + 1)] w fun e w' => e = .returned (i64 0) ∧ Tg w' t (forkT A r q) V ∧ Touch t w w' := by
  have HC := hid (proc_ok w ((r : Int) + 1))
  have HD := hid (proc_ok w ((q : Int) + 1))
  rw [decide_eq_true (show 1 ≤ (r : Int) + 1 ∧ (r : Int) + 1 ≤ 6 by omega)] at HC
  rw [decide_eq_true (show 1 ≤ (q : Int) + 1 ∧ (q : Int) + 1 ≤ 6 by omega)] at HD
  have hqq : ((r : Int) + 1 == (q : Int) + 1) = false := beq_false_of_ne (by omega)
  have hz := fun W => zero72 W
  have heq := fun W => eqR6 W (A q 0) (A q 1) (A q 2) (A q 3) (A q 4) (A q 5)
  have c0 : w.cell? ⟨t, q * 6, none⟩ = some (pv (A q 0)) := h.cell q 0 hq (by omega)
  have c1 := h.cell q 1 hq (by omega)
  have c2 := h.cell q 2 hq (by omega)
  have c3 := h.cell q 3 hq (by omega)
  have c4 := h.cell q 4 hq (by omega)
  have c5 := h.cell q 5 hq (by omega)
  have ht := h.lt
  rw [decide_eq_true (show A q 0 = none ∧ A q 1 = none ∧ A q 2 = none ∧ A q 3 = none ∧ A q 4 = none ∧ A q 5 = none from ⟨hc 0 (by omega), hc 1 (by omega), hc 2 (by omega), hc 3 (by omega), hc 4 (by omega), hc 5 (by omega)⟩)] at heq
  have HS : Hid (Tg w.drew t A V) := h.drew
  have HW := hid (HS.out.row6 hr hq hrq)
  have hfz := HS.out.frz
  have HO : Hid (Touch t w ((((((w.drew.setCell ⟨t, q * 6, none⟩ (pv (A r 0))).setCell ⟨t, q * 6 + 1, none⟩ (pv (A r 1))).setCell ⟨t, q * 6 + 2, none⟩ (pv (A r 2))).setCell ⟨t, q * 6 + 3, none⟩ (pv (A r 3))).setCell ⟨t, q * 6 + 4, none⟩ (pv (A r 4))).setCell ⟨t, q * 6 + 5, none⟩ (pv (A r 5)))) := ((((((Touch.refl t w).drew.setCell (p := ⟨t, q * 6, none⟩) rfl _).setCell (p := ⟨t, q * 6 + 1, none⟩) rfl _).setCell (p := ⟨t, q * 6 + 2, none⟩) rfl _).setCell (p := ⟨t, q * 6 + 3, none⟩) rfl _).setCell (p := ⟨t, q * 6 + 4, none⟩) rfl _).setCell (p := ⟨t, q * 6 + 5, none⟩) rfl _
  have hw1 : IntKind.i64.wrap (r : Int) = (r : Int) := wrap_id (by omega) (by omega)
  have hw2 : IntKind.i64.wrap (q : Int) = (q : Int) := wrap_id (by omega) (by omega)
  have HTh : Hid (w.drew.there t (q * 6) 6) := fun j hj => by
    have h1 := HS.out.cell q j hq (by omega)
    exact ⟨by rw [h1]; rfl, HS.out.frz _⟩
  have HIn : Hid ((Try.prog.info? 72).map (·.size) = some 6) := by
    show _ = _
    kernel_rfl
  have HOn := hid (all_oneCell_toArray (cs := [pv (A r 0), pv (A r 1), pv (A r 2), pv (A r 3), pv (A r 4), pv (A r 5)]) (fun u hu => by
    simp only [List.mem_cons, List.not_mem_nil, or_false] at hu
    rcases hu with rfl | rfl | rfl | rfl | rfl | rfl <;> exact pv_one _))
  clear h hc hrq
  go_enter Try.func26, Try.ntmps26
  go_wp2_with fail
  refine HC.out.mono ?_
  rintro e2 w2 ⟨rfl, hv⟩
  replace hv := hv.symm
  subst hv
  go_wp2_with fail
  refine HD.out.mono ?_
  rintro e2 w2 ⟨rfl, hv⟩
  replace hv := hv.symm
  subst hv
  clear HC HD
  go_upto_region 5 with fail
  have d0 : w.drew.cell? ⟨t, q * 6, none⟩ = some (pv (A q 0)) := c0
  have d1 : w.drew.cell? ⟨t, q * 6 + 1, none⟩ = some (pv (A q 1)) := c1
  have d2 : w.drew.cell? ⟨t, q * 6 + 2, none⟩ = some (pv (A q 2)) := c2
  have d3 : w.drew.cell? ⟨t, q * 6 + 3, none⟩ = some (pv (A q 3)) := c3
  have d4 : w.drew.cell? ⟨t, q * 6 + 4, none⟩ = some (pv (A q 4)) := c4
  have d5 : w.drew.cell? ⟨t, q * 6 + 5, none⟩ = some (pv (A q 5)) := c5
  refine wp_region_noPanic ?_
  refine wp_region_last (fun W : World => Tg W t A V) 13 (by kernel_rfl) ?_
  refine wpL_take 0 33 (pq t) [] rfl rfl (by kernel_rfl) (by decide) (by kernel_rfl) (by kernel_rfl) (by kernel_rfl) (fun _ _ _ h => h) HS.out (by rfl) (fun W hW => by go_simp) ?_
  simp only [Act.put, List.setIfInBounds_toArray, List.set_cons_zero, List.set_cons_succ]
  refine wpL_take 1 34 (i64 ((q : Int) + 1)) [] rfl rfl (by kernel_rfl) (by decide) (by kernel_rfl) (by kernel_rfl) (by kernel_rfl) (fun _ _ _ h => h) HS.out (by rfl) (fun W hW => by go_simp) ?_
  simp only [Act.put, List.setIfInBounds_toArray, List.set_cons_zero, List.set_cons_succ]
  refine wpL_take 2 35 (i64 q) [] rfl rfl (by kernel_rfl) (by decide) (by kernel_rfl) (by kernel_rfl) (by kernel_rfl) (fun _ _ _ h => h) HS.out (by rfl) (fun W hW => by go_simp) ?_
  simp only [Act.put, List.setIfInBounds_toArray, List.set_cons_zero, List.set_cons_succ]
  refine wpL_take 3 36 (pq t) [] rfl rfl (by kernel_rfl) (by decide) (by kernel_rfl) (by kernel_rfl) (by kernel_rfl) (fun _ _ _ h => h) HS.out (by rfl) (fun W hW => by go_simp) ?_
  simp only [Act.put, List.setIfInBounds_toArray, List.set_cons_zero, List.set_cons_succ]
  refine wpL_take 4 37 (i64 ((r : Int) + 1)) [] rfl rfl (by kernel_rfl) (by decide) (by kernel_rfl) (by kernel_rfl) (by kernel_rfl) (fun _ _ _ h => h) HS.out (by rfl) (fun W hW => by go_simp) ?_
  simp only [Act.put, List.setIfInBounds_toArray, List.set_cons_zero, List.set_cons_succ]
  refine wpL_take 5 38 (i64 r) [] rfl rfl (by kernel_rfl) (by decide) (by kernel_rfl) (by kernel_rfl) (by kernel_rfl) (fun _ _ _ h => h) HS.out (by rfl) (fun W hW => by go_simp) ?_
  simp only [Act.put, List.setIfInBounds_toArray, List.set_cons_zero, List.set_cons_succ]
  refine wpL_take 6 39 (pq t) [] rfl rfl (by kernel_rfl) (by decide) (by kernel_rfl) (by kernel_rfl) (by kernel_rfl) (fun _ _ _ h => h) HS.out (by rfl) (fun W hW => by go_simp) ?_
  simp only [Act.put, List.setIfInBounds_toArray, List.set_cons_zero, List.set_cons_succ]
  refine wpL_take 7 40 (pq t) [] rfl rfl (by kernel_rfl) (by decide) (by kernel_rfl) (by kernel_rfl) (by kernel_rfl) (fun _ _ _ h => h) HS.out (by rfl) (fun W hW => by go_simp) ?_
  simp only [Act.put, List.setIfInBounds_toArray, List.set_cons_zero, List.set_cons_succ]
  refine wpL_take 8 41 (.pointer (some ⟨t, r * 6, none⟩)) [] rfl rfl (by kernel_rfl) (by decide) (by kernel_rfl) (by kernel_rfl) (by kernel_rfl) (fun _ _ _ h => h) HS.out (by rfl) (fun W hW => by go_simp; intro h6; omega) ?_
  simp only [Act.put, List.setIfInBounds_toArray, List.set_cons_zero, List.set_cons_succ]
  refine wpL_take 9 42 (.agg #[pv (A r 0), pv (A r 1), pv (A r 2), pv (A r 3), pv (A r 4), pv (A r 5)]) [] rfl rfl (by kernel_rfl) (by decide) (by kernel_rfl) (by kernel_rfl) (by kernel_rfl) (fun _ _ _ h => h) HS.out (by rfl) (fun W hW => by have c0 : W.cell? ⟨t, r * 6, none⟩ = some (pv (A r 0)) := hW.cell r 0 hr (by omega); have c1 := hW.cell r 1 hr (by omega); have c2 := hW.cell r 2 hr (by omega); have c3 := hW.cell r 3 hr (by omega); have c4 := hW.cell r 4 hr (by omega); have c5 := hW.cell r 5 hr (by omega); go_simp) ?_
  simp only [Act.put, List.setIfInBounds_toArray, List.set_cons_zero, List.set_cons_succ]
  refine wpL_take 10 43 (pq t) [11, 12] rfl rfl (by kernel_rfl) (by decide) (by kernel_rfl) (by kernel_rfl) (by kernel_rfl) (fun _ _ _ h => h) HS.out (by rfl) (fun W hW => by go_simp) ?_
  simp only [Act.put, List.setIfInBounds_toArray, List.set_cons_zero, List.set_cons_succ]
  refine wpL_take 11 44 (pq t) [12] rfl rfl (by kernel_rfl) (by decide) (by kernel_rfl) (by kernel_rfl) (by kernel_rfl) (fun _ _ _ h => h) HS.out (by rfl) (fun W hW => by go_simp) ?_
  simp only [Act.put, List.setIfInBounds_toArray, List.set_cons_zero, List.set_cons_succ]
  refine wpL_take 12 45 (.pointer (some ⟨t, q * 6, none⟩)) [] rfl rfl (by kernel_rfl) (by decide) (by kernel_rfl) (by kernel_rfl) (by kernel_rfl) (fun _ _ _ h => h) HS.out (by rfl) (fun W hW => by go_simp; intro h6; omega) ?_
  simp only [Act.put, List.setIfInBounds_toArray, List.set_cons_zero, List.set_cons_succ]
  refine wpL_one 13 rfl (by kernel_rfl) (by rfl) (fun K hK => ?_)
  refine wp_store_mid 72 (.tmp 45) (.tmp 42) rfl t (q * 6) #[pv (A r 0), pv (A r 1), pv (A r 2), pv (A r 3), pv (A r 4), pv (A r 5)] rfl rfl HTh.out HIn.out HOn.out ?_
  refine hK.out _ _ (fun h => absurd rfl h) ?_
  clear hK K
  refine wpL_done (by kernel_rfl) ?_
  refine NoPanic.normal ?_
  go_wp2_with fail
  go_ret
  exact ⟨rfl, HW.out, HO.out⟩
end Go.Proofs.Ytaapiffglfppnaa
