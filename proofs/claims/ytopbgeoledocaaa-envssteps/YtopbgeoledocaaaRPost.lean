/- imagoref13.Table's Post, where it is there; no statement is proved in this text. -/
import Derived.Test.YtopbgeoledocaaaRPost0
namespace Go.Proofs.Ytopbgeoledocaaa
open Go.ChangeShapes Go.WideShapes Go.ChangeAt Go.RowKit Go.Deep
attribute [local go_sem ↓] Go.wp_at_zero Go.wp_at_succ

structure Sp10 (r X : Nat) (lv a b c d e : Value) (W : World) : Prop where
  l : W.cell? ⟨r, 0, none⟩ = some lv
  x0 : W.cell? ⟨X, 0, none⟩ = some a
  x1 : W.cell? ⟨X, 1, none⟩ = some b
  x2 : W.cell? ⟨X, 2, none⟩ = some c
  x3 : W.cell? ⟨X, 3, none⟩ = some d
  x4 : W.cell? ⟨X, 4, none⟩ = some e
set_option maxRecDepth 100000 in
set_option maxHeartbeats 3200000 in
theorem rpost_in {w : World} {base r : Nat} {L : List Rn} (h : Rb w base r L) (hl : L.length ≤ 3) (n kd x : Int) (k : Nat) (p : Rn) (hp : L[k]? = some p) (hi : atI L n = k) (hk : 1 ≤ kd ∧ kd ≤ 3) (hal : p.all.length ≤ 1000) (hfr : 0 ≤ p.fr ∧ p.fr ≤ 1000) (h4 : ¬ 4 < (p.all.length : Int) + 1 - p.fr) :
    Calls Try.prog 25 #[pq r, i64 n, .agg #[i64 kd, i64 x]] w fun e w' => e = .returned (i64 0) ∧ (∃ v2, Rb w' base r (L.set k { p with v := v2, all := p.all ++ [(kd, x)], fr := p.fr })) ∧ Fr base [29, 41, 60] w w' := by
  have HA := rat_ok (h.below (below_one w (ruO kd x))) hl n
  rw [hi] at HA
  have HA := hid HA
  have HB : Hid (Below w.heap.size w (w.alloc (ruO kd x))) := below_one w _
  have HX : Hid ((w.alloc (ruO kd x)).heap[w.heap.size]? = some (ruO kd x)) := heap_last w _
  have HR : Hid (Rb (w.alloc (ruO kd x)) base r L) := h.below (below_one w _)
  have HP := hid hp
  have hkL : k < L.length := (List.getElem?_eq_some_iff.1 hp).1
  have hlo : base ≤ w.heap.size := by have := h.lt; have := h.lo; omega
  have hrw : r < w.heap.size := h.lt
  have g1 : ¬ kd < 1 := by omega
  have g3 : ¬ 3 < kd := by omega
  obtain ⟨f0, f1⟩ := hfr
  have HLo := hid h.lo
  clear h hi hp hk
  go_enter Try.func25, Try.ntmps25
  go_wp2_with fail
  refine HA.out.mono ?_
  rintro e w1 ⟨rfl, hb1⟩
  have hX1 := blk_below HX.out hb1
  have hB1 : Below w.heap.size w w1 := HB.out.trans (hb1.mono HB.out.size)
  have hR1 := HR.out.below hb1
  have hw1 : w.heap.size < w1.heap.size := blk_lt hX1
  obtain ⟨ao, cap, hbk, _, hcap, hrow⟩ := hR1.row
  obtain ⟨g, rfl, hbg, hgl, hgr, hfz, hc⟩ := hrow k p HP.out
  have hpo := hR1.all k p HP.out
  obtain ⟨aoA, capA, hpv, _⟩ := own_slice hpo
  -- the copy x, and the append
  have hR2 := hR1.below (below_one w1 (rnO p))
  have hpo2 := hR2.all k p HP.out
  obtain ⟨ao2, cap2, w2, hrun, hown2, hfr2, hoth2, hbl2⟩ := app_far (te := 60) under39 info60x rfl (by omega) (by omega) hpo2 [i64 kd, i64 x] rfl (fun u hu => by
    simp only [List.mem_cons, List.not_mem_nil, or_false] at hu
    rcases hu with rfl | rfl <;> rfl) (by omega) (by simp; omega)
  have hx2 : w2.heap[w1.heap.size]? = some (rnO p) := hfr2.kept _ _ (heap_last w1 _) (by rfl)
  have hbk2 : w2.heap[r]? = some (.cells #[.slice (some ⟨g, 0, none⟩) L.length cap] 29) := hfr2.kept _ _ (blk_alloc hbk _) (by rfl)
  have HRun : Hid ((Builtin.append_ #[39, 39] 39 #[.slice aoA p.all.length capA, .slice (some ⟨w1.heap.size + 1, 0, none⟩) 1 1]).run Try.prog ((w1.alloc (.cells #[i64 p.n, i64 p.ver, .slice aoA p.all.length capA, i64 p.fr, i64 p.tk] 41)).alloc (.cells #[i64 kd, i64 x] 60)) = .ok (.slice ao2 (p.all.length + 1) cap2) w2) := by
    have := hrun
    rw [show (w1.alloc (rnO p)).heap.size = w1.heap.size + 1 by simp] at this
    simp only [rnO] at this
    rw [hpv] at this
    exact this
  -- the world behind the fields of x
  have hx3 : (w2.setCell ⟨w1.heap.size, 2, none⟩ (.slice ao2 (p.all.length + 1) cap2)).heap[w1.heap.size]? = some (.cells #[i64 p.n, i64 p.ver, (.slice ao2 (p.all.length + 1) cap2), i64 p.fr, i64 p.tk] 41) := heap_setCell_same w2 _ 2 _ 41 _ hx2
  have hx4 := hx3
  have hYo : ∀ j, j ≠ w1.heap.size → (w2.setCell ⟨w1.heap.size, 2, none⟩ (.slice ao2 (p.all.length + 1) cap2)).heap[j]? = w2.heap[j]? := fun j hj => by rw [Below.heap_setCell _ _ _ _ hj]
  obtain ⟨Y, hY⟩ : ∃ Y, Y = w2.setCell ⟨w1.heap.size, 2, none⟩ (.slice ao2 (p.all.length + 1) cap2) := ⟨_, rfl⟩
  rw [← hY] at hx4 hYo
  have hYt : Below w1.heap.size w2 Y := by rw [hY]; exact (Below.refl w1.heap.size w2).setCell (p := ⟨w1.heap.size, 2, none⟩) (Nat.le_refl _) _
  have hbkY : Y.heap[r]? = some (.cells #[.slice (some ⟨g, 0, none⟩) L.length cap] 29) := by rw [hYo r (by omega)]; exact hbk2
  have hfull := hR1.full (w2 := Y) (p' := { p with v := .slice ao2 (p.all.length + 1) cap2, all := p.all ++ [(kd, x)], fr := p.fr }) hbk HP.out (fun j C t hj ht => by
      rw [hYo j (by have := blk_lt hj; omega)]
      exact hfr2.kept _ _ (blk_alloc hj _) (by rcases ht with rfl | rfl <;> rfl)) (fun j hj hne => by
      rw [hYo j (by omega), hoth2 j (by simp; omega) hne]
      exact Below.heap_alloc _ _ _ hj) (by
      have := hown2
      rw [show p.all.length + 1 = (p.all ++ [(kd, x)]).length by simp, show ucn p.all ++ [i64 kd, i64 x] = ucn (p.all ++ [(kd, x)]) by simp [ucn]] at this
      refine own_keep (by simpa using this) (fun j C hC => ?_)
      rw [hYo j (fun e => by rw [e, hx2] at hC; simp at hC)]
      exact hC) (by
      rcases hbl2 with hb | hb
      · exact .inl hb
      · exact .inr ⟨(w1.alloc (rnO p)).heap.size + 1, by simp; omega, hb⟩)
  obtain ⟨hfin, C41, hC41, _⟩ := hfull
  have hfrY : Fr base [29, 41, 60] w Y := by
    have e1 : Fr base [29, 41, 60] w w2 := (Fr.of_below _ (hB1.alloc hB1.size _) hlo).trans (hfr2.mono (fun o ho => by
      cases o with
      | cells C t fr => simp [keeps] at ho ⊢; exact ho.2.2
      | _ => rfl))
    refine ⟨e1.below.trans (hYt.mono (by omega)), fun j o hj ho => ?_⟩
    rw [hYo j (by have := blk_lt hj; omega)]
    exact e1.kept j o hj ho
  have HF : Hid (Rb (set5 Y g (k * 5) (i64 p.n) (i64 p.ver) (.slice ao2 (p.all.length + 1) cap2) (i64 p.fr) (i64 p.tk)) base r (L.set k { p with v := .slice ao2 (p.all.length + 1) cap2, all := p.all ++ [(kd, x)], fr := p.fr }) ∧ Fr base [29, 41, 60] w (set5 Y g (k * 5) (i64 p.n) (i64 p.ver) (.slice ao2 (p.all.length + 1) cap2) (i64 p.fr) (i64 p.tk))) := ⟨hfin, hfrY.trans (Fr.of_touch (((((((Touch.refl g Y).setCell rfl _).setCell rfl _).setCell rfl _).setCell rfl _).setCell rfl _)) hC41 (by rfl) hbg)⟩
  have b0 : w1.cell? ⟨r, 0, none⟩ = some (.slice (some ⟨g, 0, none⟩) L.length cap) := blk_cell hbk 0
  have c0 : w1.cell? ⟨g, k * 5, none⟩ = some (i64 p.n) := hc 0 (by omega)
  have c1 : w1.cell? ⟨g, k * 5 + 1, none⟩ = some (i64 p.ver) := hc 1 (by omega)
  have c2 : w1.cell? ⟨g, k * 5 + 2, none⟩ = some p.v := hc 2 (by omega)
  have c3 : w1.cell? ⟨g, k * 5 + 3, none⟩ = some (i64 p.fr) := hc 3 (by omega)
  have c4 : w1.cell? ⟨g, k * 5 + 4, none⟩ = some (i64 p.tk) := hc 4 (by omega)
  have x0 : w1.cell? ⟨w.heap.size, 0, none⟩ = some (i64 kd) := blk_cell hX1 0
  have x1 : w1.cell? ⟨w.heap.size, 1, none⟩ = some (i64 x) := blk_cell hX1 1
  have q2 : w2.cell? ⟨w1.heap.size, 2, none⟩ = some p.v := blk_cell hx2 2
  have q2f : ∀ j, w2.frozen? ⟨w1.heap.size, j, none⟩ = false := blk_frozen hx2
  have HX3 := hid hx3
  have HX4 := hid hx4
  have HYe := hid hY
  have HBY := hid hbkY
  have gY : ∀ j, j < 5 → (Y.cell? ⟨g, k * 5 + j, none⟩).isSome = true := fun j hj => by
    rw [show Y.cell? ⟨g, k * 5 + j, none⟩ = w1.cell? ⟨g, k * 5 + j, none⟩ from World.cell?_of_block (w := w1) (by
      show Y.heap[g]? = w1.heap[g]?
      rw [hYo g (by omega)]
      obtain ⟨C, hC, _⟩ : ∃ C, w1.heap[g]? = some (.cells C 41) ∧ True := by
        obtain ⟨v0, q1, q2⟩ := hR1.own
        rw [hbk] at q1
        cases q1
        rcases q2.2 with ⟨hn, _⟩ | ⟨g', cap', cur, he, _, hgg, _⟩
        · simp at hn
        · simp only [Value.slice.injEq, Option.some.injEq, Addr.mk.injEq] at he
          obtain ⟨⟨rfl, _⟩, _, _⟩ := he
          exact ⟨cur, hgg, trivial⟩
      rw [hC]
      exact hfr2.kept _ _ (blk_alloc hC _) (by rfl)), hc j hj]
    rcases (show j = 0 ∨ j = 1 ∨ j = 2 ∨ j = 3 ∨ j = 4 by omega) with rfl | rfl | rfl | rfl | rfl <;> rfl
  have gF : ∀ j, Y.frozen? ⟨g, j, none⟩ = false := blk_frozen hC41
  have HGY := hid gY
  have HGF := hid gF
  rw [hpv] at c2 q2
  have hkI : (k : Int) < L.length := by omega
  have hNI : (L.length : Int) ≤ 3 := by omega
  have hmI : (p.all.length : Int) ≤ 1000 := by omega
  have hsm : w.heap.size < w1.heap.size := hw1
  clear hb1 hrow hc hbk hR1 hR2 hpo hpo2 hrun hown2 hfr2 hoth2 hbl2 hx2 hbk2 hx3 hx4 hYo hfin hfrY hC41 hbkY gY gF hX1 hB1 hpv hY hYt
  generalize hM : p.all.length = M at *
  generalize hNN : L.length = NN at *
  have HM := hid hM
  clear hM hNN
  have u3 : (w2.setCell ⟨w1.heap.size, 2, none⟩ (.slice ao2 (M + 1) cap2)).cell? ⟨w1.heap.size, 3, none⟩ = some (i64 p.fr) := blk_cell HX3.out 3
  have u2 : (w2.setCell ⟨w1.heap.size, 2, none⟩ (.slice ao2 (M + 1) cap2)).cell? ⟨w1.heap.size, 2, none⟩ = some (.slice ao2 (M + 1) cap2) := blk_cell HX3.out 2
  have uf : ∀ j, (w2.setCell ⟨w1.heap.size, 2, none⟩ (.slice ao2 (M + 1) cap2)).frozen? ⟨w1.heap.size, j, none⟩ = false := blk_frozen HX3.out
  go_upto_region 8 with (at_builtin; refine wpList_app_run rfl (.tmp 30) (.tmp 32) 39 rfl _ _ rfl rfl 39 rfl _ _ HRun.out ?_)
  generalize hU : w2.setCell ⟨w1.heap.size, 2, none⟩ (.slice ao2 (M + 1) cap2) = U at *
  have HU := hid hU
  clear hU
  go_upto_region 10 with fail
  rw [← HYe.out]
  have HS : Hid (Sp10 r w1.heap.size (.slice (some ⟨g, 0, none⟩) NN cap) (i64 p.n) (i64 p.ver) (.slice ao2 (M + 1) cap2) (i64 p.fr) (i64 p.tk) Y.drew) := ⟨blk_cell HBY.out 0, blk_cell HX4.out 0, blk_cell HX4.out 1, blk_cell HX4.out 2, blk_cell HX4.out 3, blk_cell HX4.out 4⟩
  refine wp_region_noPanic ?_
  refine wp_region_last (Sp10 r w1.heap.size (.slice (some ⟨g, 0, none⟩) NN cap) (i64 p.n) (i64 p.ver) (.slice ao2 (M + 1) cap2) (i64 p.fr) (i64 p.tk)) 7 (by kernel_rfl) ?_
  refine wpL_take 0 46 (pq r) [] rfl rfl (by kernel_rfl) (by decide) (by kernel_rfl) (by kernel_rfl) (by kernel_rfl) (fun _ _ _ h => h) HS.out (by rfl) (fun W hW => by obtain ⟨a0, a1, a2, a3, a4, a5⟩ := hW; go_simp) ?_
  simp only [Act.put, List.setIfInBounds_toArray, List.set_cons_zero, List.set_cons_succ]
  refine wpL_take 1 47 (pq r) [] rfl rfl (by kernel_rfl) (by decide) (by kernel_rfl) (by kernel_rfl) (by kernel_rfl) (fun _ _ _ h => h) HS.out (by rfl) (fun W hW => by obtain ⟨a0, a1, a2, a3, a4, a5⟩ := hW; go_simp) ?_
  simp only [Act.put, List.setIfInBounds_toArray, List.set_cons_zero, List.set_cons_succ]
  refine wpL_take 2 48 (pq r) [] rfl rfl (by kernel_rfl) (by decide) (by kernel_rfl) (by kernel_rfl) (by kernel_rfl) (fun _ _ _ h => h) HS.out (by rfl) (fun W hW => by obtain ⟨a0, a1, a2, a3, a4, a5⟩ := hW; go_simp) ?_
  simp only [Act.put, List.setIfInBounds_toArray, List.set_cons_zero, List.set_cons_succ]
  refine wpL_take 3 49 (.slice (some ⟨g, 0, none⟩) NN cap) [] rfl rfl (by kernel_rfl) (by decide) (by kernel_rfl) (by kernel_rfl) (by kernel_rfl) (fun _ _ _ h => h) HS.out (by rfl) (fun W hW => by obtain ⟨a0, a1, a2, a3, a4, a5⟩ := hW; go_simp) ?_
  simp only [Act.put, List.setIfInBounds_toArray, List.set_cons_zero, List.set_cons_succ]
  refine wpL_take 4 50 (i64 k) [] rfl rfl (by kernel_rfl) (by decide) (by kernel_rfl) (by kernel_rfl) (by kernel_rfl) (fun _ _ _ h => h) HS.out (by rfl) (fun W hW => by obtain ⟨a0, a1, a2, a3, a4, a5⟩ := hW; go_simp) ?_
  simp only [Act.put, List.setIfInBounds_toArray, List.set_cons_zero, List.set_cons_succ]
  refine wpL_take 5 51 (.agg #[i64 p.n, i64 p.ver, .slice ao2 (M + 1) cap2, i64 p.fr, i64 p.tk]) [] rfl rfl (by kernel_rfl) (by decide) (by kernel_rfl) (by kernel_rfl) (by kernel_rfl) (fun _ _ _ h => h) HS.out (by rfl) (fun W hW => by obtain ⟨a0, a1, a2, a3, a4, a5⟩ := hW; go_simp) ?_
  simp only [Act.put, List.setIfInBounds_toArray, List.set_cons_zero, List.set_cons_succ]
  refine wpL_take 6 52 (.pointer (some ⟨g, k * 5, none⟩)) [] rfl rfl (by kernel_rfl) (by decide) (by kernel_rfl) (by kernel_rfl) (by kernel_rfl) (fun _ _ _ h => h) HS.out (by rfl) (fun W hW => by obtain ⟨a0, a1, a2, a3, a4, a5⟩ := hW; go_simp) ?_
  simp only [Act.put, List.setIfInBounds_toArray, List.set_cons_zero, List.set_cons_succ]
  obtain ⟨y0, hy0⟩ := Option.isSome_iff_exists.1 (HGY.out 0 (by omega))
  obtain ⟨y1, hy1⟩ := Option.isSome_iff_exists.1 (HGY.out 1 (by omega))
  obtain ⟨y2, hy2⟩ := Option.isSome_iff_exists.1 (HGY.out 2 (by omega))
  obtain ⟨y3, hy3⟩ := Option.isSome_iff_exists.1 (HGY.out 3 (by omega))
  obtain ⟨y4, hy4⟩ := Option.isSome_iff_exists.1 (HGY.out 4 (by omega))
  rw [Nat.add_zero] at hy0
  have gF := HGF.out
  refine wpL_one 7 rfl (by kernel_rfl) (by rfl) (fun K hK => ?_)
  go_simp
  refine hK.out _ _ (fun h => absurd rfl h) ?_
  clear hK K
  refine wpL_done (by kernel_rfl) ?_
  refine NoPanic.normal ?_
  have HF2 : Hid (Rb (set5 Y g (k * 5) (i64 p.n) (i64 p.ver) (.slice ao2 (M + 1) cap2) (i64 p.fr) (i64 p.tk)).drew base r (L.set k { p with v := .slice ao2 (M + 1) cap2, all := p.all ++ [(kd, x)], fr := p.fr }) ∧ Fr base [29, 41, 60] w (set5 Y g (k * 5) (i64 p.n) (i64 p.ver) (.slice ao2 (M + 1) cap2) (i64 p.fr) (i64 p.tk)).drew) := ⟨HF.out.1.drewN 1, HF.out.2.drewN 1⟩
  go_wp2_with fail
  go_ret
  exact ⟨rfl, ⟨_, HF2.out.1⟩, HF2.out.2⟩
set_option maxRecDepth 100000 in
set_option maxHeartbeats 3200000 in
theorem rpost_up {w : World} {base r : Nat} {L : List Rn} (h : Rb w base r L) (hl : L.length ≤ 3) (n kd x : Int) (k : Nat) (p : Rn) (hp : L[k]? = some p) (hi : atI L n = k) (hk : 1 ≤ kd ∧ kd ≤ 3) (hal : p.all.length ≤ 1000) (hfr : 0 ≤ p.fr ∧ p.fr ≤ 1000) (h4 : 4 < (p.all.length : Int) + 1 - p.fr) :
    Calls Try.prog 25 #[pq r, i64 n, .agg #[i64 kd, i64 x]] w fun e w' => e = .returned (i64 0) ∧ (∃ v2, Rb w' base r (L.set k { p with v := v2, all := p.all ++ [(kd, x)], fr := (p.fr + 1) })) ∧ Fr base [29, 41, 60] w w' := by
  have HA := rat_ok (h.below (below_one w (ruO kd x))) hl n
  rw [hi] at HA
  have HA := hid HA
  have HB : Hid (Below w.heap.size w (w.alloc (ruO kd x))) := below_one w _
  have HX : Hid ((w.alloc (ruO kd x)).heap[w.heap.size]? = some (ruO kd x)) := heap_last w _
  have HR : Hid (Rb (w.alloc (ruO kd x)) base r L) := h.below (below_one w _)
  have HP := hid hp
  have hkL : k < L.length := (List.getElem?_eq_some_iff.1 hp).1
  have hlo : base ≤ w.heap.size := by have := h.lt; have := h.lo; omega
  have hrw : r < w.heap.size := h.lt
  have g1 : ¬ kd < 1 := by omega
  have g3 : ¬ 3 < kd := by omega
  obtain ⟨f0, f1⟩ := hfr
  have HLo := hid h.lo
  clear h hi hp hk
  go_enter Try.func25, Try.ntmps25
  go_wp2_with fail
  refine HA.out.mono ?_
  rintro e w1 ⟨rfl, hb1⟩
  have hX1 := blk_below HX.out hb1
  have hB1 : Below w.heap.size w w1 := HB.out.trans (hb1.mono HB.out.size)
  have hR1 := HR.out.below hb1
  have hw1 : w.heap.size < w1.heap.size := blk_lt hX1
  obtain ⟨ao, cap, hbk, _, hcap, hrow⟩ := hR1.row
  obtain ⟨g, rfl, hbg, hgl, hgr, hfz, hc⟩ := hrow k p HP.out
  have hpo := hR1.all k p HP.out
  obtain ⟨aoA, capA, hpv, _⟩ := own_slice hpo
  -- the copy x, and the append
  have hR2 := hR1.below (below_one w1 (rnO p))
  have hpo2 := hR2.all k p HP.out
  obtain ⟨ao2, cap2, w2, hrun, hown2, hfr2, hoth2, hbl2⟩ := app_far (te := 60) under39 info60x rfl (by omega) (by omega) hpo2 [i64 kd, i64 x] rfl (fun u hu => by
    simp only [List.mem_cons, List.not_mem_nil, or_false] at hu
    rcases hu with rfl | rfl <;> rfl) (by omega) (by simp; omega)
  have hx2 : w2.heap[w1.heap.size]? = some (rnO p) := hfr2.kept _ _ (heap_last w1 _) (by rfl)
  have hbk2 : w2.heap[r]? = some (.cells #[.slice (some ⟨g, 0, none⟩) L.length cap] 29) := hfr2.kept _ _ (blk_alloc hbk _) (by rfl)
  have HRun : Hid ((Builtin.append_ #[39, 39] 39 #[.slice aoA p.all.length capA, .slice (some ⟨w1.heap.size + 1, 0, none⟩) 1 1]).run Try.prog ((w1.alloc (.cells #[i64 p.n, i64 p.ver, .slice aoA p.all.length capA, i64 p.fr, i64 p.tk] 41)).alloc (.cells #[i64 kd, i64 x] 60)) = .ok (.slice ao2 (p.all.length + 1) cap2) w2) := by
    have := hrun
    rw [show (w1.alloc (rnO p)).heap.size = w1.heap.size + 1 by simp] at this
    simp only [rnO] at this
    rw [hpv] at this
    exact this
  -- the world behind the fields of x
  have hx3 : (w2.setCell ⟨w1.heap.size, 2, none⟩ (.slice ao2 (p.all.length + 1) cap2)).heap[w1.heap.size]? = some (.cells #[i64 p.n, i64 p.ver, (.slice ao2 (p.all.length + 1) cap2), i64 p.fr, i64 p.tk] 41) := heap_setCell_same w2 _ 2 _ 41 _ hx2
  have hx4 : ((w2.setCell ⟨w1.heap.size, 2, none⟩ (.slice ao2 (p.all.length + 1) cap2)).setCell ⟨w1.heap.size, 3, none⟩ (i64 (p.fr + 1))).heap[w1.heap.size]? = some (.cells #[i64 p.n, i64 p.ver, (.slice ao2 (p.all.length + 1) cap2), i64 (p.fr + 1), i64 p.tk] 41) := heap_setCell_same _ _ 3 _ 41 _ hx3
  have hYo : ∀ j, j ≠ w1.heap.size → ((w2.setCell ⟨w1.heap.size, 2, none⟩ (.slice ao2 (p.all.length + 1) cap2)).setCell ⟨w1.heap.size, 3, none⟩ (i64 (p.fr + 1))).heap[j]? = w2.heap[j]? := fun j hj => by rw [Below.heap_setCell _ _ _ _ hj, Below.heap_setCell _ _ _ _ hj]
  obtain ⟨Y, hY⟩ : ∃ Y, Y = (w2.setCell ⟨w1.heap.size, 2, none⟩ (.slice ao2 (p.all.length + 1) cap2)).setCell ⟨w1.heap.size, 3, none⟩ (i64 (p.fr + 1)) := ⟨_, rfl⟩
  rw [← hY] at hx4 hYo
  have hYt : Below w1.heap.size w2 Y := by rw [hY]; exact ((Below.refl w1.heap.size w2).setCell (p := ⟨w1.heap.size, 2, none⟩) (Nat.le_refl _) _).setCell (p := ⟨w1.heap.size, 3, none⟩) (Nat.le_refl _) _
  have hbkY : Y.heap[r]? = some (.cells #[.slice (some ⟨g, 0, none⟩) L.length cap] 29) := by rw [hYo r (by omega)]; exact hbk2
  have hfull := hR1.full (w2 := Y) (p' := { p with v := .slice ao2 (p.all.length + 1) cap2, all := p.all ++ [(kd, x)], fr := (p.fr + 1) }) hbk HP.out (fun j C t hj ht => by
      rw [hYo j (by have := blk_lt hj; omega)]
      exact hfr2.kept _ _ (blk_alloc hj _) (by rcases ht with rfl | rfl <;> rfl)) (fun j hj hne => by
      rw [hYo j (by omega), hoth2 j (by simp; omega) hne]
      exact Below.heap_alloc _ _ _ hj) (by
      have := hown2
      rw [show p.all.length + 1 = (p.all ++ [(kd, x)]).length by simp, show ucn p.all ++ [i64 kd, i64 x] = ucn (p.all ++ [(kd, x)]) by simp [ucn]] at this
      refine own_keep (by simpa using this) (fun j C hC => ?_)
      rw [hYo j (fun e => by rw [e, hx2] at hC; simp at hC)]
      exact hC) (by
      rcases hbl2 with hb | hb
      · exact .inl hb
      · exact .inr ⟨(w1.alloc (rnO p)).heap.size + 1, by simp; omega, hb⟩)
  obtain ⟨hfin, C41, hC41, _⟩ := hfull
  have hfrY : Fr base [29, 41, 60] w Y := by
    have e1 : Fr base [29, 41, 60] w w2 := (Fr.of_below _ (hB1.alloc hB1.size _) hlo).trans (hfr2.mono (fun o ho => by
      cases o with
      | cells C t fr => simp [keeps] at ho ⊢; exact ho.2.2
      | _ => rfl))
    refine ⟨e1.below.trans (hYt.mono (by omega)), fun j o hj ho => ?_⟩
    rw [hYo j (by have := blk_lt hj; omega)]
    exact e1.kept j o hj ho
  have HF : Hid (Rb (set5 Y g (k * 5) (i64 p.n) (i64 p.ver) (.slice ao2 (p.all.length + 1) cap2) (i64 (p.fr + 1)) (i64 p.tk)) base r (L.set k { p with v := .slice ao2 (p.all.length + 1) cap2, all := p.all ++ [(kd, x)], fr := (p.fr + 1) }) ∧ Fr base [29, 41, 60] w (set5 Y g (k * 5) (i64 p.n) (i64 p.ver) (.slice ao2 (p.all.length + 1) cap2) (i64 (p.fr + 1)) (i64 p.tk))) := ⟨hfin, hfrY.trans (Fr.of_touch (((((((Touch.refl g Y).setCell rfl _).setCell rfl _).setCell rfl _).setCell rfl _).setCell rfl _)) hC41 (by rfl) hbg)⟩
  have b0 : w1.cell? ⟨r, 0, none⟩ = some (.slice (some ⟨g, 0, none⟩) L.length cap) := blk_cell hbk 0
  have c0 : w1.cell? ⟨g, k * 5, none⟩ = some (i64 p.n) := hc 0 (by omega)
  have c1 : w1.cell? ⟨g, k * 5 + 1, none⟩ = some (i64 p.ver) := hc 1 (by omega)
  have c2 : w1.cell? ⟨g, k * 5 + 2, none⟩ = some p.v := hc 2 (by omega)
  have c3 : w1.cell? ⟨g, k * 5 + 3, none⟩ = some (i64 p.fr) := hc 3 (by omega)
  have c4 : w1.cell? ⟨g, k * 5 + 4, none⟩ = some (i64 p.tk) := hc 4 (by omega)
  have x0 : w1.cell? ⟨w.heap.size, 0, none⟩ = some (i64 kd) := blk_cell hX1 0
  have x1 : w1.cell? ⟨w.heap.size, 1, none⟩ = some (i64 x) := blk_cell hX1 1
  have q2 : w2.cell? ⟨w1.heap.size, 2, none⟩ = some p.v := blk_cell hx2 2
  have q2f : ∀ j, w2.frozen? ⟨w1.heap.size, j, none⟩ = false := blk_frozen hx2
  have HX3 := hid hx3
  have HX4 := hid hx4
  have HYe := hid hY
  have HBY := hid hbkY
  have gY : ∀ j, j < 5 → (Y.cell? ⟨g, k * 5 + j, none⟩).isSome = true := fun j hj => by
    rw [show Y.cell? ⟨g, k * 5 + j, none⟩ = w1.cell? ⟨g, k * 5 + j, none⟩ from World.cell?_of_block (w := w1) (by
      show Y.heap[g]? = w1.heap[g]?
      rw [hYo g (by omega)]
      obtain ⟨C, hC, _⟩ : ∃ C, w1.heap[g]? = some (.cells C 41) ∧ True := by
        obtain ⟨v0, q1, q2⟩ := hR1.own
        rw [hbk] at q1
        cases q1
        rcases q2.2 with ⟨hn, _⟩ | ⟨g', cap', cur, he, _, hgg, _⟩
        · simp at hn
        · simp only [Value.slice.injEq, Option.some.injEq, Addr.mk.injEq] at he
          obtain ⟨⟨rfl, _⟩, _, _⟩ := he
          exact ⟨cur, hgg, trivial⟩
      rw [hC]
      exact hfr2.kept _ _ (blk_alloc hC _) (by rfl)), hc j hj]
    rcases (show j = 0 ∨ j = 1 ∨ j = 2 ∨ j = 3 ∨ j = 4 by omega) with rfl | rfl | rfl | rfl | rfl <;> rfl
  have gF : ∀ j, Y.frozen? ⟨g, j, none⟩ = false := blk_frozen hC41
  have HGY := hid gY
  have HGF := hid gF
  rw [hpv] at c2 q2
  have hkI : (k : Int) < L.length := by omega
  have hNI : (L.length : Int) ≤ 3 := by omega
  have hmI : (p.all.length : Int) ≤ 1000 := by omega
  have hsm : w.heap.size < w1.heap.size := hw1
  clear hb1 hrow hc hbk hR1 hR2 hpo hpo2 hrun hown2 hfr2 hoth2 hbl2 hx2 hbk2 hx3 hx4 hYo hfin hfrY hC41 hbkY gY gF hX1 hB1 hpv hY hYt
  generalize hM : p.all.length = M at *
  generalize hNN : L.length = NN at *
  have HM := hid hM
  clear hM hNN
  have u3 : (w2.setCell ⟨w1.heap.size, 2, none⟩ (.slice ao2 (M + 1) cap2)).cell? ⟨w1.heap.size, 3, none⟩ = some (i64 p.fr) := blk_cell HX3.out 3
  have u2 : (w2.setCell ⟨w1.heap.size, 2, none⟩ (.slice ao2 (M + 1) cap2)).cell? ⟨w1.heap.size, 2, none⟩ = some (.slice ao2 (M + 1) cap2) := blk_cell HX3.out 2
  have uf : ∀ j, (w2.setCell ⟨w1.heap.size, 2, none⟩ (.slice ao2 (M + 1) cap2)).frozen? ⟨w1.heap.size, j, none⟩ = false := blk_frozen HX3.out
  go_upto_region 8 with (at_builtin; refine wpList_app_run rfl (.tmp 30) (.tmp 32) 39 rfl _ _ rfl rfl 39 rfl _ _ HRun.out ?_)
  generalize hU : w2.setCell ⟨w1.heap.size, 2, none⟩ (.slice ao2 (M + 1) cap2) = U at *
  have HU := hid hU
  clear hU
  go_upto_region 10 with fail
  rw [← HYe.out]
  have HS : Hid (Sp10 r w1.heap.size (.slice (some ⟨g, 0, none⟩) NN cap) (i64 p.n) (i64 p.ver) (.slice ao2 (M + 1) cap2) (i64 (p.fr + 1)) (i64 p.tk) Y.drew) := ⟨blk_cell HBY.out 0, blk_cell HX4.out 0, blk_cell HX4.out 1, blk_cell HX4.out 2, blk_cell HX4.out 3, blk_cell HX4.out 4⟩
  refine wp_region_noPanic ?_
  refine wp_region_last (Sp10 r w1.heap.size (.slice (some ⟨g, 0, none⟩) NN cap) (i64 p.n) (i64 p.ver) (.slice ao2 (M + 1) cap2) (i64 (p.fr + 1)) (i64 p.tk)) 7 (by kernel_rfl) ?_
  refine wpL_take 0 46 (pq r) [] rfl rfl (by kernel_rfl) (by decide) (by kernel_rfl) (by kernel_rfl) (by kernel_rfl) (fun _ _ _ h => h) HS.out (by rfl) (fun W hW => by obtain ⟨a0, a1, a2, a3, a4, a5⟩ := hW; go_simp) ?_
  simp only [Act.put, List.setIfInBounds_toArray, List.set_cons_zero, List.set_cons_succ]
  refine wpL_take 1 47 (pq r) [] rfl rfl (by kernel_rfl) (by decide) (by kernel_rfl) (by kernel_rfl) (by kernel_rfl) (fun _ _ _ h => h) HS.out (by rfl) (fun W hW => by obtain ⟨a0, a1, a2, a3, a4, a5⟩ := hW; go_simp) ?_
  simp only [Act.put, List.setIfInBounds_toArray, List.set_cons_zero, List.set_cons_succ]
  refine wpL_take 2 48 (pq r) [] rfl rfl (by kernel_rfl) (by decide) (by kernel_rfl) (by kernel_rfl) (by kernel_rfl) (fun _ _ _ h => h) HS.out (by rfl) (fun W hW => by obtain ⟨a0, a1, a2, a3, a4, a5⟩ := hW; go_simp) ?_
  simp only [Act.put, List.setIfInBounds_toArray, List.set_cons_zero, List.set_cons_succ]
  refine wpL_take 3 49 (.slice (some ⟨g, 0, none⟩) NN cap) [] rfl rfl (by kernel_rfl) (by decide) (by kernel_rfl) (by kernel_rfl) (by kernel_rfl) (fun _ _ _ h => h) HS.out (by rfl) (fun W hW => by obtain ⟨a0, a1, a2, a3, a4, a5⟩ := hW; go_simp) ?_
  simp only [Act.put, List.setIfInBounds_toArray, List.set_cons_zero, List.set_cons_succ]
  refine wpL_take 4 50 (i64 k) [] rfl rfl (by kernel_rfl) (by decide) (by kernel_rfl) (by kernel_rfl) (by kernel_rfl) (fun _ _ _ h => h) HS.out (by rfl) (fun W hW => by obtain ⟨a0, a1, a2, a3, a4, a5⟩ := hW; go_simp) ?_
  simp only [Act.put, List.setIfInBounds_toArray, List.set_cons_zero, List.set_cons_succ]
  refine wpL_take 5 51 (.agg #[i64 p.n, i64 p.ver, .slice ao2 (M + 1) cap2, i64 (p.fr + 1), i64 p.tk]) [] rfl rfl (by kernel_rfl) (by decide) (by kernel_rfl) (by kernel_rfl) (by kernel_rfl) (fun _ _ _ h => h) HS.out (by rfl) (fun W hW => by obtain ⟨a0, a1, a2, a3, a4, a5⟩ := hW; go_simp) ?_
  simp only [Act.put, List.setIfInBounds_toArray, List.set_cons_zero, List.set_cons_succ]
  refine wpL_take 6 52 (.pointer (some ⟨g, k * 5, none⟩)) [] rfl rfl (by kernel_rfl) (by decide) (by kernel_rfl) (by kernel_rfl) (by kernel_rfl) (fun _ _ _ h => h) HS.out (by rfl) (fun W hW => by obtain ⟨a0, a1, a2, a3, a4, a5⟩ := hW; go_simp) ?_
  simp only [Act.put, List.setIfInBounds_toArray, List.set_cons_zero, List.set_cons_succ]
  obtain ⟨y0, hy0⟩ := Option.isSome_iff_exists.1 (HGY.out 0 (by omega))
  obtain ⟨y1, hy1⟩ := Option.isSome_iff_exists.1 (HGY.out 1 (by omega))
  obtain ⟨y2, hy2⟩ := Option.isSome_iff_exists.1 (HGY.out 2 (by omega))
  obtain ⟨y3, hy3⟩ := Option.isSome_iff_exists.1 (HGY.out 3 (by omega))
  obtain ⟨y4, hy4⟩ := Option.isSome_iff_exists.1 (HGY.out 4 (by omega))
  rw [Nat.add_zero] at hy0
  have gF := HGF.out
  refine wpL_one 7 rfl (by kernel_rfl) (by rfl) (fun K hK => ?_)
  go_simp
  refine hK.out _ _ (fun h => absurd rfl h) ?_
  clear hK K
  refine wpL_done (by kernel_rfl) ?_
  refine NoPanic.normal ?_
  have HF2 : Hid (Rb (set5 Y g (k * 5) (i64 p.n) (i64 p.ver) (.slice ao2 (M + 1) cap2) (i64 (p.fr + 1)) (i64 p.tk)).drew base r (L.set k { p with v := .slice ao2 (M + 1) cap2, all := p.all ++ [(kd, x)], fr := (p.fr + 1) }) ∧ Fr base [29, 41, 60] w (set5 Y g (k * 5) (i64 p.n) (i64 p.ver) (.slice ao2 (M + 1) cap2) (i64 (p.fr + 1)) (i64 p.tk)).drew) := ⟨HF.out.1.drewN 1, HF.out.2.drewN 1⟩
  go_wp2_with fail
  go_ret
  exact ⟨rfl, ⟨_, HF2.out.1⟩, HF2.out.2⟩
end Go.Proofs.Ytopbgeoledocaaa
