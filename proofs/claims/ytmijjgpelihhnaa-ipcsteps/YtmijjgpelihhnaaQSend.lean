/- imagoref12.Post's Send: its contract; no statement is proved in this text. -/
import Derived.Test.YtmijjgpelihhnaaQDoc
namespace Go.Proofs.Ytmijjgpelihhnaa
open Go.ChangeShapes Go.WideShapes Go.ChangeAt Go.RowKit Go.Deep
attribute [local go_sem ↓] Go.wp_at_zero Go.wp_at_succ

set_option maxRecDepth 100000 in
set_option maxHeartbeats 1600000 in
theorem rsend_a (w : World) (r : Nat) (m : Mg) (hA : envB m.fr = false) : Calls Try.prog 10 #[pq r, mgV m] w fun e w' => e = .returned (i64 1) ∧ Below w.heap.size w w' := by
  have HA : Hid (∀ V, Calls Try.prog 17 #[i64 m.fr] V fun e w' => e = .returned (.bool false) ∧ w' = V) := fun V => by have := env_ok V m.fr; rw [hA] at this; exact this
  clear hA
  have HX : Hid ((w.alloc (mgO m)).heap[w.heap.size]? = some (mgO m)) := heap_last w _
  have HB : Hid (Below w.heap.size w (w.alloc (mgO m))) := below_one w _
  go_enter Try.func10, Try.ntmps10
  go_upto_region 1 with fail
  generalize w.alloc (mgO m) = V at *
  have y0 : V.cell? ⟨w.heap.size, 0, none⟩ = some (i64 m.fr) := blk_cell HX.out 0
  have y1 : V.cell? ⟨w.heap.size, 1, none⟩ = some (i64 m.tt) := blk_cell HX.out 1
  have y2 : V.cell? ⟨w.heap.size, 2, none⟩ = some (i64 m.wd) := blk_cell HX.out 2
  go_wp2_with fail
  refine (HA.out V).mono ?_
  rintro e v1 ⟨rfl, hv⟩
  replace hv := hv.symm
  subst hv
  go_wp2_with fail
  go_ret
  exact ⟨rfl, HB.out⟩
set_option maxRecDepth 100000 in
set_option maxHeartbeats 1600000 in
theorem rsend_b (w : World) (r : Nat) (m : Mg) (hA : envB m.fr = true) (hB : envB m.tt = false) : Calls Try.prog 10 #[pq r, mgV m] w fun e w' => e = .returned (i64 1) ∧ Below w.heap.size w w' := by
  have HA : Hid (∀ V, Calls Try.prog 17 #[i64 m.fr] V fun e w' => e = .returned (.bool true) ∧ w' = V) := fun V => by have := env_ok V m.fr; rw [hA] at this; exact this
  have HBt : Hid (∀ V, Calls Try.prog 17 #[i64 m.tt] V fun e w' => e = .returned (.bool false) ∧ w' = V) := fun V => by have := env_ok V m.tt; rw [hB] at this; exact this
  clear hA hB
  have HX : Hid ((w.alloc (mgO m)).heap[w.heap.size]? = some (mgO m)) := heap_last w _
  have HB : Hid (Below w.heap.size w (w.alloc (mgO m))) := below_one w _
  go_enter Try.func10, Try.ntmps10
  go_upto_region 1 with fail
  generalize w.alloc (mgO m) = V at *
  have y0 : V.cell? ⟨w.heap.size, 0, none⟩ = some (i64 m.fr) := blk_cell HX.out 0
  have y1 : V.cell? ⟨w.heap.size, 1, none⟩ = some (i64 m.tt) := blk_cell HX.out 1
  have y2 : V.cell? ⟨w.heap.size, 2, none⟩ = some (i64 m.wd) := blk_cell HX.out 2
  go_wp2_with fail
  refine (HA.out V).mono ?_
  rintro e v1 ⟨rfl, hv⟩
  replace hv := hv.symm
  subst hv
  go_wp2_with fail
  refine (HBt.out V).mono ?_
  rintro e v1 ⟨rfl, hv⟩
  replace hv := hv.symm
  subst hv
  go_wp2_with fail
  go_ret
  exact ⟨rfl, HB.out⟩
set_option maxRecDepth 100000 in
set_option maxHeartbeats 1600000 in
theorem rsend_c (w : World) (r : Nat) (m : Mg) (hA : envB m.fr = true) (hB : envB m.tt = true) (hd : m.wd < 0) : Calls Try.prog 10 #[pq r, mgV m] w fun e w' => e = .returned (i64 1) ∧ Below w.heap.size w w' := by
  have HA : Hid (∀ V, Calls Try.prog 17 #[i64 m.fr] V fun e w' => e = .returned (.bool true) ∧ w' = V) := fun V => by have := env_ok V m.fr; rw [hA] at this; exact this
  have HBt : Hid (∀ V, Calls Try.prog 17 #[i64 m.tt] V fun e w' => e = .returned (.bool true) ∧ w' = V) := fun V => by have := env_ok V m.tt; rw [hB] at this; exact this
  clear hA hB
  have HX : Hid ((w.alloc (mgO m)).heap[w.heap.size]? = some (mgO m)) := heap_last w _
  have HB : Hid (Below w.heap.size w (w.alloc (mgO m))) := below_one w _
  go_enter Try.func10, Try.ntmps10
  go_upto_region 1 with fail
  generalize w.alloc (mgO m) = V at *
  have y0 : V.cell? ⟨w.heap.size, 0, none⟩ = some (i64 m.fr) := blk_cell HX.out 0
  have y1 : V.cell? ⟨w.heap.size, 1, none⟩ = some (i64 m.tt) := blk_cell HX.out 1
  have y2 : V.cell? ⟨w.heap.size, 2, none⟩ = some (i64 m.wd) := blk_cell HX.out 2
  go_wp2_with fail
  refine (HA.out V).mono ?_
  rintro e v1 ⟨rfl, hv⟩
  replace hv := hv.symm
  subst hv
  go_wp2_with fail
  refine (HBt.out V).mono ?_
  rintro e v1 ⟨rfl, hv⟩
  replace hv := hv.symm
  subst hv
  go_wp2_with fail
  go_ret
  exact ⟨rfl, HB.out⟩
set_option maxRecDepth 100000 in
set_option maxHeartbeats 1600000 in
theorem rsend_d (w : World) (r : Nat) (m : Mg) (hA : envB m.fr = true) (hB : envB m.tt = true) (hd0 : ¬ m.wd < 0) (hd : 65535 < m.wd) : Calls Try.prog 10 #[pq r, mgV m] w fun e w' => e = .returned (i64 1) ∧ Below w.heap.size w w' := by
  have HA : Hid (∀ V, Calls Try.prog 17 #[i64 m.fr] V fun e w' => e = .returned (.bool true) ∧ w' = V) := fun V => by have := env_ok V m.fr; rw [hA] at this; exact this
  have HBt : Hid (∀ V, Calls Try.prog 17 #[i64 m.tt] V fun e w' => e = .returned (.bool true) ∧ w' = V) := fun V => by have := env_ok V m.tt; rw [hB] at this; exact this
  clear hA hB
  have HX : Hid ((w.alloc (mgO m)).heap[w.heap.size]? = some (mgO m)) := heap_last w _
  have HB : Hid (Below w.heap.size w (w.alloc (mgO m))) := below_one w _
  go_enter Try.func10, Try.ntmps10
  go_upto_region 1 with fail
  generalize w.alloc (mgO m) = V at *
  have y0 : V.cell? ⟨w.heap.size, 0, none⟩ = some (i64 m.fr) := blk_cell HX.out 0
  have y1 : V.cell? ⟨w.heap.size, 1, none⟩ = some (i64 m.tt) := blk_cell HX.out 1
  have y2 : V.cell? ⟨w.heap.size, 2, none⟩ = some (i64 m.wd) := blk_cell HX.out 2
  go_wp2_with fail
  refine (HA.out V).mono ?_
  rintro e v1 ⟨rfl, hv⟩
  replace hv := hv.symm
  subst hv
  go_wp2_with fail
  refine (HBt.out V).mono ?_
  rintro e v1 ⟨rfl, hv⟩
  replace hv := hv.symm
  subst hv
  go_wp2_with fail
  go_ret
  exact ⟨rfl, HB.out⟩
theorem sdB_1 {f t d : Int} (h : sdB f t d = true) : envB f = true ∧ envB t = true ∧ 0 ≤ d ∧ d ≤ 65535 := by
  unfold sdB at h
  simp only [Bool.and_eq_true, decide_eq_true_eq] at h
  exact ⟨h.1.1.1, h.1.1.2, h.1.2, h.2⟩
theorem rsend_arg (w : World) (r : Nat) (m : Mg) (h : sdB m.fr m.tt m.wd = false) : Calls Try.prog 10 #[pq r, mgV m] w fun e w' => e = .returned (i64 1) ∧ Below w.heap.size w w' := by
  cases hA : envB m.fr with
  | false => exact rsend_a w r m hA
  | true =>
    cases hB : envB m.tt with
    | false => exact rsend_b w r m hA hB
    | true =>
      by_cases hd : m.wd < 0
      · exact rsend_c w r m hA hB hd
      · refine rsend_d w r m hA hB hd ?_
        unfold sdB at h
        simp [hA, hB] at h
        omega
set_option maxRecDepth 100000 in
set_option maxHeartbeats 1600000 in
theorem rsend_full {w : World} {base r : Nat} {L : List Mg} (h : Rb w base r L) (hl : L.length ≤ 12) (m : Mg) (hs : sdB m.fr m.tt m.wd = true) (h4 : 3 < cntM L m.tt) : Calls Try.prog 10 #[pq r, mgV m] w fun e w' => e = .returned (i64 5) ∧ Below w.heap.size w w' := by
  obtain ⟨hA, hB, hd0, hd1⟩ := sdB_1 hs
  have hle := cnt_le L m.tt
  have HA : Hid (∀ V, Calls Try.prog 17 #[i64 m.fr] V fun e w' => e = .returned (.bool true) ∧ w' = V) := fun V => by have := env_ok V m.fr; rw [hA] at this; exact this
  have HBt : Hid (∀ V, Calls Try.prog 17 #[i64 m.tt] V fun e w' => e = .returned (.bool true) ∧ w' = V) := fun V => by have := env_ok V m.tt; rw [hB] at this; exact this
  have HX : Hid ((w.alloc (mgO m)).heap[w.heap.size]? = some (mgO m)) := heap_last w _
  have HB : Hid (Below w.heap.size w (w.alloc (mgO m))) := below_one w _
  have HR : Hid (Rb (w.alloc (mgO m)) base r L) := h.below (below_one w _)
  have HW : Hid (∀ V, Rb V base r L → Calls Try.prog 16 #[pq r, i64 m.tt] V fun e w' => e = .returned (i64 (cntM L m.tt : Nat)) ∧ Below V.heap.size V w') := fun V hV => rwaits_ok hV hl m.tt
  have hcI : (3 : Int) < (cntM L m.tt : Nat) := by omega
  have hcJ : ((cntM L m.tt : Nat) : Int) ≤ 12 := by omega
  generalize cntM L m.tt = C at *
  have g0 : ¬ m.wd < 0 := by omega
  have g1 : ¬ 65535 < m.wd := by omega
  clear hA hB hs h hd0 hd1 h4 hle
  go_enter Try.func10, Try.ntmps10
  go_upto_region 1 with fail
  generalize w.alloc (mgO m) = V at *
  have y0 : V.cell? ⟨w.heap.size, 0, none⟩ = some (i64 m.fr) := blk_cell HX.out 0
  have y1 : V.cell? ⟨w.heap.size, 1, none⟩ = some (i64 m.tt) := blk_cell HX.out 1
  have y2 : V.cell? ⟨w.heap.size, 2, none⟩ = some (i64 m.wd) := blk_cell HX.out 2
  go_wp2_with fail
  refine (HA.out V).mono ?_
  rintro e v1 ⟨rfl, hv⟩
  replace hv := hv.symm
  subst hv
  go_wp2_with fail
  refine (HBt.out _).mono ?_
  rintro e v1 ⟨rfl, hv⟩
  replace hv := hv.symm
  subst hv
  go_wp2_with fail
  refine (HW.out _ HR.out).mono ?_
  rintro e w2 ⟨rfl, hb2⟩
  have HB2 : Hid (Below w.heap.size w w2) := HB.out.trans (hb2.mono HB.out.size)
  clear hb2
  go_wp2_with fail
  go_ret
  exact ⟨rfl, HB2.out⟩
structure Sq5 (r U : Nat) (lv : Value) (m : Mg) (W : World) : Prop where
  l : W.cell? ⟨r, 0, none⟩ = some lv
  u0 : W.cell? ⟨U, 0, none⟩ = some (i64 m.fr)
  u1 : W.cell? ⟨U, 1, none⟩ = some (i64 m.tt)
  u2 : W.cell? ⟨U, 2, none⟩ = some (i64 m.wd)
set_option maxRecDepth 100000 in
set_option maxHeartbeats 3200000 in
theorem rsend_in {w : World} {base r : Nat} {L : List Mg} (h : Rb w base r L) (hl : L.length ≤ 12) (m : Mg) (hs : sdB m.fr m.tt m.wd = true) (h4 : ¬ 3 < cntM L m.tt) : Calls Try.prog 10 #[pq r, mgV m] w fun e w' => e = .returned (i64 0) ∧ Rb w' base r (L ++ [m]) ∧ Fr base [29, 36] w w' := by
  obtain ⟨hA, hB, hd0, hd1⟩ := sdB_1 hs
  have HA : Hid (∀ V, Calls Try.prog 17 #[i64 m.fr] V fun e w' => e = .returned (.bool true) ∧ w' = V) := fun V => by have := env_ok V m.fr; rw [hA] at this; exact this
  have HBt : Hid (∀ V, Calls Try.prog 17 #[i64 m.tt] V fun e w' => e = .returned (.bool true) ∧ w' = V) := fun V => by have := env_ok V m.tt; rw [hB] at this; exact this
  have HX : Hid ((w.alloc (mgO m)).heap[w.heap.size]? = some (mgO m)) := heap_last w _
  have HB : Hid (Below w.heap.size w (w.alloc (mgO m))) := below_one w _
  have hlo := h.los
  have hrw := h.lt
  obtain ⟨lv0, hlv0, how0⟩ := h.own
  have HLV := hid (blk_alloc hlv0 (mgO m))
  have HOB0 : Hid (∀ j, lv0.ownBlock = some j → j < w.heap.size) := fun j hj => by have := (how0.lt j hj).2; omega
  have HLo := hid h.lo
  have HR : Hid (Rb (w.alloc (mgO m)) base r L) := h.below (below_one w _)
  have HW : Hid (∀ V, Rb V base r L → Calls Try.prog 16 #[pq r, i64 m.tt] V fun e w' => e = .returned (i64 (cntM L m.tt : Nat)) ∧ Below V.heap.size V w') := fun V hV => rwaits_ok hV hl m.tt
  have hcI : ((cntM L m.tt : Nat) : Int) ≤ 3 := by omega
  generalize cntM L m.tt = C at *
  have g0 : ¬ m.wd < 0 := by omega
  have g1 : ¬ 65535 < m.wd := by omega
  clear hA hB hs h hd0 hd1 h4 hlv0 how0
  go_enter Try.func10, Try.ntmps10
  go_upto_region 1 with fail
  generalize w.alloc (mgO m) = V at *
  have y0 : V.cell? ⟨w.heap.size, 0, none⟩ = some (i64 m.fr) := blk_cell HX.out 0
  have y1 : V.cell? ⟨w.heap.size, 1, none⟩ = some (i64 m.tt) := blk_cell HX.out 1
  have y2 : V.cell? ⟨w.heap.size, 2, none⟩ = some (i64 m.wd) := blk_cell HX.out 2
  go_wp2_with fail
  refine (HA.out V).mono ?_
  rintro e v1 ⟨rfl, hv⟩
  replace hv := hv.symm
  subst hv
  go_wp2_with fail
  refine (HBt.out _).mono ?_
  rintro e v1 ⟨rfl, hv⟩
  replace hv := hv.symm
  subst hv
  go_wp2_with fail
  refine (HW.out _ HR.out).mono ?_
  rintro e w2 ⟨rfl, hb2⟩
  have hR2 := HR.out.below hb2
  have hX2 := blk_below HX.out hb2
  have hB2 : Below w.heap.size w w2 := HB.out.trans (hb2.mono HB.out.size)
  obtain ⟨ao, cap, hbk, hown, hcap, _⟩ := hR2.row
  have HOB : Hid (∀ j, (Value.slice ao L.length cap).ownBlock = some j → j < w.heap.size) := fun j hj => by
    have h1 := blk_below HLV.out hb2
    rw [hbk] at h1
    simp only [Option.some.injEq, Obj.cells.injEq, Array.mk.injEq, List.cons.injEq, and_true] at h1
    exact HOB0.out j (by rw [← h1]; exact hj)
  obtain ⟨ao3, cap3, w3, hrun, hown3, hfr3, hoth3, _⟩ := app_far (V := w2.drew) (te := 36) under27 info36x rfl (by omega) (by omega) (own_keep hown (fun k C hC => hC)) m.l rfl (fun u hu => by
    simp only [Mg.l, List.mem_cons, List.not_mem_nil, or_false] at hu
    rcases hu with rfl | rfl | rfl <;> rfl) (by omega) (by show base ≤ w2.heap.size; have := hB2.size; omega)
  have hbk3 : w3.heap[r]? = some (.cells #[.slice ao L.length cap] 29) := hfr3.kept _ _ hbk (by rfl)
  have HRun : Hid ((Builtin.append_ #[27, 27] 27 #[.slice ao L.length cap, .slice (some ⟨w2.heap.size, 0, none⟩) 1 1]).run Try.prog (w2.drew.alloc (.cells #[i64 m.fr, i64 m.tt, i64 m.wd] 36)) = .ok (.slice ao3 (L.length + 1) cap3) w3) := hrun
  have hX2b : (w2.drew.alloc (.cells #[i64 m.fr, i64 m.tt, i64 m.wd] 36)).heap[w.heap.size]? = some (mgO m) := blk_alloc (w := w2.drew) hX2 _
  have hbk2b : (w2.drew.alloc (.cells #[i64 m.fr, i64 m.tt, i64 m.wd] 36)).heap[r]? = some (.cells #[.slice ao L.length cap] 29) := blk_alloc (w := w2.drew) hbk _
  have HS1 : Hid (Sq5 r w.heap.size (.slice ao L.length cap) m w2.drew) := ⟨blk_cell hbk 0, blk_cell hX2 0, blk_cell hX2 1, blk_cell hX2 2⟩
  have HS2 : Hid (Sq5 r w.heap.size (.slice ao L.length cap) m (w2.drew.alloc (.cells #[i64 m.fr, i64 m.tt, i64 m.wd] 36))) := ⟨blk_cell hbk2b 0, blk_cell hX2b 0, blk_cell hX2b 1, blk_cell hX2b 2⟩
  have HF : Hid (Rb (w3.setCell ⟨r, 0, none⟩ (.slice ao3 (L.length + 1) cap3)) base r (L ++ [m]) ∧ Fr base [29, 36] w (w3.setCell ⟨r, 0, none⟩ (.slice ao3 (L.length + 1) cap3))) := by
    refine ⟨⟨HLo.out, _, heap_setCell_same w3 r 0 _ 29 _ hbk3, ?_⟩, ?_⟩
    · rw [rcs_app, List.length_append]
      refine own_keep (by simpa [rcs] using hown3) (fun k' C hC => ?_)
      rw [Below.heap_setCell _ _ _ _ (fun e => by rw [show k' = r from e, hbk3] at hC; simp at hC)]
      exact hC
    · refine ((Fr.of_below _ hB2.drew hlo).trans (hfr3.mono (fun o ho => by
        cases o with
        | cells C t fr => simp [keeps] at ho ⊢; exact ho.2
        | _ => rfl))).trans (Fr.of_touch ((Touch.refl r w3).setCell rfl _) hbk3 (by rfl) HLo.out)
  have HB3 := hid hbk3
  have hXk : w3.heap[w.heap.size]? = w2.drew.heap[w.heap.size]? := hoth3 _ (by show _ < w2.heap.size; exact blk_lt hX2) (fun e => by
    have := HOB.out _ e.symm
    omega)
  have HS3l : Hid (w3.cell? ⟨r, 0, none⟩ = some (.slice ao L.length cap)) := blk_cell hbk3 0
  have HS3f : Hid (w3.frozen? ⟨r, 0, none⟩ = false) := blk_frozen hbk3 0
  have HS3u : Hid (Sq5 r w.heap.size (.slice ao L.length cap) m w3) := ⟨blk_cell hbk3 0, by rw [show w3.cell? ⟨w.heap.size, 0, none⟩ = (w2.drew).cell? ⟨w.heap.size, 0, none⟩ from World.cell?_of_block (w := w2.drew) (hXk)]; exact blk_cell hX2 0, by rw [show w3.cell? ⟨w.heap.size, 1, none⟩ = (w2.drew).cell? ⟨w.heap.size, 1, none⟩ from World.cell?_of_block (w := w2.drew) (hXk)]; exact blk_cell hX2 1, by rw [show w3.cell? ⟨w.heap.size, 2, none⟩ = (w2.drew).cell? ⟨w.heap.size, 2, none⟩ from World.cell?_of_block (w := w2.drew) (hXk)]; exact blk_cell hX2 2⟩
  clear hb2 hR2 hX2 hB2 hbk hown hrun hown3 hfr3 hbk3 hX2b hbk2b hoth3 hXk y0 y1 y2
  generalize L.length = NN at *
  go_upto_region 5 with fail
  refine wp_region_noPanic ?_
  refine wp_region_last (Sq5 r w.heap.size (.slice ao NN cap) m) 10 (by kernel_rfl) ?_
  refine wpL_take 0 30 (pq r) [] rfl rfl (by kernel_rfl) (by decide) (by kernel_rfl) (by kernel_rfl) (by kernel_rfl) (fun _ _ _ h => h) HS1.out (by rfl) (fun W hW => by obtain ⟨s0, s1, s2, s3⟩ := hW; go_simp) ?_
  simp only [Act.put, List.setIfInBounds_toArray, List.set_cons_zero, List.set_cons_succ]
  refine wpL_take 1 31 (pq r) [] rfl rfl (by kernel_rfl) (by decide) (by kernel_rfl) (by kernel_rfl) (by kernel_rfl) (fun _ _ _ h => h) HS1.out (by rfl) (fun W hW => by obtain ⟨s0, s1, s2, s3⟩ := hW; go_simp) ?_
  simp only [Act.put, List.setIfInBounds_toArray, List.set_cons_zero, List.set_cons_succ]
  refine wpL_take 2 32 (pq r) [] rfl rfl (by kernel_rfl) (by decide) (by kernel_rfl) (by kernel_rfl) (by kernel_rfl) (fun _ _ _ h => h) HS1.out (by rfl) (fun W hW => by obtain ⟨s0, s1, s2, s3⟩ := hW; go_simp) ?_
  simp only [Act.put, List.setIfInBounds_toArray, List.set_cons_zero, List.set_cons_succ]
  refine wpL_take 3 33 (pq r) [] rfl rfl (by kernel_rfl) (by decide) (by kernel_rfl) (by kernel_rfl) (by kernel_rfl) (fun _ _ _ h => h) HS1.out (by rfl) (fun W hW => by obtain ⟨s0, s1, s2, s3⟩ := hW; go_simp) ?_
  simp only [Act.put, List.setIfInBounds_toArray, List.set_cons_zero, List.set_cons_succ]
  refine wpL_take 4 34 (.slice ao NN cap) [] rfl rfl (by kernel_rfl) (by decide) (by kernel_rfl) (by kernel_rfl) (by kernel_rfl) (fun _ _ _ h => h) HS1.out (by rfl) (fun W hW => by obtain ⟨s0, s1, s2, s3⟩ := hW; go_simp) ?_
  simp only [Act.put, List.setIfInBounds_toArray, List.set_cons_zero, List.set_cons_succ]
  refine wpL_take 5 35 (mgV m) [] rfl rfl (by kernel_rfl) (by decide) (by kernel_rfl) (by kernel_rfl) (by kernel_rfl) (fun _ _ _ h => h) HS1.out (by rfl) (fun W hW => by obtain ⟨s0, s1, s2, s3⟩ := hW; go_simp) ?_
  simp only [Act.put, List.setIfInBounds_toArray, List.set_cons_zero, List.set_cons_succ]
  refine wpL_one 6 rfl (by kernel_rfl) (by rfl) (fun K hK => ?_)
  go_simp
  refine hK.out _ _ (fun _ => HS2.out) ?_
  clear hK K
  refine wpL_one 7 rfl (by kernel_rfl) (by rfl) (fun K hK => ?_)
  refine wp_app_run (.tmp 34) (.tmp 36) 27 rfl _ _ (by rfl) (by rfl) _ rfl _ _ HRun.out ?_
  refine hK.out _ _ (fun _ => HS3u.out) ?_
  clear hK K
  simp only [Act.put, List.setIfInBounds_toArray]
  refine wpL_take 8 38 (pq r) [9] rfl rfl (by kernel_rfl) (by decide) (by kernel_rfl) (by kernel_rfl) (by kernel_rfl) (fun _ _ _ h => h) HS3u.out (by rfl) (fun W hW => by obtain ⟨s0, s1, s2, s3⟩ := hW; go_simp) ?_
  simp only [Act.put]
  refine wpL_take 9 39 (pq r) [] rfl rfl (by kernel_rfl) (by decide) (by kernel_rfl) (by kernel_rfl) (by kernel_rfl) (fun _ _ _ h => h) HS3u.out (by rfl) (fun W hW => by obtain ⟨s0, s1, s2, s3⟩ := hW; go_simp) ?_
  simp only [Act.put]
  have l3 := HS3l.out
  have f3 := HS3f.out
  refine wpL_one 10 rfl (by kernel_rfl) (by rfl) (fun K hK => ?_)
  go_simp
  refine hK.out _ _ (fun h => absurd rfl h) ?_
  clear hK K
  refine wpL_done (by kernel_rfl) ?_
  refine NoPanic.normal ?_
  clear l3 f3
  go_wp2_with fail
  go_ret
  exact ⟨rfl, HF.out⟩
end Go.Proofs.Ytmijjgpelihhnaa
