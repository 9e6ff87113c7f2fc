/- imagolaw09.Pair's does: a drop; no statement is proved in this text. -/
import Derived.Test.YtcffodkpflfeoaaDoes0
namespace Go.Proofs.Ytcffodkpflfeoaa
open Go.ChangeShapes Go.WideShapes Go.ChangeAt Go.RowKit Go.Deep
attribute [local go_sem ↓] Go.wp_at_zero Go.wp_at_succ

set_option maxRecDepth 100000 in
set_option maxHeartbeats 6400000 in
theorem does_drop {w : World} {base P b r : Nat} {T : List Pl} {L : List Rw} (h : Pw w base P b r T L) (hl : L.length ≤ 800) (x : Sp) (hw : x.what = 4) : DoesTo w base P b r L x := by
  unfold DoesTo
  have HW := hid hw
  clear hw
  have hlo : base ≤ w.heap.size := by have := h.lt; have := h.lo; omega
  obtain ⟨V, hV⟩ : ∃ V, V = w.alloc (spO x) := ⟨_, rfl⟩
  have HV : Hid (w.alloc (.cells #[i64 x.what, i64 x.n, i64 x.env, i64 x.tt, i64 x.rights, .bool x.by_, i64 x.c.env, i64 x.c.kind, i64 x.c.num, i64 x.c.rts, i64 x.wrong] 38) = V) := hV.symm
  have hbV : Below w.heap.size w V := by rw [hV]; exact below_one w _
  have HX : Hid (V.heap[w.heap.size]? = some (spO x)) := by rw [hV]; exact heap_last w _
  have HPk := hid (pick_any (h.below hbV) (by omega) x)
  have HPw := hid (h.below hbV)
  have HBV := hid hbV
  clear h hV hbV
  generalize pkS L x = hs at *
  generalize pkG L x = hg at *
  generalize pkE L x = ev at *
  go_enter Try.func10, Try.ntmps10
  go_upto_region 1 with fail
  rw [HV.out]
  go_wp2_with (refine wpList_load_mid rfl 38 (.tmp 3) rfl w.heap.size 0 rfl x.c' _ (by exact spO_range HX.out) Try.underlying38 rfl info38 ?_)
  refine HPk.out.mono ?_
  rintro e w2 ⟨rfl, hb2⟩
  have hB2 : Below w.heap.size w w2 := HBV.out.trans (hb2.mono HBV.out.size)
  have HB3 : Hid (Below w.heap.size w (w2.alloc (hO hs hg))) := hB2.alloc hB2.size _
  have HX3 : Hid ((w2.alloc (hO hs hg)).heap[w.heap.size]? = some (spO x)) := blk_alloc (blk_below HX.out hb2) _
  have HY3 : Hid ((w2.alloc (hO hs hg)).heap[w2.heap.size]? = some (hO hs hg)) := heap_last w2 _
  have HP3 : Hid (Pw (w2.alloc (hO hs hg)) base P b r T L) := (HPw.out.below hb2).below (below_one _ _)
  clear hb2 hB2
  go_upto_region 2 with fail
  have hY : w.heap.size < w2.heap.size := by have := HX3.out; have h1 := blk_lt this; have h2 := HY3.out; rcases Nat.lt_or_ge w.heap.size w2.heap.size with h | h; exact h; have e : w.heap.size = w2.heap.size := by simp at h1; omega
                                             rw [e, h2] at this; simp at this
  unfold hO at HB3 HX3 HY3 HP3
  generalize w2.alloc (.cells #[i64 hs, i64 hg] 42) = W3 at *
  generalize w2.heap.size = Y at *
  clear HPk HPw HBV HX HV V
  have x0 : W3.cell? ⟨w.heap.size, 0, none⟩ = some (i64 4) := by have h0 : W3.cell? ⟨w.heap.size, 0, none⟩ = some (i64 x.what) := blk_cell HX3.out 0; rw [HW.out] at h0; exact h0
  go_upto_region 12 with fail
  clear x0
  -- what both calls answer
  have hboth : ∃ (M E : Int) (T' : List Pl) (K : Nat → Bool), Rel T' (offs K L) ∧ (∀ W, Tb W base b T → Calls Try.prog 22 #[pq b, i64 ev, .agg #[i64 hs, i64 hg]] W fun e w' => e = .returned (.tuple #[i64 M, i64 E]) ∧ Tb w' base b T' ∧ Fr base [72] W w') ∧ (∀ W, Rb W base r L → Calls Try.prog 29 #[pq r, i64 ev, .agg #[i64 hs, i64 hg], .bool true] W fun e w' => e = .returned (.tuple #[i64 M, i64 E]) ∧ Rb w' base r (offs K L) ∧ Fr base [30, 66] W w') := by
    have hrel := HP3.out.rel
    rcases hrel.look ev hs hg with ⟨h1, h2⟩ | ⟨k, q, s, h1, h2, h3, h4, h5, h6, h7, h8, h9⟩
    · refine ⟨0, 90, T, fun _ => false, by rw [offs_none (fun _ _ => rfl)]; exact hrel, fun W hW => ?_, fun W hW => ?_⟩
      · have hlk := looks_tb hW ev hs hg
        rw [h1] at hlk
        exact (drop_stale W _ ev hs hg hlk).mono fun e w' ⟨he, hb⟩ => ⟨he, hW.below hb, Fr.of_below _ hb (by have := hW.lt; have := hW.lo; omega)⟩
      · rw [offs_none (fun _ _ => rfl)]
        exact (rdrop_stale hW (by omega) ev hs hg true h2).mono fun e w' ⟨he, hb⟩ => ⟨he, hW.below hb, Fr.of_below _ hb (by have := hW.lt; have := hW.lo; omega)⟩
    · obtain ⟨hr1, hr2⟩ := hrel.drop h3 h4
      rw [h7] at hr1 hr2
      refine ⟨((gnL T (mDrop hs) (L.length + 2) 128).length : Nat), 0, _, _, hr1, fun W hW => ?_, fun W hW => ?_⟩
      · have hlk := looks_tb hW ev hs hg
        rw [h1] at hlk
        have := drop_ok hW ev hs hg q.c hlk (rkR L) hrel.rk (L.length + 2) (rkR_le L)
        exact this.mono fun e w' ⟨he, ht, hto⟩ => ⟨he, ht, fr_t hW hto⟩
      · have := rdrop_ok hW (by omega) hrel.fw ev hs hg true k h2
        rw [← hr2] at this
        exact this
  obtain ⟨M, E, T', K', hrel', hc1, hc2⟩ := hboth
  have HREL := hid hrel'
  have HC1 := hid hc1
  have HC2 := hid hc2
  clear hrel' hc1 hc2
  have HS : Hid (SqW w.heap.size Y P b r x hs hg W3.drew) := (SqW.of HX3.out HY3.out HP3.out).drew
  refine wp_region_noPanic ?_
  refine wp_region_last (SqW w.heap.size Y P b r x hs hg) 11 (by kernel_rfl) ?_
  refine wpL_take 0 108 (pq P) [] rfl rfl (by kernel_rfl) (by decide) (by kernel_rfl) (by kernel_rfl) (by kernel_rfl) (fun _ _ _ h => h) HS.out (by rfl) (fun W hW => by have x1 := blk_cell hW.x 1; have x2 := blk_cell hW.x 2; have x3 := blk_cell hW.x 3; have x4 := blk_cell hW.x 4; have x6 := blk_cell hW.x 6; have x7 := blk_cell hW.x 7; have x8 := blk_cell hW.x 8; have x9 := blk_cell hW.x 9; have y0 := blk_cell hW.y 0; have y1 := blk_cell hW.y 1; have p0 := hW.p0; have p1 := hW.p1; go_simp) ?_
  simp only [Act.put, List.setIfInBounds_toArray, List.set_cons_zero, List.set_cons_succ]
  refine wpL_take 1 109 (pq P) [] rfl rfl (by kernel_rfl) (by decide) (by kernel_rfl) (by kernel_rfl) (by kernel_rfl) (fun _ _ _ h => h) HS.out (by rfl) (fun W hW => by have x1 := blk_cell hW.x 1; have x2 := blk_cell hW.x 2; have x3 := blk_cell hW.x 3; have x4 := blk_cell hW.x 4; have x6 := blk_cell hW.x 6; have x7 := blk_cell hW.x 7; have x8 := blk_cell hW.x 8; have x9 := blk_cell hW.x 9; have y0 := blk_cell hW.y 0; have y1 := blk_cell hW.y 1; have p0 := hW.p0; have p1 := hW.p1; go_simp) ?_
  simp only [Act.put, List.setIfInBounds_toArray, List.set_cons_zero, List.set_cons_succ]
  refine wpL_take 2 110 (pq P) [] rfl rfl (by kernel_rfl) (by decide) (by kernel_rfl) (by kernel_rfl) (by kernel_rfl) (fun _ _ _ h => h) HS.out (by rfl) (fun W hW => by have x1 := blk_cell hW.x 1; have x2 := blk_cell hW.x 2; have x3 := blk_cell hW.x 3; have x4 := blk_cell hW.x 4; have x6 := blk_cell hW.x 6; have x7 := blk_cell hW.x 7; have x8 := blk_cell hW.x 8; have x9 := blk_cell hW.x 9; have y0 := blk_cell hW.y 0; have y1 := blk_cell hW.y 1; have p0 := hW.p0; have p1 := hW.p1; go_simp) ?_
  simp only [Act.put, List.setIfInBounds_toArray, List.set_cons_zero, List.set_cons_succ]
  refine wpL_take 3 111 (pq b) [] rfl rfl (by kernel_rfl) (by decide) (by kernel_rfl) (by kernel_rfl) (by kernel_rfl) (fun _ _ _ h => h) HS.out (by rfl) (fun W hW => by have x1 := blk_cell hW.x 1; have x2 := blk_cell hW.x 2; have x3 := blk_cell hW.x 3; have x4 := blk_cell hW.x 4; have x6 := blk_cell hW.x 6; have x7 := blk_cell hW.x 7; have x8 := blk_cell hW.x 8; have x9 := blk_cell hW.x 9; have y0 := blk_cell hW.y 0; have y1 := blk_cell hW.y 1; have p0 := hW.p0; have p1 := hW.p1; go_simp) ?_
  simp only [Act.put, List.setIfInBounds_toArray, List.set_cons_zero, List.set_cons_succ]
  refine wpL_take 4 112 (i64 ev) [] rfl rfl (by kernel_rfl) (by decide) (by kernel_rfl) (by kernel_rfl) (by kernel_rfl) (fun _ _ _ h => h) HS.out (by rfl) (fun W hW => by have x1 := blk_cell hW.x 1; have x2 := blk_cell hW.x 2; have x3 := blk_cell hW.x 3; have x4 := blk_cell hW.x 4; have x6 := blk_cell hW.x 6; have x7 := blk_cell hW.x 7; have x8 := blk_cell hW.x 8; have x9 := blk_cell hW.x 9; have y0 := blk_cell hW.y 0; have y1 := blk_cell hW.y 1; have p0 := hW.p0; have p1 := hW.p1; go_simp) ?_
  simp only [Act.put, List.setIfInBounds_toArray, List.set_cons_zero, List.set_cons_succ]
  refine wpL_take 5 113 (.agg #[i64 hs, i64 hg]) [] rfl rfl (by kernel_rfl) (by decide) (by kernel_rfl) (by kernel_rfl) (by kernel_rfl) (fun _ _ _ h => h) HS.out (by rfl) (fun W hW => by have x1 := blk_cell hW.x 1; have x2 := blk_cell hW.x 2; have x3 := blk_cell hW.x 3; have x4 := blk_cell hW.x 4; have x6 := blk_cell hW.x 6; have x7 := blk_cell hW.x 7; have x8 := blk_cell hW.x 8; have x9 := blk_cell hW.x 9; have y0 := blk_cell hW.y 0; have y1 := blk_cell hW.y 1; have p0 := hW.p0; have p1 := hW.p1; go_simp) ?_
  simp only [Act.put, List.setIfInBounds_toArray, List.set_cons_zero, List.set_cons_succ]
  refine wpL_one 6 rfl (by kernel_rfl) (by rfl) (fun K hK => ?_)
  go_simp
  refine (HC1.out W3.drew HP3.out.drew.tb).mono ?_
  rintro e w4 ⟨rfl, hT4, hf4⟩
  have HT4 := hid hT4
  have HS2 : Hid (SqW w.heap.size Y P b r x hs hg w4) := HS.out.fr hf4 (by rfl) (by rfl) (by rfl)
  have HR4 : Hid (Rb w4 base r L) := HP3.out.drew.rb.fr hf4 (by rfl) (by rfl)
  have HF4 : Hid (Fr base [72] W3 w4) := Fr.of_drew hf4
  clear hT4 hf4
  go_simp
  refine hK.out _ _ (fun _ => HS2.out) ?_
  clear hK K
  refine wpL_take 7 107 (.tuple #[i64 M, i64 E]) [] rfl rfl (by kernel_rfl) (by decide) (by kernel_rfl) (by kernel_rfl) (by kernel_rfl) (fun _ _ _ h => h) HS2.out (by rfl) (fun W hW => by have x1 := blk_cell hW.x 1; have x2 := blk_cell hW.x 2; have x3 := blk_cell hW.x 3; have x4 := blk_cell hW.x 4; have x6 := blk_cell hW.x 6; have x7 := blk_cell hW.x 7; have x8 := blk_cell hW.x 8; have x9 := blk_cell hW.x 9; have y0 := blk_cell hW.y 0; have y1 := blk_cell hW.y 1; have p0 := hW.p0; have p1 := hW.p1; go_simp) ?_
  simp only [Act.put, List.setIfInBounds_toArray, List.set_cons_zero, List.set_cons_succ]
  refine wpL_take 8 115 (i64 M) [] rfl rfl (by kernel_rfl) (by decide) (by kernel_rfl) (by kernel_rfl) (by kernel_rfl) (fun _ _ _ h => h) HS2.out (by rfl) (fun W hW => by have x1 := blk_cell hW.x 1; have x2 := blk_cell hW.x 2; have x3 := blk_cell hW.x 3; have x4 := blk_cell hW.x 4; have x6 := blk_cell hW.x 6; have x7 := blk_cell hW.x 7; have x8 := blk_cell hW.x 8; have x9 := blk_cell hW.x 9; have y0 := blk_cell hW.y 0; have y1 := blk_cell hW.y 1; have p0 := hW.p0; have p1 := hW.p1; go_simp) ?_
  simp only [Act.put, List.setIfInBounds_toArray, List.set_cons_zero, List.set_cons_succ]
  refine wpL_take 9 116 (i64 E) [] rfl rfl (by kernel_rfl) (by decide) (by kernel_rfl) (by kernel_rfl) (by kernel_rfl) (fun _ _ _ h => h) HS2.out (by rfl) (fun W hW => by have x1 := blk_cell hW.x 1; have x2 := blk_cell hW.x 2; have x3 := blk_cell hW.x 3; have x4 := blk_cell hW.x 4; have x6 := blk_cell hW.x 6; have x7 := blk_cell hW.x 7; have x8 := blk_cell hW.x 8; have x9 := blk_cell hW.x 9; have y0 := blk_cell hW.y 0; have y1 := blk_cell hW.y 1; have p0 := hW.p0; have p1 := hW.p1; go_simp) ?_
  simp only [Act.put, List.setIfInBounds_toArray, List.set_cons_zero, List.set_cons_succ]
  refine wpL_one 10 rfl (by kernel_rfl) (by rfl) (fun K hK => ?_)
  go_simp
  refine hK.out _ _ (fun _ => HS2.out) ?_
  clear hK K
  refine wpL_one 11 rfl (by kernel_rfl) (by rfl) (fun K hK => ?_)
  go_simp
  refine hK.out _ _ (fun h => absurd rfl h) ?_
  clear hK K
  refine wpL_done (by kernel_rfl) ?_
  refine NoPanic.normal ?_
  go_upto_region 13 with fail
  have HS3 : Hid (SqW w.heap.size Y P b r x hs hg w4.drew) := HS2.out.drew
  refine wp_region_noPanic ?_
  refine wp_region_last (SqW w.heap.size Y P b r x hs hg) 12 (by kernel_rfl) ?_
  refine wpL_take 0 118 (pq P) [] rfl rfl (by kernel_rfl) (by decide) (by kernel_rfl) (by kernel_rfl) (by kernel_rfl) (fun _ _ _ h => h) HS3.out (by rfl) (fun W hW => by have x1 := blk_cell hW.x 1; have x2 := blk_cell hW.x 2; have x3 := blk_cell hW.x 3; have x4 := blk_cell hW.x 4; have x6 := blk_cell hW.x 6; have x7 := blk_cell hW.x 7; have x8 := blk_cell hW.x 8; have x9 := blk_cell hW.x 9; have y0 := blk_cell hW.y 0; have y1 := blk_cell hW.y 1; have p0 := hW.p0; have p1 := hW.p1; go_simp) ?_
  simp only [Act.put, List.setIfInBounds_toArray, List.set_cons_zero, List.set_cons_succ]
  refine wpL_take 1 119 (pq P) [] rfl rfl (by kernel_rfl) (by decide) (by kernel_rfl) (by kernel_rfl) (by kernel_rfl) (fun _ _ _ h => h) HS3.out (by rfl) (fun W hW => by have x1 := blk_cell hW.x 1; have x2 := blk_cell hW.x 2; have x3 := blk_cell hW.x 3; have x4 := blk_cell hW.x 4; have x6 := blk_cell hW.x 6; have x7 := blk_cell hW.x 7; have x8 := blk_cell hW.x 8; have x9 := blk_cell hW.x 9; have y0 := blk_cell hW.y 0; have y1 := blk_cell hW.y 1; have p0 := hW.p0; have p1 := hW.p1; go_simp) ?_
  simp only [Act.put, List.setIfInBounds_toArray, List.set_cons_zero, List.set_cons_succ]
  refine wpL_take 2 120 (.pointer (some ⟨P, 1, none⟩)) [] rfl rfl (by kernel_rfl) (by decide) (by kernel_rfl) (by kernel_rfl) (by kernel_rfl) (fun _ _ _ h => h) HS3.out (by rfl) (fun W hW => by have x1 := blk_cell hW.x 1; have x2 := blk_cell hW.x 2; have x3 := blk_cell hW.x 3; have x4 := blk_cell hW.x 4; have x6 := blk_cell hW.x 6; have x7 := blk_cell hW.x 7; have x8 := blk_cell hW.x 8; have x9 := blk_cell hW.x 9; have y0 := blk_cell hW.y 0; have y1 := blk_cell hW.y 1; have p0 := hW.p0; have p1 := hW.p1; go_simp) ?_
  simp only [Act.put, List.setIfInBounds_toArray, List.set_cons_zero, List.set_cons_succ]
  refine wpL_take 3 121 (pq r) [] rfl rfl (by kernel_rfl) (by decide) (by kernel_rfl) (by kernel_rfl) (by kernel_rfl) (fun _ _ _ h => h) HS3.out (by rfl) (fun W hW => by have x1 := blk_cell hW.x 1; have x2 := blk_cell hW.x 2; have x3 := blk_cell hW.x 3; have x4 := blk_cell hW.x 4; have x6 := blk_cell hW.x 6; have x7 := blk_cell hW.x 7; have x8 := blk_cell hW.x 8; have x9 := blk_cell hW.x 9; have y0 := blk_cell hW.y 0; have y1 := blk_cell hW.y 1; have p0 := hW.p0; have p1 := hW.p1; go_simp) ?_
  simp only [Act.put, List.setIfInBounds_toArray, List.set_cons_zero, List.set_cons_succ]
  refine wpL_take 4 122 (i64 ev) [] rfl rfl (by kernel_rfl) (by decide) (by kernel_rfl) (by kernel_rfl) (by kernel_rfl) (fun _ _ _ h => h) HS3.out (by rfl) (fun W hW => by have x1 := blk_cell hW.x 1; have x2 := blk_cell hW.x 2; have x3 := blk_cell hW.x 3; have x4 := blk_cell hW.x 4; have x6 := blk_cell hW.x 6; have x7 := blk_cell hW.x 7; have x8 := blk_cell hW.x 8; have x9 := blk_cell hW.x 9; have y0 := blk_cell hW.y 0; have y1 := blk_cell hW.y 1; have p0 := hW.p0; have p1 := hW.p1; go_simp) ?_
  simp only [Act.put, List.setIfInBounds_toArray, List.set_cons_zero, List.set_cons_succ]
  refine wpL_take 5 123 (.agg #[i64 hs, i64 hg]) [] rfl rfl (by kernel_rfl) (by decide) (by kernel_rfl) (by kernel_rfl) (by kernel_rfl) (fun _ _ _ h => h) HS3.out (by rfl) (fun W hW => by have x1 := blk_cell hW.x 1; have x2 := blk_cell hW.x 2; have x3 := blk_cell hW.x 3; have x4 := blk_cell hW.x 4; have x6 := blk_cell hW.x 6; have x7 := blk_cell hW.x 7; have x8 := blk_cell hW.x 8; have x9 := blk_cell hW.x 9; have y0 := blk_cell hW.y 0; have y1 := blk_cell hW.y 1; have p0 := hW.p0; have p1 := hW.p1; go_simp) ?_
  simp only [Act.put, List.setIfInBounds_toArray, List.set_cons_zero, List.set_cons_succ]
  refine wpL_one 6 rfl (by kernel_rfl) (by rfl) (fun K hK => ?_)
  go_simp
  refine (ref_ok _ hs hg).mono ?_
  rintro e w5 ⟨rfl, hb5⟩
  have HS4 : Hid (SqW w.heap.size Y P b r x hs hg w5) := HS3.out.below hb5
  have HR5 : Hid (Rb w5 base r L) := (HR4.out.below (w' := w4.drew) ⟨rfl, rfl, rfl, Nat.le_refl _, fun _ _ => rfl⟩).below hb5
  have HT5 : Hid (Tb w5 base b T') := (HT4.out.below (w' := w4.drew) ⟨rfl, rfl, rfl, Nat.le_refl _, fun _ _ => rfl⟩).below hb5
  have HF5 : Hid (Fr base [72] W3 w5) := HF4.out.trans (Fr.of_drew (Fr.of_below (w := w4.drew) _ hb5 (Nat.le_trans (Nat.le_trans hlo HB3.out.size) HF4.out.size)))
  clear hb5
  go_simp
  refine hK.out _ _ (fun _ => HS4.out) ?_
  clear hK K
  refine wpL_one 7 rfl (by kernel_rfl) (by rfl) (fun K hK => ?_)
  go_simp
  refine (HC2.out w5 HR5.out).mono ?_
  rintro e w6 ⟨rfl, hR6, hf6⟩
  have HR6 := hid hR6
  have HS5 : Hid (SqW w.heap.size Y P b r x hs hg w6) := HS4.out.fr hf6 (by rfl) (by rfl) (by rfl)
  have HT6 : Hid (Tb w6 base b T') := HT5.out.fr hf6 (by rfl)
  have HF6 : Hid (Fr base FD w w6) := ((Fr.of_below _ HB3.out hlo).trans (HF5.out.mono (fun o ho => by
    cases o with
    | cells C t fr => simp [keeps] at ho ⊢; exact ho.1
    | _ => rfl))).trans (fd_r hf6)
  have HKp : Hid (∀ (k : Nat) (C : Array Value) (t : TypeId), t = 34 ∨ t = 42 ∨ t = 3 → W3.heap[k]? = some (.cells C t) → w6.heap[k]? = some (.cells C t)) := fun k C t ht hC => hf6.kept k _ (HF5.out.kept k _ hC (by rcases ht with rfl | rfl | rfl <;> rfl)) (by rcases ht with rfl | rfl | rfl <;> rfl)
  clear hR6 hf6
  go_simp
  refine hK.out _ _ (fun _ => HS5.out) ?_
  clear hK K
  refine wpL_take 8 117 (.tuple #[i64 M, i64 E]) [] rfl rfl (by kernel_rfl) (by decide) (by kernel_rfl) (by kernel_rfl) (by kernel_rfl) (fun _ _ _ h => h) HS5.out (by rfl) (fun W hW => by have x1 := blk_cell hW.x 1; have x2 := blk_cell hW.x 2; have x3 := blk_cell hW.x 3; have x4 := blk_cell hW.x 4; have x6 := blk_cell hW.x 6; have x7 := blk_cell hW.x 7; have x8 := blk_cell hW.x 8; have x9 := blk_cell hW.x 9; have y0 := blk_cell hW.y 0; have y1 := blk_cell hW.y 1; have p0 := hW.p0; have p1 := hW.p1; go_simp) ?_
  simp only [Act.put, List.setIfInBounds_toArray, List.set_cons_zero, List.set_cons_succ]
  refine wpL_take 9 126 (i64 M) [] rfl rfl (by kernel_rfl) (by decide) (by kernel_rfl) (by kernel_rfl) (by kernel_rfl) (fun _ _ _ h => h) HS5.out (by rfl) (fun W hW => by have x1 := blk_cell hW.x 1; have x2 := blk_cell hW.x 2; have x3 := blk_cell hW.x 3; have x4 := blk_cell hW.x 4; have x6 := blk_cell hW.x 6; have x7 := blk_cell hW.x 7; have x8 := blk_cell hW.x 8; have x9 := blk_cell hW.x 9; have y0 := blk_cell hW.y 0; have y1 := blk_cell hW.y 1; have p0 := hW.p0; have p1 := hW.p1; go_simp) ?_
  simp only [Act.put, List.setIfInBounds_toArray, List.set_cons_zero, List.set_cons_succ]
  refine wpL_take 10 127 (i64 E) [] rfl rfl (by kernel_rfl) (by decide) (by kernel_rfl) (by kernel_rfl) (by kernel_rfl) (fun _ _ _ h => h) HS5.out (by rfl) (fun W hW => by have x1 := blk_cell hW.x 1; have x2 := blk_cell hW.x 2; have x3 := blk_cell hW.x 3; have x4 := blk_cell hW.x 4; have x6 := blk_cell hW.x 6; have x7 := blk_cell hW.x 7; have x8 := blk_cell hW.x 8; have x9 := blk_cell hW.x 9; have y0 := blk_cell hW.y 0; have y1 := blk_cell hW.y 1; have p0 := hW.p0; have p1 := hW.p1; go_simp) ?_
  simp only [Act.put, List.setIfInBounds_toArray, List.set_cons_zero, List.set_cons_succ]
  refine wpL_one 11 rfl (by kernel_rfl) (by rfl) (fun K hK => ?_)
  go_simp
  refine hK.out _ _ (fun _ => HS5.out) ?_
  clear hK K
  refine wpL_one 12 rfl (by kernel_rfl) (by rfl) (fun K hK => ?_)
  go_simp
  refine hK.out _ _ (fun h => absurd rfl h) ?_
  clear hK K
  refine wpL_done (by kernel_rfl) ?_
  refine NoPanic.normal ?_
  go_wp2_with fail
  go_ret
  exact ⟨by simp, ⟨T', offs K' L, HP3.out.turn HKp.out HT6.out HR6.out HREL.out, mono_offs K' L, by rw [offs_len]; omega⟩, HF6.out⟩
set_option maxRecDepth 100000 in
set_option maxHeartbeats 6400000 in
theorem does_revoke {w : World} {base P b r : Nat} {T : List Pl} {L : List Rw} (h : Pw w base P b r T L) (hl : L.length ≤ 800) (x : Sp) (hw : x.what = 5) : DoesTo w base P b r L x := by
  unfold DoesTo
  have HW := hid hw
  clear hw
  have hlo : base ≤ w.heap.size := by have := h.lt; have := h.lo; omega
  obtain ⟨V, hV⟩ : ∃ V, V = w.alloc (spO x) := ⟨_, rfl⟩
  have HV : Hid (w.alloc (.cells #[i64 x.what, i64 x.n, i64 x.env, i64 x.tt, i64 x.rights, .bool x.by_, i64 x.c.env, i64 x.c.kind, i64 x.c.num, i64 x.c.rts, i64 x.wrong] 38) = V) := hV.symm
  have hbV : Below w.heap.size w V := by rw [hV]; exact below_one w _
  have HX : Hid (V.heap[w.heap.size]? = some (spO x)) := by rw [hV]; exact heap_last w _
  have HPk := hid (pick_any (h.below hbV) (by omega) x)
  have HPw := hid (h.below hbV)
  have HBV := hid hbV
  clear h hV hbV
  generalize pkS L x = hs at *
  generalize pkG L x = hg at *
  generalize pkE L x = ev at *
  go_enter Try.func10, Try.ntmps10
  go_upto_region 1 with fail
  rw [HV.out]
  go_wp2_with (refine wpList_load_mid rfl 38 (.tmp 3) rfl w.heap.size 0 rfl x.c' _ (by exact spO_range HX.out) Try.underlying38 rfl info38 ?_)
  refine HPk.out.mono ?_
  rintro e w2 ⟨rfl, hb2⟩
  have hB2 : Below w.heap.size w w2 := HBV.out.trans (hb2.mono HBV.out.size)
  have HB3 : Hid (Below w.heap.size w (w2.alloc (hO hs hg))) := hB2.alloc hB2.size _
  have HX3 : Hid ((w2.alloc (hO hs hg)).heap[w.heap.size]? = some (spO x)) := blk_alloc (blk_below HX.out hb2) _
  have HY3 : Hid ((w2.alloc (hO hs hg)).heap[w2.heap.size]? = some (hO hs hg)) := heap_last w2 _
  have HP3 : Hid (Pw (w2.alloc (hO hs hg)) base P b r T L) := (HPw.out.below hb2).below (below_one _ _)
  clear hb2 hB2
  go_upto_region 2 with fail
  have hY : w.heap.size < w2.heap.size := by have := HX3.out; have h1 := blk_lt this; have h2 := HY3.out; rcases Nat.lt_or_ge w.heap.size w2.heap.size with h | h; exact h; have e : w.heap.size = w2.heap.size := by simp at h1; omega
                                             rw [e, h2] at this; simp at this
  unfold hO at HB3 HX3 HY3 HP3
  generalize w2.alloc (.cells #[i64 hs, i64 hg] 42) = W3 at *
  generalize w2.heap.size = Y at *
  clear HPk HPw HBV HX HV V
  have x0 : W3.cell? ⟨w.heap.size, 0, none⟩ = some (i64 5) := by have h0 : W3.cell? ⟨w.heap.size, 0, none⟩ = some (i64 x.what) := blk_cell HX3.out 0; rw [HW.out] at h0; exact h0
  go_upto_region 16 with fail
  clear x0
  -- what both calls answer
  have hboth : ∃ (M E : Int) (T' : List Pl) (K : Nat → Bool), Rel T' (offs K L) ∧ (∀ W, Tb W base b T → Calls Try.prog 23 #[pq b, i64 ev, .agg #[i64 hs, i64 hg]] W fun e w' => e = .returned (.tuple #[i64 M, i64 E]) ∧ Tb w' base b T' ∧ Fr base [72] W w') ∧ (∀ W, Rb W base r L → Calls Try.prog 29 #[pq r, i64 ev, .agg #[i64 hs, i64 hg], .bool false] W fun e w' => e = .returned (.tuple #[i64 M, i64 E]) ∧ Rb w' base r (offs K L) ∧ Fr base [30, 66] W w') := by
    have hrel := HP3.out.rel
    rcases hrel.look ev hs hg with ⟨h1, h2⟩ | ⟨k, q, s, h1, h2, h3, h4, h5, h6, h7, h8, h9⟩
    · refine ⟨0, 90, T, fun _ => false, by rw [offs_none (fun _ _ => rfl)]; exact hrel, fun W hW => ?_, fun W hW => ?_⟩
      · have hlk := looks_tb hW ev hs hg
        rw [h1] at hlk
        exact (revoke_stale W _ ev hs hg hlk).mono fun e w' ⟨he, hb⟩ => ⟨he, hW.below hb, Fr.of_below _ hb (by have := hW.lt; have := hW.lo; omega)⟩
      · rw [offs_none (fun _ _ => rfl)]
        exact (rdrop_stale hW (by omega) ev hs hg false h2).mono fun e w' ⟨he, hb⟩ => ⟨he, hW.below hb, Fr.of_below _ hb (by have := hW.lt; have := hW.lo; omega)⟩
    · obtain ⟨hr1, hr2⟩ := hrel.revoke h3 h4
      rw [h7] at hr1 hr2
      refine ⟨((gnL T (mRev T hs) (L.length + 2) 128).length : Nat), 0, _, _, hr1, fun W hW => ?_, fun W hW => ?_⟩
      · have hlk := looks_tb hW ev hs hg
        rw [h1] at hlk
        have := revoke_ok hW ev hs hg q.c hlk (rkR L) hrel.rk (L.length + 2) (rkR_le L)
        exact this.mono fun e w' ⟨he, ht, hto⟩ => ⟨he, ht, fr_t hW hto⟩
      · have := rdrop_ok hW (by omega) hrel.fw ev hs hg false k h2
        rw [← hr2] at this
        exact this
  obtain ⟨M, E, T', K', hrel', hc1, hc2⟩ := hboth
  have HREL := hid hrel'
  have HC1 := hid hc1
  have HC2 := hid hc2
  clear hrel' hc1 hc2
  have HS : Hid (SqW w.heap.size Y P b r x hs hg W3.drew) := (SqW.of HX3.out HY3.out HP3.out).drew
  refine wp_region_noPanic ?_
  refine wp_region_last (SqW w.heap.size Y P b r x hs hg) 11 (by kernel_rfl) ?_
  refine wpL_take 0 139 (pq P) [] rfl rfl (by kernel_rfl) (by decide) (by kernel_rfl) (by kernel_rfl) (by kernel_rfl) (fun _ _ _ h => h) HS.out (by rfl) (fun W hW => by have x1 := blk_cell hW.x 1; have x2 := blk_cell hW.x 2; have x3 := blk_cell hW.x 3; have x4 := blk_cell hW.x 4; have x6 := blk_cell hW.x 6; have x7 := blk_cell hW.x 7; have x8 := blk_cell hW.x 8; have x9 := blk_cell hW.x 9; have y0 := blk_cell hW.y 0; have y1 := blk_cell hW.y 1; have p0 := hW.p0; have p1 := hW.p1; go_simp) ?_
  simp only [Act.put, List.setIfInBounds_toArray, List.set_cons_zero, List.set_cons_succ]
  refine wpL_take 1 140 (pq P) [] rfl rfl (by kernel_rfl) (by decide) (by kernel_rfl) (by kernel_rfl) (by kernel_rfl) (fun _ _ _ h => h) HS.out (by rfl) (fun W hW => by have x1 := blk_cell hW.x 1; have x2 := blk_cell hW.x 2; have x3 := blk_cell hW.x 3; have x4 := blk_cell hW.x 4; have x6 := blk_cell hW.x 6; have x7 := blk_cell hW.x 7; have x8 := blk_cell hW.x 8; have x9 := blk_cell hW.x 9; have y0 := blk_cell hW.y 0; have y1 := blk_cell hW.y 1; have p0 := hW.p0; have p1 := hW.p1; go_simp) ?_
  simp only [Act.put, List.setIfInBounds_toArray, List.set_cons_zero, List.set_cons_succ]
  refine wpL_take 2 141 (pq P) [] rfl rfl (by kernel_rfl) (by decide) (by kernel_rfl) (by kernel_rfl) (by kernel_rfl) (fun _ _ _ h => h) HS.out (by rfl) (fun W hW => by have x1 := blk_cell hW.x 1; have x2 := blk_cell hW.x 2; have x3 := blk_cell hW.x 3; have x4 := blk_cell hW.x 4; have x6 := blk_cell hW.x 6; have x7 := blk_cell hW.x 7; have x8 := blk_cell hW.x 8; have x9 := blk_cell hW.x 9; have y0 := blk_cell hW.y 0; have y1 := blk_cell hW.y 1; have p0 := hW.p0; have p1 := hW.p1; go_simp) ?_
  simp only [Act.put, List.setIfInBounds_toArray, List.set_cons_zero, List.set_cons_succ]
  refine wpL_take 3 142 (pq b) [] rfl rfl (by kernel_rfl) (by decide) (by kernel_rfl) (by kernel_rfl) (by kernel_rfl) (fun _ _ _ h => h) HS.out (by rfl) (fun W hW => by have x1 := blk_cell hW.x 1; have x2 := blk_cell hW.x 2; have x3 := blk_cell hW.x 3; have x4 := blk_cell hW.x 4; have x6 := blk_cell hW.x 6; have x7 := blk_cell hW.x 7; have x8 := blk_cell hW.x 8; have x9 := blk_cell hW.x 9; have y0 := blk_cell hW.y 0; have y1 := blk_cell hW.y 1; have p0 := hW.p0; have p1 := hW.p1; go_simp) ?_
  simp only [Act.put, List.setIfInBounds_toArray, List.set_cons_zero, List.set_cons_succ]
  refine wpL_take 4 143 (i64 ev) [] rfl rfl (by kernel_rfl) (by decide) (by kernel_rfl) (by kernel_rfl) (by kernel_rfl) (fun _ _ _ h => h) HS.out (by rfl) (fun W hW => by have x1 := blk_cell hW.x 1; have x2 := blk_cell hW.x 2; have x3 := blk_cell hW.x 3; have x4 := blk_cell hW.x 4; have x6 := blk_cell hW.x 6; have x7 := blk_cell hW.x 7; have x8 := blk_cell hW.x 8; have x9 := blk_cell hW.x 9; have y0 := blk_cell hW.y 0; have y1 := blk_cell hW.y 1; have p0 := hW.p0; have p1 := hW.p1; go_simp) ?_
  simp only [Act.put, List.setIfInBounds_toArray, List.set_cons_zero, List.set_cons_succ]
  refine wpL_take 5 144 (.agg #[i64 hs, i64 hg]) [] rfl rfl (by kernel_rfl) (by decide) (by kernel_rfl) (by kernel_rfl) (by kernel_rfl) (fun _ _ _ h => h) HS.out (by rfl) (fun W hW => by have x1 := blk_cell hW.x 1; have x2 := blk_cell hW.x 2; have x3 := blk_cell hW.x 3; have x4 := blk_cell hW.x 4; have x6 := blk_cell hW.x 6; have x7 := blk_cell hW.x 7; have x8 := blk_cell hW.x 8; have x9 := blk_cell hW.x 9; have y0 := blk_cell hW.y 0; have y1 := blk_cell hW.y 1; have p0 := hW.p0; have p1 := hW.p1; go_simp) ?_
  simp only [Act.put, List.setIfInBounds_toArray, List.set_cons_zero, List.set_cons_succ]
  refine wpL_one 6 rfl (by kernel_rfl) (by rfl) (fun K hK => ?_)
  go_simp
  refine (HC1.out W3.drew HP3.out.drew.tb).mono ?_
  rintro e w4 ⟨rfl, hT4, hf4⟩
  have HT4 := hid hT4
  have HS2 : Hid (SqW w.heap.size Y P b r x hs hg w4) := HS.out.fr hf4 (by rfl) (by rfl) (by rfl)
  have HR4 : Hid (Rb w4 base r L) := HP3.out.drew.rb.fr hf4 (by rfl) (by rfl)
  have HF4 : Hid (Fr base [72] W3 w4) := Fr.of_drew hf4
  clear hT4 hf4
  go_simp
  refine hK.out _ _ (fun _ => HS2.out) ?_
  clear hK K
  refine wpL_take 7 138 (.tuple #[i64 M, i64 E]) [] rfl rfl (by kernel_rfl) (by decide) (by kernel_rfl) (by kernel_rfl) (by kernel_rfl) (fun _ _ _ h => h) HS2.out (by rfl) (fun W hW => by have x1 := blk_cell hW.x 1; have x2 := blk_cell hW.x 2; have x3 := blk_cell hW.x 3; have x4 := blk_cell hW.x 4; have x6 := blk_cell hW.x 6; have x7 := blk_cell hW.x 7; have x8 := blk_cell hW.x 8; have x9 := blk_cell hW.x 9; have y0 := blk_cell hW.y 0; have y1 := blk_cell hW.y 1; have p0 := hW.p0; have p1 := hW.p1; go_simp) ?_
  simp only [Act.put, List.setIfInBounds_toArray, List.set_cons_zero, List.set_cons_succ]
  refine wpL_take 8 146 (i64 M) [] rfl rfl (by kernel_rfl) (by decide) (by kernel_rfl) (by kernel_rfl) (by kernel_rfl) (fun _ _ _ h => h) HS2.out (by rfl) (fun W hW => by have x1 := blk_cell hW.x 1; have x2 := blk_cell hW.x 2; have x3 := blk_cell hW.x 3; have x4 := blk_cell hW.x 4; have x6 := blk_cell hW.x 6; have x7 := blk_cell hW.x 7; have x8 := blk_cell hW.x 8; have x9 := blk_cell hW.x 9; have y0 := blk_cell hW.y 0; have y1 := blk_cell hW.y 1; have p0 := hW.p0; have p1 := hW.p1; go_simp) ?_
  simp only [Act.put, List.setIfInBounds_toArray, List.set_cons_zero, List.set_cons_succ]
  refine wpL_take 9 147 (i64 E) [] rfl rfl (by kernel_rfl) (by decide) (by kernel_rfl) (by kernel_rfl) (by kernel_rfl) (fun _ _ _ h => h) HS2.out (by rfl) (fun W hW => by have x1 := blk_cell hW.x 1; have x2 := blk_cell hW.x 2; have x3 := blk_cell hW.x 3; have x4 := blk_cell hW.x 4; have x6 := blk_cell hW.x 6; have x7 := blk_cell hW.x 7; have x8 := blk_cell hW.x 8; have x9 := blk_cell hW.x 9; have y0 := blk_cell hW.y 0; have y1 := blk_cell hW.y 1; have p0 := hW.p0; have p1 := hW.p1; go_simp) ?_
  simp only [Act.put, List.setIfInBounds_toArray, List.set_cons_zero, List.set_cons_succ]
  refine wpL_one 10 rfl (by kernel_rfl) (by rfl) (fun K hK => ?_)
  go_simp
  refine hK.out _ _ (fun _ => HS2.out) ?_
  clear hK K
  refine wpL_one 11 rfl (by kernel_rfl) (by rfl) (fun K hK => ?_)
  go_simp
  refine hK.out _ _ (fun h => absurd rfl h) ?_
  clear hK K
  refine wpL_done (by kernel_rfl) ?_
  refine NoPanic.normal ?_
  go_upto_region 17 with fail
  have HS3 : Hid (SqW w.heap.size Y P b r x hs hg w4.drew) := HS2.out.drew
  refine wp_region_noPanic ?_
  refine wp_region_last (SqW w.heap.size Y P b r x hs hg) 12 (by kernel_rfl) ?_
  refine wpL_take 0 149 (pq P) [] rfl rfl (by kernel_rfl) (by decide) (by kernel_rfl) (by kernel_rfl) (by kernel_rfl) (fun _ _ _ h => h) HS3.out (by rfl) (fun W hW => by have x1 := blk_cell hW.x 1; have x2 := blk_cell hW.x 2; have x3 := blk_cell hW.x 3; have x4 := blk_cell hW.x 4; have x6 := blk_cell hW.x 6; have x7 := blk_cell hW.x 7; have x8 := blk_cell hW.x 8; have x9 := blk_cell hW.x 9; have y0 := blk_cell hW.y 0; have y1 := blk_cell hW.y 1; have p0 := hW.p0; have p1 := hW.p1; go_simp) ?_
  simp only [Act.put, List.setIfInBounds_toArray, List.set_cons_zero, List.set_cons_succ]
  refine wpL_take 1 150 (pq P) [] rfl rfl (by kernel_rfl) (by decide) (by kernel_rfl) (by kernel_rfl) (by kernel_rfl) (fun _ _ _ h => h) HS3.out (by rfl) (fun W hW => by have x1 := blk_cell hW.x 1; have x2 := blk_cell hW.x 2; have x3 := blk_cell hW.x 3; have x4 := blk_cell hW.x 4; have x6 := blk_cell hW.x 6; have x7 := blk_cell hW.x 7; have x8 := blk_cell hW.x 8; have x9 := blk_cell hW.x 9; have y0 := blk_cell hW.y 0; have y1 := blk_cell hW.y 1; have p0 := hW.p0; have p1 := hW.p1; go_simp) ?_
  simp only [Act.put, List.setIfInBounds_toArray, List.set_cons_zero, List.set_cons_succ]
  refine wpL_take 2 151 (.pointer (some ⟨P, 1, none⟩)) [] rfl rfl (by kernel_rfl) (by decide) (by kernel_rfl) (by kernel_rfl) (by kernel_rfl) (fun _ _ _ h => h) HS3.out (by rfl) (fun W hW => by have x1 := blk_cell hW.x 1; have x2 := blk_cell hW.x 2; have x3 := blk_cell hW.x 3; have x4 := blk_cell hW.x 4; have x6 := blk_cell hW.x 6; have x7 := blk_cell hW.x 7; have x8 := blk_cell hW.x 8; have x9 := blk_cell hW.x 9; have y0 := blk_cell hW.y 0; have y1 := blk_cell hW.y 1; have p0 := hW.p0; have p1 := hW.p1; go_simp) ?_
  simp only [Act.put, List.setIfInBounds_toArray, List.set_cons_zero, List.set_cons_succ]
  refine wpL_take 3 152 (pq r) [] rfl rfl (by kernel_rfl) (by decide) (by kernel_rfl) (by kernel_rfl) (by kernel_rfl) (fun _ _ _ h => h) HS3.out (by rfl) (fun W hW => by have x1 := blk_cell hW.x 1; have x2 := blk_cell hW.x 2; have x3 := blk_cell hW.x 3; have x4 := blk_cell hW.x 4; have x6 := blk_cell hW.x 6; have x7 := blk_cell hW.x 7; have x8 := blk_cell hW.x 8; have x9 := blk_cell hW.x 9; have y0 := blk_cell hW.y 0; have y1 := blk_cell hW.y 1; have p0 := hW.p0; have p1 := hW.p1; go_simp) ?_
  simp only [Act.put, List.setIfInBounds_toArray, List.set_cons_zero, List.set_cons_succ]
  refine wpL_take 4 153 (i64 ev) [] rfl rfl (by kernel_rfl) (by decide) (by kernel_rfl) (by kernel_rfl) (by kernel_rfl) (fun _ _ _ h => h) HS3.out (by rfl) (fun W hW => by have x1 := blk_cell hW.x 1; have x2 := blk_cell hW.x 2; have x3 := blk_cell hW.x 3; have x4 := blk_cell hW.x 4; have x6 := blk_cell hW.x 6; have x7 := blk_cell hW.x 7; have x8 := blk_cell hW.x 8; have x9 := blk_cell hW.x 9; have y0 := blk_cell hW.y 0; have y1 := blk_cell hW.y 1; have p0 := hW.p0; have p1 := hW.p1; go_simp) ?_
  simp only [Act.put, List.setIfInBounds_toArray, List.set_cons_zero, List.set_cons_succ]
  refine wpL_take 5 154 (.agg #[i64 hs, i64 hg]) [] rfl rfl (by kernel_rfl) (by decide) (by kernel_rfl) (by kernel_rfl) (by kernel_rfl) (fun _ _ _ h => h) HS3.out (by rfl) (fun W hW => by have x1 := blk_cell hW.x 1; have x2 := blk_cell hW.x 2; have x3 := blk_cell hW.x 3; have x4 := blk_cell hW.x 4; have x6 := blk_cell hW.x 6; have x7 := blk_cell hW.x 7; have x8 := blk_cell hW.x 8; have x9 := blk_cell hW.x 9; have y0 := blk_cell hW.y 0; have y1 := blk_cell hW.y 1; have p0 := hW.p0; have p1 := hW.p1; go_simp) ?_
  simp only [Act.put, List.setIfInBounds_toArray, List.set_cons_zero, List.set_cons_succ]
  refine wpL_one 6 rfl (by kernel_rfl) (by rfl) (fun K hK => ?_)
  go_simp
  refine (ref_ok _ hs hg).mono ?_
  rintro e w5 ⟨rfl, hb5⟩
  have HS4 : Hid (SqW w.heap.size Y P b r x hs hg w5) := HS3.out.below hb5
  have HR5 : Hid (Rb w5 base r L) := (HR4.out.below (w' := w4.drew) ⟨rfl, rfl, rfl, Nat.le_refl _, fun _ _ => rfl⟩).below hb5
  have HT5 : Hid (Tb w5 base b T') := (HT4.out.below (w' := w4.drew) ⟨rfl, rfl, rfl, Nat.le_refl _, fun _ _ => rfl⟩).below hb5
  have HF5 : Hid (Fr base [72] W3 w5) := HF4.out.trans (Fr.of_drew (Fr.of_below (w := w4.drew) _ hb5 (Nat.le_trans (Nat.le_trans hlo HB3.out.size) HF4.out.size)))
  clear hb5
  go_simp
  refine hK.out _ _ (fun _ => HS4.out) ?_
  clear hK K
  refine wpL_one 7 rfl (by kernel_rfl) (by rfl) (fun K hK => ?_)
  go_simp
  refine (HC2.out w5 HR5.out).mono ?_
  rintro e w6 ⟨rfl, hR6, hf6⟩
  have HR6 := hid hR6
  have HS5 : Hid (SqW w.heap.size Y P b r x hs hg w6) := HS4.out.fr hf6 (by rfl) (by rfl) (by rfl)
  have HT6 : Hid (Tb w6 base b T') := HT5.out.fr hf6 (by rfl)
  have HF6 : Hid (Fr base FD w w6) := ((Fr.of_below _ HB3.out hlo).trans (HF5.out.mono (fun o ho => by
    cases o with
    | cells C t fr => simp [keeps] at ho ⊢; exact ho.1
    | _ => rfl))).trans (fd_r hf6)
  have HKp : Hid (∀ (k : Nat) (C : Array Value) (t : TypeId), t = 34 ∨ t = 42 ∨ t = 3 → W3.heap[k]? = some (.cells C t) → w6.heap[k]? = some (.cells C t)) := fun k C t ht hC => hf6.kept k _ (HF5.out.kept k _ hC (by rcases ht with rfl | rfl | rfl <;> rfl)) (by rcases ht with rfl | rfl | rfl <;> rfl)
  clear hR6 hf6
  go_simp
  refine hK.out _ _ (fun _ => HS5.out) ?_
  clear hK K
  refine wpL_take 8 148 (.tuple #[i64 M, i64 E]) [] rfl rfl (by kernel_rfl) (by decide) (by kernel_rfl) (by kernel_rfl) (by kernel_rfl) (fun _ _ _ h => h) HS5.out (by rfl) (fun W hW => by have x1 := blk_cell hW.x 1; have x2 := blk_cell hW.x 2; have x3 := blk_cell hW.x 3; have x4 := blk_cell hW.x 4; have x6 := blk_cell hW.x 6; have x7 := blk_cell hW.x 7; have x8 := blk_cell hW.x 8; have x9 := blk_cell hW.x 9; have y0 := blk_cell hW.y 0; have y1 := blk_cell hW.y 1; have p0 := hW.p0; have p1 := hW.p1; go_simp) ?_
  simp only [Act.put, List.setIfInBounds_toArray, List.set_cons_zero, List.set_cons_succ]
  refine wpL_take 9 157 (i64 M) [] rfl rfl (by kernel_rfl) (by decide) (by kernel_rfl) (by kernel_rfl) (by kernel_rfl) (fun _ _ _ h => h) HS5.out (by rfl) (fun W hW => by have x1 := blk_cell hW.x 1; have x2 := blk_cell hW.x 2; have x3 := blk_cell hW.x 3; have x4 := blk_cell hW.x 4; have x6 := blk_cell hW.x 6; have x7 := blk_cell hW.x 7; have x8 := blk_cell hW.x 8; have x9 := blk_cell hW.x 9; have y0 := blk_cell hW.y 0; have y1 := blk_cell hW.y 1; have p0 := hW.p0; have p1 := hW.p1; go_simp) ?_
  simp only [Act.put, List.setIfInBounds_toArray, List.set_cons_zero, List.set_cons_succ]
  refine wpL_take 10 158 (i64 E) [] rfl rfl (by kernel_rfl) (by decide) (by kernel_rfl) (by kernel_rfl) (by kernel_rfl) (fun _ _ _ h => h) HS5.out (by rfl) (fun W hW => by have x1 := blk_cell hW.x 1; have x2 := blk_cell hW.x 2; have x3 := blk_cell hW.x 3; have x4 := blk_cell hW.x 4; have x6 := blk_cell hW.x 6; have x7 := blk_cell hW.x 7; have x8 := blk_cell hW.x 8; have x9 := blk_cell hW.x 9; have y0 := blk_cell hW.y 0; have y1 := blk_cell hW.y 1; have p0 := hW.p0; have p1 := hW.p1; go_simp) ?_
  simp only [Act.put, List.setIfInBounds_toArray, List.set_cons_zero, List.set_cons_succ]
  refine wpL_one 11 rfl (by kernel_rfl) (by rfl) (fun K hK => ?_)
  go_simp
  refine hK.out _ _ (fun _ => HS5.out) ?_
  clear hK K
  refine wpL_one 12 rfl (by kernel_rfl) (by rfl) (fun K hK => ?_)
  go_simp
  refine hK.out _ _ (fun h => absurd rfl h) ?_
  clear hK K
  refine wpL_done (by kernel_rfl) ?_
  refine NoPanic.normal ?_
  go_wp2_with fail
  go_ret
  exact ⟨by simp, ⟨T', offs K' L, HP3.out.turn HKp.out HT6.out HR6.out HREL.out, mono_offs K' L, by rw [offs_len]; omega⟩, HF6.out⟩
end Go.Proofs.Ytcffodkpflfeoaa
