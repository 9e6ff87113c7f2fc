/- imagolaw09.Pair's does: what mints; no statement is proved in this text. -/
import Derived.Test.YtcffodkpflfeoaaDoes3
namespace Go.Proofs.Ytcffodkpflfeoaa
open Go.ChangeShapes Go.WideShapes Go.ChangeAt Go.RowKit Go.Deep
attribute [local go_sem ↓] Go.wp_at_zero Go.wp_at_succ

set_option maxRecDepth 100000 in
set_option maxHeartbeats 6400000 in
theorem does_mint1 {w : World} {base P b r : Nat} {T : List Pl} {L : List Rw} (h : Pw w base P b r T L) (hl : L.length ≤ 100) (x : Sp) (hw : x.what = 1) : DoesTo w base P b r L x := by
  unfold DoesTo
  obtain ⟨vH, vE, hP0, hH0, hE0⟩ := h.blk
  have HP0 := hid hP0
  have HH0 := hid hH0
  have HE0 := hid hE0
  have hPl := h.lt
  have hPlo := h.lo
  clear hP0 hH0 hE0
  have HW := hid hw
  clear hw
  have hlo : base ≤ w.heap.size := by have := h.lt; have := h.lo; omega
  obtain ⟨V, hV⟩ : ∃ V, V = w.alloc (spO x) := ⟨_, rfl⟩
  have HV : Hid (w.alloc (.cells #[i64 x.what, i64 x.n, i64 x.env, i64 x.tt, i64 x.rights, .bool x.by_, i64 x.c.env, i64 x.c.kind, i64 x.c.num, i64 x.c.rts, i64 x.wrong] 38) = V) := hV.symm
  have hbV : Below w.heap.size w V := by rw [hV]; exact below_one w _
  have HX : Hid (V.heap[w.heap.size]? = some (spO x)) := by rw [hV]; exact heap_last w _
  have HPk := hid (pick_any (h.below hbV) (by omega) x)
  have HPw := hid (h.below hbV)
  have HBV := hid hbV
  clear h hV hbV
  generalize pkS L x = hs at *
  generalize pkG L x = hg at *
  generalize pkE L x = ev at *
  go_enter Try.func10, Try.ntmps10
  go_upto_region 1 with fail
  rw [HV.out]
  go_wp2_with (refine wpList_load_mid rfl 38 (.tmp 3) rfl w.heap.size 0 rfl x.c' _ (by exact spO_range HX.out) Try.underlying38 rfl info38 ?_)
  refine HPk.out.mono ?_
  rintro e w2 ⟨rfl, hb2⟩
  have hB2 : Below w.heap.size w w2 := HBV.out.trans (hb2.mono HBV.out.size)
  have HB3 : Hid (Below w.heap.size w (w2.alloc (hO hs hg))) := hB2.alloc hB2.size _
  have HX3 : Hid ((w2.alloc (hO hs hg)).heap[w.heap.size]? = some (spO x)) := blk_alloc (blk_below HX.out hb2) _
  have HY3 : Hid ((w2.alloc (hO hs hg)).heap[w2.heap.size]? = some (hO hs hg)) := heap_last w2 _
  have HP3 : Hid (Pw (w2.alloc (hO hs hg)) base P b r T L) := (HPw.out.below hb2).below (below_one _ _)
  clear hb2 hB2
  go_upto_region 2 with fail
  have hY : w.heap.size < w2.heap.size := by have := HX3.out; have h1 := blk_lt this; have h2 := HY3.out; rcases Nat.lt_or_ge w.heap.size w2.heap.size with h | h; exact h; have e : w.heap.size = w2.heap.size := by simp at h1; omega
                                             rw [e, h2] at this; simp at this
  unfold hO at HB3 HX3 HY3 HP3
  generalize w2.alloc (.cells #[i64 hs, i64 hg] 42) = W3 at *
  generalize w2.heap.size = Y at *
  clear HPk HPw HBV HX HV V
  have x0 : W3.cell? ⟨w.heap.size, 0, none⟩ = some (i64 1) := by have h0 : W3.cell? ⟨w.heap.size, 0, none⟩ = some (i64 x.what) := blk_cell HX3.out 0; rw [HW.out] at h0; exact h0
  go_upto_region 5 with fail
  clear x0
  obtain ⟨s, g, E, T', L', hmade⟩ := made_mint (P := P) (r := r) (base := base) (b := b) HP3.out.rel HP3.out.gu hl x.c
  have HMd := hid hmade
  clear hmade
  have HPb : Hid (W3.heap[P]? = some (.cells #[pq b, pq r, vH, vE] 34)) := (HB3.out.block P hPl).trans HP0.out
  have HHb : Hid (W3.ownsRow base 42 2 vH L.length (hcn (L.map hdR))) := own_keep HH0.out (fun k C hC => (HB3.out.block k (blk_lt hC)).trans hC)
  have HEb : Hid (W3.ownsRow base 3 1 vE L.length (icells (L.map fun q => q.c.env))) := own_keep HE0.out (fun k C hC => (HB3.out.block k (blk_lt hC)).trans hC)
  have hX3 : w.heap.size < W3.heap.size := blk_lt HX3.out
  have HS : Hid (SqW w.heap.size Y P b r x hs hg W3.drew) := (SqW.of HX3.out HY3.out HP3.out).drew
  refine wp_region_noPanic ?_
  refine wp_region_last (SqW w.heap.size Y P b r x hs hg) 12 (by kernel_rfl) ?_
  refine wpL_take 0 35 (pq P) [] rfl rfl (by kernel_rfl) (by decide) (by kernel_rfl) (by kernel_rfl) (by kernel_rfl) (fun _ _ _ h => h) HS.out (by rfl) (fun W hW => by have x1 := blk_cell hW.x 1; have x2 := blk_cell hW.x 2; have x3 := blk_cell hW.x 3; have x4 := blk_cell hW.x 4; have x6 := blk_cell hW.x 6; have x7 := blk_cell hW.x 7; have x8 := blk_cell hW.x 8; have x9 := blk_cell hW.x 9; have y0 := blk_cell hW.y 0; have y1 := blk_cell hW.y 1; have p0 := hW.p0; have p1 := hW.p1; go_simp) ?_
  simp only [Act.put, List.setIfInBounds_toArray, List.set_cons_zero, List.set_cons_succ]
  refine wpL_take 1 36 (pq P) [] rfl rfl (by kernel_rfl) (by decide) (by kernel_rfl) (by kernel_rfl) (by kernel_rfl) (fun _ _ _ h => h) HS.out (by rfl) (fun W hW => by have x1 := blk_cell hW.x 1; have x2 := blk_cell hW.x 2; have x3 := blk_cell hW.x 3; have x4 := blk_cell hW.x 4; have x6 := blk_cell hW.x 6; have x7 := blk_cell hW.x 7; have x8 := blk_cell hW.x 8; have x9 := blk_cell hW.x 9; have y0 := blk_cell hW.y 0; have y1 := blk_cell hW.y 1; have p0 := hW.p0; have p1 := hW.p1; go_simp) ?_
  simp only [Act.put, List.setIfInBounds_toArray, List.set_cons_zero, List.set_cons_succ]
  refine wpL_take 2 37 (pq P) [] rfl rfl (by kernel_rfl) (by decide) (by kernel_rfl) (by kernel_rfl) (by kernel_rfl) (fun _ _ _ h => h) HS.out (by rfl) (fun W hW => by have x1 := blk_cell hW.x 1; have x2 := blk_cell hW.x 2; have x3 := blk_cell hW.x 3; have x4 := blk_cell hW.x 4; have x6 := blk_cell hW.x 6; have x7 := blk_cell hW.x 7; have x8 := blk_cell hW.x 8; have x9 := blk_cell hW.x 9; have y0 := blk_cell hW.y 0; have y1 := blk_cell hW.y 1; have p0 := hW.p0; have p1 := hW.p1; go_simp) ?_
  simp only [Act.put, List.setIfInBounds_toArray, List.set_cons_zero, List.set_cons_succ]
  refine wpL_take 3 38 (pq b) [] rfl rfl (by kernel_rfl) (by decide) (by kernel_rfl) (by kernel_rfl) (by kernel_rfl) (fun _ _ _ h => h) HS.out (by rfl) (fun W hW => by have x1 := blk_cell hW.x 1; have x2 := blk_cell hW.x 2; have x3 := blk_cell hW.x 3; have x4 := blk_cell hW.x 4; have x6 := blk_cell hW.x 6; have x7 := blk_cell hW.x 7; have x8 := blk_cell hW.x 8; have x9 := blk_cell hW.x 9; have y0 := blk_cell hW.y 0; have y1 := blk_cell hW.y 1; have p0 := hW.p0; have p1 := hW.p1; go_simp) ?_
  simp only [Act.put, List.setIfInBounds_toArray, List.set_cons_zero, List.set_cons_succ]
  refine wpL_take 4 39 (.pointer (some ⟨w.heap.size, 6, none⟩)) [] rfl rfl (by kernel_rfl) (by decide) (by kernel_rfl) (by kernel_rfl) (by kernel_rfl) (fun _ _ _ h => h) HS.out (by rfl) (fun W hW => by have x1 := blk_cell hW.x 1; have x2 := blk_cell hW.x 2; have x3 := blk_cell hW.x 3; have x4 := blk_cell hW.x 4; have x6 := blk_cell hW.x 6; have x7 := blk_cell hW.x 7; have x8 := blk_cell hW.x 8; have x9 := blk_cell hW.x 9; have y0 := blk_cell hW.y 0; have y1 := blk_cell hW.y 1; have p0 := hW.p0; have p1 := hW.p1; go_simp) ?_
  simp only [Act.put, List.setIfInBounds_toArray, List.set_cons_zero, List.set_cons_succ]
  refine wpL_take 5 40 (.agg #[i64 x.c.env, i64 x.c.kind, i64 x.c.num, i64 x.c.rts]) [] rfl rfl (by kernel_rfl) (by decide) (by kernel_rfl) (by kernel_rfl) (by kernel_rfl) (fun _ _ _ h => h) HS.out (by rfl) (fun W hW => by have x1 := blk_cell hW.x 1; have x2 := blk_cell hW.x 2; have x3 := blk_cell hW.x 3; have x4 := blk_cell hW.x 4; have x6 := blk_cell hW.x 6; have x7 := blk_cell hW.x 7; have x8 := blk_cell hW.x 8; have x9 := blk_cell hW.x 9; have y0 := blk_cell hW.y 0; have y1 := blk_cell hW.y 1; have p0 := hW.p0; have p1 := hW.p1; go_simp) ?_
  simp only [Act.put, List.setIfInBounds_toArray, List.set_cons_zero, List.set_cons_succ]
  refine wpL_two 6 10 rfl rfl (by kernel_rfl) (by rfl) (by rfl) (fun K hK => ?_) (fun K hK => ?_)
  · go_simp
    refine (HMd.out.c1 W3.drew HP3.out.drew.tb).mono ?_
    rintro e w4 ⟨rfl, hT4, hf4⟩
    have HT4 := hid hT4
    have HS2 : Hid (SqW w.heap.size Y P b r x hs hg w4) := HS.out.fr hf4 (by rfl) (by rfl) (by rfl)
    have HF4 : Hid (Fr base [72] W3 w4) := Fr.of_drew hf4
    clear hT4 hf4
    go_simp
    refine hK.out _ _ (fun _ => HS2.out) ?_
    clear hK K
    refine wpL_take 7 34 (.tuple #[.agg #[i64 (s : Nat), i64 g], i64 E]) [] rfl rfl (by kernel_rfl) (by decide) (by kernel_rfl) (by kernel_rfl) (by kernel_rfl) (fun _ _ _ h => h) HS2.out (by rfl) (fun W hW => by have x1 := blk_cell hW.x 1; have x2 := blk_cell hW.x 2; have x3 := blk_cell hW.x 3; have x4 := blk_cell hW.x 4; have x6 := blk_cell hW.x 6; have x7 := blk_cell hW.x 7; have x8 := blk_cell hW.x 8; have x9 := blk_cell hW.x 9; have y0 := blk_cell hW.y 0; have y1 := blk_cell hW.y 1; have p0 := hW.p0; have p1 := hW.p1; go_simp) ?_
    simp only [Act.put, List.setIfInBounds_toArray, List.set_cons_zero, List.set_cons_succ]
    refine wpL_take 8 42 (.agg #[i64 (s : Nat), i64 g]) [] rfl rfl (by kernel_rfl) (by decide) (by kernel_rfl) (by kernel_rfl) (by kernel_rfl) (fun _ _ _ h => h) HS2.out (by rfl) (fun W hW => by have x1 := blk_cell hW.x 1; have x2 := blk_cell hW.x 2; have x3 := blk_cell hW.x 3; have x4 := blk_cell hW.x 4; have x6 := blk_cell hW.x 6; have x7 := blk_cell hW.x 7; have x8 := blk_cell hW.x 8; have x9 := blk_cell hW.x 9; have y0 := blk_cell hW.y 0; have y1 := blk_cell hW.y 1; have p0 := hW.p0; have p1 := hW.p1; go_simp) ?_
    simp only [Act.put, List.setIfInBounds_toArray, List.set_cons_zero, List.set_cons_succ]
    refine wpL_take 9 43 (i64 E) [] rfl rfl (by kernel_rfl) (by decide) (by kernel_rfl) (by kernel_rfl) (by kernel_rfl) (fun _ _ _ h => h) HS2.out (by rfl) (fun W hW => by have x1 := blk_cell hW.x 1; have x2 := blk_cell hW.x 2; have x3 := blk_cell hW.x 3; have x4 := blk_cell hW.x 4; have x6 := blk_cell hW.x 6; have x7 := blk_cell hW.x 7; have x8 := blk_cell hW.x 8; have x9 := blk_cell hW.x 9; have y0 := blk_cell hW.y 0; have y1 := blk_cell hW.y 1; have p0 := hW.p0; have p1 := hW.p1; go_simp) ?_
    simp only [Act.put, List.setIfInBounds_toArray, List.set_cons_zero, List.set_cons_succ]
    refine wpL_one 10 rfl (by kernel_rfl) (by rfl) (fun K hK => ?_)
    go_simp
    refine hK.out _ _ (fun _ => HS2.out.below (below_one w4 _)) ?_
    clear hK K
    refine wpL_one 11 rfl (by kernel_rfl) (by rfl) (fun K hK => ?_)
    go_simp
    refine hK.out _ _ (fun _ => HS2.out.below (below_one w4 _)) ?_
    clear hK K
    refine wpL_one 12 rfl (by kernel_rfl) (by rfl) (fun K hK => ?_)
    go_simp
    refine hK.out _ _ (fun h => absurd rfl h) ?_
    clear hK K
    refine wpL_done (by kernel_rfl) ?_
    refine NoPanic.normal ?_
    have HTu : Hid (Tb (w4.alloc (hO (s : Nat) g)) base b T') := HT4.out.below (below_one w4 _)
    have HFu : Hid (Fr base [72] W3 (w4.alloc (hO (s : Nat) g))) := HF4.out.alloc (Nat.le_trans (Nat.le_trans hlo HB3.out.size) HF4.out.size) _
    have HZu : Hid ((w4.alloc (hO (s : Nat) g)).heap[w4.heap.size]? = some (hO (s : Nat) g)) := heap_last w4 _
    have hZl : w.heap.size < w4.heap.size := by have := HF4.out.size; omega
    clear HS HS2 HT4 HF4
    unfold hO at HTu HFu HZu
    generalize w4.alloc (.cells #[i64 (s : Nat), i64 g] 42) = U at *
    generalize w4.heap.size = Z at *
    have HXu : Hid (U.heap[w.heap.size]? = some (spO x)) := HFu.out.kept _ _ HX3.out (by rfl)
    have HYu : Hid (U.heap[Y]? = some (hO hs hg)) := HFu.out.kept _ _ HY3.out (by rfl)
    have HPu : Hid (U.heap[P]? = some (.cells #[pq b, pq r, vH, vE] 34)) := HFu.out.kept _ _ HPb.out (by rfl)
    have HHu : Hid (U.ownsRow base 42 2 vH L.length (hcn (L.map hdR))) := own_keep HHb.out (fun k C hC => HFu.out.kept k _ hC (by rfl))
    have HEu : Hid (U.ownsRow base 3 1 vE L.length (icells (L.map fun q => q.c.env))) := own_keep HEb.out (fun k C hC => HFu.out.kept k _ hC (by rfl))
    have HRu : Hid (Rb U base r L) := HP3.out.rb.fr HFu.out (by rfl) (by rfl)
    have HFw : Hid (Fr base FD w U) := (Fr.of_below _ HB3.out hlo).trans (HFu.out.mono (fun o ho => by
      cases o with
      | cells C t fr => simp [keeps] at ho ⊢; exact ho.1
      | _ => rfl))
    clear HPb HHb HEb HFu HX3 HY3 HB3 HP3
    go_upto_region 6 with fail
    have HS : Hid (SqV2 w.heap.size Y Z P b r x hs hg (s : Nat) g U.drew) := ⟨HXu.out, HYu.out, HZu.out, vH, vE, HPu.out⟩
    refine wp_region_noPanic ?_
    refine wp_region_last (SqV2 w.heap.size Y Z P b r x hs hg (s : Nat) g) 25 (by kernel_rfl) ?_
    refine wpL_take 0 44 (pq P) [] rfl rfl (by kernel_rfl) (by decide) (by kernel_rfl) (by kernel_rfl) (by kernel_rfl) (fun _ _ _ h => h) HS.out (by rfl) (fun W hW => by have x1 := blk_cell hW.x 1; have x2 := blk_cell hW.x 2; have x3 := blk_cell hW.x 3; have x4 := blk_cell hW.x 4; have x6 := blk_cell hW.x 6; have x7 := blk_cell hW.x 7; have x8 := blk_cell hW.x 8; have x9 := blk_cell hW.x 9; have y0 := blk_cell hW.y 0; have y1 := blk_cell hW.y 1; have p0 := hW.p0; have p1 := hW.p1; have z0 := blk_cell hW.z 0; have z1 := blk_cell hW.z 1; go_simp) ?_
    simp only [Act.put, List.setIfInBounds_toArray, List.set_cons_zero, List.set_cons_succ]
    refine wpL_take 1 45 (.agg #[i64 (s : Nat), i64 g]) [] rfl rfl (by kernel_rfl) (by decide) (by kernel_rfl) (by kernel_rfl) (by kernel_rfl) (fun _ _ _ h => h) HS.out (by rfl) (fun W hW => by have x1 := blk_cell hW.x 1; have x2 := blk_cell hW.x 2; have x3 := blk_cell hW.x 3; have x4 := blk_cell hW.x 4; have x6 := blk_cell hW.x 6; have x7 := blk_cell hW.x 7; have x8 := blk_cell hW.x 8; have x9 := blk_cell hW.x 9; have y0 := blk_cell hW.y 0; have y1 := blk_cell hW.y 1; have p0 := hW.p0; have p1 := hW.p1; have z0 := blk_cell hW.z 0; have z1 := blk_cell hW.z 1; go_simp) ?_
    simp only [Act.put, List.setIfInBounds_toArray, List.set_cons_zero, List.set_cons_succ]
    refine wpL_take 2 46 (i64 E) [] rfl rfl (by kernel_rfl) (by decide) (by kernel_rfl) (by kernel_rfl) (by kernel_rfl) (fun _ _ _ h => h) HS.out (by rfl) (fun W hW => by have x1 := blk_cell hW.x 1; have x2 := blk_cell hW.x 2; have x3 := blk_cell hW.x 3; have x4 := blk_cell hW.x 4; have x6 := blk_cell hW.x 6; have x7 := blk_cell hW.x 7; have x8 := blk_cell hW.x 8; have x9 := blk_cell hW.x 9; have y0 := blk_cell hW.y 0; have y1 := blk_cell hW.y 1; have p0 := hW.p0; have p1 := hW.p1; have z0 := blk_cell hW.z 0; have z1 := blk_cell hW.z 1; go_simp) ?_
    simp only [Act.put, List.setIfInBounds_toArray, List.set_cons_zero, List.set_cons_succ]
    refine wpL_take 3 47 (pq P) [] rfl rfl (by kernel_rfl) (by decide) (by kernel_rfl) (by kernel_rfl) (by kernel_rfl) (fun _ _ _ h => h) HS.out (by rfl) (fun W hW => by have x1 := blk_cell hW.x 1; have x2 := blk_cell hW.x 2; have x3 := blk_cell hW.x 3; have x4 := blk_cell hW.x 4; have x6 := blk_cell hW.x 6; have x7 := blk_cell hW.x 7; have x8 := blk_cell hW.x 8; have x9 := blk_cell hW.x 9; have y0 := blk_cell hW.y 0; have y1 := blk_cell hW.y 1; have p0 := hW.p0; have p1 := hW.p1; have z0 := blk_cell hW.z 0; have z1 := blk_cell hW.z 1; go_simp) ?_
    simp only [Act.put, List.setIfInBounds_toArray, List.set_cons_zero, List.set_cons_succ]
    refine wpL_take 4 48 (pq P) [] rfl rfl (by kernel_rfl) (by decide) (by kernel_rfl) (by kernel_rfl) (by kernel_rfl) (fun _ _ _ h => h) HS.out (by rfl) (fun W hW => by have x1 := blk_cell hW.x 1; have x2 := blk_cell hW.x 2; have x3 := blk_cell hW.x 3; have x4 := blk_cell hW.x 4; have x6 := blk_cell hW.x 6; have x7 := blk_cell hW.x 7; have x8 := blk_cell hW.x 8; have x9 := blk_cell hW.x 9; have y0 := blk_cell hW.y 0; have y1 := blk_cell hW.y 1; have p0 := hW.p0; have p1 := hW.p1; have z0 := blk_cell hW.z 0; have z1 := blk_cell hW.z 1; go_simp) ?_
    simp only [Act.put, List.setIfInBounds_toArray, List.set_cons_zero, List.set_cons_succ]
    refine wpL_take 5 49 (.pointer (some ⟨P, 1, none⟩)) [] rfl rfl (by kernel_rfl) (by decide) (by kernel_rfl) (by kernel_rfl) (by kernel_rfl) (fun _ _ _ h => h) HS.out (by rfl) (fun W hW => by have x1 := blk_cell hW.x 1; have x2 := blk_cell hW.x 2; have x3 := blk_cell hW.x 3; have x4 := blk_cell hW.x 4; have x6 := blk_cell hW.x 6; have x7 := blk_cell hW.x 7; have x8 := blk_cell hW.x 8; have x9 := blk_cell hW.x 9; have y0 := blk_cell hW.y 0; have y1 := blk_cell hW.y 1; have p0 := hW.p0; have p1 := hW.p1; have z0 := blk_cell hW.z 0; have z1 := blk_cell hW.z 1; go_simp) ?_
    simp only [Act.put, List.setIfInBounds_toArray, List.set_cons_zero, List.set_cons_succ]
    refine wpL_take 6 50 (pq r) [] rfl rfl (by kernel_rfl) (by decide) (by kernel_rfl) (by kernel_rfl) (by kernel_rfl) (fun _ _ _ h => h) HS.out (by rfl) (fun W hW => by have x1 := blk_cell hW.x 1; have x2 := blk_cell hW.x 2; have x3 := blk_cell hW.x 3; have x4 := blk_cell hW.x 4; have x6 := blk_cell hW.x 6; have x7 := blk_cell hW.x 7; have x8 := blk_cell hW.x 8; have x9 := blk_cell hW.x 9; have y0 := blk_cell hW.y 0; have y1 := blk_cell hW.y 1; have p0 := hW.p0; have p1 := hW.p1; have z0 := blk_cell hW.z 0; have z1 := blk_cell hW.z 1; go_simp) ?_
    simp only [Act.put, List.setIfInBounds_toArray, List.set_cons_zero, List.set_cons_succ]
    refine wpL_take 7 51 (.pointer (some ⟨w.heap.size, 6, none⟩)) [] rfl rfl (by kernel_rfl) (by decide) (by kernel_rfl) (by kernel_rfl) (by kernel_rfl) (fun _ _ _ h => h) HS.out (by rfl) (fun W hW => by have x1 := blk_cell hW.x 1; have x2 := blk_cell hW.x 2; have x3 := blk_cell hW.x 3; have x4 := blk_cell hW.x 4; have x6 := blk_cell hW.x 6; have x7 := blk_cell hW.x 7; have x8 := blk_cell hW.x 8; have x9 := blk_cell hW.x 9; have y0 := blk_cell hW.y 0; have y1 := blk_cell hW.y 1; have p0 := hW.p0; have p1 := hW.p1; have z0 := blk_cell hW.z 0; have z1 := blk_cell hW.z 1; go_simp) ?_
    simp only [Act.put, List.setIfInBounds_toArray, List.set_cons_zero, List.set_cons_succ]
    refine wpL_take 8 52 (.pointer (some ⟨w.heap.size, 6, none⟩)) [] rfl rfl (by kernel_rfl) (by decide) (by kernel_rfl) (by kernel_rfl) (by kernel_rfl) (fun _ _ _ h => h) HS.out (by rfl) (fun W hW => by have x1 := blk_cell hW.x 1; have x2 := blk_cell hW.x 2; have x3 := blk_cell hW.x 3; have x4 := blk_cell hW.x 4; have x6 := blk_cell hW.x 6; have x7 := blk_cell hW.x 7; have x8 := blk_cell hW.x 8; have x9 := blk_cell hW.x 9; have y0 := blk_cell hW.y 0; have y1 := blk_cell hW.y 1; have p0 := hW.p0; have p1 := hW.p1; have z0 := blk_cell hW.z 0; have z1 := blk_cell hW.z 1; go_simp) ?_
    simp only [Act.put, List.setIfInBounds_toArray, List.set_cons_zero, List.set_cons_succ]
    refine wpL_take 9 53 (i64 x.c.env) [] rfl rfl (by kernel_rfl) (by decide) (by kernel_rfl) (by kernel_rfl) (by kernel_rfl) (fun _ _ _ h => h) HS.out (by rfl) (fun W hW => by have x1 := blk_cell hW.x 1; have x2 := blk_cell hW.x 2; have x3 := blk_cell hW.x 3; have x4 := blk_cell hW.x 4; have x6 := blk_cell hW.x 6; have x7 := blk_cell hW.x 7; have x8 := blk_cell hW.x 8; have x9 := blk_cell hW.x 9; have y0 := blk_cell hW.y 0; have y1 := blk_cell hW.y 1; have p0 := hW.p0; have p1 := hW.p1; have z0 := blk_cell hW.z 0; have z1 := blk_cell hW.z 1; go_simp) ?_
    simp only [Act.put, List.setIfInBounds_toArray, List.set_cons_zero, List.set_cons_succ]
    refine wpL_take 10 54 (.pointer (some ⟨w.heap.size, 6, none⟩)) [] rfl rfl (by kernel_rfl) (by decide) (by kernel_rfl) (by kernel_rfl) (by kernel_rfl) (fun _ _ _ h => h) HS.out (by rfl) (fun W hW => by have x1 := blk_cell hW.x 1; have x2 := blk_cell hW.x 2; have x3 := blk_cell hW.x 3; have x4 := blk_cell hW.x 4; have x6 := blk_cell hW.x 6; have x7 := blk_cell hW.x 7; have x8 := blk_cell hW.x 8; have x9 := blk_cell hW.x 9; have y0 := blk_cell hW.y 0; have y1 := blk_cell hW.y 1; have p0 := hW.p0; have p1 := hW.p1; have z0 := blk_cell hW.z 0; have z1 := blk_cell hW.z 1; go_simp) ?_
    simp only [Act.put, List.setIfInBounds_toArray, List.set_cons_zero, List.set_cons_succ]
    refine wpL_take 11 55 (.pointer (some ⟨w.heap.size, 7, none⟩)) [] rfl rfl (by kernel_rfl) (by decide) (by kernel_rfl) (by kernel_rfl) (by kernel_rfl) (fun _ _ _ h => h) HS.out (by rfl) (fun W hW => by have x1 := blk_cell hW.x 1; have x2 := blk_cell hW.x 2; have x3 := blk_cell hW.x 3; have x4 := blk_cell hW.x 4; have x6 := blk_cell hW.x 6; have x7 := blk_cell hW.x 7; have x8 := blk_cell hW.x 8; have x9 := blk_cell hW.x 9; have y0 := blk_cell hW.y 0; have y1 := blk_cell hW.y 1; have p0 := hW.p0; have p1 := hW.p1; have z0 := blk_cell hW.z 0; have z1 := blk_cell hW.z 1; go_simp) ?_
    simp only [Act.put, List.setIfInBounds_toArray, List.set_cons_zero, List.set_cons_succ]
    refine wpL_take 12 56 (i64 x.c.kind) [] rfl rfl (by kernel_rfl) (by decide) (by kernel_rfl) (by kernel_rfl) (by kernel_rfl) (fun _ _ _ h => h) HS.out (by rfl) (fun W hW => by have x1 := blk_cell hW.x 1; have x2 := blk_cell hW.x 2; have x3 := blk_cell hW.x 3; have x4 := blk_cell hW.x 4; have x6 := blk_cell hW.x 6; have x7 := blk_cell hW.x 7; have x8 := blk_cell hW.x 8; have x9 := blk_cell hW.x 9; have y0 := blk_cell hW.y 0; have y1 := blk_cell hW.y 1; have p0 := hW.p0; have p1 := hW.p1; have z0 := blk_cell hW.z 0; have z1 := blk_cell hW.z 1; go_simp) ?_
    simp only [Act.put, List.setIfInBounds_toArray, List.set_cons_zero, List.set_cons_succ]
    refine wpL_take 13 57 (.pointer (some ⟨w.heap.size, 6, none⟩)) [] rfl rfl (by kernel_rfl) (by decide) (by kernel_rfl) (by kernel_rfl) (by kernel_rfl) (fun _ _ _ h => h) HS.out (by rfl) (fun W hW => by have x1 := blk_cell hW.x 1; have x2 := blk_cell hW.x 2; have x3 := blk_cell hW.x 3; have x4 := blk_cell hW.x 4; have x6 := blk_cell hW.x 6; have x7 := blk_cell hW.x 7; have x8 := blk_cell hW.x 8; have x9 := blk_cell hW.x 9; have y0 := blk_cell hW.y 0; have y1 := blk_cell hW.y 1; have p0 := hW.p0; have p1 := hW.p1; have z0 := blk_cell hW.z 0; have z1 := blk_cell hW.z 1; go_simp) ?_
    simp only [Act.put, List.setIfInBounds_toArray, List.set_cons_zero, List.set_cons_succ]
    refine wpL_take 14 58 (.pointer (some ⟨w.heap.size, 8, none⟩)) [] rfl rfl (by kernel_rfl) (by decide) (by kernel_rfl) (by kernel_rfl) (by kernel_rfl) (fun _ _ _ h => h) HS.out (by rfl) (fun W hW => by have x1 := blk_cell hW.x 1; have x2 := blk_cell hW.x 2; have x3 := blk_cell hW.x 3; have x4 := blk_cell hW.x 4; have x6 := blk_cell hW.x 6; have x7 := blk_cell hW.x 7; have x8 := blk_cell hW.x 8; have x9 := blk_cell hW.x 9; have y0 := blk_cell hW.y 0; have y1 := blk_cell hW.y 1; have p0 := hW.p0; have p1 := hW.p1; have z0 := blk_cell hW.z 0; have z1 := blk_cell hW.z 1; go_simp) ?_
    simp only [Act.put, List.setIfInBounds_toArray, List.set_cons_zero, List.set_cons_succ]
    refine wpL_take 15 59 (i64 x.c.num) [] rfl rfl (by kernel_rfl) (by decide) (by kernel_rfl) (by kernel_rfl) (by kernel_rfl) (fun _ _ _ h => h) HS.out (by rfl) (fun W hW => by have x1 := blk_cell hW.x 1; have x2 := blk_cell hW.x 2; have x3 := blk_cell hW.x 3; have x4 := blk_cell hW.x 4; have x6 := blk_cell hW.x 6; have x7 := blk_cell hW.x 7; have x8 := blk_cell hW.x 8; have x9 := blk_cell hW.x 9; have y0 := blk_cell hW.y 0; have y1 := blk_cell hW.y 1; have p0 := hW.p0; have p1 := hW.p1; have z0 := blk_cell hW.z 0; have z1 := blk_cell hW.z 1; go_simp) ?_
    simp only [Act.put, List.setIfInBounds_toArray, List.set_cons_zero, List.set_cons_succ]
    refine wpL_take 16 60 (.pointer (some ⟨w.heap.size, 6, none⟩)) [] rfl rfl (by kernel_rfl) (by decide) (by kernel_rfl) (by kernel_rfl) (by kernel_rfl) (fun _ _ _ h => h) HS.out (by rfl) (fun W hW => by have x1 := blk_cell hW.x 1; have x2 := blk_cell hW.x 2; have x3 := blk_cell hW.x 3; have x4 := blk_cell hW.x 4; have x6 := blk_cell hW.x 6; have x7 := blk_cell hW.x 7; have x8 := blk_cell hW.x 8; have x9 := blk_cell hW.x 9; have y0 := blk_cell hW.y 0; have y1 := blk_cell hW.y 1; have p0 := hW.p0; have p1 := hW.p1; have z0 := blk_cell hW.z 0; have z1 := blk_cell hW.z 1; go_simp) ?_
    simp only [Act.put, List.setIfInBounds_toArray, List.set_cons_zero, List.set_cons_succ]
    refine wpL_take 17 61 (.pointer (some ⟨w.heap.size, 9, none⟩)) [] rfl rfl (by kernel_rfl) (by decide) (by kernel_rfl) (by kernel_rfl) (by kernel_rfl) (fun _ _ _ h => h) HS.out (by rfl) (fun W hW => by have x1 := blk_cell hW.x 1; have x2 := blk_cell hW.x 2; have x3 := blk_cell hW.x 3; have x4 := blk_cell hW.x 4; have x6 := blk_cell hW.x 6; have x7 := blk_cell hW.x 7; have x8 := blk_cell hW.x 8; have x9 := blk_cell hW.x 9; have y0 := blk_cell hW.y 0; have y1 := blk_cell hW.y 1; have p0 := hW.p0; have p1 := hW.p1; have z0 := blk_cell hW.z 0; have z1 := blk_cell hW.z 1; go_simp) ?_
    simp only [Act.put, List.setIfInBounds_toArray, List.set_cons_zero, List.set_cons_succ]
    refine wpL_take 18 62 (i64 x.c.rts) [] rfl rfl (by kernel_rfl) (by decide) (by kernel_rfl) (by kernel_rfl) (by kernel_rfl) (fun _ _ _ h => h) HS.out (by rfl) (fun W hW => by have x1 := blk_cell hW.x 1; have x2 := blk_cell hW.x 2; have x3 := blk_cell hW.x 3; have x4 := blk_cell hW.x 4; have x6 := blk_cell hW.x 6; have x7 := blk_cell hW.x 7; have x8 := blk_cell hW.x 8; have x9 := blk_cell hW.x 9; have y0 := blk_cell hW.y 0; have y1 := blk_cell hW.y 1; have p0 := hW.p0; have p1 := hW.p1; have z0 := blk_cell hW.z 0; have z1 := blk_cell hW.z 1; go_simp) ?_
    simp only [Act.put, List.setIfInBounds_toArray, List.set_cons_zero, List.set_cons_succ]
    refine wpL_take 19 63 (.agg #[i64 x.c.env, i64 x.c.kind, i64 x.c.num, i64 x.c.rts, i64 0, i64 0, i64 0, .bool false]) [] rfl rfl (by kernel_rfl) (by decide) (by kernel_rfl) (by kernel_rfl) (by kernel_rfl) (fun _ _ _ h => h) HS.out (by rfl) (fun W hW => by have x1 := blk_cell hW.x 1; have x2 := blk_cell hW.x 2; have x3 := blk_cell hW.x 3; have x4 := blk_cell hW.x 4; have x6 := blk_cell hW.x 6; have x7 := blk_cell hW.x 7; have x8 := blk_cell hW.x 8; have x9 := blk_cell hW.x 9; have y0 := blk_cell hW.y 0; have y1 := blk_cell hW.y 1; have p0 := hW.p0; have p1 := hW.p1; have z0 := blk_cell hW.z 0; have z1 := blk_cell hW.z 1; go_simp) ?_
    simp only [Act.put, List.setIfInBounds_toArray, List.set_cons_zero, List.set_cons_succ]
    refine wpL_take 21 65 (.pointer (some ⟨w.heap.size, 6, none⟩)) [] rfl rfl (by kernel_rfl) (by decide) (by kernel_rfl) (by kernel_rfl) (by kernel_rfl) (fun _ _ _ h => h) HS.out (by rfl) (fun W hW => by have x1 := blk_cell hW.x 1; have x2 := blk_cell hW.x 2; have x3 := blk_cell hW.x 3; have x4 := blk_cell hW.x 4; have x6 := blk_cell hW.x 6; have x7 := blk_cell hW.x 7; have x8 := blk_cell hW.x 8; have x9 := blk_cell hW.x 9; have y0 := blk_cell hW.y 0; have y1 := blk_cell hW.y 1; have p0 := hW.p0; have p1 := hW.p1; have z0 := blk_cell hW.z 0; have z1 := blk_cell hW.z 1; go_simp) ?_
    simp only [Act.put, List.setIfInBounds_toArray, List.set_cons_zero, List.set_cons_succ]
    refine wpL_take 22 66 (.pointer (some ⟨w.heap.size, 6, none⟩)) [] rfl rfl (by kernel_rfl) (by decide) (by kernel_rfl) (by kernel_rfl) (by kernel_rfl) (fun _ _ _ h => h) HS.out (by rfl) (fun W hW => by have x1 := blk_cell hW.x 1; have x2 := blk_cell hW.x 2; have x3 := blk_cell hW.x 3; have x4 := blk_cell hW.x 4; have x6 := blk_cell hW.x 6; have x7 := blk_cell hW.x 7; have x8 := blk_cell hW.x 8; have x9 := blk_cell hW.x 9; have y0 := blk_cell hW.y 0; have y1 := blk_cell hW.y 1; have p0 := hW.p0; have p1 := hW.p1; have z0 := blk_cell hW.z 0; have z1 := blk_cell hW.z 1; go_simp) ?_
    simp only [Act.put, List.setIfInBounds_toArray, List.set_cons_zero, List.set_cons_succ]
    refine wpL_take 23 67 (i64 x.c.env) [] rfl rfl (by kernel_rfl) (by decide) (by kernel_rfl) (by kernel_rfl) (by kernel_rfl) (fun _ _ _ h => h) HS.out (by rfl) (fun W hW => by have x1 := blk_cell hW.x 1; have x2 := blk_cell hW.x 2; have x3 := blk_cell hW.x 3; have x4 := blk_cell hW.x 4; have x6 := blk_cell hW.x 6; have x7 := blk_cell hW.x 7; have x8 := blk_cell hW.x 8; have x9 := blk_cell hW.x 9; have y0 := blk_cell hW.y 0; have y1 := blk_cell hW.y 1; have p0 := hW.p0; have p1 := hW.p1; have z0 := blk_cell hW.z 0; have z1 := blk_cell hW.z 1; go_simp) ?_
    simp only [Act.put, List.setIfInBounds_toArray, List.set_cons_zero, List.set_cons_succ]
    have HSr : Hid (SqV2 w.heap.size Y Z P b r x hs hg (s : Nat) g U.drew) := HS
    have HPr : Hid (U.drew.heap[P]? = some (.cells #[pq b, pq r, vH, vE] 34)) := HPu
    have HHr : Hid (U.drew.ownsRow base 42 2 vH L.length (hcn (L.map hdR))) := own_keep HHu.out (fun _ _ h => h)
    have HEr : Hid (U.drew.ownsRow base 3 1 vE L.length (icells (L.map fun q => q.c.env))) := own_keep HEu.out (fun _ _ h => h)
    have HRr : Hid (Rb U.drew base r L) := HRu.out.same (fun _ _ h _ => h)
    have HTr : Hid (Tb U.drew base b T') := ⟨HTu.out.lo, HTu.out.len, HTu.out.row⟩
    have HFr : Hid (Fr base FD w U.drew) := ⟨HFw.out.below.drew, HFw.out.kept⟩
    refine wpL_one 20 rfl (by kernel_rfl) (by rfl) (fun K hK => ?_)
    go_simp
    refine (HMd.out.c2 _ HRr.out).mono ?_
    rintro e w6 ⟨rfl, hR6, hf6⟩
    have HS6 : Hid (SqV2 w.heap.size Y Z P b r x hs hg (s : Nat) g w6) := ⟨hf6.kept _ _ HSr.out.x (by rfl), hf6.kept _ _ HSr.out.y (by rfl), hf6.kept _ _ HSr.out.z (by rfl), vH, vE, hf6.kept _ _ HPr.out (by rfl)⟩
    have HR6 := hid hR6
    have HP6 : Hid (w6.heap[P]? = some (.cells #[pq b, pq r, vH, vE] 34)) := hf6.kept _ _ HPr.out (by rfl)
    have HH6 : Hid (w6.ownsRow base 42 2 vH L.length (hcn (L.map hdR))) := own_keep HHr.out (fun k C hC => hf6.kept k _ hC (by rfl))
    have HE6 : Hid (w6.ownsRow base 3 1 vE L.length (icells (L.map fun q => q.c.env))) := own_keep HEr.out (fun k C hC => hf6.kept k _ hC (by rfl))
    have HT6 : Hid (Tb w6 base b T') := HTr.out.fr hf6 (by rfl)
    have HF6 : Hid (Fr base FD w w6) := HFr.out.trans (fd_r hf6)
    clear hR6 hf6
    go_simp
    refine hK.out _ _ (fun _ => HS6.out) ?_
    clear hK K
    refine wpL_one 24 rfl (by kernel_rfl) (by rfl) (fun K hK => ?_)
    go_simp
    refine (HMd.out.gv w6 vH vE hPlo HP6.out HH6.out HE6.out).mono ?_
    rintro e w7 ⟨rfl, hf7, ⟨vH', vE', hP7, hH7, hE7⟩, hfar⟩
    have hoH : ∀ q, some q = vH.ownBlock → q < w.heap.size := fun q hq => (HH0.out.lt q hq.symm).2
    have hoE : ∀ q, some q = vE.ownBlock → q < w.heap.size := fun q hq => (HE0.out.lt q hq.symm).2
    have HS7 : Hid (SqV2 w.heap.size Y Z P b r x hs hg (s : Nat) g w7) := ⟨(hfar _ (blk_lt HS6.out.x) (by omega) (fun e => by have := hoH _ e; omega) (fun e => by have := hoE _ e; omega)).trans HS6.out.x, (hfar _ (blk_lt HS6.out.y) (by omega) (fun e => by have := hoH _ e; omega) (fun e => by have := hoE _ e; omega)).trans HS6.out.y, (hfar _ (blk_lt HS6.out.z) (by omega) (fun e => by have := hoH _ e; omega) (fun e => by have := hoE _ e; omega)).trans HS6.out.z, vH', vE', hP7⟩
    have HPw7 : Hid (Pw w7 base P b r T' L') := ⟨hPlo, HT6.out.fr hf7 (by rfl), HR6.out.fr hf7 (by rfl) (by rfl), HMd.out.rel, HMd.out.gu, vH', vE', hP7, hH7, hE7⟩
    have HF7 : Hid (Fr base FD w w7) := HF6.out.trans (fd_g hf7)
    clear hf7 hP7 hH7 hE7 hfar hoH hoE
    go_simp
    refine hK.out _ _ (fun _ => HS7.out) ?_
    clear hK K
    refine wpL_one 25 rfl (by kernel_rfl) (by rfl) (fun K hK => ?_)
    go_simp
    refine hK.out _ _ (fun h => absurd rfl h) ?_
    clear hK K
    refine wpL_done (by kernel_rfl) ?_
    refine NoPanic.normal ?_
    go_wp2_with fail
    go_ret
    exact ⟨rfl, ⟨T', L', HPw7.out, HMd.out.mono, HMd.out.len⟩, HF7.out⟩
  · go_simp
    have hbA : Below W3.heap.size W3 ((W3.alloc (hO 0 0)).drew) := (below_one W3 _).drew
    have HS1 : Hid (SqW w.heap.size Y P b r x hs hg ((W3.alloc (hO 0 0)).drew)) := (SqW.of HX3.out HY3.out HP3.out).below hbA
    have HTA : Hid (Tb ((W3.alloc (hO 0 0)).drew) base b T) := HP3.out.tb.below hbA
    have HZA : Hid (((W3.alloc (hO 0 0)).drew).heap[W3.heap.size]? = some (hO 0 0)) := heap_last W3 _
    have HFA : Hid (Fr base [72] W3 ((W3.alloc (hO 0 0)).drew)) := Fr.of_below _ hbA (Nat.le_trans hlo HB3.out.size)
    clear hbA
    refine hK.out _ _ (fun _ => HS1.out) ?_
    clear hK K
    unfold hO at HTA HZA HFA
    refine wpL_one 6 rfl (by kernel_rfl) (by rfl) (fun K hK => ?_)
    go_simp
    refine (HMd.out.c1 _ HTA.out).mono ?_
    rintro e w4 ⟨rfl, hT4, hf4⟩
    have HT4 := hid hT4
    have HS2 : Hid (SqW w.heap.size Y P b r x hs hg w4) := HS1.out.fr hf4 (by rfl) (by rfl) (by rfl)
    have HF4 : Hid (Fr base [72] W3 w4) := HFA.out.trans hf4
    have HZ4 : Hid (w4.heap[W3.heap.size]? = some (hO 0 0)) := hf4.kept _ _ HZA.out (by rfl)
    clear hT4 hf4 HZA HFA HTA HS1
    go_simp
    refine hK.out _ _ (fun _ => HS2.out) ?_
    clear hK K
    refine wpL_take 7 34 (.tuple #[.agg #[i64 (s : Nat), i64 g], i64 E]) [] rfl rfl (by kernel_rfl) (by decide) (by kernel_rfl) (by kernel_rfl) (by kernel_rfl) (fun _ _ _ h => h) HS2.out (by rfl) (fun W hW => by have x1 := blk_cell hW.x 1; have x2 := blk_cell hW.x 2; have x3 := blk_cell hW.x 3; have x4 := blk_cell hW.x 4; have x6 := blk_cell hW.x 6; have x7 := blk_cell hW.x 7; have x8 := blk_cell hW.x 8; have x9 := blk_cell hW.x 9; have y0 := blk_cell hW.y 0; have y1 := blk_cell hW.y 1; have p0 := hW.p0; have p1 := hW.p1; go_simp) ?_
    simp only [Act.put, List.setIfInBounds_toArray, List.set_cons_zero, List.set_cons_succ]
    refine wpL_take 8 42 (.agg #[i64 (s : Nat), i64 g]) [] rfl rfl (by kernel_rfl) (by decide) (by kernel_rfl) (by kernel_rfl) (by kernel_rfl) (fun _ _ _ h => h) HS2.out (by rfl) (fun W hW => by have x1 := blk_cell hW.x 1; have x2 := blk_cell hW.x 2; have x3 := blk_cell hW.x 3; have x4 := blk_cell hW.x 4; have x6 := blk_cell hW.x 6; have x7 := blk_cell hW.x 7; have x8 := blk_cell hW.x 8; have x9 := blk_cell hW.x 9; have y0 := blk_cell hW.y 0; have y1 := blk_cell hW.y 1; have p0 := hW.p0; have p1 := hW.p1; go_simp) ?_
    simp only [Act.put, List.setIfInBounds_toArray, List.set_cons_zero, List.set_cons_succ]
    refine wpL_take 9 43 (i64 E) [] rfl rfl (by kernel_rfl) (by decide) (by kernel_rfl) (by kernel_rfl) (by kernel_rfl) (fun _ _ _ h => h) HS2.out (by rfl) (fun W hW => by have x1 := blk_cell hW.x 1; have x2 := blk_cell hW.x 2; have x3 := blk_cell hW.x 3; have x4 := blk_cell hW.x 4; have x6 := blk_cell hW.x 6; have x7 := blk_cell hW.x 7; have x8 := blk_cell hW.x 8; have x9 := blk_cell hW.x 9; have y0 := blk_cell hW.y 0; have y1 := blk_cell hW.y 1; have p0 := hW.p0; have p1 := hW.p1; go_simp) ?_
    simp only [Act.put, List.setIfInBounds_toArray, List.set_cons_zero, List.set_cons_succ]
    have z0 : w4.cell? ⟨W3.heap.size, 0, none⟩ = some (i64 0) := blk_cell HZ4.out 0
    have z1 : w4.cell? ⟨W3.heap.size, 1, none⟩ = some (i64 0) := blk_cell HZ4.out 1
    have zf : ∀ j, w4.frozen? ⟨W3.heap.size, j, none⟩ = false := blk_frozen HZ4.out
    have HTu : Hid (Tb ((w4.setCell ⟨W3.heap.size, 0, none⟩ (i64 (s : Nat))).setCell ⟨W3.heap.size, 1, none⟩ (i64 g)) base b T') := HT4.out.set_new (fun e => by have := HT4.out.row; rw [e, HZ4.out] at this; simp at this) _ _
    have HFu : Hid (Fr base [72] W3 ((w4.setCell ⟨W3.heap.size, 0, none⟩ (i64 (s : Nat))).setCell ⟨W3.heap.size, 1, none⟩ (i64 g))) := ⟨bel2 HF4.out.below (Nat.le_trans hlo HB3.out.size) _ _, fun k o hk ho => by rw [Below.heap_setCell _ _ _ _ (by show k ≠ W3.heap.size; have := blk_lt hk; omega), Below.heap_setCell _ _ _ _ (by show k ≠ W3.heap.size; have := blk_lt hk; omega)]; exact HF4.out.kept k o hk ho⟩
    have HZu : Hid (((w4.setCell ⟨W3.heap.size, 0, none⟩ (i64 (s : Nat))).setCell ⟨W3.heap.size, 1, none⟩ (i64 g)).heap[W3.heap.size]? = some (hO (s : Nat) g)) := set2 HZ4.out _ _
    have HSu : Hid (SqW w.heap.size Y P b r x hs hg ((w4.setCell ⟨W3.heap.size, 0, none⟩ (i64 (s : Nat))).setCell ⟨W3.heap.size, 1, none⟩ (i64 g))) := by
      obtain ⟨a1, a2, a3, a4, a5⟩ := HS2.out
      have hYl := blk_lt HY3.out
      have hPl3 := blk_lt HPb.out
      refine ⟨?_, ?_, a3, a4, ?_⟩
      · rw [Below.heap_setCell _ _ _ _ (by show w.heap.size ≠ W3.heap.size; omega), Below.heap_setCell _ _ _ _ (by show w.heap.size ≠ W3.heap.size; omega)]; exact a1
      · rw [Below.heap_setCell _ _ _ _ (by show Y ≠ W3.heap.size; omega), Below.heap_setCell _ _ _ _ (by show Y ≠ W3.heap.size; omega)]; exact a2
      · rw [Below.heap_setCell _ _ _ _ (by show P ≠ W3.heap.size; omega), Below.heap_setCell _ _ _ _ (by show P ≠ W3.heap.size; omega)]; exact a5
    refine wpL_one 11 rfl (by kernel_rfl) (by rfl) (fun K hK => ?_)
    go_simp
    refine hK.out _ _ (fun _ => HSu.out) ?_
    clear hK K
    refine wpL_one 12 rfl (by kernel_rfl) (by rfl) (fun K hK => ?_)
    go_simp
    refine hK.out _ _ (fun h => absurd rfl h) ?_
    clear hK K
    refine wpL_done (by kernel_rfl) ?_
    refine NoPanic.normal ?_
    have hZl : w.heap.size < W3.heap.size := hX3
    obtain ⟨Z, hZe⟩ : ∃ Z, W3.heap.size = Z := ⟨_, rfl⟩
    rw [hZe] at hZl HZu HFu HTu ⊢
    clear HS HS2 HT4 HF4 HZ4 z0 z1 zf HSu hZe
    generalize (w4.setCell ⟨Z, 0, none⟩ (i64 (s : Nat))).setCell ⟨Z, 1, none⟩ (i64 g) = U at *
    have HXu : Hid (U.heap[w.heap.size]? = some (spO x)) := HFu.out.kept _ _ HX3.out (by rfl)
    have HYu : Hid (U.heap[Y]? = some (hO hs hg)) := HFu.out.kept _ _ HY3.out (by rfl)
    have HPu : Hid (U.heap[P]? = some (.cells #[pq b, pq r, vH, vE] 34)) := HFu.out.kept _ _ HPb.out (by rfl)
    have HHu : Hid (U.ownsRow base 42 2 vH L.length (hcn (L.map hdR))) := own_keep HHb.out (fun k C hC => HFu.out.kept k _ hC (by rfl))
    have HEu : Hid (U.ownsRow base 3 1 vE L.length (icells (L.map fun q => q.c.env))) := own_keep HEb.out (fun k C hC => HFu.out.kept k _ hC (by rfl))
    have HRu : Hid (Rb U base r L) := HP3.out.rb.fr HFu.out (by rfl) (by rfl)
    have HFw : Hid (Fr base FD w U) := (Fr.of_below _ HB3.out hlo).trans (HFu.out.mono (fun o ho => by
      cases o with
      | cells C t fr => simp [keeps] at ho ⊢; exact ho.1
      | _ => rfl))
    clear HPb HHb HEb HFu HX3 HY3 HB3 HP3
    go_upto_region 6 with fail
    have HS : Hid (SqV2 w.heap.size Y Z P b r x hs hg (s : Nat) g U.drew) := ⟨HXu.out, HYu.out, HZu.out, vH, vE, HPu.out⟩
    refine wp_region_noPanic ?_
    refine wp_region_last (SqV2 w.heap.size Y Z P b r x hs hg (s : Nat) g) 25 (by kernel_rfl) ?_
    refine wpL_take 0 44 (pq P) [] rfl rfl (by kernel_rfl) (by decide) (by kernel_rfl) (by kernel_rfl) (by kernel_rfl) (fun _ _ _ h => h) HS.out (by rfl) (fun W hW => by have x1 := blk_cell hW.x 1; have x2 := blk_cell hW.x 2; have x3 := blk_cell hW.x 3; have x4 := blk_cell hW.x 4; have x6 := blk_cell hW.x 6; have x7 := blk_cell hW.x 7; have x8 := blk_cell hW.x 8; have x9 := blk_cell hW.x 9; have y0 := blk_cell hW.y 0; have y1 := blk_cell hW.y 1; have p0 := hW.p0; have p1 := hW.p1; have z0 := blk_cell hW.z 0; have z1 := blk_cell hW.z 1; go_simp) ?_
    simp only [Act.put, List.setIfInBounds_toArray, List.set_cons_zero, List.set_cons_succ]
    refine wpL_take 1 45 (.agg #[i64 (s : Nat), i64 g]) [] rfl rfl (by kernel_rfl) (by decide) (by kernel_rfl) (by kernel_rfl) (by kernel_rfl) (fun _ _ _ h => h) HS.out (by rfl) (fun W hW => by have x1 := blk_cell hW.x 1; have x2 := blk_cell hW.x 2; have x3 := blk_cell hW.x 3; have x4 := blk_cell hW.x 4; have x6 := blk_cell hW.x 6; have x7 := blk_cell hW.x 7; have x8 := blk_cell hW.x 8; have x9 := blk_cell hW.x 9; have y0 := blk_cell hW.y 0; have y1 := blk_cell hW.y 1; have p0 := hW.p0; have p1 := hW.p1; have z0 := blk_cell hW.z 0; have z1 := blk_cell hW.z 1; go_simp) ?_
    simp only [Act.put, List.setIfInBounds_toArray, List.set_cons_zero, List.set_cons_succ]
    refine wpL_take 2 46 (i64 E) [] rfl rfl (by kernel_rfl) (by decide) (by kernel_rfl) (by kernel_rfl) (by kernel_rfl) (fun _ _ _ h => h) HS.out (by rfl) (fun W hW => by have x1 := blk_cell hW.x 1; have x2 := blk_cell hW.x 2; have x3 := blk_cell hW.x 3; have x4 := blk_cell hW.x 4; have x6 := blk_cell hW.x 6; have x7 := blk_cell hW.x 7; have x8 := blk_cell hW.x 8; have x9 := blk_cell hW.x 9; have y0 := blk_cell hW.y 0; have y1 := blk_cell hW.y 1; have p0 := hW.p0; have p1 := hW.p1; have z0 := blk_cell hW.z 0; have z1 := blk_cell hW.z 1; go_simp) ?_
    simp only [Act.put, List.setIfInBounds_toArray, List.set_cons_zero, List.set_cons_succ]
    refine wpL_take 3 47 (pq P) [] rfl rfl (by kernel_rfl) (by decide) (by kernel_rfl) (by kernel_rfl) (by kernel_rfl) (fun _ _ _ h => h) HS.out (by rfl) (fun W hW => by have x1 := blk_cell hW.x 1; have x2 := blk_cell hW.x 2; have x3 := blk_cell hW.x 3; have x4 := blk_cell hW.x 4; have x6 := blk_cell hW.x 6; have x7 := blk_cell hW.x 7; have x8 := blk_cell hW.x 8; have x9 := blk_cell hW.x 9; have y0 := blk_cell hW.y 0; have y1 := blk_cell hW.y 1; have p0 := hW.p0; have p1 := hW.p1; have z0 := blk_cell hW.z 0; have z1 := blk_cell hW.z 1; go_simp) ?_
    simp only [Act.put, List.setIfInBounds_toArray, List.set_cons_zero, List.set_cons_succ]
    refine wpL_take 4 48 (pq P) [] rfl rfl (by kernel_rfl) (by decide) (by kernel_rfl) (by kernel_rfl) (by kernel_rfl) (fun _ _ _ h => h) HS.out (by rfl) (fun W hW => by have x1 := blk_cell hW.x 1; have x2 := blk_cell hW.x 2; have x3 := blk_cell hW.x 3; have x4 := blk_cell hW.x 4; have x6 := blk_cell hW.x 6; have x7 := blk_cell hW.x 7; have x8 := blk_cell hW.x 8; have x9 := blk_cell hW.x 9; have y0 := blk_cell hW.y 0; have y1 := blk_cell hW.y 1; have p0 := hW.p0; have p1 := hW.p1; have z0 := blk_cell hW.z 0; have z1 := blk_cell hW.z 1; go_simp) ?_
    simp only [Act.put, List.setIfInBounds_toArray, List.set_cons_zero, List.set_cons_succ]
    refine wpL_take 5 49 (.pointer (some ⟨P, 1, none⟩)) [] rfl rfl (by kernel_rfl) (by decide) (by kernel_rfl) (by kernel_rfl) (by kernel_rfl) (fun _ _ _ h => h) HS.out (by rfl) (fun W hW => by have x1 := blk_cell hW.x 1; have x2 := blk_cell hW.x 2; have x3 := blk_cell hW.x 3; have x4 := blk_cell hW.x 4; have x6 := blk_cell hW.x 6; have x7 := blk_cell hW.x 7; have x8 := blk_cell hW.x 8; have x9 := blk_cell hW.x 9; have y0 := blk_cell hW.y 0; have y1 := blk_cell hW.y 1; have p0 := hW.p0; have p1 := hW.p1; have z0 := blk_cell hW.z 0; have z1 := blk_cell hW.z 1; go_simp) ?_
    simp only [Act.put, List.setIfInBounds_toArray, List.set_cons_zero, List.set_cons_succ]
    refine wpL_take 6 50 (pq r) [] rfl rfl (by kernel_rfl) (by decide) (by kernel_rfl) (by kernel_rfl) (by kernel_rfl) (fun _ _ _ h => h) HS.out (by rfl) (fun W hW => by have x1 := blk_cell hW.x 1; have x2 := blk_cell hW.x 2; have x3 := blk_cell hW.x 3; have x4 := blk_cell hW.x 4; have x6 := blk_cell hW.x 6; have x7 := blk_cell hW.x 7; have x8 := blk_cell hW.x 8; have x9 := blk_cell hW.x 9; have y0 := blk_cell hW.y 0; have y1 := blk_cell hW.y 1; have p0 := hW.p0; have p1 := hW.p1; have z0 := blk_cell hW.z 0; have z1 := blk_cell hW.z 1; go_simp) ?_
    simp only [Act.put, List.setIfInBounds_toArray, List.set_cons_zero, List.set_cons_succ]
    refine wpL_take 7 51 (.pointer (some ⟨w.heap.size, 6, none⟩)) [] rfl rfl (by kernel_rfl) (by decide) (by kernel_rfl) (by kernel_rfl) (by kernel_rfl) (fun _ _ _ h => h) HS.out (by rfl) (fun W hW => by have x1 := blk_cell hW.x 1; have x2 := blk_cell hW.x 2; have x3 := blk_cell hW.x 3; have x4 := blk_cell hW.x 4; have x6 := blk_cell hW.x 6; have x7 := blk_cell hW.x 7; have x8 := blk_cell hW.x 8; have x9 := blk_cell hW.x 9; have y0 := blk_cell hW.y 0; have y1 := blk_cell hW.y 1; have p0 := hW.p0; have p1 := hW.p1; have z0 := blk_cell hW.z 0; have z1 := blk_cell hW.z 1; go_simp) ?_
    simp only [Act.put, List.setIfInBounds_toArray, List.set_cons_zero, List.set_cons_succ]
    refine wpL_take 8 52 (.pointer (some ⟨w.heap.size, 6, none⟩)) [] rfl rfl (by kernel_rfl) (by decide) (by kernel_rfl) (by kernel_rfl) (by kernel_rfl) (fun _ _ _ h => h) HS.out (by rfl) (fun W hW => by have x1 := blk_cell hW.x 1; have x2 := blk_cell hW.x 2; have x3 := blk_cell hW.x 3; have x4 := blk_cell hW.x 4; have x6 := blk_cell hW.x 6; have x7 := blk_cell hW.x 7; have x8 := blk_cell hW.x 8; have x9 := blk_cell hW.x 9; have y0 := blk_cell hW.y 0; have y1 := blk_cell hW.y 1; have p0 := hW.p0; have p1 := hW.p1; have z0 := blk_cell hW.z 0; have z1 := blk_cell hW.z 1; go_simp) ?_
    simp only [Act.put, List.setIfInBounds_toArray, List.set_cons_zero, List.set_cons_succ]
    refine wpL_take 9 53 (i64 x.c.env) [] rfl rfl (by kernel_rfl) (by decide) (by kernel_rfl) (by kernel_rfl) (by kernel_rfl) (fun _ _ _ h => h) HS.out (by rfl) (fun W hW => by have x1 := blk_cell hW.x 1; have x2 := blk_cell hW.x 2; have x3 := blk_cell hW.x 3; have x4 := blk_cell hW.x 4; have x6 := blk_cell hW.x 6; have x7 := blk_cell hW.x 7; have x8 := blk_cell hW.x 8; have x9 := blk_cell hW.x 9; have y0 := blk_cell hW.y 0; have y1 := blk_cell hW.y 1; have p0 := hW.p0; have p1 := hW.p1; have z0 := blk_cell hW.z 0; have z1 := blk_cell hW.z 1; go_simp) ?_
    simp only [Act.put, List.setIfInBounds_toArray, List.set_cons_zero, List.set_cons_succ]
    refine wpL_take 10 54 (.pointer (some ⟨w.heap.size, 6, none⟩)) [] rfl rfl (by kernel_rfl) (by decide) (by kernel_rfl) (by kernel_rfl) (by kernel_rfl) (fun _ _ _ h => h) HS.out (by rfl) (fun W hW => by have x1 := blk_cell hW.x 1; have x2 := blk_cell hW.x 2; have x3 := blk_cell hW.x 3; have x4 := blk_cell hW.x 4; have x6 := blk_cell hW.x 6; have x7 := blk_cell hW.x 7; have x8 := blk_cell hW.x 8; have x9 := blk_cell hW.x 9; have y0 := blk_cell hW.y 0; have y1 := blk_cell hW.y 1; have p0 := hW.p0; have p1 := hW.p1; have z0 := blk_cell hW.z 0; have z1 := blk_cell hW.z 1; go_simp) ?_
    simp only [Act.put, List.setIfInBounds_toArray, List.set_cons_zero, List.set_cons_succ]
    refine wpL_take 11 55 (.pointer (some ⟨w.heap.size, 7, none⟩)) [] rfl rfl (by kernel_rfl) (by decide) (by kernel_rfl) (by kernel_rfl) (by kernel_rfl) (fun _ _ _ h => h) HS.out (by rfl) (fun W hW => by have x1 := blk_cell hW.x 1; have x2 := blk_cell hW.x 2; have x3 := blk_cell hW.x 3; have x4 := blk_cell hW.x 4; have x6 := blk_cell hW.x 6; have x7 := blk_cell hW.x 7; have x8 := blk_cell hW.x 8; have x9 := blk_cell hW.x 9; have y0 := blk_cell hW.y 0; have y1 := blk_cell hW.y 1; have p0 := hW.p0; have p1 := hW.p1; have z0 := blk_cell hW.z 0; have z1 := blk_cell hW.z 1; go_simp) ?_
    simp only [Act.put, List.setIfInBounds_toArray, List.set_cons_zero, List.set_cons_succ]
    refine wpL_take 12 56 (i64 x.c.kind) [] rfl rfl (by kernel_rfl) (by decide) (by kernel_rfl) (by kernel_rfl) (by kernel_rfl) (fun _ _ _ h => h) HS.out (by rfl) (fun W hW => by have x1 := blk_cell hW.x 1; have x2 := blk_cell hW.x 2; have x3 := blk_cell hW.x 3; have x4 := blk_cell hW.x 4; have x6 := blk_cell hW.x 6; have x7 := blk_cell hW.x 7; have x8 := blk_cell hW.x 8; have x9 := blk_cell hW.x 9; have y0 := blk_cell hW.y 0; have y1 := blk_cell hW.y 1; have p0 := hW.p0; have p1 := hW.p1; have z0 := blk_cell hW.z 0; have z1 := blk_cell hW.z 1; go_simp) ?_
    simp only [Act.put, List.setIfInBounds_toArray, List.set_cons_zero, List.set_cons_succ]
    refine wpL_take 13 57 (.pointer (some ⟨w.heap.size, 6, none⟩)) [] rfl rfl (by kernel_rfl) (by decide) (by kernel_rfl) (by kernel_rfl) (by kernel_rfl) (fun _ _ _ h => h) HS.out (by rfl) (fun W hW => by have x1 := blk_cell hW.x 1; have x2 := blk_cell hW.x 2; have x3 := blk_cell hW.x 3; have x4 := blk_cell hW.x 4; have x6 := blk_cell hW.x 6; have x7 := blk_cell hW.x 7; have x8 := blk_cell hW.x 8; have x9 := blk_cell hW.x 9; have y0 := blk_cell hW.y 0; have y1 := blk_cell hW.y 1; have p0 := hW.p0; have p1 := hW.p1; have z0 := blk_cell hW.z 0; have z1 := blk_cell hW.z 1; go_simp) ?_
    simp only [Act.put, List.setIfInBounds_toArray, List.set_cons_zero, List.set_cons_succ]
    refine wpL_take 14 58 (.pointer (some ⟨w.heap.size, 8, none⟩)) [] rfl rfl (by kernel_rfl) (by decide) (by kernel_rfl) (by kernel_rfl) (by kernel_rfl) (fun _ _ _ h => h) HS.out (by rfl) (fun W hW => by have x1 := blk_cell hW.x 1; have x2 := blk_cell hW.x 2; have x3 := blk_cell hW.x 3; have x4 := blk_cell hW.x 4; have x6 := blk_cell hW.x 6; have x7 := blk_cell hW.x 7; have x8 := blk_cell hW.x 8; have x9 := blk_cell hW.x 9; have y0 := blk_cell hW.y 0; have y1 := blk_cell hW.y 1; have p0 := hW.p0; have p1 := hW.p1; have z0 := blk_cell hW.z 0; have z1 := blk_cell hW.z 1; go_simp) ?_
    simp only [Act.put, List.setIfInBounds_toArray, List.set_cons_zero, List.set_cons_succ]
    refine wpL_take 15 59 (i64 x.c.num) [] rfl rfl (by kernel_rfl) (by decide) (by kernel_rfl) (by kernel_rfl) (by kernel_rfl) (fun _ _ _ h => h) HS.out (by rfl) (fun W hW => by have x1 := blk_cell hW.x 1; have x2 := blk_cell hW.x 2; have x3 := blk_cell hW.x 3; have x4 := blk_cell hW.x 4; have x6 := blk_cell hW.x 6; have x7 := blk_cell hW.x 7; have x8 := blk_cell hW.x 8; have x9 := blk_cell hW.x 9; have y0 := blk_cell hW.y 0; have y1 := blk_cell hW.y 1; have p0 := hW.p0; have p1 := hW.p1; have z0 := blk_cell hW.z 0; have z1 := blk_cell hW.z 1; go_simp) ?_
    simp only [Act.put, List.setIfInBounds_toArray, List.set_cons_zero, List.set_cons_succ]
    refine wpL_take 16 60 (.pointer (some ⟨w.heap.size, 6, none⟩)) [] rfl rfl (by kernel_rfl) (by decide) (by kernel_rfl) (by kernel_rfl) (by kernel_rfl) (fun _ _ _ h => h) HS.out (by rfl) (fun W hW => by have x1 := blk_cell hW.x 1; have x2 := blk_cell hW.x 2; have x3 := blk_cell hW.x 3; have x4 := blk_cell hW.x 4; have x6 := blk_cell hW.x 6; have x7 := blk_cell hW.x 7; have x8 := blk_cell hW.x 8; have x9 := blk_cell hW.x 9; have y0 := blk_cell hW.y 0; have y1 := blk_cell hW.y 1; have p0 := hW.p0; have p1 := hW.p1; have z0 := blk_cell hW.z 0; have z1 := blk_cell hW.z 1; go_simp) ?_
    simp only [Act.put, List.setIfInBounds_toArray, List.set_cons_zero, List.set_cons_succ]
    refine wpL_take 17 61 (.pointer (some ⟨w.heap.size, 9, none⟩)) [] rfl rfl (by kernel_rfl) (by decide) (by kernel_rfl) (by kernel_rfl) (by kernel_rfl) (fun _ _ _ h => h) HS.out (by rfl) (fun W hW => by have x1 := blk_cell hW.x 1; have x2 := blk_cell hW.x 2; have x3 := blk_cell hW.x 3; have x4 := blk_cell hW.x 4; have x6 := blk_cell hW.x 6; have x7 := blk_cell hW.x 7; have x8 := blk_cell hW.x 8; have x9 := blk_cell hW.x 9; have y0 := blk_cell hW.y 0; have y1 := blk_cell hW.y 1; have p0 := hW.p0; have p1 := hW.p1; have z0 := blk_cell hW.z 0; have z1 := blk_cell hW.z 1; go_simp) ?_
    simp only [Act.put, List.setIfInBounds_toArray, List.set_cons_zero, List.set_cons_succ]
    refine wpL_take 18 62 (i64 x.c.rts) [] rfl rfl (by kernel_rfl) (by decide) (by kernel_rfl) (by kernel_rfl) (by kernel_rfl) (fun _ _ _ h => h) HS.out (by rfl) (fun W hW => by have x1 := blk_cell hW.x 1; have x2 := blk_cell hW.x 2; have x3 := blk_cell hW.x 3; have x4 := blk_cell hW.x 4; have x6 := blk_cell hW.x 6; have x7 := blk_cell hW.x 7; have x8 := blk_cell hW.x 8; have x9 := blk_cell hW.x 9; have y0 := blk_cell hW.y 0; have y1 := blk_cell hW.y 1; have p0 := hW.p0; have p1 := hW.p1; have z0 := blk_cell hW.z 0; have z1 := blk_cell hW.z 1; go_simp) ?_
    simp only [Act.put, List.setIfInBounds_toArray, List.set_cons_zero, List.set_cons_succ]
    refine wpL_take 19 63 (.agg #[i64 x.c.env, i64 x.c.kind, i64 x.c.num, i64 x.c.rts, i64 0, i64 0, i64 0, .bool false]) [] rfl rfl (by kernel_rfl) (by decide) (by kernel_rfl) (by kernel_rfl) (by kernel_rfl) (fun _ _ _ h => h) HS.out (by rfl) (fun W hW => by have x1 := blk_cell hW.x 1; have x2 := blk_cell hW.x 2; have x3 := blk_cell hW.x 3; have x4 := blk_cell hW.x 4; have x6 := blk_cell hW.x 6; have x7 := blk_cell hW.x 7; have x8 := blk_cell hW.x 8; have x9 := blk_cell hW.x 9; have y0 := blk_cell hW.y 0; have y1 := blk_cell hW.y 1; have p0 := hW.p0; have p1 := hW.p1; have z0 := blk_cell hW.z 0; have z1 := blk_cell hW.z 1; go_simp) ?_
    simp only [Act.put, List.setIfInBounds_toArray, List.set_cons_zero, List.set_cons_succ]
    refine wpL_take 21 65 (.pointer (some ⟨w.heap.size, 6, none⟩)) [] rfl rfl (by kernel_rfl) (by decide) (by kernel_rfl) (by kernel_rfl) (by kernel_rfl) (fun _ _ _ h => h) HS.out (by rfl) (fun W hW => by have x1 := blk_cell hW.x 1; have x2 := blk_cell hW.x 2; have x3 := blk_cell hW.x 3; have x4 := blk_cell hW.x 4; have x6 := blk_cell hW.x 6; have x7 := blk_cell hW.x 7; have x8 := blk_cell hW.x 8; have x9 := blk_cell hW.x 9; have y0 := blk_cell hW.y 0; have y1 := blk_cell hW.y 1; have p0 := hW.p0; have p1 := hW.p1; have z0 := blk_cell hW.z 0; have z1 := blk_cell hW.z 1; go_simp) ?_
    simp only [Act.put, List.setIfInBounds_toArray, List.set_cons_zero, List.set_cons_succ]
    refine wpL_take 22 66 (.pointer (some ⟨w.heap.size, 6, none⟩)) [] rfl rfl (by kernel_rfl) (by decide) (by kernel_rfl) (by kernel_rfl) (by kernel_rfl) (fun _ _ _ h => h) HS.out (by rfl) (fun W hW => by have x1 := blk_cell hW.x 1; have x2 := blk_cell hW.x 2; have x3 := blk_cell hW.x 3; have x4 := blk_cell hW.x 4; have x6 := blk_cell hW.x 6; have x7 := blk_cell hW.x 7; have x8 := blk_cell hW.x 8; have x9 := blk_cell hW.x 9; have y0 := blk_cell hW.y 0; have y1 := blk_cell hW.y 1; have p0 := hW.p0; have p1 := hW.p1; have z0 := blk_cell hW.z 0; have z1 := blk_cell hW.z 1; go_simp) ?_
    simp only [Act.put, List.setIfInBounds_toArray, List.set_cons_zero, List.set_cons_succ]
    refine wpL_take 23 67 (i64 x.c.env) [] rfl rfl (by kernel_rfl) (by decide) (by kernel_rfl) (by kernel_rfl) (by kernel_rfl) (fun _ _ _ h => h) HS.out (by rfl) (fun W hW => by have x1 := blk_cell hW.x 1; have x2 := blk_cell hW.x 2; have x3 := blk_cell hW.x 3; have x4 := blk_cell hW.x 4; have x6 := blk_cell hW.x 6; have x7 := blk_cell hW.x 7; have x8 := blk_cell hW.x 8; have x9 := blk_cell hW.x 9; have y0 := blk_cell hW.y 0; have y1 := blk_cell hW.y 1; have p0 := hW.p0; have p1 := hW.p1; have z0 := blk_cell hW.z 0; have z1 := blk_cell hW.z 1; go_simp) ?_
    simp only [Act.put, List.setIfInBounds_toArray, List.set_cons_zero, List.set_cons_succ]
    have HSr : Hid (SqV2 w.heap.size Y Z P b r x hs hg (s : Nat) g U.drew) := HS
    have HPr : Hid (U.drew.heap[P]? = some (.cells #[pq b, pq r, vH, vE] 34)) := HPu
    have HHr : Hid (U.drew.ownsRow base 42 2 vH L.length (hcn (L.map hdR))) := own_keep HHu.out (fun _ _ h => h)
    have HEr : Hid (U.drew.ownsRow base 3 1 vE L.length (icells (L.map fun q => q.c.env))) := own_keep HEu.out (fun _ _ h => h)
    have HRr : Hid (Rb U.drew base r L) := HRu.out.same (fun _ _ h _ => h)
    have HTr : Hid (Tb U.drew base b T') := ⟨HTu.out.lo, HTu.out.len, HTu.out.row⟩
    have HFr : Hid (Fr base FD w U.drew) := ⟨HFw.out.below.drew, HFw.out.kept⟩
    refine wpL_one 20 rfl (by kernel_rfl) (by rfl) (fun K hK => ?_)
    go_simp
    refine (HMd.out.c2 _ HRr.out).mono ?_
    rintro e w6 ⟨rfl, hR6, hf6⟩
    have HS6 : Hid (SqV2 w.heap.size Y Z P b r x hs hg (s : Nat) g w6) := ⟨hf6.kept _ _ HSr.out.x (by rfl), hf6.kept _ _ HSr.out.y (by rfl), hf6.kept _ _ HSr.out.z (by rfl), vH, vE, hf6.kept _ _ HPr.out (by rfl)⟩
    have HR6 := hid hR6
    have HP6 : Hid (w6.heap[P]? = some (.cells #[pq b, pq r, vH, vE] 34)) := hf6.kept _ _ HPr.out (by rfl)
    have HH6 : Hid (w6.ownsRow base 42 2 vH L.length (hcn (L.map hdR))) := own_keep HHr.out (fun k C hC => hf6.kept k _ hC (by rfl))
    have HE6 : Hid (w6.ownsRow base 3 1 vE L.length (icells (L.map fun q => q.c.env))) := own_keep HEr.out (fun k C hC => hf6.kept k _ hC (by rfl))
    have HT6 : Hid (Tb w6 base b T') := HTr.out.fr hf6 (by rfl)
    have HF6 : Hid (Fr base FD w w6) := HFr.out.trans (fd_r hf6)
    clear hR6 hf6
    go_simp
    refine hK.out _ _ (fun _ => HS6.out) ?_
    clear hK K
    refine wpL_one 24 rfl (by kernel_rfl) (by rfl) (fun K hK => ?_)
    go_simp
    refine (HMd.out.gv w6 vH vE hPlo HP6.out HH6.out HE6.out).mono ?_
    rintro e w7 ⟨rfl, hf7, ⟨vH', vE', hP7, hH7, hE7⟩, hfar⟩
    have hoH : ∀ q, some q = vH.ownBlock → q < w.heap.size := fun q hq => (HH0.out.lt q hq.symm).2
    have hoE : ∀ q, some q = vE.ownBlock → q < w.heap.size := fun q hq => (HE0.out.lt q hq.symm).2
    have HS7 : Hid (SqV2 w.heap.size Y Z P b r x hs hg (s : Nat) g w7) := ⟨(hfar _ (blk_lt HS6.out.x) (by omega) (fun e => by have := hoH _ e; omega) (fun e => by have := hoE _ e; omega)).trans HS6.out.x, (hfar _ (blk_lt HS6.out.y) (by omega) (fun e => by have := hoH _ e; omega) (fun e => by have := hoE _ e; omega)).trans HS6.out.y, (hfar _ (blk_lt HS6.out.z) (by omega) (fun e => by have := hoH _ e; omega) (fun e => by have := hoE _ e; omega)).trans HS6.out.z, vH', vE', hP7⟩
    have HPw7 : Hid (Pw w7 base P b r T' L') := ⟨hPlo, HT6.out.fr hf7 (by rfl), HR6.out.fr hf7 (by rfl) (by rfl), HMd.out.rel, HMd.out.gu, vH', vE', hP7, hH7, hE7⟩
    have HF7 : Hid (Fr base FD w w7) := HF6.out.trans (fd_g hf7)
    clear hf7 hP7 hH7 hE7 hfar hoH hoE
    go_simp
    refine hK.out _ _ (fun _ => HS7.out) ?_
    clear hK K
    refine wpL_one 25 rfl (by kernel_rfl) (by rfl) (fun K hK => ?_)
    go_simp
    refine hK.out _ _ (fun h => absurd rfl h) ?_
    clear hK K
    refine wpL_done (by kernel_rfl) ?_
    refine NoPanic.normal ?_
    go_wp2_with fail
    go_ret
    exact ⟨rfl, ⟨T', L', HPw7.out, HMd.out.mono, HMd.out.len⟩, HF7.out⟩
end Go.Proofs.Ytcffodkpflfeoaa
