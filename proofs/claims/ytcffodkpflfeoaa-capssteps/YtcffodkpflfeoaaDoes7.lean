/- imagolaw09.Pair's does: what drops an environment, what looks; no statement is proved in this text. -/
import Derived.Test.YtcffodkpflfeoaaDoes4
import Derived.Test.YtcffodkpflfeoaaDoes5
import Derived.Test.YtcffodkpflfeoaaDoes6
namespace Go.Proofs.Ytcffodkpflfeoaa
open Go.ChangeShapes Go.WideShapes Go.ChangeAt Go.RowKit Go.Deep
attribute [local go_sem ↓] Go.wp_at_zero Go.wp_at_succ

set_option maxRecDepth 100000 in
set_option maxHeartbeats 6400000 in
theorem does_env {w : World} {base P b r : Nat} {T : List Pl} {L : List Rw} (h : Pw w base P b r T L) (hl : L.length ≤ 800) (x : Sp) (hw : x.what = 6) : DoesTo w base P b r L x := by
  unfold DoesTo
  have HW := hid hw
  clear hw
  have hlo : base ≤ w.heap.size := by have := h.lt; have := h.lo; omega
  obtain ⟨V, hV⟩ : ∃ V, V = w.alloc (spO x) := ⟨_, rfl⟩
  have HV : Hid (w.alloc (.cells #[i64 x.what, i64 x.n, i64 x.env, i64 x.tt, i64 x.rights, .bool x.by_, i64 x.c.env, i64 x.c.kind, i64 x.c.num, i64 x.c.rts, i64 x.wrong] 38) = V) := hV.symm
  have hbV : Below w.heap.size w V := by rw [hV]; exact below_one w _
  have HX : Hid (V.heap[w.heap.size]? = some (spO x)) := by rw [hV]; exact heap_last w _
  have HPk := hid (pick_any (h.below hbV) (by omega) x)
  have HPw := hid (h.below hbV)
  have HBV := hid hbV
  clear h hV hbV
  generalize pkS L x = hs at *
  generalize pkG L x = hg at *
  generalize pkE L x = ev at *
  go_enter Try.func10, Try.ntmps10
  go_upto_region 1 with fail
  rw [HV.out]
  go_wp2_with (refine wpList_load_mid rfl 38 (.tmp 3) rfl w.heap.size 0 rfl x.c' _ (by exact spO_range HX.out) Try.underlying38 rfl info38 ?_)
  refine HPk.out.mono ?_
  rintro e w2 ⟨rfl, hb2⟩
  have hB2 : Below w.heap.size w w2 := HBV.out.trans (hb2.mono HBV.out.size)
  have HB3 : Hid (Below w.heap.size w (w2.alloc (hO hs hg))) := hB2.alloc hB2.size _
  have HX3 : Hid ((w2.alloc (hO hs hg)).heap[w.heap.size]? = some (spO x)) := blk_alloc (blk_below HX.out hb2) _
  have HY3 : Hid ((w2.alloc (hO hs hg)).heap[w2.heap.size]? = some (hO hs hg)) := heap_last w2 _
  have HP3 : Hid (Pw (w2.alloc (hO hs hg)) base P b r T L) := (HPw.out.below hb2).below (below_one _ _)
  clear hb2 hB2
  go_upto_region 2 with fail
  have hY : w.heap.size < w2.heap.size := by have := HX3.out; have h1 := blk_lt this; have h2 := HY3.out; rcases Nat.lt_or_ge w.heap.size w2.heap.size with h | h; exact h; have e : w.heap.size = w2.heap.size := by simp at h1; omega
                                             rw [e, h2] at this; simp at this
  unfold hO at HB3 HX3 HY3 HP3
  generalize w2.alloc (.cells #[i64 hs, i64 hg] 42) = W3 at *
  generalize w2.heap.size = Y at *
  clear HPk HPw HBV HX HV V
  have x0 : W3.cell? ⟨w.heap.size, 0, none⟩ = some (i64 6) := by have h0 : W3.cell? ⟨w.heap.size, 0, none⟩ = some (i64 x.what) := blk_cell HX3.out 0; rw [HW.out] at h0; exact h0
  go_upto_region 20 with fail
  clear x0
  have hboth : ∃ (M : Int) (T' : List Pl) (K : Nat → Bool), Rel T' (offs K L) ∧ (∀ W, Tb W base b T → Calls Try.prog 25 #[pq b, i64 x.env] W fun e w' => e = .returned (i64 M) ∧ Tb w' base b T' ∧ Fr base [72] W w') ∧ (∀ W, Rb W base r L → Calls Try.prog 30 #[pq r, i64 x.env] W fun e w' => e = .returned (i64 M) ∧ Rb w' base r (offs K L) ∧ Fr base [30, 66] W w') := by
    have hrel := HP3.out.rel
    obtain ⟨hr1, hr2⟩ := hrel.dropEnv x.env
    refine ⟨((gnL T (mEnv T x.env) (L.length + 2) 128).length : Nat), _, _, hr1, fun W hW => ?_, fun W hW => ?_⟩
    · exact (dropEnv_ok hW x.env (rkR L) hrel.rk (L.length + 2) (rkR_le L)).mono fun e w' ⟨he, ht, hto⟩ => ⟨he, ht, fr_t hW hto⟩
    · have := rdropEnv_ok hW (by omega) hrel.fw x.env
      rw [← hr2] at this
      exact this
  obtain ⟨M, T', K', hrel', hc1, hc2⟩ := hboth
  have HREL := hid hrel'
  have HC1 := hid hc1
  have HC2 := hid hc2
  clear hrel' hc1 hc2
  have HS : Hid (SqW w.heap.size Y P b r x hs hg W3.drew) := (SqW.of HX3.out HY3.out HP3.out).drew
  refine wp_region_noPanic ?_
  refine wp_region_last (SqW w.heap.size Y P b r x hs hg) 15 (by kernel_rfl) ?_
  refine wpL_take 0 169 (pq P) [] rfl rfl (by kernel_rfl) (by decide) (by kernel_rfl) (by kernel_rfl) (by kernel_rfl) (fun _ _ _ h => h) HS.out (by rfl) (fun W hW => by have x1 := blk_cell hW.x 1; have x2 := blk_cell hW.x 2; have x3 := blk_cell hW.x 3; have x4 := blk_cell hW.x 4; have x6 := blk_cell hW.x 6; have x7 := blk_cell hW.x 7; have x8 := blk_cell hW.x 8; have x9 := blk_cell hW.x 9; have y0 := blk_cell hW.y 0; have y1 := blk_cell hW.y 1; have p0 := hW.p0; have p1 := hW.p1; go_simp) ?_
  simp only [Act.put, List.setIfInBounds_toArray, List.set_cons_zero, List.set_cons_succ]
  refine wpL_take 1 170 (pq P) [] rfl rfl (by kernel_rfl) (by decide) (by kernel_rfl) (by kernel_rfl) (by kernel_rfl) (fun _ _ _ h => h) HS.out (by rfl) (fun W hW => by have x1 := blk_cell hW.x 1; have x2 := blk_cell hW.x 2; have x3 := blk_cell hW.x 3; have x4 := blk_cell hW.x 4; have x6 := blk_cell hW.x 6; have x7 := blk_cell hW.x 7; have x8 := blk_cell hW.x 8; have x9 := blk_cell hW.x 9; have y0 := blk_cell hW.y 0; have y1 := blk_cell hW.y 1; have p0 := hW.p0; have p1 := hW.p1; go_simp) ?_
  simp only [Act.put, List.setIfInBounds_toArray, List.set_cons_zero, List.set_cons_succ]
  refine wpL_take 2 171 (pq P) [] rfl rfl (by kernel_rfl) (by decide) (by kernel_rfl) (by kernel_rfl) (by kernel_rfl) (fun _ _ _ h => h) HS.out (by rfl) (fun W hW => by have x1 := blk_cell hW.x 1; have x2 := blk_cell hW.x 2; have x3 := blk_cell hW.x 3; have x4 := blk_cell hW.x 4; have x6 := blk_cell hW.x 6; have x7 := blk_cell hW.x 7; have x8 := blk_cell hW.x 8; have x9 := blk_cell hW.x 9; have y0 := blk_cell hW.y 0; have y1 := blk_cell hW.y 1; have p0 := hW.p0; have p1 := hW.p1; go_simp) ?_
  simp only [Act.put, List.setIfInBounds_toArray, List.set_cons_zero, List.set_cons_succ]
  refine wpL_take 3 172 (pq b) [] rfl rfl (by kernel_rfl) (by decide) (by kernel_rfl) (by kernel_rfl) (by kernel_rfl) (fun _ _ _ h => h) HS.out (by rfl) (fun W hW => by have x1 := blk_cell hW.x 1; have x2 := blk_cell hW.x 2; have x3 := blk_cell hW.x 3; have x4 := blk_cell hW.x 4; have x6 := blk_cell hW.x 6; have x7 := blk_cell hW.x 7; have x8 := blk_cell hW.x 8; have x9 := blk_cell hW.x 9; have y0 := blk_cell hW.y 0; have y1 := blk_cell hW.y 1; have p0 := hW.p0; have p1 := hW.p1; go_simp) ?_
  simp only [Act.put, List.setIfInBounds_toArray, List.set_cons_zero, List.set_cons_succ]
  refine wpL_take 4 173 (.pointer (some ⟨w.heap.size, 2, none⟩)) [] rfl rfl (by kernel_rfl) (by decide) (by kernel_rfl) (by kernel_rfl) (by kernel_rfl) (fun _ _ _ h => h) HS.out (by rfl) (fun W hW => by have x1 := blk_cell hW.x 1; have x2 := blk_cell hW.x 2; have x3 := blk_cell hW.x 3; have x4 := blk_cell hW.x 4; have x6 := blk_cell hW.x 6; have x7 := blk_cell hW.x 7; have x8 := blk_cell hW.x 8; have x9 := blk_cell hW.x 9; have y0 := blk_cell hW.y 0; have y1 := blk_cell hW.y 1; have p0 := hW.p0; have p1 := hW.p1; go_simp) ?_
  simp only [Act.put, List.setIfInBounds_toArray, List.set_cons_zero, List.set_cons_succ]
  refine wpL_take 5 174 (i64 x.env) [] rfl rfl (by kernel_rfl) (by decide) (by kernel_rfl) (by kernel_rfl) (by kernel_rfl) (fun _ _ _ h => h) HS.out (by rfl) (fun W hW => by have x1 := blk_cell hW.x 1; have x2 := blk_cell hW.x 2; have x3 := blk_cell hW.x 3; have x4 := blk_cell hW.x 4; have x6 := blk_cell hW.x 6; have x7 := blk_cell hW.x 7; have x8 := blk_cell hW.x 8; have x9 := blk_cell hW.x 9; have y0 := blk_cell hW.y 0; have y1 := blk_cell hW.y 1; have p0 := hW.p0; have p1 := hW.p1; go_simp) ?_
  simp only [Act.put, List.setIfInBounds_toArray, List.set_cons_zero, List.set_cons_succ]
  refine wpL_take 7 176 (pq P) [] rfl rfl (by kernel_rfl) (by decide) (by kernel_rfl) (by kernel_rfl) (by kernel_rfl) (fun _ _ _ h => h) HS.out (by rfl) (fun W hW => by have x1 := blk_cell hW.x 1; have x2 := blk_cell hW.x 2; have x3 := blk_cell hW.x 3; have x4 := blk_cell hW.x 4; have x6 := blk_cell hW.x 6; have x7 := blk_cell hW.x 7; have x8 := blk_cell hW.x 8; have x9 := blk_cell hW.x 9; have y0 := blk_cell hW.y 0; have y1 := blk_cell hW.y 1; have p0 := hW.p0; have p1 := hW.p1; go_simp) ?_
  simp only [Act.put, List.setIfInBounds_toArray, List.set_cons_zero, List.set_cons_succ]
  refine wpL_take 8 177 (pq P) [] rfl rfl (by kernel_rfl) (by decide) (by kernel_rfl) (by kernel_rfl) (by kernel_rfl) (fun _ _ _ h => h) HS.out (by rfl) (fun W hW => by have x1 := blk_cell hW.x 1; have x2 := blk_cell hW.x 2; have x3 := blk_cell hW.x 3; have x4 := blk_cell hW.x 4; have x6 := blk_cell hW.x 6; have x7 := blk_cell hW.x 7; have x8 := blk_cell hW.x 8; have x9 := blk_cell hW.x 9; have y0 := blk_cell hW.y 0; have y1 := blk_cell hW.y 1; have p0 := hW.p0; have p1 := hW.p1; go_simp) ?_
  simp only [Act.put, List.setIfInBounds_toArray, List.set_cons_zero, List.set_cons_succ]
  refine wpL_take 9 178 (.pointer (some ⟨P, 1, none⟩)) [] rfl rfl (by kernel_rfl) (by decide) (by kernel_rfl) (by kernel_rfl) (by kernel_rfl) (fun _ _ _ h => h) HS.out (by rfl) (fun W hW => by have x1 := blk_cell hW.x 1; have x2 := blk_cell hW.x 2; have x3 := blk_cell hW.x 3; have x4 := blk_cell hW.x 4; have x6 := blk_cell hW.x 6; have x7 := blk_cell hW.x 7; have x8 := blk_cell hW.x 8; have x9 := blk_cell hW.x 9; have y0 := blk_cell hW.y 0; have y1 := blk_cell hW.y 1; have p0 := hW.p0; have p1 := hW.p1; go_simp) ?_
  simp only [Act.put, List.setIfInBounds_toArray, List.set_cons_zero, List.set_cons_succ]
  refine wpL_take 10 179 (pq r) [] rfl rfl (by kernel_rfl) (by decide) (by kernel_rfl) (by kernel_rfl) (by kernel_rfl) (fun _ _ _ h => h) HS.out (by rfl) (fun W hW => by have x1 := blk_cell hW.x 1; have x2 := blk_cell hW.x 2; have x3 := blk_cell hW.x 3; have x4 := blk_cell hW.x 4; have x6 := blk_cell hW.x 6; have x7 := blk_cell hW.x 7; have x8 := blk_cell hW.x 8; have x9 := blk_cell hW.x 9; have y0 := blk_cell hW.y 0; have y1 := blk_cell hW.y 1; have p0 := hW.p0; have p1 := hW.p1; go_simp) ?_
  simp only [Act.put, List.setIfInBounds_toArray, List.set_cons_zero, List.set_cons_succ]
  refine wpL_take 11 180 (.pointer (some ⟨w.heap.size, 2, none⟩)) [] rfl rfl (by kernel_rfl) (by decide) (by kernel_rfl) (by kernel_rfl) (by kernel_rfl) (fun _ _ _ h => h) HS.out (by rfl) (fun W hW => by have x1 := blk_cell hW.x 1; have x2 := blk_cell hW.x 2; have x3 := blk_cell hW.x 3; have x4 := blk_cell hW.x 4; have x6 := blk_cell hW.x 6; have x7 := blk_cell hW.x 7; have x8 := blk_cell hW.x 8; have x9 := blk_cell hW.x 9; have y0 := blk_cell hW.y 0; have y1 := blk_cell hW.y 1; have p0 := hW.p0; have p1 := hW.p1; go_simp) ?_
  simp only [Act.put, List.setIfInBounds_toArray, List.set_cons_zero, List.set_cons_succ]
  refine wpL_take 12 181 (i64 x.env) [] rfl rfl (by kernel_rfl) (by decide) (by kernel_rfl) (by kernel_rfl) (by kernel_rfl) (fun _ _ _ h => h) HS.out (by rfl) (fun W hW => by have x1 := blk_cell hW.x 1; have x2 := blk_cell hW.x 2; have x3 := blk_cell hW.x 3; have x4 := blk_cell hW.x 4; have x6 := blk_cell hW.x 6; have x7 := blk_cell hW.x 7; have x8 := blk_cell hW.x 8; have x9 := blk_cell hW.x 9; have y0 := blk_cell hW.y 0; have y1 := blk_cell hW.y 1; have p0 := hW.p0; have p1 := hW.p1; go_simp) ?_
  simp only [Act.put, List.setIfInBounds_toArray, List.set_cons_zero, List.set_cons_succ]
  refine wpL_one 6 rfl (by kernel_rfl) (by rfl) (fun K hK => ?_)
  go_simp
  refine (HC1.out W3.drew HP3.out.drew.tb).mono ?_
  rintro e w4 ⟨rfl, hT4, hf4⟩
  have HT4 := hid hT4
  have HS2 : Hid (SqW w.heap.size Y P b r x hs hg w4) := HS.out.fr hf4 (by rfl) (by rfl) (by rfl)
  have HR4 : Hid (Rb w4 base r L) := HP3.out.drew.rb.fr hf4 (by rfl) (by rfl)
  have HF4 : Hid (Fr base [72] W3 w4) := Fr.of_drew hf4
  clear hT4 hf4
  go_simp
  refine hK.out _ _ (fun _ => HS2.out) ?_
  clear hK K
  refine wpL_one 13 rfl (by kernel_rfl) (by rfl) (fun K hK => ?_)
  go_simp
  refine (HC2.out w4 HR4.out).mono ?_
  rintro e w6 ⟨rfl, hR6, hf6⟩
  have HR6 := hid hR6
  have HS5 : Hid (SqW w.heap.size Y P b r x hs hg w6) := HS2.out.fr hf6 (by rfl) (by rfl) (by rfl)
  have HT6 : Hid (Tb w6 base b T') := HT4.out.fr hf6 (by rfl)
  have HF6 : Hid (Fr base FD w w6) := ((Fr.of_below _ HB3.out hlo).trans (HF4.out.mono (fun o ho => by
    cases o with
    | cells C t fr => simp [keeps] at ho ⊢; exact ho.1
    | _ => rfl))).trans (fd_r hf6)
  have HKp : Hid (∀ (k : Nat) (C : Array Value) (t : TypeId), t = 34 ∨ t = 42 ∨ t = 3 → W3.heap[k]? = some (.cells C t) → w6.heap[k]? = some (.cells C t)) := fun k C t ht hC => hf6.kept k _ (HF4.out.kept k _ hC (by rcases ht with rfl | rfl | rfl <;> rfl)) (by rcases ht with rfl | rfl | rfl <;> rfl)
  clear hR6 hf6
  go_simp
  refine hK.out _ _ (fun _ => HS5.out) ?_
  clear hK K
  refine wpL_take 14 183 (.bool true) [] rfl rfl (by kernel_rfl) (by decide) (by kernel_rfl) (by kernel_rfl) (by kernel_rfl) (fun _ _ _ h => h) HS5.out (by rfl) (fun W hW => by have x1 := blk_cell hW.x 1; have x2 := blk_cell hW.x 2; have x3 := blk_cell hW.x 3; have x4 := blk_cell hW.x 4; have x6 := blk_cell hW.x 6; have x7 := blk_cell hW.x 7; have x8 := blk_cell hW.x 8; have x9 := blk_cell hW.x 9; have y0 := blk_cell hW.y 0; have y1 := blk_cell hW.y 1; have p0 := hW.p0; have p1 := hW.p1; go_simp) ?_
  simp only [Act.put, List.setIfInBounds_toArray, List.set_cons_zero, List.set_cons_succ]
  refine wpL_one 15 rfl (by kernel_rfl) (by rfl) (fun K hK => ?_)
  go_simp
  refine hK.out _ _ (fun h => absurd rfl h) ?_
  clear hK K
  refine wpL_done (by kernel_rfl) ?_
  refine NoPanic.normal ?_
  go_wp2_with fail
  go_ret
  exact ⟨rfl, ⟨T', offs K' L, HP3.out.turn HKp.out HT6.out HR6.out HREL.out, mono_offs K' L, by rw [offs_len]; omega⟩, HF6.out⟩
set_option maxRecDepth 100000 in
set_option maxHeartbeats 6400000 in
theorem does_else {w : World} {base P b r : Nat} {T : List Pl} {L : List Rw} (h : Pw w base P b r T L) (hl : L.length ≤ 800) (x : Sp) (hw0 : ¬ x.what = 0) (hw1 : ¬ x.what = 1) (hw2 : ¬ x.what = 2) (hw3 : ¬ x.what = 3) (hw4 : ¬ x.what = 4) (hw5 : ¬ x.what = 5) (hw6 : ¬ x.what = 6) : DoesTo w base P b r L x := by
  unfold DoesTo
  have hd0 : (x.what == 0) = false := by simpa using hw0
  have hd1 : (x.what == 1) = false := by simpa using hw1
  have hd2 : (x.what == 2) = false := by simpa using hw2
  have hd3 : (x.what == 3) = false := by simpa using hw3
  have hd4 : (x.what == 4) = false := by simpa using hw4
  have hd5 : (x.what == 5) = false := by simpa using hw5
  have hd6 : (x.what == 6) = false := by simpa using hw6
  clear hw0 hw1 hw2 hw3 hw4 hw5 hw6
  have hlo : base ≤ w.heap.size := by have := h.lt; have := h.lo; omega
  obtain ⟨V, hV⟩ : ∃ V, V = w.alloc (spO x) := ⟨_, rfl⟩
  have HV : Hid (w.alloc (.cells #[i64 x.what, i64 x.n, i64 x.env, i64 x.tt, i64 x.rights, .bool x.by_, i64 x.c.env, i64 x.c.kind, i64 x.c.num, i64 x.c.rts, i64 x.wrong] 38) = V) := hV.symm
  have hbV : Below w.heap.size w V := by rw [hV]; exact below_one w _
  have HX : Hid (V.heap[w.heap.size]? = some (spO x)) := by rw [hV]; exact heap_last w _
  have HPk := hid (pick_any (h.below hbV) (by omega) x)
  have HPw := hid (h.below hbV)
  have HBV := hid hbV
  clear h hV hbV
  generalize pkS L x = hs at *
  generalize pkG L x = hg at *
  generalize pkE L x = ev at *
  go_enter Try.func10, Try.ntmps10
  go_upto_region 1 with fail
  rw [HV.out]
  go_wp2_with (refine wpList_load_mid rfl 38 (.tmp 3) rfl w.heap.size 0 rfl x.c' _ (by exact spO_range HX.out) Try.underlying38 rfl info38 ?_)
  refine HPk.out.mono ?_
  rintro e w2 ⟨rfl, hb2⟩
  have hB2 : Below w.heap.size w w2 := HBV.out.trans (hb2.mono HBV.out.size)
  have HB3 : Hid (Below w.heap.size w (w2.alloc (hO hs hg))) := hB2.alloc hB2.size _
  have HX3 : Hid ((w2.alloc (hO hs hg)).heap[w.heap.size]? = some (spO x)) := blk_alloc (blk_below HX.out hb2) _
  have HY3 : Hid ((w2.alloc (hO hs hg)).heap[w2.heap.size]? = some (hO hs hg)) := heap_last w2 _
  have HP3 : Hid (Pw (w2.alloc (hO hs hg)) base P b r T L) := (HPw.out.below hb2).below (below_one _ _)
  clear hb2 hB2
  go_upto_region 2 with fail
  have hY : w.heap.size < w2.heap.size := by have := HX3.out; have h1 := blk_lt this; have h2 := HY3.out; rcases Nat.lt_or_ge w.heap.size w2.heap.size with h | h; exact h; have e : w.heap.size = w2.heap.size := by simp at h1; omega
                                             rw [e, h2] at this; simp at this
  unfold hO at HB3 HX3 HY3 HP3
  generalize w2.alloc (.cells #[i64 hs, i64 hg] 42) = W3 at *
  generalize w2.heap.size = Y at *
  clear HPk HPw HBV HX HV V
  have x0 : W3.cell? ⟨w.heap.size, 0, none⟩ = some (i64 x.what) := blk_cell HX3.out 0
  go_upto_region 21 with fail
  clear x0
  have hboth : ∃ (c : Cp) (E i : Int), (∀ W, Tb W base b T → Calls Try.prog 19 #[pq b, i64 ev, .agg #[i64 hs, i64 hg]] W fun e w' => e = .returned (.tuple #[c.v, i64 E]) ∧ Below W.heap.size W w') ∧ (∀ W, Rb W base r L → Calls Try.prog 31 #[pq r, i64 ev, .agg #[i64 hs, i64 hg]] W fun e w' => e = .returned (i64 i) ∧ Below W.heap.size W w') ∧ ((c = zC ∧ E = 90 ∧ i = -1) ∨ ∃ (k : Nat) (q : Rw), i = k ∧ E = 0 ∧ c = q.c ∧ L[k]? = some q) := by
    rcases HP3.out.rel.look ev hs hg with ⟨h1, h2⟩ | ⟨k, q, sl, h1, h2, h3, _⟩
    · exact ⟨zC, 90, -1, fun W hW => by have := look_any hW ev hs hg; rw [h1] at this; exact this, fun W hW => by have := rfind_ok hW (by omega) ev hs hg; rw [h2] at this; exact this, Or.inl ⟨rfl, rfl, rfl⟩⟩
    · exact ⟨q.c, 0, k, fun W hW => by have := look_any hW ev hs hg; rw [h1] at this; exact this, fun W hW => by have := rfind_ok hW (by omega) ev hs hg; rw [h2] at this; exact this, Or.inr ⟨k, q, rfl, rfl, rfl, h3⟩⟩
  obtain ⟨c, E, i, hc1, hc2, hcs⟩ := hboth
  have HC1 := hid hc1
  have HC2 := hid hc2
  have HCS := hid hcs
  clear hc1 hc2 hcs
  have hX3 : w.heap.size < W3.heap.size := blk_lt HX3.out
  have HS : Hid (SqW w.heap.size Y P b r x hs hg W3.drew) := (SqW.of HX3.out HY3.out HP3.out).drew
  refine wp_region_noPanic ?_
  refine wp_region_last (SqW w.heap.size Y P b r x hs hg) 12 (by kernel_rfl) ?_
  refine wpL_take 0 185 (pq P) [] rfl rfl (by kernel_rfl) (by decide) (by kernel_rfl) (by kernel_rfl) (by kernel_rfl) (fun _ _ _ h => h) HS.out (by rfl) (fun W hW => by have x1 := blk_cell hW.x 1; have x2 := blk_cell hW.x 2; have x3 := blk_cell hW.x 3; have x4 := blk_cell hW.x 4; have x6 := blk_cell hW.x 6; have x7 := blk_cell hW.x 7; have x8 := blk_cell hW.x 8; have x9 := blk_cell hW.x 9; have y0 := blk_cell hW.y 0; have y1 := blk_cell hW.y 1; have p0 := hW.p0; have p1 := hW.p1; go_simp) ?_
  simp only [Act.put, List.setIfInBounds_toArray, List.set_cons_zero, List.set_cons_succ]
  refine wpL_take 1 186 (pq P) [] rfl rfl (by kernel_rfl) (by decide) (by kernel_rfl) (by kernel_rfl) (by kernel_rfl) (fun _ _ _ h => h) HS.out (by rfl) (fun W hW => by have x1 := blk_cell hW.x 1; have x2 := blk_cell hW.x 2; have x3 := blk_cell hW.x 3; have x4 := blk_cell hW.x 4; have x6 := blk_cell hW.x 6; have x7 := blk_cell hW.x 7; have x8 := blk_cell hW.x 8; have x9 := blk_cell hW.x 9; have y0 := blk_cell hW.y 0; have y1 := blk_cell hW.y 1; have p0 := hW.p0; have p1 := hW.p1; go_simp) ?_
  simp only [Act.put, List.setIfInBounds_toArray, List.set_cons_zero, List.set_cons_succ]
  refine wpL_take 2 187 (pq P) [] rfl rfl (by kernel_rfl) (by decide) (by kernel_rfl) (by kernel_rfl) (by kernel_rfl) (fun _ _ _ h => h) HS.out (by rfl) (fun W hW => by have x1 := blk_cell hW.x 1; have x2 := blk_cell hW.x 2; have x3 := blk_cell hW.x 3; have x4 := blk_cell hW.x 4; have x6 := blk_cell hW.x 6; have x7 := blk_cell hW.x 7; have x8 := blk_cell hW.x 8; have x9 := blk_cell hW.x 9; have y0 := blk_cell hW.y 0; have y1 := blk_cell hW.y 1; have p0 := hW.p0; have p1 := hW.p1; go_simp) ?_
  simp only [Act.put, List.setIfInBounds_toArray, List.set_cons_zero, List.set_cons_succ]
  refine wpL_take 3 188 (pq b) [] rfl rfl (by kernel_rfl) (by decide) (by kernel_rfl) (by kernel_rfl) (by kernel_rfl) (fun _ _ _ h => h) HS.out (by rfl) (fun W hW => by have x1 := blk_cell hW.x 1; have x2 := blk_cell hW.x 2; have x3 := blk_cell hW.x 3; have x4 := blk_cell hW.x 4; have x6 := blk_cell hW.x 6; have x7 := blk_cell hW.x 7; have x8 := blk_cell hW.x 8; have x9 := blk_cell hW.x 9; have y0 := blk_cell hW.y 0; have y1 := blk_cell hW.y 1; have p0 := hW.p0; have p1 := hW.p1; go_simp) ?_
  simp only [Act.put, List.setIfInBounds_toArray, List.set_cons_zero, List.set_cons_succ]
  refine wpL_take 4 189 (i64 ev) [] rfl rfl (by kernel_rfl) (by decide) (by kernel_rfl) (by kernel_rfl) (by kernel_rfl) (fun _ _ _ h => h) HS.out (by rfl) (fun W hW => by have x1 := blk_cell hW.x 1; have x2 := blk_cell hW.x 2; have x3 := blk_cell hW.x 3; have x4 := blk_cell hW.x 4; have x6 := blk_cell hW.x 6; have x7 := blk_cell hW.x 7; have x8 := blk_cell hW.x 8; have x9 := blk_cell hW.x 9; have y0 := blk_cell hW.y 0; have y1 := blk_cell hW.y 1; have p0 := hW.p0; have p1 := hW.p1; go_simp) ?_
  simp only [Act.put, List.setIfInBounds_toArray, List.set_cons_zero, List.set_cons_succ]
  refine wpL_take 5 190 (.agg #[i64 hs, i64 hg]) [] rfl rfl (by kernel_rfl) (by decide) (by kernel_rfl) (by kernel_rfl) (by kernel_rfl) (fun _ _ _ h => h) HS.out (by rfl) (fun W hW => by have x1 := blk_cell hW.x 1; have x2 := blk_cell hW.x 2; have x3 := blk_cell hW.x 3; have x4 := blk_cell hW.x 4; have x6 := blk_cell hW.x 6; have x7 := blk_cell hW.x 7; have x8 := blk_cell hW.x 8; have x9 := blk_cell hW.x 9; have y0 := blk_cell hW.y 0; have y1 := blk_cell hW.y 1; have p0 := hW.p0; have p1 := hW.p1; go_simp) ?_
  simp only [Act.put, List.setIfInBounds_toArray, List.set_cons_zero, List.set_cons_succ]
  refine wpL_two 6 10 rfl rfl (by kernel_rfl) (by rfl) (by rfl) (fun K hK => ?_) (fun K hK => ?_)
  · go_simp
    refine (HC1.out W3.drew HP3.out.drew.tb).mono ?_
    rintro e w4 ⟨rfl, hb4⟩
    have HS2 : Hid (SqW w.heap.size Y P b r x hs hg w4) := HS.out.below hb4
    have HP4 : Hid (Pw w4 base P b r T L) := HP3.out.drew.below hb4
    have HB4 : Hid (Below w.heap.size w w4) := HB3.out.drew.trans (hb4.mono HB3.out.size)
    clear hb4
    unfold Cp.v
    go_simp
    refine hK.out _ _ (fun _ => HS2.out) ?_
    clear hK K
    refine wpL_take 7 184 (.tuple #[.agg #[i64 c.env, i64 c.kind, i64 c.num, i64 c.rts], i64 E]) [] rfl rfl (by kernel_rfl) (by decide) (by kernel_rfl) (by kernel_rfl) (by kernel_rfl) (fun _ _ _ h => h) HS2.out (by rfl) (fun W hW => by have x1 := blk_cell hW.x 1; have x2 := blk_cell hW.x 2; have x3 := blk_cell hW.x 3; have x4 := blk_cell hW.x 4; have x6 := blk_cell hW.x 6; have x7 := blk_cell hW.x 7; have x8 := blk_cell hW.x 8; have x9 := blk_cell hW.x 9; have y0 := blk_cell hW.y 0; have y1 := blk_cell hW.y 1; have p0 := hW.p0; have p1 := hW.p1; go_simp) ?_
    simp only [Act.put, List.setIfInBounds_toArray, List.set_cons_zero, List.set_cons_succ]
    refine wpL_take 8 192 (.agg #[i64 c.env, i64 c.kind, i64 c.num, i64 c.rts]) [] rfl rfl (by kernel_rfl) (by decide) (by kernel_rfl) (by kernel_rfl) (by kernel_rfl) (fun _ _ _ h => h) HS2.out (by rfl) (fun W hW => by have x1 := blk_cell hW.x 1; have x2 := blk_cell hW.x 2; have x3 := blk_cell hW.x 3; have x4 := blk_cell hW.x 4; have x6 := blk_cell hW.x 6; have x7 := blk_cell hW.x 7; have x8 := blk_cell hW.x 8; have x9 := blk_cell hW.x 9; have y0 := blk_cell hW.y 0; have y1 := blk_cell hW.y 1; have p0 := hW.p0; have p1 := hW.p1; go_simp) ?_
    simp only [Act.put, List.setIfInBounds_toArray, List.set_cons_zero, List.set_cons_succ]
    refine wpL_take 9 193 (i64 E) [] rfl rfl (by kernel_rfl) (by decide) (by kernel_rfl) (by kernel_rfl) (by kernel_rfl) (fun _ _ _ h => h) HS2.out (by rfl) (fun W hW => by have x1 := blk_cell hW.x 1; have x2 := blk_cell hW.x 2; have x3 := blk_cell hW.x 3; have x4 := blk_cell hW.x 4; have x6 := blk_cell hW.x 6; have x7 := blk_cell hW.x 7; have x8 := blk_cell hW.x 8; have x9 := blk_cell hW.x 9; have y0 := blk_cell hW.y 0; have y1 := blk_cell hW.y 1; have p0 := hW.p0; have p1 := hW.p1; go_simp) ?_
    simp only [Act.put, List.setIfInBounds_toArray, List.set_cons_zero, List.set_cons_succ]
    refine wpL_one 10 rfl (by kernel_rfl) (by rfl) (fun K hK => ?_)
    go_simp
    refine hK.out _ _ (fun _ => HS2.out.below (below_one w4 _)) ?_
    clear hK K
    refine wpL_one 11 rfl (by kernel_rfl) (by rfl) (fun K hK => ?_)
    go_simp
    refine hK.out _ _ (fun _ => HS2.out.below (below_one w4 _)) ?_
    clear hK K
    refine wpL_one 12 rfl (by kernel_rfl) (by rfl) (fun K hK => ?_)
    go_simp
    refine hK.out _ _ (fun h => absurd rfl h) ?_
    clear hK K
    refine wpL_done (by kernel_rfl) ?_
    refine NoPanic.normal ?_
    have HSu : Hid (SqW w.heap.size Y P b r x hs hg (w4.alloc (cO c))) := HS2.out.below (below_one w4 _)
    have HPu : Hid (Pw (w4.alloc (cO c)) base P b r T L) := HP4.out.below (below_one w4 _)
    have HBu : Hid (Below w.heap.size w (w4.alloc (cO c))) := HB4.out.alloc HB4.out.size _
    have HZu : Hid ((w4.alloc (cO c)).heap[w4.heap.size]? = some (cO c)) := heap_last w4 _
    clear HS HS2 HP4 HB4
    unfold cO at HSu HPu HBu HZu
    generalize w4.alloc (.cells #[i64 c.env, i64 c.kind, i64 c.num, i64 c.rts] 36) = U at *
    generalize w4.heap.size = Z at *
    clear HX3 HY3 HB3 HP3
    go_upto_region 22 with fail
    have HS : Hid (SqW w.heap.size Y P b r x hs hg U.drew) := HSu.out.drew
    refine wp_region_noPanic ?_
    refine wp_region_last (SqW w.heap.size Y P b r x hs hg) 8 (by kernel_rfl) ?_
    refine wpL_take 0 194 (pq P) [] rfl rfl (by kernel_rfl) (by decide) (by kernel_rfl) (by kernel_rfl) (by kernel_rfl) (fun _ _ _ h => h) HS.out (by rfl) (fun W hW => by have x1 := blk_cell hW.x 1; have x2 := blk_cell hW.x 2; have x3 := blk_cell hW.x 3; have x4 := blk_cell hW.x 4; have x6 := blk_cell hW.x 6; have x7 := blk_cell hW.x 7; have x8 := blk_cell hW.x 8; have x9 := blk_cell hW.x 9; have y0 := blk_cell hW.y 0; have y1 := blk_cell hW.y 1; have p0 := hW.p0; have p1 := hW.p1; go_simp) ?_
    simp only [Act.put, List.setIfInBounds_toArray, List.set_cons_zero, List.set_cons_succ]
    refine wpL_take 1 195 (pq P) [] rfl rfl (by kernel_rfl) (by decide) (by kernel_rfl) (by kernel_rfl) (by kernel_rfl) (fun _ _ _ h => h) HS.out (by rfl) (fun W hW => by have x1 := blk_cell hW.x 1; have x2 := blk_cell hW.x 2; have x3 := blk_cell hW.x 3; have x4 := blk_cell hW.x 4; have x6 := blk_cell hW.x 6; have x7 := blk_cell hW.x 7; have x8 := blk_cell hW.x 8; have x9 := blk_cell hW.x 9; have y0 := blk_cell hW.y 0; have y1 := blk_cell hW.y 1; have p0 := hW.p0; have p1 := hW.p1; go_simp) ?_
    simp only [Act.put, List.setIfInBounds_toArray, List.set_cons_zero, List.set_cons_succ]
    refine wpL_take 2 196 (.pointer (some ⟨P, 1, none⟩)) [] rfl rfl (by kernel_rfl) (by decide) (by kernel_rfl) (by kernel_rfl) (by kernel_rfl) (fun _ _ _ h => h) HS.out (by rfl) (fun W hW => by have x1 := blk_cell hW.x 1; have x2 := blk_cell hW.x 2; have x3 := blk_cell hW.x 3; have x4 := blk_cell hW.x 4; have x6 := blk_cell hW.x 6; have x7 := blk_cell hW.x 7; have x8 := blk_cell hW.x 8; have x9 := blk_cell hW.x 9; have y0 := blk_cell hW.y 0; have y1 := blk_cell hW.y 1; have p0 := hW.p0; have p1 := hW.p1; go_simp) ?_
    simp only [Act.put, List.setIfInBounds_toArray, List.set_cons_zero, List.set_cons_succ]
    refine wpL_take 3 197 (pq r) [] rfl rfl (by kernel_rfl) (by decide) (by kernel_rfl) (by kernel_rfl) (by kernel_rfl) (fun _ _ _ h => h) HS.out (by rfl) (fun W hW => by have x1 := blk_cell hW.x 1; have x2 := blk_cell hW.x 2; have x3 := blk_cell hW.x 3; have x4 := blk_cell hW.x 4; have x6 := blk_cell hW.x 6; have x7 := blk_cell hW.x 7; have x8 := blk_cell hW.x 8; have x9 := blk_cell hW.x 9; have y0 := blk_cell hW.y 0; have y1 := blk_cell hW.y 1; have p0 := hW.p0; have p1 := hW.p1; go_simp) ?_
    simp only [Act.put, List.setIfInBounds_toArray, List.set_cons_zero, List.set_cons_succ]
    refine wpL_take 4 198 (i64 ev) [] rfl rfl (by kernel_rfl) (by decide) (by kernel_rfl) (by kernel_rfl) (by kernel_rfl) (fun _ _ _ h => h) HS.out (by rfl) (fun W hW => by have x1 := blk_cell hW.x 1; have x2 := blk_cell hW.x 2; have x3 := blk_cell hW.x 3; have x4 := blk_cell hW.x 4; have x6 := blk_cell hW.x 6; have x7 := blk_cell hW.x 7; have x8 := blk_cell hW.x 8; have x9 := blk_cell hW.x 9; have y0 := blk_cell hW.y 0; have y1 := blk_cell hW.y 1; have p0 := hW.p0; have p1 := hW.p1; go_simp) ?_
    simp only [Act.put, List.setIfInBounds_toArray, List.set_cons_zero, List.set_cons_succ]
    refine wpL_take 5 199 (.agg #[i64 hs, i64 hg]) [] rfl rfl (by kernel_rfl) (by decide) (by kernel_rfl) (by kernel_rfl) (by kernel_rfl) (fun _ _ _ h => h) HS.out (by rfl) (fun W hW => by have x1 := blk_cell hW.x 1; have x2 := blk_cell hW.x 2; have x3 := blk_cell hW.x 3; have x4 := blk_cell hW.x 4; have x6 := blk_cell hW.x 6; have x7 := blk_cell hW.x 7; have x8 := blk_cell hW.x 8; have x9 := blk_cell hW.x 9; have y0 := blk_cell hW.y 0; have y1 := blk_cell hW.y 1; have p0 := hW.p0; have p1 := hW.p1; go_simp) ?_
    simp only [Act.put, List.setIfInBounds_toArray, List.set_cons_zero, List.set_cons_succ]
    refine wpL_one 6 rfl (by kernel_rfl) (by rfl) (fun K hK => ?_)
    go_simp
    refine (ref_ok _ hs hg).mono ?_
    rintro e w5 ⟨rfl, hb5⟩
    have HS5 : Hid (SqW w.heap.size Y P b r x hs hg w5) := HS.out.below hb5
    have HP5 : Hid (Pw w5 base P b r T L) := HPu.out.drew.below hb5
    have HB5 : Hid (Below w.heap.size w w5) := HBu.out.drew.trans (hb5.mono HBu.out.size)
    have HZ5 : Hid (w5.heap[Z]? = some (cO c)) := blk_below (w := U.drew) HZu.out hb5
    clear hb5
    go_simp
    refine hK.out _ _ (fun _ => HS5.out) ?_
    clear hK K
    refine wpL_one 7 rfl (by kernel_rfl) (by rfl) (fun K hK => ?_)
    go_simp
    refine (HC2.out w5 HP5.out.rb).mono ?_
    rintro e w6 ⟨rfl, hb6⟩
    have HS6 : Hid (SqW w.heap.size Y P b r x hs hg w6) := HS5.out.below hb6
    have HP6 : Hid (Pw w6 base P b r T L) := HP5.out.below hb6
    have HB6 : Hid (Below w.heap.size w w6) := HB5.out.trans (hb6.mono HB5.out.size)
    have HZ6 : Hid (w6.heap[Z]? = some (cO c)) := blk_below HZ5.out hb6
    clear hb6
    go_simp
    refine hK.out _ _ (fun _ => HS6.out) ?_
    clear hK K
    refine wpL_one 8 rfl (by kernel_rfl) (by rfl) (fun K hK => ?_)
    go_simp
    refine hK.out _ _ (fun h => absurd rfl h) ?_
    clear hK K
    refine wpL_done (by kernel_rfl) ?_
    refine NoPanic.normal ?_
    have z0 : w6.cell? ⟨Z, 0, none⟩ = some (i64 c.env) := blk_cell HZ6.out 0
    have z1 : w6.cell? ⟨Z, 1, none⟩ = some (i64 c.kind) := blk_cell HZ6.out 1
    have z2 : w6.cell? ⟨Z, 2, none⟩ = some (i64 c.num) := blk_cell HZ6.out 2
    have z3 : w6.cell? ⟨Z, 3, none⟩ = some (i64 c.rts) := blk_cell HZ6.out 3
    have hp1 := HP6.out.p01.2
    have hZl6 : Z < w6.heap.size := blk_lt HZ6.out
    have hq := eqIn36 c c
    rw [decide_eq_true rfl] at hq
    rcases HCS.out with ⟨h1, h2, h3⟩ | ⟨k, q, h1, h2, h3, h4⟩
    · subst h1 h2 h3
      unfold Cp.v zC at hq
      unfold zC at z0 z1 z2 z3
      go_wp2_with fail
      go_ret
      exact ⟨rfl, ⟨T, L, HP6.out, Mono.refl L, by omega⟩, Fr.of_below _ HB6.out hlo⟩
    · subst h1 h2 h3
      obtain ⟨ao, cap, hbk, _, hcap, hrow⟩ := HP6.out.rb.row
      obtain ⟨gg, rfl, _, hgl, _, _, hcc⟩ := hrow k q h4
      have hkL := (List.getElem?_eq_some_iff.1 h4).1
      obtain ⟨N, hN⟩ : ∃ N, N = L.length := ⟨_, rfl⟩
      rw [← hN] at hbk hcap hkL hl
      have r0 : w6.cell? ⟨r, 0, none⟩ = some (.slice (some ⟨gg, 0, none⟩) N cap) := blk_cell hbk 0
      have c0 : w6.cell? ⟨gg, k * 8, none⟩ = some (i64 q.c.env) := hcc 0 (by omega)
      have c1 : w6.cell? ⟨gg, k * 8 + 1, none⟩ = some (i64 q.c.kind) := hcc 1 (by omega)
      have c2 : w6.cell? ⟨gg, k * 8 + 2, none⟩ = some (i64 q.c.num) := hcc 2 (by omega)
      have c3 : w6.cell? ⟨gg, k * 8 + 3, none⟩ = some (i64 q.c.rts) := hcc 3 (by omega)
      have c4 : w6.cell? ⟨gg, k * 8 + 4, none⟩ = some (i64 q.sl) := hcc 4 (by omega)
      have c5 : w6.cell? ⟨gg, k * 8 + 5, none⟩ = some (i64 q.gn) := hcc 5 (by omega)
      have c6 : w6.cell? ⟨gg, k * 8 + 6, none⟩ = some (i64 q.fr) := hcc 6 (by omega)
      have c7 : w6.cell? ⟨gg, k * 8 + 7, none⟩ = some (.bool q.lv) := hcc 7 (by omega)
      have hkI : (k : Int) < N := by omega
      have hcI : (N : Int) ≤ cap := by omega
      have hNI : (N : Int) ≤ 1000 := by omega
      have HNn := hid hN
      clear hbk hrow hcc h4 hN
      unfold Cp.v at hq
      go_wp2_with fail
      go_ret
      exact ⟨rfl, ⟨T, L, HP6.out.below (below_one w6 _), Mono.refl L, by omega⟩, Fr.of_below _ (HB6.out.alloc HB6.out.size _) hlo⟩
  · go_simp
    have hbA : Below W3.heap.size W3 ((W3.alloc (cO zC)).drew) := (below_one W3 _).drew
    have HS1 : Hid (SqW w.heap.size Y P b r x hs hg ((W3.alloc (cO zC)).drew)) := (SqW.of HX3.out HY3.out HP3.out).below hbA
    have HPA : Hid (Pw ((W3.alloc (cO zC)).drew) base P b r T L) := HP3.out.below hbA
    have HZA : Hid (((W3.alloc (cO zC)).drew).heap[W3.heap.size]? = some (cO zC)) := heap_last W3 _
    have HBA : Hid (Below w.heap.size w ((W3.alloc (cO zC)).drew)) := HB3.out.trans (hbA.mono HB3.out.size)
    clear hbA
    refine hK.out _ _ (fun _ => HS1.out) ?_
    clear hK K
    unfold cO zC at HPA HZA HBA HS1
    refine wpL_one 6 rfl (by kernel_rfl) (by rfl) (fun K hK => ?_)
    go_simp
    refine (HC1.out _ HPA.out.tb).mono ?_
    rintro e w4 ⟨rfl, hb4⟩
    have HS2 : Hid (SqW w.heap.size Y P b r x hs hg w4) := HS1.out.below hb4
    have HP4 : Hid (Pw w4 base P b r T L) := HPA.out.below hb4
    have HB4 : Hid (Below w.heap.size w w4) := HBA.out.trans (hb4.mono HBA.out.size)
    have HZ4 : Hid (w4.heap[W3.heap.size]? = some (cO zC)) := blk_below HZA.out hb4
    clear hb4 HZA HPA HBA HS1
    unfold Cp.v
    go_simp
    refine hK.out _ _ (fun _ => HS2.out) ?_
    clear hK K
    refine wpL_take 7 184 (.tuple #[.agg #[i64 c.env, i64 c.kind, i64 c.num, i64 c.rts], i64 E]) [] rfl rfl (by kernel_rfl) (by decide) (by kernel_rfl) (by kernel_rfl) (by kernel_rfl) (fun _ _ _ h => h) HS2.out (by rfl) (fun W hW => by have x1 := blk_cell hW.x 1; have x2 := blk_cell hW.x 2; have x3 := blk_cell hW.x 3; have x4 := blk_cell hW.x 4; have x6 := blk_cell hW.x 6; have x7 := blk_cell hW.x 7; have x8 := blk_cell hW.x 8; have x9 := blk_cell hW.x 9; have y0 := blk_cell hW.y 0; have y1 := blk_cell hW.y 1; have p0 := hW.p0; have p1 := hW.p1; go_simp) ?_
    simp only [Act.put, List.setIfInBounds_toArray, List.set_cons_zero, List.set_cons_succ]
    refine wpL_take 8 192 (.agg #[i64 c.env, i64 c.kind, i64 c.num, i64 c.rts]) [] rfl rfl (by kernel_rfl) (by decide) (by kernel_rfl) (by kernel_rfl) (by kernel_rfl) (fun _ _ _ h => h) HS2.out (by rfl) (fun W hW => by have x1 := blk_cell hW.x 1; have x2 := blk_cell hW.x 2; have x3 := blk_cell hW.x 3; have x4 := blk_cell hW.x 4; have x6 := blk_cell hW.x 6; have x7 := blk_cell hW.x 7; have x8 := blk_cell hW.x 8; have x9 := blk_cell hW.x 9; have y0 := blk_cell hW.y 0; have y1 := blk_cell hW.y 1; have p0 := hW.p0; have p1 := hW.p1; go_simp) ?_
    simp only [Act.put, List.setIfInBounds_toArray, List.set_cons_zero, List.set_cons_succ]
    refine wpL_take 9 193 (i64 E) [] rfl rfl (by kernel_rfl) (by decide) (by kernel_rfl) (by kernel_rfl) (by kernel_rfl) (fun _ _ _ h => h) HS2.out (by rfl) (fun W hW => by have x1 := blk_cell hW.x 1; have x2 := blk_cell hW.x 2; have x3 := blk_cell hW.x 3; have x4 := blk_cell hW.x 4; have x6 := blk_cell hW.x 6; have x7 := blk_cell hW.x 7; have x8 := blk_cell hW.x 8; have x9 := blk_cell hW.x 9; have y0 := blk_cell hW.y 0; have y1 := blk_cell hW.y 1; have p0 := hW.p0; have p1 := hW.p1; go_simp) ?_
    simp only [Act.put, List.setIfInBounds_toArray, List.set_cons_zero, List.set_cons_succ]
    have z0 : w4.cell? ⟨W3.heap.size, 0, none⟩ = some (i64 0) := blk_cell HZ4.out 0
    have z1 : w4.cell? ⟨W3.heap.size, 1, none⟩ = some (i64 0) := blk_cell HZ4.out 1
    have z2 : w4.cell? ⟨W3.heap.size, 2, none⟩ = some (i64 0) := blk_cell HZ4.out 2
    have z3 : w4.cell? ⟨W3.heap.size, 3, none⟩ = some (i64 0) := blk_cell HZ4.out 3
    have zf : ∀ j, w4.frozen? ⟨W3.heap.size, j, none⟩ = false := blk_frozen HZ4.out
    have hkeep : ∀ (k : Nat) (C : Array Value) (t : TypeId), t ≠ 36 → w4.heap[k]? = some (.cells C t) → ((((w4.setCell ⟨W3.heap.size, 0, none⟩ (i64 c.env)).setCell ⟨W3.heap.size, 1, none⟩ (i64 c.kind)).setCell ⟨W3.heap.size, 2, none⟩ (i64 c.num)).setCell ⟨W3.heap.size, 3, none⟩ (i64 c.rts)).heap[k]? = some (.cells C t) := fun k C t ht hC => by
      have hne : k ≠ W3.heap.size := fun e => by rw [e, HZ4.out] at hC; simp only [Option.some.injEq, Obj.cells.injEq] at hC; exact ht hC.2.1.symm
      rw [Below.heap_setCell _ _ _ _ (by exact hne), Below.heap_setCell _ _ _ _ (by exact hne), Below.heap_setCell _ _ _ _ (by exact hne), Below.heap_setCell _ _ _ _ (by exact hne)]
      exact hC
    have HSu : Hid (SqW w.heap.size Y P b r x hs hg ((((w4.setCell ⟨W3.heap.size, 0, none⟩ (i64 c.env)).setCell ⟨W3.heap.size, 1, none⟩ (i64 c.kind)).setCell ⟨W3.heap.size, 2, none⟩ (i64 c.num)).setCell ⟨W3.heap.size, 3, none⟩ (i64 c.rts))) := by
      obtain ⟨a1, a2, a3, a4, a5⟩ := HS2.out
      exact ⟨hkeep _ _ 38 (by decide) a1, hkeep _ _ 42 (by decide) a2, a3, a4, hkeep _ _ 34 (by decide) a5⟩
    have HPu : Hid (Pw ((((w4.setCell ⟨W3.heap.size, 0, none⟩ (i64 c.env)).setCell ⟨W3.heap.size, 1, none⟩ (i64 c.kind)).setCell ⟨W3.heap.size, 2, none⟩ (i64 c.num)).setCell ⟨W3.heap.size, 3, none⟩ (i64 c.rts)) base P b r T L) := by
      obtain ⟨vH, vE, g1, g2, g3⟩ := HP4.out.blk
      exact ⟨HP4.out.lo, ⟨HP4.out.tb.lo, HP4.out.tb.len, hkeep _ _ 72 (by decide) HP4.out.tb.row⟩, HP4.out.rb.same (fun k o hk ho => by
        obtain ⟨C, rfl | rfl⟩ := ho
        · exact hkeep k C 30 (by decide) hk
        · exact hkeep k C 66 (by decide) hk), HP4.out.rel, HP4.out.gu, vH, vE, hkeep _ _ 34 (by decide) g1, own_keep g2 (fun k C hC => hkeep k C 42 (by decide) hC), own_keep g3 (fun k C hC => hkeep k C 3 (by decide) hC)⟩
    have HBu : Hid (Below w.heap.size w ((((w4.setCell ⟨W3.heap.size, 0, none⟩ (i64 c.env)).setCell ⟨W3.heap.size, 1, none⟩ (i64 c.kind)).setCell ⟨W3.heap.size, 2, none⟩ (i64 c.num)).setCell ⟨W3.heap.size, 3, none⟩ (i64 c.rts))) := bel4 HB4.out (by omega) c
    have HZu : Hid (((((w4.setCell ⟨W3.heap.size, 0, none⟩ (i64 c.env)).setCell ⟨W3.heap.size, 1, none⟩ (i64 c.kind)).setCell ⟨W3.heap.size, 2, none⟩ (i64 c.num)).setCell ⟨W3.heap.size, 3, none⟩ (i64 c.rts)).heap[W3.heap.size]? = some (cO c)) := set4 HZ4.out c
    refine wpL_one 11 rfl (by kernel_rfl) (by rfl) (fun K hK => ?_)
    go_simp
    refine hK.out _ _ (fun _ => HSu.out) ?_
    clear hK K
    refine wpL_one 12 rfl (by kernel_rfl) (by rfl) (fun K hK => ?_)
    go_simp
    refine hK.out _ _ (fun h => absurd rfl h) ?_
    clear hK K
    refine wpL_done (by kernel_rfl) ?_
    refine NoPanic.normal ?_
    clear HS HS2 HP4 HB4 HZ4 z0 z1 z2 z3 zf hkeep
    unfold cO at HZu
    generalize ((((w4.setCell ⟨W3.heap.size, 0, none⟩ (i64 c.env)).setCell ⟨W3.heap.size, 1, none⟩ (i64 c.kind)).setCell ⟨W3.heap.size, 2, none⟩ (i64 c.num)).setCell ⟨W3.heap.size, 3, none⟩ (i64 c.rts)) = U at *
    generalize W3.heap.size = Z at *
    clear HX3 HY3 HB3 HP3
    go_upto_region 22 with fail
    have HS : Hid (SqW w.heap.size Y P b r x hs hg U.drew) := HSu.out.drew
    refine wp_region_noPanic ?_
    refine wp_region_last (SqW w.heap.size Y P b r x hs hg) 8 (by kernel_rfl) ?_
    refine wpL_take 0 194 (pq P) [] rfl rfl (by kernel_rfl) (by decide) (by kernel_rfl) (by kernel_rfl) (by kernel_rfl) (fun _ _ _ h => h) HS.out (by rfl) (fun W hW => by have x1 := blk_cell hW.x 1; have x2 := blk_cell hW.x 2; have x3 := blk_cell hW.x 3; have x4 := blk_cell hW.x 4; have x6 := blk_cell hW.x 6; have x7 := blk_cell hW.x 7; have x8 := blk_cell hW.x 8; have x9 := blk_cell hW.x 9; have y0 := blk_cell hW.y 0; have y1 := blk_cell hW.y 1; have p0 := hW.p0; have p1 := hW.p1; go_simp) ?_
    simp only [Act.put, List.setIfInBounds_toArray, List.set_cons_zero, List.set_cons_succ]
    refine wpL_take 1 195 (pq P) [] rfl rfl (by kernel_rfl) (by decide) (by kernel_rfl) (by kernel_rfl) (by kernel_rfl) (fun _ _ _ h => h) HS.out (by rfl) (fun W hW => by have x1 := blk_cell hW.x 1; have x2 := blk_cell hW.x 2; have x3 := blk_cell hW.x 3; have x4 := blk_cell hW.x 4; have x6 := blk_cell hW.x 6; have x7 := blk_cell hW.x 7; have x8 := blk_cell hW.x 8; have x9 := blk_cell hW.x 9; have y0 := blk_cell hW.y 0; have y1 := blk_cell hW.y 1; have p0 := hW.p0; have p1 := hW.p1; go_simp) ?_
    simp only [Act.put, List.setIfInBounds_toArray, List.set_cons_zero, List.set_cons_succ]
    refine wpL_take 2 196 (.pointer (some ⟨P, 1, none⟩)) [] rfl rfl (by kernel_rfl) (by decide) (by kernel_rfl) (by kernel_rfl) (by kernel_rfl) (fun _ _ _ h => h) HS.out (by rfl) (fun W hW => by have x1 := blk_cell hW.x 1; have x2 := blk_cell hW.x 2; have x3 := blk_cell hW.x 3; have x4 := blk_cell hW.x 4; have x6 := blk_cell hW.x 6; have x7 := blk_cell hW.x 7; have x8 := blk_cell hW.x 8; have x9 := blk_cell hW.x 9; have y0 := blk_cell hW.y 0; have y1 := blk_cell hW.y 1; have p0 := hW.p0; have p1 := hW.p1; go_simp) ?_
    simp only [Act.put, List.setIfInBounds_toArray, List.set_cons_zero, List.set_cons_succ]
    refine wpL_take 3 197 (pq r) [] rfl rfl (by kernel_rfl) (by decide) (by kernel_rfl) (by kernel_rfl) (by kernel_rfl) (fun _ _ _ h => h) HS.out (by rfl) (fun W hW => by have x1 := blk_cell hW.x 1; have x2 := blk_cell hW.x 2; have x3 := blk_cell hW.x 3; have x4 := blk_cell hW.x 4; have x6 := blk_cell hW.x 6; have x7 := blk_cell hW.x 7; have x8 := blk_cell hW.x 8; have x9 := blk_cell hW.x 9; have y0 := blk_cell hW.y 0; have y1 := blk_cell hW.y 1; have p0 := hW.p0; have p1 := hW.p1; go_simp) ?_
    simp only [Act.put, List.setIfInBounds_toArray, List.set_cons_zero, List.set_cons_succ]
    refine wpL_take 4 198 (i64 ev) [] rfl rfl (by kernel_rfl) (by decide) (by kernel_rfl) (by kernel_rfl) (by kernel_rfl) (fun _ _ _ h => h) HS.out (by rfl) (fun W hW => by have x1 := blk_cell hW.x 1; have x2 := blk_cell hW.x 2; have x3 := blk_cell hW.x 3; have x4 := blk_cell hW.x 4; have x6 := blk_cell hW.x 6; have x7 := blk_cell hW.x 7; have x8 := blk_cell hW.x 8; have x9 := blk_cell hW.x 9; have y0 := blk_cell hW.y 0; have y1 := blk_cell hW.y 1; have p0 := hW.p0; have p1 := hW.p1; go_simp) ?_
    simp only [Act.put, List.setIfInBounds_toArray, List.set_cons_zero, List.set_cons_succ]
    refine wpL_take 5 199 (.agg #[i64 hs, i64 hg]) [] rfl rfl (by kernel_rfl) (by decide) (by kernel_rfl) (by kernel_rfl) (by kernel_rfl) (fun _ _ _ h => h) HS.out (by rfl) (fun W hW => by have x1 := blk_cell hW.x 1; have x2 := blk_cell hW.x 2; have x3 := blk_cell hW.x 3; have x4 := blk_cell hW.x 4; have x6 := blk_cell hW.x 6; have x7 := blk_cell hW.x 7; have x8 := blk_cell hW.x 8; have x9 := blk_cell hW.x 9; have y0 := blk_cell hW.y 0; have y1 := blk_cell hW.y 1; have p0 := hW.p0; have p1 := hW.p1; go_simp) ?_
    simp only [Act.put, List.setIfInBounds_toArray, List.set_cons_zero, List.set_cons_succ]
    refine wpL_one 6 rfl (by kernel_rfl) (by rfl) (fun K hK => ?_)
    go_simp
    refine (ref_ok _ hs hg).mono ?_
    rintro e w5 ⟨rfl, hb5⟩
    have HS5 : Hid (SqW w.heap.size Y P b r x hs hg w5) := HS.out.below hb5
    have HP5 : Hid (Pw w5 base P b r T L) := HPu.out.drew.below hb5
    have HB5 : Hid (Below w.heap.size w w5) := HBu.out.drew.trans (hb5.mono HBu.out.size)
    have HZ5 : Hid (w5.heap[Z]? = some (cO c)) := blk_below (w := U.drew) HZu.out hb5
    clear hb5
    go_simp
    refine hK.out _ _ (fun _ => HS5.out) ?_
    clear hK K
    refine wpL_one 7 rfl (by kernel_rfl) (by rfl) (fun K hK => ?_)
    go_simp
    refine (HC2.out w5 HP5.out.rb).mono ?_
    rintro e w6 ⟨rfl, hb6⟩
    have HS6 : Hid (SqW w.heap.size Y P b r x hs hg w6) := HS5.out.below hb6
    have HP6 : Hid (Pw w6 base P b r T L) := HP5.out.below hb6
    have HB6 : Hid (Below w.heap.size w w6) := HB5.out.trans (hb6.mono HB5.out.size)
    have HZ6 : Hid (w6.heap[Z]? = some (cO c)) := blk_below HZ5.out hb6
    clear hb6
    go_simp
    refine hK.out _ _ (fun _ => HS6.out) ?_
    clear hK K
    refine wpL_one 8 rfl (by kernel_rfl) (by rfl) (fun K hK => ?_)
    go_simp
    refine hK.out _ _ (fun h => absurd rfl h) ?_
    clear hK K
    refine wpL_done (by kernel_rfl) ?_
    refine NoPanic.normal ?_
    have z0 : w6.cell? ⟨Z, 0, none⟩ = some (i64 c.env) := blk_cell HZ6.out 0
    have z1 : w6.cell? ⟨Z, 1, none⟩ = some (i64 c.kind) := blk_cell HZ6.out 1
    have z2 : w6.cell? ⟨Z, 2, none⟩ = some (i64 c.num) := blk_cell HZ6.out 2
    have z3 : w6.cell? ⟨Z, 3, none⟩ = some (i64 c.rts) := blk_cell HZ6.out 3
    have hp1 := HP6.out.p01.2
    have hZl6 : Z < w6.heap.size := blk_lt HZ6.out
    have hq := eqIn36 c c
    rw [decide_eq_true rfl] at hq
    rcases HCS.out with ⟨h1, h2, h3⟩ | ⟨k, q, h1, h2, h3, h4⟩
    · subst h1 h2 h3
      unfold Cp.v zC at hq
      unfold zC at z0 z1 z2 z3
      go_wp2_with fail
      go_ret
      exact ⟨rfl, ⟨T, L, HP6.out, Mono.refl L, by omega⟩, Fr.of_below _ HB6.out hlo⟩
    · subst h1 h2 h3
      obtain ⟨ao, cap, hbk, _, hcap, hrow⟩ := HP6.out.rb.row
      obtain ⟨gg, rfl, _, hgl, _, _, hcc⟩ := hrow k q h4
      have hkL := (List.getElem?_eq_some_iff.1 h4).1
      obtain ⟨N, hN⟩ : ∃ N, N = L.length := ⟨_, rfl⟩
      rw [← hN] at hbk hcap hkL hl
      have r0 : w6.cell? ⟨r, 0, none⟩ = some (.slice (some ⟨gg, 0, none⟩) N cap) := blk_cell hbk 0
      have c0 : w6.cell? ⟨gg, k * 8, none⟩ = some (i64 q.c.env) := hcc 0 (by omega)
      have c1 : w6.cell? ⟨gg, k * 8 + 1, none⟩ = some (i64 q.c.kind) := hcc 1 (by omega)
      have c2 : w6.cell? ⟨gg, k * 8 + 2, none⟩ = some (i64 q.c.num) := hcc 2 (by omega)
      have c3 : w6.cell? ⟨gg, k * 8 + 3, none⟩ = some (i64 q.c.rts) := hcc 3 (by omega)
      have c4 : w6.cell? ⟨gg, k * 8 + 4, none⟩ = some (i64 q.sl) := hcc 4 (by omega)
      have c5 : w6.cell? ⟨gg, k * 8 + 5, none⟩ = some (i64 q.gn) := hcc 5 (by omega)
      have c6 : w6.cell? ⟨gg, k * 8 + 6, none⟩ = some (i64 q.fr) := hcc 6 (by omega)
      have c7 : w6.cell? ⟨gg, k * 8 + 7, none⟩ = some (.bool q.lv) := hcc 7 (by omega)
      have hkI : (k : Int) < N := by omega
      have hcI : (N : Int) ≤ cap := by omega
      have hNI : (N : Int) ≤ 1000 := by omega
      have HNn := hid hN
      clear hbk hrow hcc h4 hN
      unfold Cp.v at hq
      go_wp2_with fail
      go_ret
      exact ⟨rfl, ⟨T, L, HP6.out.below (below_one w6 _), Mono.refl L, by omega⟩, Fr.of_below _ (HB6.out.alloc HB6.out.size _) hlo⟩
theorem does_any {w : World} {base P b r : Nat} {T : List Pl} {L : List Rw} (h : Pw w base P b r T L) (hl : L.length ≤ 100) (x : Sp) : DoesTo w base P b r L x := by
  by_cases h0 : x.what = 0
  · exact does_mint0 h hl x h0
  by_cases h1 : x.what = 1
  · exact does_mint1 h hl x h1
  by_cases h2 : x.what = 2
  · exact does_der2 h hl x h2
  by_cases h3 : x.what = 3
  · exact does_der3 h hl x h3
  by_cases h4 : x.what = 4
  · exact does_drop h (by omega) x h4
  by_cases h5 : x.what = 5
  · exact does_revoke h (by omega) x h5
  by_cases h6 : x.what = 6
  · exact does_env h (by omega) x h6
  exact does_else h (by omega) x h0 h1 h2 h3 h4 h5 h6
end Go.Proofs.Ytcffodkpflfeoaa
