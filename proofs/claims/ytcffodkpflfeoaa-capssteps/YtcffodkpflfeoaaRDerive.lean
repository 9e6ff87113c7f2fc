/- imagoref09.Table's Derive: its contracts; no statement is proved in this text. -/
import Derived.Test.YtcffodkpflfeoaaRMint
namespace Go.Proofs.Ytcffodkpflfeoaa
open Go.ChangeShapes Go.WideShapes Go.ChangeAt Go.RowKit Go.Deep
attribute [local go_sem ↓] Go.wp_at_zero Go.wp_at_succ

abbrev dW (w : World) (sl gn tt rights : Int) : World := ((w.alloc (.cells #[i64 sl, i64 gn] 51)).alloc (.cells #[i64 tt, i64 rights] 79)).alloc (gO 0 0 0)
theorem three_dr (w : World) (sl gn tt rights : Int) : Below w.heap.size w (dW w sl gn tt rights) ∧ (dW w sl gn tt rights).heap[w.heap.size]? = some (.cells #[i64 sl, i64 gn] 51) ∧ (dW w sl gn tt rights).heap[w.heap.size + 1]? = some (.cells #[i64 tt, i64 rights] 79) ∧ (dW w sl gn tt rights).heap[w.heap.size + 2]? = some (gO 0 0 0) := by
  have h1 : (w.alloc (.cells #[i64 sl, i64 gn] 51)).heap.size = w.heap.size + 1 := by simp
  have h2 : ((w.alloc (.cells #[i64 sl, i64 gn] 51)).alloc (.cells #[i64 tt, i64 rights] 79)).heap.size = w.heap.size + 2 := by simp
  refine ⟨((below_one w _).trans ((below_one _ _).mono (by simp))).trans ((below_one _ _).mono (by simp; omega)), blk_alloc (blk_alloc (heap_last w _) _) _, blk_alloc ?_ _, ?_⟩
  · rw [← h1]; exact heap_last _ _
  · rw [← h2]; exact heap_last _ _
structure SqV (r g k q : Nat) (v : Value) (p : Rw) (tt rights : Int) (W : World) : Prop where
  s0 : W.cell? ⟨r, 0, none⟩ = some v
  s1 : W.cell? ⟨g, k * 8 + 1, none⟩ = some (i64 p.c.kind)
  s2 : W.cell? ⟨g, k * 8 + 2, none⟩ = some (i64 p.c.num)
  q0 : W.cell? ⟨q, 0, none⟩ = some (i64 tt)
  q1 : W.cell? ⟨q, 1, none⟩ = some (i64 rights)
set_option maxRecDepth 100000 in
set_option maxHeartbeats 3200000 in
theorem rderive_stale {w : World} {base r : Nat} {L : List Rw} (h : Rb w base r L) (hl : L.length ≤ 900) (env sl gn tt rights : Int) (hf : fdI L env sl gn = -1) : Calls Try.prog 28 #[pq r, i64 env, .agg #[i64 sl, i64 gn], .agg #[i64 tt, i64 rights]] w fun e w' => e = .returned (.agg #[i64 0, i64 0, i64 90]) ∧ Below w.heap.size w w' := by
  obtain ⟨hBV, hK1, hK2, hK3⟩ := three_dr w sl gn tt rights
  obtain ⟨V, hV⟩ : ∃ V, V = dW w sl gn tt rights := ⟨_, rfl⟩
  have HVe : Hid (((w.alloc (.cells #[i64 sl, i64 gn] 51)).alloc (.cells #[i64 tt, i64 rights] 79)).alloc (.cells #[i64 0, i64 0, i64 0] 75) = V) := hV.symm
  rw [← hV] at hBV hK1 hK2 hK3
  have HB := hid hBV
  have HK3 := hid hK3
  have v0 : V.cell? ⟨w.heap.size, 0, none⟩ = some (i64 sl) := blk_cell hK1 0
  have v1 : V.cell? ⟨w.heap.size, 1, none⟩ = some (i64 gn) := blk_cell hK1 1
  have hA := rfind_ok (h.below hBV) (by omega) env sl gn
  rw [hf] at hA
  have HA := hid hA
  clear hA hf h hV hBV hK1 hK2 hK3
  go_enter Try.func28, Try.ntmps28
  go_upto_region 1 with fail
  rw [HVe.out]
  go_wp2_with fail
  refine HA.out.mono ?_
  rintro e w1 ⟨rfl, hb1⟩
  have HK4 : Hid (w1.heap[w.heap.size + 2]? = some (gO 0 0 0)) := blk_below HK3.out hb1
  have HB1 : Hid (Below w.heap.size w w1) := HB.out.trans (hb1.mono HB.out.size)
  have k0 : w1.cell? ⟨w.heap.size + 2, 0, none⟩ = some (i64 0) := blk_cell HK4.out 0
  have k1 : w1.cell? ⟨w.heap.size + 2, 1, none⟩ = some (i64 0) := blk_cell HK4.out 1
  have k2 : w1.cell? ⟨w.heap.size + 2, 2, none⟩ = some (i64 0) := blk_cell HK4.out 2
  have kf : ∀ j, w1.frozen? ⟨w.heap.size + 2, j, none⟩ = false := blk_frozen HK4.out
  clear hb1
  go_wp2_with fail
  exact bodyPost_ret (results_one Try.results28 rfl (load75 (set3 HK4.out _ _ _))) rfl ⟨rfl, bel3 HB1.out (by omega) _ _ _⟩
set_option maxRecDepth 100000 in
set_option maxHeartbeats 3200000 in
theorem rderive_arg {w : World} {base r : Nat} {L : List Rw} (h : Rb w base r L) (hl : L.length ≤ 900) (env sl gn tt rights : Int) (k : Nat) (p : Rw) (hf : fdI L env sl gn = k) (hp : L[k]? = some p) (hrt : rightB ⟨tt, p.c.kind, p.c.num, rights⟩ = false) : Calls Try.prog 28 #[pq r, i64 env, .agg #[i64 sl, i64 gn], .agg #[i64 tt, i64 rights]] w fun e w' => e = .returned (.agg #[i64 0, i64 0, i64 1]) ∧ Below w.heap.size w w' := by
  have hblo : base ≤ w.heap.size := by have := h.lt; have := h.lo; omega
  obtain ⟨hBV, hK1, hK2, hK3⟩ := three_dr w sl gn tt rights
  obtain ⟨V, hV⟩ : ∃ V, V = dW w sl gn tt rights := ⟨_, rfl⟩
  have HVe : Hid (((w.alloc (.cells #[i64 sl, i64 gn] 51)).alloc (.cells #[i64 tt, i64 rights] 79)).alloc (.cells #[i64 0, i64 0, i64 0] 75) = V) := hV.symm
  rw [← hV] at hBV hK1 hK2 hK3
  have HB := hid hBV
  have HK2 := hid hK2
  have HK3 := hid hK3
  have HR0 := hid h
  have v0 : V.cell? ⟨w.heap.size, 0, none⟩ = some (i64 sl) := blk_cell hK1 0
  have v1 : V.cell? ⟨w.heap.size, 1, none⟩ = some (i64 gn) := blk_cell hK1 1
  have hA := rfind_ok (h.below hBV) (by omega) env sl gn
  rw [hf] at hA
  have HA := hid hA
  have hkL : k < L.length := (List.getElem?_eq_some_iff.1 hp).1
  obtain ⟨ao, cap, hbk, _, hcap, hrow⟩ := (h.below hBV).row
  obtain ⟨g, rfl, _, hgl, _, _, hc⟩ := hrow k p hp
  have HRt := hid hrt
  obtain ⟨N, hN⟩ : ∃ N, N = L.length := ⟨_, rfl⟩
  rw [← hN] at hbk hcap hkL
  have hkI : (k : Int) < N := by omega
  have hcI : (N : Int) ≤ cap := by omega
  have hNI : (N : Int) ≤ 1000 := by omega
  have HC : Hid (∀ W, Below V.heap.size V W → SqV r g k (w.heap.size + 1) (.slice (some ⟨g, 0, none⟩) N cap) p tt rights W ∧ W.cell? ⟨g, k * 8 + 3, none⟩ = some (i64 p.c.rts)) := fun W hW => ⟨⟨blk_cell (blk_below hbk hW) 0, (hW.cell (p := ⟨g, _, none⟩) hgl).trans (hc 1 (by omega)), (hW.cell (p := ⟨g, _, none⟩) hgl).trans (hc 2 (by omega)), blk_cell (blk_below HK2.out hW) 0, blk_cell (blk_below HK2.out hW) 1⟩, (hW.cell (p := ⟨g, _, none⟩) hgl).trans (hc 3 (by omega))⟩
  clear hA hf h hV hBV hK1 hK2 hK3 hbk hrow hc hp hN hrt
  go_enter Try.func28, Try.ntmps28
  go_upto_region 1 with fail
  rw [HVe.out]
  go_wp2_with fail
  refine HA.out.mono ?_
  rintro e w1 ⟨rfl, hb1⟩
  have HB1 := hid hb1
  have HS : Hid (SqV r g k (w.heap.size + 1) (.slice (some ⟨g, 0, none⟩) N cap) p tt rights w1.drew) := (HC.out w1.drew hb1.drew).1
  clear hb1 v0 v1
  go_upto_region 4 with fail
  refine wp_region_noPanic ?_
  refine wp_region_last (SqV r g k (w.heap.size + 1) (.slice (some ⟨g, 0, none⟩) N cap) p tt rights) 23 (by kernel_rfl) ?_
  refine wpL_take 0 19 (.pointer (some ⟨w.heap.size + 1, 0, none⟩)) [] rfl rfl (by kernel_rfl) (by decide) (by kernel_rfl) (by kernel_rfl) (by kernel_rfl) (fun _ _ _ h => h) HS.out (by rfl) (fun W hW => by obtain ⟨s0, s1, s2, q0, q1⟩ := hW; go_simp) ?_
  simp only [Act.put, List.setIfInBounds_toArray, List.set_cons_zero, List.set_cons_succ]
  refine wpL_take 1 20 (i64 tt) [] rfl rfl (by kernel_rfl) (by decide) (by kernel_rfl) (by kernel_rfl) (by kernel_rfl) (fun _ _ _ h => h) HS.out (by rfl) (fun W hW => by obtain ⟨s0, s1, s2, q0, q1⟩ := hW; go_simp) ?_
  simp only [Act.put, List.setIfInBounds_toArray, List.set_cons_zero, List.set_cons_succ]
  refine wpL_take 2 21 (pq r) [] rfl rfl (by kernel_rfl) (by decide) (by kernel_rfl) (by kernel_rfl) (by kernel_rfl) (fun _ _ _ h => h) HS.out (by rfl) (fun W hW => by obtain ⟨s0, s1, s2, q0, q1⟩ := hW; go_simp) ?_
  simp only [Act.put, List.setIfInBounds_toArray, List.set_cons_zero, List.set_cons_succ]
  refine wpL_take 3 22 (pq r) [] rfl rfl (by kernel_rfl) (by decide) (by kernel_rfl) (by kernel_rfl) (by kernel_rfl) (fun _ _ _ h => h) HS.out (by rfl) (fun W hW => by obtain ⟨s0, s1, s2, q0, q1⟩ := hW; go_simp) ?_
  simp only [Act.put, List.setIfInBounds_toArray, List.set_cons_zero, List.set_cons_succ]
  refine wpL_take 4 23 (pq r) [] rfl rfl (by kernel_rfl) (by decide) (by kernel_rfl) (by kernel_rfl) (by kernel_rfl) (fun _ _ _ h => h) HS.out (by rfl) (fun W hW => by obtain ⟨s0, s1, s2, q0, q1⟩ := hW; go_simp) ?_
  simp only [Act.put, List.setIfInBounds_toArray, List.set_cons_zero, List.set_cons_succ]
  refine wpL_take 5 24 (.slice (some ⟨g, 0, none⟩) N cap) [] rfl rfl (by kernel_rfl) (by decide) (by kernel_rfl) (by kernel_rfl) (by kernel_rfl) (fun _ _ _ h => h) HS.out (by rfl) (fun W hW => by obtain ⟨s0, s1, s2, q0, q1⟩ := hW; go_simp) ?_
  simp only [Act.put, List.setIfInBounds_toArray, List.set_cons_zero, List.set_cons_succ]
  refine wpL_take 6 25 (i64 (k : Nat)) [] rfl rfl (by kernel_rfl) (by decide) (by kernel_rfl) (by kernel_rfl) (by kernel_rfl) (fun _ _ _ h => h) HS.out (by rfl) (fun W hW => by obtain ⟨s0, s1, s2, q0, q1⟩ := hW; go_simp) ?_
  simp only [Act.put, List.setIfInBounds_toArray, List.set_cons_zero, List.set_cons_succ]
  refine wpL_take 7 26 (.pointer (some ⟨g, k * 8, none⟩)) [] rfl rfl (by kernel_rfl) (by decide) (by kernel_rfl) (by kernel_rfl) (by kernel_rfl) (fun _ _ _ h => h) HS.out (by rfl) (fun W hW => by obtain ⟨s0, s1, s2, q0, q1⟩ := hW; go_simp) ?_
  simp only [Act.put, List.setIfInBounds_toArray, List.set_cons_zero, List.set_cons_succ]
  refine wpL_take 8 27 (.pointer (some ⟨g, k * 8 + 1, none⟩)) [] rfl rfl (by kernel_rfl) (by decide) (by kernel_rfl) (by kernel_rfl) (by kernel_rfl) (fun _ _ _ h => h) HS.out (by rfl) (fun W hW => by obtain ⟨s0, s1, s2, q0, q1⟩ := hW; go_simp) ?_
  simp only [Act.put, List.setIfInBounds_toArray, List.set_cons_zero, List.set_cons_succ]
  refine wpL_take 9 28 (i64 p.c.kind) [] rfl rfl (by kernel_rfl) (by decide) (by kernel_rfl) (by kernel_rfl) (by kernel_rfl) (fun _ _ _ h => h) HS.out (by rfl) (fun W hW => by obtain ⟨s0, s1, s2, q0, q1⟩ := hW; go_simp) ?_
  simp only [Act.put, List.setIfInBounds_toArray, List.set_cons_zero, List.set_cons_succ]
  refine wpL_take 10 29 (pq r) [] rfl rfl (by kernel_rfl) (by decide) (by kernel_rfl) (by kernel_rfl) (by kernel_rfl) (fun _ _ _ h => h) HS.out (by rfl) (fun W hW => by obtain ⟨s0, s1, s2, q0, q1⟩ := hW; go_simp) ?_
  simp only [Act.put, List.setIfInBounds_toArray, List.set_cons_zero, List.set_cons_succ]
  refine wpL_take 11 30 (pq r) [] rfl rfl (by kernel_rfl) (by decide) (by kernel_rfl) (by kernel_rfl) (by kernel_rfl) (fun _ _ _ h => h) HS.out (by rfl) (fun W hW => by obtain ⟨s0, s1, s2, q0, q1⟩ := hW; go_simp) ?_
  simp only [Act.put, List.setIfInBounds_toArray, List.set_cons_zero, List.set_cons_succ]
  refine wpL_take 12 31 (pq r) [] rfl rfl (by kernel_rfl) (by decide) (by kernel_rfl) (by kernel_rfl) (by kernel_rfl) (fun _ _ _ h => h) HS.out (by rfl) (fun W hW => by obtain ⟨s0, s1, s2, q0, q1⟩ := hW; go_simp) ?_
  simp only [Act.put, List.setIfInBounds_toArray, List.set_cons_zero, List.set_cons_succ]
  refine wpL_take 13 32 (.slice (some ⟨g, 0, none⟩) N cap) [] rfl rfl (by kernel_rfl) (by decide) (by kernel_rfl) (by kernel_rfl) (by kernel_rfl) (fun _ _ _ h => h) HS.out (by rfl) (fun W hW => by obtain ⟨s0, s1, s2, q0, q1⟩ := hW; go_simp) ?_
  simp only [Act.put, List.setIfInBounds_toArray, List.set_cons_zero, List.set_cons_succ]
  refine wpL_take 14 33 (i64 (k : Nat)) [] rfl rfl (by kernel_rfl) (by decide) (by kernel_rfl) (by kernel_rfl) (by kernel_rfl) (fun _ _ _ h => h) HS.out (by rfl) (fun W hW => by obtain ⟨s0, s1, s2, q0, q1⟩ := hW; go_simp) ?_
  simp only [Act.put, List.setIfInBounds_toArray, List.set_cons_zero, List.set_cons_succ]
  refine wpL_take 15 34 (.pointer (some ⟨g, k * 8, none⟩)) [] rfl rfl (by kernel_rfl) (by decide) (by kernel_rfl) (by kernel_rfl) (by kernel_rfl) (fun _ _ _ h => h) HS.out (by rfl) (fun W hW => by obtain ⟨s0, s1, s2, q0, q1⟩ := hW; go_simp) ?_
  simp only [Act.put, List.setIfInBounds_toArray, List.set_cons_zero, List.set_cons_succ]
  refine wpL_take 16 35 (.pointer (some ⟨g, k * 8 + 2, none⟩)) [] rfl rfl (by kernel_rfl) (by decide) (by kernel_rfl) (by kernel_rfl) (by kernel_rfl) (fun _ _ _ h => h) HS.out (by rfl) (fun W hW => by obtain ⟨s0, s1, s2, q0, q1⟩ := hW; go_simp) ?_
  simp only [Act.put, List.setIfInBounds_toArray, List.set_cons_zero, List.set_cons_succ]
  refine wpL_take 17 36 (i64 p.c.num) [] rfl rfl (by kernel_rfl) (by decide) (by kernel_rfl) (by kernel_rfl) (by kernel_rfl) (fun _ _ _ h => h) HS.out (by rfl) (fun W hW => by obtain ⟨s0, s1, s2, q0, q1⟩ := hW; go_simp) ?_
  simp only [Act.put, List.setIfInBounds_toArray, List.set_cons_zero, List.set_cons_succ]
  refine wpL_take 18 37 (.pointer (some ⟨w.heap.size + 1, 1, none⟩)) [] rfl rfl (by kernel_rfl) (by decide) (by kernel_rfl) (by kernel_rfl) (by kernel_rfl) (fun _ _ _ h => h) HS.out (by rfl) (fun W hW => by obtain ⟨s0, s1, s2, q0, q1⟩ := hW; go_simp) ?_
  simp only [Act.put, List.setIfInBounds_toArray, List.set_cons_zero, List.set_cons_succ]
  refine wpL_take 19 38 (i64 rights) [] rfl rfl (by kernel_rfl) (by decide) (by kernel_rfl) (by kernel_rfl) (by kernel_rfl) (fun _ _ _ h => h) HS.out (by rfl) (fun W hW => by obtain ⟨s0, s1, s2, q0, q1⟩ := hW; go_simp) ?_
  simp only [Act.put, List.setIfInBounds_toArray, List.set_cons_zero, List.set_cons_succ]
  refine wpL_take 20 39 (i64 (k : Nat)) [] rfl rfl (by kernel_rfl) (by decide) (by kernel_rfl) (by kernel_rfl) (by kernel_rfl) (fun _ _ _ h => h) HS.out (by rfl) (fun W hW => by obtain ⟨s0, s1, s2, q0, q1⟩ := hW; go_simp) ?_
  simp only [Act.put, List.setIfInBounds_toArray, List.set_cons_zero, List.set_cons_succ]
  refine wpL_take 21 40 (.agg #[i64 tt, i64 p.c.kind, i64 p.c.num, i64 rights, i64 0, i64 0, i64 (k : Nat), .bool false]) [] rfl rfl (by kernel_rfl) (by decide) (by kernel_rfl) (by kernel_rfl) (by kernel_rfl) (fun _ _ _ h => h) HS.out (by rfl) (fun W hW => by obtain ⟨s0, s1, s2, q0, q1⟩ := hW; go_simp) ?_
  simp only [Act.put, List.setIfInBounds_toArray, List.set_cons_zero, List.set_cons_succ]
  refine wpL_one 22 rfl (by kernel_rfl) (by rfl) (fun K hK => ?_)
  go_simp
  refine hK.out _ _ (fun _ => (HC.out _ (HB1.out.drew.alloc HB1.out.size _)).1) ?_
  clear hK K
  refine wpL_one 23 rfl (by kernel_rfl) (by rfl) (fun K hK => ?_)
  go_simp
  refine hK.out _ _ (fun h => absurd rfl h) ?_
  clear hK K
  refine wpL_done (by kernel_rfl) ?_
  refine NoPanic.normal ?_
  have HBd : Hid (Below w.heap.size w (w1.alloc (rO ⟨⟨tt, p.c.kind, p.c.num, rights⟩, 0, 0, (k : Nat), false⟩)).drew) := Below.drew ((HB.out.trans (HB1.out.mono HB.out.size)).alloc (HB.out.trans (HB1.out.mono HB.out.size)).size _)
  have HCd := hid (HC.out (w1.alloc (rO ⟨⟨tt, p.c.kind, p.c.num, rights⟩, 0, 0, (k : Nat), false⟩)).drew (Below.drew (HB1.out.alloc HB1.out.size _)))
  have HKd : Hid ((w1.alloc (rO ⟨⟨tt, p.c.kind, p.c.num, rights⟩, 0, 0, (k : Nat), false⟩)).drew.heap[w.heap.size + 2]? = some (gO 0 0 0)) := blk_alloc (blk_below HK3.out HB1.out) _
  have HXd : Hid ((w1.alloc (rO ⟨⟨tt, p.c.kind, p.c.num, rights⟩, 0, 0, (k : Nat), false⟩)).drew.heap[w1.heap.size]? = some (rO ⟨⟨tt, p.c.kind, p.c.num, rights⟩, 0, 0, (k : Nat), false⟩)) := heap_last w1 _
  clear HS HC HB1
  unfold rO at HBd HCd HKd HXd
  generalize (w1.alloc (.cells #[i64 tt, i64 p.c.kind, i64 p.c.num, i64 rights, i64 0, i64 0, i64 (k : Nat), .bool false] 66)).drew = U at *
  generalize w1.heap.size = x at *
  have z0 : U.cell? ⟨x, 0, none⟩ = some (i64 tt) := blk_cell HXd.out 0
  have z1 : U.cell? ⟨x, 1, none⟩ = some (i64 p.c.kind) := blk_cell HXd.out 1
  have z2 : U.cell? ⟨x, 2, none⟩ = some (i64 p.c.num) := blk_cell HXd.out 2
  have z3 : U.cell? ⟨x, 3, none⟩ = some (i64 rights) := blk_cell HXd.out 3
  have z4 : U.cell? ⟨x, 4, none⟩ = some (i64 0) := blk_cell HXd.out 4
  have z5 : U.cell? ⟨x, 5, none⟩ = some (i64 0) := blk_cell HXd.out 5
  have z6 : U.cell? ⟨x, 6, none⟩ = some (i64 (k : Nat)) := blk_cell HXd.out 6
  have z7 : U.cell? ⟨x, 7, none⟩ = some (.bool false) := blk_cell HXd.out 7
  go_wp2_with fail
  refine (rright_ok U ⟨tt, p.c.kind, p.c.num, rights⟩ 0 0 (k : Nat) false).mono ?_
  rintro e w3 ⟨rfl, hb3⟩
  rw [HRt.out]
  have HB3 : Hid (Below w.heap.size w w3) := HBd.out.trans (hb3.mono HBd.out.size)
  have HKx : Hid (w3.heap[w.heap.size + 2]? = some (gO 0 0 0)) := blk_below HKd.out hb3
  have k0 : w3.cell? ⟨w.heap.size + 2, 0, none⟩ = some (i64 0) := blk_cell HKx.out 0
  have k1 : w3.cell? ⟨w.heap.size + 2, 1, none⟩ = some (i64 0) := blk_cell HKx.out 1
  have k2 : w3.cell? ⟨w.heap.size + 2, 2, none⟩ = some (i64 0) := blk_cell HKx.out 2
  have kf : ∀ j, w3.frozen? ⟨w.heap.size + 2, j, none⟩ = false := blk_frozen HKx.out
  clear hb3 z0 z1 z2 z3 z4 z5 z6 z7
  go_wp2_with fail
  exact bodyPost_ret (results_one Try.results28 rfl (load75 (set3 HKx.out _ _ _))) rfl ⟨rfl, bel3 HB3.out (by omega) _ _ _⟩
set_option maxRecDepth 100000 in
set_option maxHeartbeats 3200000 in
theorem rderive_right {w : World} {base r : Nat} {L : List Rw} (h : Rb w base r L) (hl : L.length ≤ 900) (env sl gn tt rights : Int) (k : Nat) (p : Rw) (hf : fdI L env sl gn = k) (hp : L[k]? = some p) (hrt : rightB ⟨tt, p.c.kind, p.c.num, rights⟩ = true) (hcr : envB p.c.rts = true) (hrr : envB rights = true) (hgr : grB p.c.rts rights = false) : Calls Try.prog 28 #[pq r, i64 env, .agg #[i64 sl, i64 gn], .agg #[i64 tt, i64 rights]] w fun e w' => e = .returned (.agg #[i64 0, i64 0, i64 91]) ∧ Below w.heap.size w w' := by
  have hblo : base ≤ w.heap.size := by have := h.lt; have := h.lo; omega
  obtain ⟨hBV, hK1, hK2, hK3⟩ := three_dr w sl gn tt rights
  obtain ⟨V, hV⟩ : ∃ V, V = dW w sl gn tt rights := ⟨_, rfl⟩
  have HVe : Hid (((w.alloc (.cells #[i64 sl, i64 gn] 51)).alloc (.cells #[i64 tt, i64 rights] 79)).alloc (.cells #[i64 0, i64 0, i64 0] 75) = V) := hV.symm
  rw [← hV] at hBV hK1 hK2 hK3
  have HB := hid hBV
  have HK2 := hid hK2
  have HK3 := hid hK3
  have HR0 := hid h
  have v0 : V.cell? ⟨w.heap.size, 0, none⟩ = some (i64 sl) := blk_cell hK1 0
  have v1 : V.cell? ⟨w.heap.size, 1, none⟩ = some (i64 gn) := blk_cell hK1 1
  have hA := rfind_ok (h.below hBV) (by omega) env sl gn
  rw [hf] at hA
  have HA := hid hA
  have hkL : k < L.length := (List.getElem?_eq_some_iff.1 hp).1
  obtain ⟨ao, cap, hbk, _, hcap, hrow⟩ := (h.below hBV).row
  obtain ⟨g, rfl, _, hgl, _, _, hc⟩ := hrow k p hp
  have HRt := hid hrt
  obtain ⟨xr, hxr⟩ : ∃ xr, xr = p.c.rts := ⟨_, rfl⟩
  rw [← hxr] at hgr hcr
  have HXR : Hid (p.c.rts = xr) := hxr.symm
  obtain ⟨N, hN⟩ : ∃ N, N = L.length := ⟨_, rfl⟩
  rw [← hN] at hbk hcap hkL
  have hkI : (k : Int) < N := by omega
  have hcI : (N : Int) ≤ cap := by omega
  have hNI : (N : Int) ≤ 1000 := by omega
  have HC : Hid (∀ W, Below V.heap.size V W → SqV r g k (w.heap.size + 1) (.slice (some ⟨g, 0, none⟩) N cap) p tt rights W ∧ W.cell? ⟨g, k * 8 + 3, none⟩ = some (i64 p.c.rts)) := fun W hW => ⟨⟨blk_cell (blk_below hbk hW) 0, (hW.cell (p := ⟨g, _, none⟩) hgl).trans (hc 1 (by omega)), (hW.cell (p := ⟨g, _, none⟩) hgl).trans (hc 2 (by omega)), blk_cell (blk_below HK2.out hW) 0, blk_cell (blk_below HK2.out hW) 1⟩, (hW.cell (p := ⟨g, _, none⟩) hgl).trans (hc 3 (by omega))⟩
  clear hA hf h hV hBV hK1 hK2 hK3 hbk hrow hc hp hN hrt
  go_enter Try.func28, Try.ntmps28
  go_upto_region 1 with fail
  rw [HVe.out]
  go_wp2_with fail
  refine HA.out.mono ?_
  rintro e w1 ⟨rfl, hb1⟩
  have HB1 := hid hb1
  have HS : Hid (SqV r g k (w.heap.size + 1) (.slice (some ⟨g, 0, none⟩) N cap) p tt rights w1.drew) := (HC.out w1.drew hb1.drew).1
  clear hb1 v0 v1
  go_upto_region 4 with fail
  refine wp_region_noPanic ?_
  refine wp_region_last (SqV r g k (w.heap.size + 1) (.slice (some ⟨g, 0, none⟩) N cap) p tt rights) 23 (by kernel_rfl) ?_
  refine wpL_take 0 19 (.pointer (some ⟨w.heap.size + 1, 0, none⟩)) [] rfl rfl (by kernel_rfl) (by decide) (by kernel_rfl) (by kernel_rfl) (by kernel_rfl) (fun _ _ _ h => h) HS.out (by rfl) (fun W hW => by obtain ⟨s0, s1, s2, q0, q1⟩ := hW; go_simp) ?_
  simp only [Act.put, List.setIfInBounds_toArray, List.set_cons_zero, List.set_cons_succ]
  refine wpL_take 1 20 (i64 tt) [] rfl rfl (by kernel_rfl) (by decide) (by kernel_rfl) (by kernel_rfl) (by kernel_rfl) (fun _ _ _ h => h) HS.out (by rfl) (fun W hW => by obtain ⟨s0, s1, s2, q0, q1⟩ := hW; go_simp) ?_
  simp only [Act.put, List.setIfInBounds_toArray, List.set_cons_zero, List.set_cons_succ]
  refine wpL_take 2 21 (pq r) [] rfl rfl (by kernel_rfl) (by decide) (by kernel_rfl) (by kernel_rfl) (by kernel_rfl) (fun _ _ _ h => h) HS.out (by rfl) (fun W hW => by obtain ⟨s0, s1, s2, q0, q1⟩ := hW; go_simp) ?_
  simp only [Act.put, List.setIfInBounds_toArray, List.set_cons_zero, List.set_cons_succ]
  refine wpL_take 3 22 (pq r) [] rfl rfl (by kernel_rfl) (by decide) (by kernel_rfl) (by kernel_rfl) (by kernel_rfl) (fun _ _ _ h => h) HS.out (by rfl) (fun W hW => by obtain ⟨s0, s1, s2, q0, q1⟩ := hW; go_simp) ?_
  simp only [Act.put, List.setIfInBounds_toArray, List.set_cons_zero, List.set_cons_succ]
  refine wpL_take 4 23 (pq r) [] rfl rfl (by kernel_rfl) (by decide) (by kernel_rfl) (by kernel_rfl) (by kernel_rfl) (fun _ _ _ h => h) HS.out (by rfl) (fun W hW => by obtain ⟨s0, s1, s2, q0, q1⟩ := hW; go_simp) ?_
  simp only [Act.put, List.setIfInBounds_toArray, List.set_cons_zero, List.set_cons_succ]
  refine wpL_take 5 24 (.slice (some ⟨g, 0, none⟩) N cap) [] rfl rfl (by kernel_rfl) (by decide) (by kernel_rfl) (by kernel_rfl) (by kernel_rfl) (fun _ _ _ h => h) HS.out (by rfl) (fun W hW => by obtain ⟨s0, s1, s2, q0, q1⟩ := hW; go_simp) ?_
  simp only [Act.put, List.setIfInBounds_toArray, List.set_cons_zero, List.set_cons_succ]
  refine wpL_take 6 25 (i64 (k : Nat)) [] rfl rfl (by kernel_rfl) (by decide) (by kernel_rfl) (by kernel_rfl) (by kernel_rfl) (fun _ _ _ h => h) HS.out (by rfl) (fun W hW => by obtain ⟨s0, s1, s2, q0, q1⟩ := hW; go_simp) ?_
  simp only [Act.put, List.setIfInBounds_toArray, List.set_cons_zero, List.set_cons_succ]
  refine wpL_take 7 26 (.pointer (some ⟨g, k * 8, none⟩)) [] rfl rfl (by kernel_rfl) (by decide) (by kernel_rfl) (by kernel_rfl) (by kernel_rfl) (fun _ _ _ h => h) HS.out (by rfl) (fun W hW => by obtain ⟨s0, s1, s2, q0, q1⟩ := hW; go_simp) ?_
  simp only [Act.put, List.setIfInBounds_toArray, List.set_cons_zero, List.set_cons_succ]
  refine wpL_take 8 27 (.pointer (some ⟨g, k * 8 + 1, none⟩)) [] rfl rfl (by kernel_rfl) (by decide) (by kernel_rfl) (by kernel_rfl) (by kernel_rfl) (fun _ _ _ h => h) HS.out (by rfl) (fun W hW => by obtain ⟨s0, s1, s2, q0, q1⟩ := hW; go_simp) ?_
  simp only [Act.put, List.setIfInBounds_toArray, List.set_cons_zero, List.set_cons_succ]
  refine wpL_take 9 28 (i64 p.c.kind) [] rfl rfl (by kernel_rfl) (by decide) (by kernel_rfl) (by kernel_rfl) (by kernel_rfl) (fun _ _ _ h => h) HS.out (by rfl) (fun W hW => by obtain ⟨s0, s1, s2, q0, q1⟩ := hW; go_simp) ?_
  simp only [Act.put, List.setIfInBounds_toArray, List.set_cons_zero, List.set_cons_succ]
  refine wpL_take 10 29 (pq r) [] rfl rfl (by kernel_rfl) (by decide) (by kernel_rfl) (by kernel_rfl) (by kernel_rfl) (fun _ _ _ h => h) HS.out (by rfl) (fun W hW => by obtain ⟨s0, s1, s2, q0, q1⟩ := hW; go_simp) ?_
  simp only [Act.put, List.setIfInBounds_toArray, List.set_cons_zero, List.set_cons_succ]
  refine wpL_take 11 30 (pq r) [] rfl rfl (by kernel_rfl) (by decide) (by kernel_rfl) (by kernel_rfl) (by kernel_rfl) (fun _ _ _ h => h) HS.out (by rfl) (fun W hW => by obtain ⟨s0, s1, s2, q0, q1⟩ := hW; go_simp) ?_
  simp only [Act.put, List.setIfInBounds_toArray, List.set_cons_zero, List.set_cons_succ]
  refine wpL_take 12 31 (pq r) [] rfl rfl (by kernel_rfl) (by decide) (by kernel_rfl) (by kernel_rfl) (by kernel_rfl) (fun _ _ _ h => h) HS.out (by rfl) (fun W hW => by obtain ⟨s0, s1, s2, q0, q1⟩ := hW; go_simp) ?_
  simp only [Act.put, List.setIfInBounds_toArray, List.set_cons_zero, List.set_cons_succ]
  refine wpL_take 13 32 (.slice (some ⟨g, 0, none⟩) N cap) [] rfl rfl (by kernel_rfl) (by decide) (by kernel_rfl) (by kernel_rfl) (by kernel_rfl) (fun _ _ _ h => h) HS.out (by rfl) (fun W hW => by obtain ⟨s0, s1, s2, q0, q1⟩ := hW; go_simp) ?_
  simp only [Act.put, List.setIfInBounds_toArray, List.set_cons_zero, List.set_cons_succ]
  refine wpL_take 14 33 (i64 (k : Nat)) [] rfl rfl (by kernel_rfl) (by decide) (by kernel_rfl) (by kernel_rfl) (by kernel_rfl) (fun _ _ _ h => h) HS.out (by rfl) (fun W hW => by obtain ⟨s0, s1, s2, q0, q1⟩ := hW; go_simp) ?_
  simp only [Act.put, List.setIfInBounds_toArray, List.set_cons_zero, List.set_cons_succ]
  refine wpL_take 15 34 (.pointer (some ⟨g, k * 8, none⟩)) [] rfl rfl (by kernel_rfl) (by decide) (by kernel_rfl) (by kernel_rfl) (by kernel_rfl) (fun _ _ _ h => h) HS.out (by rfl) (fun W hW => by obtain ⟨s0, s1, s2, q0, q1⟩ := hW; go_simp) ?_
  simp only [Act.put, List.setIfInBounds_toArray, List.set_cons_zero, List.set_cons_succ]
  refine wpL_take 16 35 (.pointer (some ⟨g, k * 8 + 2, none⟩)) [] rfl rfl (by kernel_rfl) (by decide) (by kernel_rfl) (by kernel_rfl) (by kernel_rfl) (fun _ _ _ h => h) HS.out (by rfl) (fun W hW => by obtain ⟨s0, s1, s2, q0, q1⟩ := hW; go_simp) ?_
  simp only [Act.put, List.setIfInBounds_toArray, List.set_cons_zero, List.set_cons_succ]
  refine wpL_take 17 36 (i64 p.c.num) [] rfl rfl (by kernel_rfl) (by decide) (by kernel_rfl) (by kernel_rfl) (by kernel_rfl) (fun _ _ _ h => h) HS.out (by rfl) (fun W hW => by obtain ⟨s0, s1, s2, q0, q1⟩ := hW; go_simp) ?_
  simp only [Act.put, List.setIfInBounds_toArray, List.set_cons_zero, List.set_cons_succ]
  refine wpL_take 18 37 (.pointer (some ⟨w.heap.size + 1, 1, none⟩)) [] rfl rfl (by kernel_rfl) (by decide) (by kernel_rfl) (by kernel_rfl) (by kernel_rfl) (fun _ _ _ h => h) HS.out (by rfl) (fun W hW => by obtain ⟨s0, s1, s2, q0, q1⟩ := hW; go_simp) ?_
  simp only [Act.put, List.setIfInBounds_toArray, List.set_cons_zero, List.set_cons_succ]
  refine wpL_take 19 38 (i64 rights) [] rfl rfl (by kernel_rfl) (by decide) (by kernel_rfl) (by kernel_rfl) (by kernel_rfl) (fun _ _ _ h => h) HS.out (by rfl) (fun W hW => by obtain ⟨s0, s1, s2, q0, q1⟩ := hW; go_simp) ?_
  simp only [Act.put, List.setIfInBounds_toArray, List.set_cons_zero, List.set_cons_succ]
  refine wpL_take 20 39 (i64 (k : Nat)) [] rfl rfl (by kernel_rfl) (by decide) (by kernel_rfl) (by kernel_rfl) (by kernel_rfl) (fun _ _ _ h => h) HS.out (by rfl) (fun W hW => by obtain ⟨s0, s1, s2, q0, q1⟩ := hW; go_simp) ?_
  simp only [Act.put, List.setIfInBounds_toArray, List.set_cons_zero, List.set_cons_succ]
  refine wpL_take 21 40 (.agg #[i64 tt, i64 p.c.kind, i64 p.c.num, i64 rights, i64 0, i64 0, i64 (k : Nat), .bool false]) [] rfl rfl (by kernel_rfl) (by decide) (by kernel_rfl) (by kernel_rfl) (by kernel_rfl) (fun _ _ _ h => h) HS.out (by rfl) (fun W hW => by obtain ⟨s0, s1, s2, q0, q1⟩ := hW; go_simp) ?_
  simp only [Act.put, List.setIfInBounds_toArray, List.set_cons_zero, List.set_cons_succ]
  refine wpL_one 22 rfl (by kernel_rfl) (by rfl) (fun K hK => ?_)
  go_simp
  refine hK.out _ _ (fun _ => (HC.out _ (HB1.out.drew.alloc HB1.out.size _)).1) ?_
  clear hK K
  refine wpL_one 23 rfl (by kernel_rfl) (by rfl) (fun K hK => ?_)
  go_simp
  refine hK.out _ _ (fun h => absurd rfl h) ?_
  clear hK K
  refine wpL_done (by kernel_rfl) ?_
  refine NoPanic.normal ?_
  have HBd : Hid (Below w.heap.size w (w1.alloc (rO ⟨⟨tt, p.c.kind, p.c.num, rights⟩, 0, 0, (k : Nat), false⟩)).drew) := Below.drew ((HB.out.trans (HB1.out.mono HB.out.size)).alloc (HB.out.trans (HB1.out.mono HB.out.size)).size _)
  have HCd := hid (HC.out (w1.alloc (rO ⟨⟨tt, p.c.kind, p.c.num, rights⟩, 0, 0, (k : Nat), false⟩)).drew (Below.drew (HB1.out.alloc HB1.out.size _)))
  have HKd : Hid ((w1.alloc (rO ⟨⟨tt, p.c.kind, p.c.num, rights⟩, 0, 0, (k : Nat), false⟩)).drew.heap[w.heap.size + 2]? = some (gO 0 0 0)) := blk_alloc (blk_below HK3.out HB1.out) _
  have HXd : Hid ((w1.alloc (rO ⟨⟨tt, p.c.kind, p.c.num, rights⟩, 0, 0, (k : Nat), false⟩)).drew.heap[w1.heap.size]? = some (rO ⟨⟨tt, p.c.kind, p.c.num, rights⟩, 0, 0, (k : Nat), false⟩)) := heap_last w1 _
  clear HS HC HB1
  unfold rO at HBd HCd HKd HXd
  generalize (w1.alloc (.cells #[i64 tt, i64 p.c.kind, i64 p.c.num, i64 rights, i64 0, i64 0, i64 (k : Nat), .bool false] 66)).drew = U at *
  generalize w1.heap.size = x at *
  have z0 : U.cell? ⟨x, 0, none⟩ = some (i64 tt) := blk_cell HXd.out 0
  have z1 : U.cell? ⟨x, 1, none⟩ = some (i64 p.c.kind) := blk_cell HXd.out 1
  have z2 : U.cell? ⟨x, 2, none⟩ = some (i64 p.c.num) := blk_cell HXd.out 2
  have z3 : U.cell? ⟨x, 3, none⟩ = some (i64 rights) := blk_cell HXd.out 3
  have z4 : U.cell? ⟨x, 4, none⟩ = some (i64 0) := blk_cell HXd.out 4
  have z5 : U.cell? ⟨x, 5, none⟩ = some (i64 0) := blk_cell HXd.out 5
  have z6 : U.cell? ⟨x, 6, none⟩ = some (i64 (k : Nat)) := blk_cell HXd.out 6
  have z7 : U.cell? ⟨x, 7, none⟩ = some (.bool false) := blk_cell HXd.out 7
  go_wp2_with fail
  refine (rright_ok U ⟨tt, p.c.kind, p.c.num, rights⟩ 0 0 (k : Nat) false).mono ?_
  rintro e w3 ⟨rfl, hb3⟩
  rw [HRt.out]
  have HB3 : Hid (Below w.heap.size w w3) := HBd.out.trans (hb3.mono HBd.out.size)
  have HKx : Hid (w3.heap[w.heap.size + 2]? = some (gO 0 0 0)) := blk_below HKd.out hb3
  have k0 : w3.cell? ⟨w.heap.size + 2, 0, none⟩ = some (i64 0) := blk_cell HKx.out 0
  have k1 : w3.cell? ⟨w.heap.size + 2, 1, none⟩ = some (i64 0) := blk_cell HKx.out 1
  have k2 : w3.cell? ⟨w.heap.size + 2, 2, none⟩ = some (i64 0) := blk_cell HKx.out 2
  have kf : ∀ j, w3.frozen? ⟨w.heap.size + 2, j, none⟩ = false := blk_frozen HKx.out
  have f0 : w3.cell? ⟨r, 0, none⟩ = some (.slice (some ⟨g, 0, none⟩) N cap) := (hb3.cell (p := ⟨r, 0, none⟩) (World.block_lt_of_cell? U _ HCd.out.1.s0)).trans HCd.out.1.s0
  have f3 : w3.cell? ⟨g, k * 8 + 3, none⟩ = some (i64 p.c.rts) := (hb3.cell (p := ⟨g, _, none⟩) (World.block_lt_of_cell? U _ HCd.out.2)).trans HCd.out.2
  have fq : w3.cell? ⟨w.heap.size + 1, 1, none⟩ = some (i64 rights) := (hb3.cell (p := ⟨w.heap.size + 1, 1, none⟩) (World.block_lt_of_cell? U _ HCd.out.1.q1)).trans HCd.out.1.q1
  rw [HXR.out] at f3
  clear hb3 z0 z1 z2 z3 z4 z5 z6 z7 HCd HXR hxr
  rcases envB_iff.1 hcr with rfl | rfl | rfl <;> rcases envB_iff.1 hrr with rfl | rfl | rfl
  all_goals first
    | (exact absurd hgr (by decide))
    | (clear hcr hrr hgr
       go_wp2_with fail
       exact bodyPost_ret (results_one Try.results28 rfl (load75 (set3 HKx.out _ _ _))) rfl ⟨rfl, bel3 HB3.out (by omega) _ _ _⟩)
set_option maxRecDepth 100000 in
set_option maxHeartbeats 3200000 in
theorem rderive_ok {w : World} {base r : Nat} {L : List Rw} (h : Rb w base r L) (hl : L.length ≤ 900) (env sl gn tt rights : Int) (k : Nat) (p : Rw) (hf : fdI L env sl gn = k) (hp : L[k]? = some p) (hrt : rightB ⟨tt, p.c.kind, p.c.num, rights⟩ = true) (hcr : envB p.c.rts = true) (hrr : envB rights = true) (hgr : grB p.c.rts rights = true) (s : Nat) (hs : s < 128) (h0 : atI L (s : Nat) = -1) (hno : ∀ j : Nat, j < s → ∃ k : Nat, atI L (j : Nat) = k) : Calls Try.prog 28 #[pq r, i64 env, .agg #[i64 sl, i64 gn], .agg #[i64 tt, i64 rights]] w fun e w' => e = .returned (.agg #[i64 (s : Nat), i64 ((cnS L (s : Nat) : Int) + 1), i64 0]) ∧ Rb w' base r (L ++ [⟨⟨tt, p.c.kind, p.c.num, rights⟩, s, (cnS L (s : Nat) : Int) + 1, k, true⟩]) ∧ Fr base [30, 66] w w' := by
  have hblo : base ≤ w.heap.size := by have := h.lt; have := h.lo; omega
  obtain ⟨hBV, hK1, hK2, hK3⟩ := three_dr w sl gn tt rights
  obtain ⟨V, hV⟩ : ∃ V, V = dW w sl gn tt rights := ⟨_, rfl⟩
  have HVe : Hid (((w.alloc (.cells #[i64 sl, i64 gn] 51)).alloc (.cells #[i64 tt, i64 rights] 79)).alloc (.cells #[i64 0, i64 0, i64 0] 75) = V) := hV.symm
  rw [← hV] at hBV hK1 hK2 hK3
  have HB := hid hBV
  have HK2 := hid hK2
  have HK3 := hid hK3
  have HR0 := hid h
  have v0 : V.cell? ⟨w.heap.size, 0, none⟩ = some (i64 sl) := blk_cell hK1 0
  have v1 : V.cell? ⟨w.heap.size, 1, none⟩ = some (i64 gn) := blk_cell hK1 1
  have hA := rfind_ok (h.below hBV) (by omega) env sl gn
  rw [hf] at hA
  have HA := hid hA
  have hkL : k < L.length := (List.getElem?_eq_some_iff.1 hp).1
  obtain ⟨ao, cap, hbk, _, hcap, hrow⟩ := (h.below hBV).row
  obtain ⟨g, rfl, _, hgl, _, _, hc⟩ := hrow k p hp
  have HRt := hid hrt
  obtain ⟨xr, hxr⟩ : ∃ xr, xr = p.c.rts := ⟨_, rfl⟩
  rw [← hxr] at hgr hcr
  have HXR : Hid (p.c.rts = xr) := hxr.symm
  have HPut : Hid (∀ W, Rb W base r L → Calls Try.prog 46 #[pq r, rwV ⟨tt, p.c.kind, p.c.num, rights⟩ 0 0 (k : Nat) false] W fun e w' => e = .returned (i64 (L.length : Nat)) ∧ Rb w' base r (L ++ [⟨⟨tt, p.c.kind, p.c.num, rights⟩, s, (cnS L (s : Nat) : Int) + 1, (k : Nat), true⟩]) ∧ Fr base [30, 66] W w') := fun W hW => rput_ok hW hl ⟨tt, p.c.kind, p.c.num, rights⟩ 0 0 (k : Nat) false s hs h0 hno
  have HGot : Hid (∀ W, Rb W base r (L ++ [⟨⟨tt, p.c.kind, p.c.num, rights⟩, s, (cnS L (s : Nat) : Int) + 1, (k : Nat), true⟩]) → Calls Try.prog 45 #[pq r, i64 (L.length : Nat)] W fun e w' => e = .returned (.agg #[i64 (s : Nat), i64 ((cnS L (s : Nat) : Int) + 1), i64 0]) ∧ Below W.heap.size W w') := fun W hW => rgot_ok hW (by simp; omega) L.length ⟨⟨tt, p.c.kind, p.c.num, rights⟩, s, (cnS L (s : Nat) : Int) + 1, (k : Nat), true⟩ (by simp)
  obtain ⟨N, hN⟩ : ∃ N, N = L.length := ⟨_, rfl⟩
  rw [← hN] at hbk hcap hkL
  have hkI : (k : Int) < N := by omega
  have hcI : (N : Int) ≤ cap := by omega
  have hNI : (N : Int) ≤ 1000 := by omega
  have HC : Hid (∀ W, Below V.heap.size V W → SqV r g k (w.heap.size + 1) (.slice (some ⟨g, 0, none⟩) N cap) p tt rights W ∧ W.cell? ⟨g, k * 8 + 3, none⟩ = some (i64 p.c.rts)) := fun W hW => ⟨⟨blk_cell (blk_below hbk hW) 0, (hW.cell (p := ⟨g, _, none⟩) hgl).trans (hc 1 (by omega)), (hW.cell (p := ⟨g, _, none⟩) hgl).trans (hc 2 (by omega)), blk_cell (blk_below HK2.out hW) 0, blk_cell (blk_below HK2.out hW) 1⟩, (hW.cell (p := ⟨g, _, none⟩) hgl).trans (hc 3 (by omega))⟩
  clear hA hf h hV hBV hK1 hK2 hK3 hbk hrow hc hp hN hrt h0 hno
  go_enter Try.func28, Try.ntmps28
  go_upto_region 1 with fail
  rw [HVe.out]
  go_wp2_with fail
  refine HA.out.mono ?_
  rintro e w1 ⟨rfl, hb1⟩
  have HB1 := hid hb1
  have HS : Hid (SqV r g k (w.heap.size + 1) (.slice (some ⟨g, 0, none⟩) N cap) p tt rights w1.drew) := (HC.out w1.drew hb1.drew).1
  clear hb1 v0 v1
  go_upto_region 4 with fail
  refine wp_region_noPanic ?_
  refine wp_region_last (SqV r g k (w.heap.size + 1) (.slice (some ⟨g, 0, none⟩) N cap) p tt rights) 23 (by kernel_rfl) ?_
  refine wpL_take 0 19 (.pointer (some ⟨w.heap.size + 1, 0, none⟩)) [] rfl rfl (by kernel_rfl) (by decide) (by kernel_rfl) (by kernel_rfl) (by kernel_rfl) (fun _ _ _ h => h) HS.out (by rfl) (fun W hW => by obtain ⟨s0, s1, s2, q0, q1⟩ := hW; go_simp) ?_
  simp only [Act.put, List.setIfInBounds_toArray, List.set_cons_zero, List.set_cons_succ]
  refine wpL_take 1 20 (i64 tt) [] rfl rfl (by kernel_rfl) (by decide) (by kernel_rfl) (by kernel_rfl) (by kernel_rfl) (fun _ _ _ h => h) HS.out (by rfl) (fun W hW => by obtain ⟨s0, s1, s2, q0, q1⟩ := hW; go_simp) ?_
  simp only [Act.put, List.setIfInBounds_toArray, List.set_cons_zero, List.set_cons_succ]
  refine wpL_take 2 21 (pq r) [] rfl rfl (by kernel_rfl) (by decide) (by kernel_rfl) (by kernel_rfl) (by kernel_rfl) (fun _ _ _ h => h) HS.out (by rfl) (fun W hW => by obtain ⟨s0, s1, s2, q0, q1⟩ := hW; go_simp) ?_
  simp only [Act.put, List.setIfInBounds_toArray, List.set_cons_zero, List.set_cons_succ]
  refine wpL_take 3 22 (pq r) [] rfl rfl (by kernel_rfl) (by decide) (by kernel_rfl) (by kernel_rfl) (by kernel_rfl) (fun _ _ _ h => h) HS.out (by rfl) (fun W hW => by obtain ⟨s0, s1, s2, q0, q1⟩ := hW; go_simp) ?_
  simp only [Act.put, List.setIfInBounds_toArray, List.set_cons_zero, List.set_cons_succ]
  refine wpL_take 4 23 (pq r) [] rfl rfl (by kernel_rfl) (by decide) (by kernel_rfl) (by kernel_rfl) (by kernel_rfl) (fun _ _ _ h => h) HS.out (by rfl) (fun W hW => by obtain ⟨s0, s1, s2, q0, q1⟩ := hW; go_simp) ?_
  simp only [Act.put, List.setIfInBounds_toArray, List.set_cons_zero, List.set_cons_succ]
  refine wpL_take 5 24 (.slice (some ⟨g, 0, none⟩) N cap) [] rfl rfl (by kernel_rfl) (by decide) (by kernel_rfl) (by kernel_rfl) (by kernel_rfl) (fun _ _ _ h => h) HS.out (by rfl) (fun W hW => by obtain ⟨s0, s1, s2, q0, q1⟩ := hW; go_simp) ?_
  simp only [Act.put, List.setIfInBounds_toArray, List.set_cons_zero, List.set_cons_succ]
  refine wpL_take 6 25 (i64 (k : Nat)) [] rfl rfl (by kernel_rfl) (by decide) (by kernel_rfl) (by kernel_rfl) (by kernel_rfl) (fun _ _ _ h => h) HS.out (by rfl) (fun W hW => by obtain ⟨s0, s1, s2, q0, q1⟩ := hW; go_simp) ?_
  simp only [Act.put, List.setIfInBounds_toArray, List.set_cons_zero, List.set_cons_succ]
  refine wpL_take 7 26 (.pointer (some ⟨g, k * 8, none⟩)) [] rfl rfl (by kernel_rfl) (by decide) (by kernel_rfl) (by kernel_rfl) (by kernel_rfl) (fun _ _ _ h => h) HS.out (by rfl) (fun W hW => by obtain ⟨s0, s1, s2, q0, q1⟩ := hW; go_simp) ?_
  simp only [Act.put, List.setIfInBounds_toArray, List.set_cons_zero, List.set_cons_succ]
  refine wpL_take 8 27 (.pointer (some ⟨g, k * 8 + 1, none⟩)) [] rfl rfl (by kernel_rfl) (by decide) (by kernel_rfl) (by kernel_rfl) (by kernel_rfl) (fun _ _ _ h => h) HS.out (by rfl) (fun W hW => by obtain ⟨s0, s1, s2, q0, q1⟩ := hW; go_simp) ?_
  simp only [Act.put, List.setIfInBounds_toArray, List.set_cons_zero, List.set_cons_succ]
  refine wpL_take 9 28 (i64 p.c.kind) [] rfl rfl (by kernel_rfl) (by decide) (by kernel_rfl) (by kernel_rfl) (by kernel_rfl) (fun _ _ _ h => h) HS.out (by rfl) (fun W hW => by obtain ⟨s0, s1, s2, q0, q1⟩ := hW; go_simp) ?_
  simp only [Act.put, List.setIfInBounds_toArray, List.set_cons_zero, List.set_cons_succ]
  refine wpL_take 10 29 (pq r) [] rfl rfl (by kernel_rfl) (by decide) (by kernel_rfl) (by kernel_rfl) (by kernel_rfl) (fun _ _ _ h => h) HS.out (by rfl) (fun W hW => by obtain ⟨s0, s1, s2, q0, q1⟩ := hW; go_simp) ?_
  simp only [Act.put, List.setIfInBounds_toArray, List.set_cons_zero, List.set_cons_succ]
  refine wpL_take 11 30 (pq r) [] rfl rfl (by kernel_rfl) (by decide) (by kernel_rfl) (by kernel_rfl) (by kernel_rfl) (fun _ _ _ h => h) HS.out (by rfl) (fun W hW => by obtain ⟨s0, s1, s2, q0, q1⟩ := hW; go_simp) ?_
  simp only [Act.put, List.setIfInBounds_toArray, List.set_cons_zero, List.set_cons_succ]
  refine wpL_take 12 31 (pq r) [] rfl rfl (by kernel_rfl) (by decide) (by kernel_rfl) (by kernel_rfl) (by kernel_rfl) (fun _ _ _ h => h) HS.out (by rfl) (fun W hW => by obtain ⟨s0, s1, s2, q0, q1⟩ := hW; go_simp) ?_
  simp only [Act.put, List.setIfInBounds_toArray, List.set_cons_zero, List.set_cons_succ]
  refine wpL_take 13 32 (.slice (some ⟨g, 0, none⟩) N cap) [] rfl rfl (by kernel_rfl) (by decide) (by kernel_rfl) (by kernel_rfl) (by kernel_rfl) (fun _ _ _ h => h) HS.out (by rfl) (fun W hW => by obtain ⟨s0, s1, s2, q0, q1⟩ := hW; go_simp) ?_
  simp only [Act.put, List.setIfInBounds_toArray, List.set_cons_zero, List.set_cons_succ]
  refine wpL_take 14 33 (i64 (k : Nat)) [] rfl rfl (by kernel_rfl) (by decide) (by kernel_rfl) (by kernel_rfl) (by kernel_rfl) (fun _ _ _ h => h) HS.out (by rfl) (fun W hW => by obtain ⟨s0, s1, s2, q0, q1⟩ := hW; go_simp) ?_
  simp only [Act.put, List.setIfInBounds_toArray, List.set_cons_zero, List.set_cons_succ]
  refine wpL_take 15 34 (.pointer (some ⟨g, k * 8, none⟩)) [] rfl rfl (by kernel_rfl) (by decide) (by kernel_rfl) (by kernel_rfl) (by kernel_rfl) (fun _ _ _ h => h) HS.out (by rfl) (fun W hW => by obtain ⟨s0, s1, s2, q0, q1⟩ := hW; go_simp) ?_
  simp only [Act.put, List.setIfInBounds_toArray, List.set_cons_zero, List.set_cons_succ]
  refine wpL_take 16 35 (.pointer (some ⟨g, k * 8 + 2, none⟩)) [] rfl rfl (by kernel_rfl) (by decide) (by kernel_rfl) (by kernel_rfl) (by kernel_rfl) (fun _ _ _ h => h) HS.out (by rfl) (fun W hW => by obtain ⟨s0, s1, s2, q0, q1⟩ := hW; go_simp) ?_
  simp only [Act.put, List.setIfInBounds_toArray, List.set_cons_zero, List.set_cons_succ]
  refine wpL_take 17 36 (i64 p.c.num) [] rfl rfl (by kernel_rfl) (by decide) (by kernel_rfl) (by kernel_rfl) (by kernel_rfl) (fun _ _ _ h => h) HS.out (by rfl) (fun W hW => by obtain ⟨s0, s1, s2, q0, q1⟩ := hW; go_simp) ?_
  simp only [Act.put, List.setIfInBounds_toArray, List.set_cons_zero, List.set_cons_succ]
  refine wpL_take 18 37 (.pointer (some ⟨w.heap.size + 1, 1, none⟩)) [] rfl rfl (by kernel_rfl) (by decide) (by kernel_rfl) (by kernel_rfl) (by kernel_rfl) (fun _ _ _ h => h) HS.out (by rfl) (fun W hW => by obtain ⟨s0, s1, s2, q0, q1⟩ := hW; go_simp) ?_
  simp only [Act.put, List.setIfInBounds_toArray, List.set_cons_zero, List.set_cons_succ]
  refine wpL_take 19 38 (i64 rights) [] rfl rfl (by kernel_rfl) (by decide) (by kernel_rfl) (by kernel_rfl) (by kernel_rfl) (fun _ _ _ h => h) HS.out (by rfl) (fun W hW => by obtain ⟨s0, s1, s2, q0, q1⟩ := hW; go_simp) ?_
  simp only [Act.put, List.setIfInBounds_toArray, List.set_cons_zero, List.set_cons_succ]
  refine wpL_take 20 39 (i64 (k : Nat)) [] rfl rfl (by kernel_rfl) (by decide) (by kernel_rfl) (by kernel_rfl) (by kernel_rfl) (fun _ _ _ h => h) HS.out (by rfl) (fun W hW => by obtain ⟨s0, s1, s2, q0, q1⟩ := hW; go_simp) ?_
  simp only [Act.put, List.setIfInBounds_toArray, List.set_cons_zero, List.set_cons_succ]
  refine wpL_take 21 40 (.agg #[i64 tt, i64 p.c.kind, i64 p.c.num, i64 rights, i64 0, i64 0, i64 (k : Nat), .bool false]) [] rfl rfl (by kernel_rfl) (by decide) (by kernel_rfl) (by kernel_rfl) (by kernel_rfl) (fun _ _ _ h => h) HS.out (by rfl) (fun W hW => by obtain ⟨s0, s1, s2, q0, q1⟩ := hW; go_simp) ?_
  simp only [Act.put, List.setIfInBounds_toArray, List.set_cons_zero, List.set_cons_succ]
  refine wpL_one 22 rfl (by kernel_rfl) (by rfl) (fun K hK => ?_)
  go_simp
  refine hK.out _ _ (fun _ => (HC.out _ (HB1.out.drew.alloc HB1.out.size _)).1) ?_
  clear hK K
  refine wpL_one 23 rfl (by kernel_rfl) (by rfl) (fun K hK => ?_)
  go_simp
  refine hK.out _ _ (fun h => absurd rfl h) ?_
  clear hK K
  refine wpL_done (by kernel_rfl) ?_
  refine NoPanic.normal ?_
  have HBd : Hid (Below w.heap.size w (w1.alloc (rO ⟨⟨tt, p.c.kind, p.c.num, rights⟩, 0, 0, (k : Nat), false⟩)).drew) := Below.drew ((HB.out.trans (HB1.out.mono HB.out.size)).alloc (HB.out.trans (HB1.out.mono HB.out.size)).size _)
  have HCd := hid (HC.out (w1.alloc (rO ⟨⟨tt, p.c.kind, p.c.num, rights⟩, 0, 0, (k : Nat), false⟩)).drew (Below.drew (HB1.out.alloc HB1.out.size _)))
  have HKd : Hid ((w1.alloc (rO ⟨⟨tt, p.c.kind, p.c.num, rights⟩, 0, 0, (k : Nat), false⟩)).drew.heap[w.heap.size + 2]? = some (gO 0 0 0)) := blk_alloc (blk_below HK3.out HB1.out) _
  have HXd : Hid ((w1.alloc (rO ⟨⟨tt, p.c.kind, p.c.num, rights⟩, 0, 0, (k : Nat), false⟩)).drew.heap[w1.heap.size]? = some (rO ⟨⟨tt, p.c.kind, p.c.num, rights⟩, 0, 0, (k : Nat), false⟩)) := heap_last w1 _
  clear HS HC HB1
  unfold rO at HBd HCd HKd HXd
  generalize (w1.alloc (.cells #[i64 tt, i64 p.c.kind, i64 p.c.num, i64 rights, i64 0, i64 0, i64 (k : Nat), .bool false] 66)).drew = U at *
  generalize w1.heap.size = x at *
  have z0 : U.cell? ⟨x, 0, none⟩ = some (i64 tt) := blk_cell HXd.out 0
  have z1 : U.cell? ⟨x, 1, none⟩ = some (i64 p.c.kind) := blk_cell HXd.out 1
  have z2 : U.cell? ⟨x, 2, none⟩ = some (i64 p.c.num) := blk_cell HXd.out 2
  have z3 : U.cell? ⟨x, 3, none⟩ = some (i64 rights) := blk_cell HXd.out 3
  have z4 : U.cell? ⟨x, 4, none⟩ = some (i64 0) := blk_cell HXd.out 4
  have z5 : U.cell? ⟨x, 5, none⟩ = some (i64 0) := blk_cell HXd.out 5
  have z6 : U.cell? ⟨x, 6, none⟩ = some (i64 (k : Nat)) := blk_cell HXd.out 6
  have z7 : U.cell? ⟨x, 7, none⟩ = some (.bool false) := blk_cell HXd.out 7
  go_wp2_with fail
  refine (rright_ok U ⟨tt, p.c.kind, p.c.num, rights⟩ 0 0 (k : Nat) false).mono ?_
  rintro e w3 ⟨rfl, hb3⟩
  rw [HRt.out]
  have HB3 : Hid (Below w.heap.size w w3) := HBd.out.trans (hb3.mono HBd.out.size)
  have HKx : Hid (w3.heap[w.heap.size + 2]? = some (gO 0 0 0)) := blk_below HKd.out hb3
  have f0 : w3.cell? ⟨r, 0, none⟩ = some (.slice (some ⟨g, 0, none⟩) N cap) := (hb3.cell (p := ⟨r, 0, none⟩) (World.block_lt_of_cell? U _ HCd.out.1.s0)).trans HCd.out.1.s0
  have f3 : w3.cell? ⟨g, k * 8 + 3, none⟩ = some (i64 p.c.rts) := (hb3.cell (p := ⟨g, _, none⟩) (World.block_lt_of_cell? U _ HCd.out.2)).trans HCd.out.2
  have fq : w3.cell? ⟨w.heap.size + 1, 1, none⟩ = some (i64 rights) := (hb3.cell (p := ⟨w.heap.size + 1, 1, none⟩) (World.block_lt_of_cell? U _ HCd.out.1.q1)).trans HCd.out.1.q1
  rw [HXR.out] at f3
  have HXe := hid (blk_below HXd.out hb3)
  clear hb3 z0 z1 z2 z3 z4 z5 z6 z7 HCd HXR hxr
  rcases envB_iff.1 hcr with rfl | rfl | rfl <;> rcases envB_iff.1 hrr with rfl | rfl | rfl
  all_goals first
    | (exact absurd hgr (by decide))
    | (clear hcr hrr hgr
       go_upto_region 10 with fail
       have z0 : w3.cell? ⟨x, 0, none⟩ = some (i64 tt) := blk_cell HXe.out 0
       have z1 : w3.cell? ⟨x, 1, none⟩ = some (i64 p.c.kind) := blk_cell HXe.out 1
       have z2 : w3.cell? ⟨x, 2, none⟩ = some (i64 p.c.num) := blk_cell HXe.out 2
       have z3 : w3.cell? ⟨x, 3, none⟩ = some _ := blk_cell HXe.out 3
       have z4 : w3.cell? ⟨x, 4, none⟩ = some (i64 0) := blk_cell HXe.out 4
       have z5 : w3.cell? ⟨x, 5, none⟩ = some (i64 0) := blk_cell HXe.out 5
       have z6 : w3.cell? ⟨x, 6, none⟩ = some (i64 (k : Nat)) := blk_cell HXe.out 6
       have z7 : w3.cell? ⟨x, 7, none⟩ = some (.bool false) := blk_cell HXe.out 7
       go_wp2_with fail
       refine (HPut.out w3 (HR0.out.below HB3.out)).mono ?_
       clear z0 z1 z2 z3 z4 z5 z6 z7
       rintro e w4 ⟨rfl, hr4, hf4⟩
       have HR4 := hid hr4
       have HF4 : Hid (Fr base [30, 66] w w4) := (Fr.of_below _ HB3.out hblo).trans hf4
       have HK4 : Hid (w4.heap[w.heap.size + 2]? = some (gO 0 0 0)) := hf4.kept _ _ HKx.out (by rfl)
       clear hr4 hf4 f0 f3 fq
       go_wp2_with fail
       refine (HGot.out w4 HR4.out).mono ?_
       rintro e w5 ⟨rfl, hb5⟩
       have HR5 := hid (HR4.out.below hb5)
       have HK5 : Hid (w5.heap[w.heap.size + 2]? = some (gO 0 0 0)) := blk_below HK4.out hb5
       have HF5 : Hid (Fr base [30, 66] w w5) := HF4.out.trans (Fr.of_below _ hb5 (Nat.le_trans hblo HF4.out.size))
       have k0 : w5.cell? ⟨w.heap.size + 2, 0, none⟩ = some (i64 0) := blk_cell HK5.out 0
       have k1 : w5.cell? ⟨w.heap.size + 2, 1, none⟩ = some (i64 0) := blk_cell HK5.out 1
       have k2 : w5.cell? ⟨w.heap.size + 2, 2, none⟩ = some (i64 0) := blk_cell HK5.out 2
       have kf : ∀ j, w5.frozen? ⟨w.heap.size + 2, j, none⟩ = false := blk_frozen HK5.out
       clear hb5
       go_wp2_with fail
       exact bodyPost_ret (results_one Try.results28 rfl (load75 (set3 HK5.out _ _ _))) rfl ⟨rfl, HR5.out.set_new HK5.out (fun C => ⟨by simp, by simp⟩) _ _ _, HF5.out.set3n (by omega) hblo _ _ _⟩)
end Go.Proofs.Ytcffodkpflfeoaa
