/- ipc.Clear, Receive: contracts; no statement is proved in this text. -/
import Derived.Test.YtmijjgpelihhnaaCut
namespace Go.Proofs.Ytmijjgpelihhnaa
open Go.ChangeShapes Go.WideShapes Go.ChangeAt Go.RowKit Go.Deep
attribute [local go_sem ↓] Go.wp_at_zero Go.wp_at_succ

theorem Tq.mono {b b' q : Nat} {w w' : World} (h : Tq b q w w') (hb : b' ≤ b) : Tq b' q w w' := ⟨h.os, h.tape, h.output, h.size, fun k hk => h.block k (by omega)⟩
theorem Tq.low {b q base : Nat} {w w' : World} (h : Tq b q w w') (h1 : base ≤ b) (h2 : base ≤ q) : Below base w w' := ⟨h.os, h.tape, h.output, h.size, fun k hk => h.block k (by omega) (by omega)⟩
theorem Far.pt {w w' : World} {base P : Nat} {S : Nat → List Ms} (h : Far w w' base P S) : Pt w' base P S := h w' (fun _ _ => rfl) rfl
set_option maxRecDepth 100000 in
set_option maxHeartbeats 1600000 in
theorem clear_nil (w : World) (n : Int) : Calls Try.prog 13 #[.pointer none, i64 n] w fun e w' => e = .returned (i64 0) ∧ Below w.heap.size w w' := by
  have HB0 : Hid (Below w.heap.size w (w.alloc (.cells #[i64 n] 3))) := below_one w _
  have HC : Hid (∀ W v, Calls Try.prog 19 #[.pointer none, v] W fun e w' => e = .returned (i64 0) ∧ w' = W) := fun W v => cut_nil W v
  go_enter Try.func13, Try.ntmps13
  go_wp2_with fail
  refine (HC.out _ _).mono ?_
  rintro e w1 ⟨rfl, hv⟩
  subst hv
  go_wp2_with fail
  go_ret
  exact ⟨rfl, HB0.out⟩
set_option maxRecDepth 100000 in
set_option maxHeartbeats 1600000 in
theorem clear_ok {w : World} {base P : Nat} {Q : Nat → List Ms} (h : Pt w base P Q) (n : Int) : Calls Try.prog 13 #[pq P, i64 n] w fun e w' => e = .returned (i64 (gc Q (cutQ21 n Q) 3)) ∧ Pt w' base P (cutQ21 n Q) ∧ Below base w w' := by
  have hb0 := below_one w (.cells #[i64 n] 3)
  have HC := hid (cut21 (h.below hb0) w.heap.size n (heap_last w _))
  have HB0 := hid hb0
  have hPl := h.lt
  have hlo := h.lo
  obtain ⟨G, hG⟩ : ∃ G, G = gc Q (cutQ21 n Q) 3 := ⟨_, rfl⟩
  rw [← hG] at HC ⊢
  clear h hb0 hG
  go_enter Try.func13, Try.ntmps13
  go_wp2_with fail
  refine HC.out.mono ?_
  rintro e w1 ⟨rfl, hf, htq⟩
  have HF : Hid (Pt w1 base P (cutQ21 n Q) ∧ Below base w w1) := ⟨hf.pt, (HB0.out.mono (by omega)).trans (htq.low (by have := HB0.out.size; omega) hlo)⟩
  clear hf htq
  go_wp2_with fail
  go_ret
  exact ⟨rfl, HF.out⟩
theorem bel2 {w V : World} {B b : Nat} (h : Below B w V) (hb : B ≤ b) (s g : Value) : Below B w ((V.setCell ⟨b, 0, none⟩ s).setCell ⟨b, 1, none⟩ g) := (h.setCell hb _).setCell hb _
theorem two_em (w : World) (n : Int) : Below w.heap.size w ((w.alloc (.cells #[i64 n] 3)).alloc (msO (0, 0))) ∧ ((w.alloc (.cells #[i64 n] 3)).alloc (msO (0, 0))).heap[w.heap.size]? = some (.cells #[i64 n] 3) ∧ ((w.alloc (.cells #[i64 n] 3)).alloc (msO (0, 0))).heap[w.heap.size + 1]? = some (msO (0, 0)) ∧ ((w.alloc (.cells #[i64 n] 3)).alloc (msO (0, 0))).heap.size = w.heap.size + 2 := by
  refine ⟨(below_one w _).trans ((below_one _ _).mono (by simp)), blk_alloc (heap_last w _) _, ?_, by simp⟩
  have := heap_last (w.alloc (.cells #[i64 n] 3)) (msO (0, 0))
  rwa [show (w.alloc (.cells #[i64 n] 3)).heap.size = w.heap.size + 1 by simp] at this
set_option maxRecDepth 100000 in
set_option maxHeartbeats 1600000 in
theorem recv_arg (w : World) (v0 : Value) (n : Int) (hn : envB n = false) : Calls Try.prog 11 #[v0, i64 n] w fun e w' => e = .returned (.tuple #[msV (0, 0), i64 1]) ∧ Below w.heap.size w w' := by
  obtain ⟨hBV, hK1, hK2, hsz⟩ := two_em w n
  obtain ⟨V, hV⟩ : ∃ V, V = (w.alloc (.cells #[i64 n] 3)).alloc (msO (0, 0)) := ⟨_, rfl⟩
  have HVe : Hid ((w.alloc (.cells #[i64 n] 3)).alloc (.cells #[i64 0, u16v 0] 39) = V) := hV.symm
  rw [← hV] at hBV hK1 hK2 hsz
  have HB := hid hBV
  have HK1 := hid hK1
  have HK2 := hid hK2
  have x0 : V.cell? ⟨w.heap.size, 0, none⟩ = some (i64 n) := blk_cell hK1 0
  have k0 : V.cell? ⟨w.heap.size + 1, 0, none⟩ = some (i64 0) := blk_cell hK2 0
  have k1 : V.cell? ⟨w.heap.size + 1, 1, none⟩ = some (u16v 0) := blk_cell hK2 1
  have kf : ∀ j, V.frozen? ⟨w.heap.size + 1, j, none⟩ = false := blk_frozen hK2
  have HE := isEnv_ok V n
  rw [hn] at HE
  have HE := hid HE
  clear hV hBV hK1 hK2 hn
  go_enter Try.func11, Try.ntmps11
  go_upto_region 1 with fail
  rw [HVe.out]
  go_wp2_with fail
  refine HE.out.mono ?_
  rintro e v1 ⟨rfl, hv⟩
  replace hv := hv.symm
  subst hv
  go_wp2_with fail
  exact bodyPost_ret (results_cell Try.results11 rfl rfl (load39 (m := (0, 0)) (set2 HK2.out _ _))) rfl ⟨rfl, bel2 HB.out (by omega) _ _⟩
set_option maxRecDepth 100000 in
set_option maxHeartbeats 1600000 in
theorem recv_none (w : World) (v0 : Value) (n : Int) (hn : envB n = true) (hw : ∀ W, Below w.heap.size w W → Calls Try.prog 15 #[v0, i64 n] W fun e w' => e = .returned (i64 0) ∧ w' = W) : Calls Try.prog 11 #[v0, i64 n] w fun e w' => e = .returned (.tuple #[msV (0, 0), i64 6]) ∧ Below w.heap.size w w' := by
  obtain ⟨hBV, hK1, hK2, hsz⟩ := two_em w n
  obtain ⟨V, hV⟩ : ∃ V, V = (w.alloc (.cells #[i64 n] 3)).alloc (msO (0, 0)) := ⟨_, rfl⟩
  have HVe : Hid ((w.alloc (.cells #[i64 n] 3)).alloc (.cells #[i64 0, u16v 0] 39) = V) := hV.symm
  rw [← hV] at hBV hK1 hK2 hsz
  have HB := hid hBV
  have HK1 := hid hK1
  have HK2 := hid hK2
  have x0 : V.cell? ⟨w.heap.size, 0, none⟩ = some (i64 n) := blk_cell hK1 0
  have k0 : V.cell? ⟨w.heap.size + 1, 0, none⟩ = some (i64 0) := blk_cell hK2 0
  have k1 : V.cell? ⟨w.heap.size + 1, 1, none⟩ = some (u16v 0) := blk_cell hK2 1
  have kf : ∀ j, V.frozen? ⟨w.heap.size + 1, j, none⟩ = false := blk_frozen hK2
  have HE := isEnv_ok V n
  rw [hn] at HE
  have HE := hid HE
  have HW := hid (hw V hBV)
  clear hV hBV hK1 hK2 hn hw
  go_enter Try.func11, Try.ntmps11
  go_upto_region 1 with fail
  rw [HVe.out]
  go_wp2_with fail
  refine HE.out.mono ?_
  rintro e v1 ⟨rfl, hv⟩
  replace hv := hv.symm
  subst hv
  go_wp2_with fail
  refine HW.out.mono ?_
  rintro e v1 ⟨rfl, hv⟩
  replace hv := hv.symm
  subst hv
  go_wp2_with fail
  exact bodyPost_ret (results_cell Try.results11 rfl rfl (load39 (m := (0, 0)) (set2 HK2.out _ _))) rfl ⟨rfl, bel2 HB.out (by omega) _ _⟩
structure SqV (X P i g : Nat) (n : Int) (v : Value) (f d : Int) (W : World) : Prop where
  x : W.cell? ⟨X, 0, none⟩ = some (i64 n)
  p : W.cell? ⟨P, i, none⟩ = some v
  g0 : W.cell? ⟨g, 0, none⟩ = some (i64 f)
  g1 : W.cell? ⟨g, 1, none⟩ = some (u16v d)
set_option maxRecDepth 100000 in
set_option maxHeartbeats 3200000 in
theorem recv0 {w : World} {base P : Nat} {Q : Nat → List Ms} (h : Pt w base P Q) (f d : Int) (r : List Ms) (hq : Q 0 = (f, d) :: r) : Calls Try.prog 11 #[pq P, i64 1] w fun e w' => e = .returned (.tuple #[msV (f, d), i64 0]) ∧ Pt w' base P (cutQ20 1 Q) ∧ Below base w w' := by
  have hPl := h.lt
  have hlo := h.lo
  obtain ⟨n, hn⟩ : ∃ n : Int, n = 1 := ⟨_, rfl⟩
  obtain ⟨hBV, hK1, hK2, hsz⟩ := two_em w n
  obtain ⟨V, hV⟩ : ∃ V, V = (w.alloc (.cells #[i64 n] 3)).alloc (msO (0, 0)) := ⟨_, rfl⟩
  have HVe : Hid ((w.alloc (.cells #[i64 n] 3)).alloc (.cells #[i64 0, u16v 0] 39) = V) := hV.symm
  rw [← hV] at hBV hK1 hK2 hsz
  have HB := hid hBV
  have HK1 := hid hK1
  have HK2 := hid hK2
  have x0 : V.cell? ⟨w.heap.size, 0, none⟩ = some (i64 n) := blk_cell hK1 0
  have k0 : V.cell? ⟨w.heap.size + 1, 0, none⟩ = some (i64 0) := blk_cell hK2 0
  have k1 : V.cell? ⟨w.heap.size + 1, 1, none⟩ = some (u16v 0) := blk_cell hK2 1
  have kf : ∀ j, V.frozen? ⟨w.heap.size + 1, j, none⟩ = false := blk_frozen hK2
  rw [hn] at x0 hK1
  have hpt := h.below hBV
  have HE := isEnv_ok V 1
  rw [show envB 1 = true by decide] at HE
  have HE := hid HE
  have HW := hid (waits0 hpt)
  obtain ⟨a0, a1, a2, hP, hO⟩ := hpt.blk
  have hrow := hO.o0
  have hll := hpt.le 0
  obtain ⟨N, hN⟩ : ∃ N, N = (Q 0).length := ⟨_, rfl⟩
  rw [← hN] at hrow HW hll
  have hN0 : 0 < N := by rw [hN, hq]; simp
  rcases hrow.2 with ⟨_, hnil⟩ | ⟨g, cap, cur, hv, hbg, hgg, _⟩
  · exfalso; omega
  subst hv
  have c0 : V.cell? ⟨g, 0, none⟩ = some (i64 f) := by rw [hrow.cellAt 0 (by omega), hq]; rfl
  have c1 : V.cell? ⟨g, 1, none⟩ = some (u16v d) := by rw [hrow.cellAt 1 (by omega), hq]; rfl
  have HS : Hid (SqV w.heap.size P 0 g 1 (.slice (some ⟨g, 0, none⟩) N cap) f d V.drew) := ⟨x0, blk_cell hP 0, c0, c1⟩
  have HPU : Hid (Pt (V.alloc (msO (f, d))).drew base P Q) := by
    obtain ⟨q0, q1, q2⟩ := hpt.below (below_one V (msO (f, d)))
    exact ⟨q0, q1, by obtain ⟨b0, b1, b2, h1, h2⟩ := q2; exact ⟨b0, b1, b2, h1, h2.o0, h2.o1, h2.o2, h2.d01, h2.d02, h2.d12⟩⟩
  have HC := hid (cut20 HPU.out w.heap.size 1 (blk_alloc hK1 _))
  have hNI : (N : Int) ≤ 4 := by omega
  have hNI0 : (0 : Int) < N := by omega
  have hNe : ((N : Int) == 0) = false := by simp; omega
  have hXV : w.heap.size < V.heap.size := by omega
  have hPV : P < V.heap.size := by omega
  have hgV : g < V.heap.size := blk_lt hgg
  obtain rfl := hn
  clear hV hBV hK1 hK2 hpt hP hO hrow hN hbg hgg c0 c1 hq h
  go_enter Try.func11, Try.ntmps11
  go_upto_region 1 with fail
  rw [HVe.out]
  go_wp2_with fail
  refine HE.out.mono ?_
  rintro e v1 ⟨rfl, hv⟩
  replace hv := hv.symm
  subst hv
  go_wp2_with fail
  refine HW.out.mono ?_
  rintro e v1 ⟨rfl, hv⟩
  replace hv := hv.symm
  subst hv
  go_upto_region 5 with fail
  refine wp_region_noPanic ?_
  refine wp_region_last (SqV w.heap.size P 0 g 1 (.slice (some ⟨g, 0, none⟩) N cap) f d) 10 (by kernel_rfl) ?_
  refine wpL_take 0 16 (pq P) [] rfl rfl (by kernel_rfl) (by decide) (by kernel_rfl) (by kernel_rfl) (by kernel_rfl) (fun _ _ _ h => h) HS.out (by rfl) (fun W hW => by obtain ⟨x0, p0, g0, g1⟩ := hW; go_simp) ?_
  simp only [Act.put, List.setIfInBounds_toArray, List.set_cons_zero, List.set_cons_succ]
  refine wpL_take 1 17 (i64 1) [] rfl rfl (by kernel_rfl) (by decide) (by kernel_rfl) (by kernel_rfl) (by kernel_rfl) (fun _ _ _ h => h) HS.out (by rfl) (fun W hW => by obtain ⟨x0, p0, g0, g1⟩ := hW; go_simp) ?_
  simp only [Act.put, List.setIfInBounds_toArray, List.set_cons_zero, List.set_cons_succ]
  refine wpL_take 2 18 (i64 0) [] rfl rfl (by kernel_rfl) (by decide) (by kernel_rfl) (by kernel_rfl) (by kernel_rfl) (fun _ _ _ h => h) HS.out (by rfl) (fun W hW => by obtain ⟨x0, p0, g0, g1⟩ := hW; go_simp; rfl) ?_
  simp only [Act.put, List.setIfInBounds_toArray, List.set_cons_zero, List.set_cons_succ]
  refine wpL_take 3 19 (pq P) [] rfl rfl (by kernel_rfl) (by decide) (by kernel_rfl) (by kernel_rfl) (by kernel_rfl) (fun _ _ _ h => h) HS.out (by rfl) (fun W hW => by obtain ⟨x0, p0, g0, g1⟩ := hW; go_simp) ?_
  simp only [Act.put, List.setIfInBounds_toArray, List.set_cons_zero, List.set_cons_succ]
  refine wpL_take 4 20 (pq P) [] rfl rfl (by kernel_rfl) (by decide) (by kernel_rfl) (by kernel_rfl) (by kernel_rfl) (fun _ _ _ h => h) HS.out (by rfl) (fun W hW => by obtain ⟨x0, p0, g0, g1⟩ := hW; go_simp) ?_
  simp only [Act.put, List.setIfInBounds_toArray, List.set_cons_zero, List.set_cons_succ]
  refine wpL_take 5 21 (.pointer (some ⟨P, 0, none⟩)) [] rfl rfl (by kernel_rfl) (by decide) (by kernel_rfl) (by kernel_rfl) (by kernel_rfl) (fun _ _ _ h => h) HS.out (by rfl) (fun W hW => by obtain ⟨x0, p0, g0, g1⟩ := hW; go_simp) ?_
  simp only [Act.put, List.setIfInBounds_toArray, List.set_cons_zero, List.set_cons_succ]
  refine wpL_take 6 22 (.slice (some ⟨g, 0, none⟩) N cap) [] rfl rfl (by kernel_rfl) (by decide) (by kernel_rfl) (by kernel_rfl) (by kernel_rfl) (fun _ _ _ h => h) HS.out (by rfl) (fun W hW => by obtain ⟨x0, p0, g0, g1⟩ := hW; go_simp) ?_
  simp only [Act.put, List.setIfInBounds_toArray, List.set_cons_zero, List.set_cons_succ]
  refine wpL_take 7 23 (pq g) [] rfl rfl (by kernel_rfl) (by decide) (by kernel_rfl) (by kernel_rfl) (by kernel_rfl) (fun _ _ _ h => h) HS.out (by rfl) (fun W hW => by obtain ⟨x0, p0, g0, g1⟩ := hW; go_simp) ?_
  simp only [Act.put, List.setIfInBounds_toArray, List.set_cons_zero, List.set_cons_succ]
  refine wpL_take 8 24 (.agg #[i64 f, u16v d]) [] rfl rfl (by kernel_rfl) (by decide) (by kernel_rfl) (by kernel_rfl) (by kernel_rfl) (fun _ _ _ h => h) HS.out (by rfl) (fun W hW => by obtain ⟨x0, p0, g0, g1⟩ := hW; go_simp) ?_
  simp only [Act.put, List.setIfInBounds_toArray, List.set_cons_zero, List.set_cons_succ]
  refine wpL_one 9 rfl (by kernel_rfl) (by rfl) (fun K hK => ?_)
  go_simp
  refine hK.out _ _ (fun _ => ⟨cell_keep (w := V) HS.out.x _, cell_keep (w := V) HS.out.p _, cell_keep (w := V) HS.out.g0 _, cell_keep (w := V) HS.out.g1 _⟩) ?_
  clear hK K
  refine wpL_one 10 rfl (by kernel_rfl) (by rfl) (fun K hK => ?_)
  go_simp
  refine hK.out _ _ (fun h => absurd rfl h) ?_
  clear hK K
  refine wpL_done (by kernel_rfl) ?_
  refine NoPanic.normal ?_
  have HU1 : Hid ((V.alloc (msO (f, d))).drew.heap[w.heap.size + 2]? = some (msO (f, d))) := by rw [← hsz]; exact heap_last V _
  have HU2 : Hid ((V.alloc (msO (f, d))).drew.heap[w.heap.size + 1]? = some (msO (0, 0))) := blk_alloc HK2.out _
  have HUs : Hid ((V.alloc (msO (f, d))).drew.heap.size = w.heap.size + 3) := by show (V.alloc (msO (f, d))).heap.size = _; simp [hsz]
  have HUb : Hid (Below w.heap.size w (V.alloc (msO (f, d))).drew) := (HB.out.alloc HB.out.size _).drew
  go_wp2_with fail
  refine HC.out.mono ?_
  rintro e w5 ⟨rfl, hf, htq⟩
  rw [HUs.out] at htq
  have e1 : w5.heap[w.heap.size + 2]? = some (msO (f, d)) := (htq.block _ (by omega) (by omega)).trans HU1.out
  have e2 : w5.heap[w.heap.size + 1]? = some (msO (0, 0)) := (htq.block _ (by omega) (by omega)).trans HU2.out
  have y0 : w5.cell? ⟨w.heap.size + 2, 0, none⟩ = some (i64 f) := blk_cell e1 0
  have y1 : w5.cell? ⟨w.heap.size + 2, 1, none⟩ = some (u16v d) := blk_cell e1 1
  have z0 : w5.cell? ⟨w.heap.size + 1, 0, none⟩ = some (i64 0) := blk_cell e2 0
  have z1 : w5.cell? ⟨w.heap.size + 1, 1, none⟩ = some (u16v 0) := blk_cell e2 1
  have zf : ∀ j, w5.frozen? ⟨w.heap.size + 1, j, none⟩ = false := blk_frozen e2
  have HE2 := hid e2
  have HF : Hid (Pt ((w5.setCell ⟨w.heap.size + 1, 0, none⟩ (i64 f)).setCell ⟨w.heap.size + 1, 1, none⟩ (u16v d)) base P (cutQ20 1 Q) ∧ Below base w ((w5.setCell ⟨w.heap.size + 1, 0, none⟩ (i64 f)).setCell ⟨w.heap.size + 1, 1, none⟩ (u16v d))) := by
    refine ⟨hf _ (fun k hk => ?_) ?_, bel2 ((HUb.out.mono (by omega)).trans (htq.low (by omega) hlo)) (by omega) _ _⟩
    · rw [HUs.out] at hk
      rw [Below.heap_setCell _ _ _ _ (by show k ≠ w.heap.size + 1; omega), Below.heap_setCell _ _ _ _ (by show k ≠ w.heap.size + 1; omega)]
    · rw [Below.heap_setCell _ _ _ _ (by show P ≠ w.heap.size + 1; omega), Below.heap_setCell _ _ _ _ (by show P ≠ w.heap.size + 1; omega)]
  clear hf htq e1 e2
  generalize gc Q (cutQ20 1 Q) 3 = G at *
  go_wp2_with fail
  exact bodyPost_ret (results_cell Try.results11 rfl rfl (load39 (m := (f, d)) (set2 HE2.out _ _))) rfl ⟨rfl, HF.out⟩
set_option maxRecDepth 100000 in
set_option maxHeartbeats 3200000 in
theorem recv1 {w : World} {base P : Nat} {Q : Nat → List Ms} (h : Pt w base P Q) (f d : Int) (r : List Ms) (hq : Q 1 = (f, d) :: r) : Calls Try.prog 11 #[pq P, i64 2] w fun e w' => e = .returned (.tuple #[msV (f, d), i64 0]) ∧ Pt w' base P (cutQ20 2 Q) ∧ Below base w w' := by
  have hPl := h.lt
  have hlo := h.lo
  obtain ⟨n, hn⟩ : ∃ n : Int, n = 2 := ⟨_, rfl⟩
  obtain ⟨hBV, hK1, hK2, hsz⟩ := two_em w n
  obtain ⟨V, hV⟩ : ∃ V, V = (w.alloc (.cells #[i64 n] 3)).alloc (msO (0, 0)) := ⟨_, rfl⟩
  have HVe : Hid ((w.alloc (.cells #[i64 n] 3)).alloc (.cells #[i64 0, u16v 0] 39) = V) := hV.symm
  rw [← hV] at hBV hK1 hK2 hsz
  have HB := hid hBV
  have HK1 := hid hK1
  have HK2 := hid hK2
  have x0 : V.cell? ⟨w.heap.size, 0, none⟩ = some (i64 n) := blk_cell hK1 0
  have k0 : V.cell? ⟨w.heap.size + 1, 0, none⟩ = some (i64 0) := blk_cell hK2 0
  have k1 : V.cell? ⟨w.heap.size + 1, 1, none⟩ = some (u16v 0) := blk_cell hK2 1
  have kf : ∀ j, V.frozen? ⟨w.heap.size + 1, j, none⟩ = false := blk_frozen hK2
  rw [hn] at x0 hK1
  have hpt := h.below hBV
  have HE := isEnv_ok V 2
  rw [show envB 2 = true by decide] at HE
  have HE := hid HE
  have HW := hid (waits1 hpt)
  obtain ⟨a0, a1, a2, hP, hO⟩ := hpt.blk
  have hrow := hO.o1
  have hll := hpt.le 1
  obtain ⟨N, hN⟩ : ∃ N, N = (Q 1).length := ⟨_, rfl⟩
  rw [← hN] at hrow HW hll
  have hN0 : 0 < N := by rw [hN, hq]; simp
  rcases hrow.2 with ⟨_, hnil⟩ | ⟨g, cap, cur, hv, hbg, hgg, _⟩
  · exfalso; omega
  subst hv
  have c0 : V.cell? ⟨g, 0, none⟩ = some (i64 f) := by rw [hrow.cellAt 0 (by omega), hq]; rfl
  have c1 : V.cell? ⟨g, 1, none⟩ = some (u16v d) := by rw [hrow.cellAt 1 (by omega), hq]; rfl
  have HS : Hid (SqV w.heap.size P 1 g 2 (.slice (some ⟨g, 0, none⟩) N cap) f d V.drew) := ⟨x0, blk_cell hP 1, c0, c1⟩
  have HPU : Hid (Pt (V.alloc (msO (f, d))).drew base P Q) := by
    obtain ⟨q0, q1, q2⟩ := hpt.below (below_one V (msO (f, d)))
    exact ⟨q0, q1, by obtain ⟨b0, b1, b2, h1, h2⟩ := q2; exact ⟨b0, b1, b2, h1, h2.o0, h2.o1, h2.o2, h2.d01, h2.d02, h2.d12⟩⟩
  have HC := hid (cut20 HPU.out w.heap.size 2 (blk_alloc hK1 _))
  have hNI : (N : Int) ≤ 4 := by omega
  have hNI0 : (0 : Int) < N := by omega
  have hNe : ((N : Int) == 0) = false := by simp; omega
  have hXV : w.heap.size < V.heap.size := by omega
  have hPV : P < V.heap.size := by omega
  have hgV : g < V.heap.size := blk_lt hgg
  obtain rfl := hn
  clear hV hBV hK1 hK2 hpt hP hO hrow hN hbg hgg c0 c1 hq h
  go_enter Try.func11, Try.ntmps11
  go_upto_region 1 with fail
  rw [HVe.out]
  go_wp2_with fail
  refine HE.out.mono ?_
  rintro e v1 ⟨rfl, hv⟩
  replace hv := hv.symm
  subst hv
  go_wp2_with fail
  refine HW.out.mono ?_
  rintro e v1 ⟨rfl, hv⟩
  replace hv := hv.symm
  subst hv
  go_upto_region 5 with fail
  refine wp_region_noPanic ?_
  refine wp_region_last (SqV w.heap.size P 1 g 2 (.slice (some ⟨g, 0, none⟩) N cap) f d) 10 (by kernel_rfl) ?_
  refine wpL_take 0 16 (pq P) [] rfl rfl (by kernel_rfl) (by decide) (by kernel_rfl) (by kernel_rfl) (by kernel_rfl) (fun _ _ _ h => h) HS.out (by rfl) (fun W hW => by obtain ⟨x0, p0, g0, g1⟩ := hW; go_simp) ?_
  simp only [Act.put, List.setIfInBounds_toArray, List.set_cons_zero, List.set_cons_succ]
  refine wpL_take 1 17 (i64 2) [] rfl rfl (by kernel_rfl) (by decide) (by kernel_rfl) (by kernel_rfl) (by kernel_rfl) (fun _ _ _ h => h) HS.out (by rfl) (fun W hW => by obtain ⟨x0, p0, g0, g1⟩ := hW; go_simp) ?_
  simp only [Act.put, List.setIfInBounds_toArray, List.set_cons_zero, List.set_cons_succ]
  refine wpL_take 2 18 (i64 1) [] rfl rfl (by kernel_rfl) (by decide) (by kernel_rfl) (by kernel_rfl) (by kernel_rfl) (fun _ _ _ h => h) HS.out (by rfl) (fun W hW => by obtain ⟨x0, p0, g0, g1⟩ := hW; go_simp; rfl) ?_
  simp only [Act.put, List.setIfInBounds_toArray, List.set_cons_zero, List.set_cons_succ]
  refine wpL_take 3 19 (pq P) [] rfl rfl (by kernel_rfl) (by decide) (by kernel_rfl) (by kernel_rfl) (by kernel_rfl) (fun _ _ _ h => h) HS.out (by rfl) (fun W hW => by obtain ⟨x0, p0, g0, g1⟩ := hW; go_simp) ?_
  simp only [Act.put, List.setIfInBounds_toArray, List.set_cons_zero, List.set_cons_succ]
  refine wpL_take 4 20 (pq P) [] rfl rfl (by kernel_rfl) (by decide) (by kernel_rfl) (by kernel_rfl) (by kernel_rfl) (fun _ _ _ h => h) HS.out (by rfl) (fun W hW => by obtain ⟨x0, p0, g0, g1⟩ := hW; go_simp) ?_
  simp only [Act.put, List.setIfInBounds_toArray, List.set_cons_zero, List.set_cons_succ]
  refine wpL_take 5 21 (.pointer (some ⟨P, 1, none⟩)) [] rfl rfl (by kernel_rfl) (by decide) (by kernel_rfl) (by kernel_rfl) (by kernel_rfl) (fun _ _ _ h => h) HS.out (by rfl) (fun W hW => by obtain ⟨x0, p0, g0, g1⟩ := hW; go_simp) ?_
  simp only [Act.put, List.setIfInBounds_toArray, List.set_cons_zero, List.set_cons_succ]
  refine wpL_take 6 22 (.slice (some ⟨g, 0, none⟩) N cap) [] rfl rfl (by kernel_rfl) (by decide) (by kernel_rfl) (by kernel_rfl) (by kernel_rfl) (fun _ _ _ h => h) HS.out (by rfl) (fun W hW => by obtain ⟨x0, p0, g0, g1⟩ := hW; go_simp) ?_
  simp only [Act.put, List.setIfInBounds_toArray, List.set_cons_zero, List.set_cons_succ]
  refine wpL_take 7 23 (pq g) [] rfl rfl (by kernel_rfl) (by decide) (by kernel_rfl) (by kernel_rfl) (by kernel_rfl) (fun _ _ _ h => h) HS.out (by rfl) (fun W hW => by obtain ⟨x0, p0, g0, g1⟩ := hW; go_simp) ?_
  simp only [Act.put, List.setIfInBounds_toArray, List.set_cons_zero, List.set_cons_succ]
  refine wpL_take 8 24 (.agg #[i64 f, u16v d]) [] rfl rfl (by kernel_rfl) (by decide) (by kernel_rfl) (by kernel_rfl) (by kernel_rfl) (fun _ _ _ h => h) HS.out (by rfl) (fun W hW => by obtain ⟨x0, p0, g0, g1⟩ := hW; go_simp) ?_
  simp only [Act.put, List.setIfInBounds_toArray, List.set_cons_zero, List.set_cons_succ]
  refine wpL_one 9 rfl (by kernel_rfl) (by rfl) (fun K hK => ?_)
  go_simp
  refine hK.out _ _ (fun _ => ⟨cell_keep (w := V) HS.out.x _, cell_keep (w := V) HS.out.p _, cell_keep (w := V) HS.out.g0 _, cell_keep (w := V) HS.out.g1 _⟩) ?_
  clear hK K
  refine wpL_one 10 rfl (by kernel_rfl) (by rfl) (fun K hK => ?_)
  go_simp
  refine hK.out _ _ (fun h => absurd rfl h) ?_
  clear hK K
  refine wpL_done (by kernel_rfl) ?_
  refine NoPanic.normal ?_
  have HU1 : Hid ((V.alloc (msO (f, d))).drew.heap[w.heap.size + 2]? = some (msO (f, d))) := by rw [← hsz]; exact heap_last V _
  have HU2 : Hid ((V.alloc (msO (f, d))).drew.heap[w.heap.size + 1]? = some (msO (0, 0))) := blk_alloc HK2.out _
  have HUs : Hid ((V.alloc (msO (f, d))).drew.heap.size = w.heap.size + 3) := by show (V.alloc (msO (f, d))).heap.size = _; simp [hsz]
  have HUb : Hid (Below w.heap.size w (V.alloc (msO (f, d))).drew) := (HB.out.alloc HB.out.size _).drew
  go_wp2_with fail
  refine HC.out.mono ?_
  rintro e w5 ⟨rfl, hf, htq⟩
  rw [HUs.out] at htq
  have e1 : w5.heap[w.heap.size + 2]? = some (msO (f, d)) := (htq.block _ (by omega) (by omega)).trans HU1.out
  have e2 : w5.heap[w.heap.size + 1]? = some (msO (0, 0)) := (htq.block _ (by omega) (by omega)).trans HU2.out
  have y0 : w5.cell? ⟨w.heap.size + 2, 0, none⟩ = some (i64 f) := blk_cell e1 0
  have y1 : w5.cell? ⟨w.heap.size + 2, 1, none⟩ = some (u16v d) := blk_cell e1 1
  have z0 : w5.cell? ⟨w.heap.size + 1, 0, none⟩ = some (i64 0) := blk_cell e2 0
  have z1 : w5.cell? ⟨w.heap.size + 1, 1, none⟩ = some (u16v 0) := blk_cell e2 1
  have zf : ∀ j, w5.frozen? ⟨w.heap.size + 1, j, none⟩ = false := blk_frozen e2
  have HE2 := hid e2
  have HF : Hid (Pt ((w5.setCell ⟨w.heap.size + 1, 0, none⟩ (i64 f)).setCell ⟨w.heap.size + 1, 1, none⟩ (u16v d)) base P (cutQ20 2 Q) ∧ Below base w ((w5.setCell ⟨w.heap.size + 1, 0, none⟩ (i64 f)).setCell ⟨w.heap.size + 1, 1, none⟩ (u16v d))) := by
    refine ⟨hf _ (fun k hk => ?_) ?_, bel2 ((HUb.out.mono (by omega)).trans (htq.low (by omega) hlo)) (by omega) _ _⟩
    · rw [HUs.out] at hk
      rw [Below.heap_setCell _ _ _ _ (by show k ≠ w.heap.size + 1; omega), Below.heap_setCell _ _ _ _ (by show k ≠ w.heap.size + 1; omega)]
    · rw [Below.heap_setCell _ _ _ _ (by show P ≠ w.heap.size + 1; omega), Below.heap_setCell _ _ _ _ (by show P ≠ w.heap.size + 1; omega)]
  clear hf htq e1 e2
  generalize gc Q (cutQ20 2 Q) 3 = G at *
  go_wp2_with fail
  exact bodyPost_ret (results_cell Try.results11 rfl rfl (load39 (m := (f, d)) (set2 HE2.out _ _))) rfl ⟨rfl, HF.out⟩
set_option maxRecDepth 100000 in
set_option maxHeartbeats 3200000 in
theorem recv2 {w : World} {base P : Nat} {Q : Nat → List Ms} (h : Pt w base P Q) (f d : Int) (r : List Ms) (hq : Q 2 = (f, d) :: r) : Calls Try.prog 11 #[pq P, i64 3] w fun e w' => e = .returned (.tuple #[msV (f, d), i64 0]) ∧ Pt w' base P (cutQ20 3 Q) ∧ Below base w w' := by
  have hPl := h.lt
  have hlo := h.lo
  obtain ⟨n, hn⟩ : ∃ n : Int, n = 3 := ⟨_, rfl⟩
  obtain ⟨hBV, hK1, hK2, hsz⟩ := two_em w n
  obtain ⟨V, hV⟩ : ∃ V, V = (w.alloc (.cells #[i64 n] 3)).alloc (msO (0, 0)) := ⟨_, rfl⟩
  have HVe : Hid ((w.alloc (.cells #[i64 n] 3)).alloc (.cells #[i64 0, u16v 0] 39) = V) := hV.symm
  rw [← hV] at hBV hK1 hK2 hsz
  have HB := hid hBV
  have HK1 := hid hK1
  have HK2 := hid hK2
  have x0 : V.cell? ⟨w.heap.size, 0, none⟩ = some (i64 n) := blk_cell hK1 0
  have k0 : V.cell? ⟨w.heap.size + 1, 0, none⟩ = some (i64 0) := blk_cell hK2 0
  have k1 : V.cell? ⟨w.heap.size + 1, 1, none⟩ = some (u16v 0) := blk_cell hK2 1
  have kf : ∀ j, V.frozen? ⟨w.heap.size + 1, j, none⟩ = false := blk_frozen hK2
  rw [hn] at x0 hK1
  have hpt := h.below hBV
  have HE := isEnv_ok V 3
  rw [show envB 3 = true by decide] at HE
  have HE := hid HE
  have HW := hid (waits2 hpt)
  obtain ⟨a0, a1, a2, hP, hO⟩ := hpt.blk
  have hrow := hO.o2
  have hll := hpt.le 2
  obtain ⟨N, hN⟩ : ∃ N, N = (Q 2).length := ⟨_, rfl⟩
  rw [← hN] at hrow HW hll
  have hN0 : 0 < N := by rw [hN, hq]; simp
  rcases hrow.2 with ⟨_, hnil⟩ | ⟨g, cap, cur, hv, hbg, hgg, _⟩
  · exfalso; omega
  subst hv
  have c0 : V.cell? ⟨g, 0, none⟩ = some (i64 f) := by rw [hrow.cellAt 0 (by omega), hq]; rfl
  have c1 : V.cell? ⟨g, 1, none⟩ = some (u16v d) := by rw [hrow.cellAt 1 (by omega), hq]; rfl
  have HS : Hid (SqV w.heap.size P 2 g 3 (.slice (some ⟨g, 0, none⟩) N cap) f d V.drew) := ⟨x0, blk_cell hP 2, c0, c1⟩
  have HPU : Hid (Pt (V.alloc (msO (f, d))).drew base P Q) := by
    obtain ⟨q0, q1, q2⟩ := hpt.below (below_one V (msO (f, d)))
    exact ⟨q0, q1, by obtain ⟨b0, b1, b2, h1, h2⟩ := q2; exact ⟨b0, b1, b2, h1, h2.o0, h2.o1, h2.o2, h2.d01, h2.d02, h2.d12⟩⟩
  have HC := hid (cut20 HPU.out w.heap.size 3 (blk_alloc hK1 _))
  have hNI : (N : Int) ≤ 4 := by omega
  have hNI0 : (0 : Int) < N := by omega
  have hNe : ((N : Int) == 0) = false := by simp; omega
  have hXV : w.heap.size < V.heap.size := by omega
  have hPV : P < V.heap.size := by omega
  have hgV : g < V.heap.size := blk_lt hgg
  obtain rfl := hn
  clear hV hBV hK1 hK2 hpt hP hO hrow hN hbg hgg c0 c1 hq h
  go_enter Try.func11, Try.ntmps11
  go_upto_region 1 with fail
  rw [HVe.out]
  go_wp2_with fail
  refine HE.out.mono ?_
  rintro e v1 ⟨rfl, hv⟩
  replace hv := hv.symm
  subst hv
  go_wp2_with fail
  refine HW.out.mono ?_
  rintro e v1 ⟨rfl, hv⟩
  replace hv := hv.symm
  subst hv
  go_upto_region 5 with fail
  refine wp_region_noPanic ?_
  refine wp_region_last (SqV w.heap.size P 2 g 3 (.slice (some ⟨g, 0, none⟩) N cap) f d) 10 (by kernel_rfl) ?_
  refine wpL_take 0 16 (pq P) [] rfl rfl (by kernel_rfl) (by decide) (by kernel_rfl) (by kernel_rfl) (by kernel_rfl) (fun _ _ _ h => h) HS.out (by rfl) (fun W hW => by obtain ⟨x0, p0, g0, g1⟩ := hW; go_simp) ?_
  simp only [Act.put, List.setIfInBounds_toArray, List.set_cons_zero, List.set_cons_succ]
  refine wpL_take 1 17 (i64 3) [] rfl rfl (by kernel_rfl) (by decide) (by kernel_rfl) (by kernel_rfl) (by kernel_rfl) (fun _ _ _ h => h) HS.out (by rfl) (fun W hW => by obtain ⟨x0, p0, g0, g1⟩ := hW; go_simp) ?_
  simp only [Act.put, List.setIfInBounds_toArray, List.set_cons_zero, List.set_cons_succ]
  refine wpL_take 2 18 (i64 2) [] rfl rfl (by kernel_rfl) (by decide) (by kernel_rfl) (by kernel_rfl) (by kernel_rfl) (fun _ _ _ h => h) HS.out (by rfl) (fun W hW => by obtain ⟨x0, p0, g0, g1⟩ := hW; go_simp; rfl) ?_
  simp only [Act.put, List.setIfInBounds_toArray, List.set_cons_zero, List.set_cons_succ]
  refine wpL_take 3 19 (pq P) [] rfl rfl (by kernel_rfl) (by decide) (by kernel_rfl) (by kernel_rfl) (by kernel_rfl) (fun _ _ _ h => h) HS.out (by rfl) (fun W hW => by obtain ⟨x0, p0, g0, g1⟩ := hW; go_simp) ?_
  simp only [Act.put, List.setIfInBounds_toArray, List.set_cons_zero, List.set_cons_succ]
  refine wpL_take 4 20 (pq P) [] rfl rfl (by kernel_rfl) (by decide) (by kernel_rfl) (by kernel_rfl) (by kernel_rfl) (fun _ _ _ h => h) HS.out (by rfl) (fun W hW => by obtain ⟨x0, p0, g0, g1⟩ := hW; go_simp) ?_
  simp only [Act.put, List.setIfInBounds_toArray, List.set_cons_zero, List.set_cons_succ]
  refine wpL_take 5 21 (.pointer (some ⟨P, 2, none⟩)) [] rfl rfl (by kernel_rfl) (by decide) (by kernel_rfl) (by kernel_rfl) (by kernel_rfl) (fun _ _ _ h => h) HS.out (by rfl) (fun W hW => by obtain ⟨x0, p0, g0, g1⟩ := hW; go_simp) ?_
  simp only [Act.put, List.setIfInBounds_toArray, List.set_cons_zero, List.set_cons_succ]
  refine wpL_take 6 22 (.slice (some ⟨g, 0, none⟩) N cap) [] rfl rfl (by kernel_rfl) (by decide) (by kernel_rfl) (by kernel_rfl) (by kernel_rfl) (fun _ _ _ h => h) HS.out (by rfl) (fun W hW => by obtain ⟨x0, p0, g0, g1⟩ := hW; go_simp) ?_
  simp only [Act.put, List.setIfInBounds_toArray, List.set_cons_zero, List.set_cons_succ]
  refine wpL_take 7 23 (pq g) [] rfl rfl (by kernel_rfl) (by decide) (by kernel_rfl) (by kernel_rfl) (by kernel_rfl) (fun _ _ _ h => h) HS.out (by rfl) (fun W hW => by obtain ⟨x0, p0, g0, g1⟩ := hW; go_simp) ?_
  simp only [Act.put, List.setIfInBounds_toArray, List.set_cons_zero, List.set_cons_succ]
  refine wpL_take 8 24 (.agg #[i64 f, u16v d]) [] rfl rfl (by kernel_rfl) (by decide) (by kernel_rfl) (by kernel_rfl) (by kernel_rfl) (fun _ _ _ h => h) HS.out (by rfl) (fun W hW => by obtain ⟨x0, p0, g0, g1⟩ := hW; go_simp) ?_
  simp only [Act.put, List.setIfInBounds_toArray, List.set_cons_zero, List.set_cons_succ]
  refine wpL_one 9 rfl (by kernel_rfl) (by rfl) (fun K hK => ?_)
  go_simp
  refine hK.out _ _ (fun _ => ⟨cell_keep (w := V) HS.out.x _, cell_keep (w := V) HS.out.p _, cell_keep (w := V) HS.out.g0 _, cell_keep (w := V) HS.out.g1 _⟩) ?_
  clear hK K
  refine wpL_one 10 rfl (by kernel_rfl) (by rfl) (fun K hK => ?_)
  go_simp
  refine hK.out _ _ (fun h => absurd rfl h) ?_
  clear hK K
  refine wpL_done (by kernel_rfl) ?_
  refine NoPanic.normal ?_
  have HU1 : Hid ((V.alloc (msO (f, d))).drew.heap[w.heap.size + 2]? = some (msO (f, d))) := by rw [← hsz]; exact heap_last V _
  have HU2 : Hid ((V.alloc (msO (f, d))).drew.heap[w.heap.size + 1]? = some (msO (0, 0))) := blk_alloc HK2.out _
  have HUs : Hid ((V.alloc (msO (f, d))).drew.heap.size = w.heap.size + 3) := by show (V.alloc (msO (f, d))).heap.size = _; simp [hsz]
  have HUb : Hid (Below w.heap.size w (V.alloc (msO (f, d))).drew) := (HB.out.alloc HB.out.size _).drew
  go_wp2_with fail
  refine HC.out.mono ?_
  rintro e w5 ⟨rfl, hf, htq⟩
  rw [HUs.out] at htq
  have e1 : w5.heap[w.heap.size + 2]? = some (msO (f, d)) := (htq.block _ (by omega) (by omega)).trans HU1.out
  have e2 : w5.heap[w.heap.size + 1]? = some (msO (0, 0)) := (htq.block _ (by omega) (by omega)).trans HU2.out
  have y0 : w5.cell? ⟨w.heap.size + 2, 0, none⟩ = some (i64 f) := blk_cell e1 0
  have y1 : w5.cell? ⟨w.heap.size + 2, 1, none⟩ = some (u16v d) := blk_cell e1 1
  have z0 : w5.cell? ⟨w.heap.size + 1, 0, none⟩ = some (i64 0) := blk_cell e2 0
  have z1 : w5.cell? ⟨w.heap.size + 1, 1, none⟩ = some (u16v 0) := blk_cell e2 1
  have zf : ∀ j, w5.frozen? ⟨w.heap.size + 1, j, none⟩ = false := blk_frozen e2
  have HE2 := hid e2
  have HF : Hid (Pt ((w5.setCell ⟨w.heap.size + 1, 0, none⟩ (i64 f)).setCell ⟨w.heap.size + 1, 1, none⟩ (u16v d)) base P (cutQ20 3 Q) ∧ Below base w ((w5.setCell ⟨w.heap.size + 1, 0, none⟩ (i64 f)).setCell ⟨w.heap.size + 1, 1, none⟩ (u16v d))) := by
    refine ⟨hf _ (fun k hk => ?_) ?_, bel2 ((HUb.out.mono (by omega)).trans (htq.low (by omega) hlo)) (by omega) _ _⟩
    · rw [HUs.out] at hk
      rw [Below.heap_setCell _ _ _ _ (by show k ≠ w.heap.size + 1; omega), Below.heap_setCell _ _ _ _ (by show k ≠ w.heap.size + 1; omega)]
    · rw [Below.heap_setCell _ _ _ _ (by show P ≠ w.heap.size + 1; omega), Below.heap_setCell _ _ _ _ (by show P ≠ w.heap.size + 1; omega)]
  clear hf htq e1 e2
  generalize gc Q (cutQ20 3 Q) 3 = G at *
  go_wp2_with fail
  exact bodyPost_ret (results_cell Try.results11 rfl rfl (load39 (m := (f, d)) (set2 HE2.out _ _))) rfl ⟨rfl, HF.out⟩
end Go.Proofs.Ytmijjgpelihhnaa
