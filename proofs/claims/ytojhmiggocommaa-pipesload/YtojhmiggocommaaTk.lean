/- data and take of a pipe; no statement is proved in this text. -/
import Derived.Test.YtojhmiggocommaaPu
namespace Go.Proofs.Ytojhmiggocommaa
open Go.ChangeShapes Go.WideShapes Go.ChangeAt Go.RowKit Go.Deep
attribute [local go_sem ↓] Go.wp_at_zero Go.wp_at_succ

theorem exec_conv {P : Program} {op : Oper} {a : Act} {w : World} {u v : Value} (t1 t2 : TypeId) (x : Operand) (ho : op.op = .convert t1 t2 x) (hx : a.eval x = v) (h : (convert t1 t2 v).run P w = .ok u w) : (execOp a.eval op).run P w = .ok (.value u) w := by
  unfold execOp
  simp only [ho, hx, Sem.run_bind, Sem.run_pure, Result.andThen_ok, h]
theorem conv_run (w : World) (a n : Nat) (D : List UInt8) (h : Pip w a D) (hn : n ≤ D.length) : (convert 74 9 (.slice (some ⟨a, 0, none⟩) n 16)).run Try.prog w = .ok (str (D.take n)) w := by
  have := run_convert_bytes_back (P := Try.prog) w 74 9 5 ⟨a, 0, none⟩ 16 (D.take n) (by kernel_rfl) (by kernel_rfl) (by kernel_rfl) (fun j hj => by
    have hj' : j < D.length := by simp at hj; omega
    rw [Addr.add_mid, Nat.zero_add, blk_cell h.blk, pc_byte D j hj']
    simp)
  rw [List.length_take, Nat.min_eq_left hn] at this
  exact this
theorem slh_run (W : World) (a n : Nat) (h : n ≤ 16) : (Instr.sliceAt 66 (.pointer (some ⟨a, 0, none⟩)) none (some (i64 n)) none).run Try.prog W = .ok (.slice (some ⟨a, 0, none⟩) n 16) W := by
  have hs : ∀ w, (Go.sizeOf 5).run Try.prog w = .ok 1 w := fun w => by kernel_rfl
  simp only [Instr.sliceAt, run_underlying Try.underlying66, Instr.sureAddr, Instr.sliceBounds, Instr.sliceBound, asIntOf, Sem.run_bind, Sem.run_pure, Result.andThen_ok, hs]
  rw [if_pos ⟨by omega, by omega⟩]
  simp only [Sem.run_pure, Result.andThen_ok, Int.toNat_natCast]
  rfl
theorem sla_run (W : World) (a : Nat) : (Instr.sliceAt 66 (.pointer (some ⟨a, 0, none⟩)) none none none).run Try.prog W = .ok (.slice (some ⟨a, 0, none⟩) 16 16) W := by
  have hs : ∀ w, (Go.sizeOf 5).run Try.prog w = .ok 1 w := fun w => by kernel_rfl
  simp only [Instr.sliceAt, run_underlying Try.underlying66, Instr.sureAddr, Instr.sliceBounds, Sem.run_bind, Sem.run_pure, Result.andThen_ok, hs]
  rfl
theorem slx_run (W : World) (a n l : Nat) (h : n ≤ l) (hl : l ≤ 16) : (Instr.sliceAt 66 (.pointer (some ⟨a, 0, none⟩)) (some (i64 n)) (some (i64 l)) none).run Try.prog W = .ok (.slice (some (if n = 16 then ⟨a, 0, none⟩ else ⟨a, n, none⟩)) (l - n) (16 - n)) W := by
  have hs : ∀ w, (Go.sizeOf 5).run Try.prog w = .ok 1 w := fun w => by kernel_rfl
  simp only [Instr.sliceAt, run_underlying Try.underlying66, Instr.sureAddr, Instr.sliceBounds, Instr.sliceBound, asIntOf, Sem.run_bind, Sem.run_pure, Result.andThen_ok, hs]
  rw [if_pos ⟨by omega, by omega⟩]
  simp only [Sem.run_pure, Result.andThen_ok, Int.toNat_natCast]
  rw [if_pos ⟨by omega, by omega⟩]
  simp only [Sem.run_pure, Result.andThen_ok, Nat.mul_one]
  by_cases hn : n = 16
  · subst hn; rfl
  · rw [if_neg hn, if_neg (fun e => hn e.symm), Addr.add_mid, Nat.zero_add]
set_option maxRecDepth 100000 in
set_option maxHeartbeats 3200000 in
theorem data_ok (w : World) (a : Nat) (D : List UInt8) (h : Pip w a D) : Calls Try.prog 26 #[pq a] w fun e w' => e = .returned (str D) ∧ w' = w.drew := by
  have HSL : Hid (∀ W, (Instr.sliceAt 66 (.pointer (some ⟨a, 0, none⟩)) none (some (i64 D.length)) none).run Try.prog W = .ok (.slice (some ⟨a, 0, none⟩) D.length 16) W) := fun W => slh_run W a D.length h.le
  have HCV : Hid (∀ W, Pip W a D → (convert 74 9 (.slice (some ⟨a, 0, none⟩) D.length 16)).run Try.prog W = .ok (str D) W) := fun W hW => by
    have := conv_run W a D.length D hW (Nat.le_refl _)
    rw [List.take_length] at this
    exact this
  have HN : Hid (∀ W, Pip W a D → W.cell? ⟨a, 16, none⟩ = some (i64 D.length)) := fun W hW => hW.len
  have HS : Hid (Pip w.drew a D) := h.drew
  clear h
  obtain ⟨n, hn⟩ : ∃ n, n = D.length := ⟨_, rfl⟩
  rw [← hn] at HSL HCV HN
  clear hn
  go_enter Try.func26, Try.ntmps26
  go_upto_region 1 with fail
  refine wp_region_noPanic ?_
  refine wp_region_last (fun W => Pip W a D) 9 (by kernel_rfl) ?_
  refine wpL_take 0 3 (pq a) [] rfl rfl (by kernel_rfl) (by decide) (by kernel_rfl) (by kernel_rfl) (by kernel_rfl) (fun _ _ _ h => h) HS.out (by rfl) (fun W hW => by go_simp) ?_
  simp only [Act.put, List.setIfInBounds_toArray, List.set_cons_zero, List.set_cons_succ]
  refine wpL_take 1 4 (pq a) [] rfl rfl (by kernel_rfl) (by decide) (by kernel_rfl) (by kernel_rfl) (by kernel_rfl) (fun _ _ _ h => h) HS.out (by rfl) (fun W hW => by go_simp) ?_
  simp only [Act.put, List.setIfInBounds_toArray, List.set_cons_zero, List.set_cons_succ]
  refine wpL_take 2 5 (pq a) [] rfl rfl (by kernel_rfl) (by decide) (by kernel_rfl) (by kernel_rfl) (by kernel_rfl) (fun _ _ _ h => h) HS.out (by rfl) (fun W hW => by go_simp) ?_
  simp only [Act.put, List.setIfInBounds_toArray, List.set_cons_zero, List.set_cons_succ]
  refine wpL_take 3 6 (pq a) [] rfl rfl (by kernel_rfl) (by decide) (by kernel_rfl) (by kernel_rfl) (by kernel_rfl) (fun _ _ _ h => h) HS.out (by rfl) (fun W hW => by go_simp) ?_
  simp only [Act.put, List.setIfInBounds_toArray, List.set_cons_zero, List.set_cons_succ]
  refine wpL_take 4 7 (pq a) [] rfl rfl (by kernel_rfl) (by decide) (by kernel_rfl) (by kernel_rfl) (by kernel_rfl) (fun _ _ _ h => h) HS.out (by rfl) (fun W hW => by go_simp) ?_
  simp only [Act.put, List.setIfInBounds_toArray, List.set_cons_zero, List.set_cons_succ]
  refine wpL_take 5 8 (.pointer (some ⟨a, 16, none⟩)) [] rfl rfl (by kernel_rfl) (by decide) (by kernel_rfl) (by kernel_rfl) (by kernel_rfl) (fun _ _ _ h => h) HS.out (by rfl) (fun W hW => by go_simp) ?_
  simp only [Act.put, List.setIfInBounds_toArray, List.set_cons_zero, List.set_cons_succ]
  refine wpL_take 6 9 (i64 n) [] rfl rfl (by kernel_rfl) (by decide) (by kernel_rfl) (by kernel_rfl) (by kernel_rfl) (fun _ _ _ h => h) HS.out (by rfl) (fun W hW => by have e : W.cell? ⟨a, 16, none⟩ = some (i64 n) := HN.out W hW; go_simp) ?_
  simp only [Act.put, List.setIfInBounds_toArray, List.set_cons_zero, List.set_cons_succ]
  refine wpL_take 7 10 (.slice (some ⟨a, 0, none⟩) n 16) [] rfl rfl (by kernel_rfl) (by decide) (by kernel_rfl) (by kernel_rfl) (by kernel_rfl) (fun _ _ _ h => h) HS.out (by rfl) (fun W hW => by exact exec_slice 66 (.tmp 5) none (some (.tmp 9)) none (some (i64 n)) rfl rfl rfl rfl (HSL.out W)) ?_
  simp only [Act.put, List.setIfInBounds_toArray, List.set_cons_zero, List.set_cons_succ]
  refine wpL_take 8 11 (str D) [] rfl rfl (by kernel_rfl) (by decide) (by kernel_rfl) (by kernel_rfl) (by kernel_rfl) (fun _ _ _ h => h) HS.out (by rfl) (fun W hW => by exact exec_conv 74 9 (.tmp 10) rfl rfl (HCV.out W hW)) ?_
  simp only [Act.put, List.setIfInBounds_toArray, List.set_cons_zero, List.set_cons_succ]
  refine wpL_one 9 rfl (by kernel_rfl) (by rfl) (fun K hK => ?_)
  go_simp
  refine hK.out _ _ (fun h => absurd rfl h) ?_
  clear hK K
  refine wpL_done (by kernel_rfl) ?_
  refine NoPanic.normal ?_
  go_wp2_with fail
  go_ret
  exact ⟨rfl, rfl⟩
set_option maxRecDepth 100000 in
set_option maxHeartbeats 3200000 in
theorem take_ok (w : World) (a : Nat) (D : List UInt8) (n : Int) (k : Nat) (h : Pip w a D) (_hn : 0 ≤ n) (hk : (k : Int) = min n D.length) : Calls Try.prog 29 #[pq a, i64 n] w fun e w' => e = .returned (str (D.take k)) ∧ Pip w' a (D.drop k) ∧ Touch a w w' := by
  have hc := h.len
  have hD := h.le
  have hlt := h.lt
  have hkl : k ≤ D.length := by omega
  have HCV := hid (conv_run w a k D h hkl)
  obtain ⟨R, hR, hrun⟩ := take_run w.drew a k D h.drew hkl
  have HRUN := hid hrun
  have HRL := hid hR
  clear hrun hR
  have HLE : Hid ((D.drop k).length ≤ 16) := by show _ ≤ _; rw [List.length_drop]; omega
  have HEL : Hid ((D.drop k).length = D.length - k) := List.length_drop
  have HB := hid h.blk
  have HSA : Hid (∀ W, (Instr.sliceAt 66 (.pointer (some ⟨a, 0, none⟩)) none none none).run Try.prog W = .ok (.slice (some ⟨a, 0, none⟩) 16 16) W) := fun W => sla_run W a
  have HSX : Hid (∀ W, (Instr.sliceAt 66 (.pointer (some ⟨a, 0, none⟩)) (some (i64 k)) (some (i64 D.length)) none).run Try.prog W = .ok (.slice (some (if k = 16 then ⟨a, 0, none⟩ else ⟨a, k, none⟩)) (D.length - k) (16 - k)) W) := fun W => slx_run W a k D.length hkl hD
  have HSE : Hid (∀ W, (Instr.sliceAt 66 (.pointer (some ⟨a, 0, none⟩)) (some (i64 (D.drop k).length)) none none).run Try.prog W = .ok (slv a (D.drop k).length) W) := fun W => slv_run W a (D.drop k).length HLE.out
  clear h
  obtain ⟨L, hL⟩ : ∃ L, L = D.length := ⟨_, rfl⟩
  rw [← hL] at hc hD hk hkl HRUN HEL HSX
  clear hL
  obtain ⟨E, hE⟩ : ∃ E, E = (D.drop k).length := ⟨_, rfl⟩
  rw [← hE] at HEL HSE
  have HE := hid hE
  rw [← HEL.out] at HRUN HSX
  clear hE
  generalize (Value.slice (some (if k = 16 then ⟨a, 0, none⟩ else ⟨a, k, none⟩)) E (16 - k)) = SRC at *
  generalize D.drop k = F at *
  generalize D.take k = G at *
  obtain ⟨w1, hw1⟩ : ∃ w1, w1 = w.drew.setRow a (px F R L) := ⟨_, rfl⟩
  have HB1 : Hid (w1.heap[a]? = some (.cells (px F R L) 68)) := by rw [hw1]; exact setRow_heap _ _ _ _ _ _ HB.out
  have HT1 : Hid (Touch a w w1) := by rw [hw1]; exact ((Touch.refl a w).drew).trans (setRow_touch _ _ _)
  rw [← hw1] at HRUN
  clear hw1
  have HS : Hid (w.drew.cell? ⟨a, 16, none⟩ = some (i64 L)) := hc
  have HS3 : Hid (w1.cell? ⟨a, 16, none⟩ = some (i64 L)) := by show _ = _; rw [blk_cell HB1.out, px_last _ _ _ HRL.out]
  have HMIN : Hid ((if (L : Int) < n then (L : Int) else n) = k) := by show _ = _; split <;> omega
  clear hk
  go_enter Try.func29, Try.ntmps29
  go_upto_region 2 with fail
  simp only [HMIN.out]
  have hcv := HCV.out
  have hslh := slh_run w a k (by omega)
  go_upto_region 3 with fail
  clear hcv hc hslh
  refine wp_region_noPanic ?_
  refine wp_region_last (fun W => W.cell? ⟨a, 16, none⟩ = some (i64 L)) 17 (by kernel_rfl) ?_
  refine wpL_take 0 18 (pq a) [] rfl rfl (by kernel_rfl) (by decide) (by kernel_rfl) (by kernel_rfl) (by kernel_rfl) (fun _ _ _ h => h) HS.out (by rfl) (fun W hW => by go_simp) ?_
  simp only [Act.put, List.setIfInBounds_toArray, List.set_cons_zero, List.set_cons_succ]
  refine wpL_take 1 19 (pq a) [] rfl rfl (by kernel_rfl) (by decide) (by kernel_rfl) (by kernel_rfl) (by kernel_rfl) (fun _ _ _ h => h) HS.out (by rfl) (fun W hW => by go_simp) ?_
  simp only [Act.put, List.setIfInBounds_toArray, List.set_cons_zero, List.set_cons_succ]
  refine wpL_take 2 20 (pq a) [] rfl rfl (by kernel_rfl) (by decide) (by kernel_rfl) (by kernel_rfl) (by kernel_rfl) (fun _ _ _ h => h) HS.out (by rfl) (fun W hW => by go_simp) ?_
  simp only [Act.put, List.setIfInBounds_toArray, List.set_cons_zero, List.set_cons_succ]
  refine wpL_take 3 21 (pq a) [] rfl rfl (by kernel_rfl) (by decide) (by kernel_rfl) (by kernel_rfl) (by kernel_rfl) (fun _ _ _ h => h) HS.out (by rfl) (fun W hW => by go_simp) ?_
  simp only [Act.put, List.setIfInBounds_toArray, List.set_cons_zero, List.set_cons_succ]
  refine wpL_take 4 22 (.slice (some ⟨a, 0, none⟩) 16 16) [] rfl rfl (by kernel_rfl) (by decide) (by kernel_rfl) (by kernel_rfl) (by kernel_rfl) (fun _ _ _ h => h) HS.out (by rfl) (fun W hW => by exact exec_slice 66 (.tmp 21) none none none none rfl rfl rfl rfl (HSA.out W)) ?_
  simp only [Act.put, List.setIfInBounds_toArray, List.set_cons_zero, List.set_cons_succ]
  refine wpL_take 5 23 (pq a) [] rfl rfl (by kernel_rfl) (by decide) (by kernel_rfl) (by kernel_rfl) (by kernel_rfl) (fun _ _ _ h => h) HS.out (by rfl) (fun W hW => by go_simp) ?_
  simp only [Act.put, List.setIfInBounds_toArray, List.set_cons_zero, List.set_cons_succ]
  refine wpL_take 6 24 (pq a) [] rfl rfl (by kernel_rfl) (by decide) (by kernel_rfl) (by kernel_rfl) (by kernel_rfl) (fun _ _ _ h => h) HS.out (by rfl) (fun W hW => by go_simp) ?_
  simp only [Act.put, List.setIfInBounds_toArray, List.set_cons_zero, List.set_cons_succ]
  refine wpL_take 7 25 (pq a) [] rfl rfl (by kernel_rfl) (by decide) (by kernel_rfl) (by kernel_rfl) (by kernel_rfl) (fun _ _ _ h => h) HS.out (by rfl) (fun W hW => by go_simp) ?_
  simp only [Act.put, List.setIfInBounds_toArray, List.set_cons_zero, List.set_cons_succ]
  refine wpL_take 8 26 (i64 k) [] rfl rfl (by kernel_rfl) (by decide) (by kernel_rfl) (by kernel_rfl) (by kernel_rfl) (fun _ _ _ h => h) HS.out (by rfl) (fun W hW => by go_simp) ?_
  simp only [Act.put, List.setIfInBounds_toArray, List.set_cons_zero, List.set_cons_succ]
  refine wpL_take 9 27 (pq a) [] rfl rfl (by kernel_rfl) (by decide) (by kernel_rfl) (by kernel_rfl) (by kernel_rfl) (fun _ _ _ h => h) HS.out (by rfl) (fun W hW => by go_simp) ?_
  simp only [Act.put, List.setIfInBounds_toArray, List.set_cons_zero, List.set_cons_succ]
  refine wpL_take 10 28 (pq a) [] rfl rfl (by kernel_rfl) (by decide) (by kernel_rfl) (by kernel_rfl) (by kernel_rfl) (fun _ _ _ h => h) HS.out (by rfl) (fun W hW => by go_simp) ?_
  simp only [Act.put, List.setIfInBounds_toArray, List.set_cons_zero, List.set_cons_succ]
  refine wpL_take 11 29 (.pointer (some ⟨a, 16, none⟩)) [] rfl rfl (by kernel_rfl) (by decide) (by kernel_rfl) (by kernel_rfl) (by kernel_rfl) (fun _ _ _ h => h) HS.out (by rfl) (fun W hW => by go_simp) ?_
  simp only [Act.put, List.setIfInBounds_toArray, List.set_cons_zero, List.set_cons_succ]
  refine wpL_take 12 30 (i64 L) [] rfl rfl (by kernel_rfl) (by decide) (by kernel_rfl) (by kernel_rfl) (by kernel_rfl) (fun _ _ _ h => h) HS.out (by rfl) (fun W hW => by have e := hW; go_simp) ?_
  simp only [Act.put, List.setIfInBounds_toArray, List.set_cons_zero, List.set_cons_succ]
  refine wpL_take 13 31 (SRC) [] rfl rfl (by kernel_rfl) (by decide) (by kernel_rfl) (by kernel_rfl) (by kernel_rfl) (fun _ _ _ h => h) HS.out (by rfl) (fun W hW => by exact exec_slice 66 (.tmp 25) (some (.tmp 26)) (some (.tmp 30)) (some (i64 k)) (some (i64 L)) rfl rfl rfl rfl (HSX.out W)) ?_
  simp only [Act.put, List.setIfInBounds_toArray, List.set_cons_zero, List.set_cons_succ]
  refine wpL_one 14 rfl (by kernel_rfl) (by rfl) (fun K hK => ?_)
  refine wp_copy_run (.tmp 22) (.tmp 31) 74 74 rfl _ _ rfl rfl 3 rfl _ _ HRUN.out 32 rfl ?_
  refine hK.out _ _ (fun _ => HS3.out) ?_
  clear hK K
  simp only [Act.put, List.setIfInBounds_toArray, List.set_cons_zero, List.set_cons_succ]
  refine wpL_take 15 33 (pq a) [16] rfl rfl (by kernel_rfl) (by decide) (by kernel_rfl) (by kernel_rfl) (by kernel_rfl) (fun _ _ _ h => h) HS3.out (by rfl) (fun W hW => by go_simp) ?_
  simp only [Act.put, List.setIfInBounds_toArray, List.set_cons_zero, List.set_cons_succ]
  refine wpL_take 16 34 (.pointer (some ⟨a, 16, none⟩)) [] rfl rfl (by kernel_rfl) (by decide) (by kernel_rfl) (by kernel_rfl) (by kernel_rfl) (fun _ _ _ h => h) HS3.out (by rfl) (fun W hW => by go_simp) ?_
  simp only [Act.put, List.setIfInBounds_toArray, List.set_cons_zero, List.set_cons_succ]
  refine wpL_one 17 rfl (by kernel_rfl) (by rfl) (fun K hK => ?_)
  have hf1 : w1.frozen? ⟨a, 16, none⟩ = false := blk_frozen HB1.out 16
  have hc1 : w1.cell? ⟨a, 16, none⟩ = some (i64 L) := HS3.out
  go_simp
  refine hK.out _ _ (fun h => absurd rfl h) ?_
  clear hK K
  refine wpL_done (by kernel_rfl) ?_
  refine NoPanic.normal ?_
  clear hf1 hc1
  obtain ⟨w2, hw2⟩ : ∃ w2, w2 = w1.setCell ⟨a, 16, none⟩ (i64 E) := ⟨_, rfl⟩
  have HB2 : Hid (w2.heap[a]? = some (.cells (px F R E) 68)) := by
    rw [hw2, setCell_eq_setRow w1 a 16 _ 68 _ _ HB1.out, px_set _ _ _ _ HRL.out]
    exact setRow_heap _ _ _ _ _ _ HB1.out
  have HT2 : Hid (Touch a w w2) := by rw [hw2]; exact HT1.out.setCell rfl _
  rw [← hw2]
  clear hw2
  have HS4 : Hid (w2.drew.cell? ⟨a, 16, none⟩ = some (i64 E)) := by show _ = _; rw [show w2.drew.cell? ⟨a, 16, none⟩ = w2.cell? ⟨a, 16, none⟩ from rfl, blk_cell HB2.out, px_last _ _ _ HRL.out]
  have HCL : Hid ((Builtin.clear_ #[74] 0 #[slv a E]).run Try.prog w2.drew = .ok (.tuple #[]) (w2.drew.setRow a (pc F))) := by
    have h2 := HB2.out
    rw [HE.out] at h2 ⊢
    exact clear_run w2.drew a F R HRL.out h2
  have HBF : Hid ((w2.drew.setRow a (pc F)).heap[a]? = some (.cells (pc F) 68)) := setRow_heap _ _ _ _ _ _ HB2.out
  have HTF : Hid (Touch a w (w2.drew.setRow a (pc F))) := HT2.out.drew.trans (setRow_touch _ _ _)
  go_upto_region 4 with fail
  refine wp_region_noPanic ?_
  refine wp_region_last (fun W => W.cell? ⟨a, 16, none⟩ = some (i64 E)) 8 (by kernel_rfl) ?_
  refine wpL_take 0 35 (pq a) [1, 2, 7] rfl rfl (by kernel_rfl) (by decide) (by kernel_rfl) (by kernel_rfl) (by kernel_rfl) (fun _ _ _ h => h) HS4.out (by rfl) (fun W hW => by go_simp) ?_
  simp only [Act.put, List.setIfInBounds_toArray, List.set_cons_zero, List.set_cons_succ]
  refine wpL_take 1 36 (pq a) [2, 7] rfl rfl (by kernel_rfl) (by decide) (by kernel_rfl) (by kernel_rfl) (by kernel_rfl) (fun _ _ _ h => h) HS4.out (by rfl) (fun W hW => by go_simp) ?_
  simp only [Act.put, List.setIfInBounds_toArray, List.set_cons_zero, List.set_cons_succ]
  refine wpL_take 2 37 (pq a) [7] rfl rfl (by kernel_rfl) (by decide) (by kernel_rfl) (by kernel_rfl) (by kernel_rfl) (fun _ _ _ h => h) HS4.out (by rfl) (fun W hW => by go_simp) ?_
  simp only [Act.put, List.setIfInBounds_toArray, List.set_cons_zero, List.set_cons_succ]
  refine wpL_take 3 38 (pq a) [4, 5, 6, 7] rfl rfl (by kernel_rfl) (by decide) (by kernel_rfl) (by kernel_rfl) (by kernel_rfl) (fun _ _ _ h => h) HS4.out (by rfl) (fun W hW => by go_simp) ?_
  simp only [Act.put, List.setIfInBounds_toArray, List.set_cons_zero, List.set_cons_succ]
  refine wpL_take 4 39 (pq a) [5, 6, 7] rfl rfl (by kernel_rfl) (by decide) (by kernel_rfl) (by kernel_rfl) (by kernel_rfl) (fun _ _ _ h => h) HS4.out (by rfl) (fun W hW => by go_simp) ?_
  simp only [Act.put, List.setIfInBounds_toArray, List.set_cons_zero, List.set_cons_succ]
  refine wpL_take 5 40 (.pointer (some ⟨a, 16, none⟩)) [6, 7] rfl rfl (by kernel_rfl) (by decide) (by kernel_rfl) (by kernel_rfl) (by kernel_rfl) (fun _ _ _ h => h) HS4.out (by rfl) (fun W hW => by go_simp) ?_
  simp only [Act.put, List.setIfInBounds_toArray, List.set_cons_zero, List.set_cons_succ]
  refine wpL_take 6 41 (i64 E) [7] rfl rfl (by kernel_rfl) (by decide) (by kernel_rfl) (by kernel_rfl) (by kernel_rfl) (fun _ _ _ h => h) HS4.out (by rfl) (fun W hW => by have e := hW; go_simp) ?_
  simp only [Act.put, List.setIfInBounds_toArray, List.set_cons_zero, List.set_cons_succ]
  refine wpL_take 7 42 (slv a E) [] rfl rfl (by kernel_rfl) (by decide) (by kernel_rfl) (by kernel_rfl) (by kernel_rfl) (fun _ _ _ h => h) HS4.out (by rfl) (fun W hW => by exact exec_slice 66 (.tmp 37) (some (.tmp 41)) none (some (i64 E)) none rfl rfl rfl rfl (HSE.out W)) ?_
  simp only [Act.put, List.setIfInBounds_toArray, List.set_cons_zero, List.set_cons_succ]
  refine wpL_one 8 rfl (by kernel_rfl) (by rfl) (fun K hK => ?_)
  refine wp_clear_run (.tmp 42) 74 rfl _ rfl 0 rfl _ _ HCL.out ?_
  refine hK.out _ _ (fun h => absurd rfl h) ?_
  clear hK K
  refine wpL_done (by kernel_rfl) ?_
  refine NoPanic.normal ?_
  generalize w2.drew.setRow a (pc F) = w3 at *
  go_wp2_with fail
  go_ret
  exact ⟨rfl, ⟨HBF.out, HLE.out⟩, HTF.out⟩
end Go.Proofs.Ytojhmiggocommaa
