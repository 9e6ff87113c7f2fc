/- put, data, take of a pipe; no statement is proved in this text. -/
import Derived.Test.YtojhmiggocommaaPi
namespace Go.Proofs.Ytojhmiggocommaa
open Go.ChangeShapes Go.WideShapes Go.ChangeAt Go.RowKit Go.Deep
attribute [local go_sem ↓] Go.wp_at_zero Go.wp_at_succ

set_option maxRecDepth 100000 in
set_option maxHeartbeats 3200000 in
theorem put_full (w : World) (a : Nat) (D : List UInt8) (s : ByteArray) (h : Pip w a D) (hs : 16 < D.length + s.size) : Calls Try.prog 28 #[pq a, .string s] w fun e w' => e = .returned (i64 5) ∧ w' = w := by
  have hc := h.len
  have hD := h.le
  obtain ⟨n, hn⟩ : ∃ n, n = D.length := ⟨_, rfl⟩
  rw [← hn] at hc hD hs
  clear hn h
  have hlt : (16 : Int) - n < s.size := by omega
  go_enter Try.func28, Try.ntmps28
  go_wp2_with fail
  go_ret
  exact ⟨rfl, rfl⟩
set_option maxRecDepth 100000 in
set_option maxHeartbeats 3200000 in
theorem put_ok (w : World) (a : Nat) (D : List UInt8) (s : ByteArray) (h : Pip w a D) (hs : D.length + s.size ≤ 16) : Calls Try.prog 28 #[pq a, .string s] w fun e w' => e = .returned (i64 0) ∧ Pip w' a (D ++ s.data.toList) ∧ Touch a w w' := by
  have hc := h.len
  have hD := h.le
  have hlt := h.lt
  have hsz : s.data.toList.length = s.size := rfl
  have HR := hid (put_run w.drew a D s h.drew hs)
  have HLEN : Hid ((D ++ s.data.toList).length + (zs (16 - (D.length + s.size))).length = 16) := by show _ = _; rw [zs_len, List.length_append]; omega
  have HPC : Hid (px (D ++ s.data.toList) (zs (16 - (D.length + s.size))) ((D.length + s.size : Nat) : Int) = pc (D ++ s.data.toList)) := by show _ = _; unfold px pc; rw [List.length_append, hsz]
  have HLE : Hid ((D ++ s.data.toList).length ≤ 16) := by show _ ≤ _; rw [List.length_append]; omega
  have HB := hid h.blk
  have HSL : Hid (∀ W, (Instr.sliceAt 66 (.pointer (some ⟨a, 0, none⟩)) (some (i64 D.length)) none none).run Try.prog W = .ok (slv a D.length) W) := fun W => slv_run W a D.length hD
  clear h hsz
  generalize zs (16 - (D.length + s.size)) = Z at *
  generalize D ++ s.data.toList = E at *
  obtain ⟨n, hn⟩ : ∃ n, n = D.length := ⟨_, rfl⟩
  rw [← hn] at hc hD hs HR HPC HSL
  clear hn
  obtain ⟨m, hm⟩ : ∃ m : Nat, m = n + s.size := ⟨_, rfl⟩
  have HM : Hid (IntKind.i64.wrap ((n : Int) + (s.size : Int)) = (m : Int)) := by show _ = _; rw [hm, wrap_id (by omega) (by omega)]; omega
  rw [← hm] at HPC
  clear hm
  obtain ⟨w1, hw1⟩ : ∃ w1, w1 = w.drew.setRow a (px E Z n) := ⟨_, rfl⟩
  have HB1 : Hid (w1.heap[a]? = some (.cells (px E Z n) 68)) := by rw [hw1]; exact setRow_heap _ _ _ _ _ _ HB.out
  have HT1 : Hid (Touch a w w1) := by rw [hw1]; exact ((Touch.refl a w).drew).trans (setRow_touch _ _ _)
  rw [← hw1] at HR
  clear hw1
  have HS : Hid (w.drew.cell? ⟨a, 16, none⟩ = some (i64 n)) := hc
  have HS1 : Hid (w1.cell? ⟨a, 16, none⟩ = some (i64 n)) := by show _ = _; rw [blk_cell HB1.out, px_last _ _ _ HLEN.out]
  have hlt2 : (s.size : Int) ≤ 16 - n := by omega
  go_enter Try.func28, Try.ntmps28
  go_upto_region 3 with fail
  clear hc
  refine wp_region_noPanic ?_
  refine wp_region_last (fun W => W.cell? ⟨a, 16, none⟩ = some (i64 n)) 17 (by kernel_rfl) ?_
  refine wpL_take 0 13 (pq a) [] rfl rfl (by kernel_rfl) (by decide) (by kernel_rfl) (by kernel_rfl) (by kernel_rfl) (fun _ _ _ h => h) HS.out (by rfl) (fun W hW => by go_simp) ?_
  simp only [Act.put, List.setIfInBounds_toArray, List.set_cons_zero, List.set_cons_succ]
  refine wpL_take 1 14 (pq a) [] rfl rfl (by kernel_rfl) (by decide) (by kernel_rfl) (by kernel_rfl) (by kernel_rfl) (fun _ _ _ h => h) HS.out (by rfl) (fun W hW => by go_simp) ?_
  simp only [Act.put, List.setIfInBounds_toArray, List.set_cons_zero, List.set_cons_succ]
  refine wpL_take 2 15 (.pointer (some ⟨a, 16, none⟩)) [] rfl rfl (by kernel_rfl) (by decide) (by kernel_rfl) (by kernel_rfl) (by kernel_rfl) (fun _ _ _ h => h) HS.out (by rfl) (fun W hW => by go_simp) ?_
  simp only [Act.put, List.setIfInBounds_toArray, List.set_cons_zero, List.set_cons_succ]
  refine wpL_take 3 16 (i64 n) [] rfl rfl (by kernel_rfl) (by decide) (by kernel_rfl) (by kernel_rfl) (by kernel_rfl) (fun _ _ _ h => h) HS.out (by rfl) (fun W hW => by have e := hW; go_simp) ?_
  simp only [Act.put, List.setIfInBounds_toArray, List.set_cons_zero, List.set_cons_succ]
  refine wpL_take 4 17 (pq a) [] rfl rfl (by kernel_rfl) (by decide) (by kernel_rfl) (by kernel_rfl) (by kernel_rfl) (fun _ _ _ h => h) HS.out (by rfl) (fun W hW => by go_simp) ?_
  simp only [Act.put, List.setIfInBounds_toArray, List.set_cons_zero, List.set_cons_succ]
  refine wpL_take 5 18 (pq a) [] rfl rfl (by kernel_rfl) (by decide) (by kernel_rfl) (by kernel_rfl) (by kernel_rfl) (fun _ _ _ h => h) HS.out (by rfl) (fun W hW => by go_simp) ?_
  simp only [Act.put, List.setIfInBounds_toArray, List.set_cons_zero, List.set_cons_succ]
  refine wpL_take 6 19 (pq a) [] rfl rfl (by kernel_rfl) (by decide) (by kernel_rfl) (by kernel_rfl) (by kernel_rfl) (fun _ _ _ h => h) HS.out (by rfl) (fun W hW => by go_simp) ?_
  simp only [Act.put, List.setIfInBounds_toArray, List.set_cons_zero, List.set_cons_succ]
  refine wpL_take 7 20 (pq a) [] rfl rfl (by kernel_rfl) (by decide) (by kernel_rfl) (by kernel_rfl) (by kernel_rfl) (fun _ _ _ h => h) HS.out (by rfl) (fun W hW => by go_simp) ?_
  simp only [Act.put, List.setIfInBounds_toArray, List.set_cons_zero, List.set_cons_succ]
  refine wpL_take 8 21 (pq a) [] rfl rfl (by kernel_rfl) (by decide) (by kernel_rfl) (by kernel_rfl) (by kernel_rfl) (fun _ _ _ h => h) HS.out (by rfl) (fun W hW => by go_simp) ?_
  simp only [Act.put, List.setIfInBounds_toArray, List.set_cons_zero, List.set_cons_succ]
  refine wpL_take 9 22 (.pointer (some ⟨a, 16, none⟩)) [] rfl rfl (by kernel_rfl) (by decide) (by kernel_rfl) (by kernel_rfl) (by kernel_rfl) (fun _ _ _ h => h) HS.out (by rfl) (fun W hW => by go_simp) ?_
  simp only [Act.put, List.setIfInBounds_toArray, List.set_cons_zero, List.set_cons_succ]
  refine wpL_take 10 23 (i64 n) [] rfl rfl (by kernel_rfl) (by decide) (by kernel_rfl) (by kernel_rfl) (by kernel_rfl) (fun _ _ _ h => h) HS.out (by rfl) (fun W hW => by have e := hW; go_simp) ?_
  simp only [Act.put, List.setIfInBounds_toArray, List.set_cons_zero, List.set_cons_succ]
  refine wpL_take 11 24 (slv a n) [] rfl rfl (by kernel_rfl) (by decide) (by kernel_rfl) (by kernel_rfl) (by kernel_rfl) (fun _ _ _ h => h) HS.out (by rfl) (fun W hW => by exact exec_slice 66 (.tmp 19) (some (.tmp 23)) none (some (i64 n)) none rfl rfl rfl rfl (HSL.out W)) ?_
  simp only [Act.put, List.setIfInBounds_toArray, List.set_cons_zero, List.set_cons_succ]
  refine wpL_take 12 25 (.string s) [] rfl rfl (by kernel_rfl) (by decide) (by kernel_rfl) (by kernel_rfl) (by kernel_rfl) (fun _ _ _ h => h) HS.out (by rfl) (fun W hW => by go_simp) ?_
  simp only [Act.put, List.setIfInBounds_toArray, List.set_cons_zero, List.set_cons_succ]
  refine wpL_one 13 rfl (by kernel_rfl) (by rfl) (fun K hK => ?_)
  refine wp_copy_run (.tmp 24) (.tmp 25) 74 9 rfl _ _ rfl rfl 3 rfl _ _ HR.out 26 rfl ?_
  refine hK.out _ _ (fun _ => HS1.out) ?_
  clear hK K
  simp only [Act.put, List.setIfInBounds_toArray, List.set_cons_zero, List.set_cons_succ]
  refine wpL_take 14 27 (i64 m) [] rfl rfl (by kernel_rfl) (by decide) (by kernel_rfl) (by kernel_rfl) (by kernel_rfl) (fun _ _ _ h => h) HS1.out (by rfl) (fun W hW => by have e := HM.out; go_simp) ?_
  simp only [Act.put, List.setIfInBounds_toArray, List.set_cons_zero, List.set_cons_succ]
  refine wpL_take 15 28 (pq a) [16] rfl rfl (by kernel_rfl) (by decide) (by kernel_rfl) (by kernel_rfl) (by kernel_rfl) (fun _ _ _ h => h) HS1.out (by rfl) (fun W hW => by go_simp) ?_
  simp only [Act.put, List.setIfInBounds_toArray, List.set_cons_zero, List.set_cons_succ]
  refine wpL_take 16 29 (.pointer (some ⟨a, 16, none⟩)) [] rfl rfl (by kernel_rfl) (by decide) (by kernel_rfl) (by kernel_rfl) (by kernel_rfl) (fun _ _ _ h => h) HS1.out (by rfl) (fun W hW => by go_simp) ?_
  simp only [Act.put, List.setIfInBounds_toArray, List.set_cons_zero, List.set_cons_succ]
  refine wpL_one 17 rfl (by kernel_rfl) (by rfl) (fun K hK => ?_)
  have hf1 : w1.frozen? ⟨a, 16, none⟩ = false := blk_frozen HB1.out 16
  have hc1 : w1.cell? ⟨a, 16, none⟩ = some (i64 n) := HS1.out
  go_simp
  refine hK.out _ _ (fun h => absurd rfl h) ?_
  clear hK K
  refine wpL_done (by kernel_rfl) ?_
  refine NoPanic.normal ?_
  go_wp2_with fail
  go_ret
  refine ⟨rfl, ⟨?_, HLE.out⟩, HT1.out.setCell rfl _⟩
  rw [setCell_eq_setRow w1 a 16 _ 68 _ _ HB1.out, px_set _ _ _ _ HLEN.out, HPC.out]
  exact setRow_heap _ _ _ _ _ _ HB1.out
end Go.Proofs.Ytojhmiggocommaa
