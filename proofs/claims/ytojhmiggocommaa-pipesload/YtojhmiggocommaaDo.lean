/- does: both sides do a step alike; no statement is proved in this text. -/
import Derived.Test.YtojhmiggocommaaDop
namespace Go.Proofs.Ytojhmiggocommaa
open Go.ChangeShapes Go.WideShapes Go.ChangeAt Go.RowKit Go.Deep
attribute [local go_sem ↓] Go.wp_at_zero Go.wp_at_succ

def stp (S : St) (x : Sp) : St := if x.what = 0 ∨ x.what = 1 then opnS S else if x.what = 2 then clsS S x.id else if x.what = 3 ∨ x.what = 4 ∨ x.what = 5 then wrtS S x.id x.s.data.toList else if x.what = 6 ∨ x.what = 7 then redS S x.id x.n else S
/-- Both sides, in step. -/
structure Bo (w : World) (b P r : Nat) (S : St) : Prop where
  ps : PS w b P S
  rb : Rb w b r (lst S)
theorem Bo.below {w w' : World} {b P r : Nat} {S : St} (h : Bo w b P r S) (hb : Below w.heap.size w w') : Bo w' b P r S := ⟨h.ps.below hb, h.rb.below hb⟩
theorem Bo.le {w : World} {b P r : Nat} {S : St} (h : Bo w b P r S) : ∀ i D, i < 3 → S i = some D → D.length ≤ 16 := fun i D hi hS => by
  obtain ⟨A, hp⟩ := h.ps
  rcases hp.known i hi with ⟨_, hn⟩ | ⟨b, E, _, hE, hp⟩
  · rw [hn] at hS; cases hS
  · rw [hE] at hS; cases hS; exact hp.le
theorem Bo.lob {w : World} {b P r : Nat} {S : St} (h : Bo w b P r S) : b ≤ w.heap.size := h.rb.los
theorem fr_more {b : Nat} {w w' : World} (h : Fr b [57, 68] w w') : Fr b [57, 68, 30, 47] w w' := h.mono (fun o ho => by
  cases o with
  | cells C t f => simp only [keeps, Bool.not_eq_true', List.contains_eq_mem, decide_eq_false_iff_not, List.mem_cons, List.not_mem_nil, or_false, not_or] at ho ⊢; exact ⟨ho.1, ho.2.1⟩
  | _ => rfl)
theorem fr_more2 {b : Nat} {w w' : World} (h : Fr b [30, 47] w w') : Fr b [57, 68, 30, 47] w w' := h.mono (fun o ho => by
  cases o with
  | cells C t f => simp only [keeps, Bool.not_eq_true', List.contains_eq_mem, decide_eq_false_iff_not, List.mem_cons, List.not_mem_nil, or_false, not_or] at ho ⊢; exact ⟨ho.2.2.1, ho.2.2.2⟩
  | _ => rfl)
set_option maxRecDepth 100000 in
set_option maxHeartbeats 3200000 in
theorem does0 (w : World) (b P r : Nat) (S : St) (x : Sp) (h : Bo w b P r S) (hk : x.what = 0) : Calls Try.prog 11 #[pq P, pq r, .agg #[i64 x.what, i64 x.id, i64 x.n, .string x.s]] w fun e w' => e = .returned (.bool true) ∧ Bo w' b P r (opnS S) ∧ Fr b [57, 68, 30, 47] w w' := by
  have q0 : (x.what == 0) = true := by simp only [beq_iff_eq]; omega
  clear hk
  have HV : Hid (Bo (w.alloc (.cells #[i64 x.what, i64 x.id, i64 x.n, .string x.s] 32)) b P r S) := h.below (below_one w _)
  have HX : Hid ((w.alloc (.cells #[i64 x.what, i64 x.id, i64 x.n, .string x.s] 32)).heap[w.heap.size]? = some (.cells #[i64 x.what, i64 x.id, i64 x.n, .string x.s] 32)) := heap_last w _
  have HFV : Hid (Fr b [57, 68, 30, 47] w (w.alloc (.cells #[i64 x.what, i64 x.id, i64 x.n, .string x.s] 32))) := Fr.of_below _ (below_one w _) h.lob
  clear h
  have HO1 := hid (open_ok _ b P S HV.out.ps)
  have HO2 : Hid (∀ W, Rb W b r (lst S) → Calls Try.prog 21 #[pq r] W fun e w' => e = .returned (.tuple #[i64 (opnI S), i64 (opnE S)]) ∧ Rb w' b r (lst (opnS S)) ∧ Fr b [30, 47] W w') := fun W hW => ropen_ok hW
  generalize opnI S = A at *
  generalize opnE S = E at *
  generalize opnS S = S2 at *
  go_enter Try.func11, Try.ntmps11
  go_wp2_with fail
  refine HO1.out.mono ?_
  rintro e w1 ⟨rfl, hp1, hf1⟩
  have HR1 := hid (HV.out.rb.fr hf1 rfl rfl)
  have HP1 := hid hp1
  have HF1 : Hid (Fr b [57, 68, 30, 47] w w1) := HFV.out.trans (fr_more hf1)
  clear hp1 hf1
  go_wp2_with fail
  refine (HO2.out w1 HR1.out).mono ?_
  rintro e w2 ⟨rfl, hr2, hf2⟩
  have HB2 : Hid (Bo w2 b P r S2) := ⟨HP1.out.fr hf2 rfl rfl, hr2⟩
  have HF2 : Hid (Fr b [57, 68, 30, 47] w w2) := HF1.out.trans (fr_more2 hf2)
  clear hr2 hf2
  go_wp2_with fail
  go_ret
  exact ⟨rfl, HB2.out, HF2.out⟩
set_option maxRecDepth 100000 in
set_option maxHeartbeats 3200000 in
theorem does1 (w : World) (b P r : Nat) (S : St) (x : Sp) (h : Bo w b P r S) (hk : x.what = 1) : Calls Try.prog 11 #[pq P, pq r, .agg #[i64 x.what, i64 x.id, i64 x.n, .string x.s]] w fun e w' => e = .returned (.bool true) ∧ Bo w' b P r (opnS S) ∧ Fr b [57, 68, 30, 47] w w' := by
  have q0 : (x.what == 0) = false := by simp only [beq_eq_false_iff_ne]; omega
  have q1 : (x.what == 1) = true := by simp only [beq_iff_eq]; omega
  clear hk
  have HV : Hid (Bo (w.alloc (.cells #[i64 x.what, i64 x.id, i64 x.n, .string x.s] 32)) b P r S) := h.below (below_one w _)
  have HX : Hid ((w.alloc (.cells #[i64 x.what, i64 x.id, i64 x.n, .string x.s] 32)).heap[w.heap.size]? = some (.cells #[i64 x.what, i64 x.id, i64 x.n, .string x.s] 32)) := heap_last w _
  have HFV : Hid (Fr b [57, 68, 30, 47] w (w.alloc (.cells #[i64 x.what, i64 x.id, i64 x.n, .string x.s] 32))) := Fr.of_below _ (below_one w _) h.lob
  clear h
  have HO1 := hid (open_ok _ b P S HV.out.ps)
  have HO2 : Hid (∀ W, Rb W b r (lst S) → Calls Try.prog 21 #[pq r] W fun e w' => e = .returned (.tuple #[i64 (opnI S), i64 (opnE S)]) ∧ Rb w' b r (lst (opnS S)) ∧ Fr b [30, 47] W w') := fun W hW => ropen_ok hW
  generalize opnI S = A at *
  generalize opnE S = E at *
  generalize opnS S = S2 at *
  go_enter Try.func11, Try.ntmps11
  go_wp2_with fail
  refine HO1.out.mono ?_
  rintro e w1 ⟨rfl, hp1, hf1⟩
  have HR1 := hid (HV.out.rb.fr hf1 rfl rfl)
  have HP1 := hid hp1
  have HF1 : Hid (Fr b [57, 68, 30, 47] w w1) := HFV.out.trans (fr_more hf1)
  clear hp1 hf1
  go_wp2_with fail
  refine (HO2.out w1 HR1.out).mono ?_
  rintro e w2 ⟨rfl, hr2, hf2⟩
  have HB2 : Hid (Bo w2 b P r S2) := ⟨HP1.out.fr hf2 rfl rfl, hr2⟩
  have HF2 : Hid (Fr b [57, 68, 30, 47] w w2) := HF1.out.trans (fr_more2 hf2)
  clear hr2 hf2
  go_wp2_with fail
  go_ret
  exact ⟨rfl, HB2.out, HF2.out⟩
set_option maxRecDepth 100000 in
set_option maxHeartbeats 3200000 in
theorem does2 (w : World) (b P r : Nat) (S : St) (x : Sp) (h : Bo w b P r S) (hk : x.what = 2) : Calls Try.prog 11 #[pq P, pq r, .agg #[i64 x.what, i64 x.id, i64 x.n, .string x.s]] w fun e w' => e = .returned (.bool true) ∧ Bo w' b P r (clsS S x.id) ∧ Fr b [57, 68, 30, 47] w w' := by
  have q0 : (x.what == 0) = false := by simp only [beq_eq_false_iff_ne]; omega
  have q1 : (x.what == 1) = false := by simp only [beq_eq_false_iff_ne]; omega
  have q2 : (x.what == 2) = true := by simp only [beq_iff_eq]; omega
  clear hk
  have HV : Hid (Bo (w.alloc (.cells #[i64 x.what, i64 x.id, i64 x.n, .string x.s] 32)) b P r S) := h.below (below_one w _)
  have HX : Hid ((w.alloc (.cells #[i64 x.what, i64 x.id, i64 x.n, .string x.s] 32)).heap[w.heap.size]? = some (.cells #[i64 x.what, i64 x.id, i64 x.n, .string x.s] 32)) := heap_last w _
  have HFV : Hid (Fr b [57, 68, 30, 47] w (w.alloc (.cells #[i64 x.what, i64 x.id, i64 x.n, .string x.s] 32))) := Fr.of_below _ (below_one w _) h.lob
  clear h
  have HO2 : Hid (∀ W, Rb W b r (lst S) → Calls Try.prog 22 #[pq r, i64 x.id] W fun e w' => e = .returned (i64 (errA S x.id)) ∧ Rb w' b r (lst (clsS S x.id)) ∧ Fr b [30, 47] W w') := fun W hW => rclose_ok hW x.id
  have HO1 := hid (close_ok (w.alloc (.cells #[i64 x.what, i64 x.id, i64 x.n, .string x.s] 32)).drew b P S x.id (HV.out.ps.below ⟨rfl, rfl, rfl, Nat.le_refl _, fun _ _ => rfl⟩))
  generalize errA S x.id = E at *
  generalize clsS S x.id = S2 at *
  go_enter Try.func11, Try.ntmps11
  go_upto_region 8 with fail
  obtain ⟨X, hX⟩ : ∃ X, X = w.heap.size := ⟨_, rfl⟩
  rw [← hX] at HX ⊢
  clear hX
  generalize w.alloc (.cells #[i64 x.what, i64 x.id, i64 x.n, .string x.s] 32) = V at *
  have HS : Hid (V.drew.heap[X]? = some (.cells #[i64 x.what, i64 x.id, i64 x.n, .string x.s] 32)) := HX.out
  refine wp_region_noPanic ?_
  refine wp_region_last (fun W => W.heap[X]? = some (.cells #[i64 x.what, i64 x.id, i64 x.n, .string x.s] 32)) 9 (by kernel_rfl) ?_
  refine wpL_take 0 44 (pq P) [] rfl rfl (by kernel_rfl) (by decide) (by kernel_rfl) (by kernel_rfl) (by kernel_rfl) (fun _ _ _ h => h) HS.out (by rfl) (fun W hW => by go_simp) ?_
  simp only [Act.put, List.setIfInBounds_toArray, List.set_cons_zero, List.set_cons_succ]
  refine wpL_take 1 45 (.pointer (some ⟨X, 1, none⟩)) [] rfl rfl (by kernel_rfl) (by decide) (by kernel_rfl) (by kernel_rfl) (by kernel_rfl) (fun _ _ _ h => h) HS.out (by rfl) (fun W hW => by go_simp) ?_
  simp only [Act.put, List.setIfInBounds_toArray, List.set_cons_zero, List.set_cons_succ]
  refine wpL_take 2 46 (i64 x.id) [] rfl rfl (by kernel_rfl) (by decide) (by kernel_rfl) (by kernel_rfl) (by kernel_rfl) (fun _ _ _ h => h) HS.out (by rfl) (fun W hW => by have e : W.cell? ⟨X, 1, none⟩ = some (i64 x.id) := blk_cell hW 1; go_simp) ?_
  simp only [Act.put, List.setIfInBounds_toArray, List.set_cons_zero, List.set_cons_succ]
  refine wpL_take 4 48 (pq r) [] rfl rfl (by kernel_rfl) (by decide) (by kernel_rfl) (by kernel_rfl) (by kernel_rfl) (fun _ _ _ h => h) HS.out (by rfl) (fun W hW => by go_simp) ?_
  simp only [Act.put, List.setIfInBounds_toArray, List.set_cons_zero, List.set_cons_succ]
  refine wpL_take 5 49 (.pointer (some ⟨X, 1, none⟩)) [] rfl rfl (by kernel_rfl) (by decide) (by kernel_rfl) (by kernel_rfl) (by kernel_rfl) (fun _ _ _ h => h) HS.out (by rfl) (fun W hW => by go_simp) ?_
  simp only [Act.put, List.setIfInBounds_toArray, List.set_cons_zero, List.set_cons_succ]
  refine wpL_take 6 50 (i64 x.id) [] rfl rfl (by kernel_rfl) (by decide) (by kernel_rfl) (by kernel_rfl) (by kernel_rfl) (fun _ _ _ h => h) HS.out (by rfl) (fun W hW => by have e : W.cell? ⟨X, 1, none⟩ = some (i64 x.id) := blk_cell hW 1; go_simp) ?_
  simp only [Act.put, List.setIfInBounds_toArray, List.set_cons_zero, List.set_cons_succ]
  refine wpL_one 3 rfl (by kernel_rfl) (by rfl) (fun K hK => ?_)
  go_simp
  refine HO1.out.mono ?_
  rintro e w1 ⟨rfl, hp1, hf1⟩
  have HR1 : Hid (Rb w1 b r (lst S)) := Rb.fr (w := V.drew) ⟨HV.out.rb.lo, HV.out.rb.own⟩ hf1 rfl rfl
  have HP1 := hid hp1
  have HF1 : Hid (Fr b [57, 68, 30, 47] w w1) := HFV.out.trans (Fr.of_drewN (n := 1) (fr_more hf1))
  have HS1 : Hid (w1.heap[X]? = some (.cells #[i64 x.what, i64 x.id, i64 x.n, .string x.s] 32)) := hf1.kept _ _ HS.out rfl
  clear hp1 hf1
  go_simp
  refine hK.out _ _ (fun _ => HS1.out) ?_
  clear hK K
  refine wpL_one 7 rfl (by kernel_rfl) (by rfl) (fun K hK => ?_)
  go_simp
  refine (HO2.out w1 HR1.out).mono ?_
  rintro e w2 ⟨rfl, hr2, hf2⟩
  have HB2 : Hid (Bo w2 b P r S2) := ⟨HP1.out.fr hf2 rfl rfl, hr2⟩
  have HF2 : Hid (Fr b [57, 68, 30, 47] w w2) := HF1.out.trans (fr_more2 hf2)
  have HS2 : Hid (w2.heap[X]? = some (.cells #[i64 x.what, i64 x.id, i64 x.n, .string x.s] 32)) := hf2.kept _ _ HS1.out rfl
  clear hr2 hf2
  go_simp
  refine hK.out _ _ (fun _ => HS2.out) ?_
  clear hK K
  refine wpL_take 8 52 (.bool true) [] rfl rfl (by kernel_rfl) (by decide) (by kernel_rfl) (by kernel_rfl) (by kernel_rfl) (fun _ _ _ h => h) HS2.out (by rfl) (fun W hW => by go_simp) ?_
  simp only [Act.put, List.setIfInBounds_toArray, List.set_cons_zero, List.set_cons_succ]
  refine wpL_one 9 rfl (by kernel_rfl) (by rfl) (fun K hK => ?_)
  go_simp
  refine hK.out _ _ (fun h => absurd rfl h) ?_
  clear hK K
  refine wpL_done (by kernel_rfl) ?_
  refine NoPanic.normal ?_
  go_wp2_with fail
  go_ret
  exact ⟨rfl, HB2.out, HF2.out⟩
set_option maxRecDepth 100000 in
set_option maxHeartbeats 3200000 in
theorem does3 (w : World) (b P r : Nat) (S : St) (x : Sp) (h : Bo w b P r S) (hs : x.s.size ≤ 100) (hk : x.what = 3) : Calls Try.prog 11 #[pq P, pq r, .agg #[i64 x.what, i64 x.id, i64 x.n, .string x.s]] w fun e w' => e = .returned (.bool true) ∧ Bo w' b P r (wrtS S x.id x.s.data.toList) ∧ Fr b [57, 68, 30, 47] w w' := by
  have q0 : (x.what == 0) = false := by simp only [beq_eq_false_iff_ne]; omega
  have q1 : (x.what == 1) = false := by simp only [beq_eq_false_iff_ne]; omega
  have q2 : (x.what == 2) = false := by simp only [beq_eq_false_iff_ne]; omega
  have q3 : (x.what == 3) = true := by simp only [beq_iff_eq]; omega
  clear hk
  have HLE := hid h.le
  have HV : Hid (Bo (w.alloc (.cells #[i64 x.what, i64 x.id, i64 x.n, .string x.s] 32)) b P r S) := h.below (below_one w _)
  have HX : Hid ((w.alloc (.cells #[i64 x.what, i64 x.id, i64 x.n, .string x.s] 32)).heap[w.heap.size]? = some (.cells #[i64 x.what, i64 x.id, i64 x.n, .string x.s] 32)) := heap_last w _
  have HFV : Hid (Fr b [57, 68, 30, 47] w (w.alloc (.cells #[i64 x.what, i64 x.id, i64 x.n, .string x.s] 32))) := Fr.of_below _ (below_one w _) h.lob
  clear h
  have HO2 : Hid (∀ W, Rb W b r (lst S) → Calls Try.prog 23 #[pq r, i64 x.id, .string x.s] W fun e w' => e = .returned (i64 (wrtE S x.id x.s.data.toList)) ∧ Rb w' b r (lst (wrtS S x.id x.s.data.toList)) ∧ Fr b [30, 47] W w') := fun W hW => rwrite_ok hW x.id x.s (by omega) HLE.out
  have HO1 := hid (write_ok (w.alloc (.cells #[i64 x.what, i64 x.id, i64 x.n, .string x.s] 32)).drew b P S x.id x.s (HV.out.ps.below ⟨rfl, rfl, rfl, Nat.le_refl _, fun _ _ => rfl⟩))
  generalize wrtE S x.id x.s.data.toList = E at *
  generalize wrtS S x.id x.s.data.toList = S2 at *
  clear HLE
  go_enter Try.func11, Try.ntmps11
  go_upto_region 12 with fail
  obtain ⟨X, hX⟩ : ∃ X, X = w.heap.size := ⟨_, rfl⟩
  rw [← hX] at HX ⊢
  clear hX
  generalize w.alloc (.cells #[i64 x.what, i64 x.id, i64 x.n, .string x.s] 32) = V at *
  have HS : Hid (V.drew.heap[X]? = some (.cells #[i64 x.what, i64 x.id, i64 x.n, .string x.s] 32)) := HX.out
  refine wp_region_noPanic ?_
  refine wp_region_last (fun W => W.heap[X]? = some (.cells #[i64 x.what, i64 x.id, i64 x.n, .string x.s] 32)) 13 (by kernel_rfl) ?_
  refine wpL_take 0 57 (pq P) [] rfl rfl (by kernel_rfl) (by decide) (by kernel_rfl) (by kernel_rfl) (by kernel_rfl) (fun _ _ _ h => h) HS.out (by rfl) (fun W hW => by go_simp) ?_
  simp only [Act.put, List.setIfInBounds_toArray, List.set_cons_zero, List.set_cons_succ]
  refine wpL_take 1 58 (.pointer (some ⟨X, 1, none⟩)) [] rfl rfl (by kernel_rfl) (by decide) (by kernel_rfl) (by kernel_rfl) (by kernel_rfl) (fun _ _ _ h => h) HS.out (by rfl) (fun W hW => by go_simp) ?_
  simp only [Act.put, List.setIfInBounds_toArray, List.set_cons_zero, List.set_cons_succ]
  refine wpL_take 2 59 (i64 x.id) [] rfl rfl (by kernel_rfl) (by decide) (by kernel_rfl) (by kernel_rfl) (by kernel_rfl) (fun _ _ _ h => h) HS.out (by rfl) (fun W hW => by have e : W.cell? ⟨X, 1, none⟩ = some (i64 x.id) := blk_cell hW 1; go_simp) ?_
  simp only [Act.put, List.setIfInBounds_toArray, List.set_cons_zero, List.set_cons_succ]
  refine wpL_take 3 60 (.pointer (some ⟨X, 3, none⟩)) [] rfl rfl (by kernel_rfl) (by decide) (by kernel_rfl) (by kernel_rfl) (by kernel_rfl) (fun _ _ _ h => h) HS.out (by rfl) (fun W hW => by go_simp) ?_
  simp only [Act.put, List.setIfInBounds_toArray, List.set_cons_zero, List.set_cons_succ]
  refine wpL_take 4 61 (.string x.s) [] rfl rfl (by kernel_rfl) (by decide) (by kernel_rfl) (by kernel_rfl) (by kernel_rfl) (fun _ _ _ h => h) HS.out (by rfl) (fun W hW => by have e : W.cell? ⟨X, 3, none⟩ = some (.string x.s) := blk_cell hW 3; go_simp) ?_
  simp only [Act.put, List.setIfInBounds_toArray, List.set_cons_zero, List.set_cons_succ]
  refine wpL_take 6 63 (pq r) [] rfl rfl (by kernel_rfl) (by decide) (by kernel_rfl) (by kernel_rfl) (by kernel_rfl) (fun _ _ _ h => h) HS.out (by rfl) (fun W hW => by go_simp) ?_
  simp only [Act.put, List.setIfInBounds_toArray, List.set_cons_zero, List.set_cons_succ]
  refine wpL_take 7 64 (.pointer (some ⟨X, 1, none⟩)) [] rfl rfl (by kernel_rfl) (by decide) (by kernel_rfl) (by kernel_rfl) (by kernel_rfl) (fun _ _ _ h => h) HS.out (by rfl) (fun W hW => by go_simp) ?_
  simp only [Act.put, List.setIfInBounds_toArray, List.set_cons_zero, List.set_cons_succ]
  refine wpL_take 8 65 (i64 x.id) [] rfl rfl (by kernel_rfl) (by decide) (by kernel_rfl) (by kernel_rfl) (by kernel_rfl) (fun _ _ _ h => h) HS.out (by rfl) (fun W hW => by have e : W.cell? ⟨X, 1, none⟩ = some (i64 x.id) := blk_cell hW 1; go_simp) ?_
  simp only [Act.put, List.setIfInBounds_toArray, List.set_cons_zero, List.set_cons_succ]
  refine wpL_take 9 66 (.pointer (some ⟨X, 3, none⟩)) [] rfl rfl (by kernel_rfl) (by decide) (by kernel_rfl) (by kernel_rfl) (by kernel_rfl) (fun _ _ _ h => h) HS.out (by rfl) (fun W hW => by go_simp) ?_
  simp only [Act.put, List.setIfInBounds_toArray, List.set_cons_zero, List.set_cons_succ]
  refine wpL_take 10 67 (.string x.s) [] rfl rfl (by kernel_rfl) (by decide) (by kernel_rfl) (by kernel_rfl) (by kernel_rfl) (fun _ _ _ h => h) HS.out (by rfl) (fun W hW => by have e : W.cell? ⟨X, 3, none⟩ = some (.string x.s) := blk_cell hW 3; go_simp) ?_
  simp only [Act.put, List.setIfInBounds_toArray, List.set_cons_zero, List.set_cons_succ]
  refine wpL_one 5 rfl (by kernel_rfl) (by rfl) (fun K hK => ?_)
  go_simp
  refine HO1.out.mono ?_
  rintro e w1 ⟨rfl, hp1, hf1⟩
  have HR1 : Hid (Rb w1 b r (lst S)) := Rb.fr (w := V.drew) ⟨HV.out.rb.lo, HV.out.rb.own⟩ hf1 rfl rfl
  have HP1 := hid hp1
  have HF1 : Hid (Fr b [57, 68, 30, 47] w w1) := HFV.out.trans (Fr.of_drewN (n := 1) (fr_more hf1))
  have HS1 : Hid (w1.heap[X]? = some (.cells #[i64 x.what, i64 x.id, i64 x.n, .string x.s] 32)) := hf1.kept _ _ HS.out rfl
  clear hp1 hf1
  go_simp
  refine hK.out _ _ (fun _ => HS1.out) ?_
  clear hK K
  refine wpL_one 11 rfl (by kernel_rfl) (by rfl) (fun K hK => ?_)
  go_simp
  refine (HO2.out w1 HR1.out).mono ?_
  rintro e w2 ⟨rfl, hr2, hf2⟩
  have HB2 : Hid (Bo w2 b P r S2) := ⟨HP1.out.fr hf2 rfl rfl, hr2⟩
  have HF2 : Hid (Fr b [57, 68, 30, 47] w w2) := HF1.out.trans (fr_more2 hf2)
  have HS2 : Hid (w2.heap[X]? = some (.cells #[i64 x.what, i64 x.id, i64 x.n, .string x.s] 32)) := hf2.kept _ _ HS1.out rfl
  clear hr2 hf2
  go_simp
  refine hK.out _ _ (fun _ => HS2.out) ?_
  clear hK K
  refine wpL_take 12 69 (.bool true) [] rfl rfl (by kernel_rfl) (by decide) (by kernel_rfl) (by kernel_rfl) (by kernel_rfl) (fun _ _ _ h => h) HS2.out (by rfl) (fun W hW => by go_simp) ?_
  simp only [Act.put, List.setIfInBounds_toArray, List.set_cons_zero, List.set_cons_succ]
  refine wpL_one 13 rfl (by kernel_rfl) (by rfl) (fun K hK => ?_)
  go_simp
  refine hK.out _ _ (fun h => absurd rfl h) ?_
  clear hK K
  refine wpL_done (by kernel_rfl) ?_
  refine NoPanic.normal ?_
  go_wp2_with fail
  go_ret
  exact ⟨rfl, HB2.out, HF2.out⟩
set_option maxRecDepth 100000 in
set_option maxHeartbeats 3200000 in
theorem does4 (w : World) (b P r : Nat) (S : St) (x : Sp) (h : Bo w b P r S) (hs : x.s.size ≤ 100) (hk : x.what = 4) : Calls Try.prog 11 #[pq P, pq r, .agg #[i64 x.what, i64 x.id, i64 x.n, .string x.s]] w fun e w' => e = .returned (.bool true) ∧ Bo w' b P r (wrtS S x.id x.s.data.toList) ∧ Fr b [57, 68, 30, 47] w w' := by
  have q0 : (x.what == 0) = false := by simp only [beq_eq_false_iff_ne]; omega
  have q1 : (x.what == 1) = false := by simp only [beq_eq_false_iff_ne]; omega
  have q2 : (x.what == 2) = false := by simp only [beq_eq_false_iff_ne]; omega
  have q3 : (x.what == 3) = false := by simp only [beq_eq_false_iff_ne]; omega
  have q4 : (x.what == 4) = true := by simp only [beq_iff_eq]; omega
  clear hk
  have HLE := hid h.le
  have HV : Hid (Bo (w.alloc (.cells #[i64 x.what, i64 x.id, i64 x.n, .string x.s] 32)) b P r S) := h.below (below_one w _)
  have HX : Hid ((w.alloc (.cells #[i64 x.what, i64 x.id, i64 x.n, .string x.s] 32)).heap[w.heap.size]? = some (.cells #[i64 x.what, i64 x.id, i64 x.n, .string x.s] 32)) := heap_last w _
  have HFV : Hid (Fr b [57, 68, 30, 47] w (w.alloc (.cells #[i64 x.what, i64 x.id, i64 x.n, .string x.s] 32))) := Fr.of_below _ (below_one w _) h.lob
  clear h
  have HO2 : Hid (∀ W, Rb W b r (lst S) → Calls Try.prog 23 #[pq r, i64 x.id, .string x.s] W fun e w' => e = .returned (i64 (wrtE S x.id x.s.data.toList)) ∧ Rb w' b r (lst (wrtS S x.id x.s.data.toList)) ∧ Fr b [30, 47] W w') := fun W hW => rwrite_ok hW x.id x.s (by omega) HLE.out
  have HO1 := hid (write_ok (w.alloc (.cells #[i64 x.what, i64 x.id, i64 x.n, .string x.s] 32)).drew b P S x.id x.s (HV.out.ps.below ⟨rfl, rfl, rfl, Nat.le_refl _, fun _ _ => rfl⟩))
  generalize wrtE S x.id x.s.data.toList = E at *
  generalize wrtS S x.id x.s.data.toList = S2 at *
  clear HLE
  go_enter Try.func11, Try.ntmps11
  go_upto_region 12 with fail
  obtain ⟨X, hX⟩ : ∃ X, X = w.heap.size := ⟨_, rfl⟩
  rw [← hX] at HX ⊢
  clear hX
  generalize w.alloc (.cells #[i64 x.what, i64 x.id, i64 x.n, .string x.s] 32) = V at *
  have HS : Hid (V.drew.heap[X]? = some (.cells #[i64 x.what, i64 x.id, i64 x.n, .string x.s] 32)) := HX.out
  refine wp_region_noPanic ?_
  refine wp_region_last (fun W => W.heap[X]? = some (.cells #[i64 x.what, i64 x.id, i64 x.n, .string x.s] 32)) 13 (by kernel_rfl) ?_
  refine wpL_take 0 57 (pq P) [] rfl rfl (by kernel_rfl) (by decide) (by kernel_rfl) (by kernel_rfl) (by kernel_rfl) (fun _ _ _ h => h) HS.out (by rfl) (fun W hW => by go_simp) ?_
  simp only [Act.put, List.setIfInBounds_toArray, List.set_cons_zero, List.set_cons_succ]
  refine wpL_take 1 58 (.pointer (some ⟨X, 1, none⟩)) [] rfl rfl (by kernel_rfl) (by decide) (by kernel_rfl) (by kernel_rfl) (by kernel_rfl) (fun _ _ _ h => h) HS.out (by rfl) (fun W hW => by go_simp) ?_
  simp only [Act.put, List.setIfInBounds_toArray, List.set_cons_zero, List.set_cons_succ]
  refine wpL_take 2 59 (i64 x.id) [] rfl rfl (by kernel_rfl) (by decide) (by kernel_rfl) (by kernel_rfl) (by kernel_rfl) (fun _ _ _ h => h) HS.out (by rfl) (fun W hW => by have e : W.cell? ⟨X, 1, none⟩ = some (i64 x.id) := blk_cell hW 1; go_simp) ?_
  simp only [Act.put, List.setIfInBounds_toArray, List.set_cons_zero, List.set_cons_succ]
  refine wpL_take 3 60 (.pointer (some ⟨X, 3, none⟩)) [] rfl rfl (by kernel_rfl) (by decide) (by kernel_rfl) (by kernel_rfl) (by kernel_rfl) (fun _ _ _ h => h) HS.out (by rfl) (fun W hW => by go_simp) ?_
  simp only [Act.put, List.setIfInBounds_toArray, List.set_cons_zero, List.set_cons_succ]
  refine wpL_take 4 61 (.string x.s) [] rfl rfl (by kernel_rfl) (by decide) (by kernel_rfl) (by kernel_rfl) (by kernel_rfl) (fun _ _ _ h => h) HS.out (by rfl) (fun W hW => by have e : W.cell? ⟨X, 3, none⟩ = some (.string x.s) := blk_cell hW 3; go_simp) ?_
  simp only [Act.put, List.setIfInBounds_toArray, List.set_cons_zero, List.set_cons_succ]
  refine wpL_take 6 63 (pq r) [] rfl rfl (by kernel_rfl) (by decide) (by kernel_rfl) (by kernel_rfl) (by kernel_rfl) (fun _ _ _ h => h) HS.out (by rfl) (fun W hW => by go_simp) ?_
  simp only [Act.put, List.setIfInBounds_toArray, List.set_cons_zero, List.set_cons_succ]
  refine wpL_take 7 64 (.pointer (some ⟨X, 1, none⟩)) [] rfl rfl (by kernel_rfl) (by decide) (by kernel_rfl) (by kernel_rfl) (by kernel_rfl) (fun _ _ _ h => h) HS.out (by rfl) (fun W hW => by go_simp) ?_
  simp only [Act.put, List.setIfInBounds_toArray, List.set_cons_zero, List.set_cons_succ]
  refine wpL_take 8 65 (i64 x.id) [] rfl rfl (by kernel_rfl) (by decide) (by kernel_rfl) (by kernel_rfl) (by kernel_rfl) (fun _ _ _ h => h) HS.out (by rfl) (fun W hW => by have e : W.cell? ⟨X, 1, none⟩ = some (i64 x.id) := blk_cell hW 1; go_simp) ?_
  simp only [Act.put, List.setIfInBounds_toArray, List.set_cons_zero, List.set_cons_succ]
  refine wpL_take 9 66 (.pointer (some ⟨X, 3, none⟩)) [] rfl rfl (by kernel_rfl) (by decide) (by kernel_rfl) (by kernel_rfl) (by kernel_rfl) (fun _ _ _ h => h) HS.out (by rfl) (fun W hW => by go_simp) ?_
  simp only [Act.put, List.setIfInBounds_toArray, List.set_cons_zero, List.set_cons_succ]
  refine wpL_take 10 67 (.string x.s) [] rfl rfl (by kernel_rfl) (by decide) (by kernel_rfl) (by kernel_rfl) (by kernel_rfl) (fun _ _ _ h => h) HS.out (by rfl) (fun W hW => by have e : W.cell? ⟨X, 3, none⟩ = some (.string x.s) := blk_cell hW 3; go_simp) ?_
  simp only [Act.put, List.setIfInBounds_toArray, List.set_cons_zero, List.set_cons_succ]
  refine wpL_one 5 rfl (by kernel_rfl) (by rfl) (fun K hK => ?_)
  go_simp
  refine HO1.out.mono ?_
  rintro e w1 ⟨rfl, hp1, hf1⟩
  have HR1 : Hid (Rb w1 b r (lst S)) := Rb.fr (w := V.drew) ⟨HV.out.rb.lo, HV.out.rb.own⟩ hf1 rfl rfl
  have HP1 := hid hp1
  have HF1 : Hid (Fr b [57, 68, 30, 47] w w1) := HFV.out.trans (Fr.of_drewN (n := 1) (fr_more hf1))
  have HS1 : Hid (w1.heap[X]? = some (.cells #[i64 x.what, i64 x.id, i64 x.n, .string x.s] 32)) := hf1.kept _ _ HS.out rfl
  clear hp1 hf1
  go_simp
  refine hK.out _ _ (fun _ => HS1.out) ?_
  clear hK K
  refine wpL_one 11 rfl (by kernel_rfl) (by rfl) (fun K hK => ?_)
  go_simp
  refine (HO2.out w1 HR1.out).mono ?_
  rintro e w2 ⟨rfl, hr2, hf2⟩
  have HB2 : Hid (Bo w2 b P r S2) := ⟨HP1.out.fr hf2 rfl rfl, hr2⟩
  have HF2 : Hid (Fr b [57, 68, 30, 47] w w2) := HF1.out.trans (fr_more2 hf2)
  have HS2 : Hid (w2.heap[X]? = some (.cells #[i64 x.what, i64 x.id, i64 x.n, .string x.s] 32)) := hf2.kept _ _ HS1.out rfl
  clear hr2 hf2
  go_simp
  refine hK.out _ _ (fun _ => HS2.out) ?_
  clear hK K
  refine wpL_take 12 69 (.bool true) [] rfl rfl (by kernel_rfl) (by decide) (by kernel_rfl) (by kernel_rfl) (by kernel_rfl) (fun _ _ _ h => h) HS2.out (by rfl) (fun W hW => by go_simp) ?_
  simp only [Act.put, List.setIfInBounds_toArray, List.set_cons_zero, List.set_cons_succ]
  refine wpL_one 13 rfl (by kernel_rfl) (by rfl) (fun K hK => ?_)
  go_simp
  refine hK.out _ _ (fun h => absurd rfl h) ?_
  clear hK K
  refine wpL_done (by kernel_rfl) ?_
  refine NoPanic.normal ?_
  go_wp2_with fail
  go_ret
  exact ⟨rfl, HB2.out, HF2.out⟩
set_option maxRecDepth 100000 in
set_option maxHeartbeats 3200000 in
theorem does5 (w : World) (b P r : Nat) (S : St) (x : Sp) (h : Bo w b P r S) (hs : x.s.size ≤ 100) (hk : x.what = 5) : Calls Try.prog 11 #[pq P, pq r, .agg #[i64 x.what, i64 x.id, i64 x.n, .string x.s]] w fun e w' => e = .returned (.bool true) ∧ Bo w' b P r (wrtS S x.id x.s.data.toList) ∧ Fr b [57, 68, 30, 47] w w' := by
  have q0 : (x.what == 0) = false := by simp only [beq_eq_false_iff_ne]; omega
  have q1 : (x.what == 1) = false := by simp only [beq_eq_false_iff_ne]; omega
  have q2 : (x.what == 2) = false := by simp only [beq_eq_false_iff_ne]; omega
  have q3 : (x.what == 3) = false := by simp only [beq_eq_false_iff_ne]; omega
  have q4 : (x.what == 4) = false := by simp only [beq_eq_false_iff_ne]; omega
  have q5 : (x.what == 5) = true := by simp only [beq_iff_eq]; omega
  clear hk
  have HLE := hid h.le
  have HV : Hid (Bo (w.alloc (.cells #[i64 x.what, i64 x.id, i64 x.n, .string x.s] 32)) b P r S) := h.below (below_one w _)
  have HX : Hid ((w.alloc (.cells #[i64 x.what, i64 x.id, i64 x.n, .string x.s] 32)).heap[w.heap.size]? = some (.cells #[i64 x.what, i64 x.id, i64 x.n, .string x.s] 32)) := heap_last w _
  have HFV : Hid (Fr b [57, 68, 30, 47] w (w.alloc (.cells #[i64 x.what, i64 x.id, i64 x.n, .string x.s] 32))) := Fr.of_below _ (below_one w _) h.lob
  clear h
  have HO2 : Hid (∀ W, Rb W b r (lst S) → Calls Try.prog 23 #[pq r, i64 x.id, .string x.s] W fun e w' => e = .returned (i64 (wrtE S x.id x.s.data.toList)) ∧ Rb w' b r (lst (wrtS S x.id x.s.data.toList)) ∧ Fr b [30, 47] W w') := fun W hW => rwrite_ok hW x.id x.s (by omega) HLE.out
  have HO1 := hid (write_ok (w.alloc (.cells #[i64 x.what, i64 x.id, i64 x.n, .string x.s] 32)).drew b P S x.id x.s (HV.out.ps.below ⟨rfl, rfl, rfl, Nat.le_refl _, fun _ _ => rfl⟩))
  generalize wrtE S x.id x.s.data.toList = E at *
  generalize wrtS S x.id x.s.data.toList = S2 at *
  clear HLE
  go_enter Try.func11, Try.ntmps11
  go_upto_region 12 with fail
  obtain ⟨X, hX⟩ : ∃ X, X = w.heap.size := ⟨_, rfl⟩
  rw [← hX] at HX ⊢
  clear hX
  generalize w.alloc (.cells #[i64 x.what, i64 x.id, i64 x.n, .string x.s] 32) = V at *
  have HS : Hid (V.drew.heap[X]? = some (.cells #[i64 x.what, i64 x.id, i64 x.n, .string x.s] 32)) := HX.out
  refine wp_region_noPanic ?_
  refine wp_region_last (fun W => W.heap[X]? = some (.cells #[i64 x.what, i64 x.id, i64 x.n, .string x.s] 32)) 13 (by kernel_rfl) ?_
  refine wpL_take 0 57 (pq P) [] rfl rfl (by kernel_rfl) (by decide) (by kernel_rfl) (by kernel_rfl) (by kernel_rfl) (fun _ _ _ h => h) HS.out (by rfl) (fun W hW => by go_simp) ?_
  simp only [Act.put, List.setIfInBounds_toArray, List.set_cons_zero, List.set_cons_succ]
  refine wpL_take 1 58 (.pointer (some ⟨X, 1, none⟩)) [] rfl rfl (by kernel_rfl) (by decide) (by kernel_rfl) (by kernel_rfl) (by kernel_rfl) (fun _ _ _ h => h) HS.out (by rfl) (fun W hW => by go_simp) ?_
  simp only [Act.put, List.setIfInBounds_toArray, List.set_cons_zero, List.set_cons_succ]
  refine wpL_take 2 59 (i64 x.id) [] rfl rfl (by kernel_rfl) (by decide) (by kernel_rfl) (by kernel_rfl) (by kernel_rfl) (fun _ _ _ h => h) HS.out (by rfl) (fun W hW => by have e : W.cell? ⟨X, 1, none⟩ = some (i64 x.id) := blk_cell hW 1; go_simp) ?_
  simp only [Act.put, List.setIfInBounds_toArray, List.set_cons_zero, List.set_cons_succ]
  refine wpL_take 3 60 (.pointer (some ⟨X, 3, none⟩)) [] rfl rfl (by kernel_rfl) (by decide) (by kernel_rfl) (by kernel_rfl) (by kernel_rfl) (fun _ _ _ h => h) HS.out (by rfl) (fun W hW => by go_simp) ?_
  simp only [Act.put, List.setIfInBounds_toArray, List.set_cons_zero, List.set_cons_succ]
  refine wpL_take 4 61 (.string x.s) [] rfl rfl (by kernel_rfl) (by decide) (by kernel_rfl) (by kernel_rfl) (by kernel_rfl) (fun _ _ _ h => h) HS.out (by rfl) (fun W hW => by have e : W.cell? ⟨X, 3, none⟩ = some (.string x.s) := blk_cell hW 3; go_simp) ?_
  simp only [Act.put, List.setIfInBounds_toArray, List.set_cons_zero, List.set_cons_succ]
  refine wpL_take 6 63 (pq r) [] rfl rfl (by kernel_rfl) (by decide) (by kernel_rfl) (by kernel_rfl) (by kernel_rfl) (fun _ _ _ h => h) HS.out (by rfl) (fun W hW => by go_simp) ?_
  simp only [Act.put, List.setIfInBounds_toArray, List.set_cons_zero, List.set_cons_succ]
  refine wpL_take 7 64 (.pointer (some ⟨X, 1, none⟩)) [] rfl rfl (by kernel_rfl) (by decide) (by kernel_rfl) (by kernel_rfl) (by kernel_rfl) (fun _ _ _ h => h) HS.out (by rfl) (fun W hW => by go_simp) ?_
  simp only [Act.put, List.setIfInBounds_toArray, List.set_cons_zero, List.set_cons_succ]
  refine wpL_take 8 65 (i64 x.id) [] rfl rfl (by kernel_rfl) (by decide) (by kernel_rfl) (by kernel_rfl) (by kernel_rfl) (fun _ _ _ h => h) HS.out (by rfl) (fun W hW => by have e : W.cell? ⟨X, 1, none⟩ = some (i64 x.id) := blk_cell hW 1; go_simp) ?_
  simp only [Act.put, List.setIfInBounds_toArray, List.set_cons_zero, List.set_cons_succ]
  refine wpL_take 9 66 (.pointer (some ⟨X, 3, none⟩)) [] rfl rfl (by kernel_rfl) (by decide) (by kernel_rfl) (by kernel_rfl) (by kernel_rfl) (fun _ _ _ h => h) HS.out (by rfl) (fun W hW => by go_simp) ?_
  simp only [Act.put, List.setIfInBounds_toArray, List.set_cons_zero, List.set_cons_succ]
  refine wpL_take 10 67 (.string x.s) [] rfl rfl (by kernel_rfl) (by decide) (by kernel_rfl) (by kernel_rfl) (by kernel_rfl) (fun _ _ _ h => h) HS.out (by rfl) (fun W hW => by have e : W.cell? ⟨X, 3, none⟩ = some (.string x.s) := blk_cell hW 3; go_simp) ?_
  simp only [Act.put, List.setIfInBounds_toArray, List.set_cons_zero, List.set_cons_succ]
  refine wpL_one 5 rfl (by kernel_rfl) (by rfl) (fun K hK => ?_)
  go_simp
  refine HO1.out.mono ?_
  rintro e w1 ⟨rfl, hp1, hf1⟩
  have HR1 : Hid (Rb w1 b r (lst S)) := Rb.fr (w := V.drew) ⟨HV.out.rb.lo, HV.out.rb.own⟩ hf1 rfl rfl
  have HP1 := hid hp1
  have HF1 : Hid (Fr b [57, 68, 30, 47] w w1) := HFV.out.trans (Fr.of_drewN (n := 1) (fr_more hf1))
  have HS1 : Hid (w1.heap[X]? = some (.cells #[i64 x.what, i64 x.id, i64 x.n, .string x.s] 32)) := hf1.kept _ _ HS.out rfl
  clear hp1 hf1
  go_simp
  refine hK.out _ _ (fun _ => HS1.out) ?_
  clear hK K
  refine wpL_one 11 rfl (by kernel_rfl) (by rfl) (fun K hK => ?_)
  go_simp
  refine (HO2.out w1 HR1.out).mono ?_
  rintro e w2 ⟨rfl, hr2, hf2⟩
  have HB2 : Hid (Bo w2 b P r S2) := ⟨HP1.out.fr hf2 rfl rfl, hr2⟩
  have HF2 : Hid (Fr b [57, 68, 30, 47] w w2) := HF1.out.trans (fr_more2 hf2)
  have HS2 : Hid (w2.heap[X]? = some (.cells #[i64 x.what, i64 x.id, i64 x.n, .string x.s] 32)) := hf2.kept _ _ HS1.out rfl
  clear hr2 hf2
  go_simp
  refine hK.out _ _ (fun _ => HS2.out) ?_
  clear hK K
  refine wpL_take 12 69 (.bool true) [] rfl rfl (by kernel_rfl) (by decide) (by kernel_rfl) (by kernel_rfl) (by kernel_rfl) (fun _ _ _ h => h) HS2.out (by rfl) (fun W hW => by go_simp) ?_
  simp only [Act.put, List.setIfInBounds_toArray, List.set_cons_zero, List.set_cons_succ]
  refine wpL_one 13 rfl (by kernel_rfl) (by rfl) (fun K hK => ?_)
  go_simp
  refine hK.out _ _ (fun h => absurd rfl h) ?_
  clear hK K
  refine wpL_done (by kernel_rfl) ?_
  refine NoPanic.normal ?_
  go_wp2_with fail
  go_ret
  exact ⟨rfl, HB2.out, HF2.out⟩
set_option maxRecDepth 100000 in
set_option maxHeartbeats 3200000 in
theorem does6 (w : World) (b P r : Nat) (S : St) (x : Sp) (h : Bo w b P r S) (hk : x.what = 6) : Calls Try.prog 11 #[pq P, pq r, .agg #[i64 x.what, i64 x.id, i64 x.n, .string x.s]] w fun e w' => e = .returned (.bool true) ∧ Bo w' b P r (redS S x.id x.n) ∧ Fr b [57, 68, 30, 47] w w' := by
  have q0 : (x.what == 0) = false := by simp only [beq_eq_false_iff_ne]; omega
  have q1 : (x.what == 1) = false := by simp only [beq_eq_false_iff_ne]; omega
  have q2 : (x.what == 2) = false := by simp only [beq_eq_false_iff_ne]; omega
  have q3 : (x.what == 3) = false := by simp only [beq_eq_false_iff_ne]; omega
  have q4 : (x.what == 4) = false := by simp only [beq_eq_false_iff_ne]; omega
  have q5 : (x.what == 5) = false := by simp only [beq_eq_false_iff_ne]; omega
  have q6 : (x.what == 6) = true := by simp only [beq_iff_eq]; omega
  clear hk
  have HV : Hid (Bo (w.alloc (.cells #[i64 x.what, i64 x.id, i64 x.n, .string x.s] 32)) b P r S) := h.below (below_one w _)
  have HX : Hid ((w.alloc (.cells #[i64 x.what, i64 x.id, i64 x.n, .string x.s] 32)).heap[w.heap.size]? = some (.cells #[i64 x.what, i64 x.id, i64 x.n, .string x.s] 32)) := heap_last w _
  have HFV : Hid (Fr b [57, 68, 30, 47] w (w.alloc (.cells #[i64 x.what, i64 x.id, i64 x.n, .string x.s] 32))) := Fr.of_below _ (below_one w _) h.lob
  clear h
  have HO2 : Hid (∀ W, Rb W b r (lst S) → Calls Try.prog 24 #[pq r, i64 x.id, i64 x.n] W fun e w' => e = .returned (.tuple #[str (redT S x.id x.n), i64 (redE S x.id x.n)]) ∧ Rb w' b r (lst (redS S x.id x.n)) ∧ Fr b [30, 47] W w') := fun W hW => rread_ok hW x.id x.n
  have HO1 := hid (read_ok (w.alloc (.cells #[i64 x.what, i64 x.id, i64 x.n, .string x.s] 32)) b P S x.id x.n HV.out.ps)
  generalize redE S x.id x.n = E at *
  generalize redT S x.id x.n = Tx at *
  generalize redS S x.id x.n = S2 at *
  go_enter Try.func11, Try.ntmps11
  go_wp2_with fail
  refine HO1.out.mono ?_
  rintro e w1 ⟨rfl, hp1, hf1⟩
  have HR1 := hid (HV.out.rb.fr hf1 rfl rfl)
  have HP1 := hid hp1
  have HF1 : Hid (Fr b [57, 68, 30, 47] w w1) := HFV.out.trans (fr_more hf1)
  have HX1 : Hid (w1.heap[w.heap.size]? = some (.cells #[i64 x.what, i64 x.id, i64 x.n, .string x.s] 32)) := hf1.kept _ _ HX.out rfl
  have hz : w.heap.size < w1.heap.size := blk_lt HX1.out
  clear hp1 hf1
  have d1 : w1.cell? ⟨w.heap.size, 1, none⟩ = some (i64 x.id) := blk_cell HX1.out 1
  have d2 : w1.cell? ⟨w.heap.size, 2, none⟩ = some (i64 x.n) := blk_cell HX1.out 2
  go_wp2_with fail
  refine (HO2.out w1 HR1.out).mono ?_
  rintro e w2 ⟨rfl, hr2, hf2⟩
  have HB2 : Hid (Bo w2 b P r S2) := ⟨HP1.out.fr hf2 rfl rfl, hr2⟩
  have HF2 : Hid (Fr b [57, 68, 30, 47] w w2) := HF1.out.trans (fr_more2 hf2)
  clear hr2 hf2
  go_wp2_with fail
  go_ret
  exact ⟨rfl, HB2.out, HF2.out⟩
set_option maxRecDepth 100000 in
set_option maxHeartbeats 3200000 in
theorem does7 (w : World) (b P r : Nat) (S : St) (x : Sp) (h : Bo w b P r S) (hk : x.what = 7) : Calls Try.prog 11 #[pq P, pq r, .agg #[i64 x.what, i64 x.id, i64 x.n, .string x.s]] w fun e w' => e = .returned (.bool true) ∧ Bo w' b P r (redS S x.id x.n) ∧ Fr b [57, 68, 30, 47] w w' := by
  have q0 : (x.what == 0) = false := by simp only [beq_eq_false_iff_ne]; omega
  have q1 : (x.what == 1) = false := by simp only [beq_eq_false_iff_ne]; omega
  have q2 : (x.what == 2) = false := by simp only [beq_eq_false_iff_ne]; omega
  have q3 : (x.what == 3) = false := by simp only [beq_eq_false_iff_ne]; omega
  have q4 : (x.what == 4) = false := by simp only [beq_eq_false_iff_ne]; omega
  have q5 : (x.what == 5) = false := by simp only [beq_eq_false_iff_ne]; omega
  have q6 : (x.what == 6) = false := by simp only [beq_eq_false_iff_ne]; omega
  have q7 : (x.what == 7) = true := by simp only [beq_iff_eq]; omega
  clear hk
  have HV : Hid (Bo (w.alloc (.cells #[i64 x.what, i64 x.id, i64 x.n, .string x.s] 32)) b P r S) := h.below (below_one w _)
  have HX : Hid ((w.alloc (.cells #[i64 x.what, i64 x.id, i64 x.n, .string x.s] 32)).heap[w.heap.size]? = some (.cells #[i64 x.what, i64 x.id, i64 x.n, .string x.s] 32)) := heap_last w _
  have HFV : Hid (Fr b [57, 68, 30, 47] w (w.alloc (.cells #[i64 x.what, i64 x.id, i64 x.n, .string x.s] 32))) := Fr.of_below _ (below_one w _) h.lob
  clear h
  have HO2 : Hid (∀ W, Rb W b r (lst S) → Calls Try.prog 24 #[pq r, i64 x.id, i64 x.n] W fun e w' => e = .returned (.tuple #[str (redT S x.id x.n), i64 (redE S x.id x.n)]) ∧ Rb w' b r (lst (redS S x.id x.n)) ∧ Fr b [30, 47] W w') := fun W hW => rread_ok hW x.id x.n
  have HO1 := hid (read_ok (w.alloc (.cells #[i64 x.what, i64 x.id, i64 x.n, .string x.s] 32)) b P S x.id x.n HV.out.ps)
  generalize redE S x.id x.n = E at *
  generalize redT S x.id x.n = Tx at *
  generalize redS S x.id x.n = S2 at *
  go_enter Try.func11, Try.ntmps11
  go_wp2_with fail
  refine HO1.out.mono ?_
  rintro e w1 ⟨rfl, hp1, hf1⟩
  have HR1 := hid (HV.out.rb.fr hf1 rfl rfl)
  have HP1 := hid hp1
  have HF1 : Hid (Fr b [57, 68, 30, 47] w w1) := HFV.out.trans (fr_more hf1)
  have HX1 : Hid (w1.heap[w.heap.size]? = some (.cells #[i64 x.what, i64 x.id, i64 x.n, .string x.s] 32)) := hf1.kept _ _ HX.out rfl
  have hz : w.heap.size < w1.heap.size := blk_lt HX1.out
  clear hp1 hf1
  have d1 : w1.cell? ⟨w.heap.size, 1, none⟩ = some (i64 x.id) := blk_cell HX1.out 1
  have d2 : w1.cell? ⟨w.heap.size, 2, none⟩ = some (i64 x.n) := blk_cell HX1.out 2
  go_wp2_with fail
  refine (HO2.out w1 HR1.out).mono ?_
  rintro e w2 ⟨rfl, hr2, hf2⟩
  have HB2 : Hid (Bo w2 b P r S2) := ⟨HP1.out.fr hf2 rfl rfl, hr2⟩
  have HF2 : Hid (Fr b [57, 68, 30, 47] w w2) := HF1.out.trans (fr_more2 hf2)
  clear hr2 hf2
  go_wp2_with fail
  go_ret
  exact ⟨rfl, HB2.out, HF2.out⟩
set_option maxRecDepth 100000 in
set_option maxHeartbeats 3200000 in
theorem does8 (w : World) (b P r : Nat) (S : St) (x : Sp) (h : Bo w b P r S) (hk : x.what ≠ 0 ∧ x.what ≠ 1 ∧ x.what ≠ 2 ∧ x.what ≠ 3 ∧ x.what ≠ 4 ∧ x.what ≠ 5 ∧ x.what ≠ 6 ∧ x.what ≠ 7) : Calls Try.prog 11 #[pq P, pq r, .agg #[i64 x.what, i64 x.id, i64 x.n, .string x.s]] w fun e w' => e = .returned (.bool true) ∧ Bo w' b P r (S) ∧ Fr b [57, 68, 30, 47] w w' := by
  have q0 : (x.what == 0) = false := by simp only [beq_eq_false_iff_ne]; omega
  have q1 : (x.what == 1) = false := by simp only [beq_eq_false_iff_ne]; omega
  have q2 : (x.what == 2) = false := by simp only [beq_eq_false_iff_ne]; omega
  have q3 : (x.what == 3) = false := by simp only [beq_eq_false_iff_ne]; omega
  have q4 : (x.what == 4) = false := by simp only [beq_eq_false_iff_ne]; omega
  have q5 : (x.what == 5) = false := by simp only [beq_eq_false_iff_ne]; omega
  have q6 : (x.what == 6) = false := by simp only [beq_eq_false_iff_ne]; omega
  have q7 : (x.what == 7) = false := by simp only [beq_eq_false_iff_ne]; omega
  clear hk
  have HV : Hid (Bo (w.alloc (.cells #[i64 x.what, i64 x.id, i64 x.n, .string x.s] 32)) b P r S) := h.below (below_one w _)
  have HX : Hid ((w.alloc (.cells #[i64 x.what, i64 x.id, i64 x.n, .string x.s] 32)).heap[w.heap.size]? = some (.cells #[i64 x.what, i64 x.id, i64 x.n, .string x.s] 32)) := heap_last w _
  have HFV : Hid (Fr b [57, 68, 30, 47] w (w.alloc (.cells #[i64 x.what, i64 x.id, i64 x.n, .string x.s] 32))) := Fr.of_below _ (below_one w _) h.lob
  clear h
  have HO2 : Hid (∀ W, Rb W b r (lst S) → Calls Try.prog 25 #[pq r, i64 x.id] W fun e w' => e = .returned (.tuple #[i64 (wtsV S x.id), i64 (errA S x.id)]) ∧ Below W.heap.size W w') := fun W hW => rwaits_ok hW x.id
  have HO1 := hid (waits_ok (w.alloc (.cells #[i64 x.what, i64 x.id, i64 x.n, .string x.s] 32)) b P S x.id HV.out.ps)
  generalize errA S x.id = E at *
  generalize wtsV S x.id = A at *
  go_enter Try.func11, Try.ntmps11
  go_wp2_with fail
  refine HO1.out.mono ?_
  rintro e w1 ⟨rfl, hw⟩
  subst hw
  go_wp2_with fail
  refine (HO2.out _ HV.out.rb).mono ?_
  rintro e w2 ⟨rfl, hb2⟩
  have HB2 : Hid (Bo w2 b P r S) := HV.out.below hb2
  have HF2 : Hid (Fr b [57, 68, 30, 47] w w2) := HFV.out.trans (Fr.of_below _ hb2 HV.out.lob)
  clear hb2
  go_wp2_with fail
  go_ret
  exact ⟨rfl, HB2.out, HF2.out⟩
theorem does_ok (w : World) (b P r : Nat) (S : St) (x : Sp) (h : Bo w b P r S) (hs : x.s.size ≤ 100) : Calls Try.prog 11 #[pq P, pq r, .agg #[i64 x.what, i64 x.id, i64 x.n, .string x.s]] w fun e w' => e = .returned (.bool true) ∧ Bo w' b P r (stp S x) ∧ Fr b [57, 68, 30, 47] w w' := by
  unfold stp
  by_cases h01 : x.what = 0 ∨ x.what = 1
  · rw [if_pos h01]
    rcases h01 with h01 | h01
    · exact does0 w b P r S x h h01
    · exact does1 w b P r S x h h01
  rw [if_neg h01]
  by_cases h2 : x.what = 2
  · rw [if_pos h2]
    exact does2 w b P r S x h h2
  rw [if_neg h2]
  by_cases h3 : x.what = 3 ∨ x.what = 4 ∨ x.what = 5
  · rw [if_pos h3]
    rcases h3 with h3 | h3 | h3
    · exact does3 w b P r S x h hs h3
    · exact does4 w b P r S x h hs h3
    · exact does5 w b P r S x h hs h3
  rw [if_neg h3]
  by_cases h6 : x.what = 6 ∨ x.what = 7
  · rw [if_pos h6]
    rcases h6 with h6 | h6
    · exact does6 w b P r S x h h6
    · exact does7 w b P r S x h h6
  rw [if_neg h6]
  exact does8 w b P r S x h (by omega)
end Go.Proofs.Ytojhmiggocommaa
