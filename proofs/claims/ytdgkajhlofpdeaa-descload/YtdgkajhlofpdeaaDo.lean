/- does: both sides do a step alike; no statement is proved in this text. -/
import Derived.Test.YtdgkajhlofpdeaaDf
namespace Go.Proofs.Ytdgkajhlofpdeaa
open Go.ChangeShapes Go.WideShapes Go.ChangeAt Go.RowKit Go.Deep
attribute [local go_sem ↓] Go.wp_at_zero Go.wp_at_succ


theorem free_le (S : St) (p : Int) : free S p ≤ 6 := by
  unfold free
  repeat' split
  all_goals omega
theorem Ins.st {S : St} (h : Ins S) {p : Int} (hp : 1 ≤ p ∧ p ≤ 6) (t : Tr) : Ins (stS S p t) := by
  unfold stS
  split
  · exact h.upd _ _ ⟨hp.1, hp.2, by show (0 : Int) ≤ (free S p : Int); omega, by show (free S p : Int) ≤ 5; omega⟩
  · exact h
theorem Ins.add {S : St} (h : Ins S) (p a b : Int) : Ins (addS S p a b) := by
  unfold addS
  split
  · rename_i hr
    exact h.st ⟨(rightF_p hr).1, (rightF_p hr).2.1⟩ _
  · exact h
theorem Ins.seek {S : St} (h : Ins S) (k : K) (o : Int) : Ins (seekS S k o) := by
  unfold seekS
  rcases hS : S k with _ | t
  · exact h
  · simp only []
    split
    · exact h.upd _ _ (h _ _ hS)
    · exact h
theorem Ins.dup {S : St} (h : Ins S) (k : K) : Ins (dupS S k) := by
  unfold dupS
  rcases hS : S k with _ | t
  · exact h
  · exact h.st ⟨(h _ _ hS).1, (h _ _ hS).2.1⟩ t
theorem Ins.cls {S : St} (h : Ins S) (k : K) : Ins (clsS S k) := by
  unfold clsS
  split
  · exact h.del k
  · exact h
theorem Ins.drp {S : St} (h : Ins S) (p : Int) : Ins (drpS S p) := fun k t hk => h k t ((drpS_some h p k t).1 hk).1
def stp (S : St) (x : Sp) : St := if x.what = 0 ∨ x.what = 1 ∨ x.what = 2 then addS S x.pid x.kind x.obj else if x.what = 3 then seekS S (x.pid, x.slot) x.n else if x.what = 4 then dupS S (x.pid, x.slot) else if x.what = 5 then clsS S (x.pid, x.slot) else if x.what = 6 then forkS S x.pid x.n else if x.what = 7 then drpS S x.pid else S
/-- Both sides, in step. -/
structure Bo (w : World) (b P r : Nat) (S : St) : Prop where
  tb : Tb w b P S
  rb : Rb w b r (lst S)
  ins : Ins S
theorem Bo.below {w w' : World} {b P r : Nat} {S : St} (h : Bo w b P r S) (hb : Below w.heap.size w w') : Bo w' b P r S := ⟨h.tb.below hb, h.rb.below hb, h.ins⟩
theorem Bo.lob {w : World} {b P r : Nat} {S : St} (h : Bo w b P r S) : b ≤ w.heap.size := by have := h.tb.lo; have := h.tb.lt; omega
theorem fr_more {b : Nat} {w w' : World} (h : Fr b [61, 59] w w') : Fr b [61, 59, 29, 42] w w' := h.mono (fun o ho => by
  cases o with
  | cells C t f => simp only [keeps, Bool.not_eq_true', List.contains_eq_mem, decide_eq_false_iff_not, List.mem_cons, List.not_mem_nil, or_false, not_or] at ho ⊢; exact ⟨ho.1, ho.2.1⟩
  | map es c => exact absurd ho (by simp [keeps])
  | _ => rfl)
theorem fr_more2 {b : Nat} {w w' : World} (h : Fr b [29, 42] w w') : Fr b [61, 59, 29, 42] w w' := h.mono (fun o ho => by
  cases o with
  | cells C t f => simp only [keeps, Bool.not_eq_true', List.contains_eq_mem, decide_eq_false_iff_not, List.mem_cons, List.not_mem_nil, or_false, not_or] at ho ⊢; exact ⟨ho.2.2.1, ho.2.2.2⟩
  | map es c => exact absurd ho (by simp [keeps])
  | _ => rfl)
theorem six_cells {W : World} {X : Nat} {x : Sp} (h : W.heap[X]? = some (spO x)) : W.cell? ⟨X, 0, none⟩ = some (i64 x.what) ∧ W.cell? ⟨X, 1, none⟩ = some (i64 x.pid) ∧ W.cell? ⟨X, 2, none⟩ = some (i64 x.slot) ∧ W.cell? ⟨X, 3, none⟩ = some (i64 x.kind) ∧ W.cell? ⟨X, 4, none⟩ = some (i64 x.obj) ∧ W.cell? ⟨X, 5, none⟩ = some (i64 x.n) := ⟨blk_cell h 0, blk_cell h 1, blk_cell h 2, blk_cell h 3, blk_cell h 4, blk_cell h 5⟩
set_option maxRecDepth 100000 in
set_option maxHeartbeats 1600000 in
theorem does0 (w : World) (b P r : Nat) (S : St) (x : Sp) (h : Bo w b P r S) (hk : x.what = 0) : Calls Try.prog 11 #[pq P, pq r, x.v] w fun e w' => e = .returned (.bool true) ∧ Bo w' b P r (addS S x.pid x.kind x.obj) ∧ Fr b [61, 59, 29, 42] w w' := by
  have q0 : (x.what == 0) = true := by simp only [beq_iff_eq]; omega
  clear hk
  have hI := h.ins
  have HV : Hid (Bo (w.alloc (spO x)) b P r S) := h.below (below_one w _)
  have HX : Hid ((w.alloc (spO x)).heap[w.heap.size]? = some (spO x)) := heap_last w _
  have HFV : Hid (Fr b [61, 59, 29, 42] w (w.alloc (spO x))) := Fr.of_below _ (below_one w _) h.lob
  clear h
  have hz := zero42
  have HO1 := hid (add_ok (w.alloc (spO x)) b P S x.pid x.kind x.obj HV.out.tb)
  have HO2 := hid fun W hW => radd_ok (w := W) (base := b) (r := r) hW hI x.pid x.kind x.obj
  have HI2 : Hid (Ins (addS S x.pid x.kind x.obj)) := hI.add _ _ _
  generalize addI S x.pid x.kind x.obj = I1 at *
  generalize addE S x.pid x.kind x.obj = E1 at *
  generalize addS S x.pid x.kind x.obj = S2 at *
  clear hI
  go_enter Try.func11, Try.ntmps11
  go_wp2_with fail
  refine HO1.out.mono ?_
  rintro e w1 ⟨rfl, ht1, hf1⟩
  have HR1 := hid (HV.out.rb.fr hf1 rfl rfl)
  have HT1 := hid ht1
  have HX1 := hid (hf1.kept _ _ HX.out rfl)
  have HF1 : Hid (Fr b [61, 59, 29, 42] w w1) := HFV.out.trans (fr_more hf1)
  obtain ⟨y0, y1, y2, y3, y4, y5⟩ := six_cells HX1.out
  have HC := hid (HO2.out w1 HR1.out)
  clear ht1 hf1 HO1 HO2
  go_wp2_with fail
  refine HC.out.mono ?_
  rintro e w2 ⟨rfl, hr2, hf2⟩
  have HB2 : Hid (Bo w2 b P r _) := ⟨HT1.out.fr hf2 rfl rfl, hr2, HI2.out⟩
  have HF2 : Hid (Fr b [61, 59, 29, 42] w w2) := HF1.out.trans (fr_more2 hf2)
  clear hr2 hf2 HC
  go_wp2_with fail
  go_ret
  exact ⟨rfl, HB2.out, HF2.out⟩
set_option maxRecDepth 100000 in
set_option maxHeartbeats 1600000 in
theorem does1 (w : World) (b P r : Nat) (S : St) (x : Sp) (h : Bo w b P r S) (hk : x.what = 1) : Calls Try.prog 11 #[pq P, pq r, x.v] w fun e w' => e = .returned (.bool true) ∧ Bo w' b P r (addS S x.pid x.kind x.obj) ∧ Fr b [61, 59, 29, 42] w w' := by
  have q0 : (x.what == 0) = false := by simp only [beq_eq_false_iff_ne]; omega
  have q1 : (x.what == 1) = true := by simp only [beq_iff_eq]; omega
  clear hk
  have hI := h.ins
  have HV : Hid (Bo (w.alloc (spO x)) b P r S) := h.below (below_one w _)
  have HX : Hid ((w.alloc (spO x)).heap[w.heap.size]? = some (spO x)) := heap_last w _
  have HFV : Hid (Fr b [61, 59, 29, 42] w (w.alloc (spO x))) := Fr.of_below _ (below_one w _) h.lob
  clear h
  have hz := zero42
  have HO1 := hid (add_ok (w.alloc (spO x)) b P S x.pid x.kind x.obj HV.out.tb)
  have HO2 := hid fun W hW => radd_ok (w := W) (base := b) (r := r) hW hI x.pid x.kind x.obj
  have HI2 : Hid (Ins (addS S x.pid x.kind x.obj)) := hI.add _ _ _
  generalize addI S x.pid x.kind x.obj = I1 at *
  generalize addE S x.pid x.kind x.obj = E1 at *
  generalize addS S x.pid x.kind x.obj = S2 at *
  clear hI
  go_enter Try.func11, Try.ntmps11
  go_wp2_with fail
  refine HO1.out.mono ?_
  rintro e w1 ⟨rfl, ht1, hf1⟩
  have HR1 := hid (HV.out.rb.fr hf1 rfl rfl)
  have HT1 := hid ht1
  have HX1 := hid (hf1.kept _ _ HX.out rfl)
  have HF1 : Hid (Fr b [61, 59, 29, 42] w w1) := HFV.out.trans (fr_more hf1)
  obtain ⟨y0, y1, y2, y3, y4, y5⟩ := six_cells HX1.out
  have HC := hid (HO2.out w1 HR1.out)
  clear ht1 hf1 HO1 HO2
  go_wp2_with fail
  refine HC.out.mono ?_
  rintro e w2 ⟨rfl, hr2, hf2⟩
  have HB2 : Hid (Bo w2 b P r _) := ⟨HT1.out.fr hf2 rfl rfl, hr2, HI2.out⟩
  have HF2 : Hid (Fr b [61, 59, 29, 42] w w2) := HF1.out.trans (fr_more2 hf2)
  clear hr2 hf2 HC
  go_wp2_with fail
  go_ret
  exact ⟨rfl, HB2.out, HF2.out⟩
set_option maxRecDepth 100000 in
set_option maxHeartbeats 1600000 in
theorem does2 (w : World) (b P r : Nat) (S : St) (x : Sp) (h : Bo w b P r S) (hk : x.what = 2) : Calls Try.prog 11 #[pq P, pq r, x.v] w fun e w' => e = .returned (.bool true) ∧ Bo w' b P r (addS S x.pid x.kind x.obj) ∧ Fr b [61, 59, 29, 42] w w' := by
  have q0 : (x.what == 0) = false := by simp only [beq_eq_false_iff_ne]; omega
  have q1 : (x.what == 1) = false := by simp only [beq_eq_false_iff_ne]; omega
  have q2 : (x.what == 2) = true := by simp only [beq_iff_eq]; omega
  clear hk
  have hI := h.ins
  have HV : Hid (Bo (w.alloc (spO x)) b P r S) := h.below (below_one w _)
  have HX : Hid ((w.alloc (spO x)).heap[w.heap.size]? = some (spO x)) := heap_last w _
  have HFV : Hid (Fr b [61, 59, 29, 42] w (w.alloc (spO x))) := Fr.of_below _ (below_one w _) h.lob
  clear h
  have hz := zero42
  have HO1 := hid (add_ok (w.alloc (spO x)) b P S x.pid x.kind x.obj HV.out.tb)
  have HO2 := hid fun W hW => radd_ok (w := W) (base := b) (r := r) hW hI x.pid x.kind x.obj
  have HI2 : Hid (Ins (addS S x.pid x.kind x.obj)) := hI.add _ _ _
  generalize addI S x.pid x.kind x.obj = I1 at *
  generalize addE S x.pid x.kind x.obj = E1 at *
  generalize addS S x.pid x.kind x.obj = S2 at *
  clear hI
  go_enter Try.func11, Try.ntmps11
  go_wp2_with fail
  refine HO1.out.mono ?_
  rintro e w1 ⟨rfl, ht1, hf1⟩
  have HR1 := hid (HV.out.rb.fr hf1 rfl rfl)
  have HT1 := hid ht1
  have HX1 := hid (hf1.kept _ _ HX.out rfl)
  have HF1 : Hid (Fr b [61, 59, 29, 42] w w1) := HFV.out.trans (fr_more hf1)
  obtain ⟨y0, y1, y2, y3, y4, y5⟩ := six_cells HX1.out
  have HC := hid (HO2.out w1 HR1.out)
  clear ht1 hf1 HO1 HO2
  go_wp2_with fail
  refine HC.out.mono ?_
  rintro e w2 ⟨rfl, hr2, hf2⟩
  have HB2 : Hid (Bo w2 b P r _) := ⟨HT1.out.fr hf2 rfl rfl, hr2, HI2.out⟩
  have HF2 : Hid (Fr b [61, 59, 29, 42] w w2) := HF1.out.trans (fr_more2 hf2)
  clear hr2 hf2 HC
  go_wp2_with fail
  go_ret
  exact ⟨rfl, HB2.out, HF2.out⟩
set_option maxRecDepth 100000 in
set_option maxHeartbeats 1600000 in
theorem does4 (w : World) (b P r : Nat) (S : St) (x : Sp) (h : Bo w b P r S) (hk : x.what = 4) : Calls Try.prog 11 #[pq P, pq r, x.v] w fun e w' => e = .returned (.bool true) ∧ Bo w' b P r (dupS S (x.pid, x.slot)) ∧ Fr b [61, 59, 29, 42] w w' := by
  have q0 : (x.what == 0) = false := by simp only [beq_eq_false_iff_ne]; omega
  have q1 : (x.what == 1) = false := by simp only [beq_eq_false_iff_ne]; omega
  have q2 : (x.what == 2) = false := by simp only [beq_eq_false_iff_ne]; omega
  have q3 : (x.what == 3) = false := by simp only [beq_eq_false_iff_ne]; omega
  have q4 : (x.what == 4) = true := by simp only [beq_iff_eq]; omega
  clear hk
  have hI := h.ins
  have HV : Hid (Bo (w.alloc (spO x)) b P r S) := h.below (below_one w _)
  have HX : Hid ((w.alloc (spO x)).heap[w.heap.size]? = some (spO x)) := heap_last w _
  have HFV : Hid (Fr b [61, 59, 29, 42] w (w.alloc (spO x))) := Fr.of_below _ (below_one w _) h.lob
  clear h
  have HO1 := hid (dup_ok (w.alloc (spO x)) b P S x.pid x.slot HV.out.tb)
  have HO2 := hid fun W hW => rdup_ok (w := W) (base := b) (r := r) hW hI x.pid x.slot
  have HI2 : Hid (Ins (dupS S (x.pid, x.slot))) := hI.dup _
  generalize dupI S (x.pid, x.slot) = I1 at *
  generalize dupE S (x.pid, x.slot) = E1 at *
  generalize dupS S (x.pid, x.slot) = S2 at *
  clear hI
  go_enter Try.func11, Try.ntmps11
  go_wp2_with fail
  refine HO1.out.mono ?_
  rintro e w1 ⟨rfl, ht1, hf1⟩
  have HR1 := hid (HV.out.rb.fr hf1 rfl rfl)
  have HT1 := hid ht1
  have HX1 := hid (hf1.kept _ _ HX.out rfl)
  have HF1 : Hid (Fr b [61, 59, 29, 42] w w1) := HFV.out.trans (fr_more hf1)
  obtain ⟨y0, y1, y2, y3, y4, y5⟩ := six_cells HX1.out
  have HC := hid (HO2.out w1 HR1.out)
  clear ht1 hf1 HO1 HO2
  go_wp2_with fail
  refine HC.out.mono ?_
  rintro e w2 ⟨rfl, hr2, hf2⟩
  have HB2 : Hid (Bo w2 b P r _) := ⟨HT1.out.fr hf2 rfl rfl, hr2, HI2.out⟩
  have HF2 : Hid (Fr b [61, 59, 29, 42] w w2) := HF1.out.trans (fr_more2 hf2)
  clear hr2 hf2 HC
  go_wp2_with fail
  go_ret
  exact ⟨rfl, HB2.out, HF2.out⟩
set_option maxRecDepth 100000 in
set_option maxHeartbeats 1600000 in
theorem does3 (w : World) (b P r : Nat) (S : St) (x : Sp) (h : Bo w b P r S) (hk : x.what = 3) : Calls Try.prog 11 #[pq P, pq r, x.v] w fun e w' => e = .returned (.bool true) ∧ Bo w' b P r (seekS S (x.pid, x.slot) x.n) ∧ Fr b [61, 59, 29, 42] w w' := by
  have q0 : (x.what == 0) = false := by simp only [beq_eq_false_iff_ne]; omega
  have q1 : (x.what == 1) = false := by simp only [beq_eq_false_iff_ne]; omega
  have q2 : (x.what == 2) = false := by simp only [beq_eq_false_iff_ne]; omega
  have q3 : (x.what == 3) = true := by simp only [beq_iff_eq]; omega
  clear hk
  have hI := h.ins
  have HV : Hid (Bo (w.alloc (spO x)) b P r S) := h.below (below_one w _)
  have HX : Hid ((w.alloc (spO x)).heap[w.heap.size]? = some (spO x)) := heap_last w _
  have HFV : Hid (Fr b [61, 59, 29, 42] w (w.alloc (spO x))) := Fr.of_below _ (below_one w _) h.lob
  clear h
  have HO1 := hid (seek_ok (w.alloc (spO x)).drew b P S x.pid x.slot x.n (HV.out.tb.below ⟨rfl, rfl, rfl, Nat.le_refl _, fun _ _ => rfl⟩))
  have HO2 := hid fun W hW => rseek_ok (w := W) (base := b) (r := r) hW hI x.pid x.slot x.n
  have HI2 : Hid (Ins (seekS S (x.pid, x.slot) x.n)) := hI.seek _ _
  generalize seekE S (x.pid, x.slot) x.n = E1 at *
  generalize seekS S (x.pid, x.slot) x.n = S2 at *
  clear hI
  go_enter Try.func11, Try.ntmps11
  go_upto_region 9 with fail
  obtain ⟨X, hX⟩ : ∃ X, X = w.heap.size := ⟨_, rfl⟩
  rw [← hX] at HX ⊢
  clear hX
  generalize w.alloc (spO x) = V at *
  have HS : Hid (V.drew.heap[X]? = some (spO x)) := HX.out
  refine wp_region_noPanic ?_
  refine wp_region_last (fun W => W.heap[X]? = some (spO x)) 17 (by kernel_rfl) ?_
  refine wpL_take 0 54 (pq P) [] rfl rfl (by kernel_rfl) (by decide) (by kernel_rfl) (by kernel_rfl) (by kernel_rfl) (fun _ _ _ h => h) HS.out (by rfl) (fun W hW => by obtain ⟨y0, y1, y2, y3, y4, y5⟩ := six_cells hW; go_simp) ?_
  simp only [Act.put, List.setIfInBounds_toArray, List.set_cons_zero, List.set_cons_succ]
  refine wpL_take 1 55 (.pointer (some ⟨X, 1, none⟩)) [] rfl rfl (by kernel_rfl) (by decide) (by kernel_rfl) (by kernel_rfl) (by kernel_rfl) (fun _ _ _ h => h) HS.out (by rfl) (fun W hW => by obtain ⟨y0, y1, y2, y3, y4, y5⟩ := six_cells hW; go_simp) ?_
  simp only [Act.put, List.setIfInBounds_toArray, List.set_cons_zero, List.set_cons_succ]
  refine wpL_take 2 56 (i64 x.pid) [] rfl rfl (by kernel_rfl) (by decide) (by kernel_rfl) (by kernel_rfl) (by kernel_rfl) (fun _ _ _ h => h) HS.out (by rfl) (fun W hW => by obtain ⟨y0, y1, y2, y3, y4, y5⟩ := six_cells hW; go_simp) ?_
  simp only [Act.put, List.setIfInBounds_toArray, List.set_cons_zero, List.set_cons_succ]
  refine wpL_take 3 57 (.pointer (some ⟨X, 2, none⟩)) [] rfl rfl (by kernel_rfl) (by decide) (by kernel_rfl) (by kernel_rfl) (by kernel_rfl) (fun _ _ _ h => h) HS.out (by rfl) (fun W hW => by obtain ⟨y0, y1, y2, y3, y4, y5⟩ := six_cells hW; go_simp) ?_
  simp only [Act.put, List.setIfInBounds_toArray, List.set_cons_zero, List.set_cons_succ]
  refine wpL_take 4 58 (i64 x.slot) [] rfl rfl (by kernel_rfl) (by decide) (by kernel_rfl) (by kernel_rfl) (by kernel_rfl) (fun _ _ _ h => h) HS.out (by rfl) (fun W hW => by obtain ⟨y0, y1, y2, y3, y4, y5⟩ := six_cells hW; go_simp) ?_
  simp only [Act.put, List.setIfInBounds_toArray, List.set_cons_zero, List.set_cons_succ]
  refine wpL_take 5 59 (.pointer (some ⟨X, 5, none⟩)) [] rfl rfl (by kernel_rfl) (by decide) (by kernel_rfl) (by kernel_rfl) (by kernel_rfl) (fun _ _ _ h => h) HS.out (by rfl) (fun W hW => by obtain ⟨y0, y1, y2, y3, y4, y5⟩ := six_cells hW; go_simp) ?_
  simp only [Act.put, List.setIfInBounds_toArray, List.set_cons_zero, List.set_cons_succ]
  refine wpL_take 6 60 (i64 x.n) [] rfl rfl (by kernel_rfl) (by decide) (by kernel_rfl) (by kernel_rfl) (by kernel_rfl) (fun _ _ _ h => h) HS.out (by rfl) (fun W hW => by obtain ⟨y0, y1, y2, y3, y4, y5⟩ := six_cells hW; go_simp) ?_
  simp only [Act.put, List.setIfInBounds_toArray, List.set_cons_zero, List.set_cons_succ]
  refine wpL_take 8 62 (pq r) [] rfl rfl (by kernel_rfl) (by decide) (by kernel_rfl) (by kernel_rfl) (by kernel_rfl) (fun _ _ _ h => h) HS.out (by rfl) (fun W hW => by obtain ⟨y0, y1, y2, y3, y4, y5⟩ := six_cells hW; go_simp) ?_
  simp only [Act.put, List.setIfInBounds_toArray, List.set_cons_zero, List.set_cons_succ]
  refine wpL_take 9 63 (.pointer (some ⟨X, 1, none⟩)) [] rfl rfl (by kernel_rfl) (by decide) (by kernel_rfl) (by kernel_rfl) (by kernel_rfl) (fun _ _ _ h => h) HS.out (by rfl) (fun W hW => by obtain ⟨y0, y1, y2, y3, y4, y5⟩ := six_cells hW; go_simp) ?_
  simp only [Act.put, List.setIfInBounds_toArray, List.set_cons_zero, List.set_cons_succ]
  refine wpL_take 10 64 (i64 x.pid) [] rfl rfl (by kernel_rfl) (by decide) (by kernel_rfl) (by kernel_rfl) (by kernel_rfl) (fun _ _ _ h => h) HS.out (by rfl) (fun W hW => by obtain ⟨y0, y1, y2, y3, y4, y5⟩ := six_cells hW; go_simp) ?_
  simp only [Act.put, List.setIfInBounds_toArray, List.set_cons_zero, List.set_cons_succ]
  refine wpL_take 11 65 (.pointer (some ⟨X, 2, none⟩)) [] rfl rfl (by kernel_rfl) (by decide) (by kernel_rfl) (by kernel_rfl) (by kernel_rfl) (fun _ _ _ h => h) HS.out (by rfl) (fun W hW => by obtain ⟨y0, y1, y2, y3, y4, y5⟩ := six_cells hW; go_simp) ?_
  simp only [Act.put, List.setIfInBounds_toArray, List.set_cons_zero, List.set_cons_succ]
  refine wpL_take 12 66 (i64 x.slot) [] rfl rfl (by kernel_rfl) (by decide) (by kernel_rfl) (by kernel_rfl) (by kernel_rfl) (fun _ _ _ h => h) HS.out (by rfl) (fun W hW => by obtain ⟨y0, y1, y2, y3, y4, y5⟩ := six_cells hW; go_simp) ?_
  simp only [Act.put, List.setIfInBounds_toArray, List.set_cons_zero, List.set_cons_succ]
  refine wpL_take 13 67 (.pointer (some ⟨X, 5, none⟩)) [] rfl rfl (by kernel_rfl) (by decide) (by kernel_rfl) (by kernel_rfl) (by kernel_rfl) (fun _ _ _ h => h) HS.out (by rfl) (fun W hW => by obtain ⟨y0, y1, y2, y3, y4, y5⟩ := six_cells hW; go_simp) ?_
  simp only [Act.put, List.setIfInBounds_toArray, List.set_cons_zero, List.set_cons_succ]
  refine wpL_take 14 68 (i64 x.n) [] rfl rfl (by kernel_rfl) (by decide) (by kernel_rfl) (by kernel_rfl) (by kernel_rfl) (fun _ _ _ h => h) HS.out (by rfl) (fun W hW => by obtain ⟨y0, y1, y2, y3, y4, y5⟩ := six_cells hW; go_simp) ?_
  simp only [Act.put, List.setIfInBounds_toArray, List.set_cons_zero, List.set_cons_succ]
  refine wpL_one 7 rfl (by kernel_rfl) (by rfl) (fun K hK => ?_)
  go_simp
  refine HO1.out.mono ?_
  rintro e w1 ⟨rfl, ht1, hf1⟩
  have HR1 : Hid (Rb w1 b r (lst S)) := Rb.fr (w := V.drew) ⟨HV.out.rb.1, HV.out.rb.2⟩ hf1 rfl rfl
  have HT1 := hid ht1
  have HF1 : Hid (Fr b [61, 59, 29, 42] w w1) := HFV.out.trans (Fr.of_drewN (n := 1) (fr_more hf1))
  have HS1 : Hid (w1.heap[X]? = some (spO x)) := hf1.kept _ _ HS.out rfl
  clear ht1 hf1
  go_simp
  refine hK.out _ _ (fun _ => HS1.out) ?_
  clear hK K
  refine wpL_one 15 rfl (by kernel_rfl) (by rfl) (fun K hK => ?_)
  go_simp
  refine (HO2.out w1 HR1.out).mono ?_
  rintro e w2 ⟨rfl, hr2, hf2⟩
  have HB2 : Hid (Bo w2 b P r S2) := ⟨HT1.out.fr hf2 rfl rfl, hr2, HI2.out⟩
  have HF2 : Hid (Fr b [61, 59, 29, 42] w w2) := HF1.out.trans (fr_more2 hf2)
  have HS2 : Hid (w2.heap[X]? = some (spO x)) := hf2.kept _ _ HS1.out rfl
  clear hr2 hf2
  go_simp
  refine hK.out _ _ (fun _ => HS2.out) ?_
  clear hK K
  refine wpL_take 16 70 (.bool true) [] rfl rfl (by kernel_rfl) (by decide) (by kernel_rfl) (by kernel_rfl) (by kernel_rfl) (fun _ _ _ h => h) HS2.out (by rfl) (fun W hW => by go_simp) ?_
  simp only [Act.put, List.setIfInBounds_toArray, List.set_cons_zero, List.set_cons_succ]
  refine wpL_one 17 rfl (by kernel_rfl) (by rfl) (fun K hK => ?_)
  go_simp
  refine hK.out _ _ (fun h => absurd rfl h) ?_
  clear hK K
  refine wpL_done (by kernel_rfl) ?_
  refine NoPanic.normal ?_
  go_wp2_with fail
  go_ret
  exact ⟨rfl, HB2.out, HF2.out⟩
set_option maxRecDepth 100000 in
set_option maxHeartbeats 1600000 in
theorem does5 (w : World) (b P r : Nat) (S : St) (x : Sp) (h : Bo w b P r S) (hk : x.what = 5) : Calls Try.prog 11 #[pq P, pq r, x.v] w fun e w' => e = .returned (.bool true) ∧ Bo w' b P r (clsS S (x.pid, x.slot)) ∧ Fr b [61, 59, 29, 42] w w' := by
  have q0 : (x.what == 0) = false := by simp only [beq_eq_false_iff_ne]; omega
  have q1 : (x.what == 1) = false := by simp only [beq_eq_false_iff_ne]; omega
  have q2 : (x.what == 2) = false := by simp only [beq_eq_false_iff_ne]; omega
  have q3 : (x.what == 3) = false := by simp only [beq_eq_false_iff_ne]; omega
  have q4 : (x.what == 4) = false := by simp only [beq_eq_false_iff_ne]; omega
  have q5 : (x.what == 5) = true := by simp only [beq_iff_eq]; omega
  clear hk
  have hI := h.ins
  have HV : Hid (Bo (w.alloc (spO x)) b P r S) := h.below (below_one w _)
  have HX : Hid ((w.alloc (spO x)).heap[w.heap.size]? = some (spO x)) := heap_last w _
  have HFV : Hid (Fr b [61, 59, 29, 42] w (w.alloc (spO x))) := Fr.of_below _ (below_one w _) h.lob
  clear h
  have HO1 := hid (close_ok (w.alloc (spO x)).drew b P S x.pid x.slot (HV.out.tb.below ⟨rfl, rfl, rfl, Nat.le_refl _, fun _ _ => rfl⟩))
  have HO2 := hid fun W hW => rclose_ok (w := W) (base := b) (r := r) hW hI x.pid x.slot
  have HI2 : Hid (Ins (clsS S (x.pid, x.slot))) := hI.cls _
  generalize getE S (x.pid, x.slot) = E1 at *
  generalize clsS S (x.pid, x.slot) = S2 at *
  clear hI
  go_enter Try.func11, Try.ntmps11
  go_upto_region 15 with fail
  obtain ⟨X, hX⟩ : ∃ X, X = w.heap.size := ⟨_, rfl⟩
  rw [← hX] at HX ⊢
  clear hX
  generalize w.alloc (spO x) = V at *
  have HS : Hid (V.drew.heap[X]? = some (spO x)) := HX.out
  refine wp_region_noPanic ?_
  refine wp_region_last (fun W => W.heap[X]? = some (spO x)) 13 (by kernel_rfl) ?_
  refine wpL_take 0 101 (pq P) [] rfl rfl (by kernel_rfl) (by decide) (by kernel_rfl) (by kernel_rfl) (by kernel_rfl) (fun _ _ _ h => h) HS.out (by rfl) (fun W hW => by obtain ⟨y0, y1, y2, y3, y4, y5⟩ := six_cells hW; go_simp) ?_
  simp only [Act.put, List.setIfInBounds_toArray, List.set_cons_zero, List.set_cons_succ]
  refine wpL_take 1 102 (.pointer (some ⟨X, 1, none⟩)) [] rfl rfl (by kernel_rfl) (by decide) (by kernel_rfl) (by kernel_rfl) (by kernel_rfl) (fun _ _ _ h => h) HS.out (by rfl) (fun W hW => by obtain ⟨y0, y1, y2, y3, y4, y5⟩ := six_cells hW; go_simp) ?_
  simp only [Act.put, List.setIfInBounds_toArray, List.set_cons_zero, List.set_cons_succ]
  refine wpL_take 2 103 (i64 x.pid) [] rfl rfl (by kernel_rfl) (by decide) (by kernel_rfl) (by kernel_rfl) (by kernel_rfl) (fun _ _ _ h => h) HS.out (by rfl) (fun W hW => by obtain ⟨y0, y1, y2, y3, y4, y5⟩ := six_cells hW; go_simp) ?_
  simp only [Act.put, List.setIfInBounds_toArray, List.set_cons_zero, List.set_cons_succ]
  refine wpL_take 3 104 (.pointer (some ⟨X, 2, none⟩)) [] rfl rfl (by kernel_rfl) (by decide) (by kernel_rfl) (by kernel_rfl) (by kernel_rfl) (fun _ _ _ h => h) HS.out (by rfl) (fun W hW => by obtain ⟨y0, y1, y2, y3, y4, y5⟩ := six_cells hW; go_simp) ?_
  simp only [Act.put, List.setIfInBounds_toArray, List.set_cons_zero, List.set_cons_succ]
  refine wpL_take 4 105 (i64 x.slot) [] rfl rfl (by kernel_rfl) (by decide) (by kernel_rfl) (by kernel_rfl) (by kernel_rfl) (fun _ _ _ h => h) HS.out (by rfl) (fun W hW => by obtain ⟨y0, y1, y2, y3, y4, y5⟩ := six_cells hW; go_simp) ?_
  simp only [Act.put, List.setIfInBounds_toArray, List.set_cons_zero, List.set_cons_succ]
  refine wpL_take 6 107 (pq r) [] rfl rfl (by kernel_rfl) (by decide) (by kernel_rfl) (by kernel_rfl) (by kernel_rfl) (fun _ _ _ h => h) HS.out (by rfl) (fun W hW => by obtain ⟨y0, y1, y2, y3, y4, y5⟩ := six_cells hW; go_simp) ?_
  simp only [Act.put, List.setIfInBounds_toArray, List.set_cons_zero, List.set_cons_succ]
  refine wpL_take 7 108 (.pointer (some ⟨X, 1, none⟩)) [] rfl rfl (by kernel_rfl) (by decide) (by kernel_rfl) (by kernel_rfl) (by kernel_rfl) (fun _ _ _ h => h) HS.out (by rfl) (fun W hW => by obtain ⟨y0, y1, y2, y3, y4, y5⟩ := six_cells hW; go_simp) ?_
  simp only [Act.put, List.setIfInBounds_toArray, List.set_cons_zero, List.set_cons_succ]
  refine wpL_take 8 109 (i64 x.pid) [] rfl rfl (by kernel_rfl) (by decide) (by kernel_rfl) (by kernel_rfl) (by kernel_rfl) (fun _ _ _ h => h) HS.out (by rfl) (fun W hW => by obtain ⟨y0, y1, y2, y3, y4, y5⟩ := six_cells hW; go_simp) ?_
  simp only [Act.put, List.setIfInBounds_toArray, List.set_cons_zero, List.set_cons_succ]
  refine wpL_take 9 110 (.pointer (some ⟨X, 2, none⟩)) [] rfl rfl (by kernel_rfl) (by decide) (by kernel_rfl) (by kernel_rfl) (by kernel_rfl) (fun _ _ _ h => h) HS.out (by rfl) (fun W hW => by obtain ⟨y0, y1, y2, y3, y4, y5⟩ := six_cells hW; go_simp) ?_
  simp only [Act.put, List.setIfInBounds_toArray, List.set_cons_zero, List.set_cons_succ]
  refine wpL_take 10 111 (i64 x.slot) [] rfl rfl (by kernel_rfl) (by decide) (by kernel_rfl) (by kernel_rfl) (by kernel_rfl) (fun _ _ _ h => h) HS.out (by rfl) (fun W hW => by obtain ⟨y0, y1, y2, y3, y4, y5⟩ := six_cells hW; go_simp) ?_
  simp only [Act.put, List.setIfInBounds_toArray, List.set_cons_zero, List.set_cons_succ]
  refine wpL_one 5 rfl (by kernel_rfl) (by rfl) (fun K hK => ?_)
  go_simp
  refine HO1.out.mono ?_
  rintro e w1 ⟨rfl, ht1, hf1⟩
  have HR1 : Hid (Rb w1 b r (lst S)) := Rb.fr (w := V.drew) ⟨HV.out.rb.1, HV.out.rb.2⟩ hf1 rfl rfl
  have HT1 := hid ht1
  have HF1 : Hid (Fr b [61, 59, 29, 42] w w1) := HFV.out.trans (Fr.of_drewN (n := 1) (fr_more hf1))
  have HS1 : Hid (w1.heap[X]? = some (spO x)) := hf1.kept _ _ HS.out rfl
  clear ht1 hf1
  go_simp
  refine hK.out _ _ (fun _ => HS1.out) ?_
  clear hK K
  refine wpL_one 11 rfl (by kernel_rfl) (by rfl) (fun K hK => ?_)
  go_simp
  refine (HO2.out w1 HR1.out).mono ?_
  rintro e w2 ⟨rfl, hr2, hf2⟩
  have HB2 : Hid (Bo w2 b P r S2) := ⟨HT1.out.fr hf2 rfl rfl, hr2, HI2.out⟩
  have HF2 : Hid (Fr b [61, 59, 29, 42] w w2) := HF1.out.trans (fr_more2 hf2)
  have HS2 : Hid (w2.heap[X]? = some (spO x)) := hf2.kept _ _ HS1.out rfl
  clear hr2 hf2
  go_simp
  refine hK.out _ _ (fun _ => HS2.out) ?_
  clear hK K
  refine wpL_take 12 113 (.bool true) [] rfl rfl (by kernel_rfl) (by decide) (by kernel_rfl) (by kernel_rfl) (by kernel_rfl) (fun _ _ _ h => h) HS2.out (by rfl) (fun W hW => by go_simp) ?_
  simp only [Act.put, List.setIfInBounds_toArray, List.set_cons_zero, List.set_cons_succ]
  refine wpL_one 13 rfl (by kernel_rfl) (by rfl) (fun K hK => ?_)
  go_simp
  refine hK.out _ _ (fun h => absurd rfl h) ?_
  clear hK K
  refine wpL_done (by kernel_rfl) ?_
  refine NoPanic.normal ?_
  go_wp2_with fail
  go_ret
  exact ⟨rfl, HB2.out, HF2.out⟩
set_option maxRecDepth 100000 in
set_option maxHeartbeats 1600000 in
theorem does6 (w : World) (b P r : Nat) (S : St) (x : Sp) (h : Bo w b P r S) (hk : x.what = 6) : Calls Try.prog 11 #[pq P, pq r, x.v] w fun e w' => e = .returned (.bool true) ∧ Bo w' b P r (forkS S x.pid x.n) ∧ Fr b [61, 59, 29, 42] w w' := by
  have q0 : (x.what == 0) = false := by simp only [beq_eq_false_iff_ne]; omega
  have q1 : (x.what == 1) = false := by simp only [beq_eq_false_iff_ne]; omega
  have q2 : (x.what == 2) = false := by simp only [beq_eq_false_iff_ne]; omega
  have q3 : (x.what == 3) = false := by simp only [beq_eq_false_iff_ne]; omega
  have q4 : (x.what == 4) = false := by simp only [beq_eq_false_iff_ne]; omega
  have q5 : (x.what == 5) = false := by simp only [beq_eq_false_iff_ne]; omega
  have q6 : (x.what == 6) = true := by simp only [beq_iff_eq]; omega
  clear hk
  have hI := h.ins
  have HV : Hid (Bo (w.alloc (spO x)) b P r S) := h.below (below_one w _)
  have HX : Hid ((w.alloc (spO x)).heap[w.heap.size]? = some (spO x)) := heap_last w _
  have HFV : Hid (Fr b [61, 59, 29, 42] w (w.alloc (spO x))) := Fr.of_below _ (below_one w _) h.lob
  clear h
  have HO1 := hid (fork_ok (w.alloc (spO x)).drew b P S x.pid x.n (HV.out.tb.below ⟨rfl, rfl, rfl, Nat.le_refl _, fun _ _ => rfl⟩))
  have HO2 := hid fun W hW => rfork_ok (w := W) (base := b) (r := r) hW hI x.pid x.n
  have HI2 : Hid (Ins (forkS S x.pid x.n)) := hI.fork _ _
  generalize forkE S x.pid x.n = E1 at *
  generalize forkS S x.pid x.n = S2 at *
  clear hI
  go_enter Try.func11, Try.ntmps11
  go_upto_region 17 with fail
  obtain ⟨X, hX⟩ : ∃ X, X = w.heap.size := ⟨_, rfl⟩
  rw [← hX] at HX ⊢
  clear hX
  generalize w.alloc (spO x) = V at *
  have HS : Hid (V.drew.heap[X]? = some (spO x)) := HX.out
  refine wp_region_noPanic ?_
  refine wp_region_last (fun W => W.heap[X]? = some (spO x)) 13 (by kernel_rfl) ?_
  refine wpL_take 0 116 (pq P) [] rfl rfl (by kernel_rfl) (by decide) (by kernel_rfl) (by kernel_rfl) (by kernel_rfl) (fun _ _ _ h => h) HS.out (by rfl) (fun W hW => by obtain ⟨y0, y1, y2, y3, y4, y5⟩ := six_cells hW; go_simp) ?_
  simp only [Act.put, List.setIfInBounds_toArray, List.set_cons_zero, List.set_cons_succ]
  refine wpL_take 1 117 (.pointer (some ⟨X, 1, none⟩)) [] rfl rfl (by kernel_rfl) (by decide) (by kernel_rfl) (by kernel_rfl) (by kernel_rfl) (fun _ _ _ h => h) HS.out (by rfl) (fun W hW => by obtain ⟨y0, y1, y2, y3, y4, y5⟩ := six_cells hW; go_simp) ?_
  simp only [Act.put, List.setIfInBounds_toArray, List.set_cons_zero, List.set_cons_succ]
  refine wpL_take 2 118 (i64 x.pid) [] rfl rfl (by kernel_rfl) (by decide) (by kernel_rfl) (by kernel_rfl) (by kernel_rfl) (fun _ _ _ h => h) HS.out (by rfl) (fun W hW => by obtain ⟨y0, y1, y2, y3, y4, y5⟩ := six_cells hW; go_simp) ?_
  simp only [Act.put, List.setIfInBounds_toArray, List.set_cons_zero, List.set_cons_succ]
  refine wpL_take 3 119 (.pointer (some ⟨X, 5, none⟩)) [] rfl rfl (by kernel_rfl) (by decide) (by kernel_rfl) (by kernel_rfl) (by kernel_rfl) (fun _ _ _ h => h) HS.out (by rfl) (fun W hW => by obtain ⟨y0, y1, y2, y3, y4, y5⟩ := six_cells hW; go_simp) ?_
  simp only [Act.put, List.setIfInBounds_toArray, List.set_cons_zero, List.set_cons_succ]
  refine wpL_take 4 120 (i64 x.n) [] rfl rfl (by kernel_rfl) (by decide) (by kernel_rfl) (by kernel_rfl) (by kernel_rfl) (fun _ _ _ h => h) HS.out (by rfl) (fun W hW => by obtain ⟨y0, y1, y2, y3, y4, y5⟩ := six_cells hW; go_simp) ?_
  simp only [Act.put, List.setIfInBounds_toArray, List.set_cons_zero, List.set_cons_succ]
  refine wpL_take 6 122 (pq r) [] rfl rfl (by kernel_rfl) (by decide) (by kernel_rfl) (by kernel_rfl) (by kernel_rfl) (fun _ _ _ h => h) HS.out (by rfl) (fun W hW => by obtain ⟨y0, y1, y2, y3, y4, y5⟩ := six_cells hW; go_simp) ?_
  simp only [Act.put, List.setIfInBounds_toArray, List.set_cons_zero, List.set_cons_succ]
  refine wpL_take 7 123 (.pointer (some ⟨X, 1, none⟩)) [] rfl rfl (by kernel_rfl) (by decide) (by kernel_rfl) (by kernel_rfl) (by kernel_rfl) (fun _ _ _ h => h) HS.out (by rfl) (fun W hW => by obtain ⟨y0, y1, y2, y3, y4, y5⟩ := six_cells hW; go_simp) ?_
  simp only [Act.put, List.setIfInBounds_toArray, List.set_cons_zero, List.set_cons_succ]
  refine wpL_take 8 124 (i64 x.pid) [] rfl rfl (by kernel_rfl) (by decide) (by kernel_rfl) (by kernel_rfl) (by kernel_rfl) (fun _ _ _ h => h) HS.out (by rfl) (fun W hW => by obtain ⟨y0, y1, y2, y3, y4, y5⟩ := six_cells hW; go_simp) ?_
  simp only [Act.put, List.setIfInBounds_toArray, List.set_cons_zero, List.set_cons_succ]
  refine wpL_take 9 125 (.pointer (some ⟨X, 5, none⟩)) [] rfl rfl (by kernel_rfl) (by decide) (by kernel_rfl) (by kernel_rfl) (by kernel_rfl) (fun _ _ _ h => h) HS.out (by rfl) (fun W hW => by obtain ⟨y0, y1, y2, y3, y4, y5⟩ := six_cells hW; go_simp) ?_
  simp only [Act.put, List.setIfInBounds_toArray, List.set_cons_zero, List.set_cons_succ]
  refine wpL_take 10 126 (i64 x.n) [] rfl rfl (by kernel_rfl) (by decide) (by kernel_rfl) (by kernel_rfl) (by kernel_rfl) (fun _ _ _ h => h) HS.out (by rfl) (fun W hW => by obtain ⟨y0, y1, y2, y3, y4, y5⟩ := six_cells hW; go_simp) ?_
  simp only [Act.put, List.setIfInBounds_toArray, List.set_cons_zero, List.set_cons_succ]
  refine wpL_one 5 rfl (by kernel_rfl) (by rfl) (fun K hK => ?_)
  go_simp
  refine HO1.out.mono ?_
  rintro e w1 ⟨rfl, ht1, hf1⟩
  have HR1 : Hid (Rb w1 b r (lst S)) := Rb.fr (w := V.drew) ⟨HV.out.rb.1, HV.out.rb.2⟩ hf1 rfl rfl
  have HT1 := hid ht1
  have HF1 : Hid (Fr b [61, 59, 29, 42] w w1) := HFV.out.trans (Fr.of_drewN (n := 1) (fr_more hf1))
  have HS1 : Hid (w1.heap[X]? = some (spO x)) := hf1.kept _ _ HS.out rfl
  clear ht1 hf1
  go_simp
  refine hK.out _ _ (fun _ => HS1.out) ?_
  clear hK K
  refine wpL_one 11 rfl (by kernel_rfl) (by rfl) (fun K hK => ?_)
  go_simp
  refine (HO2.out w1 HR1.out).mono ?_
  rintro e w2 ⟨rfl, hr2, hf2⟩
  have HB2 : Hid (Bo w2 b P r S2) := ⟨HT1.out.fr hf2 rfl rfl, hr2, HI2.out⟩
  have HF2 : Hid (Fr b [61, 59, 29, 42] w w2) := HF1.out.trans (fr_more2 hf2)
  have HS2 : Hid (w2.heap[X]? = some (spO x)) := hf2.kept _ _ HS1.out rfl
  clear hr2 hf2
  go_simp
  refine hK.out _ _ (fun _ => HS2.out) ?_
  clear hK K
  refine wpL_take 12 128 (.bool true) [] rfl rfl (by kernel_rfl) (by decide) (by kernel_rfl) (by kernel_rfl) (by kernel_rfl) (fun _ _ _ h => h) HS2.out (by rfl) (fun W hW => by go_simp) ?_
  simp only [Act.put, List.setIfInBounds_toArray, List.set_cons_zero, List.set_cons_succ]
  refine wpL_one 13 rfl (by kernel_rfl) (by rfl) (fun K hK => ?_)
  go_simp
  refine hK.out _ _ (fun h => absurd rfl h) ?_
  clear hK K
  refine wpL_done (by kernel_rfl) ?_
  refine NoPanic.normal ?_
  go_wp2_with fail
  go_ret
  exact ⟨rfl, HB2.out, HF2.out⟩
set_option maxRecDepth 100000 in
set_option maxHeartbeats 1600000 in
theorem does7 (w : World) (b P r : Nat) (S : St) (x : Sp) (h : Bo w b P r S) (hk : x.what = 7) : Calls Try.prog 11 #[pq P, pq r, x.v] w fun e w' => e = .returned (.bool true) ∧ Bo w' b P r (drpS S x.pid) ∧ Fr b [61, 59, 29, 42] w w' := by
  have q0 : (x.what == 0) = false := by simp only [beq_eq_false_iff_ne]; omega
  have q1 : (x.what == 1) = false := by simp only [beq_eq_false_iff_ne]; omega
  have q2 : (x.what == 2) = false := by simp only [beq_eq_false_iff_ne]; omega
  have q3 : (x.what == 3) = false := by simp only [beq_eq_false_iff_ne]; omega
  have q4 : (x.what == 4) = false := by simp only [beq_eq_false_iff_ne]; omega
  have q5 : (x.what == 5) = false := by simp only [beq_eq_false_iff_ne]; omega
  have q6 : (x.what == 6) = false := by simp only [beq_eq_false_iff_ne]; omega
  have q7 : (x.what == 7) = true := by simp only [beq_iff_eq]; omega
  clear hk
  have hI := h.ins
  have HV : Hid (Bo (w.alloc (spO x)) b P r S) := h.below (below_one w _)
  have HX : Hid ((w.alloc (spO x)).heap[w.heap.size]? = some (spO x)) := heap_last w _
  have HFV : Hid (Fr b [61, 59, 29, 42] w (w.alloc (spO x))) := Fr.of_below _ (below_one w _) h.lob
  clear h
  have HO1 := hid (drop_ok (w.alloc (spO x)).drew b P S x.pid (HV.out.tb.below ⟨rfl, rfl, rfl, Nat.le_refl _, fun _ _ => rfl⟩))
  have HO2 := hid fun W hW => rdrop_ok (w := W) (base := b) (r := r) hW hI x.pid
  have HI2 : Hid (Ins (drpS S x.pid)) := hI.drp _
  generalize (ofL S x.pid).length = E1 at *
  generalize drpS S x.pid = S2 at *
  clear hI
  go_enter Try.func11, Try.ntmps11
  go_upto_region 19 with fail
  obtain ⟨X, hX⟩ : ∃ X, X = w.heap.size := ⟨_, rfl⟩
  rw [← hX] at HX ⊢
  clear hX
  generalize w.alloc (spO x) = V at *
  have HS : Hid (V.drew.heap[X]? = some (spO x)) := HX.out
  refine wp_region_noPanic ?_
  refine wp_region_last (fun W => W.heap[X]? = some (spO x)) 9 (by kernel_rfl) ?_
  refine wpL_take 0 131 (pq P) [] rfl rfl (by kernel_rfl) (by decide) (by kernel_rfl) (by kernel_rfl) (by kernel_rfl) (fun _ _ _ h => h) HS.out (by rfl) (fun W hW => by obtain ⟨y0, y1, y2, y3, y4, y5⟩ := six_cells hW; go_simp) ?_
  simp only [Act.put, List.setIfInBounds_toArray, List.set_cons_zero, List.set_cons_succ]
  refine wpL_take 1 132 (.pointer (some ⟨X, 1, none⟩)) [] rfl rfl (by kernel_rfl) (by decide) (by kernel_rfl) (by kernel_rfl) (by kernel_rfl) (fun _ _ _ h => h) HS.out (by rfl) (fun W hW => by obtain ⟨y0, y1, y2, y3, y4, y5⟩ := six_cells hW; go_simp) ?_
  simp only [Act.put, List.setIfInBounds_toArray, List.set_cons_zero, List.set_cons_succ]
  refine wpL_take 2 133 (i64 x.pid) [] rfl rfl (by kernel_rfl) (by decide) (by kernel_rfl) (by kernel_rfl) (by kernel_rfl) (fun _ _ _ h => h) HS.out (by rfl) (fun W hW => by obtain ⟨y0, y1, y2, y3, y4, y5⟩ := six_cells hW; go_simp) ?_
  simp only [Act.put, List.setIfInBounds_toArray, List.set_cons_zero, List.set_cons_succ]
  refine wpL_take 4 135 (pq r) [] rfl rfl (by kernel_rfl) (by decide) (by kernel_rfl) (by kernel_rfl) (by kernel_rfl) (fun _ _ _ h => h) HS.out (by rfl) (fun W hW => by obtain ⟨y0, y1, y2, y3, y4, y5⟩ := six_cells hW; go_simp) ?_
  simp only [Act.put, List.setIfInBounds_toArray, List.set_cons_zero, List.set_cons_succ]
  refine wpL_take 5 136 (.pointer (some ⟨X, 1, none⟩)) [] rfl rfl (by kernel_rfl) (by decide) (by kernel_rfl) (by kernel_rfl) (by kernel_rfl) (fun _ _ _ h => h) HS.out (by rfl) (fun W hW => by obtain ⟨y0, y1, y2, y3, y4, y5⟩ := six_cells hW; go_simp) ?_
  simp only [Act.put, List.setIfInBounds_toArray, List.set_cons_zero, List.set_cons_succ]
  refine wpL_take 6 137 (i64 x.pid) [] rfl rfl (by kernel_rfl) (by decide) (by kernel_rfl) (by kernel_rfl) (by kernel_rfl) (fun _ _ _ h => h) HS.out (by rfl) (fun W hW => by obtain ⟨y0, y1, y2, y3, y4, y5⟩ := six_cells hW; go_simp) ?_
  simp only [Act.put, List.setIfInBounds_toArray, List.set_cons_zero, List.set_cons_succ]
  refine wpL_one 3 rfl (by kernel_rfl) (by rfl) (fun K hK => ?_)
  go_simp
  refine HO1.out.mono ?_
  rintro e w1 ⟨rfl, ht1, hf1⟩
  have HR1 : Hid (Rb w1 b r (lst S)) := Rb.fr (w := V.drew) ⟨HV.out.rb.1, HV.out.rb.2⟩ hf1 rfl rfl
  have HT1 := hid ht1
  have HF1 : Hid (Fr b [61, 59, 29, 42] w w1) := HFV.out.trans (Fr.of_drewN (n := 1) (fr_more hf1))
  have HS1 : Hid (w1.heap[X]? = some (spO x)) := hf1.kept _ _ HS.out rfl
  clear ht1 hf1
  go_simp
  refine hK.out _ _ (fun _ => HS1.out) ?_
  clear hK K
  refine wpL_one 7 rfl (by kernel_rfl) (by rfl) (fun K hK => ?_)
  go_simp
  refine (HO2.out w1 HR1.out).mono ?_
  rintro e w2 ⟨rfl, hr2, hf2⟩
  have HB2 : Hid (Bo w2 b P r S2) := ⟨HT1.out.fr hf2 rfl rfl, hr2, HI2.out⟩
  have HF2 : Hid (Fr b [61, 59, 29, 42] w w2) := HF1.out.trans (fr_more2 hf2)
  have HS2 : Hid (w2.heap[X]? = some (spO x)) := hf2.kept _ _ HS1.out rfl
  clear hr2 hf2
  go_simp
  refine hK.out _ _ (fun _ => HS2.out) ?_
  clear hK K
  refine wpL_take 8 139 (.bool true) [] rfl rfl (by kernel_rfl) (by decide) (by kernel_rfl) (by kernel_rfl) (by kernel_rfl) (fun _ _ _ h => h) HS2.out (by rfl) (fun W hW => by go_simp) ?_
  simp only [Act.put, List.setIfInBounds_toArray, List.set_cons_zero, List.set_cons_succ]
  refine wpL_one 9 rfl (by kernel_rfl) (by rfl) (fun K hK => ?_)
  go_simp
  refine hK.out _ _ (fun h => absurd rfl h) ?_
  clear hK K
  refine wpL_done (by kernel_rfl) ?_
  refine NoPanic.normal ?_
  go_wp2_with fail
  go_ret
  exact ⟨rfl, HB2.out, HF2.out⟩
set_option maxRecDepth 100000 in
set_option maxHeartbeats 1600000 in
theorem does8 (w : World) (b P r : Nat) (S : St) (x : Sp) (h : Bo w b P r S) (hk : ¬ (0 ≤ x.what ∧ x.what ≤ 7)) : Calls Try.prog 11 #[pq P, pq r, x.v] w fun e w' => e = .returned (.bool true) ∧ Bo w' b P r (S) ∧ Fr b [61, 59, 29, 42] w w' := by
  have q0 : (x.what == 0) = false := by simp only [beq_eq_false_iff_ne]; omega
  have q1 : (x.what == 1) = false := by simp only [beq_eq_false_iff_ne]; omega
  have q2 : (x.what == 2) = false := by simp only [beq_eq_false_iff_ne]; omega
  have q3 : (x.what == 3) = false := by simp only [beq_eq_false_iff_ne]; omega
  have q4 : (x.what == 4) = false := by simp only [beq_eq_false_iff_ne]; omega
  have q5 : (x.what == 5) = false := by simp only [beq_eq_false_iff_ne]; omega
  have q6 : (x.what == 6) = false := by simp only [beq_eq_false_iff_ne]; omega
  have q7 : (x.what == 7) = false := by simp only [beq_eq_false_iff_ne]; omega
  clear hk
  have HV : Hid (Bo (w.alloc (spO x)) b P r S) := h.below (below_one w _)
  have HX : Hid ((w.alloc (spO x)).heap[w.heap.size]? = some (spO x)) := heap_last w _
  have HFV : Hid (Fr b [61, 59, 29, 42] w (w.alloc (spO x))) := Fr.of_below _ (below_one w _) h.lob
  clear h
  go_enter Try.func11, Try.ntmps11
  go_wp2_with fail
  go_ret
  exact ⟨rfl, HV.out, HFV.out⟩
theorem does_ok (w : World) (b P r : Nat) (S : St) (x : Sp) (h : Bo w b P r S) : Calls Try.prog 11 #[pq P, pq r, x.v] w fun e w' => e = .returned (.bool true) ∧ Bo w' b P r (stp S x) ∧ Fr b [61, 59, 29, 42] w w' := by
  unfold stp
  by_cases h0 : x.what = 0
  · rw [if_pos (.inl h0)]
    exact does0 w b P r S x h h0
  by_cases h1 : x.what = 1
  · rw [if_pos (.inr (.inl h1))]
    exact does1 w b P r S x h h1
  by_cases h2 : x.what = 2
  · rw [if_pos (.inr (.inr h2))]
    exact does2 w b P r S x h h2
  rw [if_neg (by omega)]
  by_cases h3 : x.what = 3
  · rw [if_pos h3]
    exact does3 w b P r S x h h3
  rw [if_neg h3]
  by_cases h4 : x.what = 4
  · rw [if_pos h4]
    exact does4 w b P r S x h h4
  rw [if_neg h4]
  by_cases h5 : x.what = 5
  · rw [if_pos h5]
    exact does5 w b P r S x h h5
  rw [if_neg h5]
  by_cases h6 : x.what = 6
  · rw [if_pos h6]
    exact does6 w b P r S x h h6
  rw [if_neg h6]
  by_cases h7 : x.what = 7
  · rw [if_pos h7]
    exact does7 w b P r S x h h7
  rw [if_neg h7]
  exact does8 w b P r S x h (by omega)
end Go.Proofs.Ytdgkajhlofpdeaa
