/- does: both sides do a step alike; no statement is proved in this text. -/
import Derived.Test.YtaapiffglfppnaaTx
import Derived.Test.YtaapiffglfppnaaArgs
namespace Go.Proofs.Ytaapiffglfppnaa
open Go.ChangeShapes Go.WideShapes Go.ChangeAt Go.RowKit Go.Deep
attribute [local go_sem ↓] Go.wp_at_zero Go.wp_at_succ

/-- The table and the document's, side by side. -/
structure Bs (W : World) (t b r : Nat) (A : Tab) (V : Nat → Op4) : Prop where
  jn : Jn A V
  tg : Tg W t A V
  rt : Rt W b r (opL A V) (slL A V)
  le : t ≤ b
theorem Bs.below {W W' : World} {t b r : Nat} {A : Tab} {V : Nat → Op4} (h : Bs W t b r A V) (hb : Below W.heap.size W W') : Bs W' t b r A V := ⟨h.jn, h.tg.below hb, h.rt.below hb, h.le⟩
theorem Bs.lob {W : World} {t b r : Nat} {A : Tab} {V : Nat → Op4} (h : Bs W t b r A V) : t ≤ W.heap.size := Nat.le_of_lt h.tg.lt
theorem Bs.drew {W : World} {t b r : Nat} {A : Tab} {V : Nat → Op4} (h : Bs W t b r A V) : Bs W.drew t b r A V := ⟨h.jn, h.tg.drew, h.rt.drew, h.le⟩
def BsX (W : World) (t b r : Nat) : Prop := ∃ A V, Bs W t b r A V
theorem BsX.below {W W' : World} {t b r : Nat} (h : BsX W t b r) (hb : Below W.heap.size W W') : BsX W' t b r := by
  obtain ⟨A, V, h⟩ := h
  exact ⟨A, V, h.below hb⟩
theorem BsX.lob {W : World} {t b r : Nat} (h : BsX W t b r) : t ≤ W.heap.size := by
  obtain ⟨A, V, h⟩ := h
  exact h.lob
theorem BsX.drew {W : World} {t b r : Nat} (h : BsX W t b r) : BsX W.drew t b r := by
  obtain ⟨A, V, h⟩ := h
  exact ⟨A, V, h.drew⟩
theorem tg_fr {W W' : World} {t b : Nat} {A : Tab} {V : Nat → Op4} (h : Tg W t A V) (hf : Fr b [30, 55, 57] W W') : Tg W' t A V := ⟨hf.kept _ _ h.blk rfl, fun r g a hr hg ha => ⟨(h.obj r g a hr hg ha).1, hf.kept _ _ (h.obj r g a hr hg ha).2 rfl⟩⟩
theorem fr_p {t : Nat} {W W' : World} (h : Fr t [75, 54] W W') : Fr t [75, 54, 30, 55, 57] W W' := h.mono fun o ho => by
  cases o with
  | cells C ty fr => simp only [keeps, Bool.not_eq_true', List.contains_eq_mem, decide_eq_false_iff_not, List.mem_cons, List.not_mem_nil, or_false, not_or] at ho ⊢; exact ⟨ho.1, ho.2.1⟩
  | map es c => simp only [keeps]; rfl
  | _ => rfl
theorem fr_r {t b : Nat} {W W' : World} (h : Fr b [30, 55, 57] W W') (hb : t ≤ b) : Fr t [75, 54, 30, 55, 57] W W' := (h.lower hb).mono fun o ho => by
  cases o with
  | cells C ty fr => simp only [keeps, Bool.not_eq_true', List.contains_eq_mem, decide_eq_false_iff_not, List.mem_cons, List.not_mem_nil, or_false, not_or] at ho ⊢; exact ho.2.2
  | map es c => simp only [keeps]; rfl
  | _ => rfl
set_option maxRecDepth 100000 in
set_option maxHeartbeats 3200000 in
theorem does0 (w : World) (t b r : Nat) (A : Tab) (V : Nat → Op4) (x : Stp) (h : Bs w t b r A V) (hk : x.what = 0) : Calls Try.prog 10 #[pq t, pq r, x.v] w fun e w' => e = .returned (.bool true) ∧ BsX w' t b r ∧ Fr t [75, 54, 30, 55, 57] w w' := by
  have z0 : (x.what == 0) = true := by simp only [beq_iff_eq]; omega
  clear hk
  have HV : Hid (Bs (w.alloc (spO x)) t b r A V) := h.below (below_one w _)
  have HX : Hid ((w.alloc (spO x)).heap[w.heap.size]? = some (spO x)) := heap_last w _
  have HFV : Hid (Fr t [75, 54, 30, 55, 57] w (w.alloc (spO x))) := Fr.of_below _ (below_one w _) h.lob
  obtain ⟨y0, y1, y2, y3, y4, y5⟩ := six_cells HX.out
  have hxl := blk_lt HX.out
  obtain ⟨X, Y, hc⟩ := add_two t b r A V h.jn x.pid x.kind x.obj
  clear h
  have D1 := hid (hc (w.alloc (spO x)) HV.out.tg)
  clear hc
  go_enter Try.func10, Try.ntmps10
  go_wp2_with fail
  refine D1.out.mono ?_
  rintro e w2 ⟨rfl, O2, S2, ⟨A2, V2, hJ2, hT2, hO2, hS2, hF2⟩, hdoc⟩
  subst hO2 hS2
  have HJ2 := hid hJ2
  have HT2 := hid hT2
  have HR2 := hid (HV.out.rt.fr hF2 rfl rfl rfl)
  have HF2 : Hid (Fr t [75, 54, 30, 55, 57] w w2) := HFV.out.trans (fr_p hF2)
  have HX2 : Hid (w2.heap[w.heap.size]? = some (spO x)) := hF2.kept _ _ HX.out rfl
  have D2 := hid (hdoc w2 HR2.out)
  clear hJ2 hT2 hF2 hdoc D1
  clear y0 y1 y2 y3 y4 y5
  obtain ⟨y0, y1, y2, y3, y4, y5⟩ := six_cells HX2.out
  go_wp2_with fail
  refine D2.out.mono ?_
  rintro e w3 ⟨rfl, hR3, hf3⟩
  have HB3 : Hid (BsX w3 t b r) := ⟨A2, V2, HJ2.out, tg_fr HT2.out hf3, hR3, HV.out.le⟩
  have HF3 : Hid (Fr t [75, 54, 30, 55, 57] w w3) := HF2.out.trans (fr_r hf3 HV.out.le)
  have HX3 : Hid (w3.heap[w.heap.size]? = some (spO x)) := hf3.kept _ _ HX2.out rfl
  clear hR3 hf3 D2
  clear y0 y1 y2 y3 y4 y5
  go_wp2_with fail
  go_ret
  exact ⟨rfl, HB3.out, HF3.out⟩
set_option maxRecDepth 100000 in
set_option maxHeartbeats 3200000 in
theorem does1 (w : World) (t b r : Nat) (A : Tab) (V : Nat → Op4) (x : Stp) (h : Bs w t b r A V) (hk : x.what = 1) : Calls Try.prog 10 #[pq t, pq r, x.v] w fun e w' => e = .returned (.bool true) ∧ BsX w' t b r ∧ Fr t [75, 54, 30, 55, 57] w w' := by
  have z0 : (x.what == 0) = false := by simp only [beq_eq_false_iff_ne, ne_eq]; omega
  have z1 : (x.what == 1) = true := by simp only [beq_iff_eq]; omega
  clear hk
  have HV : Hid (Bs (w.alloc (spO x)) t b r A V) := h.below (below_one w _)
  have HX : Hid ((w.alloc (spO x)).heap[w.heap.size]? = some (spO x)) := heap_last w _
  have HFV : Hid (Fr t [75, 54, 30, 55, 57] w (w.alloc (spO x))) := Fr.of_below _ (below_one w _) h.lob
  obtain ⟨y0, y1, y2, y3, y4, y5⟩ := six_cells HX.out
  have hxl := blk_lt HX.out
  obtain ⟨X, Y, hc⟩ := add_two t b r A V h.jn x.pid x.kind x.obj
  clear h
  have D1 := hid (hc (w.alloc (spO x)) HV.out.tg)
  clear hc
  go_enter Try.func10, Try.ntmps10
  go_wp2_with fail
  refine D1.out.mono ?_
  rintro e w2 ⟨rfl, O2, S2, ⟨A2, V2, hJ2, hT2, hO2, hS2, hF2⟩, hdoc⟩
  subst hO2 hS2
  have HJ2 := hid hJ2
  have HT2 := hid hT2
  have HR2 := hid (HV.out.rt.fr hF2 rfl rfl rfl)
  have HF2 : Hid (Fr t [75, 54, 30, 55, 57] w w2) := HFV.out.trans (fr_p hF2)
  have HX2 : Hid (w2.heap[w.heap.size]? = some (spO x)) := hF2.kept _ _ HX.out rfl
  have D2 := hid (hdoc w2 HR2.out)
  clear hJ2 hT2 hF2 hdoc D1
  clear y0 y1 y2 y3 y4 y5
  obtain ⟨y0, y1, y2, y3, y4, y5⟩ := six_cells HX2.out
  go_wp2_with fail
  refine D2.out.mono ?_
  rintro e w3 ⟨rfl, hR3, hf3⟩
  have HB3 : Hid (BsX w3 t b r) := ⟨A2, V2, HJ2.out, tg_fr HT2.out hf3, hR3, HV.out.le⟩
  have HF3 : Hid (Fr t [75, 54, 30, 55, 57] w w3) := HF2.out.trans (fr_r hf3 HV.out.le)
  have HX3 : Hid (w3.heap[w.heap.size]? = some (spO x)) := hf3.kept _ _ HX2.out rfl
  clear hR3 hf3 D2
  clear y0 y1 y2 y3 y4 y5
  go_wp2_with fail
  go_ret
  exact ⟨rfl, HB3.out, HF3.out⟩
set_option maxRecDepth 100000 in
set_option maxHeartbeats 3200000 in
theorem does2 (w : World) (t b r : Nat) (A : Tab) (V : Nat → Op4) (x : Stp) (h : Bs w t b r A V) (hk : x.what = 2) : Calls Try.prog 10 #[pq t, pq r, x.v] w fun e w' => e = .returned (.bool true) ∧ BsX w' t b r ∧ Fr t [75, 54, 30, 55, 57] w w' := by
  have z0 : (x.what == 0) = false := by simp only [beq_eq_false_iff_ne, ne_eq]; omega
  have z1 : (x.what == 1) = false := by simp only [beq_eq_false_iff_ne, ne_eq]; omega
  have z2 : (x.what == 2) = true := by simp only [beq_iff_eq]; omega
  clear hk
  have HV : Hid (Bs (w.alloc (spO x)) t b r A V) := h.below (below_one w _)
  have HX : Hid ((w.alloc (spO x)).heap[w.heap.size]? = some (spO x)) := heap_last w _
  have HFV : Hid (Fr t [75, 54, 30, 55, 57] w (w.alloc (spO x))) := Fr.of_below _ (below_one w _) h.lob
  obtain ⟨y0, y1, y2, y3, y4, y5⟩ := six_cells HX.out
  have hxl := blk_lt HX.out
  obtain ⟨X, Y, hc⟩ := add_two t b r A V h.jn x.pid x.kind x.obj
  clear h
  have D1 := hid (hc (w.alloc (spO x)) HV.out.tg)
  clear hc
  go_enter Try.func10, Try.ntmps10
  go_wp2_with fail
  refine D1.out.mono ?_
  rintro e w2 ⟨rfl, O2, S2, ⟨A2, V2, hJ2, hT2, hO2, hS2, hF2⟩, hdoc⟩
  subst hO2 hS2
  have HJ2 := hid hJ2
  have HT2 := hid hT2
  have HR2 := hid (HV.out.rt.fr hF2 rfl rfl rfl)
  have HF2 : Hid (Fr t [75, 54, 30, 55, 57] w w2) := HFV.out.trans (fr_p hF2)
  have HX2 : Hid (w2.heap[w.heap.size]? = some (spO x)) := hF2.kept _ _ HX.out rfl
  have D2 := hid (hdoc w2 HR2.out)
  clear hJ2 hT2 hF2 hdoc D1
  clear y0 y1 y2 y3 y4 y5
  obtain ⟨y0, y1, y2, y3, y4, y5⟩ := six_cells HX2.out
  go_wp2_with fail
  refine D2.out.mono ?_
  rintro e w3 ⟨rfl, hR3, hf3⟩
  have HB3 : Hid (BsX w3 t b r) := ⟨A2, V2, HJ2.out, tg_fr HT2.out hf3, hR3, HV.out.le⟩
  have HF3 : Hid (Fr t [75, 54, 30, 55, 57] w w3) := HF2.out.trans (fr_r hf3 HV.out.le)
  have HX3 : Hid (w3.heap[w.heap.size]? = some (spO x)) := hf3.kept _ _ HX2.out rfl
  clear hR3 hf3 D2
  clear y0 y1 y2 y3 y4 y5
  go_wp2_with fail
  go_ret
  exact ⟨rfl, HB3.out, HF3.out⟩
set_option maxRecDepth 100000 in
set_option maxHeartbeats 3200000 in
theorem does3 (w : World) (t b r : Nat) (A : Tab) (V : Nat → Op4) (x : Stp) (h : Bs w t b r A V) (hk : x.what = 3) : Calls Try.prog 10 #[pq t, pq r, x.v] w fun e w' => e = .returned (.bool true) ∧ BsX w' t b r ∧ Fr t [75, 54, 30, 55, 57] w w' := by
  have z0 : (x.what == 0) = false := by simp only [beq_eq_false_iff_ne, ne_eq]; omega
  have z1 : (x.what == 1) = false := by simp only [beq_eq_false_iff_ne, ne_eq]; omega
  have z2 : (x.what == 2) = false := by simp only [beq_eq_false_iff_ne, ne_eq]; omega
  have z3 : (x.what == 3) = true := by simp only [beq_iff_eq]; omega
  clear hk
  have HV : Hid (Bs (w.alloc (spO x)) t b r A V) := h.below (below_one w _)
  have HX : Hid ((w.alloc (spO x)).heap[w.heap.size]? = some (spO x)) := heap_last w _
  have HFV : Hid (Fr t [75, 54, 30, 55, 57] w (w.alloc (spO x))) := Fr.of_below _ (below_one w _) h.lob
  obtain ⟨y0, y1, y2, y3, y4, y5⟩ := six_cells HX.out
  have hxl := blk_lt HX.out
  obtain ⟨Y, hc⟩ := seek_two t b r A V h.jn x.pid x.slot x.n
  clear h
  have HVd := hid HV.out.drew
  have HFd : Hid (Fr t [75, 54, 30, 55, 57] w (w.alloc (spO x)).drew) := HFV.out.drewN 1
  have D1 := hid (hc (w.alloc (spO x)).drew HVd.out.tg)
  clear hc
  go_enter Try.func10, Try.ntmps10
  go_upto_region 9 with fail
  have HSd : Hid ((fun W : World => W.heap[w.heap.size]? = some (spO x)) (w.alloc (spO x)).drew) := HX.out
  clear y0 y1 y2 y3 y4 y5
  refine wp_region_noPanic ?_
  refine wp_region_last (fun W : World => W.heap[w.heap.size]? = some (spO x)) 17 (by kernel_rfl) ?_
  refine wpL_take 0 53 (pq t) [] rfl rfl (by kernel_rfl) (by decide) (by kernel_rfl) (by kernel_rfl) (by kernel_rfl) (fun _ _ _ h => h) HSd.out (by rfl) (fun W hW => by obtain ⟨y0, y1, y2, y3, y4, y5⟩ := six_cells hW; go_simp) ?_
  simp only [Act.put, List.setIfInBounds_toArray, List.set_cons_zero, List.set_cons_succ]
  refine wpL_take 1 54 (.pointer (some ⟨w.heap.size, 1, none⟩)) [] rfl rfl (by kernel_rfl) (by decide) (by kernel_rfl) (by kernel_rfl) (by kernel_rfl) (fun _ _ _ h => h) HSd.out (by rfl) (fun W hW => by obtain ⟨y0, y1, y2, y3, y4, y5⟩ := six_cells hW; go_simp) ?_
  simp only [Act.put, List.setIfInBounds_toArray, List.set_cons_zero, List.set_cons_succ]
  refine wpL_take 2 55 (i64 x.pid) [] rfl rfl (by kernel_rfl) (by decide) (by kernel_rfl) (by kernel_rfl) (by kernel_rfl) (fun _ _ _ h => h) HSd.out (by rfl) (fun W hW => by obtain ⟨y0, y1, y2, y3, y4, y5⟩ := six_cells hW; go_simp) ?_
  simp only [Act.put, List.setIfInBounds_toArray, List.set_cons_zero, List.set_cons_succ]
  refine wpL_take 3 56 (.pointer (some ⟨w.heap.size, 2, none⟩)) [] rfl rfl (by kernel_rfl) (by decide) (by kernel_rfl) (by kernel_rfl) (by kernel_rfl) (fun _ _ _ h => h) HSd.out (by rfl) (fun W hW => by obtain ⟨y0, y1, y2, y3, y4, y5⟩ := six_cells hW; go_simp) ?_
  simp only [Act.put, List.setIfInBounds_toArray, List.set_cons_zero, List.set_cons_succ]
  refine wpL_take 4 57 (i64 x.slot) [] rfl rfl (by kernel_rfl) (by decide) (by kernel_rfl) (by kernel_rfl) (by kernel_rfl) (fun _ _ _ h => h) HSd.out (by rfl) (fun W hW => by obtain ⟨y0, y1, y2, y3, y4, y5⟩ := six_cells hW; go_simp) ?_
  simp only [Act.put, List.setIfInBounds_toArray, List.set_cons_zero, List.set_cons_succ]
  refine wpL_take 5 58 (.pointer (some ⟨w.heap.size, 5, none⟩)) [] rfl rfl (by kernel_rfl) (by decide) (by kernel_rfl) (by kernel_rfl) (by kernel_rfl) (fun _ _ _ h => h) HSd.out (by rfl) (fun W hW => by obtain ⟨y0, y1, y2, y3, y4, y5⟩ := six_cells hW; go_simp) ?_
  simp only [Act.put, List.setIfInBounds_toArray, List.set_cons_zero, List.set_cons_succ]
  refine wpL_take 6 59 (i64 x.n) [] rfl rfl (by kernel_rfl) (by decide) (by kernel_rfl) (by kernel_rfl) (by kernel_rfl) (fun _ _ _ h => h) HSd.out (by rfl) (fun W hW => by obtain ⟨y0, y1, y2, y3, y4, y5⟩ := six_cells hW; go_simp) ?_
  simp only [Act.put, List.setIfInBounds_toArray, List.set_cons_zero, List.set_cons_succ]
  refine wpL_take 8 61 (pq r) [] rfl rfl (by kernel_rfl) (by decide) (by kernel_rfl) (by kernel_rfl) (by kernel_rfl) (fun _ _ _ h => h) HSd.out (by rfl) (fun W hW => by obtain ⟨y0, y1, y2, y3, y4, y5⟩ := six_cells hW; go_simp) ?_
  simp only [Act.put, List.setIfInBounds_toArray, List.set_cons_zero, List.set_cons_succ]
  refine wpL_take 9 62 (.pointer (some ⟨w.heap.size, 1, none⟩)) [] rfl rfl (by kernel_rfl) (by decide) (by kernel_rfl) (by kernel_rfl) (by kernel_rfl) (fun _ _ _ h => h) HSd.out (by rfl) (fun W hW => by obtain ⟨y0, y1, y2, y3, y4, y5⟩ := six_cells hW; go_simp) ?_
  simp only [Act.put, List.setIfInBounds_toArray, List.set_cons_zero, List.set_cons_succ]
  refine wpL_take 10 63 (i64 x.pid) [] rfl rfl (by kernel_rfl) (by decide) (by kernel_rfl) (by kernel_rfl) (by kernel_rfl) (fun _ _ _ h => h) HSd.out (by rfl) (fun W hW => by obtain ⟨y0, y1, y2, y3, y4, y5⟩ := six_cells hW; go_simp) ?_
  simp only [Act.put, List.setIfInBounds_toArray, List.set_cons_zero, List.set_cons_succ]
  refine wpL_take 11 64 (.pointer (some ⟨w.heap.size, 2, none⟩)) [] rfl rfl (by kernel_rfl) (by decide) (by kernel_rfl) (by kernel_rfl) (by kernel_rfl) (fun _ _ _ h => h) HSd.out (by rfl) (fun W hW => by obtain ⟨y0, y1, y2, y3, y4, y5⟩ := six_cells hW; go_simp) ?_
  simp only [Act.put, List.setIfInBounds_toArray, List.set_cons_zero, List.set_cons_succ]
  refine wpL_take 12 65 (i64 x.slot) [] rfl rfl (by kernel_rfl) (by decide) (by kernel_rfl) (by kernel_rfl) (by kernel_rfl) (fun _ _ _ h => h) HSd.out (by rfl) (fun W hW => by obtain ⟨y0, y1, y2, y3, y4, y5⟩ := six_cells hW; go_simp) ?_
  simp only [Act.put, List.setIfInBounds_toArray, List.set_cons_zero, List.set_cons_succ]
  refine wpL_take 13 66 (.pointer (some ⟨w.heap.size, 5, none⟩)) [] rfl rfl (by kernel_rfl) (by decide) (by kernel_rfl) (by kernel_rfl) (by kernel_rfl) (fun _ _ _ h => h) HSd.out (by rfl) (fun W hW => by obtain ⟨y0, y1, y2, y3, y4, y5⟩ := six_cells hW; go_simp) ?_
  simp only [Act.put, List.setIfInBounds_toArray, List.set_cons_zero, List.set_cons_succ]
  refine wpL_take 14 67 (i64 x.n) [] rfl rfl (by kernel_rfl) (by decide) (by kernel_rfl) (by kernel_rfl) (by kernel_rfl) (fun _ _ _ h => h) HSd.out (by rfl) (fun W hW => by obtain ⟨y0, y1, y2, y3, y4, y5⟩ := six_cells hW; go_simp) ?_
  simp only [Act.put, List.setIfInBounds_toArray, List.set_cons_zero, List.set_cons_succ]
  refine wpL_one 7 rfl (by kernel_rfl) (by rfl) (fun K hK => ?_)
  go_simp
  refine D1.out.mono ?_
  rintro e w2 ⟨rfl, O2, S2, ⟨A2, V2, hJ2, hT2, hO2, hS2, hF2⟩, hdoc⟩
  subst hO2 hS2
  have HJ2 := hid hJ2
  have HT2 := hid hT2
  have HR2 := hid (HVd.out.rt.fr hF2 rfl rfl rfl)
  have HF2 : Hid (Fr t [75, 54, 30, 55, 57] w w2) := HFd.out.trans (fr_p hF2)
  have HX2 : Hid (w2.heap[w.heap.size]? = some (spO x)) := hF2.kept _ _ HSd.out rfl
  have D2 := hid (hdoc w2 HR2.out)
  clear hJ2 hT2 hF2 hdoc D1
  have HS2 : Hid ((fun W : World => W.heap[w.heap.size]? = some (spO x)) w2) := HX2.out
  go_simp
  refine hK.out _ _ (fun _ => HS2.out) ?_
  clear hK K
  refine wpL_one 15 rfl (by kernel_rfl) (by rfl) (fun K hK => ?_)
  go_simp
  refine D2.out.mono ?_
  rintro e w3 ⟨rfl, hR3, hf3⟩
  have HB3 : Hid (BsX w3 t b r) := ⟨A2, V2, HJ2.out, tg_fr HT2.out hf3, hR3, HVd.out.le⟩
  have HF3 : Hid (Fr t [75, 54, 30, 55, 57] w w3) := HF2.out.trans (fr_r hf3 HVd.out.le)
  have HX3 : Hid (w3.heap[w.heap.size]? = some (spO x)) := hf3.kept _ _ HX2.out rfl
  clear hR3 hf3 D2
  have HS3 : Hid ((fun W : World => W.heap[w.heap.size]? = some (spO x)) w3) := HX3.out
  go_simp
  refine hK.out _ _ (fun _ => HS3.out) ?_
  clear hK K
  refine wpL_take 16 69 (.bool true) [] rfl rfl (by kernel_rfl) (by decide) (by kernel_rfl) (by kernel_rfl) (by kernel_rfl) (fun _ _ _ h => h) HS3.out (by rfl) (fun W hW => by obtain ⟨y0, y1, y2, y3, y4, y5⟩ := six_cells hW; go_simp) ?_
  simp only [Act.put, List.setIfInBounds_toArray, List.set_cons_zero, List.set_cons_succ]
  refine wpL_one 17 rfl (by kernel_rfl) (by rfl) (fun K hK => ?_)
  go_simp
  refine hK.out _ _ (fun h => absurd rfl h) ?_
  clear hK K
  refine wpL_done (by kernel_rfl) ?_
  refine NoPanic.normal ?_
  go_wp2_with fail
  go_ret
  exact ⟨rfl, HB3.out, HF3.out⟩
set_option maxRecDepth 100000 in
set_option maxHeartbeats 3200000 in
theorem does4 (w : World) (t b r : Nat) (A : Tab) (V : Nat → Op4) (x : Stp) (h : Bs w t b r A V) (hk : x.what = 4) : Calls Try.prog 10 #[pq t, pq r, x.v] w fun e w' => e = .returned (.bool true) ∧ BsX w' t b r ∧ Fr t [75, 54, 30, 55, 57] w w' := by
  have z0 : (x.what == 0) = false := by simp only [beq_eq_false_iff_ne, ne_eq]; omega
  have z1 : (x.what == 1) = false := by simp only [beq_eq_false_iff_ne, ne_eq]; omega
  have z2 : (x.what == 2) = false := by simp only [beq_eq_false_iff_ne, ne_eq]; omega
  have z3 : (x.what == 3) = false := by simp only [beq_eq_false_iff_ne, ne_eq]; omega
  have z4 : (x.what == 4) = true := by simp only [beq_iff_eq]; omega
  clear hk
  have HV : Hid (Bs (w.alloc (spO x)) t b r A V) := h.below (below_one w _)
  have HX : Hid ((w.alloc (spO x)).heap[w.heap.size]? = some (spO x)) := heap_last w _
  have HFV : Hid (Fr t [75, 54, 30, 55, 57] w (w.alloc (spO x))) := Fr.of_below _ (below_one w _) h.lob
  obtain ⟨y0, y1, y2, y3, y4, y5⟩ := six_cells HX.out
  have hxl := blk_lt HX.out
  obtain ⟨X, Y, hc⟩ := dup_two t b r A V h.jn x.pid x.slot
  clear h
  have D1 := hid (hc (w.alloc (spO x)) HV.out.tg)
  clear hc
  go_enter Try.func10, Try.ntmps10
  go_wp2_with fail
  refine D1.out.mono ?_
  rintro e w2 ⟨rfl, O2, S2, ⟨A2, V2, hJ2, hT2, hO2, hS2, hF2⟩, hdoc⟩
  subst hO2 hS2
  have HJ2 := hid hJ2
  have HT2 := hid hT2
  have HR2 := hid (HV.out.rt.fr hF2 rfl rfl rfl)
  have HF2 : Hid (Fr t [75, 54, 30, 55, 57] w w2) := HFV.out.trans (fr_p hF2)
  have HX2 : Hid (w2.heap[w.heap.size]? = some (spO x)) := hF2.kept _ _ HX.out rfl
  have D2 := hid (hdoc w2 HR2.out)
  clear hJ2 hT2 hF2 hdoc D1
  clear y0 y1 y2 y3 y4 y5
  obtain ⟨y0, y1, y2, y3, y4, y5⟩ := six_cells HX2.out
  go_wp2_with fail
  refine D2.out.mono ?_
  rintro e w3 ⟨rfl, hR3, hf3⟩
  have HB3 : Hid (BsX w3 t b r) := ⟨A2, V2, HJ2.out, tg_fr HT2.out hf3, hR3, HV.out.le⟩
  have HF3 : Hid (Fr t [75, 54, 30, 55, 57] w w3) := HF2.out.trans (fr_r hf3 HV.out.le)
  have HX3 : Hid (w3.heap[w.heap.size]? = some (spO x)) := hf3.kept _ _ HX2.out rfl
  clear hR3 hf3 D2
  clear y0 y1 y2 y3 y4 y5
  go_wp2_with fail
  go_ret
  exact ⟨rfl, HB3.out, HF3.out⟩
set_option maxRecDepth 100000 in
set_option maxHeartbeats 3200000 in
theorem does5 (w : World) (t b r : Nat) (A : Tab) (V : Nat → Op4) (x : Stp) (h : Bs w t b r A V) (hk : x.what = 5) : Calls Try.prog 10 #[pq t, pq r, x.v] w fun e w' => e = .returned (.bool true) ∧ BsX w' t b r ∧ Fr t [75, 54, 30, 55, 57] w w' := by
  have z0 : (x.what == 0) = false := by simp only [beq_eq_false_iff_ne, ne_eq]; omega
  have z1 : (x.what == 1) = false := by simp only [beq_eq_false_iff_ne, ne_eq]; omega
  have z2 : (x.what == 2) = false := by simp only [beq_eq_false_iff_ne, ne_eq]; omega
  have z3 : (x.what == 3) = false := by simp only [beq_eq_false_iff_ne, ne_eq]; omega
  have z4 : (x.what == 4) = false := by simp only [beq_eq_false_iff_ne, ne_eq]; omega
  have z5 : (x.what == 5) = true := by simp only [beq_iff_eq]; omega
  clear hk
  have HV : Hid (Bs (w.alloc (spO x)) t b r A V) := h.below (below_one w _)
  have HX : Hid ((w.alloc (spO x)).heap[w.heap.size]? = some (spO x)) := heap_last w _
  have HFV : Hid (Fr t [75, 54, 30, 55, 57] w (w.alloc (spO x))) := Fr.of_below _ (below_one w _) h.lob
  obtain ⟨y0, y1, y2, y3, y4, y5⟩ := six_cells HX.out
  have hxl := blk_lt HX.out
  obtain ⟨Y, hc⟩ := close_two t b r A V h.jn x.pid x.slot
  clear h
  have HVd := hid HV.out.drew
  have HFd : Hid (Fr t [75, 54, 30, 55, 57] w (w.alloc (spO x)).drew) := HFV.out.drewN 1
  have D1 := hid (hc (w.alloc (spO x)).drew HVd.out.tg)
  clear hc
  go_enter Try.func10, Try.ntmps10
  go_upto_region 15 with fail
  have HSd : Hid ((fun W : World => W.heap[w.heap.size]? = some (spO x)) (w.alloc (spO x)).drew) := HX.out
  clear y0 y1 y2 y3 y4 y5
  refine wp_region_noPanic ?_
  refine wp_region_last (fun W : World => W.heap[w.heap.size]? = some (spO x)) 13 (by kernel_rfl) ?_
  refine wpL_take 0 100 (pq t) [] rfl rfl (by kernel_rfl) (by decide) (by kernel_rfl) (by kernel_rfl) (by kernel_rfl) (fun _ _ _ h => h) HSd.out (by rfl) (fun W hW => by obtain ⟨y0, y1, y2, y3, y4, y5⟩ := six_cells hW; go_simp) ?_
  simp only [Act.put, List.setIfInBounds_toArray, List.set_cons_zero, List.set_cons_succ]
  refine wpL_take 1 101 (.pointer (some ⟨w.heap.size, 1, none⟩)) [] rfl rfl (by kernel_rfl) (by decide) (by kernel_rfl) (by kernel_rfl) (by kernel_rfl) (fun _ _ _ h => h) HSd.out (by rfl) (fun W hW => by obtain ⟨y0, y1, y2, y3, y4, y5⟩ := six_cells hW; go_simp) ?_
  simp only [Act.put, List.setIfInBounds_toArray, List.set_cons_zero, List.set_cons_succ]
  refine wpL_take 2 102 (i64 x.pid) [] rfl rfl (by kernel_rfl) (by decide) (by kernel_rfl) (by kernel_rfl) (by kernel_rfl) (fun _ _ _ h => h) HSd.out (by rfl) (fun W hW => by obtain ⟨y0, y1, y2, y3, y4, y5⟩ := six_cells hW; go_simp) ?_
  simp only [Act.put, List.setIfInBounds_toArray, List.set_cons_zero, List.set_cons_succ]
  refine wpL_take 3 103 (.pointer (some ⟨w.heap.size, 2, none⟩)) [] rfl rfl (by kernel_rfl) (by decide) (by kernel_rfl) (by kernel_rfl) (by kernel_rfl) (fun _ _ _ h => h) HSd.out (by rfl) (fun W hW => by obtain ⟨y0, y1, y2, y3, y4, y5⟩ := six_cells hW; go_simp) ?_
  simp only [Act.put, List.setIfInBounds_toArray, List.set_cons_zero, List.set_cons_succ]
  refine wpL_take 4 104 (i64 x.slot) [] rfl rfl (by kernel_rfl) (by decide) (by kernel_rfl) (by kernel_rfl) (by kernel_rfl) (fun _ _ _ h => h) HSd.out (by rfl) (fun W hW => by obtain ⟨y0, y1, y2, y3, y4, y5⟩ := six_cells hW; go_simp) ?_
  simp only [Act.put, List.setIfInBounds_toArray, List.set_cons_zero, List.set_cons_succ]
  refine wpL_take 6 106 (pq r) [] rfl rfl (by kernel_rfl) (by decide) (by kernel_rfl) (by kernel_rfl) (by kernel_rfl) (fun _ _ _ h => h) HSd.out (by rfl) (fun W hW => by obtain ⟨y0, y1, y2, y3, y4, y5⟩ := six_cells hW; go_simp) ?_
  simp only [Act.put, List.setIfInBounds_toArray, List.set_cons_zero, List.set_cons_succ]
  refine wpL_take 7 107 (.pointer (some ⟨w.heap.size, 1, none⟩)) [] rfl rfl (by kernel_rfl) (by decide) (by kernel_rfl) (by kernel_rfl) (by kernel_rfl) (fun _ _ _ h => h) HSd.out (by rfl) (fun W hW => by obtain ⟨y0, y1, y2, y3, y4, y5⟩ := six_cells hW; go_simp) ?_
  simp only [Act.put, List.setIfInBounds_toArray, List.set_cons_zero, List.set_cons_succ]
  refine wpL_take 8 108 (i64 x.pid) [] rfl rfl (by kernel_rfl) (by decide) (by kernel_rfl) (by kernel_rfl) (by kernel_rfl) (fun _ _ _ h => h) HSd.out (by rfl) (fun W hW => by obtain ⟨y0, y1, y2, y3, y4, y5⟩ := six_cells hW; go_simp) ?_
  simp only [Act.put, List.setIfInBounds_toArray, List.set_cons_zero, List.set_cons_succ]
  refine wpL_take 9 109 (.pointer (some ⟨w.heap.size, 2, none⟩)) [] rfl rfl (by kernel_rfl) (by decide) (by kernel_rfl) (by kernel_rfl) (by kernel_rfl) (fun _ _ _ h => h) HSd.out (by rfl) (fun W hW => by obtain ⟨y0, y1, y2, y3, y4, y5⟩ := six_cells hW; go_simp) ?_
  simp only [Act.put, List.setIfInBounds_toArray, List.set_cons_zero, List.set_cons_succ]
  refine wpL_take 10 110 (i64 x.slot) [] rfl rfl (by kernel_rfl) (by decide) (by kernel_rfl) (by kernel_rfl) (by kernel_rfl) (fun _ _ _ h => h) HSd.out (by rfl) (fun W hW => by obtain ⟨y0, y1, y2, y3, y4, y5⟩ := six_cells hW; go_simp) ?_
  simp only [Act.put, List.setIfInBounds_toArray, List.set_cons_zero, List.set_cons_succ]
  refine wpL_one 5 rfl (by kernel_rfl) (by rfl) (fun K hK => ?_)
  go_simp
  refine D1.out.mono ?_
  rintro e w2 ⟨rfl, O2, S2, ⟨A2, V2, hJ2, hT2, hO2, hS2, hF2⟩, hdoc⟩
  subst hO2 hS2
  have HJ2 := hid hJ2
  have HT2 := hid hT2
  have HR2 := hid (HVd.out.rt.fr hF2 rfl rfl rfl)
  have HF2 : Hid (Fr t [75, 54, 30, 55, 57] w w2) := HFd.out.trans (fr_p hF2)
  have HX2 : Hid (w2.heap[w.heap.size]? = some (spO x)) := hF2.kept _ _ HSd.out rfl
  have D2 := hid (hdoc w2 HR2.out)
  clear hJ2 hT2 hF2 hdoc D1
  have HS2 : Hid ((fun W : World => W.heap[w.heap.size]? = some (spO x)) w2) := HX2.out
  go_simp
  refine hK.out _ _ (fun _ => HS2.out) ?_
  clear hK K
  refine wpL_one 11 rfl (by kernel_rfl) (by rfl) (fun K hK => ?_)
  go_simp
  refine D2.out.mono ?_
  rintro e w3 ⟨rfl, hR3, hf3⟩
  have HB3 : Hid (BsX w3 t b r) := ⟨A2, V2, HJ2.out, tg_fr HT2.out hf3, hR3, HVd.out.le⟩
  have HF3 : Hid (Fr t [75, 54, 30, 55, 57] w w3) := HF2.out.trans (fr_r hf3 HVd.out.le)
  have HX3 : Hid (w3.heap[w.heap.size]? = some (spO x)) := hf3.kept _ _ HX2.out rfl
  clear hR3 hf3 D2
  have HS3 : Hid ((fun W : World => W.heap[w.heap.size]? = some (spO x)) w3) := HX3.out
  go_simp
  refine hK.out _ _ (fun _ => HS3.out) ?_
  clear hK K
  refine wpL_take 12 112 (.bool true) [] rfl rfl (by kernel_rfl) (by decide) (by kernel_rfl) (by kernel_rfl) (by kernel_rfl) (fun _ _ _ h => h) HS3.out (by rfl) (fun W hW => by obtain ⟨y0, y1, y2, y3, y4, y5⟩ := six_cells hW; go_simp) ?_
  simp only [Act.put, List.setIfInBounds_toArray, List.set_cons_zero, List.set_cons_succ]
  refine wpL_one 13 rfl (by kernel_rfl) (by rfl) (fun K hK => ?_)
  go_simp
  refine hK.out _ _ (fun h => absurd rfl h) ?_
  clear hK K
  refine wpL_done (by kernel_rfl) ?_
  refine NoPanic.normal ?_
  go_wp2_with fail
  go_ret
  exact ⟨rfl, HB3.out, HF3.out⟩
set_option maxRecDepth 100000 in
set_option maxHeartbeats 3200000 in
theorem does6 (w : World) (t b r : Nat) (A : Tab) (V : Nat → Op4) (x : Stp) (h : Bs w t b r A V) (hk : x.what = 6) : Calls Try.prog 10 #[pq t, pq r, x.v] w fun e w' => e = .returned (.bool true) ∧ BsX w' t b r ∧ Fr t [75, 54, 30, 55, 57] w w' := by
  have z0 : (x.what == 0) = false := by simp only [beq_eq_false_iff_ne, ne_eq]; omega
  have z1 : (x.what == 1) = false := by simp only [beq_eq_false_iff_ne, ne_eq]; omega
  have z2 : (x.what == 2) = false := by simp only [beq_eq_false_iff_ne, ne_eq]; omega
  have z3 : (x.what == 3) = false := by simp only [beq_eq_false_iff_ne, ne_eq]; omega
  have z4 : (x.what == 4) = false := by simp only [beq_eq_false_iff_ne, ne_eq]; omega
  have z5 : (x.what == 5) = false := by simp only [beq_eq_false_iff_ne, ne_eq]; omega
  have z6 : (x.what == 6) = true := by simp only [beq_iff_eq]; omega
  clear hk
  have HV : Hid (Bs (w.alloc (spO x)) t b r A V) := h.below (below_one w _)
  have HX : Hid ((w.alloc (spO x)).heap[w.heap.size]? = some (spO x)) := heap_last w _
  have HFV : Hid (Fr t [75, 54, 30, 55, 57] w (w.alloc (spO x))) := Fr.of_below _ (below_one w _) h.lob
  obtain ⟨y0, y1, y2, y3, y4, y5⟩ := six_cells HX.out
  have hxl := blk_lt HX.out
  obtain ⟨Y, hc⟩ := fork_two t b r A V h.jn x.pid x.n
  clear h
  have HVd := hid HV.out.drew
  have HFd : Hid (Fr t [75, 54, 30, 55, 57] w (w.alloc (spO x)).drew) := HFV.out.drewN 1
  have D1 := hid (hc (w.alloc (spO x)).drew HVd.out.tg)
  clear hc
  go_enter Try.func10, Try.ntmps10
  go_upto_region 17 with fail
  have HSd : Hid ((fun W : World => W.heap[w.heap.size]? = some (spO x)) (w.alloc (spO x)).drew) := HX.out
  clear y0 y1 y2 y3 y4 y5
  refine wp_region_noPanic ?_
  refine wp_region_last (fun W : World => W.heap[w.heap.size]? = some (spO x)) 13 (by kernel_rfl) ?_
  refine wpL_take 0 115 (pq t) [] rfl rfl (by kernel_rfl) (by decide) (by kernel_rfl) (by kernel_rfl) (by kernel_rfl) (fun _ _ _ h => h) HSd.out (by rfl) (fun W hW => by obtain ⟨y0, y1, y2, y3, y4, y5⟩ := six_cells hW; go_simp) ?_
  simp only [Act.put, List.setIfInBounds_toArray, List.set_cons_zero, List.set_cons_succ]
  refine wpL_take 1 116 (.pointer (some ⟨w.heap.size, 1, none⟩)) [] rfl rfl (by kernel_rfl) (by decide) (by kernel_rfl) (by kernel_rfl) (by kernel_rfl) (fun _ _ _ h => h) HSd.out (by rfl) (fun W hW => by obtain ⟨y0, y1, y2, y3, y4, y5⟩ := six_cells hW; go_simp) ?_
  simp only [Act.put, List.setIfInBounds_toArray, List.set_cons_zero, List.set_cons_succ]
  refine wpL_take 2 117 (i64 x.pid) [] rfl rfl (by kernel_rfl) (by decide) (by kernel_rfl) (by kernel_rfl) (by kernel_rfl) (fun _ _ _ h => h) HSd.out (by rfl) (fun W hW => by obtain ⟨y0, y1, y2, y3, y4, y5⟩ := six_cells hW; go_simp) ?_
  simp only [Act.put, List.setIfInBounds_toArray, List.set_cons_zero, List.set_cons_succ]
  refine wpL_take 3 118 (.pointer (some ⟨w.heap.size, 5, none⟩)) [] rfl rfl (by kernel_rfl) (by decide) (by kernel_rfl) (by kernel_rfl) (by kernel_rfl) (fun _ _ _ h => h) HSd.out (by rfl) (fun W hW => by obtain ⟨y0, y1, y2, y3, y4, y5⟩ := six_cells hW; go_simp) ?_
  simp only [Act.put, List.setIfInBounds_toArray, List.set_cons_zero, List.set_cons_succ]
  refine wpL_take 4 119 (i64 x.n) [] rfl rfl (by kernel_rfl) (by decide) (by kernel_rfl) (by kernel_rfl) (by kernel_rfl) (fun _ _ _ h => h) HSd.out (by rfl) (fun W hW => by obtain ⟨y0, y1, y2, y3, y4, y5⟩ := six_cells hW; go_simp) ?_
  simp only [Act.put, List.setIfInBounds_toArray, List.set_cons_zero, List.set_cons_succ]
  refine wpL_take 6 121 (pq r) [] rfl rfl (by kernel_rfl) (by decide) (by kernel_rfl) (by kernel_rfl) (by kernel_rfl) (fun _ _ _ h => h) HSd.out (by rfl) (fun W hW => by obtain ⟨y0, y1, y2, y3, y4, y5⟩ := six_cells hW; go_simp) ?_
  simp only [Act.put, List.setIfInBounds_toArray, List.set_cons_zero, List.set_cons_succ]
  refine wpL_take 7 122 (.pointer (some ⟨w.heap.size, 1, none⟩)) [] rfl rfl (by kernel_rfl) (by decide) (by kernel_rfl) (by kernel_rfl) (by kernel_rfl) (fun _ _ _ h => h) HSd.out (by rfl) (fun W hW => by obtain ⟨y0, y1, y2, y3, y4, y5⟩ := six_cells hW; go_simp) ?_
  simp only [Act.put, List.setIfInBounds_toArray, List.set_cons_zero, List.set_cons_succ]
  refine wpL_take 8 123 (i64 x.pid) [] rfl rfl (by kernel_rfl) (by decide) (by kernel_rfl) (by kernel_rfl) (by kernel_rfl) (fun _ _ _ h => h) HSd.out (by rfl) (fun W hW => by obtain ⟨y0, y1, y2, y3, y4, y5⟩ := six_cells hW; go_simp) ?_
  simp only [Act.put, List.setIfInBounds_toArray, List.set_cons_zero, List.set_cons_succ]
  refine wpL_take 9 124 (.pointer (some ⟨w.heap.size, 5, none⟩)) [] rfl rfl (by kernel_rfl) (by decide) (by kernel_rfl) (by kernel_rfl) (by kernel_rfl) (fun _ _ _ h => h) HSd.out (by rfl) (fun W hW => by obtain ⟨y0, y1, y2, y3, y4, y5⟩ := six_cells hW; go_simp) ?_
  simp only [Act.put, List.setIfInBounds_toArray, List.set_cons_zero, List.set_cons_succ]
  refine wpL_take 10 125 (i64 x.n) [] rfl rfl (by kernel_rfl) (by decide) (by kernel_rfl) (by kernel_rfl) (by kernel_rfl) (fun _ _ _ h => h) HSd.out (by rfl) (fun W hW => by obtain ⟨y0, y1, y2, y3, y4, y5⟩ := six_cells hW; go_simp) ?_
  simp only [Act.put, List.setIfInBounds_toArray, List.set_cons_zero, List.set_cons_succ]
  refine wpL_one 5 rfl (by kernel_rfl) (by rfl) (fun K hK => ?_)
  go_simp
  refine D1.out.mono ?_
  rintro e w2 ⟨rfl, O2, S2, ⟨A2, V2, hJ2, hT2, hO2, hS2, hF2⟩, hdoc⟩
  subst hO2 hS2
  have HJ2 := hid hJ2
  have HT2 := hid hT2
  have HR2 := hid (HVd.out.rt.fr hF2 rfl rfl rfl)
  have HF2 : Hid (Fr t [75, 54, 30, 55, 57] w w2) := HFd.out.trans (fr_p hF2)
  have HX2 : Hid (w2.heap[w.heap.size]? = some (spO x)) := hF2.kept _ _ HSd.out rfl
  have D2 := hid (hdoc w2 HR2.out)
  clear hJ2 hT2 hF2 hdoc D1
  have HS2 : Hid ((fun W : World => W.heap[w.heap.size]? = some (spO x)) w2) := HX2.out
  go_simp
  refine hK.out _ _ (fun _ => HS2.out) ?_
  clear hK K
  refine wpL_one 11 rfl (by kernel_rfl) (by rfl) (fun K hK => ?_)
  go_simp
  refine D2.out.mono ?_
  rintro e w3 ⟨rfl, hR3, hf3⟩
  have HB3 : Hid (BsX w3 t b r) := ⟨A2, V2, HJ2.out, tg_fr HT2.out hf3, hR3, HVd.out.le⟩
  have HF3 : Hid (Fr t [75, 54, 30, 55, 57] w w3) := HF2.out.trans (fr_r hf3 HVd.out.le)
  have HX3 : Hid (w3.heap[w.heap.size]? = some (spO x)) := hf3.kept _ _ HX2.out rfl
  clear hR3 hf3 D2
  have HS3 : Hid ((fun W : World => W.heap[w.heap.size]? = some (spO x)) w3) := HX3.out
  go_simp
  refine hK.out _ _ (fun _ => HS3.out) ?_
  clear hK K
  refine wpL_take 12 127 (.bool true) [] rfl rfl (by kernel_rfl) (by decide) (by kernel_rfl) (by kernel_rfl) (by kernel_rfl) (fun _ _ _ h => h) HS3.out (by rfl) (fun W hW => by obtain ⟨y0, y1, y2, y3, y4, y5⟩ := six_cells hW; go_simp) ?_
  simp only [Act.put, List.setIfInBounds_toArray, List.set_cons_zero, List.set_cons_succ]
  refine wpL_one 13 rfl (by kernel_rfl) (by rfl) (fun K hK => ?_)
  go_simp
  refine hK.out _ _ (fun h => absurd rfl h) ?_
  clear hK K
  refine wpL_done (by kernel_rfl) ?_
  refine NoPanic.normal ?_
  go_wp2_with fail
  go_ret
  exact ⟨rfl, HB3.out, HF3.out⟩
set_option maxRecDepth 100000 in
set_option maxHeartbeats 3200000 in
theorem does7 (w : World) (t b r : Nat) (A : Tab) (V : Nat → Op4) (x : Stp) (h : Bs w t b r A V) (hk : x.what = 7) : Calls Try.prog 10 #[pq t, pq r, x.v] w fun e w' => e = .returned (.bool true) ∧ BsX w' t b r ∧ Fr t [75, 54, 30, 55, 57] w w' := by
  have z0 : (x.what == 0) = false := by simp only [beq_eq_false_iff_ne, ne_eq]; omega
  have z1 : (x.what == 1) = false := by simp only [beq_eq_false_iff_ne, ne_eq]; omega
  have z2 : (x.what == 2) = false := by simp only [beq_eq_false_iff_ne, ne_eq]; omega
  have z3 : (x.what == 3) = false := by simp only [beq_eq_false_iff_ne, ne_eq]; omega
  have z4 : (x.what == 4) = false := by simp only [beq_eq_false_iff_ne, ne_eq]; omega
  have z5 : (x.what == 5) = false := by simp only [beq_eq_false_iff_ne, ne_eq]; omega
  have z6 : (x.what == 6) = false := by simp only [beq_eq_false_iff_ne, ne_eq]; omega
  have z7 : (x.what == 7) = true := by simp only [beq_iff_eq]; omega
  clear hk
  have HV : Hid (Bs (w.alloc (spO x)) t b r A V) := h.below (below_one w _)
  have HX : Hid ((w.alloc (spO x)).heap[w.heap.size]? = some (spO x)) := heap_last w _
  have HFV : Hid (Fr t [75, 54, 30, 55, 57] w (w.alloc (spO x))) := Fr.of_below _ (below_one w _) h.lob
  obtain ⟨y0, y1, y2, y3, y4, y5⟩ := six_cells HX.out
  have hxl := blk_lt HX.out
  obtain ⟨Y, hc⟩ := drop_two t b r A V h.jn x.pid
  clear h
  have HVd := hid HV.out.drew
  have HFd : Hid (Fr t [75, 54, 30, 55, 57] w (w.alloc (spO x)).drew) := HFV.out.drewN 1
  have D1 := hid (hc (w.alloc (spO x)).drew HVd.out.tg)
  clear hc
  go_enter Try.func10, Try.ntmps10
  go_upto_region 19 with fail
  have HSd : Hid ((fun W : World => W.heap[w.heap.size]? = some (spO x)) (w.alloc (spO x)).drew) := HX.out
  clear y0 y1 y2 y3 y4 y5
  refine wp_region_noPanic ?_
  refine wp_region_last (fun W : World => W.heap[w.heap.size]? = some (spO x)) 9 (by kernel_rfl) ?_
  refine wpL_take 0 130 (pq t) [] rfl rfl (by kernel_rfl) (by decide) (by kernel_rfl) (by kernel_rfl) (by kernel_rfl) (fun _ _ _ h => h) HSd.out (by rfl) (fun W hW => by obtain ⟨y0, y1, y2, y3, y4, y5⟩ := six_cells hW; go_simp) ?_
  simp only [Act.put, List.setIfInBounds_toArray, List.set_cons_zero, List.set_cons_succ]
  refine wpL_take 1 131 (.pointer (some ⟨w.heap.size, 1, none⟩)) [] rfl rfl (by kernel_rfl) (by decide) (by kernel_rfl) (by kernel_rfl) (by kernel_rfl) (fun _ _ _ h => h) HSd.out (by rfl) (fun W hW => by obtain ⟨y0, y1, y2, y3, y4, y5⟩ := six_cells hW; go_simp) ?_
  simp only [Act.put, List.setIfInBounds_toArray, List.set_cons_zero, List.set_cons_succ]
  refine wpL_take 2 132 (i64 x.pid) [] rfl rfl (by kernel_rfl) (by decide) (by kernel_rfl) (by kernel_rfl) (by kernel_rfl) (fun _ _ _ h => h) HSd.out (by rfl) (fun W hW => by obtain ⟨y0, y1, y2, y3, y4, y5⟩ := six_cells hW; go_simp) ?_
  simp only [Act.put, List.setIfInBounds_toArray, List.set_cons_zero, List.set_cons_succ]
  refine wpL_take 4 134 (pq r) [] rfl rfl (by kernel_rfl) (by decide) (by kernel_rfl) (by kernel_rfl) (by kernel_rfl) (fun _ _ _ h => h) HSd.out (by rfl) (fun W hW => by obtain ⟨y0, y1, y2, y3, y4, y5⟩ := six_cells hW; go_simp) ?_
  simp only [Act.put, List.setIfInBounds_toArray, List.set_cons_zero, List.set_cons_succ]
  refine wpL_take 5 135 (.pointer (some ⟨w.heap.size, 1, none⟩)) [] rfl rfl (by kernel_rfl) (by decide) (by kernel_rfl) (by kernel_rfl) (by kernel_rfl) (fun _ _ _ h => h) HSd.out (by rfl) (fun W hW => by obtain ⟨y0, y1, y2, y3, y4, y5⟩ := six_cells hW; go_simp) ?_
  simp only [Act.put, List.setIfInBounds_toArray, List.set_cons_zero, List.set_cons_succ]
  refine wpL_take 6 136 (i64 x.pid) [] rfl rfl (by kernel_rfl) (by decide) (by kernel_rfl) (by kernel_rfl) (by kernel_rfl) (fun _ _ _ h => h) HSd.out (by rfl) (fun W hW => by obtain ⟨y0, y1, y2, y3, y4, y5⟩ := six_cells hW; go_simp) ?_
  simp only [Act.put, List.setIfInBounds_toArray, List.set_cons_zero, List.set_cons_succ]
  refine wpL_one 3 rfl (by kernel_rfl) (by rfl) (fun K hK => ?_)
  go_simp
  refine D1.out.mono ?_
  rintro e w2 ⟨rfl, O2, S2, ⟨A2, V2, hJ2, hT2, hO2, hS2, hF2⟩, hdoc⟩
  subst hO2 hS2
  have HJ2 := hid hJ2
  have HT2 := hid hT2
  have HR2 := hid (HVd.out.rt.fr hF2 rfl rfl rfl)
  have HF2 : Hid (Fr t [75, 54, 30, 55, 57] w w2) := HFd.out.trans (fr_p hF2)
  have HX2 : Hid (w2.heap[w.heap.size]? = some (spO x)) := hF2.kept _ _ HSd.out rfl
  have D2 := hid (hdoc w2 HR2.out)
  clear hJ2 hT2 hF2 hdoc D1
  have HS2 : Hid ((fun W : World => W.heap[w.heap.size]? = some (spO x)) w2) := HX2.out
  go_simp
  refine hK.out _ _ (fun _ => HS2.out) ?_
  clear hK K
  refine wpL_one 7 rfl (by kernel_rfl) (by rfl) (fun K hK => ?_)
  go_simp
  refine D2.out.mono ?_
  rintro e w3 ⟨rfl, hR3, hf3⟩
  have HB3 : Hid (BsX w3 t b r) := ⟨A2, V2, HJ2.out, tg_fr HT2.out hf3, hR3, HVd.out.le⟩
  have HF3 : Hid (Fr t [75, 54, 30, 55, 57] w w3) := HF2.out.trans (fr_r hf3 HVd.out.le)
  have HX3 : Hid (w3.heap[w.heap.size]? = some (spO x)) := hf3.kept _ _ HX2.out rfl
  clear hR3 hf3 D2
  have HS3 : Hid ((fun W : World => W.heap[w.heap.size]? = some (spO x)) w3) := HX3.out
  go_simp
  refine hK.out _ _ (fun _ => HS3.out) ?_
  clear hK K
  refine wpL_take 8 138 (.bool true) [] rfl rfl (by kernel_rfl) (by decide) (by kernel_rfl) (by kernel_rfl) (by kernel_rfl) (fun _ _ _ h => h) HS3.out (by rfl) (fun W hW => by obtain ⟨y0, y1, y2, y3, y4, y5⟩ := six_cells hW; go_simp) ?_
  simp only [Act.put, List.setIfInBounds_toArray, List.set_cons_zero, List.set_cons_succ]
  refine wpL_one 9 rfl (by kernel_rfl) (by rfl) (fun K hK => ?_)
  go_simp
  refine hK.out _ _ (fun h => absurd rfl h) ?_
  clear hK K
  refine wpL_done (by kernel_rfl) ?_
  refine NoPanic.normal ?_
  go_wp2_with fail
  go_ret
  exact ⟨rfl, HB3.out, HF3.out⟩
set_option maxRecDepth 100000 in
set_option maxHeartbeats 3200000 in
theorem does8 (w : World) (t b r : Nat) (A : Tab) (V : Nat → Op4) (x : Stp) (h : Bs w t b r A V) (hk : x.what = 8) : Calls Try.prog 10 #[pq t, pq r, x.v] w fun e w' => e = .returned (.bool true) ∧ BsX w' t b r ∧ Fr t [75, 54, 30, 55, 57] w w' := by
  have z0 : (x.what == 0) = false := by simp only [beq_eq_false_iff_ne, ne_eq]; omega
  have z1 : (x.what == 1) = false := by simp only [beq_eq_false_iff_ne, ne_eq]; omega
  have z2 : (x.what == 2) = false := by simp only [beq_eq_false_iff_ne, ne_eq]; omega
  have z3 : (x.what == 3) = false := by simp only [beq_eq_false_iff_ne, ne_eq]; omega
  have z4 : (x.what == 4) = false := by simp only [beq_eq_false_iff_ne, ne_eq]; omega
  have z5 : (x.what == 5) = false := by simp only [beq_eq_false_iff_ne, ne_eq]; omega
  have z6 : (x.what == 6) = false := by simp only [beq_eq_false_iff_ne, ne_eq]; omega
  have z7 : (x.what == 7) = false := by simp only [beq_eq_false_iff_ne, ne_eq]; omega
  have z8 : (x.what == 8) = true := by simp only [beq_iff_eq]; omega
  clear hk
  have HV : Hid (Bs (w.alloc (spO x)) t b r A V) := h.below (below_one w _)
  have HX : Hid ((w.alloc (spO x)).heap[w.heap.size]? = some (spO x)) := heap_last w _
  have HFV : Hid (Fr t [75, 54, 30, 55, 57] w (w.alloc (spO x))) := Fr.of_below _ (below_one w _) h.lob
  obtain ⟨y0, y1, y2, y3, y4, y5⟩ := six_cells HX.out
  have hxl := blk_lt HX.out
  obtain ⟨Y, hc⟩ := dup2_two t b r A V h.jn x.pid x.slot x.n
  clear h
  have HVd := hid HV.out.drew
  have HFd : Hid (Fr t [75, 54, 30, 55, 57] w (w.alloc (spO x)).drew) := HFV.out.drewN 1
  have D1 := hid (hc (w.alloc (spO x)).drew HVd.out.tg)
  clear hc
  go_enter Try.func10, Try.ntmps10
  go_upto_region 21 with fail
  have HSd : Hid ((fun W : World => W.heap[w.heap.size]? = some (spO x)) (w.alloc (spO x)).drew) := HX.out
  clear y0 y1 y2 y3 y4 y5
  refine wp_region_noPanic ?_
  refine wp_region_last (fun W : World => W.heap[w.heap.size]? = some (spO x)) 17 (by kernel_rfl) ?_
  refine wpL_take 0 141 (pq t) [] rfl rfl (by kernel_rfl) (by decide) (by kernel_rfl) (by kernel_rfl) (by kernel_rfl) (fun _ _ _ h => h) HSd.out (by rfl) (fun W hW => by obtain ⟨y0, y1, y2, y3, y4, y5⟩ := six_cells hW; go_simp) ?_
  simp only [Act.put, List.setIfInBounds_toArray, List.set_cons_zero, List.set_cons_succ]
  refine wpL_take 1 142 (.pointer (some ⟨w.heap.size, 1, none⟩)) [] rfl rfl (by kernel_rfl) (by decide) (by kernel_rfl) (by kernel_rfl) (by kernel_rfl) (fun _ _ _ h => h) HSd.out (by rfl) (fun W hW => by obtain ⟨y0, y1, y2, y3, y4, y5⟩ := six_cells hW; go_simp) ?_
  simp only [Act.put, List.setIfInBounds_toArray, List.set_cons_zero, List.set_cons_succ]
  refine wpL_take 2 143 (i64 x.pid) [] rfl rfl (by kernel_rfl) (by decide) (by kernel_rfl) (by kernel_rfl) (by kernel_rfl) (fun _ _ _ h => h) HSd.out (by rfl) (fun W hW => by obtain ⟨y0, y1, y2, y3, y4, y5⟩ := six_cells hW; go_simp) ?_
  simp only [Act.put, List.setIfInBounds_toArray, List.set_cons_zero, List.set_cons_succ]
  refine wpL_take 3 144 (.pointer (some ⟨w.heap.size, 2, none⟩)) [] rfl rfl (by kernel_rfl) (by decide) (by kernel_rfl) (by kernel_rfl) (by kernel_rfl) (fun _ _ _ h => h) HSd.out (by rfl) (fun W hW => by obtain ⟨y0, y1, y2, y3, y4, y5⟩ := six_cells hW; go_simp) ?_
  simp only [Act.put, List.setIfInBounds_toArray, List.set_cons_zero, List.set_cons_succ]
  refine wpL_take 4 145 (i64 x.slot) [] rfl rfl (by kernel_rfl) (by decide) (by kernel_rfl) (by kernel_rfl) (by kernel_rfl) (fun _ _ _ h => h) HSd.out (by rfl) (fun W hW => by obtain ⟨y0, y1, y2, y3, y4, y5⟩ := six_cells hW; go_simp) ?_
  simp only [Act.put, List.setIfInBounds_toArray, List.set_cons_zero, List.set_cons_succ]
  refine wpL_take 5 146 (.pointer (some ⟨w.heap.size, 5, none⟩)) [] rfl rfl (by kernel_rfl) (by decide) (by kernel_rfl) (by kernel_rfl) (by kernel_rfl) (fun _ _ _ h => h) HSd.out (by rfl) (fun W hW => by obtain ⟨y0, y1, y2, y3, y4, y5⟩ := six_cells hW; go_simp) ?_
  simp only [Act.put, List.setIfInBounds_toArray, List.set_cons_zero, List.set_cons_succ]
  refine wpL_take 6 147 (i64 x.n) [] rfl rfl (by kernel_rfl) (by decide) (by kernel_rfl) (by kernel_rfl) (by kernel_rfl) (fun _ _ _ h => h) HSd.out (by rfl) (fun W hW => by obtain ⟨y0, y1, y2, y3, y4, y5⟩ := six_cells hW; go_simp) ?_
  simp only [Act.put, List.setIfInBounds_toArray, List.set_cons_zero, List.set_cons_succ]
  refine wpL_take 8 149 (pq r) [] rfl rfl (by kernel_rfl) (by decide) (by kernel_rfl) (by kernel_rfl) (by kernel_rfl) (fun _ _ _ h => h) HSd.out (by rfl) (fun W hW => by obtain ⟨y0, y1, y2, y3, y4, y5⟩ := six_cells hW; go_simp) ?_
  simp only [Act.put, List.setIfInBounds_toArray, List.set_cons_zero, List.set_cons_succ]
  refine wpL_take 9 150 (.pointer (some ⟨w.heap.size, 1, none⟩)) [] rfl rfl (by kernel_rfl) (by decide) (by kernel_rfl) (by kernel_rfl) (by kernel_rfl) (fun _ _ _ h => h) HSd.out (by rfl) (fun W hW => by obtain ⟨y0, y1, y2, y3, y4, y5⟩ := six_cells hW; go_simp) ?_
  simp only [Act.put, List.setIfInBounds_toArray, List.set_cons_zero, List.set_cons_succ]
  refine wpL_take 10 151 (i64 x.pid) [] rfl rfl (by kernel_rfl) (by decide) (by kernel_rfl) (by kernel_rfl) (by kernel_rfl) (fun _ _ _ h => h) HSd.out (by rfl) (fun W hW => by obtain ⟨y0, y1, y2, y3, y4, y5⟩ := six_cells hW; go_simp) ?_
  simp only [Act.put, List.setIfInBounds_toArray, List.set_cons_zero, List.set_cons_succ]
  refine wpL_take 11 152 (.pointer (some ⟨w.heap.size, 2, none⟩)) [] rfl rfl (by kernel_rfl) (by decide) (by kernel_rfl) (by kernel_rfl) (by kernel_rfl) (fun _ _ _ h => h) HSd.out (by rfl) (fun W hW => by obtain ⟨y0, y1, y2, y3, y4, y5⟩ := six_cells hW; go_simp) ?_
  simp only [Act.put, List.setIfInBounds_toArray, List.set_cons_zero, List.set_cons_succ]
  refine wpL_take 12 153 (i64 x.slot) [] rfl rfl (by kernel_rfl) (by decide) (by kernel_rfl) (by kernel_rfl) (by kernel_rfl) (fun _ _ _ h => h) HSd.out (by rfl) (fun W hW => by obtain ⟨y0, y1, y2, y3, y4, y5⟩ := six_cells hW; go_simp) ?_
  simp only [Act.put, List.setIfInBounds_toArray, List.set_cons_zero, List.set_cons_succ]
  refine wpL_take 13 154 (.pointer (some ⟨w.heap.size, 5, none⟩)) [] rfl rfl (by kernel_rfl) (by decide) (by kernel_rfl) (by kernel_rfl) (by kernel_rfl) (fun _ _ _ h => h) HSd.out (by rfl) (fun W hW => by obtain ⟨y0, y1, y2, y3, y4, y5⟩ := six_cells hW; go_simp) ?_
  simp only [Act.put, List.setIfInBounds_toArray, List.set_cons_zero, List.set_cons_succ]
  refine wpL_take 14 155 (i64 x.n) [] rfl rfl (by kernel_rfl) (by decide) (by kernel_rfl) (by kernel_rfl) (by kernel_rfl) (fun _ _ _ h => h) HSd.out (by rfl) (fun W hW => by obtain ⟨y0, y1, y2, y3, y4, y5⟩ := six_cells hW; go_simp) ?_
  simp only [Act.put, List.setIfInBounds_toArray, List.set_cons_zero, List.set_cons_succ]
  refine wpL_one 7 rfl (by kernel_rfl) (by rfl) (fun K hK => ?_)
  go_simp
  refine D1.out.mono ?_
  rintro e w2 ⟨rfl, O2, S2, ⟨A2, V2, hJ2, hT2, hO2, hS2, hF2⟩, hdoc⟩
  subst hO2 hS2
  have HJ2 := hid hJ2
  have HT2 := hid hT2
  have HR2 := hid (HVd.out.rt.fr hF2 rfl rfl rfl)
  have HF2 : Hid (Fr t [75, 54, 30, 55, 57] w w2) := HFd.out.trans (fr_p hF2)
  have HX2 : Hid (w2.heap[w.heap.size]? = some (spO x)) := hF2.kept _ _ HSd.out rfl
  have D2 := hid (hdoc w2 HR2.out)
  clear hJ2 hT2 hF2 hdoc D1
  have HS2 : Hid ((fun W : World => W.heap[w.heap.size]? = some (spO x)) w2) := HX2.out
  go_simp
  refine hK.out _ _ (fun _ => HS2.out) ?_
  clear hK K
  refine wpL_one 15 rfl (by kernel_rfl) (by rfl) (fun K hK => ?_)
  go_simp
  refine D2.out.mono ?_
  rintro e w3 ⟨rfl, hR3, hf3⟩
  have HB3 : Hid (BsX w3 t b r) := ⟨A2, V2, HJ2.out, tg_fr HT2.out hf3, hR3, HVd.out.le⟩
  have HF3 : Hid (Fr t [75, 54, 30, 55, 57] w w3) := HF2.out.trans (fr_r hf3 HVd.out.le)
  have HX3 : Hid (w3.heap[w.heap.size]? = some (spO x)) := hf3.kept _ _ HX2.out rfl
  clear hR3 hf3 D2
  have HS3 : Hid ((fun W : World => W.heap[w.heap.size]? = some (spO x)) w3) := HX3.out
  go_simp
  refine hK.out _ _ (fun _ => HS3.out) ?_
  clear hK K
  refine wpL_take 16 157 (.bool true) [] rfl rfl (by kernel_rfl) (by decide) (by kernel_rfl) (by kernel_rfl) (by kernel_rfl) (fun _ _ _ h => h) HS3.out (by rfl) (fun W hW => by obtain ⟨y0, y1, y2, y3, y4, y5⟩ := six_cells hW; go_simp) ?_
  simp only [Act.put, List.setIfInBounds_toArray, List.set_cons_zero, List.set_cons_succ]
  refine wpL_one 17 rfl (by kernel_rfl) (by rfl) (fun K hK => ?_)
  go_simp
  refine hK.out _ _ (fun h => absurd rfl h) ?_
  clear hK K
  refine wpL_done (by kernel_rfl) ?_
  refine NoPanic.normal ?_
  go_wp2_with fail
  go_ret
  exact ⟨rfl, HB3.out, HF3.out⟩
set_option maxRecDepth 100000 in
set_option maxHeartbeats 3200000 in
theorem does9 (w : World) (t b r : Nat) (A : Tab) (V : Nat → Op4) (x : Stp) (h : Bs w t b r A V) (hk : ¬(0 ≤ x.what ∧ x.what ≤ 8)) : Calls Try.prog 10 #[pq t, pq r, x.v] w fun e w' => e = .returned (.bool true) ∧ BsX w' t b r ∧ Fr t [75, 54, 30, 55, 57] w w' := by
  have z0 : (x.what == 0) = false := by simp only [beq_eq_false_iff_ne, ne_eq]; omega
  have z1 : (x.what == 1) = false := by simp only [beq_eq_false_iff_ne, ne_eq]; omega
  have z2 : (x.what == 2) = false := by simp only [beq_eq_false_iff_ne, ne_eq]; omega
  have z3 : (x.what == 3) = false := by simp only [beq_eq_false_iff_ne, ne_eq]; omega
  have z4 : (x.what == 4) = false := by simp only [beq_eq_false_iff_ne, ne_eq]; omega
  have z5 : (x.what == 5) = false := by simp only [beq_eq_false_iff_ne, ne_eq]; omega
  have z6 : (x.what == 6) = false := by simp only [beq_eq_false_iff_ne, ne_eq]; omega
  have z7 : (x.what == 7) = false := by simp only [beq_eq_false_iff_ne, ne_eq]; omega
  have z8 : (x.what == 8) = false := by simp only [beq_eq_false_iff_ne, ne_eq]; omega
  clear hk
  have HV : Hid (Bs (w.alloc (spO x)) t b r A V) := h.below (below_one w _)
  have HX : Hid ((w.alloc (spO x)).heap[w.heap.size]? = some (spO x)) := heap_last w _
  have HFV : Hid (Fr t [75, 54, 30, 55, 57] w (w.alloc (spO x))) := Fr.of_below _ (below_one w _) h.lob
  obtain ⟨y0, y1, y2, y3, y4, y5⟩ := six_cells HX.out
  have hxl := blk_lt HX.out
  have HB3 : Hid (BsX (w.alloc (spO x)) t b r) := ⟨A, V, HV.out⟩
  clear h
  go_enter Try.func10, Try.ntmps10
  go_wp2_with fail
  go_ret
  exact ⟨rfl, HB3.out, HFV.out⟩
theorem does_ok (w : World) (t b r : Nat) (x : Stp) (h : BsX w t b r) : Calls Try.prog 10 #[pq t, pq r, x.v] w fun e w' => e = .returned (.bool true) ∧ BsX w' t b r ∧ Fr t [75, 54, 30, 55, 57] w w' := by
  obtain ⟨A, V, h⟩ := h
  by_cases hk : 0 ≤ x.what ∧ x.what ≤ 8
  · have hc : x.what = 0 ∨ x.what = 1 ∨ x.what = 2 ∨ x.what = 3 ∨ x.what = 4 ∨ x.what = 5 ∨ x.what = 6 ∨ x.what = 7 ∨ x.what = 8 := by omega
    rcases hc with e | e | e | e | e | e | e | e | e
    · exact does0 w t b r A V x h e
    · exact does1 w t b r A V x h e
    · exact does2 w t b r A V x h e
    · exact does3 w t b r A V x h e
    · exact does4 w t b r A V x h e
    · exact does5 w t b r A V x h e
    · exact does6 w t b r A V x h e
    · exact does7 w t b r A V x h e
    · exact does8 w t b r A V x h e
  · exact does9 w t b r A V x h hk
end Go.Proofs.Ytaapiffglfppnaa
