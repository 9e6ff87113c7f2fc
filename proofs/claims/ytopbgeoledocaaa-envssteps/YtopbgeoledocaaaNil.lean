/- EnvsNil's walk; steps; no statement is proved in this text. -/
import Derived.Test.YtopbgeoledocaaaFive
namespace Go.Proofs.Ytopbgeoledocaaa
open Go.ChangeShapes Go.WideShapes Go.ChangeAt Go.RowKit Go.Deep
attribute [local go_sem ↓] Go.wp_at_zero Go.wp_at_succ

structure Sp where
  (what env ver k x : Int)
abbrev Sp.c' (s : Sp) : List Value := [i64 s.what, i64 s.env, i64 s.ver, i64 s.k, i64 s.x]
abbrev spO (s : Sp) : Obj := .cells #[i64 s.what, i64 s.env, i64 s.ver, i64 s.k, i64 s.x] 33
set_option maxRecDepth 100000 in
set_option maxHeartbeats 3200000 in
theorem nil_a (w : World) (t n v k x : Int) (h1 : n < 1) : Calls Try.prog 7 #[.agg #[i64 t, i64 n, i64 v, i64 k, i64 x]] w fun e w' => e = .returned (.bool true) ∧ Below w.heap.size w w' := by
  have HO : Hid (∀ w1, Calls Try.prog 17 #[.pointer none, i64 n, i64 v] w1 fun e w' => e = .returned (i64 1) ∧ w' = w1) := fun w1 => open_arg w1 _ n v (by unfold opB envB verB; simp; omega)
  have HV : Hid (∀ w1, Calls Try.prog 13 #[.pointer none, i64 n] w1 fun e w' => e = .returned (.tuple #[i64 0, i64 6]) ∧ w' = w1) := fun w1 => ver_nil w1 n
  have HTk : Hid (∀ w1, Calls Try.prog 19 #[.pointer none, i64 n] w1 fun e w' => e = .returned (.tuple #[upV 0 0, i64 6]) ∧ Below w1.heap.size w1 w') := fun w1 => take_none w1 _ n (of_nil _ n)
  have HC : Hid (∀ w1, Calls Try.prog 20 #[.pointer none, i64 n] w1 fun e w' => e = .returned (i64 6) ∧ w' = w1) := fun w1 => close_none w1 _ n (of_nil _ n)
  have HCh : Hid (∀ w1, Calls Try.prog 21 #[.pointer none, i64 n, i64 v] w1 fun e w' => e = .returned (i64 6) ∧ w' = w1) := fun w1 => change_none w1 _ n v (of_nil _ n)
  have HP : Hid (∀ w1, Calls Try.prog 18 #[.pointer none, i64 n, upV k x] w1 fun e w' => e = .returned (i64 6) ∧ Below w1.heap.size w1 w') := fun w1 => post_none w1 _ n k x (of_nil _ n)
  have HL : Hid (∀ w1, Calls Try.prog 11 #[.pointer none, i64 n] w1 fun e w' => e = .returned (i64 0) ∧ w' = w1) := fun w1 => lost_nil w1 n
  have HX : Hid ((w.alloc (spO ⟨t, n, v, k, x⟩)).heap[w.heap.size]? = some (spO ⟨t, n, v, k, x⟩)) := heap_last w _
  have HB : Hid (Below w.heap.size w (w.alloc (spO ⟨t, n, v, k, x⟩))) := below_one w _
  go_enter Try.func7, Try.ntmps7
  go_upto_region 2 with fail
  obtain ⟨Z, hZ⟩ : ∃ Z, Z = w.heap.size := ⟨_, rfl⟩
  rw [← hZ] at HX ⊢
  generalize w.alloc (spO ⟨t, n, v, k, x⟩) = V at *
  have y1 : V.cell? ⟨Z, 1, none⟩ = some (i64 n) := blk_cell HX.out 1
  have y2 : V.cell? ⟨Z, 2, none⟩ = some (i64 v) := blk_cell HX.out 2
  clear hZ
  go_wp2_with fail
  refine (HO.out _).mono ?_
  rintro e v1 ⟨rfl, hv⟩
  replace hv := hv.symm
  subst hv
  go_wp2_with fail
  refine (HV.out _).mono ?_
  rintro e v1 ⟨rfl, hv⟩
  replace hv := hv.symm
  subst hv
  go_wp2_with fail
  refine (HTk.out _).mono ?_
  rintro e w2 ⟨rfl, hb2⟩
  have HX2 : Hid ((w2.alloc (upO 0 0)).heap[Z]? = some (spO ⟨t, n, v, k, x⟩)) := blk_alloc (blk_below HX.out hb2) _
  have HB2 : Hid (Below w.heap.size w (w2.alloc (upO 0 0))) := (HB.out.trans (hb2.mono HB.out.size)).trans ((below_one w2 _).mono (Nat.le_trans HB.out.size hb2.size))
  clear hb2 y1 y2
  go_upto_region 5 with fail
  generalize w2.alloc (upO 0 0) = U at *
  have y1 : U.cell? ⟨Z, 1, none⟩ = some (i64 n) := blk_cell HX2.out 1
  have y2 : U.cell? ⟨Z, 2, none⟩ = some (i64 v) := blk_cell HX2.out 2
  have y3 : U.cell? ⟨Z, 3, none⟩ = some (i64 k) := blk_cell HX2.out 3
  have y4 : U.cell? ⟨Z, 4, none⟩ = some (i64 x) := blk_cell HX2.out 4
  go_wp2_with fail
  refine (HC.out _).mono ?_
  rintro e v1 ⟨rfl, hv⟩
  replace hv := hv.symm
  subst hv
  go_wp2_with fail
  refine (HCh.out _).mono ?_
  rintro e v1 ⟨rfl, hv⟩
  replace hv := hv.symm
  subst hv
  go_wp2_with fail
  refine (HP.out _).mono ?_
  rintro e w3 ⟨rfl, hb3⟩
  have HX3 : Hid (w3.heap[Z]? = some (spO ⟨t, n, v, k, x⟩)) := blk_below HX2.out hb3
  have HB3 : Hid (Below w.heap.size w w3) := HB2.out.trans (hb3.mono HB2.out.size)
  have z1 : w3.cell? ⟨Z, 1, none⟩ = some (i64 n) := blk_cell HX3.out 1
  clear hb3
  go_wp2_with fail
  refine (HL.out _).mono ?_
  rintro e v1 ⟨rfl, hv⟩
  replace hv := hv.symm
  subst hv
  go_wp2_with fail
  refine (five_ok _).mono ?_
  rintro e w4 ⟨rfl, hb4⟩
  have HB4 : Hid (Below w.heap.size w w4) := HB3.out.trans (hb4.mono HB3.out.size)
  clear hb4
  go_wp2_with fail
  go_ret
  exact ⟨rfl, HB4.out⟩
set_option maxRecDepth 100000 in
set_option maxHeartbeats 3200000 in
theorem nil_b (w : World) (t n v k x : Int) (h1 : ¬ n < 1) (h2 : 3 < n) : Calls Try.prog 7 #[.agg #[i64 t, i64 n, i64 v, i64 k, i64 x]] w fun e w' => e = .returned (.bool true) ∧ Below w.heap.size w w' := by
  have HO : Hid (∀ w1, Calls Try.prog 17 #[.pointer none, i64 n, i64 v] w1 fun e w' => e = .returned (i64 1) ∧ w' = w1) := fun w1 => open_arg w1 _ n v (by unfold opB envB verB; simp; omega)
  have HV : Hid (∀ w1, Calls Try.prog 13 #[.pointer none, i64 n] w1 fun e w' => e = .returned (.tuple #[i64 0, i64 6]) ∧ w' = w1) := fun w1 => ver_nil w1 n
  have HTk : Hid (∀ w1, Calls Try.prog 19 #[.pointer none, i64 n] w1 fun e w' => e = .returned (.tuple #[upV 0 0, i64 6]) ∧ Below w1.heap.size w1 w') := fun w1 => take_none w1 _ n (of_nil _ n)
  have HC : Hid (∀ w1, Calls Try.prog 20 #[.pointer none, i64 n] w1 fun e w' => e = .returned (i64 6) ∧ w' = w1) := fun w1 => close_none w1 _ n (of_nil _ n)
  have HCh : Hid (∀ w1, Calls Try.prog 21 #[.pointer none, i64 n, i64 v] w1 fun e w' => e = .returned (i64 6) ∧ w' = w1) := fun w1 => change_none w1 _ n v (of_nil _ n)
  have HP : Hid (∀ w1, Calls Try.prog 18 #[.pointer none, i64 n, upV k x] w1 fun e w' => e = .returned (i64 6) ∧ Below w1.heap.size w1 w') := fun w1 => post_none w1 _ n k x (of_nil _ n)
  have HL : Hid (∀ w1, Calls Try.prog 11 #[.pointer none, i64 n] w1 fun e w' => e = .returned (i64 0) ∧ w' = w1) := fun w1 => lost_nil w1 n
  have HX : Hid ((w.alloc (spO ⟨t, n, v, k, x⟩)).heap[w.heap.size]? = some (spO ⟨t, n, v, k, x⟩)) := heap_last w _
  have HB : Hid (Below w.heap.size w (w.alloc (spO ⟨t, n, v, k, x⟩))) := below_one w _
  go_enter Try.func7, Try.ntmps7
  go_upto_region 2 with fail
  obtain ⟨Z, hZ⟩ : ∃ Z, Z = w.heap.size := ⟨_, rfl⟩
  rw [← hZ] at HX ⊢
  generalize w.alloc (spO ⟨t, n, v, k, x⟩) = V at *
  have y1 : V.cell? ⟨Z, 1, none⟩ = some (i64 n) := blk_cell HX.out 1
  have y2 : V.cell? ⟨Z, 2, none⟩ = some (i64 v) := blk_cell HX.out 2
  clear hZ
  go_wp2_with fail
  refine (HO.out _).mono ?_
  rintro e v1 ⟨rfl, hv⟩
  replace hv := hv.symm
  subst hv
  go_wp2_with fail
  refine (HV.out _).mono ?_
  rintro e v1 ⟨rfl, hv⟩
  replace hv := hv.symm
  subst hv
  go_wp2_with fail
  refine (HTk.out _).mono ?_
  rintro e w2 ⟨rfl, hb2⟩
  have HX2 : Hid ((w2.alloc (upO 0 0)).heap[Z]? = some (spO ⟨t, n, v, k, x⟩)) := blk_alloc (blk_below HX.out hb2) _
  have HB2 : Hid (Below w.heap.size w (w2.alloc (upO 0 0))) := (HB.out.trans (hb2.mono HB.out.size)).trans ((below_one w2 _).mono (Nat.le_trans HB.out.size hb2.size))
  clear hb2 y1 y2
  go_upto_region 5 with fail
  generalize w2.alloc (upO 0 0) = U at *
  have y1 : U.cell? ⟨Z, 1, none⟩ = some (i64 n) := blk_cell HX2.out 1
  have y2 : U.cell? ⟨Z, 2, none⟩ = some (i64 v) := blk_cell HX2.out 2
  have y3 : U.cell? ⟨Z, 3, none⟩ = some (i64 k) := blk_cell HX2.out 3
  have y4 : U.cell? ⟨Z, 4, none⟩ = some (i64 x) := blk_cell HX2.out 4
  go_wp2_with fail
  refine (HC.out _).mono ?_
  rintro e v1 ⟨rfl, hv⟩
  replace hv := hv.symm
  subst hv
  go_wp2_with fail
  refine (HCh.out _).mono ?_
  rintro e v1 ⟨rfl, hv⟩
  replace hv := hv.symm
  subst hv
  go_wp2_with fail
  refine (HP.out _).mono ?_
  rintro e w3 ⟨rfl, hb3⟩
  have HX3 : Hid (w3.heap[Z]? = some (spO ⟨t, n, v, k, x⟩)) := blk_below HX2.out hb3
  have HB3 : Hid (Below w.heap.size w w3) := HB2.out.trans (hb3.mono HB2.out.size)
  have z1 : w3.cell? ⟨Z, 1, none⟩ = some (i64 n) := blk_cell HX3.out 1
  clear hb3
  go_wp2_with fail
  refine (HL.out _).mono ?_
  rintro e v1 ⟨rfl, hv⟩
  replace hv := hv.symm
  subst hv
  go_wp2_with fail
  refine (five_ok _).mono ?_
  rintro e w4 ⟨rfl, hb4⟩
  have HB4 : Hid (Below w.heap.size w w4) := HB3.out.trans (hb4.mono HB3.out.size)
  clear hb4
  go_wp2_with fail
  go_ret
  exact ⟨rfl, HB4.out⟩
set_option maxRecDepth 100000 in
set_option maxHeartbeats 3200000 in
theorem nil_c (w : World) (t n v k x : Int) (h1 : ¬ n < 1) (h2 : ¬ 3 < n) (h3 : v < 1) : Calls Try.prog 7 #[.agg #[i64 t, i64 n, i64 v, i64 k, i64 x]] w fun e w' => e = .returned (.bool true) ∧ Below w.heap.size w w' := by
  have HO : Hid (∀ w1, Calls Try.prog 17 #[.pointer none, i64 n, i64 v] w1 fun e w' => e = .returned (i64 1) ∧ w' = w1) := fun w1 => open_arg w1 _ n v (by unfold opB envB verB; simp; omega)
  have HV : Hid (∀ w1, Calls Try.prog 13 #[.pointer none, i64 n] w1 fun e w' => e = .returned (.tuple #[i64 0, i64 6]) ∧ w' = w1) := fun w1 => ver_nil w1 n
  have HTk : Hid (∀ w1, Calls Try.prog 19 #[.pointer none, i64 n] w1 fun e w' => e = .returned (.tuple #[upV 0 0, i64 6]) ∧ Below w1.heap.size w1 w') := fun w1 => take_none w1 _ n (of_nil _ n)
  have HC : Hid (∀ w1, Calls Try.prog 20 #[.pointer none, i64 n] w1 fun e w' => e = .returned (i64 6) ∧ w' = w1) := fun w1 => close_none w1 _ n (of_nil _ n)
  have HCh : Hid (∀ w1, Calls Try.prog 21 #[.pointer none, i64 n, i64 v] w1 fun e w' => e = .returned (i64 6) ∧ w' = w1) := fun w1 => change_none w1 _ n v (of_nil _ n)
  have HP : Hid (∀ w1, Calls Try.prog 18 #[.pointer none, i64 n, upV k x] w1 fun e w' => e = .returned (i64 6) ∧ Below w1.heap.size w1 w') := fun w1 => post_none w1 _ n k x (of_nil _ n)
  have HL : Hid (∀ w1, Calls Try.prog 11 #[.pointer none, i64 n] w1 fun e w' => e = .returned (i64 0) ∧ w' = w1) := fun w1 => lost_nil w1 n
  have HX : Hid ((w.alloc (spO ⟨t, n, v, k, x⟩)).heap[w.heap.size]? = some (spO ⟨t, n, v, k, x⟩)) := heap_last w _
  have HB : Hid (Below w.heap.size w (w.alloc (spO ⟨t, n, v, k, x⟩))) := below_one w _
  go_enter Try.func7, Try.ntmps7
  go_upto_region 2 with fail
  obtain ⟨Z, hZ⟩ : ∃ Z, Z = w.heap.size := ⟨_, rfl⟩
  rw [← hZ] at HX ⊢
  generalize w.alloc (spO ⟨t, n, v, k, x⟩) = V at *
  have y1 : V.cell? ⟨Z, 1, none⟩ = some (i64 n) := blk_cell HX.out 1
  have y2 : V.cell? ⟨Z, 2, none⟩ = some (i64 v) := blk_cell HX.out 2
  clear hZ
  go_wp2_with fail
  refine (HO.out _).mono ?_
  rintro e v1 ⟨rfl, hv⟩
  replace hv := hv.symm
  subst hv
  go_wp2_with fail
  refine (HV.out _).mono ?_
  rintro e v1 ⟨rfl, hv⟩
  replace hv := hv.symm
  subst hv
  go_wp2_with fail
  refine (HTk.out _).mono ?_
  rintro e w2 ⟨rfl, hb2⟩
  have HX2 : Hid ((w2.alloc (upO 0 0)).heap[Z]? = some (spO ⟨t, n, v, k, x⟩)) := blk_alloc (blk_below HX.out hb2) _
  have HB2 : Hid (Below w.heap.size w (w2.alloc (upO 0 0))) := (HB.out.trans (hb2.mono HB.out.size)).trans ((below_one w2 _).mono (Nat.le_trans HB.out.size hb2.size))
  clear hb2 y1 y2
  go_upto_region 5 with fail
  generalize w2.alloc (upO 0 0) = U at *
  have y1 : U.cell? ⟨Z, 1, none⟩ = some (i64 n) := blk_cell HX2.out 1
  have y2 : U.cell? ⟨Z, 2, none⟩ = some (i64 v) := blk_cell HX2.out 2
  have y3 : U.cell? ⟨Z, 3, none⟩ = some (i64 k) := blk_cell HX2.out 3
  have y4 : U.cell? ⟨Z, 4, none⟩ = some (i64 x) := blk_cell HX2.out 4
  go_wp2_with fail
  refine (HC.out _).mono ?_
  rintro e v1 ⟨rfl, hv⟩
  replace hv := hv.symm
  subst hv
  go_wp2_with fail
  refine (HCh.out _).mono ?_
  rintro e v1 ⟨rfl, hv⟩
  replace hv := hv.symm
  subst hv
  go_wp2_with fail
  refine (HP.out _).mono ?_
  rintro e w3 ⟨rfl, hb3⟩
  have HX3 : Hid (w3.heap[Z]? = some (spO ⟨t, n, v, k, x⟩)) := blk_below HX2.out hb3
  have HB3 : Hid (Below w.heap.size w w3) := HB2.out.trans (hb3.mono HB2.out.size)
  have z1 : w3.cell? ⟨Z, 1, none⟩ = some (i64 n) := blk_cell HX3.out 1
  clear hb3
  go_wp2_with fail
  refine (HL.out _).mono ?_
  rintro e v1 ⟨rfl, hv⟩
  replace hv := hv.symm
  subst hv
  go_wp2_with fail
  refine (five_ok _).mono ?_
  rintro e w4 ⟨rfl, hb4⟩
  have HB4 : Hid (Below w.heap.size w w4) := HB3.out.trans (hb4.mono HB3.out.size)
  clear hb4
  go_wp2_with fail
  go_ret
  exact ⟨rfl, HB4.out⟩
set_option maxRecDepth 100000 in
set_option maxHeartbeats 3200000 in
theorem nil_d (w : World) (t n v k x : Int) (h1 : ¬ n < 1) (h2 : ¬ 3 < n) (h3 : ¬ v < 1) (h4 : 2 < v) : Calls Try.prog 7 #[.agg #[i64 t, i64 n, i64 v, i64 k, i64 x]] w fun e w' => e = .returned (.bool true) ∧ Below w.heap.size w w' := by
  have HO : Hid (∀ w1, Calls Try.prog 17 #[.pointer none, i64 n, i64 v] w1 fun e w' => e = .returned (i64 1) ∧ w' = w1) := fun w1 => open_arg w1 _ n v (by unfold opB envB verB; simp; omega)
  have HV : Hid (∀ w1, Calls Try.prog 13 #[.pointer none, i64 n] w1 fun e w' => e = .returned (.tuple #[i64 0, i64 6]) ∧ w' = w1) := fun w1 => ver_nil w1 n
  have HTk : Hid (∀ w1, Calls Try.prog 19 #[.pointer none, i64 n] w1 fun e w' => e = .returned (.tuple #[upV 0 0, i64 6]) ∧ Below w1.heap.size w1 w') := fun w1 => take_none w1 _ n (of_nil _ n)
  have HC : Hid (∀ w1, Calls Try.prog 20 #[.pointer none, i64 n] w1 fun e w' => e = .returned (i64 6) ∧ w' = w1) := fun w1 => close_none w1 _ n (of_nil _ n)
  have HCh : Hid (∀ w1, Calls Try.prog 21 #[.pointer none, i64 n, i64 v] w1 fun e w' => e = .returned (i64 6) ∧ w' = w1) := fun w1 => change_none w1 _ n v (of_nil _ n)
  have HP : Hid (∀ w1, Calls Try.prog 18 #[.pointer none, i64 n, upV k x] w1 fun e w' => e = .returned (i64 6) ∧ Below w1.heap.size w1 w') := fun w1 => post_none w1 _ n k x (of_nil _ n)
  have HL : Hid (∀ w1, Calls Try.prog 11 #[.pointer none, i64 n] w1 fun e w' => e = .returned (i64 0) ∧ w' = w1) := fun w1 => lost_nil w1 n
  have HX : Hid ((w.alloc (spO ⟨t, n, v, k, x⟩)).heap[w.heap.size]? = some (spO ⟨t, n, v, k, x⟩)) := heap_last w _
  have HB : Hid (Below w.heap.size w (w.alloc (spO ⟨t, n, v, k, x⟩))) := below_one w _
  go_enter Try.func7, Try.ntmps7
  go_upto_region 2 with fail
  obtain ⟨Z, hZ⟩ : ∃ Z, Z = w.heap.size := ⟨_, rfl⟩
  rw [← hZ] at HX ⊢
  generalize w.alloc (spO ⟨t, n, v, k, x⟩) = V at *
  have y1 : V.cell? ⟨Z, 1, none⟩ = some (i64 n) := blk_cell HX.out 1
  have y2 : V.cell? ⟨Z, 2, none⟩ = some (i64 v) := blk_cell HX.out 2
  clear hZ
  go_wp2_with fail
  refine (HO.out _).mono ?_
  rintro e v1 ⟨rfl, hv⟩
  replace hv := hv.symm
  subst hv
  go_wp2_with fail
  refine (HV.out _).mono ?_
  rintro e v1 ⟨rfl, hv⟩
  replace hv := hv.symm
  subst hv
  go_wp2_with fail
  refine (HTk.out _).mono ?_
  rintro e w2 ⟨rfl, hb2⟩
  have HX2 : Hid ((w2.alloc (upO 0 0)).heap[Z]? = some (spO ⟨t, n, v, k, x⟩)) := blk_alloc (blk_below HX.out hb2) _
  have HB2 : Hid (Below w.heap.size w (w2.alloc (upO 0 0))) := (HB.out.trans (hb2.mono HB.out.size)).trans ((below_one w2 _).mono (Nat.le_trans HB.out.size hb2.size))
  clear hb2 y1 y2
  go_upto_region 5 with fail
  generalize w2.alloc (upO 0 0) = U at *
  have y1 : U.cell? ⟨Z, 1, none⟩ = some (i64 n) := blk_cell HX2.out 1
  have y2 : U.cell? ⟨Z, 2, none⟩ = some (i64 v) := blk_cell HX2.out 2
  have y3 : U.cell? ⟨Z, 3, none⟩ = some (i64 k) := blk_cell HX2.out 3
  have y4 : U.cell? ⟨Z, 4, none⟩ = some (i64 x) := blk_cell HX2.out 4
  go_wp2_with fail
  refine (HC.out _).mono ?_
  rintro e v1 ⟨rfl, hv⟩
  replace hv := hv.symm
  subst hv
  go_wp2_with fail
  refine (HCh.out _).mono ?_
  rintro e v1 ⟨rfl, hv⟩
  replace hv := hv.symm
  subst hv
  go_wp2_with fail
  refine (HP.out _).mono ?_
  rintro e w3 ⟨rfl, hb3⟩
  have HX3 : Hid (w3.heap[Z]? = some (spO ⟨t, n, v, k, x⟩)) := blk_below HX2.out hb3
  have HB3 : Hid (Below w.heap.size w w3) := HB2.out.trans (hb3.mono HB2.out.size)
  have z1 : w3.cell? ⟨Z, 1, none⟩ = some (i64 n) := blk_cell HX3.out 1
  clear hb3
  go_wp2_with fail
  refine (HL.out _).mono ?_
  rintro e v1 ⟨rfl, hv⟩
  replace hv := hv.symm
  subst hv
  go_wp2_with fail
  refine (five_ok _).mono ?_
  rintro e w4 ⟨rfl, hb4⟩
  have HB4 : Hid (Below w.heap.size w w4) := HB3.out.trans (hb4.mono HB3.out.size)
  clear hb4
  go_wp2_with fail
  go_ret
  exact ⟨rfl, HB4.out⟩
set_option maxRecDepth 100000 in
set_option maxHeartbeats 3200000 in
theorem nil_e (w : World) (t n v k x : Int) (h1 : ¬ n < 1) (h2 : ¬ 3 < n) (h3 : ¬ v < 1) (h4 : ¬ 2 < v) : Calls Try.prog 7 #[.agg #[i64 t, i64 n, i64 v, i64 k, i64 x]] w fun e w' => e = .returned (.bool true) ∧ Below w.heap.size w w' := by
  have HO : Hid (∀ w1, Calls Try.prog 17 #[.pointer none, i64 n, i64 v] w1 fun e w' => e = .returned (i64 7) ∧ w' = w1) := fun w1 => open_nil w1 n v (by unfold opB envB verB; simp; omega)
  have HV : Hid (∀ w1, Calls Try.prog 13 #[.pointer none, i64 n] w1 fun e w' => e = .returned (.tuple #[i64 0, i64 6]) ∧ w' = w1) := fun w1 => ver_nil w1 n
  have HTk : Hid (∀ w1, Calls Try.prog 19 #[.pointer none, i64 n] w1 fun e w' => e = .returned (.tuple #[upV 0 0, i64 6]) ∧ Below w1.heap.size w1 w') := fun w1 => take_none w1 _ n (of_nil _ n)
  have HC : Hid (∀ w1, Calls Try.prog 20 #[.pointer none, i64 n] w1 fun e w' => e = .returned (i64 6) ∧ w' = w1) := fun w1 => close_none w1 _ n (of_nil _ n)
  have HCh : Hid (∀ w1, Calls Try.prog 21 #[.pointer none, i64 n, i64 v] w1 fun e w' => e = .returned (i64 6) ∧ w' = w1) := fun w1 => change_none w1 _ n v (of_nil _ n)
  have HP : Hid (∀ w1, Calls Try.prog 18 #[.pointer none, i64 n, upV k x] w1 fun e w' => e = .returned (i64 6) ∧ Below w1.heap.size w1 w') := fun w1 => post_none w1 _ n k x (of_nil _ n)
  have HL : Hid (∀ w1, Calls Try.prog 11 #[.pointer none, i64 n] w1 fun e w' => e = .returned (i64 0) ∧ w' = w1) := fun w1 => lost_nil w1 n
  have HX : Hid ((w.alloc (spO ⟨t, n, v, k, x⟩)).heap[w.heap.size]? = some (spO ⟨t, n, v, k, x⟩)) := heap_last w _
  have HB : Hid (Below w.heap.size w (w.alloc (spO ⟨t, n, v, k, x⟩))) := below_one w _
  go_enter Try.func7, Try.ntmps7
  go_upto_region 2 with fail
  obtain ⟨Z, hZ⟩ : ∃ Z, Z = w.heap.size := ⟨_, rfl⟩
  rw [← hZ] at HX ⊢
  generalize w.alloc (spO ⟨t, n, v, k, x⟩) = V at *
  have y1 : V.cell? ⟨Z, 1, none⟩ = some (i64 n) := blk_cell HX.out 1
  have y2 : V.cell? ⟨Z, 2, none⟩ = some (i64 v) := blk_cell HX.out 2
  clear hZ
  go_wp2_with fail
  refine (HO.out _).mono ?_
  rintro e v1 ⟨rfl, hv⟩
  replace hv := hv.symm
  subst hv
  go_wp2_with fail
  refine (HV.out _).mono ?_
  rintro e v1 ⟨rfl, hv⟩
  replace hv := hv.symm
  subst hv
  go_wp2_with fail
  refine (HTk.out _).mono ?_
  rintro e w2 ⟨rfl, hb2⟩
  have HX2 : Hid ((w2.alloc (upO 0 0)).heap[Z]? = some (spO ⟨t, n, v, k, x⟩)) := blk_alloc (blk_below HX.out hb2) _
  have HB2 : Hid (Below w.heap.size w (w2.alloc (upO 0 0))) := (HB.out.trans (hb2.mono HB.out.size)).trans ((below_one w2 _).mono (Nat.le_trans HB.out.size hb2.size))
  clear hb2 y1 y2
  go_upto_region 5 with fail
  generalize w2.alloc (upO 0 0) = U at *
  have y1 : U.cell? ⟨Z, 1, none⟩ = some (i64 n) := blk_cell HX2.out 1
  have y2 : U.cell? ⟨Z, 2, none⟩ = some (i64 v) := blk_cell HX2.out 2
  have y3 : U.cell? ⟨Z, 3, none⟩ = some (i64 k) := blk_cell HX2.out 3
  have y4 : U.cell? ⟨Z, 4, none⟩ = some (i64 x) := blk_cell HX2.out 4
  go_wp2_with fail
  refine (HC.out _).mono ?_
  rintro e v1 ⟨rfl, hv⟩
  replace hv := hv.symm
  subst hv
  go_wp2_with fail
  refine (HCh.out _).mono ?_
  rintro e v1 ⟨rfl, hv⟩
  replace hv := hv.symm
  subst hv
  go_wp2_with fail
  refine (HP.out _).mono ?_
  rintro e w3 ⟨rfl, hb3⟩
  have HX3 : Hid (w3.heap[Z]? = some (spO ⟨t, n, v, k, x⟩)) := blk_below HX2.out hb3
  have HB3 : Hid (Below w.heap.size w w3) := HB2.out.trans (hb3.mono HB2.out.size)
  have z1 : w3.cell? ⟨Z, 1, none⟩ = some (i64 n) := blk_cell HX3.out 1
  clear hb3
  go_wp2_with fail
  refine (HL.out _).mono ?_
  rintro e v1 ⟨rfl, hv⟩
  replace hv := hv.symm
  subst hv
  go_wp2_with fail
  refine (five_ok _).mono ?_
  rintro e w4 ⟨rfl, hb4⟩
  have HB4 : Hid (Below w.heap.size w w4) := HB3.out.trans (hb4.mono HB3.out.size)
  clear hb4
  go_wp2_with fail
  go_ret
  exact ⟨by simp [decide_eq_false (show ¬ n < 1 by omega), decide_eq_false (show ¬ 3 < n by omega), decide_eq_false (show ¬ v < 1 by omega), decide_eq_false (show ¬ 2 < v by omega)], HB4.out⟩
theorem nil_walk (w : World) (s : Sp) : Calls Try.prog 7 #[.agg s.c'.toArray] w fun e w' => e = .returned (.bool true) ∧ Below w.heap.size w w' := by
  obtain ⟨t, n, v, k, x⟩ := s
  by_cases h1 : n < 1
  · exact nil_a w t n v k x h1
  by_cases h2 : 3 < n
  · exact nil_b w t n v k x h1 h2
  by_cases h3 : v < 1
  · exact nil_c w t n v k x h1 h2 h3
  by_cases h4 : 2 < v
  · exact nil_d w t n v k x h1 h2 h3 h4
  exact nil_e w t n v k x h1 h2 h3 h4
end Go.Proofs.Ytopbgeoledocaaa
