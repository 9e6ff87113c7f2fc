/- IpcNil's walk; no statement is proved in this text. -/
import Derived.Test.YtmijjgpelihhnaaTwo
namespace Go.Proofs.Ytmijjgpelihhnaa
open Go.ChangeShapes Go.WideShapes Go.ChangeAt Go.RowKit Go.Deep
attribute [local go_sem ↓] Go.wp_at_zero Go.wp_at_succ

structure Sp where
  what : Int
  a : Int
  b : Int
  wd : Int
abbrev Sp.c' (s : Sp) : List Value := [i64 s.what, i64 s.a, i64 s.b, i64 s.wd]
abbrev spO (s : Sp) : Obj := .cells #[i64 s.what, i64 s.a, i64 s.b, i64 s.wd] 31
abbrev Sp.v (s : Sp) : Value := .agg #[i64 s.what, i64 s.a, i64 s.b, i64 s.wd]
set_option maxRecDepth 100000 in
set_option maxHeartbeats 3200000 in
theorem nil_1 (w : World) (s : Sp) (hA : envB s.a = false) : Calls Try.prog 6 #[s.v] w fun e w' => e = .returned (.bool true) ∧ Below w.heap.size w w' := by
  obtain ⟨q, hqq⟩ : ∃ q, q = w.heap.size := ⟨_, rfl⟩
  obtain ⟨V, hV⟩ : ∃ V, V = w.alloc (spO s) := ⟨_, rfl⟩
  have HVe : Hid (w.alloc (.cells #[i64 s.what, i64 s.a, i64 s.b, i64 s.wd] 31) = V) := hV.symm
  have HS0 : Hid (V.heap[q]? = some (spO s)) := by rw [hV, hqq]; exact heap_last w _
  have HB0 : Hid (Below w.heap.size w V) := by rw [hV]; exact below_one w _
  have HSd : Hid (Calls Try.prog 9 #[.pointer none, i64 s.a, i64 s.b, i64 s.wd] V fun e w' => e = .returned (i64 1) ∧ w' = V) := send_arg1 V _ s.a s.b s.wd hA
  have HRv : Hid (∀ W, Calls Try.prog 11 #[.pointer none, i64 s.a] W fun e w' => e = .returned (.tuple #[.agg #[i64 0, u16v 0], i64 1]) ∧ Below W.heap.size W w') := fun W => recv_arg W _ s.a hA
  have HEa : Hid (∀ W, Calls Try.prog 17 #[i64 s.a] W fun e w' => e = .returned (.bool false) ∧ w' = W) := fun W => by have := env_ok W s.a; rw [hA] at this; exact this
  have HWt : Hid (∀ W, Calls Try.prog 15 #[.pointer none, i64 s.a] W fun e w' => e = .returned (i64 0) ∧ w' = W) := fun W => waits_nil W s.a
  have b1 : V.cell? ⟨q, 1, none⟩ = some (i64 s.a) := blk_cell HS0.out 1
  have b2 : V.cell? ⟨q, 2, none⟩ = some (i64 s.b) := blk_cell HS0.out 2
  have b3 : V.cell? ⟨q, 3, none⟩ = some (i64 s.wd) := blk_cell HS0.out 3
  have HQ := hid hqq
  clear hV hA
  unfold Sp.v
  rw [hqq] at b1 b2 b3
  go_enter Try.func6, Try.ntmps6
  go_upto_region 1 with fail
  rw [HVe.out]
  go_wp2_with fail
  refine HSd.out.mono ?_
  rintro e v1 ⟨rfl, hv⟩
  replace hv := hv.symm
  subst hv
  go_wp2_with fail
  refine (HRv.out _).mono ?_
  rintro e w2 ⟨rfl, hb2⟩
  have HSU : Hid ((w2.alloc (.cells #[i64 0, u16v 0] 39)).heap[w.heap.size]? = some (spO s)) := by have := blk_alloc (blk_below HS0.out hb2) (.cells #[i64 0, u16v 0] 39); rw [HQ.out] at this; exact this
  have HBU : Hid (Below w.heap.size w (w2.alloc (.cells #[i64 0, u16v 0] 39))) := (HB0.out.trans (hb2.mono HB0.out.size)).alloc (HB0.out.trans (hb2.mono HB0.out.size)).size _
  clear hb2 b1 b2 b3
  go_upto_region 4 with fail
  generalize w2.alloc (.cells #[i64 0, u16v 0] 39) = U at *
  have b1 : U.cell? ⟨w.heap.size, 1, none⟩ = some (i64 s.a) := blk_cell HSU.out 1
  have b2 : U.cell? ⟨w.heap.size, 2, none⟩ = some (i64 s.b) := blk_cell HSU.out 2
  have b3 : U.cell? ⟨w.heap.size, 3, none⟩ = some (i64 s.wd) := blk_cell HSU.out 3
  go_wp2_with fail
  refine (HEa.out _).mono ?_
  rintro e v3 ⟨rfl, hv⟩
  replace hv := hv.symm
  subst hv
  go_wp2_with fail
  refine (HEa.out _).mono ?_
  rintro e v5 ⟨rfl, hv⟩
  replace hv := hv.symm
  subst hv
  go_wp2_with fail
  refine (HEa.out _).mono ?_
  rintro e v6 ⟨rfl, hv⟩
  replace hv := hv.symm
  subst hv
  go_wp2_with fail
  refine (HWt.out _).mono ?_
  rintro e v7 ⟨rfl, hv⟩
  replace hv := hv.symm
  subst hv
  go_wp2_with fail
  refine (clear_nil _ s.a).mono ?_
  rintro e w8 ⟨rfl, hb8⟩
  have HB8 : Hid (Below w.heap.size w w8) := HBU.out.trans (hb8.mono HBU.out.size)
  clear hb8
  go_wp2_with fail
  refine (seven_ok _).mono ?_
  rintro e w9 ⟨rfl, hb9⟩
  have HB9 : Hid (Below w.heap.size w w9) := HB8.out.trans (hb9.mono HB8.out.size)
  clear hb9
  go_wp2_with fail
  go_ret
  exact ⟨rfl, HB9.out⟩
set_option maxRecDepth 100000 in
set_option maxHeartbeats 3200000 in
theorem nil_2 (w : World) (s : Sp) (hA : envB s.a = true) (hB : envB s.b = false) : Calls Try.prog 6 #[s.v] w fun e w' => e = .returned (.bool true) ∧ Below w.heap.size w w' := by
  obtain ⟨q, hqq⟩ : ∃ q, q = w.heap.size := ⟨_, rfl⟩
  obtain ⟨V, hV⟩ : ∃ V, V = w.alloc (spO s) := ⟨_, rfl⟩
  have HVe : Hid (w.alloc (.cells #[i64 s.what, i64 s.a, i64 s.b, i64 s.wd] 31) = V) := hV.symm
  have HS0 : Hid (V.heap[q]? = some (spO s)) := by rw [hV, hqq]; exact heap_last w _
  have HB0 : Hid (Below w.heap.size w V) := by rw [hV]; exact below_one w _
  have HSd : Hid (Calls Try.prog 9 #[.pointer none, i64 s.a, i64 s.b, i64 s.wd] V fun e w' => e = .returned (i64 1) ∧ w' = V) := send_arg2 V _ s.a s.b s.wd hA hB
  have HRv : Hid (∀ W, Calls Try.prog 11 #[.pointer none, i64 s.a] W fun e w' => e = .returned (.tuple #[.agg #[i64 0, u16v 0], i64 6]) ∧ Below W.heap.size W w') := fun W => recv_none W _ s.a hA (fun W _ => waits_nil W s.a)
  have HEa : Hid (∀ W, Calls Try.prog 17 #[i64 s.a] W fun e w' => e = .returned (.bool true) ∧ w' = W) := fun W => by have := env_ok W s.a; rw [hA] at this; exact this
  have HEb : Hid (∀ W, Calls Try.prog 17 #[i64 s.b] W fun e w' => e = .returned (.bool false) ∧ w' = W) := fun W => by have := env_ok W s.b; rw [hB] at this; exact this
  have HWt : Hid (∀ W, Calls Try.prog 15 #[.pointer none, i64 s.a] W fun e w' => e = .returned (i64 0) ∧ w' = W) := fun W => waits_nil W s.a
  have b1 : V.cell? ⟨q, 1, none⟩ = some (i64 s.a) := blk_cell HS0.out 1
  have b2 : V.cell? ⟨q, 2, none⟩ = some (i64 s.b) := blk_cell HS0.out 2
  have b3 : V.cell? ⟨q, 3, none⟩ = some (i64 s.wd) := blk_cell HS0.out 3
  have HQ := hid hqq
  clear hV hA hB
  unfold Sp.v
  rw [hqq] at b1 b2 b3
  go_enter Try.func6, Try.ntmps6
  go_upto_region 1 with fail
  rw [HVe.out]
  go_wp2_with fail
  refine HSd.out.mono ?_
  rintro e v1 ⟨rfl, hv⟩
  replace hv := hv.symm
  subst hv
  go_wp2_with fail
  refine (HRv.out _).mono ?_
  rintro e w2 ⟨rfl, hb2⟩
  have HSU : Hid ((w2.alloc (.cells #[i64 0, u16v 0] 39)).heap[w.heap.size]? = some (spO s)) := by have := blk_alloc (blk_below HS0.out hb2) (.cells #[i64 0, u16v 0] 39); rw [HQ.out] at this; exact this
  have HBU : Hid (Below w.heap.size w (w2.alloc (.cells #[i64 0, u16v 0] 39))) := (HB0.out.trans (hb2.mono HB0.out.size)).alloc (HB0.out.trans (hb2.mono HB0.out.size)).size _
  clear hb2 b1 b2 b3
  go_upto_region 4 with fail
  generalize w2.alloc (.cells #[i64 0, u16v 0] 39) = U at *
  have b1 : U.cell? ⟨w.heap.size, 1, none⟩ = some (i64 s.a) := blk_cell HSU.out 1
  have b2 : U.cell? ⟨w.heap.size, 2, none⟩ = some (i64 s.b) := blk_cell HSU.out 2
  have b3 : U.cell? ⟨w.heap.size, 3, none⟩ = some (i64 s.wd) := blk_cell HSU.out 3
  go_wp2_with fail
  refine (HEa.out _).mono ?_
  rintro e v3 ⟨rfl, hv⟩
  replace hv := hv.symm
  subst hv
  go_wp2_with fail
  refine (HEb.out _).mono ?_
  rintro e v4 ⟨rfl, hv⟩
  replace hv := hv.symm
  subst hv
  go_wp2_with fail
  refine (HEa.out _).mono ?_
  rintro e v5 ⟨rfl, hv⟩
  replace hv := hv.symm
  subst hv
  go_wp2_with fail
  refine (HEa.out _).mono ?_
  rintro e v6 ⟨rfl, hv⟩
  replace hv := hv.symm
  subst hv
  go_wp2_with fail
  refine (HWt.out _).mono ?_
  rintro e v7 ⟨rfl, hv⟩
  replace hv := hv.symm
  subst hv
  go_wp2_with fail
  refine (clear_nil _ s.a).mono ?_
  rintro e w8 ⟨rfl, hb8⟩
  have HB8 : Hid (Below w.heap.size w w8) := HBU.out.trans (hb8.mono HBU.out.size)
  clear hb8
  go_wp2_with fail
  refine (seven_ok _).mono ?_
  rintro e w9 ⟨rfl, hb9⟩
  have HB9 : Hid (Below w.heap.size w w9) := HB8.out.trans (hb9.mono HB8.out.size)
  clear hb9
  go_wp2_with fail
  go_ret
  exact ⟨rfl, HB9.out⟩
set_option maxRecDepth 100000 in
set_option maxHeartbeats 3200000 in
theorem nil_3 (w : World) (s : Sp) (hA : envB s.a = true) (hB : envB s.b = true) (hd : s.wd < 0) : Calls Try.prog 6 #[s.v] w fun e w' => e = .returned (.bool true) ∧ Below w.heap.size w w' := by
  obtain ⟨q, hqq⟩ : ∃ q, q = w.heap.size := ⟨_, rfl⟩
  obtain ⟨V, hV⟩ : ∃ V, V = w.alloc (spO s) := ⟨_, rfl⟩
  have HVe : Hid (w.alloc (.cells #[i64 s.what, i64 s.a, i64 s.b, i64 s.wd] 31) = V) := hV.symm
  have HS0 : Hid (V.heap[q]? = some (spO s)) := by rw [hV, hqq]; exact heap_last w _
  have HB0 : Hid (Below w.heap.size w V) := by rw [hV]; exact below_one w _
  have HSd : Hid (Calls Try.prog 9 #[.pointer none, i64 s.a, i64 s.b, i64 s.wd] V fun e w' => e = .returned (i64 1) ∧ w' = V) := send_arg3 V _ s.a s.b s.wd hA hB hd
  have HRv : Hid (∀ W, Calls Try.prog 11 #[.pointer none, i64 s.a] W fun e w' => e = .returned (.tuple #[.agg #[i64 0, u16v 0], i64 6]) ∧ Below W.heap.size W w') := fun W => recv_none W _ s.a hA (fun W _ => waits_nil W s.a)
  have HEa : Hid (∀ W, Calls Try.prog 17 #[i64 s.a] W fun e w' => e = .returned (.bool true) ∧ w' = W) := fun W => by have := env_ok W s.a; rw [hA] at this; exact this
  have HEb : Hid (∀ W, Calls Try.prog 17 #[i64 s.b] W fun e w' => e = .returned (.bool true) ∧ w' = W) := fun W => by have := env_ok W s.b; rw [hB] at this; exact this
  have HWt : Hid (∀ W, Calls Try.prog 15 #[.pointer none, i64 s.a] W fun e w' => e = .returned (i64 0) ∧ w' = W) := fun W => waits_nil W s.a
  have b1 : V.cell? ⟨q, 1, none⟩ = some (i64 s.a) := blk_cell HS0.out 1
  have b2 : V.cell? ⟨q, 2, none⟩ = some (i64 s.b) := blk_cell HS0.out 2
  have b3 : V.cell? ⟨q, 3, none⟩ = some (i64 s.wd) := blk_cell HS0.out 3
  have HQ := hid hqq
  clear hV hA hB
  unfold Sp.v
  rw [hqq] at b1 b2 b3
  go_enter Try.func6, Try.ntmps6
  go_upto_region 1 with fail
  rw [HVe.out]
  go_wp2_with fail
  refine HSd.out.mono ?_
  rintro e v1 ⟨rfl, hv⟩
  replace hv := hv.symm
  subst hv
  go_wp2_with fail
  refine (HRv.out _).mono ?_
  rintro e w2 ⟨rfl, hb2⟩
  have HSU : Hid ((w2.alloc (.cells #[i64 0, u16v 0] 39)).heap[w.heap.size]? = some (spO s)) := by have := blk_alloc (blk_below HS0.out hb2) (.cells #[i64 0, u16v 0] 39); rw [HQ.out] at this; exact this
  have HBU : Hid (Below w.heap.size w (w2.alloc (.cells #[i64 0, u16v 0] 39))) := (HB0.out.trans (hb2.mono HB0.out.size)).alloc (HB0.out.trans (hb2.mono HB0.out.size)).size _
  clear hb2 b1 b2 b3
  go_upto_region 4 with fail
  generalize w2.alloc (.cells #[i64 0, u16v 0] 39) = U at *
  have b1 : U.cell? ⟨w.heap.size, 1, none⟩ = some (i64 s.a) := blk_cell HSU.out 1
  have b2 : U.cell? ⟨w.heap.size, 2, none⟩ = some (i64 s.b) := blk_cell HSU.out 2
  have b3 : U.cell? ⟨w.heap.size, 3, none⟩ = some (i64 s.wd) := blk_cell HSU.out 3
  go_wp2_with fail
  refine (HEa.out _).mono ?_
  rintro e v3 ⟨rfl, hv⟩
  replace hv := hv.symm
  subst hv
  go_wp2_with fail
  refine (HEb.out _).mono ?_
  rintro e v4 ⟨rfl, hv⟩
  replace hv := hv.symm
  subst hv
  go_wp2_with fail
  refine (HEa.out _).mono ?_
  rintro e v5 ⟨rfl, hv⟩
  replace hv := hv.symm
  subst hv
  go_wp2_with fail
  refine (HEa.out _).mono ?_
  rintro e v6 ⟨rfl, hv⟩
  replace hv := hv.symm
  subst hv
  go_wp2_with fail
  refine (HWt.out _).mono ?_
  rintro e v7 ⟨rfl, hv⟩
  replace hv := hv.symm
  subst hv
  go_wp2_with fail
  refine (clear_nil _ s.a).mono ?_
  rintro e w8 ⟨rfl, hb8⟩
  have HB8 : Hid (Below w.heap.size w w8) := HBU.out.trans (hb8.mono HBU.out.size)
  clear hb8
  go_wp2_with fail
  refine (seven_ok _).mono ?_
  rintro e w9 ⟨rfl, hb9⟩
  have HB9 : Hid (Below w.heap.size w w9) := HB8.out.trans (hb9.mono HB8.out.size)
  clear hb9
  go_wp2_with fail
  go_ret
  exact ⟨rfl, HB9.out⟩
set_option maxRecDepth 100000 in
set_option maxHeartbeats 3200000 in
theorem nil_4 (w : World) (s : Sp) (hA : envB s.a = true) (hB : envB s.b = true) (hd0 : 0 ≤ s.wd) (hd : 65535 < s.wd) : Calls Try.prog 6 #[s.v] w fun e w' => e = .returned (.bool true) ∧ Below w.heap.size w w' := by
  obtain ⟨q, hqq⟩ : ∃ q, q = w.heap.size := ⟨_, rfl⟩
  obtain ⟨V, hV⟩ : ∃ V, V = w.alloc (spO s) := ⟨_, rfl⟩
  have HVe : Hid (w.alloc (.cells #[i64 s.what, i64 s.a, i64 s.b, i64 s.wd] 31) = V) := hV.symm
  have HS0 : Hid (V.heap[q]? = some (spO s)) := by rw [hV, hqq]; exact heap_last w _
  have HB0 : Hid (Below w.heap.size w V) := by rw [hV]; exact below_one w _
  have HSd : Hid (Calls Try.prog 9 #[.pointer none, i64 s.a, i64 s.b, i64 s.wd] V fun e w' => e = .returned (i64 1) ∧ w' = V) := send_arg4 V _ s.a s.b s.wd hA hB hd0 hd
  have HRv : Hid (∀ W, Calls Try.prog 11 #[.pointer none, i64 s.a] W fun e w' => e = .returned (.tuple #[.agg #[i64 0, u16v 0], i64 6]) ∧ Below W.heap.size W w') := fun W => recv_none W _ s.a hA (fun W _ => waits_nil W s.a)
  have HEa : Hid (∀ W, Calls Try.prog 17 #[i64 s.a] W fun e w' => e = .returned (.bool true) ∧ w' = W) := fun W => by have := env_ok W s.a; rw [hA] at this; exact this
  have HEb : Hid (∀ W, Calls Try.prog 17 #[i64 s.b] W fun e w' => e = .returned (.bool true) ∧ w' = W) := fun W => by have := env_ok W s.b; rw [hB] at this; exact this
  have HWt : Hid (∀ W, Calls Try.prog 15 #[.pointer none, i64 s.a] W fun e w' => e = .returned (i64 0) ∧ w' = W) := fun W => waits_nil W s.a
  have b1 : V.cell? ⟨q, 1, none⟩ = some (i64 s.a) := blk_cell HS0.out 1
  have b2 : V.cell? ⟨q, 2, none⟩ = some (i64 s.b) := blk_cell HS0.out 2
  have b3 : V.cell? ⟨q, 3, none⟩ = some (i64 s.wd) := blk_cell HS0.out 3
  have HQ := hid hqq
  clear hV hA hB
  unfold Sp.v
  rw [hqq] at b1 b2 b3
  go_enter Try.func6, Try.ntmps6
  go_upto_region 1 with fail
  rw [HVe.out]
  go_wp2_with fail
  refine HSd.out.mono ?_
  rintro e v1 ⟨rfl, hv⟩
  replace hv := hv.symm
  subst hv
  go_wp2_with fail
  refine (HRv.out _).mono ?_
  rintro e w2 ⟨rfl, hb2⟩
  have HSU : Hid ((w2.alloc (.cells #[i64 0, u16v 0] 39)).heap[w.heap.size]? = some (spO s)) := by have := blk_alloc (blk_below HS0.out hb2) (.cells #[i64 0, u16v 0] 39); rw [HQ.out] at this; exact this
  have HBU : Hid (Below w.heap.size w (w2.alloc (.cells #[i64 0, u16v 0] 39))) := (HB0.out.trans (hb2.mono HB0.out.size)).alloc (HB0.out.trans (hb2.mono HB0.out.size)).size _
  clear hb2 b1 b2 b3
  go_upto_region 4 with fail
  generalize w2.alloc (.cells #[i64 0, u16v 0] 39) = U at *
  have b1 : U.cell? ⟨w.heap.size, 1, none⟩ = some (i64 s.a) := blk_cell HSU.out 1
  have b2 : U.cell? ⟨w.heap.size, 2, none⟩ = some (i64 s.b) := blk_cell HSU.out 2
  have b3 : U.cell? ⟨w.heap.size, 3, none⟩ = some (i64 s.wd) := blk_cell HSU.out 3
  go_wp2_with fail
  refine (HEa.out _).mono ?_
  rintro e v3 ⟨rfl, hv⟩
  replace hv := hv.symm
  subst hv
  go_wp2_with fail
  refine (HEb.out _).mono ?_
  rintro e v4 ⟨rfl, hv⟩
  replace hv := hv.symm
  subst hv
  go_wp2_with fail
  refine (HEa.out _).mono ?_
  rintro e v5 ⟨rfl, hv⟩
  replace hv := hv.symm
  subst hv
  go_wp2_with fail
  refine (HEa.out _).mono ?_
  rintro e v6 ⟨rfl, hv⟩
  replace hv := hv.symm
  subst hv
  go_wp2_with fail
  refine (HWt.out _).mono ?_
  rintro e v7 ⟨rfl, hv⟩
  replace hv := hv.symm
  subst hv
  go_wp2_with fail
  refine (clear_nil _ s.a).mono ?_
  rintro e w8 ⟨rfl, hb8⟩
  have HB8 : Hid (Below w.heap.size w w8) := HBU.out.trans (hb8.mono HBU.out.size)
  clear hb8
  go_wp2_with fail
  refine (seven_ok _).mono ?_
  rintro e w9 ⟨rfl, hb9⟩
  have HB9 : Hid (Below w.heap.size w w9) := HB8.out.trans (hb9.mono HB8.out.size)
  clear hb9
  go_wp2_with fail
  go_ret
  exact ⟨rfl, HB9.out⟩
set_option maxRecDepth 100000 in
set_option maxHeartbeats 3200000 in
theorem nil_5 (w : World) (s : Sp) (hA : envB s.a = true) (hB : envB s.b = true) (hd0 : 0 ≤ s.wd) (hd : s.wd ≤ 65535) : Calls Try.prog 6 #[s.v] w fun e w' => e = .returned (.bool true) ∧ Below w.heap.size w w' := by
  obtain ⟨q, hqq⟩ : ∃ q, q = w.heap.size := ⟨_, rfl⟩
  obtain ⟨V, hV⟩ : ∃ V, V = w.alloc (spO s) := ⟨_, rfl⟩
  have HVe : Hid (w.alloc (.cells #[i64 s.what, i64 s.a, i64 s.b, i64 s.wd] 31) = V) := hV.symm
  have HS0 : Hid (V.heap[q]? = some (spO s)) := by rw [hV, hqq]; exact heap_last w _
  have HB0 : Hid (Below w.heap.size w V) := by rw [hV]; exact below_one w _
  have HSd : Hid (Calls Try.prog 9 #[.pointer none, i64 s.a, i64 s.b, i64 s.wd] V fun e w' => e = .returned (i64 7) ∧ w' = V) := send_nil1 V s.a s.b s.wd hA hB hd0 hd
  have HRv : Hid (∀ W, Calls Try.prog 11 #[.pointer none, i64 s.a] W fun e w' => e = .returned (.tuple #[.agg #[i64 0, u16v 0], i64 6]) ∧ Below W.heap.size W w') := fun W => recv_none W _ s.a hA (fun W _ => waits_nil W s.a)
  have HEa : Hid (∀ W, Calls Try.prog 17 #[i64 s.a] W fun e w' => e = .returned (.bool true) ∧ w' = W) := fun W => by have := env_ok W s.a; rw [hA] at this; exact this
  have HEb : Hid (∀ W, Calls Try.prog 17 #[i64 s.b] W fun e w' => e = .returned (.bool true) ∧ w' = W) := fun W => by have := env_ok W s.b; rw [hB] at this; exact this
  have HWt : Hid (∀ W, Calls Try.prog 15 #[.pointer none, i64 s.a] W fun e w' => e = .returned (i64 0) ∧ w' = W) := fun W => waits_nil W s.a
  have b1 : V.cell? ⟨q, 1, none⟩ = some (i64 s.a) := blk_cell HS0.out 1
  have b2 : V.cell? ⟨q, 2, none⟩ = some (i64 s.b) := blk_cell HS0.out 2
  have b3 : V.cell? ⟨q, 3, none⟩ = some (i64 s.wd) := blk_cell HS0.out 3
  have HQ := hid hqq
  clear hV hA hB
  have hx1 : decide (s.wd < 0) = false := by simp; omega
  have hx2 : decide (65535 < s.wd) = false := by simp; omega
  unfold Sp.v
  rw [hqq] at b1 b2 b3
  go_enter Try.func6, Try.ntmps6
  go_upto_region 1 with fail
  rw [HVe.out]
  go_wp2_with fail
  refine HSd.out.mono ?_
  rintro e v1 ⟨rfl, hv⟩
  replace hv := hv.symm
  subst hv
  go_wp2_with fail
  refine (HRv.out _).mono ?_
  rintro e w2 ⟨rfl, hb2⟩
  have HSU : Hid ((w2.alloc (.cells #[i64 0, u16v 0] 39)).heap[w.heap.size]? = some (spO s)) := by have := blk_alloc (blk_below HS0.out hb2) (.cells #[i64 0, u16v 0] 39); rw [HQ.out] at this; exact this
  have HBU : Hid (Below w.heap.size w (w2.alloc (.cells #[i64 0, u16v 0] 39))) := (HB0.out.trans (hb2.mono HB0.out.size)).alloc (HB0.out.trans (hb2.mono HB0.out.size)).size _
  clear hb2 b1 b2 b3
  go_upto_region 4 with fail
  generalize w2.alloc (.cells #[i64 0, u16v 0] 39) = U at *
  have b1 : U.cell? ⟨w.heap.size, 1, none⟩ = some (i64 s.a) := blk_cell HSU.out 1
  have b2 : U.cell? ⟨w.heap.size, 2, none⟩ = some (i64 s.b) := blk_cell HSU.out 2
  have b3 : U.cell? ⟨w.heap.size, 3, none⟩ = some (i64 s.wd) := blk_cell HSU.out 3
  go_wp2_with fail
  refine (HEa.out _).mono ?_
  rintro e v3 ⟨rfl, hv⟩
  replace hv := hv.symm
  subst hv
  go_wp2_with fail
  refine (HEb.out _).mono ?_
  rintro e v4 ⟨rfl, hv⟩
  replace hv := hv.symm
  subst hv
  go_wp2_with fail
  refine (HEa.out _).mono ?_
  rintro e v5 ⟨rfl, hv⟩
  replace hv := hv.symm
  subst hv
  go_wp2_with fail
  refine (HEa.out _).mono ?_
  rintro e v6 ⟨rfl, hv⟩
  replace hv := hv.symm
  subst hv
  go_wp2_with fail
  refine (HWt.out _).mono ?_
  rintro e v7 ⟨rfl, hv⟩
  replace hv := hv.symm
  subst hv
  go_wp2_with fail
  refine (clear_nil _ s.a).mono ?_
  rintro e w8 ⟨rfl, hb8⟩
  have HB8 : Hid (Below w.heap.size w w8) := HBU.out.trans (hb8.mono HBU.out.size)
  clear hb8
  go_wp2_with fail
  refine (seven_ok _).mono ?_
  rintro e w9 ⟨rfl, hb9⟩
  have HB9 : Hid (Below w.heap.size w w9) := HB8.out.trans (hb9.mono HB8.out.size)
  clear hb9
  go_wp2_with fail
  go_ret
  exact ⟨by first | rfl | (show Ending.returned (Value.bool (!decide (s.wd < 0) && !decide (65535 < s.wd))) = _; rw [hx1, hx2]; rfl), HB9.out⟩
theorem nil_walk (w : World) (s : Sp) : Calls Try.prog 6 #[s.v] w fun e w' => e = .returned (.bool true) ∧ Below w.heap.size w w' := by
  cases hA : envB s.a with
  | false => exact nil_1 w s hA
  | true =>
    cases hB : envB s.b with
    | false => exact nil_2 w s hA hB
    | true =>
      by_cases h0 : s.wd < 0
      · exact nil_3 w s hA hB h0
      · by_cases h1 : s.wd ≤ 65535
        · exact nil_5 w s hA hB (by omega) h1
        · exact nil_4 w s hA hB (by omega) (by omega)
end Go.Proofs.Ytmijjgpelihhnaa
