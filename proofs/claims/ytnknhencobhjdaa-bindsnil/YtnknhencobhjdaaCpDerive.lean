/- caps.Derive: contracts; no statement is proved in this text. -/
import Derived.Test.YtnknhencobhjdaaCpMint
namespace Go.Proofs.Ytnknhencobhjdaa.Cp
open Go.ChangeShapes Go.WideShapes Go.ChangeAt Go.RowKit Go.Deep
attribute [local go_sem ↓] Go.wp_at_zero Go.wp_at_succ

theorem two_h (w : World) (sl gn : Int) : Below w.heap.size w ((w.alloc (hO sl gn)).alloc (hO 0 0)) ∧ ((w.alloc (hO sl gn)).alloc (hO 0 0)).heap[w.heap.size]? = some (hO sl gn) ∧ ((w.alloc (hO sl gn)).alloc (hO 0 0)).heap[w.heap.size + 1]? = some (hO 0 0) := by
  refine ⟨(below_one w _).trans ((below_one _ _).mono (by simp)), blk_alloc (heap_last w _) _, ?_⟩
  have := heap_last (w.alloc (hO sl gn)) (hO 0 0)
  rwa [show (w.alloc (hO sl gn)).heap.size = w.heap.size + 1 by simp] at this
/-- What Look answers, whatever lies behind. -/
abbrev Looks (w : World) (v0 : Value) (env sl gn : Int) (c : Cp) (x : Int) : Prop := ∀ W, Below w.heap.size w W → Calls Try.prog 50 #[v0, i64 env, .agg #[i64 sl, i64 gn]] W fun e w' => e = .returned (.tuple #[c.v, i64 x]) ∧ Below W.heap.size W w'
theorem looks_nil (w : World) (env sl gn : Int) : Looks w (.pointer none) env sl gn zC 90 := fun W _ => look_nil W env sl gn
theorem looks_tb {w : World} {base b : Nat} {T : List Pl} (h : Tb w base b T) (env sl gn : Int) : Looks w (.pointer (some ⟨b, 0, none⟩)) env sl gn (rC (lookF T env sl gn)) (rE (lookF T env sl gn)) := fun _ hW => look_any (h.below hW) env sl gn
set_option maxRecDepth 100000 in
set_option maxHeartbeats 1600000 in
theorem derive_stale (w : World) (v0 : Value) (env sl gn tt rights : Int) (hl : Looks w v0 env sl gn zC 90) : Calls Try.prog 62 #[v0, i64 env, .agg #[i64 sl, i64 gn], i64 tt, i64 rights] w fun e w' => e = .returned (.tuple #[.agg #[i64 0, i64 0], i64 90]) ∧ Below w.heap.size w w' := by
  obtain ⟨hBV, hK1, hK2⟩ := two_h w sl gn
  obtain ⟨V, hV⟩ : ∃ V, V = (w.alloc (hO sl gn)).alloc (hO 0 0) := ⟨_, rfl⟩
  have HVe : Hid ((w.alloc (.cells #[i64 sl, i64 gn] 43)).alloc (.cells #[i64 0, i64 0] 43) = V) := hV.symm
  rw [← hV] at hBV hK1 hK2
  have HB := hid hBV
  have HK1 := hid hK1
  have HK2 := hid hK2
  have HL : Hid (Looks w v0 env sl gn zC 90) := hl
  clear hV hBV hK1 hK2 hl
  go_enter Try.func62, Try.ntmps62
  go_wp2_with fail
  rw [HVe.out]
  refine (HL.out V HB.out).mono ?_
  rintro e w1 ⟨rfl, hb1⟩
  have HB1 : Hid (Below w.heap.size w (w1.alloc (cO zC))) := (HB.out.trans (hb1.mono HB.out.size)).alloc (HB.out.trans (hb1.mono HB.out.size)).size _
  have HK3 : Hid ((w1.alloc (cO zC)).heap[w.heap.size + 1]? = some (hO 0 0)) := blk_alloc (blk_below HK2.out hb1) _
  clear hb1
  unfold Cp.v zC
  go_upto_region 2 with fail
  have k0 : (w1.alloc (cO zC)).cell? ⟨w.heap.size + 1, 0, none⟩ = some (i64 0) := blk_cell HK3.out 0
  have k1 : (w1.alloc (cO zC)).cell? ⟨w.heap.size + 1, 1, none⟩ = some (i64 0) := blk_cell HK3.out 1
  have kf : ∀ j, (w1.alloc (cO zC)).frozen? ⟨w.heap.size + 1, j, none⟩ = false := blk_frozen HK3.out
  unfold cO zC at *
  generalize w1.alloc (.cells #[i64 0, i64 0, i64 0, i64 0] 108) = U at *
  go_wp2_with fail
  exact bodyPost_ret (results_cell Try.results62 rfl rfl (load42 (set2 HK3.out _ _))) rfl ⟨rfl, bel2 HB1.out (by omega) _ _⟩
-- GEN
set_option maxRecDepth 100000 in
set_option maxHeartbeats 1600000 in
theorem derive_to {w : World} (v0 : Value) (env sl gn tt rights ce ck cn cr : Int) (hl : Looks w v0 env sl gn ⟨ce, ck, cn, cr⟩ 0) (ht : envB tt = false) : Calls Try.prog 62 #[v0, i64 env, .agg #[i64 sl, i64 gn], i64 tt, i64 rights] w fun e w' => e = .returned (.tuple #[.agg #[i64 0, i64 0], i64 1]) ∧ Below w.heap.size w w' := by
  obtain ⟨hBV, hK1, hK2⟩ := two_h w sl gn
  obtain ⟨V, hV⟩ : ∃ V, V = (w.alloc (hO sl gn)).alloc (hO 0 0) := ⟨_, rfl⟩
  have HVe : Hid ((w.alloc (.cells #[i64 sl, i64 gn] 43)).alloc (.cells #[i64 0, i64 0] 43) = V) := hV.symm
  rw [← hV] at hBV hK1 hK2
  have HB := hid hBV
  have HK1 := hid hK1
  have HK2 := hid hK2
  have HL : Hid (Looks w v0 env sl gn ⟨ce, ck, cn, cr⟩ 0) := hl
  clear hV hBV hK1 hK2 hl
  have HE : Hid (∀ W, Calls Try.prog 86 #[i64 tt] W fun e w' => e = .returned (.bool false) ∧ w' = W) := fun W => by have := isEnv_ok W tt; rw [ht] at this; exact this
  have HA : Hid (∀ W, Calls Try.prog 87 #[i64 rights] W fun e w' => e = .returned (.bool (envB rights)) ∧ w' = W) := fun W => areRights_ok W rights
  clear ht
  go_enter Try.func62, Try.ntmps62
  go_wp2_with fail
  rw [HVe.out]
  refine (HL.out V HB.out).mono ?_
  rintro e w1 ⟨rfl, hb1⟩
  have HB1 : Hid (Below w.heap.size w (w1.alloc (.cells #[i64 ce, i64 ck, i64 cn, i64 cr] 108))) := (HB.out.trans (hb1.mono HB.out.size)).alloc (HB.out.trans (hb1.mono HB.out.size)).size _
  have HK3 : Hid ((w1.alloc (.cells #[i64 ce, i64 ck, i64 cn, i64 cr] 108)).heap[w.heap.size + 1]? = some (hO 0 0)) := blk_alloc (blk_below HK2.out hb1) _
  have HK4 : Hid ((w1.alloc (.cells #[i64 ce, i64 ck, i64 cn, i64 cr] 108)).heap[w.heap.size]? = some (hO sl gn)) := blk_alloc (blk_below HK1.out hb1) _
  have HK5 : Hid ((w1.alloc (.cells #[i64 ce, i64 ck, i64 cn, i64 cr] 108)).heap[w1.heap.size]? = some (cO ⟨ce, ck, cn, cr⟩)) := heap_last w1 _
  have hs1 : w.heap.size + 1 < w1.heap.size := by have := blk_lt HK2.out; have := hb1.size; omega
  clear hb1
  unfold Cp.v
  go_upto_region 2 with fail
  have k0 : (w1.alloc (.cells #[i64 ce, i64 ck, i64 cn, i64 cr] 108)).cell? ⟨w.heap.size + 1, 0, none⟩ = some (i64 0) := blk_cell HK3.out 0
  have k1 : (w1.alloc (.cells #[i64 ce, i64 ck, i64 cn, i64 cr] 108)).cell? ⟨w.heap.size + 1, 1, none⟩ = some (i64 0) := blk_cell HK3.out 1
  have kf : ∀ j, (w1.alloc (.cells #[i64 ce, i64 ck, i64 cn, i64 cr] 108)).frozen? ⟨w.heap.size + 1, j, none⟩ = false := blk_frozen HK3.out
  have h0 : (w1.alloc (.cells #[i64 ce, i64 ck, i64 cn, i64 cr] 108)).cell? ⟨w.heap.size, 0, none⟩ = some (i64 sl) := blk_cell HK4.out 0
  have d0 : (w1.alloc (.cells #[i64 ce, i64 ck, i64 cn, i64 cr] 108)).cell? ⟨w1.heap.size, 0, none⟩ = some (i64 ce) := blk_cell HK5.out 0
  have d1 : (w1.alloc (.cells #[i64 ce, i64 ck, i64 cn, i64 cr] 108)).cell? ⟨w1.heap.size, 1, none⟩ = some (i64 ck) := blk_cell HK5.out 1
  have d2 : (w1.alloc (.cells #[i64 ce, i64 ck, i64 cn, i64 cr] 108)).cell? ⟨w1.heap.size, 2, none⟩ = some (i64 cn) := blk_cell HK5.out 2
  have d3 : (w1.alloc (.cells #[i64 ce, i64 ck, i64 cn, i64 cr] 108)).cell? ⟨w1.heap.size, 3, none⟩ = some (i64 cr) := blk_cell HK5.out 3
  have df : ∀ j, (w1.alloc (.cells #[i64 ce, i64 ck, i64 cn, i64 cr] 108)).frozen? ⟨w1.heap.size, j, none⟩ = false := blk_frozen HK5.out
  generalize w1.alloc (.cells #[i64 ce, i64 ck, i64 cn, i64 cr] 108) = U at *
  generalize w1.heap.size = x at *
  go_wp2_with (first | (go_at_call 86; refine (HE.out _).mono ?_; rintro e v1 ⟨rfl, rfl⟩) | (go_at_call 87; refine (HA.out _).mono ?_; rintro e v1 ⟨rfl, rfl⟩))
  exact bodyPost_ret (results_cell Try.results62 rfl rfl (load42 (set2 HK3.out _ _))) rfl ⟨rfl, bel2 HB1.out (by omega) _ _⟩
set_option maxRecDepth 100000 in
set_option maxHeartbeats 1600000 in
theorem derive_rts {w : World} (v0 : Value) (env sl gn tt rights ce ck cn cr : Int) (hl : Looks w v0 env sl gn ⟨ce, ck, cn, cr⟩ 0) (ht : envB tt = true) (hr : envB rights = false) : Calls Try.prog 62 #[v0, i64 env, .agg #[i64 sl, i64 gn], i64 tt, i64 rights] w fun e w' => e = .returned (.tuple #[.agg #[i64 0, i64 0], i64 1]) ∧ Below w.heap.size w w' := by
  obtain ⟨hBV, hK1, hK2⟩ := two_h w sl gn
  obtain ⟨V, hV⟩ : ∃ V, V = (w.alloc (hO sl gn)).alloc (hO 0 0) := ⟨_, rfl⟩
  have HVe : Hid ((w.alloc (.cells #[i64 sl, i64 gn] 43)).alloc (.cells #[i64 0, i64 0] 43) = V) := hV.symm
  rw [← hV] at hBV hK1 hK2
  have HB := hid hBV
  have HK1 := hid hK1
  have HK2 := hid hK2
  have HL : Hid (Looks w v0 env sl gn ⟨ce, ck, cn, cr⟩ 0) := hl
  clear hV hBV hK1 hK2 hl
  have HE : Hid (∀ W, Calls Try.prog 86 #[i64 tt] W fun e w' => e = .returned (.bool true) ∧ w' = W) := fun W => by have := isEnv_ok W tt; rw [ht] at this; exact this
  have HA : Hid (∀ W, Calls Try.prog 87 #[i64 rights] W fun e w' => e = .returned (.bool false) ∧ w' = W) := fun W => by have := areRights_ok W rights; rw [hr] at this; exact this
  clear ht hr
  go_enter Try.func62, Try.ntmps62
  go_wp2_with fail
  rw [HVe.out]
  refine (HL.out V HB.out).mono ?_
  rintro e w1 ⟨rfl, hb1⟩
  have HB1 : Hid (Below w.heap.size w (w1.alloc (.cells #[i64 ce, i64 ck, i64 cn, i64 cr] 108))) := (HB.out.trans (hb1.mono HB.out.size)).alloc (HB.out.trans (hb1.mono HB.out.size)).size _
  have HK3 : Hid ((w1.alloc (.cells #[i64 ce, i64 ck, i64 cn, i64 cr] 108)).heap[w.heap.size + 1]? = some (hO 0 0)) := blk_alloc (blk_below HK2.out hb1) _
  have HK4 : Hid ((w1.alloc (.cells #[i64 ce, i64 ck, i64 cn, i64 cr] 108)).heap[w.heap.size]? = some (hO sl gn)) := blk_alloc (blk_below HK1.out hb1) _
  have HK5 : Hid ((w1.alloc (.cells #[i64 ce, i64 ck, i64 cn, i64 cr] 108)).heap[w1.heap.size]? = some (cO ⟨ce, ck, cn, cr⟩)) := heap_last w1 _
  have hs1 : w.heap.size + 1 < w1.heap.size := by have := blk_lt HK2.out; have := hb1.size; omega
  clear hb1
  unfold Cp.v
  go_upto_region 2 with fail
  have k0 : (w1.alloc (.cells #[i64 ce, i64 ck, i64 cn, i64 cr] 108)).cell? ⟨w.heap.size + 1, 0, none⟩ = some (i64 0) := blk_cell HK3.out 0
  have k1 : (w1.alloc (.cells #[i64 ce, i64 ck, i64 cn, i64 cr] 108)).cell? ⟨w.heap.size + 1, 1, none⟩ = some (i64 0) := blk_cell HK3.out 1
  have kf : ∀ j, (w1.alloc (.cells #[i64 ce, i64 ck, i64 cn, i64 cr] 108)).frozen? ⟨w.heap.size + 1, j, none⟩ = false := blk_frozen HK3.out
  have h0 : (w1.alloc (.cells #[i64 ce, i64 ck, i64 cn, i64 cr] 108)).cell? ⟨w.heap.size, 0, none⟩ = some (i64 sl) := blk_cell HK4.out 0
  have d0 : (w1.alloc (.cells #[i64 ce, i64 ck, i64 cn, i64 cr] 108)).cell? ⟨w1.heap.size, 0, none⟩ = some (i64 ce) := blk_cell HK5.out 0
  have d1 : (w1.alloc (.cells #[i64 ce, i64 ck, i64 cn, i64 cr] 108)).cell? ⟨w1.heap.size, 1, none⟩ = some (i64 ck) := blk_cell HK5.out 1
  have d2 : (w1.alloc (.cells #[i64 ce, i64 ck, i64 cn, i64 cr] 108)).cell? ⟨w1.heap.size, 2, none⟩ = some (i64 cn) := blk_cell HK5.out 2
  have d3 : (w1.alloc (.cells #[i64 ce, i64 ck, i64 cn, i64 cr] 108)).cell? ⟨w1.heap.size, 3, none⟩ = some (i64 cr) := blk_cell HK5.out 3
  have df : ∀ j, (w1.alloc (.cells #[i64 ce, i64 ck, i64 cn, i64 cr] 108)).frozen? ⟨w1.heap.size, j, none⟩ = false := blk_frozen HK5.out
  generalize w1.alloc (.cells #[i64 ce, i64 ck, i64 cn, i64 cr] 108) = U at *
  generalize w1.heap.size = x at *
  go_wp2_with (first | (go_at_call 86; refine (HE.out _).mono ?_; rintro e v1 ⟨rfl, rfl⟩) | (go_at_call 87; refine (HA.out _).mono ?_; rintro e v1 ⟨rfl, rfl⟩))
  exact bodyPost_ret (results_cell Try.results62 rfl rfl (load42 (set2 HK3.out _ _))) rfl ⟨rfl, bel2 HB1.out (by omega) _ _⟩
set_option maxRecDepth 100000 in
set_option maxHeartbeats 1600000 in
theorem derive_no11 {w : World} (v0 : Value) (env sl gn tt ce ck cn : Int) (hl : Looks w v0 env sl gn ⟨ce, ck, cn, 1⟩ 0) (ht : envB tt = true) : Calls Try.prog 62 #[v0, i64 env, .agg #[i64 sl, i64 gn], i64 tt, i64 1] w fun e w' => e = .returned (.tuple #[.agg #[i64 0, i64 0], i64 91]) ∧ Below w.heap.size w w' := by
  obtain ⟨hBV, hK1, hK2⟩ := two_h w sl gn
  obtain ⟨V, hV⟩ : ∃ V, V = (w.alloc (hO sl gn)).alloc (hO 0 0) := ⟨_, rfl⟩
  have HVe : Hid ((w.alloc (.cells #[i64 sl, i64 gn] 43)).alloc (.cells #[i64 0, i64 0] 43) = V) := hV.symm
  rw [← hV] at hBV hK1 hK2
  have HB := hid hBV
  have HK1 := hid hK1
  have HK2 := hid hK2
  have HL : Hid (Looks w v0 env sl gn ⟨ce, ck, cn, 1⟩ 0) := hl
  clear hV hBV hK1 hK2 hl
  have HE : Hid (∀ W, Calls Try.prog 86 #[i64 tt] W fun e w' => e = .returned (.bool true) ∧ w' = W) := fun W => by have := isEnv_ok W tt; rw [ht] at this; exact this
  have HA : Hid (∀ W, Calls Try.prog 87 #[i64 1] W fun e w' => e = .returned (.bool true) ∧ w' = W) := fun W => areRights_ok W 1
  clear ht
  go_enter Try.func62, Try.ntmps62
  go_wp2_with fail
  rw [HVe.out]
  refine (HL.out V HB.out).mono ?_
  rintro e w1 ⟨rfl, hb1⟩
  have HB1 : Hid (Below w.heap.size w (w1.alloc (.cells #[i64 ce, i64 ck, i64 cn, i64 1] 108))) := (HB.out.trans (hb1.mono HB.out.size)).alloc (HB.out.trans (hb1.mono HB.out.size)).size _
  have HK3 : Hid ((w1.alloc (.cells #[i64 ce, i64 ck, i64 cn, i64 1] 108)).heap[w.heap.size + 1]? = some (hO 0 0)) := blk_alloc (blk_below HK2.out hb1) _
  have HK4 : Hid ((w1.alloc (.cells #[i64 ce, i64 ck, i64 cn, i64 1] 108)).heap[w.heap.size]? = some (hO sl gn)) := blk_alloc (blk_below HK1.out hb1) _
  have HK5 : Hid ((w1.alloc (.cells #[i64 ce, i64 ck, i64 cn, i64 1] 108)).heap[w1.heap.size]? = some (cO ⟨ce, ck, cn, 1⟩)) := heap_last w1 _
  have hs1 : w.heap.size + 1 < w1.heap.size := by have := blk_lt HK2.out; have := hb1.size; omega
  clear hb1
  unfold Cp.v
  go_upto_region 2 with fail
  have k0 : (w1.alloc (.cells #[i64 ce, i64 ck, i64 cn, i64 1] 108)).cell? ⟨w.heap.size + 1, 0, none⟩ = some (i64 0) := blk_cell HK3.out 0
  have k1 : (w1.alloc (.cells #[i64 ce, i64 ck, i64 cn, i64 1] 108)).cell? ⟨w.heap.size + 1, 1, none⟩ = some (i64 0) := blk_cell HK3.out 1
  have kf : ∀ j, (w1.alloc (.cells #[i64 ce, i64 ck, i64 cn, i64 1] 108)).frozen? ⟨w.heap.size + 1, j, none⟩ = false := blk_frozen HK3.out
  have h0 : (w1.alloc (.cells #[i64 ce, i64 ck, i64 cn, i64 1] 108)).cell? ⟨w.heap.size, 0, none⟩ = some (i64 sl) := blk_cell HK4.out 0
  have d0 : (w1.alloc (.cells #[i64 ce, i64 ck, i64 cn, i64 1] 108)).cell? ⟨w1.heap.size, 0, none⟩ = some (i64 ce) := blk_cell HK5.out 0
  have d1 : (w1.alloc (.cells #[i64 ce, i64 ck, i64 cn, i64 1] 108)).cell? ⟨w1.heap.size, 1, none⟩ = some (i64 ck) := blk_cell HK5.out 1
  have d2 : (w1.alloc (.cells #[i64 ce, i64 ck, i64 cn, i64 1] 108)).cell? ⟨w1.heap.size, 2, none⟩ = some (i64 cn) := blk_cell HK5.out 2
  have d3 : (w1.alloc (.cells #[i64 ce, i64 ck, i64 cn, i64 1] 108)).cell? ⟨w1.heap.size, 3, none⟩ = some (i64 1) := blk_cell HK5.out 3
  have df : ∀ j, (w1.alloc (.cells #[i64 ce, i64 ck, i64 cn, i64 1] 108)).frozen? ⟨w1.heap.size, j, none⟩ = false := blk_frozen HK5.out
  generalize w1.alloc (.cells #[i64 ce, i64 ck, i64 cn, i64 1] 108) = U at *
  generalize w1.heap.size = x at *
  go_wp2_with (first | (go_at_call 86; refine (HE.out _).mono ?_; rintro e v1 ⟨rfl, rfl⟩) | (go_at_call 87; refine (HA.out _).mono ?_; rintro e v1 ⟨rfl, rfl⟩))
  exact bodyPost_ret (results_cell Try.results62 rfl rfl (load42 (set2 HK3.out _ _))) rfl ⟨rfl, bel2 HB1.out (by omega) _ _⟩
set_option maxRecDepth 100000 in
set_option maxHeartbeats 1600000 in
theorem derive_no12 {w : World} (v0 : Value) (env sl gn tt ce ck cn : Int) (hl : Looks w v0 env sl gn ⟨ce, ck, cn, 1⟩ 0) (ht : envB tt = true) : Calls Try.prog 62 #[v0, i64 env, .agg #[i64 sl, i64 gn], i64 tt, i64 2] w fun e w' => e = .returned (.tuple #[.agg #[i64 0, i64 0], i64 91]) ∧ Below w.heap.size w w' := by
  obtain ⟨hBV, hK1, hK2⟩ := two_h w sl gn
  obtain ⟨V, hV⟩ : ∃ V, V = (w.alloc (hO sl gn)).alloc (hO 0 0) := ⟨_, rfl⟩
  have HVe : Hid ((w.alloc (.cells #[i64 sl, i64 gn] 43)).alloc (.cells #[i64 0, i64 0] 43) = V) := hV.symm
  rw [← hV] at hBV hK1 hK2
  have HB := hid hBV
  have HK1 := hid hK1
  have HK2 := hid hK2
  have HL : Hid (Looks w v0 env sl gn ⟨ce, ck, cn, 1⟩ 0) := hl
  clear hV hBV hK1 hK2 hl
  have HE : Hid (∀ W, Calls Try.prog 86 #[i64 tt] W fun e w' => e = .returned (.bool true) ∧ w' = W) := fun W => by have := isEnv_ok W tt; rw [ht] at this; exact this
  have HA : Hid (∀ W, Calls Try.prog 87 #[i64 2] W fun e w' => e = .returned (.bool true) ∧ w' = W) := fun W => areRights_ok W 2
  clear ht
  go_enter Try.func62, Try.ntmps62
  go_wp2_with fail
  rw [HVe.out]
  refine (HL.out V HB.out).mono ?_
  rintro e w1 ⟨rfl, hb1⟩
  have HB1 : Hid (Below w.heap.size w (w1.alloc (.cells #[i64 ce, i64 ck, i64 cn, i64 1] 108))) := (HB.out.trans (hb1.mono HB.out.size)).alloc (HB.out.trans (hb1.mono HB.out.size)).size _
  have HK3 : Hid ((w1.alloc (.cells #[i64 ce, i64 ck, i64 cn, i64 1] 108)).heap[w.heap.size + 1]? = some (hO 0 0)) := blk_alloc (blk_below HK2.out hb1) _
  have HK4 : Hid ((w1.alloc (.cells #[i64 ce, i64 ck, i64 cn, i64 1] 108)).heap[w.heap.size]? = some (hO sl gn)) := blk_alloc (blk_below HK1.out hb1) _
  have HK5 : Hid ((w1.alloc (.cells #[i64 ce, i64 ck, i64 cn, i64 1] 108)).heap[w1.heap.size]? = some (cO ⟨ce, ck, cn, 1⟩)) := heap_last w1 _
  have hs1 : w.heap.size + 1 < w1.heap.size := by have := blk_lt HK2.out; have := hb1.size; omega
  clear hb1
  unfold Cp.v
  go_upto_region 2 with fail
  have k0 : (w1.alloc (.cells #[i64 ce, i64 ck, i64 cn, i64 1] 108)).cell? ⟨w.heap.size + 1, 0, none⟩ = some (i64 0) := blk_cell HK3.out 0
  have k1 : (w1.alloc (.cells #[i64 ce, i64 ck, i64 cn, i64 1] 108)).cell? ⟨w.heap.size + 1, 1, none⟩ = some (i64 0) := blk_cell HK3.out 1
  have kf : ∀ j, (w1.alloc (.cells #[i64 ce, i64 ck, i64 cn, i64 1] 108)).frozen? ⟨w.heap.size + 1, j, none⟩ = false := blk_frozen HK3.out
  have h0 : (w1.alloc (.cells #[i64 ce, i64 ck, i64 cn, i64 1] 108)).cell? ⟨w.heap.size, 0, none⟩ = some (i64 sl) := blk_cell HK4.out 0
  have d0 : (w1.alloc (.cells #[i64 ce, i64 ck, i64 cn, i64 1] 108)).cell? ⟨w1.heap.size, 0, none⟩ = some (i64 ce) := blk_cell HK5.out 0
  have d1 : (w1.alloc (.cells #[i64 ce, i64 ck, i64 cn, i64 1] 108)).cell? ⟨w1.heap.size, 1, none⟩ = some (i64 ck) := blk_cell HK5.out 1
  have d2 : (w1.alloc (.cells #[i64 ce, i64 ck, i64 cn, i64 1] 108)).cell? ⟨w1.heap.size, 2, none⟩ = some (i64 cn) := blk_cell HK5.out 2
  have d3 : (w1.alloc (.cells #[i64 ce, i64 ck, i64 cn, i64 1] 108)).cell? ⟨w1.heap.size, 3, none⟩ = some (i64 1) := blk_cell HK5.out 3
  have df : ∀ j, (w1.alloc (.cells #[i64 ce, i64 ck, i64 cn, i64 1] 108)).frozen? ⟨w1.heap.size, j, none⟩ = false := blk_frozen HK5.out
  generalize w1.alloc (.cells #[i64 ce, i64 ck, i64 cn, i64 1] 108) = U at *
  generalize w1.heap.size = x at *
  go_wp2_with (first | (go_at_call 86; refine (HE.out _).mono ?_; rintro e v1 ⟨rfl, rfl⟩) | (go_at_call 87; refine (HA.out _).mono ?_; rintro e v1 ⟨rfl, rfl⟩))
  exact bodyPost_ret (results_cell Try.results62 rfl rfl (load42 (set2 HK3.out _ _))) rfl ⟨rfl, bel2 HB1.out (by omega) _ _⟩
set_option maxRecDepth 100000 in
set_option maxHeartbeats 1600000 in
theorem derive_no13 {w : World} (v0 : Value) (env sl gn tt ce ck cn : Int) (hl : Looks w v0 env sl gn ⟨ce, ck, cn, 1⟩ 0) (ht : envB tt = true) : Calls Try.prog 62 #[v0, i64 env, .agg #[i64 sl, i64 gn], i64 tt, i64 3] w fun e w' => e = .returned (.tuple #[.agg #[i64 0, i64 0], i64 91]) ∧ Below w.heap.size w w' := by
  obtain ⟨hBV, hK1, hK2⟩ := two_h w sl gn
  obtain ⟨V, hV⟩ : ∃ V, V = (w.alloc (hO sl gn)).alloc (hO 0 0) := ⟨_, rfl⟩
  have HVe : Hid ((w.alloc (.cells #[i64 sl, i64 gn] 43)).alloc (.cells #[i64 0, i64 0] 43) = V) := hV.symm
  rw [← hV] at hBV hK1 hK2
  have HB := hid hBV
  have HK1 := hid hK1
  have HK2 := hid hK2
  have HL : Hid (Looks w v0 env sl gn ⟨ce, ck, cn, 1⟩ 0) := hl
  clear hV hBV hK1 hK2 hl
  have HE : Hid (∀ W, Calls Try.prog 86 #[i64 tt] W fun e w' => e = .returned (.bool true) ∧ w' = W) := fun W => by have := isEnv_ok W tt; rw [ht] at this; exact this
  have HA : Hid (∀ W, Calls Try.prog 87 #[i64 3] W fun e w' => e = .returned (.bool true) ∧ w' = W) := fun W => areRights_ok W 3
  clear ht
  go_enter Try.func62, Try.ntmps62
  go_wp2_with fail
  rw [HVe.out]
  refine (HL.out V HB.out).mono ?_
  rintro e w1 ⟨rfl, hb1⟩
  have HB1 : Hid (Below w.heap.size w (w1.alloc (.cells #[i64 ce, i64 ck, i64 cn, i64 1] 108))) := (HB.out.trans (hb1.mono HB.out.size)).alloc (HB.out.trans (hb1.mono HB.out.size)).size _
  have HK3 : Hid ((w1.alloc (.cells #[i64 ce, i64 ck, i64 cn, i64 1] 108)).heap[w.heap.size + 1]? = some (hO 0 0)) := blk_alloc (blk_below HK2.out hb1) _
  have HK4 : Hid ((w1.alloc (.cells #[i64 ce, i64 ck, i64 cn, i64 1] 108)).heap[w.heap.size]? = some (hO sl gn)) := blk_alloc (blk_below HK1.out hb1) _
  have HK5 : Hid ((w1.alloc (.cells #[i64 ce, i64 ck, i64 cn, i64 1] 108)).heap[w1.heap.size]? = some (cO ⟨ce, ck, cn, 1⟩)) := heap_last w1 _
  have hs1 : w.heap.size + 1 < w1.heap.size := by have := blk_lt HK2.out; have := hb1.size; omega
  clear hb1
  unfold Cp.v
  go_upto_region 2 with fail
  have k0 : (w1.alloc (.cells #[i64 ce, i64 ck, i64 cn, i64 1] 108)).cell? ⟨w.heap.size + 1, 0, none⟩ = some (i64 0) := blk_cell HK3.out 0
  have k1 : (w1.alloc (.cells #[i64 ce, i64 ck, i64 cn, i64 1] 108)).cell? ⟨w.heap.size + 1, 1, none⟩ = some (i64 0) := blk_cell HK3.out 1
  have kf : ∀ j, (w1.alloc (.cells #[i64 ce, i64 ck, i64 cn, i64 1] 108)).frozen? ⟨w.heap.size + 1, j, none⟩ = false := blk_frozen HK3.out
  have h0 : (w1.alloc (.cells #[i64 ce, i64 ck, i64 cn, i64 1] 108)).cell? ⟨w.heap.size, 0, none⟩ = some (i64 sl) := blk_cell HK4.out 0
  have d0 : (w1.alloc (.cells #[i64 ce, i64 ck, i64 cn, i64 1] 108)).cell? ⟨w1.heap.size, 0, none⟩ = some (i64 ce) := blk_cell HK5.out 0
  have d1 : (w1.alloc (.cells #[i64 ce, i64 ck, i64 cn, i64 1] 108)).cell? ⟨w1.heap.size, 1, none⟩ = some (i64 ck) := blk_cell HK5.out 1
  have d2 : (w1.alloc (.cells #[i64 ce, i64 ck, i64 cn, i64 1] 108)).cell? ⟨w1.heap.size, 2, none⟩ = some (i64 cn) := blk_cell HK5.out 2
  have d3 : (w1.alloc (.cells #[i64 ce, i64 ck, i64 cn, i64 1] 108)).cell? ⟨w1.heap.size, 3, none⟩ = some (i64 1) := blk_cell HK5.out 3
  have df : ∀ j, (w1.alloc (.cells #[i64 ce, i64 ck, i64 cn, i64 1] 108)).frozen? ⟨w1.heap.size, j, none⟩ = false := blk_frozen HK5.out
  generalize w1.alloc (.cells #[i64 ce, i64 ck, i64 cn, i64 1] 108) = U at *
  generalize w1.heap.size = x at *
  go_wp2_with (first | (go_at_call 86; refine (HE.out _).mono ?_; rintro e v1 ⟨rfl, rfl⟩) | (go_at_call 87; refine (HA.out _).mono ?_; rintro e v1 ⟨rfl, rfl⟩))
  exact bodyPost_ret (results_cell Try.results62 rfl rfl (load42 (set2 HK3.out _ _))) rfl ⟨rfl, bel2 HB1.out (by omega) _ _⟩
set_option maxRecDepth 100000 in
set_option maxHeartbeats 1600000 in
theorem derive_no21 {w : World} (v0 : Value) (env sl gn tt ce ck cn : Int) (hl : Looks w v0 env sl gn ⟨ce, ck, cn, 2⟩ 0) (ht : envB tt = true) : Calls Try.prog 62 #[v0, i64 env, .agg #[i64 sl, i64 gn], i64 tt, i64 1] w fun e w' => e = .returned (.tuple #[.agg #[i64 0, i64 0], i64 91]) ∧ Below w.heap.size w w' := by
  obtain ⟨hBV, hK1, hK2⟩ := two_h w sl gn
  obtain ⟨V, hV⟩ : ∃ V, V = (w.alloc (hO sl gn)).alloc (hO 0 0) := ⟨_, rfl⟩
  have HVe : Hid ((w.alloc (.cells #[i64 sl, i64 gn] 43)).alloc (.cells #[i64 0, i64 0] 43) = V) := hV.symm
  rw [← hV] at hBV hK1 hK2
  have HB := hid hBV
  have HK1 := hid hK1
  have HK2 := hid hK2
  have HL : Hid (Looks w v0 env sl gn ⟨ce, ck, cn, 2⟩ 0) := hl
  clear hV hBV hK1 hK2 hl
  have HE : Hid (∀ W, Calls Try.prog 86 #[i64 tt] W fun e w' => e = .returned (.bool true) ∧ w' = W) := fun W => by have := isEnv_ok W tt; rw [ht] at this; exact this
  have HA : Hid (∀ W, Calls Try.prog 87 #[i64 1] W fun e w' => e = .returned (.bool true) ∧ w' = W) := fun W => areRights_ok W 1
  clear ht
  go_enter Try.func62, Try.ntmps62
  go_wp2_with fail
  rw [HVe.out]
  refine (HL.out V HB.out).mono ?_
  rintro e w1 ⟨rfl, hb1⟩
  have HB1 : Hid (Below w.heap.size w (w1.alloc (.cells #[i64 ce, i64 ck, i64 cn, i64 2] 108))) := (HB.out.trans (hb1.mono HB.out.size)).alloc (HB.out.trans (hb1.mono HB.out.size)).size _
  have HK3 : Hid ((w1.alloc (.cells #[i64 ce, i64 ck, i64 cn, i64 2] 108)).heap[w.heap.size + 1]? = some (hO 0 0)) := blk_alloc (blk_below HK2.out hb1) _
  have HK4 : Hid ((w1.alloc (.cells #[i64 ce, i64 ck, i64 cn, i64 2] 108)).heap[w.heap.size]? = some (hO sl gn)) := blk_alloc (blk_below HK1.out hb1) _
  have HK5 : Hid ((w1.alloc (.cells #[i64 ce, i64 ck, i64 cn, i64 2] 108)).heap[w1.heap.size]? = some (cO ⟨ce, ck, cn, 2⟩)) := heap_last w1 _
  have hs1 : w.heap.size + 1 < w1.heap.size := by have := blk_lt HK2.out; have := hb1.size; omega
  clear hb1
  unfold Cp.v
  go_upto_region 2 with fail
  have k0 : (w1.alloc (.cells #[i64 ce, i64 ck, i64 cn, i64 2] 108)).cell? ⟨w.heap.size + 1, 0, none⟩ = some (i64 0) := blk_cell HK3.out 0
  have k1 : (w1.alloc (.cells #[i64 ce, i64 ck, i64 cn, i64 2] 108)).cell? ⟨w.heap.size + 1, 1, none⟩ = some (i64 0) := blk_cell HK3.out 1
  have kf : ∀ j, (w1.alloc (.cells #[i64 ce, i64 ck, i64 cn, i64 2] 108)).frozen? ⟨w.heap.size + 1, j, none⟩ = false := blk_frozen HK3.out
  have h0 : (w1.alloc (.cells #[i64 ce, i64 ck, i64 cn, i64 2] 108)).cell? ⟨w.heap.size, 0, none⟩ = some (i64 sl) := blk_cell HK4.out 0
  have d0 : (w1.alloc (.cells #[i64 ce, i64 ck, i64 cn, i64 2] 108)).cell? ⟨w1.heap.size, 0, none⟩ = some (i64 ce) := blk_cell HK5.out 0
  have d1 : (w1.alloc (.cells #[i64 ce, i64 ck, i64 cn, i64 2] 108)).cell? ⟨w1.heap.size, 1, none⟩ = some (i64 ck) := blk_cell HK5.out 1
  have d2 : (w1.alloc (.cells #[i64 ce, i64 ck, i64 cn, i64 2] 108)).cell? ⟨w1.heap.size, 2, none⟩ = some (i64 cn) := blk_cell HK5.out 2
  have d3 : (w1.alloc (.cells #[i64 ce, i64 ck, i64 cn, i64 2] 108)).cell? ⟨w1.heap.size, 3, none⟩ = some (i64 2) := blk_cell HK5.out 3
  have df : ∀ j, (w1.alloc (.cells #[i64 ce, i64 ck, i64 cn, i64 2] 108)).frozen? ⟨w1.heap.size, j, none⟩ = false := blk_frozen HK5.out
  generalize w1.alloc (.cells #[i64 ce, i64 ck, i64 cn, i64 2] 108) = U at *
  generalize w1.heap.size = x at *
  go_wp2_with (first | (go_at_call 86; refine (HE.out _).mono ?_; rintro e v1 ⟨rfl, rfl⟩) | (go_at_call 87; refine (HA.out _).mono ?_; rintro e v1 ⟨rfl, rfl⟩))
  exact bodyPost_ret (results_cell Try.results62 rfl rfl (load42 (set2 HK3.out _ _))) rfl ⟨rfl, bel2 HB1.out (by omega) _ _⟩
set_option maxRecDepth 100000 in
set_option maxHeartbeats 1600000 in
theorem derive_no23 {w : World} (v0 : Value) (env sl gn tt ce ck cn : Int) (hl : Looks w v0 env sl gn ⟨ce, ck, cn, 2⟩ 0) (ht : envB tt = true) : Calls Try.prog 62 #[v0, i64 env, .agg #[i64 sl, i64 gn], i64 tt, i64 3] w fun e w' => e = .returned (.tuple #[.agg #[i64 0, i64 0], i64 91]) ∧ Below w.heap.size w w' := by
  obtain ⟨hBV, hK1, hK2⟩ := two_h w sl gn
  obtain ⟨V, hV⟩ : ∃ V, V = (w.alloc (hO sl gn)).alloc (hO 0 0) := ⟨_, rfl⟩
  have HVe : Hid ((w.alloc (.cells #[i64 sl, i64 gn] 43)).alloc (.cells #[i64 0, i64 0] 43) = V) := hV.symm
  rw [← hV] at hBV hK1 hK2
  have HB := hid hBV
  have HK1 := hid hK1
  have HK2 := hid hK2
  have HL : Hid (Looks w v0 env sl gn ⟨ce, ck, cn, 2⟩ 0) := hl
  clear hV hBV hK1 hK2 hl
  have HE : Hid (∀ W, Calls Try.prog 86 #[i64 tt] W fun e w' => e = .returned (.bool true) ∧ w' = W) := fun W => by have := isEnv_ok W tt; rw [ht] at this; exact this
  have HA : Hid (∀ W, Calls Try.prog 87 #[i64 3] W fun e w' => e = .returned (.bool true) ∧ w' = W) := fun W => areRights_ok W 3
  clear ht
  go_enter Try.func62, Try.ntmps62
  go_wp2_with fail
  rw [HVe.out]
  refine (HL.out V HB.out).mono ?_
  rintro e w1 ⟨rfl, hb1⟩
  have HB1 : Hid (Below w.heap.size w (w1.alloc (.cells #[i64 ce, i64 ck, i64 cn, i64 2] 108))) := (HB.out.trans (hb1.mono HB.out.size)).alloc (HB.out.trans (hb1.mono HB.out.size)).size _
  have HK3 : Hid ((w1.alloc (.cells #[i64 ce, i64 ck, i64 cn, i64 2] 108)).heap[w.heap.size + 1]? = some (hO 0 0)) := blk_alloc (blk_below HK2.out hb1) _
  have HK4 : Hid ((w1.alloc (.cells #[i64 ce, i64 ck, i64 cn, i64 2] 108)).heap[w.heap.size]? = some (hO sl gn)) := blk_alloc (blk_below HK1.out hb1) _
  have HK5 : Hid ((w1.alloc (.cells #[i64 ce, i64 ck, i64 cn, i64 2] 108)).heap[w1.heap.size]? = some (cO ⟨ce, ck, cn, 2⟩)) := heap_last w1 _
  have hs1 : w.heap.size + 1 < w1.heap.size := by have := blk_lt HK2.out; have := hb1.size; omega
  clear hb1
  unfold Cp.v
  go_upto_region 2 with fail
  have k0 : (w1.alloc (.cells #[i64 ce, i64 ck, i64 cn, i64 2] 108)).cell? ⟨w.heap.size + 1, 0, none⟩ = some (i64 0) := blk_cell HK3.out 0
  have k1 : (w1.alloc (.cells #[i64 ce, i64 ck, i64 cn, i64 2] 108)).cell? ⟨w.heap.size + 1, 1, none⟩ = some (i64 0) := blk_cell HK3.out 1
  have kf : ∀ j, (w1.alloc (.cells #[i64 ce, i64 ck, i64 cn, i64 2] 108)).frozen? ⟨w.heap.size + 1, j, none⟩ = false := blk_frozen HK3.out
  have h0 : (w1.alloc (.cells #[i64 ce, i64 ck, i64 cn, i64 2] 108)).cell? ⟨w.heap.size, 0, none⟩ = some (i64 sl) := blk_cell HK4.out 0
  have d0 : (w1.alloc (.cells #[i64 ce, i64 ck, i64 cn, i64 2] 108)).cell? ⟨w1.heap.size, 0, none⟩ = some (i64 ce) := blk_cell HK5.out 0
  have d1 : (w1.alloc (.cells #[i64 ce, i64 ck, i64 cn, i64 2] 108)).cell? ⟨w1.heap.size, 1, none⟩ = some (i64 ck) := blk_cell HK5.out 1
  have d2 : (w1.alloc (.cells #[i64 ce, i64 ck, i64 cn, i64 2] 108)).cell? ⟨w1.heap.size, 2, none⟩ = some (i64 cn) := blk_cell HK5.out 2
  have d3 : (w1.alloc (.cells #[i64 ce, i64 ck, i64 cn, i64 2] 108)).cell? ⟨w1.heap.size, 3, none⟩ = some (i64 2) := blk_cell HK5.out 3
  have df : ∀ j, (w1.alloc (.cells #[i64 ce, i64 ck, i64 cn, i64 2] 108)).frozen? ⟨w1.heap.size, j, none⟩ = false := blk_frozen HK5.out
  generalize w1.alloc (.cells #[i64 ce, i64 ck, i64 cn, i64 2] 108) = U at *
  generalize w1.heap.size = x at *
  go_wp2_with (first | (go_at_call 86; refine (HE.out _).mono ?_; rintro e v1 ⟨rfl, rfl⟩) | (go_at_call 87; refine (HA.out _).mono ?_; rintro e v1 ⟨rfl, rfl⟩))
  exact bodyPost_ret (results_cell Try.results62 rfl rfl (load42 (set2 HK3.out _ _))) rfl ⟨rfl, bel2 HB1.out (by omega) _ _⟩
end Go.Proofs.Ytnknhencobhjdaa.Cp
