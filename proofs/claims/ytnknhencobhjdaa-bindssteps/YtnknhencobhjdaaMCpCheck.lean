/- No statement here. -/
import Derived.Test.YtnknhencobhjdaaMCpMint
set_option maxRecDepth 100000
namespace Go.Proofs.Ytnknhencobhjdaa.Cp
open Go.ChangeShapes Go.WideShapes Go.ChangeAt Go.RowKit Go.Deep
attribute [local go_sem ↓] Go.wp_at_zero Go.wp_at_succ
theorem two_h (w : World) (sl gn : Int) : Below w.heap.size w ((w.alloc (hO sl gn)).alloc (hO 0 0)) ∧ ((w.alloc (hO sl gn)).alloc (hO 0 0)).heap[w.heap.size]? = some (hO sl gn) ∧ ((w.alloc (hO sl gn)).alloc (hO 0 0)).heap[w.heap.size + 1]? = some (hO 0 0) := by
  refine ⟨(bl1 w _).trans ((bl1 _ _).mono (by simp)), bka (hlx w _) _, ?_⟩
  have := hlx (w.alloc (hO sl gn)) (hO 0 0)
  rwa [show (w.alloc (hO sl gn)).heap.size = w.heap.size + 1 by simp] at this
abbrev Looks (w : World) (v0 : Value) (env sl gn : Int) (c : Cp) (x : Int) : Prop := ∀ W, Below w.heap.size w W → Calls Try.prog 50 #[v0, i64 env, .agg #[i64 sl, i64 gn]] W fun e w' => e = .returned (.tuple #[c.v, i64 x]) ∧ Below W.heap.size W w'
theorem looks_nil (w : World) (env sl gn : Int) : Looks w (.pointer none) env sl gn zC 90 := fun W _ => look_nil W env sl gn
theorem looks_tb {w : World} {base b : Nat} {T : List Pl} (h : Tb w base b T) (env sl gn : Int) : Looks w (.pointer (some ⟨b, 0, none⟩)) env sl gn (rC (lookF T env sl gn)) (rE (lookF T env sl gn)) := fun _ hW => look_any (h.below hW) env sl gn
set_option maxHeartbeats 1600000 in
theorem derive_rts {w : World} (v0 : Value) (env sl gn tt rights ce ck cn cr : Int) (hl : Looks w v0 env sl gn ⟨ce, ck, cn, cr⟩ 0) (ht : envB tt = true) (hr : envB rights = false) : Calls Try.prog 62 #[v0, i64 env, .agg #[i64 sl, i64 gn], i64 tt, i64 rights] w fun e w' => e = .returned (.tuple #[.agg #[i64 0, i64 0], i64 1]) ∧ Below w.heap.size w w' := by
  obtain ⟨hBV, hK1, hK2⟩ := two_h w sl gn
  obtain ⟨V, hV⟩ : ∃ V, V = (w.alloc (hO sl gn)).alloc (hO 0 0) := ⟨_, rfl⟩
  have HVe : Hid ((w.alloc (.cells #[i64 sl, i64 gn] 43)).alloc (.cells #[i64 0, i64 0] 43) = V) := hV.symm
  rw [← hV] at hBV hK1 hK2
  have HB := hid hBV
  have HK1 := hid hK1
  have HK2 := hid hK2
  have HL : Hid (Looks w v0 env sl gn ⟨ce, ck, cn, cr⟩ 0) := hl
  clear hV hBV hK1 hK2 hl
  have HE : Hid (∀ W, Calls Try.prog 86 #[i64 tt] W fun e w' => e = .returned (.bool true) ∧ w' = W) := fun W => by have := isEnv_ok W tt; rw [ht] at this; exact this
  have HA : Hid (∀ W, Calls Try.prog 87 #[i64 rights] W fun e w' => e = .returned (.bool false) ∧ w' = W) := fun W => by have := areRights_ok W rights; rw [hr] at this; exact this
  clear ht hr
  go_enter Try.func62, Try.ntmps62
  go_wp2_with fail
  rw [HVe.out]
  refine (HL.out V HB.out).mono ?_
  rintro e w1 ⟨rfl, hb1⟩
  have HB1 : Hid (Below w.heap.size w (w1.alloc (.cells #[i64 ce, i64 ck, i64 cn, i64 cr] 108))) := (HB.out.trans (hb1.mono HB.out.size)).alloc (HB.out.trans (hb1.mono HB.out.size)).size _
  have HK3 : Hid ((w1.alloc (.cells #[i64 ce, i64 ck, i64 cn, i64 cr] 108)).heap[w.heap.size + 1]? = some (hO 0 0)) := bka (bkb HK2.out hb1) _
  have HK4 : Hid ((w1.alloc (.cells #[i64 ce, i64 ck, i64 cn, i64 cr] 108)).heap[w.heap.size]? = some (hO sl gn)) := bka (bkb HK1.out hb1) _
  have HK5 : Hid ((w1.alloc (.cells #[i64 ce, i64 ck, i64 cn, i64 cr] 108)).heap[w1.heap.size]? = some (cO ⟨ce, ck, cn, cr⟩)) := hlx w1 _
  have hs1 : w.heap.size + 1 < w1.heap.size := by have := blk_lt HK2.out; have := hb1.size; omega
  clear hb1
  unfold Cp.v
  go_upto_region 2 with fail
  have k0 : (w1.alloc (.cells #[i64 ce, i64 ck, i64 cn, i64 cr] 108)).cell? ⟨w.heap.size + 1, 0, none⟩ = some (i64 0) := bkc HK3.out 0
  have k1 : (w1.alloc (.cells #[i64 ce, i64 ck, i64 cn, i64 cr] 108)).cell? ⟨w.heap.size + 1, 1, none⟩ = some (i64 0) := bkc HK3.out 1
  have kf : ∀ j, (w1.alloc (.cells #[i64 ce, i64 ck, i64 cn, i64 cr] 108)).frozen? ⟨w.heap.size + 1, j, none⟩ = false := bkf HK3.out
  have h0 : (w1.alloc (.cells #[i64 ce, i64 ck, i64 cn, i64 cr] 108)).cell? ⟨w.heap.size, 0, none⟩ = some (i64 sl) := bkc HK4.out 0
  have d0 : (w1.alloc (.cells #[i64 ce, i64 ck, i64 cn, i64 cr] 108)).cell? ⟨w1.heap.size, 0, none⟩ = some (i64 ce) := bkc HK5.out 0
  have d1 : (w1.alloc (.cells #[i64 ce, i64 ck, i64 cn, i64 cr] 108)).cell? ⟨w1.heap.size, 1, none⟩ = some (i64 ck) := bkc HK5.out 1
  have d2 : (w1.alloc (.cells #[i64 ce, i64 ck, i64 cn, i64 cr] 108)).cell? ⟨w1.heap.size, 2, none⟩ = some (i64 cn) := bkc HK5.out 2
  have d3 : (w1.alloc (.cells #[i64 ce, i64 ck, i64 cn, i64 cr] 108)).cell? ⟨w1.heap.size, 3, none⟩ = some (i64 cr) := bkc HK5.out 3
  have df : ∀ j, (w1.alloc (.cells #[i64 ce, i64 ck, i64 cn, i64 cr] 108)).frozen? ⟨w1.heap.size, j, none⟩ = false := bkf HK5.out
  generalize w1.alloc (.cells #[i64 ce, i64 ck, i64 cn, i64 cr] 108) = U at *
  generalize w1.heap.size = x at *
  go_wp2_with (first | (go_at_call 86; refine (HE.out _).mono ?_; rintro e v1 ⟨rfl, rfl⟩) | (go_at_call 87; refine (HA.out _).mono ?_; rintro e v1 ⟨rfl, rfl⟩))
  exact bodyPost_ret (results_cell Try.results62 rfl rfl (load42 (set2 HK3.out _ _))) rfl ⟨rfl, bel2 HB1.out (by omega) _ _⟩
set_option maxHeartbeats 1600000 in
theorem derive_no11 {w : World} (v0 : Value) (env sl gn tt ce ck cn : Int) (hl : Looks w v0 env sl gn ⟨ce, ck, cn, 1⟩ 0) (ht : envB tt = true) : Calls Try.prog 62 #[v0, i64 env, .agg #[i64 sl, i64 gn], i64 tt, i64 1] w fun e w' => e = .returned (.tuple #[.agg #[i64 0, i64 0], i64 91]) ∧ Below w.heap.size w w' := by
  obtain ⟨hBV, hK1, hK2⟩ := two_h w sl gn
  obtain ⟨V, hV⟩ : ∃ V, V = (w.alloc (hO sl gn)).alloc (hO 0 0) := ⟨_, rfl⟩
  have HVe : Hid ((w.alloc (.cells #[i64 sl, i64 gn] 43)).alloc (.cells #[i64 0, i64 0] 43) = V) := hV.symm
  rw [← hV] at hBV hK1 hK2
  have HB := hid hBV
  have HK1 := hid hK1
  have HK2 := hid hK2
  have HL : Hid (Looks w v0 env sl gn ⟨ce, ck, cn, 1⟩ 0) := hl
  clear hV hBV hK1 hK2 hl
  have HE : Hid (∀ W, Calls Try.prog 86 #[i64 tt] W fun e w' => e = .returned (.bool true) ∧ w' = W) := fun W => by have := isEnv_ok W tt; rw [ht] at this; exact this
  have HA : Hid (∀ W, Calls Try.prog 87 #[i64 1] W fun e w' => e = .returned (.bool true) ∧ w' = W) := fun W => areRights_ok W 1
  clear ht
  go_enter Try.func62, Try.ntmps62
  go_wp2_with fail
  rw [HVe.out]
  refine (HL.out V HB.out).mono ?_
  rintro e w1 ⟨rfl, hb1⟩
  have HB1 : Hid (Below w.heap.size w (w1.alloc (.cells #[i64 ce, i64 ck, i64 cn, i64 1] 108))) := (HB.out.trans (hb1.mono HB.out.size)).alloc (HB.out.trans (hb1.mono HB.out.size)).size _
  have HK3 : Hid ((w1.alloc (.cells #[i64 ce, i64 ck, i64 cn, i64 1] 108)).heap[w.heap.size + 1]? = some (hO 0 0)) := bka (bkb HK2.out hb1) _
  have HK4 : Hid ((w1.alloc (.cells #[i64 ce, i64 ck, i64 cn, i64 1] 108)).heap[w.heap.size]? = some (hO sl gn)) := bka (bkb HK1.out hb1) _
  have HK5 : Hid ((w1.alloc (.cells #[i64 ce, i64 ck, i64 cn, i64 1] 108)).heap[w1.heap.size]? = some (cO ⟨ce, ck, cn, 1⟩)) := hlx w1 _
  have hs1 : w.heap.size + 1 < w1.heap.size := by have := blk_lt HK2.out; have := hb1.size; omega
  clear hb1
  unfold Cp.v
  go_upto_region 2 with fail
  have k0 : (w1.alloc (.cells #[i64 ce, i64 ck, i64 cn, i64 1] 108)).cell? ⟨w.heap.size + 1, 0, none⟩ = some (i64 0) := bkc HK3.out 0
  have k1 : (w1.alloc (.cells #[i64 ce, i64 ck, i64 cn, i64 1] 108)).cell? ⟨w.heap.size + 1, 1, none⟩ = some (i64 0) := bkc HK3.out 1
  have kf : ∀ j, (w1.alloc (.cells #[i64 ce, i64 ck, i64 cn, i64 1] 108)).frozen? ⟨w.heap.size + 1, j, none⟩ = false := bkf HK3.out
  have h0 : (w1.alloc (.cells #[i64 ce, i64 ck, i64 cn, i64 1] 108)).cell? ⟨w.heap.size, 0, none⟩ = some (i64 sl) := bkc HK4.out 0
  have d0 : (w1.alloc (.cells #[i64 ce, i64 ck, i64 cn, i64 1] 108)).cell? ⟨w1.heap.size, 0, none⟩ = some (i64 ce) := bkc HK5.out 0
  have d1 : (w1.alloc (.cells #[i64 ce, i64 ck, i64 cn, i64 1] 108)).cell? ⟨w1.heap.size, 1, none⟩ = some (i64 ck) := bkc HK5.out 1
  have d2 : (w1.alloc (.cells #[i64 ce, i64 ck, i64 cn, i64 1] 108)).cell? ⟨w1.heap.size, 2, none⟩ = some (i64 cn) := bkc HK5.out 2
  have d3 : (w1.alloc (.cells #[i64 ce, i64 ck, i64 cn, i64 1] 108)).cell? ⟨w1.heap.size, 3, none⟩ = some (i64 1) := bkc HK5.out 3
  have df : ∀ j, (w1.alloc (.cells #[i64 ce, i64 ck, i64 cn, i64 1] 108)).frozen? ⟨w1.heap.size, j, none⟩ = false := bkf HK5.out
  generalize w1.alloc (.cells #[i64 ce, i64 ck, i64 cn, i64 1] 108) = U at *
  generalize w1.heap.size = x at *
  go_wp2_with (first | (go_at_call 86; refine (HE.out _).mono ?_; rintro e v1 ⟨rfl, rfl⟩) | (go_at_call 87; refine (HA.out _).mono ?_; rintro e v1 ⟨rfl, rfl⟩))
  exact bodyPost_ret (results_cell Try.results62 rfl rfl (load42 (set2 HK3.out _ _))) rfl ⟨rfl, bel2 HB1.out (by omega) _ _⟩
set_option maxHeartbeats 1600000 in
theorem derive_no12 {w : World} (v0 : Value) (env sl gn tt ce ck cn : Int) (hl : Looks w v0 env sl gn ⟨ce, ck, cn, 1⟩ 0) (ht : envB tt = true) : Calls Try.prog 62 #[v0, i64 env, .agg #[i64 sl, i64 gn], i64 tt, i64 2] w fun e w' => e = .returned (.tuple #[.agg #[i64 0, i64 0], i64 91]) ∧ Below w.heap.size w w' := by
  obtain ⟨hBV, hK1, hK2⟩ := two_h w sl gn
  obtain ⟨V, hV⟩ : ∃ V, V = (w.alloc (hO sl gn)).alloc (hO 0 0) := ⟨_, rfl⟩
  have HVe : Hid ((w.alloc (.cells #[i64 sl, i64 gn] 43)).alloc (.cells #[i64 0, i64 0] 43) = V) := hV.symm
  rw [← hV] at hBV hK1 hK2
  have HB := hid hBV
  have HK1 := hid hK1
  have HK2 := hid hK2
  have HL : Hid (Looks w v0 env sl gn ⟨ce, ck, cn, 1⟩ 0) := hl
  clear hV hBV hK1 hK2 hl
  have HE : Hid (∀ W, Calls Try.prog 86 #[i64 tt] W fun e w' => e = .returned (.bool true) ∧ w' = W) := fun W => by have := isEnv_ok W tt; rw [ht] at this; exact this
  have HA : Hid (∀ W, Calls Try.prog 87 #[i64 2] W fun e w' => e = .returned (.bool true) ∧ w' = W) := fun W => areRights_ok W 2
  clear ht
  go_enter Try.func62, Try.ntmps62
  go_wp2_with fail
  rw [HVe.out]
  refine (HL.out V HB.out).mono ?_
  rintro e w1 ⟨rfl, hb1⟩
  have HB1 : Hid (Below w.heap.size w (w1.alloc (.cells #[i64 ce, i64 ck, i64 cn, i64 1] 108))) := (HB.out.trans (hb1.mono HB.out.size)).alloc (HB.out.trans (hb1.mono HB.out.size)).size _
  have HK3 : Hid ((w1.alloc (.cells #[i64 ce, i64 ck, i64 cn, i64 1] 108)).heap[w.heap.size + 1]? = some (hO 0 0)) := bka (bkb HK2.out hb1) _
  have HK4 : Hid ((w1.alloc (.cells #[i64 ce, i64 ck, i64 cn, i64 1] 108)).heap[w.heap.size]? = some (hO sl gn)) := bka (bkb HK1.out hb1) _
  have HK5 : Hid ((w1.alloc (.cells #[i64 ce, i64 ck, i64 cn, i64 1] 108)).heap[w1.heap.size]? = some (cO ⟨ce, ck, cn, 1⟩)) := hlx w1 _
  have hs1 : w.heap.size + 1 < w1.heap.size := by have := blk_lt HK2.out; have := hb1.size; omega
  clear hb1
  unfold Cp.v
  go_upto_region 2 with fail
  have k0 : (w1.alloc (.cells #[i64 ce, i64 ck, i64 cn, i64 1] 108)).cell? ⟨w.heap.size + 1, 0, none⟩ = some (i64 0) := bkc HK3.out 0
  have k1 : (w1.alloc (.cells #[i64 ce, i64 ck, i64 cn, i64 1] 108)).cell? ⟨w.heap.size + 1, 1, none⟩ = some (i64 0) := bkc HK3.out 1
  have kf : ∀ j, (w1.alloc (.cells #[i64 ce, i64 ck, i64 cn, i64 1] 108)).frozen? ⟨w.heap.size + 1, j, none⟩ = false := bkf HK3.out
  have h0 : (w1.alloc (.cells #[i64 ce, i64 ck, i64 cn, i64 1] 108)).cell? ⟨w.heap.size, 0, none⟩ = some (i64 sl) := bkc HK4.out 0
  have d0 : (w1.alloc (.cells #[i64 ce, i64 ck, i64 cn, i64 1] 108)).cell? ⟨w1.heap.size, 0, none⟩ = some (i64 ce) := bkc HK5.out 0
  have d1 : (w1.alloc (.cells #[i64 ce, i64 ck, i64 cn, i64 1] 108)).cell? ⟨w1.heap.size, 1, none⟩ = some (i64 ck) := bkc HK5.out 1
  have d2 : (w1.alloc (.cells #[i64 ce, i64 ck, i64 cn, i64 1] 108)).cell? ⟨w1.heap.size, 2, none⟩ = some (i64 cn) := bkc HK5.out 2
  have d3 : (w1.alloc (.cells #[i64 ce, i64 ck, i64 cn, i64 1] 108)).cell? ⟨w1.heap.size, 3, none⟩ = some (i64 1) := bkc HK5.out 3
  have df : ∀ j, (w1.alloc (.cells #[i64 ce, i64 ck, i64 cn, i64 1] 108)).frozen? ⟨w1.heap.size, j, none⟩ = false := bkf HK5.out
  generalize w1.alloc (.cells #[i64 ce, i64 ck, i64 cn, i64 1] 108) = U at *
  generalize w1.heap.size = x at *
  go_wp2_with (first | (go_at_call 86; refine (HE.out _).mono ?_; rintro e v1 ⟨rfl, rfl⟩) | (go_at_call 87; refine (HA.out _).mono ?_; rintro e v1 ⟨rfl, rfl⟩))
  exact bodyPost_ret (results_cell Try.results62 rfl rfl (load42 (set2 HK3.out _ _))) rfl ⟨rfl, bel2 HB1.out (by omega) _ _⟩
set_option maxHeartbeats 1600000 in
theorem derive_no13 {w : World} (v0 : Value) (env sl gn tt ce ck cn : Int) (hl : Looks w v0 env sl gn ⟨ce, ck, cn, 1⟩ 0) (ht : envB tt = true) : Calls Try.prog 62 #[v0, i64 env, .agg #[i64 sl, i64 gn], i64 tt, i64 3] w fun e w' => e = .returned (.tuple #[.agg #[i64 0, i64 0], i64 91]) ∧ Below w.heap.size w w' := by
  obtain ⟨hBV, hK1, hK2⟩ := two_h w sl gn
  obtain ⟨V, hV⟩ : ∃ V, V = (w.alloc (hO sl gn)).alloc (hO 0 0) := ⟨_, rfl⟩
  have HVe : Hid ((w.alloc (.cells #[i64 sl, i64 gn] 43)).alloc (.cells #[i64 0, i64 0] 43) = V) := hV.symm
  rw [← hV] at hBV hK1 hK2
  have HB := hid hBV
  have HK1 := hid hK1
  have HK2 := hid hK2
  have HL : Hid (Looks w v0 env sl gn ⟨ce, ck, cn, 1⟩ 0) := hl
  clear hV hBV hK1 hK2 hl
  have HE : Hid (∀ W, Calls Try.prog 86 #[i64 tt] W fun e w' => e = .returned (.bool true) ∧ w' = W) := fun W => by have := isEnv_ok W tt; rw [ht] at this; exact this
  have HA : Hid (∀ W, Calls Try.prog 87 #[i64 3] W fun e w' => e = .returned (.bool true) ∧ w' = W) := fun W => areRights_ok W 3
  clear ht
  go_enter Try.func62, Try.ntmps62
  go_wp2_with fail
  rw [HVe.out]
  refine (HL.out V HB.out).mono ?_
  rintro e w1 ⟨rfl, hb1⟩
  have HB1 : Hid (Below w.heap.size w (w1.alloc (.cells #[i64 ce, i64 ck, i64 cn, i64 1] 108))) := (HB.out.trans (hb1.mono HB.out.size)).alloc (HB.out.trans (hb1.mono HB.out.size)).size _
  have HK3 : Hid ((w1.alloc (.cells #[i64 ce, i64 ck, i64 cn, i64 1] 108)).heap[w.heap.size + 1]? = some (hO 0 0)) := bka (bkb HK2.out hb1) _
  have HK4 : Hid ((w1.alloc (.cells #[i64 ce, i64 ck, i64 cn, i64 1] 108)).heap[w.heap.size]? = some (hO sl gn)) := bka (bkb HK1.out hb1) _
  have HK5 : Hid ((w1.alloc (.cells #[i64 ce, i64 ck, i64 cn, i64 1] 108)).heap[w1.heap.size]? = some (cO ⟨ce, ck, cn, 1⟩)) := hlx w1 _
  have hs1 : w.heap.size + 1 < w1.heap.size := by have := blk_lt HK2.out; have := hb1.size; omega
  clear hb1
  unfold Cp.v
  go_upto_region 2 with fail
  have k0 : (w1.alloc (.cells #[i64 ce, i64 ck, i64 cn, i64 1] 108)).cell? ⟨w.heap.size + 1, 0, none⟩ = some (i64 0) := bkc HK3.out 0
  have k1 : (w1.alloc (.cells #[i64 ce, i64 ck, i64 cn, i64 1] 108)).cell? ⟨w.heap.size + 1, 1, none⟩ = some (i64 0) := bkc HK3.out 1
  have kf : ∀ j, (w1.alloc (.cells #[i64 ce, i64 ck, i64 cn, i64 1] 108)).frozen? ⟨w.heap.size + 1, j, none⟩ = false := bkf HK3.out
  have h0 : (w1.alloc (.cells #[i64 ce, i64 ck, i64 cn, i64 1] 108)).cell? ⟨w.heap.size, 0, none⟩ = some (i64 sl) := bkc HK4.out 0
  have d0 : (w1.alloc (.cells #[i64 ce, i64 ck, i64 cn, i64 1] 108)).cell? ⟨w1.heap.size, 0, none⟩ = some (i64 ce) := bkc HK5.out 0
  have d1 : (w1.alloc (.cells #[i64 ce, i64 ck, i64 cn, i64 1] 108)).cell? ⟨w1.heap.size, 1, none⟩ = some (i64 ck) := bkc HK5.out 1
  have d2 : (w1.alloc (.cells #[i64 ce, i64 ck, i64 cn, i64 1] 108)).cell? ⟨w1.heap.size, 2, none⟩ = some (i64 cn) := bkc HK5.out 2
  have d3 : (w1.alloc (.cells #[i64 ce, i64 ck, i64 cn, i64 1] 108)).cell? ⟨w1.heap.size, 3, none⟩ = some (i64 1) := bkc HK5.out 3
  have df : ∀ j, (w1.alloc (.cells #[i64 ce, i64 ck, i64 cn, i64 1] 108)).frozen? ⟨w1.heap.size, j, none⟩ = false := bkf HK5.out
  generalize w1.alloc (.cells #[i64 ce, i64 ck, i64 cn, i64 1] 108) = U at *
  generalize w1.heap.size = x at *
  go_wp2_with (first | (go_at_call 86; refine (HE.out _).mono ?_; rintro e v1 ⟨rfl, rfl⟩) | (go_at_call 87; refine (HA.out _).mono ?_; rintro e v1 ⟨rfl, rfl⟩))
  exact bodyPost_ret (results_cell Try.results62 rfl rfl (load42 (set2 HK3.out _ _))) rfl ⟨rfl, bel2 HB1.out (by omega) _ _⟩
set_option maxHeartbeats 1600000 in
theorem derive_no21 {w : World} (v0 : Value) (env sl gn tt ce ck cn : Int) (hl : Looks w v0 env sl gn ⟨ce, ck, cn, 2⟩ 0) (ht : envB tt = true) : Calls Try.prog 62 #[v0, i64 env, .agg #[i64 sl, i64 gn], i64 tt, i64 1] w fun e w' => e = .returned (.tuple #[.agg #[i64 0, i64 0], i64 91]) ∧ Below w.heap.size w w' := by
  obtain ⟨hBV, hK1, hK2⟩ := two_h w sl gn
  obtain ⟨V, hV⟩ : ∃ V, V = (w.alloc (hO sl gn)).alloc (hO 0 0) := ⟨_, rfl⟩
  have HVe : Hid ((w.alloc (.cells #[i64 sl, i64 gn] 43)).alloc (.cells #[i64 0, i64 0] 43) = V) := hV.symm
  rw [← hV] at hBV hK1 hK2
  have HB := hid hBV
  have HK1 := hid hK1
  have HK2 := hid hK2
  have HL : Hid (Looks w v0 env sl gn ⟨ce, ck, cn, 2⟩ 0) := hl
  clear hV hBV hK1 hK2 hl
  have HE : Hid (∀ W, Calls Try.prog 86 #[i64 tt] W fun e w' => e = .returned (.bool true) ∧ w' = W) := fun W => by have := isEnv_ok W tt; rw [ht] at this; exact this
  have HA : Hid (∀ W, Calls Try.prog 87 #[i64 1] W fun e w' => e = .returned (.bool true) ∧ w' = W) := fun W => areRights_ok W 1
  clear ht
  go_enter Try.func62, Try.ntmps62
  go_wp2_with fail
  rw [HVe.out]
  refine (HL.out V HB.out).mono ?_
  rintro e w1 ⟨rfl, hb1⟩
  have HB1 : Hid (Below w.heap.size w (w1.alloc (.cells #[i64 ce, i64 ck, i64 cn, i64 2] 108))) := (HB.out.trans (hb1.mono HB.out.size)).alloc (HB.out.trans (hb1.mono HB.out.size)).size _
  have HK3 : Hid ((w1.alloc (.cells #[i64 ce, i64 ck, i64 cn, i64 2] 108)).heap[w.heap.size + 1]? = some (hO 0 0)) := bka (bkb HK2.out hb1) _
  have HK4 : Hid ((w1.alloc (.cells #[i64 ce, i64 ck, i64 cn, i64 2] 108)).heap[w.heap.size]? = some (hO sl gn)) := bka (bkb HK1.out hb1) _
  have HK5 : Hid ((w1.alloc (.cells #[i64 ce, i64 ck, i64 cn, i64 2] 108)).heap[w1.heap.size]? = some (cO ⟨ce, ck, cn, 2⟩)) := hlx w1 _
  have hs1 : w.heap.size + 1 < w1.heap.size := by have := blk_lt HK2.out; have := hb1.size; omega
  clear hb1
  unfold Cp.v
  go_upto_region 2 with fail
  have k0 : (w1.alloc (.cells #[i64 ce, i64 ck, i64 cn, i64 2] 108)).cell? ⟨w.heap.size + 1, 0, none⟩ = some (i64 0) := bkc HK3.out 0
  have k1 : (w1.alloc (.cells #[i64 ce, i64 ck, i64 cn, i64 2] 108)).cell? ⟨w.heap.size + 1, 1, none⟩ = some (i64 0) := bkc HK3.out 1
  have kf : ∀ j, (w1.alloc (.cells #[i64 ce, i64 ck, i64 cn, i64 2] 108)).frozen? ⟨w.heap.size + 1, j, none⟩ = false := bkf HK3.out
  have h0 : (w1.alloc (.cells #[i64 ce, i64 ck, i64 cn, i64 2] 108)).cell? ⟨w.heap.size, 0, none⟩ = some (i64 sl) := bkc HK4.out 0
  have d0 : (w1.alloc (.cells #[i64 ce, i64 ck, i64 cn, i64 2] 108)).cell? ⟨w1.heap.size, 0, none⟩ = some (i64 ce) := bkc HK5.out 0
  have d1 : (w1.alloc (.cells #[i64 ce, i64 ck, i64 cn, i64 2] 108)).cell? ⟨w1.heap.size, 1, none⟩ = some (i64 ck) := bkc HK5.out 1
  have d2 : (w1.alloc (.cells #[i64 ce, i64 ck, i64 cn, i64 2] 108)).cell? ⟨w1.heap.size, 2, none⟩ = some (i64 cn) := bkc HK5.out 2
  have d3 : (w1.alloc (.cells #[i64 ce, i64 ck, i64 cn, i64 2] 108)).cell? ⟨w1.heap.size, 3, none⟩ = some (i64 2) := bkc HK5.out 3
  have df : ∀ j, (w1.alloc (.cells #[i64 ce, i64 ck, i64 cn, i64 2] 108)).frozen? ⟨w1.heap.size, j, none⟩ = false := bkf HK5.out
  generalize w1.alloc (.cells #[i64 ce, i64 ck, i64 cn, i64 2] 108) = U at *
  generalize w1.heap.size = x at *
  go_wp2_with (first | (go_at_call 86; refine (HE.out _).mono ?_; rintro e v1 ⟨rfl, rfl⟩) | (go_at_call 87; refine (HA.out _).mono ?_; rintro e v1 ⟨rfl, rfl⟩))
  exact bodyPost_ret (results_cell Try.results62 rfl rfl (load42 (set2 HK3.out _ _))) rfl ⟨rfl, bel2 HB1.out (by omega) _ _⟩
set_option maxHeartbeats 1600000 in
theorem derive_no23 {w : World} (v0 : Value) (env sl gn tt ce ck cn : Int) (hl : Looks w v0 env sl gn ⟨ce, ck, cn, 2⟩ 0) (ht : envB tt = true) : Calls Try.prog 62 #[v0, i64 env, .agg #[i64 sl, i64 gn], i64 tt, i64 3] w fun e w' => e = .returned (.tuple #[.agg #[i64 0, i64 0], i64 91]) ∧ Below w.heap.size w w' := by
  obtain ⟨hBV, hK1, hK2⟩ := two_h w sl gn
  obtain ⟨V, hV⟩ : ∃ V, V = (w.alloc (hO sl gn)).alloc (hO 0 0) := ⟨_, rfl⟩
  have HVe : Hid ((w.alloc (.cells #[i64 sl, i64 gn] 43)).alloc (.cells #[i64 0, i64 0] 43) = V) := hV.symm
  rw [← hV] at hBV hK1 hK2
  have HB := hid hBV
  have HK1 := hid hK1
  have HK2 := hid hK2
  have HL : Hid (Looks w v0 env sl gn ⟨ce, ck, cn, 2⟩ 0) := hl
  clear hV hBV hK1 hK2 hl
  have HE : Hid (∀ W, Calls Try.prog 86 #[i64 tt] W fun e w' => e = .returned (.bool true) ∧ w' = W) := fun W => by have := isEnv_ok W tt; rw [ht] at this; exact this
  have HA : Hid (∀ W, Calls Try.prog 87 #[i64 3] W fun e w' => e = .returned (.bool true) ∧ w' = W) := fun W => areRights_ok W 3
  clear ht
  go_enter Try.func62, Try.ntmps62
  go_wp2_with fail
  rw [HVe.out]
  refine (HL.out V HB.out).mono ?_
  rintro e w1 ⟨rfl, hb1⟩
  have HB1 : Hid (Below w.heap.size w (w1.alloc (.cells #[i64 ce, i64 ck, i64 cn, i64 2] 108))) := (HB.out.trans (hb1.mono HB.out.size)).alloc (HB.out.trans (hb1.mono HB.out.size)).size _
  have HK3 : Hid ((w1.alloc (.cells #[i64 ce, i64 ck, i64 cn, i64 2] 108)).heap[w.heap.size + 1]? = some (hO 0 0)) := bka (bkb HK2.out hb1) _
  have HK4 : Hid ((w1.alloc (.cells #[i64 ce, i64 ck, i64 cn, i64 2] 108)).heap[w.heap.size]? = some (hO sl gn)) := bka (bkb HK1.out hb1) _
  have HK5 : Hid ((w1.alloc (.cells #[i64 ce, i64 ck, i64 cn, i64 2] 108)).heap[w1.heap.size]? = some (cO ⟨ce, ck, cn, 2⟩)) := hlx w1 _
  have hs1 : w.heap.size + 1 < w1.heap.size := by have := blk_lt HK2.out; have := hb1.size; omega
  clear hb1
  unfold Cp.v
  go_upto_region 2 with fail
  have k0 : (w1.alloc (.cells #[i64 ce, i64 ck, i64 cn, i64 2] 108)).cell? ⟨w.heap.size + 1, 0, none⟩ = some (i64 0) := bkc HK3.out 0
  have k1 : (w1.alloc (.cells #[i64 ce, i64 ck, i64 cn, i64 2] 108)).cell? ⟨w.heap.size + 1, 1, none⟩ = some (i64 0) := bkc HK3.out 1
  have kf : ∀ j, (w1.alloc (.cells #[i64 ce, i64 ck, i64 cn, i64 2] 108)).frozen? ⟨w.heap.size + 1, j, none⟩ = false := bkf HK3.out
  have h0 : (w1.alloc (.cells #[i64 ce, i64 ck, i64 cn, i64 2] 108)).cell? ⟨w.heap.size, 0, none⟩ = some (i64 sl) := bkc HK4.out 0
  have d0 : (w1.alloc (.cells #[i64 ce, i64 ck, i64 cn, i64 2] 108)).cell? ⟨w1.heap.size, 0, none⟩ = some (i64 ce) := bkc HK5.out 0
  have d1 : (w1.alloc (.cells #[i64 ce, i64 ck, i64 cn, i64 2] 108)).cell? ⟨w1.heap.size, 1, none⟩ = some (i64 ck) := bkc HK5.out 1
  have d2 : (w1.alloc (.cells #[i64 ce, i64 ck, i64 cn, i64 2] 108)).cell? ⟨w1.heap.size, 2, none⟩ = some (i64 cn) := bkc HK5.out 2
  have d3 : (w1.alloc (.cells #[i64 ce, i64 ck, i64 cn, i64 2] 108)).cell? ⟨w1.heap.size, 3, none⟩ = some (i64 2) := bkc HK5.out 3
  have df : ∀ j, (w1.alloc (.cells #[i64 ce, i64 ck, i64 cn, i64 2] 108)).frozen? ⟨w1.heap.size, j, none⟩ = false := bkf HK5.out
  generalize w1.alloc (.cells #[i64 ce, i64 ck, i64 cn, i64 2] 108) = U at *
  generalize w1.heap.size = x at *
  go_wp2_with (first | (go_at_call 86; refine (HE.out _).mono ?_; rintro e v1 ⟨rfl, rfl⟩) | (go_at_call 87; refine (HA.out _).mono ?_; rintro e v1 ⟨rfl, rfl⟩))
  exact bodyPost_ret (results_cell Try.results62 rfl rfl (load42 (set2 HK3.out _ _))) rfl ⟨rfl, bel2 HB1.out (by omega) _ _⟩
end Go.Proofs.Ytnknhencobhjdaa.Cp
namespace Go.Proofs.Ytnknhencobhjdaa.Cp
open Go.ChangeShapes Go.WideShapes Go.ChangeAt Go.RowKit Go.Deep
attribute [local go_sem ↓] Go.wp_at_zero Go.wp_at_succ
set_option maxHeartbeats 1600000 in
theorem derive_ok22 {w : World} {base b : Nat} {T : List Pl} (h : Tb w base b T) (env sl gn tt ce ck cn : Int) (hl : Looks w (.pointer (some ⟨b, 0, none⟩)) env sl gn ⟨ce, ck, cn, 2⟩ 0) (ht : envB tt = true) (i : Nat) (p : Pl) (hp : T[i]? = some p) (hf : p.c = zC) (hno : ∀ j q, j < i → T[j]? = some q → q.c ≠ zC) (hg0 : 0 ≤ p.gen) (hg1 : p.gen ≤ 1000000000) : Calls Try.prog 62 #[.pointer (some ⟨b, 0, none⟩), i64 env, .agg #[i64 sl, i64 gn], i64 tt, i64 2] w fun e w' => e = .returned (.tuple #[.agg #[i64 i, i64 (p.gen + 1)], i64 0]) ∧ Tb w' base b (T.set i ⟨⟨tt, ck, cn, 2⟩, sl, p.gen + 1⟩) ∧ Touch b w w' := by
  obtain ⟨hBV, hK1, hK2⟩ := two_h w sl gn
  obtain ⟨V, hV⟩ : ∃ V, V = (w.alloc (hO sl gn)).alloc (hO 0 0) := ⟨_, rfl⟩
  have HVe : Hid ((w.alloc (.cells #[i64 sl, i64 gn] 43)).alloc (.cells #[i64 0, i64 0] 43) = V) := hV.symm
  rw [← hV] at hBV hK1 hK2
  have HB := hid hBV
  have HK1 := hid hK1
  have HK2 := hid hK2
  have HL : Hid (Looks w (.pointer (some ⟨b, 0, none⟩)) env sl gn ⟨ce, ck, cn, 2⟩ 0) := hl
  clear hV hBV hK1 hK2 hl
  have HE : Hid (∀ W, Calls Try.prog 86 #[i64 tt] W fun e w' => e = .returned (.bool true) ∧ w' = W) := fun W => by have := isEnv_ok W tt; rw [ht] at this; exact this
  have HA : Hid (∀ W, Calls Try.prog 87 #[i64 2] W fun e w' => e = .returned (.bool true) ∧ w' = W) := fun W => areRights_ok W 2
  have HT := hid h
  have hbl := h.lt
  have HPut : Hid (∀ W, Tb W base b T → Calls Try.prog 88 #[.pointer (some ⟨b, 0, none⟩), .agg #[i64 tt, i64 ck, i64 cn, i64 2], i64 sl] W fun e w' => e = .returned (.tuple #[.agg #[i64 i, i64 (p.gen + 1)], i64 0]) ∧ Tb w' base b (T.set i ⟨⟨tt, ck, cn, 2⟩, sl, p.gen + 1⟩) ∧ Touch b W w') := fun W hW => put_ok hW ⟨tt, ck, cn, 2⟩ sl i p hp hf hno hg0 hg1
  clear ht h hp hf hno
  go_enter Try.func62, Try.ntmps62
  go_wp2_with fail
  rw [HVe.out]
  refine (HL.out V HB.out).mono ?_
  rintro e w1 ⟨rfl, hb1⟩
  have HB1 : Hid (Below w.heap.size w (w1.alloc (.cells #[i64 ce, i64 ck, i64 cn, i64 2] 108))) := (HB.out.trans (hb1.mono HB.out.size)).alloc (HB.out.trans (hb1.mono HB.out.size)).size _
  have HK3 : Hid ((w1.alloc (.cells #[i64 ce, i64 ck, i64 cn, i64 2] 108)).heap[w.heap.size + 1]? = some (hO 0 0)) := bka (bkb HK2.out hb1) _
  have HK4 : Hid ((w1.alloc (.cells #[i64 ce, i64 ck, i64 cn, i64 2] 108)).heap[w.heap.size]? = some (hO sl gn)) := bka (bkb HK1.out hb1) _
  have HK5 : Hid ((w1.alloc (.cells #[i64 ce, i64 ck, i64 cn, i64 2] 108)).heap[w1.heap.size]? = some (cO ⟨ce, ck, cn, 2⟩)) := hlx w1 _
  have hs1 : w.heap.size + 1 < w1.heap.size := by have := blk_lt HK2.out; have := hb1.size; omega
  clear hb1
  unfold Cp.v
  go_upto_region 2 with fail
  have k0 : (w1.alloc (.cells #[i64 ce, i64 ck, i64 cn, i64 2] 108)).cell? ⟨w.heap.size + 1, 0, none⟩ = some (i64 0) := bkc HK3.out 0
  have k1 : (w1.alloc (.cells #[i64 ce, i64 ck, i64 cn, i64 2] 108)).cell? ⟨w.heap.size + 1, 1, none⟩ = some (i64 0) := bkc HK3.out 1
  have kf : ∀ j, (w1.alloc (.cells #[i64 ce, i64 ck, i64 cn, i64 2] 108)).frozen? ⟨w.heap.size + 1, j, none⟩ = false := bkf HK3.out
  have h0 : (w1.alloc (.cells #[i64 ce, i64 ck, i64 cn, i64 2] 108)).cell? ⟨w.heap.size, 0, none⟩ = some (i64 sl) := bkc HK4.out 0
  have d0 : (w1.alloc (.cells #[i64 ce, i64 ck, i64 cn, i64 2] 108)).cell? ⟨w1.heap.size, 0, none⟩ = some (i64 ce) := bkc HK5.out 0
  have d1 : (w1.alloc (.cells #[i64 ce, i64 ck, i64 cn, i64 2] 108)).cell? ⟨w1.heap.size, 1, none⟩ = some (i64 ck) := bkc HK5.out 1
  have d2 : (w1.alloc (.cells #[i64 ce, i64 ck, i64 cn, i64 2] 108)).cell? ⟨w1.heap.size, 2, none⟩ = some (i64 cn) := bkc HK5.out 2
  have d3 : (w1.alloc (.cells #[i64 ce, i64 ck, i64 cn, i64 2] 108)).cell? ⟨w1.heap.size, 3, none⟩ = some (i64 2) := bkc HK5.out 3
  have df : ∀ j, (w1.alloc (.cells #[i64 ce, i64 ck, i64 cn, i64 2] 108)).frozen? ⟨w1.heap.size, j, none⟩ = false := bkf HK5.out
  generalize w1.alloc (.cells #[i64 ce, i64 ck, i64 cn, i64 2] 108) = U at *
  generalize w1.heap.size = x at *
  go_upto_region 9 with (first | (go_at_call 86; refine (HE.out _).mono ?_; rintro e v1 ⟨rfl, rfl⟩) | (go_at_call 87; refine (HA.out _).mono ?_; rintro e v1 ⟨rfl, rfl⟩))
  go_wp2_with fail
  have hBU : Below w.heap.size w ((v1.setCell ⟨x, 0, none⟩ (i64 tt)).setCell ⟨x, 3, none⟩ (i64 2)) := (HB1.out.setCell (by show w.heap.size ≤ x; omega) _).setCell (by show w.heap.size ≤ x; omega) _
  have HBU := hid hBU
  have HK6 : Hid (((v1.setCell ⟨x, 0, none⟩ (i64 tt)).setCell ⟨x, 3, none⟩ (i64 2)).heap[w.heap.size + 1]? = some (hO 0 0)) := by rw [Below.heap_setCell _ _ _ _ (by show w.heap.size + 1 ≠ x; omega), Below.heap_setCell _ _ _ _ (by show w.heap.size + 1 ≠ x; omega)]; exact HK3.out
  clear hBU
  generalize (v1.setCell ⟨x, 0, none⟩ (i64 tt)).setCell ⟨x, 3, none⟩ (i64 2) = U2 at *
  refine (HPut.out U2 (HT.out.below HBU.out)).mono ?_
  rintro e w2 ⟨rfl, ht2, hto2⟩
  have HT2 := hid ht2
  have hlt3 := blk_lt HK6.out
  have HK7 : Hid (w2.heap[w.heap.size + 1]? = some (hO 0 0)) := (hto2.block _ hlt3 (by omega)).trans HK6.out
  have HTo : Hid (Touch b w w2) := (Touch.of_below HBU.out).trans hto2
  have e0 : w2.cell? ⟨w.heap.size + 1, 0, none⟩ = some (i64 0) := bkc HK7.out 0
  have e1 : w2.cell? ⟨w.heap.size + 1, 1, none⟩ = some (i64 0) := bkc HK7.out 1
  have ef : ∀ j, w2.frozen? ⟨w.heap.size + 1, j, none⟩ = false := bkf HK7.out
  clear ht2 hto2 k0 k1 kf h0 d0 d1 d2 d3 df
  go_wp2_with fail
  exact bodyPost_ret (results_cell Try.results62 rfl rfl (load42 (set2 HK7.out _ _))) rfl ⟨rfl, HT2.out.set_new (by omega) _ _, (HTo.out.setNew (by show w.heap.size ≤ w.heap.size + 1; omega) _).setNew (by show w.heap.size ≤ w.heap.size + 1; omega) _⟩
set_option maxHeartbeats 1600000 in
theorem derive_ok31 {w : World} {base b : Nat} {T : List Pl} (h : Tb w base b T) (env sl gn tt ce ck cn : Int) (hl : Looks w (.pointer (some ⟨b, 0, none⟩)) env sl gn ⟨ce, ck, cn, 3⟩ 0) (ht : envB tt = true) (i : Nat) (p : Pl) (hp : T[i]? = some p) (hf : p.c = zC) (hno : ∀ j q, j < i → T[j]? = some q → q.c ≠ zC) (hg0 : 0 ≤ p.gen) (hg1 : p.gen ≤ 1000000000) : Calls Try.prog 62 #[.pointer (some ⟨b, 0, none⟩), i64 env, .agg #[i64 sl, i64 gn], i64 tt, i64 1] w fun e w' => e = .returned (.tuple #[.agg #[i64 i, i64 (p.gen + 1)], i64 0]) ∧ Tb w' base b (T.set i ⟨⟨tt, ck, cn, 1⟩, sl, p.gen + 1⟩) ∧ Touch b w w' := by
  obtain ⟨hBV, hK1, hK2⟩ := two_h w sl gn
  obtain ⟨V, hV⟩ : ∃ V, V = (w.alloc (hO sl gn)).alloc (hO 0 0) := ⟨_, rfl⟩
  have HVe : Hid ((w.alloc (.cells #[i64 sl, i64 gn] 43)).alloc (.cells #[i64 0, i64 0] 43) = V) := hV.symm
  rw [← hV] at hBV hK1 hK2
  have HB := hid hBV
  have HK1 := hid hK1
  have HK2 := hid hK2
  have HL : Hid (Looks w (.pointer (some ⟨b, 0, none⟩)) env sl gn ⟨ce, ck, cn, 3⟩ 0) := hl
  clear hV hBV hK1 hK2 hl
  have HE : Hid (∀ W, Calls Try.prog 86 #[i64 tt] W fun e w' => e = .returned (.bool true) ∧ w' = W) := fun W => by have := isEnv_ok W tt; rw [ht] at this; exact this
  have HA : Hid (∀ W, Calls Try.prog 87 #[i64 1] W fun e w' => e = .returned (.bool true) ∧ w' = W) := fun W => areRights_ok W 1
  have HT := hid h
  have hbl := h.lt
  have HPut : Hid (∀ W, Tb W base b T → Calls Try.prog 88 #[.pointer (some ⟨b, 0, none⟩), .agg #[i64 tt, i64 ck, i64 cn, i64 1], i64 sl] W fun e w' => e = .returned (.tuple #[.agg #[i64 i, i64 (p.gen + 1)], i64 0]) ∧ Tb w' base b (T.set i ⟨⟨tt, ck, cn, 1⟩, sl, p.gen + 1⟩) ∧ Touch b W w') := fun W hW => put_ok hW ⟨tt, ck, cn, 1⟩ sl i p hp hf hno hg0 hg1
  clear ht h hp hf hno
  go_enter Try.func62, Try.ntmps62
  go_wp2_with fail
  rw [HVe.out]
  refine (HL.out V HB.out).mono ?_
  rintro e w1 ⟨rfl, hb1⟩
  have HB1 : Hid (Below w.heap.size w (w1.alloc (.cells #[i64 ce, i64 ck, i64 cn, i64 3] 108))) := (HB.out.trans (hb1.mono HB.out.size)).alloc (HB.out.trans (hb1.mono HB.out.size)).size _
  have HK3 : Hid ((w1.alloc (.cells #[i64 ce, i64 ck, i64 cn, i64 3] 108)).heap[w.heap.size + 1]? = some (hO 0 0)) := bka (bkb HK2.out hb1) _
  have HK4 : Hid ((w1.alloc (.cells #[i64 ce, i64 ck, i64 cn, i64 3] 108)).heap[w.heap.size]? = some (hO sl gn)) := bka (bkb HK1.out hb1) _
  have HK5 : Hid ((w1.alloc (.cells #[i64 ce, i64 ck, i64 cn, i64 3] 108)).heap[w1.heap.size]? = some (cO ⟨ce, ck, cn, 3⟩)) := hlx w1 _
  have hs1 : w.heap.size + 1 < w1.heap.size := by have := blk_lt HK2.out; have := hb1.size; omega
  clear hb1
  unfold Cp.v
  go_upto_region 2 with fail
  have k0 : (w1.alloc (.cells #[i64 ce, i64 ck, i64 cn, i64 3] 108)).cell? ⟨w.heap.size + 1, 0, none⟩ = some (i64 0) := bkc HK3.out 0
  have k1 : (w1.alloc (.cells #[i64 ce, i64 ck, i64 cn, i64 3] 108)).cell? ⟨w.heap.size + 1, 1, none⟩ = some (i64 0) := bkc HK3.out 1
  have kf : ∀ j, (w1.alloc (.cells #[i64 ce, i64 ck, i64 cn, i64 3] 108)).frozen? ⟨w.heap.size + 1, j, none⟩ = false := bkf HK3.out
  have h0 : (w1.alloc (.cells #[i64 ce, i64 ck, i64 cn, i64 3] 108)).cell? ⟨w.heap.size, 0, none⟩ = some (i64 sl) := bkc HK4.out 0
  have d0 : (w1.alloc (.cells #[i64 ce, i64 ck, i64 cn, i64 3] 108)).cell? ⟨w1.heap.size, 0, none⟩ = some (i64 ce) := bkc HK5.out 0
  have d1 : (w1.alloc (.cells #[i64 ce, i64 ck, i64 cn, i64 3] 108)).cell? ⟨w1.heap.size, 1, none⟩ = some (i64 ck) := bkc HK5.out 1
  have d2 : (w1.alloc (.cells #[i64 ce, i64 ck, i64 cn, i64 3] 108)).cell? ⟨w1.heap.size, 2, none⟩ = some (i64 cn) := bkc HK5.out 2
  have d3 : (w1.alloc (.cells #[i64 ce, i64 ck, i64 cn, i64 3] 108)).cell? ⟨w1.heap.size, 3, none⟩ = some (i64 3) := bkc HK5.out 3
  have df : ∀ j, (w1.alloc (.cells #[i64 ce, i64 ck, i64 cn, i64 3] 108)).frozen? ⟨w1.heap.size, j, none⟩ = false := bkf HK5.out
  generalize w1.alloc (.cells #[i64 ce, i64 ck, i64 cn, i64 3] 108) = U at *
  generalize w1.heap.size = x at *
  go_upto_region 9 with (first | (go_at_call 86; refine (HE.out _).mono ?_; rintro e v1 ⟨rfl, rfl⟩) | (go_at_call 87; refine (HA.out _).mono ?_; rintro e v1 ⟨rfl, rfl⟩))
  go_wp2_with fail
  have hBU : Below w.heap.size w ((v1.setCell ⟨x, 0, none⟩ (i64 tt)).setCell ⟨x, 3, none⟩ (i64 1)) := (HB1.out.setCell (by show w.heap.size ≤ x; omega) _).setCell (by show w.heap.size ≤ x; omega) _
  have HBU := hid hBU
  have HK6 : Hid (((v1.setCell ⟨x, 0, none⟩ (i64 tt)).setCell ⟨x, 3, none⟩ (i64 1)).heap[w.heap.size + 1]? = some (hO 0 0)) := by rw [Below.heap_setCell _ _ _ _ (by show w.heap.size + 1 ≠ x; omega), Below.heap_setCell _ _ _ _ (by show w.heap.size + 1 ≠ x; omega)]; exact HK3.out
  clear hBU
  generalize (v1.setCell ⟨x, 0, none⟩ (i64 tt)).setCell ⟨x, 3, none⟩ (i64 1) = U2 at *
  refine (HPut.out U2 (HT.out.below HBU.out)).mono ?_
  rintro e w2 ⟨rfl, ht2, hto2⟩
  have HT2 := hid ht2
  have hlt3 := blk_lt HK6.out
  have HK7 : Hid (w2.heap[w.heap.size + 1]? = some (hO 0 0)) := (hto2.block _ hlt3 (by omega)).trans HK6.out
  have HTo : Hid (Touch b w w2) := (Touch.of_below HBU.out).trans hto2
  have e0 : w2.cell? ⟨w.heap.size + 1, 0, none⟩ = some (i64 0) := bkc HK7.out 0
  have e1 : w2.cell? ⟨w.heap.size + 1, 1, none⟩ = some (i64 0) := bkc HK7.out 1
  have ef : ∀ j, w2.frozen? ⟨w.heap.size + 1, j, none⟩ = false := bkf HK7.out
  clear ht2 hto2 k0 k1 kf h0 d0 d1 d2 d3 df
  go_wp2_with fail
  exact bodyPost_ret (results_cell Try.results62 rfl rfl (load42 (set2 HK7.out _ _))) rfl ⟨rfl, HT2.out.set_new (by omega) _ _, (HTo.out.setNew (by show w.heap.size ≤ w.heap.size + 1; omega) _).setNew (by show w.heap.size ≤ w.heap.size + 1; omega) _⟩
set_option maxHeartbeats 1600000 in
theorem derive_ok32 {w : World} {base b : Nat} {T : List Pl} (h : Tb w base b T) (env sl gn tt ce ck cn : Int) (hl : Looks w (.pointer (some ⟨b, 0, none⟩)) env sl gn ⟨ce, ck, cn, 3⟩ 0) (ht : envB tt = true) (i : Nat) (p : Pl) (hp : T[i]? = some p) (hf : p.c = zC) (hno : ∀ j q, j < i → T[j]? = some q → q.c ≠ zC) (hg0 : 0 ≤ p.gen) (hg1 : p.gen ≤ 1000000000) : Calls Try.prog 62 #[.pointer (some ⟨b, 0, none⟩), i64 env, .agg #[i64 sl, i64 gn], i64 tt, i64 2] w fun e w' => e = .returned (.tuple #[.agg #[i64 i, i64 (p.gen + 1)], i64 0]) ∧ Tb w' base b (T.set i ⟨⟨tt, ck, cn, 2⟩, sl, p.gen + 1⟩) ∧ Touch b w w' := by
  obtain ⟨hBV, hK1, hK2⟩ := two_h w sl gn
  obtain ⟨V, hV⟩ : ∃ V, V = (w.alloc (hO sl gn)).alloc (hO 0 0) := ⟨_, rfl⟩
  have HVe : Hid ((w.alloc (.cells #[i64 sl, i64 gn] 43)).alloc (.cells #[i64 0, i64 0] 43) = V) := hV.symm
  rw [← hV] at hBV hK1 hK2
  have HB := hid hBV
  have HK1 := hid hK1
  have HK2 := hid hK2
  have HL : Hid (Looks w (.pointer (some ⟨b, 0, none⟩)) env sl gn ⟨ce, ck, cn, 3⟩ 0) := hl
  clear hV hBV hK1 hK2 hl
  have HE : Hid (∀ W, Calls Try.prog 86 #[i64 tt] W fun e w' => e = .returned (.bool true) ∧ w' = W) := fun W => by have := isEnv_ok W tt; rw [ht] at this; exact this
  have HA : Hid (∀ W, Calls Try.prog 87 #[i64 2] W fun e w' => e = .returned (.bool true) ∧ w' = W) := fun W => areRights_ok W 2
  have HT := hid h
  have hbl := h.lt
  have HPut : Hid (∀ W, Tb W base b T → Calls Try.prog 88 #[.pointer (some ⟨b, 0, none⟩), .agg #[i64 tt, i64 ck, i64 cn, i64 2], i64 sl] W fun e w' => e = .returned (.tuple #[.agg #[i64 i, i64 (p.gen + 1)], i64 0]) ∧ Tb w' base b (T.set i ⟨⟨tt, ck, cn, 2⟩, sl, p.gen + 1⟩) ∧ Touch b W w') := fun W hW => put_ok hW ⟨tt, ck, cn, 2⟩ sl i p hp hf hno hg0 hg1
  clear ht h hp hf hno
  go_enter Try.func62, Try.ntmps62
  go_wp2_with fail
  rw [HVe.out]
  refine (HL.out V HB.out).mono ?_
  rintro e w1 ⟨rfl, hb1⟩
  have HB1 : Hid (Below w.heap.size w (w1.alloc (.cells #[i64 ce, i64 ck, i64 cn, i64 3] 108))) := (HB.out.trans (hb1.mono HB.out.size)).alloc (HB.out.trans (hb1.mono HB.out.size)).size _
  have HK3 : Hid ((w1.alloc (.cells #[i64 ce, i64 ck, i64 cn, i64 3] 108)).heap[w.heap.size + 1]? = some (hO 0 0)) := bka (bkb HK2.out hb1) _
  have HK4 : Hid ((w1.alloc (.cells #[i64 ce, i64 ck, i64 cn, i64 3] 108)).heap[w.heap.size]? = some (hO sl gn)) := bka (bkb HK1.out hb1) _
  have HK5 : Hid ((w1.alloc (.cells #[i64 ce, i64 ck, i64 cn, i64 3] 108)).heap[w1.heap.size]? = some (cO ⟨ce, ck, cn, 3⟩)) := hlx w1 _
  have hs1 : w.heap.size + 1 < w1.heap.size := by have := blk_lt HK2.out; have := hb1.size; omega
  clear hb1
  unfold Cp.v
  go_upto_region 2 with fail
  have k0 : (w1.alloc (.cells #[i64 ce, i64 ck, i64 cn, i64 3] 108)).cell? ⟨w.heap.size + 1, 0, none⟩ = some (i64 0) := bkc HK3.out 0
  have k1 : (w1.alloc (.cells #[i64 ce, i64 ck, i64 cn, i64 3] 108)).cell? ⟨w.heap.size + 1, 1, none⟩ = some (i64 0) := bkc HK3.out 1
  have kf : ∀ j, (w1.alloc (.cells #[i64 ce, i64 ck, i64 cn, i64 3] 108)).frozen? ⟨w.heap.size + 1, j, none⟩ = false := bkf HK3.out
  have h0 : (w1.alloc (.cells #[i64 ce, i64 ck, i64 cn, i64 3] 108)).cell? ⟨w.heap.size, 0, none⟩ = some (i64 sl) := bkc HK4.out 0
  have d0 : (w1.alloc (.cells #[i64 ce, i64 ck, i64 cn, i64 3] 108)).cell? ⟨w1.heap.size, 0, none⟩ = some (i64 ce) := bkc HK5.out 0
  have d1 : (w1.alloc (.cells #[i64 ce, i64 ck, i64 cn, i64 3] 108)).cell? ⟨w1.heap.size, 1, none⟩ = some (i64 ck) := bkc HK5.out 1
  have d2 : (w1.alloc (.cells #[i64 ce, i64 ck, i64 cn, i64 3] 108)).cell? ⟨w1.heap.size, 2, none⟩ = some (i64 cn) := bkc HK5.out 2
  have d3 : (w1.alloc (.cells #[i64 ce, i64 ck, i64 cn, i64 3] 108)).cell? ⟨w1.heap.size, 3, none⟩ = some (i64 3) := bkc HK5.out 3
  have df : ∀ j, (w1.alloc (.cells #[i64 ce, i64 ck, i64 cn, i64 3] 108)).frozen? ⟨w1.heap.size, j, none⟩ = false := bkf HK5.out
  generalize w1.alloc (.cells #[i64 ce, i64 ck, i64 cn, i64 3] 108) = U at *
  generalize w1.heap.size = x at *
  go_upto_region 9 with (first | (go_at_call 86; refine (HE.out _).mono ?_; rintro e v1 ⟨rfl, rfl⟩) | (go_at_call 87; refine (HA.out _).mono ?_; rintro e v1 ⟨rfl, rfl⟩))
  go_wp2_with fail
  have hBU : Below w.heap.size w ((v1.setCell ⟨x, 0, none⟩ (i64 tt)).setCell ⟨x, 3, none⟩ (i64 2)) := (HB1.out.setCell (by show w.heap.size ≤ x; omega) _).setCell (by show w.heap.size ≤ x; omega) _
  have HBU := hid hBU
  have HK6 : Hid (((v1.setCell ⟨x, 0, none⟩ (i64 tt)).setCell ⟨x, 3, none⟩ (i64 2)).heap[w.heap.size + 1]? = some (hO 0 0)) := by rw [Below.heap_setCell _ _ _ _ (by show w.heap.size + 1 ≠ x; omega), Below.heap_setCell _ _ _ _ (by show w.heap.size + 1 ≠ x; omega)]; exact HK3.out
  clear hBU
  generalize (v1.setCell ⟨x, 0, none⟩ (i64 tt)).setCell ⟨x, 3, none⟩ (i64 2) = U2 at *
  refine (HPut.out U2 (HT.out.below HBU.out)).mono ?_
  rintro e w2 ⟨rfl, ht2, hto2⟩
  have HT2 := hid ht2
  have hlt3 := blk_lt HK6.out
  have HK7 : Hid (w2.heap[w.heap.size + 1]? = some (hO 0 0)) := (hto2.block _ hlt3 (by omega)).trans HK6.out
  have HTo : Hid (Touch b w w2) := (Touch.of_below HBU.out).trans hto2
  have e0 : w2.cell? ⟨w.heap.size + 1, 0, none⟩ = some (i64 0) := bkc HK7.out 0
  have e1 : w2.cell? ⟨w.heap.size + 1, 1, none⟩ = some (i64 0) := bkc HK7.out 1
  have ef : ∀ j, w2.frozen? ⟨w.heap.size + 1, j, none⟩ = false := bkf HK7.out
  clear ht2 hto2 k0 k1 kf h0 d0 d1 d2 d3 df
  go_wp2_with fail
  exact bodyPost_ret (results_cell Try.results62 rfl rfl (load42 (set2 HK7.out _ _))) rfl ⟨rfl, HT2.out.set_new (by omega) _ _, (HTo.out.setNew (by show w.heap.size ≤ w.heap.size + 1; omega) _).setNew (by show w.heap.size ≤ w.heap.size + 1; omega) _⟩
set_option maxHeartbeats 1600000 in
theorem derive_ok33 {w : World} {base b : Nat} {T : List Pl} (h : Tb w base b T) (env sl gn tt ce ck cn : Int) (hl : Looks w (.pointer (some ⟨b, 0, none⟩)) env sl gn ⟨ce, ck, cn, 3⟩ 0) (ht : envB tt = true) (i : Nat) (p : Pl) (hp : T[i]? = some p) (hf : p.c = zC) (hno : ∀ j q, j < i → T[j]? = some q → q.c ≠ zC) (hg0 : 0 ≤ p.gen) (hg1 : p.gen ≤ 1000000000) : Calls Try.prog 62 #[.pointer (some ⟨b, 0, none⟩), i64 env, .agg #[i64 sl, i64 gn], i64 tt, i64 3] w fun e w' => e = .returned (.tuple #[.agg #[i64 i, i64 (p.gen + 1)], i64 0]) ∧ Tb w' base b (T.set i ⟨⟨tt, ck, cn, 3⟩, sl, p.gen + 1⟩) ∧ Touch b w w' := by
  obtain ⟨hBV, hK1, hK2⟩ := two_h w sl gn
  obtain ⟨V, hV⟩ : ∃ V, V = (w.alloc (hO sl gn)).alloc (hO 0 0) := ⟨_, rfl⟩
  have HVe : Hid ((w.alloc (.cells #[i64 sl, i64 gn] 43)).alloc (.cells #[i64 0, i64 0] 43) = V) := hV.symm
  rw [← hV] at hBV hK1 hK2
  have HB := hid hBV
  have HK1 := hid hK1
  have HK2 := hid hK2
  have HL : Hid (Looks w (.pointer (some ⟨b, 0, none⟩)) env sl gn ⟨ce, ck, cn, 3⟩ 0) := hl
  clear hV hBV hK1 hK2 hl
  have HE : Hid (∀ W, Calls Try.prog 86 #[i64 tt] W fun e w' => e = .returned (.bool true) ∧ w' = W) := fun W => by have := isEnv_ok W tt; rw [ht] at this; exact this
  have HA : Hid (∀ W, Calls Try.prog 87 #[i64 3] W fun e w' => e = .returned (.bool true) ∧ w' = W) := fun W => areRights_ok W 3
  have HT := hid h
  have hbl := h.lt
  have HPut : Hid (∀ W, Tb W base b T → Calls Try.prog 88 #[.pointer (some ⟨b, 0, none⟩), .agg #[i64 tt, i64 ck, i64 cn, i64 3], i64 sl] W fun e w' => e = .returned (.tuple #[.agg #[i64 i, i64 (p.gen + 1)], i64 0]) ∧ Tb w' base b (T.set i ⟨⟨tt, ck, cn, 3⟩, sl, p.gen + 1⟩) ∧ Touch b W w') := fun W hW => put_ok hW ⟨tt, ck, cn, 3⟩ sl i p hp hf hno hg0 hg1
  clear ht h hp hf hno
  go_enter Try.func62, Try.ntmps62
  go_wp2_with fail
  rw [HVe.out]
  refine (HL.out V HB.out).mono ?_
  rintro e w1 ⟨rfl, hb1⟩
  have HB1 : Hid (Below w.heap.size w (w1.alloc (.cells #[i64 ce, i64 ck, i64 cn, i64 3] 108))) := (HB.out.trans (hb1.mono HB.out.size)).alloc (HB.out.trans (hb1.mono HB.out.size)).size _
  have HK3 : Hid ((w1.alloc (.cells #[i64 ce, i64 ck, i64 cn, i64 3] 108)).heap[w.heap.size + 1]? = some (hO 0 0)) := bka (bkb HK2.out hb1) _
  have HK4 : Hid ((w1.alloc (.cells #[i64 ce, i64 ck, i64 cn, i64 3] 108)).heap[w.heap.size]? = some (hO sl gn)) := bka (bkb HK1.out hb1) _
  have HK5 : Hid ((w1.alloc (.cells #[i64 ce, i64 ck, i64 cn, i64 3] 108)).heap[w1.heap.size]? = some (cO ⟨ce, ck, cn, 3⟩)) := hlx w1 _
  have hs1 : w.heap.size + 1 < w1.heap.size := by have := blk_lt HK2.out; have := hb1.size; omega
  clear hb1
  unfold Cp.v
  go_upto_region 2 with fail
  have k0 : (w1.alloc (.cells #[i64 ce, i64 ck, i64 cn, i64 3] 108)).cell? ⟨w.heap.size + 1, 0, none⟩ = some (i64 0) := bkc HK3.out 0
  have k1 : (w1.alloc (.cells #[i64 ce, i64 ck, i64 cn, i64 3] 108)).cell? ⟨w.heap.size + 1, 1, none⟩ = some (i64 0) := bkc HK3.out 1
  have kf : ∀ j, (w1.alloc (.cells #[i64 ce, i64 ck, i64 cn, i64 3] 108)).frozen? ⟨w.heap.size + 1, j, none⟩ = false := bkf HK3.out
  have h0 : (w1.alloc (.cells #[i64 ce, i64 ck, i64 cn, i64 3] 108)).cell? ⟨w.heap.size, 0, none⟩ = some (i64 sl) := bkc HK4.out 0
  have d0 : (w1.alloc (.cells #[i64 ce, i64 ck, i64 cn, i64 3] 108)).cell? ⟨w1.heap.size, 0, none⟩ = some (i64 ce) := bkc HK5.out 0
  have d1 : (w1.alloc (.cells #[i64 ce, i64 ck, i64 cn, i64 3] 108)).cell? ⟨w1.heap.size, 1, none⟩ = some (i64 ck) := bkc HK5.out 1
  have d2 : (w1.alloc (.cells #[i64 ce, i64 ck, i64 cn, i64 3] 108)).cell? ⟨w1.heap.size, 2, none⟩ = some (i64 cn) := bkc HK5.out 2
  have d3 : (w1.alloc (.cells #[i64 ce, i64 ck, i64 cn, i64 3] 108)).cell? ⟨w1.heap.size, 3, none⟩ = some (i64 3) := bkc HK5.out 3
  have df : ∀ j, (w1.alloc (.cells #[i64 ce, i64 ck, i64 cn, i64 3] 108)).frozen? ⟨w1.heap.size, j, none⟩ = false := bkf HK5.out
  generalize w1.alloc (.cells #[i64 ce, i64 ck, i64 cn, i64 3] 108) = U at *
  generalize w1.heap.size = x at *
  go_upto_region 9 with (first | (go_at_call 86; refine (HE.out _).mono ?_; rintro e v1 ⟨rfl, rfl⟩) | (go_at_call 87; refine (HA.out _).mono ?_; rintro e v1 ⟨rfl, rfl⟩))
  go_wp2_with fail
  have hBU : Below w.heap.size w ((v1.setCell ⟨x, 0, none⟩ (i64 tt)).setCell ⟨x, 3, none⟩ (i64 3)) := (HB1.out.setCell (by show w.heap.size ≤ x; omega) _).setCell (by show w.heap.size ≤ x; omega) _
  have HBU := hid hBU
  have HK6 : Hid (((v1.setCell ⟨x, 0, none⟩ (i64 tt)).setCell ⟨x, 3, none⟩ (i64 3)).heap[w.heap.size + 1]? = some (hO 0 0)) := by rw [Below.heap_setCell _ _ _ _ (by show w.heap.size + 1 ≠ x; omega), Below.heap_setCell _ _ _ _ (by show w.heap.size + 1 ≠ x; omega)]; exact HK3.out
  clear hBU
  generalize (v1.setCell ⟨x, 0, none⟩ (i64 tt)).setCell ⟨x, 3, none⟩ (i64 3) = U2 at *
  refine (HPut.out U2 (HT.out.below HBU.out)).mono ?_
  rintro e w2 ⟨rfl, ht2, hto2⟩
  have HT2 := hid ht2
  have hlt3 := blk_lt HK6.out
  have HK7 : Hid (w2.heap[w.heap.size + 1]? = some (hO 0 0)) := (hto2.block _ hlt3 (by omega)).trans HK6.out
  have HTo : Hid (Touch b w w2) := (Touch.of_below HBU.out).trans hto2
  have e0 : w2.cell? ⟨w.heap.size + 1, 0, none⟩ = some (i64 0) := bkc HK7.out 0
  have e1 : w2.cell? ⟨w.heap.size + 1, 1, none⟩ = some (i64 0) := bkc HK7.out 1
  have ef : ∀ j, w2.frozen? ⟨w.heap.size + 1, j, none⟩ = false := bkf HK7.out
  clear ht2 hto2 k0 k1 kf h0 d0 d1 d2 d3 df
  go_wp2_with fail
  exact bodyPost_ret (results_cell Try.results62 rfl rfl (load42 (set2 HK7.out _ _))) rfl ⟨rfl, HT2.out.set_new (by omega) _ _, (HTo.out.setNew (by show w.heap.size ≤ w.heap.size + 1; omega) _).setNew (by show w.heap.size ≤ w.heap.size + 1; omega) _⟩
def grB (r rights : Int) : Bool := decide (2 ≤ r ∧ rights ≤ r ∧ rights % 2 ≤ r % 2)
theorem envB_iff {n : Int} : envB n = true ↔ n = 1 ∨ n = 2 ∨ n = 3 := by
  unfold envB
  rw [decide_eq_true_iff]
  omega
theorem derive_no {w : World} (v0 : Value) (env sl gn tt rights : Int) (c : Cp) (hl : Looks w v0 env sl gn c 0) (ht : envB tt = true) (hr : envB rights = true) (hc : envB c.rts = true) (hg : grB c.rts rights = false) : Calls Try.prog 62 #[v0, i64 env, .agg #[i64 sl, i64 gn], i64 tt, i64 rights] w fun e w' => e = .returned (.tuple #[.agg #[i64 0, i64 0], i64 91]) ∧ Below w.heap.size w w' := by
  obtain ⟨ce, ck, cn, cr⟩ := c
  simp only at hc hg
  rcases envB_iff.1 hc with rfl | rfl | rfl <;> rcases envB_iff.1 hr with rfl | rfl | rfl
  · exact derive_no11 v0 env sl gn tt ce ck cn hl ht
  · exact derive_no12 v0 env sl gn tt ce ck cn hl ht
  · exact derive_no13 v0 env sl gn tt ce ck cn hl ht
  · exact derive_no21 v0 env sl gn tt ce ck cn hl ht
  · exact absurd hg (by decide)
  · exact derive_no23 v0 env sl gn tt ce ck cn hl ht
  · exact absurd hg (by decide)
  · exact absurd hg (by decide)
  · exact absurd hg (by decide)
theorem derive_ok {w : World} {base b : Nat} {T : List Pl} (h : Tb w base b T) (env sl gn tt rights : Int) (c : Cp) (hl : Looks w (.pointer (some ⟨b, 0, none⟩)) env sl gn c 0) (ht : envB tt = true) (hr : envB rights = true) (hc : envB c.rts = true) (hg : grB c.rts rights = true) (i : Nat) (p : Pl) (hp : T[i]? = some p) (hf : p.c = zC) (hno : ∀ j q, j < i → T[j]? = some q → q.c ≠ zC) (hg0 : 0 ≤ p.gen) (hg1 : p.gen ≤ 1000000000) : Calls Try.prog 62 #[.pointer (some ⟨b, 0, none⟩), i64 env, .agg #[i64 sl, i64 gn], i64 tt, i64 rights] w fun e w' => e = .returned (.tuple #[.agg #[i64 i, i64 (p.gen + 1)], i64 0]) ∧ Tb w' base b (T.set i ⟨⟨tt, c.kind, c.num, rights⟩, sl, p.gen + 1⟩) ∧ Touch b w w' := by
  obtain ⟨ce, ck, cn, cr⟩ := c
  simp only at hc hg
  rcases envB_iff.1 hc with rfl | rfl | rfl <;> rcases envB_iff.1 hr with rfl | rfl | rfl
  · exact absurd hg (by decide)
  · exact absurd hg (by decide)
  · exact absurd hg (by decide)
  · exact absurd hg (by decide)
  · exact derive_ok22 h env sl gn tt ce ck cn hl ht i p hp hf hno hg0 hg1
  · exact absurd hg (by decide)
  · exact derive_ok31 h env sl gn tt ce ck cn hl ht i p hp hf hno hg0 hg1
  · exact derive_ok32 h env sl gn tt ce ck cn hl ht i p hp hf hno hg0 hg1
  · exact derive_ok33 h env sl gn tt ce ck cn hl ht i p hp hf hno hg0 hg1
end Go.Proofs.Ytnknhencobhjdaa.Cp
namespace Go.Proofs.Ytnknhencobhjdaa.Cp
open Go.ChangeShapes Go.WideShapes Go.ChangeAt Go.RowKit Go.Deep
attribute [local go_sem ↓] Go.wp_at_zero Go.wp_at_succ
def chE (o : Option Cp) (right : Int) : Int := match o with
  | none => 90
  | some c => if right = 1 ∧ c.rts % 2 = 1 ∨ right = 2 ∧ 2 ≤ c.rts then 0 else 91
set_option maxHeartbeats 1600000 in
theorem check_stale (w : World) (v0 : Value) (env sl gn right : Int) (hl : Looks w v0 env sl gn zC 90) : Calls Try.prog 51 #[v0, i64 env, .agg #[i64 sl, i64 gn], i64 right] w fun e w' => e = .returned (i64 90) ∧ Below w.heap.size w w' := by
  have HL : Hid (Looks w v0 env sl gn zC 90) := hl
  have HB0 : Hid (Below w.heap.size w (w.alloc (hO sl gn))) := bl1 w _
  clear hl
  unfold hO at HB0
  go_enter Try.func51, Try.ntmps51
  go_wp2_with fail
  refine (HL.out _ HB0.out).mono ?_
  rintro e w1 ⟨rfl, hb1⟩
  have HB1 : Hid (∀ o, Below w.heap.size w (w1.alloc o)) := fun o => (HB0.out.trans (hb1.mono HB0.out.size)).alloc (HB0.out.trans (hb1.mono HB0.out.size)).size o
  clear hb1
  unfold Cp.v zC
  go_wp2_with fail
  go_ret
  exact ⟨rfl, HB1.out _⟩
set_option maxHeartbeats 1600000 in
theorem check_else (w : World) (v0 : Value) (env sl gn right ce ck cn cr : Int) (hl : Looks w v0 env sl gn ⟨ce, ck, cn, cr⟩ 0) (h1 : ¬ right = 1) (h2 : ¬ right = 2) : Calls Try.prog 51 #[v0, i64 env, .agg #[i64 sl, i64 gn], i64 right] w fun e w' => e = .returned (i64 91) ∧ Below w.heap.size w w' := by
  have HL : Hid (Looks w v0 env sl gn ⟨ce, ck, cn, cr⟩ 0) := hl
  have g1 : (right == 1) = false := by simpa using h1
  have g2 : (right == 2) = false := by simpa using h2
  clear h1 h2
  have HB0 : Hid (Below w.heap.size w (w.alloc (hO sl gn))) := bl1 w _
  clear hl
  unfold hO at HB0
  go_enter Try.func51, Try.ntmps51
  go_wp2_with fail
  refine (HL.out _ HB0.out).mono ?_
  rintro e w1 ⟨rfl, hb1⟩
  have HB1 : Hid (∀ o, Below w.heap.size w (w1.alloc o)) := fun o => (HB0.out.trans (hb1.mono HB0.out.size)).alloc (HB0.out.trans (hb1.mono HB0.out.size)).size o
  clear hb1
  unfold Cp.v
  go_wp2_with fail
  go_ret
  exact ⟨rfl, HB1.out _⟩
set_option maxHeartbeats 1600000 in
theorem check_11 (w : World) (v0 : Value) (env sl gn ce ck cn : Int) (hl : Looks w v0 env sl gn ⟨ce, ck, cn, 1⟩ 0) : Calls Try.prog 51 #[v0, i64 env, .agg #[i64 sl, i64 gn], i64 1] w fun e w' => e = .returned (i64 0) ∧ Below w.heap.size w w' := by
  have HL : Hid (Looks w v0 env sl gn ⟨ce, ck, cn, 1⟩ 0) := hl
  have HB0 : Hid (Below w.heap.size w (w.alloc (hO sl gn))) := bl1 w _
  clear hl
  unfold hO at HB0
  go_enter Try.func51, Try.ntmps51
  go_wp2_with fail
  refine (HL.out _ HB0.out).mono ?_
  rintro e w1 ⟨rfl, hb1⟩
  have HB1 : Hid (∀ o, Below w.heap.size w (w1.alloc o)) := fun o => (HB0.out.trans (hb1.mono HB0.out.size)).alloc (HB0.out.trans (hb1.mono HB0.out.size)).size o
  clear hb1
  unfold Cp.v
  go_wp2_with fail
  go_ret
  exact ⟨rfl, HB1.out _⟩
set_option maxHeartbeats 1600000 in
theorem check_12 (w : World) (v0 : Value) (env sl gn ce ck cn : Int) (hl : Looks w v0 env sl gn ⟨ce, ck, cn, 1⟩ 0) : Calls Try.prog 51 #[v0, i64 env, .agg #[i64 sl, i64 gn], i64 2] w fun e w' => e = .returned (i64 91) ∧ Below w.heap.size w w' := by
  have HL : Hid (Looks w v0 env sl gn ⟨ce, ck, cn, 1⟩ 0) := hl
  have HB0 : Hid (Below w.heap.size w (w.alloc (hO sl gn))) := bl1 w _
  clear hl
  unfold hO at HB0
  go_enter Try.func51, Try.ntmps51
  go_wp2_with fail
  refine (HL.out _ HB0.out).mono ?_
  rintro e w1 ⟨rfl, hb1⟩
  have HB1 : Hid (∀ o, Below w.heap.size w (w1.alloc o)) := fun o => (HB0.out.trans (hb1.mono HB0.out.size)).alloc (HB0.out.trans (hb1.mono HB0.out.size)).size o
  clear hb1
  unfold Cp.v
  go_wp2_with fail
  go_ret
  exact ⟨rfl, HB1.out _⟩
set_option maxHeartbeats 1600000 in
theorem check_21 (w : World) (v0 : Value) (env sl gn ce ck cn : Int) (hl : Looks w v0 env sl gn ⟨ce, ck, cn, 2⟩ 0) : Calls Try.prog 51 #[v0, i64 env, .agg #[i64 sl, i64 gn], i64 1] w fun e w' => e = .returned (i64 91) ∧ Below w.heap.size w w' := by
  have HL : Hid (Looks w v0 env sl gn ⟨ce, ck, cn, 2⟩ 0) := hl
  have HB0 : Hid (Below w.heap.size w (w.alloc (hO sl gn))) := bl1 w _
  clear hl
  unfold hO at HB0
  go_enter Try.func51, Try.ntmps51
  go_wp2_with fail
  refine (HL.out _ HB0.out).mono ?_
  rintro e w1 ⟨rfl, hb1⟩
  have HB1 : Hid (∀ o, Below w.heap.size w (w1.alloc o)) := fun o => (HB0.out.trans (hb1.mono HB0.out.size)).alloc (HB0.out.trans (hb1.mono HB0.out.size)).size o
  clear hb1
  unfold Cp.v
  go_wp2_with fail
  go_ret
  exact ⟨rfl, HB1.out _⟩
set_option maxHeartbeats 1600000 in
theorem check_22 (w : World) (v0 : Value) (env sl gn ce ck cn : Int) (hl : Looks w v0 env sl gn ⟨ce, ck, cn, 2⟩ 0) : Calls Try.prog 51 #[v0, i64 env, .agg #[i64 sl, i64 gn], i64 2] w fun e w' => e = .returned (i64 0) ∧ Below w.heap.size w w' := by
  have HL : Hid (Looks w v0 env sl gn ⟨ce, ck, cn, 2⟩ 0) := hl
  have HB0 : Hid (Below w.heap.size w (w.alloc (hO sl gn))) := bl1 w _
  clear hl
  unfold hO at HB0
  go_enter Try.func51, Try.ntmps51
  go_wp2_with fail
  refine (HL.out _ HB0.out).mono ?_
  rintro e w1 ⟨rfl, hb1⟩
  have HB1 : Hid (∀ o, Below w.heap.size w (w1.alloc o)) := fun o => (HB0.out.trans (hb1.mono HB0.out.size)).alloc (HB0.out.trans (hb1.mono HB0.out.size)).size o
  clear hb1
  unfold Cp.v
  go_wp2_with fail
  go_ret
  exact ⟨rfl, HB1.out _⟩
set_option maxHeartbeats 1600000 in
theorem check_31 (w : World) (v0 : Value) (env sl gn ce ck cn : Int) (hl : Looks w v0 env sl gn ⟨ce, ck, cn, 3⟩ 0) : Calls Try.prog 51 #[v0, i64 env, .agg #[i64 sl, i64 gn], i64 1] w fun e w' => e = .returned (i64 0) ∧ Below w.heap.size w w' := by
  have HL : Hid (Looks w v0 env sl gn ⟨ce, ck, cn, 3⟩ 0) := hl
  have HB0 : Hid (Below w.heap.size w (w.alloc (hO sl gn))) := bl1 w _
  clear hl
  unfold hO at HB0
  go_enter Try.func51, Try.ntmps51
  go_wp2_with fail
  refine (HL.out _ HB0.out).mono ?_
  rintro e w1 ⟨rfl, hb1⟩
  have HB1 : Hid (∀ o, Below w.heap.size w (w1.alloc o)) := fun o => (HB0.out.trans (hb1.mono HB0.out.size)).alloc (HB0.out.trans (hb1.mono HB0.out.size)).size o
  clear hb1
  unfold Cp.v
  go_wp2_with fail
  go_ret
  exact ⟨rfl, HB1.out _⟩
set_option maxHeartbeats 1600000 in
theorem check_32 (w : World) (v0 : Value) (env sl gn ce ck cn : Int) (hl : Looks w v0 env sl gn ⟨ce, ck, cn, 3⟩ 0) : Calls Try.prog 51 #[v0, i64 env, .agg #[i64 sl, i64 gn], i64 2] w fun e w' => e = .returned (i64 0) ∧ Below w.heap.size w w' := by
  have HL : Hid (Looks w v0 env sl gn ⟨ce, ck, cn, 3⟩ 0) := hl
  have HB0 : Hid (Below w.heap.size w (w.alloc (hO sl gn))) := bl1 w _
  clear hl
  unfold hO at HB0
  go_enter Try.func51, Try.ntmps51
  go_wp2_with fail
  refine (HL.out _ HB0.out).mono ?_
  rintro e w1 ⟨rfl, hb1⟩
  have HB1 : Hid (∀ o, Below w.heap.size w (w1.alloc o)) := fun o => (HB0.out.trans (hb1.mono HB0.out.size)).alloc (HB0.out.trans (hb1.mono HB0.out.size)).size o
  clear hb1
  unfold Cp.v
  go_wp2_with fail
  go_ret
  exact ⟨rfl, HB1.out _⟩
theorem check_c (w : World) (v0 : Value) (env sl gn right : Int) (c : Cp) (hl : Looks w v0 env sl gn c 0) (hc : envB c.rts = true) : Calls Try.prog 51 #[v0, i64 env, .agg #[i64 sl, i64 gn], i64 right] w fun e w' => e = .returned (i64 (chE (some c) right)) ∧ Below w.heap.size w w' := by
  obtain ⟨ce, ck, cn, cr⟩ := c
  simp only at hc
  by_cases h1 : right = 1
  · subst h1
    rcases envB_iff.1 hc with rfl | rfl | rfl
    · exact check_11 w v0 env sl gn ce ck cn hl
    · exact check_21 w v0 env sl gn ce ck cn hl
    · exact check_31 w v0 env sl gn ce ck cn hl
  · by_cases h2 : right = 2
    · subst h2
      rcases envB_iff.1 hc with rfl | rfl | rfl
      · exact check_12 w v0 env sl gn ce ck cn hl
      · exact check_22 w v0 env sl gn ce ck cn hl
      · exact check_32 w v0 env sl gn ce ck cn hl
    · have : chE (some ⟨ce, ck, cn, cr⟩) right = 91 := by simp [chE, h1, h2]
      rw [this]
      exact check_else w v0 env sl gn right ce ck cn cr hl h1 h2
def Rts (T : List Pl) : Prop := ∀ (i : Nat) p, T[i]? = some p → p.c ≠ zC → rightB p.c = true
theorem rightB_rts {c : Cp} (h : rightB c = true) : envB c.rts = true := by
  unfold rightB at h
  unfold envB
  rw [decide_eq_true_iff] at h ⊢
  exact h.2.2.2.2.2.2
theorem Rts.look {T : List Pl} (h : Rts T) {env sl gn : Int} {c : Cp} (hl : lookF T env sl gn = some c) : rightB c = true := by
  obtain ⟨s, p, _, hp, h1, _, _, rfl⟩ := lookF_some hl
  exact h s p hp h1
theorem check_any {w : World} {base b : Nat} {T : List Pl} (h : Tb w base b T) (hr : Rts T) (env sl gn right : Int) : Calls Try.prog 51 #[.pointer (some ⟨b, 0, none⟩), i64 env, .agg #[i64 sl, i64 gn], i64 right] w fun e w' => e = .returned (i64 (chE (lookF T env sl gn) right)) ∧ Below w.heap.size w w' := by
  have hl := looks_tb h env sl gn
  cases ho : lookF T env sl gn with
  | none => rw [ho] at hl; exact check_stale w _ env sl gn right hl
  | some c => rw [ho] at hl; exact check_c w _ env sl gn right c hl (rightB_rts (hr.look ho))
end Go.Proofs.Ytnknhencobhjdaa.Cp
