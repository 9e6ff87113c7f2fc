/- caps.Derive, where it derives; no statement is proved in this text. -/
import Derived.Test.YtnknhencobhjdaaCpDerive
namespace Go.Proofs.Ytnknhencobhjdaa.Cp
open Go.ChangeShapes Go.WideShapes Go.ChangeAt Go.RowKit Go.Deep
attribute [local go_sem ↓] Go.wp_at_zero Go.wp_at_succ

set_option maxRecDepth 100000 in
set_option maxHeartbeats 1600000 in
theorem derive_ok22 {w : World} {base b : Nat} {T : List Pl} (h : Tb w base b T) (env sl gn tt ce ck cn : Int) (hl : Looks w (.pointer (some ⟨b, 0, none⟩)) env sl gn ⟨ce, ck, cn, 2⟩ 0) (ht : envB tt = true) (i : Nat) (p : Pl) (hp : T[i]? = some p) (hf : p.c = zC) (hno : ∀ j q, j < i → T[j]? = some q → q.c ≠ zC) (hg0 : 0 ≤ p.gen) (hg1 : p.gen ≤ 1000000000) : Calls Try.prog 62 #[.pointer (some ⟨b, 0, none⟩), i64 env, .agg #[i64 sl, i64 gn], i64 tt, i64 2] w fun e w' => e = .returned (.tuple #[.agg #[i64 i, i64 (p.gen + 1)], i64 0]) ∧ Tb w' base b (T.set i ⟨⟨tt, ck, cn, 2⟩, sl, p.gen + 1⟩) ∧ Touch b w w' := by
  obtain ⟨hBV, hK1, hK2⟩ := two_h w sl gn
  obtain ⟨V, hV⟩ : ∃ V, V = (w.alloc (hO sl gn)).alloc (hO 0 0) := ⟨_, rfl⟩
  have HVe : Hid ((w.alloc (.cells #[i64 sl, i64 gn] 43)).alloc (.cells #[i64 0, i64 0] 43) = V) := hV.symm
  rw [← hV] at hBV hK1 hK2
  have HB := hid hBV
  have HK1 := hid hK1
  have HK2 := hid hK2
  have HL : Hid (Looks w (.pointer (some ⟨b, 0, none⟩)) env sl gn ⟨ce, ck, cn, 2⟩ 0) := hl
  clear hV hBV hK1 hK2 hl
  have HE : Hid (∀ W, Calls Try.prog 86 #[i64 tt] W fun e w' => e = .returned (.bool true) ∧ w' = W) := fun W => by have := isEnv_ok W tt; rw [ht] at this; exact this
  have HA : Hid (∀ W, Calls Try.prog 87 #[i64 2] W fun e w' => e = .returned (.bool true) ∧ w' = W) := fun W => areRights_ok W 2
  have HT := hid h
  have hbl := h.lt
  have HPut : Hid (∀ W, Tb W base b T → Calls Try.prog 88 #[.pointer (some ⟨b, 0, none⟩), .agg #[i64 tt, i64 ck, i64 cn, i64 2], i64 sl] W fun e w' => e = .returned (.tuple #[.agg #[i64 i, i64 (p.gen + 1)], i64 0]) ∧ Tb w' base b (T.set i ⟨⟨tt, ck, cn, 2⟩, sl, p.gen + 1⟩) ∧ Touch b W w') := fun W hW => put_ok hW ⟨tt, ck, cn, 2⟩ sl i p hp hf hno hg0 hg1
  clear ht h hp hf hno
  go_enter Try.func62, Try.ntmps62
  go_wp2_with fail
  rw [HVe.out]
  refine (HL.out V HB.out).mono ?_
  rintro e w1 ⟨rfl, hb1⟩
  have HB1 : Hid (Below w.heap.size w (w1.alloc (.cells #[i64 ce, i64 ck, i64 cn, i64 2] 108))) := (HB.out.trans (hb1.mono HB.out.size)).alloc (HB.out.trans (hb1.mono HB.out.size)).size _
  have HK3 : Hid ((w1.alloc (.cells #[i64 ce, i64 ck, i64 cn, i64 2] 108)).heap[w.heap.size + 1]? = some (hO 0 0)) := blk_alloc (blk_below HK2.out hb1) _
  have HK4 : Hid ((w1.alloc (.cells #[i64 ce, i64 ck, i64 cn, i64 2] 108)).heap[w.heap.size]? = some (hO sl gn)) := blk_alloc (blk_below HK1.out hb1) _
  have HK5 : Hid ((w1.alloc (.cells #[i64 ce, i64 ck, i64 cn, i64 2] 108)).heap[w1.heap.size]? = some (cO ⟨ce, ck, cn, 2⟩)) := heap_last w1 _
  have hs1 : w.heap.size + 1 < w1.heap.size := by have := blk_lt HK2.out; have := hb1.size; omega
  clear hb1
  unfold Cp.v
  go_upto_region 2 with fail
  have k0 : (w1.alloc (.cells #[i64 ce, i64 ck, i64 cn, i64 2] 108)).cell? ⟨w.heap.size + 1, 0, none⟩ = some (i64 0) := blk_cell HK3.out 0
  have k1 : (w1.alloc (.cells #[i64 ce, i64 ck, i64 cn, i64 2] 108)).cell? ⟨w.heap.size + 1, 1, none⟩ = some (i64 0) := blk_cell HK3.out 1
  have kf : ∀ j, (w1.alloc (.cells #[i64 ce, i64 ck, i64 cn, i64 2] 108)).frozen? ⟨w.heap.size + 1, j, none⟩ = false := blk_frozen HK3.out
  have h0 : (w1.alloc (.cells #[i64 ce, i64 ck, i64 cn, i64 2] 108)).cell? ⟨w.heap.size, 0, none⟩ = some (i64 sl) := blk_cell HK4.out 0
  have d0 : (w1.alloc (.cells #[i64 ce, i64 ck, i64 cn, i64 2] 108)).cell? ⟨w1.heap.size, 0, none⟩ = some (i64 ce) := blk_cell HK5.out 0
  have d1 : (w1.alloc (.cells #[i64 ce, i64 ck, i64 cn, i64 2] 108)).cell? ⟨w1.heap.size, 1, none⟩ = some (i64 ck) := blk_cell HK5.out 1
  have d2 : (w1.alloc (.cells #[i64 ce, i64 ck, i64 cn, i64 2] 108)).cell? ⟨w1.heap.size, 2, none⟩ = some (i64 cn) := blk_cell HK5.out 2
  have d3 : (w1.alloc (.cells #[i64 ce, i64 ck, i64 cn, i64 2] 108)).cell? ⟨w1.heap.size, 3, none⟩ = some (i64 2) := blk_cell HK5.out 3
  have df : ∀ j, (w1.alloc (.cells #[i64 ce, i64 ck, i64 cn, i64 2] 108)).frozen? ⟨w1.heap.size, j, none⟩ = false := blk_frozen HK5.out
  generalize w1.alloc (.cells #[i64 ce, i64 ck, i64 cn, i64 2] 108) = U at *
  generalize w1.heap.size = x at *
  go_upto_region 9 with (first | (go_at_call 86; refine (HE.out _).mono ?_; rintro e v1 ⟨rfl, rfl⟩) | (go_at_call 87; refine (HA.out _).mono ?_; rintro e v1 ⟨rfl, rfl⟩))
  go_wp2_with fail
  have hBU : Below w.heap.size w ((v1.setCell ⟨x, 0, none⟩ (i64 tt)).setCell ⟨x, 3, none⟩ (i64 2)) := (HB1.out.setCell (by show w.heap.size ≤ x; omega) _).setCell (by show w.heap.size ≤ x; omega) _
  have HBU := hid hBU
  have HK6 : Hid (((v1.setCell ⟨x, 0, none⟩ (i64 tt)).setCell ⟨x, 3, none⟩ (i64 2)).heap[w.heap.size + 1]? = some (hO 0 0)) := by rw [Below.heap_setCell _ _ _ _ (by show w.heap.size + 1 ≠ x; omega), Below.heap_setCell _ _ _ _ (by show w.heap.size + 1 ≠ x; omega)]; exact HK3.out
  clear hBU
  generalize (v1.setCell ⟨x, 0, none⟩ (i64 tt)).setCell ⟨x, 3, none⟩ (i64 2) = U2 at *
  refine (HPut.out U2 (HT.out.below HBU.out)).mono ?_
  rintro e w2 ⟨rfl, ht2, hto2⟩
  have HT2 := hid ht2
  have hlt3 := blk_lt HK6.out
  have HK7 : Hid (w2.heap[w.heap.size + 1]? = some (hO 0 0)) := (hto2.block _ hlt3 (by omega)).trans HK6.out
  have HTo : Hid (Touch b w w2) := (Touch.of_below HBU.out).trans hto2
  have e0 : w2.cell? ⟨w.heap.size + 1, 0, none⟩ = some (i64 0) := blk_cell HK7.out 0
  have e1 : w2.cell? ⟨w.heap.size + 1, 1, none⟩ = some (i64 0) := blk_cell HK7.out 1
  have ef : ∀ j, w2.frozen? ⟨w.heap.size + 1, j, none⟩ = false := blk_frozen HK7.out
  clear ht2 hto2 k0 k1 kf h0 d0 d1 d2 d3 df
  go_wp2_with fail
  exact bodyPost_ret (results_cell Try.results62 rfl rfl (load42 (set2 HK7.out _ _))) rfl ⟨rfl, HT2.out.set_new (by omega) _ _, (HTo.out.setNew (by show w.heap.size ≤ w.heap.size + 1; omega) _).setNew (by show w.heap.size ≤ w.heap.size + 1; omega) _⟩
set_option maxRecDepth 100000 in
set_option maxHeartbeats 1600000 in
theorem derive_ok31 {w : World} {base b : Nat} {T : List Pl} (h : Tb w base b T) (env sl gn tt ce ck cn : Int) (hl : Looks w (.pointer (some ⟨b, 0, none⟩)) env sl gn ⟨ce, ck, cn, 3⟩ 0) (ht : envB tt = true) (i : Nat) (p : Pl) (hp : T[i]? = some p) (hf : p.c = zC) (hno : ∀ j q, j < i → T[j]? = some q → q.c ≠ zC) (hg0 : 0 ≤ p.gen) (hg1 : p.gen ≤ 1000000000) : Calls Try.prog 62 #[.pointer (some ⟨b, 0, none⟩), i64 env, .agg #[i64 sl, i64 gn], i64 tt, i64 1] w fun e w' => e = .returned (.tuple #[.agg #[i64 i, i64 (p.gen + 1)], i64 0]) ∧ Tb w' base b (T.set i ⟨⟨tt, ck, cn, 1⟩, sl, p.gen + 1⟩) ∧ Touch b w w' := by
  obtain ⟨hBV, hK1, hK2⟩ := two_h w sl gn
  obtain ⟨V, hV⟩ : ∃ V, V = (w.alloc (hO sl gn)).alloc (hO 0 0) := ⟨_, rfl⟩
  have HVe : Hid ((w.alloc (.cells #[i64 sl, i64 gn] 43)).alloc (.cells #[i64 0, i64 0] 43) = V) := hV.symm
  rw [← hV] at hBV hK1 hK2
  have HB := hid hBV
  have HK1 := hid hK1
  have HK2 := hid hK2
  have HL : Hid (Looks w (.pointer (some ⟨b, 0, none⟩)) env sl gn ⟨ce, ck, cn, 3⟩ 0) := hl
  clear hV hBV hK1 hK2 hl
  have HE : Hid (∀ W, Calls Try.prog 86 #[i64 tt] W fun e w' => e = .returned (.bool true) ∧ w' = W) := fun W => by have := isEnv_ok W tt; rw [ht] at this; exact this
  have HA : Hid (∀ W, Calls Try.prog 87 #[i64 1] W fun e w' => e = .returned (.bool true) ∧ w' = W) := fun W => areRights_ok W 1
  have HT := hid h
  have hbl := h.lt
  have HPut : Hid (∀ W, Tb W base b T → Calls Try.prog 88 #[.pointer (some ⟨b, 0, none⟩), .agg #[i64 tt, i64 ck, i64 cn, i64 1], i64 sl] W fun e w' => e = .returned (.tuple #[.agg #[i64 i, i64 (p.gen + 1)], i64 0]) ∧ Tb w' base b (T.set i ⟨⟨tt, ck, cn, 1⟩, sl, p.gen + 1⟩) ∧ Touch b W w') := fun W hW => put_ok hW ⟨tt, ck, cn, 1⟩ sl i p hp hf hno hg0 hg1
  clear ht h hp hf hno
  go_enter Try.func62, Try.ntmps62
  go_wp2_with fail
  rw [HVe.out]
  refine (HL.out V HB.out).mono ?_
  rintro e w1 ⟨rfl, hb1⟩
  have HB1 : Hid (Below w.heap.size w (w1.alloc (.cells #[i64 ce, i64 ck, i64 cn, i64 3] 108))) := (HB.out.trans (hb1.mono HB.out.size)).alloc (HB.out.trans (hb1.mono HB.out.size)).size _
  have HK3 : Hid ((w1.alloc (.cells #[i64 ce, i64 ck, i64 cn, i64 3] 108)).heap[w.heap.size + 1]? = some (hO 0 0)) := blk_alloc (blk_below HK2.out hb1) _
  have HK4 : Hid ((w1.alloc (.cells #[i64 ce, i64 ck, i64 cn, i64 3] 108)).heap[w.heap.size]? = some (hO sl gn)) := blk_alloc (blk_below HK1.out hb1) _
  have HK5 : Hid ((w1.alloc (.cells #[i64 ce, i64 ck, i64 cn, i64 3] 108)).heap[w1.heap.size]? = some (cO ⟨ce, ck, cn, 3⟩)) := heap_last w1 _
  have hs1 : w.heap.size + 1 < w1.heap.size := by have := blk_lt HK2.out; have := hb1.size; omega
  clear hb1
  unfold Cp.v
  go_upto_region 2 with fail
  have k0 : (w1.alloc (.cells #[i64 ce, i64 ck, i64 cn, i64 3] 108)).cell? ⟨w.heap.size + 1, 0, none⟩ = some (i64 0) := blk_cell HK3.out 0
  have k1 : (w1.alloc (.cells #[i64 ce, i64 ck, i64 cn, i64 3] 108)).cell? ⟨w.heap.size + 1, 1, none⟩ = some (i64 0) := blk_cell HK3.out 1
  have kf : ∀ j, (w1.alloc (.cells #[i64 ce, i64 ck, i64 cn, i64 3] 108)).frozen? ⟨w.heap.size + 1, j, none⟩ = false := blk_frozen HK3.out
  have h0 : (w1.alloc (.cells #[i64 ce, i64 ck, i64 cn, i64 3] 108)).cell? ⟨w.heap.size, 0, none⟩ = some (i64 sl) := blk_cell HK4.out 0
  have d0 : (w1.alloc (.cells #[i64 ce, i64 ck, i64 cn, i64 3] 108)).cell? ⟨w1.heap.size, 0, none⟩ = some (i64 ce) := blk_cell HK5.out 0
  have d1 : (w1.alloc (.cells #[i64 ce, i64 ck, i64 cn, i64 3] 108)).cell? ⟨w1.heap.size, 1, none⟩ = some (i64 ck) := blk_cell HK5.out 1
  have d2 : (w1.alloc (.cells #[i64 ce, i64 ck, i64 cn, i64 3] 108)).cell? ⟨w1.heap.size, 2, none⟩ = some (i64 cn) := blk_cell HK5.out 2
  have d3 : (w1.alloc (.cells #[i64 ce, i64 ck, i64 cn, i64 3] 108)).cell? ⟨w1.heap.size, 3, none⟩ = some (i64 3) := blk_cell HK5.out 3
  have df : ∀ j, (w1.alloc (.cells #[i64 ce, i64 ck, i64 cn, i64 3] 108)).frozen? ⟨w1.heap.size, j, none⟩ = false := blk_frozen HK5.out
  generalize w1.alloc (.cells #[i64 ce, i64 ck, i64 cn, i64 3] 108) = U at *
  generalize w1.heap.size = x at *
  go_upto_region 9 with (first | (go_at_call 86; refine (HE.out _).mono ?_; rintro e v1 ⟨rfl, rfl⟩) | (go_at_call 87; refine (HA.out _).mono ?_; rintro e v1 ⟨rfl, rfl⟩))
  go_wp2_with fail
  have hBU : Below w.heap.size w ((v1.setCell ⟨x, 0, none⟩ (i64 tt)).setCell ⟨x, 3, none⟩ (i64 1)) := (HB1.out.setCell (by show w.heap.size ≤ x; omega) _).setCell (by show w.heap.size ≤ x; omega) _
  have HBU := hid hBU
  have HK6 : Hid (((v1.setCell ⟨x, 0, none⟩ (i64 tt)).setCell ⟨x, 3, none⟩ (i64 1)).heap[w.heap.size + 1]? = some (hO 0 0)) := by rw [Below.heap_setCell _ _ _ _ (by show w.heap.size + 1 ≠ x; omega), Below.heap_setCell _ _ _ _ (by show w.heap.size + 1 ≠ x; omega)]; exact HK3.out
  clear hBU
  generalize (v1.setCell ⟨x, 0, none⟩ (i64 tt)).setCell ⟨x, 3, none⟩ (i64 1) = U2 at *
  refine (HPut.out U2 (HT.out.below HBU.out)).mono ?_
  rintro e w2 ⟨rfl, ht2, hto2⟩
  have HT2 := hid ht2
  have hlt3 := blk_lt HK6.out
  have HK7 : Hid (w2.heap[w.heap.size + 1]? = some (hO 0 0)) := (hto2.block _ hlt3 (by omega)).trans HK6.out
  have HTo : Hid (Touch b w w2) := (Touch.of_below HBU.out).trans hto2
  have e0 : w2.cell? ⟨w.heap.size + 1, 0, none⟩ = some (i64 0) := blk_cell HK7.out 0
  have e1 : w2.cell? ⟨w.heap.size + 1, 1, none⟩ = some (i64 0) := blk_cell HK7.out 1
  have ef : ∀ j, w2.frozen? ⟨w.heap.size + 1, j, none⟩ = false := blk_frozen HK7.out
  clear ht2 hto2 k0 k1 kf h0 d0 d1 d2 d3 df
  go_wp2_with fail
  exact bodyPost_ret (results_cell Try.results62 rfl rfl (load42 (set2 HK7.out _ _))) rfl ⟨rfl, HT2.out.set_new (by omega) _ _, (HTo.out.setNew (by show w.heap.size ≤ w.heap.size + 1; omega) _).setNew (by show w.heap.size ≤ w.heap.size + 1; omega) _⟩
set_option maxRecDepth 100000 in
set_option maxHeartbeats 1600000 in
theorem derive_ok32 {w : World} {base b : Nat} {T : List Pl} (h : Tb w base b T) (env sl gn tt ce ck cn : Int) (hl : Looks w (.pointer (some ⟨b, 0, none⟩)) env sl gn ⟨ce, ck, cn, 3⟩ 0) (ht : envB tt = true) (i : Nat) (p : Pl) (hp : T[i]? = some p) (hf : p.c = zC) (hno : ∀ j q, j < i → T[j]? = some q → q.c ≠ zC) (hg0 : 0 ≤ p.gen) (hg1 : p.gen ≤ 1000000000) : Calls Try.prog 62 #[.pointer (some ⟨b, 0, none⟩), i64 env, .agg #[i64 sl, i64 gn], i64 tt, i64 2] w fun e w' => e = .returned (.tuple #[.agg #[i64 i, i64 (p.gen + 1)], i64 0]) ∧ Tb w' base b (T.set i ⟨⟨tt, ck, cn, 2⟩, sl, p.gen + 1⟩) ∧ Touch b w w' := by
  obtain ⟨hBV, hK1, hK2⟩ := two_h w sl gn
  obtain ⟨V, hV⟩ : ∃ V, V = (w.alloc (hO sl gn)).alloc (hO 0 0) := ⟨_, rfl⟩
  have HVe : Hid ((w.alloc (.cells #[i64 sl, i64 gn] 43)).alloc (.cells #[i64 0, i64 0] 43) = V) := hV.symm
  rw [← hV] at hBV hK1 hK2
  have HB := hid hBV
  have HK1 := hid hK1
  have HK2 := hid hK2
  have HL : Hid (Looks w (.pointer (some ⟨b, 0, none⟩)) env sl gn ⟨ce, ck, cn, 3⟩ 0) := hl
  clear hV hBV hK1 hK2 hl
  have HE : Hid (∀ W, Calls Try.prog 86 #[i64 tt] W fun e w' => e = .returned (.bool true) ∧ w' = W) := fun W => by have := isEnv_ok W tt; rw [ht] at this; exact this
  have HA : Hid (∀ W, Calls Try.prog 87 #[i64 2] W fun e w' => e = .returned (.bool true) ∧ w' = W) := fun W => areRights_ok W 2
  have HT := hid h
  have hbl := h.lt
  have HPut : Hid (∀ W, Tb W base b T → Calls Try.prog 88 #[.pointer (some ⟨b, 0, none⟩), .agg #[i64 tt, i64 ck, i64 cn, i64 2], i64 sl] W fun e w' => e = .returned (.tuple #[.agg #[i64 i, i64 (p.gen + 1)], i64 0]) ∧ Tb w' base b (T.set i ⟨⟨tt, ck, cn, 2⟩, sl, p.gen + 1⟩) ∧ Touch b W w') := fun W hW => put_ok hW ⟨tt, ck, cn, 2⟩ sl i p hp hf hno hg0 hg1
  clear ht h hp hf hno
  go_enter Try.func62, Try.ntmps62
  go_wp2_with fail
  rw [HVe.out]
  refine (HL.out V HB.out).mono ?_
  rintro e w1 ⟨rfl, hb1⟩
  have HB1 : Hid (Below w.heap.size w (w1.alloc (.cells #[i64 ce, i64 ck, i64 cn, i64 3] 108))) := (HB.out.trans (hb1.mono HB.out.size)).alloc (HB.out.trans (hb1.mono HB.out.size)).size _
  have HK3 : Hid ((w1.alloc (.cells #[i64 ce, i64 ck, i64 cn, i64 3] 108)).heap[w.heap.size + 1]? = some (hO 0 0)) := blk_alloc (blk_below HK2.out hb1) _
  have HK4 : Hid ((w1.alloc (.cells #[i64 ce, i64 ck, i64 cn, i64 3] 108)).heap[w.heap.size]? = some (hO sl gn)) := blk_alloc (blk_below HK1.out hb1) _
  have HK5 : Hid ((w1.alloc (.cells #[i64 ce, i64 ck, i64 cn, i64 3] 108)).heap[w1.heap.size]? = some (cO ⟨ce, ck, cn, 3⟩)) := heap_last w1 _
  have hs1 : w.heap.size + 1 < w1.heap.size := by have := blk_lt HK2.out; have := hb1.size; omega
  clear hb1
  unfold Cp.v
  go_upto_region 2 with fail
  have k0 : (w1.alloc (.cells #[i64 ce, i64 ck, i64 cn, i64 3] 108)).cell? ⟨w.heap.size + 1, 0, none⟩ = some (i64 0) := blk_cell HK3.out 0
  have k1 : (w1.alloc (.cells #[i64 ce, i64 ck, i64 cn, i64 3] 108)).cell? ⟨w.heap.size + 1, 1, none⟩ = some (i64 0) := blk_cell HK3.out 1
  have kf : ∀ j, (w1.alloc (.cells #[i64 ce, i64 ck, i64 cn, i64 3] 108)).frozen? ⟨w.heap.size + 1, j, none⟩ = false := blk_frozen HK3.out
  have h0 : (w1.alloc (.cells #[i64 ce, i64 ck, i64 cn, i64 3] 108)).cell? ⟨w.heap.size, 0, none⟩ = some (i64 sl) := blk_cell HK4.out 0
  have d0 : (w1.alloc (.cells #[i64 ce, i64 ck, i64 cn, i64 3] 108)).cell? ⟨w1.heap.size, 0, none⟩ = some (i64 ce) := blk_cell HK5.out 0
  have d1 : (w1.alloc (.cells #[i64 ce, i64 ck, i64 cn, i64 3] 108)).cell? ⟨w1.heap.size, 1, none⟩ = some (i64 ck) := blk_cell HK5.out 1
  have d2 : (w1.alloc (.cells #[i64 ce, i64 ck, i64 cn, i64 3] 108)).cell? ⟨w1.heap.size, 2, none⟩ = some (i64 cn) := blk_cell HK5.out 2
  have d3 : (w1.alloc (.cells #[i64 ce, i64 ck, i64 cn, i64 3] 108)).cell? ⟨w1.heap.size, 3, none⟩ = some (i64 3) := blk_cell HK5.out 3
  have df : ∀ j, (w1.alloc (.cells #[i64 ce, i64 ck, i64 cn, i64 3] 108)).frozen? ⟨w1.heap.size, j, none⟩ = false := blk_frozen HK5.out
  generalize w1.alloc (.cells #[i64 ce, i64 ck, i64 cn, i64 3] 108) = U at *
  generalize w1.heap.size = x at *
  go_upto_region 9 with (first | (go_at_call 86; refine (HE.out _).mono ?_; rintro e v1 ⟨rfl, rfl⟩) | (go_at_call 87; refine (HA.out _).mono ?_; rintro e v1 ⟨rfl, rfl⟩))
  go_wp2_with fail
  have hBU : Below w.heap.size w ((v1.setCell ⟨x, 0, none⟩ (i64 tt)).setCell ⟨x, 3, none⟩ (i64 2)) := (HB1.out.setCell (by show w.heap.size ≤ x; omega) _).setCell (by show w.heap.size ≤ x; omega) _
  have HBU := hid hBU
  have HK6 : Hid (((v1.setCell ⟨x, 0, none⟩ (i64 tt)).setCell ⟨x, 3, none⟩ (i64 2)).heap[w.heap.size + 1]? = some (hO 0 0)) := by rw [Below.heap_setCell _ _ _ _ (by show w.heap.size + 1 ≠ x; omega), Below.heap_setCell _ _ _ _ (by show w.heap.size + 1 ≠ x; omega)]; exact HK3.out
  clear hBU
  generalize (v1.setCell ⟨x, 0, none⟩ (i64 tt)).setCell ⟨x, 3, none⟩ (i64 2) = U2 at *
  refine (HPut.out U2 (HT.out.below HBU.out)).mono ?_
  rintro e w2 ⟨rfl, ht2, hto2⟩
  have HT2 := hid ht2
  have hlt3 := blk_lt HK6.out
  have HK7 : Hid (w2.heap[w.heap.size + 1]? = some (hO 0 0)) := (hto2.block _ hlt3 (by omega)).trans HK6.out
  have HTo : Hid (Touch b w w2) := (Touch.of_below HBU.out).trans hto2
  have e0 : w2.cell? ⟨w.heap.size + 1, 0, none⟩ = some (i64 0) := blk_cell HK7.out 0
  have e1 : w2.cell? ⟨w.heap.size + 1, 1, none⟩ = some (i64 0) := blk_cell HK7.out 1
  have ef : ∀ j, w2.frozen? ⟨w.heap.size + 1, j, none⟩ = false := blk_frozen HK7.out
  clear ht2 hto2 k0 k1 kf h0 d0 d1 d2 d3 df
  go_wp2_with fail
  exact bodyPost_ret (results_cell Try.results62 rfl rfl (load42 (set2 HK7.out _ _))) rfl ⟨rfl, HT2.out.set_new (by omega) _ _, (HTo.out.setNew (by show w.heap.size ≤ w.heap.size + 1; omega) _).setNew (by show w.heap.size ≤ w.heap.size + 1; omega) _⟩
set_option maxRecDepth 100000 in
set_option maxHeartbeats 1600000 in
theorem derive_ok33 {w : World} {base b : Nat} {T : List Pl} (h : Tb w base b T) (env sl gn tt ce ck cn : Int) (hl : Looks w (.pointer (some ⟨b, 0, none⟩)) env sl gn ⟨ce, ck, cn, 3⟩ 0) (ht : envB tt = true) (i : Nat) (p : Pl) (hp : T[i]? = some p) (hf : p.c = zC) (hno : ∀ j q, j < i → T[j]? = some q → q.c ≠ zC) (hg0 : 0 ≤ p.gen) (hg1 : p.gen ≤ 1000000000) : Calls Try.prog 62 #[.pointer (some ⟨b, 0, none⟩), i64 env, .agg #[i64 sl, i64 gn], i64 tt, i64 3] w fun e w' => e = .returned (.tuple #[.agg #[i64 i, i64 (p.gen + 1)], i64 0]) ∧ Tb w' base b (T.set i ⟨⟨tt, ck, cn, 3⟩, sl, p.gen + 1⟩) ∧ Touch b w w' := by
  obtain ⟨hBV, hK1, hK2⟩ := two_h w sl gn
  obtain ⟨V, hV⟩ : ∃ V, V = (w.alloc (hO sl gn)).alloc (hO 0 0) := ⟨_, rfl⟩
  have HVe : Hid ((w.alloc (.cells #[i64 sl, i64 gn] 43)).alloc (.cells #[i64 0, i64 0] 43) = V) := hV.symm
  rw [← hV] at hBV hK1 hK2
  have HB := hid hBV
  have HK1 := hid hK1
  have HK2 := hid hK2
  have HL : Hid (Looks w (.pointer (some ⟨b, 0, none⟩)) env sl gn ⟨ce, ck, cn, 3⟩ 0) := hl
  clear hV hBV hK1 hK2 hl
  have HE : Hid (∀ W, Calls Try.prog 86 #[i64 tt] W fun e w' => e = .returned (.bool true) ∧ w' = W) := fun W => by have := isEnv_ok W tt; rw [ht] at this; exact this
  have HA : Hid (∀ W, Calls Try.prog 87 #[i64 3] W fun e w' => e = .returned (.bool true) ∧ w' = W) := fun W => areRights_ok W 3
  have HT := hid h
  have hbl := h.lt
  have HPut : Hid (∀ W, Tb W base b T → Calls Try.prog 88 #[.pointer (some ⟨b, 0, none⟩), .agg #[i64 tt, i64 ck, i64 cn, i64 3], i64 sl] W fun e w' => e = .returned (.tuple #[.agg #[i64 i, i64 (p.gen + 1)], i64 0]) ∧ Tb w' base b (T.set i ⟨⟨tt, ck, cn, 3⟩, sl, p.gen + 1⟩) ∧ Touch b W w') := fun W hW => put_ok hW ⟨tt, ck, cn, 3⟩ sl i p hp hf hno hg0 hg1
  clear ht h hp hf hno
  go_enter Try.func62, Try.ntmps62
  go_wp2_with fail
  rw [HVe.out]
  refine (HL.out V HB.out).mono ?_
  rintro e w1 ⟨rfl, hb1⟩
  have HB1 : Hid (Below w.heap.size w (w1.alloc (.cells #[i64 ce, i64 ck, i64 cn, i64 3] 108))) := (HB.out.trans (hb1.mono HB.out.size)).alloc (HB.out.trans (hb1.mono HB.out.size)).size _
  have HK3 : Hid ((w1.alloc (.cells #[i64 ce, i64 ck, i64 cn, i64 3] 108)).heap[w.heap.size + 1]? = some (hO 0 0)) := blk_alloc (blk_below HK2.out hb1) _
  have HK4 : Hid ((w1.alloc (.cells #[i64 ce, i64 ck, i64 cn, i64 3] 108)).heap[w.heap.size]? = some (hO sl gn)) := blk_alloc (blk_below HK1.out hb1) _
  have HK5 : Hid ((w1.alloc (.cells #[i64 ce, i64 ck, i64 cn, i64 3] 108)).heap[w1.heap.size]? = some (cO ⟨ce, ck, cn, 3⟩)) := heap_last w1 _
  have hs1 : w.heap.size + 1 < w1.heap.size := by have := blk_lt HK2.out; have := hb1.size; omega
  clear hb1
  unfold Cp.v
  go_upto_region 2 with fail
  have k0 : (w1.alloc (.cells #[i64 ce, i64 ck, i64 cn, i64 3] 108)).cell? ⟨w.heap.size + 1, 0, none⟩ = some (i64 0) := blk_cell HK3.out 0
  have k1 : (w1.alloc (.cells #[i64 ce, i64 ck, i64 cn, i64 3] 108)).cell? ⟨w.heap.size + 1, 1, none⟩ = some (i64 0) := blk_cell HK3.out 1
  have kf : ∀ j, (w1.alloc (.cells #[i64 ce, i64 ck, i64 cn, i64 3] 108)).frozen? ⟨w.heap.size + 1, j, none⟩ = false := blk_frozen HK3.out
  have h0 : (w1.alloc (.cells #[i64 ce, i64 ck, i64 cn, i64 3] 108)).cell? ⟨w.heap.size, 0, none⟩ = some (i64 sl) := blk_cell HK4.out 0
  have d0 : (w1.alloc (.cells #[i64 ce, i64 ck, i64 cn, i64 3] 108)).cell? ⟨w1.heap.size, 0, none⟩ = some (i64 ce) := blk_cell HK5.out 0
  have d1 : (w1.alloc (.cells #[i64 ce, i64 ck, i64 cn, i64 3] 108)).cell? ⟨w1.heap.size, 1, none⟩ = some (i64 ck) := blk_cell HK5.out 1
  have d2 : (w1.alloc (.cells #[i64 ce, i64 ck, i64 cn, i64 3] 108)).cell? ⟨w1.heap.size, 2, none⟩ = some (i64 cn) := blk_cell HK5.out 2
  have d3 : (w1.alloc (.cells #[i64 ce, i64 ck, i64 cn, i64 3] 108)).cell? ⟨w1.heap.size, 3, none⟩ = some (i64 3) := blk_cell HK5.out 3
  have df : ∀ j, (w1.alloc (.cells #[i64 ce, i64 ck, i64 cn, i64 3] 108)).frozen? ⟨w1.heap.size, j, none⟩ = false := blk_frozen HK5.out
  generalize w1.alloc (.cells #[i64 ce, i64 ck, i64 cn, i64 3] 108) = U at *
  generalize w1.heap.size = x at *
  go_upto_region 9 with (first | (go_at_call 86; refine (HE.out _).mono ?_; rintro e v1 ⟨rfl, rfl⟩) | (go_at_call 87; refine (HA.out _).mono ?_; rintro e v1 ⟨rfl, rfl⟩))
  go_wp2_with fail
  have hBU : Below w.heap.size w ((v1.setCell ⟨x, 0, none⟩ (i64 tt)).setCell ⟨x, 3, none⟩ (i64 3)) := (HB1.out.setCell (by show w.heap.size ≤ x; omega) _).setCell (by show w.heap.size ≤ x; omega) _
  have HBU := hid hBU
  have HK6 : Hid (((v1.setCell ⟨x, 0, none⟩ (i64 tt)).setCell ⟨x, 3, none⟩ (i64 3)).heap[w.heap.size + 1]? = some (hO 0 0)) := by rw [Below.heap_setCell _ _ _ _ (by show w.heap.size + 1 ≠ x; omega), Below.heap_setCell _ _ _ _ (by show w.heap.size + 1 ≠ x; omega)]; exact HK3.out
  clear hBU
  generalize (v1.setCell ⟨x, 0, none⟩ (i64 tt)).setCell ⟨x, 3, none⟩ (i64 3) = U2 at *
  refine (HPut.out U2 (HT.out.below HBU.out)).mono ?_
  rintro e w2 ⟨rfl, ht2, hto2⟩
  have HT2 := hid ht2
  have hlt3 := blk_lt HK6.out
  have HK7 : Hid (w2.heap[w.heap.size + 1]? = some (hO 0 0)) := (hto2.block _ hlt3 (by omega)).trans HK6.out
  have HTo : Hid (Touch b w w2) := (Touch.of_below HBU.out).trans hto2
  have e0 : w2.cell? ⟨w.heap.size + 1, 0, none⟩ = some (i64 0) := blk_cell HK7.out 0
  have e1 : w2.cell? ⟨w.heap.size + 1, 1, none⟩ = some (i64 0) := blk_cell HK7.out 1
  have ef : ∀ j, w2.frozen? ⟨w.heap.size + 1, j, none⟩ = false := blk_frozen HK7.out
  clear ht2 hto2 k0 k1 kf h0 d0 d1 d2 d3 df
  go_wp2_with fail
  exact bodyPost_ret (results_cell Try.results62 rfl rfl (load42 (set2 HK7.out _ _))) rfl ⟨rfl, HT2.out.set_new (by omega) _ _, (HTo.out.setNew (by show w.heap.size ≤ w.heap.size + 1; omega) _).setNew (by show w.heap.size ≤ w.heap.size + 1; omega) _⟩
/-- Whether one with r may grant rights. -/
def grB (r rights : Int) : Bool := decide (2 ≤ r ∧ rights ≤ r ∧ rights % 2 ≤ r % 2)
theorem envB_iff {n : Int} : envB n = true ↔ n = 1 ∨ n = 2 ∨ n = 3 := by
  unfold envB
  rw [decide_eq_true_iff]
  omega
theorem derive_no {w : World} (v0 : Value) (env sl gn tt rights : Int) (c : Cp) (hl : Looks w v0 env sl gn c 0) (ht : envB tt = true) (hr : envB rights = true) (hc : envB c.rts = true) (hg : grB c.rts rights = false) : Calls Try.prog 62 #[v0, i64 env, .agg #[i64 sl, i64 gn], i64 tt, i64 rights] w fun e w' => e = .returned (.tuple #[.agg #[i64 0, i64 0], i64 91]) ∧ Below w.heap.size w w' := by
  obtain ⟨ce, ck, cn, cr⟩ := c
  simp only at hc hg
  rcases envB_iff.1 hc with rfl | rfl | rfl <;> rcases envB_iff.1 hr with rfl | rfl | rfl
  · exact derive_no11 v0 env sl gn tt ce ck cn hl ht
  · exact derive_no12 v0 env sl gn tt ce ck cn hl ht
  · exact derive_no13 v0 env sl gn tt ce ck cn hl ht
  · exact derive_no21 v0 env sl gn tt ce ck cn hl ht
  · exact absurd hg (by decide)
  · exact derive_no23 v0 env sl gn tt ce ck cn hl ht
  · exact absurd hg (by decide)
  · exact absurd hg (by decide)
  · exact absurd hg (by decide)
theorem derive_ok {w : World} {base b : Nat} {T : List Pl} (h : Tb w base b T) (env sl gn tt rights : Int) (c : Cp) (hl : Looks w (.pointer (some ⟨b, 0, none⟩)) env sl gn c 0) (ht : envB tt = true) (hr : envB rights = true) (hc : envB c.rts = true) (hg : grB c.rts rights = true) (i : Nat) (p : Pl) (hp : T[i]? = some p) (hf : p.c = zC) (hno : ∀ j q, j < i → T[j]? = some q → q.c ≠ zC) (hg0 : 0 ≤ p.gen) (hg1 : p.gen ≤ 1000000000) : Calls Try.prog 62 #[.pointer (some ⟨b, 0, none⟩), i64 env, .agg #[i64 sl, i64 gn], i64 tt, i64 rights] w fun e w' => e = .returned (.tuple #[.agg #[i64 i, i64 (p.gen + 1)], i64 0]) ∧ Tb w' base b (T.set i ⟨⟨tt, c.kind, c.num, rights⟩, sl, p.gen + 1⟩) ∧ Touch b w w' := by
  obtain ⟨ce, ck, cn, cr⟩ := c
  simp only at hc hg
  rcases envB_iff.1 hc with rfl | rfl | rfl <;> rcases envB_iff.1 hr with rfl | rfl | rfl
  · exact absurd hg (by decide)
  · exact absurd hg (by decide)
  · exact absurd hg (by decide)
  · exact absurd hg (by decide)
  · exact derive_ok22 h env sl gn tt ce ck cn hl ht i p hp hf hno hg0 hg1
  · exact absurd hg (by decide)
  · exact derive_ok31 h env sl gn tt ce ck cn hl ht i p hp hf hno hg0 hg1
  · exact derive_ok32 h env sl gn tt ce ck cn hl ht i p hp hf hno hg0 hg1
  · exact derive_ok33 h env sl gn tt ce ck cn hl ht i p hp hf hno hg0 hg1
end Go.Proofs.Ytnknhencobhjdaa.Cp
