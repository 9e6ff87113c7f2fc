/- IpcSteps' walk; no statement is proved in this text. -/
import Derived.Test.YtmijjgpelihhnaaQRel
namespace Go.Proofs.Ytmijjgpelihhnaa
open Go.ChangeShapes Go.WideShapes Go.ChangeAt Go.RowKit Go.Deep
attribute [local go_sem ↓] Go.wp_at_zero Go.wp_at_succ

structure SqX (Z : Nat) (x : Sp) (W : World) : Prop where
  x : W.heap[Z]? = some (spO x)
set_option maxRecDepth 100000 in
set_option maxHeartbeats 3200000 in
theorem steps_long (w : World) (ao : Option Addr) (len cap : Nat) (hlen : len ≤ maxLen) (h : 100 < len) : Calls Try.prog 3 #[.slice ao len cap] w fun e w' => e = .returned (.bool true) ∧ Below w.heap.size w w' := by
  have hI : (100 : Int) < len := by omega
  have hm : (len : Int) ≤ 9223372036854775807 := by unfold maxLen at hlen; omega
  clear h hlen
  go_enter Try.func3, Try.ntmps3
  go_wp2_with fail
  refine (new_ok w).mono ?_
  rintro e w1 ⟨rfl, ht1, hb1⟩
  have HB1 := hid hb1
  clear ht1 hb1
  go_wp2_with fail
  refine (seven_ok _).mono ?_
  rintro e w2 ⟨rfl, hb2⟩
  have HB2 : Hid (Below w.heap.size w w2) := HB1.out.trans (hb2.mono HB1.out.size)
  clear hb2
  go_wp2_with fail
  go_ret
  exact ⟨rfl, HB2.out⟩
set_option maxRecDepth 100000 in
set_option maxHeartbeats 12800000 in
theorem steps_in (w : World) (ao : Option Addr) (len cap : Nat) (f : Nat → Sp) (hl : len ≤ 100) (hS : SSl w ao len f) : Calls Try.prog 3 #[.slice ao len cap] w fun e w' => e = .returned (.bool true) ∧ Below w.heap.size w w' := by
  obtain ⟨b, hb⟩ : ∃ b, b = w.heap.size := ⟨_, rfl⟩
  have hI : (len : Int) ≤ 100 := by omega
  have HN : Hid (Calls Try.prog 7 #[] w fun e w' => e = .returned (pq b) ∧ Pt w' b b zQ ∧ Below b w w') := by rw [hb]; exact new_ok w
  have HSb : Hid (∀ W, Below b w W → ∀ k, k < len → ∃ B off, ao = some ⟨B, off, none⟩ ∧ W.rangeAt B (off + k * 4) (f k).c') := fun W hW k hk => by
    rw [hb] at hW
    obtain ⟨B, off, h1, _, h2⟩ := (hS.below hW).at hk
    exact ⟨B, off, h1, h2⟩
  rw [← hb]
  clear hS hb
  go_enter Try.func3, Try.ntmps3
  go_wp2_with fail
  refine HN.out.mono ?_
  rintro e w1 ⟨rfl, ht1, hb1⟩
  have hl1 := ht1.lt
  have HT1 : Hid (Tw (w1.alloc (.cells #[.slice none 0 0] 29)) b b w1.heap.size []) := ⟨ht1.below (below_one w1 _), ⟨by omega, _, heap_last w1 _, World.ownsRow_nil _ _ 36 3⟩, fun m hm => by simp at hm⟩
  have HB1 : Hid (Below b w (w1.alloc (.cells #[.slice none 0 0] 29))) := hb1.trans ((below_one w1 _).mono (by omega))
  obtain ⟨R, hR⟩ : ∃ R, R = w1.heap.size := ⟨_, rfl⟩
  clear ht1 hb1 hl1
  go_wp2_with fail
  rw [← hR] at HT1 ⊢
  generalize w1.alloc (.cells #[.slice none 0 0] 29) = w2 at *
  clear hR
  go_loopw [28] (fun u wr => ∃ (k : Nat) (L : List Mg), k ≤ len ∧ u = i64 k ∧ Hid (Tw wr b b R L) ∧ Hid (Below b w wr)) (fun u _ => len - (intOf u).toNat)
  case atStart => exact ⟨0, _, by omega, rfl, HT1, HB1⟩
  case round =>
    obtain ⟨k, L, hk, rfl, HT, HB⟩ := hrel
    by_cases hlt : k < len
    · have hkI : (k : Int) < len := by omega
      obtain ⟨B, off, hao, hr⟩ := HSb.out wr HB.out k hlt
      subst hao
      obtain ⟨x, hx⟩ : ∃ x, x = f k := ⟨_, rfl⟩
      rw [← hx] at hr
      have c0 : wr.cell? ⟨B, off + k * 4, none⟩ = some (i64 x.what) := hr 0 _ rfl
      have c1 : wr.cell? ⟨B, off + k * 4 + 1, none⟩ = some (i64 x.a) := hr 1 _ rfl
      have c2 : wr.cell? ⟨B, off + k * 4 + 2, none⟩ = some (i64 x.b) := hr 2 _ rfl
      have c3 : wr.cell? ⟨B, off + k * 4 + 3, none⟩ = some (i64 x.wd) := hr 3 _ rfl
      have HX : Hid ((wr.alloc (spO x)).heap[wr.heap.size]? = some (spO x)) := heap_last wr _
      have HTV : Hid (Tw (wr.alloc (spO x)) b b R L) := HT.out.below (below_one wr _)
      have hbl := HT.out.r.los
      have HBV : Hid (Below b w (wr.alloc (spO x))) := HB.out.trans ((below_one wr _).mono hbl)
      clear hx hr
      go_upto_region 8 with fail
      obtain ⟨Z, hZ⟩ : ∃ Z, Z = wr.heap.size := ⟨_, rfl⟩
      rw [← hZ] at HX ⊢
      generalize wr.alloc (spO x) = V at *
      clear c0 c1 c2 c3 hZ hbl
      have HUP : Hid (∀ U : World, U.heap[Z]? = some (spO x) → (U.cell? ⟨Z, 1, none⟩ = some (i64 x.a) ∧ U.cell? ⟨Z, 2, none⟩ = some (i64 x.b) ∧ U.cell? ⟨Z, 3, none⟩ = some (i64 x.wd))) := fun U hU => ⟨blk_cell hU 1, blk_cell hU 2, blk_cell hU 3⟩
      have y0 : V.cell? ⟨Z, 0, none⟩ = some (i64 x.what) := blk_cell HX.out 0
      by_cases h0 : x.what = 0
      · have e0 : (x.what == 0) = true := by simp [h0]
        clear h0
        obtain ⟨X, L2, hok, hc1, hc2⟩ := send_both HTV.out x.a x.b x.wd
        have HOk := hid hok
        have HC1 := hid hc1
        have HC2 := hid hc2
        clear hok hc1 hc2
        go_upto_region 12 with fail
        obtain ⟨y1, y2, y3⟩ := HUP.out V HX.out
        go_region_held3 (fun U => U.cell? ⟨Z, 1, none⟩ = some (i64 x.a) ∧ U.cell? ⟨Z, 2, none⟩ = some (i64 x.b) ∧ U.cell? ⟨Z, 3, none⟩ = some (i64 x.wd)) (first | exact HUP.out _ HX.out | exact HUP.out _ HX3.out | exact HUP.out _ HX4.out)
          ((first
            | (go_at_call 9; refine (HC1.out _ (HTV.out.t.keep (fun _ _ _ h _ => h) : Pt V.drew b b (qF L))).mono ?_; rintro e w3 ⟨rfl, hk3, hf3⟩; have HX3 : Hid (w3.heap[Z]? = some (spO x)) := hf3.kept _ _ HX.out (by rfl); have HK3 := hid hk3; have HR3 : Hid (Rb w3 b R L) := HTV.out.r.fr' (w' := w3) (Fr.of_drew hf3) (by rfl) (by rfl); have HB3 : Hid (Below b w w3) := HBV.out.drew.trans hf3.below; clear hk3 hf3)
            | (go_at_call 10; refine (HC2.out _ HR3.out).mono ?_; rintro e w4 ⟨rfl, hb4, hf4⟩; have HX4 : Hid (w4.heap[Z]? = some (spO x)) := hf4.kept _ _ HX3.out (by rfl); have HT4 : Hid (Tw w4 b b R L2) := ⟨HK3.out.fr hf4 (by rfl) (by rfl), hb4, HOk.out⟩; have HB4 : Hid (Below b w w4) := HB3.out.trans hf4.below; clear hb4 hf4)))
        clear y1 y2 y3
        go_upto_region 22 with fail
        obtain ⟨Xa, hwa1, hwa2⟩ := waits_both HT4.out x.a
        obtain ⟨Xb, hwb1, hwb2⟩ := waits_both HT4.out x.b
        have HWA1 := hid hwa1
        have HWA2 := hid hwa2
        have HWB1 := hid hwb1
        have HWB2 := hid hwb2
        clear hwa1 hwa2 hwb1 hwb2
        have HS : Hid (SqX Z x w4.drew) := ⟨HX4.out⟩
        have HT0 : Hid (Tw w4.drew b b R _) := ⟨HT4.out.t.keep (fun _ _ _ h _ => h), HT4.out.r.same (fun _ _ _ h _ => h), HT4.out.ok⟩
        refine wp_region_noPanic ?_
        refine wp_region_last (SqX Z x) 19 (by kernel_rfl) ?_
        refine wpL_take 0 101 (pq b) [3, 7, 9] rfl rfl (by kernel_rfl) (by decide) (by kernel_rfl) (by kernel_rfl) (by kernel_rfl) (fun _ _ _ h => h) HS.out (by rfl) (fun W hW => by obtain ⟨s0⟩ := hW; have s1 := blk_cell s0 1; have s2 := blk_cell s0 2; go_simp) ?_
        simp only [Act.put, List.setIfInBounds_toArray, List.set_cons_zero, List.set_cons_succ]
        refine wpL_take 1 102 (.pointer (some ⟨Z, 1, none⟩)) [2, 3, 7, 9] rfl rfl (by kernel_rfl) (by decide) (by kernel_rfl) (by kernel_rfl) (by kernel_rfl) (fun _ _ _ h => h) HS.out (by rfl) (fun W hW => by obtain ⟨s0⟩ := hW; have s1 := blk_cell s0 1; have s2 := blk_cell s0 2; go_simp) ?_
        simp only [Act.put, List.setIfInBounds_toArray, List.set_cons_zero, List.set_cons_succ]
        refine wpL_take 2 103 (i64 x.a) [3, 7, 9] rfl rfl (by kernel_rfl) (by decide) (by kernel_rfl) (by kernel_rfl) (by kernel_rfl) (fun _ _ _ h => h) HS.out (by rfl) (fun W hW => by obtain ⟨s0⟩ := hW; have s1 := blk_cell s0 1; have s2 := blk_cell s0 2; go_simp) ?_
        simp only [Act.put, List.setIfInBounds_toArray, List.set_cons_zero, List.set_cons_succ]
        refine wpL_take 4 105 (pq R) [7, 9] rfl rfl (by kernel_rfl) (by decide) (by kernel_rfl) (by kernel_rfl) (by kernel_rfl) (fun _ _ _ h => h) HS.out (by rfl) (fun W hW => by obtain ⟨s0⟩ := hW; have s1 := blk_cell s0 1; have s2 := blk_cell s0 2; go_simp) ?_
        simp only [Act.put, List.setIfInBounds_toArray, List.set_cons_zero, List.set_cons_succ]
        refine wpL_take 5 106 (.pointer (some ⟨Z, 1, none⟩)) [6, 7, 9] rfl rfl (by kernel_rfl) (by decide) (by kernel_rfl) (by kernel_rfl) (by kernel_rfl) (fun _ _ _ h => h) HS.out (by rfl) (fun W hW => by obtain ⟨s0⟩ := hW; have s1 := blk_cell s0 1; have s2 := blk_cell s0 2; go_simp) ?_
        simp only [Act.put, List.setIfInBounds_toArray, List.set_cons_zero, List.set_cons_succ]
        refine wpL_take 6 107 (i64 x.a) [7, 9] rfl rfl (by kernel_rfl) (by decide) (by kernel_rfl) (by kernel_rfl) (by kernel_rfl) (fun _ _ _ h => h) HS.out (by rfl) (fun W hW => by obtain ⟨s0⟩ := hW; have s1 := blk_cell s0 1; have s2 := blk_cell s0 2; go_simp) ?_
        simp only [Act.put, List.setIfInBounds_toArray, List.set_cons_zero, List.set_cons_succ]
        refine wpL_one 3 rfl (by kernel_rfl) (by rfl) (fun K hK => ?_)
        go_simp
        refine (HWA1.out _ HT0.out.t).mono ?_
        rintro e v6 ⟨rfl, hv⟩
        replace hv := hv.symm
        subst hv
        go_simp
        refine hK.out _ _ (fun _ => HS.out) ?_
        clear hK K
        refine wpL_one 7 rfl (by kernel_rfl) (by rfl) (fun K hK => ?_)
        go_simp
        refine (HWA2.out _ HT0.out.r).mono ?_
        rintro e w7 ⟨rfl, hb7⟩
        have HX7 : Hid (w7.heap[Z]? = some (spO x)) := blk_below HS.out.x hb7
        have HT7 := hid (HT0.out.below hb7)
        have HS7 : Hid (SqX Z x w7) := ⟨HX7.out⟩
        have HB7 : Hid (Below b w w7) := HB4.out.drew.trans (hb7.mono HT0.out.r.los)
        clear hb7
        go_simp
        refine hK.out _ _ (fun _ => HS7.out) ?_
        clear hK K
        refine wpL_take 8 109 (.bool false) [9] rfl rfl (by kernel_rfl) (by decide) (by kernel_rfl) (by kernel_rfl) (by kernel_rfl) (fun _ _ _ h => h) HS7.out (by rfl) (fun W hW => by obtain ⟨s0⟩ := hW; have s1 := blk_cell s0 1; have s2 := blk_cell s0 2; go_simp) ?_
        simp only [Act.put, List.setIfInBounds_toArray, List.set_cons_zero, List.set_cons_succ]
        refine wpL_take 9 110 (.bool false) [] rfl rfl (by kernel_rfl) (by decide) (by kernel_rfl) (by kernel_rfl) (by kernel_rfl) (fun _ _ _ h => h) HS7.out (by rfl) (fun W hW => by obtain ⟨s0⟩ := hW; have s1 := blk_cell s0 1; have s2 := blk_cell s0 2; go_simp) ?_
        simp only [Act.put, List.setIfInBounds_toArray, List.set_cons_zero, List.set_cons_succ]
        refine wpL_take 10 111 (pq b) [13, 18] rfl rfl (by kernel_rfl) (by decide) (by kernel_rfl) (by kernel_rfl) (by kernel_rfl) (fun _ _ _ h => h) HS7.out (by rfl) (fun W hW => by obtain ⟨s0⟩ := hW; have s1 := blk_cell s0 1; have s2 := blk_cell s0 2; go_simp) ?_
        simp only [Act.put, List.setIfInBounds_toArray, List.set_cons_zero, List.set_cons_succ]
        refine wpL_take 11 112 (.pointer (some ⟨Z, 2, none⟩)) [12, 13, 18] rfl rfl (by kernel_rfl) (by decide) (by kernel_rfl) (by kernel_rfl) (by kernel_rfl) (fun _ _ _ h => h) HS7.out (by rfl) (fun W hW => by obtain ⟨s0⟩ := hW; have s1 := blk_cell s0 1; have s2 := blk_cell s0 2; go_simp) ?_
        simp only [Act.put, List.setIfInBounds_toArray, List.set_cons_zero, List.set_cons_succ]
        refine wpL_take 12 113 (i64 x.b) [13, 18] rfl rfl (by kernel_rfl) (by decide) (by kernel_rfl) (by kernel_rfl) (by kernel_rfl) (fun _ _ _ h => h) HS7.out (by rfl) (fun W hW => by obtain ⟨s0⟩ := hW; have s1 := blk_cell s0 1; have s2 := blk_cell s0 2; go_simp) ?_
        simp only [Act.put, List.setIfInBounds_toArray, List.set_cons_zero, List.set_cons_succ]
        refine wpL_take 14 115 (pq R) [17, 18] rfl rfl (by kernel_rfl) (by decide) (by kernel_rfl) (by kernel_rfl) (by kernel_rfl) (fun _ _ _ h => h) HS7.out (by rfl) (fun W hW => by obtain ⟨s0⟩ := hW; have s1 := blk_cell s0 1; have s2 := blk_cell s0 2; go_simp) ?_
        simp only [Act.put, List.setIfInBounds_toArray, List.set_cons_zero, List.set_cons_succ]
        refine wpL_take 15 116 (.pointer (some ⟨Z, 2, none⟩)) [16, 17, 18] rfl rfl (by kernel_rfl) (by decide) (by kernel_rfl) (by kernel_rfl) (by kernel_rfl) (fun _ _ _ h => h) HS7.out (by rfl) (fun W hW => by obtain ⟨s0⟩ := hW; have s1 := blk_cell s0 1; have s2 := blk_cell s0 2; go_simp) ?_
        simp only [Act.put, List.setIfInBounds_toArray, List.set_cons_zero, List.set_cons_succ]
        refine wpL_take 16 117 (i64 x.b) [17, 18] rfl rfl (by kernel_rfl) (by decide) (by kernel_rfl) (by kernel_rfl) (by kernel_rfl) (fun _ _ _ h => h) HS7.out (by rfl) (fun W hW => by obtain ⟨s0⟩ := hW; have s1 := blk_cell s0 1; have s2 := blk_cell s0 2; go_simp) ?_
        simp only [Act.put, List.setIfInBounds_toArray, List.set_cons_zero, List.set_cons_succ]
        refine wpL_one 13 rfl (by kernel_rfl) (by rfl) (fun K hK => ?_)
        go_simp
        refine (HWB1.out _ HT7.out.t).mono ?_
        rintro e v6 ⟨rfl, hv⟩
        replace hv := hv.symm
        subst hv
        go_simp
        refine hK.out _ _ (fun _ => HS7.out) ?_
        clear hK K
        refine wpL_one 17 rfl (by kernel_rfl) (by rfl) (fun K hK => ?_)
        go_simp
        refine (HWB2.out _ HT7.out.r).mono ?_
        rintro e w8 ⟨rfl, hb8⟩
        have HX8 : Hid (w8.heap[Z]? = some (spO x)) := blk_below HS7.out.x hb8
        have HT8 := hid (HT7.out.below hb8)
        have HS8 : Hid (SqX Z x w8) := ⟨HX8.out⟩
        have HB8 : Hid (Below b w w8) := HB7.out.trans (hb8.mono HT7.out.r.los)
        clear hb8
        go_simp
        refine hK.out _ _ (fun _ => HS8.out) ?_
        clear hK K
        refine wpL_take 18 119 (.bool false) [] rfl rfl (by kernel_rfl) (by decide) (by kernel_rfl) (by kernel_rfl) (by kernel_rfl) (fun _ _ _ h => h) HS8.out (by rfl) (fun W hW => by obtain ⟨s0⟩ := hW; have s1 := blk_cell s0 1; have s2 := blk_cell s0 2; go_simp) ?_
        simp only [Act.put, List.setIfInBounds_toArray, List.set_cons_zero, List.set_cons_succ]
        refine wpL_one 19 rfl (by kernel_rfl) (by rfl) (fun K hK => ?_)
        go_simp
        refine hK.out _ _ (fun h => absurd rfl h) ?_
        clear hK K
        refine wpL_done (by kernel_rfl) ?_
        refine NoPanic.normal ?_
        clear HS HS7 HS8 HX7 HX8 HT0 HT7 HB7 HWA1 HWA2 HWB1 HWB2
        go_wp2_with fail
        exact ⟨⟨k + 1, _, by omega, by go_num, HT8, HB8⟩, by simp [intOf]; omega⟩
      by_cases h1 : x.what = 1
      · have e0 : (x.what == 0) = false := by simp [h0]
        have e1 : (x.what == 1) = true := by simp [h1]
        clear h0 h1
        obtain ⟨X, L2, hok, hc1, hc2⟩ := send_both HTV.out x.a x.b x.wd
        have HOk := hid hok
        have HC1 := hid hc1
        have HC2 := hid hc2
        clear hok hc1 hc2
        go_upto_region 12 with fail
        obtain ⟨y1, y2, y3⟩ := HUP.out V HX.out
        go_region_held3 (fun U => U.cell? ⟨Z, 1, none⟩ = some (i64 x.a) ∧ U.cell? ⟨Z, 2, none⟩ = some (i64 x.b) ∧ U.cell? ⟨Z, 3, none⟩ = some (i64 x.wd)) (first | exact HUP.out _ HX.out | exact HUP.out _ HX3.out | exact HUP.out _ HX4.out)
          ((first
            | (go_at_call 9; refine (HC1.out _ (HTV.out.t.keep (fun _ _ _ h _ => h) : Pt V.drew b b (qF L))).mono ?_; rintro e w3 ⟨rfl, hk3, hf3⟩; have HX3 : Hid (w3.heap[Z]? = some (spO x)) := hf3.kept _ _ HX.out (by rfl); have HK3 := hid hk3; have HR3 : Hid (Rb w3 b R L) := HTV.out.r.fr' (w' := w3) (Fr.of_drew hf3) (by rfl) (by rfl); have HB3 : Hid (Below b w w3) := HBV.out.drew.trans hf3.below; clear hk3 hf3)
            | (go_at_call 10; refine (HC2.out _ HR3.out).mono ?_; rintro e w4 ⟨rfl, hb4, hf4⟩; have HX4 : Hid (w4.heap[Z]? = some (spO x)) := hf4.kept _ _ HX3.out (by rfl); have HT4 : Hid (Tw w4 b b R L2) := ⟨HK3.out.fr hf4 (by rfl) (by rfl), hb4, HOk.out⟩; have HB4 : Hid (Below b w w4) := HB3.out.trans hf4.below; clear hb4 hf4)))
        clear y1 y2 y3
        go_upto_region 22 with fail
        obtain ⟨Xa, hwa1, hwa2⟩ := waits_both HT4.out x.a
        obtain ⟨Xb, hwb1, hwb2⟩ := waits_both HT4.out x.b
        have HWA1 := hid hwa1
        have HWA2 := hid hwa2
        have HWB1 := hid hwb1
        have HWB2 := hid hwb2
        clear hwa1 hwa2 hwb1 hwb2
        have HS : Hid (SqX Z x w4.drew) := ⟨HX4.out⟩
        have HT0 : Hid (Tw w4.drew b b R _) := ⟨HT4.out.t.keep (fun _ _ _ h _ => h), HT4.out.r.same (fun _ _ _ h _ => h), HT4.out.ok⟩
        refine wp_region_noPanic ?_
        refine wp_region_last (SqX Z x) 19 (by kernel_rfl) ?_
        refine wpL_take 0 101 (pq b) [3, 7, 9] rfl rfl (by kernel_rfl) (by decide) (by kernel_rfl) (by kernel_rfl) (by kernel_rfl) (fun _ _ _ h => h) HS.out (by rfl) (fun W hW => by obtain ⟨s0⟩ := hW; have s1 := blk_cell s0 1; have s2 := blk_cell s0 2; go_simp) ?_
        simp only [Act.put, List.setIfInBounds_toArray, List.set_cons_zero, List.set_cons_succ]
        refine wpL_take 1 102 (.pointer (some ⟨Z, 1, none⟩)) [2, 3, 7, 9] rfl rfl (by kernel_rfl) (by decide) (by kernel_rfl) (by kernel_rfl) (by kernel_rfl) (fun _ _ _ h => h) HS.out (by rfl) (fun W hW => by obtain ⟨s0⟩ := hW; have s1 := blk_cell s0 1; have s2 := blk_cell s0 2; go_simp) ?_
        simp only [Act.put, List.setIfInBounds_toArray, List.set_cons_zero, List.set_cons_succ]
        refine wpL_take 2 103 (i64 x.a) [3, 7, 9] rfl rfl (by kernel_rfl) (by decide) (by kernel_rfl) (by kernel_rfl) (by kernel_rfl) (fun _ _ _ h => h) HS.out (by rfl) (fun W hW => by obtain ⟨s0⟩ := hW; have s1 := blk_cell s0 1; have s2 := blk_cell s0 2; go_simp) ?_
        simp only [Act.put, List.setIfInBounds_toArray, List.set_cons_zero, List.set_cons_succ]
        refine wpL_take 4 105 (pq R) [7, 9] rfl rfl (by kernel_rfl) (by decide) (by kernel_rfl) (by kernel_rfl) (by kernel_rfl) (fun _ _ _ h => h) HS.out (by rfl) (fun W hW => by obtain ⟨s0⟩ := hW; have s1 := blk_cell s0 1; have s2 := blk_cell s0 2; go_simp) ?_
        simp only [Act.put, List.setIfInBounds_toArray, List.set_cons_zero, List.set_cons_succ]
        refine wpL_take 5 106 (.pointer (some ⟨Z, 1, none⟩)) [6, 7, 9] rfl rfl (by kernel_rfl) (by decide) (by kernel_rfl) (by kernel_rfl) (by kernel_rfl) (fun _ _ _ h => h) HS.out (by rfl) (fun W hW => by obtain ⟨s0⟩ := hW; have s1 := blk_cell s0 1; have s2 := blk_cell s0 2; go_simp) ?_
        simp only [Act.put, List.setIfInBounds_toArray, List.set_cons_zero, List.set_cons_succ]
        refine wpL_take 6 107 (i64 x.a) [7, 9] rfl rfl (by kernel_rfl) (by decide) (by kernel_rfl) (by kernel_rfl) (by kernel_rfl) (fun _ _ _ h => h) HS.out (by rfl) (fun W hW => by obtain ⟨s0⟩ := hW; have s1 := blk_cell s0 1; have s2 := blk_cell s0 2; go_simp) ?_
        simp only [Act.put, List.setIfInBounds_toArray, List.set_cons_zero, List.set_cons_succ]
        refine wpL_one 3 rfl (by kernel_rfl) (by rfl) (fun K hK => ?_)
        go_simp
        refine (HWA1.out _ HT0.out.t).mono ?_
        rintro e v6 ⟨rfl, hv⟩
        replace hv := hv.symm
        subst hv
        go_simp
        refine hK.out _ _ (fun _ => HS.out) ?_
        clear hK K
        refine wpL_one 7 rfl (by kernel_rfl) (by rfl) (fun K hK => ?_)
        go_simp
        refine (HWA2.out _ HT0.out.r).mono ?_
        rintro e w7 ⟨rfl, hb7⟩
        have HX7 : Hid (w7.heap[Z]? = some (spO x)) := blk_below HS.out.x hb7
        have HT7 := hid (HT0.out.below hb7)
        have HS7 : Hid (SqX Z x w7) := ⟨HX7.out⟩
        have HB7 : Hid (Below b w w7) := HB4.out.drew.trans (hb7.mono HT0.out.r.los)
        clear hb7
        go_simp
        refine hK.out _ _ (fun _ => HS7.out) ?_
        clear hK K
        refine wpL_take 8 109 (.bool false) [9] rfl rfl (by kernel_rfl) (by decide) (by kernel_rfl) (by kernel_rfl) (by kernel_rfl) (fun _ _ _ h => h) HS7.out (by rfl) (fun W hW => by obtain ⟨s0⟩ := hW; have s1 := blk_cell s0 1; have s2 := blk_cell s0 2; go_simp) ?_
        simp only [Act.put, List.setIfInBounds_toArray, List.set_cons_zero, List.set_cons_succ]
        refine wpL_take 9 110 (.bool false) [] rfl rfl (by kernel_rfl) (by decide) (by kernel_rfl) (by kernel_rfl) (by kernel_rfl) (fun _ _ _ h => h) HS7.out (by rfl) (fun W hW => by obtain ⟨s0⟩ := hW; have s1 := blk_cell s0 1; have s2 := blk_cell s0 2; go_simp) ?_
        simp only [Act.put, List.setIfInBounds_toArray, List.set_cons_zero, List.set_cons_succ]
        refine wpL_take 10 111 (pq b) [13, 18] rfl rfl (by kernel_rfl) (by decide) (by kernel_rfl) (by kernel_rfl) (by kernel_rfl) (fun _ _ _ h => h) HS7.out (by rfl) (fun W hW => by obtain ⟨s0⟩ := hW; have s1 := blk_cell s0 1; have s2 := blk_cell s0 2; go_simp) ?_
        simp only [Act.put, List.setIfInBounds_toArray, List.set_cons_zero, List.set_cons_succ]
        refine wpL_take 11 112 (.pointer (some ⟨Z, 2, none⟩)) [12, 13, 18] rfl rfl (by kernel_rfl) (by decide) (by kernel_rfl) (by kernel_rfl) (by kernel_rfl) (fun _ _ _ h => h) HS7.out (by rfl) (fun W hW => by obtain ⟨s0⟩ := hW; have s1 := blk_cell s0 1; have s2 := blk_cell s0 2; go_simp) ?_
        simp only [Act.put, List.setIfInBounds_toArray, List.set_cons_zero, List.set_cons_succ]
        refine wpL_take 12 113 (i64 x.b) [13, 18] rfl rfl (by kernel_rfl) (by decide) (by kernel_rfl) (by kernel_rfl) (by kernel_rfl) (fun _ _ _ h => h) HS7.out (by rfl) (fun W hW => by obtain ⟨s0⟩ := hW; have s1 := blk_cell s0 1; have s2 := blk_cell s0 2; go_simp) ?_
        simp only [Act.put, List.setIfInBounds_toArray, List.set_cons_zero, List.set_cons_succ]
        refine wpL_take 14 115 (pq R) [17, 18] rfl rfl (by kernel_rfl) (by decide) (by kernel_rfl) (by kernel_rfl) (by kernel_rfl) (fun _ _ _ h => h) HS7.out (by rfl) (fun W hW => by obtain ⟨s0⟩ := hW; have s1 := blk_cell s0 1; have s2 := blk_cell s0 2; go_simp) ?_
        simp only [Act.put, List.setIfInBounds_toArray, List.set_cons_zero, List.set_cons_succ]
        refine wpL_take 15 116 (.pointer (some ⟨Z, 2, none⟩)) [16, 17, 18] rfl rfl (by kernel_rfl) (by decide) (by kernel_rfl) (by kernel_rfl) (by kernel_rfl) (fun _ _ _ h => h) HS7.out (by rfl) (fun W hW => by obtain ⟨s0⟩ := hW; have s1 := blk_cell s0 1; have s2 := blk_cell s0 2; go_simp) ?_
        simp only [Act.put, List.setIfInBounds_toArray, List.set_cons_zero, List.set_cons_succ]
        refine wpL_take 16 117 (i64 x.b) [17, 18] rfl rfl (by kernel_rfl) (by decide) (by kernel_rfl) (by kernel_rfl) (by kernel_rfl) (fun _ _ _ h => h) HS7.out (by rfl) (fun W hW => by obtain ⟨s0⟩ := hW; have s1 := blk_cell s0 1; have s2 := blk_cell s0 2; go_simp) ?_
        simp only [Act.put, List.setIfInBounds_toArray, List.set_cons_zero, List.set_cons_succ]
        refine wpL_one 13 rfl (by kernel_rfl) (by rfl) (fun K hK => ?_)
        go_simp
        refine (HWB1.out _ HT7.out.t).mono ?_
        rintro e v6 ⟨rfl, hv⟩
        replace hv := hv.symm
        subst hv
        go_simp
        refine hK.out _ _ (fun _ => HS7.out) ?_
        clear hK K
        refine wpL_one 17 rfl (by kernel_rfl) (by rfl) (fun K hK => ?_)
        go_simp
        refine (HWB2.out _ HT7.out.r).mono ?_
        rintro e w8 ⟨rfl, hb8⟩
        have HX8 : Hid (w8.heap[Z]? = some (spO x)) := blk_below HS7.out.x hb8
        have HT8 := hid (HT7.out.below hb8)
        have HS8 : Hid (SqX Z x w8) := ⟨HX8.out⟩
        have HB8 : Hid (Below b w w8) := HB7.out.trans (hb8.mono HT7.out.r.los)
        clear hb8
        go_simp
        refine hK.out _ _ (fun _ => HS8.out) ?_
        clear hK K
        refine wpL_take 18 119 (.bool false) [] rfl rfl (by kernel_rfl) (by decide) (by kernel_rfl) (by kernel_rfl) (by kernel_rfl) (fun _ _ _ h => h) HS8.out (by rfl) (fun W hW => by obtain ⟨s0⟩ := hW; have s1 := blk_cell s0 1; have s2 := blk_cell s0 2; go_simp) ?_
        simp only [Act.put, List.setIfInBounds_toArray, List.set_cons_zero, List.set_cons_succ]
        refine wpL_one 19 rfl (by kernel_rfl) (by rfl) (fun K hK => ?_)
        go_simp
        refine hK.out _ _ (fun h => absurd rfl h) ?_
        clear hK K
        refine wpL_done (by kernel_rfl) ?_
        refine NoPanic.normal ?_
        clear HS HS7 HS8 HX7 HX8 HT0 HT7 HB7 HWA1 HWA2 HWB1 HWB2
        go_wp2_with fail
        exact ⟨⟨k + 1, _, by omega, by go_num, HT8, HB8⟩, by simp [intOf]; omega⟩
      by_cases h2 : x.what = 2
      · have e0 : (x.what == 0) = false := by simp [h0]
        have e1 : (x.what == 1) = false := by simp [h1]
        have e2 : (x.what == 2) = true := by simp [h2]
        clear h0 h1 h2
        obtain ⟨X, L2, hok, hc1, hc2⟩ := send_both HTV.out x.a x.b x.wd
        have HOk := hid hok
        have HC1 := hid hc1
        have HC2 := hid hc2
        clear hok hc1 hc2
        go_upto_region 12 with fail
        obtain ⟨y1, y2, y3⟩ := HUP.out V HX.out
        go_region_held3 (fun U => U.cell? ⟨Z, 1, none⟩ = some (i64 x.a) ∧ U.cell? ⟨Z, 2, none⟩ = some (i64 x.b) ∧ U.cell? ⟨Z, 3, none⟩ = some (i64 x.wd)) (first | exact HUP.out _ HX.out | exact HUP.out _ HX3.out | exact HUP.out _ HX4.out)
          ((first
            | (go_at_call 9; refine (HC1.out _ (HTV.out.t.keep (fun _ _ _ h _ => h) : Pt V.drew b b (qF L))).mono ?_; rintro e w3 ⟨rfl, hk3, hf3⟩; have HX3 : Hid (w3.heap[Z]? = some (spO x)) := hf3.kept _ _ HX.out (by rfl); have HK3 := hid hk3; have HR3 : Hid (Rb w3 b R L) := HTV.out.r.fr' (w' := w3) (Fr.of_drew hf3) (by rfl) (by rfl); have HB3 : Hid (Below b w w3) := HBV.out.drew.trans hf3.below; clear hk3 hf3)
            | (go_at_call 10; refine (HC2.out _ HR3.out).mono ?_; rintro e w4 ⟨rfl, hb4, hf4⟩; have HX4 : Hid (w4.heap[Z]? = some (spO x)) := hf4.kept _ _ HX3.out (by rfl); have HT4 : Hid (Tw w4 b b R L2) := ⟨HK3.out.fr hf4 (by rfl) (by rfl), hb4, HOk.out⟩; have HB4 : Hid (Below b w w4) := HB3.out.trans hf4.below; clear hb4 hf4)))
        clear y1 y2 y3
        go_upto_region 22 with fail
        obtain ⟨Xa, hwa1, hwa2⟩ := waits_both HT4.out x.a
        obtain ⟨Xb, hwb1, hwb2⟩ := waits_both HT4.out x.b
        have HWA1 := hid hwa1
        have HWA2 := hid hwa2
        have HWB1 := hid hwb1
        have HWB2 := hid hwb2
        clear hwa1 hwa2 hwb1 hwb2
        have HS : Hid (SqX Z x w4.drew) := ⟨HX4.out⟩
        have HT0 : Hid (Tw w4.drew b b R _) := ⟨HT4.out.t.keep (fun _ _ _ h _ => h), HT4.out.r.same (fun _ _ _ h _ => h), HT4.out.ok⟩
        refine wp_region_noPanic ?_
        refine wp_region_last (SqX Z x) 19 (by kernel_rfl) ?_
        refine wpL_take 0 101 (pq b) [3, 7, 9] rfl rfl (by kernel_rfl) (by decide) (by kernel_rfl) (by kernel_rfl) (by kernel_rfl) (fun _ _ _ h => h) HS.out (by rfl) (fun W hW => by obtain ⟨s0⟩ := hW; have s1 := blk_cell s0 1; have s2 := blk_cell s0 2; go_simp) ?_
        simp only [Act.put, List.setIfInBounds_toArray, List.set_cons_zero, List.set_cons_succ]
        refine wpL_take 1 102 (.pointer (some ⟨Z, 1, none⟩)) [2, 3, 7, 9] rfl rfl (by kernel_rfl) (by decide) (by kernel_rfl) (by kernel_rfl) (by kernel_rfl) (fun _ _ _ h => h) HS.out (by rfl) (fun W hW => by obtain ⟨s0⟩ := hW; have s1 := blk_cell s0 1; have s2 := blk_cell s0 2; go_simp) ?_
        simp only [Act.put, List.setIfInBounds_toArray, List.set_cons_zero, List.set_cons_succ]
        refine wpL_take 2 103 (i64 x.a) [3, 7, 9] rfl rfl (by kernel_rfl) (by decide) (by kernel_rfl) (by kernel_rfl) (by kernel_rfl) (fun _ _ _ h => h) HS.out (by rfl) (fun W hW => by obtain ⟨s0⟩ := hW; have s1 := blk_cell s0 1; have s2 := blk_cell s0 2; go_simp) ?_
        simp only [Act.put, List.setIfInBounds_toArray, List.set_cons_zero, List.set_cons_succ]
        refine wpL_take 4 105 (pq R) [7, 9] rfl rfl (by kernel_rfl) (by decide) (by kernel_rfl) (by kernel_rfl) (by kernel_rfl) (fun _ _ _ h => h) HS.out (by rfl) (fun W hW => by obtain ⟨s0⟩ := hW; have s1 := blk_cell s0 1; have s2 := blk_cell s0 2; go_simp) ?_
        simp only [Act.put, List.setIfInBounds_toArray, List.set_cons_zero, List.set_cons_succ]
        refine wpL_take 5 106 (.pointer (some ⟨Z, 1, none⟩)) [6, 7, 9] rfl rfl (by kernel_rfl) (by decide) (by kernel_rfl) (by kernel_rfl) (by kernel_rfl) (fun _ _ _ h => h) HS.out (by rfl) (fun W hW => by obtain ⟨s0⟩ := hW; have s1 := blk_cell s0 1; have s2 := blk_cell s0 2; go_simp) ?_
        simp only [Act.put, List.setIfInBounds_toArray, List.set_cons_zero, List.set_cons_succ]
        refine wpL_take 6 107 (i64 x.a) [7, 9] rfl rfl (by kernel_rfl) (by decide) (by kernel_rfl) (by kernel_rfl) (by kernel_rfl) (fun _ _ _ h => h) HS.out (by rfl) (fun W hW => by obtain ⟨s0⟩ := hW; have s1 := blk_cell s0 1; have s2 := blk_cell s0 2; go_simp) ?_
        simp only [Act.put, List.setIfInBounds_toArray, List.set_cons_zero, List.set_cons_succ]
        refine wpL_one 3 rfl (by kernel_rfl) (by rfl) (fun K hK => ?_)
        go_simp
        refine (HWA1.out _ HT0.out.t).mono ?_
        rintro e v6 ⟨rfl, hv⟩
        replace hv := hv.symm
        subst hv
        go_simp
        refine hK.out _ _ (fun _ => HS.out) ?_
        clear hK K
        refine wpL_one 7 rfl (by kernel_rfl) (by rfl) (fun K hK => ?_)
        go_simp
        refine (HWA2.out _ HT0.out.r).mono ?_
        rintro e w7 ⟨rfl, hb7⟩
        have HX7 : Hid (w7.heap[Z]? = some (spO x)) := blk_below HS.out.x hb7
        have HT7 := hid (HT0.out.below hb7)
        have HS7 : Hid (SqX Z x w7) := ⟨HX7.out⟩
        have HB7 : Hid (Below b w w7) := HB4.out.drew.trans (hb7.mono HT0.out.r.los)
        clear hb7
        go_simp
        refine hK.out _ _ (fun _ => HS7.out) ?_
        clear hK K
        refine wpL_take 8 109 (.bool false) [9] rfl rfl (by kernel_rfl) (by decide) (by kernel_rfl) (by kernel_rfl) (by kernel_rfl) (fun _ _ _ h => h) HS7.out (by rfl) (fun W hW => by obtain ⟨s0⟩ := hW; have s1 := blk_cell s0 1; have s2 := blk_cell s0 2; go_simp) ?_
        simp only [Act.put, List.setIfInBounds_toArray, List.set_cons_zero, List.set_cons_succ]
        refine wpL_take 9 110 (.bool false) [] rfl rfl (by kernel_rfl) (by decide) (by kernel_rfl) (by kernel_rfl) (by kernel_rfl) (fun _ _ _ h => h) HS7.out (by rfl) (fun W hW => by obtain ⟨s0⟩ := hW; have s1 := blk_cell s0 1; have s2 := blk_cell s0 2; go_simp) ?_
        simp only [Act.put, List.setIfInBounds_toArray, List.set_cons_zero, List.set_cons_succ]
        refine wpL_take 10 111 (pq b) [13, 18] rfl rfl (by kernel_rfl) (by decide) (by kernel_rfl) (by kernel_rfl) (by kernel_rfl) (fun _ _ _ h => h) HS7.out (by rfl) (fun W hW => by obtain ⟨s0⟩ := hW; have s1 := blk_cell s0 1; have s2 := blk_cell s0 2; go_simp) ?_
        simp only [Act.put, List.setIfInBounds_toArray, List.set_cons_zero, List.set_cons_succ]
        refine wpL_take 11 112 (.pointer (some ⟨Z, 2, none⟩)) [12, 13, 18] rfl rfl (by kernel_rfl) (by decide) (by kernel_rfl) (by kernel_rfl) (by kernel_rfl) (fun _ _ _ h => h) HS7.out (by rfl) (fun W hW => by obtain ⟨s0⟩ := hW; have s1 := blk_cell s0 1; have s2 := blk_cell s0 2; go_simp) ?_
        simp only [Act.put, List.setIfInBounds_toArray, List.set_cons_zero, List.set_cons_succ]
        refine wpL_take 12 113 (i64 x.b) [13, 18] rfl rfl (by kernel_rfl) (by decide) (by kernel_rfl) (by kernel_rfl) (by kernel_rfl) (fun _ _ _ h => h) HS7.out (by rfl) (fun W hW => by obtain ⟨s0⟩ := hW; have s1 := blk_cell s0 1; have s2 := blk_cell s0 2; go_simp) ?_
        simp only [Act.put, List.setIfInBounds_toArray, List.set_cons_zero, List.set_cons_succ]
        refine wpL_take 14 115 (pq R) [17, 18] rfl rfl (by kernel_rfl) (by decide) (by kernel_rfl) (by kernel_rfl) (by kernel_rfl) (fun _ _ _ h => h) HS7.out (by rfl) (fun W hW => by obtain ⟨s0⟩ := hW; have s1 := blk_cell s0 1; have s2 := blk_cell s0 2; go_simp) ?_
        simp only [Act.put, List.setIfInBounds_toArray, List.set_cons_zero, List.set_cons_succ]
        refine wpL_take 15 116 (.pointer (some ⟨Z, 2, none⟩)) [16, 17, 18] rfl rfl (by kernel_rfl) (by decide) (by kernel_rfl) (by kernel_rfl) (by kernel_rfl) (fun _ _ _ h => h) HS7.out (by rfl) (fun W hW => by obtain ⟨s0⟩ := hW; have s1 := blk_cell s0 1; have s2 := blk_cell s0 2; go_simp) ?_
        simp only [Act.put, List.setIfInBounds_toArray, List.set_cons_zero, List.set_cons_succ]
        refine wpL_take 16 117 (i64 x.b) [17, 18] rfl rfl (by kernel_rfl) (by decide) (by kernel_rfl) (by kernel_rfl) (by kernel_rfl) (fun _ _ _ h => h) HS7.out (by rfl) (fun W hW => by obtain ⟨s0⟩ := hW; have s1 := blk_cell s0 1; have s2 := blk_cell s0 2; go_simp) ?_
        simp only [Act.put, List.setIfInBounds_toArray, List.set_cons_zero, List.set_cons_succ]
        refine wpL_one 13 rfl (by kernel_rfl) (by rfl) (fun K hK => ?_)
        go_simp
        refine (HWB1.out _ HT7.out.t).mono ?_
        rintro e v6 ⟨rfl, hv⟩
        replace hv := hv.symm
        subst hv
        go_simp
        refine hK.out _ _ (fun _ => HS7.out) ?_
        clear hK K
        refine wpL_one 17 rfl (by kernel_rfl) (by rfl) (fun K hK => ?_)
        go_simp
        refine (HWB2.out _ HT7.out.r).mono ?_
        rintro e w8 ⟨rfl, hb8⟩
        have HX8 : Hid (w8.heap[Z]? = some (spO x)) := blk_below HS7.out.x hb8
        have HT8 := hid (HT7.out.below hb8)
        have HS8 : Hid (SqX Z x w8) := ⟨HX8.out⟩
        have HB8 : Hid (Below b w w8) := HB7.out.trans (hb8.mono HT7.out.r.los)
        clear hb8
        go_simp
        refine hK.out _ _ (fun _ => HS8.out) ?_
        clear hK K
        refine wpL_take 18 119 (.bool false) [] rfl rfl (by kernel_rfl) (by decide) (by kernel_rfl) (by kernel_rfl) (by kernel_rfl) (fun _ _ _ h => h) HS8.out (by rfl) (fun W hW => by obtain ⟨s0⟩ := hW; have s1 := blk_cell s0 1; have s2 := blk_cell s0 2; go_simp) ?_
        simp only [Act.put, List.setIfInBounds_toArray, List.set_cons_zero, List.set_cons_succ]
        refine wpL_one 19 rfl (by kernel_rfl) (by rfl) (fun K hK => ?_)
        go_simp
        refine hK.out _ _ (fun h => absurd rfl h) ?_
        clear hK K
        refine wpL_done (by kernel_rfl) ?_
        refine NoPanic.normal ?_
        clear HS HS7 HS8 HX7 HX8 HT0 HT7 HB7 HWA1 HWA2 HWB1 HWB2
        go_wp2_with fail
        exact ⟨⟨k + 1, _, by omega, by go_num, HT8, HB8⟩, by simp [intOf]; omega⟩
      by_cases h3 : x.what = 3
      · have e0 : (x.what == 0) = false := by simp [h0]
        have e1 : (x.what == 1) = false := by simp [h1]
        have e2 : (x.what == 2) = false := by simp [h2]
        have e3 : (x.what == 3) = true := by simp [h3]
        clear h0 h1 h2 h3
        obtain ⟨F, D, X, T, L2, hok, hD0, hD1, hc1, hc2⟩ := recv_both HTV.out x.a
        have HOk := hid hok
        have HC1 := hid hc1
        have HC2 := hid hc2
        clear hok hc1 hc2
        have y1 : V.cell? ⟨Z, 1, none⟩ = some (i64 x.a) := (HUP.out V HX.out).1
        go_wp2_with fail
        refine (HC1.out _ HTV.out.t).mono ?_
        rintro e w3 ⟨rfl, hk3, hf3⟩
        have HX3 : Hid ((w3.alloc (msO (F, D))).heap[Z]? = some (spO x)) := blk_alloc (hf3.kept _ _ HX.out (by rfl)) _
        have HM3 : Hid ((w3.alloc (msO (F, D))).heap[w3.heap.size]? = some (msO (F, D))) := heap_last w3 _
        have HK3 : Hid (Pt (w3.alloc (msO (F, D))) b b (qF L2)) := hk3.below (below_one w3 _)
        have HR3 : Hid (Rb (w3.alloc (msO (F, D))) b R L) := (HTV.out.r.fr' (w' := w3) hf3 (by rfl) (by rfl)).below (below_one w3 _)
        have HB3 : Hid (Below b w (w3.alloc (msO (F, D)))) := (HBV.out.trans hf3.below).trans ((below_one w3 _).mono hk3.los)
        clear hk3 hf3 y1 y0
        go_upto_region 16 with fail
        generalize w3.alloc (msO (F, D)) = U3 at *
        have y1 : U3.cell? ⟨Z, 1, none⟩ = some (i64 x.a) := (HUP.out U3 HX3.out).1
        go_wp2_with fail
        refine (HC2.out _ HR3.out).mono ?_
        rintro e w4 ⟨rfl, hb4, hf4⟩
        have HX4 : Hid ((w4.alloc (mgO ⟨F, T, D⟩)).heap[Z]? = some (spO x)) := blk_alloc (hf4.kept _ _ HX3.out (by rfl)) _
        have HM4 : Hid ((w4.alloc (mgO ⟨F, T, D⟩)).heap[w3.heap.size]? = some (msO (F, D))) := blk_alloc (hf4.kept _ _ HM3.out (by rfl)) _
        have HN4 : Hid ((w4.alloc (mgO ⟨F, T, D⟩)).heap[w4.heap.size]? = some (mgO ⟨F, T, D⟩)) := heap_last w4 _
        have HT4 : Hid (Tw (w4.alloc (mgO ⟨F, T, D⟩)) b b R L2) := Tw.below ⟨HK3.out.fr hf4 (by rfl) (by rfl), hb4, HOk.out⟩ (below_one w4 _)
        have HB4 : Hid (Below b w (w4.alloc (mgO ⟨F, T, D⟩))) := (HB3.out.trans hf4.below).trans ((below_one w4 _).mono hb4.los)
        clear hb4 hf4 y1
        go_upto_region 17 with fail
        generalize w4.alloc (mgO ⟨F, T, D⟩) = U4 at *
        have u0 : U4.cell? ⟨w3.heap.size, 0, none⟩ = some (i64 F) := blk_cell HM4.out 0
        have u1 : U4.cell? ⟨w3.heap.size, 1, none⟩ = some (u16v D) := blk_cell HM4.out 1
        have v0 : U4.cell? ⟨w4.heap.size, 0, none⟩ = some (i64 F) := blk_cell HN4.out 0
        have v2 : U4.cell? ⟨w4.heap.size, 2, none⟩ = some (i64 D) := blk_cell HN4.out 2
        go_upto_region 22 with fail
        clear u0 u1 v0 v2
        obtain ⟨Xa, hwa1, hwa2⟩ := waits_both HT4.out x.a
        obtain ⟨Xb, hwb1, hwb2⟩ := waits_both HT4.out x.b
        have HWA1 := hid hwa1
        have HWA2 := hid hwa2
        have HWB1 := hid hwb1
        have HWB2 := hid hwb2
        clear hwa1 hwa2 hwb1 hwb2
        have HS : Hid (SqX Z x U4.drew) := ⟨HX4.out⟩
        have HT0 : Hid (Tw U4.drew b b R _) := ⟨HT4.out.t.keep (fun _ _ _ h _ => h), HT4.out.r.same (fun _ _ _ h _ => h), HT4.out.ok⟩
        refine wp_region_noPanic ?_
        refine wp_region_last (SqX Z x) 19 (by kernel_rfl) ?_
        refine wpL_take 0 101 (pq b) [3, 7, 9] rfl rfl (by kernel_rfl) (by decide) (by kernel_rfl) (by kernel_rfl) (by kernel_rfl) (fun _ _ _ h => h) HS.out (by rfl) (fun W hW => by obtain ⟨s0⟩ := hW; have s1 := blk_cell s0 1; have s2 := blk_cell s0 2; go_simp) ?_
        simp only [Act.put, List.setIfInBounds_toArray, List.set_cons_zero, List.set_cons_succ]
        refine wpL_take 1 102 (.pointer (some ⟨Z, 1, none⟩)) [2, 3, 7, 9] rfl rfl (by kernel_rfl) (by decide) (by kernel_rfl) (by kernel_rfl) (by kernel_rfl) (fun _ _ _ h => h) HS.out (by rfl) (fun W hW => by obtain ⟨s0⟩ := hW; have s1 := blk_cell s0 1; have s2 := blk_cell s0 2; go_simp) ?_
        simp only [Act.put, List.setIfInBounds_toArray, List.set_cons_zero, List.set_cons_succ]
        refine wpL_take 2 103 (i64 x.a) [3, 7, 9] rfl rfl (by kernel_rfl) (by decide) (by kernel_rfl) (by kernel_rfl) (by kernel_rfl) (fun _ _ _ h => h) HS.out (by rfl) (fun W hW => by obtain ⟨s0⟩ := hW; have s1 := blk_cell s0 1; have s2 := blk_cell s0 2; go_simp) ?_
        simp only [Act.put, List.setIfInBounds_toArray, List.set_cons_zero, List.set_cons_succ]
        refine wpL_take 4 105 (pq R) [7, 9] rfl rfl (by kernel_rfl) (by decide) (by kernel_rfl) (by kernel_rfl) (by kernel_rfl) (fun _ _ _ h => h) HS.out (by rfl) (fun W hW => by obtain ⟨s0⟩ := hW; have s1 := blk_cell s0 1; have s2 := blk_cell s0 2; go_simp) ?_
        simp only [Act.put, List.setIfInBounds_toArray, List.set_cons_zero, List.set_cons_succ]
        refine wpL_take 5 106 (.pointer (some ⟨Z, 1, none⟩)) [6, 7, 9] rfl rfl (by kernel_rfl) (by decide) (by kernel_rfl) (by kernel_rfl) (by kernel_rfl) (fun _ _ _ h => h) HS.out (by rfl) (fun W hW => by obtain ⟨s0⟩ := hW; have s1 := blk_cell s0 1; have s2 := blk_cell s0 2; go_simp) ?_
        simp only [Act.put, List.setIfInBounds_toArray, List.set_cons_zero, List.set_cons_succ]
        refine wpL_take 6 107 (i64 x.a) [7, 9] rfl rfl (by kernel_rfl) (by decide) (by kernel_rfl) (by kernel_rfl) (by kernel_rfl) (fun _ _ _ h => h) HS.out (by rfl) (fun W hW => by obtain ⟨s0⟩ := hW; have s1 := blk_cell s0 1; have s2 := blk_cell s0 2; go_simp) ?_
        simp only [Act.put, List.setIfInBounds_toArray, List.set_cons_zero, List.set_cons_succ]
        refine wpL_one 3 rfl (by kernel_rfl) (by rfl) (fun K hK => ?_)
        go_simp
        refine (HWA1.out _ HT0.out.t).mono ?_
        rintro e v6 ⟨rfl, hv⟩
        replace hv := hv.symm
        subst hv
        go_simp
        refine hK.out _ _ (fun _ => HS.out) ?_
        clear hK K
        refine wpL_one 7 rfl (by kernel_rfl) (by rfl) (fun K hK => ?_)
        go_simp
        refine (HWA2.out _ HT0.out.r).mono ?_
        rintro e w7 ⟨rfl, hb7⟩
        have HX7 : Hid (w7.heap[Z]? = some (spO x)) := blk_below HS.out.x hb7
        have HT7 := hid (HT0.out.below hb7)
        have HS7 : Hid (SqX Z x w7) := ⟨HX7.out⟩
        have HB7 : Hid (Below b w w7) := HB4.out.drew.trans (hb7.mono HT0.out.r.los)
        clear hb7
        go_simp
        refine hK.out _ _ (fun _ => HS7.out) ?_
        clear hK K
        refine wpL_take 8 109 (.bool false) [9] rfl rfl (by kernel_rfl) (by decide) (by kernel_rfl) (by kernel_rfl) (by kernel_rfl) (fun _ _ _ h => h) HS7.out (by rfl) (fun W hW => by obtain ⟨s0⟩ := hW; have s1 := blk_cell s0 1; have s2 := blk_cell s0 2; go_simp) ?_
        simp only [Act.put, List.setIfInBounds_toArray, List.set_cons_zero, List.set_cons_succ]
        refine wpL_take 9 110 (.bool false) [] rfl rfl (by kernel_rfl) (by decide) (by kernel_rfl) (by kernel_rfl) (by kernel_rfl) (fun _ _ _ h => h) HS7.out (by rfl) (fun W hW => by obtain ⟨s0⟩ := hW; have s1 := blk_cell s0 1; have s2 := blk_cell s0 2; go_simp) ?_
        simp only [Act.put, List.setIfInBounds_toArray, List.set_cons_zero, List.set_cons_succ]
        refine wpL_take 10 111 (pq b) [13, 18] rfl rfl (by kernel_rfl) (by decide) (by kernel_rfl) (by kernel_rfl) (by kernel_rfl) (fun _ _ _ h => h) HS7.out (by rfl) (fun W hW => by obtain ⟨s0⟩ := hW; have s1 := blk_cell s0 1; have s2 := blk_cell s0 2; go_simp) ?_
        simp only [Act.put, List.setIfInBounds_toArray, List.set_cons_zero, List.set_cons_succ]
        refine wpL_take 11 112 (.pointer (some ⟨Z, 2, none⟩)) [12, 13, 18] rfl rfl (by kernel_rfl) (by decide) (by kernel_rfl) (by kernel_rfl) (by kernel_rfl) (fun _ _ _ h => h) HS7.out (by rfl) (fun W hW => by obtain ⟨s0⟩ := hW; have s1 := blk_cell s0 1; have s2 := blk_cell s0 2; go_simp) ?_
        simp only [Act.put, List.setIfInBounds_toArray, List.set_cons_zero, List.set_cons_succ]
        refine wpL_take 12 113 (i64 x.b) [13, 18] rfl rfl (by kernel_rfl) (by decide) (by kernel_rfl) (by kernel_rfl) (by kernel_rfl) (fun _ _ _ h => h) HS7.out (by rfl) (fun W hW => by obtain ⟨s0⟩ := hW; have s1 := blk_cell s0 1; have s2 := blk_cell s0 2; go_simp) ?_
        simp only [Act.put, List.setIfInBounds_toArray, List.set_cons_zero, List.set_cons_succ]
        refine wpL_take 14 115 (pq R) [17, 18] rfl rfl (by kernel_rfl) (by decide) (by kernel_rfl) (by kernel_rfl) (by kernel_rfl) (fun _ _ _ h => h) HS7.out (by rfl) (fun W hW => by obtain ⟨s0⟩ := hW; have s1 := blk_cell s0 1; have s2 := blk_cell s0 2; go_simp) ?_
        simp only [Act.put, List.setIfInBounds_toArray, List.set_cons_zero, List.set_cons_succ]
        refine wpL_take 15 116 (.pointer (some ⟨Z, 2, none⟩)) [16, 17, 18] rfl rfl (by kernel_rfl) (by decide) (by kernel_rfl) (by kernel_rfl) (by kernel_rfl) (fun _ _ _ h => h) HS7.out (by rfl) (fun W hW => by obtain ⟨s0⟩ := hW; have s1 := blk_cell s0 1; have s2 := blk_cell s0 2; go_simp) ?_
        simp only [Act.put, List.setIfInBounds_toArray, List.set_cons_zero, List.set_cons_succ]
        refine wpL_take 16 117 (i64 x.b) [17, 18] rfl rfl (by kernel_rfl) (by decide) (by kernel_rfl) (by kernel_rfl) (by kernel_rfl) (fun _ _ _ h => h) HS7.out (by rfl) (fun W hW => by obtain ⟨s0⟩ := hW; have s1 := blk_cell s0 1; have s2 := blk_cell s0 2; go_simp) ?_
        simp only [Act.put, List.setIfInBounds_toArray, List.set_cons_zero, List.set_cons_succ]
        refine wpL_one 13 rfl (by kernel_rfl) (by rfl) (fun K hK => ?_)
        go_simp
        refine (HWB1.out _ HT7.out.t).mono ?_
        rintro e v6 ⟨rfl, hv⟩
        replace hv := hv.symm
        subst hv
        go_simp
        refine hK.out _ _ (fun _ => HS7.out) ?_
        clear hK K
        refine wpL_one 17 rfl (by kernel_rfl) (by rfl) (fun K hK => ?_)
        go_simp
        refine (HWB2.out _ HT7.out.r).mono ?_
        rintro e w8 ⟨rfl, hb8⟩
        have HX8 : Hid (w8.heap[Z]? = some (spO x)) := blk_below HS7.out.x hb8
        have HT8 := hid (HT7.out.below hb8)
        have HS8 : Hid (SqX Z x w8) := ⟨HX8.out⟩
        have HB8 : Hid (Below b w w8) := HB7.out.trans (hb8.mono HT7.out.r.los)
        clear hb8
        go_simp
        refine hK.out _ _ (fun _ => HS8.out) ?_
        clear hK K
        refine wpL_take 18 119 (.bool false) [] rfl rfl (by kernel_rfl) (by decide) (by kernel_rfl) (by kernel_rfl) (by kernel_rfl) (fun _ _ _ h => h) HS8.out (by rfl) (fun W hW => by obtain ⟨s0⟩ := hW; have s1 := blk_cell s0 1; have s2 := blk_cell s0 2; go_simp) ?_
        simp only [Act.put, List.setIfInBounds_toArray, List.set_cons_zero, List.set_cons_succ]
        refine wpL_one 19 rfl (by kernel_rfl) (by rfl) (fun K hK => ?_)
        go_simp
        refine hK.out _ _ (fun h => absurd rfl h) ?_
        clear hK K
        refine wpL_done (by kernel_rfl) ?_
        refine NoPanic.normal ?_
        clear HS HS7 HS8 HX7 HX8 HT0 HT7 HB7 HWA1 HWA2 HWB1 HWB2
        go_wp2_with fail
        exact ⟨⟨k + 1, _, by omega, by go_num, HT8, HB8⟩, by simp [intOf]; omega⟩
      by_cases h4 : x.what = 4
      · have e0 : (x.what == 0) = false := by simp [h0]
        have e1 : (x.what == 1) = false := by simp [h1]
        have e2 : (x.what == 2) = false := by simp [h2]
        have e3 : (x.what == 3) = false := by simp [h3]
        have e4 : (x.what == 4) = true := by simp [h4]
        clear h0 h1 h2 h3 h4
        obtain ⟨X, L2, hok, hc1, hc2⟩ := clear_both HTV.out x.a
        have HOk := hid hok
        have HC1 := hid hc1
        have HC2 := hid hc2
        clear hok hc1 hc2
        go_upto_region 20 with fail
        obtain ⟨y1, y2, y3⟩ := HUP.out V HX.out
        go_region_held3 (fun U => U.cell? ⟨Z, 1, none⟩ = some (i64 x.a) ∧ U.cell? ⟨Z, 2, none⟩ = some (i64 x.b) ∧ U.cell? ⟨Z, 3, none⟩ = some (i64 x.wd)) (first | exact HUP.out _ HX.out | exact HUP.out _ HX3.out | exact HUP.out _ HX4.out)
          ((first
            | (go_at_call 13; refine (HC1.out _ (HTV.out.t.keep (fun _ _ _ h _ => h) : Pt V.drew b b (qF L))).mono ?_; rintro e w3 ⟨rfl, hk3, hf3⟩; have HX3 : Hid (w3.heap[Z]? = some (spO x)) := hf3.kept _ _ HX.out (by rfl); have HK3 := hid hk3; have HR3 : Hid (Rb w3 b R L) := HTV.out.r.fr' (w' := w3) (Fr.of_drew hf3) (by rfl) (by rfl); have HB3 : Hid (Below b w w3) := HBV.out.drew.trans hf3.below; clear hk3 hf3)
            | (go_at_call 14; refine (HC2.out _ HR3.out).mono ?_; rintro e w4 ⟨rfl, hb4, hf4⟩; have HX4 : Hid (w4.heap[Z]? = some (spO x)) := hf4.kept _ _ HX3.out (by rfl); have HT4 : Hid (Tw w4 b b R L2) := ⟨HK3.out.fr hf4 (by rfl) (by rfl), hb4, HOk.out⟩; have HB4 : Hid (Below b w w4) := HB3.out.trans hf4.below; clear hb4 hf4)))
        clear y1 y2 y3
        go_upto_region 22 with fail
        obtain ⟨Xa, hwa1, hwa2⟩ := waits_both HT4.out x.a
        obtain ⟨Xb, hwb1, hwb2⟩ := waits_both HT4.out x.b
        have HWA1 := hid hwa1
        have HWA2 := hid hwa2
        have HWB1 := hid hwb1
        have HWB2 := hid hwb2
        clear hwa1 hwa2 hwb1 hwb2
        have HS : Hid (SqX Z x w4.drew) := ⟨HX4.out⟩
        have HT0 : Hid (Tw w4.drew b b R _) := ⟨HT4.out.t.keep (fun _ _ _ h _ => h), HT4.out.r.same (fun _ _ _ h _ => h), HT4.out.ok⟩
        refine wp_region_noPanic ?_
        refine wp_region_last (SqX Z x) 19 (by kernel_rfl) ?_
        refine wpL_take 0 101 (pq b) [3, 7, 9] rfl rfl (by kernel_rfl) (by decide) (by kernel_rfl) (by kernel_rfl) (by kernel_rfl) (fun _ _ _ h => h) HS.out (by rfl) (fun W hW => by obtain ⟨s0⟩ := hW; have s1 := blk_cell s0 1; have s2 := blk_cell s0 2; go_simp) ?_
        simp only [Act.put, List.setIfInBounds_toArray, List.set_cons_zero, List.set_cons_succ]
        refine wpL_take 1 102 (.pointer (some ⟨Z, 1, none⟩)) [2, 3, 7, 9] rfl rfl (by kernel_rfl) (by decide) (by kernel_rfl) (by kernel_rfl) (by kernel_rfl) (fun _ _ _ h => h) HS.out (by rfl) (fun W hW => by obtain ⟨s0⟩ := hW; have s1 := blk_cell s0 1; have s2 := blk_cell s0 2; go_simp) ?_
        simp only [Act.put, List.setIfInBounds_toArray, List.set_cons_zero, List.set_cons_succ]
        refine wpL_take 2 103 (i64 x.a) [3, 7, 9] rfl rfl (by kernel_rfl) (by decide) (by kernel_rfl) (by kernel_rfl) (by kernel_rfl) (fun _ _ _ h => h) HS.out (by rfl) (fun W hW => by obtain ⟨s0⟩ := hW; have s1 := blk_cell s0 1; have s2 := blk_cell s0 2; go_simp) ?_
        simp only [Act.put, List.setIfInBounds_toArray, List.set_cons_zero, List.set_cons_succ]
        refine wpL_take 4 105 (pq R) [7, 9] rfl rfl (by kernel_rfl) (by decide) (by kernel_rfl) (by kernel_rfl) (by kernel_rfl) (fun _ _ _ h => h) HS.out (by rfl) (fun W hW => by obtain ⟨s0⟩ := hW; have s1 := blk_cell s0 1; have s2 := blk_cell s0 2; go_simp) ?_
        simp only [Act.put, List.setIfInBounds_toArray, List.set_cons_zero, List.set_cons_succ]
        refine wpL_take 5 106 (.pointer (some ⟨Z, 1, none⟩)) [6, 7, 9] rfl rfl (by kernel_rfl) (by decide) (by kernel_rfl) (by kernel_rfl) (by kernel_rfl) (fun _ _ _ h => h) HS.out (by rfl) (fun W hW => by obtain ⟨s0⟩ := hW; have s1 := blk_cell s0 1; have s2 := blk_cell s0 2; go_simp) ?_
        simp only [Act.put, List.setIfInBounds_toArray, List.set_cons_zero, List.set_cons_succ]
        refine wpL_take 6 107 (i64 x.a) [7, 9] rfl rfl (by kernel_rfl) (by decide) (by kernel_rfl) (by kernel_rfl) (by kernel_rfl) (fun _ _ _ h => h) HS.out (by rfl) (fun W hW => by obtain ⟨s0⟩ := hW; have s1 := blk_cell s0 1; have s2 := blk_cell s0 2; go_simp) ?_
        simp only [Act.put, List.setIfInBounds_toArray, List.set_cons_zero, List.set_cons_succ]
        refine wpL_one 3 rfl (by kernel_rfl) (by rfl) (fun K hK => ?_)
        go_simp
        refine (HWA1.out _ HT0.out.t).mono ?_
        rintro e v6 ⟨rfl, hv⟩
        replace hv := hv.symm
        subst hv
        go_simp
        refine hK.out _ _ (fun _ => HS.out) ?_
        clear hK K
        refine wpL_one 7 rfl (by kernel_rfl) (by rfl) (fun K hK => ?_)
        go_simp
        refine (HWA2.out _ HT0.out.r).mono ?_
        rintro e w7 ⟨rfl, hb7⟩
        have HX7 : Hid (w7.heap[Z]? = some (spO x)) := blk_below HS.out.x hb7
        have HT7 := hid (HT0.out.below hb7)
        have HS7 : Hid (SqX Z x w7) := ⟨HX7.out⟩
        have HB7 : Hid (Below b w w7) := HB4.out.drew.trans (hb7.mono HT0.out.r.los)
        clear hb7
        go_simp
        refine hK.out _ _ (fun _ => HS7.out) ?_
        clear hK K
        refine wpL_take 8 109 (.bool false) [9] rfl rfl (by kernel_rfl) (by decide) (by kernel_rfl) (by kernel_rfl) (by kernel_rfl) (fun _ _ _ h => h) HS7.out (by rfl) (fun W hW => by obtain ⟨s0⟩ := hW; have s1 := blk_cell s0 1; have s2 := blk_cell s0 2; go_simp) ?_
        simp only [Act.put, List.setIfInBounds_toArray, List.set_cons_zero, List.set_cons_succ]
        refine wpL_take 9 110 (.bool false) [] rfl rfl (by kernel_rfl) (by decide) (by kernel_rfl) (by kernel_rfl) (by kernel_rfl) (fun _ _ _ h => h) HS7.out (by rfl) (fun W hW => by obtain ⟨s0⟩ := hW; have s1 := blk_cell s0 1; have s2 := blk_cell s0 2; go_simp) ?_
        simp only [Act.put, List.setIfInBounds_toArray, List.set_cons_zero, List.set_cons_succ]
        refine wpL_take 10 111 (pq b) [13, 18] rfl rfl (by kernel_rfl) (by decide) (by kernel_rfl) (by kernel_rfl) (by kernel_rfl) (fun _ _ _ h => h) HS7.out (by rfl) (fun W hW => by obtain ⟨s0⟩ := hW; have s1 := blk_cell s0 1; have s2 := blk_cell s0 2; go_simp) ?_
        simp only [Act.put, List.setIfInBounds_toArray, List.set_cons_zero, List.set_cons_succ]
        refine wpL_take 11 112 (.pointer (some ⟨Z, 2, none⟩)) [12, 13, 18] rfl rfl (by kernel_rfl) (by decide) (by kernel_rfl) (by kernel_rfl) (by kernel_rfl) (fun _ _ _ h => h) HS7.out (by rfl) (fun W hW => by obtain ⟨s0⟩ := hW; have s1 := blk_cell s0 1; have s2 := blk_cell s0 2; go_simp) ?_
        simp only [Act.put, List.setIfInBounds_toArray, List.set_cons_zero, List.set_cons_succ]
        refine wpL_take 12 113 (i64 x.b) [13, 18] rfl rfl (by kernel_rfl) (by decide) (by kernel_rfl) (by kernel_rfl) (by kernel_rfl) (fun _ _ _ h => h) HS7.out (by rfl) (fun W hW => by obtain ⟨s0⟩ := hW; have s1 := blk_cell s0 1; have s2 := blk_cell s0 2; go_simp) ?_
        simp only [Act.put, List.setIfInBounds_toArray, List.set_cons_zero, List.set_cons_succ]
        refine wpL_take 14 115 (pq R) [17, 18] rfl rfl (by kernel_rfl) (by decide) (by kernel_rfl) (by kernel_rfl) (by kernel_rfl) (fun _ _ _ h => h) HS7.out (by rfl) (fun W hW => by obtain ⟨s0⟩ := hW; have s1 := blk_cell s0 1; have s2 := blk_cell s0 2; go_simp) ?_
        simp only [Act.put, List.setIfInBounds_toArray, List.set_cons_zero, List.set_cons_succ]
        refine wpL_take 15 116 (.pointer (some ⟨Z, 2, none⟩)) [16, 17, 18] rfl rfl (by kernel_rfl) (by decide) (by kernel_rfl) (by kernel_rfl) (by kernel_rfl) (fun _ _ _ h => h) HS7.out (by rfl) (fun W hW => by obtain ⟨s0⟩ := hW; have s1 := blk_cell s0 1; have s2 := blk_cell s0 2; go_simp) ?_
        simp only [Act.put, List.setIfInBounds_toArray, List.set_cons_zero, List.set_cons_succ]
        refine wpL_take 16 117 (i64 x.b) [17, 18] rfl rfl (by kernel_rfl) (by decide) (by kernel_rfl) (by kernel_rfl) (by kernel_rfl) (fun _ _ _ h => h) HS7.out (by rfl) (fun W hW => by obtain ⟨s0⟩ := hW; have s1 := blk_cell s0 1; have s2 := blk_cell s0 2; go_simp) ?_
        simp only [Act.put, List.setIfInBounds_toArray, List.set_cons_zero, List.set_cons_succ]
        refine wpL_one 13 rfl (by kernel_rfl) (by rfl) (fun K hK => ?_)
        go_simp
        refine (HWB1.out _ HT7.out.t).mono ?_
        rintro e v6 ⟨rfl, hv⟩
        replace hv := hv.symm
        subst hv
        go_simp
        refine hK.out _ _ (fun _ => HS7.out) ?_
        clear hK K
        refine wpL_one 17 rfl (by kernel_rfl) (by rfl) (fun K hK => ?_)
        go_simp
        refine (HWB2.out _ HT7.out.r).mono ?_
        rintro e w8 ⟨rfl, hb8⟩
        have HX8 : Hid (w8.heap[Z]? = some (spO x)) := blk_below HS7.out.x hb8
        have HT8 := hid (HT7.out.below hb8)
        have HS8 : Hid (SqX Z x w8) := ⟨HX8.out⟩
        have HB8 : Hid (Below b w w8) := HB7.out.trans (hb8.mono HT7.out.r.los)
        clear hb8
        go_simp
        refine hK.out _ _ (fun _ => HS8.out) ?_
        clear hK K
        refine wpL_take 18 119 (.bool false) [] rfl rfl (by kernel_rfl) (by decide) (by kernel_rfl) (by kernel_rfl) (by kernel_rfl) (fun _ _ _ h => h) HS8.out (by rfl) (fun W hW => by obtain ⟨s0⟩ := hW; have s1 := blk_cell s0 1; have s2 := blk_cell s0 2; go_simp) ?_
        simp only [Act.put, List.setIfInBounds_toArray, List.set_cons_zero, List.set_cons_succ]
        refine wpL_one 19 rfl (by kernel_rfl) (by rfl) (fun K hK => ?_)
        go_simp
        refine hK.out _ _ (fun h => absurd rfl h) ?_
        clear hK K
        refine wpL_done (by kernel_rfl) ?_
        refine NoPanic.normal ?_
        clear HS HS7 HS8 HX7 HX8 HT0 HT7 HB7 HWA1 HWA2 HWB1 HWB2
        go_wp2_with fail
        exact ⟨⟨k + 1, _, by omega, by go_num, HT8, HB8⟩, by simp [intOf]; omega⟩
      · have e0 : (x.what == 0) = false := by simp [h0]
        have e1 : (x.what == 1) = false := by simp [h1]
        have e2 : (x.what == 2) = false := by simp [h2]
        have e3 : (x.what == 3) = false := by simp [h3]
        have e4 : (x.what == 4) = false := by simp [h4]
        clear h0 h1 h2 h3 h4
        go_upto_region 22 with fail
        obtain ⟨Xa, hwa1, hwa2⟩ := waits_both HTV.out x.a
        obtain ⟨Xb, hwb1, hwb2⟩ := waits_both HTV.out x.b
        have HWA1 := hid hwa1
        have HWA2 := hid hwa2
        have HWB1 := hid hwb1
        have HWB2 := hid hwb2
        clear hwa1 hwa2 hwb1 hwb2
        have HS : Hid (SqX Z x V.drew) := ⟨HX.out⟩
        have HT0 : Hid (Tw V.drew b b R _) := ⟨HTV.out.t.keep (fun _ _ _ h _ => h), HTV.out.r.same (fun _ _ _ h _ => h), HTV.out.ok⟩
        refine wp_region_noPanic ?_
        refine wp_region_last (SqX Z x) 19 (by kernel_rfl) ?_
        refine wpL_take 0 101 (pq b) [3, 7, 9] rfl rfl (by kernel_rfl) (by decide) (by kernel_rfl) (by kernel_rfl) (by kernel_rfl) (fun _ _ _ h => h) HS.out (by rfl) (fun W hW => by obtain ⟨s0⟩ := hW; have s1 := blk_cell s0 1; have s2 := blk_cell s0 2; go_simp) ?_
        simp only [Act.put, List.setIfInBounds_toArray, List.set_cons_zero, List.set_cons_succ]
        refine wpL_take 1 102 (.pointer (some ⟨Z, 1, none⟩)) [2, 3, 7, 9] rfl rfl (by kernel_rfl) (by decide) (by kernel_rfl) (by kernel_rfl) (by kernel_rfl) (fun _ _ _ h => h) HS.out (by rfl) (fun W hW => by obtain ⟨s0⟩ := hW; have s1 := blk_cell s0 1; have s2 := blk_cell s0 2; go_simp) ?_
        simp only [Act.put, List.setIfInBounds_toArray, List.set_cons_zero, List.set_cons_succ]
        refine wpL_take 2 103 (i64 x.a) [3, 7, 9] rfl rfl (by kernel_rfl) (by decide) (by kernel_rfl) (by kernel_rfl) (by kernel_rfl) (fun _ _ _ h => h) HS.out (by rfl) (fun W hW => by obtain ⟨s0⟩ := hW; have s1 := blk_cell s0 1; have s2 := blk_cell s0 2; go_simp) ?_
        simp only [Act.put, List.setIfInBounds_toArray, List.set_cons_zero, List.set_cons_succ]
        refine wpL_take 4 105 (pq R) [7, 9] rfl rfl (by kernel_rfl) (by decide) (by kernel_rfl) (by kernel_rfl) (by kernel_rfl) (fun _ _ _ h => h) HS.out (by rfl) (fun W hW => by obtain ⟨s0⟩ := hW; have s1 := blk_cell s0 1; have s2 := blk_cell s0 2; go_simp) ?_
        simp only [Act.put, List.setIfInBounds_toArray, List.set_cons_zero, List.set_cons_succ]
        refine wpL_take 5 106 (.pointer (some ⟨Z, 1, none⟩)) [6, 7, 9] rfl rfl (by kernel_rfl) (by decide) (by kernel_rfl) (by kernel_rfl) (by kernel_rfl) (fun _ _ _ h => h) HS.out (by rfl) (fun W hW => by obtain ⟨s0⟩ := hW; have s1 := blk_cell s0 1; have s2 := blk_cell s0 2; go_simp) ?_
        simp only [Act.put, List.setIfInBounds_toArray, List.set_cons_zero, List.set_cons_succ]
        refine wpL_take 6 107 (i64 x.a) [7, 9] rfl rfl (by kernel_rfl) (by decide) (by kernel_rfl) (by kernel_rfl) (by kernel_rfl) (fun _ _ _ h => h) HS.out (by rfl) (fun W hW => by obtain ⟨s0⟩ := hW; have s1 := blk_cell s0 1; have s2 := blk_cell s0 2; go_simp) ?_
        simp only [Act.put, List.setIfInBounds_toArray, List.set_cons_zero, List.set_cons_succ]
        refine wpL_one 3 rfl (by kernel_rfl) (by rfl) (fun K hK => ?_)
        go_simp
        refine (HWA1.out _ HT0.out.t).mono ?_
        rintro e v6 ⟨rfl, hv⟩
        replace hv := hv.symm
        subst hv
        go_simp
        refine hK.out _ _ (fun _ => HS.out) ?_
        clear hK K
        refine wpL_one 7 rfl (by kernel_rfl) (by rfl) (fun K hK => ?_)
        go_simp
        refine (HWA2.out _ HT0.out.r).mono ?_
        rintro e w7 ⟨rfl, hb7⟩
        have HX7 : Hid (w7.heap[Z]? = some (spO x)) := blk_below HS.out.x hb7
        have HT7 := hid (HT0.out.below hb7)
        have HS7 : Hid (SqX Z x w7) := ⟨HX7.out⟩
        have HB7 : Hid (Below b w w7) := HBV.out.drew.trans (hb7.mono HT0.out.r.los)
        clear hb7
        go_simp
        refine hK.out _ _ (fun _ => HS7.out) ?_
        clear hK K
        refine wpL_take 8 109 (.bool false) [9] rfl rfl (by kernel_rfl) (by decide) (by kernel_rfl) (by kernel_rfl) (by kernel_rfl) (fun _ _ _ h => h) HS7.out (by rfl) (fun W hW => by obtain ⟨s0⟩ := hW; have s1 := blk_cell s0 1; have s2 := blk_cell s0 2; go_simp) ?_
        simp only [Act.put, List.setIfInBounds_toArray, List.set_cons_zero, List.set_cons_succ]
        refine wpL_take 9 110 (.bool false) [] rfl rfl (by kernel_rfl) (by decide) (by kernel_rfl) (by kernel_rfl) (by kernel_rfl) (fun _ _ _ h => h) HS7.out (by rfl) (fun W hW => by obtain ⟨s0⟩ := hW; have s1 := blk_cell s0 1; have s2 := blk_cell s0 2; go_simp) ?_
        simp only [Act.put, List.setIfInBounds_toArray, List.set_cons_zero, List.set_cons_succ]
        refine wpL_take 10 111 (pq b) [13, 18] rfl rfl (by kernel_rfl) (by decide) (by kernel_rfl) (by kernel_rfl) (by kernel_rfl) (fun _ _ _ h => h) HS7.out (by rfl) (fun W hW => by obtain ⟨s0⟩ := hW; have s1 := blk_cell s0 1; have s2 := blk_cell s0 2; go_simp) ?_
        simp only [Act.put, List.setIfInBounds_toArray, List.set_cons_zero, List.set_cons_succ]
        refine wpL_take 11 112 (.pointer (some ⟨Z, 2, none⟩)) [12, 13, 18] rfl rfl (by kernel_rfl) (by decide) (by kernel_rfl) (by kernel_rfl) (by kernel_rfl) (fun _ _ _ h => h) HS7.out (by rfl) (fun W hW => by obtain ⟨s0⟩ := hW; have s1 := blk_cell s0 1; have s2 := blk_cell s0 2; go_simp) ?_
        simp only [Act.put, List.setIfInBounds_toArray, List.set_cons_zero, List.set_cons_succ]
        refine wpL_take 12 113 (i64 x.b) [13, 18] rfl rfl (by kernel_rfl) (by decide) (by kernel_rfl) (by kernel_rfl) (by kernel_rfl) (fun _ _ _ h => h) HS7.out (by rfl) (fun W hW => by obtain ⟨s0⟩ := hW; have s1 := blk_cell s0 1; have s2 := blk_cell s0 2; go_simp) ?_
        simp only [Act.put, List.setIfInBounds_toArray, List.set_cons_zero, List.set_cons_succ]
        refine wpL_take 14 115 (pq R) [17, 18] rfl rfl (by kernel_rfl) (by decide) (by kernel_rfl) (by kernel_rfl) (by kernel_rfl) (fun _ _ _ h => h) HS7.out (by rfl) (fun W hW => by obtain ⟨s0⟩ := hW; have s1 := blk_cell s0 1; have s2 := blk_cell s0 2; go_simp) ?_
        simp only [Act.put, List.setIfInBounds_toArray, List.set_cons_zero, List.set_cons_succ]
        refine wpL_take 15 116 (.pointer (some ⟨Z, 2, none⟩)) [16, 17, 18] rfl rfl (by kernel_rfl) (by decide) (by kernel_rfl) (by kernel_rfl) (by kernel_rfl) (fun _ _ _ h => h) HS7.out (by rfl) (fun W hW => by obtain ⟨s0⟩ := hW; have s1 := blk_cell s0 1; have s2 := blk_cell s0 2; go_simp) ?_
        simp only [Act.put, List.setIfInBounds_toArray, List.set_cons_zero, List.set_cons_succ]
        refine wpL_take 16 117 (i64 x.b) [17, 18] rfl rfl (by kernel_rfl) (by decide) (by kernel_rfl) (by kernel_rfl) (by kernel_rfl) (fun _ _ _ h => h) HS7.out (by rfl) (fun W hW => by obtain ⟨s0⟩ := hW; have s1 := blk_cell s0 1; have s2 := blk_cell s0 2; go_simp) ?_
        simp only [Act.put, List.setIfInBounds_toArray, List.set_cons_zero, List.set_cons_succ]
        refine wpL_one 13 rfl (by kernel_rfl) (by rfl) (fun K hK => ?_)
        go_simp
        refine (HWB1.out _ HT7.out.t).mono ?_
        rintro e v6 ⟨rfl, hv⟩
        replace hv := hv.symm
        subst hv
        go_simp
        refine hK.out _ _ (fun _ => HS7.out) ?_
        clear hK K
        refine wpL_one 17 rfl (by kernel_rfl) (by rfl) (fun K hK => ?_)
        go_simp
        refine (HWB2.out _ HT7.out.r).mono ?_
        rintro e w8 ⟨rfl, hb8⟩
        have HX8 : Hid (w8.heap[Z]? = some (spO x)) := blk_below HS7.out.x hb8
        have HT8 := hid (HT7.out.below hb8)
        have HS8 : Hid (SqX Z x w8) := ⟨HX8.out⟩
        have HB8 : Hid (Below b w w8) := HB7.out.trans (hb8.mono HT7.out.r.los)
        clear hb8
        go_simp
        refine hK.out _ _ (fun _ => HS8.out) ?_
        clear hK K
        refine wpL_take 18 119 (.bool false) [] rfl rfl (by kernel_rfl) (by decide) (by kernel_rfl) (by kernel_rfl) (by kernel_rfl) (fun _ _ _ h => h) HS8.out (by rfl) (fun W hW => by obtain ⟨s0⟩ := hW; have s1 := blk_cell s0 1; have s2 := blk_cell s0 2; go_simp) ?_
        simp only [Act.put, List.setIfInBounds_toArray, List.set_cons_zero, List.set_cons_succ]
        refine wpL_one 19 rfl (by kernel_rfl) (by rfl) (fun K hK => ?_)
        go_simp
        refine hK.out _ _ (fun h => absurd rfl h) ?_
        clear hK K
        refine wpL_done (by kernel_rfl) ?_
        refine NoPanic.normal ?_
        clear HS HS7 HS8 HX7 HX8 HT0 HT7 HB7 HWA1 HWA2 HWB1 HWB2
        go_wp2_with fail
        exact ⟨⟨k + 1, _, by omega, by go_num, HT8, HB8⟩, by simp [intOf]; omega⟩
    · obtain rfl : k = len := by omega
      go_wp2_with fail
      refine (seven_ok _).mono ?_
      rintro e w2 ⟨rfl, hb2⟩
      have hbl := HT.out.r.los
      have HB2 : Hid (Below b w w2) := HB.out.trans (hb2.mono hbl)
      clear hb2 hbl
      go_wp2_with fail
      go_ret
      exact ⟨rfl, HB2.out⟩
theorem steps_any (w : World) (ao : Option Addr) (len cap : Nat) (f : Nat → Sp) (hlen : len ≤ maxLen) (hS : SSl w ao len f) : Calls Try.prog 3 #[.slice ao len cap] w fun e w' => e = .returned (.bool true) ∧ Below w.heap.size w w' := by
  by_cases h : 100 < len
  · exact steps_long w ao len cap hlen h
  · exact steps_in w ao len cap f (by omega) hS
end Go.Proofs.Ytmijjgpelihhnaa
