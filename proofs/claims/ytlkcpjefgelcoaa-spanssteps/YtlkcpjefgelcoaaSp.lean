/- SpansSteps' walk; no statement is proved in this text. -/
import Derived.Test.YtlkcpjefgelcoaaDo
namespace Go.Proofs.Ytlkcpjefgelcoaa
open Go.ChangeShapes Go.WideShapes Go.ChangeAt Go.RowKit Go.Deep
attribute [local go_sem ↓] Go.wp_at_zero Go.wp_at_succ

theorem all_24 {L : List Sp} (h : GS L) : (allL L).length ≤ 24 := by
  have := firstA_len (ofL L) h.four 6
  exact this
set_option maxRecDepth 100000 in
set_option maxHeartbeats 12800000 in
theorem steps_any (w : World) (ao : Option Addr) (len cap : Nat) (pg : Int) (wt : Bool) (f : Nat → Stp) (hlen : len ≤ maxLen) (hS : SSl w ao len f) : Calls Try.prog 3 #[.slice ao len cap, i64 pg, .bool wt] w fun e w' => e = .returned (.bool true) ∧ Below w.heap.size w w' := by
  have hm : (len : Int) ≤ 9223372036854775807 := by unfold maxLen at hlen; omega
  have HSb := hid hS
  have HNw := hid (snew_ok w)
  obtain ⟨t, ht⟩ : ∃ t, t = w.heap.size := ⟨_, rfl⟩
  have HT := hid ht
  rw [← ht] at HNw ⊢
  clear hS hlen ht
  by_cases h60 : 60 < len
  · have h60' : (60 : Int) < len := by omega
    go_enter Try.func3, Try.ntmps3
    go_wp2_with fail
    refine HNw.out.mono ?_
    rintro e w1 ⟨rfl, ht1, hb1⟩
    have HB1 : Hid (Below t w w1) := hb1
    have hlo1 : t ≤ w1.heap.size := Nat.le_of_lt ht1.lt
    clear ht1 hb1 HNw
    go_wp2_with fail
    refine (four_ok w1).mono ?_
    rintro e w2 ⟨rfl, hb2⟩
    have HB2 : Hid (Below t w w2) := HB1.out.trans (hb2.mono hlo1)
    clear hb2
    go_wp2_with fail
    go_ret
    exact ⟨rfl, HB2.out⟩
  have h60' : ¬ (60 : Int) < len := by omega
  go_enter Try.func3, Try.ntmps3
  go_wp2_with fail
  refine HNw.out.mono ?_
  rintro e w1 ⟨rfl, ht1, hb1⟩
  have HT1 := hid ht1
  have HB1 : Hid (Below t w w1) := hb1
  clear ht1 hb1 HNw
  have hz29 := zero29t
  go_wp2_with fail
  have HW3 : Hid (BsX (w1.alloc (.cells #[.slice none 0 0] 29)) t w1.heap.size w1.heap.size) := ⟨[], GS.nil, HT1.out.below (below_one w1 _), rt_new w1 _ (Nat.le_refl _), HT1.out.lt⟩
  have HB3 : Hid (Below t w (w1.alloc (.cells #[.slice none 0 0] 29))) := HB1.out.trans ((below_one w1 _).mono (Nat.le_of_lt HT1.out.lt))
  clear hz29
  obtain ⟨r, hr⟩ : ∃ r, r = w1.heap.size := ⟨_, rfl⟩
  rw [← hr] at HW3 ⊢
  generalize w1.alloc (.cells #[.slice none 0 0] 29) = w3 at *
  clear hr HT1 HB1
  go_loopw [28] (fun u wr => ∃ (k : Nat), k ≤ len ∧ u = i64 k ∧ Hid (BsX wr t r r) ∧ Hid (Below t w wr)) (fun u _ => len - (intOf u).toNat)
  case atStart => exact ⟨0, by omega, rfl, HW3, HB3⟩
  case round =>
    obtain ⟨k, hk, rfl, HBo, HBw⟩ := hrel
    by_cases hlt : k < len
    · have hkI : (k : Int) < len := by omega
      obtain ⟨b0, off, rfl, hbl, hr⟩ := (HSb.out.below (HT.out ▸ HBw.out)).at hlt
      obtain ⟨x, hx⟩ : ∃ x, f k = x := ⟨_, rfl⟩
      rw [hx] at hr
      have c0 : wr.cell? ⟨b0, off + k * 4, none⟩ = some (i64 x.what) := hr 0 _ rfl
      have c1 : wr.cell? ⟨b0, off + k * 4 + 1, none⟩ = some (i64 x.pid) := hr 1 _ rfl
      have c2 : wr.cell? ⟨b0, off + k * 4 + 2, none⟩ = some (i64 x.fst) := hr 2 _ rfl
      have c3 : wr.cell? ⟨b0, off + k * 4 + 3, none⟩ = some (i64 x.n) := hr 3 _ rfl
      have HBV : Hid (Below t w (wr.alloc (spO x))) := HBw.out.alloc HBo.out.lob _
      have HBoV : Hid (BsX (wr.alloc (spO x)) t r r) := HBo.out.below (below_one wr _)
      have HX : Hid ((wr.alloc (spO x)).heap[wr.heap.size]? = some (spO x)) := heap_last wr _
      clear hx hr
      have HD := hid (does_ok (wr.alloc (spO x)).drew t r r x HBoV.out.drew)
      clear HW3 HB3
      go_upto_region 8 with fail
      have HSd : Hid ((fun W : World => W.heap[wr.heap.size]? = some (spO x)) (wr.alloc (spO x)).drew) := HX.out
      clear c0 c1 c2 c3
      refine wp_region_noPanic ?_
      refine wp_region_last (fun W : World => W.heap[wr.heap.size]? = some (spO x)) 28 (by kernel_rfl) ?_
      refine wpL_take 0 32 (pq t) [3, 5, 11, 14] rfl rfl (by kernel_rfl) (by decide) (by kernel_rfl) (by kernel_rfl) (by kernel_rfl) (fun _ _ _ h => h) HSd.out (by rfl) (fun W hW => by obtain ⟨y0, y1, y2, y3⟩ := four_cells hW; go_simp) ?_
      simp only [Act.put, List.setIfInBounds_toArray, List.set_cons_zero, List.set_cons_succ]
      refine wpL_take 1 33 (pq r) [3, 5, 11, 14] rfl rfl (by kernel_rfl) (by decide) (by kernel_rfl) (by kernel_rfl) (by kernel_rfl) (fun _ _ _ h => h) HSd.out (by rfl) (fun W hW => by obtain ⟨y0, y1, y2, y3⟩ := four_cells hW; go_simp) ?_
      simp only [Act.put, List.setIfInBounds_toArray, List.set_cons_zero, List.set_cons_succ]
      refine wpL_take 2 34 (x.v) [3, 5, 11, 14] rfl rfl (by kernel_rfl) (by decide) (by kernel_rfl) (by kernel_rfl) (by kernel_rfl) (fun _ _ _ h => h) HSd.out (by rfl) (fun W hW => by obtain ⟨y0, y1, y2, y3⟩ := four_cells hW; go_simp) ?_
      simp only [Act.put, List.setIfInBounds_toArray, List.set_cons_zero, List.set_cons_succ]
      refine wpL_one 3 rfl (by kernel_rfl) (by rfl) (fun K hK => ?_)
      go_simp
      refine HD.out.mono ?_
      rintro e w5 ⟨rfl, hbo5, hf5⟩
      have HB5 : Hid (Below t w w5) := HBV.out.drew.trans hf5.below
      have HS5 : Hid ((fun W : World => W.heap[wr.heap.size]? = some (spO x)) w5) := hf5.kept _ _ HX.out rfl
      obtain ⟨L, hbo⟩ := hbo5
      have HBo5 := hid hbo
      have h24 := all_24 hbo.gs
      have hll : (allL L).length ≤ 1000 := by omega
      have HGS := hid hbo.gs
      have HA := hid (sall_ok w5 t L hbo.tb hbo.gs)
      obtain ⟨N, hN⟩ : ∃ N, N = (allL L).length := ⟨_, rfl⟩
      have HN := hid hN
      unfold GotS at HA
      rw [← hN] at HA
      clear hbo hf5 HD hN h24
      go_simp
      refine hK.out _ _ (fun _ => HS5.out) ?_
      clear hK K
      refine wpL_take 4 36 (.bool false) [5, 11, 14] rfl rfl (by kernel_rfl) (by decide) (by kernel_rfl) (by kernel_rfl) (by kernel_rfl) (fun _ _ _ h => h) HS5.out (by rfl) (fun W hW => by obtain ⟨y0, y1, y2, y3⟩ := four_cells hW; go_simp) ?_
      simp only [Act.put, List.setIfInBounds_toArray, List.set_cons_zero, List.set_cons_succ]
      refine wpL_take 5 37 (.bool false) [11, 14] rfl rfl (by kernel_rfl) (by decide) (by kernel_rfl) (by kernel_rfl) (by kernel_rfl) (fun _ _ _ h => h) HS5.out (by rfl) (fun W hW => by obtain ⟨y0, y1, y2, y3⟩ := four_cells hW; go_simp) ?_
      simp only [Act.put, List.setIfInBounds_toArray, List.set_cons_zero, List.set_cons_succ]
      refine wpL_take 6 38 (pq t) [7, 8, 11, 14] rfl rfl (by kernel_rfl) (by decide) (by kernel_rfl) (by kernel_rfl) (by kernel_rfl) (fun _ _ _ h => h) HS5.out (by rfl) (fun W hW => by obtain ⟨y0, y1, y2, y3⟩ := four_cells hW; go_simp) ?_
      simp only [Act.put, List.setIfInBounds_toArray, List.set_cons_zero, List.set_cons_succ]
      refine wpL_take 9 41 (pq r) [10, 11, 14] rfl rfl (by kernel_rfl) (by decide) (by kernel_rfl) (by kernel_rfl) (by kernel_rfl) (fun _ _ _ h => h) HS5.out (by rfl) (fun W hW => by obtain ⟨y0, y1, y2, y3⟩ := four_cells hW; go_simp) ?_
      simp only [Act.put, List.setIfInBounds_toArray, List.set_cons_zero, List.set_cons_succ]
      refine wpL_one 7 rfl (by kernel_rfl) (by rfl) (fun K hK => ?_)
      go_simp
      refine HA.out.mono ?_
      rintro e w6 ⟨⟨ao6, cap6, rfl, ho6⟩, hb6⟩
      have HB6 : Hid (Below t w w6) := HB5.out.trans (hb6.mono HBo5.out.lob)
      have HBo6 := hid (HBo5.out.below hb6)
      have HS6 : Hid ((fun W : World => W.heap[wr.heap.size]? = some (spO x)) w6) := blk_below HS5.out hb6
      have HRf := hid (refs_ok w6 ao6 cap6 (allL L) hll (Rd4.own (by rw [← HN.out]; exact ho6)))
      unfold GotD at HRf
      rw [← HN.out] at HRf
      clear hb6 ho6 HA
      go_simp
      refine hK.out _ _ (fun _ => HS6.out) ?_
      clear hK K
      refine wpL_one 8 rfl (by kernel_rfl) (by rfl) (fun K hK => ?_)
      go_simp
      refine HRf.out.mono ?_
      rintro e w7 ⟨⟨ao7, cap7, rfl, ho7⟩, hb7⟩
      have HB7 : Hid (Below t w w7) := HB6.out.trans (hb7.mono HBo6.out.lob)
      have HBo7 := hid (HBo6.out.below hb7)
      have HS7 : Hid ((fun W : World => W.heap[wr.heap.size]? = some (spO x)) w7) := blk_below HS6.out hb7
      have HR7 : Hid (Rd4 w7 ao7 (allL L)) := Rd4.own (by rw [← HN.out]; exact ho7)
      have HAr := hid (rsall_ok HBo7.out.rt HGS.out)
      unfold GotD at HAr
      rw [← HN.out] at HAr
      clear hb7 ho7 HRf
      go_simp
      refine hK.out _ _ (fun _ => HS7.out) ?_
      clear hK K
      refine wpL_one 10 rfl (by kernel_rfl) (by rfl) (fun K hK => ?_)
      go_simp
      refine HAr.out.mono ?_
      rintro e w8 ⟨⟨ao8, cap8, rfl, ho8⟩, hb8⟩
      have HB8 : Hid (Below t w w8) := HB7.out.trans (hb8.mono HBo7.out.lob)
      have HBo8 := hid (HBo7.out.below hb8)
      have HS8 : Hid ((fun W : World => W.heap[wr.heap.size]? = some (spO x)) w8) := blk_below HS7.out hb8
      have HSm := hid (same_ok w8 ao7 ao8 cap7 cap8 (allL L) hll (HR7.out.below hb8) (Rd4.own (by rw [← HN.out]; exact ho8)))
      rw [← HN.out] at HSm
      clear hb8 ho8 HAr
      go_simp
      refine hK.out _ _ (fun _ => HS8.out) ?_
      clear hK K
      refine wpL_one 11 rfl (by kernel_rfl) (by rfl) (fun K hK => ?_)
      go_simp
      refine HSm.out.mono ?_
      rintro e w9 ⟨rfl, hb9⟩
      have HB9 : Hid (Below t w w9) := HB8.out.trans (hb9.mono HBo8.out.lob)
      have HBo9 := hid (HBo8.out.below hb9)
      have HS9 : Hid ((fun W : World => W.heap[wr.heap.size]? = some (spO x)) w9) := blk_below HS8.out hb9
      have HM := hid (smay_ok w9 t L x.pid pg wt HBo9.out.tb HGS.out)
      have HM2 := hid fun W (hW : Rt W r r L) => rmay_ok x.pid pg wt hW HGS.out
      generalize mayB L x.pid pg wt = T at HM HM2
      clear hb9 HSm
      go_simp
      refine hK.out _ _ (fun _ => HS9.out) ?_
      clear hK K
      refine wpL_take 12 44 (.bool false) [13, 14] rfl rfl (by kernel_rfl) (by decide) (by kernel_rfl) (by kernel_rfl) (by kernel_rfl) (fun _ _ _ h => h) HS9.out (by rfl) (fun W hW => by obtain ⟨y0, y1, y2, y3⟩ := four_cells hW; go_simp) ?_
      simp only [Act.put, List.setIfInBounds_toArray, List.set_cons_zero, List.set_cons_succ]
      refine wpL_take 13 45 (.bool false) [14] rfl rfl (by kernel_rfl) (by decide) (by kernel_rfl) (by kernel_rfl) (by kernel_rfl) (fun _ _ _ h => h) HS9.out (by rfl) (fun W hW => by obtain ⟨y0, y1, y2, y3⟩ := four_cells hW; go_simp) ?_
      simp only [Act.put, List.setIfInBounds_toArray, List.set_cons_zero, List.set_cons_succ]
      refine wpL_take 14 46 (.bool false) [] rfl rfl (by kernel_rfl) (by decide) (by kernel_rfl) (by kernel_rfl) (by kernel_rfl) (fun _ _ _ h => h) HS9.out (by rfl) (fun W hW => by obtain ⟨y0, y1, y2, y3⟩ := four_cells hW; go_simp) ?_
      simp only [Act.put, List.setIfInBounds_toArray, List.set_cons_zero, List.set_cons_succ]
      refine wpL_take 15 47 (pq t) [20, 27] rfl rfl (by kernel_rfl) (by decide) (by kernel_rfl) (by kernel_rfl) (by kernel_rfl) (fun _ _ _ h => h) HS9.out (by rfl) (fun W hW => by obtain ⟨y0, y1, y2, y3⟩ := four_cells hW; go_simp) ?_
      simp only [Act.put, List.setIfInBounds_toArray, List.set_cons_zero, List.set_cons_succ]
      refine wpL_take 16 48 (.pointer (some ⟨wr.heap.size, 1, none⟩)) [17, 20, 27] rfl rfl (by kernel_rfl) (by decide) (by kernel_rfl) (by kernel_rfl) (by kernel_rfl) (fun _ _ _ h => h) HS9.out (by rfl) (fun W hW => by obtain ⟨y0, y1, y2, y3⟩ := four_cells hW; go_simp) ?_
      simp only [Act.put, List.setIfInBounds_toArray, List.set_cons_zero, List.set_cons_succ]
      refine wpL_take 17 49 (i64 x.pid) [20, 27] rfl rfl (by kernel_rfl) (by decide) (by kernel_rfl) (by kernel_rfl) (by kernel_rfl) (fun _ _ _ h => h) HS9.out (by rfl) (fun W hW => by obtain ⟨y0, y1, y2, y3⟩ := four_cells hW; go_simp) ?_
      simp only [Act.put, List.setIfInBounds_toArray, List.set_cons_zero, List.set_cons_succ]
      refine wpL_take 18 50 (i64 pg) [20, 27] rfl rfl (by kernel_rfl) (by decide) (by kernel_rfl) (by kernel_rfl) (by kernel_rfl) (fun _ _ _ h => h) HS9.out (by rfl) (fun W hW => by obtain ⟨y0, y1, y2, y3⟩ := four_cells hW; go_simp) ?_
      simp only [Act.put, List.setIfInBounds_toArray, List.set_cons_zero, List.set_cons_succ]
      refine wpL_take 19 51 (.bool wt) [20, 27] rfl rfl (by kernel_rfl) (by decide) (by kernel_rfl) (by kernel_rfl) (by kernel_rfl) (fun _ _ _ h => h) HS9.out (by rfl) (fun W hW => by obtain ⟨y0, y1, y2, y3⟩ := four_cells hW; go_simp) ?_
      simp only [Act.put, List.setIfInBounds_toArray, List.set_cons_zero, List.set_cons_succ]
      refine wpL_take 21 53 (pq r) [26, 27] rfl rfl (by kernel_rfl) (by decide) (by kernel_rfl) (by kernel_rfl) (by kernel_rfl) (fun _ _ _ h => h) HS9.out (by rfl) (fun W hW => by obtain ⟨y0, y1, y2, y3⟩ := four_cells hW; go_simp) ?_
      simp only [Act.put, List.setIfInBounds_toArray, List.set_cons_zero, List.set_cons_succ]
      refine wpL_take 22 54 (.pointer (some ⟨wr.heap.size, 1, none⟩)) [23, 26, 27] rfl rfl (by kernel_rfl) (by decide) (by kernel_rfl) (by kernel_rfl) (by kernel_rfl) (fun _ _ _ h => h) HS9.out (by rfl) (fun W hW => by obtain ⟨y0, y1, y2, y3⟩ := four_cells hW; go_simp) ?_
      simp only [Act.put, List.setIfInBounds_toArray, List.set_cons_zero, List.set_cons_succ]
      refine wpL_take 23 55 (i64 x.pid) [26, 27] rfl rfl (by kernel_rfl) (by decide) (by kernel_rfl) (by kernel_rfl) (by kernel_rfl) (fun _ _ _ h => h) HS9.out (by rfl) (fun W hW => by obtain ⟨y0, y1, y2, y3⟩ := four_cells hW; go_simp) ?_
      simp only [Act.put, List.setIfInBounds_toArray, List.set_cons_zero, List.set_cons_succ]
      refine wpL_take 24 56 (i64 pg) [26, 27] rfl rfl (by kernel_rfl) (by decide) (by kernel_rfl) (by kernel_rfl) (by kernel_rfl) (fun _ _ _ h => h) HS9.out (by rfl) (fun W hW => by obtain ⟨y0, y1, y2, y3⟩ := four_cells hW; go_simp) ?_
      simp only [Act.put, List.setIfInBounds_toArray, List.set_cons_zero, List.set_cons_succ]
      refine wpL_take 25 57 (.bool wt) [26, 27] rfl rfl (by kernel_rfl) (by decide) (by kernel_rfl) (by kernel_rfl) (by kernel_rfl) (fun _ _ _ h => h) HS9.out (by rfl) (fun W hW => by obtain ⟨y0, y1, y2, y3⟩ := four_cells hW; go_simp) ?_
      simp only [Act.put, List.setIfInBounds_toArray, List.set_cons_zero, List.set_cons_succ]
      refine wpL_one 20 rfl (by kernel_rfl) (by rfl) (fun K hK => ?_)
      go_simp
      refine HM.out.mono ?_
      rintro e wq ⟨rfl, hv⟩
      replace hv := hv.symm
      subst hv
      have HM3 := hid (HM2.out w9 HBo9.out.rt)
      clear HM HM2
      go_simp
      refine hK.out _ _ (fun _ => HS9.out) ?_
      clear hK K
      refine wpL_one 26 rfl (by kernel_rfl) (by rfl) (fun K hK => ?_)
      go_simp
      refine HM3.out.mono ?_
      rintro e w10 ⟨rfl, hb10⟩
      have HB10 : Hid (Below t w w10) := HB9.out.trans (hb10.mono HBo9.out.lob)
      have HBo10 := hid (HBo9.out.below hb10)
      have HS10 : Hid ((fun W : World => W.heap[wr.heap.size]? = some (spO x)) w10) := blk_below HS9.out hb10
      have HBx : Hid (BsX w10 t r r) := ⟨L, HBo10.out⟩
      clear hb10 HM3
      go_simp
      refine hK.out _ _ (fun _ => HS10.out) ?_
      clear hK K
      refine wpL_take 27 59 (.bool false) [] rfl rfl (by kernel_rfl) (by decide) (by kernel_rfl) (by kernel_rfl) (by kernel_rfl) (fun _ _ _ h => h) HS10.out (by rfl) (fun W hW => by obtain ⟨y0, y1, y2, y3⟩ := four_cells hW; go_simp) ?_
      simp only [Act.put, List.setIfInBounds_toArray, List.set_cons_zero, List.set_cons_succ]
      refine wpL_one 28 rfl (by kernel_rfl) (by rfl) (fun K hK => ?_)
      go_simp
      refine hK.out _ _ (fun h => absurd rfl h) ?_
      clear hK K
      refine wpL_done (by kernel_rfl) ?_
      refine NoPanic.normal ?_
      go_wp2_with fail
      exact ⟨⟨k + 1, by omega, by go_num, HBx, HB10⟩, by simp [intOf]; omega⟩
    · clear HW3 HB3
      go_wp2_with fail
      refine (four_ok wr).mono ?_
      rintro e w9 ⟨rfl, hbz⟩
      have HBz : Hid (Below t w w9) := HBw.out.trans (hbz.mono HBo.out.lob)
      clear hbz
      go_wp2_with fail
      go_ret
      exact ⟨rfl, HBz.out⟩
end Go.Proofs.Ytlkcpjefgelcoaa
