/- SpansAreas' walk; no statement is proved in this text. -/
import Derived.Test.YtlkcpjefgelcoaaTw
namespace Go.Proofs.Ytlkcpjefgelcoaa
open Go.ChangeShapes Go.WideShapes Go.ChangeAt Go.RowKit Go.Deep
attribute [local go_sem ↓] Go.wp_at_zero Go.wp_at_succ

theorem may_has {L : List Sp} (h : GS L) (hF : Free L) (p g : Int) (wr : Bool) : mayB L p g wr = hasL (L.map ar) p g := by
  rw [h.has]
  cases hf : L.find? (cov p g) with
  | none => rw [mayB, hf, cel, hf]; rfl
  | some s =>
    have hs := List.mem_of_find?_eq_some hf
    have hc := h.cel hs (List.find?_some hf)
    rw [hc, mayB, hf]
    have := hF s hs
    simp [this]
theorem all_len {L : List Sp} (h : GS L) : (allL L).length = (L.map ar).length := by
  rw [len_sum _ h.good.isA, ← h.cnt 1, ← h.cnt 2, ← h.cnt 3, ← h.cnt 4, ← h.cnt 5, ← h.cnt 6]
  show (List.flatMap (fun r : Nat => ofL L ((r : Int) + 1)) [0, 1, 2, 3, 4, 5]).length = _
  simp only [List.flatMap_cons, List.flatMap_nil, List.length_append, List.length_nil]
  show (ofL L 1).length + ((ofL L 2).length + ((ofL L 3).length + ((ofL L 4).length + ((ofL L 5).length + ((ofL L 6).length + 0))))) = _
  omega
theorem Bo.one {W w' : World} {t b P : Nat} {L L' : List Sp} (h : Bo W t b P L) (hg : GS L') (ht : Tb w' t L') (ho : Touch t W w') : Tb w' t L' ∧ Lb w' b P (L.map ar) ∧ GS L' := ⟨ht, lb_touch h.lb h.lt ho, hg⟩
set_option maxRecDepth 100000 in
set_option maxHeartbeats 3200000 in
theorem areas_any (w : World) (ao : Option Addr) (len cap : Nat) (pg : Int) (f : Nat → Stp) (hlen : len ≤ maxLen) (hS : SSl w ao len f) : Calls Try.prog 4 #[.slice ao len cap, i64 pg] w fun e w' => e = .returned (.bool true) ∧ Below w.heap.size w w' := by
  have hm : (len : Int) ≤ 9223372036854775807 := by unfold maxLen at hlen; omega
  have HSb := hid hS
  have HNw := hid (snew_ok w)
  obtain ⟨t, ht⟩ : ∃ t, t = w.heap.size := ⟨_, rfl⟩
  have HT := hid ht
  rw [← ht] at HNw ⊢
  clear hS hlen ht
  by_cases h60 : 60 < len
  · have h60' : (60 : Int) < len := by omega
    go_enter Try.func4, Try.ntmps4
    go_wp2_with fail
    refine HNw.out.mono ?_
    rintro e w1 ⟨rfl, ht1, hb1⟩
    have HB1 : Hid (Below t w w1) := hb1
    have hlo1 : t ≤ w1.heap.size := Nat.le_of_lt ht1.lt
    clear ht1 hb1 HNw
    go_wp2_with fail
    refine (new_ok w1).mono ?_
    rintro e w2 ⟨rfl, _, hb2⟩
    have HB2 : Hid (Below t w w2) := HB1.out.trans (hb2.mono hlo1)
    have hlo2 : t ≤ w2.heap.size := Nat.le_trans hlo1 hb2.size
    clear hb2
    go_wp2_with fail
    refine (four_ok w2).mono ?_
    rintro e w3 ⟨rfl, hb3⟩
    have HB3 : Hid (Below t w w3) := HB2.out.trans (hb3.mono hlo2)
    clear hb3
    go_wp2_with fail
    go_ret
    exact ⟨rfl, HB3.out⟩
  have h60' : ¬ (60 : Int) < len := by omega
  go_enter Try.func4, Try.ntmps4
  go_wp2_with fail
  refine HNw.out.mono ?_
  rintro e w1 ⟨rfl, ht1, hb1⟩
  have HT1 := hid ht1
  have HB1 : Hid (Below t w w1) := hb1
  clear ht1 hb1 HNw
  go_wp2_with fail
  have HN2 := hid (new_ok w1)
  obtain ⟨b, hb⟩ : ∃ b, b = w1.heap.size := ⟨_, rfl⟩
  have hlo1 : t < b := by rw [hb]; exact HT1.out.lt
  rw [← hb] at HN2
  refine HN2.out.mono ?_
  rintro e w2 ⟨rfl, hl2, hb2⟩
  have HW2 : Hid (Bo w2 t b b []) := ⟨GS.nil, HT1.out.below (hb ▸ hb2), hl2, hlo1⟩
  have HB2 : Hid (Below t w w2) := HB1.out.trans (hb2.mono (Nat.le_of_lt hlo1))
  clear HN2 HT1 HB1 hl2 hb2 hb
  go_wp2_with fail
  go_loopw [41] (fun u wr => ∃ (k : Nat), k ≤ len ∧ u = i64 k ∧ (∃ L, Hid (Bo wr t b b L) ∧ Hid (Free L)) ∧ Hid (Below t w wr)) (fun u _ => len - (intOf u).toNat)
  case atStart => exact ⟨0, by omega, rfl, ⟨[], HW2, fun s hs => by cases hs⟩, HB2⟩
  case round =>
    obtain ⟨k, hk, rfl, ⟨L, HBo, HFr⟩, HBw⟩ := hrel
    by_cases hlt : k < len
    · have hkI : (k : Int) < len := by omega
      obtain ⟨b0, off, rfl, hbl, hr⟩ := (HSb.out.below (HT.out ▸ HBw.out)).at hlt
      obtain ⟨x, hx⟩ : ∃ x, f k = x := ⟨_, rfl⟩
      rw [hx] at hr
      have c0 : wr.cell? ⟨b0, off + k * 4, none⟩ = some (i64 x.what) := hr 0 _ rfl
      have c1 : wr.cell? ⟨b0, off + k * 4 + 1, none⟩ = some (i64 x.pid) := hr 1 _ rfl
      have c2 : wr.cell? ⟨b0, off + k * 4 + 2, none⟩ = some (i64 x.fst) := hr 2 _ rfl
      have c3 : wr.cell? ⟨b0, off + k * 4 + 3, none⟩ = some (i64 x.n) := hr 3 _ rfl
      have HX := hid (heap_last wr (spO x))
      have HBo1 := hid (HBo.out.below (below_one wr (spO x)))
      have HB1 : Hid (Below t w (wr.alloc (spO x))) := HBw.out.alloc (by have := HBo.out.tb.lt; omega) _
      have HMay := hid fun (L : List Sp) W (hB : Bo W t b b L) (pw : Bool) => smay_ok W t L x.pid pg pw hB.tb hB.gs
      have HHas := hid fun (L : List Sp) W (hB : Bo W t b b L) => has_ok W b (pq b) (L.map ar) x.pid pg hB.lb.lv (by have := hB.gs.len; simp; omega) hB.gs.good.isA
      have HAll := hid fun (L : List Sp) W (hB : Bo W t b b L) => sall_ok W t L hB.tb hB.gs
      have HAlA := hid fun (L : List Sp) W (hB : Bo W t b b L) => all_ok W b (pq b) (L.map ar) hB.lb.lv (by have := hB.gs.len; simp; omega)
      clear hr hx
      by_cases h0 : x.what = 0
      · have z0 : (x.what == 0) = true := beq_iff_eq.2 h0
        clear h0
        obtain ⟨A, E, L2, hg, hf, hc1, hc2⟩ := two_map t b b L HBo.out.gs x.pid x.n
        have HG := hid hg
        have HF2 := hid (hf HFr.out)
        have D1 := hid (hc1 _ HBo1.out.tb)
        have D2 := hid fun W (hW : Lb W b b (L.map ar)) (hbW : b ≤ W.heap.size) => hc2 W hW hbW
        clear hg hf hc1 hc2
        go_wp2_with fail
        refine D1.out.mono ?_
        rintro e w3 ⟨rfl, hT3, hO3⟩
        have HT3 := hid hT3
        have HL3 : Hid (Lb w3 b b (L.map ar)) := lb_touch HBo1.out.lb HBo1.out.lt hO3
        have HX3 : Hid (w3.heap[wr.heap.size]? = some (spO x)) := (hO3.block _ (blk_lt HX.out) (by have := HBo.out.tb.lt; omega)).trans HX.out
        have HB3 : Hid (Below t w w3) := HB1.out.trans (hO3.below (Nat.le_refl _) (Nat.le_of_lt HBo1.out.tb.lt))
        clear hT3 hO3 D1
        obtain ⟨x0, x1, x2, x3⟩ := four_cells HX3.out
        have hxl := blk_lt HX3.out
        go_wp2_with fail
        refine (D2.out w3 HL3.out (Nat.le_of_lt HL3.out.lt)).mono ?_
        rintro e w4 ⟨rfl, hL4, hF4⟩
        have HBo4x : Hid (Bo w4 t b b L2) := ⟨HG.out, tb_fr HT3.out hF4, hL4, HBo1.out.lt⟩
        have HX4 : Hid (w4.heap[wr.heap.size]? = some (spO x)) := hF4.kept _ _ HX3.out rfl
        have HB4 : Hid (Below t w w4) := HB3.out.trans (hF4.below.mono (Nat.le_of_lt HBo1.out.lt))
        clear hL4 hF4 D2
        clear x0 x1 x2 x3 hxl
        have HSq : Hid ((fun W : World => W.heap[wr.heap.size]? = some (spO x)) w4.drew) := HX4.out
        have HBq : Hid (Bo w4.drew t b b L2) := ⟨HBo4x.out.gs, ⟨HBo4x.out.tb.blk⟩, HBo4x.out.lb, HBo4x.out.lt⟩
        have HBz : Hid (Below t w w4.drew) := HB4.out.drew
        have hME := may_has HBo4x.out.gs HF2.out x.pid pg
        have HLn := hid (all_len HBo4x.out.gs)
        have C1 := hid (HMay.out _ _ HBq.out true)
        have C2 := hid (HHas.out _ _ HBq.out)
        have C1b := hid fun W (hB : Bo W t b b L2) => HMay.out _ W hB false
        have C2b := hid fun W (hB : Bo W t b b L2) => HHas.out _ W hB
        rw [hME true] at C1
        simp only [hME false] at C1b
        generalize hasL ((L2).map ar) x.pid pg = T at C1 C2 C1b C2b
        clear hME
        go_upto_region 27 with fail
        refine wp_region_noPanic ?_
        refine wp_region_last (fun W : World => W.heap[wr.heap.size]? = some (spO x)) 32 (by kernel_rfl) ?_
        refine wpL_take 0 131 (pq t) [4, 9, 11, 21, 24] rfl rfl (by kernel_rfl) (by decide) (by kernel_rfl) (by kernel_rfl) (by kernel_rfl) (fun _ _ _ h => h) HSq.out (by rfl) (fun W hW => by obtain ⟨y0, y1, y2, y3⟩ := four_cells hW; go_simp) ?_
        simp only [Act.put, List.setIfInBounds_toArray, List.set_cons_zero, List.set_cons_succ]
        refine wpL_take 1 132 (.pointer (some ⟨wr.heap.size, 1, none⟩)) [2, 4, 9, 11, 21, 24] rfl rfl (by kernel_rfl) (by decide) (by kernel_rfl) (by kernel_rfl) (by kernel_rfl) (fun _ _ _ h => h) HSq.out (by rfl) (fun W hW => by obtain ⟨y0, y1, y2, y3⟩ := four_cells hW; go_simp) ?_
        simp only [Act.put, List.setIfInBounds_toArray, List.set_cons_zero, List.set_cons_succ]
        refine wpL_take 2 133 (i64 x.pid) [4, 9, 11, 21, 24] rfl rfl (by kernel_rfl) (by decide) (by kernel_rfl) (by kernel_rfl) (by kernel_rfl) (fun _ _ _ h => h) HSq.out (by rfl) (fun W hW => by obtain ⟨y0, y1, y2, y3⟩ := four_cells hW; go_simp) ?_
        simp only [Act.put, List.setIfInBounds_toArray, List.set_cons_zero, List.set_cons_succ]
        refine wpL_take 3 134 (i64 pg) [4, 9, 11, 21, 24] rfl rfl (by kernel_rfl) (by decide) (by kernel_rfl) (by kernel_rfl) (by kernel_rfl) (fun _ _ _ h => h) HSq.out (by rfl) (fun W hW => by obtain ⟨y0, y1, y2, y3⟩ := four_cells hW; go_simp) ?_
        simp only [Act.put, List.setIfInBounds_toArray, List.set_cons_zero, List.set_cons_succ]
        refine wpL_take 5 136 (pq b) [9, 11, 21, 24] rfl rfl (by kernel_rfl) (by decide) (by kernel_rfl) (by kernel_rfl) (by kernel_rfl) (fun _ _ _ h => h) HSq.out (by rfl) (fun W hW => by obtain ⟨y0, y1, y2, y3⟩ := four_cells hW; go_simp) ?_
        simp only [Act.put, List.setIfInBounds_toArray, List.set_cons_zero, List.set_cons_succ]
        refine wpL_take 6 137 (.pointer (some ⟨wr.heap.size, 1, none⟩)) [7, 9, 11, 21, 24] rfl rfl (by kernel_rfl) (by decide) (by kernel_rfl) (by kernel_rfl) (by kernel_rfl) (fun _ _ _ h => h) HSq.out (by rfl) (fun W hW => by obtain ⟨y0, y1, y2, y3⟩ := four_cells hW; go_simp) ?_
        simp only [Act.put, List.setIfInBounds_toArray, List.set_cons_zero, List.set_cons_succ]
        refine wpL_take 7 138 (i64 x.pid) [9, 11, 21, 24] rfl rfl (by kernel_rfl) (by decide) (by kernel_rfl) (by kernel_rfl) (by kernel_rfl) (fun _ _ _ h => h) HSq.out (by rfl) (fun W hW => by obtain ⟨y0, y1, y2, y3⟩ := four_cells hW; go_simp) ?_
        simp only [Act.put, List.setIfInBounds_toArray, List.set_cons_zero, List.set_cons_succ]
        refine wpL_take 8 139 (i64 pg) [9, 11, 21, 24] rfl rfl (by kernel_rfl) (by decide) (by kernel_rfl) (by kernel_rfl) (by kernel_rfl) (fun _ _ _ h => h) HSq.out (by rfl) (fun W hW => by obtain ⟨y0, y1, y2, y3⟩ := four_cells hW; go_simp) ?_
        simp only [Act.put, List.setIfInBounds_toArray, List.set_cons_zero, List.set_cons_succ]
        refine wpL_one 4 rfl (by kernel_rfl) (by rfl) (fun K hK => ?_)
        go_simp
        refine C1.out.mono ?_
        rintro e q1 ⟨rfl, hv⟩
        replace hv := hv.symm
        subst hv
        clear C1
        go_simp
        refine hK.out _ _ (fun _ => HSq.out) ?_
        clear hK K
        refine wpL_one 9 rfl (by kernel_rfl) (by rfl) (fun K hK => ?_)
        go_simp
        refine C2.out.mono ?_
        rintro e q2 ⟨rfl, hb2⟩
        have HS2 : Hid ((fun W : World => W.heap[wr.heap.size]? = some (spO x)) q2) := blk_below HSq.out hb2
        have HBo2 := hid (HBq.out.below hb2)
        have HB2q : Hid (Below t w q2) := HBz.out.trans (hb2.mono (Nat.le_of_lt HBq.out.tb.lt))
        have C3 := hid (C1b.out q2 HBo2.out)
        have C4 := hid (C2b.out q2 HBo2.out)
        clear hb2 C2 C1b C2b
        go_simp
        refine hK.out _ _ (fun _ => HS2.out) ?_
        clear hK K
        refine wpL_take 10 141 (.bool false) [11, 21, 24] rfl rfl (by kernel_rfl) (by decide) (by kernel_rfl) (by kernel_rfl) (by kernel_rfl) (fun _ _ _ h => h) HS2.out (by rfl) (fun W hW => by obtain ⟨y0, y1, y2, y3⟩ := four_cells hW; go_simp) ?_
        simp only [Act.put, List.setIfInBounds_toArray, List.set_cons_zero, List.set_cons_succ]
        refine wpL_take 11 142 (.bool false) [21, 24] rfl rfl (by kernel_rfl) (by decide) (by kernel_rfl) (by kernel_rfl) (by kernel_rfl) (fun _ _ _ h => h) HS2.out (by rfl) (fun W hW => by obtain ⟨y0, y1, y2, y3⟩ := four_cells hW; go_simp) ?_
        simp only [Act.put, List.setIfInBounds_toArray, List.set_cons_zero, List.set_cons_succ]
        refine wpL_take 12 143 (pq t) [16, 21, 24] rfl rfl (by kernel_rfl) (by decide) (by kernel_rfl) (by kernel_rfl) (by kernel_rfl) (fun _ _ _ h => h) HS2.out (by rfl) (fun W hW => by obtain ⟨y0, y1, y2, y3⟩ := four_cells hW; go_simp) ?_
        simp only [Act.put, List.setIfInBounds_toArray, List.set_cons_zero, List.set_cons_succ]
        refine wpL_take 13 144 (.pointer (some ⟨wr.heap.size, 1, none⟩)) [14, 16, 21, 24] rfl rfl (by kernel_rfl) (by decide) (by kernel_rfl) (by kernel_rfl) (by kernel_rfl) (fun _ _ _ h => h) HS2.out (by rfl) (fun W hW => by obtain ⟨y0, y1, y2, y3⟩ := four_cells hW; go_simp) ?_
        simp only [Act.put, List.setIfInBounds_toArray, List.set_cons_zero, List.set_cons_succ]
        refine wpL_take 14 145 (i64 x.pid) [16, 21, 24] rfl rfl (by kernel_rfl) (by decide) (by kernel_rfl) (by kernel_rfl) (by kernel_rfl) (fun _ _ _ h => h) HS2.out (by rfl) (fun W hW => by obtain ⟨y0, y1, y2, y3⟩ := four_cells hW; go_simp) ?_
        simp only [Act.put, List.setIfInBounds_toArray, List.set_cons_zero, List.set_cons_succ]
        refine wpL_take 15 146 (i64 pg) [16, 21, 24] rfl rfl (by kernel_rfl) (by decide) (by kernel_rfl) (by kernel_rfl) (by kernel_rfl) (fun _ _ _ h => h) HS2.out (by rfl) (fun W hW => by obtain ⟨y0, y1, y2, y3⟩ := four_cells hW; go_simp) ?_
        simp only [Act.put, List.setIfInBounds_toArray, List.set_cons_zero, List.set_cons_succ]
        refine wpL_take 17 148 (pq b) [21, 24] rfl rfl (by kernel_rfl) (by decide) (by kernel_rfl) (by kernel_rfl) (by kernel_rfl) (fun _ _ _ h => h) HS2.out (by rfl) (fun W hW => by obtain ⟨y0, y1, y2, y3⟩ := four_cells hW; go_simp) ?_
        simp only [Act.put, List.setIfInBounds_toArray, List.set_cons_zero, List.set_cons_succ]
        refine wpL_take 18 149 (.pointer (some ⟨wr.heap.size, 1, none⟩)) [19, 21, 24] rfl rfl (by kernel_rfl) (by decide) (by kernel_rfl) (by kernel_rfl) (by kernel_rfl) (fun _ _ _ h => h) HS2.out (by rfl) (fun W hW => by obtain ⟨y0, y1, y2, y3⟩ := four_cells hW; go_simp) ?_
        simp only [Act.put, List.setIfInBounds_toArray, List.set_cons_zero, List.set_cons_succ]
        refine wpL_take 19 150 (i64 x.pid) [21, 24] rfl rfl (by kernel_rfl) (by decide) (by kernel_rfl) (by kernel_rfl) (by kernel_rfl) (fun _ _ _ h => h) HS2.out (by rfl) (fun W hW => by obtain ⟨y0, y1, y2, y3⟩ := four_cells hW; go_simp) ?_
        simp only [Act.put, List.setIfInBounds_toArray, List.set_cons_zero, List.set_cons_succ]
        refine wpL_take 20 151 (i64 pg) [21, 24] rfl rfl (by kernel_rfl) (by decide) (by kernel_rfl) (by kernel_rfl) (by kernel_rfl) (fun _ _ _ h => h) HS2.out (by rfl) (fun W hW => by obtain ⟨y0, y1, y2, y3⟩ := four_cells hW; go_simp) ?_
        simp only [Act.put, List.setIfInBounds_toArray, List.set_cons_zero, List.set_cons_succ]
        refine wpL_one 16 rfl (by kernel_rfl) (by rfl) (fun K hK => ?_)
        go_simp
        refine C3.out.mono ?_
        rintro e q3 ⟨rfl, hv⟩
        replace hv := hv.symm
        subst hv
        clear C3
        go_simp
        refine hK.out _ _ (fun _ => HS2.out) ?_
        clear hK K
        refine wpL_one 21 rfl (by kernel_rfl) (by rfl) (fun K hK => ?_)
        go_simp
        refine C4.out.mono ?_
        rintro e q4 ⟨rfl, hb4⟩
        have HS4 : Hid ((fun W : World => W.heap[wr.heap.size]? = some (spO x)) q4) := blk_below HS2.out hb4
        have HBo4 := hid (HBo2.out.below hb4)
        have HB4q : Hid (Below t w q4) := HB2q.out.trans (hb4.mono (Nat.le_of_lt HBo2.out.tb.lt))
        have C5 := hid (HAll.out _ q4 HBo4.out)
        clear hb4 C4
        go_simp
        refine hK.out _ _ (fun _ => HS4.out) ?_
        clear hK K
        refine wpL_take 22 153 (.bool false) [23, 24] rfl rfl (by kernel_rfl) (by decide) (by kernel_rfl) (by kernel_rfl) (by kernel_rfl) (fun _ _ _ h => h) HS4.out (by rfl) (fun W hW => by obtain ⟨y0, y1, y2, y3⟩ := four_cells hW; go_simp) ?_
        simp only [Act.put, List.setIfInBounds_toArray, List.set_cons_zero, List.set_cons_succ]
        refine wpL_take 23 154 (.bool false) [24] rfl rfl (by kernel_rfl) (by decide) (by kernel_rfl) (by kernel_rfl) (by kernel_rfl) (fun _ _ _ h => h) HS4.out (by rfl) (fun W hW => by obtain ⟨y0, y1, y2, y3⟩ := four_cells hW; go_simp) ?_
        simp only [Act.put, List.setIfInBounds_toArray, List.set_cons_zero, List.set_cons_succ]
        refine wpL_take 24 155 (.bool false) [] rfl rfl (by kernel_rfl) (by decide) (by kernel_rfl) (by kernel_rfl) (by kernel_rfl) (fun _ _ _ h => h) HS4.out (by rfl) (fun W hW => by obtain ⟨y0, y1, y2, y3⟩ := four_cells hW; go_simp) ?_
        simp only [Act.put, List.setIfInBounds_toArray, List.set_cons_zero, List.set_cons_succ]
        refine wpL_take 25 156 (pq t) [26, 27, 31] rfl rfl (by kernel_rfl) (by decide) (by kernel_rfl) (by kernel_rfl) (by kernel_rfl) (fun _ _ _ h => h) HS4.out (by rfl) (fun W hW => by obtain ⟨y0, y1, y2, y3⟩ := four_cells hW; go_simp) ?_
        simp only [Act.put, List.setIfInBounds_toArray, List.set_cons_zero, List.set_cons_succ]
        refine wpL_take 28 159 (pq b) [29, 30, 31] rfl rfl (by kernel_rfl) (by decide) (by kernel_rfl) (by kernel_rfl) (by kernel_rfl) (fun _ _ _ h => h) HS4.out (by rfl) (fun W hW => by obtain ⟨y0, y1, y2, y3⟩ := four_cells hW; go_simp) ?_
        simp only [Act.put, List.setIfInBounds_toArray, List.set_cons_zero, List.set_cons_succ]
        refine wpL_one 26 rfl (by kernel_rfl) (by rfl) (fun K hK => ?_)
        go_simp
        refine C5.out.mono ?_
        rintro e q5 ⟨⟨ao5, cap5, rfl, _⟩, hb5⟩
        have HS5 : Hid ((fun W : World => W.heap[wr.heap.size]? = some (spO x)) q5) := blk_below HS4.out hb5
        have HBo5 := hid (HBo4.out.below hb5)
        have HB5q : Hid (Below t w q5) := HB4q.out.trans (hb5.mono (Nat.le_of_lt HBo4.out.tb.lt))
        have C6 := hid (HAlA.out _ q5 HBo5.out)
        rw [HLn.out]
        obtain ⟨m1, hm1⟩ : ∃ m, m = ((L2).map ar).length := ⟨_, rfl⟩
        unfold Got at C6
        rw [← hm1] at C6 ⊢
        clear hb5 C5 hm1
        go_simp
        refine hK.out _ _ (fun _ => HS5.out) ?_
        clear hK K
        refine wpL_take 27 158 (i64 m1) [31] rfl rfl (by kernel_rfl) (by decide) (by kernel_rfl) (by kernel_rfl) (by kernel_rfl) (fun _ _ _ h => h) HS5.out (by rfl) (fun W hW => by obtain ⟨y0, y1, y2, y3⟩ := four_cells hW; go_simp) ?_
        simp only [Act.put, List.setIfInBounds_toArray, List.set_cons_zero, List.set_cons_succ]
        refine wpL_one 29 rfl (by kernel_rfl) (by rfl) (fun K hK => ?_)
        go_simp
        refine C6.out.mono ?_
        rintro e q6 ⟨⟨ao6, cap6, rfl, _⟩, hb6⟩
        have HS6 : Hid ((fun W : World => W.heap[wr.heap.size]? = some (spO x)) q6) := blk_below HS5.out hb6
        have HBo6 := hid (HBo5.out.below hb6)
        have HB6q : Hid (Below t w q6) := HB5q.out.trans (hb6.mono (Nat.le_of_lt HBo5.out.tb.lt))
        clear hb6 C6
        go_simp
        refine hK.out _ _ (fun _ => HS6.out) ?_
        clear hK K
        refine wpL_take 30 161 (i64 m1) [31] rfl rfl (by kernel_rfl) (by decide) (by kernel_rfl) (by kernel_rfl) (by kernel_rfl) (fun _ _ _ h => h) HS6.out (by rfl) (fun W hW => by obtain ⟨y0, y1, y2, y3⟩ := four_cells hW; go_simp) ?_
        simp only [Act.put, List.setIfInBounds_toArray, List.set_cons_zero, List.set_cons_succ]
        refine wpL_take 31 162 (.bool false) [] rfl rfl (by kernel_rfl) (by decide) (by kernel_rfl) (by kernel_rfl) (by kernel_rfl) (fun _ _ _ h => h) HS6.out (by rfl) (fun W hW => by obtain ⟨y0, y1, y2, y3⟩ := four_cells hW; go_simp) ?_
        simp only [Act.put, List.setIfInBounds_toArray, List.set_cons_zero, List.set_cons_succ]
        refine wpL_one 32 rfl (by kernel_rfl) (by rfl) (fun K hK => ?_)
        go_simp
        refine hK.out _ _ (fun h => absurd rfl h) ?_
        clear hK K
        refine wpL_done (by kernel_rfl) ?_
        refine NoPanic.normal ?_
        go_wp2_with fail
        exact ⟨⟨k + 1, by omega, by go_num, ⟨_, HBo6, HF2⟩, HB6q⟩, by simp [intOf]; omega⟩
      by_cases h1 : x.what = 1
      · have z0 : (x.what == 0) = false := beq_false_of_ne h0
        have z1 : (x.what == 1) = true := beq_iff_eq.2 h1
        clear h0 h1
        obtain ⟨A, E, L2, hg, hf, hc1, hc2⟩ := two_map t b b L HBo.out.gs x.pid x.n
        have HG := hid hg
        have HF2 := hid (hf HFr.out)
        have D1 := hid (hc1 _ HBo1.out.tb)
        have D2 := hid fun W (hW : Lb W b b (L.map ar)) (hbW : b ≤ W.heap.size) => hc2 W hW hbW
        clear hg hf hc1 hc2
        go_wp2_with fail
        refine D1.out.mono ?_
        rintro e w3 ⟨rfl, hT3, hO3⟩
        have HT3 := hid hT3
        have HL3 : Hid (Lb w3 b b (L.map ar)) := lb_touch HBo1.out.lb HBo1.out.lt hO3
        have HX3 : Hid (w3.heap[wr.heap.size]? = some (spO x)) := (hO3.block _ (blk_lt HX.out) (by have := HBo.out.tb.lt; omega)).trans HX.out
        have HB3 : Hid (Below t w w3) := HB1.out.trans (hO3.below (Nat.le_refl _) (Nat.le_of_lt HBo1.out.tb.lt))
        clear hT3 hO3 D1
        obtain ⟨x0, x1, x2, x3⟩ := four_cells HX3.out
        have hxl := blk_lt HX3.out
        go_wp2_with fail
        refine (D2.out w3 HL3.out (Nat.le_of_lt HL3.out.lt)).mono ?_
        rintro e w4 ⟨rfl, hL4, hF4⟩
        have HBo4x : Hid (Bo w4 t b b L2) := ⟨HG.out, tb_fr HT3.out hF4, hL4, HBo1.out.lt⟩
        have HX4 : Hid (w4.heap[wr.heap.size]? = some (spO x)) := hF4.kept _ _ HX3.out rfl
        have HB4 : Hid (Below t w w4) := HB3.out.trans (hF4.below.mono (Nat.le_of_lt HBo1.out.lt))
        clear hL4 hF4 D2
        clear x0 x1 x2 x3 hxl
        have HSq : Hid ((fun W : World => W.heap[wr.heap.size]? = some (spO x)) w4.drew) := HX4.out
        have HBq : Hid (Bo w4.drew t b b L2) := ⟨HBo4x.out.gs, ⟨HBo4x.out.tb.blk⟩, HBo4x.out.lb, HBo4x.out.lt⟩
        have HBz : Hid (Below t w w4.drew) := HB4.out.drew
        have hME := may_has HBo4x.out.gs HF2.out x.pid pg
        have HLn := hid (all_len HBo4x.out.gs)
        have C1 := hid (HMay.out _ _ HBq.out true)
        have C2 := hid (HHas.out _ _ HBq.out)
        have C1b := hid fun W (hB : Bo W t b b L2) => HMay.out _ W hB false
        have C2b := hid fun W (hB : Bo W t b b L2) => HHas.out _ W hB
        rw [hME true] at C1
        simp only [hME false] at C1b
        generalize hasL ((L2).map ar) x.pid pg = T at C1 C2 C1b C2b
        clear hME
        go_upto_region 27 with fail
        refine wp_region_noPanic ?_
        refine wp_region_last (fun W : World => W.heap[wr.heap.size]? = some (spO x)) 32 (by kernel_rfl) ?_
        refine wpL_take 0 131 (pq t) [4, 9, 11, 21, 24] rfl rfl (by kernel_rfl) (by decide) (by kernel_rfl) (by kernel_rfl) (by kernel_rfl) (fun _ _ _ h => h) HSq.out (by rfl) (fun W hW => by obtain ⟨y0, y1, y2, y3⟩ := four_cells hW; go_simp) ?_
        simp only [Act.put, List.setIfInBounds_toArray, List.set_cons_zero, List.set_cons_succ]
        refine wpL_take 1 132 (.pointer (some ⟨wr.heap.size, 1, none⟩)) [2, 4, 9, 11, 21, 24] rfl rfl (by kernel_rfl) (by decide) (by kernel_rfl) (by kernel_rfl) (by kernel_rfl) (fun _ _ _ h => h) HSq.out (by rfl) (fun W hW => by obtain ⟨y0, y1, y2, y3⟩ := four_cells hW; go_simp) ?_
        simp only [Act.put, List.setIfInBounds_toArray, List.set_cons_zero, List.set_cons_succ]
        refine wpL_take 2 133 (i64 x.pid) [4, 9, 11, 21, 24] rfl rfl (by kernel_rfl) (by decide) (by kernel_rfl) (by kernel_rfl) (by kernel_rfl) (fun _ _ _ h => h) HSq.out (by rfl) (fun W hW => by obtain ⟨y0, y1, y2, y3⟩ := four_cells hW; go_simp) ?_
        simp only [Act.put, List.setIfInBounds_toArray, List.set_cons_zero, List.set_cons_succ]
        refine wpL_take 3 134 (i64 pg) [4, 9, 11, 21, 24] rfl rfl (by kernel_rfl) (by decide) (by kernel_rfl) (by kernel_rfl) (by kernel_rfl) (fun _ _ _ h => h) HSq.out (by rfl) (fun W hW => by obtain ⟨y0, y1, y2, y3⟩ := four_cells hW; go_simp) ?_
        simp only [Act.put, List.setIfInBounds_toArray, List.set_cons_zero, List.set_cons_succ]
        refine wpL_take 5 136 (pq b) [9, 11, 21, 24] rfl rfl (by kernel_rfl) (by decide) (by kernel_rfl) (by kernel_rfl) (by kernel_rfl) (fun _ _ _ h => h) HSq.out (by rfl) (fun W hW => by obtain ⟨y0, y1, y2, y3⟩ := four_cells hW; go_simp) ?_
        simp only [Act.put, List.setIfInBounds_toArray, List.set_cons_zero, List.set_cons_succ]
        refine wpL_take 6 137 (.pointer (some ⟨wr.heap.size, 1, none⟩)) [7, 9, 11, 21, 24] rfl rfl (by kernel_rfl) (by decide) (by kernel_rfl) (by kernel_rfl) (by kernel_rfl) (fun _ _ _ h => h) HSq.out (by rfl) (fun W hW => by obtain ⟨y0, y1, y2, y3⟩ := four_cells hW; go_simp) ?_
        simp only [Act.put, List.setIfInBounds_toArray, List.set_cons_zero, List.set_cons_succ]
        refine wpL_take 7 138 (i64 x.pid) [9, 11, 21, 24] rfl rfl (by kernel_rfl) (by decide) (by kernel_rfl) (by kernel_rfl) (by kernel_rfl) (fun _ _ _ h => h) HSq.out (by rfl) (fun W hW => by obtain ⟨y0, y1, y2, y3⟩ := four_cells hW; go_simp) ?_
        simp only [Act.put, List.setIfInBounds_toArray, List.set_cons_zero, List.set_cons_succ]
        refine wpL_take 8 139 (i64 pg) [9, 11, 21, 24] rfl rfl (by kernel_rfl) (by decide) (by kernel_rfl) (by kernel_rfl) (by kernel_rfl) (fun _ _ _ h => h) HSq.out (by rfl) (fun W hW => by obtain ⟨y0, y1, y2, y3⟩ := four_cells hW; go_simp) ?_
        simp only [Act.put, List.setIfInBounds_toArray, List.set_cons_zero, List.set_cons_succ]
        refine wpL_one 4 rfl (by kernel_rfl) (by rfl) (fun K hK => ?_)
        go_simp
        refine C1.out.mono ?_
        rintro e q1 ⟨rfl, hv⟩
        replace hv := hv.symm
        subst hv
        clear C1
        go_simp
        refine hK.out _ _ (fun _ => HSq.out) ?_
        clear hK K
        refine wpL_one 9 rfl (by kernel_rfl) (by rfl) (fun K hK => ?_)
        go_simp
        refine C2.out.mono ?_
        rintro e q2 ⟨rfl, hb2⟩
        have HS2 : Hid ((fun W : World => W.heap[wr.heap.size]? = some (spO x)) q2) := blk_below HSq.out hb2
        have HBo2 := hid (HBq.out.below hb2)
        have HB2q : Hid (Below t w q2) := HBz.out.trans (hb2.mono (Nat.le_of_lt HBq.out.tb.lt))
        have C3 := hid (C1b.out q2 HBo2.out)
        have C4 := hid (C2b.out q2 HBo2.out)
        clear hb2 C2 C1b C2b
        go_simp
        refine hK.out _ _ (fun _ => HS2.out) ?_
        clear hK K
        refine wpL_take 10 141 (.bool false) [11, 21, 24] rfl rfl (by kernel_rfl) (by decide) (by kernel_rfl) (by kernel_rfl) (by kernel_rfl) (fun _ _ _ h => h) HS2.out (by rfl) (fun W hW => by obtain ⟨y0, y1, y2, y3⟩ := four_cells hW; go_simp) ?_
        simp only [Act.put, List.setIfInBounds_toArray, List.set_cons_zero, List.set_cons_succ]
        refine wpL_take 11 142 (.bool false) [21, 24] rfl rfl (by kernel_rfl) (by decide) (by kernel_rfl) (by kernel_rfl) (by kernel_rfl) (fun _ _ _ h => h) HS2.out (by rfl) (fun W hW => by obtain ⟨y0, y1, y2, y3⟩ := four_cells hW; go_simp) ?_
        simp only [Act.put, List.setIfInBounds_toArray, List.set_cons_zero, List.set_cons_succ]
        refine wpL_take 12 143 (pq t) [16, 21, 24] rfl rfl (by kernel_rfl) (by decide) (by kernel_rfl) (by kernel_rfl) (by kernel_rfl) (fun _ _ _ h => h) HS2.out (by rfl) (fun W hW => by obtain ⟨y0, y1, y2, y3⟩ := four_cells hW; go_simp) ?_
        simp only [Act.put, List.setIfInBounds_toArray, List.set_cons_zero, List.set_cons_succ]
        refine wpL_take 13 144 (.pointer (some ⟨wr.heap.size, 1, none⟩)) [14, 16, 21, 24] rfl rfl (by kernel_rfl) (by decide) (by kernel_rfl) (by kernel_rfl) (by kernel_rfl) (fun _ _ _ h => h) HS2.out (by rfl) (fun W hW => by obtain ⟨y0, y1, y2, y3⟩ := four_cells hW; go_simp) ?_
        simp only [Act.put, List.setIfInBounds_toArray, List.set_cons_zero, List.set_cons_succ]
        refine wpL_take 14 145 (i64 x.pid) [16, 21, 24] rfl rfl (by kernel_rfl) (by decide) (by kernel_rfl) (by kernel_rfl) (by kernel_rfl) (fun _ _ _ h => h) HS2.out (by rfl) (fun W hW => by obtain ⟨y0, y1, y2, y3⟩ := four_cells hW; go_simp) ?_
        simp only [Act.put, List.setIfInBounds_toArray, List.set_cons_zero, List.set_cons_succ]
        refine wpL_take 15 146 (i64 pg) [16, 21, 24] rfl rfl (by kernel_rfl) (by decide) (by kernel_rfl) (by kernel_rfl) (by kernel_rfl) (fun _ _ _ h => h) HS2.out (by rfl) (fun W hW => by obtain ⟨y0, y1, y2, y3⟩ := four_cells hW; go_simp) ?_
        simp only [Act.put, List.setIfInBounds_toArray, List.set_cons_zero, List.set_cons_succ]
        refine wpL_take 17 148 (pq b) [21, 24] rfl rfl (by kernel_rfl) (by decide) (by kernel_rfl) (by kernel_rfl) (by kernel_rfl) (fun _ _ _ h => h) HS2.out (by rfl) (fun W hW => by obtain ⟨y0, y1, y2, y3⟩ := four_cells hW; go_simp) ?_
        simp only [Act.put, List.setIfInBounds_toArray, List.set_cons_zero, List.set_cons_succ]
        refine wpL_take 18 149 (.pointer (some ⟨wr.heap.size, 1, none⟩)) [19, 21, 24] rfl rfl (by kernel_rfl) (by decide) (by kernel_rfl) (by kernel_rfl) (by kernel_rfl) (fun _ _ _ h => h) HS2.out (by rfl) (fun W hW => by obtain ⟨y0, y1, y2, y3⟩ := four_cells hW; go_simp) ?_
        simp only [Act.put, List.setIfInBounds_toArray, List.set_cons_zero, List.set_cons_succ]
        refine wpL_take 19 150 (i64 x.pid) [21, 24] rfl rfl (by kernel_rfl) (by decide) (by kernel_rfl) (by kernel_rfl) (by kernel_rfl) (fun _ _ _ h => h) HS2.out (by rfl) (fun W hW => by obtain ⟨y0, y1, y2, y3⟩ := four_cells hW; go_simp) ?_
        simp only [Act.put, List.setIfInBounds_toArray, List.set_cons_zero, List.set_cons_succ]
        refine wpL_take 20 151 (i64 pg) [21, 24] rfl rfl (by kernel_rfl) (by decide) (by kernel_rfl) (by kernel_rfl) (by kernel_rfl) (fun _ _ _ h => h) HS2.out (by rfl) (fun W hW => by obtain ⟨y0, y1, y2, y3⟩ := four_cells hW; go_simp) ?_
        simp only [Act.put, List.setIfInBounds_toArray, List.set_cons_zero, List.set_cons_succ]
        refine wpL_one 16 rfl (by kernel_rfl) (by rfl) (fun K hK => ?_)
        go_simp
        refine C3.out.mono ?_
        rintro e q3 ⟨rfl, hv⟩
        replace hv := hv.symm
        subst hv
        clear C3
        go_simp
        refine hK.out _ _ (fun _ => HS2.out) ?_
        clear hK K
        refine wpL_one 21 rfl (by kernel_rfl) (by rfl) (fun K hK => ?_)
        go_simp
        refine C4.out.mono ?_
        rintro e q4 ⟨rfl, hb4⟩
        have HS4 : Hid ((fun W : World => W.heap[wr.heap.size]? = some (spO x)) q4) := blk_below HS2.out hb4
        have HBo4 := hid (HBo2.out.below hb4)
        have HB4q : Hid (Below t w q4) := HB2q.out.trans (hb4.mono (Nat.le_of_lt HBo2.out.tb.lt))
        have C5 := hid (HAll.out _ q4 HBo4.out)
        clear hb4 C4
        go_simp
        refine hK.out _ _ (fun _ => HS4.out) ?_
        clear hK K
        refine wpL_take 22 153 (.bool false) [23, 24] rfl rfl (by kernel_rfl) (by decide) (by kernel_rfl) (by kernel_rfl) (by kernel_rfl) (fun _ _ _ h => h) HS4.out (by rfl) (fun W hW => by obtain ⟨y0, y1, y2, y3⟩ := four_cells hW; go_simp) ?_
        simp only [Act.put, List.setIfInBounds_toArray, List.set_cons_zero, List.set_cons_succ]
        refine wpL_take 23 154 (.bool false) [24] rfl rfl (by kernel_rfl) (by decide) (by kernel_rfl) (by kernel_rfl) (by kernel_rfl) (fun _ _ _ h => h) HS4.out (by rfl) (fun W hW => by obtain ⟨y0, y1, y2, y3⟩ := four_cells hW; go_simp) ?_
        simp only [Act.put, List.setIfInBounds_toArray, List.set_cons_zero, List.set_cons_succ]
        refine wpL_take 24 155 (.bool false) [] rfl rfl (by kernel_rfl) (by decide) (by kernel_rfl) (by kernel_rfl) (by kernel_rfl) (fun _ _ _ h => h) HS4.out (by rfl) (fun W hW => by obtain ⟨y0, y1, y2, y3⟩ := four_cells hW; go_simp) ?_
        simp only [Act.put, List.setIfInBounds_toArray, List.set_cons_zero, List.set_cons_succ]
        refine wpL_take 25 156 (pq t) [26, 27, 31] rfl rfl (by kernel_rfl) (by decide) (by kernel_rfl) (by kernel_rfl) (by kernel_rfl) (fun _ _ _ h => h) HS4.out (by rfl) (fun W hW => by obtain ⟨y0, y1, y2, y3⟩ := four_cells hW; go_simp) ?_
        simp only [Act.put, List.setIfInBounds_toArray, List.set_cons_zero, List.set_cons_succ]
        refine wpL_take 28 159 (pq b) [29, 30, 31] rfl rfl (by kernel_rfl) (by decide) (by kernel_rfl) (by kernel_rfl) (by kernel_rfl) (fun _ _ _ h => h) HS4.out (by rfl) (fun W hW => by obtain ⟨y0, y1, y2, y3⟩ := four_cells hW; go_simp) ?_
        simp only [Act.put, List.setIfInBounds_toArray, List.set_cons_zero, List.set_cons_succ]
        refine wpL_one 26 rfl (by kernel_rfl) (by rfl) (fun K hK => ?_)
        go_simp
        refine C5.out.mono ?_
        rintro e q5 ⟨⟨ao5, cap5, rfl, _⟩, hb5⟩
        have HS5 : Hid ((fun W : World => W.heap[wr.heap.size]? = some (spO x)) q5) := blk_below HS4.out hb5
        have HBo5 := hid (HBo4.out.below hb5)
        have HB5q : Hid (Below t w q5) := HB4q.out.trans (hb5.mono (Nat.le_of_lt HBo4.out.tb.lt))
        have C6 := hid (HAlA.out _ q5 HBo5.out)
        rw [HLn.out]
        obtain ⟨m1, hm1⟩ : ∃ m, m = ((L2).map ar).length := ⟨_, rfl⟩
        unfold Got at C6
        rw [← hm1] at C6 ⊢
        clear hb5 C5 hm1
        go_simp
        refine hK.out _ _ (fun _ => HS5.out) ?_
        clear hK K
        refine wpL_take 27 158 (i64 m1) [31] rfl rfl (by kernel_rfl) (by decide) (by kernel_rfl) (by kernel_rfl) (by kernel_rfl) (fun _ _ _ h => h) HS5.out (by rfl) (fun W hW => by obtain ⟨y0, y1, y2, y3⟩ := four_cells hW; go_simp) ?_
        simp only [Act.put, List.setIfInBounds_toArray, List.set_cons_zero, List.set_cons_succ]
        refine wpL_one 29 rfl (by kernel_rfl) (by rfl) (fun K hK => ?_)
        go_simp
        refine C6.out.mono ?_
        rintro e q6 ⟨⟨ao6, cap6, rfl, _⟩, hb6⟩
        have HS6 : Hid ((fun W : World => W.heap[wr.heap.size]? = some (spO x)) q6) := blk_below HS5.out hb6
        have HBo6 := hid (HBo5.out.below hb6)
        have HB6q : Hid (Below t w q6) := HB5q.out.trans (hb6.mono (Nat.le_of_lt HBo5.out.tb.lt))
        clear hb6 C6
        go_simp
        refine hK.out _ _ (fun _ => HS6.out) ?_
        clear hK K
        refine wpL_take 30 161 (i64 m1) [31] rfl rfl (by kernel_rfl) (by decide) (by kernel_rfl) (by kernel_rfl) (by kernel_rfl) (fun _ _ _ h => h) HS6.out (by rfl) (fun W hW => by obtain ⟨y0, y1, y2, y3⟩ := four_cells hW; go_simp) ?_
        simp only [Act.put, List.setIfInBounds_toArray, List.set_cons_zero, List.set_cons_succ]
        refine wpL_take 31 162 (.bool false) [] rfl rfl (by kernel_rfl) (by decide) (by kernel_rfl) (by kernel_rfl) (by kernel_rfl) (fun _ _ _ h => h) HS6.out (by rfl) (fun W hW => by obtain ⟨y0, y1, y2, y3⟩ := four_cells hW; go_simp) ?_
        simp only [Act.put, List.setIfInBounds_toArray, List.set_cons_zero, List.set_cons_succ]
        refine wpL_one 32 rfl (by kernel_rfl) (by rfl) (fun K hK => ?_)
        go_simp
        refine hK.out _ _ (fun h => absurd rfl h) ?_
        clear hK K
        refine wpL_done (by kernel_rfl) ?_
        refine NoPanic.normal ?_
        go_wp2_with fail
        exact ⟨⟨k + 1, by omega, by go_num, ⟨_, HBo6, HF2⟩, HB6q⟩, by simp [intOf]; omega⟩
      by_cases h2 : x.what = 2
      · have z0 : (x.what == 0) = false := beq_false_of_ne h0
        have z1 : (x.what == 1) = false := beq_false_of_ne h1
        have z2 : (x.what == 2) = true := beq_iff_eq.2 h2
        clear h0 h1 h2
        obtain ⟨A, E, L2, hg, hf, hc1, hc2⟩ := two_map t b b L HBo.out.gs x.pid x.n
        have HG := hid hg
        have HF2 := hid (hf HFr.out)
        have D1 := hid (hc1 _ HBo1.out.tb)
        have D2 := hid fun W (hW : Lb W b b (L.map ar)) (hbW : b ≤ W.heap.size) => hc2 W hW hbW
        clear hg hf hc1 hc2
        go_wp2_with fail
        refine D1.out.mono ?_
        rintro e w3 ⟨rfl, hT3, hO3⟩
        have HT3 := hid hT3
        have HL3 : Hid (Lb w3 b b (L.map ar)) := lb_touch HBo1.out.lb HBo1.out.lt hO3
        have HX3 : Hid (w3.heap[wr.heap.size]? = some (spO x)) := (hO3.block _ (blk_lt HX.out) (by have := HBo.out.tb.lt; omega)).trans HX.out
        have HB3 : Hid (Below t w w3) := HB1.out.trans (hO3.below (Nat.le_refl _) (Nat.le_of_lt HBo1.out.tb.lt))
        clear hT3 hO3 D1
        obtain ⟨x0, x1, x2, x3⟩ := four_cells HX3.out
        have hxl := blk_lt HX3.out
        go_wp2_with fail
        refine (D2.out w3 HL3.out (Nat.le_of_lt HL3.out.lt)).mono ?_
        rintro e w4 ⟨rfl, hL4, hF4⟩
        have HBo4x : Hid (Bo w4 t b b L2) := ⟨HG.out, tb_fr HT3.out hF4, hL4, HBo1.out.lt⟩
        have HX4 : Hid (w4.heap[wr.heap.size]? = some (spO x)) := hF4.kept _ _ HX3.out rfl
        have HB4 : Hid (Below t w w4) := HB3.out.trans (hF4.below.mono (Nat.le_of_lt HBo1.out.lt))
        clear hL4 hF4 D2
        clear x0 x1 x2 x3 hxl
        have HSq : Hid ((fun W : World => W.heap[wr.heap.size]? = some (spO x)) w4.drew) := HX4.out
        have HBq : Hid (Bo w4.drew t b b L2) := ⟨HBo4x.out.gs, ⟨HBo4x.out.tb.blk⟩, HBo4x.out.lb, HBo4x.out.lt⟩
        have HBz : Hid (Below t w w4.drew) := HB4.out.drew
        have hME := may_has HBo4x.out.gs HF2.out x.pid pg
        have HLn := hid (all_len HBo4x.out.gs)
        have C1 := hid (HMay.out _ _ HBq.out true)
        have C2 := hid (HHas.out _ _ HBq.out)
        have C1b := hid fun W (hB : Bo W t b b L2) => HMay.out _ W hB false
        have C2b := hid fun W (hB : Bo W t b b L2) => HHas.out _ W hB
        rw [hME true] at C1
        simp only [hME false] at C1b
        generalize hasL ((L2).map ar) x.pid pg = T at C1 C2 C1b C2b
        clear hME
        go_upto_region 27 with fail
        refine wp_region_noPanic ?_
        refine wp_region_last (fun W : World => W.heap[wr.heap.size]? = some (spO x)) 32 (by kernel_rfl) ?_
        refine wpL_take 0 131 (pq t) [4, 9, 11, 21, 24] rfl rfl (by kernel_rfl) (by decide) (by kernel_rfl) (by kernel_rfl) (by kernel_rfl) (fun _ _ _ h => h) HSq.out (by rfl) (fun W hW => by obtain ⟨y0, y1, y2, y3⟩ := four_cells hW; go_simp) ?_
        simp only [Act.put, List.setIfInBounds_toArray, List.set_cons_zero, List.set_cons_succ]
        refine wpL_take 1 132 (.pointer (some ⟨wr.heap.size, 1, none⟩)) [2, 4, 9, 11, 21, 24] rfl rfl (by kernel_rfl) (by decide) (by kernel_rfl) (by kernel_rfl) (by kernel_rfl) (fun _ _ _ h => h) HSq.out (by rfl) (fun W hW => by obtain ⟨y0, y1, y2, y3⟩ := four_cells hW; go_simp) ?_
        simp only [Act.put, List.setIfInBounds_toArray, List.set_cons_zero, List.set_cons_succ]
        refine wpL_take 2 133 (i64 x.pid) [4, 9, 11, 21, 24] rfl rfl (by kernel_rfl) (by decide) (by kernel_rfl) (by kernel_rfl) (by kernel_rfl) (fun _ _ _ h => h) HSq.out (by rfl) (fun W hW => by obtain ⟨y0, y1, y2, y3⟩ := four_cells hW; go_simp) ?_
        simp only [Act.put, List.setIfInBounds_toArray, List.set_cons_zero, List.set_cons_succ]
        refine wpL_take 3 134 (i64 pg) [4, 9, 11, 21, 24] rfl rfl (by kernel_rfl) (by decide) (by kernel_rfl) (by kernel_rfl) (by kernel_rfl) (fun _ _ _ h => h) HSq.out (by rfl) (fun W hW => by obtain ⟨y0, y1, y2, y3⟩ := four_cells hW; go_simp) ?_
        simp only [Act.put, List.setIfInBounds_toArray, List.set_cons_zero, List.set_cons_succ]
        refine wpL_take 5 136 (pq b) [9, 11, 21, 24] rfl rfl (by kernel_rfl) (by decide) (by kernel_rfl) (by kernel_rfl) (by kernel_rfl) (fun _ _ _ h => h) HSq.out (by rfl) (fun W hW => by obtain ⟨y0, y1, y2, y3⟩ := four_cells hW; go_simp) ?_
        simp only [Act.put, List.setIfInBounds_toArray, List.set_cons_zero, List.set_cons_succ]
        refine wpL_take 6 137 (.pointer (some ⟨wr.heap.size, 1, none⟩)) [7, 9, 11, 21, 24] rfl rfl (by kernel_rfl) (by decide) (by kernel_rfl) (by kernel_rfl) (by kernel_rfl) (fun _ _ _ h => h) HSq.out (by rfl) (fun W hW => by obtain ⟨y0, y1, y2, y3⟩ := four_cells hW; go_simp) ?_
        simp only [Act.put, List.setIfInBounds_toArray, List.set_cons_zero, List.set_cons_succ]
        refine wpL_take 7 138 (i64 x.pid) [9, 11, 21, 24] rfl rfl (by kernel_rfl) (by decide) (by kernel_rfl) (by kernel_rfl) (by kernel_rfl) (fun _ _ _ h => h) HSq.out (by rfl) (fun W hW => by obtain ⟨y0, y1, y2, y3⟩ := four_cells hW; go_simp) ?_
        simp only [Act.put, List.setIfInBounds_toArray, List.set_cons_zero, List.set_cons_succ]
        refine wpL_take 8 139 (i64 pg) [9, 11, 21, 24] rfl rfl (by kernel_rfl) (by decide) (by kernel_rfl) (by kernel_rfl) (by kernel_rfl) (fun _ _ _ h => h) HSq.out (by rfl) (fun W hW => by obtain ⟨y0, y1, y2, y3⟩ := four_cells hW; go_simp) ?_
        simp only [Act.put, List.setIfInBounds_toArray, List.set_cons_zero, List.set_cons_succ]
        refine wpL_one 4 rfl (by kernel_rfl) (by rfl) (fun K hK => ?_)
        go_simp
        refine C1.out.mono ?_
        rintro e q1 ⟨rfl, hv⟩
        replace hv := hv.symm
        subst hv
        clear C1
        go_simp
        refine hK.out _ _ (fun _ => HSq.out) ?_
        clear hK K
        refine wpL_one 9 rfl (by kernel_rfl) (by rfl) (fun K hK => ?_)
        go_simp
        refine C2.out.mono ?_
        rintro e q2 ⟨rfl, hb2⟩
        have HS2 : Hid ((fun W : World => W.heap[wr.heap.size]? = some (spO x)) q2) := blk_below HSq.out hb2
        have HBo2 := hid (HBq.out.below hb2)
        have HB2q : Hid (Below t w q2) := HBz.out.trans (hb2.mono (Nat.le_of_lt HBq.out.tb.lt))
        have C3 := hid (C1b.out q2 HBo2.out)
        have C4 := hid (C2b.out q2 HBo2.out)
        clear hb2 C2 C1b C2b
        go_simp
        refine hK.out _ _ (fun _ => HS2.out) ?_
        clear hK K
        refine wpL_take 10 141 (.bool false) [11, 21, 24] rfl rfl (by kernel_rfl) (by decide) (by kernel_rfl) (by kernel_rfl) (by kernel_rfl) (fun _ _ _ h => h) HS2.out (by rfl) (fun W hW => by obtain ⟨y0, y1, y2, y3⟩ := four_cells hW; go_simp) ?_
        simp only [Act.put, List.setIfInBounds_toArray, List.set_cons_zero, List.set_cons_succ]
        refine wpL_take 11 142 (.bool false) [21, 24] rfl rfl (by kernel_rfl) (by decide) (by kernel_rfl) (by kernel_rfl) (by kernel_rfl) (fun _ _ _ h => h) HS2.out (by rfl) (fun W hW => by obtain ⟨y0, y1, y2, y3⟩ := four_cells hW; go_simp) ?_
        simp only [Act.put, List.setIfInBounds_toArray, List.set_cons_zero, List.set_cons_succ]
        refine wpL_take 12 143 (pq t) [16, 21, 24] rfl rfl (by kernel_rfl) (by decide) (by kernel_rfl) (by kernel_rfl) (by kernel_rfl) (fun _ _ _ h => h) HS2.out (by rfl) (fun W hW => by obtain ⟨y0, y1, y2, y3⟩ := four_cells hW; go_simp) ?_
        simp only [Act.put, List.setIfInBounds_toArray, List.set_cons_zero, List.set_cons_succ]
        refine wpL_take 13 144 (.pointer (some ⟨wr.heap.size, 1, none⟩)) [14, 16, 21, 24] rfl rfl (by kernel_rfl) (by decide) (by kernel_rfl) (by kernel_rfl) (by kernel_rfl) (fun _ _ _ h => h) HS2.out (by rfl) (fun W hW => by obtain ⟨y0, y1, y2, y3⟩ := four_cells hW; go_simp) ?_
        simp only [Act.put, List.setIfInBounds_toArray, List.set_cons_zero, List.set_cons_succ]
        refine wpL_take 14 145 (i64 x.pid) [16, 21, 24] rfl rfl (by kernel_rfl) (by decide) (by kernel_rfl) (by kernel_rfl) (by kernel_rfl) (fun _ _ _ h => h) HS2.out (by rfl) (fun W hW => by obtain ⟨y0, y1, y2, y3⟩ := four_cells hW; go_simp) ?_
        simp only [Act.put, List.setIfInBounds_toArray, List.set_cons_zero, List.set_cons_succ]
        refine wpL_take 15 146 (i64 pg) [16, 21, 24] rfl rfl (by kernel_rfl) (by decide) (by kernel_rfl) (by kernel_rfl) (by kernel_rfl) (fun _ _ _ h => h) HS2.out (by rfl) (fun W hW => by obtain ⟨y0, y1, y2, y3⟩ := four_cells hW; go_simp) ?_
        simp only [Act.put, List.setIfInBounds_toArray, List.set_cons_zero, List.set_cons_succ]
        refine wpL_take 17 148 (pq b) [21, 24] rfl rfl (by kernel_rfl) (by decide) (by kernel_rfl) (by kernel_rfl) (by kernel_rfl) (fun _ _ _ h => h) HS2.out (by rfl) (fun W hW => by obtain ⟨y0, y1, y2, y3⟩ := four_cells hW; go_simp) ?_
        simp only [Act.put, List.setIfInBounds_toArray, List.set_cons_zero, List.set_cons_succ]
        refine wpL_take 18 149 (.pointer (some ⟨wr.heap.size, 1, none⟩)) [19, 21, 24] rfl rfl (by kernel_rfl) (by decide) (by kernel_rfl) (by kernel_rfl) (by kernel_rfl) (fun _ _ _ h => h) HS2.out (by rfl) (fun W hW => by obtain ⟨y0, y1, y2, y3⟩ := four_cells hW; go_simp) ?_
        simp only [Act.put, List.setIfInBounds_toArray, List.set_cons_zero, List.set_cons_succ]
        refine wpL_take 19 150 (i64 x.pid) [21, 24] rfl rfl (by kernel_rfl) (by decide) (by kernel_rfl) (by kernel_rfl) (by kernel_rfl) (fun _ _ _ h => h) HS2.out (by rfl) (fun W hW => by obtain ⟨y0, y1, y2, y3⟩ := four_cells hW; go_simp) ?_
        simp only [Act.put, List.setIfInBounds_toArray, List.set_cons_zero, List.set_cons_succ]
        refine wpL_take 20 151 (i64 pg) [21, 24] rfl rfl (by kernel_rfl) (by decide) (by kernel_rfl) (by kernel_rfl) (by kernel_rfl) (fun _ _ _ h => h) HS2.out (by rfl) (fun W hW => by obtain ⟨y0, y1, y2, y3⟩ := four_cells hW; go_simp) ?_
        simp only [Act.put, List.setIfInBounds_toArray, List.set_cons_zero, List.set_cons_succ]
        refine wpL_one 16 rfl (by kernel_rfl) (by rfl) (fun K hK => ?_)
        go_simp
        refine C3.out.mono ?_
        rintro e q3 ⟨rfl, hv⟩
        replace hv := hv.symm
        subst hv
        clear C3
        go_simp
        refine hK.out _ _ (fun _ => HS2.out) ?_
        clear hK K
        refine wpL_one 21 rfl (by kernel_rfl) (by rfl) (fun K hK => ?_)
        go_simp
        refine C4.out.mono ?_
        rintro e q4 ⟨rfl, hb4⟩
        have HS4 : Hid ((fun W : World => W.heap[wr.heap.size]? = some (spO x)) q4) := blk_below HS2.out hb4
        have HBo4 := hid (HBo2.out.below hb4)
        have HB4q : Hid (Below t w q4) := HB2q.out.trans (hb4.mono (Nat.le_of_lt HBo2.out.tb.lt))
        have C5 := hid (HAll.out _ q4 HBo4.out)
        clear hb4 C4
        go_simp
        refine hK.out _ _ (fun _ => HS4.out) ?_
        clear hK K
        refine wpL_take 22 153 (.bool false) [23, 24] rfl rfl (by kernel_rfl) (by decide) (by kernel_rfl) (by kernel_rfl) (by kernel_rfl) (fun _ _ _ h => h) HS4.out (by rfl) (fun W hW => by obtain ⟨y0, y1, y2, y3⟩ := four_cells hW; go_simp) ?_
        simp only [Act.put, List.setIfInBounds_toArray, List.set_cons_zero, List.set_cons_succ]
        refine wpL_take 23 154 (.bool false) [24] rfl rfl (by kernel_rfl) (by decide) (by kernel_rfl) (by kernel_rfl) (by kernel_rfl) (fun _ _ _ h => h) HS4.out (by rfl) (fun W hW => by obtain ⟨y0, y1, y2, y3⟩ := four_cells hW; go_simp) ?_
        simp only [Act.put, List.setIfInBounds_toArray, List.set_cons_zero, List.set_cons_succ]
        refine wpL_take 24 155 (.bool false) [] rfl rfl (by kernel_rfl) (by decide) (by kernel_rfl) (by kernel_rfl) (by kernel_rfl) (fun _ _ _ h => h) HS4.out (by rfl) (fun W hW => by obtain ⟨y0, y1, y2, y3⟩ := four_cells hW; go_simp) ?_
        simp only [Act.put, List.setIfInBounds_toArray, List.set_cons_zero, List.set_cons_succ]
        refine wpL_take 25 156 (pq t) [26, 27, 31] rfl rfl (by kernel_rfl) (by decide) (by kernel_rfl) (by kernel_rfl) (by kernel_rfl) (fun _ _ _ h => h) HS4.out (by rfl) (fun W hW => by obtain ⟨y0, y1, y2, y3⟩ := four_cells hW; go_simp) ?_
        simp only [Act.put, List.setIfInBounds_toArray, List.set_cons_zero, List.set_cons_succ]
        refine wpL_take 28 159 (pq b) [29, 30, 31] rfl rfl (by kernel_rfl) (by decide) (by kernel_rfl) (by kernel_rfl) (by kernel_rfl) (fun _ _ _ h => h) HS4.out (by rfl) (fun W hW => by obtain ⟨y0, y1, y2, y3⟩ := four_cells hW; go_simp) ?_
        simp only [Act.put, List.setIfInBounds_toArray, List.set_cons_zero, List.set_cons_succ]
        refine wpL_one 26 rfl (by kernel_rfl) (by rfl) (fun K hK => ?_)
        go_simp
        refine C5.out.mono ?_
        rintro e q5 ⟨⟨ao5, cap5, rfl, _⟩, hb5⟩
        have HS5 : Hid ((fun W : World => W.heap[wr.heap.size]? = some (spO x)) q5) := blk_below HS4.out hb5
        have HBo5 := hid (HBo4.out.below hb5)
        have HB5q : Hid (Below t w q5) := HB4q.out.trans (hb5.mono (Nat.le_of_lt HBo4.out.tb.lt))
        have C6 := hid (HAlA.out _ q5 HBo5.out)
        rw [HLn.out]
        obtain ⟨m1, hm1⟩ : ∃ m, m = ((L2).map ar).length := ⟨_, rfl⟩
        unfold Got at C6
        rw [← hm1] at C6 ⊢
        clear hb5 C5 hm1
        go_simp
        refine hK.out _ _ (fun _ => HS5.out) ?_
        clear hK K
        refine wpL_take 27 158 (i64 m1) [31] rfl rfl (by kernel_rfl) (by decide) (by kernel_rfl) (by kernel_rfl) (by kernel_rfl) (fun _ _ _ h => h) HS5.out (by rfl) (fun W hW => by obtain ⟨y0, y1, y2, y3⟩ := four_cells hW; go_simp) ?_
        simp only [Act.put, List.setIfInBounds_toArray, List.set_cons_zero, List.set_cons_succ]
        refine wpL_one 29 rfl (by kernel_rfl) (by rfl) (fun K hK => ?_)
        go_simp
        refine C6.out.mono ?_
        rintro e q6 ⟨⟨ao6, cap6, rfl, _⟩, hb6⟩
        have HS6 : Hid ((fun W : World => W.heap[wr.heap.size]? = some (spO x)) q6) := blk_below HS5.out hb6
        have HBo6 := hid (HBo5.out.below hb6)
        have HB6q : Hid (Below t w q6) := HB5q.out.trans (hb6.mono (Nat.le_of_lt HBo5.out.tb.lt))
        clear hb6 C6
        go_simp
        refine hK.out _ _ (fun _ => HS6.out) ?_
        clear hK K
        refine wpL_take 30 161 (i64 m1) [31] rfl rfl (by kernel_rfl) (by decide) (by kernel_rfl) (by kernel_rfl) (by kernel_rfl) (fun _ _ _ h => h) HS6.out (by rfl) (fun W hW => by obtain ⟨y0, y1, y2, y3⟩ := four_cells hW; go_simp) ?_
        simp only [Act.put, List.setIfInBounds_toArray, List.set_cons_zero, List.set_cons_succ]
        refine wpL_take 31 162 (.bool false) [] rfl rfl (by kernel_rfl) (by decide) (by kernel_rfl) (by kernel_rfl) (by kernel_rfl) (fun _ _ _ h => h) HS6.out (by rfl) (fun W hW => by obtain ⟨y0, y1, y2, y3⟩ := four_cells hW; go_simp) ?_
        simp only [Act.put, List.setIfInBounds_toArray, List.set_cons_zero, List.set_cons_succ]
        refine wpL_one 32 rfl (by kernel_rfl) (by rfl) (fun K hK => ?_)
        go_simp
        refine hK.out _ _ (fun h => absurd rfl h) ?_
        clear hK K
        refine wpL_done (by kernel_rfl) ?_
        refine NoPanic.normal ?_
        go_wp2_with fail
        exact ⟨⟨k + 1, by omega, by go_num, ⟨_, HBo6, HF2⟩, HB6q⟩, by simp [intOf]; omega⟩
      by_cases h3 : x.what = 3
      · have z0 : (x.what == 0) = false := beq_false_of_ne h0
        have z1 : (x.what == 1) = false := beq_false_of_ne h1
        have z2 : (x.what == 2) = false := beq_false_of_ne h2
        have z3 : (x.what == 3) = true := beq_iff_eq.2 h3
        clear h0 h1 h2 h3
        obtain ⟨A, E, L2, hg, hf, hc1, hc2⟩ := two_unmap t b b L HBo.out.gs x.pid x.fst
        have HG := hid hg
        have HF2 := hid (hf HFr.out)
        have D1 := hid (hc1 _ HBo1.out.tb)
        have D2 := hid fun W (hW : Lb W b b (L.map ar)) (hbW : b ≤ W.heap.size) => hc2 W hW hbW
        clear hg hf hc1 hc2
        go_wp2_with fail
        refine D1.out.mono ?_
        rintro e w3 ⟨rfl, hT3, hO3⟩
        have HT3 := hid hT3
        have HL3 : Hid (Lb w3 b b (L.map ar)) := lb_touch HBo1.out.lb HBo1.out.lt hO3
        have HX3 : Hid (w3.heap[wr.heap.size]? = some (spO x)) := (hO3.block _ (blk_lt HX.out) (by have := HBo.out.tb.lt; omega)).trans HX.out
        have HB3 : Hid (Below t w w3) := HB1.out.trans (hO3.below (Nat.le_refl _) (Nat.le_of_lt HBo1.out.tb.lt))
        clear hT3 hO3 D1
        obtain ⟨x0, x1, x2, x3⟩ := four_cells HX3.out
        have hxl := blk_lt HX3.out
        go_wp2_with fail
        refine (D2.out w3 HL3.out (Nat.le_of_lt HL3.out.lt)).mono ?_
        rintro e w4 ⟨rfl, hL4, hF4⟩
        have HBo4x : Hid (Bo w4 t b b L2) := ⟨HG.out, tb_fr HT3.out hF4, hL4, HBo1.out.lt⟩
        have HX4 : Hid (w4.heap[wr.heap.size]? = some (spO x)) := hF4.kept _ _ HX3.out rfl
        have HB4 : Hid (Below t w w4) := HB3.out.trans (hF4.below.mono (Nat.le_of_lt HBo1.out.lt))
        clear hL4 hF4 D2
        clear x0 x1 x2 x3 hxl
        have HSq : Hid ((fun W : World => W.heap[wr.heap.size]? = some (spO x)) w4.drew) := HX4.out
        have HBq : Hid (Bo w4.drew t b b L2) := ⟨HBo4x.out.gs, ⟨HBo4x.out.tb.blk⟩, HBo4x.out.lb, HBo4x.out.lt⟩
        have HBz : Hid (Below t w w4.drew) := HB4.out.drew
        have hME := may_has HBo4x.out.gs HF2.out x.pid pg
        have HLn := hid (all_len HBo4x.out.gs)
        have C1 := hid (HMay.out _ _ HBq.out true)
        have C2 := hid (HHas.out _ _ HBq.out)
        have C1b := hid fun W (hB : Bo W t b b L2) => HMay.out _ W hB false
        have C2b := hid fun W (hB : Bo W t b b L2) => HHas.out _ W hB
        rw [hME true] at C1
        simp only [hME false] at C1b
        generalize hasL ((L2).map ar) x.pid pg = T at C1 C2 C1b C2b
        clear hME
        go_upto_region 27 with fail
        refine wp_region_noPanic ?_
        refine wp_region_last (fun W : World => W.heap[wr.heap.size]? = some (spO x)) 32 (by kernel_rfl) ?_
        refine wpL_take 0 131 (pq t) [4, 9, 11, 21, 24] rfl rfl (by kernel_rfl) (by decide) (by kernel_rfl) (by kernel_rfl) (by kernel_rfl) (fun _ _ _ h => h) HSq.out (by rfl) (fun W hW => by obtain ⟨y0, y1, y2, y3⟩ := four_cells hW; go_simp) ?_
        simp only [Act.put, List.setIfInBounds_toArray, List.set_cons_zero, List.set_cons_succ]
        refine wpL_take 1 132 (.pointer (some ⟨wr.heap.size, 1, none⟩)) [2, 4, 9, 11, 21, 24] rfl rfl (by kernel_rfl) (by decide) (by kernel_rfl) (by kernel_rfl) (by kernel_rfl) (fun _ _ _ h => h) HSq.out (by rfl) (fun W hW => by obtain ⟨y0, y1, y2, y3⟩ := four_cells hW; go_simp) ?_
        simp only [Act.put, List.setIfInBounds_toArray, List.set_cons_zero, List.set_cons_succ]
        refine wpL_take 2 133 (i64 x.pid) [4, 9, 11, 21, 24] rfl rfl (by kernel_rfl) (by decide) (by kernel_rfl) (by kernel_rfl) (by kernel_rfl) (fun _ _ _ h => h) HSq.out (by rfl) (fun W hW => by obtain ⟨y0, y1, y2, y3⟩ := four_cells hW; go_simp) ?_
        simp only [Act.put, List.setIfInBounds_toArray, List.set_cons_zero, List.set_cons_succ]
        refine wpL_take 3 134 (i64 pg) [4, 9, 11, 21, 24] rfl rfl (by kernel_rfl) (by decide) (by kernel_rfl) (by kernel_rfl) (by kernel_rfl) (fun _ _ _ h => h) HSq.out (by rfl) (fun W hW => by obtain ⟨y0, y1, y2, y3⟩ := four_cells hW; go_simp) ?_
        simp only [Act.put, List.setIfInBounds_toArray, List.set_cons_zero, List.set_cons_succ]
        refine wpL_take 5 136 (pq b) [9, 11, 21, 24] rfl rfl (by kernel_rfl) (by decide) (by kernel_rfl) (by kernel_rfl) (by kernel_rfl) (fun _ _ _ h => h) HSq.out (by rfl) (fun W hW => by obtain ⟨y0, y1, y2, y3⟩ := four_cells hW; go_simp) ?_
        simp only [Act.put, List.setIfInBounds_toArray, List.set_cons_zero, List.set_cons_succ]
        refine wpL_take 6 137 (.pointer (some ⟨wr.heap.size, 1, none⟩)) [7, 9, 11, 21, 24] rfl rfl (by kernel_rfl) (by decide) (by kernel_rfl) (by kernel_rfl) (by kernel_rfl) (fun _ _ _ h => h) HSq.out (by rfl) (fun W hW => by obtain ⟨y0, y1, y2, y3⟩ := four_cells hW; go_simp) ?_
        simp only [Act.put, List.setIfInBounds_toArray, List.set_cons_zero, List.set_cons_succ]
        refine wpL_take 7 138 (i64 x.pid) [9, 11, 21, 24] rfl rfl (by kernel_rfl) (by decide) (by kernel_rfl) (by kernel_rfl) (by kernel_rfl) (fun _ _ _ h => h) HSq.out (by rfl) (fun W hW => by obtain ⟨y0, y1, y2, y3⟩ := four_cells hW; go_simp) ?_
        simp only [Act.put, List.setIfInBounds_toArray, List.set_cons_zero, List.set_cons_succ]
        refine wpL_take 8 139 (i64 pg) [9, 11, 21, 24] rfl rfl (by kernel_rfl) (by decide) (by kernel_rfl) (by kernel_rfl) (by kernel_rfl) (fun _ _ _ h => h) HSq.out (by rfl) (fun W hW => by obtain ⟨y0, y1, y2, y3⟩ := four_cells hW; go_simp) ?_
        simp only [Act.put, List.setIfInBounds_toArray, List.set_cons_zero, List.set_cons_succ]
        refine wpL_one 4 rfl (by kernel_rfl) (by rfl) (fun K hK => ?_)
        go_simp
        refine C1.out.mono ?_
        rintro e q1 ⟨rfl, hv⟩
        replace hv := hv.symm
        subst hv
        clear C1
        go_simp
        refine hK.out _ _ (fun _ => HSq.out) ?_
        clear hK K
        refine wpL_one 9 rfl (by kernel_rfl) (by rfl) (fun K hK => ?_)
        go_simp
        refine C2.out.mono ?_
        rintro e q2 ⟨rfl, hb2⟩
        have HS2 : Hid ((fun W : World => W.heap[wr.heap.size]? = some (spO x)) q2) := blk_below HSq.out hb2
        have HBo2 := hid (HBq.out.below hb2)
        have HB2q : Hid (Below t w q2) := HBz.out.trans (hb2.mono (Nat.le_of_lt HBq.out.tb.lt))
        have C3 := hid (C1b.out q2 HBo2.out)
        have C4 := hid (C2b.out q2 HBo2.out)
        clear hb2 C2 C1b C2b
        go_simp
        refine hK.out _ _ (fun _ => HS2.out) ?_
        clear hK K
        refine wpL_take 10 141 (.bool false) [11, 21, 24] rfl rfl (by kernel_rfl) (by decide) (by kernel_rfl) (by kernel_rfl) (by kernel_rfl) (fun _ _ _ h => h) HS2.out (by rfl) (fun W hW => by obtain ⟨y0, y1, y2, y3⟩ := four_cells hW; go_simp) ?_
        simp only [Act.put, List.setIfInBounds_toArray, List.set_cons_zero, List.set_cons_succ]
        refine wpL_take 11 142 (.bool false) [21, 24] rfl rfl (by kernel_rfl) (by decide) (by kernel_rfl) (by kernel_rfl) (by kernel_rfl) (fun _ _ _ h => h) HS2.out (by rfl) (fun W hW => by obtain ⟨y0, y1, y2, y3⟩ := four_cells hW; go_simp) ?_
        simp only [Act.put, List.setIfInBounds_toArray, List.set_cons_zero, List.set_cons_succ]
        refine wpL_take 12 143 (pq t) [16, 21, 24] rfl rfl (by kernel_rfl) (by decide) (by kernel_rfl) (by kernel_rfl) (by kernel_rfl) (fun _ _ _ h => h) HS2.out (by rfl) (fun W hW => by obtain ⟨y0, y1, y2, y3⟩ := four_cells hW; go_simp) ?_
        simp only [Act.put, List.setIfInBounds_toArray, List.set_cons_zero, List.set_cons_succ]
        refine wpL_take 13 144 (.pointer (some ⟨wr.heap.size, 1, none⟩)) [14, 16, 21, 24] rfl rfl (by kernel_rfl) (by decide) (by kernel_rfl) (by kernel_rfl) (by kernel_rfl) (fun _ _ _ h => h) HS2.out (by rfl) (fun W hW => by obtain ⟨y0, y1, y2, y3⟩ := four_cells hW; go_simp) ?_
        simp only [Act.put, List.setIfInBounds_toArray, List.set_cons_zero, List.set_cons_succ]
        refine wpL_take 14 145 (i64 x.pid) [16, 21, 24] rfl rfl (by kernel_rfl) (by decide) (by kernel_rfl) (by kernel_rfl) (by kernel_rfl) (fun _ _ _ h => h) HS2.out (by rfl) (fun W hW => by obtain ⟨y0, y1, y2, y3⟩ := four_cells hW; go_simp) ?_
        simp only [Act.put, List.setIfInBounds_toArray, List.set_cons_zero, List.set_cons_succ]
        refine wpL_take 15 146 (i64 pg) [16, 21, 24] rfl rfl (by kernel_rfl) (by decide) (by kernel_rfl) (by kernel_rfl) (by kernel_rfl) (fun _ _ _ h => h) HS2.out (by rfl) (fun W hW => by obtain ⟨y0, y1, y2, y3⟩ := four_cells hW; go_simp) ?_
        simp only [Act.put, List.setIfInBounds_toArray, List.set_cons_zero, List.set_cons_succ]
        refine wpL_take 17 148 (pq b) [21, 24] rfl rfl (by kernel_rfl) (by decide) (by kernel_rfl) (by kernel_rfl) (by kernel_rfl) (fun _ _ _ h => h) HS2.out (by rfl) (fun W hW => by obtain ⟨y0, y1, y2, y3⟩ := four_cells hW; go_simp) ?_
        simp only [Act.put, List.setIfInBounds_toArray, List.set_cons_zero, List.set_cons_succ]
        refine wpL_take 18 149 (.pointer (some ⟨wr.heap.size, 1, none⟩)) [19, 21, 24] rfl rfl (by kernel_rfl) (by decide) (by kernel_rfl) (by kernel_rfl) (by kernel_rfl) (fun _ _ _ h => h) HS2.out (by rfl) (fun W hW => by obtain ⟨y0, y1, y2, y3⟩ := four_cells hW; go_simp) ?_
        simp only [Act.put, List.setIfInBounds_toArray, List.set_cons_zero, List.set_cons_succ]
        refine wpL_take 19 150 (i64 x.pid) [21, 24] rfl rfl (by kernel_rfl) (by decide) (by kernel_rfl) (by kernel_rfl) (by kernel_rfl) (fun _ _ _ h => h) HS2.out (by rfl) (fun W hW => by obtain ⟨y0, y1, y2, y3⟩ := four_cells hW; go_simp) ?_
        simp only [Act.put, List.setIfInBounds_toArray, List.set_cons_zero, List.set_cons_succ]
        refine wpL_take 20 151 (i64 pg) [21, 24] rfl rfl (by kernel_rfl) (by decide) (by kernel_rfl) (by kernel_rfl) (by kernel_rfl) (fun _ _ _ h => h) HS2.out (by rfl) (fun W hW => by obtain ⟨y0, y1, y2, y3⟩ := four_cells hW; go_simp) ?_
        simp only [Act.put, List.setIfInBounds_toArray, List.set_cons_zero, List.set_cons_succ]
        refine wpL_one 16 rfl (by kernel_rfl) (by rfl) (fun K hK => ?_)
        go_simp
        refine C3.out.mono ?_
        rintro e q3 ⟨rfl, hv⟩
        replace hv := hv.symm
        subst hv
        clear C3
        go_simp
        refine hK.out _ _ (fun _ => HS2.out) ?_
        clear hK K
        refine wpL_one 21 rfl (by kernel_rfl) (by rfl) (fun K hK => ?_)
        go_simp
        refine C4.out.mono ?_
        rintro e q4 ⟨rfl, hb4⟩
        have HS4 : Hid ((fun W : World => W.heap[wr.heap.size]? = some (spO x)) q4) := blk_below HS2.out hb4
        have HBo4 := hid (HBo2.out.below hb4)
        have HB4q : Hid (Below t w q4) := HB2q.out.trans (hb4.mono (Nat.le_of_lt HBo2.out.tb.lt))
        have C5 := hid (HAll.out _ q4 HBo4.out)
        clear hb4 C4
        go_simp
        refine hK.out _ _ (fun _ => HS4.out) ?_
        clear hK K
        refine wpL_take 22 153 (.bool false) [23, 24] rfl rfl (by kernel_rfl) (by decide) (by kernel_rfl) (by kernel_rfl) (by kernel_rfl) (fun _ _ _ h => h) HS4.out (by rfl) (fun W hW => by obtain ⟨y0, y1, y2, y3⟩ := four_cells hW; go_simp) ?_
        simp only [Act.put, List.setIfInBounds_toArray, List.set_cons_zero, List.set_cons_succ]
        refine wpL_take 23 154 (.bool false) [24] rfl rfl (by kernel_rfl) (by decide) (by kernel_rfl) (by kernel_rfl) (by kernel_rfl) (fun _ _ _ h => h) HS4.out (by rfl) (fun W hW => by obtain ⟨y0, y1, y2, y3⟩ := four_cells hW; go_simp) ?_
        simp only [Act.put, List.setIfInBounds_toArray, List.set_cons_zero, List.set_cons_succ]
        refine wpL_take 24 155 (.bool false) [] rfl rfl (by kernel_rfl) (by decide) (by kernel_rfl) (by kernel_rfl) (by kernel_rfl) (fun _ _ _ h => h) HS4.out (by rfl) (fun W hW => by obtain ⟨y0, y1, y2, y3⟩ := four_cells hW; go_simp) ?_
        simp only [Act.put, List.setIfInBounds_toArray, List.set_cons_zero, List.set_cons_succ]
        refine wpL_take 25 156 (pq t) [26, 27, 31] rfl rfl (by kernel_rfl) (by decide) (by kernel_rfl) (by kernel_rfl) (by kernel_rfl) (fun _ _ _ h => h) HS4.out (by rfl) (fun W hW => by obtain ⟨y0, y1, y2, y3⟩ := four_cells hW; go_simp) ?_
        simp only [Act.put, List.setIfInBounds_toArray, List.set_cons_zero, List.set_cons_succ]
        refine wpL_take 28 159 (pq b) [29, 30, 31] rfl rfl (by kernel_rfl) (by decide) (by kernel_rfl) (by kernel_rfl) (by kernel_rfl) (fun _ _ _ h => h) HS4.out (by rfl) (fun W hW => by obtain ⟨y0, y1, y2, y3⟩ := four_cells hW; go_simp) ?_
        simp only [Act.put, List.setIfInBounds_toArray, List.set_cons_zero, List.set_cons_succ]
        refine wpL_one 26 rfl (by kernel_rfl) (by rfl) (fun K hK => ?_)
        go_simp
        refine C5.out.mono ?_
        rintro e q5 ⟨⟨ao5, cap5, rfl, _⟩, hb5⟩
        have HS5 : Hid ((fun W : World => W.heap[wr.heap.size]? = some (spO x)) q5) := blk_below HS4.out hb5
        have HBo5 := hid (HBo4.out.below hb5)
        have HB5q : Hid (Below t w q5) := HB4q.out.trans (hb5.mono (Nat.le_of_lt HBo4.out.tb.lt))
        have C6 := hid (HAlA.out _ q5 HBo5.out)
        rw [HLn.out]
        obtain ⟨m1, hm1⟩ : ∃ m, m = ((L2).map ar).length := ⟨_, rfl⟩
        unfold Got at C6
        rw [← hm1] at C6 ⊢
        clear hb5 C5 hm1
        go_simp
        refine hK.out _ _ (fun _ => HS5.out) ?_
        clear hK K
        refine wpL_take 27 158 (i64 m1) [31] rfl rfl (by kernel_rfl) (by decide) (by kernel_rfl) (by kernel_rfl) (by kernel_rfl) (fun _ _ _ h => h) HS5.out (by rfl) (fun W hW => by obtain ⟨y0, y1, y2, y3⟩ := four_cells hW; go_simp) ?_
        simp only [Act.put, List.setIfInBounds_toArray, List.set_cons_zero, List.set_cons_succ]
        refine wpL_one 29 rfl (by kernel_rfl) (by rfl) (fun K hK => ?_)
        go_simp
        refine C6.out.mono ?_
        rintro e q6 ⟨⟨ao6, cap6, rfl, _⟩, hb6⟩
        have HS6 : Hid ((fun W : World => W.heap[wr.heap.size]? = some (spO x)) q6) := blk_below HS5.out hb6
        have HBo6 := hid (HBo5.out.below hb6)
        have HB6q : Hid (Below t w q6) := HB5q.out.trans (hb6.mono (Nat.le_of_lt HBo5.out.tb.lt))
        clear hb6 C6
        go_simp
        refine hK.out _ _ (fun _ => HS6.out) ?_
        clear hK K
        refine wpL_take 30 161 (i64 m1) [31] rfl rfl (by kernel_rfl) (by decide) (by kernel_rfl) (by kernel_rfl) (by kernel_rfl) (fun _ _ _ h => h) HS6.out (by rfl) (fun W hW => by obtain ⟨y0, y1, y2, y3⟩ := four_cells hW; go_simp) ?_
        simp only [Act.put, List.setIfInBounds_toArray, List.set_cons_zero, List.set_cons_succ]
        refine wpL_take 31 162 (.bool false) [] rfl rfl (by kernel_rfl) (by decide) (by kernel_rfl) (by kernel_rfl) (by kernel_rfl) (fun _ _ _ h => h) HS6.out (by rfl) (fun W hW => by obtain ⟨y0, y1, y2, y3⟩ := four_cells hW; go_simp) ?_
        simp only [Act.put, List.setIfInBounds_toArray, List.set_cons_zero, List.set_cons_succ]
        refine wpL_one 32 rfl (by kernel_rfl) (by rfl) (fun K hK => ?_)
        go_simp
        refine hK.out _ _ (fun h => absurd rfl h) ?_
        clear hK K
        refine wpL_done (by kernel_rfl) ?_
        refine NoPanic.normal ?_
        go_wp2_with fail
        exact ⟨⟨k + 1, by omega, by go_num, ⟨_, HBo6, HF2⟩, HB6q⟩, by simp [intOf]; omega⟩
      by_cases h6 : x.what = 6
      · have z0 : (x.what == 0) = false := beq_false_of_ne h0
        have z1 : (x.what == 1) = false := beq_false_of_ne h1
        have z2 : (x.what == 2) = false := beq_false_of_ne h2
        have z3 : (x.what == 3) = false := beq_false_of_ne h3
        have z6 : (x.what == 6) = true := beq_iff_eq.2 h6
        clear h0 h1 h2 h3 h6
        obtain ⟨E, L2, hg, hf, hc1, hc2⟩ := two_fork t b b L HBo.out.gs x.pid x.n
        have HG := hid hg
        have HF2 := hid (hf HFr.out)
        have D1 := hid (hc1 (wr.alloc (spO x)).drew ⟨HBo1.out.tb.blk⟩)
        have D2 := hid fun W (hW : Lb W b b (L.map ar)) (hbW : b ≤ W.heap.size) => hc2 W hW hbW
        clear hg hf hc1 hc2
        have HSd : Hid ((fun W : World => W.heap[wr.heap.size]? = some (spO x)) (wr.alloc (spO x)).drew) := HX.out
        have HBod : Hid (Bo (wr.alloc (spO x)).drew t b b L) := ⟨HBo1.out.gs, ⟨HBo1.out.tb.blk⟩, HBo1.out.lb, HBo1.out.lt⟩
        have HBd : Hid (Below t w (wr.alloc (spO x)).drew) := HB1.out.drew
        go_upto_region 22 with fail
        refine wp_region_noPanic ?_
        refine wp_region_last (fun W : World => W.heap[wr.heap.size]? = some (spO x)) 12 (by kernel_rfl) ?_
        refine wpL_take 0 107 (pq t) [5] rfl rfl (by kernel_rfl) (by decide) (by kernel_rfl) (by kernel_rfl) (by kernel_rfl) (fun _ _ _ h => h) HSd.out (by rfl) (fun W hW => by obtain ⟨y0, y1, y2, y3⟩ := four_cells hW; go_simp) ?_
        simp only [Act.put, List.setIfInBounds_toArray, List.set_cons_zero, List.set_cons_succ]
        refine wpL_take 1 108 (.pointer (some ⟨wr.heap.size, 1, none⟩)) [2, 5] rfl rfl (by kernel_rfl) (by decide) (by kernel_rfl) (by kernel_rfl) (by kernel_rfl) (fun _ _ _ h => h) HSd.out (by rfl) (fun W hW => by obtain ⟨y0, y1, y2, y3⟩ := four_cells hW; go_simp) ?_
        simp only [Act.put, List.setIfInBounds_toArray, List.set_cons_zero, List.set_cons_succ]
        refine wpL_take 2 109 (i64 x.pid) [5] rfl rfl (by kernel_rfl) (by decide) (by kernel_rfl) (by kernel_rfl) (by kernel_rfl) (fun _ _ _ h => h) HSd.out (by rfl) (fun W hW => by obtain ⟨y0, y1, y2, y3⟩ := four_cells hW; go_simp) ?_
        simp only [Act.put, List.setIfInBounds_toArray, List.set_cons_zero, List.set_cons_succ]
        refine wpL_take 3 110 (.pointer (some ⟨wr.heap.size, 3, none⟩)) [4, 5] rfl rfl (by kernel_rfl) (by decide) (by kernel_rfl) (by kernel_rfl) (by kernel_rfl) (fun _ _ _ h => h) HSd.out (by rfl) (fun W hW => by obtain ⟨y0, y1, y2, y3⟩ := four_cells hW; go_simp) ?_
        simp only [Act.put, List.setIfInBounds_toArray, List.set_cons_zero, List.set_cons_succ]
        refine wpL_take 4 111 (i64 x.n) [5] rfl rfl (by kernel_rfl) (by decide) (by kernel_rfl) (by kernel_rfl) (by kernel_rfl) (fun _ _ _ h => h) HSd.out (by rfl) (fun W hW => by obtain ⟨y0, y1, y2, y3⟩ := four_cells hW; go_simp) ?_
        simp only [Act.put, List.setIfInBounds_toArray, List.set_cons_zero, List.set_cons_succ]
        refine wpL_take 6 113 (pq b) [11] rfl rfl (by kernel_rfl) (by decide) (by kernel_rfl) (by kernel_rfl) (by kernel_rfl) (fun _ _ _ h => h) HSd.out (by rfl) (fun W hW => by obtain ⟨y0, y1, y2, y3⟩ := four_cells hW; go_simp) ?_
        simp only [Act.put, List.setIfInBounds_toArray, List.set_cons_zero, List.set_cons_succ]
        refine wpL_take 7 114 (.pointer (some ⟨wr.heap.size, 1, none⟩)) [8, 11] rfl rfl (by kernel_rfl) (by decide) (by kernel_rfl) (by kernel_rfl) (by kernel_rfl) (fun _ _ _ h => h) HSd.out (by rfl) (fun W hW => by obtain ⟨y0, y1, y2, y3⟩ := four_cells hW; go_simp) ?_
        simp only [Act.put, List.setIfInBounds_toArray, List.set_cons_zero, List.set_cons_succ]
        refine wpL_take 8 115 (i64 x.pid) [11] rfl rfl (by kernel_rfl) (by decide) (by kernel_rfl) (by kernel_rfl) (by kernel_rfl) (fun _ _ _ h => h) HSd.out (by rfl) (fun W hW => by obtain ⟨y0, y1, y2, y3⟩ := four_cells hW; go_simp) ?_
        simp only [Act.put, List.setIfInBounds_toArray, List.set_cons_zero, List.set_cons_succ]
        refine wpL_take 9 116 (.pointer (some ⟨wr.heap.size, 3, none⟩)) [10, 11] rfl rfl (by kernel_rfl) (by decide) (by kernel_rfl) (by kernel_rfl) (by kernel_rfl) (fun _ _ _ h => h) HSd.out (by rfl) (fun W hW => by obtain ⟨y0, y1, y2, y3⟩ := four_cells hW; go_simp) ?_
        simp only [Act.put, List.setIfInBounds_toArray, List.set_cons_zero, List.set_cons_succ]
        refine wpL_take 10 117 (i64 x.n) [11] rfl rfl (by kernel_rfl) (by decide) (by kernel_rfl) (by kernel_rfl) (by kernel_rfl) (fun _ _ _ h => h) HSd.out (by rfl) (fun W hW => by obtain ⟨y0, y1, y2, y3⟩ := four_cells hW; go_simp) ?_
        simp only [Act.put, List.setIfInBounds_toArray, List.set_cons_zero, List.set_cons_succ]
        refine wpL_one 5 rfl (by kernel_rfl) (by rfl) (fun K hK => ?_)
        go_simp
        refine D1.out.mono ?_
        rintro e w3 ⟨rfl, hT3, hO3⟩
        have HT3 := hid hT3
        have HL3 : Hid (Lb w3 b b (L.map ar)) := lb_touch HBod.out.lb HBod.out.lt hO3
        have HX3 : Hid (w3.heap[wr.heap.size]? = some (spO x)) := (hO3.block _ (blk_lt HSd.out) (by have := HBo.out.tb.lt; omega)).trans HSd.out
        have HB3 : Hid (Below t w w3) := HBd.out.trans (hO3.below (Nat.le_refl _) (Nat.le_of_lt HBod.out.tb.lt))
        clear hT3 hO3 D1
        have HS3 : Hid ((fun W : World => W.heap[wr.heap.size]? = some (spO x)) w3) := HX3.out
        go_simp
        refine hK.out _ _ (fun _ => HS3.out) ?_
        clear hK K
        refine wpL_one 11 rfl (by kernel_rfl) (by rfl) (fun K hK => ?_)
        go_simp
        refine (D2.out w3 HL3.out (Nat.le_of_lt HL3.out.lt)).mono ?_
        rintro e w4 ⟨rfl, hL4, hF4⟩
        have HBo4x : Hid (Bo w4 t b b L2) := ⟨HG.out, tb_fr HT3.out hF4, hL4, HBo1.out.lt⟩
        have HX4 : Hid (w4.heap[wr.heap.size]? = some (spO x)) := hF4.kept _ _ HX3.out rfl
        have HB4 : Hid (Below t w w4) := HB3.out.trans (hF4.below.mono (Nat.le_of_lt HBo1.out.lt))
        clear hL4 hF4 D2
        have HS4 : Hid ((fun W : World => W.heap[wr.heap.size]? = some (spO x)) w4) := HX4.out
        go_simp
        refine hK.out _ _ (fun _ => HS4.out) ?_
        clear hK K
        refine wpL_one 12 rfl (by kernel_rfl) (by rfl) (fun K hK => ?_)
        go_simp
        refine hK.out _ _ (fun h => absurd rfl h) ?_
        clear hK K
        refine wpL_done (by kernel_rfl) ?_
        refine NoPanic.normal ?_
        have HSq : Hid ((fun W : World => W.heap[wr.heap.size]? = some (spO x)) w4.drew) := HX4.out
        have HBq : Hid (Bo w4.drew t b b L2) := ⟨HBo4x.out.gs, ⟨HBo4x.out.tb.blk⟩, HBo4x.out.lb, HBo4x.out.lt⟩
        have HBz : Hid (Below t w w4.drew) := HB4.out.drew
        have hME := may_has HBo4x.out.gs HF2.out x.pid pg
        have HLn := hid (all_len HBo4x.out.gs)
        have C1 := hid (HMay.out _ _ HBq.out true)
        have C2 := hid (HHas.out _ _ HBq.out)
        have C1b := hid fun W (hB : Bo W t b b L2) => HMay.out _ W hB false
        have C2b := hid fun W (hB : Bo W t b b L2) => HHas.out _ W hB
        rw [hME true] at C1
        simp only [hME false] at C1b
        generalize hasL ((L2).map ar) x.pid pg = T at C1 C2 C1b C2b
        clear hME
        go_upto_region 27 with fail
        refine wp_region_noPanic ?_
        refine wp_region_last (fun W : World => W.heap[wr.heap.size]? = some (spO x)) 32 (by kernel_rfl) ?_
        refine wpL_take 0 131 (pq t) [4, 9, 11, 21, 24] rfl rfl (by kernel_rfl) (by decide) (by kernel_rfl) (by kernel_rfl) (by kernel_rfl) (fun _ _ _ h => h) HSq.out (by rfl) (fun W hW => by obtain ⟨y0, y1, y2, y3⟩ := four_cells hW; go_simp) ?_
        simp only [Act.put, List.setIfInBounds_toArray, List.set_cons_zero, List.set_cons_succ]
        refine wpL_take 1 132 (.pointer (some ⟨wr.heap.size, 1, none⟩)) [2, 4, 9, 11, 21, 24] rfl rfl (by kernel_rfl) (by decide) (by kernel_rfl) (by kernel_rfl) (by kernel_rfl) (fun _ _ _ h => h) HSq.out (by rfl) (fun W hW => by obtain ⟨y0, y1, y2, y3⟩ := four_cells hW; go_simp) ?_
        simp only [Act.put, List.setIfInBounds_toArray, List.set_cons_zero, List.set_cons_succ]
        refine wpL_take 2 133 (i64 x.pid) [4, 9, 11, 21, 24] rfl rfl (by kernel_rfl) (by decide) (by kernel_rfl) (by kernel_rfl) (by kernel_rfl) (fun _ _ _ h => h) HSq.out (by rfl) (fun W hW => by obtain ⟨y0, y1, y2, y3⟩ := four_cells hW; go_simp) ?_
        simp only [Act.put, List.setIfInBounds_toArray, List.set_cons_zero, List.set_cons_succ]
        refine wpL_take 3 134 (i64 pg) [4, 9, 11, 21, 24] rfl rfl (by kernel_rfl) (by decide) (by kernel_rfl) (by kernel_rfl) (by kernel_rfl) (fun _ _ _ h => h) HSq.out (by rfl) (fun W hW => by obtain ⟨y0, y1, y2, y3⟩ := four_cells hW; go_simp) ?_
        simp only [Act.put, List.setIfInBounds_toArray, List.set_cons_zero, List.set_cons_succ]
        refine wpL_take 5 136 (pq b) [9, 11, 21, 24] rfl rfl (by kernel_rfl) (by decide) (by kernel_rfl) (by kernel_rfl) (by kernel_rfl) (fun _ _ _ h => h) HSq.out (by rfl) (fun W hW => by obtain ⟨y0, y1, y2, y3⟩ := four_cells hW; go_simp) ?_
        simp only [Act.put, List.setIfInBounds_toArray, List.set_cons_zero, List.set_cons_succ]
        refine wpL_take 6 137 (.pointer (some ⟨wr.heap.size, 1, none⟩)) [7, 9, 11, 21, 24] rfl rfl (by kernel_rfl) (by decide) (by kernel_rfl) (by kernel_rfl) (by kernel_rfl) (fun _ _ _ h => h) HSq.out (by rfl) (fun W hW => by obtain ⟨y0, y1, y2, y3⟩ := four_cells hW; go_simp) ?_
        simp only [Act.put, List.setIfInBounds_toArray, List.set_cons_zero, List.set_cons_succ]
        refine wpL_take 7 138 (i64 x.pid) [9, 11, 21, 24] rfl rfl (by kernel_rfl) (by decide) (by kernel_rfl) (by kernel_rfl) (by kernel_rfl) (fun _ _ _ h => h) HSq.out (by rfl) (fun W hW => by obtain ⟨y0, y1, y2, y3⟩ := four_cells hW; go_simp) ?_
        simp only [Act.put, List.setIfInBounds_toArray, List.set_cons_zero, List.set_cons_succ]
        refine wpL_take 8 139 (i64 pg) [9, 11, 21, 24] rfl rfl (by kernel_rfl) (by decide) (by kernel_rfl) (by kernel_rfl) (by kernel_rfl) (fun _ _ _ h => h) HSq.out (by rfl) (fun W hW => by obtain ⟨y0, y1, y2, y3⟩ := four_cells hW; go_simp) ?_
        simp only [Act.put, List.setIfInBounds_toArray, List.set_cons_zero, List.set_cons_succ]
        refine wpL_one 4 rfl (by kernel_rfl) (by rfl) (fun K hK => ?_)
        go_simp
        refine C1.out.mono ?_
        rintro e q1 ⟨rfl, hv⟩
        replace hv := hv.symm
        subst hv
        clear C1
        go_simp
        refine hK.out _ _ (fun _ => HSq.out) ?_
        clear hK K
        refine wpL_one 9 rfl (by kernel_rfl) (by rfl) (fun K hK => ?_)
        go_simp
        refine C2.out.mono ?_
        rintro e q2 ⟨rfl, hb2⟩
        have HS2 : Hid ((fun W : World => W.heap[wr.heap.size]? = some (spO x)) q2) := blk_below HSq.out hb2
        have HBo2 := hid (HBq.out.below hb2)
        have HB2q : Hid (Below t w q2) := HBz.out.trans (hb2.mono (Nat.le_of_lt HBq.out.tb.lt))
        have C3 := hid (C1b.out q2 HBo2.out)
        have C4 := hid (C2b.out q2 HBo2.out)
        clear hb2 C2 C1b C2b
        go_simp
        refine hK.out _ _ (fun _ => HS2.out) ?_
        clear hK K
        refine wpL_take 10 141 (.bool false) [11, 21, 24] rfl rfl (by kernel_rfl) (by decide) (by kernel_rfl) (by kernel_rfl) (by kernel_rfl) (fun _ _ _ h => h) HS2.out (by rfl) (fun W hW => by obtain ⟨y0, y1, y2, y3⟩ := four_cells hW; go_simp) ?_
        simp only [Act.put, List.setIfInBounds_toArray, List.set_cons_zero, List.set_cons_succ]
        refine wpL_take 11 142 (.bool false) [21, 24] rfl rfl (by kernel_rfl) (by decide) (by kernel_rfl) (by kernel_rfl) (by kernel_rfl) (fun _ _ _ h => h) HS2.out (by rfl) (fun W hW => by obtain ⟨y0, y1, y2, y3⟩ := four_cells hW; go_simp) ?_
        simp only [Act.put, List.setIfInBounds_toArray, List.set_cons_zero, List.set_cons_succ]
        refine wpL_take 12 143 (pq t) [16, 21, 24] rfl rfl (by kernel_rfl) (by decide) (by kernel_rfl) (by kernel_rfl) (by kernel_rfl) (fun _ _ _ h => h) HS2.out (by rfl) (fun W hW => by obtain ⟨y0, y1, y2, y3⟩ := four_cells hW; go_simp) ?_
        simp only [Act.put, List.setIfInBounds_toArray, List.set_cons_zero, List.set_cons_succ]
        refine wpL_take 13 144 (.pointer (some ⟨wr.heap.size, 1, none⟩)) [14, 16, 21, 24] rfl rfl (by kernel_rfl) (by decide) (by kernel_rfl) (by kernel_rfl) (by kernel_rfl) (fun _ _ _ h => h) HS2.out (by rfl) (fun W hW => by obtain ⟨y0, y1, y2, y3⟩ := four_cells hW; go_simp) ?_
        simp only [Act.put, List.setIfInBounds_toArray, List.set_cons_zero, List.set_cons_succ]
        refine wpL_take 14 145 (i64 x.pid) [16, 21, 24] rfl rfl (by kernel_rfl) (by decide) (by kernel_rfl) (by kernel_rfl) (by kernel_rfl) (fun _ _ _ h => h) HS2.out (by rfl) (fun W hW => by obtain ⟨y0, y1, y2, y3⟩ := four_cells hW; go_simp) ?_
        simp only [Act.put, List.setIfInBounds_toArray, List.set_cons_zero, List.set_cons_succ]
        refine wpL_take 15 146 (i64 pg) [16, 21, 24] rfl rfl (by kernel_rfl) (by decide) (by kernel_rfl) (by kernel_rfl) (by kernel_rfl) (fun _ _ _ h => h) HS2.out (by rfl) (fun W hW => by obtain ⟨y0, y1, y2, y3⟩ := four_cells hW; go_simp) ?_
        simp only [Act.put, List.setIfInBounds_toArray, List.set_cons_zero, List.set_cons_succ]
        refine wpL_take 17 148 (pq b) [21, 24] rfl rfl (by kernel_rfl) (by decide) (by kernel_rfl) (by kernel_rfl) (by kernel_rfl) (fun _ _ _ h => h) HS2.out (by rfl) (fun W hW => by obtain ⟨y0, y1, y2, y3⟩ := four_cells hW; go_simp) ?_
        simp only [Act.put, List.setIfInBounds_toArray, List.set_cons_zero, List.set_cons_succ]
        refine wpL_take 18 149 (.pointer (some ⟨wr.heap.size, 1, none⟩)) [19, 21, 24] rfl rfl (by kernel_rfl) (by decide) (by kernel_rfl) (by kernel_rfl) (by kernel_rfl) (fun _ _ _ h => h) HS2.out (by rfl) (fun W hW => by obtain ⟨y0, y1, y2, y3⟩ := four_cells hW; go_simp) ?_
        simp only [Act.put, List.setIfInBounds_toArray, List.set_cons_zero, List.set_cons_succ]
        refine wpL_take 19 150 (i64 x.pid) [21, 24] rfl rfl (by kernel_rfl) (by decide) (by kernel_rfl) (by kernel_rfl) (by kernel_rfl) (fun _ _ _ h => h) HS2.out (by rfl) (fun W hW => by obtain ⟨y0, y1, y2, y3⟩ := four_cells hW; go_simp) ?_
        simp only [Act.put, List.setIfInBounds_toArray, List.set_cons_zero, List.set_cons_succ]
        refine wpL_take 20 151 (i64 pg) [21, 24] rfl rfl (by kernel_rfl) (by decide) (by kernel_rfl) (by kernel_rfl) (by kernel_rfl) (fun _ _ _ h => h) HS2.out (by rfl) (fun W hW => by obtain ⟨y0, y1, y2, y3⟩ := four_cells hW; go_simp) ?_
        simp only [Act.put, List.setIfInBounds_toArray, List.set_cons_zero, List.set_cons_succ]
        refine wpL_one 16 rfl (by kernel_rfl) (by rfl) (fun K hK => ?_)
        go_simp
        refine C3.out.mono ?_
        rintro e q3 ⟨rfl, hv⟩
        replace hv := hv.symm
        subst hv
        clear C3
        go_simp
        refine hK.out _ _ (fun _ => HS2.out) ?_
        clear hK K
        refine wpL_one 21 rfl (by kernel_rfl) (by rfl) (fun K hK => ?_)
        go_simp
        refine C4.out.mono ?_
        rintro e q4 ⟨rfl, hb4⟩
        have HS4 : Hid ((fun W : World => W.heap[wr.heap.size]? = some (spO x)) q4) := blk_below HS2.out hb4
        have HBo4 := hid (HBo2.out.below hb4)
        have HB4q : Hid (Below t w q4) := HB2q.out.trans (hb4.mono (Nat.le_of_lt HBo2.out.tb.lt))
        have C5 := hid (HAll.out _ q4 HBo4.out)
        clear hb4 C4
        go_simp
        refine hK.out _ _ (fun _ => HS4.out) ?_
        clear hK K
        refine wpL_take 22 153 (.bool false) [23, 24] rfl rfl (by kernel_rfl) (by decide) (by kernel_rfl) (by kernel_rfl) (by kernel_rfl) (fun _ _ _ h => h) HS4.out (by rfl) (fun W hW => by obtain ⟨y0, y1, y2, y3⟩ := four_cells hW; go_simp) ?_
        simp only [Act.put, List.setIfInBounds_toArray, List.set_cons_zero, List.set_cons_succ]
        refine wpL_take 23 154 (.bool false) [24] rfl rfl (by kernel_rfl) (by decide) (by kernel_rfl) (by kernel_rfl) (by kernel_rfl) (fun _ _ _ h => h) HS4.out (by rfl) (fun W hW => by obtain ⟨y0, y1, y2, y3⟩ := four_cells hW; go_simp) ?_
        simp only [Act.put, List.setIfInBounds_toArray, List.set_cons_zero, List.set_cons_succ]
        refine wpL_take 24 155 (.bool false) [] rfl rfl (by kernel_rfl) (by decide) (by kernel_rfl) (by kernel_rfl) (by kernel_rfl) (fun _ _ _ h => h) HS4.out (by rfl) (fun W hW => by obtain ⟨y0, y1, y2, y3⟩ := four_cells hW; go_simp) ?_
        simp only [Act.put, List.setIfInBounds_toArray, List.set_cons_zero, List.set_cons_succ]
        refine wpL_take 25 156 (pq t) [26, 27, 31] rfl rfl (by kernel_rfl) (by decide) (by kernel_rfl) (by kernel_rfl) (by kernel_rfl) (fun _ _ _ h => h) HS4.out (by rfl) (fun W hW => by obtain ⟨y0, y1, y2, y3⟩ := four_cells hW; go_simp) ?_
        simp only [Act.put, List.setIfInBounds_toArray, List.set_cons_zero, List.set_cons_succ]
        refine wpL_take 28 159 (pq b) [29, 30, 31] rfl rfl (by kernel_rfl) (by decide) (by kernel_rfl) (by kernel_rfl) (by kernel_rfl) (fun _ _ _ h => h) HS4.out (by rfl) (fun W hW => by obtain ⟨y0, y1, y2, y3⟩ := four_cells hW; go_simp) ?_
        simp only [Act.put, List.setIfInBounds_toArray, List.set_cons_zero, List.set_cons_succ]
        refine wpL_one 26 rfl (by kernel_rfl) (by rfl) (fun K hK => ?_)
        go_simp
        refine C5.out.mono ?_
        rintro e q5 ⟨⟨ao5, cap5, rfl, _⟩, hb5⟩
        have HS5 : Hid ((fun W : World => W.heap[wr.heap.size]? = some (spO x)) q5) := blk_below HS4.out hb5
        have HBo5 := hid (HBo4.out.below hb5)
        have HB5q : Hid (Below t w q5) := HB4q.out.trans (hb5.mono (Nat.le_of_lt HBo4.out.tb.lt))
        have C6 := hid (HAlA.out _ q5 HBo5.out)
        rw [HLn.out]
        obtain ⟨m1, hm1⟩ : ∃ m, m = ((L2).map ar).length := ⟨_, rfl⟩
        unfold Got at C6
        rw [← hm1] at C6 ⊢
        clear hb5 C5 hm1
        go_simp
        refine hK.out _ _ (fun _ => HS5.out) ?_
        clear hK K
        refine wpL_take 27 158 (i64 m1) [31] rfl rfl (by kernel_rfl) (by decide) (by kernel_rfl) (by kernel_rfl) (by kernel_rfl) (fun _ _ _ h => h) HS5.out (by rfl) (fun W hW => by obtain ⟨y0, y1, y2, y3⟩ := four_cells hW; go_simp) ?_
        simp only [Act.put, List.setIfInBounds_toArray, List.set_cons_zero, List.set_cons_succ]
        refine wpL_one 29 rfl (by kernel_rfl) (by rfl) (fun K hK => ?_)
        go_simp
        refine C6.out.mono ?_
        rintro e q6 ⟨⟨ao6, cap6, rfl, _⟩, hb6⟩
        have HS6 : Hid ((fun W : World => W.heap[wr.heap.size]? = some (spO x)) q6) := blk_below HS5.out hb6
        have HBo6 := hid (HBo5.out.below hb6)
        have HB6q : Hid (Below t w q6) := HB5q.out.trans (hb6.mono (Nat.le_of_lt HBo5.out.tb.lt))
        clear hb6 C6
        go_simp
        refine hK.out _ _ (fun _ => HS6.out) ?_
        clear hK K
        refine wpL_take 30 161 (i64 m1) [31] rfl rfl (by kernel_rfl) (by decide) (by kernel_rfl) (by kernel_rfl) (by kernel_rfl) (fun _ _ _ h => h) HS6.out (by rfl) (fun W hW => by obtain ⟨y0, y1, y2, y3⟩ := four_cells hW; go_simp) ?_
        simp only [Act.put, List.setIfInBounds_toArray, List.set_cons_zero, List.set_cons_succ]
        refine wpL_take 31 162 (.bool false) [] rfl rfl (by kernel_rfl) (by decide) (by kernel_rfl) (by kernel_rfl) (by kernel_rfl) (fun _ _ _ h => h) HS6.out (by rfl) (fun W hW => by obtain ⟨y0, y1, y2, y3⟩ := four_cells hW; go_simp) ?_
        simp only [Act.put, List.setIfInBounds_toArray, List.set_cons_zero, List.set_cons_succ]
        refine wpL_one 32 rfl (by kernel_rfl) (by rfl) (fun K hK => ?_)
        go_simp
        refine hK.out _ _ (fun h => absurd rfl h) ?_
        clear hK K
        refine wpL_done (by kernel_rfl) ?_
        refine NoPanic.normal ?_
        go_wp2_with fail
        exact ⟨⟨k + 1, by omega, by go_num, ⟨_, HBo6, HF2⟩, HB6q⟩, by simp [intOf]; omega⟩
      by_cases h7 : x.what = 7
      · have z0 : (x.what == 0) = false := beq_false_of_ne h0
        have z1 : (x.what == 1) = false := beq_false_of_ne h1
        have z2 : (x.what == 2) = false := beq_false_of_ne h2
        have z3 : (x.what == 3) = false := beq_false_of_ne h3
        have z6 : (x.what == 6) = false := beq_false_of_ne h6
        have z7 : (x.what == 7) = true := beq_iff_eq.2 h7
        clear h0 h1 h2 h3 h6 h7
        obtain ⟨E, L2, hg, hf, hc1, hc2⟩ := two_drop t b b L HBo.out.gs x.pid
        have HG := hid hg
        have HF2 := hid (hf HFr.out)
        have D1 := hid (hc1 (wr.alloc (spO x)).drew ⟨HBo1.out.tb.blk⟩)
        have D2 := hid fun W (hW : Lb W b b (L.map ar)) (hbW : b ≤ W.heap.size) => hc2 W hW hbW
        clear hg hf hc1 hc2
        have HSd : Hid ((fun W : World => W.heap[wr.heap.size]? = some (spO x)) (wr.alloc (spO x)).drew) := HX.out
        have HBod : Hid (Bo (wr.alloc (spO x)).drew t b b L) := ⟨HBo1.out.gs, ⟨HBo1.out.tb.blk⟩, HBo1.out.lb, HBo1.out.lt⟩
        have HBd : Hid (Below t w (wr.alloc (spO x)).drew) := HB1.out.drew
        go_upto_region 25 with fail
        refine wp_region_noPanic ?_
        refine wp_region_last (fun W : World => W.heap[wr.heap.size]? = some (spO x)) 8 (by kernel_rfl) ?_
        refine wpL_take 0 122 (pq t) [3] rfl rfl (by kernel_rfl) (by decide) (by kernel_rfl) (by kernel_rfl) (by kernel_rfl) (fun _ _ _ h => h) HSd.out (by rfl) (fun W hW => by obtain ⟨y0, y1, y2, y3⟩ := four_cells hW; go_simp) ?_
        simp only [Act.put, List.setIfInBounds_toArray, List.set_cons_zero, List.set_cons_succ]
        refine wpL_take 1 123 (.pointer (some ⟨wr.heap.size, 1, none⟩)) [2, 3] rfl rfl (by kernel_rfl) (by decide) (by kernel_rfl) (by kernel_rfl) (by kernel_rfl) (fun _ _ _ h => h) HSd.out (by rfl) (fun W hW => by obtain ⟨y0, y1, y2, y3⟩ := four_cells hW; go_simp) ?_
        simp only [Act.put, List.setIfInBounds_toArray, List.set_cons_zero, List.set_cons_succ]
        refine wpL_take 2 124 (i64 x.pid) [3] rfl rfl (by kernel_rfl) (by decide) (by kernel_rfl) (by kernel_rfl) (by kernel_rfl) (fun _ _ _ h => h) HSd.out (by rfl) (fun W hW => by obtain ⟨y0, y1, y2, y3⟩ := four_cells hW; go_simp) ?_
        simp only [Act.put, List.setIfInBounds_toArray, List.set_cons_zero, List.set_cons_succ]
        refine wpL_take 4 126 (pq b) [7] rfl rfl (by kernel_rfl) (by decide) (by kernel_rfl) (by kernel_rfl) (by kernel_rfl) (fun _ _ _ h => h) HSd.out (by rfl) (fun W hW => by obtain ⟨y0, y1, y2, y3⟩ := four_cells hW; go_simp) ?_
        simp only [Act.put, List.setIfInBounds_toArray, List.set_cons_zero, List.set_cons_succ]
        refine wpL_take 5 127 (.pointer (some ⟨wr.heap.size, 1, none⟩)) [6, 7] rfl rfl (by kernel_rfl) (by decide) (by kernel_rfl) (by kernel_rfl) (by kernel_rfl) (fun _ _ _ h => h) HSd.out (by rfl) (fun W hW => by obtain ⟨y0, y1, y2, y3⟩ := four_cells hW; go_simp) ?_
        simp only [Act.put, List.setIfInBounds_toArray, List.set_cons_zero, List.set_cons_succ]
        refine wpL_take 6 128 (i64 x.pid) [7] rfl rfl (by kernel_rfl) (by decide) (by kernel_rfl) (by kernel_rfl) (by kernel_rfl) (fun _ _ _ h => h) HSd.out (by rfl) (fun W hW => by obtain ⟨y0, y1, y2, y3⟩ := four_cells hW; go_simp) ?_
        simp only [Act.put, List.setIfInBounds_toArray, List.set_cons_zero, List.set_cons_succ]
        refine wpL_one 3 rfl (by kernel_rfl) (by rfl) (fun K hK => ?_)
        go_simp
        refine D1.out.mono ?_
        rintro e w3 ⟨rfl, hT3, hO3⟩
        have HT3 := hid hT3
        have HL3 : Hid (Lb w3 b b (L.map ar)) := lb_touch HBod.out.lb HBod.out.lt hO3
        have HX3 : Hid (w3.heap[wr.heap.size]? = some (spO x)) := (hO3.block _ (blk_lt HSd.out) (by have := HBo.out.tb.lt; omega)).trans HSd.out
        have HB3 : Hid (Below t w w3) := HBd.out.trans (hO3.below (Nat.le_refl _) (Nat.le_of_lt HBod.out.tb.lt))
        clear hT3 hO3 D1
        have HS3 : Hid ((fun W : World => W.heap[wr.heap.size]? = some (spO x)) w3) := HX3.out
        go_simp
        refine hK.out _ _ (fun _ => HS3.out) ?_
        clear hK K
        refine wpL_one 7 rfl (by kernel_rfl) (by rfl) (fun K hK => ?_)
        go_simp
        refine (D2.out w3 HL3.out (Nat.le_of_lt HL3.out.lt)).mono ?_
        rintro e w4 ⟨rfl, hL4, hF4⟩
        have HBo4x : Hid (Bo w4 t b b L2) := ⟨HG.out, tb_fr HT3.out hF4, hL4, HBo1.out.lt⟩
        have HX4 : Hid (w4.heap[wr.heap.size]? = some (spO x)) := hF4.kept _ _ HX3.out rfl
        have HB4 : Hid (Below t w w4) := HB3.out.trans (hF4.below.mono (Nat.le_of_lt HBo1.out.lt))
        clear hL4 hF4 D2
        have HS4 : Hid ((fun W : World => W.heap[wr.heap.size]? = some (spO x)) w4) := HX4.out
        go_simp
        refine hK.out _ _ (fun _ => HS4.out) ?_
        clear hK K
        refine wpL_one 8 rfl (by kernel_rfl) (by rfl) (fun K hK => ?_)
        go_simp
        refine hK.out _ _ (fun h => absurd rfl h) ?_
        clear hK K
        refine wpL_done (by kernel_rfl) ?_
        refine NoPanic.normal ?_
        have HSq : Hid ((fun W : World => W.heap[wr.heap.size]? = some (spO x)) w4.drew) := HX4.out
        have HBq : Hid (Bo w4.drew t b b L2) := ⟨HBo4x.out.gs, ⟨HBo4x.out.tb.blk⟩, HBo4x.out.lb, HBo4x.out.lt⟩
        have HBz : Hid (Below t w w4.drew) := HB4.out.drew
        have hME := may_has HBo4x.out.gs HF2.out x.pid pg
        have HLn := hid (all_len HBo4x.out.gs)
        have C1 := hid (HMay.out _ _ HBq.out true)
        have C2 := hid (HHas.out _ _ HBq.out)
        have C1b := hid fun W (hB : Bo W t b b L2) => HMay.out _ W hB false
        have C2b := hid fun W (hB : Bo W t b b L2) => HHas.out _ W hB
        rw [hME true] at C1
        simp only [hME false] at C1b
        generalize hasL ((L2).map ar) x.pid pg = T at C1 C2 C1b C2b
        clear hME
        go_upto_region 27 with fail
        refine wp_region_noPanic ?_
        refine wp_region_last (fun W : World => W.heap[wr.heap.size]? = some (spO x)) 32 (by kernel_rfl) ?_
        refine wpL_take 0 131 (pq t) [4, 9, 11, 21, 24] rfl rfl (by kernel_rfl) (by decide) (by kernel_rfl) (by kernel_rfl) (by kernel_rfl) (fun _ _ _ h => h) HSq.out (by rfl) (fun W hW => by obtain ⟨y0, y1, y2, y3⟩ := four_cells hW; go_simp) ?_
        simp only [Act.put, List.setIfInBounds_toArray, List.set_cons_zero, List.set_cons_succ]
        refine wpL_take 1 132 (.pointer (some ⟨wr.heap.size, 1, none⟩)) [2, 4, 9, 11, 21, 24] rfl rfl (by kernel_rfl) (by decide) (by kernel_rfl) (by kernel_rfl) (by kernel_rfl) (fun _ _ _ h => h) HSq.out (by rfl) (fun W hW => by obtain ⟨y0, y1, y2, y3⟩ := four_cells hW; go_simp) ?_
        simp only [Act.put, List.setIfInBounds_toArray, List.set_cons_zero, List.set_cons_succ]
        refine wpL_take 2 133 (i64 x.pid) [4, 9, 11, 21, 24] rfl rfl (by kernel_rfl) (by decide) (by kernel_rfl) (by kernel_rfl) (by kernel_rfl) (fun _ _ _ h => h) HSq.out (by rfl) (fun W hW => by obtain ⟨y0, y1, y2, y3⟩ := four_cells hW; go_simp) ?_
        simp only [Act.put, List.setIfInBounds_toArray, List.set_cons_zero, List.set_cons_succ]
        refine wpL_take 3 134 (i64 pg) [4, 9, 11, 21, 24] rfl rfl (by kernel_rfl) (by decide) (by kernel_rfl) (by kernel_rfl) (by kernel_rfl) (fun _ _ _ h => h) HSq.out (by rfl) (fun W hW => by obtain ⟨y0, y1, y2, y3⟩ := four_cells hW; go_simp) ?_
        simp only [Act.put, List.setIfInBounds_toArray, List.set_cons_zero, List.set_cons_succ]
        refine wpL_take 5 136 (pq b) [9, 11, 21, 24] rfl rfl (by kernel_rfl) (by decide) (by kernel_rfl) (by kernel_rfl) (by kernel_rfl) (fun _ _ _ h => h) HSq.out (by rfl) (fun W hW => by obtain ⟨y0, y1, y2, y3⟩ := four_cells hW; go_simp) ?_
        simp only [Act.put, List.setIfInBounds_toArray, List.set_cons_zero, List.set_cons_succ]
        refine wpL_take 6 137 (.pointer (some ⟨wr.heap.size, 1, none⟩)) [7, 9, 11, 21, 24] rfl rfl (by kernel_rfl) (by decide) (by kernel_rfl) (by kernel_rfl) (by kernel_rfl) (fun _ _ _ h => h) HSq.out (by rfl) (fun W hW => by obtain ⟨y0, y1, y2, y3⟩ := four_cells hW; go_simp) ?_
        simp only [Act.put, List.setIfInBounds_toArray, List.set_cons_zero, List.set_cons_succ]
        refine wpL_take 7 138 (i64 x.pid) [9, 11, 21, 24] rfl rfl (by kernel_rfl) (by decide) (by kernel_rfl) (by kernel_rfl) (by kernel_rfl) (fun _ _ _ h => h) HSq.out (by rfl) (fun W hW => by obtain ⟨y0, y1, y2, y3⟩ := four_cells hW; go_simp) ?_
        simp only [Act.put, List.setIfInBounds_toArray, List.set_cons_zero, List.set_cons_succ]
        refine wpL_take 8 139 (i64 pg) [9, 11, 21, 24] rfl rfl (by kernel_rfl) (by decide) (by kernel_rfl) (by kernel_rfl) (by kernel_rfl) (fun _ _ _ h => h) HSq.out (by rfl) (fun W hW => by obtain ⟨y0, y1, y2, y3⟩ := four_cells hW; go_simp) ?_
        simp only [Act.put, List.setIfInBounds_toArray, List.set_cons_zero, List.set_cons_succ]
        refine wpL_one 4 rfl (by kernel_rfl) (by rfl) (fun K hK => ?_)
        go_simp
        refine C1.out.mono ?_
        rintro e q1 ⟨rfl, hv⟩
        replace hv := hv.symm
        subst hv
        clear C1
        go_simp
        refine hK.out _ _ (fun _ => HSq.out) ?_
        clear hK K
        refine wpL_one 9 rfl (by kernel_rfl) (by rfl) (fun K hK => ?_)
        go_simp
        refine C2.out.mono ?_
        rintro e q2 ⟨rfl, hb2⟩
        have HS2 : Hid ((fun W : World => W.heap[wr.heap.size]? = some (spO x)) q2) := blk_below HSq.out hb2
        have HBo2 := hid (HBq.out.below hb2)
        have HB2q : Hid (Below t w q2) := HBz.out.trans (hb2.mono (Nat.le_of_lt HBq.out.tb.lt))
        have C3 := hid (C1b.out q2 HBo2.out)
        have C4 := hid (C2b.out q2 HBo2.out)
        clear hb2 C2 C1b C2b
        go_simp
        refine hK.out _ _ (fun _ => HS2.out) ?_
        clear hK K
        refine wpL_take 10 141 (.bool false) [11, 21, 24] rfl rfl (by kernel_rfl) (by decide) (by kernel_rfl) (by kernel_rfl) (by kernel_rfl) (fun _ _ _ h => h) HS2.out (by rfl) (fun W hW => by obtain ⟨y0, y1, y2, y3⟩ := four_cells hW; go_simp) ?_
        simp only [Act.put, List.setIfInBounds_toArray, List.set_cons_zero, List.set_cons_succ]
        refine wpL_take 11 142 (.bool false) [21, 24] rfl rfl (by kernel_rfl) (by decide) (by kernel_rfl) (by kernel_rfl) (by kernel_rfl) (fun _ _ _ h => h) HS2.out (by rfl) (fun W hW => by obtain ⟨y0, y1, y2, y3⟩ := four_cells hW; go_simp) ?_
        simp only [Act.put, List.setIfInBounds_toArray, List.set_cons_zero, List.set_cons_succ]
        refine wpL_take 12 143 (pq t) [16, 21, 24] rfl rfl (by kernel_rfl) (by decide) (by kernel_rfl) (by kernel_rfl) (by kernel_rfl) (fun _ _ _ h => h) HS2.out (by rfl) (fun W hW => by obtain ⟨y0, y1, y2, y3⟩ := four_cells hW; go_simp) ?_
        simp only [Act.put, List.setIfInBounds_toArray, List.set_cons_zero, List.set_cons_succ]
        refine wpL_take 13 144 (.pointer (some ⟨wr.heap.size, 1, none⟩)) [14, 16, 21, 24] rfl rfl (by kernel_rfl) (by decide) (by kernel_rfl) (by kernel_rfl) (by kernel_rfl) (fun _ _ _ h => h) HS2.out (by rfl) (fun W hW => by obtain ⟨y0, y1, y2, y3⟩ := four_cells hW; go_simp) ?_
        simp only [Act.put, List.setIfInBounds_toArray, List.set_cons_zero, List.set_cons_succ]
        refine wpL_take 14 145 (i64 x.pid) [16, 21, 24] rfl rfl (by kernel_rfl) (by decide) (by kernel_rfl) (by kernel_rfl) (by kernel_rfl) (fun _ _ _ h => h) HS2.out (by rfl) (fun W hW => by obtain ⟨y0, y1, y2, y3⟩ := four_cells hW; go_simp) ?_
        simp only [Act.put, List.setIfInBounds_toArray, List.set_cons_zero, List.set_cons_succ]
        refine wpL_take 15 146 (i64 pg) [16, 21, 24] rfl rfl (by kernel_rfl) (by decide) (by kernel_rfl) (by kernel_rfl) (by kernel_rfl) (fun _ _ _ h => h) HS2.out (by rfl) (fun W hW => by obtain ⟨y0, y1, y2, y3⟩ := four_cells hW; go_simp) ?_
        simp only [Act.put, List.setIfInBounds_toArray, List.set_cons_zero, List.set_cons_succ]
        refine wpL_take 17 148 (pq b) [21, 24] rfl rfl (by kernel_rfl) (by decide) (by kernel_rfl) (by kernel_rfl) (by kernel_rfl) (fun _ _ _ h => h) HS2.out (by rfl) (fun W hW => by obtain ⟨y0, y1, y2, y3⟩ := four_cells hW; go_simp) ?_
        simp only [Act.put, List.setIfInBounds_toArray, List.set_cons_zero, List.set_cons_succ]
        refine wpL_take 18 149 (.pointer (some ⟨wr.heap.size, 1, none⟩)) [19, 21, 24] rfl rfl (by kernel_rfl) (by decide) (by kernel_rfl) (by kernel_rfl) (by kernel_rfl) (fun _ _ _ h => h) HS2.out (by rfl) (fun W hW => by obtain ⟨y0, y1, y2, y3⟩ := four_cells hW; go_simp) ?_
        simp only [Act.put, List.setIfInBounds_toArray, List.set_cons_zero, List.set_cons_succ]
        refine wpL_take 19 150 (i64 x.pid) [21, 24] rfl rfl (by kernel_rfl) (by decide) (by kernel_rfl) (by kernel_rfl) (by kernel_rfl) (fun _ _ _ h => h) HS2.out (by rfl) (fun W hW => by obtain ⟨y0, y1, y2, y3⟩ := four_cells hW; go_simp) ?_
        simp only [Act.put, List.setIfInBounds_toArray, List.set_cons_zero, List.set_cons_succ]
        refine wpL_take 20 151 (i64 pg) [21, 24] rfl rfl (by kernel_rfl) (by decide) (by kernel_rfl) (by kernel_rfl) (by kernel_rfl) (fun _ _ _ h => h) HS2.out (by rfl) (fun W hW => by obtain ⟨y0, y1, y2, y3⟩ := four_cells hW; go_simp) ?_
        simp only [Act.put, List.setIfInBounds_toArray, List.set_cons_zero, List.set_cons_succ]
        refine wpL_one 16 rfl (by kernel_rfl) (by rfl) (fun K hK => ?_)
        go_simp
        refine C3.out.mono ?_
        rintro e q3 ⟨rfl, hv⟩
        replace hv := hv.symm
        subst hv
        clear C3
        go_simp
        refine hK.out _ _ (fun _ => HS2.out) ?_
        clear hK K
        refine wpL_one 21 rfl (by kernel_rfl) (by rfl) (fun K hK => ?_)
        go_simp
        refine C4.out.mono ?_
        rintro e q4 ⟨rfl, hb4⟩
        have HS4 : Hid ((fun W : World => W.heap[wr.heap.size]? = some (spO x)) q4) := blk_below HS2.out hb4
        have HBo4 := hid (HBo2.out.below hb4)
        have HB4q : Hid (Below t w q4) := HB2q.out.trans (hb4.mono (Nat.le_of_lt HBo2.out.tb.lt))
        have C5 := hid (HAll.out _ q4 HBo4.out)
        clear hb4 C4
        go_simp
        refine hK.out _ _ (fun _ => HS4.out) ?_
        clear hK K
        refine wpL_take 22 153 (.bool false) [23, 24] rfl rfl (by kernel_rfl) (by decide) (by kernel_rfl) (by kernel_rfl) (by kernel_rfl) (fun _ _ _ h => h) HS4.out (by rfl) (fun W hW => by obtain ⟨y0, y1, y2, y3⟩ := four_cells hW; go_simp) ?_
        simp only [Act.put, List.setIfInBounds_toArray, List.set_cons_zero, List.set_cons_succ]
        refine wpL_take 23 154 (.bool false) [24] rfl rfl (by kernel_rfl) (by decide) (by kernel_rfl) (by kernel_rfl) (by kernel_rfl) (fun _ _ _ h => h) HS4.out (by rfl) (fun W hW => by obtain ⟨y0, y1, y2, y3⟩ := four_cells hW; go_simp) ?_
        simp only [Act.put, List.setIfInBounds_toArray, List.set_cons_zero, List.set_cons_succ]
        refine wpL_take 24 155 (.bool false) [] rfl rfl (by kernel_rfl) (by decide) (by kernel_rfl) (by kernel_rfl) (by kernel_rfl) (fun _ _ _ h => h) HS4.out (by rfl) (fun W hW => by obtain ⟨y0, y1, y2, y3⟩ := four_cells hW; go_simp) ?_
        simp only [Act.put, List.setIfInBounds_toArray, List.set_cons_zero, List.set_cons_succ]
        refine wpL_take 25 156 (pq t) [26, 27, 31] rfl rfl (by kernel_rfl) (by decide) (by kernel_rfl) (by kernel_rfl) (by kernel_rfl) (fun _ _ _ h => h) HS4.out (by rfl) (fun W hW => by obtain ⟨y0, y1, y2, y3⟩ := four_cells hW; go_simp) ?_
        simp only [Act.put, List.setIfInBounds_toArray, List.set_cons_zero, List.set_cons_succ]
        refine wpL_take 28 159 (pq b) [29, 30, 31] rfl rfl (by kernel_rfl) (by decide) (by kernel_rfl) (by kernel_rfl) (by kernel_rfl) (fun _ _ _ h => h) HS4.out (by rfl) (fun W hW => by obtain ⟨y0, y1, y2, y3⟩ := four_cells hW; go_simp) ?_
        simp only [Act.put, List.setIfInBounds_toArray, List.set_cons_zero, List.set_cons_succ]
        refine wpL_one 26 rfl (by kernel_rfl) (by rfl) (fun K hK => ?_)
        go_simp
        refine C5.out.mono ?_
        rintro e q5 ⟨⟨ao5, cap5, rfl, _⟩, hb5⟩
        have HS5 : Hid ((fun W : World => W.heap[wr.heap.size]? = some (spO x)) q5) := blk_below HS4.out hb5
        have HBo5 := hid (HBo4.out.below hb5)
        have HB5q : Hid (Below t w q5) := HB4q.out.trans (hb5.mono (Nat.le_of_lt HBo4.out.tb.lt))
        have C6 := hid (HAlA.out _ q5 HBo5.out)
        rw [HLn.out]
        obtain ⟨m1, hm1⟩ : ∃ m, m = ((L2).map ar).length := ⟨_, rfl⟩
        unfold Got at C6
        rw [← hm1] at C6 ⊢
        clear hb5 C5 hm1
        go_simp
        refine hK.out _ _ (fun _ => HS5.out) ?_
        clear hK K
        refine wpL_take 27 158 (i64 m1) [31] rfl rfl (by kernel_rfl) (by decide) (by kernel_rfl) (by kernel_rfl) (by kernel_rfl) (fun _ _ _ h => h) HS5.out (by rfl) (fun W hW => by obtain ⟨y0, y1, y2, y3⟩ := four_cells hW; go_simp) ?_
        simp only [Act.put, List.setIfInBounds_toArray, List.set_cons_zero, List.set_cons_succ]
        refine wpL_one 29 rfl (by kernel_rfl) (by rfl) (fun K hK => ?_)
        go_simp
        refine C6.out.mono ?_
        rintro e q6 ⟨⟨ao6, cap6, rfl, _⟩, hb6⟩
        have HS6 : Hid ((fun W : World => W.heap[wr.heap.size]? = some (spO x)) q6) := blk_below HS5.out hb6
        have HBo6 := hid (HBo5.out.below hb6)
        have HB6q : Hid (Below t w q6) := HB5q.out.trans (hb6.mono (Nat.le_of_lt HBo5.out.tb.lt))
        clear hb6 C6
        go_simp
        refine hK.out _ _ (fun _ => HS6.out) ?_
        clear hK K
        refine wpL_take 30 161 (i64 m1) [31] rfl rfl (by kernel_rfl) (by decide) (by kernel_rfl) (by kernel_rfl) (by kernel_rfl) (fun _ _ _ h => h) HS6.out (by rfl) (fun W hW => by obtain ⟨y0, y1, y2, y3⟩ := four_cells hW; go_simp) ?_
        simp only [Act.put, List.setIfInBounds_toArray, List.set_cons_zero, List.set_cons_succ]
        refine wpL_take 31 162 (.bool false) [] rfl rfl (by kernel_rfl) (by decide) (by kernel_rfl) (by kernel_rfl) (by kernel_rfl) (fun _ _ _ h => h) HS6.out (by rfl) (fun W hW => by obtain ⟨y0, y1, y2, y3⟩ := four_cells hW; go_simp) ?_
        simp only [Act.put, List.setIfInBounds_toArray, List.set_cons_zero, List.set_cons_succ]
        refine wpL_one 32 rfl (by kernel_rfl) (by rfl) (fun K hK => ?_)
        go_simp
        refine hK.out _ _ (fun h => absurd rfl h) ?_
        clear hK K
        refine wpL_done (by kernel_rfl) ?_
        refine NoPanic.normal ?_
        go_wp2_with fail
        exact ⟨⟨k + 1, by omega, by go_num, ⟨_, HBo6, HF2⟩, HB6q⟩, by simp [intOf]; omega⟩
      have z0 : (x.what == 0) = false := beq_false_of_ne h0
      have z1 : (x.what == 1) = false := beq_false_of_ne h1
      have z2 : (x.what == 2) = false := beq_false_of_ne h2
      have z3 : (x.what == 3) = false := beq_false_of_ne h3
      have z6 : (x.what == 6) = false := beq_false_of_ne h6
      have z7 : (x.what == 7) = false := beq_false_of_ne h7
      clear h0 h1 h2 h3 h6 h7
      have HSq : Hid ((fun W : World => W.heap[wr.heap.size]? = some (spO x)) (wr.alloc (spO x)).drew) := HX.out
      have HBq : Hid (Bo (wr.alloc (spO x)).drew t b b L) := ⟨HBo1.out.gs, ⟨HBo1.out.tb.blk⟩, HBo1.out.lb, HBo1.out.lt⟩
      have HBz : Hid (Below t w (wr.alloc (spO x)).drew) := HB1.out.drew
      have hME := may_has HBo1.out.gs HFr.out x.pid pg
      have HLn := hid (all_len HBo1.out.gs)
      have C1 := hid (HMay.out _ _ HBq.out true)
      have C2 := hid (HHas.out _ _ HBq.out)
      have C1b := hid fun W (hB : Bo W t b b L) => HMay.out _ W hB false
      have C2b := hid fun W (hB : Bo W t b b L) => HHas.out _ W hB
      rw [hME true] at C1
      simp only [hME false] at C1b
      generalize hasL ((L).map ar) x.pid pg = T at C1 C2 C1b C2b
      clear hME
      go_upto_region 27 with fail
      refine wp_region_noPanic ?_
      refine wp_region_last (fun W : World => W.heap[wr.heap.size]? = some (spO x)) 32 (by kernel_rfl) ?_
      refine wpL_take 0 131 (pq t) [4, 9, 11, 21, 24] rfl rfl (by kernel_rfl) (by decide) (by kernel_rfl) (by kernel_rfl) (by kernel_rfl) (fun _ _ _ h => h) HSq.out (by rfl) (fun W hW => by obtain ⟨y0, y1, y2, y3⟩ := four_cells hW; go_simp) ?_
      simp only [Act.put, List.setIfInBounds_toArray, List.set_cons_zero, List.set_cons_succ]
      refine wpL_take 1 132 (.pointer (some ⟨wr.heap.size, 1, none⟩)) [2, 4, 9, 11, 21, 24] rfl rfl (by kernel_rfl) (by decide) (by kernel_rfl) (by kernel_rfl) (by kernel_rfl) (fun _ _ _ h => h) HSq.out (by rfl) (fun W hW => by obtain ⟨y0, y1, y2, y3⟩ := four_cells hW; go_simp) ?_
      simp only [Act.put, List.setIfInBounds_toArray, List.set_cons_zero, List.set_cons_succ]
      refine wpL_take 2 133 (i64 x.pid) [4, 9, 11, 21, 24] rfl rfl (by kernel_rfl) (by decide) (by kernel_rfl) (by kernel_rfl) (by kernel_rfl) (fun _ _ _ h => h) HSq.out (by rfl) (fun W hW => by obtain ⟨y0, y1, y2, y3⟩ := four_cells hW; go_simp) ?_
      simp only [Act.put, List.setIfInBounds_toArray, List.set_cons_zero, List.set_cons_succ]
      refine wpL_take 3 134 (i64 pg) [4, 9, 11, 21, 24] rfl rfl (by kernel_rfl) (by decide) (by kernel_rfl) (by kernel_rfl) (by kernel_rfl) (fun _ _ _ h => h) HSq.out (by rfl) (fun W hW => by obtain ⟨y0, y1, y2, y3⟩ := four_cells hW; go_simp) ?_
      simp only [Act.put, List.setIfInBounds_toArray, List.set_cons_zero, List.set_cons_succ]
      refine wpL_take 5 136 (pq b) [9, 11, 21, 24] rfl rfl (by kernel_rfl) (by decide) (by kernel_rfl) (by kernel_rfl) (by kernel_rfl) (fun _ _ _ h => h) HSq.out (by rfl) (fun W hW => by obtain ⟨y0, y1, y2, y3⟩ := four_cells hW; go_simp) ?_
      simp only [Act.put, List.setIfInBounds_toArray, List.set_cons_zero, List.set_cons_succ]
      refine wpL_take 6 137 (.pointer (some ⟨wr.heap.size, 1, none⟩)) [7, 9, 11, 21, 24] rfl rfl (by kernel_rfl) (by decide) (by kernel_rfl) (by kernel_rfl) (by kernel_rfl) (fun _ _ _ h => h) HSq.out (by rfl) (fun W hW => by obtain ⟨y0, y1, y2, y3⟩ := four_cells hW; go_simp) ?_
      simp only [Act.put, List.setIfInBounds_toArray, List.set_cons_zero, List.set_cons_succ]
      refine wpL_take 7 138 (i64 x.pid) [9, 11, 21, 24] rfl rfl (by kernel_rfl) (by decide) (by kernel_rfl) (by kernel_rfl) (by kernel_rfl) (fun _ _ _ h => h) HSq.out (by rfl) (fun W hW => by obtain ⟨y0, y1, y2, y3⟩ := four_cells hW; go_simp) ?_
      simp only [Act.put, List.setIfInBounds_toArray, List.set_cons_zero, List.set_cons_succ]
      refine wpL_take 8 139 (i64 pg) [9, 11, 21, 24] rfl rfl (by kernel_rfl) (by decide) (by kernel_rfl) (by kernel_rfl) (by kernel_rfl) (fun _ _ _ h => h) HSq.out (by rfl) (fun W hW => by obtain ⟨y0, y1, y2, y3⟩ := four_cells hW; go_simp) ?_
      simp only [Act.put, List.setIfInBounds_toArray, List.set_cons_zero, List.set_cons_succ]
      refine wpL_one 4 rfl (by kernel_rfl) (by rfl) (fun K hK => ?_)
      go_simp
      refine C1.out.mono ?_
      rintro e q1 ⟨rfl, hv⟩
      replace hv := hv.symm
      subst hv
      clear C1
      go_simp
      refine hK.out _ _ (fun _ => HSq.out) ?_
      clear hK K
      refine wpL_one 9 rfl (by kernel_rfl) (by rfl) (fun K hK => ?_)
      go_simp
      refine C2.out.mono ?_
      rintro e q2 ⟨rfl, hb2⟩
      have HS2 : Hid ((fun W : World => W.heap[wr.heap.size]? = some (spO x)) q2) := blk_below HSq.out hb2
      have HBo2 := hid (HBq.out.below hb2)
      have HB2q : Hid (Below t w q2) := HBz.out.trans (hb2.mono (Nat.le_of_lt HBq.out.tb.lt))
      have C3 := hid (C1b.out q2 HBo2.out)
      have C4 := hid (C2b.out q2 HBo2.out)
      clear hb2 C2 C1b C2b
      go_simp
      refine hK.out _ _ (fun _ => HS2.out) ?_
      clear hK K
      refine wpL_take 10 141 (.bool false) [11, 21, 24] rfl rfl (by kernel_rfl) (by decide) (by kernel_rfl) (by kernel_rfl) (by kernel_rfl) (fun _ _ _ h => h) HS2.out (by rfl) (fun W hW => by obtain ⟨y0, y1, y2, y3⟩ := four_cells hW; go_simp) ?_
      simp only [Act.put, List.setIfInBounds_toArray, List.set_cons_zero, List.set_cons_succ]
      refine wpL_take 11 142 (.bool false) [21, 24] rfl rfl (by kernel_rfl) (by decide) (by kernel_rfl) (by kernel_rfl) (by kernel_rfl) (fun _ _ _ h => h) HS2.out (by rfl) (fun W hW => by obtain ⟨y0, y1, y2, y3⟩ := four_cells hW; go_simp) ?_
      simp only [Act.put, List.setIfInBounds_toArray, List.set_cons_zero, List.set_cons_succ]
      refine wpL_take 12 143 (pq t) [16, 21, 24] rfl rfl (by kernel_rfl) (by decide) (by kernel_rfl) (by kernel_rfl) (by kernel_rfl) (fun _ _ _ h => h) HS2.out (by rfl) (fun W hW => by obtain ⟨y0, y1, y2, y3⟩ := four_cells hW; go_simp) ?_
      simp only [Act.put, List.setIfInBounds_toArray, List.set_cons_zero, List.set_cons_succ]
      refine wpL_take 13 144 (.pointer (some ⟨wr.heap.size, 1, none⟩)) [14, 16, 21, 24] rfl rfl (by kernel_rfl) (by decide) (by kernel_rfl) (by kernel_rfl) (by kernel_rfl) (fun _ _ _ h => h) HS2.out (by rfl) (fun W hW => by obtain ⟨y0, y1, y2, y3⟩ := four_cells hW; go_simp) ?_
      simp only [Act.put, List.setIfInBounds_toArray, List.set_cons_zero, List.set_cons_succ]
      refine wpL_take 14 145 (i64 x.pid) [16, 21, 24] rfl rfl (by kernel_rfl) (by decide) (by kernel_rfl) (by kernel_rfl) (by kernel_rfl) (fun _ _ _ h => h) HS2.out (by rfl) (fun W hW => by obtain ⟨y0, y1, y2, y3⟩ := four_cells hW; go_simp) ?_
      simp only [Act.put, List.setIfInBounds_toArray, List.set_cons_zero, List.set_cons_succ]
      refine wpL_take 15 146 (i64 pg) [16, 21, 24] rfl rfl (by kernel_rfl) (by decide) (by kernel_rfl) (by kernel_rfl) (by kernel_rfl) (fun _ _ _ h => h) HS2.out (by rfl) (fun W hW => by obtain ⟨y0, y1, y2, y3⟩ := four_cells hW; go_simp) ?_
      simp only [Act.put, List.setIfInBounds_toArray, List.set_cons_zero, List.set_cons_succ]
      refine wpL_take 17 148 (pq b) [21, 24] rfl rfl (by kernel_rfl) (by decide) (by kernel_rfl) (by kernel_rfl) (by kernel_rfl) (fun _ _ _ h => h) HS2.out (by rfl) (fun W hW => by obtain ⟨y0, y1, y2, y3⟩ := four_cells hW; go_simp) ?_
      simp only [Act.put, List.setIfInBounds_toArray, List.set_cons_zero, List.set_cons_succ]
      refine wpL_take 18 149 (.pointer (some ⟨wr.heap.size, 1, none⟩)) [19, 21, 24] rfl rfl (by kernel_rfl) (by decide) (by kernel_rfl) (by kernel_rfl) (by kernel_rfl) (fun _ _ _ h => h) HS2.out (by rfl) (fun W hW => by obtain ⟨y0, y1, y2, y3⟩ := four_cells hW; go_simp) ?_
      simp only [Act.put, List.setIfInBounds_toArray, List.set_cons_zero, List.set_cons_succ]
      refine wpL_take 19 150 (i64 x.pid) [21, 24] rfl rfl (by kernel_rfl) (by decide) (by kernel_rfl) (by kernel_rfl) (by kernel_rfl) (fun _ _ _ h => h) HS2.out (by rfl) (fun W hW => by obtain ⟨y0, y1, y2, y3⟩ := four_cells hW; go_simp) ?_
      simp only [Act.put, List.setIfInBounds_toArray, List.set_cons_zero, List.set_cons_succ]
      refine wpL_take 20 151 (i64 pg) [21, 24] rfl rfl (by kernel_rfl) (by decide) (by kernel_rfl) (by kernel_rfl) (by kernel_rfl) (fun _ _ _ h => h) HS2.out (by rfl) (fun W hW => by obtain ⟨y0, y1, y2, y3⟩ := four_cells hW; go_simp) ?_
      simp only [Act.put, List.setIfInBounds_toArray, List.set_cons_zero, List.set_cons_succ]
      refine wpL_one 16 rfl (by kernel_rfl) (by rfl) (fun K hK => ?_)
      go_simp
      refine C3.out.mono ?_
      rintro e q3 ⟨rfl, hv⟩
      replace hv := hv.symm
      subst hv
      clear C3
      go_simp
      refine hK.out _ _ (fun _ => HS2.out) ?_
      clear hK K
      refine wpL_one 21 rfl (by kernel_rfl) (by rfl) (fun K hK => ?_)
      go_simp
      refine C4.out.mono ?_
      rintro e q4 ⟨rfl, hb4⟩
      have HS4 : Hid ((fun W : World => W.heap[wr.heap.size]? = some (spO x)) q4) := blk_below HS2.out hb4
      have HBo4 := hid (HBo2.out.below hb4)
      have HB4q : Hid (Below t w q4) := HB2q.out.trans (hb4.mono (Nat.le_of_lt HBo2.out.tb.lt))
      have C5 := hid (HAll.out _ q4 HBo4.out)
      clear hb4 C4
      go_simp
      refine hK.out _ _ (fun _ => HS4.out) ?_
      clear hK K
      refine wpL_take 22 153 (.bool false) [23, 24] rfl rfl (by kernel_rfl) (by decide) (by kernel_rfl) (by kernel_rfl) (by kernel_rfl) (fun _ _ _ h => h) HS4.out (by rfl) (fun W hW => by obtain ⟨y0, y1, y2, y3⟩ := four_cells hW; go_simp) ?_
      simp only [Act.put, List.setIfInBounds_toArray, List.set_cons_zero, List.set_cons_succ]
      refine wpL_take 23 154 (.bool false) [24] rfl rfl (by kernel_rfl) (by decide) (by kernel_rfl) (by kernel_rfl) (by kernel_rfl) (fun _ _ _ h => h) HS4.out (by rfl) (fun W hW => by obtain ⟨y0, y1, y2, y3⟩ := four_cells hW; go_simp) ?_
      simp only [Act.put, List.setIfInBounds_toArray, List.set_cons_zero, List.set_cons_succ]
      refine wpL_take 24 155 (.bool false) [] rfl rfl (by kernel_rfl) (by decide) (by kernel_rfl) (by kernel_rfl) (by kernel_rfl) (fun _ _ _ h => h) HS4.out (by rfl) (fun W hW => by obtain ⟨y0, y1, y2, y3⟩ := four_cells hW; go_simp) ?_
      simp only [Act.put, List.setIfInBounds_toArray, List.set_cons_zero, List.set_cons_succ]
      refine wpL_take 25 156 (pq t) [26, 27, 31] rfl rfl (by kernel_rfl) (by decide) (by kernel_rfl) (by kernel_rfl) (by kernel_rfl) (fun _ _ _ h => h) HS4.out (by rfl) (fun W hW => by obtain ⟨y0, y1, y2, y3⟩ := four_cells hW; go_simp) ?_
      simp only [Act.put, List.setIfInBounds_toArray, List.set_cons_zero, List.set_cons_succ]
      refine wpL_take 28 159 (pq b) [29, 30, 31] rfl rfl (by kernel_rfl) (by decide) (by kernel_rfl) (by kernel_rfl) (by kernel_rfl) (fun _ _ _ h => h) HS4.out (by rfl) (fun W hW => by obtain ⟨y0, y1, y2, y3⟩ := four_cells hW; go_simp) ?_
      simp only [Act.put, List.setIfInBounds_toArray, List.set_cons_zero, List.set_cons_succ]
      refine wpL_one 26 rfl (by kernel_rfl) (by rfl) (fun K hK => ?_)
      go_simp
      refine C5.out.mono ?_
      rintro e q5 ⟨⟨ao5, cap5, rfl, _⟩, hb5⟩
      have HS5 : Hid ((fun W : World => W.heap[wr.heap.size]? = some (spO x)) q5) := blk_below HS4.out hb5
      have HBo5 := hid (HBo4.out.below hb5)
      have HB5q : Hid (Below t w q5) := HB4q.out.trans (hb5.mono (Nat.le_of_lt HBo4.out.tb.lt))
      have C6 := hid (HAlA.out _ q5 HBo5.out)
      rw [HLn.out]
      obtain ⟨m1, hm1⟩ : ∃ m, m = ((L).map ar).length := ⟨_, rfl⟩
      unfold Got at C6
      rw [← hm1] at C6 ⊢
      clear hb5 C5 hm1
      go_simp
      refine hK.out _ _ (fun _ => HS5.out) ?_
      clear hK K
      refine wpL_take 27 158 (i64 m1) [31] rfl rfl (by kernel_rfl) (by decide) (by kernel_rfl) (by kernel_rfl) (by kernel_rfl) (fun _ _ _ h => h) HS5.out (by rfl) (fun W hW => by obtain ⟨y0, y1, y2, y3⟩ := four_cells hW; go_simp) ?_
      simp only [Act.put, List.setIfInBounds_toArray, List.set_cons_zero, List.set_cons_succ]
      refine wpL_one 29 rfl (by kernel_rfl) (by rfl) (fun K hK => ?_)
      go_simp
      refine C6.out.mono ?_
      rintro e q6 ⟨⟨ao6, cap6, rfl, _⟩, hb6⟩
      have HS6 : Hid ((fun W : World => W.heap[wr.heap.size]? = some (spO x)) q6) := blk_below HS5.out hb6
      have HBo6 := hid (HBo5.out.below hb6)
      have HB6q : Hid (Below t w q6) := HB5q.out.trans (hb6.mono (Nat.le_of_lt HBo5.out.tb.lt))
      clear hb6 C6
      go_simp
      refine hK.out _ _ (fun _ => HS6.out) ?_
      clear hK K
      refine wpL_take 30 161 (i64 m1) [31] rfl rfl (by kernel_rfl) (by decide) (by kernel_rfl) (by kernel_rfl) (by kernel_rfl) (fun _ _ _ h => h) HS6.out (by rfl) (fun W hW => by obtain ⟨y0, y1, y2, y3⟩ := four_cells hW; go_simp) ?_
      simp only [Act.put, List.setIfInBounds_toArray, List.set_cons_zero, List.set_cons_succ]
      refine wpL_take 31 162 (.bool false) [] rfl rfl (by kernel_rfl) (by decide) (by kernel_rfl) (by kernel_rfl) (by kernel_rfl) (fun _ _ _ h => h) HS6.out (by rfl) (fun W hW => by obtain ⟨y0, y1, y2, y3⟩ := four_cells hW; go_simp) ?_
      simp only [Act.put, List.setIfInBounds_toArray, List.set_cons_zero, List.set_cons_succ]
      refine wpL_one 32 rfl (by kernel_rfl) (by rfl) (fun K hK => ?_)
      go_simp
      refine hK.out _ _ (fun h => absurd rfl h) ?_
      clear hK K
      refine wpL_done (by kernel_rfl) ?_
      refine NoPanic.normal ?_
      go_wp2_with fail
      exact ⟨⟨k + 1, by omega, by go_num, ⟨_, HBo6, HFr⟩, HB6q⟩, by simp [intOf]; omega⟩
    · have hkI : ¬ (k : Int) < len := by omega
      go_wp2_with fail
      refine (four_ok wr).mono ?_
      rintro e w9 ⟨rfl, hb9⟩
      have HB9 : Hid (Below t w w9) := HBw.out.trans (hb9.mono (Nat.le_of_lt HBo.out.tb.lt))
      clear hb9
      go_wp2_with fail
      go_ret
      exact ⟨rfl, HB9.out⟩
end Go.Proofs.Ytlkcpjefgelcoaa
