/- AreasSteps; no statement is proved in this text. -/
import Derived.Test.YtmebkpdijamdgaaOn
namespace Go.Proofs.Ytmebkpdijamdgaa
open Go.ChangeShapes Go.WideShapes Go.ChangeAt Go.RowKit Go.Deep
attribute [local go_sem ↓] Go.wp_at_zero Go.wp_at_succ

set_option maxRecDepth 100000 in
set_option maxHeartbeats 12800000 in
theorem steps_any (w : World) (ao : Option Addr) (len cap : Nat) (pg : Int) (f : Nat → Sp) (hlen : len ≤ maxLen) (hS : SSl w ao len f) : Calls Try.prog 3 #[.slice ao len cap, i64 pg] w fun e w' => e = .returned (.bool true) ∧ Below w.heap.size w w' := by
  have hm : (len : Int) ≤ 9223372036854775807 := by unfold maxLen at hlen; omega
  have HSb := hid hS
  have HNw := hid (new_ok w)
  obtain ⟨b, hb⟩ : ∃ b, b = w.heap.size := ⟨_, rfl⟩
  have HB := hid hb
  rw [← hb] at HNw ⊢
  clear hS hlen hb
  by_cases h60 : 60 < len
  · have h60' : (60 : Int) < len := by omega
    go_enter Try.func3, Try.ntmps3
    go_wp2_with fail
    refine HNw.out.mono ?_
    rintro e w1 ⟨rfl, ht1, hb1⟩
    have HB1 : Hid (Below b w w1) := hb1
    have hlo1 : b ≤ w1.heap.size := Nat.le_of_lt ht1.lt
    clear ht1 hb1 HNw
    go_wp2_with fail
    refine (three_ok w1).mono ?_
    rintro e w2 ⟨rfl, hb2⟩
    have HB2 : Hid (Below b w w2) := HB1.out.trans (hb2.mono hlo1)
    clear hb2
    go_wp2_with fail
    go_ret
    exact ⟨rfl, HB2.out⟩
  have h60' : ¬ (60 : Int) < len := by omega
  go_enter Try.func3, Try.ntmps3
  go_wp2_with fail
  refine HNw.out.mono ?_
  rintro e w1 ⟨rfl, ht1, hb1⟩
  have HT1 := hid ht1
  have HB1 : Hid (Below b w w1) := hb1
  clear ht1 hb1 HNw
  have hz29 := zero29
  go_wp2_with fail
  have hlo1 : b ≤ w1.heap.size := Nat.le_of_lt HT1.out.lt
  have HW3 : Hid (BoX (w1.alloc (.cells #[.slice none 0 0] 29)) b b w1.heap.size) := ⟨[], HT1.out.below (below_one w1 _), rb_new w1 b hlo1, .nil⟩
  have HB3 : Hid (Below b w (w1.alloc (.cells #[.slice none 0 0] 29))) := HB1.out.trans ((below_one w1 _).mono hlo1)
  clear hz29
  obtain ⟨r, hr⟩ : ∃ r, r = w1.heap.size := ⟨_, rfl⟩
  rw [← hr] at HW3 ⊢
  generalize w1.alloc (.cells #[.slice none 0 0] 29) = w3 at *
  clear hr hlo1 HT1 HB1
  go_loopw [26] (fun u wr => ∃ (k : Nat), k ≤ len ∧ u = i64 k ∧ Hid (BoX wr b b r) ∧ Hid (Below b w wr)) (fun u _ => len - (intOf u).toNat)
  case atStart => exact ⟨0, by omega, rfl, HW3, HB3⟩
  case round =>
    obtain ⟨k, hk, rfl, HBo, HBw⟩ := hrel
    by_cases hlt : k < len
    · have hkI : (k : Int) < len := by omega
      obtain ⟨B, off, hao, hb, hr⟩ := (HSb.out.below (by rw [← HB.out]; exact HBw.out)).at hlt
      subst hao
      obtain ⟨x, hx⟩ : ∃ x, x = f k := ⟨_, rfl⟩
      rw [← hx] at hr
      have c0 : wr.cell? ⟨B, off + k * 4, none⟩ = some (i64 x.what) := hr 0 _ rfl
      have c1 : wr.cell? ⟨B, off + k * 4 + 1, none⟩ = some (i64 x.pid) := hr 1 _ rfl
      have c2 : wr.cell? ⟨B, off + k * 4 + 2, none⟩ = some (i64 x.fst) := hr 2 _ rfl
      have c3 : wr.cell? ⟨B, off + k * 4 + 3, none⟩ = some (i64 x.n) := hr 3 _ rfl
      have HBV : Hid (Below b w (wr.alloc (spO x))) := HBw.out.trans ((below_one wr _).mono (HBo.out.lob))
      have HBoV : Hid (BoX (wr.alloc (spO x)) b b r) := HBo.out.below (below_one wr _)
      have HX : Hid ((wr.alloc (spO x)).heap[wr.heap.size]? = some (spO x)) := heap_last wr _
      clear hx hr hb
      have HD := hid fun W hW => does_ok W b b r x hW
      clear HW3 HB3
      go_upto_region 8 with fail
      obtain ⟨X, hX⟩ : ∃ X, X = wr.heap.size := ⟨_, rfl⟩
      rw [← hX] at HX ⊢
      have HVd : Hid (BoX (wr.alloc (spO x)).drew b b r) := by
        obtain ⟨L, h⟩ := HBoV.out
        exact ⟨L, by obtain ⟨v, h1, h2, h3⟩ := h.lb; exact ⟨v, h1, h2, own_keep h3 (fun _ _ h => h)⟩, by obtain ⟨h1, ao, cap, h2, h3⟩ := h.rb; exact ⟨h1, ao, cap, h2, own_keep h3 (fun _ _ h => h)⟩, h.gd⟩
      clear hX c0 c1 c2 c3
      generalize wr.alloc (spO x) = V at *
      have HS : Hid ((fun W : World => W.heap[X]? = some (spO x)) V.drew) := HX.out
      refine wp_region_noPanic ?_
      refine wp_region_last (fun W : World => W.heap[X]? = some (spO x)) 28 (by kernel_rfl) ?_
      refine wpL_take 0 30 (pq b) [3, 5, 15, 16] rfl rfl (by kernel_rfl) (by decide) (by kernel_rfl) (by kernel_rfl) (by kernel_rfl) (fun _ _ _ h => h) HS.out (by rfl) (fun W hW => by go_simp) ?_
      simp only [Act.put, List.setIfInBounds_toArray, List.set_cons_zero, List.set_cons_succ]
      refine wpL_take 1 31 (pq r) [3, 5, 15, 16] rfl rfl (by kernel_rfl) (by decide) (by kernel_rfl) (by kernel_rfl) (by kernel_rfl) (fun _ _ _ h => h) HS.out (by rfl) (fun W hW => by go_simp) ?_
      simp only [Act.put, List.setIfInBounds_toArray, List.set_cons_zero, List.set_cons_succ]
      refine wpL_take 2 32 (x.v) [3, 5, 15, 16] rfl rfl (by kernel_rfl) (by decide) (by kernel_rfl) (by kernel_rfl) (by kernel_rfl) (fun _ _ _ h => h) HS.out (by rfl) (fun W hW => by obtain ⟨y0, y1, y2, y3⟩ := four_cells hW; go_simp) ?_
      simp only [Act.put, List.setIfInBounds_toArray, List.set_cons_zero, List.set_cons_succ]
      refine wpL_one 3 rfl (by kernel_rfl) (by rfl) (fun K hK => ?_)
      go_simp
      refine (HD.out V.drew HVd.out).mono ?_
      rintro e w5 ⟨rfl, hbo5, hf5⟩
      have HB5 : Hid (Below b w w5) := HBV.out.drew.trans hf5.below
      have HS5 : Hid ((fun W : World => W.heap[X]? = some (spO x)) w5) := hf5.kept _ _ HX.out (by rfl)
      obtain ⟨L, hbo⟩ := hbo5
      have HBo5 := hid hbo
      obtain ⟨_, aoR, capR, hrk, hro⟩ := hbo.rb
      have HRk5 := hid hrk
      have HRr5 := hid (Rd3.own hro)
      have HA := hid (all_ok w5 b (pq b) L hbo.lb.lv hbo.len)
      have hll : L.length ≤ 1000 := hbo.len
      obtain ⟨N, hN⟩ : ∃ N, N = L.length := ⟨_, rfl⟩
      have HN := hid hN
      rw [← hN] at HRk5
      clear hbo hf5 HD hrk hro hN
      go_simp
      refine hK.out _ _ (fun _ => HS5.out) ?_
      clear hK K
      refine wpL_take 4 34 (.bool false) [5, 15, 16] rfl rfl (by kernel_rfl) (by decide) (by kernel_rfl) (by kernel_rfl) (by kernel_rfl) (fun _ _ _ h => h) HS5.out (by rfl) (fun W hW => by go_simp) ?_
      simp only [Act.put, List.setIfInBounds_toArray, List.set_cons_zero, List.set_cons_succ]
      refine wpL_take 5 35 (.bool false) [15, 16] rfl rfl (by kernel_rfl) (by decide) (by kernel_rfl) (by kernel_rfl) (by kernel_rfl) (fun _ _ _ h => h) HS5.out (by rfl) (fun W hW => by go_simp) ?_
      simp only [Act.put, List.setIfInBounds_toArray, List.set_cons_zero, List.set_cons_succ]
      refine wpL_take 6 36 (pq b) [7, 8, 13, 16] rfl rfl (by kernel_rfl) (by decide) (by kernel_rfl) (by kernel_rfl) (by kernel_rfl) (fun _ _ _ h => h) HS5.out (by rfl) (fun W hW => by go_simp) ?_
      simp only [Act.put, List.setIfInBounds_toArray, List.set_cons_zero, List.set_cons_succ]
      refine wpL_take 9 39 (pq r) [10, 11, 12, 13, 16] rfl rfl (by kernel_rfl) (by decide) (by kernel_rfl) (by kernel_rfl) (by kernel_rfl) (fun _ _ _ h => h) HS5.out (by rfl) (fun W hW => by go_simp) ?_
      simp only [Act.put, List.setIfInBounds_toArray, List.set_cons_zero, List.set_cons_succ]
      refine wpL_take 10 40 (pq r) [11, 12, 13, 16] rfl rfl (by kernel_rfl) (by decide) (by kernel_rfl) (by kernel_rfl) (by kernel_rfl) (fun _ _ _ h => h) HS5.out (by rfl) (fun W hW => by go_simp) ?_
      simp only [Act.put, List.setIfInBounds_toArray, List.set_cons_zero, List.set_cons_succ]
      refine wpL_take 11 41 (pq r) [12, 13, 16] rfl rfl (by kernel_rfl) (by decide) (by kernel_rfl) (by kernel_rfl) (by kernel_rfl) (fun _ _ _ h => h) HS5.out (by rfl) (fun W hW => by go_simp) ?_
      simp only [Act.put, List.setIfInBounds_toArray, List.set_cons_zero, List.set_cons_succ]
      refine wpL_two 7 12 rfl rfl (by kernel_rfl) (by rfl) (by rfl) (fun K hK => ?_) (fun K hK => ?_)
      · go_simp
        refine HA.out.mono ?_
        rintro e w6 ⟨⟨ao6, cap6, rfl, ho6⟩, hb6⟩
        have HB6 : Hid (Below b w w6) := HB5.out.trans (hb6.mono HBo5.out.lob)
        have HBo6 := hid (HBo5.out.below hb6)
        have HS6 : Hid ((fun W : World => W.heap[X]? = some (spO x)) w6) := blk_below HS5.out hb6
        have HRk6 := hid (blk_below HRk5.out hb6)
        have HRr6 := hid (HRr5.out.below hb6)
        have HRf := hid (refs_ok w6 ao6 cap6 L hll (Rd3.own ho6))
        rw [← HN.out] at HRf ⊢
        clear ho6 hb6
        go_simp
        refine hK.out _ _ (fun _ => HS6.out) ?_
        clear hK K
        refine wpL_two 8 12 rfl rfl (by kernel_rfl) (by rfl) (by rfl) (fun K hK => ?_) (fun K hK => ?_)
        · go_simp
          refine HRf.out.mono ?_
          rintro e w7 ⟨⟨ao7, cap7, rfl, ho7⟩, hb7⟩
          have HB7 : Hid (Below b w w7) := HB6.out.trans (hb7.mono HBo6.out.lob)
          have HBo7 := hid (HBo6.out.below hb7)
          have HS7 : Hid ((fun W : World => W.heap[X]? = some (spO x)) w7) := blk_below HS6.out hb7
          have HRk7 := hid (blk_below HRk6.out hb7)
          have HRr7 := hid (HRr6.out.below hb7)
          have HSm := hid (same_ok w7 ao7 aoR cap7 capR L hll (Rd3.own ho7) HRr7.out)
          rw [← HN.out] at HSm ⊢
          clear ho7 hb7
          go_simp
          refine hK.out _ _ (fun _ => HS7.out) ?_
          clear hK K
          refine wpL_one 12 rfl (by kernel_rfl) (by rfl) (fun K hK => ?_)
          have r0 : w7.cell? ⟨r, 0, none⟩ = some (.slice aoR N capR) := blk_cell HRk7.out 0
          go_simp
          refine hK.out _ _ (fun _ => HS7.out) ?_
          clear hK K r0
          refine wpL_one 13 rfl (by kernel_rfl) (by rfl) (fun K hK => ?_)
          go_simp
          refine HSm.out.mono ?_
          rintro e w8 ⟨rfl, hb8⟩
          have HB8 : Hid (Below b w w8) := HB7.out.trans (hb8.mono HBo7.out.lob)
          have HBo8 := hid (HBo7.out.below hb8)
          have HS8 : Hid ((fun W : World => W.heap[X]? = some (spO x)) w8) := blk_below HS7.out hb8
          have HH := hid (has_ok w8 b (pq b) L x.pid pg HBo8.out.lb.lv hll HBo8.out.gd.isA)
          have HH2 := hid fun W (hW : Rb W b r L) => rhas_ok hW hll HBo8.out.gd.isA x.pid pg
          generalize hasL L x.pid pg = T at HH HH2
          clear hb8
          go_simp
          refine hK.out _ _ (fun _ => HS8.out) ?_
          clear hK K
          refine wpL_take 14 44 (.bool false) [15, 16] rfl rfl (by kernel_rfl) (by decide) (by kernel_rfl) (by kernel_rfl) (by kernel_rfl) (fun _ _ _ h => h) HS8.out (by rfl) (fun W hW => by go_simp) ?_
          simp only [Act.put, List.setIfInBounds_toArray, List.set_cons_zero, List.set_cons_succ]
          refine wpL_take 15 45 (.bool false) [16] rfl rfl (by kernel_rfl) (by decide) (by kernel_rfl) (by kernel_rfl) (by kernel_rfl) (fun _ _ _ h => h) HS8.out (by rfl) (fun W hW => by go_simp) ?_
          simp only [Act.put, List.setIfInBounds_toArray, List.set_cons_zero, List.set_cons_succ]
          refine wpL_take 16 46 (.bool false) [] rfl rfl (by kernel_rfl) (by decide) (by kernel_rfl) (by kernel_rfl) (by kernel_rfl) (fun _ _ _ h => h) HS8.out (by rfl) (fun W hW => by go_simp) ?_
          simp only [Act.put, List.setIfInBounds_toArray, List.set_cons_zero, List.set_cons_succ]
          refine wpL_take 17 47 (pq b) [21, 27] rfl rfl (by kernel_rfl) (by decide) (by kernel_rfl) (by kernel_rfl) (by kernel_rfl) (fun _ _ _ h => h) HS8.out (by rfl) (fun W hW => by go_simp) ?_
          simp only [Act.put, List.setIfInBounds_toArray, List.set_cons_zero, List.set_cons_succ]
          refine wpL_take 18 48 (.pointer (some ⟨X, 1, none⟩)) [19, 21, 27] rfl rfl (by kernel_rfl) (by decide) (by kernel_rfl) (by kernel_rfl) (by kernel_rfl) (fun _ _ _ h => h) HS8.out (by rfl) (fun W hW => by obtain ⟨y0, y1, y2, y3⟩ := four_cells hW; go_simp) ?_
          simp only [Act.put, List.setIfInBounds_toArray, List.set_cons_zero, List.set_cons_succ]
          refine wpL_take 19 49 (i64 x.pid) [21, 27] rfl rfl (by kernel_rfl) (by decide) (by kernel_rfl) (by kernel_rfl) (by kernel_rfl) (fun _ _ _ h => h) HS8.out (by rfl) (fun W hW => by obtain ⟨y0, y1, y2, y3⟩ := four_cells hW; go_simp) ?_
          simp only [Act.put, List.setIfInBounds_toArray, List.set_cons_zero, List.set_cons_succ]
          refine wpL_take 20 50 (i64 pg) [21, 27] rfl rfl (by kernel_rfl) (by decide) (by kernel_rfl) (by kernel_rfl) (by kernel_rfl) (fun _ _ _ h => h) HS8.out (by rfl) (fun W hW => by go_simp) ?_
          simp only [Act.put, List.setIfInBounds_toArray, List.set_cons_zero, List.set_cons_succ]
          refine wpL_take 22 52 (pq r) [26, 27] rfl rfl (by kernel_rfl) (by decide) (by kernel_rfl) (by kernel_rfl) (by kernel_rfl) (fun _ _ _ h => h) HS8.out (by rfl) (fun W hW => by go_simp) ?_
          simp only [Act.put, List.setIfInBounds_toArray, List.set_cons_zero, List.set_cons_succ]
          refine wpL_take 23 53 (.pointer (some ⟨X, 1, none⟩)) [24, 26, 27] rfl rfl (by kernel_rfl) (by decide) (by kernel_rfl) (by kernel_rfl) (by kernel_rfl) (fun _ _ _ h => h) HS8.out (by rfl) (fun W hW => by obtain ⟨y0, y1, y2, y3⟩ := four_cells hW; go_simp) ?_
          simp only [Act.put, List.setIfInBounds_toArray, List.set_cons_zero, List.set_cons_succ]
          refine wpL_take 24 54 (i64 x.pid) [26, 27] rfl rfl (by kernel_rfl) (by decide) (by kernel_rfl) (by kernel_rfl) (by kernel_rfl) (fun _ _ _ h => h) HS8.out (by rfl) (fun W hW => by obtain ⟨y0, y1, y2, y3⟩ := four_cells hW; go_simp) ?_
          simp only [Act.put, List.setIfInBounds_toArray, List.set_cons_zero, List.set_cons_succ]
          refine wpL_take 25 55 (i64 pg) [26, 27] rfl rfl (by kernel_rfl) (by decide) (by kernel_rfl) (by kernel_rfl) (by kernel_rfl) (fun _ _ _ h => h) HS8.out (by rfl) (fun W hW => by go_simp) ?_
          simp only [Act.put, List.setIfInBounds_toArray, List.set_cons_zero, List.set_cons_succ]
          refine wpL_one 21 rfl (by kernel_rfl) (by rfl) (fun K hK => ?_)
          go_simp
          refine HH.out.mono ?_
          rintro e w9 ⟨rfl, hb9⟩
          have HB9 : Hid (Below b w w9) := HB8.out.trans (hb9.mono HBo8.out.lob)
          have HBo9 := hid (HBo8.out.below hb9)
          have HS9 : Hid ((fun W : World => W.heap[X]? = some (spO x)) w9) := blk_below HS8.out hb9
          have HH3 := hid (HH2.out w9 HBo9.out.rb)
          clear hb9
          go_simp
          refine hK.out _ _ (fun _ => HS9.out) ?_
          clear hK K
          refine wpL_one 26 rfl (by kernel_rfl) (by rfl) (fun K hK => ?_)
          go_simp
          refine HH3.out.mono ?_
          rintro e w10 ⟨rfl, hb10⟩
          have HB10 : Hid (Below b w w10) := HB9.out.trans (hb10.mono HBo9.out.lob)
          have HBo10 : Hid (BoX w10 b b r) := ⟨L, HBo9.out.below hb10⟩
          have HS10 : Hid ((fun W : World => W.heap[X]? = some (spO x)) w10) := blk_below HS9.out hb10
          clear hb10
          go_simp
          refine hK.out _ _ (fun _ => HS10.out) ?_
          clear hK K
          refine wpL_take 27 57 (.bool false) [] rfl rfl (by kernel_rfl) (by decide) (by kernel_rfl) (by kernel_rfl) (by kernel_rfl) (fun _ _ _ h => h) HS10.out (by rfl) (fun W hW => by go_simp) ?_
          simp only [Act.put, List.setIfInBounds_toArray, List.set_cons_zero, List.set_cons_succ]
          refine wpL_one 28 rfl (by kernel_rfl) (by rfl) (fun K hK => ?_)
          go_simp
          refine hK.out _ _ (fun h => absurd rfl h) ?_
          clear hK K
          refine wpL_done (by kernel_rfl) ?_
          refine NoPanic.normal ?_
          go_wp2_with fail
          exact ⟨⟨k + 1, by omega, by go_num, HBo10, HB10⟩, by simp [intOf]; omega⟩
        · have r0 : w6.cell? ⟨r, 0, none⟩ = some (.slice aoR N capR) := blk_cell HRk6.out 0
          go_simp
          refine hK.out _ _ (fun _ => HS6.out) ?_
          clear hK K r0
          refine wpL_one 8 rfl (by kernel_rfl) (by rfl) (fun K hK => ?_)
          go_simp
          refine HRf.out.mono ?_
          rintro e w7 ⟨⟨ao7, cap7, rfl, ho7⟩, hb7⟩
          have HB7 : Hid (Below b w w7) := HB6.out.trans (hb7.mono HBo6.out.lob)
          have HBo7 := hid (HBo6.out.below hb7)
          have HS7 : Hid ((fun W : World => W.heap[X]? = some (spO x)) w7) := blk_below HS6.out hb7
          have HRk7 := hid (blk_below HRk6.out hb7)
          have HRr7 := hid (HRr6.out.below hb7)
          have HSm := hid (same_ok w7 ao7 aoR cap7 capR L hll (Rd3.own ho7) HRr7.out)
          rw [← HN.out] at HSm ⊢
          clear ho7 hb7
          go_simp
          refine hK.out _ _ (fun _ => HS7.out) ?_
          clear hK K
          refine wpL_one 13 rfl (by kernel_rfl) (by rfl) (fun K hK => ?_)
          go_simp
          refine HSm.out.mono ?_
          rintro e w8 ⟨rfl, hb8⟩
          have HB8 : Hid (Below b w w8) := HB7.out.trans (hb8.mono HBo7.out.lob)
          have HBo8 := hid (HBo7.out.below hb8)
          have HS8 : Hid ((fun W : World => W.heap[X]? = some (spO x)) w8) := blk_below HS7.out hb8
          have HH := hid (has_ok w8 b (pq b) L x.pid pg HBo8.out.lb.lv hll HBo8.out.gd.isA)
          have HH2 := hid fun W (hW : Rb W b r L) => rhas_ok hW hll HBo8.out.gd.isA x.pid pg
          generalize hasL L x.pid pg = T at HH HH2
          clear hb8
          go_simp
          refine hK.out _ _ (fun _ => HS8.out) ?_
          clear hK K
          refine wpL_take 14 44 (.bool false) [15, 16] rfl rfl (by kernel_rfl) (by decide) (by kernel_rfl) (by kernel_rfl) (by kernel_rfl) (fun _ _ _ h => h) HS8.out (by rfl) (fun W hW => by go_simp) ?_
          simp only [Act.put, List.setIfInBounds_toArray, List.set_cons_zero, List.set_cons_succ]
          refine wpL_take 15 45 (.bool false) [16] rfl rfl (by kernel_rfl) (by decide) (by kernel_rfl) (by kernel_rfl) (by kernel_rfl) (fun _ _ _ h => h) HS8.out (by rfl) (fun W hW => by go_simp) ?_
          simp only [Act.put, List.setIfInBounds_toArray, List.set_cons_zero, List.set_cons_succ]
          refine wpL_take 16 46 (.bool false) [] rfl rfl (by kernel_rfl) (by decide) (by kernel_rfl) (by kernel_rfl) (by kernel_rfl) (fun _ _ _ h => h) HS8.out (by rfl) (fun W hW => by go_simp) ?_
          simp only [Act.put, List.setIfInBounds_toArray, List.set_cons_zero, List.set_cons_succ]
          refine wpL_take 17 47 (pq b) [21, 27] rfl rfl (by kernel_rfl) (by decide) (by kernel_rfl) (by kernel_rfl) (by kernel_rfl) (fun _ _ _ h => h) HS8.out (by rfl) (fun W hW => by go_simp) ?_
          simp only [Act.put, List.setIfInBounds_toArray, List.set_cons_zero, List.set_cons_succ]
          refine wpL_take 18 48 (.pointer (some ⟨X, 1, none⟩)) [19, 21, 27] rfl rfl (by kernel_rfl) (by decide) (by kernel_rfl) (by kernel_rfl) (by kernel_rfl) (fun _ _ _ h => h) HS8.out (by rfl) (fun W hW => by obtain ⟨y0, y1, y2, y3⟩ := four_cells hW; go_simp) ?_
          simp only [Act.put, List.setIfInBounds_toArray, List.set_cons_zero, List.set_cons_succ]
          refine wpL_take 19 49 (i64 x.pid) [21, 27] rfl rfl (by kernel_rfl) (by decide) (by kernel_rfl) (by kernel_rfl) (by kernel_rfl) (fun _ _ _ h => h) HS8.out (by rfl) (fun W hW => by obtain ⟨y0, y1, y2, y3⟩ := four_cells hW; go_simp) ?_
          simp only [Act.put, List.setIfInBounds_toArray, List.set_cons_zero, List.set_cons_succ]
          refine wpL_take 20 50 (i64 pg) [21, 27] rfl rfl (by kernel_rfl) (by decide) (by kernel_rfl) (by kernel_rfl) (by kernel_rfl) (fun _ _ _ h => h) HS8.out (by rfl) (fun W hW => by go_simp) ?_
          simp only [Act.put, List.setIfInBounds_toArray, List.set_cons_zero, List.set_cons_succ]
          refine wpL_take 22 52 (pq r) [26, 27] rfl rfl (by kernel_rfl) (by decide) (by kernel_rfl) (by kernel_rfl) (by kernel_rfl) (fun _ _ _ h => h) HS8.out (by rfl) (fun W hW => by go_simp) ?_
          simp only [Act.put, List.setIfInBounds_toArray, List.set_cons_zero, List.set_cons_succ]
          refine wpL_take 23 53 (.pointer (some ⟨X, 1, none⟩)) [24, 26, 27] rfl rfl (by kernel_rfl) (by decide) (by kernel_rfl) (by kernel_rfl) (by kernel_rfl) (fun _ _ _ h => h) HS8.out (by rfl) (fun W hW => by obtain ⟨y0, y1, y2, y3⟩ := four_cells hW; go_simp) ?_
          simp only [Act.put, List.setIfInBounds_toArray, List.set_cons_zero, List.set_cons_succ]
          refine wpL_take 24 54 (i64 x.pid) [26, 27] rfl rfl (by kernel_rfl) (by decide) (by kernel_rfl) (by kernel_rfl) (by kernel_rfl) (fun _ _ _ h => h) HS8.out (by rfl) (fun W hW => by obtain ⟨y0, y1, y2, y3⟩ := four_cells hW; go_simp) ?_
          simp only [Act.put, List.setIfInBounds_toArray, List.set_cons_zero, List.set_cons_succ]
          refine wpL_take 25 55 (i64 pg) [26, 27] rfl rfl (by kernel_rfl) (by decide) (by kernel_rfl) (by kernel_rfl) (by kernel_rfl) (fun _ _ _ h => h) HS8.out (by rfl) (fun W hW => by go_simp) ?_
          simp only [Act.put, List.setIfInBounds_toArray, List.set_cons_zero, List.set_cons_succ]
          refine wpL_one 21 rfl (by kernel_rfl) (by rfl) (fun K hK => ?_)
          go_simp
          refine HH.out.mono ?_
          rintro e w9 ⟨rfl, hb9⟩
          have HB9 : Hid (Below b w w9) := HB8.out.trans (hb9.mono HBo8.out.lob)
          have HBo9 := hid (HBo8.out.below hb9)
          have HS9 : Hid ((fun W : World => W.heap[X]? = some (spO x)) w9) := blk_below HS8.out hb9
          have HH3 := hid (HH2.out w9 HBo9.out.rb)
          clear hb9
          go_simp
          refine hK.out _ _ (fun _ => HS9.out) ?_
          clear hK K
          refine wpL_one 26 rfl (by kernel_rfl) (by rfl) (fun K hK => ?_)
          go_simp
          refine HH3.out.mono ?_
          rintro e w10 ⟨rfl, hb10⟩
          have HB10 : Hid (Below b w w10) := HB9.out.trans (hb10.mono HBo9.out.lob)
          have HBo10 : Hid (BoX w10 b b r) := ⟨L, HBo9.out.below hb10⟩
          have HS10 : Hid ((fun W : World => W.heap[X]? = some (spO x)) w10) := blk_below HS9.out hb10
          clear hb10
          go_simp
          refine hK.out _ _ (fun _ => HS10.out) ?_
          clear hK K
          refine wpL_take 27 57 (.bool false) [] rfl rfl (by kernel_rfl) (by decide) (by kernel_rfl) (by kernel_rfl) (by kernel_rfl) (fun _ _ _ h => h) HS10.out (by rfl) (fun W hW => by go_simp) ?_
          simp only [Act.put, List.setIfInBounds_toArray, List.set_cons_zero, List.set_cons_succ]
          refine wpL_one 28 rfl (by kernel_rfl) (by rfl) (fun K hK => ?_)
          go_simp
          refine hK.out _ _ (fun h => absurd rfl h) ?_
          clear hK K
          refine wpL_done (by kernel_rfl) ?_
          refine NoPanic.normal ?_
          go_wp2_with fail
          exact ⟨⟨k + 1, by omega, by go_num, HBo10, HB10⟩, by simp [intOf]; omega⟩
      · have r0 : w5.cell? ⟨r, 0, none⟩ = some (.slice aoR N capR) := blk_cell HRk5.out 0
        go_simp
        refine hK.out _ _ (fun _ => HS5.out) ?_
        clear hK K r0
        refine wpL_one 7 rfl (by kernel_rfl) (by rfl) (fun K hK => ?_)
        go_simp
        refine HA.out.mono ?_
        rintro e w6 ⟨⟨ao6, cap6, rfl, ho6⟩, hb6⟩
        have HB6 : Hid (Below b w w6) := HB5.out.trans (hb6.mono HBo5.out.lob)
        have HBo6 := hid (HBo5.out.below hb6)
        have HS6 : Hid ((fun W : World => W.heap[X]? = some (spO x)) w6) := blk_below HS5.out hb6
        have HRk6 := hid (blk_below HRk5.out hb6)
        have HRr6 := hid (HRr5.out.below hb6)
        have HRf := hid (refs_ok w6 ao6 cap6 L hll (Rd3.own ho6))
        rw [← HN.out] at HRf ⊢
        clear ho6 hb6
        go_simp
        refine hK.out _ _ (fun _ => HS6.out) ?_
        clear hK K
        refine wpL_one 8 rfl (by kernel_rfl) (by rfl) (fun K hK => ?_)
        go_simp
        refine HRf.out.mono ?_
        rintro e w7 ⟨⟨ao7, cap7, rfl, ho7⟩, hb7⟩
        have HB7 : Hid (Below b w w7) := HB6.out.trans (hb7.mono HBo6.out.lob)
        have HBo7 := hid (HBo6.out.below hb7)
        have HS7 : Hid ((fun W : World => W.heap[X]? = some (spO x)) w7) := blk_below HS6.out hb7
        have HRk7 := hid (blk_below HRk6.out hb7)
        have HRr7 := hid (HRr6.out.below hb7)
        have HSm := hid (same_ok w7 ao7 aoR cap7 capR L hll (Rd3.own ho7) HRr7.out)
        rw [← HN.out] at HSm ⊢
        clear ho7 hb7
        go_simp
        refine hK.out _ _ (fun _ => HS7.out) ?_
        clear hK K
        refine wpL_one 13 rfl (by kernel_rfl) (by rfl) (fun K hK => ?_)
        go_simp
        refine HSm.out.mono ?_
        rintro e w8 ⟨rfl, hb8⟩
        have HB8 : Hid (Below b w w8) := HB7.out.trans (hb8.mono HBo7.out.lob)
        have HBo8 := hid (HBo7.out.below hb8)
        have HS8 : Hid ((fun W : World => W.heap[X]? = some (spO x)) w8) := blk_below HS7.out hb8
        have HH := hid (has_ok w8 b (pq b) L x.pid pg HBo8.out.lb.lv hll HBo8.out.gd.isA)
        have HH2 := hid fun W (hW : Rb W b r L) => rhas_ok hW hll HBo8.out.gd.isA x.pid pg
        generalize hasL L x.pid pg = T at HH HH2
        clear hb8
        go_simp
        refine hK.out _ _ (fun _ => HS8.out) ?_
        clear hK K
        refine wpL_take 14 44 (.bool false) [15, 16] rfl rfl (by kernel_rfl) (by decide) (by kernel_rfl) (by kernel_rfl) (by kernel_rfl) (fun _ _ _ h => h) HS8.out (by rfl) (fun W hW => by go_simp) ?_
        simp only [Act.put, List.setIfInBounds_toArray, List.set_cons_zero, List.set_cons_succ]
        refine wpL_take 15 45 (.bool false) [16] rfl rfl (by kernel_rfl) (by decide) (by kernel_rfl) (by kernel_rfl) (by kernel_rfl) (fun _ _ _ h => h) HS8.out (by rfl) (fun W hW => by go_simp) ?_
        simp only [Act.put, List.setIfInBounds_toArray, List.set_cons_zero, List.set_cons_succ]
        refine wpL_take 16 46 (.bool false) [] rfl rfl (by kernel_rfl) (by decide) (by kernel_rfl) (by kernel_rfl) (by kernel_rfl) (fun _ _ _ h => h) HS8.out (by rfl) (fun W hW => by go_simp) ?_
        simp only [Act.put, List.setIfInBounds_toArray, List.set_cons_zero, List.set_cons_succ]
        refine wpL_take 17 47 (pq b) [21, 27] rfl rfl (by kernel_rfl) (by decide) (by kernel_rfl) (by kernel_rfl) (by kernel_rfl) (fun _ _ _ h => h) HS8.out (by rfl) (fun W hW => by go_simp) ?_
        simp only [Act.put, List.setIfInBounds_toArray, List.set_cons_zero, List.set_cons_succ]
        refine wpL_take 18 48 (.pointer (some ⟨X, 1, none⟩)) [19, 21, 27] rfl rfl (by kernel_rfl) (by decide) (by kernel_rfl) (by kernel_rfl) (by kernel_rfl) (fun _ _ _ h => h) HS8.out (by rfl) (fun W hW => by obtain ⟨y0, y1, y2, y3⟩ := four_cells hW; go_simp) ?_
        simp only [Act.put, List.setIfInBounds_toArray, List.set_cons_zero, List.set_cons_succ]
        refine wpL_take 19 49 (i64 x.pid) [21, 27] rfl rfl (by kernel_rfl) (by decide) (by kernel_rfl) (by kernel_rfl) (by kernel_rfl) (fun _ _ _ h => h) HS8.out (by rfl) (fun W hW => by obtain ⟨y0, y1, y2, y3⟩ := four_cells hW; go_simp) ?_
        simp only [Act.put, List.setIfInBounds_toArray, List.set_cons_zero, List.set_cons_succ]
        refine wpL_take 20 50 (i64 pg) [21, 27] rfl rfl (by kernel_rfl) (by decide) (by kernel_rfl) (by kernel_rfl) (by kernel_rfl) (fun _ _ _ h => h) HS8.out (by rfl) (fun W hW => by go_simp) ?_
        simp only [Act.put, List.setIfInBounds_toArray, List.set_cons_zero, List.set_cons_succ]
        refine wpL_take 22 52 (pq r) [26, 27] rfl rfl (by kernel_rfl) (by decide) (by kernel_rfl) (by kernel_rfl) (by kernel_rfl) (fun _ _ _ h => h) HS8.out (by rfl) (fun W hW => by go_simp) ?_
        simp only [Act.put, List.setIfInBounds_toArray, List.set_cons_zero, List.set_cons_succ]
        refine wpL_take 23 53 (.pointer (some ⟨X, 1, none⟩)) [24, 26, 27] rfl rfl (by kernel_rfl) (by decide) (by kernel_rfl) (by kernel_rfl) (by kernel_rfl) (fun _ _ _ h => h) HS8.out (by rfl) (fun W hW => by obtain ⟨y0, y1, y2, y3⟩ := four_cells hW; go_simp) ?_
        simp only [Act.put, List.setIfInBounds_toArray, List.set_cons_zero, List.set_cons_succ]
        refine wpL_take 24 54 (i64 x.pid) [26, 27] rfl rfl (by kernel_rfl) (by decide) (by kernel_rfl) (by kernel_rfl) (by kernel_rfl) (fun _ _ _ h => h) HS8.out (by rfl) (fun W hW => by obtain ⟨y0, y1, y2, y3⟩ := four_cells hW; go_simp) ?_
        simp only [Act.put, List.setIfInBounds_toArray, List.set_cons_zero, List.set_cons_succ]
        refine wpL_take 25 55 (i64 pg) [26, 27] rfl rfl (by kernel_rfl) (by decide) (by kernel_rfl) (by kernel_rfl) (by kernel_rfl) (fun _ _ _ h => h) HS8.out (by rfl) (fun W hW => by go_simp) ?_
        simp only [Act.put, List.setIfInBounds_toArray, List.set_cons_zero, List.set_cons_succ]
        refine wpL_one 21 rfl (by kernel_rfl) (by rfl) (fun K hK => ?_)
        go_simp
        refine HH.out.mono ?_
        rintro e w9 ⟨rfl, hb9⟩
        have HB9 : Hid (Below b w w9) := HB8.out.trans (hb9.mono HBo8.out.lob)
        have HBo9 := hid (HBo8.out.below hb9)
        have HS9 : Hid ((fun W : World => W.heap[X]? = some (spO x)) w9) := blk_below HS8.out hb9
        have HH3 := hid (HH2.out w9 HBo9.out.rb)
        clear hb9
        go_simp
        refine hK.out _ _ (fun _ => HS9.out) ?_
        clear hK K
        refine wpL_one 26 rfl (by kernel_rfl) (by rfl) (fun K hK => ?_)
        go_simp
        refine HH3.out.mono ?_
        rintro e w10 ⟨rfl, hb10⟩
        have HB10 : Hid (Below b w w10) := HB9.out.trans (hb10.mono HBo9.out.lob)
        have HBo10 : Hid (BoX w10 b b r) := ⟨L, HBo9.out.below hb10⟩
        have HS10 : Hid ((fun W : World => W.heap[X]? = some (spO x)) w10) := blk_below HS9.out hb10
        clear hb10
        go_simp
        refine hK.out _ _ (fun _ => HS10.out) ?_
        clear hK K
        refine wpL_take 27 57 (.bool false) [] rfl rfl (by kernel_rfl) (by decide) (by kernel_rfl) (by kernel_rfl) (by kernel_rfl) (fun _ _ _ h => h) HS10.out (by rfl) (fun W hW => by go_simp) ?_
        simp only [Act.put, List.setIfInBounds_toArray, List.set_cons_zero, List.set_cons_succ]
        refine wpL_one 28 rfl (by kernel_rfl) (by rfl) (fun K hK => ?_)
        go_simp
        refine hK.out _ _ (fun h => absurd rfl h) ?_
        clear hK K
        refine wpL_done (by kernel_rfl) ?_
        refine NoPanic.normal ?_
        go_wp2_with fail
        exact ⟨⟨k + 1, by omega, by go_num, HBo10, HB10⟩, by simp [intOf]; omega⟩
    · clear HW3 HB3
      go_wp2_with fail
      refine (three_ok wr).mono ?_
      rintro e w9 ⟨rfl, hbz⟩
      have HBz : Hid (Below b w w9) := HBw.out.trans (hbz.mono HBo.out.lob)
      clear hbz
      go_wp2_with fail
      go_ret
      exact ⟨rfl, HBz.out⟩
end Go.Proofs.Ytmebkpdijamdgaa
