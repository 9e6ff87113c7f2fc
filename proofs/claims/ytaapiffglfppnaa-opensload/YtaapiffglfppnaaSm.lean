/- same; no statement is proved in this text. -/
import Derived.Test.YtaapiffglfppnaaFk
namespace Go.Proofs.Ytaapiffglfppnaa
open Go.ChangeShapes Go.WideShapes Go.ChangeAt Go.RowKit Go.Deep
attribute [local go_sem ↓] Go.wp_at_zero Go.wp_at_succ

theorem eqIn (w : World) (a : Int) : (Op.equalIn 9999 3 (i64 a) (i64 a)).run Try.prog w = .ok true w := by
  have : (Op.equalIn 9999 3 (i64 a) (i64 a)).run Try.prog w = .ok (a == a) w := by kernel_rfl
  rw [this, beq_self_eq_true]
theorem eq55 (w : World) (x : Op4) : (Op.equalIn 10000 55 (ov x) (ov x)).run Try.prog w = .ok true w := by
  rw [run_equalIn_struct w 9999 55 _ _ (by kernel_rfl) (by kernel_rfl)]
  have p0 : ∀ (p s a b : Int) (w : World), (part 3 #[i64 p, i64 s, i64 a, i64 b] 0).run Try.prog w = .ok (i64 p) w := fun _ _ _ _ w => by kernel_rfl
  have p1 : ∀ (p s a b : Int) (w : World), (part 3 #[i64 p, i64 s, i64 a, i64 b] 1).run Try.prog w = .ok (i64 s) w := fun _ _ _ _ w => by kernel_rfl
  have p2 : ∀ (p s a b : Int) (w : World), (part 3 #[i64 p, i64 s, i64 a, i64 b] 2).run Try.prog w = .ok (i64 a) w := fun _ _ _ _ w => by kernel_rfl
  have p3 : ∀ (p s a b : Int) (w : World), (part 3 #[i64 p, i64 s, i64 a, i64 b] 3).run Try.prog w = .ok (i64 b) w := fun _ _ _ _ w => by kernel_rfl
  simp only [Program.fieldsOf, Try.underlying55]
  simp [Op.eqFields, p0, p1, p2, p3, eqIn, Result.andThen]
theorem eq57 (w : World) (x : Sl3) : (Op.equalIn 10000 57 (lv x) (lv x)).run Try.prog w = .ok true w := by
  rw [run_equalIn_struct w 9999 57 _ _ (by kernel_rfl) (by kernel_rfl)]
  have p0 : ∀ (p s a : Int) (w : World), (part 3 #[i64 p, i64 s, i64 a] 0).run Try.prog w = .ok (i64 p) w := fun _ _ _ w => by kernel_rfl
  have p1 : ∀ (p s a : Int) (w : World), (part 3 #[i64 p, i64 s, i64 a] 1).run Try.prog w = .ok (i64 s) w := fun _ _ _ w => by kernel_rfl
  have p2 : ∀ (p s a : Int) (w : World), (part 3 #[i64 p, i64 s, i64 a] 2).run Try.prog w = .ok (i64 a) w := fun _ _ _ w => by kernel_rfl
  simp only [Program.fieldsOf, Try.underlying57]
  simp [Op.eqFields, p0, p1, p2, eqIn, Result.andThen]
theorem zero55 (w : World) : (zeroValue 55).run Try.prog w = .ok (ov (0, 0, 0, 0)) w := by kernel_rfl
theorem zero57 (w : World) : (zeroValue 57).run Try.prog w = .ok (lv (0, 0, 0)) w := by kernel_rfl
theorem load55 {W : World} {b : Nat} {x : Op4} (h : W.heap[b]? = some (oO x 55)) : (loadVar 55 ⟨b, 0, none⟩).run Try.prog W = .ok (ov x) W := by
  obtain ⟨c0, c1, c2, c3⟩ := four_cells h
  simp [go_sem, c0, c1, c2, c3]
theorem load57 {W : World} {b : Nat} {x : Sl3} (h : W.heap[b]? = some (lO x 57)) : (loadVar 57 ⟨b, 0, none⟩).run Try.prog W = .ok (lv x) W := by
  obtain ⟨c0, c1, c2⟩ := three_cells h
  simp [go_sem, c0, c1, c2]
set_option maxRecDepth 100000 in
set_option maxHeartbeats 800000 in
theorem open_ok (w : World) (x : Op4) : Calls Try.prog 19 #[ov x] w fun e w' => e = .returned (ov x) ∧ Below w.heap.size w w' := by
  have hz := zero55
  have HX := hid (heap_last w (oO x 54))
  obtain ⟨x0, x1, x2, x3⟩ := four_cells HX.out
  have hxl := blk_lt HX.out
  have HY := hid (heap_last (w.alloc (oO x 54)) (oO x 55))
  have hs : (w.alloc (oO x 54)).heap.size = w.heap.size + 1 := by simp
  rw [hs] at HY
  have HB : Hid (Below w.heap.size w ((w.alloc (oO x 54)).alloc (oO x 55))) := (below_one w _).alloc (by simp) _
  clear hs
  go_enter Try.func19, Try.ntmps19
  go_wp2_with fail
  exact bodyPost_ret (results_cell1 Try.results19 rfl (load55 HY.out)) rfl ⟨rfl, HB.out⟩
set_option maxRecDepth 100000 in
set_option maxHeartbeats 800000 in
theorem slot2_ok (w : World) (x : Sl3) : Calls Try.prog 20 #[lv x] w fun e w' => e = .returned (lv x) ∧ Below w.heap.size w w' := by
  have hz := zero57
  have HX := hid (heap_last w (lO x 48))
  obtain ⟨x0, x1, x2⟩ := three_cells HX.out
  have hxl := blk_lt HX.out
  have HY := hid (heap_last (w.alloc (lO x 48)) (lO x 57))
  have hs : (w.alloc (lO x 48)).heap.size = w.heap.size + 1 := by simp
  rw [hs] at HY
  have HB : Hid (Below w.heap.size w ((w.alloc (lO x 48)).alloc (lO x 57))) := (below_one w _).alloc (by simp) _
  clear hs
  go_enter Try.func20, Try.ntmps20
  go_wp2_with fail
  exact bodyPost_ret (results_cell1 Try.results20 rfl (load57 HY.out)) rfl ⟨rfl, HB.out⟩
/-- Two rows' members. -/
structure PrO (r g1 N c1 k g o : Nat) (t2 : Value) (x : Op4) (W : World) : Prop where
  blk : W.heap[r]? = some (.cells #[.slice (some ⟨g1, 0, none⟩) N c1, t2] 30)
  l1 : g1 < W.heap.size
  a : W.cell? ⟨g1, k * 4, none⟩ = some (i64 x.1) ∧ W.cell? ⟨g1, k * 4 + 1, none⟩ = some (i64 x.2.1) ∧ W.cell? ⟨g1, k * 4 + 2, none⟩ = some (i64 x.2.2.1) ∧ W.cell? ⟨g1, k * 4 + 3, none⟩ = some (i64 x.2.2.2)
  l2 : g < W.heap.size
  b : W.cell? ⟨g, o + k * 4, none⟩ = some (i64 x.1) ∧ W.cell? ⟨g, o + k * 4 + 1, none⟩ = some (i64 x.2.1) ∧ W.cell? ⟨g, o + k * 4 + 2, none⟩ = some (i64 x.2.2.1) ∧ W.cell? ⟨g, o + k * 4 + 3, none⟩ = some (i64 x.2.2.2)
theorem PrO.below {r g1 N c1 k g o : Nat} {t2 : Value} {x : Op4} {W W' : World} (h : PrO r g1 N c1 k g o t2 x W) (hb : Below W.heap.size W W') : PrO r g1 N c1 k g o t2 x W' := by
  have e1 := hb.block g1 h.l1
  have e2 := hb.block g h.l2
  refine ⟨blk_below h.blk hb, Nat.lt_of_lt_of_le h.l1 hb.size, ?_, Nat.lt_of_lt_of_le h.l2 hb.size, ?_⟩
  · have key : ∀ j, W'.cell? ⟨g1, j, none⟩ = W.cell? ⟨g1, j, none⟩ := fun j => World.cell?_of_block (w := W) e1
    simp only [key]
    exact h.a
  · have key : ∀ j, W'.cell? ⟨g, j, none⟩ = W.cell? ⟨g, j, none⟩ := fun j => World.cell?_of_block (w := W) e2
    simp only [key]
    exact h.b
structure PrL (r g1 N c1 k g o : Nat) (t2 : Value) (x : Sl3) (W : World) : Prop where
  blk : W.heap[r]? = some (.cells #[t2, .slice (some ⟨g1, 0, none⟩) N c1] 30)
  l1 : g1 < W.heap.size
  a : W.cell? ⟨g1, k * 3, none⟩ = some (i64 x.1) ∧ W.cell? ⟨g1, k * 3 + 1, none⟩ = some (i64 x.2.1) ∧ W.cell? ⟨g1, k * 3 + 2, none⟩ = some (i64 x.2.2)
  l2 : g < W.heap.size
  b : W.cell? ⟨g, o + k * 3, none⟩ = some (i64 x.1) ∧ W.cell? ⟨g, o + k * 3 + 1, none⟩ = some (i64 x.2.1) ∧ W.cell? ⟨g, o + k * 3 + 2, none⟩ = some (i64 x.2.2)
theorem PrL.below {r g1 N c1 k g o : Nat} {t2 : Value} {x : Sl3} {W W' : World} (h : PrL r g1 N c1 k g o t2 x W) (hb : Below W.heap.size W W') : PrL r g1 N c1 k g o t2 x W' := by
  have e1 := hb.block g1 h.l1
  have e2 := hb.block g h.l2
  refine ⟨blk_below h.blk hb, Nat.lt_of_lt_of_le h.l1 hb.size, ?_, Nat.lt_of_lt_of_le h.l2 hb.size, ?_⟩
  · have key : ∀ j, W'.cell? ⟨g1, j, none⟩ = W.cell? ⟨g1, j, none⟩ := fun j => World.cell?_of_block (w := W) e1
    simp only [key]
    exact h.a
  · have key : ∀ j, W'.cell? ⟨g, j, none⟩ = W.cell? ⟨g, j, none⟩ := fun j => World.cell?_of_block (w := W) e2
    simp only [key]
    exact h.b
theorem pro_of {W : World} {base r k g o : Nat} {O : List Op4} {S : List Sl3} {x : Op4} (h : Rt W base r O S) (hk : O[k]? = some x) (hl2 : g < W.heap.size) (hb : W.cell? ⟨g, o + k * 4, none⟩ = some (i64 x.1) ∧ W.cell? ⟨g, o + k * 4 + 1, none⟩ = some (i64 x.2.1) ∧ W.cell? ⟨g, o + k * 4 + 2, none⟩ = some (i64 x.2.2.1) ∧ W.cell? ⟨g, o + k * 4 + 3, none⟩ = some (i64 x.2.2.2)) : ∃ g1 c1 t2, PrO r g1 O.length c1 k g o t2 x W ∧ O.length ≤ c1 := by
  obtain ⟨hlo, ao, c1, a2, c2, hbk, hown, _⟩ := h
  have hi : k < O.length := (List.getElem?_eq_some_iff.1 hk).1
  obtain ⟨g1, rfl, _, cur, hgg, hc⟩ := own_zeroK hown (by omega)
  obtain ⟨e0, e1, e2, e3⟩ := ocn_get O k x hk
  exact ⟨g1, c1, _, ⟨hbk, blk_lt hgg, ⟨by rw [hown.cellAt _ (by omega), e0], by rw [hown.cellAt _ (by omega), e1], by rw [hown.cellAt _ (by omega), e2], by rw [hown.cellAt _ (by omega), e3]⟩, hl2, hb⟩, hc⟩
theorem prl_of {W : World} {base r k g o : Nat} {O : List Op4} {S : List Sl3} {x : Sl3} (h : Rt W base r O S) (hk : S[k]? = some x) (hl2 : g < W.heap.size) (hb : W.cell? ⟨g, o + k * 3, none⟩ = some (i64 x.1) ∧ W.cell? ⟨g, o + k * 3 + 1, none⟩ = some (i64 x.2.1) ∧ W.cell? ⟨g, o + k * 3 + 2, none⟩ = some (i64 x.2.2)) : ∃ g1 c1 t2, PrL r g1 S.length c1 k g o t2 x W ∧ S.length ≤ c1 := by
  obtain ⟨hlo, a1, cc1, ao, c1, hbk, _, hown⟩ := h
  have hi : k < S.length := (List.getElem?_eq_some_iff.1 hk).1
  obtain ⟨g1, rfl, _, cur, hgg, hc⟩ := own_zeroK hown (by omega)
  obtain ⟨e0, e1, e2⟩ := lcn_get S k x hk
  exact ⟨g1, c1, _, ⟨hbk, blk_lt hgg, ⟨by rw [hown.cellAt _ (by omega), e0], by rw [hown.cellAt _ (by omega), e1], by rw [hown.cellAt _ (by omega), e2]⟩, hl2, hb⟩, hc⟩
set_option maxRecDepth 100000 in
set_option maxHeartbeats 3200000 in
theorem same_ok {w : World} {base t r : Nat} {A : Tab} {V : Nat → Op4} (h : Tg w t A V) (hJ : Jn A V) (hR : Rt w base r (opL A V) (slL A V)) : Calls Try.prog 11 #[pq t, pq r] w fun e w' => e = .returned (.bool true) ∧ Below w.heap.size w w' := by
  have HO := hid (opens_ok w (pq t) A V h.tv hJ.sml)
  have HS := hid fun W (hW : Tg W t A V) => slots_ok W (pq t) A V hW.tv
  have HT := hid h
  have HR := hid hR
  have HJ := hid hJ
  have hlO := op_len A V
  have hlS := sl_len A V
  generalize hO : opL A V = O at *
  generalize hS : slL A V = S at *
  have HE : Hid (∀ M : List Op4, M.Perm (apL (nmL A V)) → M.Pairwise (fun a b => a.1 ≤ b.1) → M = O) := fun M h1 h2 => by rw [← hO]; exact opens_eq HJ.out h1 h2
  have hrl := hR.lt
  clear h hJ hR hO hS
  go_enter Try.func11, Try.ntmps11
  go_wp2_with fail
  refine HO.out.mono ?_
  rintro e w2 ⟨⟨aO, cO, M, rfl, hp, hs, hrd, hcO⟩, hb⟩
  have hM := HE.out M hp hs
  subst hM
  have HB2 := hid hb
  have HRow2 := hid hrd
  have HS2 := hid (HS.out w2 (HT.out.below hb))
  clear hp hs hrd hb HO HS HE
  go_wp2_with fail
  refine HS2.out.mono ?_
  rintro e w3 ⟨⟨aL, cL, rfl, hown⟩, hb⟩
  have hcL := own_capK hown
  have HBs : Hid (Below w.heap.size w w3) := HB2.out.trans (hb.mono HB2.out.size)
  have HRo3 : Hid (Rd4 w3 aO M) := HRow2.out.below hb
  have HRl3 : Hid (Rd3 w3 aL S) := Rd3.own hown
  obtain ⟨_, a1, d1, a2, d2, hbk, ho1, ho2⟩ := HR.out.below HBs.out
  have y0 : w3.cell? ⟨r, 0, none⟩ = some (.slice a1 M.length d1) := blk_cell hbk 0
  have y1 : w3.cell? ⟨r, 1, none⟩ = some (.slice a2 S.length d2) := blk_cell hbk 1
  have hd1 := own_capK ho1
  have hd2 := own_capK ho2
  have HB3 := HBs
  have HR3 : Hid (Rt w3 base r M S) := HR.out.below HBs.out
  obtain ⟨NO, hNO⟩ : ∃ NO, NO = M.length := ⟨_, rfl⟩
  obtain ⟨NL, hNL⟩ : ∃ NL, NL = S.length := ⟨_, rfl⟩
  have HNO := hid hNO
  have HNL := hid hNL
  rw [← hNO] at y0 hlO hcO hd1
  rw [← hNL] at y1 hlS hcL hd2
  rw [← hNO, ← hNL]
  have HBc : Hid (Below w3.heap.size w3 w3) := Below.refl _ _
  have hrl3 : r < w3.heap.size := blk_lt hbk
  clear hb hown HS2 hbk ho1 ho2 hNO hNL
  go_wp2_with fail
  go_loopw [33] (fun u wr => ∃ (k : Nat), k ≤ NO ∧ u = i64 k ∧ Hid (Below w3.heap.size w3 wr)) (fun u _ => NO - (intOf u).toNat)
  case atStart => exact ⟨0, by omega, rfl, HBc⟩
  case round =>
    obtain ⟨k, hk, rfl, HB⟩ := hrel
    by_cases hlt : k < NO
    · have hkI : (k : Int) < NO := by omega
      have hk0 : ¬ ((k : Int) < 0) := by omega
      obtain ⟨x, hx⟩ : ∃ x, M[k]? = some x := ⟨_, List.getElem?_eq_getElem (by rw [← HNO.out]; exact hlt)⟩
      obtain ⟨g, o, hg, hgl, b0, b1, b2, b3⟩ := (HRo3.out.below HB.out) k x hx
      subst hg
      obtain ⟨g1, c1, t2, hP, hc1⟩ := pro_of (HR3.out.below HB.out) hx hgl ⟨b0, b1, b2, b3⟩
      rw [← HNO.out] at hP hc1
      have HP := hid hP
      have HCo := hid fun W => open_ok W x
      have hq := fun W => eq55 W x
      clear hx hP b0 b1 b2 b3
      go_upto_region 8 with fail
      have HS0 : Hid (PrO r g1 NO c1 k g o t2 x wr.drew) := ⟨HP.out.blk, HP.out.l1, HP.out.a, HP.out.l2, HP.out.b⟩
      have HB0 : Hid (Below w3.heap.size w3 wr.drew) := HB.out.drew
      refine wp_region_noPanic ?_
      refine wp_region_last (PrO r g1 NO c1 k g o t2 x) 12 (by kernel_rfl) ?_
      refine wpL_take 0 36 (.slice (some ⟨g, o, none⟩) NO cO) [2, 3, 4] rfl rfl (by kernel_rfl) (by decide) (by kernel_rfl) (by kernel_rfl) (by kernel_rfl) (fun _ _ _ h => h) HS0.out (by rfl) (fun W hW => by have e0 := blk_cell hW.blk 0; simp only [List.getElem?_toArray, List.getElem?_cons_zero] at e0; obtain ⟨a0, a1, a2, a3⟩ := hW.a; obtain ⟨b0, b1, b2, b3⟩ := hW.b; go_simp) ?_
      simp only [Act.put, List.setIfInBounds_toArray, List.set_cons_zero, List.set_cons_succ]
      refine wpL_take 1 37 (i64 k) [2, 3, 4] rfl rfl (by kernel_rfl) (by decide) (by kernel_rfl) (by kernel_rfl) (by kernel_rfl) (fun _ _ _ h => h) HS0.out (by rfl) (fun W hW => by have e0 := blk_cell hW.blk 0; simp only [List.getElem?_toArray, List.getElem?_cons_zero] at e0; obtain ⟨a0, a1, a2, a3⟩ := hW.a; obtain ⟨b0, b1, b2, b3⟩ := hW.b; go_simp) ?_
      simp only [Act.put, List.setIfInBounds_toArray, List.set_cons_zero, List.set_cons_succ]
      refine wpL_take 2 38 (.pointer (some ⟨g, o + k * 4, none⟩)) [3, 4] rfl rfl (by kernel_rfl) (by decide) (by kernel_rfl) (by kernel_rfl) (by kernel_rfl) (fun _ _ _ h => h) HS0.out (by rfl) (fun W hW => by have e0 := blk_cell hW.blk 0; simp only [List.getElem?_toArray, List.getElem?_cons_zero] at e0; obtain ⟨a0, a1, a2, a3⟩ := hW.a; obtain ⟨b0, b1, b2, b3⟩ := hW.b; go_simp) ?_
      simp only [Act.put, List.setIfInBounds_toArray, List.set_cons_zero, List.set_cons_succ]
      refine wpL_take 3 39 (ov x) [4] rfl rfl (by kernel_rfl) (by decide) (by kernel_rfl) (by kernel_rfl) (by kernel_rfl) (fun _ _ _ h => h) HS0.out (by rfl) (fun W hW => by have e0 := blk_cell hW.blk 0; simp only [List.getElem?_toArray, List.getElem?_cons_zero] at e0; obtain ⟨a0, a1, a2, a3⟩ := hW.a; obtain ⟨b0, b1, b2, b3⟩ := hW.b; go_simp) ?_
      simp only [Act.put, List.setIfInBounds_toArray, List.set_cons_zero, List.set_cons_succ]
      refine wpL_take 5 41 (pq r) [6, 7, 8, 10, 11] rfl rfl (by kernel_rfl) (by decide) (by kernel_rfl) (by kernel_rfl) (by kernel_rfl) (fun _ _ _ h => h) HS0.out (by rfl) (fun W hW => by have e0 := blk_cell hW.blk 0; simp only [List.getElem?_toArray, List.getElem?_cons_zero] at e0; obtain ⟨a0, a1, a2, a3⟩ := hW.a; obtain ⟨b0, b1, b2, b3⟩ := hW.b; go_simp) ?_
      simp only [Act.put, List.setIfInBounds_toArray, List.set_cons_zero, List.set_cons_succ]
      refine wpL_take 6 42 (pq r) [7, 8, 10, 11] rfl rfl (by kernel_rfl) (by decide) (by kernel_rfl) (by kernel_rfl) (by kernel_rfl) (fun _ _ _ h => h) HS0.out (by rfl) (fun W hW => by have e0 := blk_cell hW.blk 0; simp only [List.getElem?_toArray, List.getElem?_cons_zero] at e0; obtain ⟨a0, a1, a2, a3⟩ := hW.a; obtain ⟨b0, b1, b2, b3⟩ := hW.b; go_simp) ?_
      simp only [Act.put, List.setIfInBounds_toArray, List.set_cons_zero, List.set_cons_succ]
      refine wpL_take 7 43 (.pointer (some ⟨r, 0, none⟩)) [8, 10, 11] rfl rfl (by kernel_rfl) (by decide) (by kernel_rfl) (by kernel_rfl) (by kernel_rfl) (fun _ _ _ h => h) HS0.out (by rfl) (fun W hW => by have e0 := blk_cell hW.blk 0; simp only [List.getElem?_toArray, List.getElem?_cons_zero] at e0; obtain ⟨a0, a1, a2, a3⟩ := hW.a; obtain ⟨b0, b1, b2, b3⟩ := hW.b; go_simp) ?_
      simp only [Act.put, List.setIfInBounds_toArray, List.set_cons_zero, List.set_cons_succ]
      refine wpL_take 8 44 (.slice (some ⟨g1, 0, none⟩) NO c1) [10, 11] rfl rfl (by kernel_rfl) (by decide) (by kernel_rfl) (by kernel_rfl) (by kernel_rfl) (fun _ _ _ h => h) HS0.out (by rfl) (fun W hW => by have e0 := blk_cell hW.blk 0; simp only [List.getElem?_toArray, List.getElem?_cons_zero] at e0; obtain ⟨a0, a1, a2, a3⟩ := hW.a; obtain ⟨b0, b1, b2, b3⟩ := hW.b; go_simp) ?_
      simp only [Act.put, List.setIfInBounds_toArray, List.set_cons_zero, List.set_cons_succ]
      refine wpL_take 9 45 (i64 k) [10, 11] rfl rfl (by kernel_rfl) (by decide) (by kernel_rfl) (by kernel_rfl) (by kernel_rfl) (fun _ _ _ h => h) HS0.out (by rfl) (fun W hW => by have e0 := blk_cell hW.blk 0; simp only [List.getElem?_toArray, List.getElem?_cons_zero] at e0; obtain ⟨a0, a1, a2, a3⟩ := hW.a; obtain ⟨b0, b1, b2, b3⟩ := hW.b; go_simp) ?_
      simp only [Act.put, List.setIfInBounds_toArray, List.set_cons_zero, List.set_cons_succ]
      refine wpL_take 10 46 (.pointer (some ⟨g1, k * 4, none⟩)) [11] rfl rfl (by kernel_rfl) (by decide) (by kernel_rfl) (by kernel_rfl) (by kernel_rfl) (fun _ _ _ h => h) HS0.out (by rfl) (fun W hW => by have e0 := blk_cell hW.blk 0; simp only [List.getElem?_toArray, List.getElem?_cons_zero] at e0; obtain ⟨a0, a1, a2, a3⟩ := hW.a; obtain ⟨b0, b1, b2, b3⟩ := hW.b; go_simp) ?_
      simp only [Act.put, List.setIfInBounds_toArray, List.set_cons_zero, List.set_cons_succ]
      refine wpL_take 11 47 (ov x) [] rfl rfl (by kernel_rfl) (by decide) (by kernel_rfl) (by kernel_rfl) (by kernel_rfl) (fun _ _ _ h => h) HS0.out (by rfl) (fun W hW => by have e0 := blk_cell hW.blk 0; simp only [List.getElem?_toArray, List.getElem?_cons_zero] at e0; obtain ⟨a0, a1, a2, a3⟩ := hW.a; obtain ⟨b0, b1, b2, b3⟩ := hW.b; go_simp) ?_
      simp only [Act.put, List.setIfInBounds_toArray, List.set_cons_zero, List.set_cons_succ]
      refine wpL_one 4 rfl (by kernel_rfl) (by rfl) (fun K' hK => ?_)
      go_simp
      refine (HCo.out _).mono ?_
      rintro e w5 ⟨rfl, hb⟩
      have HS1 := hid (HS0.out.below hb)
      have HB5 : Hid (Below w3.heap.size w3 w5) := HB0.out.trans (hb.mono HB0.out.size)
      clear hb HCo
      go_simp
      refine hK.out _ _ (fun _ => HS1.out) ?_
      clear hK K'
      refine wpL_one 12 rfl (by kernel_rfl) (by rfl) (fun K' hK => ?_)
      go_simp
      refine hK.out _ _ (fun h => absurd rfl h) ?_
      clear hK K'
      refine wpL_done (by kernel_rfl) ?_
      refine NoPanic.normal ?_
      go_wp2_with fail
      exact ⟨⟨k + 1, by omega, by go_num, HB5⟩, by simp [intOf]; omega⟩
    · clear HBc
      have HBc := HB
      go_wp2_with fail
      go_loopw [52] (fun u wr => ∃ (k : Nat), k ≤ NL ∧ u = i64 k ∧ Hid (Below w3.heap.size w3 wr)) (fun u _ => NL - (intOf u).toNat)
      case atStart => exact ⟨0, by omega, rfl, HBc⟩
      case round =>
        obtain ⟨k, hk, rfl, HB⟩ := hrel
        by_cases hlt : k < NL
        · have hkI : (k : Int) < NL := by omega
          have hk0 : ¬ ((k : Int) < 0) := by omega
          obtain ⟨x, hx⟩ : ∃ x, S[k]? = some x := ⟨_, List.getElem?_eq_getElem (by rw [← HNL.out]; exact hlt)⟩
          obtain ⟨g, o, hg, hgl, b0, b1, b2⟩ := (HRl3.out.below HB.out) k x hx
          subst hg
          obtain ⟨g1, c1, t2, hP, hc1⟩ := prl_of (HR3.out.below HB.out) hx hgl ⟨b0, b1, b2⟩
          rw [← HNL.out] at hP hc1
          have HP := hid hP
          have HCo := hid fun W => slot2_ok W x
          have hq := fun W => eq57 W x
          clear hx hP b0 b1 b2
          go_upto_region 14 with fail
          have HS0 : Hid (PrL r g1 NL c1 k g o t2 x wr.drew) := ⟨HP.out.blk, HP.out.l1, HP.out.a, HP.out.l2, HP.out.b⟩
          have HB0 : Hid (Below w3.heap.size w3 wr.drew) := HB.out.drew
          refine wp_region_noPanic ?_
          refine wp_region_last (PrL r g1 NL c1 k g o t2 x) 12 (by kernel_rfl) ?_
          refine wpL_take 0 55 (.slice (some ⟨g, o, none⟩) NL cL) [2, 3, 4] rfl rfl (by kernel_rfl) (by decide) (by kernel_rfl) (by kernel_rfl) (by kernel_rfl) (fun _ _ _ h => h) HS0.out (by rfl) (fun W hW => by have e0 := blk_cell hW.blk 1; simp only [List.getElem?_toArray, List.getElem?_cons_zero, List.getElem?_cons_succ] at e0; obtain ⟨a0, a1, a2⟩ := hW.a; obtain ⟨b0, b1, b2⟩ := hW.b; go_simp) ?_
          simp only [Act.put, List.setIfInBounds_toArray, List.set_cons_zero, List.set_cons_succ]
          refine wpL_take 1 56 (i64 k) [2, 3, 4] rfl rfl (by kernel_rfl) (by decide) (by kernel_rfl) (by kernel_rfl) (by kernel_rfl) (fun _ _ _ h => h) HS0.out (by rfl) (fun W hW => by have e0 := blk_cell hW.blk 1; simp only [List.getElem?_toArray, List.getElem?_cons_zero, List.getElem?_cons_succ] at e0; obtain ⟨a0, a1, a2⟩ := hW.a; obtain ⟨b0, b1, b2⟩ := hW.b; go_simp) ?_
          simp only [Act.put, List.setIfInBounds_toArray, List.set_cons_zero, List.set_cons_succ]
          refine wpL_take 2 57 (.pointer (some ⟨g, o + k * 3, none⟩)) [3, 4] rfl rfl (by kernel_rfl) (by decide) (by kernel_rfl) (by kernel_rfl) (by kernel_rfl) (fun _ _ _ h => h) HS0.out (by rfl) (fun W hW => by have e0 := blk_cell hW.blk 1; simp only [List.getElem?_toArray, List.getElem?_cons_zero, List.getElem?_cons_succ] at e0; obtain ⟨a0, a1, a2⟩ := hW.a; obtain ⟨b0, b1, b2⟩ := hW.b; go_simp) ?_
          simp only [Act.put, List.setIfInBounds_toArray, List.set_cons_zero, List.set_cons_succ]
          refine wpL_take 3 58 (lv x) [4] rfl rfl (by kernel_rfl) (by decide) (by kernel_rfl) (by kernel_rfl) (by kernel_rfl) (fun _ _ _ h => h) HS0.out (by rfl) (fun W hW => by have e0 := blk_cell hW.blk 1; simp only [List.getElem?_toArray, List.getElem?_cons_zero, List.getElem?_cons_succ] at e0; obtain ⟨a0, a1, a2⟩ := hW.a; obtain ⟨b0, b1, b2⟩ := hW.b; go_simp) ?_
          simp only [Act.put, List.setIfInBounds_toArray, List.set_cons_zero, List.set_cons_succ]
          refine wpL_take 5 60 (pq r) [6, 7, 8, 10, 11] rfl rfl (by kernel_rfl) (by decide) (by kernel_rfl) (by kernel_rfl) (by kernel_rfl) (fun _ _ _ h => h) HS0.out (by rfl) (fun W hW => by have e0 := blk_cell hW.blk 1; simp only [List.getElem?_toArray, List.getElem?_cons_zero, List.getElem?_cons_succ] at e0; obtain ⟨a0, a1, a2⟩ := hW.a; obtain ⟨b0, b1, b2⟩ := hW.b; go_simp) ?_
          simp only [Act.put, List.setIfInBounds_toArray, List.set_cons_zero, List.set_cons_succ]
          refine wpL_take 6 61 (pq r) [7, 8, 10, 11] rfl rfl (by kernel_rfl) (by decide) (by kernel_rfl) (by kernel_rfl) (by kernel_rfl) (fun _ _ _ h => h) HS0.out (by rfl) (fun W hW => by have e0 := blk_cell hW.blk 1; simp only [List.getElem?_toArray, List.getElem?_cons_zero, List.getElem?_cons_succ] at e0; obtain ⟨a0, a1, a2⟩ := hW.a; obtain ⟨b0, b1, b2⟩ := hW.b; go_simp) ?_
          simp only [Act.put, List.setIfInBounds_toArray, List.set_cons_zero, List.set_cons_succ]
          refine wpL_take 7 62 (.pointer (some ⟨r, 1, none⟩)) [8, 10, 11] rfl rfl (by kernel_rfl) (by decide) (by kernel_rfl) (by kernel_rfl) (by kernel_rfl) (fun _ _ _ h => h) HS0.out (by rfl) (fun W hW => by have e0 := blk_cell hW.blk 1; simp only [List.getElem?_toArray, List.getElem?_cons_zero, List.getElem?_cons_succ] at e0; obtain ⟨a0, a1, a2⟩ := hW.a; obtain ⟨b0, b1, b2⟩ := hW.b; go_simp) ?_
          simp only [Act.put, List.setIfInBounds_toArray, List.set_cons_zero, List.set_cons_succ]
          refine wpL_take 8 63 (.slice (some ⟨g1, 0, none⟩) NL c1) [10, 11] rfl rfl (by kernel_rfl) (by decide) (by kernel_rfl) (by kernel_rfl) (by kernel_rfl) (fun _ _ _ h => h) HS0.out (by rfl) (fun W hW => by have e0 := blk_cell hW.blk 1; simp only [List.getElem?_toArray, List.getElem?_cons_zero, List.getElem?_cons_succ] at e0; obtain ⟨a0, a1, a2⟩ := hW.a; obtain ⟨b0, b1, b2⟩ := hW.b; go_simp) ?_
          simp only [Act.put, List.setIfInBounds_toArray, List.set_cons_zero, List.set_cons_succ]
          refine wpL_take 9 64 (i64 k) [10, 11] rfl rfl (by kernel_rfl) (by decide) (by kernel_rfl) (by kernel_rfl) (by kernel_rfl) (fun _ _ _ h => h) HS0.out (by rfl) (fun W hW => by have e0 := blk_cell hW.blk 1; simp only [List.getElem?_toArray, List.getElem?_cons_zero, List.getElem?_cons_succ] at e0; obtain ⟨a0, a1, a2⟩ := hW.a; obtain ⟨b0, b1, b2⟩ := hW.b; go_simp) ?_
          simp only [Act.put, List.setIfInBounds_toArray, List.set_cons_zero, List.set_cons_succ]
          refine wpL_take 10 65 (.pointer (some ⟨g1, k * 3, none⟩)) [11] rfl rfl (by kernel_rfl) (by decide) (by kernel_rfl) (by kernel_rfl) (by kernel_rfl) (fun _ _ _ h => h) HS0.out (by rfl) (fun W hW => by have e0 := blk_cell hW.blk 1; simp only [List.getElem?_toArray, List.getElem?_cons_zero, List.getElem?_cons_succ] at e0; obtain ⟨a0, a1, a2⟩ := hW.a; obtain ⟨b0, b1, b2⟩ := hW.b; go_simp) ?_
          simp only [Act.put, List.setIfInBounds_toArray, List.set_cons_zero, List.set_cons_succ]
          refine wpL_take 11 66 (lv x) [] rfl rfl (by kernel_rfl) (by decide) (by kernel_rfl) (by kernel_rfl) (by kernel_rfl) (fun _ _ _ h => h) HS0.out (by rfl) (fun W hW => by have e0 := blk_cell hW.blk 1; simp only [List.getElem?_toArray, List.getElem?_cons_zero, List.getElem?_cons_succ] at e0; obtain ⟨a0, a1, a2⟩ := hW.a; obtain ⟨b0, b1, b2⟩ := hW.b; go_simp) ?_
          simp only [Act.put, List.setIfInBounds_toArray, List.set_cons_zero, List.set_cons_succ]
          refine wpL_one 4 rfl (by kernel_rfl) (by rfl) (fun K' hK => ?_)
          go_simp
          refine (HCo.out _).mono ?_
          rintro e w5 ⟨rfl, hb⟩
          have HS1 := hid (HS0.out.below hb)
          have HB5 : Hid (Below w3.heap.size w3 w5) := HB0.out.trans (hb.mono HB0.out.size)
          clear hb HCo
          go_simp
          refine hK.out _ _ (fun _ => HS1.out) ?_
          clear hK K'
          refine wpL_one 12 rfl (by kernel_rfl) (by rfl) (fun K' hK => ?_)
          go_simp
          refine hK.out _ _ (fun h => absurd rfl h) ?_
          clear hK K'
          refine wpL_done (by kernel_rfl) ?_
          refine NoPanic.normal ?_
          go_wp2_with fail
          exact ⟨⟨k + 1, by omega, by go_num, HB5⟩, by simp [intOf]; omega⟩
        · have HBe : Hid (Below w.heap.size w wr) := HBs.out.trans (HB.out.mono HBs.out.size)
          go_wp2_with fail
          go_ret
          exact ⟨rfl, HBe.out⟩
end Go.Proofs.Ytaapiffglfppnaa
