/- The document's Get; no statement is proved in this text. -/
import Derived.Test.YtaapiffglfppnaaDg
namespace Go.Proofs.Ytaapiffglfppnaa
open Go.ChangeShapes Go.WideShapes Go.ChangeAt Go.RowKit Go.Deep
attribute [local go_sem ↓] Go.wp_at_zero Go.wp_at_succ

/-- What a walk to a place's object reads. -/
structure GqR (r g1 N c1 J g2 M c2 K : Nat) (s : Sl3) (o : Op4) (W : World) : Prop where
  blk : W.heap[r]? = some (.cells #[.slice (some ⟨g1, 0, none⟩) N c1, .slice (some ⟨g2, 0, none⟩) M c2] 30)
  l1 : g1 < W.heap.size
  o0 : W.cell? ⟨g1, J * 4, none⟩ = some (i64 o.1)
  o1 : W.cell? ⟨g1, J * 4 + 1, none⟩ = some (i64 o.2.1)
  o2 : W.cell? ⟨g1, J * 4 + 2, none⟩ = some (i64 o.2.2.1)
  o3 : W.cell? ⟨g1, J * 4 + 3, none⟩ = some (i64 o.2.2.2)
  l2 : g2 < W.heap.size
  s2 : W.cell? ⟨g2, K * 3 + 2, none⟩ = some (i64 s.2.2)
theorem GqR.below {r g1 N c1 J g2 M c2 K : Nat} {s : Sl3} {o : Op4} {W W' : World} (h : GqR r g1 N c1 J g2 M c2 K s o W) (hb : Below W.heap.size W W') : GqR r g1 N c1 J g2 M c2 K s o W' := by
  have hk := hb.block g1 h.l1
  have hk2 := hb.block g2 h.l2
  refine ⟨blk_below h.blk hb, Nat.lt_of_lt_of_le h.l1 hb.size, ?_, ?_, ?_, ?_, Nat.lt_of_lt_of_le h.l2 hb.size, ?_⟩
  · rw [World.cell?_of_block (w := W) hk]; exact h.o0
  · rw [World.cell?_of_block (w := W) hk]; exact h.o1
  · rw [World.cell?_of_block (w := W) hk]; exact h.o2
  · rw [World.cell?_of_block (w := W) hk]; exact h.o3
  · rw [World.cell?_of_block (w := W) hk2]; exact h.s2
theorem GqR.drew {r g1 N c1 J g2 M c2 K : Nat} {s : Sl3} {o : Op4} {W : World} (h : GqR r g1 N c1 J g2 M c2 K s o W) : GqR r g1 N c1 J g2 M c2 K s o W.drew := ⟨h.blk, h.l1, h.o0, h.o1, h.o2, h.o3, h.l2, h.s2⟩
theorem gq_of {W : World} {base r J K : Nat} {O : List Op4} {S : List Sl3} {s : Sl3} {o : Op4} (h : Rt W base r O S) (hJ : O[J]? = some o) (hK : S[K]? = some s) : ∃ g1 c1 g2 c2, GqR r g1 O.length c1 J g2 S.length c2 K s o W ∧ O.length ≤ c1 ∧ S.length ≤ c2 := by
  obtain ⟨hlo, ao, c1, a2, c2, hbk, hown, hownS⟩ := h
  have hi : J < O.length := (List.getElem?_eq_some_iff.1 hJ).1
  have hiS : K < S.length := (List.getElem?_eq_some_iff.1 hK).1
  have hc := own_capK hown
  obtain ⟨g, o', hg, hgl, c0, d1, d2, d3⟩ := Rd4.own hown J o hJ
  obtain ⟨g', hg', _⟩ := own_zeroK hown (by omega)
  obtain ⟨g2, rfl, _, cur, hg2, hc2⟩ := own_zeroK hownS (by omega)
  rw [hg'] at hg
  simp only [Option.some.injEq, Addr.mk.injEq, and_true] at hg
  obtain ⟨rfl, rfl⟩ := hg
  subst hg'
  rw [Nat.zero_add] at c0 d1 d2 d3
  exact ⟨_, _, _, _, ⟨hbk, hgl, c0, d1, d2, d3, blk_lt hg2, by rw [hownS.cellAt _ (by omega), (lcn_get S K s hK).2.2]⟩, hc, hc2⟩
theorem zero41 (w : World) : (zeroValue 41).run Try.prog w = .ok (ev 0 0 0 0 0) w := by kernel_rfl
theorem load41 {W : World} {b : Nat} {p s a c d : Int} (h : W.heap[b]? = some (.cells #[i64 p, i64 s, i64 a, i64 c, i64 d] 41 (0, 0))) : (loadVar 41 ⟨b, 0, none⟩).run Try.prog W = .ok (ev p s a c d) W := by
  obtain ⟨c0, c1, c2, c3, c4⟩ := five_cells h
  simp [go_sem, c0, c1, c2, c3, c4]
theorem keep4 {V : World} {b b' : Nat} {x : Obj} (h : V.heap[b']? = some x) (hb : b' ≠ b) (o : Op4) : ((((V.setCell ⟨b, 0, none⟩ (i64 o.1)).setCell ⟨b, 1, none⟩ (i64 o.2.1)).setCell ⟨b, 2, none⟩ (i64 o.2.2.1)).setCell ⟨b, 3, none⟩ (i64 o.2.2.2)).heap[b']? = some x := (Below.heap_setCell _ _ _ _ (show b' ≠ b from hb)).trans ((Below.heap_setCell _ _ _ _ (show b' ≠ b from hb)).trans ((Below.heap_setCell _ _ _ _ (show b' ≠ b from hb)).trans ((Below.heap_setCell _ _ _ _ (show b' ≠ b from hb)).trans h)))
set_option maxRecDepth 100000 in
set_option maxHeartbeats 1600000 in
theorem rget_none {w : World} {base r : Nat} {O : List Op4} {S : List Sl3} (p q : Int) (h : Rt w base r O S) (hl : S.length ≤ 900) (hs : S.find? (kp p q) = none) : Calls Try.prog 15 #[pq r, i64 p, i64 q] w fun e w' => e = .returned (.tuple #[ev 0 0 0 0 0, i64 6]) ∧ Below w.heap.size w w' := by
  have hz := zero41
  have hb1 := below_one w (enO 0 0 0 0 0 41)
  have HC := hid (rat_none p q (h.below hb1) (by omega) hs)
  have HB1 := hid hb1
  have HX := hid (heap_last w (enO 0 0 0 0 0 41))
  clear h hs hl hb1
  go_enter Try.func15, Try.ntmps15
  go_wp2_with fail
  refine HC.out.mono ?_
  rintro e w2 ⟨rfl, hb2⟩
  have HX2 : Hid (w2.heap[w.heap.size]? = some (enO 0 0 0 0 0 41)) := blk_below HX.out hb2
  have HB2 : Hid (Below w.heap.size w w2) := HB1.out.trans (hb2.mono HB1.out.size)
  obtain ⟨x0, x1, x2, x3, x4⟩ := five_cells HX2.out
  have xf := blk_frozen HX2.out
  have hxl := blk_lt HX2.out
  clear hb2 HC
  go_wp2_with fail
  exact bodyPost_ret (results_cell Try.results15 rfl rfl (load41 (set5 HX2.out _ _ _ _ _))) rfl ⟨rfl, bel5 HB2.out (Nat.le_refl _) _ _ _ _ _⟩
set_option maxRecDepth 100000 in
set_option maxHeartbeats 3200000 in
theorem rget_some {w : World} {base r : Nat} {O : List Op4} {S : List Sl3} (p q : Int) (s : Sl3) (o : Op4) (h : Rt w base r O S) (hlO : O.length ≤ 900) (hl : S.length ≤ 900) (hs : S.find? (kp p q) = some s) (ho : O.find? (ko s.2.2) = some o) : Calls Try.prog 15 #[pq r, i64 p, i64 q] w fun e w' => e = .returned (.tuple #[ev p q o.2.1 o.2.2.1 o.2.2.2, i64 0]) ∧ Below w.heap.size w w' := by
  have hz := zero41
  obtain ⟨K, k1, k2, k3⟩ := find_at hs
  obtain ⟨J, j1, j2, j3⟩ := find_at ho
  have hb1 := below_one w (enO 0 0 0 0 0 41)
  have HXw := hid (heap_last w (enO 0 0 0 0 0 41))
  have HRw := hid (h.below hb1)
  have HC := hid (rat_some p q K s HRw.out (by omega) k1 k2 k3)
  have HF : Hid (∀ W, Rt W base r O S → Calls Try.prog 38 #[pq r, i64 s.2.2] W fun e w' => e = .returned (i64 J) ∧ Below W.heap.size W w') := fun W hW => rfind_some s.2.2 J o hW (by omega) j1 j2 j3
  have HBw := hid hb1
  have hJN : J < O.length := (List.getElem?_eq_some_iff.1 j1).1
  have hKM : K < S.length := (List.getElem?_eq_some_iff.1 k1).1
  have HG := hid fun W (hW : Rt W base r O S) => gq_of hW j1 k1
  obtain ⟨N, hN⟩ : ∃ N, N = O.length := ⟨_, rfl⟩
  obtain ⟨M, hM⟩ : ∃ M, M = S.length := ⟨_, rfl⟩
  rw [← hN] at hlO hJN HG
  rw [← hM] at hl hKM HG
  have hJI : (J : Int) < N := by omega
  have hJ0 : ¬ ((J : Int) < 0) := by omega
  have hKI : (K : Int) < M := by omega
  have hK0 : ¬ ((K : Int) < 0) := by omega
  clear h hs ho hb1 k1 k2 k3 j1 j2 j3 hN hM
  go_enter Try.func15, Try.ntmps15
  go_wp2_with fail
  refine HC.out.mono ?_
  rintro e w2 ⟨rfl, hb⟩
  have HX2 := hid (blk_below HXw.out hb)
  have HR2 := hid (HRw.out.below hb)
  have HB2 : Hid (Below w.heap.size w w2) := HBw.out.trans (hb.mono HBw.out.size)
  obtain ⟨g1, c1, g2, c2, hG, hc1, hc2⟩ := HG.out w2 HR2.out
  have HG2 := hid hG
  have hxw := blk_lt HX2.out
  clear hb HC hG HG
  go_upto_region 4 with fail
  have HS0 := hid HG2.out.drew
  have HR0 := hid HR2.out.drew
  have HB0 : Hid (Below w.heap.size w w2.drew) := HB2.out.drew
  have HX0 : Hid (w2.drew.heap[w.heap.size]? = some (enO 0 0 0 0 0 41)) := HX2.out
  have hne : w.heap.size ≠ w2.heap.size := by omega
  have hXw : w.heap.size ≤ w2.heap.size := by omega
  refine wp_region_noPanic ?_
  refine wp_region_last (GqR r g1 N c1 J g2 M c2 K s o) 17 (by kernel_rfl) ?_
  refine wpL_take 0 17 (pq r) [] rfl rfl (by kernel_rfl) (by decide) (by kernel_rfl) (by kernel_rfl) (by kernel_rfl) (fun _ _ _ h => h) HS0.out (by rfl) (fun W hW => by have e0 := blk_cell hW.blk 0; have e1 := blk_cell hW.blk 1; simp only [List.getElem?_toArray, List.getElem?_cons_zero, List.getElem?_cons_succ] at e0 e1; have s2 := hW.s2; have o0 := hW.o0; have o1 := hW.o1; have o2 := hW.o2; have o3 := hW.o3; go_simp) ?_
  simp only [Act.put, List.setIfInBounds_toArray, List.set_cons_zero, List.set_cons_succ]
  refine wpL_take 1 18 (pq r) [] rfl rfl (by kernel_rfl) (by decide) (by kernel_rfl) (by kernel_rfl) (by kernel_rfl) (fun _ _ _ h => h) HS0.out (by rfl) (fun W hW => by have e0 := blk_cell hW.blk 0; have e1 := blk_cell hW.blk 1; simp only [List.getElem?_toArray, List.getElem?_cons_zero, List.getElem?_cons_succ] at e0 e1; have s2 := hW.s2; have o0 := hW.o0; have o1 := hW.o1; have o2 := hW.o2; have o3 := hW.o3; go_simp) ?_
  simp only [Act.put, List.setIfInBounds_toArray, List.set_cons_zero, List.set_cons_succ]
  refine wpL_take 2 19 (.pointer (some ⟨r, 0, none⟩)) [] rfl rfl (by kernel_rfl) (by decide) (by kernel_rfl) (by kernel_rfl) (by kernel_rfl) (fun _ _ _ h => h) HS0.out (by rfl) (fun W hW => by have e0 := blk_cell hW.blk 0; have e1 := blk_cell hW.blk 1; simp only [List.getElem?_toArray, List.getElem?_cons_zero, List.getElem?_cons_succ] at e0 e1; have s2 := hW.s2; have o0 := hW.o0; have o1 := hW.o1; have o2 := hW.o2; have o3 := hW.o3; go_simp) ?_
  simp only [Act.put, List.setIfInBounds_toArray, List.set_cons_zero, List.set_cons_succ]
  refine wpL_take 3 20 (.slice (some ⟨g1, 0, none⟩) N c1) [] rfl rfl (by kernel_rfl) (by decide) (by kernel_rfl) (by kernel_rfl) (by kernel_rfl) (fun _ _ _ h => h) HS0.out (by rfl) (fun W hW => by have e0 := blk_cell hW.blk 0; have e1 := blk_cell hW.blk 1; simp only [List.getElem?_toArray, List.getElem?_cons_zero, List.getElem?_cons_succ] at e0 e1; have s2 := hW.s2; have o0 := hW.o0; have o1 := hW.o1; have o2 := hW.o2; have o3 := hW.o3; go_simp) ?_
  simp only [Act.put, List.setIfInBounds_toArray, List.set_cons_zero, List.set_cons_succ]
  refine wpL_take 4 21 (pq r) [] rfl rfl (by kernel_rfl) (by decide) (by kernel_rfl) (by kernel_rfl) (by kernel_rfl) (fun _ _ _ h => h) HS0.out (by rfl) (fun W hW => by have e0 := blk_cell hW.blk 0; have e1 := blk_cell hW.blk 1; simp only [List.getElem?_toArray, List.getElem?_cons_zero, List.getElem?_cons_succ] at e0 e1; have s2 := hW.s2; have o0 := hW.o0; have o1 := hW.o1; have o2 := hW.o2; have o3 := hW.o3; go_simp) ?_
  simp only [Act.put, List.setIfInBounds_toArray, List.set_cons_zero, List.set_cons_succ]
  refine wpL_take 5 22 (pq r) [] rfl rfl (by kernel_rfl) (by decide) (by kernel_rfl) (by kernel_rfl) (by kernel_rfl) (fun _ _ _ h => h) HS0.out (by rfl) (fun W hW => by have e0 := blk_cell hW.blk 0; have e1 := blk_cell hW.blk 1; simp only [List.getElem?_toArray, List.getElem?_cons_zero, List.getElem?_cons_succ] at e0 e1; have s2 := hW.s2; have o0 := hW.o0; have o1 := hW.o1; have o2 := hW.o2; have o3 := hW.o3; go_simp) ?_
  simp only [Act.put, List.setIfInBounds_toArray, List.set_cons_zero, List.set_cons_succ]
  refine wpL_take 6 23 (pq r) [] rfl rfl (by kernel_rfl) (by decide) (by kernel_rfl) (by kernel_rfl) (by kernel_rfl) (fun _ _ _ h => h) HS0.out (by rfl) (fun W hW => by have e0 := blk_cell hW.blk 0; have e1 := blk_cell hW.blk 1; simp only [List.getElem?_toArray, List.getElem?_cons_zero, List.getElem?_cons_succ] at e0 e1; have s2 := hW.s2; have o0 := hW.o0; have o1 := hW.o1; have o2 := hW.o2; have o3 := hW.o3; go_simp) ?_
  simp only [Act.put, List.setIfInBounds_toArray, List.set_cons_zero, List.set_cons_succ]
  refine wpL_take 7 24 (.pointer (some ⟨r, 1, none⟩)) [] rfl rfl (by kernel_rfl) (by decide) (by kernel_rfl) (by kernel_rfl) (by kernel_rfl) (fun _ _ _ h => h) HS0.out (by rfl) (fun W hW => by have e0 := blk_cell hW.blk 0; have e1 := blk_cell hW.blk 1; simp only [List.getElem?_toArray, List.getElem?_cons_zero, List.getElem?_cons_succ] at e0 e1; have s2 := hW.s2; have o0 := hW.o0; have o1 := hW.o1; have o2 := hW.o2; have o3 := hW.o3; go_simp) ?_
  simp only [Act.put, List.setIfInBounds_toArray, List.set_cons_zero, List.set_cons_succ]
  refine wpL_take 8 25 (.slice (some ⟨g2, 0, none⟩) M c2) [] rfl rfl (by kernel_rfl) (by decide) (by kernel_rfl) (by kernel_rfl) (by kernel_rfl) (fun _ _ _ h => h) HS0.out (by rfl) (fun W hW => by have e0 := blk_cell hW.blk 0; have e1 := blk_cell hW.blk 1; simp only [List.getElem?_toArray, List.getElem?_cons_zero, List.getElem?_cons_succ] at e0 e1; have s2 := hW.s2; have o0 := hW.o0; have o1 := hW.o1; have o2 := hW.o2; have o3 := hW.o3; go_simp) ?_
  simp only [Act.put, List.setIfInBounds_toArray, List.set_cons_zero, List.set_cons_succ]
  refine wpL_take 9 26 (i64 K) [] rfl rfl (by kernel_rfl) (by decide) (by kernel_rfl) (by kernel_rfl) (by kernel_rfl) (fun _ _ _ h => h) HS0.out (by rfl) (fun W hW => by have e0 := blk_cell hW.blk 0; have e1 := blk_cell hW.blk 1; simp only [List.getElem?_toArray, List.getElem?_cons_zero, List.getElem?_cons_succ] at e0 e1; have s2 := hW.s2; have o0 := hW.o0; have o1 := hW.o1; have o2 := hW.o2; have o3 := hW.o3; go_simp) ?_
  simp only [Act.put, List.setIfInBounds_toArray, List.set_cons_zero, List.set_cons_succ]
  refine wpL_take 10 27 (.pointer (some ⟨g2, K * 3, none⟩)) [] rfl rfl (by kernel_rfl) (by decide) (by kernel_rfl) (by kernel_rfl) (by kernel_rfl) (fun _ _ _ h => h) HS0.out (by rfl) (fun W hW => by have e0 := blk_cell hW.blk 0; have e1 := blk_cell hW.blk 1; simp only [List.getElem?_toArray, List.getElem?_cons_zero, List.getElem?_cons_succ] at e0 e1; have s2 := hW.s2; have o0 := hW.o0; have o1 := hW.o1; have o2 := hW.o2; have o3 := hW.o3; go_simp) ?_
  simp only [Act.put, List.setIfInBounds_toArray, List.set_cons_zero, List.set_cons_succ]
  refine wpL_take 11 28 (.pointer (some ⟨g2, K * 3 + 2, none⟩)) [] rfl rfl (by kernel_rfl) (by decide) (by kernel_rfl) (by kernel_rfl) (by kernel_rfl) (fun _ _ _ h => h) HS0.out (by rfl) (fun W hW => by have e0 := blk_cell hW.blk 0; have e1 := blk_cell hW.blk 1; simp only [List.getElem?_toArray, List.getElem?_cons_zero, List.getElem?_cons_succ] at e0 e1; have s2 := hW.s2; have o0 := hW.o0; have o1 := hW.o1; have o2 := hW.o2; have o3 := hW.o3; go_simp) ?_
  simp only [Act.put, List.setIfInBounds_toArray, List.set_cons_zero, List.set_cons_succ]
  refine wpL_take 12 29 (i64 s.2.2) [] rfl rfl (by kernel_rfl) (by decide) (by kernel_rfl) (by kernel_rfl) (by kernel_rfl) (fun _ _ _ h => h) HS0.out (by rfl) (fun W hW => by have e0 := blk_cell hW.blk 0; have e1 := blk_cell hW.blk 1; simp only [List.getElem?_toArray, List.getElem?_cons_zero, List.getElem?_cons_succ] at e0 e1; have s2 := hW.s2; have o0 := hW.o0; have o1 := hW.o1; have o2 := hW.o2; have o3 := hW.o3; go_simp) ?_
  simp only [Act.put, List.setIfInBounds_toArray, List.set_cons_zero, List.set_cons_succ]
  refine wpL_two 13 16 rfl rfl (by kernel_rfl) (by rfl) (by rfl) (fun K' hK => ?_) (fun K' hK => ?_)
  · go_simp
    refine (HF.out _ HR0.out).mono ?_
    rintro e w3 ⟨rfl, hb⟩
    have HS1 := hid (HS0.out.below hb)
    have HB1 : Hid (Below w.heap.size w w3) := HB0.out.trans (hb.mono HB0.out.size)
    have HX3 := hid (blk_below HX0.out hb)
    clear hb
    go_simp
    refine hK.out _ _ (fun _ => HS1.out) ?_
    clear hK K'
    refine wpL_take 14 31 (.pointer (some ⟨g1, J * 4, none⟩)) [] rfl rfl (by kernel_rfl) (by decide) (by kernel_rfl) (by kernel_rfl) (by kernel_rfl) (fun _ _ _ h => h) HS1.out (by rfl) (fun W hW => by have e0 := blk_cell hW.blk 0; have e1 := blk_cell hW.blk 1; simp only [List.getElem?_toArray, List.getElem?_cons_zero, List.getElem?_cons_succ] at e0 e1; have s2 := hW.s2; have o0 := hW.o0; have o1 := hW.o1; have o2 := hW.o2; have o3 := hW.o3; go_simp) ?_
    simp only [Act.put, List.setIfInBounds_toArray, List.set_cons_zero, List.set_cons_succ]
    refine wpL_take 15 32 (ov o) [] rfl rfl (by kernel_rfl) (by decide) (by kernel_rfl) (by kernel_rfl) (by kernel_rfl) (fun _ _ _ h => h) HS1.out (by rfl) (fun W hW => by have e0 := blk_cell hW.blk 0; have e1 := blk_cell hW.blk 1; simp only [List.getElem?_toArray, List.getElem?_cons_zero, List.getElem?_cons_succ] at e0 e1; have s2 := hW.s2; have o0 := hW.o0; have o1 := hW.o1; have o2 := hW.o2; have o3 := hW.o3; go_simp) ?_
    simp only [Act.put, List.setIfInBounds_toArray, List.set_cons_zero, List.set_cons_succ]
    have HSa := hid (HS1.out.below (below_one w3 (oO (0, 0, 0, 0) 55)))
    have HXn := hid (heap_last w3 (oO o 55))
    have HBn : Hid (Below w.heap.size w (w3.alloc (oO o 55))) := HB1.out.alloc HB1.out.size _
    obtain ⟨x0, x1, x2, x3, x4⟩ := five_cells HX3.out
    have xf := blk_frozen HX3.out
    have hxl := blk_lt HX3.out
    refine wpL_one 16 rfl (by kernel_rfl) (by rfl) (fun K' hK => ?_)
    go_simp
    refine hK.out _ _ (fun _ => HSa.out) ?_
    clear hK K'
    refine wpL_one 17 rfl (by kernel_rfl) (by rfl) (fun K' hK => ?_)
    go_simp
    refine hK.out _ _ (fun h => absurd rfl h) ?_
    clear hK K'
    refine wpL_done (by kernel_rfl) ?_
    refine NoPanic.normal ?_
    obtain ⟨y0, y1, y2, y3⟩ := four_cells HXn.out
    clear HF
    go_wp2_with fail
    exact bodyPost_ret (results_cell Try.results15 rfl rfl (load41 (blk_alloc (set5 HX3.out _ _ _ _ _) _))) rfl ⟨rfl, (bel5 HB1.out (Nat.le_refl _) _ _ _ _ _).alloc (by simpa using HB1.out.size) _⟩
  · go_simp
    have HSa := hid (HS0.out.below (below_one _ (oO (0, 0, 0, 0) 55)))
    have HBa : Hid (Below w.heap.size w (w2.drew.alloc (oO (0, 0, 0, 0) 55))) := HB0.out.alloc HB0.out.size _
    have HZ0 : Hid ((w2.drew.alloc (oO (0, 0, 0, 0) 55)).heap[w2.heap.size]? = some (oO (0, 0, 0, 0) 55)) := heap_last w2.drew (oO (0, 0, 0, 0) 55)
    have HXa := hid (blk_alloc HX0.out (oO (0, 0, 0, 0) 55))
    have HRa := hid (HR0.out.below (below_one _ (oO (0, 0, 0, 0) 55)))
    refine hK.out _ _ (fun _ => HSa.out) ?_
    clear hK K'
    refine wpL_one 13 rfl (by kernel_rfl) (by rfl) (fun K' hK => ?_)
    go_simp
    refine (HF.out _ HRa.out).mono ?_
    rintro e w3 ⟨rfl, hb⟩
    have HS1 := hid (HSa.out.below hb)
    have HB1 : Hid (Below w.heap.size w w3) := HBa.out.trans (hb.mono HBa.out.size)
    have HZ := hid (blk_below HZ0.out hb)
    have HX3 := hid (blk_below HXa.out hb)
    clear hb
    go_simp
    refine hK.out _ _ (fun _ => HS1.out) ?_
    clear hK K'
    refine wpL_take 14 31 (.pointer (some ⟨g1, J * 4, none⟩)) [] rfl rfl (by kernel_rfl) (by decide) (by kernel_rfl) (by kernel_rfl) (by kernel_rfl) (fun _ _ _ h => h) HS1.out (by rfl) (fun W hW => by have e0 := blk_cell hW.blk 0; have e1 := blk_cell hW.blk 1; simp only [List.getElem?_toArray, List.getElem?_cons_zero, List.getElem?_cons_succ] at e0 e1; have s2 := hW.s2; have o0 := hW.o0; have o1 := hW.o1; have o2 := hW.o2; have o3 := hW.o3; go_simp) ?_
    simp only [Act.put, List.setIfInBounds_toArray, List.set_cons_zero, List.set_cons_succ]
    refine wpL_take 15 32 (ov o) [] rfl rfl (by kernel_rfl) (by decide) (by kernel_rfl) (by kernel_rfl) (by kernel_rfl) (fun _ _ _ h => h) HS1.out (by rfl) (fun W hW => by have e0 := blk_cell hW.blk 0; have e1 := blk_cell hW.blk 1; simp only [List.getElem?_toArray, List.getElem?_cons_zero, List.getElem?_cons_succ] at e0 e1; have s2 := hW.s2; have o0 := hW.o0; have o1 := hW.o1; have o2 := hW.o2; have o3 := hW.o3; go_simp) ?_
    simp only [Act.put, List.setIfInBounds_toArray, List.set_cons_zero, List.set_cons_succ]
    obtain ⟨z0, z1, z2, z3⟩ := four_cells HZ.out
    have zf := blk_frozen HZ.out
    have HXn := hid (set4c HZ.out o)
    have HX4 := hid (keep4 (b := w2.heap.size) HX3.out hne o)
    have HBn : Hid (Below w.heap.size w _) := bel4 HB1.out hXw o
    refine wpL_one 17 rfl (by kernel_rfl) (by rfl) (fun K' hK => ?_)
    go_simp
    refine hK.out _ _ (fun h => absurd rfl h) ?_
    clear hK K'
    refine wpL_done (by kernel_rfl) ?_
    refine NoPanic.normal ?_
    obtain ⟨y0, y1, y2, y3⟩ := four_cells HXn.out
    clear HF
    obtain ⟨x0, x1, x2, x3, x4⟩ := five_cells HX4.out
    have xf := blk_frozen HX4.out
    have hxl := blk_lt HX4.out
    go_wp2_with fail
    exact bodyPost_ret (results_cell Try.results15 rfl rfl (load41 (set5 HX4.out _ _ _ _ _))) rfl ⟨rfl, bel5 HBn.out (Nat.le_refl _) _ _ _ _ _⟩
end Go.Proofs.Ytaapiffglfppnaa
