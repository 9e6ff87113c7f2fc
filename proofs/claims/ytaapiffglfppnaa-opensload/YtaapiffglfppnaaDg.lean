/- The document's Refs; no statement is proved in this text. -/
import Derived.Test.YtaapiffglfppnaaDf
namespace Go.Proofs.Ytaapiffglfppnaa
open Go.ChangeShapes Go.WideShapes Go.ChangeAt Go.RowKit Go.Deep
attribute [local go_sem ↓] Go.wp_at_zero Go.wp_at_succ

/-- What a walk over a slot's object reads. -/
structure RfR (r g1 N c1 J X : Nat) (t2 : Value) (s : Sl3) (o : Op4) (W : World) : Prop where
  blk : W.heap[r]? = some (.cells #[.slice (some ⟨g1, 0, none⟩) N c1, t2] 30)
  l1 : g1 < W.heap.size
  o0 : W.cell? ⟨g1, J * 4, none⟩ = some (i64 o.1)
  o1 : W.cell? ⟨g1, J * 4 + 1, none⟩ = some (i64 o.2.1)
  o2 : W.cell? ⟨g1, J * 4 + 2, none⟩ = some (i64 o.2.2.1)
  o3 : W.cell? ⟨g1, J * 4 + 3, none⟩ = some (i64 o.2.2.2)
  x : W.heap[X]? = some (lO s 57)
theorem RfR.below {r g1 N c1 J X : Nat} {t2 : Value} {s : Sl3} {o : Op4} {W W' : World} (h : RfR r g1 N c1 J X t2 s o W) (hb : Below W.heap.size W W') : RfR r g1 N c1 J X t2 s o W' := by
  have hk := hb.block g1 h.l1
  refine ⟨blk_below h.blk hb, Nat.lt_of_lt_of_le h.l1 hb.size, ?_, ?_, ?_, ?_, blk_below h.x hb⟩
  · rw [World.cell?_of_block (w := W) hk]; exact h.o0
  · rw [World.cell?_of_block (w := W) hk]; exact h.o1
  · rw [World.cell?_of_block (w := W) hk]; exact h.o2
  · rw [World.cell?_of_block (w := W) hk]; exact h.o3
theorem RfR.drew {r g1 N c1 J X : Nat} {t2 : Value} {s : Sl3} {o : Op4} {W : World} (h : RfR r g1 N c1 J X t2 s o W) : RfR r g1 N c1 J X t2 s o W.drew := ⟨h.blk, h.l1, h.o0, h.o1, h.o2, h.o3, h.x⟩
theorem rfr_of {W : World} {base r J X : Nat} {O : List Op4} {S : List Sl3} {s : Sl3} {o : Op4} (h : Rt W base r O S) (hJ : O[J]? = some o) (hX : W.heap[X]? = some (lO s 57)) : ∃ g1 c1 t2, RfR r g1 O.length c1 J X t2 s o W ∧ O.length ≤ c1 := by
  obtain ⟨hlo, ao, c1, a2, c2, hbk, hown, _⟩ := h
  have hi : J < O.length := (List.getElem?_eq_some_iff.1 hJ).1
  have hc := own_capK hown
  obtain ⟨g, o', hg, hgl, c0, d1, d2, d3⟩ := Rd4.own hown J o hJ
  obtain ⟨g', hg', _⟩ := own_zeroK hown (by omega)
  rw [hg'] at hg
  simp only [Option.some.injEq, Addr.mk.injEq, and_true] at hg
  obtain ⟨rfl, rfl⟩ := hg
  subst hg'
  rw [Nat.zero_add] at c0 d1 d2 d3
  exact ⟨_, _, _, ⟨hbk, hgl, c0, d1, d2, d3, hX⟩, hc⟩
/-- Whether a slot names such an object. -/
def refB (O : List Op4) (kd ob : Int) (s : Sl3) : Bool := match O.find? (ko s.2.2) with
  | some o => o.2.1 == kd && o.2.2.1 == ob
  | none => false
def Named (O : List Op4) (S : List Sl3) : Prop := ∀ s ∈ S, ∃ o, O.find? (ko s.2.2) = some o
theorem set4c {V : World} {b : Nat} {x y z u : Value} {t : TypeId} (h : V.heap[b]? = some (.cells #[x, y, z, u] t)) (o : Op4) : ((((V.setCell ⟨b, 0, none⟩ (i64 o.1)).setCell ⟨b, 1, none⟩ (i64 o.2.1)).setCell ⟨b, 2, none⟩ (i64 o.2.2.1)).setCell ⟨b, 3, none⟩ (i64 o.2.2.2)).heap[b]? = some (oO o t) := set4 h _ _ _ _
theorem bel4 {w V : World} {B b : Nat} (h : Below B w V) (hb : B ≤ b) (o : Op4) : Below B w ((((V.setCell ⟨b, 0, none⟩ (i64 o.1)).setCell ⟨b, 1, none⟩ (i64 o.2.1)).setCell ⟨b, 2, none⟩ (i64 o.2.2.1)).setCell ⟨b, 3, none⟩ (i64 o.2.2.2)) := (((h.setCell hb _).setCell hb _).setCell hb _).setCell hb _
set_option maxRecDepth 100000 in
set_option maxHeartbeats 3200000 in
theorem rrefs_ok {w : World} {base r : Nat} {O : List Op4} {S : List Sl3} (kd ob : Int) (h : Rt w base r O S) (hlO : O.length ≤ 900) (hl : S.length ≤ 900) (hn : Named O S) : Calls Try.prog 13 #[pq r, i64 kd, i64 ob] w fun e w' => e = .returned (i64 ((S.filter (refB O kd ob)).length : Int)) ∧ Below w.heap.size w w' := by
  have HR := hid h
  have HNm := hid hn
  have HLO := hid hlO
  obtain ⟨hlo, a1, cc1, ao, cap, hbk, _, hown⟩ := h
  have hcap := own_capK hown
  have HRd : Hid (Rd3 w ao S) := Rd3.own hown
  have d0 : w.cell? ⟨r, 1, none⟩ = some (.slice ao S.length cap) := blk_cell hbk 1
  have hrl := blk_lt hbk
  obtain ⟨M, hM⟩ : ∃ M, M = S.length := ⟨_, rfl⟩
  have HM := hid hM
  rw [← hM] at d0 hl hcap
  clear hbk hown hM hn hlO
  go_enter Try.func13, Try.ntmps13
  go_wp2_with fail
  go_loopw [7, 16] (fun v u wr => ∃ (k c : Nat), k ≤ M ∧ c ≤ k ∧ u = i64 k ∧ v = i64 c ∧ Hid (c = ((S.take k).filter (refB O kd ob)).length) ∧ Hid (Below w.heap.size w wr)) (fun _ u _ => M - (intOf u).toNat)
  case atStart => exact ⟨0, 0, by omega, by omega, rfl, rfl, rfl, Below.refl _ _⟩
  case round =>
    obtain ⟨k, c, hk, hc, rfl, rfl, HO, HB⟩ := hrel
    by_cases hlt : k < M
    · have hkI : (k : Int) < M := by omega
      obtain ⟨s, hs⟩ : ∃ s, S[k]? = some s := ⟨_, List.getElem?_eq_getElem (by rw [← HM.out]; exact hlt)⟩
      obtain ⟨o, ho⟩ := HNm.out s (List.mem_of_getElem? hs)
      obtain ⟨J, j1, j2, j3⟩ := find_at ho
      have HC : Hid (∀ W, Rt W base r O S → Calls Try.prog 38 #[pq r, i64 s.2.2] W fun e w' => e = .returned (i64 J) ∧ Below W.heap.size W w') := fun W hW => rfind_some s.2.2 J o hW (by have := HLO.out; omega) j1 j2 j3
      obtain ⟨g, q, rfl, hgl, p0, p1, p2⟩ := HRd.out.below HB.out k s hs
      have HSk := hid hs
      have HFo := hid ho
      have HBV : Hid (Below w.heap.size w (wr.alloc (lO s 57))) := HB.out.alloc HB.out.size _
      have HX := hid (heap_last wr (lO s 57))
      have HRV := hid (HR.out.below HBV.out)
      obtain ⟨g1, c1, t2, hS0, hc1⟩ := rfr_of HRV.out j1 HX.out
      have HS00 := hid hS0
      have hJN : J < O.length := (List.getElem?_eq_some_iff.1 j1).1
      have hlO := HLO.out
      obtain ⟨N, hN⟩ : ∃ N, N = O.length := ⟨_, rfl⟩
      rw [← hN] at hlO hJN hc1 HS00
      have hJI : (J : Int) < N := by omega
      have hJ0 : ¬ ((J : Int) < 0) := by omega
      clear hs ho j1 j2 j3 hN hS0
      go_upto_region 5 with fail
      have HS0 := hid HS00.out.drew
      have HR0 := hid HRV.out.drew
      have HB0 : Hid (Below w.heap.size w (wr.alloc (lO s 57)).drew) := HBV.out.drew
      obtain ⟨X, hX⟩ : ∃ X, X = wr.heap.size := ⟨_, rfl⟩
      rw [← hX] at HS0 HS00 ⊢
      clear hX
      refine wp_region_noPanic ?_
      refine wp_region_last (RfR r g1 N c1 J X t2 s o) 11 (by kernel_rfl) ?_
      refine wpL_take 0 20 (pq r) [] rfl rfl (by kernel_rfl) (by decide) (by kernel_rfl) (by kernel_rfl) (by kernel_rfl) (fun _ _ _ h => h) HS0.out (by rfl) (fun W hW => by have e0 := blk_cell hW.blk 0; simp only [List.getElem?_toArray, List.getElem?_cons_zero] at e0; obtain ⟨x0, x1, x2⟩ := three_cells hW.x; have o0 := hW.o0; have o1 := hW.o1; have o2 := hW.o2; have o3 := hW.o3; go_simp) ?_
      simp only [Act.put, List.setIfInBounds_toArray, List.set_cons_zero, List.set_cons_succ]
      refine wpL_take 1 21 (pq r) [] rfl rfl (by kernel_rfl) (by decide) (by kernel_rfl) (by kernel_rfl) (by kernel_rfl) (fun _ _ _ h => h) HS0.out (by rfl) (fun W hW => by have e0 := blk_cell hW.blk 0; simp only [List.getElem?_toArray, List.getElem?_cons_zero] at e0; obtain ⟨x0, x1, x2⟩ := three_cells hW.x; have o0 := hW.o0; have o1 := hW.o1; have o2 := hW.o2; have o3 := hW.o3; go_simp) ?_
      simp only [Act.put, List.setIfInBounds_toArray, List.set_cons_zero, List.set_cons_succ]
      refine wpL_take 2 22 (.pointer (some ⟨r, 0, none⟩)) [] rfl rfl (by kernel_rfl) (by decide) (by kernel_rfl) (by kernel_rfl) (by kernel_rfl) (fun _ _ _ h => h) HS0.out (by rfl) (fun W hW => by have e0 := blk_cell hW.blk 0; simp only [List.getElem?_toArray, List.getElem?_cons_zero] at e0; obtain ⟨x0, x1, x2⟩ := three_cells hW.x; have o0 := hW.o0; have o1 := hW.o1; have o2 := hW.o2; have o3 := hW.o3; go_simp) ?_
      simp only [Act.put, List.setIfInBounds_toArray, List.set_cons_zero, List.set_cons_succ]
      refine wpL_take 3 23 (.slice (some ⟨g1, 0, none⟩) N c1) [] rfl rfl (by kernel_rfl) (by decide) (by kernel_rfl) (by kernel_rfl) (by kernel_rfl) (fun _ _ _ h => h) HS0.out (by rfl) (fun W hW => by have e0 := blk_cell hW.blk 0; simp only [List.getElem?_toArray, List.getElem?_cons_zero] at e0; obtain ⟨x0, x1, x2⟩ := three_cells hW.x; have o0 := hW.o0; have o1 := hW.o1; have o2 := hW.o2; have o3 := hW.o3; go_simp) ?_
      simp only [Act.put, List.setIfInBounds_toArray, List.set_cons_zero, List.set_cons_succ]
      refine wpL_take 4 24 (pq r) [] rfl rfl (by kernel_rfl) (by decide) (by kernel_rfl) (by kernel_rfl) (by kernel_rfl) (fun _ _ _ h => h) HS0.out (by rfl) (fun W hW => by have e0 := blk_cell hW.blk 0; simp only [List.getElem?_toArray, List.getElem?_cons_zero] at e0; obtain ⟨x0, x1, x2⟩ := three_cells hW.x; have o0 := hW.o0; have o1 := hW.o1; have o2 := hW.o2; have o3 := hW.o3; go_simp) ?_
      simp only [Act.put, List.setIfInBounds_toArray, List.set_cons_zero, List.set_cons_succ]
      refine wpL_take 5 25 (.pointer (some ⟨X, 2, none⟩)) [] rfl rfl (by kernel_rfl) (by decide) (by kernel_rfl) (by kernel_rfl) (by kernel_rfl) (fun _ _ _ h => h) HS0.out (by rfl) (fun W hW => by have e0 := blk_cell hW.blk 0; simp only [List.getElem?_toArray, List.getElem?_cons_zero] at e0; obtain ⟨x0, x1, x2⟩ := three_cells hW.x; have o0 := hW.o0; have o1 := hW.o1; have o2 := hW.o2; have o3 := hW.o3; go_simp) ?_
      simp only [Act.put, List.setIfInBounds_toArray, List.set_cons_zero, List.set_cons_succ]
      refine wpL_take 6 26 (i64 s.2.2) [] rfl rfl (by kernel_rfl) (by decide) (by kernel_rfl) (by kernel_rfl) (by kernel_rfl) (fun _ _ _ h => h) HS0.out (by rfl) (fun W hW => by have e0 := blk_cell hW.blk 0; simp only [List.getElem?_toArray, List.getElem?_cons_zero] at e0; obtain ⟨x0, x1, x2⟩ := three_cells hW.x; have o0 := hW.o0; have o1 := hW.o1; have o2 := hW.o2; have o3 := hW.o3; go_simp) ?_
      simp only [Act.put, List.setIfInBounds_toArray, List.set_cons_zero, List.set_cons_succ]
      refine wpL_two 7 10 rfl rfl (by kernel_rfl) (by rfl) (by rfl) (fun K hK => ?_) (fun K hK => ?_)
      · go_simp
        refine (HC.out _ HR0.out).mono ?_
        rintro e w2 ⟨rfl, hb⟩
        have HS1 := hid (HS0.out.below hb)
        have HB1 : Hid (Below w.heap.size w w2) := HB0.out.trans (hb.mono HB0.out.size)
        clear hb
        go_simp
        refine hK.out _ _ (fun _ => HS1.out) ?_
        clear hK K
        refine wpL_take 8 28 (.pointer (some ⟨g1, J * 4, none⟩)) [] rfl rfl (by kernel_rfl) (by decide) (by kernel_rfl) (by kernel_rfl) (by kernel_rfl) (fun _ _ _ h => h) HS1.out (by rfl) (fun W hW => by have e0 := blk_cell hW.blk 0; simp only [List.getElem?_toArray, List.getElem?_cons_zero] at e0; obtain ⟨x0, x1, x2⟩ := three_cells hW.x; have o0 := hW.o0; have o1 := hW.o1; have o2 := hW.o2; have o3 := hW.o3; go_simp) ?_
        simp only [Act.put, List.setIfInBounds_toArray, List.set_cons_zero, List.set_cons_succ]
        refine wpL_take 9 29 (ov o) [] rfl rfl (by kernel_rfl) (by decide) (by kernel_rfl) (by kernel_rfl) (by kernel_rfl) (fun _ _ _ h => h) HS1.out (by rfl) (fun W hW => by have e0 := blk_cell hW.blk 0; simp only [List.getElem?_toArray, List.getElem?_cons_zero] at e0; obtain ⟨x0, x1, x2⟩ := three_cells hW.x; have o0 := hW.o0; have o1 := hW.o1; have o2 := hW.o2; have o3 := hW.o3; go_simp) ?_
        simp only [Act.put, List.setIfInBounds_toArray, List.set_cons_zero, List.set_cons_succ]
        have HSa := hid (HS1.out.below (below_one w2 (oO (0, 0, 0, 0) 55)))
        have HXn := hid (heap_last w2 (oO o 55))
        have HBn : Hid (Below w.heap.size w (w2.alloc (oO o 55))) := HB1.out.alloc HB1.out.size _
        refine wpL_one 10 rfl (by kernel_rfl) (by rfl) (fun K hK => ?_)
        go_simp
        refine hK.out _ _ (fun _ => HSa.out) ?_
        clear hK K
        refine wpL_one 11 rfl (by kernel_rfl) (by rfl) (fun K hK => ?_)
        go_simp
        refine hK.out _ _ (fun h => absurd rfl h) ?_
        clear hK K
        refine wpL_done (by kernel_rfl) ?_
        refine NoPanic.normal ?_
        obtain ⟨y0, y1, y2, y3⟩ := four_cells HXn.out
        clear HC
        cases q2 : (o.2.1 == kd)
        · have HE : Hid (c = ((S.take (k + 1)).filter (refB O kd ob)).length) := by
            rw [flt_no HSk.out (by unfold refB; rw [HFo.out]; show (o.2.1 == kd && _) = false; rw [q2]; rfl)]
            exact HO.out
          go_wp2_with fail
          exact ⟨⟨k + 1, c, by omega, by omega, by go_num, rfl, HE, HBn⟩, by simp [intOf]; omega⟩
        · cases q3 : (o.2.2.1 == ob)
          · have HE : Hid (c = ((S.take (k + 1)).filter (refB O kd ob)).length) := by
              rw [flt_no HSk.out (by unfold refB; rw [HFo.out]; show (o.2.1 == kd && o.2.2.1 == ob) = false; rw [q2, q3]; rfl)]
              exact HO.out
            go_wp2_with fail
            exact ⟨⟨k + 1, c, by omega, by omega, by go_num, rfl, HE, HBn⟩, by simp [intOf]; omega⟩
          · have HE : Hid (c + 1 = ((S.take (k + 1)).filter (refB O kd ob)).length) := by
              rw [flt_yes HSk.out (by unfold refB; rw [HFo.out]; show (o.2.1 == kd && o.2.2.1 == ob) = true; rw [q2, q3]; rfl), List.length_append, ← HO.out]
              rfl
            go_wp2_with fail
            exact ⟨⟨k + 1, c + 1, by omega, by omega, by go_num, by go_num, HE, HBn⟩, by simp [intOf]; omega⟩
      · go_simp
        have HSa := hid (HS0.out.below (below_one _ (oO (0, 0, 0, 0) 55)))
        have HBa : Hid (Below w.heap.size w ((wr.alloc (lO s 57)).drew.alloc (oO (0, 0, 0, 0) 55))) := HB0.out.alloc HB0.out.size _
        have e1 : (wr.alloc (lO s 57)).drew.heap.size = wr.heap.size + 1 := by
          show (wr.alloc (lO s 57)).heap.size = _
          simp
        have HZ0 : Hid (((wr.alloc (lO s 57)).drew.alloc (oO (0, 0, 0, 0) 55)).heap[wr.heap.size + 1]? = some (oO (0, 0, 0, 0) 55)) := by
          have h1 := heap_last (wr.alloc (lO s 57)).drew (oO (0, 0, 0, 0) 55)
          rw [e1] at h1
          exact h1
        have hXw : w.heap.size ≤ wr.heap.size + 1 := by have := HB.out.size; omega
        clear e1
        have HRa := hid (HR0.out.below (below_one _ (oO (0, 0, 0, 0) 55)))
        refine hK.out _ _ (fun _ => HSa.out) ?_
        clear hK K
        refine wpL_one 7 rfl (by kernel_rfl) (by rfl) (fun K hK => ?_)
        go_simp
        refine (HC.out _ HRa.out).mono ?_
        rintro e w2 ⟨rfl, hb⟩
        have HS1 := hid (HSa.out.below hb)
        have HB1 : Hid (Below w.heap.size w w2) := HBa.out.trans (hb.mono HBa.out.size)
        have HZ := hid (blk_below HZ0.out hb)
        clear hb
        go_simp
        refine hK.out _ _ (fun _ => HS1.out) ?_
        clear hK K
        refine wpL_take 8 28 (.pointer (some ⟨g1, J * 4, none⟩)) [] rfl rfl (by kernel_rfl) (by decide) (by kernel_rfl) (by kernel_rfl) (by kernel_rfl) (fun _ _ _ h => h) HS1.out (by rfl) (fun W hW => by have e0 := blk_cell hW.blk 0; simp only [List.getElem?_toArray, List.getElem?_cons_zero] at e0; obtain ⟨x0, x1, x2⟩ := three_cells hW.x; have o0 := hW.o0; have o1 := hW.o1; have o2 := hW.o2; have o3 := hW.o3; go_simp) ?_
        simp only [Act.put, List.setIfInBounds_toArray, List.set_cons_zero, List.set_cons_succ]
        refine wpL_take 9 29 (ov o) [] rfl rfl (by kernel_rfl) (by decide) (by kernel_rfl) (by kernel_rfl) (by kernel_rfl) (fun _ _ _ h => h) HS1.out (by rfl) (fun W hW => by have e0 := blk_cell hW.blk 0; simp only [List.getElem?_toArray, List.getElem?_cons_zero] at e0; obtain ⟨x0, x1, x2⟩ := three_cells hW.x; have o0 := hW.o0; have o1 := hW.o1; have o2 := hW.o2; have o3 := hW.o3; go_simp) ?_
        simp only [Act.put, List.setIfInBounds_toArray, List.set_cons_zero, List.set_cons_succ]
        obtain ⟨z0, z1, z2, z3⟩ := four_cells HZ.out
        have zf := blk_frozen HZ.out
        have HXn := hid (set4c HZ.out o)
        have HBn : Hid (Below w.heap.size w _) := bel4 HB1.out hXw o
        refine wpL_one 11 rfl (by kernel_rfl) (by rfl) (fun K hK => ?_)
        go_simp
        refine hK.out _ _ (fun h => absurd rfl h) ?_
        clear hK K
        refine wpL_done (by kernel_rfl) ?_
        refine NoPanic.normal ?_
        obtain ⟨y0, y1, y2, y3⟩ := four_cells HXn.out
        clear HC
        cases q2 : (o.2.1 == kd)
        · have HE : Hid (c = ((S.take (k + 1)).filter (refB O kd ob)).length) := by
            rw [flt_no HSk.out (by unfold refB; rw [HFo.out]; show (o.2.1 == kd && _) = false; rw [q2]; rfl)]
            exact HO.out
          go_wp2_with fail
          exact ⟨⟨k + 1, c, by omega, by omega, by go_num, rfl, HE, HBn⟩, by simp [intOf]; omega⟩
        · cases q3 : (o.2.2.1 == ob)
          · have HE : Hid (c = ((S.take (k + 1)).filter (refB O kd ob)).length) := by
              rw [flt_no HSk.out (by unfold refB; rw [HFo.out]; show (o.2.1 == kd && o.2.2.1 == ob) = false; rw [q2, q3]; rfl)]
              exact HO.out
            go_wp2_with fail
            exact ⟨⟨k + 1, c, by omega, by omega, by go_num, rfl, HE, HBn⟩, by simp [intOf]; omega⟩
          · have HE : Hid (c + 1 = ((S.take (k + 1)).filter (refB O kd ob)).length) := by
              rw [flt_yes HSk.out (by unfold refB; rw [HFo.out]; show (o.2.1 == kd && o.2.2.1 == ob) = true; rw [q2, q3]; rfl), List.length_append, ← HO.out]
              rfl
            go_wp2_with fail
            exact ⟨⟨k + 1, c + 1, by omega, by omega, by go_num, by go_num, HE, HBn⟩, by simp [intOf]; omega⟩
    · have HE : Hid (c = (S.filter (refB O kd ob)).length) := by
        have h1 := HO.out
        rw [List.take_of_length_le (by rw [← HM.out]; omega)] at h1
        exact h1
      go_wp2_with fail
      go_ret
      exact ⟨congrArg (fun n : Nat => Ending.returned (i64 (n : Int))) HE.out, HB.out⟩
end Go.Proofs.Ytaapiffglfppnaa
