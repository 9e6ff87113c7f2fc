/- The document's wrong, Waits, Read, Write; no statement is proved in this text. -/
import Derived.Test.YtojhmiggocommaaDc
namespace Go.Proofs.Ytojhmiggocommaa
open Go.ChangeShapes Go.WideShapes Go.ChangeAt Go.RowKit Go.Deep
attribute [local go_sem ↓] Go.wp_at_zero Go.wp_at_succ

theorem own_setg {w : World} {base : Nat} {e : TypeId} {size n m cap g : Nat} {xs : List Value} (h : w.ownsRow base e size (.slice (some ⟨g, 0, none⟩) n cap) m xs) {i : Nat} (v : Value) : (w.setCell ⟨g, i, none⟩ v).ownsRow base e size (.slice (some ⟨g, 0, none⟩) n cap) m (xs.set i v) := by
  obtain ⟨hl, h3⟩ := h
  rcases h3 with ⟨hn, _⟩ | ⟨g', cap', cur, he, hbg, hgg, hc1, hc2, hc3, htk⟩
  · simp at hn
  · simp only [Value.slice.injEq, Option.some.injEq, Addr.mk.injEq] at he
    obtain ⟨⟨rfl, _⟩, hnm, rfl⟩ := he
    refine ⟨by rw [List.length_set]; exact hl, .inr ⟨g, cap, _, by rw [hnm], hbg, heap_setCell_same w g _ _ e _ hgg, hc1, hc2, by simpa using hc3, ?_⟩⟩
    rw [← htk, Array.toList_setIfInBounds, List.take_set]
theorem icn_set (L : List In) (k : Nat) (i : Int) (D E : List UInt8) (h : L[k]? = some (i, D)) : (icn L).set (k * 2 + 1) (str E) = icn (L.set k (i, E)) := by
  induction L generalizing k with
  | nil => simp at h
  | cons x l ih =>
    cases k with
    | zero => simp at h; subst h; rfl
    | succ k =>
      have := ih k (by simpa using h)
      rw [show (k + 1) * 2 + 1 = (k * 2 + 1) + 2 by omega]
      show x.1 |> fun _ => (i64 x.1 :: str x.2 :: icn l).set (k * 2 + 1 + 2) (str E) = i64 x.1 :: str x.2 :: icn (l.set k (i, E))
      rw [← this]
      rfl
/-- A pipe of the document's, at a place. -/
structure RA (w : World) (r g cap N k : Nat) (D : List UInt8) : Prop where
  rl : r < w.heap.size
  gl : g < w.heap.size
  c : w.cell? ⟨r, 0, none⟩ = some (.slice (some ⟨g, 0, none⟩) N cap)
  d : w.cell? ⟨g, k * 2 + 1, none⟩ = some (str D)
  f : w.frozen? ⟨g, k * 2 + 1, none⟩ = false
  kn : k < N
  n12 : N ≤ 12
theorem RA.below {w w' : World} {r g cap N k : Nat} {D : List UInt8} (h : RA w r g cap N k D) (hb : Below w.heap.size w w') : RA w' r g cap N k D :=
  ⟨Nat.lt_of_lt_of_le h.rl hb.size, Nat.lt_of_lt_of_le h.gl hb.size, by rw [hb.cell (by exact h.rl)]; exact h.c, by rw [hb.cell (by exact h.gl)]; exact h.d, by rw [hb.frozen (by exact h.gl)]; exact h.f, h.kn, h.n12⟩
theorem RA.drew {w : World} {r g cap N k : Nat} {D : List UInt8} (h : RA w r g cap N k D) : RA w.drew r g cap N k D := ⟨h.rl, h.gl, h.c, h.d, h.f, h.kn, h.n12⟩
/-- .. and what it is when its bytes are set. -/
theorem Rb.at {w : World} {base r : Nat} {S : St} (h : Rb w base r (lst S)) {i : Nat} {D : List UInt8} (hi : i < 3) (hS : S i = some D) : ∃ g cap N k : Nat, posF (lst S) i 0 = k ∧ RA w r g cap N k D ∧ ∀ w1, Below w.heap.size w w1 → ∀ E, Rb (w1.setCell ⟨g, k * 2 + 1, none⟩ (str E)) base r (lst (upd S i (some E))) ∧ Fr base [30, 47] w (w1.setCell ⟨g, k * 2 + 1, none⟩ (str E)) := by
  obtain ⟨k, hpos, hget, hset⟩ := pos_some S i D hi hS
  obtain ⟨ao, cap, hbk, hown, hcap, hrow⟩ := h.row
  obtain ⟨g, rfl, hbg, hgl, hne, c0, c1, hf⟩ := hrow k _ hget
  have hk : k < (lst S).length := (List.getElem?_eq_some_iff.1 hget).1
  have h3 := lst_len S
  refine ⟨g, cap, (lst S).length, k, hpos, ⟨h.lt, hgl, blk_cell hbk 0, c1, hf _, hk, by omega⟩, fun w1 hb E => ?_⟩
  have hbk1 := blk_below hbk hb
  have hown1 : w1.ownsRow base 47 2 (.slice (some ⟨g, 0, none⟩) (lst S).length cap) (lst S).length (icn (lst S)) := own_keep hown (fun k C hC => blk_below hC hb)
  obtain ⟨cur, hcur⟩ : ∃ cur, w1.heap[g]? = some (.cells cur 47) := by
    rcases hown1.2 with ⟨hn, _⟩ | ⟨g', cap', cur, he, _, hgg, _⟩
    · simp at hn
    · simp only [Value.slice.injEq, Option.some.injEq, Addr.mk.injEq] at he
      obtain ⟨⟨rfl, _⟩, _⟩ := he
      exact ⟨cur, hgg⟩
  refine ⟨⟨h.lo, .slice (some ⟨g, 0, none⟩) (lst S).length cap, ?_, ?_⟩, (Fr.of_below _ hb h.los).trans (Fr.of_touch ((Touch.refl g w1).setCell rfl _) hcur rfl hbg)⟩
  · rw [Below.heap_setCell _ _ _ _ (Ne.symm hne)]
    exact hbk1
  · rw [hset E, List.length_set, ← icn_set _ _ _ D E hget]
    exact own_setg hown1 _
set_option maxRecDepth 100000 in
set_option maxHeartbeats 3200000 in
theorem rwrong_ok {w : World} {base r : Nat} {S : St} (h : Rb w base r (lst S)) (id : Int) : Calls Try.prog 32 #[pq r, i64 id] w fun e w' => e = .returned (i64 (errA S id)) ∧ Below w.heap.size w w' := by
  have HA := hid (rat_ok h (by have := lst_len S; omega) id)
  clear h
  by_cases h0 : id < 0
  · have hE : errA S id = 1 := by unfold errA; rw [if_neg (by omega)]
    rw [hE]
    clear hE
    go_enter Try.func32, Try.ntmps32
    go_wp2_with fail
    go_ret
    exact ⟨rfl, Below.refl _ _⟩
  by_cases h2 : 2 < id
  · have hE : errA S id = 1 := by unfold errA; rw [if_neg (by omega)]
    rw [hE]
    clear hE
    go_enter Try.func32, Try.ntmps32
    go_wp2_with fail
    go_ret
    exact ⟨rfl, Below.refl _ _⟩
  obtain ⟨i, rfl⟩ : ∃ i : Nat, id = i := ⟨id.toNat, by omega⟩
  have hi : i < 3 := by omega
  cases hS : S i with
  | none =>
    have hE : errA S i = 6 := by unfold errA; rw [if_pos ⟨by omega, by omega⟩, Int.toNat_natCast, hS]
    rw [pos_none S i hi hS] at HA
    rw [hE]
    clear hE hS
    go_enter Try.func32, Try.ntmps32
    go_wp2_with fail
    refine HA.out.mono ?_
    rintro e w1 ⟨rfl, hb⟩
    have HB := hid hb
    clear hb
    go_wp2_with fail
    go_ret
    exact ⟨rfl, HB.out⟩
  | some D =>
    have hE : errA S i = 0 := by unfold errA; rw [if_pos ⟨by omega, by omega⟩, Int.toNat_natCast, hS]
    obtain ⟨k, hk, _⟩ := pos_some S i D hi hS
    rw [hk] at HA
    rw [hE]
    clear hE hS hk
    go_enter Try.func32, Try.ntmps32
    go_wp2_with fail
    refine HA.out.mono ?_
    rintro e w1 ⟨rfl, hb⟩
    have HB := hid hb
    clear hb
    go_wp2_with fail
    go_ret
    exact ⟨rfl, HB.out⟩
theorem err_cases (S : St) (id : Int) : ((errA S id != 0) = true ∧ errA S id ≠ 0) ∨ ∃ (i : Nat) (D : List UInt8), i < 3 ∧ id = i ∧ S i = some D ∧ errA S id = 0 ∧ gd S id = D := by
  by_cases hr : 0 ≤ id ∧ id < 3
  · obtain ⟨i, rfl⟩ : ∃ i : Nat, id = i := ⟨id.toNat, by omega⟩
    cases hS : S i with
    | none =>
      have : errA S i = 6 := by unfold errA; rw [if_pos hr, Int.toNat_natCast, hS]
      rw [this]
      exact .inl ⟨rfl, by decide⟩
    | some D => exact .inr ⟨i, D, by omega, rfl, hS, by unfold errA; rw [if_pos hr, Int.toNat_natCast, hS], by unfold gd; rw [Int.toNat_natCast, hS]; rfl⟩
  · have : errA S id = 1 := by unfold errA; rw [if_neg hr]
    rw [this]
    exact .inl ⟨rfl, by decide⟩
set_option maxRecDepth 100000 in
set_option maxHeartbeats 3200000 in
theorem rwaits_ok {w : World} {base r : Nat} {S : St} (h : Rb w base r (lst S)) (id : Int) : Calls Try.prog 25 #[pq r, i64 id] w fun e w' => e = .returned (.tuple #[i64 (wtsV S id), i64 (errA S id)]) ∧ Below w.heap.size w w' := by
  have HW := hid (rwrong_ok h id)
  rcases err_cases S id with ⟨hq, hne⟩ | ⟨i, D, hi, rfl, hS, hE, hg⟩
  · unfold wtsV
    rw [if_neg hne]
    generalize errA S id = E at *
    clear h hne
    go_enter Try.func25, Try.ntmps25
    go_wp2_with fail
    refine HW.out.mono ?_
    rintro e w1 ⟨rfl, hb⟩
    have HB := hid hb
    clear hb
    go_wp2_with fail
    go_ret2
    exact ⟨rfl, HB.out⟩
  · unfold wtsV
    rw [hE, if_pos rfl, hg]
    rw [hE] at HW
    have HR := hid h
    obtain ⟨g, cap, N, k, hpos, hra, _⟩ := h.at hi hS
    have HRA := hid hra
    have HPos := hid hpos
    clear h hE hg hS hra hpos
    go_enter Try.func25, Try.ntmps25
    go_wp2_with fail
    refine HW.out.mono ?_
    rintro e w1 ⟨rfl, hb⟩
    have HB := hid hb
    have HS : Hid (RA w1.drew r g cap N k D) := (HRA.out.below hb).drew
    have HA := hid (rat_ok ((HR.out.below hb).below (show Below w1.heap.size w1 w1.drew from ⟨rfl, rfl, rfl, Nat.le_refl _, fun _ _ => rfl⟩)) (by have := lst_len S; omega) (i : Int))
    rw [HPos.out] at HA
    clear hb
    go_upto_region 4 with fail
    refine wp_region_noPanic ?_
    refine wp_region_last (fun W => RA W r g cap N k D) 12 (by kernel_rfl) ?_
    refine wpL_take 0 13 (pq r) [] rfl rfl (by kernel_rfl) (by decide) (by kernel_rfl) (by kernel_rfl) (by kernel_rfl) (fun _ _ _ h => h) HS.out (by rfl) (fun W hW => by go_simp) ?_
    simp only [Act.put, List.setIfInBounds_toArray, List.set_cons_zero, List.set_cons_succ]
    refine wpL_take 1 14 (pq r) [] rfl rfl (by kernel_rfl) (by decide) (by kernel_rfl) (by kernel_rfl) (by kernel_rfl) (fun _ _ _ h => h) HS.out (by rfl) (fun W hW => by go_simp) ?_
    simp only [Act.put, List.setIfInBounds_toArray, List.set_cons_zero, List.set_cons_succ]
    refine wpL_take 2 15 (pq r) [] rfl rfl (by kernel_rfl) (by decide) (by kernel_rfl) (by kernel_rfl) (by kernel_rfl) (fun _ _ _ h => h) HS.out (by rfl) (fun W hW => by go_simp) ?_
    simp only [Act.put, List.setIfInBounds_toArray, List.set_cons_zero, List.set_cons_succ]
    refine wpL_take 3 16 (.slice (some ⟨g, 0, none⟩) N cap) [] rfl rfl (by kernel_rfl) (by decide) (by kernel_rfl) (by kernel_rfl) (by kernel_rfl) (fun _ _ _ h => h) HS.out (by rfl) (fun W hW => by have e := hW.c; go_simp) ?_
    simp only [Act.put, List.setIfInBounds_toArray, List.set_cons_zero, List.set_cons_succ]
    refine wpL_take 4 17 (pq r) [] rfl rfl (by kernel_rfl) (by decide) (by kernel_rfl) (by kernel_rfl) (by kernel_rfl) (fun _ _ _ h => h) HS.out (by rfl) (fun W hW => by go_simp) ?_
    simp only [Act.put, List.setIfInBounds_toArray, List.set_cons_zero, List.set_cons_succ]
    refine wpL_take 5 18 (i64 i) [] rfl rfl (by kernel_rfl) (by decide) (by kernel_rfl) (by kernel_rfl) (by kernel_rfl) (fun _ _ _ h => h) HS.out (by rfl) (fun W hW => by go_simp) ?_
    simp only [Act.put, List.setIfInBounds_toArray, List.set_cons_zero, List.set_cons_succ]
    refine wpL_one 6 rfl (by kernel_rfl) (by rfl) (fun K hK => ?_)
    go_simp
    refine HA.out.mono ?_
    rintro e w2 ⟨rfl, hb2⟩
    have HS1 : Hid (RA w2 r g cap N k D) := HS.out.below hb2
    have HB2 : Hid (Below w.heap.size w w2) := HB.out.trans ((below_of_drew hb2).mono HB.out.size)
    clear hb2
    go_simp
    refine hK.out _ _ (fun _ => HS1.out) ?_
    clear hK K
    refine wpL_take 7 20 (.pointer (some ⟨g, k * 2, none⟩)) [] rfl rfl (by kernel_rfl) (by decide) (by kernel_rfl) (by kernel_rfl) (by kernel_rfl) (fun _ _ _ h => h) HS1.out (by rfl) (fun W hW => by have e : (k : Int) < N := (by have := hW.kn; omega); go_simp) ?_
    simp only [Act.put, List.setIfInBounds_toArray, List.set_cons_zero, List.set_cons_succ]
    refine wpL_take 8 21 (.pointer (some ⟨g, k * 2 + 1, none⟩)) [] rfl rfl (by kernel_rfl) (by decide) (by kernel_rfl) (by kernel_rfl) (by kernel_rfl) (fun _ _ _ h => h) HS1.out (by rfl) (fun W hW => by go_simp) ?_
    simp only [Act.put, List.setIfInBounds_toArray, List.set_cons_zero, List.set_cons_succ]
    refine wpL_take 9 22 (str D) [] rfl rfl (by kernel_rfl) (by decide) (by kernel_rfl) (by kernel_rfl) (by kernel_rfl) (fun _ _ _ h => h) HS1.out (by rfl) (fun W hW => by have e := hW.d; go_simp) ?_
    simp only [Act.put, List.setIfInBounds_toArray, List.set_cons_zero, List.set_cons_succ]
    refine wpL_take 10 23 (i64 D.length) [] rfl rfl (by kernel_rfl) (by decide) (by kernel_rfl) (by kernel_rfl) (by kernel_rfl) (fun _ _ _ h => h) HS1.out (by rfl) (fun W hW => by have e := bs_size D; go_simp) ?_
    simp only [Act.put, List.setIfInBounds_toArray, List.set_cons_zero, List.set_cons_succ]
    refine wpL_one 11 rfl (by kernel_rfl) (by rfl) (fun K hK => ?_)
    go_simp
    refine hK.out _ _ (fun _ => HS1.out) ?_
    clear hK K
    refine wpL_one 12 rfl (by kernel_rfl) (by rfl) (fun K hK => ?_)
    go_simp
    refine hK.out _ _ (fun h => absurd rfl h) ?_
    clear hK K
    refine wpL_done (by kernel_rfl) ?_
    refine NoPanic.normal ?_
    go_wp2_with fail
    go_ret2
    exact ⟨rfl, HB2.out⟩
theorem sldrop_run (W : World) (D : List UInt8) (n : Int) (h0 : 0 ≤ n) (h1 : n ≤ D.length) : (Instr.sliceAt 9 (str D) (some (i64 n)) none none).run Try.prog W = .ok (str (D.drop n.toNat)) W := by
  simp only [Instr.sliceAt, Instr.slice, run_underlying Try.underlying9, Instr.sliceBounds, Instr.sliceBound, asIntOf, Sem.run_bind, Sem.run_pure, Result.andThen_ok, Option.isSome_none, Bool.false_eq_true, if_false]
  rw [if_pos ⟨h0, by rw [bs_size]; exact h1⟩]
  simp only [Sem.run_pure, Result.andThen_ok]
  rw [bs_drop]
set_option maxRecDepth 100000 in
set_option maxHeartbeats 3200000 in
theorem rread_ok {w : World} {base r : Nat} {S : St} (h : Rb w base r (lst S)) (id : Int) (n : Int) : Calls Try.prog 24 #[pq r, i64 id, i64 n] w fun e w' => e = .returned (.tuple #[str (redT S id n), i64 (redE S id n)]) ∧ Rb w' base r (lst (redS S id n)) ∧ Fr base [30, 47] w w' := by
  have HR := hid h
  have HLO := hid h.los
  by_cases hn : n < 0
  · unfold redS redT redE
    rw [if_pos hn, if_neg (by decide), if_neg (by decide)]
    clear h
    go_enter Try.func24, Try.ntmps24
    go_wp2_with fail
    go_ret2
    exact ⟨rfl, HR.out, Fr.refl _ _ _⟩
  have HW := hid (rwrong_ok h id)
  rcases err_cases S id with ⟨hq, hne⟩ | ⟨i, D, hi, rfl, hS, hE, hg⟩
  · unfold redS redT redE
    rw [if_neg hn, if_neg hne, if_neg hne]
    generalize errA S id = E at *
    clear h hne
    go_enter Try.func24, Try.ntmps24
    go_wp2_with fail
    refine HW.out.mono ?_
    rintro e w1 ⟨rfl, hb⟩
    have HB := hid hb
    clear hb
    go_wp2_with fail
    go_ret2
    exact ⟨rfl, HR.out.below HB.out, Fr.of_below _ HB.out HLO.out⟩
  · unfold redS redT redE
    rw [if_neg hn, hE, if_pos rfl, if_pos rfl, hg, Int.toNat_natCast]
    rw [hE] at HW
    obtain ⟨g, cap, N, k, hpos, hra, hset⟩ := h.at hi hS
    have HSet := hid hset
    have HRA := hid hra
    have HPos := hid hpos
    clear h hE hg hS hra hpos hset
    by_cases hlt : n < D.length
    · have HSL : Hid (∀ W, (Instr.sliceAt 9 (str D) (some (i64 n)) none none).run Try.prog W = .ok (str (D.drop n.toNat)) W) := fun W => sldrop_run W D n (by omega) (by omega)
      have hlt2 : n < (bs D).size := by rw [bs_size]; exact hlt
      go_enter Try.func24, Try.ntmps24
      go_wp2_with fail
      refine HW.out.mono ?_
      rintro e w1 ⟨rfl, hb⟩
      have HB := hid hb
      have HRA1 := hid (HRA.out.below hb)
      have HA := hid (rat_ok (HR.out.below hb) (by have := lst_len S; omega) (i : Int))
      rw [HPos.out] at HA
      clear hb
      go_wp2_with fail
      refine HA.out.mono ?_
      rintro e w2 ⟨rfl, hb2⟩
      have HB2 : Hid (Below w.heap.size w w2) := HB.out.trans (hb2.mono HB.out.size)
      have HRA2 := hid (HRA1.out.below hb2)
      have HS : Hid (RA w2.drew r g cap N k D) := HRA2.out.drew
      have e1 := HRA2.out.c
      have e2 := HRA2.out.d
      have e3 : (k : Int) < N := by have := HRA2.out.kn; omega
      clear hb2
      go_upto_region 9 with fail
      clear e1 e2 e3
      refine wp_region_noPanic ?_
      refine wp_region_last (fun W => RA W r g cap N k D) 10 (by kernel_rfl) ?_
      refine wpL_take 0 34 (pq r) [] rfl rfl (by kernel_rfl) (by decide) (by kernel_rfl) (by kernel_rfl) (by kernel_rfl) (fun _ _ _ h => h) HS.out (by rfl) (fun W hW => by go_simp) ?_
      simp only [Act.put, List.setIfInBounds_toArray, List.set_cons_zero, List.set_cons_succ]
      refine wpL_take 1 35 (pq r) [] rfl rfl (by kernel_rfl) (by decide) (by kernel_rfl) (by kernel_rfl) (by kernel_rfl) (fun _ _ _ h => h) HS.out (by rfl) (fun W hW => by go_simp) ?_
      simp only [Act.put, List.setIfInBounds_toArray, List.set_cons_zero, List.set_cons_succ]
      refine wpL_take 2 36 (pq r) [] rfl rfl (by kernel_rfl) (by decide) (by kernel_rfl) (by kernel_rfl) (by kernel_rfl) (fun _ _ _ h => h) HS.out (by rfl) (fun W hW => by go_simp) ?_
      simp only [Act.put, List.setIfInBounds_toArray, List.set_cons_zero, List.set_cons_succ]
      refine wpL_take 3 37 (.slice (some ⟨g, 0, none⟩) N cap) [] rfl rfl (by kernel_rfl) (by decide) (by kernel_rfl) (by kernel_rfl) (by kernel_rfl) (fun _ _ _ h => h) HS.out (by rfl) (fun W hW => by have e := hW.c; go_simp) ?_
      simp only [Act.put, List.setIfInBounds_toArray, List.set_cons_zero, List.set_cons_succ]
      refine wpL_take 4 38 (i64 k) [] rfl rfl (by kernel_rfl) (by decide) (by kernel_rfl) (by kernel_rfl) (by kernel_rfl) (fun _ _ _ h => h) HS.out (by rfl) (fun W hW => by go_simp) ?_
      simp only [Act.put, List.setIfInBounds_toArray, List.set_cons_zero, List.set_cons_succ]
      refine wpL_take 5 39 (str D) [] rfl rfl (by kernel_rfl) (by decide) (by kernel_rfl) (by kernel_rfl) (by kernel_rfl) (fun _ _ _ h => h) HS.out (by rfl) (fun W hW => by go_simp) ?_
      simp only [Act.put, List.setIfInBounds_toArray, List.set_cons_zero, List.set_cons_succ]
      refine wpL_take 6 40 (i64 n) [] rfl rfl (by kernel_rfl) (by decide) (by kernel_rfl) (by kernel_rfl) (by kernel_rfl) (fun _ _ _ h => h) HS.out (by rfl) (fun W hW => by go_simp) ?_
      simp only [Act.put, List.setIfInBounds_toArray, List.set_cons_zero, List.set_cons_succ]
      refine wpL_take 7 41 (str (D.drop n.toNat)) [] rfl rfl (by kernel_rfl) (by decide) (by kernel_rfl) (by kernel_rfl) (by kernel_rfl) (fun _ _ _ h => h) HS.out (by rfl) (fun W hW => by exact exec_slice 9 (.tmp 39) (some (.tmp 40)) none (some (i64 n)) none rfl rfl rfl rfl (HSL.out W)) ?_
      simp only [Act.put, List.setIfInBounds_toArray, List.set_cons_zero, List.set_cons_succ]
      refine wpL_take 8 42 (.pointer (some ⟨g, k * 2, none⟩)) [9] rfl rfl (by kernel_rfl) (by decide) (by kernel_rfl) (by kernel_rfl) (by kernel_rfl) (fun _ _ _ h => h) HS.out (by rfl) (fun W hW => by have e : (k : Int) < N := (by have := hW.kn; omega); go_simp) ?_
      simp only [Act.put, List.setIfInBounds_toArray, List.set_cons_zero, List.set_cons_succ]
      refine wpL_take 9 43 (.pointer (some ⟨g, k * 2 + 1, none⟩)) [] rfl rfl (by kernel_rfl) (by decide) (by kernel_rfl) (by kernel_rfl) (by kernel_rfl) (fun _ _ _ h => h) HS.out (by rfl) (fun W hW => by go_simp) ?_
      simp only [Act.put, List.setIfInBounds_toArray, List.set_cons_zero, List.set_cons_succ]
      refine wpL_one 10 rfl (by kernel_rfl) (by rfl) (fun K hK => ?_)
      have f1 := HS.out.f
      have d1 := HS.out.d
      go_simp
      refine hK.out _ _ (fun h => absurd rfl h) ?_
      clear hK K
      refine wpL_done (by kernel_rfl) ?_
      refine NoPanic.normal ?_
      have HF := hid (HSet.out w2 HB2.out (D.drop n.toNat))
      go_wp2_with fail
      go_ret2
      exact ⟨by rw [show str (D.take n.toNat) = .string ((bs D).extract 0 n.toNat) from by rw [bs_take]]; rfl, ⟨HF.out.1.lo, HF.out.1.own⟩, ⟨below_drewN HF.out.2.below 1, HF.out.2.kept⟩⟩
    · have hlt2 : ¬ n < (bs D).size := by rw [bs_size]; exact hlt
      have HT : Hid (D.take n.toNat = D ∧ D.drop n.toNat = []) := ⟨List.take_of_length_le (by omega), List.drop_of_length_le (by omega)⟩
      rw [HT.out.1, HT.out.2]
      go_enter Try.func24, Try.ntmps24
      go_wp2_with fail
      refine HW.out.mono ?_
      rintro e w1 ⟨rfl, hb⟩
      have HB := hid hb
      have HRA1 := hid (HRA.out.below hb)
      have HA := hid (rat_ok (HR.out.below hb) (by have := lst_len S; omega) (i : Int))
      rw [HPos.out] at HA
      clear hb
      go_wp2_with fail
      refine HA.out.mono ?_
      rintro e w2 ⟨rfl, hb2⟩
      have HB2 : Hid (Below w.heap.size w w2) := HB.out.trans (hb2.mono HB.out.size)
      have HRA2 := hid (HRA1.out.below hb2)
      have e1 := HRA2.out.c
      have e2 := HRA2.out.d
      have e3 : (k : Int) < N := by have := HRA2.out.kn; omega
      have e4 := HRA2.out.f
      have HF := hid (HSet.out w2 HB2.out [])
      rw [show str [] = .string ⟨#[]⟩ from rfl] at HF
      clear hb2
      go_wp2_with fail
      go_ret2
      exact ⟨rfl, HF.out.1, HF.out.2⟩
set_option maxRecDepth 100000 in
set_option maxHeartbeats 3200000 in
theorem rwrite_ok {w : World} {base r : Nat} {S : St} (h : Rb w base r (lst S)) (id : Int) (s : ByteArray) (hs : s.size ≤ 1000) (hle : ∀ i D, i < 3 → S i = some D → D.length ≤ 16) : Calls Try.prog 23 #[pq r, i64 id, .string s] w fun e w' => e = .returned (i64 (wrtE S id s.data.toList)) ∧ Rb w' base r (lst (wrtS S id s.data.toList)) ∧ Fr base [30, 47] w w' := by
  have HR := hid h
  have HLO := hid h.los
  have hsz : s.data.toList.length = s.size := rfl
  have HW := hid (rwrong_ok h id)
  rcases err_cases S id with ⟨hq, hne⟩ | ⟨i, D, hi, rfl, hS, hE, hg⟩
  · have hE : wrtE S id s.data.toList = errA S id := by unfold wrtE; rw [if_neg hne]
    unfold wrtS
    rw [hE, if_neg hne]
    clear hE
    generalize errA S id = E at *
    clear h hne hsz
    go_enter Try.func23, Try.ntmps23
    go_wp2_with fail
    refine HW.out.mono ?_
    rintro e w1 ⟨rfl, hb⟩
    have HB := hid hb
    clear hb
    go_wp2_with fail
    go_ret
    exact ⟨rfl, HR.out.below HB.out, Fr.of_below _ HB.out HLO.out⟩
  · unfold wrtS wrtE
    rw [hE, if_pos rfl, hg, hsz, Int.toNat_natCast]
    rw [hE] at HW
    obtain ⟨g, cap, N, k, hpos, hra, hset⟩ := h.at hi hS
    have HSet := hid hset
    have HRA := hid hra
    have HPos := hid hpos
    have hD16 := hle i D hi hS
    clear h hE hg hS hra hpos hset hsz hle
    have hb1 : (bs D).size ≤ 16 := by rw [bs_size]; exact hD16
    have hb2 : D.length + s.size = (bs D).size + s.size := rfl
    by_cases hfull : 16 < D.length + s.size
    · rw [if_pos hfull, if_neg (by decide)]
      have hf2 : (16 : Int) < ((bs D).size : Int) + (s.size : Int) := by omega
      clear hb2 hfull
      go_enter Try.func23, Try.ntmps23
      go_wp2_with fail
      refine HW.out.mono ?_
      rintro e w1 ⟨rfl, hb⟩
      have HB := hid hb
      have HRA1 := hid (HRA.out.below hb)
      have HA := hid (rat_ok (HR.out.below hb) (by have := lst_len S; omega) (i : Int))
      rw [HPos.out] at HA
      clear hb
      go_wp2_with fail
      refine HA.out.mono ?_
      rintro e w2 ⟨rfl, hb2⟩
      have HB2 : Hid (Below w.heap.size w w2) := HB.out.trans (hb2.mono HB.out.size)
      have HRA2 := hid (HRA1.out.below hb2)
      have e1 := HRA2.out.c
      have e2 := HRA2.out.d
      have e3 : (k : Int) < N := by have := HRA2.out.kn; omega
      clear hb2
      go_wp2_with fail
      go_ret
      exact ⟨rfl, HR.out.below HB2.out, Fr.of_below _ HB2.out HLO.out⟩
    · rw [if_neg hfull, if_pos rfl]
      have hf2 : ¬ (16 : Int) < ((bs D).size : Int) + (s.size : Int) := by omega
      have HSM : Hid (¬ 9223372036854775807 < (bs D).size + s.size) := by show ¬ _; omega
      have HAP := hid (bs_app D s)
      generalize D ++ s.data.toList = E at *
      clear hb2 hfull
      go_enter Try.func23, Try.ntmps23
      go_wp2_with fail
      refine HW.out.mono ?_
      rintro e w1 ⟨rfl, hb⟩
      have HB := hid hb
      have HRA1 := hid (HRA.out.below hb)
      have HA := hid (rat_ok (HR.out.below hb) (by have := lst_len S; omega) (i : Int))
      rw [HPos.out] at HA
      clear hb
      go_wp2_with fail
      refine HA.out.mono ?_
      rintro e w2 ⟨rfl, hb2⟩
      have HB2 : Hid (Below w.heap.size w w2) := HB.out.trans (hb2.mono HB.out.size)
      have HRA2 := hid (HRA1.out.below hb2)
      have e1 := HRA2.out.c
      have e2 := HRA2.out.d
      have e3 : (k : Int) < N := by have := HRA2.out.kn; omega
      clear hb2
      have HS : Hid (RA w2.drew r g cap N k D) := HRA2.out.drew
      go_upto_region 7 with fail
      clear e1 e2 e3
      refine wp_region_noPanic ?_
      refine wp_region_last (fun W => RA W r g cap N k D) 17 (by kernel_rfl) ?_
      refine wpL_take 0 31 (pq r) [] rfl rfl (by kernel_rfl) (by decide) (by kernel_rfl) (by kernel_rfl) (by kernel_rfl) (fun _ _ _ h => h) HS.out (by rfl) (fun W hW => by go_simp) ?_
      simp only [Act.put, List.setIfInBounds_toArray, List.set_cons_zero, List.set_cons_succ]
      refine wpL_take 1 32 (pq r) [] rfl rfl (by kernel_rfl) (by decide) (by kernel_rfl) (by kernel_rfl) (by kernel_rfl) (fun _ _ _ h => h) HS.out (by rfl) (fun W hW => by go_simp) ?_
      simp only [Act.put, List.setIfInBounds_toArray, List.set_cons_zero, List.set_cons_succ]
      refine wpL_take 2 33 (pq r) [] rfl rfl (by kernel_rfl) (by decide) (by kernel_rfl) (by kernel_rfl) (by kernel_rfl) (fun _ _ _ h => h) HS.out (by rfl) (fun W hW => by go_simp) ?_
      simp only [Act.put, List.setIfInBounds_toArray, List.set_cons_zero, List.set_cons_succ]
      refine wpL_take 3 34 (.slice (some ⟨g, 0, none⟩) N cap) [] rfl rfl (by kernel_rfl) (by decide) (by kernel_rfl) (by kernel_rfl) (by kernel_rfl) (fun _ _ _ h => h) HS.out (by rfl) (fun W hW => by have e := hW.c; go_simp) ?_
      simp only [Act.put, List.setIfInBounds_toArray, List.set_cons_zero, List.set_cons_succ]
      refine wpL_take 4 35 (i64 k) [] rfl rfl (by kernel_rfl) (by decide) (by kernel_rfl) (by kernel_rfl) (by kernel_rfl) (fun _ _ _ h => h) HS.out (by rfl) (fun W hW => by go_simp) ?_
      simp only [Act.put, List.setIfInBounds_toArray, List.set_cons_zero, List.set_cons_succ]
      refine wpL_take 5 36 (pq r) [] rfl rfl (by kernel_rfl) (by decide) (by kernel_rfl) (by kernel_rfl) (by kernel_rfl) (fun _ _ _ h => h) HS.out (by rfl) (fun W hW => by go_simp) ?_
      simp only [Act.put, List.setIfInBounds_toArray, List.set_cons_zero, List.set_cons_succ]
      refine wpL_take 6 37 (pq r) [] rfl rfl (by kernel_rfl) (by decide) (by kernel_rfl) (by kernel_rfl) (by kernel_rfl) (fun _ _ _ h => h) HS.out (by rfl) (fun W hW => by go_simp) ?_
      simp only [Act.put, List.setIfInBounds_toArray, List.set_cons_zero, List.set_cons_succ]
      refine wpL_take 7 38 (pq r) [] rfl rfl (by kernel_rfl) (by decide) (by kernel_rfl) (by kernel_rfl) (by kernel_rfl) (fun _ _ _ h => h) HS.out (by rfl) (fun W hW => by go_simp) ?_
      simp only [Act.put, List.setIfInBounds_toArray, List.set_cons_zero, List.set_cons_succ]
      refine wpL_take 8 39 (.slice (some ⟨g, 0, none⟩) N cap) [] rfl rfl (by kernel_rfl) (by decide) (by kernel_rfl) (by kernel_rfl) (by kernel_rfl) (fun _ _ _ h => h) HS.out (by rfl) (fun W hW => by have e := hW.c; go_simp) ?_
      simp only [Act.put, List.setIfInBounds_toArray, List.set_cons_zero, List.set_cons_succ]
      refine wpL_take 9 40 (i64 k) [] rfl rfl (by kernel_rfl) (by decide) (by kernel_rfl) (by kernel_rfl) (by kernel_rfl) (fun _ _ _ h => h) HS.out (by rfl) (fun W hW => by go_simp) ?_
      simp only [Act.put, List.setIfInBounds_toArray, List.set_cons_zero, List.set_cons_succ]
      refine wpL_take 10 41 (.pointer (some ⟨g, k * 2, none⟩)) [] rfl rfl (by kernel_rfl) (by decide) (by kernel_rfl) (by kernel_rfl) (by kernel_rfl) (fun _ _ _ h => h) HS.out (by rfl) (fun W hW => by have e : (k : Int) < N := (by have := hW.kn; omega); go_simp) ?_
      simp only [Act.put, List.setIfInBounds_toArray, List.set_cons_zero, List.set_cons_succ]
      refine wpL_take 11 42 (.pointer (some ⟨g, k * 2 + 1, none⟩)) [] rfl rfl (by kernel_rfl) (by decide) (by kernel_rfl) (by kernel_rfl) (by kernel_rfl) (fun _ _ _ h => h) HS.out (by rfl) (fun W hW => by go_simp) ?_
      simp only [Act.put, List.setIfInBounds_toArray, List.set_cons_zero, List.set_cons_succ]
      refine wpL_take 12 43 (str D) [] rfl rfl (by kernel_rfl) (by decide) (by kernel_rfl) (by kernel_rfl) (by kernel_rfl) (fun _ _ _ h => h) HS.out (by rfl) (fun W hW => by have e := hW.d; go_simp) ?_
      simp only [Act.put, List.setIfInBounds_toArray, List.set_cons_zero, List.set_cons_succ]
      refine wpL_take 13 44 (.string s) [] rfl rfl (by kernel_rfl) (by decide) (by kernel_rfl) (by kernel_rfl) (by kernel_rfl) (fun _ _ _ h => h) HS.out (by rfl) (fun W hW => by go_simp) ?_
      simp only [Act.put, List.setIfInBounds_toArray, List.set_cons_zero, List.set_cons_succ]
      refine wpL_take 14 45 (str E) [] rfl rfl (by kernel_rfl) (by decide) (by kernel_rfl) (by kernel_rfl) (by kernel_rfl) (fun _ _ _ h => h) HS.out (by rfl) (fun W hW => by have e1 := HSM.out; have e2 := HAP.out; go_simp) ?_
      simp only [Act.put, List.setIfInBounds_toArray, List.set_cons_zero, List.set_cons_succ]
      refine wpL_take 15 46 (.pointer (some ⟨g, k * 2, none⟩)) [16] rfl rfl (by kernel_rfl) (by decide) (by kernel_rfl) (by kernel_rfl) (by kernel_rfl) (fun _ _ _ h => h) HS.out (by rfl) (fun W hW => by have e : (k : Int) < N := (by have := hW.kn; omega); go_simp) ?_
      simp only [Act.put, List.setIfInBounds_toArray, List.set_cons_zero, List.set_cons_succ]
      refine wpL_take 16 47 (.pointer (some ⟨g, k * 2 + 1, none⟩)) [] rfl rfl (by kernel_rfl) (by decide) (by kernel_rfl) (by kernel_rfl) (by kernel_rfl) (fun _ _ _ h => h) HS.out (by rfl) (fun W hW => by go_simp) ?_
      simp only [Act.put, List.setIfInBounds_toArray, List.set_cons_zero, List.set_cons_succ]
      refine wpL_one 17 rfl (by kernel_rfl) (by rfl) (fun K hK => ?_)
      have f1 := HS.out.f
      have d1 := HS.out.d
      go_simp
      refine hK.out _ _ (fun h => absurd rfl h) ?_
      clear hK K
      refine wpL_done (by kernel_rfl) ?_
      refine NoPanic.normal ?_
      have HF := hid (HSet.out w2 HB2.out E)
      go_wp2_with fail
      go_ret
      exact ⟨rfl, ⟨HF.out.1.lo, HF.out.1.own⟩, ⟨below_drewN HF.out.2.below 1, HF.out.2.kept⟩⟩
end Go.Proofs.Ytojhmiggocommaa
