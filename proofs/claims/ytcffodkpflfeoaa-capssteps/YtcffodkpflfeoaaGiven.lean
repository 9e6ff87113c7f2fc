/- imagolaw09.Pair's given: its contracts; no statement is proved in this text. -/
import Derived.Test.YtcffodkpflfeoaaPick
namespace Go.Proofs.Ytcffodkpflfeoaa
open Go.ChangeShapes Go.WideShapes Go.ChangeAt Go.RowKit Go.Deep
attribute [local go_sem ↓] Go.wp_at_zero Go.wp_at_succ

theorem Fr.of_drew {base : Nat} {ts : List TypeId} {w w' : World} (h : Fr base ts w.drew w') : Fr base ts w w' := ⟨⟨h.below.os, h.below.tape, h.below.output, h.below.size, h.below.block⟩, h.kept⟩
theorem eqIn51 (a b a' b' : Int) (w : World) : (Op.equalIn 10000 51 (.agg #[i64 a, i64 b]) (.agg #[i64 a', i64 b'])).run Try.prog w = .ok (decide (a = a' ∧ b = b')) w := by
  rw [run_equalIn_struct w 9999 51 _ _ (by kernel_rfl) (by kernel_rfl)]
  have p0 : ∀ (a b : Int) (w : World), (part 3 #[i64 a, i64 b] 0).run Try.prog w = .ok (i64 a) w := fun _ _ w => by kernel_rfl
  have p1 : ∀ (a b : Int) (w : World), (part 3 #[i64 a, i64 b] 1).run Try.prog w = .ok (i64 b) w := fun _ _ w => by kernel_rfl
  have hq := eqI 9998
  simp only [Program.fieldsOf, Try.underlying51]
  simp only [Op.eqFields, ne_eq]
  by_cases h1 : a = a'
  · by_cases h2 : b = b'
    · simp_all [Sem.run_bind, Result.andThen]
    · simp_all [Sem.run_bind, Result.andThen]
  · simp_all [Sem.run_bind, Result.andThen]
theorem two_hg (w : World) (sl gn s g e : Int) : Below w.heap.size w ((w.alloc (hO sl gn)).alloc (gO s g e)) ∧ ((w.alloc (hO sl gn)).alloc (gO s g e)).heap[w.heap.size]? = some (hO sl gn) ∧ ((w.alloc (hO sl gn)).alloc (gO s g e)).heap[w.heap.size + 1]? = some (gO s g e) := by
  refine ⟨(below_one w _).trans ((below_one _ _).mono (by simp)), blk_alloc (heap_last w _) _, ?_⟩
  have := heap_last (w.alloc (hO sl gn)) (gO s g e)
  rwa [show (w.alloc (hO sl gn)).heap.size = w.heap.size + 1 by simp] at this
structure SqR (A : Nat) (sl gn e : Int) (W : World) : Prop where
  a : W.heap[A]? = some (hO sl gn)
  g : W.heap[A + 1]? = some (gO sl gn e)
structure SqA (A P : Nat) (sl gn : Int) (v : Value) (W : World) : Prop where
  a : W.heap[A]? = some (hO sl gn)
  p : W.cell? ⟨P, 2, none⟩ = some v
set_option maxRecDepth 100000 in
set_option maxHeartbeats 3200000 in
theorem given_err (w : World) (P : Nat) (sl gn e env : Int) (he : e ≠ 0) : Calls Try.prog 26 #[pq P, .agg #[i64 sl, i64 gn], i64 e, .agg #[i64 sl, i64 gn, i64 e], i64 env] w fun r w' => r = .returned (.bool true) ∧ Below w.heap.size w w' := by
  obtain ⟨hBV, hK1, hK2⟩ := two_hg w sl gn sl gn e
  obtain ⟨V, hV⟩ : ∃ V, V = (w.alloc (hO sl gn)).alloc (gO sl gn e) := ⟨_, rfl⟩
  have HVe : Hid ((w.alloc (.cells #[i64 sl, i64 gn] 42)).alloc (.cells #[i64 sl, i64 gn, i64 e] 75) = V) := hV.symm
  rw [← hV] at hBV hK1 hK2
  have HB := hid hBV
  have HK1 := hid hK1
  have HK2 := hid hK2
  have hd : (e == 0) = false := by simpa using he
  clear hV hBV hK1 hK2 he
  go_enter Try.func26, Try.ntmps26
  go_upto_region 1 with fail
  rw [HVe.out]
  go_upto_region 4 with fail
  have HS : Hid (SqR w.heap.size sl gn e V.drew) := ⟨HK1.out, HK2.out⟩
  refine wp_region_noPanic ?_
  refine wp_region_last (SqR w.heap.size sl gn e) 11 (by kernel_rfl) ?_
  refine wpL_take 0 33 (.agg #[i64 sl, i64 gn]) [] rfl rfl (by kernel_rfl) (by decide) (by kernel_rfl) (by kernel_rfl) (by kernel_rfl) (fun _ _ _ h => h) HS.out (by rfl) (fun W hW => by have a0 := blk_cell hW.a 0; have a1 := blk_cell hW.a 1; have g0 := blk_cell hW.g 0; have g1 := blk_cell hW.g 1; have g2 := blk_cell hW.g 2; go_simp) ?_
  simp only [Act.put, List.setIfInBounds_toArray, List.set_cons_zero, List.set_cons_succ]
  refine wpL_take 2 35 (.pointer (some ⟨w.heap.size + 1, 0, none⟩)) [] rfl rfl (by kernel_rfl) (by decide) (by kernel_rfl) (by kernel_rfl) (by kernel_rfl) (fun _ _ _ h => h) HS.out (by rfl) (fun W hW => by have a0 := blk_cell hW.a 0; have a1 := blk_cell hW.a 1; have g0 := blk_cell hW.g 0; have g1 := blk_cell hW.g 1; have g2 := blk_cell hW.g 2; go_simp) ?_
  simp only [Act.put, List.setIfInBounds_toArray, List.set_cons_zero, List.set_cons_succ]
  refine wpL_take 3 36 (.agg #[i64 sl, i64 gn]) [] rfl rfl (by kernel_rfl) (by decide) (by kernel_rfl) (by kernel_rfl) (by kernel_rfl) (fun _ _ _ h => h) HS.out (by rfl) (fun W hW => by have a0 := blk_cell hW.a 0; have a1 := blk_cell hW.a 1; have g0 := blk_cell hW.g 0; have g1 := blk_cell hW.g 1; have g2 := blk_cell hW.g 2; go_simp) ?_
  simp only [Act.put, List.setIfInBounds_toArray, List.set_cons_zero, List.set_cons_succ]
  refine wpL_one 1 rfl (by kernel_rfl) (by rfl) (fun K hK => ?_)
  go_simp
  refine (ref_ok _ sl gn).mono ?_
  rintro e2 w9 ⟨rfl, hb9⟩
  have HS2 : Hid (SqR w.heap.size sl gn e w9) := ⟨blk_below (w := V.drew) HK1.out hb9, blk_below (w := V.drew) HK2.out hb9⟩
  have HB9 := hid hb9
  clear hb9
  go_simp
  refine hK.out _ _ (fun _ => HS2.out) ?_
  clear hK K
  refine wpL_take 4 37 (.bool true) [] rfl rfl (by kernel_rfl) (by decide) (by kernel_rfl) (by kernel_rfl) (by kernel_rfl) (fun _ _ _ h => h) HS2.out (by rfl) (fun W hW => by have z0 := eqIn51 sl gn sl gn W; simp only [and_self, decide_true] at z0; go_simp) ?_
  simp only [Act.put, List.setIfInBounds_toArray, List.set_cons_zero, List.set_cons_succ]
  refine wpL_take 5 38 (.bool true) [] rfl rfl (by kernel_rfl) (by decide) (by kernel_rfl) (by kernel_rfl) (by kernel_rfl) (fun _ _ _ h => h) HS2.out (by rfl) (fun W hW => by have a0 := blk_cell hW.a 0; have a1 := blk_cell hW.a 1; have g0 := blk_cell hW.g 0; have g1 := blk_cell hW.g 1; have g2 := blk_cell hW.g 2; go_simp) ?_
  simp only [Act.put, List.setIfInBounds_toArray, List.set_cons_zero, List.set_cons_succ]
  refine wpL_take 6 39 (i64 e) [] rfl rfl (by kernel_rfl) (by decide) (by kernel_rfl) (by kernel_rfl) (by kernel_rfl) (fun _ _ _ h => h) HS2.out (by rfl) (fun W hW => by have a0 := blk_cell hW.a 0; have a1 := blk_cell hW.a 1; have g0 := blk_cell hW.g 0; have g1 := blk_cell hW.g 1; have g2 := blk_cell hW.g 2; go_simp) ?_
  simp only [Act.put, List.setIfInBounds_toArray, List.set_cons_zero, List.set_cons_succ]
  refine wpL_take 7 40 (.pointer (some ⟨w.heap.size + 1, 2, none⟩)) [] rfl rfl (by kernel_rfl) (by decide) (by kernel_rfl) (by kernel_rfl) (by kernel_rfl) (fun _ _ _ h => h) HS2.out (by rfl) (fun W hW => by have a0 := blk_cell hW.a 0; have a1 := blk_cell hW.a 1; have g0 := blk_cell hW.g 0; have g1 := blk_cell hW.g 1; have g2 := blk_cell hW.g 2; go_simp) ?_
  simp only [Act.put, List.setIfInBounds_toArray, List.set_cons_zero, List.set_cons_succ]
  refine wpL_take 8 41 (i64 e) [] rfl rfl (by kernel_rfl) (by decide) (by kernel_rfl) (by kernel_rfl) (by kernel_rfl) (fun _ _ _ h => h) HS2.out (by rfl) (fun W hW => by have a0 := blk_cell hW.a 0; have a1 := blk_cell hW.a 1; have g0 := blk_cell hW.g 0; have g1 := blk_cell hW.g 1; have g2 := blk_cell hW.g 2; go_simp) ?_
  simp only [Act.put, List.setIfInBounds_toArray, List.set_cons_zero, List.set_cons_succ]
  refine wpL_take 9 42 (.bool true) [] rfl rfl (by kernel_rfl) (by decide) (by kernel_rfl) (by kernel_rfl) (by kernel_rfl) (fun _ _ _ h => h) HS2.out (by rfl) (fun W hW => by have a0 := blk_cell hW.a 0; have a1 := blk_cell hW.a 1; have g0 := blk_cell hW.g 0; have g1 := blk_cell hW.g 1; have g2 := blk_cell hW.g 2; go_simp) ?_
  simp only [Act.put, List.setIfInBounds_toArray, List.set_cons_zero, List.set_cons_succ]
  refine wpL_take 10 43 (.bool true) [] rfl rfl (by kernel_rfl) (by decide) (by kernel_rfl) (by kernel_rfl) (by kernel_rfl) (fun _ _ _ h => h) HS2.out (by rfl) (fun W hW => by have a0 := blk_cell hW.a 0; have a1 := blk_cell hW.a 1; have g0 := blk_cell hW.g 0; have g1 := blk_cell hW.g 1; have g2 := blk_cell hW.g 2; go_simp) ?_
  simp only [Act.put, List.setIfInBounds_toArray, List.set_cons_zero, List.set_cons_succ]
  refine wpL_one 11 rfl (by kernel_rfl) (by rfl) (fun K hK => ?_)
  go_simp
  refine hK.out _ _ (fun h => absurd rfl h) ?_
  clear hK K
  refine wpL_done (by kernel_rfl) ?_
  refine NoPanic.normal ?_
  go_wp2_with fail
  go_ret
  exact ⟨rfl, HB.out.drew.trans (HB9.out.mono HB.out.size)⟩
set_option maxRecDepth 100000 in
set_option maxHeartbeats 3200000 in
theorem given_ok {w : World} {base P b r : Nat} {Hl : List Hd} {El : List Int} {vH vE : Value} (hlo : base ≤ P) (hP : w.heap[P]? = some (.cells #[pq b, pq r, vH, vE] 34)) (hH : w.ownsRow base 42 2 vH Hl.length (hcn Hl)) (hE : w.ownsRow base 3 1 vE El.length (icells El)) (hlH : Hl.length ≤ 1000) (hlE : El.length ≤ 1000) (sl : Nat) (gn env : Int) :
    Calls Try.prog 26 #[pq P, .agg #[i64 (sl : Nat), i64 gn], i64 0, .agg #[i64 (sl : Nat), i64 gn, i64 0], i64 env] w fun e w' => e = .returned (.bool true) ∧ Fr base [34, 42, 3] w w' ∧ ∃ vH' vE', w'.heap[P]? = some (.cells #[pq b, pq r, vH', vE'] 34) ∧ w'.ownsRow base 42 2 vH' (Hl ++ [(sl, gn)]).length (hcn (Hl ++ [(sl, gn)])) ∧ w'.ownsRow base 3 1 vE' (El ++ [env]).length (icells (El ++ [env])) ∧ ∀ k, k < w.heap.size → k ≠ P → some k ≠ vH.ownBlock → some k ≠ vE.ownBlock → w'.heap[k]? = w.heap[k]? := by
  have hPl := blk_lt hP
  have hblo : base ≤ w.heap.size := by omega
  obtain ⟨hBV, hK1, hK2⟩ := two_hg w (sl : Nat) gn (sl : Nat) gn 0
  obtain ⟨V, hV⟩ : ∃ V, V = (w.alloc (hO (sl : Nat) gn)).alloc (gO (sl : Nat) gn 0) := ⟨_, rfl⟩
  have HVe : Hid ((w.alloc (.cells #[i64 (sl : Nat), i64 gn] 42)).alloc (.cells #[i64 (sl : Nat), i64 gn, i64 0] 75) = V) := hV.symm
  rw [← hV] at hBV hK1 hK2
  have HB := hid hBV
  have HK1 := hid hK1
  have HK2 := hid hK2
  have hPV := blk_below hP hBV
  have hHV : V.ownsRow base 42 2 vH Hl.length (hcn Hl) := own_keep hH (fun k C hC => blk_below hC hBV)
  have hEV : V.ownsRow base 3 1 vE El.length (icells El) := own_keep hE (fun k C hC => blk_below hC hBV)
  obtain ⟨aoH, capH, rfl, _⟩ := own_slice hHV
  obtain ⟨aoE, capE, rfl, _⟩ := own_slice hEV
  have hown : ∀ q, some q = (Value.slice aoH Hl.length capH).ownBlock → q < w.heap.size := fun q hq => (hH.lt q hq.symm).2
  obtain ⟨ao2, cap2, w2, hrun, hown2, hfr2, hfar⟩ := app_far (te := 42) under31 info42x rfl (by omega) (by omega) (V := V.drew) (own_keep hHV (fun _ _ h => h)) [i64 (sl : Nat), i64 gn] rfl (two_one _ _) (by omega) (Nat.le_trans hblo hBV.size)
  have hsV : w.heap.size + 1 < V.heap.size := blk_lt hK2
  have hA2 : w2.heap[w.heap.size]? = some (hO (sl : Nat) gn) := (hfar _ (by show w.heap.size < V.heap.size; omega) (fun e => by have := hown _ e; omega)).trans hK1
  have hG2 : w2.heap[w.heap.size + 1]? = some (gO (sl : Nat) gn 0) := (hfar _ hsV (fun e => by have := hown _ e; omega)).trans hK2
  have hP2 : w2.heap[P]? = some (.cells #[pq b, pq r, .slice aoH Hl.length capH, .slice aoE El.length capE] 34) := hfr2.kept _ _ hPV (by rfl)
  have hE2 : w2.ownsRow base 3 1 (.slice aoE El.length capE) El.length (icells El) := own_keep hEV (fun k C hC => hfr2.kept k _ hC (by rfl))
  have HFar2 : Hid (∀ k, k < w.heap.size → k ≠ P → some k ≠ (Value.slice aoH Hl.length capH).ownBlock → (w2.setCell ⟨P, 2, none⟩ (.slice ao2 (Hl.length + 1) cap2)).heap[k]? = w.heap[k]?) := fun k hk hkP hkH => by
    rw [Below.heap_setCell _ _ _ _ (by exact hkP), hfar k (by show k < V.heap.size; have := hBV.size; omega) hkH]
    exact hBV.block k hk
  have HF2 : Hid (Fr base [34, 42, 3] w w2) := (Fr.of_below _ hBV hblo).trans ((show Fr base [42] V w2 from ⟨⟨hfr2.below.os, hfr2.below.tape, hfr2.below.output, hfr2.below.size, hfr2.below.block⟩, hfr2.kept⟩).mono (fun o ho => by
    cases o with
    | cells C t fr => simp [keeps] at ho ⊢; exact ho.2.1
    | _ => rfl))
  -- the store of H
  have HP3 : Hid ((w2.setCell ⟨P, 2, none⟩ (.slice ao2 (Hl.length + 1) cap2)).heap[P]? = some (.cells #[pq b, pq r, .slice ao2 (Hl.length + 1) cap2, .slice aoE El.length capE] 34)) := by
    have := heap_setCell_same w2 P 2 _ 34 (.slice ao2 (Hl.length + 1) cap2) hP2
    exact hid (by simpa using this)
  have hk3 : ∀ (k : Nat) (C : Array Value) (t : TypeId), t ≠ 34 → w2.heap[k]? = some (.cells C t) → (w2.setCell ⟨P, 2, none⟩ (.slice ao2 (Hl.length + 1) cap2)).heap[k]? = some (.cells C t) := fun k C t ht hC => by
    rw [Below.heap_setCell _ _ _ _ (fun e => by have hC' := hC; rw [show k = P from e, hP2] at hC'; simp only [Option.some.injEq, Obj.cells.injEq] at hC'; exact ht hC'.2.1.symm)]
    exact hC
  have HH3 : Hid ((w2.setCell ⟨P, 2, none⟩ (.slice ao2 (Hl.length + 1) cap2)).ownsRow base 42 2 (.slice ao2 (Hl.length + 1) cap2) (Hl ++ [(sl, gn)]).length (hcn (Hl ++ [(sl, gn)]))) := by
    rw [List.length_append, hcn_app]
    exact own_keep hown2 (fun k C hC => hk3 k C 42 (by decide) hC)
  have hE3 : (w2.setCell ⟨P, 2, none⟩ (.slice ao2 (Hl.length + 1) cap2)).ownsRow base 3 1 (.slice aoE El.length capE) El.length (icells El) := own_keep hE2 (fun k C hC => hk3 k C 3 (by decide) hC)
  have HA3 : Hid ((w2.setCell ⟨P, 2, none⟩ (.slice ao2 (Hl.length + 1) cap2)).heap[w.heap.size]? = some (hO (sl : Nat) gn)) := hk3 _ _ 42 (by decide) hA2
  have HG3 : Hid ((w2.setCell ⟨P, 2, none⟩ (.slice ao2 (Hl.length + 1) cap2)).heap[w.heap.size + 1]? = some (gO (sl : Nat) gn 0)) := hk3 _ _ 75 (by decide) hG2
  have HF3 : Hid (Fr base [34, 42, 3] w (w2.setCell ⟨P, 2, none⟩ (.slice ao2 (Hl.length + 1) cap2))) := HF2.out.trans (Fr.of_touch ((Touch.refl P w2).setCell rfl _) hP2 (by rfl) hlo)
  have HP2 := hid hP2
  have HA2 := hid hA2
  have HRUN := hid hrun
  have HSa : Hid (SqA w.heap.size P (sl : Nat) gn (.slice aoH Hl.length capH) V.drew) := ⟨HK1.out, blk_cell hPV 2⟩
  have HPV := hid hPV
  have HE3 := hid hE3
  clear hV hBV hK1 hK2 hPV hHV hEV hrun hown2 hfr2 hfar hA2 hG2 hP2 hE2 hE3 hk3 hown hP hH hE
  obtain ⟨n, hn⟩ : ∃ n, n = Hl.length := ⟨_, rfl⟩
  rw [← hn] at HRUN HSa HP2 HP3 HH3 HA3 HG3 HF3 HPV HE3 HFar2
  have HNn := hid hn
  clear hn
  go_enter Try.func26, Try.ntmps26
  go_upto_region 1 with fail
  rw [HVe.out]
  go_upto_region 2 with fail
  refine wp_region_noPanic ?_
  refine wp_region_last (SqA w.heap.size P (sl : Nat) gn (.slice aoH n capH)) 10 (by kernel_rfl) ?_
  refine wpL_take 0 13 (pq P) [] rfl rfl (by kernel_rfl) (by decide) (by kernel_rfl) (by kernel_rfl) (by kernel_rfl) (fun _ _ _ h => h) HSa.out (by rfl) (fun W hW => by have a0 := blk_cell hW.a 0; have a1 := blk_cell hW.a 1; have p2 := hW.p; go_simp) ?_
  simp only [Act.put, List.setIfInBounds_toArray, List.set_cons_zero, List.set_cons_succ]
  refine wpL_take 1 14 (pq P) [] rfl rfl (by kernel_rfl) (by decide) (by kernel_rfl) (by kernel_rfl) (by kernel_rfl) (fun _ _ _ h => h) HSa.out (by rfl) (fun W hW => by have a0 := blk_cell hW.a 0; have a1 := blk_cell hW.a 1; have p2 := hW.p; go_simp) ?_
  simp only [Act.put, List.setIfInBounds_toArray, List.set_cons_zero, List.set_cons_succ]
  refine wpL_take 2 15 (pq P) [] rfl rfl (by kernel_rfl) (by decide) (by kernel_rfl) (by kernel_rfl) (by kernel_rfl) (fun _ _ _ h => h) HSa.out (by rfl) (fun W hW => by have a0 := blk_cell hW.a 0; have a1 := blk_cell hW.a 1; have p2 := hW.p; go_simp) ?_
  simp only [Act.put, List.setIfInBounds_toArray, List.set_cons_zero, List.set_cons_succ]
  refine wpL_take 3 16 (.pointer (some ⟨P, 2, none⟩)) [] rfl rfl (by kernel_rfl) (by decide) (by kernel_rfl) (by kernel_rfl) (by kernel_rfl) (fun _ _ _ h => h) HSa.out (by rfl) (fun W hW => by have a0 := blk_cell hW.a 0; have a1 := blk_cell hW.a 1; have p2 := hW.p; go_simp) ?_
  simp only [Act.put, List.setIfInBounds_toArray, List.set_cons_zero, List.set_cons_succ]
  refine wpL_take 4 17 (.slice aoH n capH) [] rfl rfl (by kernel_rfl) (by decide) (by kernel_rfl) (by kernel_rfl) (by kernel_rfl) (fun _ _ _ h => h) HSa.out (by rfl) (fun W hW => by have a0 := blk_cell hW.a 0; have a1 := blk_cell hW.a 1; have p2 := hW.p; go_simp) ?_
  simp only [Act.put, List.setIfInBounds_toArray, List.set_cons_zero, List.set_cons_succ]
  refine wpL_take 5 18 (.agg #[i64 (sl : Nat), i64 gn]) [] rfl rfl (by kernel_rfl) (by decide) (by kernel_rfl) (by kernel_rfl) (by kernel_rfl) (fun _ _ _ h => h) HSa.out (by rfl) (fun W hW => by have a0 := blk_cell hW.a 0; have a1 := blk_cell hW.a 1; have p2 := hW.p; go_simp) ?_
  simp only [Act.put, List.setIfInBounds_toArray, List.set_cons_zero, List.set_cons_succ]
  refine wpL_one 6 rfl (by kernel_rfl) (by rfl) (fun K hK => ?_)
  go_simp
  refine hK.out _ _ (fun _ => ⟨blk_alloc (w := V.drew) HK1.out _, blk_cell (blk_alloc (w := V.drew) HPV.out _) 2⟩) ?_
  clear hK K
  refine wpL_one 7 rfl (by kernel_rfl) (by rfl) (fun K hK => ?_)
  refine wp_app_run (.tmp 17) (.tmp 19) 31 rfl _ _ rfl rfl 31 rfl _ _ HRUN.out ?_
  refine hK.out _ _ (fun _ => ⟨HA2.out, blk_cell HP2.out 2⟩) ?_
  clear hK K
  refine wpL_one 8 rfl (by kernel_rfl) (by rfl) (fun K hK => ?_)
  go_simp
  refine hK.out _ _ (fun _ => ⟨HA2.out, blk_cell HP2.out 2⟩) ?_
  clear hK K
  refine wpL_one 9 rfl (by kernel_rfl) (by rfl) (fun K hK => ?_)
  go_simp
  refine hK.out _ _ (fun _ => ⟨HA2.out, blk_cell HP2.out 2⟩) ?_
  clear hK K
  refine wpL_one 10 rfl (by kernel_rfl) (by rfl) (fun K hK => ?_)
  have r0 : w2.cell? ⟨P, 2, none⟩ = some (.slice aoH n capH) := blk_cell HP2.out 2
  have rf : w2.frozen? ⟨P, 2, none⟩ = false := blk_frozen HP2.out 2
  go_simp
  refine hK.out _ _ (fun h => absurd rfl h) ?_
  clear hK K r0 rf
  refine wpL_done (by kernel_rfl) ?_
  refine NoPanic.normal ?_
  clear HSa HP2 HA2 HRUN HF2
  generalize w2.setCell ⟨P, 2, none⟩ (.slice ao2 (n + 1) cap2) = U at *
  have hsU : base ≤ U.heap.size := Nat.le_trans hblo HF3.out.size
  obtain ⟨ao5, cap5, w5, hrun, hown5, hfr5, hfar5⟩ := app_far (te := 3) under32 info3x rfl (by omega) (by omega) HE3.out [i64 env] rfl (by intro u hu; simp at hu; subst hu; rfl) (by omega) hsU
  have hP5 : w5.heap[P]? = some (.cells #[pq b, pq r, .slice ao2 (n + 1) cap2, .slice aoE El.length capE] 34) := hfr5.kept _ _ HP3.out (by rfl)
  have hk5 : ∀ (k : Nat) (C : Array Value) (t : TypeId), t ≠ 34 → w5.heap[k]? = some (.cells C t) → (w5.setCell ⟨P, 3, none⟩ (.slice ao5 (El.length + 1) cap5)).heap[k]? = some (.cells C t) := fun k C t ht hC => by
    rw [Below.heap_setCell _ _ _ _ (fun e => by have hC' := hC; rw [show k = P from e, hP5] at hC'; simp only [Option.some.injEq, Obj.cells.injEq] at hC'; exact ht hC'.2.1.symm)]
    exact hC
  have HP6 : Hid ((w5.setCell ⟨P, 3, none⟩ (.slice ao5 (El.length + 1) cap5)).heap[P]? = some (.cells #[pq b, pq r, .slice ao2 (n + 1) cap2, .slice ao5 (El.length + 1) cap5] 34)) := by
    have := heap_setCell_same w5 P 3 _ 34 (.slice ao5 (El.length + 1) cap5) hP5
    exact hid (by simpa using this)
  have HH6 : Hid ((w5.setCell ⟨P, 3, none⟩ (.slice ao5 (El.length + 1) cap5)).ownsRow base 42 2 (.slice ao2 (n + 1) cap2) (Hl ++ [(sl, gn)]).length (hcn (Hl ++ [(sl, gn)]))) := own_keep HH3.out (fun k C hC => hk5 k C 42 (by decide) (hfr5.kept k _ hC (by rfl)))
  have HE6 : Hid ((w5.setCell ⟨P, 3, none⟩ (.slice ao5 (El.length + 1) cap5)).ownsRow base 3 1 (.slice ao5 (El.length + 1) cap5) (El ++ [env]).length (icells (El ++ [env]))) := by
    rw [List.length_append, icells_app]
    exact own_keep hown5 (fun k C hC => hk5 k C 3 (by decide) hC)
  have HA6 : Hid ((w5.setCell ⟨P, 3, none⟩ (.slice ao5 (El.length + 1) cap5)).heap[w.heap.size]? = some (hO (sl : Nat) gn)) := hk5 _ _ 42 (by decide) (hfr5.kept _ _ HA3.out (by rfl))
  have HG6 : Hid ((w5.setCell ⟨P, 3, none⟩ (.slice ao5 (El.length + 1) cap5)).heap[w.heap.size + 1]? = some (gO (sl : Nat) gn 0)) := hk5 _ _ 75 (by decide) (hfr5.kept _ _ HG3.out (by rfl))
  have HF6 : Hid (Fr base [34, 42, 3] w (w5.setCell ⟨P, 3, none⟩ (.slice ao5 (El.length + 1) cap5))) := (HF3.out.trans (hfr5.mono (fun o ho => by
    cases o with
    | cells C t fr => simp [keeps] at ho ⊢; exact ho.2.2
    | _ => rfl))).trans (Fr.of_touch ((Touch.refl P w5).setCell rfl _) hP5 (by rfl) hlo)
  have HFar6 : Hid (∀ k, k < w.heap.size → k ≠ P → some k ≠ (Value.slice aoH n capH).ownBlock → some k ≠ (Value.slice aoE El.length capE).ownBlock → (w5.setCell ⟨P, 3, none⟩ (.slice ao5 (El.length + 1) cap5)).heap[k]? = w.heap[k]?) := fun k hk hkP hkH hkE => by
    rw [Below.heap_setCell _ _ _ _ (by exact hkP), hfar5 k (by have := HF3.out.size; omega) hkE]
    exact HFar2.out k hk hkP hkH
  have HRUN := hid hrun
  have u3 : U.cell? ⟨P, 3, none⟩ = some (.slice aoE El.length capE) := blk_cell HP3.out 3
  have v3 : w5.cell? ⟨P, 3, none⟩ = some (.slice aoE El.length capE) := blk_cell hP5 3
  have vf : w5.frozen? ⟨P, 3, none⟩ = false := blk_frozen hP5 3
  clear hrun hown5 hfr5 hP5 hk5 hfar5
  generalize El.length = m at *
  go_upto_region 4 with (at_builtin; refine wpList_app_run rfl (.tmp 27) (.tmp 29) 32 rfl _ _ rfl rfl 32 rfl _ _ HRUN.out ?_)
  clear u3 v3 vf HRUN
  generalize w5.setCell ⟨P, 3, none⟩ (.slice ao5 (m + 1) cap5) = U6 at *
  have HS : Hid (SqR w.heap.size (sl : Nat) gn 0 U6.drew) := ⟨HA6.out, HG6.out⟩
  refine wp_region_noPanic ?_
  refine wp_region_last (SqR w.heap.size (sl : Nat) gn 0) 11 (by kernel_rfl) ?_
  refine wpL_take 0 33 (.agg #[i64 (sl : Nat), i64 gn]) [] rfl rfl (by kernel_rfl) (by decide) (by kernel_rfl) (by kernel_rfl) (by kernel_rfl) (fun _ _ _ h => h) HS.out (by rfl) (fun W hW => by have a0 := blk_cell hW.a 0; have a1 := blk_cell hW.a 1; have g0 := blk_cell hW.g 0; have g1 := blk_cell hW.g 1; have g2 := blk_cell hW.g 2; go_simp) ?_
  simp only [Act.put, List.setIfInBounds_toArray, List.set_cons_zero, List.set_cons_succ]
  refine wpL_take 2 35 (.pointer (some ⟨w.heap.size + 1, 0, none⟩)) [] rfl rfl (by kernel_rfl) (by decide) (by kernel_rfl) (by kernel_rfl) (by kernel_rfl) (fun _ _ _ h => h) HS.out (by rfl) (fun W hW => by have a0 := blk_cell hW.a 0; have a1 := blk_cell hW.a 1; have g0 := blk_cell hW.g 0; have g1 := blk_cell hW.g 1; have g2 := blk_cell hW.g 2; go_simp) ?_
  simp only [Act.put, List.setIfInBounds_toArray, List.set_cons_zero, List.set_cons_succ]
  refine wpL_take 3 36 (.agg #[i64 (sl : Nat), i64 gn]) [] rfl rfl (by kernel_rfl) (by decide) (by kernel_rfl) (by kernel_rfl) (by kernel_rfl) (fun _ _ _ h => h) HS.out (by rfl) (fun W hW => by have a0 := blk_cell hW.a 0; have a1 := blk_cell hW.a 1; have g0 := blk_cell hW.g 0; have g1 := blk_cell hW.g 1; have g2 := blk_cell hW.g 2; go_simp) ?_
  simp only [Act.put, List.setIfInBounds_toArray, List.set_cons_zero, List.set_cons_succ]
  refine wpL_one 1 rfl (by kernel_rfl) (by rfl) (fun K hK => ?_)
  go_simp
  refine (ref_ok _ (sl : Nat) gn).mono ?_
  rintro e2 w9 ⟨rfl, hb9⟩
  have HS2 : Hid (SqR w.heap.size (sl : Nat) gn 0 w9) := ⟨blk_below (w := U6.drew) HA6.out hb9, blk_below (w := U6.drew) HG6.out hb9⟩
  have HB9 := hid hb9
  clear hb9
  go_simp
  refine hK.out _ _ (fun _ => HS2.out) ?_
  clear hK K
  refine wpL_take 4 37 (.bool true) [] rfl rfl (by kernel_rfl) (by decide) (by kernel_rfl) (by kernel_rfl) (by kernel_rfl) (fun _ _ _ h => h) HS2.out (by rfl) (fun W hW => by have z0 := eqIn51 (sl : Nat) gn (sl : Nat) gn W; simp only [and_self, decide_true] at z0; go_simp) ?_
  simp only [Act.put, List.setIfInBounds_toArray, List.set_cons_zero, List.set_cons_succ]
  refine wpL_take 5 38 (.bool true) [] rfl rfl (by kernel_rfl) (by decide) (by kernel_rfl) (by kernel_rfl) (by kernel_rfl) (fun _ _ _ h => h) HS2.out (by rfl) (fun W hW => by have a0 := blk_cell hW.a 0; have a1 := blk_cell hW.a 1; have g0 := blk_cell hW.g 0; have g1 := blk_cell hW.g 1; have g2 := blk_cell hW.g 2; go_simp) ?_
  simp only [Act.put, List.setIfInBounds_toArray, List.set_cons_zero, List.set_cons_succ]
  refine wpL_take 6 39 (i64 0) [] rfl rfl (by kernel_rfl) (by decide) (by kernel_rfl) (by kernel_rfl) (by kernel_rfl) (fun _ _ _ h => h) HS2.out (by rfl) (fun W hW => by have a0 := blk_cell hW.a 0; have a1 := blk_cell hW.a 1; have g0 := blk_cell hW.g 0; have g1 := blk_cell hW.g 1; have g2 := blk_cell hW.g 2; go_simp) ?_
  simp only [Act.put, List.setIfInBounds_toArray, List.set_cons_zero, List.set_cons_succ]
  refine wpL_take 7 40 (.pointer (some ⟨w.heap.size + 1, 2, none⟩)) [] rfl rfl (by kernel_rfl) (by decide) (by kernel_rfl) (by kernel_rfl) (by kernel_rfl) (fun _ _ _ h => h) HS2.out (by rfl) (fun W hW => by have a0 := blk_cell hW.a 0; have a1 := blk_cell hW.a 1; have g0 := blk_cell hW.g 0; have g1 := blk_cell hW.g 1; have g2 := blk_cell hW.g 2; go_simp) ?_
  simp only [Act.put, List.setIfInBounds_toArray, List.set_cons_zero, List.set_cons_succ]
  refine wpL_take 8 41 (i64 0) [] rfl rfl (by kernel_rfl) (by decide) (by kernel_rfl) (by kernel_rfl) (by kernel_rfl) (fun _ _ _ h => h) HS2.out (by rfl) (fun W hW => by have a0 := blk_cell hW.a 0; have a1 := blk_cell hW.a 1; have g0 := blk_cell hW.g 0; have g1 := blk_cell hW.g 1; have g2 := blk_cell hW.g 2; go_simp) ?_
  simp only [Act.put, List.setIfInBounds_toArray, List.set_cons_zero, List.set_cons_succ]
  refine wpL_take 9 42 (.bool true) [] rfl rfl (by kernel_rfl) (by decide) (by kernel_rfl) (by kernel_rfl) (by kernel_rfl) (fun _ _ _ h => h) HS2.out (by rfl) (fun W hW => by have a0 := blk_cell hW.a 0; have a1 := blk_cell hW.a 1; have g0 := blk_cell hW.g 0; have g1 := blk_cell hW.g 1; have g2 := blk_cell hW.g 2; go_simp) ?_
  simp only [Act.put, List.setIfInBounds_toArray, List.set_cons_zero, List.set_cons_succ]
  refine wpL_take 10 43 (.bool true) [] rfl rfl (by kernel_rfl) (by decide) (by kernel_rfl) (by kernel_rfl) (by kernel_rfl) (fun _ _ _ h => h) HS2.out (by rfl) (fun W hW => by have a0 := blk_cell hW.a 0; have a1 := blk_cell hW.a 1; have g0 := blk_cell hW.g 0; have g1 := blk_cell hW.g 1; have g2 := blk_cell hW.g 2; go_simp) ?_
  simp only [Act.put, List.setIfInBounds_toArray, List.set_cons_zero, List.set_cons_succ]
  refine wpL_one 11 rfl (by kernel_rfl) (by rfl) (fun K hK => ?_)
  go_simp
  refine hK.out _ _ (fun h => absurd rfl h) ?_
  clear hK K
  refine wpL_done (by kernel_rfl) ?_
  refine NoPanic.normal ?_
  go_wp2_with fail
  go_ret
  exact ⟨rfl, HF6.out.trans (Fr.of_drew (Fr.of_below (w := U6.drew) _ HB9.out (Nat.le_trans hblo HF6.out.size))), _, _, blk_below (w := U6.drew) HP6.out HB9.out, own_keep HH6.out (fun k C hC => blk_below (w := U6.drew) hC HB9.out), own_keep HE6.out (fun k C hC => blk_below (w := U6.drew) hC HB9.out), fun k hk hkP hkH hkE => by
    have h9 := HB9.out.block k (show k < U6.heap.size by have := HF6.out.size; omega)
    rw [h9]
    exact HFar6.out k hk hkP (by rw [HNn.out]; exact hkH) (by cases aoE <;> exact hkE)⟩
end Go.Proofs.Ytcffodkpflfeoaa
