/- envs.Post: its contract; no statement is proved in this text. -/
import Derived.Test.YtopbgeoledocaaaShift
namespace Go.Proofs.Ytopbgeoledocaaa
open Go.ChangeShapes Go.WideShapes Go.ChangeAt Go.RowKit Go.Deep
attribute [local go_sem ↓] Go.wp_at_zero Go.wp_at_succ

abbrev upV (k x : Int) : Value := .agg #[i64 k, i64 x]
abbrev upO (k x : Int) : Obj := .cells #[i64 k, i64 x] 31
theorem post_none (w : World) (v0 : Value) (n k x : Int) (HO : Calls Try.prog 27 #[v0, i64 n] (w.alloc (upO k x)) fun e w' => e = .returned (.pointer none) ∧ w' = w.alloc (upO k x)) : Calls Try.prog 18 #[v0, i64 n, upV k x] w fun e w' => e = .returned (i64 6) ∧ Below w.heap.size w w' := by
  have HO := hid HO
  go_enter Try.func18, Try.ntmps18
  go_wp2_with fail
  refine HO.out.mono ?_
  rintro e v1 ⟨rfl, hv⟩
  subst hv
  go_wp2_with fail
  go_ret
  exact ⟨rfl, below_one w _⟩
theorem post_arg (w : World) (T b : Nat) (n k x : Int) (hk : k < 1 ∨ 3 < k) (HO : Calls Try.prog 27 #[pq T, i64 n] (w.alloc (upO k x)) fun e w' => e = .returned (pq b) ∧ w' = w.alloc (upO k x)) : Calls Try.prog 18 #[pq T, i64 n, upV k x] w fun e w' => e = .returned (i64 1) ∧ Below w.heap.size w w' := by
  have HO := hid HO
  rcases hk with hk | hk
  · go_enter Try.func18, Try.ntmps18
    go_wp2_with fail
    refine HO.out.mono ?_
    rintro e v1 ⟨rfl, hv⟩
    subst hv
    go_wp2_with fail
    go_ret
    exact ⟨rfl, below_one w _⟩
  · have hk2 : ¬ k < 1 := by omega
    go_enter Try.func18, Try.ntmps18
    go_wp2_with fail
    refine HO.out.mono ?_
    rintro e v1 ⟨rfl, hv⟩
    subst hv
    go_wp2_with fail
    go_ret
    exact ⟨rfl, below_one w _⟩
structure Sp9 (b U : Nat) (m k x : Int) (W : World) : Prop where
  a : W.cell? ⟨b, 9, none⟩ = some (i64 m)
  u0 : W.cell? ⟨U, 0, none⟩ = some (i64 k)
  u1 : W.cell? ⟨U, 1, none⟩ = some (i64 x)
set_option maxRecDepth 100000 in
set_option maxHeartbeats 3200000 in
theorem post0 (w : World) (T b : Nat) (n k x v k0 n0 k1 n1 k2 n2 k3 n3 l : Int) (hk1 : 1 ≤ k) (hk3 : k ≤ 3) (hl : 0 ≤ l ∧ l ≤ 1000000) (hb : w.heap[b]? = some (.cells #[i64 v, i64 k0, i64 n0, i64 k1, i64 n1, i64 k2, i64 n2, i64 k3, i64 n3, i64 0, i64 l] 66)) (HO : Calls Try.prog 27 #[pq T, i64 n] (w.alloc (upO k x)) fun e w' => e = .returned (pq b) ∧ w' = w.alloc (upO k x)) :
    Calls Try.prog 18 #[pq T, i64 n, upV k x] w fun e w' => e = .returned (i64 0) ∧ w'.heap[b]? = some (.cells #[i64 v, i64 k, i64 x, i64 k1, i64 n1, i64 k2, i64 n2, i64 k3, i64 n3, i64 1, i64 l] 66) ∧ Touch b w w' := by
  have HO := hid HO
  have hlt := blk_lt hb
  have HB : Hid ((w.alloc (upO k x)).heap[b]? = some (.cells #[i64 v, i64 k0, i64 n0, i64 k1, i64 n1, i64 k2, i64 n2, i64 k3, i64 n3, i64 0, i64 l] 66)) := blk_alloc hb _
  have HU : Hid ((w.alloc (upO k x)).heap[w.heap.size]? = some (upO k x)) := heap_last w _
  have HT : Hid (Touch b w (w.alloc (upO k x))) := (Touch.refl b w).alloc _
  have g1 : ¬ k < 1 := by omega
  have g3 : ¬ 3 < k := by omega
  obtain ⟨hl0, hl1⟩ := hl
  clear hb
  go_enter Try.func18, Try.ntmps18
  go_wp2_with fail
  refine HO.out.mono ?_
  rintro e v1 ⟨rfl, hv⟩
  subst hv
  have c9 : (w.alloc (upO k x)).cell? ⟨b, 9, none⟩ = some (i64 0) := blk_cell HB.out 9
  have q0 : (w.alloc (upO k x)).cell? ⟨w.heap.size, 0, none⟩ = some (i64 k) := blk_cell HU.out 0
  generalize w.alloc (upO k x) = X at *
  go_upto_region 9 with fail
  have HS : Hid (Sp9 b w.heap.size 0 k x X.drew) := ⟨blk_cell HB.out 9, blk_cell HU.out 0, blk_cell HU.out 1⟩
  refine wp_region_noPanic ?_
  refine wp_region_last (Sp9 b w.heap.size 0 k x) 9 (by kernel_rfl) ?_
  refine wpL_take 0 35 (pq b) [6, 7, 8] rfl rfl (by kernel_rfl) (by decide) (by kernel_rfl) (by kernel_rfl) (by kernel_rfl) (fun _ _ _ h => h) HS.out (by rfl) (fun W hW => by obtain ⟨a0, a1, a2⟩ := hW; go_simp) ?_
  simp only [Act.put, List.setIfInBounds_toArray, List.set_cons_zero, List.set_cons_succ]
  refine wpL_take 1 36 (pq b) [2, 3, 4, 8] rfl rfl (by kernel_rfl) (by decide) (by kernel_rfl) (by kernel_rfl) (by kernel_rfl) (fun _ _ _ h => h) HS.out (by rfl) (fun W hW => by obtain ⟨a0, a1, a2⟩ := hW; go_simp) ?_
  simp only [Act.put, List.setIfInBounds_toArray, List.set_cons_zero, List.set_cons_succ]
  refine wpL_take 2 37 (pq b) [3, 4, 8] rfl rfl (by kernel_rfl) (by decide) (by kernel_rfl) (by kernel_rfl) (by kernel_rfl) (fun _ _ _ h => h) HS.out (by rfl) (fun W hW => by obtain ⟨a0, a1, a2⟩ := hW; go_simp) ?_
  simp only [Act.put, List.setIfInBounds_toArray, List.set_cons_zero, List.set_cons_succ]
  refine wpL_take 3 38 (.pointer (some ⟨b, 9, none⟩)) [4, 8] rfl rfl (by kernel_rfl) (by decide) (by kernel_rfl) (by kernel_rfl) (by kernel_rfl) (fun _ _ _ h => h) HS.out (by rfl) (fun W hW => by obtain ⟨a0, a1, a2⟩ := hW; go_simp) ?_
  simp only [Act.put, List.setIfInBounds_toArray, List.set_cons_zero, List.set_cons_succ]
  refine wpL_take 4 39 (i64 0) [8] rfl rfl (by kernel_rfl) (by decide) (by kernel_rfl) (by kernel_rfl) (by kernel_rfl) (fun _ _ _ h => h) HS.out (by rfl) (fun W hW => by obtain ⟨a0, a1, a2⟩ := hW; go_simp) ?_
  simp only [Act.put, List.setIfInBounds_toArray, List.set_cons_zero, List.set_cons_succ]
  refine wpL_take 5 40 (upV k x) [] rfl rfl (by kernel_rfl) (by decide) (by kernel_rfl) (by kernel_rfl) (by kernel_rfl) (fun _ _ _ h => h) HS.out (by rfl) (fun W hW => by obtain ⟨a0, a1, a2⟩ := hW; go_simp) ?_
  simp only [Act.put, List.setIfInBounds_toArray, List.set_cons_zero, List.set_cons_succ]
  refine wpL_take 6 41 (pq b) [7, 8] rfl rfl (by kernel_rfl) (by decide) (by kernel_rfl) (by kernel_rfl) (by kernel_rfl) (fun _ _ _ h => h) HS.out (by rfl) (fun W hW => by obtain ⟨a0, a1, a2⟩ := hW; go_simp) ?_
  simp only [Act.put, List.setIfInBounds_toArray, List.set_cons_zero, List.set_cons_succ]
  refine wpL_take 7 42 (.pointer (some ⟨b, 1, none⟩)) [8] rfl rfl (by kernel_rfl) (by decide) (by kernel_rfl) (by kernel_rfl) (by kernel_rfl) (fun _ _ _ h => h) HS.out (by rfl) (fun W hW => by obtain ⟨a0, a1, a2⟩ := hW; go_simp) ?_
  simp only [Act.put, List.setIfInBounds_toArray, List.set_cons_zero, List.set_cons_succ]
  refine wpL_take 8 43 (.pointer (some ⟨b, 1, none⟩)) [] rfl rfl (by kernel_rfl) (by decide) (by kernel_rfl) (by kernel_rfl) (by kernel_rfl) (fun _ _ _ h => h) HS.out (by rfl) (fun W hW => by obtain ⟨a0, a1, a2⟩ := hW; go_simp) ?_
  simp only [Act.put, List.setIfInBounds_toArray, List.set_cons_zero, List.set_cons_succ]
  have y0 : X.cell? ⟨b, 1, none⟩ = some (i64 k0) := blk_cell HB.out 1
  have y1 : X.cell? ⟨b, 2, none⟩ = some (i64 n0) := blk_cell HB.out 2
  have yf : ∀ j, X.frozen? ⟨b, j, none⟩ = false := blk_frozen HB.out
  refine wpL_one 9 rfl (by kernel_rfl) (by rfl) (fun K hK => ?_)
  go_simp
  refine hK.out _ _ (fun h => absurd rfl h) ?_
  clear hK K
  refine wpL_done (by kernel_rfl) ?_
  refine NoPanic.normal ?_
  have HB2 : Hid (((X.setCell ⟨b, 1, none⟩ (i64 k)).setCell ⟨b, 2, none⟩ (i64 x)).drew.heap[b]? = some (.cells #[i64 v, i64 k, i64 x, i64 k1, i64 n1, i64 k2, i64 n2, i64 k3, i64 n3, i64 0, i64 l] 66)) := by
    have h1 := heap_setCell_same X b 1 _ 66 (i64 k) HB.out
    exact heap_setCell_same _ b 2 _ 66 (i64 x) h1
  have HT2 : Hid (Touch b w ((X.setCell ⟨b, 1, none⟩ (i64 k)).setCell ⟨b, 2, none⟩ (i64 x)).drew) := ((HT.out.setCell rfl _).setCell rfl _).drew
  generalize ((X.setCell ⟨b, 1, none⟩ (i64 k)).setCell ⟨b, 2, none⟩ (i64 x)).drew = Y at *
  have t0 : Y.cell? ⟨b, 9, none⟩ = some (i64 0) := blk_cell HB2.out 9
  have tf : ∀ j, Y.frozen? ⟨b, j, none⟩ = false := blk_frozen HB2.out
  have HF1 : Hid ((Y.setCell ⟨b, 9, none⟩ (i64 1)).heap[b]? = some (.cells #[i64 v, i64 k, i64 x, i64 k1, i64 n1, i64 k2, i64 n2, i64 k3, i64 n3, i64 1, i64 l] 66)) := heap_setCell_same Y b 9 _ 66 _ HB2.out
  have HF2 : Hid (Touch b w (Y.setCell ⟨b, 9, none⟩ (i64 1))) := HT2.out.setCell rfl _
  clear y0 y1 yf
  go_wp2_with fail
  go_ret
  exact ⟨rfl, HF1.out, HF2.out⟩
set_option maxRecDepth 100000 in
set_option maxHeartbeats 3200000 in
theorem post1 (w : World) (T b : Nat) (n k x v k0 n0 k1 n1 k2 n2 k3 n3 l : Int) (hk1 : 1 ≤ k) (hk3 : k ≤ 3) (hl : 0 ≤ l ∧ l ≤ 1000000) (hb : w.heap[b]? = some (.cells #[i64 v, i64 k0, i64 n0, i64 k1, i64 n1, i64 k2, i64 n2, i64 k3, i64 n3, i64 1, i64 l] 66)) (HO : Calls Try.prog 27 #[pq T, i64 n] (w.alloc (upO k x)) fun e w' => e = .returned (pq b) ∧ w' = w.alloc (upO k x)) :
    Calls Try.prog 18 #[pq T, i64 n, upV k x] w fun e w' => e = .returned (i64 0) ∧ w'.heap[b]? = some (.cells #[i64 v, i64 k0, i64 n0, i64 k, i64 x, i64 k2, i64 n2, i64 k3, i64 n3, i64 2, i64 l] 66) ∧ Touch b w w' := by
  have HO := hid HO
  have hlt := blk_lt hb
  have HB : Hid ((w.alloc (upO k x)).heap[b]? = some (.cells #[i64 v, i64 k0, i64 n0, i64 k1, i64 n1, i64 k2, i64 n2, i64 k3, i64 n3, i64 1, i64 l] 66)) := blk_alloc hb _
  have HU : Hid ((w.alloc (upO k x)).heap[w.heap.size]? = some (upO k x)) := heap_last w _
  have HT : Hid (Touch b w (w.alloc (upO k x))) := (Touch.refl b w).alloc _
  have g1 : ¬ k < 1 := by omega
  have g3 : ¬ 3 < k := by omega
  obtain ⟨hl0, hl1⟩ := hl
  clear hb
  go_enter Try.func18, Try.ntmps18
  go_wp2_with fail
  refine HO.out.mono ?_
  rintro e v1 ⟨rfl, hv⟩
  subst hv
  have c9 : (w.alloc (upO k x)).cell? ⟨b, 9, none⟩ = some (i64 1) := blk_cell HB.out 9
  have q0 : (w.alloc (upO k x)).cell? ⟨w.heap.size, 0, none⟩ = some (i64 k) := blk_cell HU.out 0
  generalize w.alloc (upO k x) = X at *
  go_upto_region 9 with fail
  have HS : Hid (Sp9 b w.heap.size 1 k x X.drew) := ⟨blk_cell HB.out 9, blk_cell HU.out 0, blk_cell HU.out 1⟩
  refine wp_region_noPanic ?_
  refine wp_region_last (Sp9 b w.heap.size 1 k x) 9 (by kernel_rfl) ?_
  refine wpL_take 0 35 (pq b) [6, 7, 8] rfl rfl (by kernel_rfl) (by decide) (by kernel_rfl) (by kernel_rfl) (by kernel_rfl) (fun _ _ _ h => h) HS.out (by rfl) (fun W hW => by obtain ⟨a0, a1, a2⟩ := hW; go_simp) ?_
  simp only [Act.put, List.setIfInBounds_toArray, List.set_cons_zero, List.set_cons_succ]
  refine wpL_take 1 36 (pq b) [2, 3, 4, 8] rfl rfl (by kernel_rfl) (by decide) (by kernel_rfl) (by kernel_rfl) (by kernel_rfl) (fun _ _ _ h => h) HS.out (by rfl) (fun W hW => by obtain ⟨a0, a1, a2⟩ := hW; go_simp) ?_
  simp only [Act.put, List.setIfInBounds_toArray, List.set_cons_zero, List.set_cons_succ]
  refine wpL_take 2 37 (pq b) [3, 4, 8] rfl rfl (by kernel_rfl) (by decide) (by kernel_rfl) (by kernel_rfl) (by kernel_rfl) (fun _ _ _ h => h) HS.out (by rfl) (fun W hW => by obtain ⟨a0, a1, a2⟩ := hW; go_simp) ?_
  simp only [Act.put, List.setIfInBounds_toArray, List.set_cons_zero, List.set_cons_succ]
  refine wpL_take 3 38 (.pointer (some ⟨b, 9, none⟩)) [4, 8] rfl rfl (by kernel_rfl) (by decide) (by kernel_rfl) (by kernel_rfl) (by kernel_rfl) (fun _ _ _ h => h) HS.out (by rfl) (fun W hW => by obtain ⟨a0, a1, a2⟩ := hW; go_simp) ?_
  simp only [Act.put, List.setIfInBounds_toArray, List.set_cons_zero, List.set_cons_succ]
  refine wpL_take 4 39 (i64 1) [8] rfl rfl (by kernel_rfl) (by decide) (by kernel_rfl) (by kernel_rfl) (by kernel_rfl) (fun _ _ _ h => h) HS.out (by rfl) (fun W hW => by obtain ⟨a0, a1, a2⟩ := hW; go_simp) ?_
  simp only [Act.put, List.setIfInBounds_toArray, List.set_cons_zero, List.set_cons_succ]
  refine wpL_take 5 40 (upV k x) [] rfl rfl (by kernel_rfl) (by decide) (by kernel_rfl) (by kernel_rfl) (by kernel_rfl) (fun _ _ _ h => h) HS.out (by rfl) (fun W hW => by obtain ⟨a0, a1, a2⟩ := hW; go_simp) ?_
  simp only [Act.put, List.setIfInBounds_toArray, List.set_cons_zero, List.set_cons_succ]
  refine wpL_take 6 41 (pq b) [7, 8] rfl rfl (by kernel_rfl) (by decide) (by kernel_rfl) (by kernel_rfl) (by kernel_rfl) (fun _ _ _ h => h) HS.out (by rfl) (fun W hW => by obtain ⟨a0, a1, a2⟩ := hW; go_simp) ?_
  simp only [Act.put, List.setIfInBounds_toArray, List.set_cons_zero, List.set_cons_succ]
  refine wpL_take 7 42 (.pointer (some ⟨b, 1, none⟩)) [8] rfl rfl (by kernel_rfl) (by decide) (by kernel_rfl) (by kernel_rfl) (by kernel_rfl) (fun _ _ _ h => h) HS.out (by rfl) (fun W hW => by obtain ⟨a0, a1, a2⟩ := hW; go_simp) ?_
  simp only [Act.put, List.setIfInBounds_toArray, List.set_cons_zero, List.set_cons_succ]
  refine wpL_take 8 43 (.pointer (some ⟨b, 3, none⟩)) [] rfl rfl (by kernel_rfl) (by decide) (by kernel_rfl) (by kernel_rfl) (by kernel_rfl) (fun _ _ _ h => h) HS.out (by rfl) (fun W hW => by obtain ⟨a0, a1, a2⟩ := hW; go_simp) ?_
  simp only [Act.put, List.setIfInBounds_toArray, List.set_cons_zero, List.set_cons_succ]
  have y0 : X.cell? ⟨b, 3, none⟩ = some (i64 k1) := blk_cell HB.out 3
  have y1 : X.cell? ⟨b, 4, none⟩ = some (i64 n1) := blk_cell HB.out 4
  have yf : ∀ j, X.frozen? ⟨b, j, none⟩ = false := blk_frozen HB.out
  refine wpL_one 9 rfl (by kernel_rfl) (by rfl) (fun K hK => ?_)
  go_simp
  refine hK.out _ _ (fun h => absurd rfl h) ?_
  clear hK K
  refine wpL_done (by kernel_rfl) ?_
  refine NoPanic.normal ?_
  have HB2 : Hid (((X.setCell ⟨b, 3, none⟩ (i64 k)).setCell ⟨b, 4, none⟩ (i64 x)).drew.heap[b]? = some (.cells #[i64 v, i64 k0, i64 n0, i64 k, i64 x, i64 k2, i64 n2, i64 k3, i64 n3, i64 1, i64 l] 66)) := by
    have h1 := heap_setCell_same X b 3 _ 66 (i64 k) HB.out
    exact heap_setCell_same _ b 4 _ 66 (i64 x) h1
  have HT2 : Hid (Touch b w ((X.setCell ⟨b, 3, none⟩ (i64 k)).setCell ⟨b, 4, none⟩ (i64 x)).drew) := ((HT.out.setCell rfl _).setCell rfl _).drew
  generalize ((X.setCell ⟨b, 3, none⟩ (i64 k)).setCell ⟨b, 4, none⟩ (i64 x)).drew = Y at *
  have t0 : Y.cell? ⟨b, 9, none⟩ = some (i64 1) := blk_cell HB2.out 9
  have tf : ∀ j, Y.frozen? ⟨b, j, none⟩ = false := blk_frozen HB2.out
  have HF1 : Hid ((Y.setCell ⟨b, 9, none⟩ (i64 2)).heap[b]? = some (.cells #[i64 v, i64 k0, i64 n0, i64 k, i64 x, i64 k2, i64 n2, i64 k3, i64 n3, i64 2, i64 l] 66)) := heap_setCell_same Y b 9 _ 66 _ HB2.out
  have HF2 : Hid (Touch b w (Y.setCell ⟨b, 9, none⟩ (i64 2))) := HT2.out.setCell rfl _
  clear y0 y1 yf
  go_wp2_with fail
  go_ret
  exact ⟨rfl, HF1.out, HF2.out⟩
set_option maxRecDepth 100000 in
set_option maxHeartbeats 3200000 in
theorem post2 (w : World) (T b : Nat) (n k x v k0 n0 k1 n1 k2 n2 k3 n3 l : Int) (hk1 : 1 ≤ k) (hk3 : k ≤ 3) (hl : 0 ≤ l ∧ l ≤ 1000000) (hb : w.heap[b]? = some (.cells #[i64 v, i64 k0, i64 n0, i64 k1, i64 n1, i64 k2, i64 n2, i64 k3, i64 n3, i64 2, i64 l] 66)) (HO : Calls Try.prog 27 #[pq T, i64 n] (w.alloc (upO k x)) fun e w' => e = .returned (pq b) ∧ w' = w.alloc (upO k x)) :
    Calls Try.prog 18 #[pq T, i64 n, upV k x] w fun e w' => e = .returned (i64 0) ∧ w'.heap[b]? = some (.cells #[i64 v, i64 k0, i64 n0, i64 k1, i64 n1, i64 k, i64 x, i64 k3, i64 n3, i64 3, i64 l] 66) ∧ Touch b w w' := by
  have HO := hid HO
  have hlt := blk_lt hb
  have HB : Hid ((w.alloc (upO k x)).heap[b]? = some (.cells #[i64 v, i64 k0, i64 n0, i64 k1, i64 n1, i64 k2, i64 n2, i64 k3, i64 n3, i64 2, i64 l] 66)) := blk_alloc hb _
  have HU : Hid ((w.alloc (upO k x)).heap[w.heap.size]? = some (upO k x)) := heap_last w _
  have HT : Hid (Touch b w (w.alloc (upO k x))) := (Touch.refl b w).alloc _
  have g1 : ¬ k < 1 := by omega
  have g3 : ¬ 3 < k := by omega
  obtain ⟨hl0, hl1⟩ := hl
  clear hb
  go_enter Try.func18, Try.ntmps18
  go_wp2_with fail
  refine HO.out.mono ?_
  rintro e v1 ⟨rfl, hv⟩
  subst hv
  have c9 : (w.alloc (upO k x)).cell? ⟨b, 9, none⟩ = some (i64 2) := blk_cell HB.out 9
  have q0 : (w.alloc (upO k x)).cell? ⟨w.heap.size, 0, none⟩ = some (i64 k) := blk_cell HU.out 0
  generalize w.alloc (upO k x) = X at *
  go_upto_region 9 with fail
  have HS : Hid (Sp9 b w.heap.size 2 k x X.drew) := ⟨blk_cell HB.out 9, blk_cell HU.out 0, blk_cell HU.out 1⟩
  refine wp_region_noPanic ?_
  refine wp_region_last (Sp9 b w.heap.size 2 k x) 9 (by kernel_rfl) ?_
  refine wpL_take 0 35 (pq b) [6, 7, 8] rfl rfl (by kernel_rfl) (by decide) (by kernel_rfl) (by kernel_rfl) (by kernel_rfl) (fun _ _ _ h => h) HS.out (by rfl) (fun W hW => by obtain ⟨a0, a1, a2⟩ := hW; go_simp) ?_
  simp only [Act.put, List.setIfInBounds_toArray, List.set_cons_zero, List.set_cons_succ]
  refine wpL_take 1 36 (pq b) [2, 3, 4, 8] rfl rfl (by kernel_rfl) (by decide) (by kernel_rfl) (by kernel_rfl) (by kernel_rfl) (fun _ _ _ h => h) HS.out (by rfl) (fun W hW => by obtain ⟨a0, a1, a2⟩ := hW; go_simp) ?_
  simp only [Act.put, List.setIfInBounds_toArray, List.set_cons_zero, List.set_cons_succ]
  refine wpL_take 2 37 (pq b) [3, 4, 8] rfl rfl (by kernel_rfl) (by decide) (by kernel_rfl) (by kernel_rfl) (by kernel_rfl) (fun _ _ _ h => h) HS.out (by rfl) (fun W hW => by obtain ⟨a0, a1, a2⟩ := hW; go_simp) ?_
  simp only [Act.put, List.setIfInBounds_toArray, List.set_cons_zero, List.set_cons_succ]
  refine wpL_take 3 38 (.pointer (some ⟨b, 9, none⟩)) [4, 8] rfl rfl (by kernel_rfl) (by decide) (by kernel_rfl) (by kernel_rfl) (by kernel_rfl) (fun _ _ _ h => h) HS.out (by rfl) (fun W hW => by obtain ⟨a0, a1, a2⟩ := hW; go_simp) ?_
  simp only [Act.put, List.setIfInBounds_toArray, List.set_cons_zero, List.set_cons_succ]
  refine wpL_take 4 39 (i64 2) [8] rfl rfl (by kernel_rfl) (by decide) (by kernel_rfl) (by kernel_rfl) (by kernel_rfl) (fun _ _ _ h => h) HS.out (by rfl) (fun W hW => by obtain ⟨a0, a1, a2⟩ := hW; go_simp) ?_
  simp only [Act.put, List.setIfInBounds_toArray, List.set_cons_zero, List.set_cons_succ]
  refine wpL_take 5 40 (upV k x) [] rfl rfl (by kernel_rfl) (by decide) (by kernel_rfl) (by kernel_rfl) (by kernel_rfl) (fun _ _ _ h => h) HS.out (by rfl) (fun W hW => by obtain ⟨a0, a1, a2⟩ := hW; go_simp) ?_
  simp only [Act.put, List.setIfInBounds_toArray, List.set_cons_zero, List.set_cons_succ]
  refine wpL_take 6 41 (pq b) [7, 8] rfl rfl (by kernel_rfl) (by decide) (by kernel_rfl) (by kernel_rfl) (by kernel_rfl) (fun _ _ _ h => h) HS.out (by rfl) (fun W hW => by obtain ⟨a0, a1, a2⟩ := hW; go_simp) ?_
  simp only [Act.put, List.setIfInBounds_toArray, List.set_cons_zero, List.set_cons_succ]
  refine wpL_take 7 42 (.pointer (some ⟨b, 1, none⟩)) [8] rfl rfl (by kernel_rfl) (by decide) (by kernel_rfl) (by kernel_rfl) (by kernel_rfl) (fun _ _ _ h => h) HS.out (by rfl) (fun W hW => by obtain ⟨a0, a1, a2⟩ := hW; go_simp) ?_
  simp only [Act.put, List.setIfInBounds_toArray, List.set_cons_zero, List.set_cons_succ]
  refine wpL_take 8 43 (.pointer (some ⟨b, 5, none⟩)) [] rfl rfl (by kernel_rfl) (by decide) (by kernel_rfl) (by kernel_rfl) (by kernel_rfl) (fun _ _ _ h => h) HS.out (by rfl) (fun W hW => by obtain ⟨a0, a1, a2⟩ := hW; go_simp) ?_
  simp only [Act.put, List.setIfInBounds_toArray, List.set_cons_zero, List.set_cons_succ]
  have y0 : X.cell? ⟨b, 5, none⟩ = some (i64 k2) := blk_cell HB.out 5
  have y1 : X.cell? ⟨b, 6, none⟩ = some (i64 n2) := blk_cell HB.out 6
  have yf : ∀ j, X.frozen? ⟨b, j, none⟩ = false := blk_frozen HB.out
  refine wpL_one 9 rfl (by kernel_rfl) (by rfl) (fun K hK => ?_)
  go_simp
  refine hK.out _ _ (fun h => absurd rfl h) ?_
  clear hK K
  refine wpL_done (by kernel_rfl) ?_
  refine NoPanic.normal ?_
  have HB2 : Hid (((X.setCell ⟨b, 5, none⟩ (i64 k)).setCell ⟨b, 6, none⟩ (i64 x)).drew.heap[b]? = some (.cells #[i64 v, i64 k0, i64 n0, i64 k1, i64 n1, i64 k, i64 x, i64 k3, i64 n3, i64 2, i64 l] 66)) := by
    have h1 := heap_setCell_same X b 5 _ 66 (i64 k) HB.out
    exact heap_setCell_same _ b 6 _ 66 (i64 x) h1
  have HT2 : Hid (Touch b w ((X.setCell ⟨b, 5, none⟩ (i64 k)).setCell ⟨b, 6, none⟩ (i64 x)).drew) := ((HT.out.setCell rfl _).setCell rfl _).drew
  generalize ((X.setCell ⟨b, 5, none⟩ (i64 k)).setCell ⟨b, 6, none⟩ (i64 x)).drew = Y at *
  have t0 : Y.cell? ⟨b, 9, none⟩ = some (i64 2) := blk_cell HB2.out 9
  have tf : ∀ j, Y.frozen? ⟨b, j, none⟩ = false := blk_frozen HB2.out
  have HF1 : Hid ((Y.setCell ⟨b, 9, none⟩ (i64 3)).heap[b]? = some (.cells #[i64 v, i64 k0, i64 n0, i64 k1, i64 n1, i64 k, i64 x, i64 k3, i64 n3, i64 3, i64 l] 66)) := heap_setCell_same Y b 9 _ 66 _ HB2.out
  have HF2 : Hid (Touch b w (Y.setCell ⟨b, 9, none⟩ (i64 3))) := HT2.out.setCell rfl _
  clear y0 y1 yf
  go_wp2_with fail
  go_ret
  exact ⟨rfl, HF1.out, HF2.out⟩
set_option maxRecDepth 100000 in
set_option maxHeartbeats 3200000 in
theorem post3 (w : World) (T b : Nat) (n k x v k0 n0 k1 n1 k2 n2 k3 n3 l : Int) (hk1 : 1 ≤ k) (hk3 : k ≤ 3) (hl : 0 ≤ l ∧ l ≤ 1000000) (hb : w.heap[b]? = some (.cells #[i64 v, i64 k0, i64 n0, i64 k1, i64 n1, i64 k2, i64 n2, i64 k3, i64 n3, i64 3, i64 l] 66)) (HO : Calls Try.prog 27 #[pq T, i64 n] (w.alloc (upO k x)) fun e w' => e = .returned (pq b) ∧ w' = w.alloc (upO k x)) :
    Calls Try.prog 18 #[pq T, i64 n, upV k x] w fun e w' => e = .returned (i64 0) ∧ w'.heap[b]? = some (.cells #[i64 v, i64 k0, i64 n0, i64 k1, i64 n1, i64 k2, i64 n2, i64 k, i64 x, i64 4, i64 l] 66) ∧ Touch b w w' := by
  have HO := hid HO
  have hlt := blk_lt hb
  have HB : Hid ((w.alloc (upO k x)).heap[b]? = some (.cells #[i64 v, i64 k0, i64 n0, i64 k1, i64 n1, i64 k2, i64 n2, i64 k3, i64 n3, i64 3, i64 l] 66)) := blk_alloc hb _
  have HU : Hid ((w.alloc (upO k x)).heap[w.heap.size]? = some (upO k x)) := heap_last w _
  have HT : Hid (Touch b w (w.alloc (upO k x))) := (Touch.refl b w).alloc _
  have g1 : ¬ k < 1 := by omega
  have g3 : ¬ 3 < k := by omega
  obtain ⟨hl0, hl1⟩ := hl
  clear hb
  go_enter Try.func18, Try.ntmps18
  go_wp2_with fail
  refine HO.out.mono ?_
  rintro e v1 ⟨rfl, hv⟩
  subst hv
  have c9 : (w.alloc (upO k x)).cell? ⟨b, 9, none⟩ = some (i64 3) := blk_cell HB.out 9
  have q0 : (w.alloc (upO k x)).cell? ⟨w.heap.size, 0, none⟩ = some (i64 k) := blk_cell HU.out 0
  generalize w.alloc (upO k x) = X at *
  go_upto_region 9 with fail
  have HS : Hid (Sp9 b w.heap.size 3 k x X.drew) := ⟨blk_cell HB.out 9, blk_cell HU.out 0, blk_cell HU.out 1⟩
  refine wp_region_noPanic ?_
  refine wp_region_last (Sp9 b w.heap.size 3 k x) 9 (by kernel_rfl) ?_
  refine wpL_take 0 35 (pq b) [6, 7, 8] rfl rfl (by kernel_rfl) (by decide) (by kernel_rfl) (by kernel_rfl) (by kernel_rfl) (fun _ _ _ h => h) HS.out (by rfl) (fun W hW => by obtain ⟨a0, a1, a2⟩ := hW; go_simp) ?_
  simp only [Act.put, List.setIfInBounds_toArray, List.set_cons_zero, List.set_cons_succ]
  refine wpL_take 1 36 (pq b) [2, 3, 4, 8] rfl rfl (by kernel_rfl) (by decide) (by kernel_rfl) (by kernel_rfl) (by kernel_rfl) (fun _ _ _ h => h) HS.out (by rfl) (fun W hW => by obtain ⟨a0, a1, a2⟩ := hW; go_simp) ?_
  simp only [Act.put, List.setIfInBounds_toArray, List.set_cons_zero, List.set_cons_succ]
  refine wpL_take 2 37 (pq b) [3, 4, 8] rfl rfl (by kernel_rfl) (by decide) (by kernel_rfl) (by kernel_rfl) (by kernel_rfl) (fun _ _ _ h => h) HS.out (by rfl) (fun W hW => by obtain ⟨a0, a1, a2⟩ := hW; go_simp) ?_
  simp only [Act.put, List.setIfInBounds_toArray, List.set_cons_zero, List.set_cons_succ]
  refine wpL_take 3 38 (.pointer (some ⟨b, 9, none⟩)) [4, 8] rfl rfl (by kernel_rfl) (by decide) (by kernel_rfl) (by kernel_rfl) (by kernel_rfl) (fun _ _ _ h => h) HS.out (by rfl) (fun W hW => by obtain ⟨a0, a1, a2⟩ := hW; go_simp) ?_
  simp only [Act.put, List.setIfInBounds_toArray, List.set_cons_zero, List.set_cons_succ]
  refine wpL_take 4 39 (i64 3) [8] rfl rfl (by kernel_rfl) (by decide) (by kernel_rfl) (by kernel_rfl) (by kernel_rfl) (fun _ _ _ h => h) HS.out (by rfl) (fun W hW => by obtain ⟨a0, a1, a2⟩ := hW; go_simp) ?_
  simp only [Act.put, List.setIfInBounds_toArray, List.set_cons_zero, List.set_cons_succ]
  refine wpL_take 5 40 (upV k x) [] rfl rfl (by kernel_rfl) (by decide) (by kernel_rfl) (by kernel_rfl) (by kernel_rfl) (fun _ _ _ h => h) HS.out (by rfl) (fun W hW => by obtain ⟨a0, a1, a2⟩ := hW; go_simp) ?_
  simp only [Act.put, List.setIfInBounds_toArray, List.set_cons_zero, List.set_cons_succ]
  refine wpL_take 6 41 (pq b) [7, 8] rfl rfl (by kernel_rfl) (by decide) (by kernel_rfl) (by kernel_rfl) (by kernel_rfl) (fun _ _ _ h => h) HS.out (by rfl) (fun W hW => by obtain ⟨a0, a1, a2⟩ := hW; go_simp) ?_
  simp only [Act.put, List.setIfInBounds_toArray, List.set_cons_zero, List.set_cons_succ]
  refine wpL_take 7 42 (.pointer (some ⟨b, 1, none⟩)) [8] rfl rfl (by kernel_rfl) (by decide) (by kernel_rfl) (by kernel_rfl) (by kernel_rfl) (fun _ _ _ h => h) HS.out (by rfl) (fun W hW => by obtain ⟨a0, a1, a2⟩ := hW; go_simp) ?_
  simp only [Act.put, List.setIfInBounds_toArray, List.set_cons_zero, List.set_cons_succ]
  refine wpL_take 8 43 (.pointer (some ⟨b, 7, none⟩)) [] rfl rfl (by kernel_rfl) (by decide) (by kernel_rfl) (by kernel_rfl) (by kernel_rfl) (fun _ _ _ h => h) HS.out (by rfl) (fun W hW => by obtain ⟨a0, a1, a2⟩ := hW; go_simp) ?_
  simp only [Act.put, List.setIfInBounds_toArray, List.set_cons_zero, List.set_cons_succ]
  have y0 : X.cell? ⟨b, 7, none⟩ = some (i64 k3) := blk_cell HB.out 7
  have y1 : X.cell? ⟨b, 8, none⟩ = some (i64 n3) := blk_cell HB.out 8
  have yf : ∀ j, X.frozen? ⟨b, j, none⟩ = false := blk_frozen HB.out
  refine wpL_one 9 rfl (by kernel_rfl) (by rfl) (fun K hK => ?_)
  go_simp
  refine hK.out _ _ (fun h => absurd rfl h) ?_
  clear hK K
  refine wpL_done (by kernel_rfl) ?_
  refine NoPanic.normal ?_
  have HB2 : Hid (((X.setCell ⟨b, 7, none⟩ (i64 k)).setCell ⟨b, 8, none⟩ (i64 x)).drew.heap[b]? = some (.cells #[i64 v, i64 k0, i64 n0, i64 k1, i64 n1, i64 k2, i64 n2, i64 k, i64 x, i64 3, i64 l] 66)) := by
    have h1 := heap_setCell_same X b 7 _ 66 (i64 k) HB.out
    exact heap_setCell_same _ b 8 _ 66 (i64 x) h1
  have HT2 : Hid (Touch b w ((X.setCell ⟨b, 7, none⟩ (i64 k)).setCell ⟨b, 8, none⟩ (i64 x)).drew) := ((HT.out.setCell rfl _).setCell rfl _).drew
  generalize ((X.setCell ⟨b, 7, none⟩ (i64 k)).setCell ⟨b, 8, none⟩ (i64 x)).drew = Y at *
  have t0 : Y.cell? ⟨b, 9, none⟩ = some (i64 3) := blk_cell HB2.out 9
  have tf : ∀ j, Y.frozen? ⟨b, j, none⟩ = false := blk_frozen HB2.out
  have HF1 : Hid ((Y.setCell ⟨b, 9, none⟩ (i64 4)).heap[b]? = some (.cells #[i64 v, i64 k0, i64 n0, i64 k1, i64 n1, i64 k2, i64 n2, i64 k, i64 x, i64 4, i64 l] 66)) := heap_setCell_same Y b 9 _ 66 _ HB2.out
  have HF2 : Hid (Touch b w (Y.setCell ⟨b, 9, none⟩ (i64 4))) := HT2.out.setCell rfl _
  clear y0 y1 yf
  go_wp2_with fail
  go_ret
  exact ⟨rfl, HF1.out, HF2.out⟩
set_option maxRecDepth 100000 in
set_option maxHeartbeats 3200000 in
theorem post4 (w : World) (T b : Nat) (n k x v k0 n0 k1 n1 k2 n2 k3 n3 l : Int) (hk1 : 1 ≤ k) (hk3 : k ≤ 3) (hl : 0 ≤ l ∧ l ≤ 1000000) (hb : w.heap[b]? = some (.cells #[i64 v, i64 k0, i64 n0, i64 k1, i64 n1, i64 k2, i64 n2, i64 k3, i64 n3, i64 4, i64 l] 66)) (HO : Calls Try.prog 27 #[pq T, i64 n] (w.alloc (upO k x)) fun e w' => e = .returned (pq b) ∧ w' = w.alloc (upO k x)) :
    Calls Try.prog 18 #[pq T, i64 n, upV k x] w fun e w' => e = .returned (i64 0) ∧ w'.heap[b]? = some (.cells #[i64 v, i64 k1, i64 n1, i64 k2, i64 n2, i64 k3, i64 n3, i64 k, i64 x, i64 4, i64 (l + 1)] 66) ∧ Touch b w w' := by
  have HO := hid HO
  have hlt := blk_lt hb
  have HB : Hid ((w.alloc (upO k x)).heap[b]? = some (.cells #[i64 v, i64 k0, i64 n0, i64 k1, i64 n1, i64 k2, i64 n2, i64 k3, i64 n3, i64 4, i64 l] 66)) := blk_alloc hb _
  have HU : Hid ((w.alloc (upO k x)).heap[w.heap.size]? = some (upO k x)) := heap_last w _
  have HT : Hid (Touch b w (w.alloc (upO k x))) := (Touch.refl b w).alloc _
  have g1 : ¬ k < 1 := by omega
  have g3 : ¬ 3 < k := by omega
  obtain ⟨hl0, hl1⟩ := hl
  clear hb
  go_enter Try.func18, Try.ntmps18
  go_wp2_with fail
  refine HO.out.mono ?_
  rintro e v1 ⟨rfl, hv⟩
  subst hv
  have c9 : (w.alloc (upO k x)).cell? ⟨b, 9, none⟩ = some (i64 4) := blk_cell HB.out 9
  have q0 : (w.alloc (upO k x)).cell? ⟨w.heap.size, 0, none⟩ = some (i64 k) := blk_cell HU.out 0
  generalize w.alloc (upO k x) = X at *
  have HSh := hid (shift_ok (en := ⟨v, k0, n0, k1, n1, k2, n2, k3, n3, 4, l⟩) HB.out ⟨by show (1 : Int) ≤ 4; omega, by show (4 : Int) ≤ 4; omega⟩)
  have hXs := blk_lt HU.out
  go_wp2_with fail
  refine HSh.out.mono ?_
  rintro e w2 ⟨rfl, hB2, hT2⟩
  have HB3 : Hid (w2.heap[b]? = some (.cells #[i64 v, i64 k1, i64 n1, i64 k2, i64 n2, i64 k3, i64 n3, i64 k3, i64 n3, i64 3, i64 l] 66)) := hB2
  have HU3 : Hid (w2.heap[w.heap.size]? = some (upO k x)) := (hT2.block _ hXs (by omega)).trans HU.out
  have HT3 : Hid (Touch b w w2) := HT.out.trans hT2
  have d10 : w2.cell? ⟨b, 10, none⟩ = some (i64 l) := blk_cell HB3.out 10
  have df : ∀ j, w2.frozen? ⟨b, j, none⟩ = false := blk_frozen HB3.out
  clear hB2 hT2 hXs HB HU HT c9 q0
  have HB4 : Hid ((w2.setCell ⟨b, 10, none⟩ (i64 (l + 1))).heap[b]? = some (.cells #[i64 v, i64 k1, i64 n1, i64 k2, i64 n2, i64 k3, i64 n3, i64 k3, i64 n3, i64 3, i64 (l + 1)] 66)) := heap_setCell_same w2 b 10 _ 66 _ HB3.out
  have HU4 : Hid ((w2.setCell ⟨b, 10, none⟩ (i64 (l + 1))).heap[w.heap.size]? = some (upO k x)) := by rw [Below.heap_setCell _ _ _ _ (by show w.heap.size ≠ b; omega)]; exact HU3.out
  have HT4 : Hid (Touch b w (w2.setCell ⟨b, 10, none⟩ (i64 (l + 1)))) := HT3.out.setCell rfl _
  go_upto_region 9 with fail
  generalize w2.setCell ⟨b, 10, none⟩ (i64 (l + 1)) = X2 at *
  have HB := HB4
  have HU := HU4
  have HT := HT4
  have HS : Hid (Sp9 b w.heap.size 3 k x X2.drew) := ⟨blk_cell HB.out 9, blk_cell HU.out 0, blk_cell HU.out 1⟩
  refine wp_region_noPanic ?_
  refine wp_region_last (Sp9 b w.heap.size 3 k x) 9 (by kernel_rfl) ?_
  refine wpL_take 0 35 (pq b) [6, 7, 8] rfl rfl (by kernel_rfl) (by decide) (by kernel_rfl) (by kernel_rfl) (by kernel_rfl) (fun _ _ _ h => h) HS.out (by rfl) (fun W hW => by obtain ⟨a0, a1, a2⟩ := hW; go_simp) ?_
  simp only [Act.put, List.setIfInBounds_toArray, List.set_cons_zero, List.set_cons_succ]
  refine wpL_take 1 36 (pq b) [2, 3, 4, 8] rfl rfl (by kernel_rfl) (by decide) (by kernel_rfl) (by kernel_rfl) (by kernel_rfl) (fun _ _ _ h => h) HS.out (by rfl) (fun W hW => by obtain ⟨a0, a1, a2⟩ := hW; go_simp) ?_
  simp only [Act.put, List.setIfInBounds_toArray, List.set_cons_zero, List.set_cons_succ]
  refine wpL_take 2 37 (pq b) [3, 4, 8] rfl rfl (by kernel_rfl) (by decide) (by kernel_rfl) (by kernel_rfl) (by kernel_rfl) (fun _ _ _ h => h) HS.out (by rfl) (fun W hW => by obtain ⟨a0, a1, a2⟩ := hW; go_simp) ?_
  simp only [Act.put, List.setIfInBounds_toArray, List.set_cons_zero, List.set_cons_succ]
  refine wpL_take 3 38 (.pointer (some ⟨b, 9, none⟩)) [4, 8] rfl rfl (by kernel_rfl) (by decide) (by kernel_rfl) (by kernel_rfl) (by kernel_rfl) (fun _ _ _ h => h) HS.out (by rfl) (fun W hW => by obtain ⟨a0, a1, a2⟩ := hW; go_simp) ?_
  simp only [Act.put, List.setIfInBounds_toArray, List.set_cons_zero, List.set_cons_succ]
  refine wpL_take 4 39 (i64 3) [8] rfl rfl (by kernel_rfl) (by decide) (by kernel_rfl) (by kernel_rfl) (by kernel_rfl) (fun _ _ _ h => h) HS.out (by rfl) (fun W hW => by obtain ⟨a0, a1, a2⟩ := hW; go_simp) ?_
  simp only [Act.put, List.setIfInBounds_toArray, List.set_cons_zero, List.set_cons_succ]
  refine wpL_take 5 40 (upV k x) [] rfl rfl (by kernel_rfl) (by decide) (by kernel_rfl) (by kernel_rfl) (by kernel_rfl) (fun _ _ _ h => h) HS.out (by rfl) (fun W hW => by obtain ⟨a0, a1, a2⟩ := hW; go_simp) ?_
  simp only [Act.put, List.setIfInBounds_toArray, List.set_cons_zero, List.set_cons_succ]
  refine wpL_take 6 41 (pq b) [7, 8] rfl rfl (by kernel_rfl) (by decide) (by kernel_rfl) (by kernel_rfl) (by kernel_rfl) (fun _ _ _ h => h) HS.out (by rfl) (fun W hW => by obtain ⟨a0, a1, a2⟩ := hW; go_simp) ?_
  simp only [Act.put, List.setIfInBounds_toArray, List.set_cons_zero, List.set_cons_succ]
  refine wpL_take 7 42 (.pointer (some ⟨b, 1, none⟩)) [8] rfl rfl (by kernel_rfl) (by decide) (by kernel_rfl) (by kernel_rfl) (by kernel_rfl) (fun _ _ _ h => h) HS.out (by rfl) (fun W hW => by obtain ⟨a0, a1, a2⟩ := hW; go_simp) ?_
  simp only [Act.put, List.setIfInBounds_toArray, List.set_cons_zero, List.set_cons_succ]
  refine wpL_take 8 43 (.pointer (some ⟨b, 7, none⟩)) [] rfl rfl (by kernel_rfl) (by decide) (by kernel_rfl) (by kernel_rfl) (by kernel_rfl) (fun _ _ _ h => h) HS.out (by rfl) (fun W hW => by obtain ⟨a0, a1, a2⟩ := hW; go_simp) ?_
  simp only [Act.put, List.setIfInBounds_toArray, List.set_cons_zero, List.set_cons_succ]
  have y0 : X2.cell? ⟨b, 7, none⟩ = some (i64 k3) := blk_cell HB.out 7
  have y1 : X2.cell? ⟨b, 8, none⟩ = some (i64 n3) := blk_cell HB.out 8
  have yf : ∀ j, X2.frozen? ⟨b, j, none⟩ = false := blk_frozen HB.out
  refine wpL_one 9 rfl (by kernel_rfl) (by rfl) (fun K hK => ?_)
  go_simp
  refine hK.out _ _ (fun h => absurd rfl h) ?_
  clear hK K
  refine wpL_done (by kernel_rfl) ?_
  refine NoPanic.normal ?_
  have HB2 : Hid (((X2.setCell ⟨b, 7, none⟩ (i64 k)).setCell ⟨b, 8, none⟩ (i64 x)).drew.heap[b]? = some (.cells #[i64 v, i64 k1, i64 n1, i64 k2, i64 n2, i64 k3, i64 n3, i64 k, i64 x, i64 3, i64 (l + 1)] 66)) := by
    have h1 := heap_setCell_same X2 b 7 _ 66 (i64 k) HB.out
    exact heap_setCell_same _ b 8 _ 66 (i64 x) h1
  have HT2 : Hid (Touch b w ((X2.setCell ⟨b, 7, none⟩ (i64 k)).setCell ⟨b, 8, none⟩ (i64 x)).drew) := ((HT.out.setCell rfl _).setCell rfl _).drew
  generalize ((X2.setCell ⟨b, 7, none⟩ (i64 k)).setCell ⟨b, 8, none⟩ (i64 x)).drew = Y at *
  have t0 : Y.cell? ⟨b, 9, none⟩ = some (i64 3) := blk_cell HB2.out 9
  have tf : ∀ j, Y.frozen? ⟨b, j, none⟩ = false := blk_frozen HB2.out
  have HF1 : Hid ((Y.setCell ⟨b, 9, none⟩ (i64 4)).heap[b]? = some (.cells #[i64 v, i64 k1, i64 n1, i64 k2, i64 n2, i64 k3, i64 n3, i64 k, i64 x, i64 4, i64 (l + 1)] 66)) := heap_setCell_same Y b 9 _ 66 _ HB2.out
  have HF2 : Hid (Touch b w (Y.setCell ⟨b, 9, none⟩ (i64 4))) := HT2.out.setCell rfl _
  clear y0 y1 yf
  go_wp2_with fail
  go_ret
  exact ⟨rfl, HF1.out, HF2.out⟩
def poE (e : En) (k x : Int) : En :=
  if e.ws = 0 then ⟨e.ver, k, x, e.k1, e.n1, e.k2, e.n2, e.k3, e.n3, 1, e.lost⟩
  else if e.ws = 1 then ⟨e.ver, e.k0, e.n0, k, x, e.k2, e.n2, e.k3, e.n3, 2, e.lost⟩
  else if e.ws = 2 then ⟨e.ver, e.k0, e.n0, e.k1, e.n1, k, x, e.k3, e.n3, 3, e.lost⟩
  else if e.ws = 3 then ⟨e.ver, e.k0, e.n0, e.k1, e.n1, e.k2, e.n2, k, x, 4, e.lost⟩
  else ⟨e.ver, e.k1, e.n1, e.k2, e.n2, e.k3, e.n3, k, x, 4, e.lost + 1⟩
def kdB (k : Int) : Bool := decide (1 ≤ k ∧ k ≤ 3)
def poN (k : Int) (x : Option En) : Int := match x with | none => 6 | some _ => if kdB k = false then 1 else 0
def poT (E : Nat → Option En) (n k x : Int) : Nat → Option En := match stE E n with | none => E | some e => if kdB k = false then E else upE E n (some (poE e k x))
theorem stE_ok {w : World} {base T : Nat} {E : Nat → Option En} (h : Tb w base T E) {n : Int} {e : En} (hx : stE E n = some e) : 0 ≤ e.ws ∧ e.ws ≤ 4 := by
  unfold stE at hx
  repeat (first | exact h.ok _ _ hx | (split at hx) | (cases hx; done))
theorem poE_ok (e : En) (k x : Int) : 0 ≤ (poE e k x).ws ∧ (poE e k x).ws ≤ 4 := by
  unfold poE
  by_cases h0 : e.ws = 0
  · simp [h0]
  by_cases h1 : e.ws = 1
  · simp [h1]
  by_cases h2 : e.ws = 2
  · simp [h2]
  by_cases h3 : e.ws = 3
  · simp [h3]
  simp [h0, h1, h2, h3]
theorem post_at {w : World} {T b : Nat} {n k x : Int} {en : En} (hw : 0 ≤ en.ws ∧ en.ws ≤ 4) (hk : 1 ≤ k ∧ k ≤ 3) (hl : 0 ≤ en.lost ∧ en.lost ≤ 1000000) (hb : w.heap[b]? = some (enO en)) (HO : Calls Try.prog 27 #[pq T, i64 n] (w.alloc (upO k x)) fun e w' => e = .returned (pq b) ∧ w' = w.alloc (upO k x)) :
    Calls Try.prog 18 #[pq T, i64 n, upV k x] w fun e w' => e = .returned (i64 0) ∧ w'.heap[b]? = some (enO (poE en k x)) ∧ Touch b w w' := by
  obtain ⟨v, k0, n0, k1, n1, k2, n2, k3, n3, ws, l⟩ := en
  rcases (show ws = 0 ∨ ws = 1 ∨ ws = 2 ∨ ws = 3 ∨ ws = 4 by have h1 : 0 ≤ ws := hw.1; have h2 : ws ≤ 4 := hw.2; omega) with rfl | rfl | rfl | rfl | rfl
  · exact post0 w T b n k x v k0 n0 k1 n1 k2 n2 k3 n3 l hk.1 hk.2 hl hb HO
  · exact post1 w T b n k x v k0 n0 k1 n1 k2 n2 k3 n3 l hk.1 hk.2 hl hb HO
  · exact post2 w T b n k x v k0 n0 k1 n1 k2 n2 k3 n3 l hk.1 hk.2 hl hb HO
  · exact post3 w T b n k x v k0 n0 k1 n1 k2 n2 k3 n3 l hk.1 hk.2 hl hb HO
  · exact post4 w T b n k x v k0 n0 k1 n1 k2 n2 k3 n3 l hk.1 hk.2 hl hb HO
theorem of_any {w : World} {base T : Nat} {E : Nat → Option En} (h : Tb w base T E) (n : Int) : ∃ p, AtE w base T E n p (stE E n) ∧ ∀ W, Below w.heap.size w W → Calls Try.prog 27 #[pq T, i64 n] W fun e w' => e = .returned p ∧ w' = W := by
  cases hn : envB n with
  | false =>
    rw [stE_out hn]
    exact ⟨_, rfl, fun W _ => of_out W T n hn⟩
  | true =>
    rcases envB_true hn with rfl | rfl | rfl
    · obtain ⟨p, hp, ha⟩ := at_of0 h
      exact ⟨p, ha, fun W hW => of0 W T p (by rw [hW.cell (by exact h.lt)]; exact hp)⟩
    · obtain ⟨p, hp, ha⟩ := at_of1 h
      exact ⟨p, ha, fun W hW => of1 W T p (by rw [hW.cell (by exact h.lt)]; exact hp)⟩
    · obtain ⟨p, hp, ha⟩ := at_of2 h
      exact ⟨p, ha, fun W hW => of2 W T p (by rw [hW.cell (by exact h.lt)]; exact hp)⟩
theorem post_ok {w : World} {base T : Nat} {E : Nat → Option En} (h : Tb w base T E) (n k x : Int) (hl : ∀ e, stE E n = some e → 0 ≤ e.lost ∧ e.lost ≤ 1000000) : Calls Try.prog 18 #[pq T, i64 n, upV k x] w fun e w' => e = .returned (i64 (poN k (stE E n))) ∧ Tb w' base T (poT E n k x) ∧ Fr base [57, 66] w w' := by
  have hlo : base ≤ w.heap.size := by have := h.lo; have := h.lt; omega
  obtain ⟨p, ha, HA⟩ := of_any h n
  have HO := HA _ (below_one w (upO k x))
  have hw := fun e hx => stE_ok h (n := n) (e := e) hx
  unfold poN poT
  cases hx : stE E n with
  | none =>
    rw [hx] at ha
    obtain rfl : p = .pointer none := ha
    exact (post_none w _ n k x HO).mono fun _ _ ⟨h1, h2⟩ => ⟨h1, h.below h2, Fr.of_below _ h2 hlo⟩
  | some en =>
    rw [hx] at ha
    obtain ⟨b, rfl, hlb, hb, hup⟩ := ha
    cases hk : kdB k with
    | false =>
      refine (post_arg w T b n k x ?_ HO).mono fun _ _ ⟨h1, h2⟩ => ⟨h1, h.below h2, Fr.of_below _ h2 hlo⟩
      unfold kdB at hk
      simp at hk
      omega
    | true =>
      have hk' : 1 ≤ k ∧ k ≤ 3 := by unfold kdB at hk; simpa using hk
      exact (post_at (hw en hx) hk' (hl en hx) hb HO).mono fun _ _ ⟨h1, h2, h3⟩ => ⟨h1, hup _ _ (poE_ok en k x) h3 h2, Fr.of_touch h3 hb (by rfl) hlb⟩
theorem take_none (w : World) (v0 : Value) (n : Int) (HO : Calls Try.prog 27 #[v0, i64 n] (w.alloc (upO 0 0)) fun e w' => e = .returned (.pointer none) ∧ w' = w.alloc (upO 0 0)) : Calls Try.prog 19 #[v0, i64 n] w fun e w' => e = .returned (.tuple #[upV 0 0, i64 6]) ∧ Below w.heap.size w w' := by
  have HO := hid HO
  have HB : Hid (Below w.heap.size w (w.alloc (upO 0 0))) := below_one w _
  have HU : Hid ((w.alloc (upO 0 0)).heap[w.heap.size]? = some (upO 0 0)) := heap_last w _
  go_enter Try.func19, Try.ntmps19
  go_wp2_with fail
  refine HO.out.mono ?_
  rintro e v1 ⟨rfl, hv⟩
  subst hv
  go_wp2_with fail
  have g := load31 HU.out
  exact bodyPost_ret (v := .tuple #[upV 0 0, i64 6]) (results_cell rfl rfl rfl g) rfl ⟨rfl, HB.out⟩
theorem take_empty (w : World) (T b : Nat) (n : Int) (hc : w.cell? ⟨b, 9, none⟩ = some (i64 0)) (HO : Calls Try.prog 27 #[pq T, i64 n] (w.alloc (upO 0 0)) fun e w' => e = .returned (pq b) ∧ w' = w.alloc (upO 0 0)) : Calls Try.prog 19 #[pq T, i64 n] w fun e w' => e = .returned (.tuple #[upV 0 0, i64 7]) ∧ Below w.heap.size w w' := by
  have HO := hid HO
  have hlt : b < w.heap.size := World.block_lt_of_cell? w _ hc
  have HB : Hid (Below w.heap.size w (w.alloc (upO 0 0))) := below_one w _
  have HU : Hid ((w.alloc (upO 0 0)).heap[w.heap.size]? = some (upO 0 0)) := heap_last w _
  go_enter Try.func19, Try.ntmps19
  go_wp2_with fail
  refine HO.out.mono ?_
  rintro e v1 ⟨rfl, hv⟩
  subst hv
  go_wp2_with fail
  have g := load31 HU.out
  exact bodyPost_ret (v := .tuple #[upV 0 0, i64 7]) (results_cell rfl rfl rfl g) rfl ⟨rfl, HB.out⟩
theorem take_at (w : World) (T b : Nat) (n : Int) (en : En) (hb : w.heap[b]? = some (enO en)) (hw : 1 ≤ en.ws ∧ en.ws ≤ 4) (HO : Calls Try.prog 27 #[pq T, i64 n] (w.alloc (upO 0 0)) fun e w' => e = .returned (pq b) ∧ w' = w.alloc (upO 0 0)) : Calls Try.prog 19 #[pq T, i64 n] w fun e w' => e = .returned (.tuple #[upV en.k0 en.n0, i64 0]) ∧ w'.heap[b]? = some (enO (shE en)) ∧ Touch b w w' := by
  have HO := hid HO
  have hlt := blk_lt hb
  have c9 : w.cell? ⟨b, 9, none⟩ = some (i64 en.ws) := blk_cell hb 9
  have hne : (en.ws == 0) = false := by simp; omega
  have HSh := hid (shift_ok (blk_alloc hb (upO 0 0)) hw)
  have HT : Hid (Touch b w (w.alloc (upO 0 0))) := (Touch.refl b w).alloc _
  have HU : Hid ((w.alloc (upO 0 0)).heap[w.heap.size]? = some (upO 0 0)) := heap_last w _
  clear hb hw
  go_enter Try.func19, Try.ntmps19
  go_wp2_with fail
  refine HO.out.mono ?_
  rintro e v1 ⟨rfl, hv⟩
  subst hv
  go_wp2_with fail
  refine HSh.out.mono ?_
  rintro e w2 ⟨rfl, h2, ht2⟩
  have HX : Hid (w2.heap[w.heap.size]? = some (upO 0 0)) := (ht2.block _ (by simp) (by omega)).trans HU.out
  have z0 : w2.cell? ⟨w.heap.size, 0, none⟩ = some (i64 0) := blk_cell HX.out 0
  have z1 : w2.cell? ⟨w.heap.size, 1, none⟩ = some (i64 0) := blk_cell HX.out 1
  have fz : ∀ j, w2.frozen? ⟨w.heap.size, j, none⟩ = false := blk_frozen HX.out
  have H2 := hid h2
  have HT2 : Hid (Touch b w w2) := HT.out.trans ht2
  clear h2 ht2
  go_wp2_with fail
  have HF1 : Hid (((w2.setCell ⟨w.heap.size, 0, none⟩ (i64 en.k0)).setCell ⟨w.heap.size, 1, none⟩ (i64 en.n0)).heap[b]? = some (enO (shE en))) := by
    rw [Below.heap_setCell _ _ _ _ (by show b ≠ w.heap.size; omega), Below.heap_setCell _ _ _ _ (by show b ≠ w.heap.size; omega)]
    exact H2.out
  have HF2 : Hid (Touch b w ((w2.setCell ⟨w.heap.size, 0, none⟩ (i64 en.k0)).setCell ⟨w.heap.size, 1, none⟩ (i64 en.n0))) := (HT2.out.setNew (by exact Nat.le_refl _) _).setNew (by exact Nat.le_refl _) _
  have g := load31 (set2 HX.out (i64 en.k0) (i64 en.n0))
  exact bodyPost_ret (v := .tuple #[upV en.k0 en.n0, i64 0]) (results_cell rfl rfl rfl g) rfl ⟨rfl, HF1.out, HF2.out⟩
def tkV (x : Option En) : Value := match x with | none => .tuple #[upV 0 0, i64 6] | some e => if e.ws = 0 then .tuple #[upV 0 0, i64 7] else .tuple #[upV e.k0 e.n0, i64 0]
def tkT (E : Nat → Option En) (n : Int) : Nat → Option En := match stE E n with | none => E | some e => if e.ws = 0 then E else upE E n (some (shE e))
theorem take_ok {w : World} {base T : Nat} {E : Nat → Option En} (h : Tb w base T E) (n : Int) : Calls Try.prog 19 #[pq T, i64 n] w fun e w' => e = .returned (tkV (stE E n)) ∧ Tb w' base T (tkT E n) ∧ Fr base [57, 66] w w' := by
  have hlo : base ≤ w.heap.size := by have := h.lo; have := h.lt; omega
  obtain ⟨p, ha, HA⟩ := of_any h n
  have HO := HA _ (below_one w (upO 0 0))
  have hw := fun e hx => stE_ok h (n := n) (e := e) hx
  unfold tkV tkT
  cases hx : stE E n with
  | none =>
    rw [hx] at ha
    obtain rfl : p = .pointer none := ha
    exact (take_none w _ n HO).mono fun _ _ ⟨h1, h2⟩ => ⟨h1, h.below h2, Fr.of_below _ h2 hlo⟩
  | some en =>
    rw [hx] at ha
    obtain ⟨b, rfl, hlb, hb, hup⟩ := ha
    by_cases h0 : en.ws = 0
    · simp only [h0, if_true]
      have hc : w.cell? ⟨b, 9, none⟩ = some (i64 en.ws) := blk_cell hb 9
      rw [h0] at hc
      exact (take_empty w T b n hc HO).mono fun _ _ ⟨h1, h2⟩ => ⟨h1, h.below h2, Fr.of_below _ h2 hlo⟩
    · simp only [h0, if_false]
      have hww := hw en hx
      exact (take_at w T b n en hb (by omega) HO).mono fun _ _ ⟨h1, h2, h3⟩ => ⟨h1, hup _ (shE en) (by show 0 ≤ en.ws - 1 ∧ en.ws - 1 ≤ 4; omega) h3 h2, Fr.of_touch h3 hb (by rfl) hlb⟩
end Go.Proofs.Ytopbgeoledocaaa
