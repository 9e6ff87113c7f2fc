/- Texts K7 Kk in one; no statement is proved in this text. -/
import Derived.Test.YtihbbgcpdgnhoaaGreatDoorQM
import Derived.Test.YtihbbgcpdgnhoaaGreatDoorGv
import Derived.Test.YtihbbgcpdgnhoaaGreatDoorW4
import Derived.Test.YtihbbgcpdgnhoaaGreatDoorDR
namespace Go.Proofs.YtihbbgcpdgnhoaaGreatDoor
open Go.ChangeShapes Go.WideShapes Go.ChangeAt Go.RowKit Go.Deep
attribute [local go_sem ↓] Go.wp_at_zero Go.wp_at_succ

/-- A value that was found, and where it ends. -/
abbrev gv (k n : Int) (s kv : Value) (m : Int) : Value := .agg #[i64 k, i64 n, s, kv, i64 m]
abbrev gO (k n : Int) (s kv : Value) (m : Int) : Obj := .cells #[i64 k, i64 n, s, kv, i64 m] 85
theorem load85 {W : World} {b : Nat} {k n m : Int} {s kv : Value} (h : W.heap[b]? = some (gO k n s kv m)) : (loadVar 85 ⟨b, 0, none⟩).run Tryz.prog W = .ok (gv k n s kv m) W := by
  refine run_loadVar_mid _ _ 0 85 [i64 k, i64 n, s, kv, i64 m] _ (fun j v hv => ?_) Tryz.underlying85 rfl (by kernel_rfl)
  rw [Nat.zero_add, cell_of_row _ _ _ _ 85 (0, 0) h]
  simpa using hv
def GNo (w : World) (e : Ending) (w' : World) : Prop := e = .returned (gv 0 0 (str []) (.slice none 0 0) (-1)) ∧ Below w.heap.size w w'
structure Ry (R Y : Nat) (o : Obj) (W : World) : Prop where
  r : W.heap[R]? = some (gO 0 0 (str []) (.slice none 0 0) 0)
  y : W.heap[Y]? = some o
theorem Ry.below {R Y : Nat} {o : Obj} {W W' : World} (h : Ry R Y o W) (hb : Below W.heap.size W W') : Ry R Y o W' := ⟨blk_below h.r hb, blk_below h.y hb⟩
set_option maxRecDepth 100000 in
set_option maxHeartbeats 12800000 in
theorem tk7_short (w : World) (s : ByteArray) (a : Nat) (k tn : Int) (an at_ : Option Addr) (ln cn lt_ ct : Nat) (hs : s.size ≤ 1000000) (ha : a ≤ s.size) (h : s.size < a + 2) : Calls Tryz.prog 32 #[.string s, i64 (a : Nat), .agg #[i64 k, i64 tn, .slice an ln cn, .slice at_ lt_ ct]] w (GNo w) := by
  have hI : (s.size : Int) < (a : Int) + 2 := by omega
  obtain ⟨h1, h2, hb0⟩ := two_boxes w (.cells #[i64 k, i64 tn, .slice an ln cn, .slice at_ lt_ ct] 35) (gO 0 0 (str []) (.slice none 0 0) 0)
  obtain ⟨Y, hY⟩ : ∃ Y, Y = w.heap.size := ⟨_, rfl⟩
  obtain ⟨R, hR⟩ : ∃ R, R = w.heap.size + 1 := ⟨_, rfl⟩
  obtain ⟨V0, hV0⟩ : ∃ V0, V0 = (w.alloc (.cells #[i64 k, i64 tn, .slice an ln cn, .slice at_ lt_ ct] 35)).alloc (gO 0 0 (str []) (.slice none 0 0) 0) := ⟨_, rfl⟩
  rw [← hV0, ← hY] at h1
  rw [← hV0, ← hR] at h2
  rw [← hV0] at hb0
  have HS0 : Hid (Ry R Y (.cells #[i64 k, i64 tn, .slice an ln cn, .slice at_ lt_ ct] 35) V0) := ⟨h2, h1⟩
  have HB0 := hid hb0
  have HRe : Hid (w.heap.size ≤ R) := by show _ ≤ _; omega
  clear h1 h2 hb0
  go_enter Tryz.func32, Tryz.ntmps32
  go_upto_region 1 with fail
  rw [← hV0, ← hR, ← hY]
  clear hV0 hR hY
  have HSd : Hid (Ry R Y (.cells #[i64 k, i64 tn, .slice an ln cn, .slice at_ lt_ ct] 35) V0.drew) := ⟨HS0.out.r, HS0.out.y⟩
  have HB : Hid (Below w.heap.size w V0.drew) := HB0.out.drew
  refine wp_region_noPanic ?_
  refine wp_region_last (Ry R Y (.cells #[i64 k, i64 tn, .slice an ln cn, .slice at_ lt_ ct] 35)) 13 (by kernel_rfl) ?_
  refine wpL_take 0 11 (i64 (a : Nat)) [1, 4, 5] rfl rfl (by kernel_rfl) (by decide) (by kernel_rfl) (by kernel_rfl) (by kernel_rfl) (fun _ _ _ h => h) HSd.out (by rfl) (fun W hW => by have y0 : W.cell? ⟨Y, 0, none⟩ = some (i64 k) := blk_cell hW.y 0; go_simp) ?_
  simp only [Act.put, List.setIfInBounds_toArray, List.set_cons_zero, List.set_cons_succ]
  refine wpL_take 1 12 (i64 ((a : Int) + 2)) [4, 5] rfl rfl (by kernel_rfl) (by decide) (by kernel_rfl) (by kernel_rfl) (by kernel_rfl) (fun _ _ _ h => h) HSd.out (by rfl) (fun W hW => by have y0 : W.cell? ⟨Y, 0, none⟩ = some (i64 k) := blk_cell hW.y 0; go_simp; exact wrap_id (by omega) (by omega)) ?_
  simp only [Act.put, List.setIfInBounds_toArray, List.set_cons_zero, List.set_cons_succ]
  refine wpL_take 2 13 (.string s) [3, 4, 5] rfl rfl (by kernel_rfl) (by decide) (by kernel_rfl) (by kernel_rfl) (by kernel_rfl) (fun _ _ _ h => h) HSd.out (by rfl) (fun W hW => by have y0 : W.cell? ⟨Y, 0, none⟩ = some (i64 k) := blk_cell hW.y 0; go_simp) ?_
  simp only [Act.put, List.setIfInBounds_toArray, List.set_cons_zero, List.set_cons_succ]
  refine wpL_take 3 14 (i64 (s.size : Nat)) [4, 5] rfl rfl (by kernel_rfl) (by decide) (by kernel_rfl) (by kernel_rfl) (by kernel_rfl) (fun _ _ _ h => h) HSd.out (by rfl) (fun W hW => by have y0 : W.cell? ⟨Y, 0, none⟩ = some (i64 k) := blk_cell hW.y 0; go_simp) ?_
  simp only [Act.put, List.setIfInBounds_toArray, List.set_cons_zero, List.set_cons_succ]
  refine wpL_take 4 15 (.bool true) [5] rfl rfl (by kernel_rfl) (by decide) (by kernel_rfl) (by kernel_rfl) (by kernel_rfl) (fun _ _ _ h => h) HSd.out (by rfl) (fun W hW => by have y0 : W.cell? ⟨Y, 0, none⟩ = some (i64 k) := blk_cell hW.y 0; go_simp) ?_
  simp only [Act.put, List.setIfInBounds_toArray, List.set_cons_zero, List.set_cons_succ]
  refine wpL_take 5 16 (.bool true) [] rfl rfl (by kernel_rfl) (by decide) (by kernel_rfl) (by kernel_rfl) (by kernel_rfl) (fun _ _ _ h => h) HSd.out (by rfl) (fun W hW => by have y0 : W.cell? ⟨Y, 0, none⟩ = some (i64 k) := blk_cell hW.y 0; go_simp) ?_
  simp only [Act.put, List.setIfInBounds_toArray, List.set_cons_zero, List.set_cons_succ]
  refine wpL_skip 6 17 [8, 9, 12] rfl rfl (by kernel_rfl) (by decide) (by kernel_rfl) (by kernel_rfl) (by kernel_rfl) (fun _ _ _ h => h) HSd.out (by rfl) ?_
  simp only [Act.put, List.setIfInBounds_toArray, List.set_cons_zero, List.set_cons_succ]
  refine wpL_skip 7 18 [8, 9, 12] rfl rfl (by kernel_rfl) (by decide) (by kernel_rfl) (by kernel_rfl) (by kernel_rfl) (fun _ _ _ h => h) HSd.out (by rfl) ?_
  simp only [Act.put, List.setIfInBounds_toArray, List.set_cons_zero, List.set_cons_succ]
  refine wpL_skip 8 19 [9, 12] rfl rfl (by kernel_rfl) (by decide) (by kernel_rfl) (by kernel_rfl) (by kernel_rfl) (fun _ _ _ h => h) HSd.out (by rfl) ?_
  simp only [Act.put, List.setIfInBounds_toArray, List.set_cons_zero, List.set_cons_succ]
  refine wpL_skip 9 20 [12] rfl rfl (by kernel_rfl) (by decide) (by kernel_rfl) (by kernel_rfl) (by kernel_rfl) (fun _ _ _ h => h) HSd.out (by rfl) ?_
  simp only [Act.put, List.setIfInBounds_toArray, List.set_cons_zero, List.set_cons_succ]
  refine wpL_skip 10 21 [11, 12] rfl rfl (by kernel_rfl) (by decide) (by kernel_rfl) (by kernel_rfl) (by kernel_rfl) (fun _ _ _ h => h) HSd.out (by rfl) ?_
  simp only [Act.put, List.setIfInBounds_toArray, List.set_cons_zero, List.set_cons_succ]
  refine wpL_skip 11 22 [12] rfl rfl (by kernel_rfl) (by decide) (by kernel_rfl) (by kernel_rfl) (by kernel_rfl) (fun _ _ _ h => h) HSd.out (by rfl) ?_
  simp only [Act.put, List.setIfInBounds_toArray, List.set_cons_zero, List.set_cons_succ]
  refine wpL_skip 12 23 [] rfl rfl (by kernel_rfl) (by decide) (by kernel_rfl) (by kernel_rfl) (by kernel_rfl) (fun _ _ _ h => h) HSd.out (by rfl) ?_
  simp only [Act.put, List.setIfInBounds_toArray, List.set_cons_zero, List.set_cons_succ]
  refine wpL_one 13 rfl (by kernel_rfl) (by rfl) (fun K hK => ?_)
  go_simp
  refine hK.out _ _ (fun h => absurd rfl h) ?_
  clear hK K
  refine wpL_done (by kernel_rfl) ?_
  refine NoPanic.normal ?_
  have HS := HSd
  clear HSd HS0 HB0
  generalize V0.drew = V at *
  have rc0 : V.cell? ⟨R, 0, none⟩ = some (i64 0) := blk_cell HS.out.r 0
  have rf0 : V.frozen? ⟨R, 0, none⟩ = false := blk_frozen HS.out.r 0
  have rc1 : V.cell? ⟨R, 1, none⟩ = some (i64 0) := blk_cell HS.out.r 1
  have rf1 : V.frozen? ⟨R, 1, none⟩ = false := blk_frozen HS.out.r 1
  have rc2 : V.cell? ⟨R, 2, none⟩ = some (str []) := blk_cell HS.out.r 2
  have rf2 : V.frozen? ⟨R, 2, none⟩ = false := blk_frozen HS.out.r 2
  have rc3 : V.cell? ⟨R, 3, none⟩ = some (.slice none 0 0) := blk_cell HS.out.r 3
  have rf3 : V.frozen? ⟨R, 3, none⟩ = false := blk_frozen HS.out.r 3
  have rc4 : V.cell? ⟨R, 4, none⟩ = some (i64 0) := blk_cell HS.out.r 4
  have rf4 : V.frozen? ⟨R, 4, none⟩ = false := blk_frozen HS.out.r 4
  go_wp2_with fail
  refine bodyPost_ret (v := gv 0 0 (str []) (.slice none 0 0) (-1)) (results_one Tryz.results32 rfl (load85 (set5 HS.out.r _ _ _ _ _))) rfl ?_
  exact ⟨rfl, below5 HB.out HRe.out _ _ _ _ _⟩
set_option maxRecDepth 100000 in
set_option maxHeartbeats 12800000 in
theorem tk7_tag (w : World) (s : ByteArray) (a : Nat) (k tn : Int) (an at_ : Option Addr) (ln cn lt_ ct : Nat) (hs : s.size ≤ 1000000) (h : a + 2 ≤ s.size) (hk : ((s[a]'(by omega)).toNat : Int) ≠ k) : Calls Tryz.prog 32 #[.string s, i64 (a : Nat), .agg #[i64 k, i64 tn, .slice an ln cn, .slice at_ lt_ ct]] w (GNo w) := by
  have hI : ¬ (s.size : Int) < (a : Int) + 2 := by omega
  have hlt : a < s.size := by omega
  have hltI : (a : Int) < s.size := by omega
  have hq : ((s[a].toNat : Int) == k) = false := beq_false_of_ne hk
  have hq2 : ((s[a].toNat : Int) != k) = true := by rw [bne, hq]; rfl
  obtain ⟨h1, h2, hb0⟩ := two_boxes w (.cells #[i64 k, i64 tn, .slice an ln cn, .slice at_ lt_ ct] 35) (gO 0 0 (str []) (.slice none 0 0) 0)
  obtain ⟨Y, hY⟩ : ∃ Y, Y = w.heap.size := ⟨_, rfl⟩
  obtain ⟨R, hR⟩ : ∃ R, R = w.heap.size + 1 := ⟨_, rfl⟩
  obtain ⟨V0, hV0⟩ : ∃ V0, V0 = (w.alloc (.cells #[i64 k, i64 tn, .slice an ln cn, .slice at_ lt_ ct] 35)).alloc (gO 0 0 (str []) (.slice none 0 0) 0) := ⟨_, rfl⟩
  rw [← hV0, ← hY] at h1
  rw [← hV0, ← hR] at h2
  rw [← hV0] at hb0
  have HS0 : Hid (Ry R Y (.cells #[i64 k, i64 tn, .slice an ln cn, .slice at_ lt_ ct] 35) V0) := ⟨h2, h1⟩
  have HB0 := hid hb0
  have HRe : Hid (w.heap.size ≤ R) := by show _ ≤ _; omega
  clear h1 h2 hb0
  go_enter Tryz.func32, Tryz.ntmps32
  go_upto_region 1 with fail
  rw [← hV0, ← hR, ← hY]
  clear hV0 hR hY
  have HSd : Hid (Ry R Y (.cells #[i64 k, i64 tn, .slice an ln cn, .slice at_ lt_ ct] 35) V0.drew) := ⟨HS0.out.r, HS0.out.y⟩
  have HB : Hid (Below w.heap.size w V0.drew) := HB0.out.drew
  refine wp_region_noPanic ?_
  refine wp_region_last (Ry R Y (.cells #[i64 k, i64 tn, .slice an ln cn, .slice at_ lt_ ct] 35)) 13 (by kernel_rfl) ?_
  refine wpL_take 0 11 (i64 (a : Nat)) [1, 4, 5] rfl rfl (by kernel_rfl) (by decide) (by kernel_rfl) (by kernel_rfl) (by kernel_rfl) (fun _ _ _ h => h) HSd.out (by rfl) (fun W hW => by have y0 : W.cell? ⟨Y, 0, none⟩ = some (i64 k) := blk_cell hW.y 0; go_simp) ?_
  simp only [Act.put, List.setIfInBounds_toArray, List.set_cons_zero, List.set_cons_succ]
  refine wpL_take 1 12 (i64 ((a : Int) + 2)) [4, 5] rfl rfl (by kernel_rfl) (by decide) (by kernel_rfl) (by kernel_rfl) (by kernel_rfl) (fun _ _ _ h => h) HSd.out (by rfl) (fun W hW => by have y0 : W.cell? ⟨Y, 0, none⟩ = some (i64 k) := blk_cell hW.y 0; go_simp; exact wrap_id (by omega) (by omega)) ?_
  simp only [Act.put, List.setIfInBounds_toArray, List.set_cons_zero, List.set_cons_succ]
  refine wpL_take 2 13 (.string s) [3, 4, 5] rfl rfl (by kernel_rfl) (by decide) (by kernel_rfl) (by kernel_rfl) (by kernel_rfl) (fun _ _ _ h => h) HSd.out (by rfl) (fun W hW => by have y0 : W.cell? ⟨Y, 0, none⟩ = some (i64 k) := blk_cell hW.y 0; go_simp) ?_
  simp only [Act.put, List.setIfInBounds_toArray, List.set_cons_zero, List.set_cons_succ]
  refine wpL_take 3 14 (i64 (s.size : Nat)) [4, 5] rfl rfl (by kernel_rfl) (by decide) (by kernel_rfl) (by kernel_rfl) (by kernel_rfl) (fun _ _ _ h => h) HSd.out (by rfl) (fun W hW => by have y0 : W.cell? ⟨Y, 0, none⟩ = some (i64 k) := blk_cell hW.y 0; go_simp) ?_
  simp only [Act.put, List.setIfInBounds_toArray, List.set_cons_zero, List.set_cons_succ]
  refine wpL_take 4 15 (.bool false) [5] rfl rfl (by kernel_rfl) (by decide) (by kernel_rfl) (by kernel_rfl) (by kernel_rfl) (fun _ _ _ h => h) HSd.out (by rfl) (fun W hW => by have y0 : W.cell? ⟨Y, 0, none⟩ = some (i64 k) := blk_cell hW.y 0; go_simp) ?_
  simp only [Act.put, List.setIfInBounds_toArray, List.set_cons_zero, List.set_cons_succ]
  refine wpL_take 5 16 (.bool false) [] rfl rfl (by kernel_rfl) (by decide) (by kernel_rfl) (by kernel_rfl) (by kernel_rfl) (fun _ _ _ h => h) HSd.out (by rfl) (fun W hW => by have y0 : W.cell? ⟨Y, 0, none⟩ = some (i64 k) := blk_cell hW.y 0; go_simp) ?_
  simp only [Act.put, List.setIfInBounds_toArray, List.set_cons_zero, List.set_cons_succ]
  refine wpL_take 6 17 (.string s) [8, 9, 12] rfl rfl (by kernel_rfl) (by decide) (by kernel_rfl) (by kernel_rfl) (by kernel_rfl) (fun _ _ _ h => h) HSd.out (by rfl) (fun W hW => by have y0 : W.cell? ⟨Y, 0, none⟩ = some (i64 k) := blk_cell hW.y 0; go_simp) ?_
  simp only [Act.put, List.setIfInBounds_toArray, List.set_cons_zero, List.set_cons_succ]
  refine wpL_take 7 18 (i64 (a : Nat)) [8, 9, 12] rfl rfl (by kernel_rfl) (by decide) (by kernel_rfl) (by kernel_rfl) (by kernel_rfl) (fun _ _ _ h => h) HSd.out (by rfl) (fun W hW => by have y0 : W.cell? ⟨Y, 0, none⟩ = some (i64 k) := blk_cell hW.y 0; go_simp) ?_
  simp only [Act.put, List.setIfInBounds_toArray, List.set_cons_zero, List.set_cons_succ]
  refine wpL_take 8 19 (.int .u8 (s[a].toNat : Nat)) [9, 12] rfl rfl (by kernel_rfl) (by decide) (by kernel_rfl) (by kernel_rfl) (by kernel_rfl) (fun _ _ _ h => h) HSd.out (by rfl) (fun W hW => by have y0 : W.cell? ⟨Y, 0, none⟩ = some (i64 k) := blk_cell hW.y 0; go_simp) ?_
  simp only [Act.put, List.setIfInBounds_toArray, List.set_cons_zero, List.set_cons_succ]
  refine wpL_take 9 20 (i64 (s[a].toNat : Nat)) [12] rfl rfl (by kernel_rfl) (by decide) (by kernel_rfl) (by kernel_rfl) (by kernel_rfl) (fun _ _ _ h => h) HSd.out (by rfl) (fun W hW => by have y0 : W.cell? ⟨Y, 0, none⟩ = some (i64 k) := blk_cell hW.y 0; go_simp; exact wrap_id (by omega) (by have := s[a].toNat_lt; omega)) ?_
  simp only [Act.put, List.setIfInBounds_toArray, List.set_cons_zero, List.set_cons_succ]
  refine wpL_take 10 21 (.pointer (some ⟨Y, 0, none⟩)) [11, 12] rfl rfl (by kernel_rfl) (by decide) (by kernel_rfl) (by kernel_rfl) (by kernel_rfl) (fun _ _ _ h => h) HSd.out (by rfl) (fun W hW => by have y0 : W.cell? ⟨Y, 0, none⟩ = some (i64 k) := blk_cell hW.y 0; go_simp) ?_
  simp only [Act.put, List.setIfInBounds_toArray, List.set_cons_zero, List.set_cons_succ]
  refine wpL_take 11 22 (i64 k) [12] rfl rfl (by kernel_rfl) (by decide) (by kernel_rfl) (by kernel_rfl) (by kernel_rfl) (fun _ _ _ h => h) HSd.out (by rfl) (fun W hW => by have y0 : W.cell? ⟨Y, 0, none⟩ = some (i64 k) := blk_cell hW.y 0; go_simp) ?_
  simp only [Act.put, List.setIfInBounds_toArray, List.set_cons_zero, List.set_cons_succ]
  refine wpL_take 12 23 (.bool true) [] rfl rfl (by kernel_rfl) (by decide) (by kernel_rfl) (by kernel_rfl) (by kernel_rfl) (fun _ _ _ h => h) HSd.out (by rfl) (fun W hW => by have y0 : W.cell? ⟨Y, 0, none⟩ = some (i64 k) := blk_cell hW.y 0; go_simp) ?_
  simp only [Act.put, List.setIfInBounds_toArray, List.set_cons_zero, List.set_cons_succ]
  refine wpL_one 13 rfl (by kernel_rfl) (by rfl) (fun K hK => ?_)
  go_simp
  refine hK.out _ _ (fun h => absurd rfl h) ?_
  clear hK K
  refine wpL_done (by kernel_rfl) ?_
  refine NoPanic.normal ?_
  have HS := HSd
  clear HSd HS0 HB0
  generalize V0.drew = V at *
  have rc0 : V.cell? ⟨R, 0, none⟩ = some (i64 0) := blk_cell HS.out.r 0
  have rf0 : V.frozen? ⟨R, 0, none⟩ = false := blk_frozen HS.out.r 0
  have rc1 : V.cell? ⟨R, 1, none⟩ = some (i64 0) := blk_cell HS.out.r 1
  have rf1 : V.frozen? ⟨R, 1, none⟩ = false := blk_frozen HS.out.r 1
  have rc2 : V.cell? ⟨R, 2, none⟩ = some (str []) := blk_cell HS.out.r 2
  have rf2 : V.frozen? ⟨R, 2, none⟩ = false := blk_frozen HS.out.r 2
  have rc3 : V.cell? ⟨R, 3, none⟩ = some (.slice none 0 0) := blk_cell HS.out.r 3
  have rf3 : V.frozen? ⟨R, 3, none⟩ = false := blk_frozen HS.out.r 3
  have rc4 : V.cell? ⟨R, 4, none⟩ = some (i64 0) := blk_cell HS.out.r 4
  have rf4 : V.frozen? ⟨R, 4, none⟩ = false := blk_frozen HS.out.r 4
  go_wp2_with fail
  refine bodyPost_ret (v := gv 0 0 (str []) (.slice none 0 0) (-1)) (results_one Tryz.results32 rfl (load85 (set5 HS.out.r _ _ _ _ _))) rfl ?_
  exact ⟨rfl, below5 HB.out HRe.out _ _ _ _ _⟩
theorem sl_i (W : World) (s : ByteArray) (j k : Nat) (x y : Int) (hx : x = (j : Nat)) (hy : y = (k : Nat)) (hj : j ≤ k) (h : k ≤ s.size) : (Instr.slice 9 (.string s) (some (i64 x)) (some (i64 y)) none).run Tryz.prog W = .ok (str ((s.data.toList.drop j).take (k - j))) W := by
  subst hx hy
  exact sl_lk W s j k hj h
theorem cut_len (s : ByteArray) (j m : Nat) (h : j + m ≤ s.size) : ((s.data.toList.drop j).take m).length = m := by
  rw [List.length_take, List.length_drop, Array.length_toList]
  have : s.data.size = s.size := rfl
  omega
set_option maxRecDepth 100000 in
set_option maxHeartbeats 12800000 in
theorem tk7_1_16_no (w : World) (s : ByteArray) (a : Nat) (an at_ : Option Addr) (ln cn lt_ ct : Nat) (hs : s.size ≤ 1000000) (h : a + 2 ≤ s.size) (hk : (s[a]'(by omega)).toNat = 1) (he : s.size < a + 1 + 2) : Calls Tryz.prog 32 #[.string s, i64 (a : Nat), .agg #[i64 1, i64 16, .slice an ln cn, .slice at_ lt_ ct]] w (GNo w) := by
  have hI : ¬ (s.size : Int) < (a : Int) + 2 := by omega
  have hlt : a < s.size := by omega
  have hltI : (a : Int) < s.size := by omega
  have hq : ((s[a].toNat : Int) == 1) = true := beq_iff_eq.2 (by rw [hk]; rfl)
  have hq2 : ((s[a].toNat : Int) != 1) = false := by rw [bne, hq]; rfl
  have heI : (s.size : Int) < (a : Int) + 1 + 2 := by omega
  obtain ⟨h1, h2, hb0⟩ := two_boxes w (.cells #[i64 1, i64 16, .slice an ln cn, .slice at_ lt_ ct] 35) (gO 0 0 (str []) (.slice none 0 0) 0)
  obtain ⟨Y, hY⟩ : ∃ Y, Y = w.heap.size := ⟨_, rfl⟩
  obtain ⟨R, hR⟩ : ∃ R, R = w.heap.size + 1 := ⟨_, rfl⟩
  obtain ⟨V0, hV0⟩ : ∃ V0, V0 = (w.alloc (.cells #[i64 1, i64 16, .slice an ln cn, .slice at_ lt_ ct] 35)).alloc (gO 0 0 (str []) (.slice none 0 0) 0) := ⟨_, rfl⟩
  rw [← hV0, ← hY] at h1
  rw [← hV0, ← hR] at h2
  rw [← hV0] at hb0
  have HS0 : Hid (Ry R Y (.cells #[i64 1, i64 16, .slice an ln cn, .slice at_ lt_ ct] 35) V0) := ⟨h2, h1⟩
  have HB0 := hid hb0
  have HRe : Hid (w.heap.size ≤ R) := by show _ ≤ _; omega
  clear h1 h2 hb0
  go_enter Tryz.func32, Tryz.ntmps32
  go_upto_region 1 with fail
  rw [← hV0, ← hR, ← hY]
  clear hV0 hR hY
  have HSd : Hid (Ry R Y (.cells #[i64 1, i64 16, .slice an ln cn, .slice at_ lt_ ct] 35) V0.drew) := ⟨HS0.out.r, HS0.out.y⟩
  have HB : Hid (Below w.heap.size w V0.drew) := HB0.out.drew
  refine wp_region_noPanic ?_
  refine wp_region_last (Ry R Y (.cells #[i64 1, i64 16, .slice an ln cn, .slice at_ lt_ ct] 35)) 13 (by kernel_rfl) ?_
  refine wpL_take 0 11 (i64 (a : Nat)) [1, 4, 5] rfl rfl (by kernel_rfl) (by decide) (by kernel_rfl) (by kernel_rfl) (by kernel_rfl) (fun _ _ _ h => h) HSd.out (by rfl) (fun W hW => by have y0 : W.cell? ⟨Y, 0, none⟩ = some (i64 1) := blk_cell hW.y 0; go_simp) ?_
  simp only [Act.put, List.setIfInBounds_toArray, List.set_cons_zero, List.set_cons_succ]
  refine wpL_take 1 12 (i64 ((a : Int) + 2)) [4, 5] rfl rfl (by kernel_rfl) (by decide) (by kernel_rfl) (by kernel_rfl) (by kernel_rfl) (fun _ _ _ h => h) HSd.out (by rfl) (fun W hW => by have y0 : W.cell? ⟨Y, 0, none⟩ = some (i64 1) := blk_cell hW.y 0; go_simp; exact wrap_id (by omega) (by omega)) ?_
  simp only [Act.put, List.setIfInBounds_toArray, List.set_cons_zero, List.set_cons_succ]
  refine wpL_take 2 13 (.string s) [3, 4, 5] rfl rfl (by kernel_rfl) (by decide) (by kernel_rfl) (by kernel_rfl) (by kernel_rfl) (fun _ _ _ h => h) HSd.out (by rfl) (fun W hW => by have y0 : W.cell? ⟨Y, 0, none⟩ = some (i64 1) := blk_cell hW.y 0; go_simp) ?_
  simp only [Act.put, List.setIfInBounds_toArray, List.set_cons_zero, List.set_cons_succ]
  refine wpL_take 3 14 (i64 (s.size : Nat)) [4, 5] rfl rfl (by kernel_rfl) (by decide) (by kernel_rfl) (by kernel_rfl) (by kernel_rfl) (fun _ _ _ h => h) HSd.out (by rfl) (fun W hW => by have y0 : W.cell? ⟨Y, 0, none⟩ = some (i64 1) := blk_cell hW.y 0; go_simp) ?_
  simp only [Act.put, List.setIfInBounds_toArray, List.set_cons_zero, List.set_cons_succ]
  refine wpL_take 4 15 (.bool false) [5] rfl rfl (by kernel_rfl) (by decide) (by kernel_rfl) (by kernel_rfl) (by kernel_rfl) (fun _ _ _ h => h) HSd.out (by rfl) (fun W hW => by have y0 : W.cell? ⟨Y, 0, none⟩ = some (i64 1) := blk_cell hW.y 0; go_simp) ?_
  simp only [Act.put, List.setIfInBounds_toArray, List.set_cons_zero, List.set_cons_succ]
  refine wpL_take 5 16 (.bool false) [] rfl rfl (by kernel_rfl) (by decide) (by kernel_rfl) (by kernel_rfl) (by kernel_rfl) (fun _ _ _ h => h) HSd.out (by rfl) (fun W hW => by have y0 : W.cell? ⟨Y, 0, none⟩ = some (i64 1) := blk_cell hW.y 0; go_simp) ?_
  simp only [Act.put, List.setIfInBounds_toArray, List.set_cons_zero, List.set_cons_succ]
  refine wpL_take 6 17 (.string s) [8, 9, 12] rfl rfl (by kernel_rfl) (by decide) (by kernel_rfl) (by kernel_rfl) (by kernel_rfl) (fun _ _ _ h => h) HSd.out (by rfl) (fun W hW => by have y0 : W.cell? ⟨Y, 0, none⟩ = some (i64 1) := blk_cell hW.y 0; go_simp) ?_
  simp only [Act.put, List.setIfInBounds_toArray, List.set_cons_zero, List.set_cons_succ]
  refine wpL_take 7 18 (i64 (a : Nat)) [8, 9, 12] rfl rfl (by kernel_rfl) (by decide) (by kernel_rfl) (by kernel_rfl) (by kernel_rfl) (fun _ _ _ h => h) HSd.out (by rfl) (fun W hW => by have y0 : W.cell? ⟨Y, 0, none⟩ = some (i64 1) := blk_cell hW.y 0; go_simp) ?_
  simp only [Act.put, List.setIfInBounds_toArray, List.set_cons_zero, List.set_cons_succ]
  refine wpL_take 8 19 (.int .u8 (s[a].toNat : Nat)) [9, 12] rfl rfl (by kernel_rfl) (by decide) (by kernel_rfl) (by kernel_rfl) (by kernel_rfl) (fun _ _ _ h => h) HSd.out (by rfl) (fun W hW => by have y0 : W.cell? ⟨Y, 0, none⟩ = some (i64 1) := blk_cell hW.y 0; go_simp) ?_
  simp only [Act.put, List.setIfInBounds_toArray, List.set_cons_zero, List.set_cons_succ]
  refine wpL_take 9 20 (i64 (s[a].toNat : Nat)) [12] rfl rfl (by kernel_rfl) (by decide) (by kernel_rfl) (by kernel_rfl) (by kernel_rfl) (fun _ _ _ h => h) HSd.out (by rfl) (fun W hW => by have y0 : W.cell? ⟨Y, 0, none⟩ = some (i64 1) := blk_cell hW.y 0; go_simp; exact wrap_id (by omega) (by have := s[a].toNat_lt; omega)) ?_
  simp only [Act.put, List.setIfInBounds_toArray, List.set_cons_zero, List.set_cons_succ]
  refine wpL_take 10 21 (.pointer (some ⟨Y, 0, none⟩)) [11, 12] rfl rfl (by kernel_rfl) (by decide) (by kernel_rfl) (by kernel_rfl) (by kernel_rfl) (fun _ _ _ h => h) HSd.out (by rfl) (fun W hW => by have y0 : W.cell? ⟨Y, 0, none⟩ = some (i64 1) := blk_cell hW.y 0; go_simp) ?_
  simp only [Act.put, List.setIfInBounds_toArray, List.set_cons_zero, List.set_cons_succ]
  refine wpL_take 11 22 (i64 1) [12] rfl rfl (by kernel_rfl) (by decide) (by kernel_rfl) (by kernel_rfl) (by kernel_rfl) (fun _ _ _ h => h) HSd.out (by rfl) (fun W hW => by have y0 : W.cell? ⟨Y, 0, none⟩ = some (i64 1) := blk_cell hW.y 0; go_simp) ?_
  simp only [Act.put, List.setIfInBounds_toArray, List.set_cons_zero, List.set_cons_succ]
  refine wpL_take 12 23 (.bool false) [] rfl rfl (by kernel_rfl) (by decide) (by kernel_rfl) (by kernel_rfl) (by kernel_rfl) (fun _ _ _ h => h) HSd.out (by rfl) (fun W hW => by have y0 : W.cell? ⟨Y, 0, none⟩ = some (i64 1) := blk_cell hW.y 0; go_simp) ?_
  simp only [Act.put, List.setIfInBounds_toArray, List.set_cons_zero, List.set_cons_succ]
  refine wpL_one 13 rfl (by kernel_rfl) (by rfl) (fun K hK => ?_)
  go_simp
  refine hK.out _ _ (fun h => absurd rfl h) ?_
  clear hK K
  refine wpL_done (by kernel_rfl) ?_
  refine NoPanic.normal ?_
  have HS := HSd
  clear HSd HS0 HB0
  generalize V0.drew = V at *
  have rc0 : V.cell? ⟨R, 0, none⟩ = some (i64 0) := blk_cell HS.out.r 0
  have rf0 : V.frozen? ⟨R, 0, none⟩ = false := blk_frozen HS.out.r 0
  have rc1 : V.cell? ⟨R, 1, none⟩ = some (i64 0) := blk_cell HS.out.r 1
  have rf1 : V.frozen? ⟨R, 1, none⟩ = false := blk_frozen HS.out.r 1
  have rc2 : V.cell? ⟨R, 2, none⟩ = some (str []) := blk_cell HS.out.r 2
  have rf2 : V.frozen? ⟨R, 2, none⟩ = false := blk_frozen HS.out.r 2
  have rc3 : V.cell? ⟨R, 3, none⟩ = some (.slice none 0 0) := blk_cell HS.out.r 3
  have rf3 : V.frozen? ⟨R, 3, none⟩ = false := blk_frozen HS.out.r 3
  have rc4 : V.cell? ⟨R, 4, none⟩ = some (i64 0) := blk_cell HS.out.r 4
  have rf4 : V.frozen? ⟨R, 4, none⟩ = false := blk_frozen HS.out.r 4
  have yc0 : V.cell? ⟨Y, 0, none⟩ = some (i64 1) := blk_cell HS.out.y 0
  have yc1 : V.cell? ⟨Y, 1, none⟩ = some (i64 16) := blk_cell HS.out.y 1
  have yc2 : V.cell? ⟨Y, 2, none⟩ = some (.slice an ln cn) := blk_cell HS.out.y 2
  have yc3 : V.cell? ⟨Y, 3, none⟩ = some (.slice at_ lt_ ct) := blk_cell HS.out.y 3
  go_wp2_with fail
  refine bodyPost_ret (v := gv 0 0 (str []) (.slice none 0 0) (-1)) (results_one Tryz.results32 rfl (load85 (set5 HS.out.r _ _ _ _ _))) rfl ?_
  exact ⟨rfl, below5 HB.out HRe.out _ _ _ _ _⟩
set_option maxRecDepth 100000 in
set_option maxHeartbeats 12800000 in
theorem tk7_1_32_no (w : World) (s : ByteArray) (a : Nat) (an at_ : Option Addr) (ln cn lt_ ct : Nat) (hs : s.size ≤ 1000000) (h : a + 2 ≤ s.size) (hk : (s[a]'(by omega)).toNat = 1) (he : s.size < a + 1 + 4) : Calls Tryz.prog 32 #[.string s, i64 (a : Nat), .agg #[i64 1, i64 32, .slice an ln cn, .slice at_ lt_ ct]] w (GNo w) := by
  have hI : ¬ (s.size : Int) < (a : Int) + 2 := by omega
  have hlt : a < s.size := by omega
  have hltI : (a : Int) < s.size := by omega
  have hq : ((s[a].toNat : Int) == 1) = true := beq_iff_eq.2 (by rw [hk]; rfl)
  have hq2 : ((s[a].toNat : Int) != 1) = false := by rw [bne, hq]; rfl
  have heI : (s.size : Int) < (a : Int) + 1 + 4 := by omega
  obtain ⟨h1, h2, hb0⟩ := two_boxes w (.cells #[i64 1, i64 32, .slice an ln cn, .slice at_ lt_ ct] 35) (gO 0 0 (str []) (.slice none 0 0) 0)
  obtain ⟨Y, hY⟩ : ∃ Y, Y = w.heap.size := ⟨_, rfl⟩
  obtain ⟨R, hR⟩ : ∃ R, R = w.heap.size + 1 := ⟨_, rfl⟩
  obtain ⟨V0, hV0⟩ : ∃ V0, V0 = (w.alloc (.cells #[i64 1, i64 32, .slice an ln cn, .slice at_ lt_ ct] 35)).alloc (gO 0 0 (str []) (.slice none 0 0) 0) := ⟨_, rfl⟩
  rw [← hV0, ← hY] at h1
  rw [← hV0, ← hR] at h2
  rw [← hV0] at hb0
  have HS0 : Hid (Ry R Y (.cells #[i64 1, i64 32, .slice an ln cn, .slice at_ lt_ ct] 35) V0) := ⟨h2, h1⟩
  have HB0 := hid hb0
  have HRe : Hid (w.heap.size ≤ R) := by show _ ≤ _; omega
  clear h1 h2 hb0
  go_enter Tryz.func32, Tryz.ntmps32
  go_upto_region 1 with fail
  rw [← hV0, ← hR, ← hY]
  clear hV0 hR hY
  have HSd : Hid (Ry R Y (.cells #[i64 1, i64 32, .slice an ln cn, .slice at_ lt_ ct] 35) V0.drew) := ⟨HS0.out.r, HS0.out.y⟩
  have HB : Hid (Below w.heap.size w V0.drew) := HB0.out.drew
  refine wp_region_noPanic ?_
  refine wp_region_last (Ry R Y (.cells #[i64 1, i64 32, .slice an ln cn, .slice at_ lt_ ct] 35)) 13 (by kernel_rfl) ?_
  refine wpL_take 0 11 (i64 (a : Nat)) [1, 4, 5] rfl rfl (by kernel_rfl) (by decide) (by kernel_rfl) (by kernel_rfl) (by kernel_rfl) (fun _ _ _ h => h) HSd.out (by rfl) (fun W hW => by have y0 : W.cell? ⟨Y, 0, none⟩ = some (i64 1) := blk_cell hW.y 0; go_simp) ?_
  simp only [Act.put, List.setIfInBounds_toArray, List.set_cons_zero, List.set_cons_succ]
  refine wpL_take 1 12 (i64 ((a : Int) + 2)) [4, 5] rfl rfl (by kernel_rfl) (by decide) (by kernel_rfl) (by kernel_rfl) (by kernel_rfl) (fun _ _ _ h => h) HSd.out (by rfl) (fun W hW => by have y0 : W.cell? ⟨Y, 0, none⟩ = some (i64 1) := blk_cell hW.y 0; go_simp; exact wrap_id (by omega) (by omega)) ?_
  simp only [Act.put, List.setIfInBounds_toArray, List.set_cons_zero, List.set_cons_succ]
  refine wpL_take 2 13 (.string s) [3, 4, 5] rfl rfl (by kernel_rfl) (by decide) (by kernel_rfl) (by kernel_rfl) (by kernel_rfl) (fun _ _ _ h => h) HSd.out (by rfl) (fun W hW => by have y0 : W.cell? ⟨Y, 0, none⟩ = some (i64 1) := blk_cell hW.y 0; go_simp) ?_
  simp only [Act.put, List.setIfInBounds_toArray, List.set_cons_zero, List.set_cons_succ]
  refine wpL_take 3 14 (i64 (s.size : Nat)) [4, 5] rfl rfl (by kernel_rfl) (by decide) (by kernel_rfl) (by kernel_rfl) (by kernel_rfl) (fun _ _ _ h => h) HSd.out (by rfl) (fun W hW => by have y0 : W.cell? ⟨Y, 0, none⟩ = some (i64 1) := blk_cell hW.y 0; go_simp) ?_
  simp only [Act.put, List.setIfInBounds_toArray, List.set_cons_zero, List.set_cons_succ]
  refine wpL_take 4 15 (.bool false) [5] rfl rfl (by kernel_rfl) (by decide) (by kernel_rfl) (by kernel_rfl) (by kernel_rfl) (fun _ _ _ h => h) HSd.out (by rfl) (fun W hW => by have y0 : W.cell? ⟨Y, 0, none⟩ = some (i64 1) := blk_cell hW.y 0; go_simp) ?_
  simp only [Act.put, List.setIfInBounds_toArray, List.set_cons_zero, List.set_cons_succ]
  refine wpL_take 5 16 (.bool false) [] rfl rfl (by kernel_rfl) (by decide) (by kernel_rfl) (by kernel_rfl) (by kernel_rfl) (fun _ _ _ h => h) HSd.out (by rfl) (fun W hW => by have y0 : W.cell? ⟨Y, 0, none⟩ = some (i64 1) := blk_cell hW.y 0; go_simp) ?_
  simp only [Act.put, List.setIfInBounds_toArray, List.set_cons_zero, List.set_cons_succ]
  refine wpL_take 6 17 (.string s) [8, 9, 12] rfl rfl (by kernel_rfl) (by decide) (by kernel_rfl) (by kernel_rfl) (by kernel_rfl) (fun _ _ _ h => h) HSd.out (by rfl) (fun W hW => by have y0 : W.cell? ⟨Y, 0, none⟩ = some (i64 1) := blk_cell hW.y 0; go_simp) ?_
  simp only [Act.put, List.setIfInBounds_toArray, List.set_cons_zero, List.set_cons_succ]
  refine wpL_take 7 18 (i64 (a : Nat)) [8, 9, 12] rfl rfl (by kernel_rfl) (by decide) (by kernel_rfl) (by kernel_rfl) (by kernel_rfl) (fun _ _ _ h => h) HSd.out (by rfl) (fun W hW => by have y0 : W.cell? ⟨Y, 0, none⟩ = some (i64 1) := blk_cell hW.y 0; go_simp) ?_
  simp only [Act.put, List.setIfInBounds_toArray, List.set_cons_zero, List.set_cons_succ]
  refine wpL_take 8 19 (.int .u8 (s[a].toNat : Nat)) [9, 12] rfl rfl (by kernel_rfl) (by decide) (by kernel_rfl) (by kernel_rfl) (by kernel_rfl) (fun _ _ _ h => h) HSd.out (by rfl) (fun W hW => by have y0 : W.cell? ⟨Y, 0, none⟩ = some (i64 1) := blk_cell hW.y 0; go_simp) ?_
  simp only [Act.put, List.setIfInBounds_toArray, List.set_cons_zero, List.set_cons_succ]
  refine wpL_take 9 20 (i64 (s[a].toNat : Nat)) [12] rfl rfl (by kernel_rfl) (by decide) (by kernel_rfl) (by kernel_rfl) (by kernel_rfl) (fun _ _ _ h => h) HSd.out (by rfl) (fun W hW => by have y0 : W.cell? ⟨Y, 0, none⟩ = some (i64 1) := blk_cell hW.y 0; go_simp; exact wrap_id (by omega) (by have := s[a].toNat_lt; omega)) ?_
  simp only [Act.put, List.setIfInBounds_toArray, List.set_cons_zero, List.set_cons_succ]
  refine wpL_take 10 21 (.pointer (some ⟨Y, 0, none⟩)) [11, 12] rfl rfl (by kernel_rfl) (by decide) (by kernel_rfl) (by kernel_rfl) (by kernel_rfl) (fun _ _ _ h => h) HSd.out (by rfl) (fun W hW => by have y0 : W.cell? ⟨Y, 0, none⟩ = some (i64 1) := blk_cell hW.y 0; go_simp) ?_
  simp only [Act.put, List.setIfInBounds_toArray, List.set_cons_zero, List.set_cons_succ]
  refine wpL_take 11 22 (i64 1) [12] rfl rfl (by kernel_rfl) (by decide) (by kernel_rfl) (by kernel_rfl) (by kernel_rfl) (fun _ _ _ h => h) HSd.out (by rfl) (fun W hW => by have y0 : W.cell? ⟨Y, 0, none⟩ = some (i64 1) := blk_cell hW.y 0; go_simp) ?_
  simp only [Act.put, List.setIfInBounds_toArray, List.set_cons_zero, List.set_cons_succ]
  refine wpL_take 12 23 (.bool false) [] rfl rfl (by kernel_rfl) (by decide) (by kernel_rfl) (by kernel_rfl) (by kernel_rfl) (fun _ _ _ h => h) HSd.out (by rfl) (fun W hW => by have y0 : W.cell? ⟨Y, 0, none⟩ = some (i64 1) := blk_cell hW.y 0; go_simp) ?_
  simp only [Act.put, List.setIfInBounds_toArray, List.set_cons_zero, List.set_cons_succ]
  refine wpL_one 13 rfl (by kernel_rfl) (by rfl) (fun K hK => ?_)
  go_simp
  refine hK.out _ _ (fun h => absurd rfl h) ?_
  clear hK K
  refine wpL_done (by kernel_rfl) ?_
  refine NoPanic.normal ?_
  have HS := HSd
  clear HSd HS0 HB0
  generalize V0.drew = V at *
  have rc0 : V.cell? ⟨R, 0, none⟩ = some (i64 0) := blk_cell HS.out.r 0
  have rf0 : V.frozen? ⟨R, 0, none⟩ = false := blk_frozen HS.out.r 0
  have rc1 : V.cell? ⟨R, 1, none⟩ = some (i64 0) := blk_cell HS.out.r 1
  have rf1 : V.frozen? ⟨R, 1, none⟩ = false := blk_frozen HS.out.r 1
  have rc2 : V.cell? ⟨R, 2, none⟩ = some (str []) := blk_cell HS.out.r 2
  have rf2 : V.frozen? ⟨R, 2, none⟩ = false := blk_frozen HS.out.r 2
  have rc3 : V.cell? ⟨R, 3, none⟩ = some (.slice none 0 0) := blk_cell HS.out.r 3
  have rf3 : V.frozen? ⟨R, 3, none⟩ = false := blk_frozen HS.out.r 3
  have rc4 : V.cell? ⟨R, 4, none⟩ = some (i64 0) := blk_cell HS.out.r 4
  have rf4 : V.frozen? ⟨R, 4, none⟩ = false := blk_frozen HS.out.r 4
  have yc0 : V.cell? ⟨Y, 0, none⟩ = some (i64 1) := blk_cell HS.out.y 0
  have yc1 : V.cell? ⟨Y, 1, none⟩ = some (i64 32) := blk_cell HS.out.y 1
  have yc2 : V.cell? ⟨Y, 2, none⟩ = some (.slice an ln cn) := blk_cell HS.out.y 2
  have yc3 : V.cell? ⟨Y, 3, none⟩ = some (.slice at_ lt_ ct) := blk_cell HS.out.y 3
  go_wp2_with fail
  refine bodyPost_ret (v := gv 0 0 (str []) (.slice none 0 0) (-1)) (results_one Tryz.results32 rfl (load85 (set5 HS.out.r _ _ _ _ _))) rfl ?_
  exact ⟨rfl, below5 HB.out HRe.out _ _ _ _ _⟩
set_option maxRecDepth 100000 in
set_option maxHeartbeats 12800000 in
theorem tk7_1_8 (w : World) (s : ByteArray) (a : Nat) (an at_ : Option Addr) (ln cn lt_ ct : Nat) (hs : s.size ≤ 1000000) (h : a + 2 ≤ s.size) (hk : (s[a]'(by omega)).toNat = 1) (he : a + 1 + 1 ≤ s.size) : Calls Tryz.prog 32 #[.string s, i64 (a : Nat), .agg #[i64 1, i64 8, .slice an ln cn, .slice at_ lt_ ct]] w fun e w' => e = .returned (gv 1 (nm ((s.data.toList.drop (a + 1)).take 1) : Nat) (str []) (.slice none 0 0) ((a + 1 + 1 : Nat) : Int)) ∧ Below w.heap.size w w' := by
  have hI : ¬ (s.size : Int) < (a : Int) + 2 := by omega
  have hlt : a < s.size := by omega
  have hltI : (a : Int) < s.size := by omega
  have hq : ((s[a].toNat : Int) == 1) = true := beq_iff_eq.2 (by rw [hk]; rfl)
  have hq2 : ((s[a].toNat : Int) != 1) = false := by rw [bne, hq]; rfl
  have heI : ¬ (s.size : Int) < (a : Int) + 1 + 1 := by omega
  have HSL : Hid (∀ W : World, (Instr.slice 9 (.string s) (some (i64 ((a : Int) + 1))) (some (i64 ((a : Int) + 1 + 1))) none).run Tryz.prog W = .ok (str ((s.data.toList.drop (a + 1)).take 1)) W) := fun W => by
    have := sl_i W s (a + 1) (a + 1 + 1) ((a : Int) + 1) ((a : Int) + 1 + 1) (by omega) (by omega) (by omega) (by omega)
    rw [show a + 1 + 1 - (a + 1) = 1 by omega] at this
    exact this
  have hDl := cut_len s (a + 1) 1 (by omega)
  have HN : Hid (∀ W : World, Calls Tryz.prog 53 #[str ((s.data.toList.drop (a + 1)).take 1)] W fun e w' => e = .returned (.tuple #[.int .u32 (nm ((s.data.toList.drop (a + 1)).take 1)), .int .i64 0]) ∧ w' = W) := fun W => rnum_ok W ⟨((s.data.toList.drop (a + 1)).take 1).toArray⟩ (by rw [bz]; omega) (by rw [bz]; omega)
  have hnb : nm ((s.data.toList.drop (a + 1)).take 1) ≤ 4294967295 := by
    have h1 := nm_lt ((s.data.toList.drop (a + 1)).take 1)
    rw [hDl] at h1
    have h2 : (256 : Nat) ^ 1 ≤ 4294967296 := by decide
    omega
  generalize (s.data.toList.drop (a + 1)).take 1 = D at *
  generalize nm D = n at *
  have hsl := HSL.out
  obtain ⟨h1, h2, hb0⟩ := two_boxes w (.cells #[i64 1, i64 8, .slice an ln cn, .slice at_ lt_ ct] 35) (gO 0 0 (str []) (.slice none 0 0) 0)
  obtain ⟨Y, hY⟩ : ∃ Y, Y = w.heap.size := ⟨_, rfl⟩
  obtain ⟨R, hR⟩ : ∃ R, R = w.heap.size + 1 := ⟨_, rfl⟩
  obtain ⟨V0, hV0⟩ : ∃ V0, V0 = (w.alloc (.cells #[i64 1, i64 8, .slice an ln cn, .slice at_ lt_ ct] 35)).alloc (gO 0 0 (str []) (.slice none 0 0) 0) := ⟨_, rfl⟩
  rw [← hV0, ← hY] at h1
  rw [← hV0, ← hR] at h2
  rw [← hV0] at hb0
  have HS0 : Hid (Ry R Y (.cells #[i64 1, i64 8, .slice an ln cn, .slice at_ lt_ ct] 35) V0) := ⟨h2, h1⟩
  have HB0 := hid hb0
  have HRe : Hid (w.heap.size ≤ R) := by show _ ≤ _; omega
  clear h1 h2 hb0
  go_enter Tryz.func32, Tryz.ntmps32
  go_upto_region 1 with fail
  rw [← hV0, ← hR, ← hY]
  clear hV0 hR hY
  have HSd : Hid (Ry R Y (.cells #[i64 1, i64 8, .slice an ln cn, .slice at_ lt_ ct] 35) V0.drew) := ⟨HS0.out.r, HS0.out.y⟩
  have HB : Hid (Below w.heap.size w V0.drew) := HB0.out.drew
  refine wp_region_noPanic ?_
  refine wp_region_last (Ry R Y (.cells #[i64 1, i64 8, .slice an ln cn, .slice at_ lt_ ct] 35)) 13 (by kernel_rfl) ?_
  refine wpL_take 0 11 (i64 (a : Nat)) [1, 4, 5] rfl rfl (by kernel_rfl) (by decide) (by kernel_rfl) (by kernel_rfl) (by kernel_rfl) (fun _ _ _ h => h) HSd.out (by rfl) (fun W hW => by have y0 : W.cell? ⟨Y, 0, none⟩ = some (i64 1) := blk_cell hW.y 0; go_simp) ?_
  simp only [Act.put, List.setIfInBounds_toArray, List.set_cons_zero, List.set_cons_succ]
  refine wpL_take 1 12 (i64 ((a : Int) + 2)) [4, 5] rfl rfl (by kernel_rfl) (by decide) (by kernel_rfl) (by kernel_rfl) (by kernel_rfl) (fun _ _ _ h => h) HSd.out (by rfl) (fun W hW => by have y0 : W.cell? ⟨Y, 0, none⟩ = some (i64 1) := blk_cell hW.y 0; go_simp; exact wrap_id (by omega) (by omega)) ?_
  simp only [Act.put, List.setIfInBounds_toArray, List.set_cons_zero, List.set_cons_succ]
  refine wpL_take 2 13 (.string s) [3, 4, 5] rfl rfl (by kernel_rfl) (by decide) (by kernel_rfl) (by kernel_rfl) (by kernel_rfl) (fun _ _ _ h => h) HSd.out (by rfl) (fun W hW => by have y0 : W.cell? ⟨Y, 0, none⟩ = some (i64 1) := blk_cell hW.y 0; go_simp) ?_
  simp only [Act.put, List.setIfInBounds_toArray, List.set_cons_zero, List.set_cons_succ]
  refine wpL_take 3 14 (i64 (s.size : Nat)) [4, 5] rfl rfl (by kernel_rfl) (by decide) (by kernel_rfl) (by kernel_rfl) (by kernel_rfl) (fun _ _ _ h => h) HSd.out (by rfl) (fun W hW => by have y0 : W.cell? ⟨Y, 0, none⟩ = some (i64 1) := blk_cell hW.y 0; go_simp) ?_
  simp only [Act.put, List.setIfInBounds_toArray, List.set_cons_zero, List.set_cons_succ]
  refine wpL_take 4 15 (.bool false) [5] rfl rfl (by kernel_rfl) (by decide) (by kernel_rfl) (by kernel_rfl) (by kernel_rfl) (fun _ _ _ h => h) HSd.out (by rfl) (fun W hW => by have y0 : W.cell? ⟨Y, 0, none⟩ = some (i64 1) := blk_cell hW.y 0; go_simp) ?_
  simp only [Act.put, List.setIfInBounds_toArray, List.set_cons_zero, List.set_cons_succ]
  refine wpL_take 5 16 (.bool false) [] rfl rfl (by kernel_rfl) (by decide) (by kernel_rfl) (by kernel_rfl) (by kernel_rfl) (fun _ _ _ h => h) HSd.out (by rfl) (fun W hW => by have y0 : W.cell? ⟨Y, 0, none⟩ = some (i64 1) := blk_cell hW.y 0; go_simp) ?_
  simp only [Act.put, List.setIfInBounds_toArray, List.set_cons_zero, List.set_cons_succ]
  refine wpL_take 6 17 (.string s) [8, 9, 12] rfl rfl (by kernel_rfl) (by decide) (by kernel_rfl) (by kernel_rfl) (by kernel_rfl) (fun _ _ _ h => h) HSd.out (by rfl) (fun W hW => by have y0 : W.cell? ⟨Y, 0, none⟩ = some (i64 1) := blk_cell hW.y 0; go_simp) ?_
  simp only [Act.put, List.setIfInBounds_toArray, List.set_cons_zero, List.set_cons_succ]
  refine wpL_take 7 18 (i64 (a : Nat)) [8, 9, 12] rfl rfl (by kernel_rfl) (by decide) (by kernel_rfl) (by kernel_rfl) (by kernel_rfl) (fun _ _ _ h => h) HSd.out (by rfl) (fun W hW => by have y0 : W.cell? ⟨Y, 0, none⟩ = some (i64 1) := blk_cell hW.y 0; go_simp) ?_
  simp only [Act.put, List.setIfInBounds_toArray, List.set_cons_zero, List.set_cons_succ]
  refine wpL_take 8 19 (.int .u8 (s[a].toNat : Nat)) [9, 12] rfl rfl (by kernel_rfl) (by decide) (by kernel_rfl) (by kernel_rfl) (by kernel_rfl) (fun _ _ _ h => h) HSd.out (by rfl) (fun W hW => by have y0 : W.cell? ⟨Y, 0, none⟩ = some (i64 1) := blk_cell hW.y 0; go_simp) ?_
  simp only [Act.put, List.setIfInBounds_toArray, List.set_cons_zero, List.set_cons_succ]
  refine wpL_take 9 20 (i64 (s[a].toNat : Nat)) [12] rfl rfl (by kernel_rfl) (by decide) (by kernel_rfl) (by kernel_rfl) (by kernel_rfl) (fun _ _ _ h => h) HSd.out (by rfl) (fun W hW => by have y0 : W.cell? ⟨Y, 0, none⟩ = some (i64 1) := blk_cell hW.y 0; go_simp; exact wrap_id (by omega) (by have := s[a].toNat_lt; omega)) ?_
  simp only [Act.put, List.setIfInBounds_toArray, List.set_cons_zero, List.set_cons_succ]
  refine wpL_take 10 21 (.pointer (some ⟨Y, 0, none⟩)) [11, 12] rfl rfl (by kernel_rfl) (by decide) (by kernel_rfl) (by kernel_rfl) (by kernel_rfl) (fun _ _ _ h => h) HSd.out (by rfl) (fun W hW => by have y0 : W.cell? ⟨Y, 0, none⟩ = some (i64 1) := blk_cell hW.y 0; go_simp) ?_
  simp only [Act.put, List.setIfInBounds_toArray, List.set_cons_zero, List.set_cons_succ]
  refine wpL_take 11 22 (i64 1) [12] rfl rfl (by kernel_rfl) (by decide) (by kernel_rfl) (by kernel_rfl) (by kernel_rfl) (fun _ _ _ h => h) HSd.out (by rfl) (fun W hW => by have y0 : W.cell? ⟨Y, 0, none⟩ = some (i64 1) := blk_cell hW.y 0; go_simp) ?_
  simp only [Act.put, List.setIfInBounds_toArray, List.set_cons_zero, List.set_cons_succ]
  refine wpL_take 12 23 (.bool false) [] rfl rfl (by kernel_rfl) (by decide) (by kernel_rfl) (by kernel_rfl) (by kernel_rfl) (fun _ _ _ h => h) HSd.out (by rfl) (fun W hW => by have y0 : W.cell? ⟨Y, 0, none⟩ = some (i64 1) := blk_cell hW.y 0; go_simp) ?_
  simp only [Act.put, List.setIfInBounds_toArray, List.set_cons_zero, List.set_cons_succ]
  refine wpL_one 13 rfl (by kernel_rfl) (by rfl) (fun K hK => ?_)
  go_simp
  refine hK.out _ _ (fun h => absurd rfl h) ?_
  clear hK K
  refine wpL_done (by kernel_rfl) ?_
  refine NoPanic.normal ?_
  have HS := HSd
  clear HSd HS0 HB0
  generalize V0.drew = V at *
  have rc0 : V.cell? ⟨R, 0, none⟩ = some (i64 0) := blk_cell HS.out.r 0
  have rf0 : V.frozen? ⟨R, 0, none⟩ = false := blk_frozen HS.out.r 0
  have rc1 : V.cell? ⟨R, 1, none⟩ = some (i64 0) := blk_cell HS.out.r 1
  have rf1 : V.frozen? ⟨R, 1, none⟩ = false := blk_frozen HS.out.r 1
  have rc2 : V.cell? ⟨R, 2, none⟩ = some (str []) := blk_cell HS.out.r 2
  have rf2 : V.frozen? ⟨R, 2, none⟩ = false := blk_frozen HS.out.r 2
  have rc3 : V.cell? ⟨R, 3, none⟩ = some (.slice none 0 0) := blk_cell HS.out.r 3
  have rf3 : V.frozen? ⟨R, 3, none⟩ = false := blk_frozen HS.out.r 3
  have rc4 : V.cell? ⟨R, 4, none⟩ = some (i64 0) := blk_cell HS.out.r 4
  have rf4 : V.frozen? ⟨R, 4, none⟩ = false := blk_frozen HS.out.r 4
  have yc0 : V.cell? ⟨Y, 0, none⟩ = some (i64 1) := blk_cell HS.out.y 0
  have yc1 : V.cell? ⟨Y, 1, none⟩ = some (i64 8) := blk_cell HS.out.y 1
  have yc2 : V.cell? ⟨Y, 2, none⟩ = some (.slice an ln cn) := blk_cell HS.out.y 2
  have yc3 : V.cell? ⟨Y, 3, none⟩ = some (.slice at_ lt_ ct) := blk_cell HS.out.y 3
  go_wp2_with fail
  refine (HN.out V).mono ?_
  rintro e w1 ⟨rfl, hv⟩
  replace hv := hv.symm
  subst hv
  go_wp2_with fail
  refine bodyPost_ret (v := gv 1 (n : Nat) (str []) (.slice none 0 0) ((a + 1 + 1 : Nat) : Int)) (results_one Tryz.results32 rfl (load85 (set5 HS.out.r _ _ _ _ _))) rfl ?_
  exact ⟨rfl, below5 HB.out HRe.out _ _ _ _ _⟩
set_option maxRecDepth 100000 in
set_option maxHeartbeats 12800000 in
theorem tk7_1_16 (w : World) (s : ByteArray) (a : Nat) (an at_ : Option Addr) (ln cn lt_ ct : Nat) (hs : s.size ≤ 1000000) (h : a + 2 ≤ s.size) (hk : (s[a]'(by omega)).toNat = 1) (he : a + 1 + 2 ≤ s.size) : Calls Tryz.prog 32 #[.string s, i64 (a : Nat), .agg #[i64 1, i64 16, .slice an ln cn, .slice at_ lt_ ct]] w fun e w' => e = .returned (gv 1 (nm ((s.data.toList.drop (a + 1)).take 2) : Nat) (str []) (.slice none 0 0) ((a + 1 + 2 : Nat) : Int)) ∧ Below w.heap.size w w' := by
  have hI : ¬ (s.size : Int) < (a : Int) + 2 := by omega
  have hlt : a < s.size := by omega
  have hltI : (a : Int) < s.size := by omega
  have hq : ((s[a].toNat : Int) == 1) = true := beq_iff_eq.2 (by rw [hk]; rfl)
  have hq2 : ((s[a].toNat : Int) != 1) = false := by rw [bne, hq]; rfl
  have heI : ¬ (s.size : Int) < (a : Int) + 1 + 2 := by omega
  have HSL : Hid (∀ W : World, (Instr.slice 9 (.string s) (some (i64 ((a : Int) + 1))) (some (i64 ((a : Int) + 1 + 2))) none).run Tryz.prog W = .ok (str ((s.data.toList.drop (a + 1)).take 2)) W) := fun W => by
    have := sl_i W s (a + 1) (a + 1 + 2) ((a : Int) + 1) ((a : Int) + 1 + 2) (by omega) (by omega) (by omega) (by omega)
    rw [show a + 1 + 2 - (a + 1) = 2 by omega] at this
    exact this
  have hDl := cut_len s (a + 1) 2 (by omega)
  have HN : Hid (∀ W : World, Calls Tryz.prog 53 #[str ((s.data.toList.drop (a + 1)).take 2)] W fun e w' => e = .returned (.tuple #[.int .u32 (nm ((s.data.toList.drop (a + 1)).take 2)), .int .i64 0]) ∧ w' = W) := fun W => rnum_ok W ⟨((s.data.toList.drop (a + 1)).take 2).toArray⟩ (by rw [bz]; omega) (by rw [bz]; omega)
  have hnb : nm ((s.data.toList.drop (a + 1)).take 2) ≤ 4294967295 := by
    have h1 := nm_lt ((s.data.toList.drop (a + 1)).take 2)
    rw [hDl] at h1
    have h2 : (256 : Nat) ^ 2 ≤ 4294967296 := by decide
    omega
  generalize (s.data.toList.drop (a + 1)).take 2 = D at *
  generalize nm D = n at *
  have hsl := HSL.out
  obtain ⟨h1, h2, hb0⟩ := two_boxes w (.cells #[i64 1, i64 16, .slice an ln cn, .slice at_ lt_ ct] 35) (gO 0 0 (str []) (.slice none 0 0) 0)
  obtain ⟨Y, hY⟩ : ∃ Y, Y = w.heap.size := ⟨_, rfl⟩
  obtain ⟨R, hR⟩ : ∃ R, R = w.heap.size + 1 := ⟨_, rfl⟩
  obtain ⟨V0, hV0⟩ : ∃ V0, V0 = (w.alloc (.cells #[i64 1, i64 16, .slice an ln cn, .slice at_ lt_ ct] 35)).alloc (gO 0 0 (str []) (.slice none 0 0) 0) := ⟨_, rfl⟩
  rw [← hV0, ← hY] at h1
  rw [← hV0, ← hR] at h2
  rw [← hV0] at hb0
  have HS0 : Hid (Ry R Y (.cells #[i64 1, i64 16, .slice an ln cn, .slice at_ lt_ ct] 35) V0) := ⟨h2, h1⟩
  have HB0 := hid hb0
  have HRe : Hid (w.heap.size ≤ R) := by show _ ≤ _; omega
  clear h1 h2 hb0
  go_enter Tryz.func32, Tryz.ntmps32
  go_upto_region 1 with fail
  rw [← hV0, ← hR, ← hY]
  clear hV0 hR hY
  have HSd : Hid (Ry R Y (.cells #[i64 1, i64 16, .slice an ln cn, .slice at_ lt_ ct] 35) V0.drew) := ⟨HS0.out.r, HS0.out.y⟩
  have HB : Hid (Below w.heap.size w V0.drew) := HB0.out.drew
  refine wp_region_noPanic ?_
  refine wp_region_last (Ry R Y (.cells #[i64 1, i64 16, .slice an ln cn, .slice at_ lt_ ct] 35)) 13 (by kernel_rfl) ?_
  refine wpL_take 0 11 (i64 (a : Nat)) [1, 4, 5] rfl rfl (by kernel_rfl) (by decide) (by kernel_rfl) (by kernel_rfl) (by kernel_rfl) (fun _ _ _ h => h) HSd.out (by rfl) (fun W hW => by have y0 : W.cell? ⟨Y, 0, none⟩ = some (i64 1) := blk_cell hW.y 0; go_simp) ?_
  simp only [Act.put, List.setIfInBounds_toArray, List.set_cons_zero, List.set_cons_succ]
  refine wpL_take 1 12 (i64 ((a : Int) + 2)) [4, 5] rfl rfl (by kernel_rfl) (by decide) (by kernel_rfl) (by kernel_rfl) (by kernel_rfl) (fun _ _ _ h => h) HSd.out (by rfl) (fun W hW => by have y0 : W.cell? ⟨Y, 0, none⟩ = some (i64 1) := blk_cell hW.y 0; go_simp; exact wrap_id (by omega) (by omega)) ?_
  simp only [Act.put, List.setIfInBounds_toArray, List.set_cons_zero, List.set_cons_succ]
  refine wpL_take 2 13 (.string s) [3, 4, 5] rfl rfl (by kernel_rfl) (by decide) (by kernel_rfl) (by kernel_rfl) (by kernel_rfl) (fun _ _ _ h => h) HSd.out (by rfl) (fun W hW => by have y0 : W.cell? ⟨Y, 0, none⟩ = some (i64 1) := blk_cell hW.y 0; go_simp) ?_
  simp only [Act.put, List.setIfInBounds_toArray, List.set_cons_zero, List.set_cons_succ]
  refine wpL_take 3 14 (i64 (s.size : Nat)) [4, 5] rfl rfl (by kernel_rfl) (by decide) (by kernel_rfl) (by kernel_rfl) (by kernel_rfl) (fun _ _ _ h => h) HSd.out (by rfl) (fun W hW => by have y0 : W.cell? ⟨Y, 0, none⟩ = some (i64 1) := blk_cell hW.y 0; go_simp) ?_
  simp only [Act.put, List.setIfInBounds_toArray, List.set_cons_zero, List.set_cons_succ]
  refine wpL_take 4 15 (.bool false) [5] rfl rfl (by kernel_rfl) (by decide) (by kernel_rfl) (by kernel_rfl) (by kernel_rfl) (fun _ _ _ h => h) HSd.out (by rfl) (fun W hW => by have y0 : W.cell? ⟨Y, 0, none⟩ = some (i64 1) := blk_cell hW.y 0; go_simp) ?_
  simp only [Act.put, List.setIfInBounds_toArray, List.set_cons_zero, List.set_cons_succ]
  refine wpL_take 5 16 (.bool false) [] rfl rfl (by kernel_rfl) (by decide) (by kernel_rfl) (by kernel_rfl) (by kernel_rfl) (fun _ _ _ h => h) HSd.out (by rfl) (fun W hW => by have y0 : W.cell? ⟨Y, 0, none⟩ = some (i64 1) := blk_cell hW.y 0; go_simp) ?_
  simp only [Act.put, List.setIfInBounds_toArray, List.set_cons_zero, List.set_cons_succ]
  refine wpL_take 6 17 (.string s) [8, 9, 12] rfl rfl (by kernel_rfl) (by decide) (by kernel_rfl) (by kernel_rfl) (by kernel_rfl) (fun _ _ _ h => h) HSd.out (by rfl) (fun W hW => by have y0 : W.cell? ⟨Y, 0, none⟩ = some (i64 1) := blk_cell hW.y 0; go_simp) ?_
  simp only [Act.put, List.setIfInBounds_toArray, List.set_cons_zero, List.set_cons_succ]
  refine wpL_take 7 18 (i64 (a : Nat)) [8, 9, 12] rfl rfl (by kernel_rfl) (by decide) (by kernel_rfl) (by kernel_rfl) (by kernel_rfl) (fun _ _ _ h => h) HSd.out (by rfl) (fun W hW => by have y0 : W.cell? ⟨Y, 0, none⟩ = some (i64 1) := blk_cell hW.y 0; go_simp) ?_
  simp only [Act.put, List.setIfInBounds_toArray, List.set_cons_zero, List.set_cons_succ]
  refine wpL_take 8 19 (.int .u8 (s[a].toNat : Nat)) [9, 12] rfl rfl (by kernel_rfl) (by decide) (by kernel_rfl) (by kernel_rfl) (by kernel_rfl) (fun _ _ _ h => h) HSd.out (by rfl) (fun W hW => by have y0 : W.cell? ⟨Y, 0, none⟩ = some (i64 1) := blk_cell hW.y 0; go_simp) ?_
  simp only [Act.put, List.setIfInBounds_toArray, List.set_cons_zero, List.set_cons_succ]
  refine wpL_take 9 20 (i64 (s[a].toNat : Nat)) [12] rfl rfl (by kernel_rfl) (by decide) (by kernel_rfl) (by kernel_rfl) (by kernel_rfl) (fun _ _ _ h => h) HSd.out (by rfl) (fun W hW => by have y0 : W.cell? ⟨Y, 0, none⟩ = some (i64 1) := blk_cell hW.y 0; go_simp; exact wrap_id (by omega) (by have := s[a].toNat_lt; omega)) ?_
  simp only [Act.put, List.setIfInBounds_toArray, List.set_cons_zero, List.set_cons_succ]
  refine wpL_take 10 21 (.pointer (some ⟨Y, 0, none⟩)) [11, 12] rfl rfl (by kernel_rfl) (by decide) (by kernel_rfl) (by kernel_rfl) (by kernel_rfl) (fun _ _ _ h => h) HSd.out (by rfl) (fun W hW => by have y0 : W.cell? ⟨Y, 0, none⟩ = some (i64 1) := blk_cell hW.y 0; go_simp) ?_
  simp only [Act.put, List.setIfInBounds_toArray, List.set_cons_zero, List.set_cons_succ]
  refine wpL_take 11 22 (i64 1) [12] rfl rfl (by kernel_rfl) (by decide) (by kernel_rfl) (by kernel_rfl) (by kernel_rfl) (fun _ _ _ h => h) HSd.out (by rfl) (fun W hW => by have y0 : W.cell? ⟨Y, 0, none⟩ = some (i64 1) := blk_cell hW.y 0; go_simp) ?_
  simp only [Act.put, List.setIfInBounds_toArray, List.set_cons_zero, List.set_cons_succ]
  refine wpL_take 12 23 (.bool false) [] rfl rfl (by kernel_rfl) (by decide) (by kernel_rfl) (by kernel_rfl) (by kernel_rfl) (fun _ _ _ h => h) HSd.out (by rfl) (fun W hW => by have y0 : W.cell? ⟨Y, 0, none⟩ = some (i64 1) := blk_cell hW.y 0; go_simp) ?_
  simp only [Act.put, List.setIfInBounds_toArray, List.set_cons_zero, List.set_cons_succ]
  refine wpL_one 13 rfl (by kernel_rfl) (by rfl) (fun K hK => ?_)
  go_simp
  refine hK.out _ _ (fun h => absurd rfl h) ?_
  clear hK K
  refine wpL_done (by kernel_rfl) ?_
  refine NoPanic.normal ?_
  have HS := HSd
  clear HSd HS0 HB0
  generalize V0.drew = V at *
  have rc0 : V.cell? ⟨R, 0, none⟩ = some (i64 0) := blk_cell HS.out.r 0
  have rf0 : V.frozen? ⟨R, 0, none⟩ = false := blk_frozen HS.out.r 0
  have rc1 : V.cell? ⟨R, 1, none⟩ = some (i64 0) := blk_cell HS.out.r 1
  have rf1 : V.frozen? ⟨R, 1, none⟩ = false := blk_frozen HS.out.r 1
  have rc2 : V.cell? ⟨R, 2, none⟩ = some (str []) := blk_cell HS.out.r 2
  have rf2 : V.frozen? ⟨R, 2, none⟩ = false := blk_frozen HS.out.r 2
  have rc3 : V.cell? ⟨R, 3, none⟩ = some (.slice none 0 0) := blk_cell HS.out.r 3
  have rf3 : V.frozen? ⟨R, 3, none⟩ = false := blk_frozen HS.out.r 3
  have rc4 : V.cell? ⟨R, 4, none⟩ = some (i64 0) := blk_cell HS.out.r 4
  have rf4 : V.frozen? ⟨R, 4, none⟩ = false := blk_frozen HS.out.r 4
  have yc0 : V.cell? ⟨Y, 0, none⟩ = some (i64 1) := blk_cell HS.out.y 0
  have yc1 : V.cell? ⟨Y, 1, none⟩ = some (i64 16) := blk_cell HS.out.y 1
  have yc2 : V.cell? ⟨Y, 2, none⟩ = some (.slice an ln cn) := blk_cell HS.out.y 2
  have yc3 : V.cell? ⟨Y, 3, none⟩ = some (.slice at_ lt_ ct) := blk_cell HS.out.y 3
  go_wp2_with fail
  refine (HN.out V).mono ?_
  rintro e w1 ⟨rfl, hv⟩
  replace hv := hv.symm
  subst hv
  go_wp2_with fail
  refine bodyPost_ret (v := gv 1 (n : Nat) (str []) (.slice none 0 0) ((a + 1 + 2 : Nat) : Int)) (results_one Tryz.results32 rfl (load85 (set5 HS.out.r _ _ _ _ _))) rfl ?_
  exact ⟨rfl, below5 HB.out HRe.out _ _ _ _ _⟩
set_option maxRecDepth 100000 in
set_option maxHeartbeats 12800000 in
theorem tk7_1_32 (w : World) (s : ByteArray) (a : Nat) (an at_ : Option Addr) (ln cn lt_ ct : Nat) (hs : s.size ≤ 1000000) (h : a + 2 ≤ s.size) (hk : (s[a]'(by omega)).toNat = 1) (he : a + 1 + 4 ≤ s.size) : Calls Tryz.prog 32 #[.string s, i64 (a : Nat), .agg #[i64 1, i64 32, .slice an ln cn, .slice at_ lt_ ct]] w fun e w' => e = .returned (gv 1 (nm ((s.data.toList.drop (a + 1)).take 4) : Nat) (str []) (.slice none 0 0) ((a + 1 + 4 : Nat) : Int)) ∧ Below w.heap.size w w' := by
  have hI : ¬ (s.size : Int) < (a : Int) + 2 := by omega
  have hlt : a < s.size := by omega
  have hltI : (a : Int) < s.size := by omega
  have hq : ((s[a].toNat : Int) == 1) = true := beq_iff_eq.2 (by rw [hk]; rfl)
  have hq2 : ((s[a].toNat : Int) != 1) = false := by rw [bne, hq]; rfl
  have heI : ¬ (s.size : Int) < (a : Int) + 1 + 4 := by omega
  have HSL : Hid (∀ W : World, (Instr.slice 9 (.string s) (some (i64 ((a : Int) + 1))) (some (i64 ((a : Int) + 1 + 4))) none).run Tryz.prog W = .ok (str ((s.data.toList.drop (a + 1)).take 4)) W) := fun W => by
    have := sl_i W s (a + 1) (a + 1 + 4) ((a : Int) + 1) ((a : Int) + 1 + 4) (by omega) (by omega) (by omega) (by omega)
    rw [show a + 1 + 4 - (a + 1) = 4 by omega] at this
    exact this
  have hDl := cut_len s (a + 1) 4 (by omega)
  have HN : Hid (∀ W : World, Calls Tryz.prog 53 #[str ((s.data.toList.drop (a + 1)).take 4)] W fun e w' => e = .returned (.tuple #[.int .u32 (nm ((s.data.toList.drop (a + 1)).take 4)), .int .i64 0]) ∧ w' = W) := fun W => rnum_ok W ⟨((s.data.toList.drop (a + 1)).take 4).toArray⟩ (by rw [bz]; omega) (by rw [bz]; omega)
  have hnb : nm ((s.data.toList.drop (a + 1)).take 4) ≤ 4294967295 := by
    have h1 := nm_lt ((s.data.toList.drop (a + 1)).take 4)
    rw [hDl] at h1
    have h2 : (256 : Nat) ^ 4 ≤ 4294967296 := by decide
    omega
  generalize (s.data.toList.drop (a + 1)).take 4 = D at *
  generalize nm D = n at *
  have hsl := HSL.out
  obtain ⟨h1, h2, hb0⟩ := two_boxes w (.cells #[i64 1, i64 32, .slice an ln cn, .slice at_ lt_ ct] 35) (gO 0 0 (str []) (.slice none 0 0) 0)
  obtain ⟨Y, hY⟩ : ∃ Y, Y = w.heap.size := ⟨_, rfl⟩
  obtain ⟨R, hR⟩ : ∃ R, R = w.heap.size + 1 := ⟨_, rfl⟩
  obtain ⟨V0, hV0⟩ : ∃ V0, V0 = (w.alloc (.cells #[i64 1, i64 32, .slice an ln cn, .slice at_ lt_ ct] 35)).alloc (gO 0 0 (str []) (.slice none 0 0) 0) := ⟨_, rfl⟩
  rw [← hV0, ← hY] at h1
  rw [← hV0, ← hR] at h2
  rw [← hV0] at hb0
  have HS0 : Hid (Ry R Y (.cells #[i64 1, i64 32, .slice an ln cn, .slice at_ lt_ ct] 35) V0) := ⟨h2, h1⟩
  have HB0 := hid hb0
  have HRe : Hid (w.heap.size ≤ R) := by show _ ≤ _; omega
  clear h1 h2 hb0
  go_enter Tryz.func32, Tryz.ntmps32
  go_upto_region 1 with fail
  rw [← hV0, ← hR, ← hY]
  clear hV0 hR hY
  have HSd : Hid (Ry R Y (.cells #[i64 1, i64 32, .slice an ln cn, .slice at_ lt_ ct] 35) V0.drew) := ⟨HS0.out.r, HS0.out.y⟩
  have HB : Hid (Below w.heap.size w V0.drew) := HB0.out.drew
  refine wp_region_noPanic ?_
  refine wp_region_last (Ry R Y (.cells #[i64 1, i64 32, .slice an ln cn, .slice at_ lt_ ct] 35)) 13 (by kernel_rfl) ?_
  refine wpL_take 0 11 (i64 (a : Nat)) [1, 4, 5] rfl rfl (by kernel_rfl) (by decide) (by kernel_rfl) (by kernel_rfl) (by kernel_rfl) (fun _ _ _ h => h) HSd.out (by rfl) (fun W hW => by have y0 : W.cell? ⟨Y, 0, none⟩ = some (i64 1) := blk_cell hW.y 0; go_simp) ?_
  simp only [Act.put, List.setIfInBounds_toArray, List.set_cons_zero, List.set_cons_succ]
  refine wpL_take 1 12 (i64 ((a : Int) + 2)) [4, 5] rfl rfl (by kernel_rfl) (by decide) (by kernel_rfl) (by kernel_rfl) (by kernel_rfl) (fun _ _ _ h => h) HSd.out (by rfl) (fun W hW => by have y0 : W.cell? ⟨Y, 0, none⟩ = some (i64 1) := blk_cell hW.y 0; go_simp; exact wrap_id (by omega) (by omega)) ?_
  simp only [Act.put, List.setIfInBounds_toArray, List.set_cons_zero, List.set_cons_succ]
  refine wpL_take 2 13 (.string s) [3, 4, 5] rfl rfl (by kernel_rfl) (by decide) (by kernel_rfl) (by kernel_rfl) (by kernel_rfl) (fun _ _ _ h => h) HSd.out (by rfl) (fun W hW => by have y0 : W.cell? ⟨Y, 0, none⟩ = some (i64 1) := blk_cell hW.y 0; go_simp) ?_
  simp only [Act.put, List.setIfInBounds_toArray, List.set_cons_zero, List.set_cons_succ]
  refine wpL_take 3 14 (i64 (s.size : Nat)) [4, 5] rfl rfl (by kernel_rfl) (by decide) (by kernel_rfl) (by kernel_rfl) (by kernel_rfl) (fun _ _ _ h => h) HSd.out (by rfl) (fun W hW => by have y0 : W.cell? ⟨Y, 0, none⟩ = some (i64 1) := blk_cell hW.y 0; go_simp) ?_
  simp only [Act.put, List.setIfInBounds_toArray, List.set_cons_zero, List.set_cons_succ]
  refine wpL_take 4 15 (.bool false) [5] rfl rfl (by kernel_rfl) (by decide) (by kernel_rfl) (by kernel_rfl) (by kernel_rfl) (fun _ _ _ h => h) HSd.out (by rfl) (fun W hW => by have y0 : W.cell? ⟨Y, 0, none⟩ = some (i64 1) := blk_cell hW.y 0; go_simp) ?_
  simp only [Act.put, List.setIfInBounds_toArray, List.set_cons_zero, List.set_cons_succ]
  refine wpL_take 5 16 (.bool false) [] rfl rfl (by kernel_rfl) (by decide) (by kernel_rfl) (by kernel_rfl) (by kernel_rfl) (fun _ _ _ h => h) HSd.out (by rfl) (fun W hW => by have y0 : W.cell? ⟨Y, 0, none⟩ = some (i64 1) := blk_cell hW.y 0; go_simp) ?_
  simp only [Act.put, List.setIfInBounds_toArray, List.set_cons_zero, List.set_cons_succ]
  refine wpL_take 6 17 (.string s) [8, 9, 12] rfl rfl (by kernel_rfl) (by decide) (by kernel_rfl) (by kernel_rfl) (by kernel_rfl) (fun _ _ _ h => h) HSd.out (by rfl) (fun W hW => by have y0 : W.cell? ⟨Y, 0, none⟩ = some (i64 1) := blk_cell hW.y 0; go_simp) ?_
  simp only [Act.put, List.setIfInBounds_toArray, List.set_cons_zero, List.set_cons_succ]
  refine wpL_take 7 18 (i64 (a : Nat)) [8, 9, 12] rfl rfl (by kernel_rfl) (by decide) (by kernel_rfl) (by kernel_rfl) (by kernel_rfl) (fun _ _ _ h => h) HSd.out (by rfl) (fun W hW => by have y0 : W.cell? ⟨Y, 0, none⟩ = some (i64 1) := blk_cell hW.y 0; go_simp) ?_
  simp only [Act.put, List.setIfInBounds_toArray, List.set_cons_zero, List.set_cons_succ]
  refine wpL_take 8 19 (.int .u8 (s[a].toNat : Nat)) [9, 12] rfl rfl (by kernel_rfl) (by decide) (by kernel_rfl) (by kernel_rfl) (by kernel_rfl) (fun _ _ _ h => h) HSd.out (by rfl) (fun W hW => by have y0 : W.cell? ⟨Y, 0, none⟩ = some (i64 1) := blk_cell hW.y 0; go_simp) ?_
  simp only [Act.put, List.setIfInBounds_toArray, List.set_cons_zero, List.set_cons_succ]
  refine wpL_take 9 20 (i64 (s[a].toNat : Nat)) [12] rfl rfl (by kernel_rfl) (by decide) (by kernel_rfl) (by kernel_rfl) (by kernel_rfl) (fun _ _ _ h => h) HSd.out (by rfl) (fun W hW => by have y0 : W.cell? ⟨Y, 0, none⟩ = some (i64 1) := blk_cell hW.y 0; go_simp; exact wrap_id (by omega) (by have := s[a].toNat_lt; omega)) ?_
  simp only [Act.put, List.setIfInBounds_toArray, List.set_cons_zero, List.set_cons_succ]
  refine wpL_take 10 21 (.pointer (some ⟨Y, 0, none⟩)) [11, 12] rfl rfl (by kernel_rfl) (by decide) (by kernel_rfl) (by kernel_rfl) (by kernel_rfl) (fun _ _ _ h => h) HSd.out (by rfl) (fun W hW => by have y0 : W.cell? ⟨Y, 0, none⟩ = some (i64 1) := blk_cell hW.y 0; go_simp) ?_
  simp only [Act.put, List.setIfInBounds_toArray, List.set_cons_zero, List.set_cons_succ]
  refine wpL_take 11 22 (i64 1) [12] rfl rfl (by kernel_rfl) (by decide) (by kernel_rfl) (by kernel_rfl) (by kernel_rfl) (fun _ _ _ h => h) HSd.out (by rfl) (fun W hW => by have y0 : W.cell? ⟨Y, 0, none⟩ = some (i64 1) := blk_cell hW.y 0; go_simp) ?_
  simp only [Act.put, List.setIfInBounds_toArray, List.set_cons_zero, List.set_cons_succ]
  refine wpL_take 12 23 (.bool false) [] rfl rfl (by kernel_rfl) (by decide) (by kernel_rfl) (by kernel_rfl) (by kernel_rfl) (fun _ _ _ h => h) HSd.out (by rfl) (fun W hW => by have y0 : W.cell? ⟨Y, 0, none⟩ = some (i64 1) := blk_cell hW.y 0; go_simp) ?_
  simp only [Act.put, List.setIfInBounds_toArray, List.set_cons_zero, List.set_cons_succ]
  refine wpL_one 13 rfl (by kernel_rfl) (by rfl) (fun K hK => ?_)
  go_simp
  refine hK.out _ _ (fun h => absurd rfl h) ?_
  clear hK K
  refine wpL_done (by kernel_rfl) ?_
  refine NoPanic.normal ?_
  have HS := HSd
  clear HSd HS0 HB0
  generalize V0.drew = V at *
  have rc0 : V.cell? ⟨R, 0, none⟩ = some (i64 0) := blk_cell HS.out.r 0
  have rf0 : V.frozen? ⟨R, 0, none⟩ = false := blk_frozen HS.out.r 0
  have rc1 : V.cell? ⟨R, 1, none⟩ = some (i64 0) := blk_cell HS.out.r 1
  have rf1 : V.frozen? ⟨R, 1, none⟩ = false := blk_frozen HS.out.r 1
  have rc2 : V.cell? ⟨R, 2, none⟩ = some (str []) := blk_cell HS.out.r 2
  have rf2 : V.frozen? ⟨R, 2, none⟩ = false := blk_frozen HS.out.r 2
  have rc3 : V.cell? ⟨R, 3, none⟩ = some (.slice none 0 0) := blk_cell HS.out.r 3
  have rf3 : V.frozen? ⟨R, 3, none⟩ = false := blk_frozen HS.out.r 3
  have rc4 : V.cell? ⟨R, 4, none⟩ = some (i64 0) := blk_cell HS.out.r 4
  have rf4 : V.frozen? ⟨R, 4, none⟩ = false := blk_frozen HS.out.r 4
  have yc0 : V.cell? ⟨Y, 0, none⟩ = some (i64 1) := blk_cell HS.out.y 0
  have yc1 : V.cell? ⟨Y, 1, none⟩ = some (i64 32) := blk_cell HS.out.y 1
  have yc2 : V.cell? ⟨Y, 2, none⟩ = some (.slice an ln cn) := blk_cell HS.out.y 2
  have yc3 : V.cell? ⟨Y, 3, none⟩ = some (.slice at_ lt_ ct) := blk_cell HS.out.y 3
  go_wp2_with fail
  refine (HN.out V).mono ?_
  rintro e w1 ⟨rfl, hv⟩
  replace hv := hv.symm
  subst hv
  go_wp2_with fail
  refine bodyPost_ret (v := gv 1 (n : Nat) (str []) (.slice none 0 0) ((a + 1 + 4 : Nat) : Int)) (results_one Tryz.results32 rfl (load85 (set5 HS.out.r _ _ _ _ _))) rfl ?_
  exact ⟨rfl, below5 HB.out HRe.out _ _ _ _ _⟩
set_option maxRecDepth 100000 in
set_option maxHeartbeats 12800000 in
theorem tk7_2_no (w : World) (s : ByteArray) (a : Nat) (tn : Int) (an at_ : Option Addr) (ln cn lt_ ct : Nat) (hs : s.size ≤ 1000000) (h : a + 2 ≤ s.size) (hk : (s[a]'(by omega)).toNat = 2) (he : s.size < a + 2 + (s[a + 1]'(by omega)).toNat) : Calls Tryz.prog 32 #[.string s, i64 (a : Nat), .agg #[i64 2, i64 tn, .slice an ln cn, .slice at_ lt_ ct]] w (GNo w) := by
  have hI : ¬ (s.size : Int) < (a : Int) + 2 := by omega
  have hlt : a < s.size := by omega
  have hltI : (a : Int) < s.size := by omega
  have hq : ((s[a].toNat : Int) == 2) = true := beq_iff_eq.2 (by rw [hk]; rfl)
  have hq2 : ((s[a].toNat : Int) != 2) = false := by rw [bne, hq]; rfl
  have hlt1 : a + 1 < s.size := by omega
  have hlt1I : (a : Int) + 1 < s.size := by omega
  have hcb := s[a + 1].toNat_lt
  have heI : (s.size : Int) < (a : Int) + 2 + s[a + 1].toNat := by omega
  obtain ⟨h1, h2, hb0⟩ := two_boxes w (.cells #[i64 2, i64 tn, .slice an ln cn, .slice at_ lt_ ct] 35) (gO 0 0 (str []) (.slice none 0 0) 0)
  obtain ⟨Y, hY⟩ : ∃ Y, Y = w.heap.size := ⟨_, rfl⟩
  obtain ⟨R, hR⟩ : ∃ R, R = w.heap.size + 1 := ⟨_, rfl⟩
  obtain ⟨V0, hV0⟩ : ∃ V0, V0 = (w.alloc (.cells #[i64 2, i64 tn, .slice an ln cn, .slice at_ lt_ ct] 35)).alloc (gO 0 0 (str []) (.slice none 0 0) 0) := ⟨_, rfl⟩
  rw [← hV0, ← hY] at h1
  rw [← hV0, ← hR] at h2
  rw [← hV0] at hb0
  have HS0 : Hid (Ry R Y (.cells #[i64 2, i64 tn, .slice an ln cn, .slice at_ lt_ ct] 35) V0) := ⟨h2, h1⟩
  have HB0 := hid hb0
  have HRe : Hid (w.heap.size ≤ R) := by show _ ≤ _; omega
  clear h1 h2 hb0
  go_enter Tryz.func32, Tryz.ntmps32
  go_upto_region 1 with fail
  rw [← hV0, ← hR, ← hY]
  clear hV0 hR hY
  have HSd : Hid (Ry R Y (.cells #[i64 2, i64 tn, .slice an ln cn, .slice at_ lt_ ct] 35) V0.drew) := ⟨HS0.out.r, HS0.out.y⟩
  have HB : Hid (Below w.heap.size w V0.drew) := HB0.out.drew
  refine wp_region_noPanic ?_
  refine wp_region_last (Ry R Y (.cells #[i64 2, i64 tn, .slice an ln cn, .slice at_ lt_ ct] 35)) 13 (by kernel_rfl) ?_
  refine wpL_take 0 11 (i64 (a : Nat)) [1, 4, 5] rfl rfl (by kernel_rfl) (by decide) (by kernel_rfl) (by kernel_rfl) (by kernel_rfl) (fun _ _ _ h => h) HSd.out (by rfl) (fun W hW => by have y0 : W.cell? ⟨Y, 0, none⟩ = some (i64 2) := blk_cell hW.y 0; go_simp) ?_
  simp only [Act.put, List.setIfInBounds_toArray, List.set_cons_zero, List.set_cons_succ]
  refine wpL_take 1 12 (i64 ((a : Int) + 2)) [4, 5] rfl rfl (by kernel_rfl) (by decide) (by kernel_rfl) (by kernel_rfl) (by kernel_rfl) (fun _ _ _ h => h) HSd.out (by rfl) (fun W hW => by have y0 : W.cell? ⟨Y, 0, none⟩ = some (i64 2) := blk_cell hW.y 0; go_simp; exact wrap_id (by omega) (by omega)) ?_
  simp only [Act.put, List.setIfInBounds_toArray, List.set_cons_zero, List.set_cons_succ]
  refine wpL_take 2 13 (.string s) [3, 4, 5] rfl rfl (by kernel_rfl) (by decide) (by kernel_rfl) (by kernel_rfl) (by kernel_rfl) (fun _ _ _ h => h) HSd.out (by rfl) (fun W hW => by have y0 : W.cell? ⟨Y, 0, none⟩ = some (i64 2) := blk_cell hW.y 0; go_simp) ?_
  simp only [Act.put, List.setIfInBounds_toArray, List.set_cons_zero, List.set_cons_succ]
  refine wpL_take 3 14 (i64 (s.size : Nat)) [4, 5] rfl rfl (by kernel_rfl) (by decide) (by kernel_rfl) (by kernel_rfl) (by kernel_rfl) (fun _ _ _ h => h) HSd.out (by rfl) (fun W hW => by have y0 : W.cell? ⟨Y, 0, none⟩ = some (i64 2) := blk_cell hW.y 0; go_simp) ?_
  simp only [Act.put, List.setIfInBounds_toArray, List.set_cons_zero, List.set_cons_succ]
  refine wpL_take 4 15 (.bool false) [5] rfl rfl (by kernel_rfl) (by decide) (by kernel_rfl) (by kernel_rfl) (by kernel_rfl) (fun _ _ _ h => h) HSd.out (by rfl) (fun W hW => by have y0 : W.cell? ⟨Y, 0, none⟩ = some (i64 2) := blk_cell hW.y 0; go_simp) ?_
  simp only [Act.put, List.setIfInBounds_toArray, List.set_cons_zero, List.set_cons_succ]
  refine wpL_take 5 16 (.bool false) [] rfl rfl (by kernel_rfl) (by decide) (by kernel_rfl) (by kernel_rfl) (by kernel_rfl) (fun _ _ _ h => h) HSd.out (by rfl) (fun W hW => by have y0 : W.cell? ⟨Y, 0, none⟩ = some (i64 2) := blk_cell hW.y 0; go_simp) ?_
  simp only [Act.put, List.setIfInBounds_toArray, List.set_cons_zero, List.set_cons_succ]
  refine wpL_take 6 17 (.string s) [8, 9, 12] rfl rfl (by kernel_rfl) (by decide) (by kernel_rfl) (by kernel_rfl) (by kernel_rfl) (fun _ _ _ h => h) HSd.out (by rfl) (fun W hW => by have y0 : W.cell? ⟨Y, 0, none⟩ = some (i64 2) := blk_cell hW.y 0; go_simp) ?_
  simp only [Act.put, List.setIfInBounds_toArray, List.set_cons_zero, List.set_cons_succ]
  refine wpL_take 7 18 (i64 (a : Nat)) [8, 9, 12] rfl rfl (by kernel_rfl) (by decide) (by kernel_rfl) (by kernel_rfl) (by kernel_rfl) (fun _ _ _ h => h) HSd.out (by rfl) (fun W hW => by have y0 : W.cell? ⟨Y, 0, none⟩ = some (i64 2) := blk_cell hW.y 0; go_simp) ?_
  simp only [Act.put, List.setIfInBounds_toArray, List.set_cons_zero, List.set_cons_succ]
  refine wpL_take 8 19 (.int .u8 (s[a].toNat : Nat)) [9, 12] rfl rfl (by kernel_rfl) (by decide) (by kernel_rfl) (by kernel_rfl) (by kernel_rfl) (fun _ _ _ h => h) HSd.out (by rfl) (fun W hW => by have y0 : W.cell? ⟨Y, 0, none⟩ = some (i64 2) := blk_cell hW.y 0; go_simp) ?_
  simp only [Act.put, List.setIfInBounds_toArray, List.set_cons_zero, List.set_cons_succ]
  refine wpL_take 9 20 (i64 (s[a].toNat : Nat)) [12] rfl rfl (by kernel_rfl) (by decide) (by kernel_rfl) (by kernel_rfl) (by kernel_rfl) (fun _ _ _ h => h) HSd.out (by rfl) (fun W hW => by have y0 : W.cell? ⟨Y, 0, none⟩ = some (i64 2) := blk_cell hW.y 0; go_simp; exact wrap_id (by omega) (by have := s[a].toNat_lt; omega)) ?_
  simp only [Act.put, List.setIfInBounds_toArray, List.set_cons_zero, List.set_cons_succ]
  refine wpL_take 10 21 (.pointer (some ⟨Y, 0, none⟩)) [11, 12] rfl rfl (by kernel_rfl) (by decide) (by kernel_rfl) (by kernel_rfl) (by kernel_rfl) (fun _ _ _ h => h) HSd.out (by rfl) (fun W hW => by have y0 : W.cell? ⟨Y, 0, none⟩ = some (i64 2) := blk_cell hW.y 0; go_simp) ?_
  simp only [Act.put, List.setIfInBounds_toArray, List.set_cons_zero, List.set_cons_succ]
  refine wpL_take 11 22 (i64 2) [12] rfl rfl (by kernel_rfl) (by decide) (by kernel_rfl) (by kernel_rfl) (by kernel_rfl) (fun _ _ _ h => h) HSd.out (by rfl) (fun W hW => by have y0 : W.cell? ⟨Y, 0, none⟩ = some (i64 2) := blk_cell hW.y 0; go_simp) ?_
  simp only [Act.put, List.setIfInBounds_toArray, List.set_cons_zero, List.set_cons_succ]
  refine wpL_take 12 23 (.bool false) [] rfl rfl (by kernel_rfl) (by decide) (by kernel_rfl) (by kernel_rfl) (by kernel_rfl) (fun _ _ _ h => h) HSd.out (by rfl) (fun W hW => by have y0 : W.cell? ⟨Y, 0, none⟩ = some (i64 2) := blk_cell hW.y 0; go_simp) ?_
  simp only [Act.put, List.setIfInBounds_toArray, List.set_cons_zero, List.set_cons_succ]
  refine wpL_one 13 rfl (by kernel_rfl) (by rfl) (fun K hK => ?_)
  go_simp
  refine hK.out _ _ (fun h => absurd rfl h) ?_
  clear hK K
  refine wpL_done (by kernel_rfl) ?_
  refine NoPanic.normal ?_
  have HS := HSd
  clear HSd HS0 HB0
  generalize V0.drew = V at *
  have rc0 : V.cell? ⟨R, 0, none⟩ = some (i64 0) := blk_cell HS.out.r 0
  have rf0 : V.frozen? ⟨R, 0, none⟩ = false := blk_frozen HS.out.r 0
  have rc1 : V.cell? ⟨R, 1, none⟩ = some (i64 0) := blk_cell HS.out.r 1
  have rf1 : V.frozen? ⟨R, 1, none⟩ = false := blk_frozen HS.out.r 1
  have rc2 : V.cell? ⟨R, 2, none⟩ = some (str []) := blk_cell HS.out.r 2
  have rf2 : V.frozen? ⟨R, 2, none⟩ = false := blk_frozen HS.out.r 2
  have rc3 : V.cell? ⟨R, 3, none⟩ = some (.slice none 0 0) := blk_cell HS.out.r 3
  have rf3 : V.frozen? ⟨R, 3, none⟩ = false := blk_frozen HS.out.r 3
  have rc4 : V.cell? ⟨R, 4, none⟩ = some (i64 0) := blk_cell HS.out.r 4
  have rf4 : V.frozen? ⟨R, 4, none⟩ = false := blk_frozen HS.out.r 4
  have yc0 : V.cell? ⟨Y, 0, none⟩ = some (i64 2) := blk_cell HS.out.y 0
  have yc1 : V.cell? ⟨Y, 1, none⟩ = some (i64 tn) := blk_cell HS.out.y 1
  have yc2 : V.cell? ⟨Y, 2, none⟩ = some (.slice an ln cn) := blk_cell HS.out.y 2
  have yc3 : V.cell? ⟨Y, 3, none⟩ = some (.slice at_ lt_ ct) := blk_cell HS.out.y 3
  go_wp2_with fail
  refine bodyPost_ret (v := gv 0 0 (str []) (.slice none 0 0) (-1)) (results_one Tryz.results32 rfl (load85 (set5 HS.out.r _ _ _ _ _))) rfl ?_
  exact ⟨rfl, below5 HB.out HRe.out _ _ _ _ _⟩
set_option maxRecDepth 100000 in
set_option maxHeartbeats 12800000 in
theorem tk7_2 (w : World) (s : ByteArray) (a c : Nat) (tn : Int) (an at_ : Option Addr) (ln cn lt_ ct : Nat) (hs : s.size ≤ 1000000) (h : a + 2 ≤ s.size) (hk : (s[a]'(by omega)).toNat = 2) (hc : (s[a + 1]'(by omega)).toNat = c) (he : a + 2 + c ≤ s.size) : Calls Tryz.prog 32 #[.string s, i64 (a : Nat), .agg #[i64 2, i64 tn, .slice an ln cn, .slice at_ lt_ ct]] w fun e w' => e = .returned (gv 2 0 (str ((s.data.toList.drop (a + 2)).take c)) (.slice none 0 0) ((a + 2 + c : Nat) : Int)) ∧ Below w.heap.size w w' := by
  have hI : ¬ (s.size : Int) < (a : Int) + 2 := by omega
  have hlt : a < s.size := by omega
  have hltI : (a : Int) < s.size := by omega
  have hq : ((s[a].toNat : Int) == 2) = true := beq_iff_eq.2 (by rw [hk]; rfl)
  have hq2 : ((s[a].toNat : Int) != 2) = false := by rw [bne, hq]; rfl
  have hlt1 : a + 1 < s.size := by omega
  have hlt1I : (a : Int) + 1 < s.size := by omega
  have hcb := s[a + 1].toNat_lt
  rw [hc] at hcb
  have heI : ¬ (s.size : Int) < (a : Int) + 2 + c := by omega
  have hsl : ∀ W : World, (Instr.slice 9 (.string s) (some (i64 ((a : Int) + 2))) (some (i64 ((a : Int) + 2 + c))) none).run Tryz.prog W = .ok (str ((s.data.toList.drop (a + 2)).take c)) W := fun W => by
    have := sl_i W s (a + 2) (a + 2 + c) ((a : Int) + 2) ((a : Int) + 2 + c) (by omega) (by omega) (by omega) (by omega)
    rw [show a + 2 + c - (a + 2) = c by omega] at this
    exact this
  generalize (s.data.toList.drop (a + 2)).take c = D at *
  obtain ⟨h1, h2, hb0⟩ := two_boxes w (.cells #[i64 2, i64 tn, .slice an ln cn, .slice at_ lt_ ct] 35) (gO 0 0 (str []) (.slice none 0 0) 0)
  obtain ⟨Y, hY⟩ : ∃ Y, Y = w.heap.size := ⟨_, rfl⟩
  obtain ⟨R, hR⟩ : ∃ R, R = w.heap.size + 1 := ⟨_, rfl⟩
  obtain ⟨V0, hV0⟩ : ∃ V0, V0 = (w.alloc (.cells #[i64 2, i64 tn, .slice an ln cn, .slice at_ lt_ ct] 35)).alloc (gO 0 0 (str []) (.slice none 0 0) 0) := ⟨_, rfl⟩
  rw [← hV0, ← hY] at h1
  rw [← hV0, ← hR] at h2
  rw [← hV0] at hb0
  have HS0 : Hid (Ry R Y (.cells #[i64 2, i64 tn, .slice an ln cn, .slice at_ lt_ ct] 35) V0) := ⟨h2, h1⟩
  have HB0 := hid hb0
  have HRe : Hid (w.heap.size ≤ R) := by show _ ≤ _; omega
  clear h1 h2 hb0
  go_enter Tryz.func32, Tryz.ntmps32
  go_upto_region 1 with fail
  rw [← hV0, ← hR, ← hY]
  clear hV0 hR hY
  have HSd : Hid (Ry R Y (.cells #[i64 2, i64 tn, .slice an ln cn, .slice at_ lt_ ct] 35) V0.drew) := ⟨HS0.out.r, HS0.out.y⟩
  have HB : Hid (Below w.heap.size w V0.drew) := HB0.out.drew
  refine wp_region_noPanic ?_
  refine wp_region_last (Ry R Y (.cells #[i64 2, i64 tn, .slice an ln cn, .slice at_ lt_ ct] 35)) 13 (by kernel_rfl) ?_
  refine wpL_take 0 11 (i64 (a : Nat)) [1, 4, 5] rfl rfl (by kernel_rfl) (by decide) (by kernel_rfl) (by kernel_rfl) (by kernel_rfl) (fun _ _ _ h => h) HSd.out (by rfl) (fun W hW => by have y0 : W.cell? ⟨Y, 0, none⟩ = some (i64 2) := blk_cell hW.y 0; go_simp) ?_
  simp only [Act.put, List.setIfInBounds_toArray, List.set_cons_zero, List.set_cons_succ]
  refine wpL_take 1 12 (i64 ((a : Int) + 2)) [4, 5] rfl rfl (by kernel_rfl) (by decide) (by kernel_rfl) (by kernel_rfl) (by kernel_rfl) (fun _ _ _ h => h) HSd.out (by rfl) (fun W hW => by have y0 : W.cell? ⟨Y, 0, none⟩ = some (i64 2) := blk_cell hW.y 0; go_simp; exact wrap_id (by omega) (by omega)) ?_
  simp only [Act.put, List.setIfInBounds_toArray, List.set_cons_zero, List.set_cons_succ]
  refine wpL_take 2 13 (.string s) [3, 4, 5] rfl rfl (by kernel_rfl) (by decide) (by kernel_rfl) (by kernel_rfl) (by kernel_rfl) (fun _ _ _ h => h) HSd.out (by rfl) (fun W hW => by have y0 : W.cell? ⟨Y, 0, none⟩ = some (i64 2) := blk_cell hW.y 0; go_simp) ?_
  simp only [Act.put, List.setIfInBounds_toArray, List.set_cons_zero, List.set_cons_succ]
  refine wpL_take 3 14 (i64 (s.size : Nat)) [4, 5] rfl rfl (by kernel_rfl) (by decide) (by kernel_rfl) (by kernel_rfl) (by kernel_rfl) (fun _ _ _ h => h) HSd.out (by rfl) (fun W hW => by have y0 : W.cell? ⟨Y, 0, none⟩ = some (i64 2) := blk_cell hW.y 0; go_simp) ?_
  simp only [Act.put, List.setIfInBounds_toArray, List.set_cons_zero, List.set_cons_succ]
  refine wpL_take 4 15 (.bool false) [5] rfl rfl (by kernel_rfl) (by decide) (by kernel_rfl) (by kernel_rfl) (by kernel_rfl) (fun _ _ _ h => h) HSd.out (by rfl) (fun W hW => by have y0 : W.cell? ⟨Y, 0, none⟩ = some (i64 2) := blk_cell hW.y 0; go_simp) ?_
  simp only [Act.put, List.setIfInBounds_toArray, List.set_cons_zero, List.set_cons_succ]
  refine wpL_take 5 16 (.bool false) [] rfl rfl (by kernel_rfl) (by decide) (by kernel_rfl) (by kernel_rfl) (by kernel_rfl) (fun _ _ _ h => h) HSd.out (by rfl) (fun W hW => by have y0 : W.cell? ⟨Y, 0, none⟩ = some (i64 2) := blk_cell hW.y 0; go_simp) ?_
  simp only [Act.put, List.setIfInBounds_toArray, List.set_cons_zero, List.set_cons_succ]
  refine wpL_take 6 17 (.string s) [8, 9, 12] rfl rfl (by kernel_rfl) (by decide) (by kernel_rfl) (by kernel_rfl) (by kernel_rfl) (fun _ _ _ h => h) HSd.out (by rfl) (fun W hW => by have y0 : W.cell? ⟨Y, 0, none⟩ = some (i64 2) := blk_cell hW.y 0; go_simp) ?_
  simp only [Act.put, List.setIfInBounds_toArray, List.set_cons_zero, List.set_cons_succ]
  refine wpL_take 7 18 (i64 (a : Nat)) [8, 9, 12] rfl rfl (by kernel_rfl) (by decide) (by kernel_rfl) (by kernel_rfl) (by kernel_rfl) (fun _ _ _ h => h) HSd.out (by rfl) (fun W hW => by have y0 : W.cell? ⟨Y, 0, none⟩ = some (i64 2) := blk_cell hW.y 0; go_simp) ?_
  simp only [Act.put, List.setIfInBounds_toArray, List.set_cons_zero, List.set_cons_succ]
  refine wpL_take 8 19 (.int .u8 (s[a].toNat : Nat)) [9, 12] rfl rfl (by kernel_rfl) (by decide) (by kernel_rfl) (by kernel_rfl) (by kernel_rfl) (fun _ _ _ h => h) HSd.out (by rfl) (fun W hW => by have y0 : W.cell? ⟨Y, 0, none⟩ = some (i64 2) := blk_cell hW.y 0; go_simp) ?_
  simp only [Act.put, List.setIfInBounds_toArray, List.set_cons_zero, List.set_cons_succ]
  refine wpL_take 9 20 (i64 (s[a].toNat : Nat)) [12] rfl rfl (by kernel_rfl) (by decide) (by kernel_rfl) (by kernel_rfl) (by kernel_rfl) (fun _ _ _ h => h) HSd.out (by rfl) (fun W hW => by have y0 : W.cell? ⟨Y, 0, none⟩ = some (i64 2) := blk_cell hW.y 0; go_simp; exact wrap_id (by omega) (by have := s[a].toNat_lt; omega)) ?_
  simp only [Act.put, List.setIfInBounds_toArray, List.set_cons_zero, List.set_cons_succ]
  refine wpL_take 10 21 (.pointer (some ⟨Y, 0, none⟩)) [11, 12] rfl rfl (by kernel_rfl) (by decide) (by kernel_rfl) (by kernel_rfl) (by kernel_rfl) (fun _ _ _ h => h) HSd.out (by rfl) (fun W hW => by have y0 : W.cell? ⟨Y, 0, none⟩ = some (i64 2) := blk_cell hW.y 0; go_simp) ?_
  simp only [Act.put, List.setIfInBounds_toArray, List.set_cons_zero, List.set_cons_succ]
  refine wpL_take 11 22 (i64 2) [12] rfl rfl (by kernel_rfl) (by decide) (by kernel_rfl) (by kernel_rfl) (by kernel_rfl) (fun _ _ _ h => h) HSd.out (by rfl) (fun W hW => by have y0 : W.cell? ⟨Y, 0, none⟩ = some (i64 2) := blk_cell hW.y 0; go_simp) ?_
  simp only [Act.put, List.setIfInBounds_toArray, List.set_cons_zero, List.set_cons_succ]
  refine wpL_take 12 23 (.bool false) [] rfl rfl (by kernel_rfl) (by decide) (by kernel_rfl) (by kernel_rfl) (by kernel_rfl) (fun _ _ _ h => h) HSd.out (by rfl) (fun W hW => by have y0 : W.cell? ⟨Y, 0, none⟩ = some (i64 2) := blk_cell hW.y 0; go_simp) ?_
  simp only [Act.put, List.setIfInBounds_toArray, List.set_cons_zero, List.set_cons_succ]
  refine wpL_one 13 rfl (by kernel_rfl) (by rfl) (fun K hK => ?_)
  go_simp
  refine hK.out _ _ (fun h => absurd rfl h) ?_
  clear hK K
  refine wpL_done (by kernel_rfl) ?_
  refine NoPanic.normal ?_
  have HS := HSd
  clear HSd HS0 HB0
  generalize V0.drew = V at *
  have rc0 : V.cell? ⟨R, 0, none⟩ = some (i64 0) := blk_cell HS.out.r 0
  have rf0 : V.frozen? ⟨R, 0, none⟩ = false := blk_frozen HS.out.r 0
  have rc1 : V.cell? ⟨R, 1, none⟩ = some (i64 0) := blk_cell HS.out.r 1
  have rf1 : V.frozen? ⟨R, 1, none⟩ = false := blk_frozen HS.out.r 1
  have rc2 : V.cell? ⟨R, 2, none⟩ = some (str []) := blk_cell HS.out.r 2
  have rf2 : V.frozen? ⟨R, 2, none⟩ = false := blk_frozen HS.out.r 2
  have rc3 : V.cell? ⟨R, 3, none⟩ = some (.slice none 0 0) := blk_cell HS.out.r 3
  have rf3 : V.frozen? ⟨R, 3, none⟩ = false := blk_frozen HS.out.r 3
  have rc4 : V.cell? ⟨R, 4, none⟩ = some (i64 0) := blk_cell HS.out.r 4
  have rf4 : V.frozen? ⟨R, 4, none⟩ = false := blk_frozen HS.out.r 4
  have yc0 : V.cell? ⟨Y, 0, none⟩ = some (i64 2) := blk_cell HS.out.y 0
  have yc1 : V.cell? ⟨Y, 1, none⟩ = some (i64 tn) := blk_cell HS.out.y 1
  have yc2 : V.cell? ⟨Y, 2, none⟩ = some (.slice an ln cn) := blk_cell HS.out.y 2
  have yc3 : V.cell? ⟨Y, 3, none⟩ = some (.slice at_ lt_ ct) := blk_cell HS.out.y 3
  go_wp2_with fail
  refine bodyPost_ret (v := gv 2 0 (str D) (.slice none 0 0) ((a + 2 + c : Nat) : Int)) (results_one Tryz.results32 rfl (load85 (set5 HS.out.r _ _ _ _ _))) rfl ?_
  exact ⟨rfl, below5 HB.out HRe.out _ _ _ _ _⟩
set_option maxRecDepth 100000 in
set_option maxHeartbeats 12800000 in
theorem tk7_l3_no (w : World) (s : ByteArray) (a : Nat) (tn : Int) (an at_ : Option Addr) (ln cn lt_ ct : Nat) (hs : s.size ≤ 1000000) (h : a + 2 ≤ s.size) (hk : (s[a]'(by omega)).toNat = 3) (hC : ∀ W, Below w.heap.size w W → Calls Tryz.prog 54 #[.string s, i64 (a : Nat), .agg #[i64 3, i64 tn, .slice an ln cn, .slice at_ lt_ ct]] W (GNo W)) : Calls Tryz.prog 32 #[.string s, i64 (a : Nat), .agg #[i64 3, i64 tn, .slice an ln cn, .slice at_ lt_ ct]] w (GNo w) := by
  have HC := hid hC
  clear hC
  have hI : ¬ (s.size : Int) < (a : Int) + 2 := by omega
  have hlt : a < s.size := by omega
  have hltI : (a : Int) < s.size := by omega
  have hq : ((s[a].toNat : Int) == 3) = true := beq_iff_eq.2 (by rw [hk]; rfl)
  have hq2 : ((s[a].toNat : Int) != 3) = false := by rw [bne, hq]; rfl
  obtain ⟨h1, h2, hb0⟩ := two_boxes w (.cells #[i64 3, i64 tn, .slice an ln cn, .slice at_ lt_ ct] 35) (gO 0 0 (str []) (.slice none 0 0) 0)
  obtain ⟨Y, hY⟩ : ∃ Y, Y = w.heap.size := ⟨_, rfl⟩
  obtain ⟨R, hR⟩ : ∃ R, R = w.heap.size + 1 := ⟨_, rfl⟩
  obtain ⟨V0, hV0⟩ : ∃ V0, V0 = (w.alloc (.cells #[i64 3, i64 tn, .slice an ln cn, .slice at_ lt_ ct] 35)).alloc (gO 0 0 (str []) (.slice none 0 0) 0) := ⟨_, rfl⟩
  rw [← hV0, ← hY] at h1
  rw [← hV0, ← hR] at h2
  rw [← hV0] at hb0
  have HS0 : Hid (Ry R Y (.cells #[i64 3, i64 tn, .slice an ln cn, .slice at_ lt_ ct] 35) V0) := ⟨h2, h1⟩
  have HB0 := hid hb0
  have HRe : Hid (w.heap.size ≤ R) := by show _ ≤ _; omega
  clear h1 h2 hb0
  go_enter Tryz.func32, Tryz.ntmps32
  go_upto_region 1 with fail
  rw [← hV0, ← hR, ← hY]
  clear hV0 hR hY
  have HSd : Hid (Ry R Y (.cells #[i64 3, i64 tn, .slice an ln cn, .slice at_ lt_ ct] 35) V0.drew) := ⟨HS0.out.r, HS0.out.y⟩
  have HB : Hid (Below w.heap.size w V0.drew) := HB0.out.drew
  refine wp_region_noPanic ?_
  refine wp_region_last (Ry R Y (.cells #[i64 3, i64 tn, .slice an ln cn, .slice at_ lt_ ct] 35)) 13 (by kernel_rfl) ?_
  refine wpL_take 0 11 (i64 (a : Nat)) [1, 4, 5] rfl rfl (by kernel_rfl) (by decide) (by kernel_rfl) (by kernel_rfl) (by kernel_rfl) (fun _ _ _ h => h) HSd.out (by rfl) (fun W hW => by have y0 : W.cell? ⟨Y, 0, none⟩ = some (i64 3) := blk_cell hW.y 0; go_simp) ?_
  simp only [Act.put, List.setIfInBounds_toArray, List.set_cons_zero, List.set_cons_succ]
  refine wpL_take 1 12 (i64 ((a : Int) + 2)) [4, 5] rfl rfl (by kernel_rfl) (by decide) (by kernel_rfl) (by kernel_rfl) (by kernel_rfl) (fun _ _ _ h => h) HSd.out (by rfl) (fun W hW => by have y0 : W.cell? ⟨Y, 0, none⟩ = some (i64 3) := blk_cell hW.y 0; go_simp; exact wrap_id (by omega) (by omega)) ?_
  simp only [Act.put, List.setIfInBounds_toArray, List.set_cons_zero, List.set_cons_succ]
  refine wpL_take 2 13 (.string s) [3, 4, 5] rfl rfl (by kernel_rfl) (by decide) (by kernel_rfl) (by kernel_rfl) (by kernel_rfl) (fun _ _ _ h => h) HSd.out (by rfl) (fun W hW => by have y0 : W.cell? ⟨Y, 0, none⟩ = some (i64 3) := blk_cell hW.y 0; go_simp) ?_
  simp only [Act.put, List.setIfInBounds_toArray, List.set_cons_zero, List.set_cons_succ]
  refine wpL_take 3 14 (i64 (s.size : Nat)) [4, 5] rfl rfl (by kernel_rfl) (by decide) (by kernel_rfl) (by kernel_rfl) (by kernel_rfl) (fun _ _ _ h => h) HSd.out (by rfl) (fun W hW => by have y0 : W.cell? ⟨Y, 0, none⟩ = some (i64 3) := blk_cell hW.y 0; go_simp) ?_
  simp only [Act.put, List.setIfInBounds_toArray, List.set_cons_zero, List.set_cons_succ]
  refine wpL_take 4 15 (.bool false) [5] rfl rfl (by kernel_rfl) (by decide) (by kernel_rfl) (by kernel_rfl) (by kernel_rfl) (fun _ _ _ h => h) HSd.out (by rfl) (fun W hW => by have y0 : W.cell? ⟨Y, 0, none⟩ = some (i64 3) := blk_cell hW.y 0; go_simp) ?_
  simp only [Act.put, List.setIfInBounds_toArray, List.set_cons_zero, List.set_cons_succ]
  refine wpL_take 5 16 (.bool false) [] rfl rfl (by kernel_rfl) (by decide) (by kernel_rfl) (by kernel_rfl) (by kernel_rfl) (fun _ _ _ h => h) HSd.out (by rfl) (fun W hW => by have y0 : W.cell? ⟨Y, 0, none⟩ = some (i64 3) := blk_cell hW.y 0; go_simp) ?_
  simp only [Act.put, List.setIfInBounds_toArray, List.set_cons_zero, List.set_cons_succ]
  refine wpL_take 6 17 (.string s) [8, 9, 12] rfl rfl (by kernel_rfl) (by decide) (by kernel_rfl) (by kernel_rfl) (by kernel_rfl) (fun _ _ _ h => h) HSd.out (by rfl) (fun W hW => by have y0 : W.cell? ⟨Y, 0, none⟩ = some (i64 3) := blk_cell hW.y 0; go_simp) ?_
  simp only [Act.put, List.setIfInBounds_toArray, List.set_cons_zero, List.set_cons_succ]
  refine wpL_take 7 18 (i64 (a : Nat)) [8, 9, 12] rfl rfl (by kernel_rfl) (by decide) (by kernel_rfl) (by kernel_rfl) (by kernel_rfl) (fun _ _ _ h => h) HSd.out (by rfl) (fun W hW => by have y0 : W.cell? ⟨Y, 0, none⟩ = some (i64 3) := blk_cell hW.y 0; go_simp) ?_
  simp only [Act.put, List.setIfInBounds_toArray, List.set_cons_zero, List.set_cons_succ]
  refine wpL_take 8 19 (.int .u8 (s[a].toNat : Nat)) [9, 12] rfl rfl (by kernel_rfl) (by decide) (by kernel_rfl) (by kernel_rfl) (by kernel_rfl) (fun _ _ _ h => h) HSd.out (by rfl) (fun W hW => by have y0 : W.cell? ⟨Y, 0, none⟩ = some (i64 3) := blk_cell hW.y 0; go_simp) ?_
  simp only [Act.put, List.setIfInBounds_toArray, List.set_cons_zero, List.set_cons_succ]
  refine wpL_take 9 20 (i64 (s[a].toNat : Nat)) [12] rfl rfl (by kernel_rfl) (by decide) (by kernel_rfl) (by kernel_rfl) (by kernel_rfl) (fun _ _ _ h => h) HSd.out (by rfl) (fun W hW => by have y0 : W.cell? ⟨Y, 0, none⟩ = some (i64 3) := blk_cell hW.y 0; go_simp; exact wrap_id (by omega) (by have := s[a].toNat_lt; omega)) ?_
  simp only [Act.put, List.setIfInBounds_toArray, List.set_cons_zero, List.set_cons_succ]
  refine wpL_take 10 21 (.pointer (some ⟨Y, 0, none⟩)) [11, 12] rfl rfl (by kernel_rfl) (by decide) (by kernel_rfl) (by kernel_rfl) (by kernel_rfl) (fun _ _ _ h => h) HSd.out (by rfl) (fun W hW => by have y0 : W.cell? ⟨Y, 0, none⟩ = some (i64 3) := blk_cell hW.y 0; go_simp) ?_
  simp only [Act.put, List.setIfInBounds_toArray, List.set_cons_zero, List.set_cons_succ]
  refine wpL_take 11 22 (i64 3) [12] rfl rfl (by kernel_rfl) (by decide) (by kernel_rfl) (by kernel_rfl) (by kernel_rfl) (fun _ _ _ h => h) HSd.out (by rfl) (fun W hW => by have y0 : W.cell? ⟨Y, 0, none⟩ = some (i64 3) := blk_cell hW.y 0; go_simp) ?_
  simp only [Act.put, List.setIfInBounds_toArray, List.set_cons_zero, List.set_cons_succ]
  refine wpL_take 12 23 (.bool false) [] rfl rfl (by kernel_rfl) (by decide) (by kernel_rfl) (by kernel_rfl) (by kernel_rfl) (fun _ _ _ h => h) HSd.out (by rfl) (fun W hW => by have y0 : W.cell? ⟨Y, 0, none⟩ = some (i64 3) := blk_cell hW.y 0; go_simp) ?_
  simp only [Act.put, List.setIfInBounds_toArray, List.set_cons_zero, List.set_cons_succ]
  refine wpL_one 13 rfl (by kernel_rfl) (by rfl) (fun K hK => ?_)
  go_simp
  refine hK.out _ _ (fun h => absurd rfl h) ?_
  clear hK K
  refine wpL_done (by kernel_rfl) ?_
  refine NoPanic.normal ?_
  have HS := HSd
  clear HSd HS0 HB0
  generalize V0.drew = V at *
  have yc0 : V.cell? ⟨Y, 0, none⟩ = some (i64 3) := blk_cell HS.out.y 0
  have yc1 : V.cell? ⟨Y, 1, none⟩ = some (i64 tn) := blk_cell HS.out.y 1
  have yc2 : V.cell? ⟨Y, 2, none⟩ = some (.slice an ln cn) := blk_cell HS.out.y 2
  have yc3 : V.cell? ⟨Y, 3, none⟩ = some (.slice at_ lt_ ct) := blk_cell HS.out.y 3
  have HCV := hid (HC.out V HB.out)
  clear HC
  go_wp2_with fail
  refine HCV.out.mono ?_
  rintro e V1 ⟨rfl, hb1⟩
  have HS1 := hid (HS.out.below hb1)
  have HB1 : Hid (Below w.heap.size w V1) := HB.out.trans (hb1.mono HB.out.size)
  clear hb1 HCV yc0 yc1 yc2 yc3 HS HB
  have HS := HS1
  have HB := HB1
  clear HS1 HB1
  generalize V1 = V at *
  have rc0 : V.cell? ⟨R, 0, none⟩ = some (i64 0) := blk_cell HS.out.r 0
  have rf0 : V.frozen? ⟨R, 0, none⟩ = false := blk_frozen HS.out.r 0
  have rc1 : V.cell? ⟨R, 1, none⟩ = some (i64 0) := blk_cell HS.out.r 1
  have rf1 : V.frozen? ⟨R, 1, none⟩ = false := blk_frozen HS.out.r 1
  have rc2 : V.cell? ⟨R, 2, none⟩ = some (str []) := blk_cell HS.out.r 2
  have rf2 : V.frozen? ⟨R, 2, none⟩ = false := blk_frozen HS.out.r 2
  have rc3 : V.cell? ⟨R, 3, none⟩ = some (.slice none 0 0) := blk_cell HS.out.r 3
  have rf3 : V.frozen? ⟨R, 3, none⟩ = false := blk_frozen HS.out.r 3
  have rc4 : V.cell? ⟨R, 4, none⟩ = some (i64 0) := blk_cell HS.out.r 4
  have rf4 : V.frozen? ⟨R, 4, none⟩ = false := blk_frozen HS.out.r 4
  go_wp2_with fail
  refine bodyPost_ret (v := gv 0 0 (str []) (.slice none 0 0) (-1)) (results_one Tryz.results32 rfl (load85 (set5 HS.out.r _ _ _ _ _))) rfl ?_
  exact ⟨rfl, below5 HB.out HRe.out _ _ _ _ _⟩
set_option maxRecDepth 100000 in
set_option maxHeartbeats 12800000 in
theorem tk7_l3 (w : World) (s : ByteArray) (a : Nat) (tn : Int) (U : Vl) (E : Int) (an at_ : Option Addr) (ln cn lt_ ct : Nat) (hs : s.size ≤ 1000000) (h : a + 2 ≤ s.size) (hk : (s[a]'(by omega)).toNat = 3) (hC : ∀ W, Below w.heap.size w W → Calls Tryz.prog 54 #[.string s, i64 (a : Nat), .agg #[i64 3, i64 tn, .slice an ln cn, .slice at_ lt_ ct]] W (fun e w' => ∃ p c, e = .returned (gv U.kind U.num (str U.s) (.slice p U.kids.length c) E) ∧ Below W.heap.size W w' ∧ Vd w' (fun b => W.heap.size ≤ b) U (.slice p U.kids.length c))) : Calls Tryz.prog 32 #[.string s, i64 (a : Nat), .agg #[i64 3, i64 tn, .slice an ln cn, .slice at_ lt_ ct]] w (fun e w' => ∃ p c, e = .returned (gv U.kind U.num (str U.s) (.slice p U.kids.length c) E) ∧ Below w.heap.size w w' ∧ Vd w' (fun b => w.heap.size ≤ b) U (.slice p U.kids.length c)) := by
  have HC := hid hC
  clear hC
  have hI : ¬ (s.size : Int) < (a : Int) + 2 := by omega
  have hlt : a < s.size := by omega
  have hltI : (a : Int) < s.size := by omega
  have hq : ((s[a].toNat : Int) == 3) = true := beq_iff_eq.2 (by rw [hk]; rfl)
  have hq2 : ((s[a].toNat : Int) != 3) = false := by rw [bne, hq]; rfl
  obtain ⟨h1, h2, hb0⟩ := two_boxes w (.cells #[i64 3, i64 tn, .slice an ln cn, .slice at_ lt_ ct] 35) (gO 0 0 (str []) (.slice none 0 0) 0)
  obtain ⟨Y, hY⟩ : ∃ Y, Y = w.heap.size := ⟨_, rfl⟩
  obtain ⟨R, hR⟩ : ∃ R, R = w.heap.size + 1 := ⟨_, rfl⟩
  obtain ⟨V0, hV0⟩ : ∃ V0, V0 = (w.alloc (.cells #[i64 3, i64 tn, .slice an ln cn, .slice at_ lt_ ct] 35)).alloc (gO 0 0 (str []) (.slice none 0 0) 0) := ⟨_, rfl⟩
  rw [← hV0, ← hY] at h1
  rw [← hV0, ← hR] at h2
  rw [← hV0] at hb0
  have HS0 : Hid (Ry R Y (.cells #[i64 3, i64 tn, .slice an ln cn, .slice at_ lt_ ct] 35) V0) := ⟨h2, h1⟩
  have HB0 := hid hb0
  have HRe : Hid (w.heap.size ≤ R) := by show _ ≤ _; omega
  clear h1 h2 hb0
  go_enter Tryz.func32, Tryz.ntmps32
  go_upto_region 1 with fail
  rw [← hV0, ← hR, ← hY]
  clear hV0 hR hY
  have HSd : Hid (Ry R Y (.cells #[i64 3, i64 tn, .slice an ln cn, .slice at_ lt_ ct] 35) V0.drew) := ⟨HS0.out.r, HS0.out.y⟩
  have HB : Hid (Below w.heap.size w V0.drew) := HB0.out.drew
  refine wp_region_noPanic ?_
  refine wp_region_last (Ry R Y (.cells #[i64 3, i64 tn, .slice an ln cn, .slice at_ lt_ ct] 35)) 13 (by kernel_rfl) ?_
  refine wpL_take 0 11 (i64 (a : Nat)) [1, 4, 5] rfl rfl (by kernel_rfl) (by decide) (by kernel_rfl) (by kernel_rfl) (by kernel_rfl) (fun _ _ _ h => h) HSd.out (by rfl) (fun W hW => by have y0 : W.cell? ⟨Y, 0, none⟩ = some (i64 3) := blk_cell hW.y 0; go_simp) ?_
  simp only [Act.put, List.setIfInBounds_toArray, List.set_cons_zero, List.set_cons_succ]
  refine wpL_take 1 12 (i64 ((a : Int) + 2)) [4, 5] rfl rfl (by kernel_rfl) (by decide) (by kernel_rfl) (by kernel_rfl) (by kernel_rfl) (fun _ _ _ h => h) HSd.out (by rfl) (fun W hW => by have y0 : W.cell? ⟨Y, 0, none⟩ = some (i64 3) := blk_cell hW.y 0; go_simp; exact wrap_id (by omega) (by omega)) ?_
  simp only [Act.put, List.setIfInBounds_toArray, List.set_cons_zero, List.set_cons_succ]
  refine wpL_take 2 13 (.string s) [3, 4, 5] rfl rfl (by kernel_rfl) (by decide) (by kernel_rfl) (by kernel_rfl) (by kernel_rfl) (fun _ _ _ h => h) HSd.out (by rfl) (fun W hW => by have y0 : W.cell? ⟨Y, 0, none⟩ = some (i64 3) := blk_cell hW.y 0; go_simp) ?_
  simp only [Act.put, List.setIfInBounds_toArray, List.set_cons_zero, List.set_cons_succ]
  refine wpL_take 3 14 (i64 (s.size : Nat)) [4, 5] rfl rfl (by kernel_rfl) (by decide) (by kernel_rfl) (by kernel_rfl) (by kernel_rfl) (fun _ _ _ h => h) HSd.out (by rfl) (fun W hW => by have y0 : W.cell? ⟨Y, 0, none⟩ = some (i64 3) := blk_cell hW.y 0; go_simp) ?_
  simp only [Act.put, List.setIfInBounds_toArray, List.set_cons_zero, List.set_cons_succ]
  refine wpL_take 4 15 (.bool false) [5] rfl rfl (by kernel_rfl) (by decide) (by kernel_rfl) (by kernel_rfl) (by kernel_rfl) (fun _ _ _ h => h) HSd.out (by rfl) (fun W hW => by have y0 : W.cell? ⟨Y, 0, none⟩ = some (i64 3) := blk_cell hW.y 0; go_simp) ?_
  simp only [Act.put, List.setIfInBounds_toArray, List.set_cons_zero, List.set_cons_succ]
  refine wpL_take 5 16 (.bool false) [] rfl rfl (by kernel_rfl) (by decide) (by kernel_rfl) (by kernel_rfl) (by kernel_rfl) (fun _ _ _ h => h) HSd.out (by rfl) (fun W hW => by have y0 : W.cell? ⟨Y, 0, none⟩ = some (i64 3) := blk_cell hW.y 0; go_simp) ?_
  simp only [Act.put, List.setIfInBounds_toArray, List.set_cons_zero, List.set_cons_succ]
  refine wpL_take 6 17 (.string s) [8, 9, 12] rfl rfl (by kernel_rfl) (by decide) (by kernel_rfl) (by kernel_rfl) (by kernel_rfl) (fun _ _ _ h => h) HSd.out (by rfl) (fun W hW => by have y0 : W.cell? ⟨Y, 0, none⟩ = some (i64 3) := blk_cell hW.y 0; go_simp) ?_
  simp only [Act.put, List.setIfInBounds_toArray, List.set_cons_zero, List.set_cons_succ]
  refine wpL_take 7 18 (i64 (a : Nat)) [8, 9, 12] rfl rfl (by kernel_rfl) (by decide) (by kernel_rfl) (by kernel_rfl) (by kernel_rfl) (fun _ _ _ h => h) HSd.out (by rfl) (fun W hW => by have y0 : W.cell? ⟨Y, 0, none⟩ = some (i64 3) := blk_cell hW.y 0; go_simp) ?_
  simp only [Act.put, List.setIfInBounds_toArray, List.set_cons_zero, List.set_cons_succ]
  refine wpL_take 8 19 (.int .u8 (s[a].toNat : Nat)) [9, 12] rfl rfl (by kernel_rfl) (by decide) (by kernel_rfl) (by kernel_rfl) (by kernel_rfl) (fun _ _ _ h => h) HSd.out (by rfl) (fun W hW => by have y0 : W.cell? ⟨Y, 0, none⟩ = some (i64 3) := blk_cell hW.y 0; go_simp) ?_
  simp only [Act.put, List.setIfInBounds_toArray, List.set_cons_zero, List.set_cons_succ]
  refine wpL_take 9 20 (i64 (s[a].toNat : Nat)) [12] rfl rfl (by kernel_rfl) (by decide) (by kernel_rfl) (by kernel_rfl) (by kernel_rfl) (fun _ _ _ h => h) HSd.out (by rfl) (fun W hW => by have y0 : W.cell? ⟨Y, 0, none⟩ = some (i64 3) := blk_cell hW.y 0; go_simp; exact wrap_id (by omega) (by have := s[a].toNat_lt; omega)) ?_
  simp only [Act.put, List.setIfInBounds_toArray, List.set_cons_zero, List.set_cons_succ]
  refine wpL_take 10 21 (.pointer (some ⟨Y, 0, none⟩)) [11, 12] rfl rfl (by kernel_rfl) (by decide) (by kernel_rfl) (by kernel_rfl) (by kernel_rfl) (fun _ _ _ h => h) HSd.out (by rfl) (fun W hW => by have y0 : W.cell? ⟨Y, 0, none⟩ = some (i64 3) := blk_cell hW.y 0; go_simp) ?_
  simp only [Act.put, List.setIfInBounds_toArray, List.set_cons_zero, List.set_cons_succ]
  refine wpL_take 11 22 (i64 3) [12] rfl rfl (by kernel_rfl) (by decide) (by kernel_rfl) (by kernel_rfl) (by kernel_rfl) (fun _ _ _ h => h) HSd.out (by rfl) (fun W hW => by have y0 : W.cell? ⟨Y, 0, none⟩ = some (i64 3) := blk_cell hW.y 0; go_simp) ?_
  simp only [Act.put, List.setIfInBounds_toArray, List.set_cons_zero, List.set_cons_succ]
  refine wpL_take 12 23 (.bool false) [] rfl rfl (by kernel_rfl) (by decide) (by kernel_rfl) (by kernel_rfl) (by kernel_rfl) (fun _ _ _ h => h) HSd.out (by rfl) (fun W hW => by have y0 : W.cell? ⟨Y, 0, none⟩ = some (i64 3) := blk_cell hW.y 0; go_simp) ?_
  simp only [Act.put, List.setIfInBounds_toArray, List.set_cons_zero, List.set_cons_succ]
  refine wpL_one 13 rfl (by kernel_rfl) (by rfl) (fun K hK => ?_)
  go_simp
  refine hK.out _ _ (fun h => absurd rfl h) ?_
  clear hK K
  refine wpL_done (by kernel_rfl) ?_
  refine NoPanic.normal ?_
  have HS := HSd
  clear HSd HS0 HB0
  generalize V0.drew = V at *
  have yc0 : V.cell? ⟨Y, 0, none⟩ = some (i64 3) := blk_cell HS.out.y 0
  have yc1 : V.cell? ⟨Y, 1, none⟩ = some (i64 tn) := blk_cell HS.out.y 1
  have yc2 : V.cell? ⟨Y, 2, none⟩ = some (.slice an ln cn) := blk_cell HS.out.y 2
  have yc3 : V.cell? ⟨Y, 3, none⟩ = some (.slice at_ lt_ ct) := blk_cell HS.out.y 3
  have HCV := hid (HC.out V HB.out)
  clear HC
  have hRV : R < V.heap.size := blk_lt HS.out.r
  have hVw : w.heap.size ≤ V.heap.size := HB.out.size
  go_wp2_with fail
  refine HCV.out.mono ?_
  rintro e V1 ⟨p, c, rfl, hb1, hv1⟩
  have HS1 := hid (HS.out.below hb1)
  have HB1 : Hid (Below w.heap.size w V1) := HB.out.trans (hb1.mono HB.out.size)
  have HV1 : Hid (Vd V1 (fun b => w.heap.size ≤ b ∧ b ≠ R) U (.slice p U.kids.length c)) := hv1.mono fun b hb _ => ⟨by omega, by omega⟩
  clear hb1 HCV yc0 yc1 yc2 yc3 HS HB hv1
  have HS := HS1
  have HB := HB1
  clear HS1 HB1
  generalize V1 = V at *
  have rc0 : V.cell? ⟨R, 0, none⟩ = some (i64 0) := blk_cell HS.out.r 0
  have rf0 : V.frozen? ⟨R, 0, none⟩ = false := blk_frozen HS.out.r 0
  have rc1 : V.cell? ⟨R, 1, none⟩ = some (i64 0) := blk_cell HS.out.r 1
  have rf1 : V.frozen? ⟨R, 1, none⟩ = false := blk_frozen HS.out.r 1
  have rc2 : V.cell? ⟨R, 2, none⟩ = some (str []) := blk_cell HS.out.r 2
  have rf2 : V.frozen? ⟨R, 2, none⟩ = false := blk_frozen HS.out.r 2
  have rc3 : V.cell? ⟨R, 3, none⟩ = some (.slice none 0 0) := blk_cell HS.out.r 3
  have rf3 : V.frozen? ⟨R, 3, none⟩ = false := blk_frozen HS.out.r 3
  have rc4 : V.cell? ⟨R, 4, none⟩ = some (i64 0) := blk_cell HS.out.r 4
  have rf4 : V.frozen? ⟨R, 4, none⟩ = false := blk_frozen HS.out.r 4
  go_wp2_with fail
  refine bodyPost_ret (v := gv U.kind U.num (str U.s) (.slice p U.kids.length c) E) (results_one Tryz.results32 rfl (load85 (set5 HS.out.r _ _ _ _ _))) rfl ?_
  refine ⟨p, c, rfl, below5 HB.out HRe.out _ _ _ _ _, HV1.out.move (by simp [World.setCell]) fun b hb _ => ⟨hb.1, ?_⟩⟩
  rw [Below.heap_setCell _ _ _ _ (show b ≠ R from hb.2), Below.heap_setCell _ _ _ _ (show b ≠ R from hb.2), Below.heap_setCell _ _ _ _ (show b ≠ R from hb.2), Below.heap_setCell _ _ _ _ (show b ≠ R from hb.2), Below.heap_setCell _ _ _ _ (show b ≠ R from hb.2)]
set_option maxRecDepth 100000 in
set_option maxHeartbeats 12800000 in
theorem tk7_l4_no (w : World) (s : ByteArray) (a : Nat) (tn : Int) (an at_ : Option Addr) (ln cn lt_ ct : Nat) (hs : s.size ≤ 1000000) (h : a + 2 ≤ s.size) (hk : (s[a]'(by omega)).toNat = 4) (hC : ∀ W, Below w.heap.size w W → Calls Tryz.prog 54 #[.string s, i64 (a : Nat), .agg #[i64 4, i64 tn, .slice an ln cn, .slice at_ lt_ ct]] W (GNo W)) : Calls Tryz.prog 32 #[.string s, i64 (a : Nat), .agg #[i64 4, i64 tn, .slice an ln cn, .slice at_ lt_ ct]] w (GNo w) := by
  have HC := hid hC
  clear hC
  have hI : ¬ (s.size : Int) < (a : Int) + 2 := by omega
  have hlt : a < s.size := by omega
  have hltI : (a : Int) < s.size := by omega
  have hq : ((s[a].toNat : Int) == 4) = true := beq_iff_eq.2 (by rw [hk]; rfl)
  have hq2 : ((s[a].toNat : Int) != 4) = false := by rw [bne, hq]; rfl
  obtain ⟨h1, h2, hb0⟩ := two_boxes w (.cells #[i64 4, i64 tn, .slice an ln cn, .slice at_ lt_ ct] 35) (gO 0 0 (str []) (.slice none 0 0) 0)
  obtain ⟨Y, hY⟩ : ∃ Y, Y = w.heap.size := ⟨_, rfl⟩
  obtain ⟨R, hR⟩ : ∃ R, R = w.heap.size + 1 := ⟨_, rfl⟩
  obtain ⟨V0, hV0⟩ : ∃ V0, V0 = (w.alloc (.cells #[i64 4, i64 tn, .slice an ln cn, .slice at_ lt_ ct] 35)).alloc (gO 0 0 (str []) (.slice none 0 0) 0) := ⟨_, rfl⟩
  rw [← hV0, ← hY] at h1
  rw [← hV0, ← hR] at h2
  rw [← hV0] at hb0
  have HS0 : Hid (Ry R Y (.cells #[i64 4, i64 tn, .slice an ln cn, .slice at_ lt_ ct] 35) V0) := ⟨h2, h1⟩
  have HB0 := hid hb0
  have HRe : Hid (w.heap.size ≤ R) := by show _ ≤ _; omega
  clear h1 h2 hb0
  go_enter Tryz.func32, Tryz.ntmps32
  go_upto_region 1 with fail
  rw [← hV0, ← hR, ← hY]
  clear hV0 hR hY
  have HSd : Hid (Ry R Y (.cells #[i64 4, i64 tn, .slice an ln cn, .slice at_ lt_ ct] 35) V0.drew) := ⟨HS0.out.r, HS0.out.y⟩
  have HB : Hid (Below w.heap.size w V0.drew) := HB0.out.drew
  refine wp_region_noPanic ?_
  refine wp_region_last (Ry R Y (.cells #[i64 4, i64 tn, .slice an ln cn, .slice at_ lt_ ct] 35)) 13 (by kernel_rfl) ?_
  refine wpL_take 0 11 (i64 (a : Nat)) [1, 4, 5] rfl rfl (by kernel_rfl) (by decide) (by kernel_rfl) (by kernel_rfl) (by kernel_rfl) (fun _ _ _ h => h) HSd.out (by rfl) (fun W hW => by have y0 : W.cell? ⟨Y, 0, none⟩ = some (i64 4) := blk_cell hW.y 0; go_simp) ?_
  simp only [Act.put, List.setIfInBounds_toArray, List.set_cons_zero, List.set_cons_succ]
  refine wpL_take 1 12 (i64 ((a : Int) + 2)) [4, 5] rfl rfl (by kernel_rfl) (by decide) (by kernel_rfl) (by kernel_rfl) (by kernel_rfl) (fun _ _ _ h => h) HSd.out (by rfl) (fun W hW => by have y0 : W.cell? ⟨Y, 0, none⟩ = some (i64 4) := blk_cell hW.y 0; go_simp; exact wrap_id (by omega) (by omega)) ?_
  simp only [Act.put, List.setIfInBounds_toArray, List.set_cons_zero, List.set_cons_succ]
  refine wpL_take 2 13 (.string s) [3, 4, 5] rfl rfl (by kernel_rfl) (by decide) (by kernel_rfl) (by kernel_rfl) (by kernel_rfl) (fun _ _ _ h => h) HSd.out (by rfl) (fun W hW => by have y0 : W.cell? ⟨Y, 0, none⟩ = some (i64 4) := blk_cell hW.y 0; go_simp) ?_
  simp only [Act.put, List.setIfInBounds_toArray, List.set_cons_zero, List.set_cons_succ]
  refine wpL_take 3 14 (i64 (s.size : Nat)) [4, 5] rfl rfl (by kernel_rfl) (by decide) (by kernel_rfl) (by kernel_rfl) (by kernel_rfl) (fun _ _ _ h => h) HSd.out (by rfl) (fun W hW => by have y0 : W.cell? ⟨Y, 0, none⟩ = some (i64 4) := blk_cell hW.y 0; go_simp) ?_
  simp only [Act.put, List.setIfInBounds_toArray, List.set_cons_zero, List.set_cons_succ]
  refine wpL_take 4 15 (.bool false) [5] rfl rfl (by kernel_rfl) (by decide) (by kernel_rfl) (by kernel_rfl) (by kernel_rfl) (fun _ _ _ h => h) HSd.out (by rfl) (fun W hW => by have y0 : W.cell? ⟨Y, 0, none⟩ = some (i64 4) := blk_cell hW.y 0; go_simp) ?_
  simp only [Act.put, List.setIfInBounds_toArray, List.set_cons_zero, List.set_cons_succ]
  refine wpL_take 5 16 (.bool false) [] rfl rfl (by kernel_rfl) (by decide) (by kernel_rfl) (by kernel_rfl) (by kernel_rfl) (fun _ _ _ h => h) HSd.out (by rfl) (fun W hW => by have y0 : W.cell? ⟨Y, 0, none⟩ = some (i64 4) := blk_cell hW.y 0; go_simp) ?_
  simp only [Act.put, List.setIfInBounds_toArray, List.set_cons_zero, List.set_cons_succ]
  refine wpL_take 6 17 (.string s) [8, 9, 12] rfl rfl (by kernel_rfl) (by decide) (by kernel_rfl) (by kernel_rfl) (by kernel_rfl) (fun _ _ _ h => h) HSd.out (by rfl) (fun W hW => by have y0 : W.cell? ⟨Y, 0, none⟩ = some (i64 4) := blk_cell hW.y 0; go_simp) ?_
  simp only [Act.put, List.setIfInBounds_toArray, List.set_cons_zero, List.set_cons_succ]
  refine wpL_take 7 18 (i64 (a : Nat)) [8, 9, 12] rfl rfl (by kernel_rfl) (by decide) (by kernel_rfl) (by kernel_rfl) (by kernel_rfl) (fun _ _ _ h => h) HSd.out (by rfl) (fun W hW => by have y0 : W.cell? ⟨Y, 0, none⟩ = some (i64 4) := blk_cell hW.y 0; go_simp) ?_
  simp only [Act.put, List.setIfInBounds_toArray, List.set_cons_zero, List.set_cons_succ]
  refine wpL_take 8 19 (.int .u8 (s[a].toNat : Nat)) [9, 12] rfl rfl (by kernel_rfl) (by decide) (by kernel_rfl) (by kernel_rfl) (by kernel_rfl) (fun _ _ _ h => h) HSd.out (by rfl) (fun W hW => by have y0 : W.cell? ⟨Y, 0, none⟩ = some (i64 4) := blk_cell hW.y 0; go_simp) ?_
  simp only [Act.put, List.setIfInBounds_toArray, List.set_cons_zero, List.set_cons_succ]
  refine wpL_take 9 20 (i64 (s[a].toNat : Nat)) [12] rfl rfl (by kernel_rfl) (by decide) (by kernel_rfl) (by kernel_rfl) (by kernel_rfl) (fun _ _ _ h => h) HSd.out (by rfl) (fun W hW => by have y0 : W.cell? ⟨Y, 0, none⟩ = some (i64 4) := blk_cell hW.y 0; go_simp; exact wrap_id (by omega) (by have := s[a].toNat_lt; omega)) ?_
  simp only [Act.put, List.setIfInBounds_toArray, List.set_cons_zero, List.set_cons_succ]
  refine wpL_take 10 21 (.pointer (some ⟨Y, 0, none⟩)) [11, 12] rfl rfl (by kernel_rfl) (by decide) (by kernel_rfl) (by kernel_rfl) (by kernel_rfl) (fun _ _ _ h => h) HSd.out (by rfl) (fun W hW => by have y0 : W.cell? ⟨Y, 0, none⟩ = some (i64 4) := blk_cell hW.y 0; go_simp) ?_
  simp only [Act.put, List.setIfInBounds_toArray, List.set_cons_zero, List.set_cons_succ]
  refine wpL_take 11 22 (i64 4) [12] rfl rfl (by kernel_rfl) (by decide) (by kernel_rfl) (by kernel_rfl) (by kernel_rfl) (fun _ _ _ h => h) HSd.out (by rfl) (fun W hW => by have y0 : W.cell? ⟨Y, 0, none⟩ = some (i64 4) := blk_cell hW.y 0; go_simp) ?_
  simp only [Act.put, List.setIfInBounds_toArray, List.set_cons_zero, List.set_cons_succ]
  refine wpL_take 12 23 (.bool false) [] rfl rfl (by kernel_rfl) (by decide) (by kernel_rfl) (by kernel_rfl) (by kernel_rfl) (fun _ _ _ h => h) HSd.out (by rfl) (fun W hW => by have y0 : W.cell? ⟨Y, 0, none⟩ = some (i64 4) := blk_cell hW.y 0; go_simp) ?_
  simp only [Act.put, List.setIfInBounds_toArray, List.set_cons_zero, List.set_cons_succ]
  refine wpL_one 13 rfl (by kernel_rfl) (by rfl) (fun K hK => ?_)
  go_simp
  refine hK.out _ _ (fun h => absurd rfl h) ?_
  clear hK K
  refine wpL_done (by kernel_rfl) ?_
  refine NoPanic.normal ?_
  have HS := HSd
  clear HSd HS0 HB0
  generalize V0.drew = V at *
  have yc0 : V.cell? ⟨Y, 0, none⟩ = some (i64 4) := blk_cell HS.out.y 0
  have yc1 : V.cell? ⟨Y, 1, none⟩ = some (i64 tn) := blk_cell HS.out.y 1
  have yc2 : V.cell? ⟨Y, 2, none⟩ = some (.slice an ln cn) := blk_cell HS.out.y 2
  have yc3 : V.cell? ⟨Y, 3, none⟩ = some (.slice at_ lt_ ct) := blk_cell HS.out.y 3
  have HCV := hid (HC.out V HB.out)
  clear HC
  go_wp2_with fail
  refine HCV.out.mono ?_
  rintro e V1 ⟨rfl, hb1⟩
  have HS1 := hid (HS.out.below hb1)
  have HB1 : Hid (Below w.heap.size w V1) := HB.out.trans (hb1.mono HB.out.size)
  clear hb1 HCV yc0 yc1 yc2 yc3 HS HB
  have HS := HS1
  have HB := HB1
  clear HS1 HB1
  generalize V1 = V at *
  have rc0 : V.cell? ⟨R, 0, none⟩ = some (i64 0) := blk_cell HS.out.r 0
  have rf0 : V.frozen? ⟨R, 0, none⟩ = false := blk_frozen HS.out.r 0
  have rc1 : V.cell? ⟨R, 1, none⟩ = some (i64 0) := blk_cell HS.out.r 1
  have rf1 : V.frozen? ⟨R, 1, none⟩ = false := blk_frozen HS.out.r 1
  have rc2 : V.cell? ⟨R, 2, none⟩ = some (str []) := blk_cell HS.out.r 2
  have rf2 : V.frozen? ⟨R, 2, none⟩ = false := blk_frozen HS.out.r 2
  have rc3 : V.cell? ⟨R, 3, none⟩ = some (.slice none 0 0) := blk_cell HS.out.r 3
  have rf3 : V.frozen? ⟨R, 3, none⟩ = false := blk_frozen HS.out.r 3
  have rc4 : V.cell? ⟨R, 4, none⟩ = some (i64 0) := blk_cell HS.out.r 4
  have rf4 : V.frozen? ⟨R, 4, none⟩ = false := blk_frozen HS.out.r 4
  go_wp2_with fail
  refine bodyPost_ret (v := gv 0 0 (str []) (.slice none 0 0) (-1)) (results_one Tryz.results32 rfl (load85 (set5 HS.out.r _ _ _ _ _))) rfl ?_
  exact ⟨rfl, below5 HB.out HRe.out _ _ _ _ _⟩
set_option maxRecDepth 100000 in
set_option maxHeartbeats 12800000 in
theorem tk7_l4 (w : World) (s : ByteArray) (a : Nat) (tn : Int) (U : Vl) (E : Int) (an at_ : Option Addr) (ln cn lt_ ct : Nat) (hs : s.size ≤ 1000000) (h : a + 2 ≤ s.size) (hk : (s[a]'(by omega)).toNat = 4) (hC : ∀ W, Below w.heap.size w W → Calls Tryz.prog 54 #[.string s, i64 (a : Nat), .agg #[i64 4, i64 tn, .slice an ln cn, .slice at_ lt_ ct]] W (fun e w' => ∃ p c, e = .returned (gv U.kind U.num (str U.s) (.slice p U.kids.length c) E) ∧ Below W.heap.size W w' ∧ Vd w' (fun b => W.heap.size ≤ b) U (.slice p U.kids.length c))) : Calls Tryz.prog 32 #[.string s, i64 (a : Nat), .agg #[i64 4, i64 tn, .slice an ln cn, .slice at_ lt_ ct]] w (fun e w' => ∃ p c, e = .returned (gv U.kind U.num (str U.s) (.slice p U.kids.length c) E) ∧ Below w.heap.size w w' ∧ Vd w' (fun b => w.heap.size ≤ b) U (.slice p U.kids.length c)) := by
  have HC := hid hC
  clear hC
  have hI : ¬ (s.size : Int) < (a : Int) + 2 := by omega
  have hlt : a < s.size := by omega
  have hltI : (a : Int) < s.size := by omega
  have hq : ((s[a].toNat : Int) == 4) = true := beq_iff_eq.2 (by rw [hk]; rfl)
  have hq2 : ((s[a].toNat : Int) != 4) = false := by rw [bne, hq]; rfl
  obtain ⟨h1, h2, hb0⟩ := two_boxes w (.cells #[i64 4, i64 tn, .slice an ln cn, .slice at_ lt_ ct] 35) (gO 0 0 (str []) (.slice none 0 0) 0)
  obtain ⟨Y, hY⟩ : ∃ Y, Y = w.heap.size := ⟨_, rfl⟩
  obtain ⟨R, hR⟩ : ∃ R, R = w.heap.size + 1 := ⟨_, rfl⟩
  obtain ⟨V0, hV0⟩ : ∃ V0, V0 = (w.alloc (.cells #[i64 4, i64 tn, .slice an ln cn, .slice at_ lt_ ct] 35)).alloc (gO 0 0 (str []) (.slice none 0 0) 0) := ⟨_, rfl⟩
  rw [← hV0, ← hY] at h1
  rw [← hV0, ← hR] at h2
  rw [← hV0] at hb0
  have HS0 : Hid (Ry R Y (.cells #[i64 4, i64 tn, .slice an ln cn, .slice at_ lt_ ct] 35) V0) := ⟨h2, h1⟩
  have HB0 := hid hb0
  have HRe : Hid (w.heap.size ≤ R) := by show _ ≤ _; omega
  clear h1 h2 hb0
  go_enter Tryz.func32, Tryz.ntmps32
  go_upto_region 1 with fail
  rw [← hV0, ← hR, ← hY]
  clear hV0 hR hY
  have HSd : Hid (Ry R Y (.cells #[i64 4, i64 tn, .slice an ln cn, .slice at_ lt_ ct] 35) V0.drew) := ⟨HS0.out.r, HS0.out.y⟩
  have HB : Hid (Below w.heap.size w V0.drew) := HB0.out.drew
  refine wp_region_noPanic ?_
  refine wp_region_last (Ry R Y (.cells #[i64 4, i64 tn, .slice an ln cn, .slice at_ lt_ ct] 35)) 13 (by kernel_rfl) ?_
  refine wpL_take 0 11 (i64 (a : Nat)) [1, 4, 5] rfl rfl (by kernel_rfl) (by decide) (by kernel_rfl) (by kernel_rfl) (by kernel_rfl) (fun _ _ _ h => h) HSd.out (by rfl) (fun W hW => by have y0 : W.cell? ⟨Y, 0, none⟩ = some (i64 4) := blk_cell hW.y 0; go_simp) ?_
  simp only [Act.put, List.setIfInBounds_toArray, List.set_cons_zero, List.set_cons_succ]
  refine wpL_take 1 12 (i64 ((a : Int) + 2)) [4, 5] rfl rfl (by kernel_rfl) (by decide) (by kernel_rfl) (by kernel_rfl) (by kernel_rfl) (fun _ _ _ h => h) HSd.out (by rfl) (fun W hW => by have y0 : W.cell? ⟨Y, 0, none⟩ = some (i64 4) := blk_cell hW.y 0; go_simp; exact wrap_id (by omega) (by omega)) ?_
  simp only [Act.put, List.setIfInBounds_toArray, List.set_cons_zero, List.set_cons_succ]
  refine wpL_take 2 13 (.string s) [3, 4, 5] rfl rfl (by kernel_rfl) (by decide) (by kernel_rfl) (by kernel_rfl) (by kernel_rfl) (fun _ _ _ h => h) HSd.out (by rfl) (fun W hW => by have y0 : W.cell? ⟨Y, 0, none⟩ = some (i64 4) := blk_cell hW.y 0; go_simp) ?_
  simp only [Act.put, List.setIfInBounds_toArray, List.set_cons_zero, List.set_cons_succ]
  refine wpL_take 3 14 (i64 (s.size : Nat)) [4, 5] rfl rfl (by kernel_rfl) (by decide) (by kernel_rfl) (by kernel_rfl) (by kernel_rfl) (fun _ _ _ h => h) HSd.out (by rfl) (fun W hW => by have y0 : W.cell? ⟨Y, 0, none⟩ = some (i64 4) := blk_cell hW.y 0; go_simp) ?_
  simp only [Act.put, List.setIfInBounds_toArray, List.set_cons_zero, List.set_cons_succ]
  refine wpL_take 4 15 (.bool false) [5] rfl rfl (by kernel_rfl) (by decide) (by kernel_rfl) (by kernel_rfl) (by kernel_rfl) (fun _ _ _ h => h) HSd.out (by rfl) (fun W hW => by have y0 : W.cell? ⟨Y, 0, none⟩ = some (i64 4) := blk_cell hW.y 0; go_simp) ?_
  simp only [Act.put, List.setIfInBounds_toArray, List.set_cons_zero, List.set_cons_succ]
  refine wpL_take 5 16 (.bool false) [] rfl rfl (by kernel_rfl) (by decide) (by kernel_rfl) (by kernel_rfl) (by kernel_rfl) (fun _ _ _ h => h) HSd.out (by rfl) (fun W hW => by have y0 : W.cell? ⟨Y, 0, none⟩ = some (i64 4) := blk_cell hW.y 0; go_simp) ?_
  simp only [Act.put, List.setIfInBounds_toArray, List.set_cons_zero, List.set_cons_succ]
  refine wpL_take 6 17 (.string s) [8, 9, 12] rfl rfl (by kernel_rfl) (by decide) (by kernel_rfl) (by kernel_rfl) (by kernel_rfl) (fun _ _ _ h => h) HSd.out (by rfl) (fun W hW => by have y0 : W.cell? ⟨Y, 0, none⟩ = some (i64 4) := blk_cell hW.y 0; go_simp) ?_
  simp only [Act.put, List.setIfInBounds_toArray, List.set_cons_zero, List.set_cons_succ]
  refine wpL_take 7 18 (i64 (a : Nat)) [8, 9, 12] rfl rfl (by kernel_rfl) (by decide) (by kernel_rfl) (by kernel_rfl) (by kernel_rfl) (fun _ _ _ h => h) HSd.out (by rfl) (fun W hW => by have y0 : W.cell? ⟨Y, 0, none⟩ = some (i64 4) := blk_cell hW.y 0; go_simp) ?_
  simp only [Act.put, List.setIfInBounds_toArray, List.set_cons_zero, List.set_cons_succ]
  refine wpL_take 8 19 (.int .u8 (s[a].toNat : Nat)) [9, 12] rfl rfl (by kernel_rfl) (by decide) (by kernel_rfl) (by kernel_rfl) (by kernel_rfl) (fun _ _ _ h => h) HSd.out (by rfl) (fun W hW => by have y0 : W.cell? ⟨Y, 0, none⟩ = some (i64 4) := blk_cell hW.y 0; go_simp) ?_
  simp only [Act.put, List.setIfInBounds_toArray, List.set_cons_zero, List.set_cons_succ]
  refine wpL_take 9 20 (i64 (s[a].toNat : Nat)) [12] rfl rfl (by kernel_rfl) (by decide) (by kernel_rfl) (by kernel_rfl) (by kernel_rfl) (fun _ _ _ h => h) HSd.out (by rfl) (fun W hW => by have y0 : W.cell? ⟨Y, 0, none⟩ = some (i64 4) := blk_cell hW.y 0; go_simp; exact wrap_id (by omega) (by have := s[a].toNat_lt; omega)) ?_
  simp only [Act.put, List.setIfInBounds_toArray, List.set_cons_zero, List.set_cons_succ]
  refine wpL_take 10 21 (.pointer (some ⟨Y, 0, none⟩)) [11, 12] rfl rfl (by kernel_rfl) (by decide) (by kernel_rfl) (by kernel_rfl) (by kernel_rfl) (fun _ _ _ h => h) HSd.out (by rfl) (fun W hW => by have y0 : W.cell? ⟨Y, 0, none⟩ = some (i64 4) := blk_cell hW.y 0; go_simp) ?_
  simp only [Act.put, List.setIfInBounds_toArray, List.set_cons_zero, List.set_cons_succ]
  refine wpL_take 11 22 (i64 4) [12] rfl rfl (by kernel_rfl) (by decide) (by kernel_rfl) (by kernel_rfl) (by kernel_rfl) (fun _ _ _ h => h) HSd.out (by rfl) (fun W hW => by have y0 : W.cell? ⟨Y, 0, none⟩ = some (i64 4) := blk_cell hW.y 0; go_simp) ?_
  simp only [Act.put, List.setIfInBounds_toArray, List.set_cons_zero, List.set_cons_succ]
  refine wpL_take 12 23 (.bool false) [] rfl rfl (by kernel_rfl) (by decide) (by kernel_rfl) (by kernel_rfl) (by kernel_rfl) (fun _ _ _ h => h) HSd.out (by rfl) (fun W hW => by have y0 : W.cell? ⟨Y, 0, none⟩ = some (i64 4) := blk_cell hW.y 0; go_simp) ?_
  simp only [Act.put, List.setIfInBounds_toArray, List.set_cons_zero, List.set_cons_succ]
  refine wpL_one 13 rfl (by kernel_rfl) (by rfl) (fun K hK => ?_)
  go_simp
  refine hK.out _ _ (fun h => absurd rfl h) ?_
  clear hK K
  refine wpL_done (by kernel_rfl) ?_
  refine NoPanic.normal ?_
  have HS := HSd
  clear HSd HS0 HB0
  generalize V0.drew = V at *
  have yc0 : V.cell? ⟨Y, 0, none⟩ = some (i64 4) := blk_cell HS.out.y 0
  have yc1 : V.cell? ⟨Y, 1, none⟩ = some (i64 tn) := blk_cell HS.out.y 1
  have yc2 : V.cell? ⟨Y, 2, none⟩ = some (.slice an ln cn) := blk_cell HS.out.y 2
  have yc3 : V.cell? ⟨Y, 3, none⟩ = some (.slice at_ lt_ ct) := blk_cell HS.out.y 3
  have HCV := hid (HC.out V HB.out)
  clear HC
  have hRV : R < V.heap.size := blk_lt HS.out.r
  have hVw : w.heap.size ≤ V.heap.size := HB.out.size
  go_wp2_with fail
  refine HCV.out.mono ?_
  rintro e V1 ⟨p, c, rfl, hb1, hv1⟩
  have HS1 := hid (HS.out.below hb1)
  have HB1 : Hid (Below w.heap.size w V1) := HB.out.trans (hb1.mono HB.out.size)
  have HV1 : Hid (Vd V1 (fun b => w.heap.size ≤ b ∧ b ≠ R) U (.slice p U.kids.length c)) := hv1.mono fun b hb _ => ⟨by omega, by omega⟩
  clear hb1 HCV yc0 yc1 yc2 yc3 HS HB hv1
  have HS := HS1
  have HB := HB1
  clear HS1 HB1
  generalize V1 = V at *
  have rc0 : V.cell? ⟨R, 0, none⟩ = some (i64 0) := blk_cell HS.out.r 0
  have rf0 : V.frozen? ⟨R, 0, none⟩ = false := blk_frozen HS.out.r 0
  have rc1 : V.cell? ⟨R, 1, none⟩ = some (i64 0) := blk_cell HS.out.r 1
  have rf1 : V.frozen? ⟨R, 1, none⟩ = false := blk_frozen HS.out.r 1
  have rc2 : V.cell? ⟨R, 2, none⟩ = some (str []) := blk_cell HS.out.r 2
  have rf2 : V.frozen? ⟨R, 2, none⟩ = false := blk_frozen HS.out.r 2
  have rc3 : V.cell? ⟨R, 3, none⟩ = some (.slice none 0 0) := blk_cell HS.out.r 3
  have rf3 : V.frozen? ⟨R, 3, none⟩ = false := blk_frozen HS.out.r 3
  have rc4 : V.cell? ⟨R, 4, none⟩ = some (i64 0) := blk_cell HS.out.r 4
  have rf4 : V.frozen? ⟨R, 4, none⟩ = false := blk_frozen HS.out.r 4
  go_wp2_with fail
  refine bodyPost_ret (v := gv U.kind U.num (str U.s) (.slice p U.kids.length c) E) (results_one Tryz.results32 rfl (load85 (set5 HS.out.r _ _ _ _ _))) rfl ?_
  refine ⟨p, c, rfl, below5 HB.out HRe.out _ _ _ _ _, HV1.out.move (by simp [World.setCell]) fun b hb _ => ⟨hb.1, ?_⟩⟩
  rw [Below.heap_setCell _ _ _ _ (show b ≠ R from hb.2), Below.heap_setCell _ _ _ _ (show b ≠ R from hb.2), Below.heap_setCell _ _ _ _ (show b ≠ R from hb.2), Below.heap_setCell _ _ _ _ (show b ≠ R from hb.2), Below.heap_setCell _ _ _ _ (show b ≠ R from hb.2)]
end Go.Proofs.YtihbbgcpdgnhoaaGreatDoor
namespace Go.Proofs.YtihbbgcpdgnhoaaGreatDoor
open Go.ChangeShapes Go.WideShapes Go.ChangeAt Go.RowKit Go.Deep
attribute [local go_sem ↓] Go.wp_at_zero Go.wp_at_succ

/-- A list of values that is being made. -/
structure GfI (w wr : World) (R O : Nat) (k : Int) (kv : Value) (m : Int) (Ks : List Kv) : Prop where
  r : wr.heap[R]? = some (gO 0 0 (str []) (.slice none 0 0) 0)
  o : wr.heap[O]? = some (gO k 0 (str []) kv m)
  ok : VKids wr w.heap.size 38 (Avw w.heap.size R O) kv Ks
  s1 : kv.ownBlock ≠ some R
  s2 : kv.ownBlock ≠ some O
  b : Below w.heap.size w wr
theorem GfI.below {w wr wr' : World} {R O : Nat} {k m : Int} {kv : Value} {Ks : List Kv} (h : GfI w wr R O k kv m Ks) (hb : Below wr.heap.size wr wr') : GfI w wr' R O k kv m Ks :=
  ⟨blk_below h.r hb, blk_below h.o hb, h.ok.move hb.size (fun k hk => hb.block k (h.ok.own.lt k hk).2) (fun b hb2 hlt _ => ⟨hb2, hb.block b hlt⟩), h.s1, h.s2, h.b.trans (hb.mono h.b.size)⟩
theorem GfI.slice {w wr : World} {R O : Nat} {k m : Int} {kv : Value} {Ks : List Kv} (h : GfI w wr R O k kv m Ks) : ∃ a c, kv = .slice a Ks.length c := by
  obtain ⟨a, c, e, _⟩ := own_slice h.ok.own
  exact ⟨a, c, e⟩
theorem gf_push {w X : World} {R O : Nat} {k m : Int} {kv : Value} {Ks : List Kv} (h : GfI w X R O k kv m Ks) (hO : w.heap.size ≤ O) (hRO : R ≠ O) (U : Vl) (a2 : Option Addr) (n2 c2 : Nat)
    (hR : Vd X (fun b => Avw w.heap.size R O b ∧ some b ≠ kv.ownBlock) U (.slice a2 n2 c2)) (hl : Ks.length ≤ 3000) (Kb Lb : Nat) (oK oL : Obj) (hK : X.heap[Kb]? = some oK) (hKn : some Kb ≠ kv.ownBlock) (hKO : Kb ≠ O) (hL : X.heap[Lb]? = some oL) (hLn : some Lb ≠ kv.ownBlock) (hLO : Lb ≠ O) :
    ∃ ao cap Y, (Builtin.append_ #[36, 36] 36 #[kv, .slice (some ⟨X.heap.size, 0, none⟩) 1 1]).run Tryz.prog (X.alloc (.cells #[i64 U.kind, i64 U.num, str U.s, .slice a2 n2 c2] 38)) = .ok (.slice ao (Ks.length + 1) cap) Y ∧ Y.heap[O]? = some (gO k 0 (str []) kv m) ∧
      (Y.setCell ⟨O, 3, none⟩ (.slice ao (Ks.length + 1) cap)).heap[Kb]? = some oK ∧ (Y.setCell ⟨O, 3, none⟩ (.slice ao (Ks.length + 1) cap)).heap[Lb]? = some oL ∧
      GfI w (Y.setCell ⟨O, 3, none⟩ (.slice ao (Ks.length + 1) cap)) R O k (.slice ao (Ks.length + 1) cap) m (Ks ++ [(U, .slice a2 n2 c2)]) := by
  obtain ⟨ao, cap, Y, p1, p2, p3, p4, p5⟩ := push_val vunder31 vinfo33 h.ok U a2 n2 c2 hR hl h.b.size
  have n2' : (Value.slice ao (Ks.length + 1) cap).ownBlock ≠ some O := by
    rcases p5 with p5 | p5
    · rw [p5]; exact h.s2
    · rw [p5]; intro e; cases e; have := blk_lt h.o; omega
  have n1' : (Value.slice ao (Ks.length + 1) cap).ownBlock ≠ some R := by
    rcases p5 with p5 | p5
    · rw [p5]; exact h.s1
    · rw [p5]; intro e; cases e; have := blk_lt h.r; omega
  have qO : Y.heap[O]? = some (gO k 0 (str []) kv m) := by rw [p4 O (blk_lt h.o) (fun e => h.s2 e.symm)]; exact h.o
  have qR : Y.heap[R]? = some (gO 0 0 (str []) (.slice none 0 0) 0) := by rw [p4 R (blk_lt h.r) (fun e => h.s1 e.symm)]; exact h.r
  have qK : Y.heap[Kb]? = some oK := by rw [p4 Kb (blk_lt hK) hKn]; exact hK
  have qL : Y.heap[Lb]? = some oL := by rw [p4 Lb (blk_lt hL) hLn]; exact hL
  have qz : Y.heap.size ≤ (Y.setCell ⟨O, 3, none⟩ (.slice ao (Ks.length + 1) cap)).heap.size := by simp [World.setCell]
  refine ⟨ao, cap, Y, p1, qO, ?_, ?_, ?_, ?_, ?_, n1', n2', ?_⟩
  · rw [Below.heap_setCell _ _ _ _ (show Kb ≠ O from hKO)]; exact qK
  · rw [Below.heap_setCell _ _ _ _ (show Lb ≠ O from hLO)]; exact qL
  · rw [Below.heap_setCell _ _ _ _ (show R ≠ O from hRO)]; exact qR
  · have := heap_setCell_same Y O 3 _ 85 (.slice ao (Ks.length + 1) cap) qO
    simpa using this
  · exact p2.move qz (fun k hk => Below.heap_setCell _ _ _ _ (fun e => n2' (by rw [hk]; exact congrArg some e))) fun b hb _ _ => ⟨hb, Below.heap_setCell _ _ _ _ (show b ≠ O from hb.2.2)⟩
  · exact (h.b.trans p3.below).setCell (p := ⟨O, 3, none⟩) hO _
theorem gf_end {w X : World} {R O : Nat} {k m m' : Int} {kv : Value} {Ks : List Kv} (h : GfI w X R O k kv m Ks) (hO : w.heap.size ≤ O) (hRO : R ≠ O) : GfI w (X.setCell ⟨O, 4, none⟩ (i64 m')) R O k kv m' Ks := by
  have qz : X.heap.size ≤ (X.setCell ⟨O, 4, none⟩ (i64 m')).heap.size := by simp [World.setCell]
  refine ⟨?_, ?_, h.ok.move qz (fun k hk => Below.heap_setCell _ _ _ _ (fun e => h.s2 (by rw [hk]; exact congrArg some e))) fun b hb _ _ => ⟨hb, Below.heap_setCell _ _ _ _ (show b ≠ O from hb.2.2)⟩, h.s1, h.s2, h.b.setCell (p := ⟨O, 4, none⟩) hO _⟩
  · rw [Below.heap_setCell _ _ _ _ (show R ≠ O from hRO)]; exact h.r
  · have := heap_setCell_same X O 4 _ 85 (i64 m') h.o
    simpa using this
/-- What take answers: a value and where it ends, or nothing. -/
structure Gk (w : World) (size : Nat) (res : Option (Vl × Bs)) (e : Ending) (w' : World) : Prop where
  b : Below w.heap.size w w'
  no : res = none → e = .returned (gv 0 0 (str []) (.slice none 0 0) (-1))
  yes : ∀ V r, res = some (V, r) → ∃ p c, e = .returned (gv V.kind V.num (str V.s) (.slice p V.kids.length c) ((size - r.length : Nat) : Int)) ∧ Vd w' (fun b => w.heap.size ≤ b) V (.slice p V.kids.length c)
def joinJ (P : List Vl) : Option (List Vl × Bs) → Option (List Vl × Bs)
  | none => none
  | some (l, p) => some (P ++ l, p)
theorem rdL_j {rec : Ty → Bs → Option (Vl × Bs)} {T : Ty} {i d : Nat} {b : Bs} : rdL rec T i (d + 1) b = match rec (kidT T i) b with
    | none => none
    | some (v, r) => joinJ [v] (rdL rec T (i + 1) d r) := by
  rw [rdL]
  cases rec (kidT T i) b with
  | none => rfl
  | some x =>
    obtain ⟨v, r⟩ := x
    simp only
    cases rdL rec T (i + 1) d r with
    | none => rfl
    | some y => rfl
theorem joinJ_app (P Q : List Vl) (o : Option (List Vl × Bs)) : joinJ P (joinJ Q o) = joinJ (P ++ Q) o := by
  cases o with
  | none => rfl
  | some x => obtain ⟨l, p⟩ := x; simp [joinJ]
theorem drop_suf {s : ByteArray} {a : Nat} {pre r : Bs} (ha : a ≤ s.size) (h : s.data.toList.drop a = pre ++ r) : s.data.toList.drop (s.size - r.length) = r ∧ r.length ≤ s.size - a := by
    have hl := congrArg List.length h
    rw [List.length_drop, Array.length_toList, List.length_append] at hl
    have hz : s.data.size = s.size := rfl
    rw [hz] at hl
    have h2 : s.data.toList.drop (a + pre.length) = r := by
      rw [← List.drop_drop, h, List.drop_append_of_le_length (Nat.le_refl _), List.drop_length, List.nil_append]
    have h3 : s.size - r.length = a + pre.length := by omega
    rw [h3]
    exact ⟨h2, by omega⟩
def resK (K : Int) : Option (List Vl × Bs) → Option (Vl × Bs)
  | none => none
  | some (l, p) => some (.mk K 0 [] l, p)
structure Oy (O Y : Nat) (o p : Obj) (W : World) : Prop where
  o : W.heap[O]? = some o
  y : W.heap[Y]? = some p
theorem Oy.below {O Y : Nat} {o p : Obj} {W W' : World} (h : Oy O Y o p W) (hb : Below W.heap.size W W') : Oy O Y o p W' := ⟨blk_below h.o hb, blk_below h.y hb⟩
set_option maxRecDepth 100000 in
set_option maxHeartbeats 12800000 in
theorem kids4_no (w : World) (s : ByteArray) (a : Nat) (tn : Int) (an at_ : Option Addr) (ln cn lt_ ct : Nat) (hs : s.size ≤ 1000000) (h : a + 2 ≤ s.size) (hm : (s[a + 1]'(by omega)).toNat ≠ lt_) : Calls Tryz.prog 54 #[.string s, i64 (a : Nat), .agg #[i64 4, i64 tn, .slice an ln cn, .slice at_ lt_ ct]] w (GNo w) := by
  have hlt1 : a + 1 < s.size := by omega
  have hlt1I : (a : Int) + 1 < s.size := by omega
  have hcb := s[a + 1].toNat_lt
  have hq : ((s[a + 1].toNat : Int) == (lt_ : Int)) = false := beq_false_of_ne (fun e => hm (by omega))
  have hq2 : ((s[a + 1].toNat : Int) != (lt_ : Int)) = true := by rw [bne, hq]; rfl
  obtain ⟨h1, h2, hb0⟩ := two_boxes w (.cells #[i64 4, i64 tn, .slice an ln cn, .slice at_ lt_ ct] 35) (gO 0 0 (str []) (.slice none 0 0) 0)
  obtain ⟨Y, hY⟩ : ∃ Y, Y = w.heap.size := ⟨_, rfl⟩
  obtain ⟨R, hR⟩ : ∃ R, R = w.heap.size + 1 := ⟨_, rfl⟩
  obtain ⟨V, hV0⟩ : ∃ V, V = (w.alloc (.cells #[i64 4, i64 tn, .slice an ln cn, .slice at_ lt_ ct] 35)).alloc (gO 0 0 (str []) (.slice none 0 0) 0) := ⟨_, rfl⟩
  rw [← hV0, ← hY] at h1
  rw [← hV0, ← hR] at h2
  rw [← hV0] at hb0
  have HS : Hid (Ry R Y (.cells #[i64 4, i64 tn, .slice an ln cn, .slice at_ lt_ ct] 35) V) := ⟨h2, h1⟩
  have HB := hid hb0
  have HRe : Hid (w.heap.size ≤ R) := by show _ ≤ _; omega
  have HYe : Hid (w.heap.size ≤ Y ∧ Y < R) := by show _ ∧ _; omega
  clear h1 h2 hb0
  go_enter Tryz.func54, Tryz.ntmps54
  go_upto_region 1 with fail
  rw [← hV0, ← hR, ← hY]
  clear hV0 hR hY
  have rc0 : V.cell? ⟨R, 0, none⟩ = some (i64 0) := blk_cell HS.out.r 0
  have rf0 : V.frozen? ⟨R, 0, none⟩ = false := blk_frozen HS.out.r 0
  have rc1 : V.cell? ⟨R, 1, none⟩ = some (i64 0) := blk_cell HS.out.r 1
  have rf1 : V.frozen? ⟨R, 1, none⟩ = false := blk_frozen HS.out.r 1
  have rc2 : V.cell? ⟨R, 2, none⟩ = some (str []) := blk_cell HS.out.r 2
  have rf2 : V.frozen? ⟨R, 2, none⟩ = false := blk_frozen HS.out.r 2
  have rc3 : V.cell? ⟨R, 3, none⟩ = some (.slice none 0 0) := blk_cell HS.out.r 3
  have rf3 : V.frozen? ⟨R, 3, none⟩ = false := blk_frozen HS.out.r 3
  have rc4 : V.cell? ⟨R, 4, none⟩ = some (i64 0) := blk_cell HS.out.r 4
  have rf4 : V.frozen? ⟨R, 4, none⟩ = false := blk_frozen HS.out.r 4
  have yc0 : V.cell? ⟨Y, 0, none⟩ = some (i64 4) := blk_cell HS.out.y 0
  have yc1 : V.cell? ⟨Y, 1, none⟩ = some (i64 tn) := blk_cell HS.out.y 1
  have yc2 : V.cell? ⟨Y, 2, none⟩ = some (.slice an ln cn) := blk_cell HS.out.y 2
  have yc3 : V.cell? ⟨Y, 3, none⟩ = some (.slice at_ lt_ ct) := blk_cell HS.out.y 3
  go_wp2_with fail
  refine bodyPost_ret (v := gv 0 0 (str []) (.slice none 0 0) (-1)) (results_one Tryz.results54 rfl (load85 (set5 HS.out.r _ _ _ _ _))) rfl ?_
  exact ⟨rfl, below5 HB.out HRe.out _ _ _ _ _⟩
set_option maxRecDepth 100000 in
set_option maxHeartbeats 12800000 in
theorem kids7_3 (w : World) (s : ByteArray) (a m f : Nat) (tn : Int) (T : Ty) (an at_ : Option Addr) (ln cn lt_ ct : Nat) (S : Nat → Prop) (hs : s.size ≤ 1000000) (h : a + 2 ≤ s.size) (hm : (s[a + 1]'(by omega)).toNat = m) (hTk : T.kind = 3) (hTn : T.num = tn) (hf : T.formed = true) (h3 : T.kind = 3 → 0 < T.kids.length) (h4 : T.kind ≠ 3 → m ≤ T.kids.length) (hR : Rd w S T (.slice an ln cn) (.slice at_ lt_ ct))
    (hih : ∀ (P : Ty), P.formed = true → (∃ i, P = kidT T i ∧ (T.kind ≠ 3 → i < T.kids.length)) → ∀ (w : World) (S : Nat → Prop) (nv tv : Value) (b : Nat), b ≤ s.size → Rd w S P nv tv → Calls Tryz.prog 32 #[.string s, i64 (b : Nat), tyV P.kind P.num nv tv] w (Gk w s.size (rdV f P (s.data.toList.drop b)))) :
    Calls Tryz.prog 54 #[.string s, i64 (a : Nat), .agg #[i64 3, i64 tn, .slice an ln cn, .slice at_ lt_ ct]] w (Gk w s.size (resK 3 (rdL (rdV f) T 0 m (s.data.toList.drop (a + 2))))) := by
  obtain ⟨res, hres⟩ : ∃ res, res = rdL (rdV f) T 0 m (s.data.toList.drop (a + 2)) := ⟨_, rfl⟩
  rw [← hres]
  have HRes := hid hres
  have HIH := hid hih
  have HRd := hid hR
  have HF := hid hf
  have HK3 := hid h3
  have HK4 := hid h4
  have HTe : Hid (T.kind = 3 ∧ T.num = tn) := ⟨hTk, hTn⟩
  clear hres hih hR hf h3 h4 hTk hTn
  have hlt1 : a + 1 < s.size := by omega
  have hlt1I : (a : Int) + 1 < s.size := by omega
  have hcb := s[a + 1].toNat_lt
  rw [hm] at hcb
  obtain ⟨h1, h2, hb0⟩ := two_boxes w (.cells #[i64 3, i64 tn, .slice an ln cn, .slice at_ lt_ ct] 35) (gO 0 0 (str []) (.slice none 0 0) 0)
  obtain ⟨Y, hY⟩ : ∃ Y, Y = w.heap.size := ⟨_, rfl⟩
  obtain ⟨R, hR⟩ : ∃ R, R = w.heap.size + 1 := ⟨_, rfl⟩
  obtain ⟨V, hV0⟩ : ∃ V, V = (w.alloc (.cells #[i64 3, i64 tn, .slice an ln cn, .slice at_ lt_ ct] 35)).alloc (gO 0 0 (str []) (.slice none 0 0) 0) := ⟨_, rfl⟩
  rw [← hV0, ← hY] at h1
  rw [← hV0, ← hR] at h2
  rw [← hV0] at hb0
  have HS : Hid (Ry R Y (.cells #[i64 3, i64 tn, .slice an ln cn, .slice at_ lt_ ct] 35) V) := ⟨h2, h1⟩
  have HB := hid hb0
  have HRe : Hid (w.heap.size ≤ R) := by show _ ≤ _; omega
  have HYe : Hid (w.heap.size ≤ Y ∧ Y < R) := by show _ ∧ _; omega
  clear h1 h2 hb0
  go_enter Tryz.func54, Tryz.ntmps54
  go_upto_region 1 with fail
  rw [← hV0, ← hR, ← hY]
  clear hV0 hR hY
  have yc0 : V.cell? ⟨Y, 0, none⟩ = some (i64 3) := blk_cell HS.out.y 0
  have yc1 : V.cell? ⟨Y, 1, none⟩ = some (i64 tn) := blk_cell HS.out.y 1
  have yc2 : V.cell? ⟨Y, 2, none⟩ = some (.slice an ln cn) := blk_cell HS.out.y 2
  have yc3 : V.cell? ⟨Y, 3, none⟩ = some (.slice at_ lt_ ct) := blk_cell HS.out.y 3
  have HVs : Hid (R < V.heap.size) := blk_lt HS.out.r
  go_upto_region 5 with fail
  obtain ⟨O, hO⟩ : ∃ O, O = V.heap.size := ⟨_, rfl⟩
  have HOe : Hid (w.heap.size ≤ O ∧ R ≠ O ∧ Y ≠ O) := by
    have h1 := HVs.out
    have h2 := HB.out.size
    have h3 := HYe.out
    show _ ∧ _ ∧ _
    omega
  have HI0 : Hid (GfI w (V.alloc (gO 3 0 (str []) (.slice none 0 0) ((a + 2 : Nat) : Int))) R O 3 (.slice none 0 0) ((a + 2 : Nat) : Int) []) := ⟨blk_alloc HS.out.r _, by rw [hO]; exact heap_last V _, VKids.nil _ _ _ _, by simp [Value.ownBlock], by simp [Value.ownBlock], HB.out.alloc HB.out.size _⟩
  have HY0 : Hid ((V.alloc (gO 3 0 (str []) (.slice none 0 0) ((a + 2 : Nat) : Int))).heap[Y]? = some (.cells #[i64 3, i64 tn, .slice an ln cn, .slice at_ lt_ ct] 35)) := blk_alloc HS.out.y _
  have hcst : ((a : Int) + 2) = ((a + 2 : Nat) : Int) := by omega
  rw [← hO, hcst]
  clear hO yc0 yc1 yc2 yc3 hcst HS HB
  generalize V.alloc (gO 3 0 (str []) (.slice none 0 0) ((a + 2 : Nat) : Int)) = V1 at *
  have HX0 : Hid (res = joinJ (([] : List Kv).map (·.1)) (rdL (rdV f) T 0 (m - 0) (s.data.toList.drop (a + 2)))) := by
    rw [Hid, HRes.out]
    show rdL (rdV f) T 0 m (s.data.toList.drop (a + 2)) = _
    cases rdL (rdV f) T 0 m (s.data.toList.drop (a + 2)) with
    | none => rfl
    | some x => rfl
  clear HRes HVs
  go_wp2_with fail
  go_loopw [9] (fun u wr => ∃ (i E : Nat) (kv : Value) (Ks : List Kv), i ≤ m ∧ u = i64 i ∧ Hid (E ≤ s.size) ∧ Hid (Ks.length = i) ∧ Hid (GfI w wr R O 3 kv (E : Nat) Ks) ∧ Hid (wr.heap[Y]? = some (.cells #[i64 3, i64 tn, .slice an ln cn, .slice at_ lt_ ct] 35)) ∧ Hid (res = joinJ (Ks.map (·.1)) (rdL (rdV f) T i (m - i) (s.data.toList.drop E)))) (fun u _ => m - (intOf u).toNat)
  case atStart => exact ⟨0, a + 2, _, [], by omega, rfl, h, rfl, HI0, HY0, HX0⟩
  case round =>
    obtain ⟨i, E, kvr, Ks, hi, rfl, HEl, hKs, HI, HYr, HX⟩ := hrel
    clear HI0 HY0 HX0
    obtain ⟨ka, kc, rfl⟩ := HI.out.slice
    have hE : E ≤ s.size := HEl.out
    rw [hKs.out] at HI
    have HKL := hKs
    clear hKs
    by_cases hlt : i < m
    · have hltI : (i : Int) < m := by omega
      have HX1 : Hid (res = joinJ (Ks.map (·.1)) (match rdV f (kidT T i) (s.data.toList.drop E) with | none => none | some (v, r) => joinJ [v] (rdL (rdV f) T (i + 1) (m - (i + 1)) r))) := by
        have h1 := HX.out
        rw [show m - i = (m - (i + 1)) + 1 by omega, rdL_j] at h1
        exact h1
      have hr3 : T.kind = 3 → 0 < T.kids.length := HK3.out
      have hr4 : T.kind ≠ 3 → i < T.kids.length := fun h => Nat.lt_of_lt_of_le hlt (HK4.out h)
      have HFK : Hid ((kidT T i).formed = true) := kidT_formed HF.out i hr3 hr4
      have HR3 := hid hr3
      have HR4 := hid hr4
      have HIs : Hid (∃ j, kidT T i = kidT T j ∧ (T.kind ≠ 3 → j < T.kids.length)) := ⟨i, rfl, hr4⟩
      have HYn : Hid (some Y ≠ (Value.slice ka i kc).ownBlock) := fun e => by
        rcases HI.out.ok.own.2 with ⟨h2, _⟩ | ⟨g', c', cur', h2, _, hgg, _⟩
        · rw [h2] at e; cases e
        · rw [h2] at e
          have h3 : g' = Y := by simpa [Value.ownBlock, eq_comm] using e
          rw [h3, HYr.out] at hgg
          simp at hgg
      have HLt : Hid (R < wr.heap.size ∧ O < wr.heap.size ∧ Y < wr.heap.size ∧ ∀ b, (Value.slice ka i kc).ownBlock = some b → b < wr.heap.size) := ⟨blk_lt HI.out.r, blk_lt HI.out.o, blk_lt HYr.out, fun b hb => (HI.out.ok.own.lt b hb).2⟩
      have HSd : Hid (Oy O Y (gO 3 0 (str []) (.slice ka i kc) (E : Nat)) (.cells #[i64 3, i64 tn, .slice an ln cn, .slice at_ lt_ ct] 35) wr.drew) := ⟨HI.out.o, HYr.out⟩
      have HD0 : Hid (Below wr.heap.size wr wr.drew) := (Below.refl _ _).drew
      have HKD : Hid (∀ W, Below wr.heap.size wr W → Calls Tryz.prog 46 #[.agg #[i64 3, i64 tn, .slice an ln cn, .slice at_ lt_ ct], i64 i] W fun e w' => ∃ a1 c1 a2 c2, e = .returned (tyV (kidT T i).kind (kidT T i).num (.slice a1 (kidT T i).names.length c1) (.slice a2 (kidT T i).kids.length c2)) ∧ Below W.heap.size W w' ∧ Rd w' S (kidT T i) (.slice a1 (kidT T i).names.length c1) (.slice a2 (kidT T i).kids.length c2)) := fun W hW => by
        have := kid_ok T i W S _ _ (HRd.out.under (HI.out.b.trans (hW.mono HI.out.b.size))) HR3.out HR4.out
        rw [HTe.out.1, HTe.out.2] at this
        exact this
      clear hr3 hr4 HX
      generalize hP : kidT T i = P at *
      have HRb : Hid (∀ v r, rdV f P (s.data.toList.drop E) = some (v, r) → s.data.toList.drop (s.size - r.length) = r ∧ r.length ≤ s.size - E) := fun v r h => drop_suf hE (rdV_back f v P _ r h)
      obtain ⟨rs, hrs⟩ : ∃ rs, rs = rdV f P (s.data.toList.drop E) := ⟨_, rfl⟩
      have HTk : Hid (∀ W S nv tv, Rd W S P nv tv → Calls Tryz.prog 32 #[.string s, i64 (E : Nat), tyV P.kind P.num nv tv] W (Gk W s.size rs)) := fun W S nv tv h => by rw [hrs]; exact HIH.out P HFK.out HIs.out W S nv tv E hE h
      rw [← hrs] at HX1 HRb
      clear hrs hP
      go_upto_region 8 with fail
      refine wp_region_noPanic ?_
      refine wp_region_last (Oy O Y (gO 3 0 (str []) (.slice ka i kc) (E : Nat)) (.cells #[i64 3, i64 tn, .slice an ln cn, .slice at_ lt_ ct] 35)) 8 (by kernel_rfl) ?_
      refine wpL_take 0 38 (.string s) [] rfl rfl (by kernel_rfl) (by decide) (by kernel_rfl) (by kernel_rfl) (by kernel_rfl) (fun _ _ _ h => h) HSd.out (by rfl) (fun W hW => by have o4 : W.cell? ⟨O, 4, none⟩ = some (i64 (E : Nat)) := blk_cell hW.o 4; have f0 : W.cell? ⟨Y, 0, none⟩ = some (i64 3) := blk_cell hW.y 0; have f1 : W.cell? ⟨Y, 1, none⟩ = some (i64 tn) := blk_cell hW.y 1; have f2 : W.cell? ⟨Y, 2, none⟩ = some (.slice an ln cn) := blk_cell hW.y 2; have f3 : W.cell? ⟨Y, 3, none⟩ = some (.slice at_ lt_ ct) := blk_cell hW.y 3; go_simp) ?_
      simp only [Act.put, List.setIfInBounds_toArray, List.set_cons_zero, List.set_cons_succ]
      refine wpL_take 1 39 (.pointer (some ⟨O, 4, none⟩)) [] rfl rfl (by kernel_rfl) (by decide) (by kernel_rfl) (by kernel_rfl) (by kernel_rfl) (fun _ _ _ h => h) HSd.out (by rfl) (fun W hW => by have o4 : W.cell? ⟨O, 4, none⟩ = some (i64 (E : Nat)) := blk_cell hW.o 4; have f0 : W.cell? ⟨Y, 0, none⟩ = some (i64 3) := blk_cell hW.y 0; have f1 : W.cell? ⟨Y, 1, none⟩ = some (i64 tn) := blk_cell hW.y 1; have f2 : W.cell? ⟨Y, 2, none⟩ = some (.slice an ln cn) := blk_cell hW.y 2; have f3 : W.cell? ⟨Y, 3, none⟩ = some (.slice at_ lt_ ct) := blk_cell hW.y 3; go_simp) ?_
      simp only [Act.put, List.setIfInBounds_toArray, List.set_cons_zero, List.set_cons_succ]
      refine wpL_take 2 40 (i64 (E : Nat)) [] rfl rfl (by kernel_rfl) (by decide) (by kernel_rfl) (by kernel_rfl) (by kernel_rfl) (fun _ _ _ h => h) HSd.out (by rfl) (fun W hW => by have o4 : W.cell? ⟨O, 4, none⟩ = some (i64 (E : Nat)) := blk_cell hW.o 4; have f0 : W.cell? ⟨Y, 0, none⟩ = some (i64 3) := blk_cell hW.y 0; have f1 : W.cell? ⟨Y, 1, none⟩ = some (i64 tn) := blk_cell hW.y 1; have f2 : W.cell? ⟨Y, 2, none⟩ = some (.slice an ln cn) := blk_cell hW.y 2; have f3 : W.cell? ⟨Y, 3, none⟩ = some (.slice at_ lt_ ct) := blk_cell hW.y 3; go_simp) ?_
      simp only [Act.put, List.setIfInBounds_toArray, List.set_cons_zero, List.set_cons_succ]
      refine wpL_take 3 41 (.agg #[i64 3, i64 tn, .slice an ln cn, .slice at_ lt_ ct]) [] rfl rfl (by kernel_rfl) (by decide) (by kernel_rfl) (by kernel_rfl) (by kernel_rfl) (fun _ _ _ h => h) HSd.out (by rfl) (fun W hW => by have o4 : W.cell? ⟨O, 4, none⟩ = some (i64 (E : Nat)) := blk_cell hW.o 4; have f0 : W.cell? ⟨Y, 0, none⟩ = some (i64 3) := blk_cell hW.y 0; have f1 : W.cell? ⟨Y, 1, none⟩ = some (i64 tn) := blk_cell hW.y 1; have f2 : W.cell? ⟨Y, 2, none⟩ = some (.slice an ln cn) := blk_cell hW.y 2; have f3 : W.cell? ⟨Y, 3, none⟩ = some (.slice at_ lt_ ct) := blk_cell hW.y 3; go_simp) ?_
      simp only [Act.put, List.setIfInBounds_toArray, List.set_cons_zero, List.set_cons_succ]
      refine wpL_take 4 42 (i64 i) [] rfl rfl (by kernel_rfl) (by decide) (by kernel_rfl) (by kernel_rfl) (by kernel_rfl) (fun _ _ _ h => h) HSd.out (by rfl) (fun W hW => by have o4 : W.cell? ⟨O, 4, none⟩ = some (i64 (E : Nat)) := blk_cell hW.o 4; have f0 : W.cell? ⟨Y, 0, none⟩ = some (i64 3) := blk_cell hW.y 0; have f1 : W.cell? ⟨Y, 1, none⟩ = some (i64 tn) := blk_cell hW.y 1; have f2 : W.cell? ⟨Y, 2, none⟩ = some (.slice an ln cn) := blk_cell hW.y 2; have f3 : W.cell? ⟨Y, 3, none⟩ = some (.slice at_ lt_ ct) := blk_cell hW.y 3; go_simp) ?_
      simp only [Act.put, List.setIfInBounds_toArray, List.set_cons_zero, List.set_cons_succ]
      refine wpL_two 5 7 rfl rfl (by kernel_rfl) (by rfl) (by rfl) (fun K0 hK0 => ?_) (fun K0 hK0 => ?_)
      · go_simp
        refine (HKD.out wr.drew HD0.out).mono ?_
        rintro e w4 ⟨p1, q1, p2, q2, rfl, hb4, hr4⟩
        have HD4 : Hid (Below wr.heap.size wr w4) := HD0.out.trans (hb4.mono HD0.out.size)
        have HS4 := hid (HSd.out.below hb4)
        have HR4' := hid hr4
        clear hb4 hr4
        go_simp
        refine hK0.out _ _ (fun _ => HS4.out) ?_
        clear hK0 K0
        have HRt := HR4'
        refine wpL_two 6 7 rfl rfl (by kernel_rfl) (by rfl) (by rfl) (fun K0 hK0 => ?_) (fun K0 hK0 => ?_)
        · go_simp
          refine (HTk.out w4 S _ _ HRt.out).mono ?_
          rintro e w6 hgk
          cases hrs : rs with
          | none =>
            obtain rfl := hgk.no hrs
            have HX1 := HX1
            rw [hrs] at HX1
            have HB6 := hid hgk.b
            have HD6 : Hid (Below wr.heap.size wr w6) := HD4.out.trans (hgk.b.mono HD4.out.size)
            have HS6 := hid (HS4.out.below hgk.b)
            clear hrs hgk
            go_simp
            refine hK0.out _ _ (fun _ => HS6.out) ?_
            clear hK0 K0
            obtain ⟨G, hG⟩ : ∃ G, G = w6.heap.size := ⟨_, rfl⟩
            have HGe : Hid (wr.heap.size ≤ G) := by rw [hG]; exact HD6.out.size
            have HD7 : Hid (Below wr.heap.size wr (w6.alloc (gO 0 0 (str []) (.slice none 0 0) 0))) := HD6.out.alloc HD6.out.size _
            have HG7 : Hid ((w6.alloc (gO 0 0 (str []) (.slice none 0 0) 0)).heap[G]? = some (gO 0 0 (str []) (.slice none 0 0) 0)) := by rw [hG]; exact heap_last w6 _
            have HS7 := hid (HS6.out.below (below_one w6 (gO 0 0 (str []) (.slice none 0 0) 0)))
            refine wpL_one 7 rfl (by kernel_rfl) (by rfl) (fun K7 hK7 => ?_)
            go_simp
            refine hK7.out _ _ (fun _ => HS7.out) ?_
            clear hK7 K7
            rw [← hG]
            clear hG
            generalize w6.alloc (gO 0 0 (str []) (.slice none 0 0) 0) = X7 at *
            have HDf : Hid (Below wr.heap.size wr ((((((X7).setCell ⟨G, 0, none⟩ (i64 0)).setCell ⟨G, 1, none⟩ (i64 0)).setCell ⟨G, 2, none⟩ (str [])).setCell ⟨G, 3, none⟩ (.slice none 0 0)).setCell ⟨G, 4, none⟩ (i64 (-1)))) := below5 HD7.out HGe.out _ _ _ _ _
            have HGf : Hid (((((((X7).setCell ⟨G, 0, none⟩ (i64 0)).setCell ⟨G, 1, none⟩ (i64 0)).setCell ⟨G, 2, none⟩ (str [])).setCell ⟨G, 3, none⟩ (.slice none 0 0)).setCell ⟨G, 4, none⟩ (i64 (-1))).heap[G]? = some (.cells #[i64 0, i64 0, str [], .slice none 0 0, i64 (-1)] 85)) := set5 HG7.out _ _ _ _ _
            have rg0 : X7.cell? ⟨G, 0, none⟩ = some (i64 0) := blk_cell HG7.out 0
            have gf0 : X7.frozen? ⟨G, 0, none⟩ = false := blk_frozen HG7.out 0
            have rg1 : X7.cell? ⟨G, 1, none⟩ = some (i64 0) := blk_cell HG7.out 1
            have gf1 : X7.frozen? ⟨G, 1, none⟩ = false := blk_frozen HG7.out 1
            have rg2 : X7.cell? ⟨G, 2, none⟩ = some (str []) := blk_cell HG7.out 2
            have gf2 : X7.frozen? ⟨G, 2, none⟩ = false := blk_frozen HG7.out 2
            have rg3 : X7.cell? ⟨G, 3, none⟩ = some (.slice none 0 0) := blk_cell HG7.out 3
            have gf3 : X7.frozen? ⟨G, 3, none⟩ = false := blk_frozen HG7.out 3
            have rg4 : X7.cell? ⟨G, 4, none⟩ = some (i64 0) := blk_cell HG7.out 4
            have gf4 : X7.frozen? ⟨G, 4, none⟩ = false := blk_frozen HG7.out 4
            refine wpL_one 8 rfl (by kernel_rfl) (by rfl) (fun K8 hK8 => ?_)
            go_simp
            refine hK8.out _ _ (fun h => absurd rfl h) ?_
            clear hK8 K8
            refine wpL_done (by kernel_rfl) ?_
            refine NoPanic.normal ?_
            clear rg0 rg1 rg2 rg3 rg4 gf0 gf1 gf2 gf3 gf4
            generalize ((((((X7).setCell ⟨G, 0, none⟩ (i64 0)).setCell ⟨G, 1, none⟩ (i64 0)).setCell ⟨G, 2, none⟩ (str [])).setCell ⟨G, 3, none⟩ (.slice none 0 0)).setCell ⟨G, 4, none⟩ (i64 (-1))) = Xf at *
            have HBf : Hid (Below w.heap.size w Xf) := HI.out.b.trans (HDf.out.mono HI.out.b.size)
            have HRf : Hid (Xf.heap[R]? = some (gO 0 0 (str []) (.slice none 0 0) 0)) := blk_below HI.out.r HDf.out
            have hN : res = none := by rw [HX1.out]; rfl
            have HN := hid hN
            have g4 : Xf.cell? ⟨G, 4, none⟩ = some (i64 (-1)) := blk_cell HGf.out 4
            clear hN
            have rc0 : Xf.cell? ⟨R, 0, none⟩ = some (i64 0) := blk_cell HRf.out 0
            have rf0 : Xf.frozen? ⟨R, 0, none⟩ = false := blk_frozen HRf.out 0
            have rc1 : Xf.cell? ⟨R, 1, none⟩ = some (i64 0) := blk_cell HRf.out 1
            have rf1 : Xf.frozen? ⟨R, 1, none⟩ = false := blk_frozen HRf.out 1
            have rc2 : Xf.cell? ⟨R, 2, none⟩ = some (str []) := blk_cell HRf.out 2
            have rf2 : Xf.frozen? ⟨R, 2, none⟩ = false := blk_frozen HRf.out 2
            have rc3 : Xf.cell? ⟨R, 3, none⟩ = some (.slice none 0 0) := blk_cell HRf.out 3
            have rf3 : Xf.frozen? ⟨R, 3, none⟩ = false := blk_frozen HRf.out 3
            have rc4 : Xf.cell? ⟨R, 4, none⟩ = some (i64 0) := blk_cell HRf.out 4
            have rf4 : Xf.frozen? ⟨R, 4, none⟩ = false := blk_frozen HRf.out 4
            go_wp2_with fail
            refine bodyPost_ret (v := gv 0 0 (str []) (.slice none 0 0) (-1)) (results_one Tryz.results54 rfl (load85 (set5 HRf.out _ _ _ _ _))) rfl ?_
            exact ⟨below5 HBf.out HRe.out _ _ _ _ _, fun _ => rfl, fun V r h => (by rw [HN.out] at h; cases h)⟩
          | some vr =>
            obtain ⟨v, r⟩ := vr
            obtain ⟨p6, c6, rfl, hv6⟩ := hgk.yes v r hrs
            obtain ⟨hF1, hF2⟩ := HRb.out v r hrs
            obtain ⟨F, hF⟩ : ∃ F, F = s.size - r.length := ⟨_, rfl⟩
            rw [← hF] at hF1 ⊢
            have HFs : Hid (F ≤ s.size) := by show _ ≤ _; omega
            have HFd : Hid (r = s.data.toList.drop F) := hF1.symm
            have hFI : ¬ ((F : Int) < 0) := by omega
            have HV6 := hid hv6
            clear hF1 hF2 hF hv6
            have HX1 := HX1
            rw [hrs] at HX1
            have HB6 := hid hgk.b
            have HD6 : Hid (Below wr.heap.size wr w6) := HD4.out.trans (hgk.b.mono HD4.out.size)
            have HS6 := hid (HS4.out.below hgk.b)
            clear hrs hgk
            go_simp
            refine hK0.out _ _ (fun _ => HS6.out) ?_
            clear hK0 K0
            obtain ⟨G, hG⟩ : ∃ G, G = w6.heap.size := ⟨_, rfl⟩
            have HGe : Hid (wr.heap.size ≤ G) := by rw [hG]; exact HD6.out.size
            have HD7 : Hid (Below wr.heap.size wr (w6.alloc (gO 0 0 (str []) (.slice none 0 0) 0))) := HD6.out.alloc HD6.out.size _
            have HG7 : Hid ((w6.alloc (gO 0 0 (str []) (.slice none 0 0) 0)).heap[G]? = some (gO 0 0 (str []) (.slice none 0 0) 0)) := by rw [hG]; exact heap_last w6 _
            have HS7 := hid (HS6.out.below (below_one w6 (gO 0 0 (str []) (.slice none 0 0) 0)))
            have HV7 : Hid (Vd (w6.alloc (gO 0 0 (str []) (.slice none 0 0) 0)) (fun b => wr.heap.size ≤ b ∧ b ≠ G) v (.slice p6 v.kids.length c6)) := HV6.out.move (below_one w6 _).size fun b hb hlt => ⟨⟨Nat.le_trans HD4.out.size hb, by omega⟩, (below_one w6 _).block b hlt⟩
            refine wpL_one 7 rfl (by kernel_rfl) (by rfl) (fun K7 hK7 => ?_)
            go_simp
            refine hK7.out _ _ (fun _ => HS7.out) ?_
            clear hK7 K7
            rw [← hG]
            clear hG
            generalize w6.alloc (gO 0 0 (str []) (.slice none 0 0) 0) = X7 at *
            have HDf : Hid (Below wr.heap.size wr ((((((X7).setCell ⟨G, 0, none⟩ (i64 v.kind)).setCell ⟨G, 1, none⟩ (i64 v.num)).setCell ⟨G, 2, none⟩ (str v.s)).setCell ⟨G, 3, none⟩ (.slice p6 v.kids.length c6)).setCell ⟨G, 4, none⟩ (i64 (F : Nat)))) := below5 HD7.out HGe.out _ _ _ _ _
            have HGf : Hid (((((((X7).setCell ⟨G, 0, none⟩ (i64 v.kind)).setCell ⟨G, 1, none⟩ (i64 v.num)).setCell ⟨G, 2, none⟩ (str v.s)).setCell ⟨G, 3, none⟩ (.slice p6 v.kids.length c6)).setCell ⟨G, 4, none⟩ (i64 (F : Nat))).heap[G]? = some (.cells #[i64 v.kind, i64 v.num, str v.s, .slice p6 v.kids.length c6, i64 (F : Nat)] 85)) := set5 HG7.out _ _ _ _ _
            have HVf : Hid (Vd ((((((X7).setCell ⟨G, 0, none⟩ (i64 v.kind)).setCell ⟨G, 1, none⟩ (i64 v.num)).setCell ⟨G, 2, none⟩ (str v.s)).setCell ⟨G, 3, none⟩ (.slice p6 v.kids.length c6)).setCell ⟨G, 4, none⟩ (i64 (F : Nat))) (fun b => Avw w.heap.size R O b ∧ some b ≠ (Value.slice ka i kc).ownBlock) v (.slice p6 v.kids.length c6)) := HV7.out.move (by simp [World.setCell]) fun b hb _ => ⟨⟨⟨by have := HI.out.b.size; omega, by have := HLt.out.1; omega, by have := HLt.out.2.1; omega⟩, fun e => by have := HLt.out.2.2.2 b e.symm; omega⟩, by
              rw [Below.heap_setCell _ _ _ _ (show b ≠ G from hb.2), Below.heap_setCell _ _ _ _ (show b ≠ G from hb.2), Below.heap_setCell _ _ _ _ (show b ≠ G from hb.2), Below.heap_setCell _ _ _ _ (show b ≠ G from hb.2), Below.heap_setCell _ _ _ _ (show b ≠ G from hb.2)]⟩
            have rg0 : X7.cell? ⟨G, 0, none⟩ = some (i64 0) := blk_cell HG7.out 0
            have gf0 : X7.frozen? ⟨G, 0, none⟩ = false := blk_frozen HG7.out 0
            have rg1 : X7.cell? ⟨G, 1, none⟩ = some (i64 0) := blk_cell HG7.out 1
            have gf1 : X7.frozen? ⟨G, 1, none⟩ = false := blk_frozen HG7.out 1
            have rg2 : X7.cell? ⟨G, 2, none⟩ = some (str []) := blk_cell HG7.out 2
            have gf2 : X7.frozen? ⟨G, 2, none⟩ = false := blk_frozen HG7.out 2
            have rg3 : X7.cell? ⟨G, 3, none⟩ = some (.slice none 0 0) := blk_cell HG7.out 3
            have gf3 : X7.frozen? ⟨G, 3, none⟩ = false := blk_frozen HG7.out 3
            have rg4 : X7.cell? ⟨G, 4, none⟩ = some (i64 0) := blk_cell HG7.out 4
            have gf4 : X7.frozen? ⟨G, 4, none⟩ = false := blk_frozen HG7.out 4
            refine wpL_one 8 rfl (by kernel_rfl) (by rfl) (fun K8 hK8 => ?_)
            go_simp
            refine hK8.out _ _ (fun h => absurd rfl h) ?_
            clear hK8 K8
            refine wpL_done (by kernel_rfl) ?_
            refine NoPanic.normal ?_
            clear rg0 rg1 rg2 rg3 rg4 gf0 gf1 gf2 gf3 gf4
            generalize ((((((X7).setCell ⟨G, 0, none⟩ (i64 v.kind)).setCell ⟨G, 1, none⟩ (i64 v.num)).setCell ⟨G, 2, none⟩ (str v.s)).setCell ⟨G, 3, none⟩ (.slice p6 v.kids.length c6)).setCell ⟨G, 4, none⟩ (i64 (F : Nat))) = Xf at *
            have HIf := hid (HI.out.below HDf.out)
            have HYf : Hid (Xf.heap[Y]? = some (.cells #[i64 3, i64 tn, .slice an ln cn, .slice at_ lt_ ct] 35)) := blk_below HYr.out HDf.out
            have HGl := blk_lt HGf.out
            obtain ⟨ao9, cap9, Y9, hrun, hO9, hG9, hY9, hI9⟩ := gf_push HIf.out HOe.out.1 HOe.out.2.1 v p6 _ c6 HVf.out (by rw [HKL.out]; omega) G Y _ _ HGf.out (fun e => by have := HLt.out.2.2.2 G e.symm; have := HGe.out; omega) (by have := HLt.out.2.1; have := HGe.out; omega) HYf.out HYn.out HOe.out.2.2
            rw [HKL.out] at hrun hG9 hY9 hI9
            have HRUN := hid hrun
            have HI9 := hid hI9
            have HG9 := hid hG9
            have HY9 := hid hY9
            have oc3 : Y9.cell? ⟨O, 3, none⟩ = some (.slice ka i kc) := blk_cell hO9 3
            have of3 : Y9.frozen? ⟨O, 3, none⟩ = false := blk_frozen hO9 3
            have o3 : Xf.cell? ⟨O, 3, none⟩ = some (.slice ka i kc) := blk_cell HIf.out.o 3
            have g0 : Xf.cell? ⟨G, 0, none⟩ = some (i64 v.kind) := blk_cell HGf.out 0
            have g1 : Xf.cell? ⟨G, 1, none⟩ = some (i64 v.num) := blk_cell HGf.out 1
            have g2 : Xf.cell? ⟨G, 2, none⟩ = some (str v.s) := blk_cell HGf.out 2
            have g3 : Xf.cell? ⟨G, 3, none⟩ = some (.slice p6 v.kids.length c6) := blk_cell HGf.out 3
            have g4 : Xf.cell? ⟨G, 4, none⟩ = some (i64 (F : Nat)) := blk_cell HGf.out 4
            clear hrun hI9 hO9 hG9 hY9
            go_upto_region 12 with (at_builtin; refine wpList_app_run rfl (.tmp 51) (.tmp 54) 36 rfl _ _ rfl rfl 36 rfl _ _ HRUN.out ?_)
            clear oc3 of3 o3 g0 g1 g2 g3 g4
            generalize Y9.setCell ⟨O, 3, none⟩ (.slice ao9 (i + 1) cap9) = Z9 at *
            have o4 : Z9.cell? ⟨O, 4, none⟩ = some (i64 (E : Nat)) := blk_cell HI9.out.o 4
            have of4 : Z9.frozen? ⟨O, 4, none⟩ = false := blk_frozen HI9.out.o 4
            have g4 : Z9.cell? ⟨G, 4, none⟩ = some (i64 (F : Nat)) := blk_cell HG9.out 4
            have HIe := hid (gf_end (m' := (F : Nat)) HI9.out HOe.out.1 HOe.out.2.1)
            have HYe2 : Hid ((Z9.setCell ⟨O, 4, none⟩ (i64 (F : Nat))).heap[Y]? = some (.cells #[i64 3, i64 tn, .slice an ln cn, .slice at_ lt_ ct] 35)) := (Below.heap_setCell _ _ _ _ (show Y ≠ O from HOe.out.2.2)).trans HY9.out
            have HXe : Hid (res = joinJ ((Ks ++ [((v, Value.slice p6 v.kids.length c6) : Kv)]).map (·.1)) (rdL (rdV f) T (i + 1) (m - (i + 1)) (s.data.toList.drop F))) := by
              rw [Hid, HX1.out, HFd.out]
              show joinJ _ (joinJ [v] _) = _
              rw [joinJ_app, List.map_append]
              rfl
            have hKe : (Ks ++ [((v, Value.slice p6 v.kids.length c6) : Kv)]).length = i + 1 := by rw [List.length_append, HKL.out]; rfl
            go_wp2_with fail
            exact ⟨⟨i + 1, by omega, by omega, F, HFs, _, _, hKe, HIe, HXe⟩, by simp [intOf]; omega⟩
        · obtain ⟨G, hG⟩ : ∃ G, G = w4.heap.size := ⟨_, rfl⟩
          have HGe : Hid (wr.heap.size ≤ G) := by rw [hG]; exact HD4.out.size
          have HD5 : Hid (Below wr.heap.size wr (w4.alloc (gO 0 0 (str []) (.slice none 0 0) 0))) := HD4.out.alloc HD4.out.size _
          have HG5 : Hid ((w4.alloc (gO 0 0 (str []) (.slice none 0 0) 0)).heap[G]? = some (gO 0 0 (str []) (.slice none 0 0) 0)) := by rw [hG]; exact heap_last w4 _
          have HS5 := hid (HS4.out.below (below_one w4 (gO 0 0 (str []) (.slice none 0 0) 0)))
          have HRt := hid (HR4'.out.under (below_one w4 (gO 0 0 (str []) (.slice none 0 0) 0)))
          go_simp
          refine hK0.out _ _ (fun _ => HS5.out) ?_
          clear hK0 K0
          rw [← hG]
          clear hG
          generalize w4.alloc (gO 0 0 (str []) (.slice none 0 0) 0) = X5 at *
          refine wpL_one 6 rfl (by kernel_rfl) (by rfl) (fun K0 hK0 => ?_)
          go_simp
          refine (HTk.out X5 S _ _ HRt.out).mono ?_
          rintro e w6 hgk
          cases hrs : rs with
          | none =>
            obtain rfl := hgk.no hrs
            have HX1 := HX1
            rw [hrs] at HX1
            have HB6 := hid hgk.b
            have HD6 : Hid (Below wr.heap.size wr w6) := HD5.out.trans (hgk.b.mono HD5.out.size)
            have HS6 := hid (HS5.out.below hgk.b)
            clear hrs hgk
            go_simp
            refine hK0.out _ _ (fun _ => HS6.out) ?_
            clear hK0 K0
            have HG7 : Hid (w6.heap[G]? = some (gO 0 0 (str []) (.slice none 0 0) 0)) := blk_below HG5.out HB6.out
            have HD7 := HD6
            generalize w6 = X7 at *
            have HDf : Hid (Below wr.heap.size wr ((((((X7).setCell ⟨G, 0, none⟩ (i64 0)).setCell ⟨G, 1, none⟩ (i64 0)).setCell ⟨G, 2, none⟩ (str [])).setCell ⟨G, 3, none⟩ (.slice none 0 0)).setCell ⟨G, 4, none⟩ (i64 (-1)))) := below5 HD7.out HGe.out _ _ _ _ _
            have HGf : Hid (((((((X7).setCell ⟨G, 0, none⟩ (i64 0)).setCell ⟨G, 1, none⟩ (i64 0)).setCell ⟨G, 2, none⟩ (str [])).setCell ⟨G, 3, none⟩ (.slice none 0 0)).setCell ⟨G, 4, none⟩ (i64 (-1))).heap[G]? = some (.cells #[i64 0, i64 0, str [], .slice none 0 0, i64 (-1)] 85)) := set5 HG7.out _ _ _ _ _
            have rg0 : X7.cell? ⟨G, 0, none⟩ = some (i64 0) := blk_cell HG7.out 0
            have gf0 : X7.frozen? ⟨G, 0, none⟩ = false := blk_frozen HG7.out 0
            have rg1 : X7.cell? ⟨G, 1, none⟩ = some (i64 0) := blk_cell HG7.out 1
            have gf1 : X7.frozen? ⟨G, 1, none⟩ = false := blk_frozen HG7.out 1
            have rg2 : X7.cell? ⟨G, 2, none⟩ = some (str []) := blk_cell HG7.out 2
            have gf2 : X7.frozen? ⟨G, 2, none⟩ = false := blk_frozen HG7.out 2
            have rg3 : X7.cell? ⟨G, 3, none⟩ = some (.slice none 0 0) := blk_cell HG7.out 3
            have gf3 : X7.frozen? ⟨G, 3, none⟩ = false := blk_frozen HG7.out 3
            have rg4 : X7.cell? ⟨G, 4, none⟩ = some (i64 0) := blk_cell HG7.out 4
            have gf4 : X7.frozen? ⟨G, 4, none⟩ = false := blk_frozen HG7.out 4
            refine wpL_one 8 rfl (by kernel_rfl) (by rfl) (fun K8 hK8 => ?_)
            go_simp
            refine hK8.out _ _ (fun h => absurd rfl h) ?_
            clear hK8 K8
            refine wpL_done (by kernel_rfl) ?_
            refine NoPanic.normal ?_
            clear rg0 rg1 rg2 rg3 rg4 gf0 gf1 gf2 gf3 gf4
            generalize ((((((X7).setCell ⟨G, 0, none⟩ (i64 0)).setCell ⟨G, 1, none⟩ (i64 0)).setCell ⟨G, 2, none⟩ (str [])).setCell ⟨G, 3, none⟩ (.slice none 0 0)).setCell ⟨G, 4, none⟩ (i64 (-1))) = Xf at *
            have HBf : Hid (Below w.heap.size w Xf) := HI.out.b.trans (HDf.out.mono HI.out.b.size)
            have HRf : Hid (Xf.heap[R]? = some (gO 0 0 (str []) (.slice none 0 0) 0)) := blk_below HI.out.r HDf.out
            have hN : res = none := by rw [HX1.out]; rfl
            have HN := hid hN
            have g4 : Xf.cell? ⟨G, 4, none⟩ = some (i64 (-1)) := blk_cell HGf.out 4
            clear hN
            have rc0 : Xf.cell? ⟨R, 0, none⟩ = some (i64 0) := blk_cell HRf.out 0
            have rf0 : Xf.frozen? ⟨R, 0, none⟩ = false := blk_frozen HRf.out 0
            have rc1 : Xf.cell? ⟨R, 1, none⟩ = some (i64 0) := blk_cell HRf.out 1
            have rf1 : Xf.frozen? ⟨R, 1, none⟩ = false := blk_frozen HRf.out 1
            have rc2 : Xf.cell? ⟨R, 2, none⟩ = some (str []) := blk_cell HRf.out 2
            have rf2 : Xf.frozen? ⟨R, 2, none⟩ = false := blk_frozen HRf.out 2
            have rc3 : Xf.cell? ⟨R, 3, none⟩ = some (.slice none 0 0) := blk_cell HRf.out 3
            have rf3 : Xf.frozen? ⟨R, 3, none⟩ = false := blk_frozen HRf.out 3
            have rc4 : Xf.cell? ⟨R, 4, none⟩ = some (i64 0) := blk_cell HRf.out 4
            have rf4 : Xf.frozen? ⟨R, 4, none⟩ = false := blk_frozen HRf.out 4
            go_wp2_with fail
            refine bodyPost_ret (v := gv 0 0 (str []) (.slice none 0 0) (-1)) (results_one Tryz.results54 rfl (load85 (set5 HRf.out _ _ _ _ _))) rfl ?_
            exact ⟨below5 HBf.out HRe.out _ _ _ _ _, fun _ => rfl, fun V r h => (by rw [HN.out] at h; cases h)⟩
          | some vr =>
            obtain ⟨v, r⟩ := vr
            obtain ⟨p6, c6, rfl, hv6⟩ := hgk.yes v r hrs
            obtain ⟨hF1, hF2⟩ := HRb.out v r hrs
            obtain ⟨F, hF⟩ : ∃ F, F = s.size - r.length := ⟨_, rfl⟩
            rw [← hF] at hF1 ⊢
            have HFs : Hid (F ≤ s.size) := by show _ ≤ _; omega
            have HFd : Hid (r = s.data.toList.drop F) := hF1.symm
            have hFI : ¬ ((F : Int) < 0) := by omega
            have HV6 := hid hv6
            clear hF1 hF2 hF hv6
            have HX1 := HX1
            rw [hrs] at HX1
            have HB6 := hid hgk.b
            have HD6 : Hid (Below wr.heap.size wr w6) := HD5.out.trans (hgk.b.mono HD5.out.size)
            have HS6 := hid (HS5.out.below hgk.b)
            clear hrs hgk
            go_simp
            refine hK0.out _ _ (fun _ => HS6.out) ?_
            clear hK0 K0
            have HG7 : Hid (w6.heap[G]? = some (gO 0 0 (str []) (.slice none 0 0) 0)) := blk_below HG5.out HB6.out
            have HD7 := HD6
            have HV7 : Hid (Vd w6 (fun b => wr.heap.size ≤ b ∧ b ≠ G) v (.slice p6 v.kids.length c6)) := HV6.out.mono fun b hb _ => ⟨Nat.le_trans HD5.out.size hb, by have := blk_lt HG5.out; omega⟩
            generalize w6 = X7 at *
            have HDf : Hid (Below wr.heap.size wr ((((((X7).setCell ⟨G, 0, none⟩ (i64 v.kind)).setCell ⟨G, 1, none⟩ (i64 v.num)).setCell ⟨G, 2, none⟩ (str v.s)).setCell ⟨G, 3, none⟩ (.slice p6 v.kids.length c6)).setCell ⟨G, 4, none⟩ (i64 (F : Nat)))) := below5 HD7.out HGe.out _ _ _ _ _
            have HGf : Hid (((((((X7).setCell ⟨G, 0, none⟩ (i64 v.kind)).setCell ⟨G, 1, none⟩ (i64 v.num)).setCell ⟨G, 2, none⟩ (str v.s)).setCell ⟨G, 3, none⟩ (.slice p6 v.kids.length c6)).setCell ⟨G, 4, none⟩ (i64 (F : Nat))).heap[G]? = some (.cells #[i64 v.kind, i64 v.num, str v.s, .slice p6 v.kids.length c6, i64 (F : Nat)] 85)) := set5 HG7.out _ _ _ _ _
            have HVf : Hid (Vd ((((((X7).setCell ⟨G, 0, none⟩ (i64 v.kind)).setCell ⟨G, 1, none⟩ (i64 v.num)).setCell ⟨G, 2, none⟩ (str v.s)).setCell ⟨G, 3, none⟩ (.slice p6 v.kids.length c6)).setCell ⟨G, 4, none⟩ (i64 (F : Nat))) (fun b => Avw w.heap.size R O b ∧ some b ≠ (Value.slice ka i kc).ownBlock) v (.slice p6 v.kids.length c6)) := HV7.out.move (by simp [World.setCell]) fun b hb _ => ⟨⟨⟨by have := HI.out.b.size; omega, by have := HLt.out.1; omega, by have := HLt.out.2.1; omega⟩, fun e => by have := HLt.out.2.2.2 b e.symm; omega⟩, by
              rw [Below.heap_setCell _ _ _ _ (show b ≠ G from hb.2), Below.heap_setCell _ _ _ _ (show b ≠ G from hb.2), Below.heap_setCell _ _ _ _ (show b ≠ G from hb.2), Below.heap_setCell _ _ _ _ (show b ≠ G from hb.2), Below.heap_setCell _ _ _ _ (show b ≠ G from hb.2)]⟩
            have rg0 : X7.cell? ⟨G, 0, none⟩ = some (i64 0) := blk_cell HG7.out 0
            have gf0 : X7.frozen? ⟨G, 0, none⟩ = false := blk_frozen HG7.out 0
            have rg1 : X7.cell? ⟨G, 1, none⟩ = some (i64 0) := blk_cell HG7.out 1
            have gf1 : X7.frozen? ⟨G, 1, none⟩ = false := blk_frozen HG7.out 1
            have rg2 : X7.cell? ⟨G, 2, none⟩ = some (str []) := blk_cell HG7.out 2
            have gf2 : X7.frozen? ⟨G, 2, none⟩ = false := blk_frozen HG7.out 2
            have rg3 : X7.cell? ⟨G, 3, none⟩ = some (.slice none 0 0) := blk_cell HG7.out 3
            have gf3 : X7.frozen? ⟨G, 3, none⟩ = false := blk_frozen HG7.out 3
            have rg4 : X7.cell? ⟨G, 4, none⟩ = some (i64 0) := blk_cell HG7.out 4
            have gf4 : X7.frozen? ⟨G, 4, none⟩ = false := blk_frozen HG7.out 4
            refine wpL_one 8 rfl (by kernel_rfl) (by rfl) (fun K8 hK8 => ?_)
            go_simp
            refine hK8.out _ _ (fun h => absurd rfl h) ?_
            clear hK8 K8
            refine wpL_done (by kernel_rfl) ?_
            refine NoPanic.normal ?_
            clear rg0 rg1 rg2 rg3 rg4 gf0 gf1 gf2 gf3 gf4
            generalize ((((((X7).setCell ⟨G, 0, none⟩ (i64 v.kind)).setCell ⟨G, 1, none⟩ (i64 v.num)).setCell ⟨G, 2, none⟩ (str v.s)).setCell ⟨G, 3, none⟩ (.slice p6 v.kids.length c6)).setCell ⟨G, 4, none⟩ (i64 (F : Nat))) = Xf at *
            have HIf := hid (HI.out.below HDf.out)
            have HYf : Hid (Xf.heap[Y]? = some (.cells #[i64 3, i64 tn, .slice an ln cn, .slice at_ lt_ ct] 35)) := blk_below HYr.out HDf.out
            have HGl := blk_lt HGf.out
            obtain ⟨ao9, cap9, Y9, hrun, hO9, hG9, hY9, hI9⟩ := gf_push HIf.out HOe.out.1 HOe.out.2.1 v p6 _ c6 HVf.out (by rw [HKL.out]; omega) G Y _ _ HGf.out (fun e => by have := HLt.out.2.2.2 G e.symm; have := HGe.out; omega) (by have := HLt.out.2.1; have := HGe.out; omega) HYf.out HYn.out HOe.out.2.2
            rw [HKL.out] at hrun hG9 hY9 hI9
            have HRUN := hid hrun
            have HI9 := hid hI9
            have HG9 := hid hG9
            have HY9 := hid hY9
            have oc3 : Y9.cell? ⟨O, 3, none⟩ = some (.slice ka i kc) := blk_cell hO9 3
            have of3 : Y9.frozen? ⟨O, 3, none⟩ = false := blk_frozen hO9 3
            have o3 : Xf.cell? ⟨O, 3, none⟩ = some (.slice ka i kc) := blk_cell HIf.out.o 3
            have g0 : Xf.cell? ⟨G, 0, none⟩ = some (i64 v.kind) := blk_cell HGf.out 0
            have g1 : Xf.cell? ⟨G, 1, none⟩ = some (i64 v.num) := blk_cell HGf.out 1
            have g2 : Xf.cell? ⟨G, 2, none⟩ = some (str v.s) := blk_cell HGf.out 2
            have g3 : Xf.cell? ⟨G, 3, none⟩ = some (.slice p6 v.kids.length c6) := blk_cell HGf.out 3
            have g4 : Xf.cell? ⟨G, 4, none⟩ = some (i64 (F : Nat)) := blk_cell HGf.out 4
            clear hrun hI9 hO9 hG9 hY9
            go_upto_region 12 with (at_builtin; refine wpList_app_run rfl (.tmp 51) (.tmp 54) 36 rfl _ _ rfl rfl 36 rfl _ _ HRUN.out ?_)
            clear oc3 of3 o3 g0 g1 g2 g3 g4
            generalize Y9.setCell ⟨O, 3, none⟩ (.slice ao9 (i + 1) cap9) = Z9 at *
            have o4 : Z9.cell? ⟨O, 4, none⟩ = some (i64 (E : Nat)) := blk_cell HI9.out.o 4
            have of4 : Z9.frozen? ⟨O, 4, none⟩ = false := blk_frozen HI9.out.o 4
            have g4 : Z9.cell? ⟨G, 4, none⟩ = some (i64 (F : Nat)) := blk_cell HG9.out 4
            have HIe := hid (gf_end (m' := (F : Nat)) HI9.out HOe.out.1 HOe.out.2.1)
            have HYe2 : Hid ((Z9.setCell ⟨O, 4, none⟩ (i64 (F : Nat))).heap[Y]? = some (.cells #[i64 3, i64 tn, .slice an ln cn, .slice at_ lt_ ct] 35)) := (Below.heap_setCell _ _ _ _ (show Y ≠ O from HOe.out.2.2)).trans HY9.out
            have HXe : Hid (res = joinJ ((Ks ++ [((v, Value.slice p6 v.kids.length c6) : Kv)]).map (·.1)) (rdL (rdV f) T (i + 1) (m - (i + 1)) (s.data.toList.drop F))) := by
              rw [Hid, HX1.out, HFd.out]
              show joinJ _ (joinJ [v] _) = _
              rw [joinJ_app, List.map_append]
              rfl
            have hKe : (Ks ++ [((v, Value.slice p6 v.kids.length c6) : Kv)]).length = i + 1 := by rw [List.length_append, HKL.out]; rfl
            go_wp2_with fail
            exact ⟨⟨i + 1, by omega, by omega, F, HFs, _, _, hKe, HIe, HXe⟩, by simp [intOf]; omega⟩
      · obtain ⟨G, hG⟩ : ∃ G, G = wr.heap.size := ⟨_, rfl⟩
        have HGe : Hid (wr.heap.size ≤ G) := by rw [hG]; exact Nat.le_refl _
        have HD5 : Hid (Below wr.heap.size wr ((wr.alloc (gO 0 0 (str []) (.slice none 0 0) 0)).drew)) := ((Below.refl _ _).alloc (Nat.le_refl _) _).drew
        have HG5 : Hid (((wr.alloc (gO 0 0 (str []) (.slice none 0 0) 0)).drew).heap[G]? = some (gO 0 0 (str []) (.slice none 0 0) 0)) := by rw [hG]; exact heap_last wr.drew _
        have HS5 := hid (show Oy O Y (gO 3 0 (str []) (.slice ka i kc) (E : Nat)) (.cells #[i64 3, i64 tn, .slice an ln cn, .slice at_ lt_ ct] 35) ((wr.alloc (gO 0 0 (str []) (.slice none 0 0) 0)).drew) from ⟨blk_alloc HI.out.o _, blk_alloc HYr.out _⟩)
        go_simp
        refine hK0.out _ _ (fun _ => HS5.out) ?_
        clear hK0 K0
        rw [← hG]
        clear hG
        generalize (wr.alloc (gO 0 0 (str []) (.slice none 0 0) 0)).drew = X5 at *
        refine wpL_one 5 rfl (by kernel_rfl) (by rfl) (fun K0 hK0 => ?_)
        go_simp
        refine (HKD.out X5 HD5.out).mono ?_
        rintro e w4 ⟨p1, q1, p2, q2, rfl, hb4, hr4⟩
        have HD4 : Hid (Below wr.heap.size wr w4) := HD5.out.trans (hb4.mono HD5.out.size)
        have HS4 := hid (HS5.out.below hb4)
        have HR4' := hid hr4
        have HG4 : Hid (w4.heap[G]? = some (gO 0 0 (str []) (.slice none 0 0) 0)) := blk_below HG5.out hb4
        clear hb4 hr4
        go_simp
        refine hK0.out _ _ (fun _ => HS4.out) ?_
        clear hK0 K0
        have HRt := HR4'
        have HG5 := HG4
        refine wpL_one 6 rfl (by kernel_rfl) (by rfl) (fun K0 hK0 => ?_)
        go_simp
        refine (HTk.out w4 S _ _ HRt.out).mono ?_
        rintro e w6 hgk
        cases hrs : rs with
        | none =>
          obtain rfl := hgk.no hrs
          have HX1 := HX1
          rw [hrs] at HX1
          have HB6 := hid hgk.b
          have HD6 : Hid (Below wr.heap.size wr w6) := HD4.out.trans (hgk.b.mono HD4.out.size)
          have HS6 := hid (HS4.out.below hgk.b)
          clear hrs hgk
          go_simp
          refine hK0.out _ _ (fun _ => HS6.out) ?_
          clear hK0 K0
          have HG7 : Hid (w6.heap[G]? = some (gO 0 0 (str []) (.slice none 0 0) 0)) := blk_below HG5.out HB6.out
          have HD7 := HD6
          generalize w6 = X7 at *
          have HDf : Hid (Below wr.heap.size wr ((((((X7).setCell ⟨G, 0, none⟩ (i64 0)).setCell ⟨G, 1, none⟩ (i64 0)).setCell ⟨G, 2, none⟩ (str [])).setCell ⟨G, 3, none⟩ (.slice none 0 0)).setCell ⟨G, 4, none⟩ (i64 (-1)))) := below5 HD7.out HGe.out _ _ _ _ _
          have HGf : Hid (((((((X7).setCell ⟨G, 0, none⟩ (i64 0)).setCell ⟨G, 1, none⟩ (i64 0)).setCell ⟨G, 2, none⟩ (str [])).setCell ⟨G, 3, none⟩ (.slice none 0 0)).setCell ⟨G, 4, none⟩ (i64 (-1))).heap[G]? = some (.cells #[i64 0, i64 0, str [], .slice none 0 0, i64 (-1)] 85)) := set5 HG7.out _ _ _ _ _
          have rg0 : X7.cell? ⟨G, 0, none⟩ = some (i64 0) := blk_cell HG7.out 0
          have gf0 : X7.frozen? ⟨G, 0, none⟩ = false := blk_frozen HG7.out 0
          have rg1 : X7.cell? ⟨G, 1, none⟩ = some (i64 0) := blk_cell HG7.out 1
          have gf1 : X7.frozen? ⟨G, 1, none⟩ = false := blk_frozen HG7.out 1
          have rg2 : X7.cell? ⟨G, 2, none⟩ = some (str []) := blk_cell HG7.out 2
          have gf2 : X7.frozen? ⟨G, 2, none⟩ = false := blk_frozen HG7.out 2
          have rg3 : X7.cell? ⟨G, 3, none⟩ = some (.slice none 0 0) := blk_cell HG7.out 3
          have gf3 : X7.frozen? ⟨G, 3, none⟩ = false := blk_frozen HG7.out 3
          have rg4 : X7.cell? ⟨G, 4, none⟩ = some (i64 0) := blk_cell HG7.out 4
          have gf4 : X7.frozen? ⟨G, 4, none⟩ = false := blk_frozen HG7.out 4
          refine wpL_one 8 rfl (by kernel_rfl) (by rfl) (fun K8 hK8 => ?_)
          go_simp
          refine hK8.out _ _ (fun h => absurd rfl h) ?_
          clear hK8 K8
          refine wpL_done (by kernel_rfl) ?_
          refine NoPanic.normal ?_
          clear rg0 rg1 rg2 rg3 rg4 gf0 gf1 gf2 gf3 gf4
          generalize ((((((X7).setCell ⟨G, 0, none⟩ (i64 0)).setCell ⟨G, 1, none⟩ (i64 0)).setCell ⟨G, 2, none⟩ (str [])).setCell ⟨G, 3, none⟩ (.slice none 0 0)).setCell ⟨G, 4, none⟩ (i64 (-1))) = Xf at *
          have HBf : Hid (Below w.heap.size w Xf) := HI.out.b.trans (HDf.out.mono HI.out.b.size)
          have HRf : Hid (Xf.heap[R]? = some (gO 0 0 (str []) (.slice none 0 0) 0)) := blk_below HI.out.r HDf.out
          have hN : res = none := by rw [HX1.out]; rfl
          have HN := hid hN
          have g4 : Xf.cell? ⟨G, 4, none⟩ = some (i64 (-1)) := blk_cell HGf.out 4
          clear hN
          have rc0 : Xf.cell? ⟨R, 0, none⟩ = some (i64 0) := blk_cell HRf.out 0
          have rf0 : Xf.frozen? ⟨R, 0, none⟩ = false := blk_frozen HRf.out 0
          have rc1 : Xf.cell? ⟨R, 1, none⟩ = some (i64 0) := blk_cell HRf.out 1
          have rf1 : Xf.frozen? ⟨R, 1, none⟩ = false := blk_frozen HRf.out 1
          have rc2 : Xf.cell? ⟨R, 2, none⟩ = some (str []) := blk_cell HRf.out 2
          have rf2 : Xf.frozen? ⟨R, 2, none⟩ = false := blk_frozen HRf.out 2
          have rc3 : Xf.cell? ⟨R, 3, none⟩ = some (.slice none 0 0) := blk_cell HRf.out 3
          have rf3 : Xf.frozen? ⟨R, 3, none⟩ = false := blk_frozen HRf.out 3
          have rc4 : Xf.cell? ⟨R, 4, none⟩ = some (i64 0) := blk_cell HRf.out 4
          have rf4 : Xf.frozen? ⟨R, 4, none⟩ = false := blk_frozen HRf.out 4
          go_wp2_with fail
          refine bodyPost_ret (v := gv 0 0 (str []) (.slice none 0 0) (-1)) (results_one Tryz.results54 rfl (load85 (set5 HRf.out _ _ _ _ _))) rfl ?_
          exact ⟨below5 HBf.out HRe.out _ _ _ _ _, fun _ => rfl, fun V r h => (by rw [HN.out] at h; cases h)⟩
        | some vr =>
          obtain ⟨v, r⟩ := vr
          obtain ⟨p6, c6, rfl, hv6⟩ := hgk.yes v r hrs
          obtain ⟨hF1, hF2⟩ := HRb.out v r hrs
          obtain ⟨F, hF⟩ : ∃ F, F = s.size - r.length := ⟨_, rfl⟩
          rw [← hF] at hF1 ⊢
          have HFs : Hid (F ≤ s.size) := by show _ ≤ _; omega
          have HFd : Hid (r = s.data.toList.drop F) := hF1.symm
          have hFI : ¬ ((F : Int) < 0) := by omega
          have HV6 := hid hv6
          clear hF1 hF2 hF hv6
          have HX1 := HX1
          rw [hrs] at HX1
          have HB6 := hid hgk.b
          have HD6 : Hid (Below wr.heap.size wr w6) := HD4.out.trans (hgk.b.mono HD4.out.size)
          have HS6 := hid (HS4.out.below hgk.b)
          clear hrs hgk
          go_simp
          refine hK0.out _ _ (fun _ => HS6.out) ?_
          clear hK0 K0
          have HG7 : Hid (w6.heap[G]? = some (gO 0 0 (str []) (.slice none 0 0) 0)) := blk_below HG5.out HB6.out
          have HD7 := HD6
          have HV7 : Hid (Vd w6 (fun b => wr.heap.size ≤ b ∧ b ≠ G) v (.slice p6 v.kids.length c6)) := HV6.out.mono fun b hb _ => ⟨Nat.le_trans HD4.out.size hb, by have := blk_lt HG5.out; omega⟩
          generalize w6 = X7 at *
          have HDf : Hid (Below wr.heap.size wr ((((((X7).setCell ⟨G, 0, none⟩ (i64 v.kind)).setCell ⟨G, 1, none⟩ (i64 v.num)).setCell ⟨G, 2, none⟩ (str v.s)).setCell ⟨G, 3, none⟩ (.slice p6 v.kids.length c6)).setCell ⟨G, 4, none⟩ (i64 (F : Nat)))) := below5 HD7.out HGe.out _ _ _ _ _
          have HGf : Hid (((((((X7).setCell ⟨G, 0, none⟩ (i64 v.kind)).setCell ⟨G, 1, none⟩ (i64 v.num)).setCell ⟨G, 2, none⟩ (str v.s)).setCell ⟨G, 3, none⟩ (.slice p6 v.kids.length c6)).setCell ⟨G, 4, none⟩ (i64 (F : Nat))).heap[G]? = some (.cells #[i64 v.kind, i64 v.num, str v.s, .slice p6 v.kids.length c6, i64 (F : Nat)] 85)) := set5 HG7.out _ _ _ _ _
          have HVf : Hid (Vd ((((((X7).setCell ⟨G, 0, none⟩ (i64 v.kind)).setCell ⟨G, 1, none⟩ (i64 v.num)).setCell ⟨G, 2, none⟩ (str v.s)).setCell ⟨G, 3, none⟩ (.slice p6 v.kids.length c6)).setCell ⟨G, 4, none⟩ (i64 (F : Nat))) (fun b => Avw w.heap.size R O b ∧ some b ≠ (Value.slice ka i kc).ownBlock) v (.slice p6 v.kids.length c6)) := HV7.out.move (by simp [World.setCell]) fun b hb _ => ⟨⟨⟨by have := HI.out.b.size; omega, by have := HLt.out.1; omega, by have := HLt.out.2.1; omega⟩, fun e => by have := HLt.out.2.2.2 b e.symm; omega⟩, by
            rw [Below.heap_setCell _ _ _ _ (show b ≠ G from hb.2), Below.heap_setCell _ _ _ _ (show b ≠ G from hb.2), Below.heap_setCell _ _ _ _ (show b ≠ G from hb.2), Below.heap_setCell _ _ _ _ (show b ≠ G from hb.2), Below.heap_setCell _ _ _ _ (show b ≠ G from hb.2)]⟩
          have rg0 : X7.cell? ⟨G, 0, none⟩ = some (i64 0) := blk_cell HG7.out 0
          have gf0 : X7.frozen? ⟨G, 0, none⟩ = false := blk_frozen HG7.out 0
          have rg1 : X7.cell? ⟨G, 1, none⟩ = some (i64 0) := blk_cell HG7.out 1
          have gf1 : X7.frozen? ⟨G, 1, none⟩ = false := blk_frozen HG7.out 1
          have rg2 : X7.cell? ⟨G, 2, none⟩ = some (str []) := blk_cell HG7.out 2
          have gf2 : X7.frozen? ⟨G, 2, none⟩ = false := blk_frozen HG7.out 2
          have rg3 : X7.cell? ⟨G, 3, none⟩ = some (.slice none 0 0) := blk_cell HG7.out 3
          have gf3 : X7.frozen? ⟨G, 3, none⟩ = false := blk_frozen HG7.out 3
          have rg4 : X7.cell? ⟨G, 4, none⟩ = some (i64 0) := blk_cell HG7.out 4
          have gf4 : X7.frozen? ⟨G, 4, none⟩ = false := blk_frozen HG7.out 4
          refine wpL_one 8 rfl (by kernel_rfl) (by rfl) (fun K8 hK8 => ?_)
          go_simp
          refine hK8.out _ _ (fun h => absurd rfl h) ?_
          clear hK8 K8
          refine wpL_done (by kernel_rfl) ?_
          refine NoPanic.normal ?_
          clear rg0 rg1 rg2 rg3 rg4 gf0 gf1 gf2 gf3 gf4
          generalize ((((((X7).setCell ⟨G, 0, none⟩ (i64 v.kind)).setCell ⟨G, 1, none⟩ (i64 v.num)).setCell ⟨G, 2, none⟩ (str v.s)).setCell ⟨G, 3, none⟩ (.slice p6 v.kids.length c6)).setCell ⟨G, 4, none⟩ (i64 (F : Nat))) = Xf at *
          have HIf := hid (HI.out.below HDf.out)
          have HYf : Hid (Xf.heap[Y]? = some (.cells #[i64 3, i64 tn, .slice an ln cn, .slice at_ lt_ ct] 35)) := blk_below HYr.out HDf.out
          have HGl := blk_lt HGf.out
          obtain ⟨ao9, cap9, Y9, hrun, hO9, hG9, hY9, hI9⟩ := gf_push HIf.out HOe.out.1 HOe.out.2.1 v p6 _ c6 HVf.out (by rw [HKL.out]; omega) G Y _ _ HGf.out (fun e => by have := HLt.out.2.2.2 G e.symm; have := HGe.out; omega) (by have := HLt.out.2.1; have := HGe.out; omega) HYf.out HYn.out HOe.out.2.2
          rw [HKL.out] at hrun hG9 hY9 hI9
          have HRUN := hid hrun
          have HI9 := hid hI9
          have HG9 := hid hG9
          have HY9 := hid hY9
          have oc3 : Y9.cell? ⟨O, 3, none⟩ = some (.slice ka i kc) := blk_cell hO9 3
          have of3 : Y9.frozen? ⟨O, 3, none⟩ = false := blk_frozen hO9 3
          have o3 : Xf.cell? ⟨O, 3, none⟩ = some (.slice ka i kc) := blk_cell HIf.out.o 3
          have g0 : Xf.cell? ⟨G, 0, none⟩ = some (i64 v.kind) := blk_cell HGf.out 0
          have g1 : Xf.cell? ⟨G, 1, none⟩ = some (i64 v.num) := blk_cell HGf.out 1
          have g2 : Xf.cell? ⟨G, 2, none⟩ = some (str v.s) := blk_cell HGf.out 2
          have g3 : Xf.cell? ⟨G, 3, none⟩ = some (.slice p6 v.kids.length c6) := blk_cell HGf.out 3
          have g4 : Xf.cell? ⟨G, 4, none⟩ = some (i64 (F : Nat)) := blk_cell HGf.out 4
          clear hrun hI9 hO9 hG9 hY9
          go_upto_region 12 with (at_builtin; refine wpList_app_run rfl (.tmp 51) (.tmp 54) 36 rfl _ _ rfl rfl 36 rfl _ _ HRUN.out ?_)
          clear oc3 of3 o3 g0 g1 g2 g3 g4
          generalize Y9.setCell ⟨O, 3, none⟩ (.slice ao9 (i + 1) cap9) = Z9 at *
          have o4 : Z9.cell? ⟨O, 4, none⟩ = some (i64 (E : Nat)) := blk_cell HI9.out.o 4
          have of4 : Z9.frozen? ⟨O, 4, none⟩ = false := blk_frozen HI9.out.o 4
          have g4 : Z9.cell? ⟨G, 4, none⟩ = some (i64 (F : Nat)) := blk_cell HG9.out 4
          have HIe := hid (gf_end (m' := (F : Nat)) HI9.out HOe.out.1 HOe.out.2.1)
          have HYe2 : Hid ((Z9.setCell ⟨O, 4, none⟩ (i64 (F : Nat))).heap[Y]? = some (.cells #[i64 3, i64 tn, .slice an ln cn, .slice at_ lt_ ct] 35)) := (Below.heap_setCell _ _ _ _ (show Y ≠ O from HOe.out.2.2)).trans HY9.out
          have HXe : Hid (res = joinJ ((Ks ++ [((v, Value.slice p6 v.kids.length c6) : Kv)]).map (·.1)) (rdL (rdV f) T (i + 1) (m - (i + 1)) (s.data.toList.drop F))) := by
            rw [Hid, HX1.out, HFd.out]
            show joinJ _ (joinJ [v] _) = _
            rw [joinJ_app, List.map_append]
            rfl
          have hKe : (Ks ++ [((v, Value.slice p6 v.kids.length c6) : Kv)]).length = i + 1 := by rw [List.length_append, HKL.out]; rfl
          go_wp2_with fail
          exact ⟨⟨i + 1, by omega, by omega, F, HFs, _, _, hKe, HIe, HXe⟩, by simp [intOf]; omega⟩
    · obtain rfl : i = m := by omega
      have hltI : ¬ (i : Int) < i := by omega
      have HRes : Hid (resK 3 res = some (.mk 3 0 [] (Ks.map (·.1)), s.data.toList.drop E)) := by
        rw [Hid, HX.out, Nat.sub_self, rdL]
        show some (Vl.mk 3 0 [] (Ks.map (·.1) ++ []), _) = _
        rw [List.append_nil]
      have HIo := hid HI.out.o
      have HIr := hid HI.out.r
      have HBr := hid HI.out.b
      have HVd : Hid (Vd wr (fun b => w.heap.size ≤ b ∧ b ≠ R) (.mk 3 0 [] (Ks.map (·.1))) (.slice ka i kc)) := HI.out.ok.rd (by unfold maxLen; simp) (fun b hb _ => ⟨hb.1, hb.2.1⟩) (fun b hb => ⟨(HI.out.ok.own.lt b hb).1, fun e => HI.out.s1 (by rw [hb, e])⟩)
      have HLn : Hid ((Ks.map (·.1)).length = i) := by rw [Hid, List.length_map]; exact HKL.out
      have HEs : Hid (s.size - (s.data.toList.drop E).length = E) := by
        have hz : s.data.size = s.size := rfl
        rw [Hid, List.length_drop, Array.length_toList, hz]
        omega
      have o0 : wr.cell? ⟨O, 0, none⟩ = some (i64 3) := blk_cell HIo.out 0
      have o1 : wr.cell? ⟨O, 1, none⟩ = some (i64 0) := blk_cell HIo.out 1
      have o2 : wr.cell? ⟨O, 2, none⟩ = some (str []) := blk_cell HIo.out 2
      have o3 : wr.cell? ⟨O, 3, none⟩ = some (.slice ka i kc) := blk_cell HIo.out 3
      have o4 : wr.cell? ⟨O, 4, none⟩ = some (i64 (E : Nat)) := blk_cell HIo.out 4
      have rc0 : wr.cell? ⟨R, 0, none⟩ = some (i64 0) := blk_cell HIr.out 0
      have rf0 : wr.frozen? ⟨R, 0, none⟩ = false := blk_frozen HIr.out 0
      have rc1 : wr.cell? ⟨R, 1, none⟩ = some (i64 0) := blk_cell HIr.out 1
      have rf1 : wr.frozen? ⟨R, 1, none⟩ = false := blk_frozen HIr.out 1
      have rc2 : wr.cell? ⟨R, 2, none⟩ = some (str []) := blk_cell HIr.out 2
      have rf2 : wr.frozen? ⟨R, 2, none⟩ = false := blk_frozen HIr.out 2
      have rc3 : wr.cell? ⟨R, 3, none⟩ = some (.slice none 0 0) := blk_cell HIr.out 3
      have rf3 : wr.frozen? ⟨R, 3, none⟩ = false := blk_frozen HIr.out 3
      have rc4 : wr.cell? ⟨R, 4, none⟩ = some (i64 0) := blk_cell HIr.out 4
      have rf4 : wr.frozen? ⟨R, 4, none⟩ = false := blk_frozen HIr.out 4
      clear HX HI
      go_wp2_with fail
      refine bodyPost_ret (v := gv 3 0 (str []) (.slice ka i kc) (E : Nat)) (results_one Tryz.results54 rfl (load85 (set5 HIr.out _ _ _ _ _))) rfl ?_
      refine ⟨below5 HBr.out HRe.out _ _ _ _ _, fun h => (by rw [HRes.out] at h; cases h), fun V r h => ?_⟩
      rw [HRes.out] at h
      cases h
      refine ⟨ka, kc, ?_, ?_⟩
      · rw [HEs.out]
        show _ = Ending.returned (gv 3 0 (str []) (.slice ka (Ks.map (·.1)).length kc) (E : Nat))
        rw [HLn.out]
      · show Vd _ _ _ (.slice ka (Ks.map (·.1)).length kc)
        rw [HLn.out]
        refine HVd.out.move (by simp [World.setCell]) fun b hb _ => ⟨hb.1, ?_⟩
        rw [Below.heap_setCell _ _ _ _ (show b ≠ R from hb.2), Below.heap_setCell _ _ _ _ (show b ≠ R from hb.2), Below.heap_setCell _ _ _ _ (show b ≠ R from hb.2), Below.heap_setCell _ _ _ _ (show b ≠ R from hb.2), Below.heap_setCell _ _ _ _ (show b ≠ R from hb.2)]
set_option maxRecDepth 100000 in
set_option maxHeartbeats 12800000 in
theorem kids7_4 (w : World) (s : ByteArray) (a m f : Nat) (tn : Int) (T : Ty) (an at_ : Option Addr) (ln cn lt_ ct : Nat) (S : Nat → Prop) (hs : s.size ≤ 1000000) (h : a + 2 ≤ s.size) (hm : (s[a + 1]'(by omega)).toNat = m) (hTk : T.kind = 4) (hTn : T.num = tn) (hf : T.formed = true) (h3 : T.kind = 3 → 0 < T.kids.length) (h4 : T.kind ≠ 3 → m ≤ T.kids.length) (hm4 : m = lt_) (hR : Rd w S T (.slice an ln cn) (.slice at_ lt_ ct))
    (hih : ∀ (P : Ty), P.formed = true → (∃ i, P = kidT T i ∧ (T.kind ≠ 3 → i < T.kids.length)) → ∀ (w : World) (S : Nat → Prop) (nv tv : Value) (b : Nat), b ≤ s.size → Rd w S P nv tv → Calls Tryz.prog 32 #[.string s, i64 (b : Nat), tyV P.kind P.num nv tv] w (Gk w s.size (rdV f P (s.data.toList.drop b)))) :
    Calls Tryz.prog 54 #[.string s, i64 (a : Nat), .agg #[i64 4, i64 tn, .slice an ln cn, .slice at_ lt_ ct]] w (Gk w s.size (resK 4 (rdL (rdV f) T 0 m (s.data.toList.drop (a + 2))))) := by
  obtain ⟨res, hres⟩ : ∃ res, res = rdL (rdV f) T 0 m (s.data.toList.drop (a + 2)) := ⟨_, rfl⟩
  rw [← hres]
  have HRes := hid hres
  have HIH := hid hih
  have HRd := hid hR
  have HF := hid hf
  have HK3 := hid h3
  have HK4 := hid h4
  have HTe : Hid (T.kind = 4 ∧ T.num = tn) := ⟨hTk, hTn⟩
  clear hres hih hR hf h3 h4 hTk hTn
  have hlt1 : a + 1 < s.size := by omega
  have hlt1I : (a : Int) + 1 < s.size := by omega
  have hcb := s[a + 1].toNat_lt
  rw [hm] at hcb
  have hq : ((m : Int) == (lt_ : Int)) = true := beq_iff_eq.2 (by omega)
  have hq2 : ((m : Int) != (lt_ : Int)) = false := by rw [bne, hq]; rfl
  clear hm4
  obtain ⟨h1, h2, hb0⟩ := two_boxes w (.cells #[i64 4, i64 tn, .slice an ln cn, .slice at_ lt_ ct] 35) (gO 0 0 (str []) (.slice none 0 0) 0)
  obtain ⟨Y, hY⟩ : ∃ Y, Y = w.heap.size := ⟨_, rfl⟩
  obtain ⟨R, hR⟩ : ∃ R, R = w.heap.size + 1 := ⟨_, rfl⟩
  obtain ⟨V, hV0⟩ : ∃ V, V = (w.alloc (.cells #[i64 4, i64 tn, .slice an ln cn, .slice at_ lt_ ct] 35)).alloc (gO 0 0 (str []) (.slice none 0 0) 0) := ⟨_, rfl⟩
  rw [← hV0, ← hY] at h1
  rw [← hV0, ← hR] at h2
  rw [← hV0] at hb0
  have HS : Hid (Ry R Y (.cells #[i64 4, i64 tn, .slice an ln cn, .slice at_ lt_ ct] 35) V) := ⟨h2, h1⟩
  have HB := hid hb0
  have HRe : Hid (w.heap.size ≤ R) := by show _ ≤ _; omega
  have HYe : Hid (w.heap.size ≤ Y ∧ Y < R) := by show _ ∧ _; omega
  clear h1 h2 hb0
  go_enter Tryz.func54, Tryz.ntmps54
  go_upto_region 1 with fail
  rw [← hV0, ← hR, ← hY]
  clear hV0 hR hY
  have yc0 : V.cell? ⟨Y, 0, none⟩ = some (i64 4) := blk_cell HS.out.y 0
  have yc1 : V.cell? ⟨Y, 1, none⟩ = some (i64 tn) := blk_cell HS.out.y 1
  have yc2 : V.cell? ⟨Y, 2, none⟩ = some (.slice an ln cn) := blk_cell HS.out.y 2
  have yc3 : V.cell? ⟨Y, 3, none⟩ = some (.slice at_ lt_ ct) := blk_cell HS.out.y 3
  have HVs : Hid (R < V.heap.size) := blk_lt HS.out.r
  go_upto_region 5 with fail
  obtain ⟨O, hO⟩ : ∃ O, O = V.heap.size := ⟨_, rfl⟩
  have HOe : Hid (w.heap.size ≤ O ∧ R ≠ O ∧ Y ≠ O) := by
    have h1 := HVs.out
    have h2 := HB.out.size
    have h3 := HYe.out
    show _ ∧ _ ∧ _
    omega
  have HI0 : Hid (GfI w (V.alloc (gO 4 0 (str []) (.slice none 0 0) ((a + 2 : Nat) : Int))) R O 4 (.slice none 0 0) ((a + 2 : Nat) : Int) []) := ⟨blk_alloc HS.out.r _, by rw [hO]; exact heap_last V _, VKids.nil _ _ _ _, by simp [Value.ownBlock], by simp [Value.ownBlock], HB.out.alloc HB.out.size _⟩
  have HY0 : Hid ((V.alloc (gO 4 0 (str []) (.slice none 0 0) ((a + 2 : Nat) : Int))).heap[Y]? = some (.cells #[i64 4, i64 tn, .slice an ln cn, .slice at_ lt_ ct] 35)) := blk_alloc HS.out.y _
  have hcst : ((a : Int) + 2) = ((a + 2 : Nat) : Int) := by omega
  rw [← hO, hcst]
  clear hO yc0 yc1 yc2 yc3 hcst HS HB
  generalize V.alloc (gO 4 0 (str []) (.slice none 0 0) ((a + 2 : Nat) : Int)) = V1 at *
  have HX0 : Hid (res = joinJ (([] : List Kv).map (·.1)) (rdL (rdV f) T 0 (m - 0) (s.data.toList.drop (a + 2)))) := by
    rw [Hid, HRes.out]
    show rdL (rdV f) T 0 m (s.data.toList.drop (a + 2)) = _
    cases rdL (rdV f) T 0 m (s.data.toList.drop (a + 2)) with
    | none => rfl
    | some x => rfl
  clear HRes HVs
  go_wp2_with fail
  go_loopw [9] (fun u wr => ∃ (i E : Nat) (kv : Value) (Ks : List Kv), i ≤ m ∧ u = i64 i ∧ Hid (E ≤ s.size) ∧ Hid (Ks.length = i) ∧ Hid (GfI w wr R O 4 kv (E : Nat) Ks) ∧ Hid (wr.heap[Y]? = some (.cells #[i64 4, i64 tn, .slice an ln cn, .slice at_ lt_ ct] 35)) ∧ Hid (res = joinJ (Ks.map (·.1)) (rdL (rdV f) T i (m - i) (s.data.toList.drop E)))) (fun u _ => m - (intOf u).toNat)
  case atStart => exact ⟨0, a + 2, _, [], by omega, rfl, h, rfl, HI0, HY0, HX0⟩
  case round =>
    obtain ⟨i, E, kvr, Ks, hi, rfl, HEl, hKs, HI, HYr, HX⟩ := hrel
    clear HI0 HY0 HX0
    obtain ⟨ka, kc, rfl⟩ := HI.out.slice
    have hE : E ≤ s.size := HEl.out
    rw [hKs.out] at HI
    have HKL := hKs
    clear hKs
    by_cases hlt : i < m
    · have hltI : (i : Int) < m := by omega
      have HX1 : Hid (res = joinJ (Ks.map (·.1)) (match rdV f (kidT T i) (s.data.toList.drop E) with | none => none | some (v, r) => joinJ [v] (rdL (rdV f) T (i + 1) (m - (i + 1)) r))) := by
        have h1 := HX.out
        rw [show m - i = (m - (i + 1)) + 1 by omega, rdL_j] at h1
        exact h1
      have hr3 : T.kind = 3 → 0 < T.kids.length := HK3.out
      have hr4 : T.kind ≠ 3 → i < T.kids.length := fun h => Nat.lt_of_lt_of_le hlt (HK4.out h)
      have HFK : Hid ((kidT T i).formed = true) := kidT_formed HF.out i hr3 hr4
      have HR3 := hid hr3
      have HR4 := hid hr4
      have HIs : Hid (∃ j, kidT T i = kidT T j ∧ (T.kind ≠ 3 → j < T.kids.length)) := ⟨i, rfl, hr4⟩
      have HYn : Hid (some Y ≠ (Value.slice ka i kc).ownBlock) := fun e => by
        rcases HI.out.ok.own.2 with ⟨h2, _⟩ | ⟨g', c', cur', h2, _, hgg, _⟩
        · rw [h2] at e; cases e
        · rw [h2] at e
          have h3 : g' = Y := by simpa [Value.ownBlock, eq_comm] using e
          rw [h3, HYr.out] at hgg
          simp at hgg
      have HLt : Hid (R < wr.heap.size ∧ O < wr.heap.size ∧ Y < wr.heap.size ∧ ∀ b, (Value.slice ka i kc).ownBlock = some b → b < wr.heap.size) := ⟨blk_lt HI.out.r, blk_lt HI.out.o, blk_lt HYr.out, fun b hb => (HI.out.ok.own.lt b hb).2⟩
      have HSd : Hid (Oy O Y (gO 4 0 (str []) (.slice ka i kc) (E : Nat)) (.cells #[i64 4, i64 tn, .slice an ln cn, .slice at_ lt_ ct] 35) wr.drew) := ⟨HI.out.o, HYr.out⟩
      have HD0 : Hid (Below wr.heap.size wr wr.drew) := (Below.refl _ _).drew
      have HKD : Hid (∀ W, Below wr.heap.size wr W → Calls Tryz.prog 46 #[.agg #[i64 4, i64 tn, .slice an ln cn, .slice at_ lt_ ct], i64 i] W fun e w' => ∃ a1 c1 a2 c2, e = .returned (tyV (kidT T i).kind (kidT T i).num (.slice a1 (kidT T i).names.length c1) (.slice a2 (kidT T i).kids.length c2)) ∧ Below W.heap.size W w' ∧ Rd w' S (kidT T i) (.slice a1 (kidT T i).names.length c1) (.slice a2 (kidT T i).kids.length c2)) := fun W hW => by
        have := kid_ok T i W S _ _ (HRd.out.under (HI.out.b.trans (hW.mono HI.out.b.size))) HR3.out HR4.out
        rw [HTe.out.1, HTe.out.2] at this
        exact this
      clear hr3 hr4 HX
      generalize hP : kidT T i = P at *
      have HRb : Hid (∀ v r, rdV f P (s.data.toList.drop E) = some (v, r) → s.data.toList.drop (s.size - r.length) = r ∧ r.length ≤ s.size - E) := fun v r h => drop_suf hE (rdV_back f v P _ r h)
      obtain ⟨rs, hrs⟩ : ∃ rs, rs = rdV f P (s.data.toList.drop E) := ⟨_, rfl⟩
      have HTk : Hid (∀ W S nv tv, Rd W S P nv tv → Calls Tryz.prog 32 #[.string s, i64 (E : Nat), tyV P.kind P.num nv tv] W (Gk W s.size rs)) := fun W S nv tv h => by rw [hrs]; exact HIH.out P HFK.out HIs.out W S nv tv E hE h
      rw [← hrs] at HX1 HRb
      clear hrs hP
      go_upto_region 8 with fail
      refine wp_region_noPanic ?_
      refine wp_region_last (Oy O Y (gO 4 0 (str []) (.slice ka i kc) (E : Nat)) (.cells #[i64 4, i64 tn, .slice an ln cn, .slice at_ lt_ ct] 35)) 8 (by kernel_rfl) ?_
      refine wpL_take 0 38 (.string s) [] rfl rfl (by kernel_rfl) (by decide) (by kernel_rfl) (by kernel_rfl) (by kernel_rfl) (fun _ _ _ h => h) HSd.out (by rfl) (fun W hW => by have o4 : W.cell? ⟨O, 4, none⟩ = some (i64 (E : Nat)) := blk_cell hW.o 4; have f0 : W.cell? ⟨Y, 0, none⟩ = some (i64 4) := blk_cell hW.y 0; have f1 : W.cell? ⟨Y, 1, none⟩ = some (i64 tn) := blk_cell hW.y 1; have f2 : W.cell? ⟨Y, 2, none⟩ = some (.slice an ln cn) := blk_cell hW.y 2; have f3 : W.cell? ⟨Y, 3, none⟩ = some (.slice at_ lt_ ct) := blk_cell hW.y 3; go_simp) ?_
      simp only [Act.put, List.setIfInBounds_toArray, List.set_cons_zero, List.set_cons_succ]
      refine wpL_take 1 39 (.pointer (some ⟨O, 4, none⟩)) [] rfl rfl (by kernel_rfl) (by decide) (by kernel_rfl) (by kernel_rfl) (by kernel_rfl) (fun _ _ _ h => h) HSd.out (by rfl) (fun W hW => by have o4 : W.cell? ⟨O, 4, none⟩ = some (i64 (E : Nat)) := blk_cell hW.o 4; have f0 : W.cell? ⟨Y, 0, none⟩ = some (i64 4) := blk_cell hW.y 0; have f1 : W.cell? ⟨Y, 1, none⟩ = some (i64 tn) := blk_cell hW.y 1; have f2 : W.cell? ⟨Y, 2, none⟩ = some (.slice an ln cn) := blk_cell hW.y 2; have f3 : W.cell? ⟨Y, 3, none⟩ = some (.slice at_ lt_ ct) := blk_cell hW.y 3; go_simp) ?_
      simp only [Act.put, List.setIfInBounds_toArray, List.set_cons_zero, List.set_cons_succ]
      refine wpL_take 2 40 (i64 (E : Nat)) [] rfl rfl (by kernel_rfl) (by decide) (by kernel_rfl) (by kernel_rfl) (by kernel_rfl) (fun _ _ _ h => h) HSd.out (by rfl) (fun W hW => by have o4 : W.cell? ⟨O, 4, none⟩ = some (i64 (E : Nat)) := blk_cell hW.o 4; have f0 : W.cell? ⟨Y, 0, none⟩ = some (i64 4) := blk_cell hW.y 0; have f1 : W.cell? ⟨Y, 1, none⟩ = some (i64 tn) := blk_cell hW.y 1; have f2 : W.cell? ⟨Y, 2, none⟩ = some (.slice an ln cn) := blk_cell hW.y 2; have f3 : W.cell? ⟨Y, 3, none⟩ = some (.slice at_ lt_ ct) := blk_cell hW.y 3; go_simp) ?_
      simp only [Act.put, List.setIfInBounds_toArray, List.set_cons_zero, List.set_cons_succ]
      refine wpL_take 3 41 (.agg #[i64 4, i64 tn, .slice an ln cn, .slice at_ lt_ ct]) [] rfl rfl (by kernel_rfl) (by decide) (by kernel_rfl) (by kernel_rfl) (by kernel_rfl) (fun _ _ _ h => h) HSd.out (by rfl) (fun W hW => by have o4 : W.cell? ⟨O, 4, none⟩ = some (i64 (E : Nat)) := blk_cell hW.o 4; have f0 : W.cell? ⟨Y, 0, none⟩ = some (i64 4) := blk_cell hW.y 0; have f1 : W.cell? ⟨Y, 1, none⟩ = some (i64 tn) := blk_cell hW.y 1; have f2 : W.cell? ⟨Y, 2, none⟩ = some (.slice an ln cn) := blk_cell hW.y 2; have f3 : W.cell? ⟨Y, 3, none⟩ = some (.slice at_ lt_ ct) := blk_cell hW.y 3; go_simp) ?_
      simp only [Act.put, List.setIfInBounds_toArray, List.set_cons_zero, List.set_cons_succ]
      refine wpL_take 4 42 (i64 i) [] rfl rfl (by kernel_rfl) (by decide) (by kernel_rfl) (by kernel_rfl) (by kernel_rfl) (fun _ _ _ h => h) HSd.out (by rfl) (fun W hW => by have o4 : W.cell? ⟨O, 4, none⟩ = some (i64 (E : Nat)) := blk_cell hW.o 4; have f0 : W.cell? ⟨Y, 0, none⟩ = some (i64 4) := blk_cell hW.y 0; have f1 : W.cell? ⟨Y, 1, none⟩ = some (i64 tn) := blk_cell hW.y 1; have f2 : W.cell? ⟨Y, 2, none⟩ = some (.slice an ln cn) := blk_cell hW.y 2; have f3 : W.cell? ⟨Y, 3, none⟩ = some (.slice at_ lt_ ct) := blk_cell hW.y 3; go_simp) ?_
      simp only [Act.put, List.setIfInBounds_toArray, List.set_cons_zero, List.set_cons_succ]
      refine wpL_two 5 7 rfl rfl (by kernel_rfl) (by rfl) (by rfl) (fun K0 hK0 => ?_) (fun K0 hK0 => ?_)
      · go_simp
        refine (HKD.out wr.drew HD0.out).mono ?_
        rintro e w4 ⟨p1, q1, p2, q2, rfl, hb4, hr4⟩
        have HD4 : Hid (Below wr.heap.size wr w4) := HD0.out.trans (hb4.mono HD0.out.size)
        have HS4 := hid (HSd.out.below hb4)
        have HR4' := hid hr4
        clear hb4 hr4
        go_simp
        refine hK0.out _ _ (fun _ => HS4.out) ?_
        clear hK0 K0
        have HRt := HR4'
        refine wpL_two 6 7 rfl rfl (by kernel_rfl) (by rfl) (by rfl) (fun K0 hK0 => ?_) (fun K0 hK0 => ?_)
        · go_simp
          refine (HTk.out w4 S _ _ HRt.out).mono ?_
          rintro e w6 hgk
          cases hrs : rs with
          | none =>
            obtain rfl := hgk.no hrs
            have HX1 := HX1
            rw [hrs] at HX1
            have HB6 := hid hgk.b
            have HD6 : Hid (Below wr.heap.size wr w6) := HD4.out.trans (hgk.b.mono HD4.out.size)
            have HS6 := hid (HS4.out.below hgk.b)
            clear hrs hgk
            go_simp
            refine hK0.out _ _ (fun _ => HS6.out) ?_
            clear hK0 K0
            obtain ⟨G, hG⟩ : ∃ G, G = w6.heap.size := ⟨_, rfl⟩
            have HGe : Hid (wr.heap.size ≤ G) := by rw [hG]; exact HD6.out.size
            have HD7 : Hid (Below wr.heap.size wr (w6.alloc (gO 0 0 (str []) (.slice none 0 0) 0))) := HD6.out.alloc HD6.out.size _
            have HG7 : Hid ((w6.alloc (gO 0 0 (str []) (.slice none 0 0) 0)).heap[G]? = some (gO 0 0 (str []) (.slice none 0 0) 0)) := by rw [hG]; exact heap_last w6 _
            have HS7 := hid (HS6.out.below (below_one w6 (gO 0 0 (str []) (.slice none 0 0) 0)))
            refine wpL_one 7 rfl (by kernel_rfl) (by rfl) (fun K7 hK7 => ?_)
            go_simp
            refine hK7.out _ _ (fun _ => HS7.out) ?_
            clear hK7 K7
            rw [← hG]
            clear hG
            generalize w6.alloc (gO 0 0 (str []) (.slice none 0 0) 0) = X7 at *
            have HDf : Hid (Below wr.heap.size wr ((((((X7).setCell ⟨G, 0, none⟩ (i64 0)).setCell ⟨G, 1, none⟩ (i64 0)).setCell ⟨G, 2, none⟩ (str [])).setCell ⟨G, 3, none⟩ (.slice none 0 0)).setCell ⟨G, 4, none⟩ (i64 (-1)))) := below5 HD7.out HGe.out _ _ _ _ _
            have HGf : Hid (((((((X7).setCell ⟨G, 0, none⟩ (i64 0)).setCell ⟨G, 1, none⟩ (i64 0)).setCell ⟨G, 2, none⟩ (str [])).setCell ⟨G, 3, none⟩ (.slice none 0 0)).setCell ⟨G, 4, none⟩ (i64 (-1))).heap[G]? = some (.cells #[i64 0, i64 0, str [], .slice none 0 0, i64 (-1)] 85)) := set5 HG7.out _ _ _ _ _
            have rg0 : X7.cell? ⟨G, 0, none⟩ = some (i64 0) := blk_cell HG7.out 0
            have gf0 : X7.frozen? ⟨G, 0, none⟩ = false := blk_frozen HG7.out 0
            have rg1 : X7.cell? ⟨G, 1, none⟩ = some (i64 0) := blk_cell HG7.out 1
            have gf1 : X7.frozen? ⟨G, 1, none⟩ = false := blk_frozen HG7.out 1
            have rg2 : X7.cell? ⟨G, 2, none⟩ = some (str []) := blk_cell HG7.out 2
            have gf2 : X7.frozen? ⟨G, 2, none⟩ = false := blk_frozen HG7.out 2
            have rg3 : X7.cell? ⟨G, 3, none⟩ = some (.slice none 0 0) := blk_cell HG7.out 3
            have gf3 : X7.frozen? ⟨G, 3, none⟩ = false := blk_frozen HG7.out 3
            have rg4 : X7.cell? ⟨G, 4, none⟩ = some (i64 0) := blk_cell HG7.out 4
            have gf4 : X7.frozen? ⟨G, 4, none⟩ = false := blk_frozen HG7.out 4
            refine wpL_one 8 rfl (by kernel_rfl) (by rfl) (fun K8 hK8 => ?_)
            go_simp
            refine hK8.out _ _ (fun h => absurd rfl h) ?_
            clear hK8 K8
            refine wpL_done (by kernel_rfl) ?_
            refine NoPanic.normal ?_
            clear rg0 rg1 rg2 rg3 rg4 gf0 gf1 gf2 gf3 gf4
            generalize ((((((X7).setCell ⟨G, 0, none⟩ (i64 0)).setCell ⟨G, 1, none⟩ (i64 0)).setCell ⟨G, 2, none⟩ (str [])).setCell ⟨G, 3, none⟩ (.slice none 0 0)).setCell ⟨G, 4, none⟩ (i64 (-1))) = Xf at *
            have HBf : Hid (Below w.heap.size w Xf) := HI.out.b.trans (HDf.out.mono HI.out.b.size)
            have HRf : Hid (Xf.heap[R]? = some (gO 0 0 (str []) (.slice none 0 0) 0)) := blk_below HI.out.r HDf.out
            have hN : res = none := by rw [HX1.out]; rfl
            have HN := hid hN
            have g4 : Xf.cell? ⟨G, 4, none⟩ = some (i64 (-1)) := blk_cell HGf.out 4
            clear hN
            have rc0 : Xf.cell? ⟨R, 0, none⟩ = some (i64 0) := blk_cell HRf.out 0
            have rf0 : Xf.frozen? ⟨R, 0, none⟩ = false := blk_frozen HRf.out 0
            have rc1 : Xf.cell? ⟨R, 1, none⟩ = some (i64 0) := blk_cell HRf.out 1
            have rf1 : Xf.frozen? ⟨R, 1, none⟩ = false := blk_frozen HRf.out 1
            have rc2 : Xf.cell? ⟨R, 2, none⟩ = some (str []) := blk_cell HRf.out 2
            have rf2 : Xf.frozen? ⟨R, 2, none⟩ = false := blk_frozen HRf.out 2
            have rc3 : Xf.cell? ⟨R, 3, none⟩ = some (.slice none 0 0) := blk_cell HRf.out 3
            have rf3 : Xf.frozen? ⟨R, 3, none⟩ = false := blk_frozen HRf.out 3
            have rc4 : Xf.cell? ⟨R, 4, none⟩ = some (i64 0) := blk_cell HRf.out 4
            have rf4 : Xf.frozen? ⟨R, 4, none⟩ = false := blk_frozen HRf.out 4
            go_wp2_with fail
            refine bodyPost_ret (v := gv 0 0 (str []) (.slice none 0 0) (-1)) (results_one Tryz.results54 rfl (load85 (set5 HRf.out _ _ _ _ _))) rfl ?_
            exact ⟨below5 HBf.out HRe.out _ _ _ _ _, fun _ => rfl, fun V r h => (by rw [HN.out] at h; cases h)⟩
          | some vr =>
            obtain ⟨v, r⟩ := vr
            obtain ⟨p6, c6, rfl, hv6⟩ := hgk.yes v r hrs
            obtain ⟨hF1, hF2⟩ := HRb.out v r hrs
            obtain ⟨F, hF⟩ : ∃ F, F = s.size - r.length := ⟨_, rfl⟩
            rw [← hF] at hF1 ⊢
            have HFs : Hid (F ≤ s.size) := by show _ ≤ _; omega
            have HFd : Hid (r = s.data.toList.drop F) := hF1.symm
            have hFI : ¬ ((F : Int) < 0) := by omega
            have HV6 := hid hv6
            clear hF1 hF2 hF hv6
            have HX1 := HX1
            rw [hrs] at HX1
            have HB6 := hid hgk.b
            have HD6 : Hid (Below wr.heap.size wr w6) := HD4.out.trans (hgk.b.mono HD4.out.size)
            have HS6 := hid (HS4.out.below hgk.b)
            clear hrs hgk
            go_simp
            refine hK0.out _ _ (fun _ => HS6.out) ?_
            clear hK0 K0
            obtain ⟨G, hG⟩ : ∃ G, G = w6.heap.size := ⟨_, rfl⟩
            have HGe : Hid (wr.heap.size ≤ G) := by rw [hG]; exact HD6.out.size
            have HD7 : Hid (Below wr.heap.size wr (w6.alloc (gO 0 0 (str []) (.slice none 0 0) 0))) := HD6.out.alloc HD6.out.size _
            have HG7 : Hid ((w6.alloc (gO 0 0 (str []) (.slice none 0 0) 0)).heap[G]? = some (gO 0 0 (str []) (.slice none 0 0) 0)) := by rw [hG]; exact heap_last w6 _
            have HS7 := hid (HS6.out.below (below_one w6 (gO 0 0 (str []) (.slice none 0 0) 0)))
            have HV7 : Hid (Vd (w6.alloc (gO 0 0 (str []) (.slice none 0 0) 0)) (fun b => wr.heap.size ≤ b ∧ b ≠ G) v (.slice p6 v.kids.length c6)) := HV6.out.move (below_one w6 _).size fun b hb hlt => ⟨⟨Nat.le_trans HD4.out.size hb, by omega⟩, (below_one w6 _).block b hlt⟩
            refine wpL_one 7 rfl (by kernel_rfl) (by rfl) (fun K7 hK7 => ?_)
            go_simp
            refine hK7.out _ _ (fun _ => HS7.out) ?_
            clear hK7 K7
            rw [← hG]
            clear hG
            generalize w6.alloc (gO 0 0 (str []) (.slice none 0 0) 0) = X7 at *
            have HDf : Hid (Below wr.heap.size wr ((((((X7).setCell ⟨G, 0, none⟩ (i64 v.kind)).setCell ⟨G, 1, none⟩ (i64 v.num)).setCell ⟨G, 2, none⟩ (str v.s)).setCell ⟨G, 3, none⟩ (.slice p6 v.kids.length c6)).setCell ⟨G, 4, none⟩ (i64 (F : Nat)))) := below5 HD7.out HGe.out _ _ _ _ _
            have HGf : Hid (((((((X7).setCell ⟨G, 0, none⟩ (i64 v.kind)).setCell ⟨G, 1, none⟩ (i64 v.num)).setCell ⟨G, 2, none⟩ (str v.s)).setCell ⟨G, 3, none⟩ (.slice p6 v.kids.length c6)).setCell ⟨G, 4, none⟩ (i64 (F : Nat))).heap[G]? = some (.cells #[i64 v.kind, i64 v.num, str v.s, .slice p6 v.kids.length c6, i64 (F : Nat)] 85)) := set5 HG7.out _ _ _ _ _
            have HVf : Hid (Vd ((((((X7).setCell ⟨G, 0, none⟩ (i64 v.kind)).setCell ⟨G, 1, none⟩ (i64 v.num)).setCell ⟨G, 2, none⟩ (str v.s)).setCell ⟨G, 3, none⟩ (.slice p6 v.kids.length c6)).setCell ⟨G, 4, none⟩ (i64 (F : Nat))) (fun b => Avw w.heap.size R O b ∧ some b ≠ (Value.slice ka i kc).ownBlock) v (.slice p6 v.kids.length c6)) := HV7.out.move (by simp [World.setCell]) fun b hb _ => ⟨⟨⟨by have := HI.out.b.size; omega, by have := HLt.out.1; omega, by have := HLt.out.2.1; omega⟩, fun e => by have := HLt.out.2.2.2 b e.symm; omega⟩, by
              rw [Below.heap_setCell _ _ _ _ (show b ≠ G from hb.2), Below.heap_setCell _ _ _ _ (show b ≠ G from hb.2), Below.heap_setCell _ _ _ _ (show b ≠ G from hb.2), Below.heap_setCell _ _ _ _ (show b ≠ G from hb.2), Below.heap_setCell _ _ _ _ (show b ≠ G from hb.2)]⟩
            have rg0 : X7.cell? ⟨G, 0, none⟩ = some (i64 0) := blk_cell HG7.out 0
            have gf0 : X7.frozen? ⟨G, 0, none⟩ = false := blk_frozen HG7.out 0
            have rg1 : X7.cell? ⟨G, 1, none⟩ = some (i64 0) := blk_cell HG7.out 1
            have gf1 : X7.frozen? ⟨G, 1, none⟩ = false := blk_frozen HG7.out 1
            have rg2 : X7.cell? ⟨G, 2, none⟩ = some (str []) := blk_cell HG7.out 2
            have gf2 : X7.frozen? ⟨G, 2, none⟩ = false := blk_frozen HG7.out 2
            have rg3 : X7.cell? ⟨G, 3, none⟩ = some (.slice none 0 0) := blk_cell HG7.out 3
            have gf3 : X7.frozen? ⟨G, 3, none⟩ = false := blk_frozen HG7.out 3
            have rg4 : X7.cell? ⟨G, 4, none⟩ = some (i64 0) := blk_cell HG7.out 4
            have gf4 : X7.frozen? ⟨G, 4, none⟩ = false := blk_frozen HG7.out 4
            refine wpL_one 8 rfl (by kernel_rfl) (by rfl) (fun K8 hK8 => ?_)
            go_simp
            refine hK8.out _ _ (fun h => absurd rfl h) ?_
            clear hK8 K8
            refine wpL_done (by kernel_rfl) ?_
            refine NoPanic.normal ?_
            clear rg0 rg1 rg2 rg3 rg4 gf0 gf1 gf2 gf3 gf4
            generalize ((((((X7).setCell ⟨G, 0, none⟩ (i64 v.kind)).setCell ⟨G, 1, none⟩ (i64 v.num)).setCell ⟨G, 2, none⟩ (str v.s)).setCell ⟨G, 3, none⟩ (.slice p6 v.kids.length c6)).setCell ⟨G, 4, none⟩ (i64 (F : Nat))) = Xf at *
            have HIf := hid (HI.out.below HDf.out)
            have HYf : Hid (Xf.heap[Y]? = some (.cells #[i64 4, i64 tn, .slice an ln cn, .slice at_ lt_ ct] 35)) := blk_below HYr.out HDf.out
            have HGl := blk_lt HGf.out
            obtain ⟨ao9, cap9, Y9, hrun, hO9, hG9, hY9, hI9⟩ := gf_push HIf.out HOe.out.1 HOe.out.2.1 v p6 _ c6 HVf.out (by rw [HKL.out]; omega) G Y _ _ HGf.out (fun e => by have := HLt.out.2.2.2 G e.symm; have := HGe.out; omega) (by have := HLt.out.2.1; have := HGe.out; omega) HYf.out HYn.out HOe.out.2.2
            rw [HKL.out] at hrun hG9 hY9 hI9
            have HRUN := hid hrun
            have HI9 := hid hI9
            have HG9 := hid hG9
            have HY9 := hid hY9
            have oc3 : Y9.cell? ⟨O, 3, none⟩ = some (.slice ka i kc) := blk_cell hO9 3
            have of3 : Y9.frozen? ⟨O, 3, none⟩ = false := blk_frozen hO9 3
            have o3 : Xf.cell? ⟨O, 3, none⟩ = some (.slice ka i kc) := blk_cell HIf.out.o 3
            have g0 : Xf.cell? ⟨G, 0, none⟩ = some (i64 v.kind) := blk_cell HGf.out 0
            have g1 : Xf.cell? ⟨G, 1, none⟩ = some (i64 v.num) := blk_cell HGf.out 1
            have g2 : Xf.cell? ⟨G, 2, none⟩ = some (str v.s) := blk_cell HGf.out 2
            have g3 : Xf.cell? ⟨G, 3, none⟩ = some (.slice p6 v.kids.length c6) := blk_cell HGf.out 3
            have g4 : Xf.cell? ⟨G, 4, none⟩ = some (i64 (F : Nat)) := blk_cell HGf.out 4
            clear hrun hI9 hO9 hG9 hY9
            go_upto_region 12 with (at_builtin; refine wpList_app_run rfl (.tmp 51) (.tmp 54) 36 rfl _ _ rfl rfl 36 rfl _ _ HRUN.out ?_)
            clear oc3 of3 o3 g0 g1 g2 g3 g4
            generalize Y9.setCell ⟨O, 3, none⟩ (.slice ao9 (i + 1) cap9) = Z9 at *
            have o4 : Z9.cell? ⟨O, 4, none⟩ = some (i64 (E : Nat)) := blk_cell HI9.out.o 4
            have of4 : Z9.frozen? ⟨O, 4, none⟩ = false := blk_frozen HI9.out.o 4
            have g4 : Z9.cell? ⟨G, 4, none⟩ = some (i64 (F : Nat)) := blk_cell HG9.out 4
            have HIe := hid (gf_end (m' := (F : Nat)) HI9.out HOe.out.1 HOe.out.2.1)
            have HYe2 : Hid ((Z9.setCell ⟨O, 4, none⟩ (i64 (F : Nat))).heap[Y]? = some (.cells #[i64 4, i64 tn, .slice an ln cn, .slice at_ lt_ ct] 35)) := (Below.heap_setCell _ _ _ _ (show Y ≠ O from HOe.out.2.2)).trans HY9.out
            have HXe : Hid (res = joinJ ((Ks ++ [((v, Value.slice p6 v.kids.length c6) : Kv)]).map (·.1)) (rdL (rdV f) T (i + 1) (m - (i + 1)) (s.data.toList.drop F))) := by
              rw [Hid, HX1.out, HFd.out]
              show joinJ _ (joinJ [v] _) = _
              rw [joinJ_app, List.map_append]
              rfl
            have hKe : (Ks ++ [((v, Value.slice p6 v.kids.length c6) : Kv)]).length = i + 1 := by rw [List.length_append, HKL.out]; rfl
            go_wp2_with fail
            exact ⟨⟨i + 1, by omega, by omega, F, HFs, _, _, hKe, HIe, HXe⟩, by simp [intOf]; omega⟩
        · obtain ⟨G, hG⟩ : ∃ G, G = w4.heap.size := ⟨_, rfl⟩
          have HGe : Hid (wr.heap.size ≤ G) := by rw [hG]; exact HD4.out.size
          have HD5 : Hid (Below wr.heap.size wr (w4.alloc (gO 0 0 (str []) (.slice none 0 0) 0))) := HD4.out.alloc HD4.out.size _
          have HG5 : Hid ((w4.alloc (gO 0 0 (str []) (.slice none 0 0) 0)).heap[G]? = some (gO 0 0 (str []) (.slice none 0 0) 0)) := by rw [hG]; exact heap_last w4 _
          have HS5 := hid (HS4.out.below (below_one w4 (gO 0 0 (str []) (.slice none 0 0) 0)))
          have HRt := hid (HR4'.out.under (below_one w4 (gO 0 0 (str []) (.slice none 0 0) 0)))
          go_simp
          refine hK0.out _ _ (fun _ => HS5.out) ?_
          clear hK0 K0
          rw [← hG]
          clear hG
          generalize w4.alloc (gO 0 0 (str []) (.slice none 0 0) 0) = X5 at *
          refine wpL_one 6 rfl (by kernel_rfl) (by rfl) (fun K0 hK0 => ?_)
          go_simp
          refine (HTk.out X5 S _ _ HRt.out).mono ?_
          rintro e w6 hgk
          cases hrs : rs with
          | none =>
            obtain rfl := hgk.no hrs
            have HX1 := HX1
            rw [hrs] at HX1
            have HB6 := hid hgk.b
            have HD6 : Hid (Below wr.heap.size wr w6) := HD5.out.trans (hgk.b.mono HD5.out.size)
            have HS6 := hid (HS5.out.below hgk.b)
            clear hrs hgk
            go_simp
            refine hK0.out _ _ (fun _ => HS6.out) ?_
            clear hK0 K0
            have HG7 : Hid (w6.heap[G]? = some (gO 0 0 (str []) (.slice none 0 0) 0)) := blk_below HG5.out HB6.out
            have HD7 := HD6
            generalize w6 = X7 at *
            have HDf : Hid (Below wr.heap.size wr ((((((X7).setCell ⟨G, 0, none⟩ (i64 0)).setCell ⟨G, 1, none⟩ (i64 0)).setCell ⟨G, 2, none⟩ (str [])).setCell ⟨G, 3, none⟩ (.slice none 0 0)).setCell ⟨G, 4, none⟩ (i64 (-1)))) := below5 HD7.out HGe.out _ _ _ _ _
            have HGf : Hid (((((((X7).setCell ⟨G, 0, none⟩ (i64 0)).setCell ⟨G, 1, none⟩ (i64 0)).setCell ⟨G, 2, none⟩ (str [])).setCell ⟨G, 3, none⟩ (.slice none 0 0)).setCell ⟨G, 4, none⟩ (i64 (-1))).heap[G]? = some (.cells #[i64 0, i64 0, str [], .slice none 0 0, i64 (-1)] 85)) := set5 HG7.out _ _ _ _ _
            have rg0 : X7.cell? ⟨G, 0, none⟩ = some (i64 0) := blk_cell HG7.out 0
            have gf0 : X7.frozen? ⟨G, 0, none⟩ = false := blk_frozen HG7.out 0
            have rg1 : X7.cell? ⟨G, 1, none⟩ = some (i64 0) := blk_cell HG7.out 1
            have gf1 : X7.frozen? ⟨G, 1, none⟩ = false := blk_frozen HG7.out 1
            have rg2 : X7.cell? ⟨G, 2, none⟩ = some (str []) := blk_cell HG7.out 2
            have gf2 : X7.frozen? ⟨G, 2, none⟩ = false := blk_frozen HG7.out 2
            have rg3 : X7.cell? ⟨G, 3, none⟩ = some (.slice none 0 0) := blk_cell HG7.out 3
            have gf3 : X7.frozen? ⟨G, 3, none⟩ = false := blk_frozen HG7.out 3
            have rg4 : X7.cell? ⟨G, 4, none⟩ = some (i64 0) := blk_cell HG7.out 4
            have gf4 : X7.frozen? ⟨G, 4, none⟩ = false := blk_frozen HG7.out 4
            refine wpL_one 8 rfl (by kernel_rfl) (by rfl) (fun K8 hK8 => ?_)
            go_simp
            refine hK8.out _ _ (fun h => absurd rfl h) ?_
            clear hK8 K8
            refine wpL_done (by kernel_rfl) ?_
            refine NoPanic.normal ?_
            clear rg0 rg1 rg2 rg3 rg4 gf0 gf1 gf2 gf3 gf4
            generalize ((((((X7).setCell ⟨G, 0, none⟩ (i64 0)).setCell ⟨G, 1, none⟩ (i64 0)).setCell ⟨G, 2, none⟩ (str [])).setCell ⟨G, 3, none⟩ (.slice none 0 0)).setCell ⟨G, 4, none⟩ (i64 (-1))) = Xf at *
            have HBf : Hid (Below w.heap.size w Xf) := HI.out.b.trans (HDf.out.mono HI.out.b.size)
            have HRf : Hid (Xf.heap[R]? = some (gO 0 0 (str []) (.slice none 0 0) 0)) := blk_below HI.out.r HDf.out
            have hN : res = none := by rw [HX1.out]; rfl
            have HN := hid hN
            have g4 : Xf.cell? ⟨G, 4, none⟩ = some (i64 (-1)) := blk_cell HGf.out 4
            clear hN
            have rc0 : Xf.cell? ⟨R, 0, none⟩ = some (i64 0) := blk_cell HRf.out 0
            have rf0 : Xf.frozen? ⟨R, 0, none⟩ = false := blk_frozen HRf.out 0
            have rc1 : Xf.cell? ⟨R, 1, none⟩ = some (i64 0) := blk_cell HRf.out 1
            have rf1 : Xf.frozen? ⟨R, 1, none⟩ = false := blk_frozen HRf.out 1
            have rc2 : Xf.cell? ⟨R, 2, none⟩ = some (str []) := blk_cell HRf.out 2
            have rf2 : Xf.frozen? ⟨R, 2, none⟩ = false := blk_frozen HRf.out 2
            have rc3 : Xf.cell? ⟨R, 3, none⟩ = some (.slice none 0 0) := blk_cell HRf.out 3
            have rf3 : Xf.frozen? ⟨R, 3, none⟩ = false := blk_frozen HRf.out 3
            have rc4 : Xf.cell? ⟨R, 4, none⟩ = some (i64 0) := blk_cell HRf.out 4
            have rf4 : Xf.frozen? ⟨R, 4, none⟩ = false := blk_frozen HRf.out 4
            go_wp2_with fail
            refine bodyPost_ret (v := gv 0 0 (str []) (.slice none 0 0) (-1)) (results_one Tryz.results54 rfl (load85 (set5 HRf.out _ _ _ _ _))) rfl ?_
            exact ⟨below5 HBf.out HRe.out _ _ _ _ _, fun _ => rfl, fun V r h => (by rw [HN.out] at h; cases h)⟩
          | some vr =>
            obtain ⟨v, r⟩ := vr
            obtain ⟨p6, c6, rfl, hv6⟩ := hgk.yes v r hrs
            obtain ⟨hF1, hF2⟩ := HRb.out v r hrs
            obtain ⟨F, hF⟩ : ∃ F, F = s.size - r.length := ⟨_, rfl⟩
            rw [← hF] at hF1 ⊢
            have HFs : Hid (F ≤ s.size) := by show _ ≤ _; omega
            have HFd : Hid (r = s.data.toList.drop F) := hF1.symm
            have hFI : ¬ ((F : Int) < 0) := by omega
            have HV6 := hid hv6
            clear hF1 hF2 hF hv6
            have HX1 := HX1
            rw [hrs] at HX1
            have HB6 := hid hgk.b
            have HD6 : Hid (Below wr.heap.size wr w6) := HD5.out.trans (hgk.b.mono HD5.out.size)
            have HS6 := hid (HS5.out.below hgk.b)
            clear hrs hgk
            go_simp
            refine hK0.out _ _ (fun _ => HS6.out) ?_
            clear hK0 K0
            have HG7 : Hid (w6.heap[G]? = some (gO 0 0 (str []) (.slice none 0 0) 0)) := blk_below HG5.out HB6.out
            have HD7 := HD6
            have HV7 : Hid (Vd w6 (fun b => wr.heap.size ≤ b ∧ b ≠ G) v (.slice p6 v.kids.length c6)) := HV6.out.mono fun b hb _ => ⟨Nat.le_trans HD5.out.size hb, by have := blk_lt HG5.out; omega⟩
            generalize w6 = X7 at *
            have HDf : Hid (Below wr.heap.size wr ((((((X7).setCell ⟨G, 0, none⟩ (i64 v.kind)).setCell ⟨G, 1, none⟩ (i64 v.num)).setCell ⟨G, 2, none⟩ (str v.s)).setCell ⟨G, 3, none⟩ (.slice p6 v.kids.length c6)).setCell ⟨G, 4, none⟩ (i64 (F : Nat)))) := below5 HD7.out HGe.out _ _ _ _ _
            have HGf : Hid (((((((X7).setCell ⟨G, 0, none⟩ (i64 v.kind)).setCell ⟨G, 1, none⟩ (i64 v.num)).setCell ⟨G, 2, none⟩ (str v.s)).setCell ⟨G, 3, none⟩ (.slice p6 v.kids.length c6)).setCell ⟨G, 4, none⟩ (i64 (F : Nat))).heap[G]? = some (.cells #[i64 v.kind, i64 v.num, str v.s, .slice p6 v.kids.length c6, i64 (F : Nat)] 85)) := set5 HG7.out _ _ _ _ _
            have HVf : Hid (Vd ((((((X7).setCell ⟨G, 0, none⟩ (i64 v.kind)).setCell ⟨G, 1, none⟩ (i64 v.num)).setCell ⟨G, 2, none⟩ (str v.s)).setCell ⟨G, 3, none⟩ (.slice p6 v.kids.length c6)).setCell ⟨G, 4, none⟩ (i64 (F : Nat))) (fun b => Avw w.heap.size R O b ∧ some b ≠ (Value.slice ka i kc).ownBlock) v (.slice p6 v.kids.length c6)) := HV7.out.move (by simp [World.setCell]) fun b hb _ => ⟨⟨⟨by have := HI.out.b.size; omega, by have := HLt.out.1; omega, by have := HLt.out.2.1; omega⟩, fun e => by have := HLt.out.2.2.2 b e.symm; omega⟩, by
              rw [Below.heap_setCell _ _ _ _ (show b ≠ G from hb.2), Below.heap_setCell _ _ _ _ (show b ≠ G from hb.2), Below.heap_setCell _ _ _ _ (show b ≠ G from hb.2), Below.heap_setCell _ _ _ _ (show b ≠ G from hb.2), Below.heap_setCell _ _ _ _ (show b ≠ G from hb.2)]⟩
            have rg0 : X7.cell? ⟨G, 0, none⟩ = some (i64 0) := blk_cell HG7.out 0
            have gf0 : X7.frozen? ⟨G, 0, none⟩ = false := blk_frozen HG7.out 0
            have rg1 : X7.cell? ⟨G, 1, none⟩ = some (i64 0) := blk_cell HG7.out 1
            have gf1 : X7.frozen? ⟨G, 1, none⟩ = false := blk_frozen HG7.out 1
            have rg2 : X7.cell? ⟨G, 2, none⟩ = some (str []) := blk_cell HG7.out 2
            have gf2 : X7.frozen? ⟨G, 2, none⟩ = false := blk_frozen HG7.out 2
            have rg3 : X7.cell? ⟨G, 3, none⟩ = some (.slice none 0 0) := blk_cell HG7.out 3
            have gf3 : X7.frozen? ⟨G, 3, none⟩ = false := blk_frozen HG7.out 3
            have rg4 : X7.cell? ⟨G, 4, none⟩ = some (i64 0) := blk_cell HG7.out 4
            have gf4 : X7.frozen? ⟨G, 4, none⟩ = false := blk_frozen HG7.out 4
            refine wpL_one 8 rfl (by kernel_rfl) (by rfl) (fun K8 hK8 => ?_)
            go_simp
            refine hK8.out _ _ (fun h => absurd rfl h) ?_
            clear hK8 K8
            refine wpL_done (by kernel_rfl) ?_
            refine NoPanic.normal ?_
            clear rg0 rg1 rg2 rg3 rg4 gf0 gf1 gf2 gf3 gf4
            generalize ((((((X7).setCell ⟨G, 0, none⟩ (i64 v.kind)).setCell ⟨G, 1, none⟩ (i64 v.num)).setCell ⟨G, 2, none⟩ (str v.s)).setCell ⟨G, 3, none⟩ (.slice p6 v.kids.length c6)).setCell ⟨G, 4, none⟩ (i64 (F : Nat))) = Xf at *
            have HIf := hid (HI.out.below HDf.out)
            have HYf : Hid (Xf.heap[Y]? = some (.cells #[i64 4, i64 tn, .slice an ln cn, .slice at_ lt_ ct] 35)) := blk_below HYr.out HDf.out
            have HGl := blk_lt HGf.out
            obtain ⟨ao9, cap9, Y9, hrun, hO9, hG9, hY9, hI9⟩ := gf_push HIf.out HOe.out.1 HOe.out.2.1 v p6 _ c6 HVf.out (by rw [HKL.out]; omega) G Y _ _ HGf.out (fun e => by have := HLt.out.2.2.2 G e.symm; have := HGe.out; omega) (by have := HLt.out.2.1; have := HGe.out; omega) HYf.out HYn.out HOe.out.2.2
            rw [HKL.out] at hrun hG9 hY9 hI9
            have HRUN := hid hrun
            have HI9 := hid hI9
            have HG9 := hid hG9
            have HY9 := hid hY9
            have oc3 : Y9.cell? ⟨O, 3, none⟩ = some (.slice ka i kc) := blk_cell hO9 3
            have of3 : Y9.frozen? ⟨O, 3, none⟩ = false := blk_frozen hO9 3
            have o3 : Xf.cell? ⟨O, 3, none⟩ = some (.slice ka i kc) := blk_cell HIf.out.o 3
            have g0 : Xf.cell? ⟨G, 0, none⟩ = some (i64 v.kind) := blk_cell HGf.out 0
            have g1 : Xf.cell? ⟨G, 1, none⟩ = some (i64 v.num) := blk_cell HGf.out 1
            have g2 : Xf.cell? ⟨G, 2, none⟩ = some (str v.s) := blk_cell HGf.out 2
            have g3 : Xf.cell? ⟨G, 3, none⟩ = some (.slice p6 v.kids.length c6) := blk_cell HGf.out 3
            have g4 : Xf.cell? ⟨G, 4, none⟩ = some (i64 (F : Nat)) := blk_cell HGf.out 4
            clear hrun hI9 hO9 hG9 hY9
            go_upto_region 12 with (at_builtin; refine wpList_app_run rfl (.tmp 51) (.tmp 54) 36 rfl _ _ rfl rfl 36 rfl _ _ HRUN.out ?_)
            clear oc3 of3 o3 g0 g1 g2 g3 g4
            generalize Y9.setCell ⟨O, 3, none⟩ (.slice ao9 (i + 1) cap9) = Z9 at *
            have o4 : Z9.cell? ⟨O, 4, none⟩ = some (i64 (E : Nat)) := blk_cell HI9.out.o 4
            have of4 : Z9.frozen? ⟨O, 4, none⟩ = false := blk_frozen HI9.out.o 4
            have g4 : Z9.cell? ⟨G, 4, none⟩ = some (i64 (F : Nat)) := blk_cell HG9.out 4
            have HIe := hid (gf_end (m' := (F : Nat)) HI9.out HOe.out.1 HOe.out.2.1)
            have HYe2 : Hid ((Z9.setCell ⟨O, 4, none⟩ (i64 (F : Nat))).heap[Y]? = some (.cells #[i64 4, i64 tn, .slice an ln cn, .slice at_ lt_ ct] 35)) := (Below.heap_setCell _ _ _ _ (show Y ≠ O from HOe.out.2.2)).trans HY9.out
            have HXe : Hid (res = joinJ ((Ks ++ [((v, Value.slice p6 v.kids.length c6) : Kv)]).map (·.1)) (rdL (rdV f) T (i + 1) (m - (i + 1)) (s.data.toList.drop F))) := by
              rw [Hid, HX1.out, HFd.out]
              show joinJ _ (joinJ [v] _) = _
              rw [joinJ_app, List.map_append]
              rfl
            have hKe : (Ks ++ [((v, Value.slice p6 v.kids.length c6) : Kv)]).length = i + 1 := by rw [List.length_append, HKL.out]; rfl
            go_wp2_with fail
            exact ⟨⟨i + 1, by omega, by omega, F, HFs, _, _, hKe, HIe, HXe⟩, by simp [intOf]; omega⟩
      · obtain ⟨G, hG⟩ : ∃ G, G = wr.heap.size := ⟨_, rfl⟩
        have HGe : Hid (wr.heap.size ≤ G) := by rw [hG]; exact Nat.le_refl _
        have HD5 : Hid (Below wr.heap.size wr ((wr.alloc (gO 0 0 (str []) (.slice none 0 0) 0)).drew)) := ((Below.refl _ _).alloc (Nat.le_refl _) _).drew
        have HG5 : Hid (((wr.alloc (gO 0 0 (str []) (.slice none 0 0) 0)).drew).heap[G]? = some (gO 0 0 (str []) (.slice none 0 0) 0)) := by rw [hG]; exact heap_last wr.drew _
        have HS5 := hid (show Oy O Y (gO 4 0 (str []) (.slice ka i kc) (E : Nat)) (.cells #[i64 4, i64 tn, .slice an ln cn, .slice at_ lt_ ct] 35) ((wr.alloc (gO 0 0 (str []) (.slice none 0 0) 0)).drew) from ⟨blk_alloc HI.out.o _, blk_alloc HYr.out _⟩)
        go_simp
        refine hK0.out _ _ (fun _ => HS5.out) ?_
        clear hK0 K0
        rw [← hG]
        clear hG
        generalize (wr.alloc (gO 0 0 (str []) (.slice none 0 0) 0)).drew = X5 at *
        refine wpL_one 5 rfl (by kernel_rfl) (by rfl) (fun K0 hK0 => ?_)
        go_simp
        refine (HKD.out X5 HD5.out).mono ?_
        rintro e w4 ⟨p1, q1, p2, q2, rfl, hb4, hr4⟩
        have HD4 : Hid (Below wr.heap.size wr w4) := HD5.out.trans (hb4.mono HD5.out.size)
        have HS4 := hid (HS5.out.below hb4)
        have HR4' := hid hr4
        have HG4 : Hid (w4.heap[G]? = some (gO 0 0 (str []) (.slice none 0 0) 0)) := blk_below HG5.out hb4
        clear hb4 hr4
        go_simp
        refine hK0.out _ _ (fun _ => HS4.out) ?_
        clear hK0 K0
        have HRt := HR4'
        have HG5 := HG4
        refine wpL_one 6 rfl (by kernel_rfl) (by rfl) (fun K0 hK0 => ?_)
        go_simp
        refine (HTk.out w4 S _ _ HRt.out).mono ?_
        rintro e w6 hgk
        cases hrs : rs with
        | none =>
          obtain rfl := hgk.no hrs
          have HX1 := HX1
          rw [hrs] at HX1
          have HB6 := hid hgk.b
          have HD6 : Hid (Below wr.heap.size wr w6) := HD4.out.trans (hgk.b.mono HD4.out.size)
          have HS6 := hid (HS4.out.below hgk.b)
          clear hrs hgk
          go_simp
          refine hK0.out _ _ (fun _ => HS6.out) ?_
          clear hK0 K0
          have HG7 : Hid (w6.heap[G]? = some (gO 0 0 (str []) (.slice none 0 0) 0)) := blk_below HG5.out HB6.out
          have HD7 := HD6
          generalize w6 = X7 at *
          have HDf : Hid (Below wr.heap.size wr ((((((X7).setCell ⟨G, 0, none⟩ (i64 0)).setCell ⟨G, 1, none⟩ (i64 0)).setCell ⟨G, 2, none⟩ (str [])).setCell ⟨G, 3, none⟩ (.slice none 0 0)).setCell ⟨G, 4, none⟩ (i64 (-1)))) := below5 HD7.out HGe.out _ _ _ _ _
          have HGf : Hid (((((((X7).setCell ⟨G, 0, none⟩ (i64 0)).setCell ⟨G, 1, none⟩ (i64 0)).setCell ⟨G, 2, none⟩ (str [])).setCell ⟨G, 3, none⟩ (.slice none 0 0)).setCell ⟨G, 4, none⟩ (i64 (-1))).heap[G]? = some (.cells #[i64 0, i64 0, str [], .slice none 0 0, i64 (-1)] 85)) := set5 HG7.out _ _ _ _ _
          have rg0 : X7.cell? ⟨G, 0, none⟩ = some (i64 0) := blk_cell HG7.out 0
          have gf0 : X7.frozen? ⟨G, 0, none⟩ = false := blk_frozen HG7.out 0
          have rg1 : X7.cell? ⟨G, 1, none⟩ = some (i64 0) := blk_cell HG7.out 1
          have gf1 : X7.frozen? ⟨G, 1, none⟩ = false := blk_frozen HG7.out 1
          have rg2 : X7.cell? ⟨G, 2, none⟩ = some (str []) := blk_cell HG7.out 2
          have gf2 : X7.frozen? ⟨G, 2, none⟩ = false := blk_frozen HG7.out 2
          have rg3 : X7.cell? ⟨G, 3, none⟩ = some (.slice none 0 0) := blk_cell HG7.out 3
          have gf3 : X7.frozen? ⟨G, 3, none⟩ = false := blk_frozen HG7.out 3
          have rg4 : X7.cell? ⟨G, 4, none⟩ = some (i64 0) := blk_cell HG7.out 4
          have gf4 : X7.frozen? ⟨G, 4, none⟩ = false := blk_frozen HG7.out 4
          refine wpL_one 8 rfl (by kernel_rfl) (by rfl) (fun K8 hK8 => ?_)
          go_simp
          refine hK8.out _ _ (fun h => absurd rfl h) ?_
          clear hK8 K8
          refine wpL_done (by kernel_rfl) ?_
          refine NoPanic.normal ?_
          clear rg0 rg1 rg2 rg3 rg4 gf0 gf1 gf2 gf3 gf4
          generalize ((((((X7).setCell ⟨G, 0, none⟩ (i64 0)).setCell ⟨G, 1, none⟩ (i64 0)).setCell ⟨G, 2, none⟩ (str [])).setCell ⟨G, 3, none⟩ (.slice none 0 0)).setCell ⟨G, 4, none⟩ (i64 (-1))) = Xf at *
          have HBf : Hid (Below w.heap.size w Xf) := HI.out.b.trans (HDf.out.mono HI.out.b.size)
          have HRf : Hid (Xf.heap[R]? = some (gO 0 0 (str []) (.slice none 0 0) 0)) := blk_below HI.out.r HDf.out
          have hN : res = none := by rw [HX1.out]; rfl
          have HN := hid hN
          have g4 : Xf.cell? ⟨G, 4, none⟩ = some (i64 (-1)) := blk_cell HGf.out 4
          clear hN
          have rc0 : Xf.cell? ⟨R, 0, none⟩ = some (i64 0) := blk_cell HRf.out 0
          have rf0 : Xf.frozen? ⟨R, 0, none⟩ = false := blk_frozen HRf.out 0
          have rc1 : Xf.cell? ⟨R, 1, none⟩ = some (i64 0) := blk_cell HRf.out 1
          have rf1 : Xf.frozen? ⟨R, 1, none⟩ = false := blk_frozen HRf.out 1
          have rc2 : Xf.cell? ⟨R, 2, none⟩ = some (str []) := blk_cell HRf.out 2
          have rf2 : Xf.frozen? ⟨R, 2, none⟩ = false := blk_frozen HRf.out 2
          have rc3 : Xf.cell? ⟨R, 3, none⟩ = some (.slice none 0 0) := blk_cell HRf.out 3
          have rf3 : Xf.frozen? ⟨R, 3, none⟩ = false := blk_frozen HRf.out 3
          have rc4 : Xf.cell? ⟨R, 4, none⟩ = some (i64 0) := blk_cell HRf.out 4
          have rf4 : Xf.frozen? ⟨R, 4, none⟩ = false := blk_frozen HRf.out 4
          go_wp2_with fail
          refine bodyPost_ret (v := gv 0 0 (str []) (.slice none 0 0) (-1)) (results_one Tryz.results54 rfl (load85 (set5 HRf.out _ _ _ _ _))) rfl ?_
          exact ⟨below5 HBf.out HRe.out _ _ _ _ _, fun _ => rfl, fun V r h => (by rw [HN.out] at h; cases h)⟩
        | some vr =>
          obtain ⟨v, r⟩ := vr
          obtain ⟨p6, c6, rfl, hv6⟩ := hgk.yes v r hrs
          obtain ⟨hF1, hF2⟩ := HRb.out v r hrs
          obtain ⟨F, hF⟩ : ∃ F, F = s.size - r.length := ⟨_, rfl⟩
          rw [← hF] at hF1 ⊢
          have HFs : Hid (F ≤ s.size) := by show _ ≤ _; omega
          have HFd : Hid (r = s.data.toList.drop F) := hF1.symm
          have hFI : ¬ ((F : Int) < 0) := by omega
          have HV6 := hid hv6
          clear hF1 hF2 hF hv6
          have HX1 := HX1
          rw [hrs] at HX1
          have HB6 := hid hgk.b
          have HD6 : Hid (Below wr.heap.size wr w6) := HD4.out.trans (hgk.b.mono HD4.out.size)
          have HS6 := hid (HS4.out.below hgk.b)
          clear hrs hgk
          go_simp
          refine hK0.out _ _ (fun _ => HS6.out) ?_
          clear hK0 K0
          have HG7 : Hid (w6.heap[G]? = some (gO 0 0 (str []) (.slice none 0 0) 0)) := blk_below HG5.out HB6.out
          have HD7 := HD6
          have HV7 : Hid (Vd w6 (fun b => wr.heap.size ≤ b ∧ b ≠ G) v (.slice p6 v.kids.length c6)) := HV6.out.mono fun b hb _ => ⟨Nat.le_trans HD4.out.size hb, by have := blk_lt HG5.out; omega⟩
          generalize w6 = X7 at *
          have HDf : Hid (Below wr.heap.size wr ((((((X7).setCell ⟨G, 0, none⟩ (i64 v.kind)).setCell ⟨G, 1, none⟩ (i64 v.num)).setCell ⟨G, 2, none⟩ (str v.s)).setCell ⟨G, 3, none⟩ (.slice p6 v.kids.length c6)).setCell ⟨G, 4, none⟩ (i64 (F : Nat)))) := below5 HD7.out HGe.out _ _ _ _ _
          have HGf : Hid (((((((X7).setCell ⟨G, 0, none⟩ (i64 v.kind)).setCell ⟨G, 1, none⟩ (i64 v.num)).setCell ⟨G, 2, none⟩ (str v.s)).setCell ⟨G, 3, none⟩ (.slice p6 v.kids.length c6)).setCell ⟨G, 4, none⟩ (i64 (F : Nat))).heap[G]? = some (.cells #[i64 v.kind, i64 v.num, str v.s, .slice p6 v.kids.length c6, i64 (F : Nat)] 85)) := set5 HG7.out _ _ _ _ _
          have HVf : Hid (Vd ((((((X7).setCell ⟨G, 0, none⟩ (i64 v.kind)).setCell ⟨G, 1, none⟩ (i64 v.num)).setCell ⟨G, 2, none⟩ (str v.s)).setCell ⟨G, 3, none⟩ (.slice p6 v.kids.length c6)).setCell ⟨G, 4, none⟩ (i64 (F : Nat))) (fun b => Avw w.heap.size R O b ∧ some b ≠ (Value.slice ka i kc).ownBlock) v (.slice p6 v.kids.length c6)) := HV7.out.move (by simp [World.setCell]) fun b hb _ => ⟨⟨⟨by have := HI.out.b.size; omega, by have := HLt.out.1; omega, by have := HLt.out.2.1; omega⟩, fun e => by have := HLt.out.2.2.2 b e.symm; omega⟩, by
            rw [Below.heap_setCell _ _ _ _ (show b ≠ G from hb.2), Below.heap_setCell _ _ _ _ (show b ≠ G from hb.2), Below.heap_setCell _ _ _ _ (show b ≠ G from hb.2), Below.heap_setCell _ _ _ _ (show b ≠ G from hb.2), Below.heap_setCell _ _ _ _ (show b ≠ G from hb.2)]⟩
          have rg0 : X7.cell? ⟨G, 0, none⟩ = some (i64 0) := blk_cell HG7.out 0
          have gf0 : X7.frozen? ⟨G, 0, none⟩ = false := blk_frozen HG7.out 0
          have rg1 : X7.cell? ⟨G, 1, none⟩ = some (i64 0) := blk_cell HG7.out 1
          have gf1 : X7.frozen? ⟨G, 1, none⟩ = false := blk_frozen HG7.out 1
          have rg2 : X7.cell? ⟨G, 2, none⟩ = some (str []) := blk_cell HG7.out 2
          have gf2 : X7.frozen? ⟨G, 2, none⟩ = false := blk_frozen HG7.out 2
          have rg3 : X7.cell? ⟨G, 3, none⟩ = some (.slice none 0 0) := blk_cell HG7.out 3
          have gf3 : X7.frozen? ⟨G, 3, none⟩ = false := blk_frozen HG7.out 3
          have rg4 : X7.cell? ⟨G, 4, none⟩ = some (i64 0) := blk_cell HG7.out 4
          have gf4 : X7.frozen? ⟨G, 4, none⟩ = false := blk_frozen HG7.out 4
          refine wpL_one 8 rfl (by kernel_rfl) (by rfl) (fun K8 hK8 => ?_)
          go_simp
          refine hK8.out _ _ (fun h => absurd rfl h) ?_
          clear hK8 K8
          refine wpL_done (by kernel_rfl) ?_
          refine NoPanic.normal ?_
          clear rg0 rg1 rg2 rg3 rg4 gf0 gf1 gf2 gf3 gf4
          generalize ((((((X7).setCell ⟨G, 0, none⟩ (i64 v.kind)).setCell ⟨G, 1, none⟩ (i64 v.num)).setCell ⟨G, 2, none⟩ (str v.s)).setCell ⟨G, 3, none⟩ (.slice p6 v.kids.length c6)).setCell ⟨G, 4, none⟩ (i64 (F : Nat))) = Xf at *
          have HIf := hid (HI.out.below HDf.out)
          have HYf : Hid (Xf.heap[Y]? = some (.cells #[i64 4, i64 tn, .slice an ln cn, .slice at_ lt_ ct] 35)) := blk_below HYr.out HDf.out
          have HGl := blk_lt HGf.out
          obtain ⟨ao9, cap9, Y9, hrun, hO9, hG9, hY9, hI9⟩ := gf_push HIf.out HOe.out.1 HOe.out.2.1 v p6 _ c6 HVf.out (by rw [HKL.out]; omega) G Y _ _ HGf.out (fun e => by have := HLt.out.2.2.2 G e.symm; have := HGe.out; omega) (by have := HLt.out.2.1; have := HGe.out; omega) HYf.out HYn.out HOe.out.2.2
          rw [HKL.out] at hrun hG9 hY9 hI9
          have HRUN := hid hrun
          have HI9 := hid hI9
          have HG9 := hid hG9
          have HY9 := hid hY9
          have oc3 : Y9.cell? ⟨O, 3, none⟩ = some (.slice ka i kc) := blk_cell hO9 3
          have of3 : Y9.frozen? ⟨O, 3, none⟩ = false := blk_frozen hO9 3
          have o3 : Xf.cell? ⟨O, 3, none⟩ = some (.slice ka i kc) := blk_cell HIf.out.o 3
          have g0 : Xf.cell? ⟨G, 0, none⟩ = some (i64 v.kind) := blk_cell HGf.out 0
          have g1 : Xf.cell? ⟨G, 1, none⟩ = some (i64 v.num) := blk_cell HGf.out 1
          have g2 : Xf.cell? ⟨G, 2, none⟩ = some (str v.s) := blk_cell HGf.out 2
          have g3 : Xf.cell? ⟨G, 3, none⟩ = some (.slice p6 v.kids.length c6) := blk_cell HGf.out 3
          have g4 : Xf.cell? ⟨G, 4, none⟩ = some (i64 (F : Nat)) := blk_cell HGf.out 4
          clear hrun hI9 hO9 hG9 hY9
          go_upto_region 12 with (at_builtin; refine wpList_app_run rfl (.tmp 51) (.tmp 54) 36 rfl _ _ rfl rfl 36 rfl _ _ HRUN.out ?_)
          clear oc3 of3 o3 g0 g1 g2 g3 g4
          generalize Y9.setCell ⟨O, 3, none⟩ (.slice ao9 (i + 1) cap9) = Z9 at *
          have o4 : Z9.cell? ⟨O, 4, none⟩ = some (i64 (E : Nat)) := blk_cell HI9.out.o 4
          have of4 : Z9.frozen? ⟨O, 4, none⟩ = false := blk_frozen HI9.out.o 4
          have g4 : Z9.cell? ⟨G, 4, none⟩ = some (i64 (F : Nat)) := blk_cell HG9.out 4
          have HIe := hid (gf_end (m' := (F : Nat)) HI9.out HOe.out.1 HOe.out.2.1)
          have HYe2 : Hid ((Z9.setCell ⟨O, 4, none⟩ (i64 (F : Nat))).heap[Y]? = some (.cells #[i64 4, i64 tn, .slice an ln cn, .slice at_ lt_ ct] 35)) := (Below.heap_setCell _ _ _ _ (show Y ≠ O from HOe.out.2.2)).trans HY9.out
          have HXe : Hid (res = joinJ ((Ks ++ [((v, Value.slice p6 v.kids.length c6) : Kv)]).map (·.1)) (rdL (rdV f) T (i + 1) (m - (i + 1)) (s.data.toList.drop F))) := by
            rw [Hid, HX1.out, HFd.out]
            show joinJ _ (joinJ [v] _) = _
            rw [joinJ_app, List.map_append]
            rfl
          have hKe : (Ks ++ [((v, Value.slice p6 v.kids.length c6) : Kv)]).length = i + 1 := by rw [List.length_append, HKL.out]; rfl
          go_wp2_with fail
          exact ⟨⟨i + 1, by omega, by omega, F, HFs, _, _, hKe, HIe, HXe⟩, by simp [intOf]; omega⟩
    · obtain rfl : i = m := by omega
      have hltI : ¬ (i : Int) < i := by omega
      have HRes : Hid (resK 4 res = some (.mk 4 0 [] (Ks.map (·.1)), s.data.toList.drop E)) := by
        rw [Hid, HX.out, Nat.sub_self, rdL]
        show some (Vl.mk 4 0 [] (Ks.map (·.1) ++ []), _) = _
        rw [List.append_nil]
      have HIo := hid HI.out.o
      have HIr := hid HI.out.r
      have HBr := hid HI.out.b
      have HVd : Hid (Vd wr (fun b => w.heap.size ≤ b ∧ b ≠ R) (.mk 4 0 [] (Ks.map (·.1))) (.slice ka i kc)) := HI.out.ok.rd (by unfold maxLen; simp) (fun b hb _ => ⟨hb.1, hb.2.1⟩) (fun b hb => ⟨(HI.out.ok.own.lt b hb).1, fun e => HI.out.s1 (by rw [hb, e])⟩)
      have HLn : Hid ((Ks.map (·.1)).length = i) := by rw [Hid, List.length_map]; exact HKL.out
      have HEs : Hid (s.size - (s.data.toList.drop E).length = E) := by
        have hz : s.data.size = s.size := rfl
        rw [Hid, List.length_drop, Array.length_toList, hz]
        omega
      have o0 : wr.cell? ⟨O, 0, none⟩ = some (i64 4) := blk_cell HIo.out 0
      have o1 : wr.cell? ⟨O, 1, none⟩ = some (i64 0) := blk_cell HIo.out 1
      have o2 : wr.cell? ⟨O, 2, none⟩ = some (str []) := blk_cell HIo.out 2
      have o3 : wr.cell? ⟨O, 3, none⟩ = some (.slice ka i kc) := blk_cell HIo.out 3
      have o4 : wr.cell? ⟨O, 4, none⟩ = some (i64 (E : Nat)) := blk_cell HIo.out 4
      have rc0 : wr.cell? ⟨R, 0, none⟩ = some (i64 0) := blk_cell HIr.out 0
      have rf0 : wr.frozen? ⟨R, 0, none⟩ = false := blk_frozen HIr.out 0
      have rc1 : wr.cell? ⟨R, 1, none⟩ = some (i64 0) := blk_cell HIr.out 1
      have rf1 : wr.frozen? ⟨R, 1, none⟩ = false := blk_frozen HIr.out 1
      have rc2 : wr.cell? ⟨R, 2, none⟩ = some (str []) := blk_cell HIr.out 2
      have rf2 : wr.frozen? ⟨R, 2, none⟩ = false := blk_frozen HIr.out 2
      have rc3 : wr.cell? ⟨R, 3, none⟩ = some (.slice none 0 0) := blk_cell HIr.out 3
      have rf3 : wr.frozen? ⟨R, 3, none⟩ = false := blk_frozen HIr.out 3
      have rc4 : wr.cell? ⟨R, 4, none⟩ = some (i64 0) := blk_cell HIr.out 4
      have rf4 : wr.frozen? ⟨R, 4, none⟩ = false := blk_frozen HIr.out 4
      clear HX HI
      go_wp2_with fail
      refine bodyPost_ret (v := gv 4 0 (str []) (.slice ka i kc) (E : Nat)) (results_one Tryz.results54 rfl (load85 (set5 HIr.out _ _ _ _ _))) rfl ?_
      refine ⟨below5 HBr.out HRe.out _ _ _ _ _, fun h => (by rw [HRes.out] at h; cases h), fun V r h => ?_⟩
      rw [HRes.out] at h
      cases h
      refine ⟨ka, kc, ?_, ?_⟩
      · rw [HEs.out]
        show _ = Ending.returned (gv 4 0 (str []) (.slice ka (Ks.map (·.1)).length kc) (E : Nat))
        rw [HLn.out]
      · show Vd _ _ _ (.slice ka (Ks.map (·.1)).length kc)
        rw [HLn.out]
        refine HVd.out.move (by simp [World.setCell]) fun b hb _ => ⟨hb.1, ?_⟩
        rw [Below.heap_setCell _ _ _ _ (show b ≠ R from hb.2), Below.heap_setCell _ _ _ _ (show b ≠ R from hb.2), Below.heap_setCell _ _ _ _ (show b ≠ R from hb.2), Below.heap_setCell _ _ _ _ (show b ≠ R from hb.2), Below.heap_setCell _ _ _ _ (show b ≠ R from hb.2)]
end Go.Proofs.YtihbbgcpdgnhoaaGreatDoor
