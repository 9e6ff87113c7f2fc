/- envs.shift: its contract; no statement is proved in this text. -/
import Derived.Test.YtopbgeoledocaaaOps
import Derived.Laws.CopyRow
namespace Go.Proofs.Ytopbgeoledocaaa
open Go.ChangeShapes Go.WideShapes Go.ChangeAt Go.RowKit Go.Deep
attribute [local go_sem ↓] Go.wp_at_zero Go.wp_at_succ

def shE (e : En) : En := ⟨e.ver, e.k1, e.n1, e.k2, e.n2, e.k3, e.n3, e.k3, e.n3, e.ws - 1, e.lost⟩
theorem info31 : (Try.prog.info? 31).map (·.size) = some 2 := by kernel_rfl
theorem run_copy_sh (W : World) (ty : TypeId) (b : Nat) (e : En) (hg : W.heap[b]? = some (enO e)) :
    (Builtin.copy_ #[69, 69] ty #[.slice (some ⟨b, 1, none⟩) 4 4, .slice (some ⟨b, 3, none⟩) 3 3]).run Try.prog W = .ok (goInt 3) (W.setRow b #[i64 e.ver, i64 e.k1, i64 e.n1, i64 e.k2, i64 e.n2, i64 e.k3, i64 e.n3, i64 e.k3, i64 e.n3, i64 e.ws, i64 e.lost]) := by
  have hl := run_loadCells_list (P := Try.prog) W ⟨b, 3, none⟩ [i64 e.k1, i64 e.n1, i64 e.k2, i64 e.n2, i64 e.k3, i64 e.n3] (fun j v hv => by
    have hj := (List.getElem?_eq_some_iff.1 hv).1
    simp at hj
    rw [show (⟨b, 3, none⟩ : Addr).add j = ⟨b, 3 + j, none⟩ from Addr.add_mid _ _ _, blk_cell hg]
    rcases (show j = 0 ∨ j = 1 ∨ j = 2 ∨ j = 3 ∨ j = 4 ∨ j = 5 by omega) with rfl | rfl | rfl | rfl | rfl | rfl <;> exact hv)
  have hst := run_storeCells_at Try.prog b 1 66 [i64 e.k1, i64 e.n1, i64 e.k2, i64 e.n2, i64 e.k3, i64 e.n3] 0 _ W hg (by simp) (fun v hv => by
    simp only [List.mem_cons, List.not_mem_nil, or_false] at hv
    rcases hv with rfl | rfl | rfl | rfl | rfl | rfl <;> rfl)
  cases hq : Try.prog.info? 31 with
  | none => have := info31; rw [hq] at this; cases this
  | some i =>
    have hi : i.size = 2 := by have := info31; rw [hq] at this; simpa using this
    have hl' : (loadCells ⟨b, 3, none⟩ 6).run Try.prog W = _ := hl
    simp [Builtin.copy_, run_underlying Try.underlying69, Builtin.lenOf, Builtin.firstCells, sizeOf, typeInfo, hq, hi, hl']
    rw [hst]
    rfl
theorem load31 {W : World} {b : Nat} {x y : Int} (h : W.heap[b]? = some (.cells #[i64 x, i64 y] 31 (0, 0))) : (loadVar 31 ⟨b, 0, none⟩).run Try.prog W = .ok (.agg #[i64 x, i64 y]) W := by
  refine run_loadVar_mid _ _ 0 31 [i64 x, i64 y] _ (fun j v hv => ?_) Try.underlying31 rfl (by kernel_rfl)
  rw [Nat.zero_add, cell_of_row _ _ _ _ 31 (0, 0) h]
  simpa using hv
theorem results_one {W : World} {t : Array Value} {a : Addr} {u : Value} {F : Func} {n : Nat} {ty : TypeId} (hr : F.results = #[.cell n ty]) (h6 : t.getD n undef = .pointer (some a)) (g : (loadVar ty a).run Try.prog W = .ok u W) :
    (results F t).run Try.prog W = .ok u W := by
  simp only [results, hr]
  simp [asAddr, h6, g, -Array.getD_eq_getD_getElem?]
theorem wp_copy_run {P : Program} {w : World} {o : Oper} {a : Act} {K : Act → World → Prop} {Q : Exit → Act → World → Prop} (s x : Operand) (t : TypeId)
    (ho : o.op = .call { callee := .builtin .copy, args := #[s, x], argTypes := #[t, t] }) (v1 v2 : Value) (hs : a.eval s = v1) (hx : a.eval x = v2) (ty : TypeId) (hty : o.type = ty) (r : Value) (w' : World)
    (hr : (Builtin.copy_ #[t, t] ty #[v1, v2]).run P w = .ok r w') (h : K (a.put o.dst r) w') : Oper.wp P o a w K Q := by
  unfold Oper.wp execOp
  simp only [ho, resolve, invoke, builtin, Sem.run_bind, Sem.run_pure, Result.andThen_ok, List.map_toArray, List.map_cons, List.map_nil, hs, hx, hty, hr]
  exact h
set_option maxRecDepth 100000 in
set_option maxHeartbeats 3200000 in
theorem shift_ok {w : World} {b : Nat} {en : En} (hb : w.heap[b]? = some (enO en)) (hw : 1 ≤ en.ws ∧ en.ws ≤ 4) : Calls Try.prog 30 #[pq b] w fun e w' => e = .returned (.agg #[i64 en.k0, i64 en.n0]) ∧ w'.heap[b]? = some (enO (shE en)) ∧ Touch b w w' := by
  have HBl : Hid (w.heap[b]? = some (enO en)) := hb
  have hlt := blk_lt hb
  have c1 : w.cell? ⟨b, 1, none⟩ = some (i64 en.k0) := blk_cell hb 1
  have c2 : w.cell? ⟨b, 2, none⟩ = some (i64 en.n0) := blk_cell hb 2
  obtain ⟨hw1, hw2⟩ := hw
  clear hb
  go_enter Try.func30, Try.ntmps30
  go_upto_region 2 with fail
  have HS : Hid ((fun _ : World => True) w) := trivial
  refine wp_region_noPanic ?_
  refine wp_region_last (fun _ => True) 8 (by kernel_rfl) ?_
  refine wpL_take 0 9 (pq b) [1, 2, 3] rfl rfl (by kernel_rfl) (by decide) (by kernel_rfl) (by kernel_rfl) (by kernel_rfl) (fun _ _ _ h => h) HS.out (by rfl) (fun W hW => by go_simp) ?_
  simp only [Act.put, List.setIfInBounds_toArray, List.set_cons_zero, List.set_cons_succ]
  refine wpL_take 1 10 (pq b) [2, 3] rfl rfl (by kernel_rfl) (by decide) (by kernel_rfl) (by kernel_rfl) (by kernel_rfl) (fun _ _ _ h => h) HS.out (by rfl) (fun W hW => by go_simp) ?_
  simp only [Act.put, List.setIfInBounds_toArray, List.set_cons_zero, List.set_cons_succ]
  refine wpL_take 2 11 (.pointer (some ⟨b, 1, none⟩)) [3] rfl rfl (by kernel_rfl) (by decide) (by kernel_rfl) (by kernel_rfl) (by kernel_rfl) (fun _ _ _ h => h) HS.out (by rfl) (fun W hW => by go_simp) ?_
  simp only [Act.put, List.setIfInBounds_toArray, List.set_cons_zero, List.set_cons_succ]
  refine wpL_take 3 12 (.slice (some ⟨b, 1, none⟩) 4 4) [] rfl rfl (by kernel_rfl) (by decide) (by kernel_rfl) (by kernel_rfl) (by kernel_rfl) (fun _ _ _ h => h) HS.out (by rfl) (fun W hW => by go_simp) ?_
  simp only [Act.put, List.setIfInBounds_toArray, List.set_cons_zero, List.set_cons_succ]
  refine wpL_take 4 13 (pq b) [5, 6, 7] rfl rfl (by kernel_rfl) (by decide) (by kernel_rfl) (by kernel_rfl) (by kernel_rfl) (fun _ _ _ h => h) HS.out (by rfl) (fun W hW => by go_simp) ?_
  simp only [Act.put, List.setIfInBounds_toArray, List.set_cons_zero, List.set_cons_succ]
  refine wpL_take 5 14 (pq b) [6, 7] rfl rfl (by kernel_rfl) (by decide) (by kernel_rfl) (by kernel_rfl) (by kernel_rfl) (fun _ _ _ h => h) HS.out (by rfl) (fun W hW => by go_simp) ?_
  simp only [Act.put, List.setIfInBounds_toArray, List.set_cons_zero, List.set_cons_succ]
  refine wpL_take 6 15 (.pointer (some ⟨b, 1, none⟩)) [7] rfl rfl (by kernel_rfl) (by decide) (by kernel_rfl) (by kernel_rfl) (by kernel_rfl) (fun _ _ _ h => h) HS.out (by rfl) (fun W hW => by go_simp) ?_
  simp only [Act.put, List.setIfInBounds_toArray, List.set_cons_zero, List.set_cons_succ]
  refine wpL_take 7 16 (.slice (some ⟨b, 3, none⟩) 3 3) [] rfl rfl (by kernel_rfl) (by decide) (by kernel_rfl) (by kernel_rfl) (by kernel_rfl) (fun _ _ _ h => h) HS.out (by rfl) (fun W hW => by go_simp) ?_
  simp only [Act.put, List.setIfInBounds_toArray, List.set_cons_zero, List.set_cons_succ]
  have HV : Hid (((w.alloc (.cells #[i64 0, i64 0] 31)).alloc (.cells #[i64 en.k0, i64 en.n0] 31)).heap[b]? = some (enO en)) := blk_alloc (blk_alloc HBl.out _) _
  have HZ : Hid (((w.alloc (.cells #[i64 0, i64 0] 31)).alloc (.cells #[i64 en.k0, i64 en.n0] 31)).heap[w.heap.size]? = some (.cells #[i64 0, i64 0] 31)) := blk_alloc (heap_last w _) _
  have HX : Hid (((w.alloc (.cells #[i64 0, i64 0] 31)).alloc (.cells #[i64 en.k0, i64 en.n0] 31)).heap[w.heap.size + 1]? = some (.cells #[i64 en.k0, i64 en.n0] 31)) := by
    have := heap_last (w.alloc (.cells #[i64 0, i64 0] 31)) (.cells #[i64 en.k0, i64 en.n0] 31)
    rw [show (w.alloc (.cells #[i64 0, i64 0] 31)).heap.size = w.heap.size + 1 by simp] at this
    exact this
  have HT : Hid (Touch b w ((w.alloc (.cells #[i64 0, i64 0] 31)).alloc (.cells #[i64 en.k0, i64 en.n0] 31)).drew) := (((Touch.refl b w).alloc _).alloc _).drew
  generalize ((w.alloc (.cells #[i64 0, i64 0] 31)).alloc (.cells #[i64 en.k0, i64 en.n0] 31)) = V at *
  refine wpL_one 8 rfl (by kernel_rfl) (by rfl) (fun K hK => ?_)
  refine wp_copy_run (.tmp 12) (.tmp 16) 69 rfl _ _ (by rfl) (by rfl) _ rfl _ _ (run_copy_sh V.drew _ b en HV.out) ?_
  refine hK.out _ _ (fun h => absurd rfl h) ?_
  clear hK K
  refine wpL_done (by kernel_rfl) ?_
  refine NoPanic.normal ?_
  have HR : Hid ((V.drew.setRow b #[i64 en.ver, i64 en.k1, i64 en.n1, i64 en.k2, i64 en.n2, i64 en.k3, i64 en.n3, i64 en.k3, i64 en.n3, i64 en.ws, i64 en.lost]).heap[b]? = some (.cells #[i64 en.ver, i64 en.k1, i64 en.n1, i64 en.k2, i64 en.n2, i64 en.k3, i64 en.n3, i64 en.k3, i64 en.n3, i64 en.ws, i64 en.lost] 66)) := setRow_heap V.drew b _ _ 66 (0, 0) HV.out
  have HZ2 : Hid ((V.drew.setRow b #[i64 en.ver, i64 en.k1, i64 en.n1, i64 en.k2, i64 en.n2, i64 en.k3, i64 en.n3, i64 en.k3, i64 en.n3, i64 en.ws, i64 en.lost]).heap[w.heap.size]? = some (.cells #[i64 0, i64 0] 31)) := by rw [setRow_other _ _ _ _ (by omega)]; exact HZ.out
  have HX2 : Hid ((V.drew.setRow b #[i64 en.ver, i64 en.k1, i64 en.n1, i64 en.k2, i64 en.n2, i64 en.k3, i64 en.n3, i64 en.k3, i64 en.n3, i64 en.ws, i64 en.lost]).heap[w.heap.size + 1]? = some (.cells #[i64 en.k0, i64 en.n0] 31)) := by rw [setRow_other _ _ _ _ (by omega)]; exact HX.out
  have HT2 : Hid (Touch b w (V.drew.setRow b #[i64 en.ver, i64 en.k1, i64 en.n1, i64 en.k2, i64 en.n2, i64 en.k3, i64 en.n3, i64 en.k3, i64 en.n3, i64 en.ws, i64 en.lost])) := HT.out.trans ⟨rfl, rfl, rfl, by simp, fun k _ hq => setRow_other _ _ _ _ hq⟩
  generalize V.drew.setRow b #[i64 en.ver, i64 en.k1, i64 en.n1, i64 en.k2, i64 en.n2, i64 en.k3, i64 en.n3, i64 en.k3, i64 en.n3, i64 en.ws, i64 en.lost] = U at *
  have u9 : U.cell? ⟨b, 9, none⟩ = some (i64 en.ws) := blk_cell HR.out 9
  have f9 : ∀ j, U.frozen? ⟨b, j, none⟩ = false := blk_frozen HR.out
  have x0 : U.cell? ⟨w.heap.size + 1, 0, none⟩ = some (i64 en.k0) := blk_cell HX2.out 0
  have x1 : U.cell? ⟨w.heap.size + 1, 1, none⟩ = some (i64 en.n0) := blk_cell HX2.out 1
  have z0 : U.cell? ⟨w.heap.size, 0, none⟩ = some (i64 0) := blk_cell HZ2.out 0
  have z1 : U.cell? ⟨w.heap.size, 1, none⟩ = some (i64 0) := blk_cell HZ2.out 1
  have fz : ∀ j, U.frozen? ⟨w.heap.size, j, none⟩ = false := blk_frozen HZ2.out
  go_wp2_with fail
  have hne : w.heap.size ≠ b := by omega
  have HF1 : Hid ((((U.setCell ⟨b, 9, none⟩ (i64 (en.ws - 1))).setCell ⟨w.heap.size, 0, none⟩ (i64 en.k0)).setCell ⟨w.heap.size, 1, none⟩ (i64 en.n0)).heap[b]? = some (enO (shE en))) := by
    rw [Below.heap_setCell _ _ _ _ (by exact Ne.symm hne), Below.heap_setCell _ _ _ _ (by exact Ne.symm hne)]
    exact heap_setCell_same U b 9 _ 66 _ HR.out
  have HF2 : Hid (Touch b w (((U.setCell ⟨b, 9, none⟩ (i64 (en.ws - 1))).setCell ⟨w.heap.size, 0, none⟩ (i64 en.k0)).setCell ⟨w.heap.size, 1, none⟩ (i64 en.n0))) := ((HT2.out.setCell rfl _).setNew (by exact Nat.le_refl _) _).setNew (by exact Nat.le_refl _) _
  have HF3 : Hid ((((U.setCell ⟨b, 9, none⟩ (i64 (en.ws - 1))).setCell ⟨w.heap.size, 0, none⟩ (i64 en.k0)).setCell ⟨w.heap.size, 1, none⟩ (i64 en.n0)).heap[w.heap.size]? = some (.cells #[i64 en.k0, i64 en.n0] 31)) := set2 (by rw [Below.heap_setCell _ _ _ _ (by exact hne)]; exact HZ2.out) _ _
  have g := load31 HF3.out
  refine bodyPost_ret (v := .agg #[i64 en.k0, i64 en.n0]) (results_one rfl rfl g) rfl ⟨rfl, HF1.out, HF2.out⟩
end Go.Proofs.Ytopbgeoledocaaa
