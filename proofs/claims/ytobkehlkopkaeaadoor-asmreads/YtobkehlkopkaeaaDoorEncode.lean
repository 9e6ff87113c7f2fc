/- asm's encode: its contract; no statement is proved in this text. -/
import Derived.Test.YtobkehlkopkaeaaDoorMap
import Derived.Deep.RegionHeld3
import Derived.Deep.DeepCutAuto
namespace Go.Proofs.YtobkehlkopkaeaaDoor
open Go.ChangeShapes Go.WideShapes Go.ChangeAt Go.RowKit Go.ChangeMaps Go.MapKept
set_option maxRecDepth 100000

theorem two_cells {W : World} {B : Nat} {u v : Value} {t : TypeId} (h : W.heap[B]? = some (.cells #[u, v] t (0, 0))) : W.cell? ⟨B, 0, none⟩ = some u ∧ W.cell? ⟨B, 1, none⟩ = some v ∧ ∀ j, W.frozen? ⟨B, j, none⟩ = false := by
  refine ⟨?_, ?_, fun j => ?_⟩
  · rw [cell_of_row W B 0 _ t (0, 0) h]; rfl
  · rw [cell_of_row W B 1 _ t (0, 0) h]; rfl
  · unfold World.frozen?
    rw [show W.heap[(⟨B, j, none⟩ : Addr).block]? = _ from h]
    simp
theorem four_cells {W : World} {B : Nat} {u v x y : Value} {t : TypeId} (h : W.heap[B]? = some (.cells #[u, v, x, y] t (0, 0))) : W.cell? ⟨B, 0, none⟩ = some u ∧ W.cell? ⟨B, 1, none⟩ = some v ∧ W.cell? ⟨B, 2, none⟩ = some x ∧ W.cell? ⟨B, 3, none⟩ = some y ∧ ∀ j, W.frozen? ⟨B, j, none⟩ = false := by
  refine ⟨?_, ?_, ?_, ?_, fun j => ?_⟩
  · rw [cell_of_row W B 0 _ t (0, 0) h]; rfl
  · rw [cell_of_row W B 1 _ t (0, 0) h]; rfl
  · rw [cell_of_row W B 2 _ t (0, 0) h]; rfl
  · rw [cell_of_row W B 3 _ t (0, 0) h]; rfl
  · unfold World.frozen?
    rw [show W.heap[(⟨B, j, none⟩ : Addr).block]? = _ from h]
    simp
/-- The registers that were read so far. -/
structure EMid (w wr : World) (x : Bs) (R N : Nat) (L : Bool) (r0 r1 : Nat) : Prop where
  bel : Below w.heap.size w wr
  frm : wr.heap[w.heap.size]? = some (.cells #[str x, i64 R, i64 N, .bool L] 58 (0, 0))
  reg : wr.heap[w.heap.size + 1]? = some (.cells #[i64 r0, i64 r1] 91 (0, 0))
theorem EMid.set0 {w wr : World} {x : Bs} {R N : Nat} {L : Bool} {r0 r1 : Nat} (h : EMid w wr x R N L r0 r1) (r : Nat) : EMid w (wr.setCell ⟨w.heap.size + 1, 0, none⟩ (i64 r)) x R N L r r1 :=
  ⟨h.bel.setCell (by show w.heap.size ≤ w.heap.size + 1; omega) _, by rw [heap_setCell_other _ _ _ _ (by show w.heap.size ≠ w.heap.size + 1; omega)]; exact h.frm, by rw [heap_setCell_same _ _ _ _ _ _ h.reg]; rfl⟩
theorem EMid.set1 {w wr : World} {x : Bs} {R N : Nat} {L : Bool} {r0 r1 : Nat} (h : EMid w wr x R N L r0 r1) (r : Nat) : EMid w (wr.setCell ⟨w.heap.size + 1, 1, none⟩ (i64 r)) x R N L r0 r :=
  ⟨h.bel.setCell (by show w.heap.size ≤ w.heap.size + 1; omega) _, by rw [heap_setCell_other _ _ _ _ (by show w.heap.size ≠ w.heap.size + 1; omega)]; exact h.frm, by rw [heap_setCell_same _ _ _ _ _ _ h.reg]; rfl⟩
theorem regsF_next {ws : List Bs} {k r : Nat} {rs : List Nat} (hk : k < ws.length) (h : regsF (ws.take k) = some rs) (hr : regF ws[k] = some r) : regsF (ws.take (k + 1)) = some (rs ++ [r]) := by
  unfold regsF at h ⊢
  rw [← List.take_append_getElem hk, List.mapM_append, h]
  simp [hr]
theorem regsF_stop {ws : List Bs} {k R : Nat} (hk : k < ws.length) (hR : k < R) (hr : regF ws[k] = none) : regsF (ws.take R) = none := by
  unfold regsF
  have hk2 : k < (ws.take R).length := by simp; omega
  have e : ws.take R = (ws.take R).take k ++ (ws.take R)[k] :: (ws.take R).drop (k + 1) := by
    rw [List.getElem_cons_drop, List.take_append_drop]
  rw [e, List.mapM_append, List.mapM_cons, List.getElem_take, hr]
  cases (List.mapM regF ((ws.take R).take k)) <;> rfl
theorem encF_len {op : Nat} {ws : List Bs} {a : Nat} {M : Labs} (h : ¬ ws.length = rg op + fNums op) : encF op ws a M = none := by
  unfold encF encI
  rw [if_neg h]
theorem encF_regs {op : Nat} {ws : List Bs} {a : Nat} {M : Labs} (h : regsF (ws.take (rg op)) = none) : encF op ws a M = none := by
  unfold encF encI
  rw [h]
  split <;> simp_all
theorem encF_num {op : Nat} {ws : List Bs} {a : Nat} {M : Labs} {rs : List Nat} (hl : ws.length = rg op + fNums op) (h : regsF (ws.take (rg op)) = some rs) (n : Nat)
    (hn : (if fNums op = 0 then some 0 else numW M op a (ws.getD (rg op) [])) = some n) : (encF op ws a M).getD [] = btS ⟨op, rs.getD 0 0, rs.getD 1 0, n⟩ ∧ (encF op ws a M).isSome = (btE ⟨op, rs.getD 0 0, rs.getD 1 0, n⟩ == 0) := by
  unfold encF encI btS btE
  rw [if_pos hl, h, hn]
  simp only
  split <;> exact ⟨rfl, rfl⟩
theorem encF_none {op : Nat} {ws : List Bs} {a : Nat} {M : Labs} {rs : List Nat} (hl : ws.length = rg op + fNums op) (h : regsF (ws.take (rg op)) = some rs)
    (hn : (if fNums op = 0 then some 0 else numW M op a (ws.getD (rg op) [])) = none) : encF op ws a M = none := by
  unfold encF encI
  rw [if_pos hl, h, hn]
end Go.Proofs.YtobkehlkopkaeaaDoor
