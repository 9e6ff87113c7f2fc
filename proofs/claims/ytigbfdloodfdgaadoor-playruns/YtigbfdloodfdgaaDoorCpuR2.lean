/- The document's Step: the worlds of its walk; no statement is proved in this text. -/
import Derived.Test.YtigbfdloodfdgaaDoorCpuR1
namespace Go.Proofs.YtigbfdloodfdgaaDoor
open Go.ChangeShapes Go.WideShapes Go.ChangeAt Go.RowKit

theorem hid {p : Prop} (h : p) : Hid p := h
theorem heap_setCells_ne (b k : Nat) (hk : k ≠ b) : ∀ (vs : List Value) (o : Nat) (w : World), (w.setCells b o vs).heap[k]? = w.heap[k]?
  | [], _, _ => rfl
  | v :: r, o, w => by rw [World.setCells, heap_setCells_ne b k hk r (o + 1), Below.heap_setCell _ _ _ _ hk]
/-- What stands once the registers are copied. -/
structure RM (w V : World) (C C1 : List Nat) (q q2 q3 : Nat) (i : In) (nx : Int) : Prop where
  beg : RBeg w V C
  g : V.heap[q]? = some (.cells #[i64 i.op, i64 i.a, i64 i.b, i64 i.n, i64 nx, i64 0] 98 (0, 0))
  ins : V.heap[q2]? = some (.cells #[i64 i.op, i64 i.a, i64 i.b, i64 i.n] 96 (0, 0))
  n3 : Row V q3 C1
  hq : w.heap.size + 1 < q
  hq2 : q < q2
  hq3 : q2 < q3
theorem RM.cells {w V : World} {C C1 : List Nat} {q q2 q3 : Nat} {i : In} {nx : Int} (h : RM w V C C1 q q2 q3 i nx) : V.cell? ⟨q, 4, none⟩ = some (i64 nx) ∧ V.cell? ⟨q2, 0, none⟩ = some (i64 i.op) ∧ V.cell? ⟨q2, 1, none⟩ = some (i64 i.a) ∧ V.cell? ⟨q2, 2, none⟩ = some (i64 i.b) ∧ V.cell? ⟨q2, 3, none⟩ = some (i64 i.n) := by
  rw [cell_of_row _ _ _ _ 98 (0, 0) h.g, cell_of_row _ _ _ _ 96 (0, 0) h.ins, cell_of_row _ _ _ _ 96 (0, 0) h.ins, cell_of_row _ _ _ _ 96 (0, 0) h.ins, cell_of_row _ _ _ _ 96 (0, 0) h.ins]
  exact ⟨rfl, rfl, rfl, rfl, rfl⟩
theorem RM.set {w V : World} {C C1 : List Nat} {q q2 q3 : Nat} {i : In} {nx : Int} (h : RM w V C C1 q q2 q3 i nx) (j x : Nat) : RM w (V.setCell ⟨q3, j, none⟩ (u16 x)) C (C1.set j x) q q2 q3 i nx := by
  have h1 := h.hq
  have h2 := h.hq2
  have h3 := h.hq3
  have hb := h.beg
  refine ⟨⟨hb.r0.other (by omega) _, fun k hk => ?_, hb.bel.setCell (by show w.heap.size ≤ q3; omega) _, by have := hb.siz; simpa [World.setCell] using this⟩, (Below.heap_setCell _ _ _ _ (by show q ≠ q3; omega)).trans h.g, (Below.heap_setCell _ _ _ _ (by show q2 ≠ q3; omega)).trans h.ins, h.n3.set j x, h1, h2, h3⟩
  rw [World.cell?_setCell_other _ _ _ _ (by simp <;> omega), World.frozen?_setCell]
  exact hb.d1 k hk
theorem RM.drew {w V : World} {C C1 : List Nat} {q q2 q3 : Nat} {i : In} {nx : Int} (h : RM w V C C1 q q2 q3 i nx) : RM w V.drew C C1 q q2 q3 i nx :=
  ⟨h.beg.below ⟨rfl, rfl, rfl, Nat.le_refl _, fun _ _ => rfl⟩, h.g, h.ins, ⟨h.n3.row⟩, h.hq, h.hq2, h.hq3⟩
theorem RM.start {w w1 : World} {C : List Nat} (h : RBeg w w1 C) (hC : Rg C) (i : In) (nx : Int) :
    RM w ((((w1.alloc (.cells #[i64 i.op, i64 i.a, i64 i.b, i64 i.n, i64 nx, i64 0] 98)).alloc (.cells #[i64 i.op, i64 i.a, i64 i.b, i64 i.n] 96)).alloc (.cells #[u16 0, u16 0, u16 0, u16 0, u16 0, u16 0, u16 0, u16 0, u16 0] 30)).setCells (w1.heap.size + 1 + 1) 0 (cpC C)) C C w1.heap.size (w1.heap.size + 1) (w1.heap.size + 1 + 1) i nx := by
  have hsz := h.siz
  have hB := ((h.below (below_one w1 (.cells #[i64 i.op, i64 i.a, i64 i.b, i64 i.n, i64 nx, i64 0] 98))).below (below_one _ (.cells #[i64 i.op, i64 i.a, i64 i.b, i64 i.n] 96))).below (below_one _ (.cells #[u16 0, u16 0, u16 0, u16 0, u16 0, u16 0, u16 0, u16 0, u16 0] 30))
  have e : ∀ (V : World) (k : Nat), k ≠ w1.heap.size + 1 + 1 → (V.setCells (w1.heap.size + 1 + 1) 0 (cpC C)).heap[k]? = V.heap[k]? := fun V k hk => heap_setCells_ne _ _ hk _ _ _
  refine ⟨⟨⟨?_⟩, fun j hj => ?_, Below.cellsAt _ _ _ _ (by omega) hB.bel, ?_⟩, ?_, ?_, ?_, hsz, by omega, by omega⟩
  · rw [e _ _ (by omega)]; exact hB.r0.row
  · exact World.there_setCells hB.d1 _ _ _ j hj
  · have := hB.siz
    have h2 := (Below.cellsAt (cpC C) (w1.heap.size + 1 + 1) 0 _ (Nat.zero_le _) (Below.refl 0 ((((w1.alloc (.cells #[i64 i.op, i64 i.a, i64 i.b, i64 i.n, i64 nx, i64 0] 98)).alloc (.cells #[i64 i.op, i64 i.a, i64 i.b, i64 i.n] 96)).alloc (.cells #[u16 0, u16 0, u16 0, u16 0, u16 0, u16 0, u16 0, u16 0, u16 0] 30))))).size
    omega
  · rw [e _ _ (by omega), Below.heap_alloc _ _ _ (by simp; omega), Below.heap_alloc _ _ _ (by simp)]; exact heap_at rfl _
  · rw [e _ _ (by omega), Below.heap_alloc _ _ _ (by simp)]; exact heap_at (by simp) _
  · exact Row.all (C0 := z9) ⟨heap_at (by simp) _⟩ Rg.zero hC
end Go.Proofs.YtigbfdloodfdgaaDoor
