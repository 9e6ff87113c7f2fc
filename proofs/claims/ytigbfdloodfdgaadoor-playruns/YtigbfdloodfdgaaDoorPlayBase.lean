/- A run's block, and what of it is read and written; no statement is proved in this text. -/
import Derived.Test.YtigbfdloodfdgaaDoorPlayPure
import Derived.Test.YtigbfdloodfdgaaDoorCpuSt
import Derived.Laws.EntriesVeiled
namespace Go.Proofs.YtigbfdloodfdgaaDoor
open Go.ChangeShapes Go.WideShapes Go.ChangeAt Go.RowKit

/-- All below B but block R is as it was. -/
structure Fr (B R : Nat) (w w' : World) : Prop where
  os : w'.os = w.os
  tape : w'.tape = w.tape
  output : w'.output = w.output
  size : w.heap.size ≤ w'.heap.size
  block : ∀ k, k < B → k ≠ R → w'.heap[k]? = w.heap[k]?
theorem Fr.refl (B R : Nat) (w : World) : Fr B R w w := ⟨rfl, rfl, rfl, Nat.le_refl _, fun _ _ _ => rfl⟩
theorem Fr.trans {B R : Nat} {a b c : World} (h : Fr B R a b) (k : Fr B R b c) : Fr B R a c :=
  ⟨k.os.trans h.os, k.tape.trans h.tape, k.output.trans h.output, Nat.le_trans h.size k.size, fun i hi hq => (k.block i hi hq).trans (h.block i hi hq)⟩
theorem Fr.mono {B B' R : Nat} {a b : World} (h : Fr B R a b) (hb : B' ≤ B) : Fr B' R a b := ⟨h.os, h.tape, h.output, h.size, fun k hk hr => h.block k (Nat.lt_of_lt_of_le hk hb) hr⟩
theorem Fr.of_below {B R : Nat} {a b : World} (h : Below B a b) : Fr B R a b := ⟨h.os, h.tape, h.output, h.size, fun k hk _ => h.block k hk⟩
theorem Fr.setCell {B R : Nat} {a w : World} (h : Fr B R a w) (o : Nat) (v : Value) : Fr B R a (w.setCell ⟨R, o, none⟩ v) :=
  h.trans ⟨rfl, rfl, rfl, by simp [World.setCell], fun _ _ hq => Below.heap_setCell _ _ _ _ hq⟩
theorem Fr.setCells {B R : Nat} {a : World} : ∀ (vs : List Value) (o : Nat) (w : World), Fr B R a w → Fr B R a (w.setCells R o vs)
  | [], _, _, h => h
  | v :: r, o, _, h => by rw [World.setCells]; exact Fr.setCells r (o + 1) _ (h.setCell o v)
theorem Fr.drew {B R : Nat} {a w : World} (h : Fr B R a w) : Fr B R a w.drew := ⟨h.os, h.tape, h.output, h.size, h.block⟩
theorem Fr.cell {B R : Nat} {a w : World} (h : Fr B R a w) {p : Addr} (hp : p.block < B) (hr : p.block ≠ R) : w.cell? p = a.cell? p := by
  unfold World.cell?
  rw [h.block p.block hp hr]
theorem Fr.alloc {B R : Nat} {a w : World} (h : Fr B R a w) (hb : B ≤ w.heap.size) (o : Obj) : Fr B R a (w.alloc o) :=
  h.trans ⟨rfl, rfl, rfl, by simp, fun k hk _ => Below.heap_alloc _ _ _ (by omega)⟩

theorem heap_mid {t : TypeId} {b : Nat} (post : List Value) : ∀ (vs mid pre : List Value) (w : World), mid.length = vs.length → w.heap[b]? = some (.cells (pre ++ (mid ++ post)).toArray t (0, 0)) → (w.setCells b pre.length vs).heap[b]? = some (.cells (pre ++ (vs ++ post)).toArray t (0, 0))
  | [], mid, pre, w, hl, h => by
    obtain rfl : mid = [] := List.eq_nil_of_length_eq_zero hl
    exact h
  | v :: vs, [], _, _, hl, _ => by simp at hl
  | v :: vs, m :: mid, pre, w, hl, h => by
    rw [World.setCells]
    have h2 : (w.setCell ⟨b, pre.length, none⟩ v).heap[b]? = some (.cells ((pre ++ [v]) ++ (mid ++ post)).toArray t (0, 0)) := by
      simp only [World.setCell, Array.getElem?_modify, h, if_true, Option.map_some]
      congr 2
      simp
    have := heap_mid post vs mid (pre ++ [v]) (w.setCell ⟨b, pre.length, none⟩ v) (by simpa using hl) h2
    rw [List.length_append, List.length_singleton] at this
    rw [this]
    simp
/-- The cells of a run. -/
def rnC (C : List Nat) (M : List UInt8) (va vc : Value) : List Value := cpC C ++ (cells M ++ [va, vc])
structure RunAt (w : World) (R : Nat) (C : List Nat) (M : List UInt8) (va vc : Value) : Prop where
  row : w.heap[R]? = some (.cells (rnC C M va vc).toArray 66 (0, 0))
  rg : Rg C
  mem : M.length = 256
theorem RunAt.lt {w : World} {R : Nat} {C : List Nat} {M : List UInt8} {va vc : Value} (h : RunAt w R C M va vc) : R < w.heap.size := (Array.getElem?_eq_some_iff.1 h.row).1
theorem RunAt.below {w w' : World} {R : Nat} {C : List Nat} {M : List UInt8} {va vc : Value} (h : RunAt w R C M va vc) (hb : Below w.heap.size w w') : RunAt w' R C M va vc :=
  ⟨(hb.block _ h.lt).trans h.row, h.rg, h.mem⟩
theorem RunAt.drew {w : World} {R : Nat} {C : List Nat} {M : List UInt8} {va vc : Value} (h : RunAt w R C M va vc) : RunAt w.drew R C M va vc := ⟨h.row, h.rg, h.mem⟩
theorem RunAt.free {w : World} {R : Nat} {C : List Nat} {M : List UInt8} {va vc : Value} (h : RunAt w R C M va vc) (j : Nat) : w.frozen? ⟨R, j, none⟩ = false := by
  unfold World.frozen?
  rw [show w.heap[(⟨R, j, none⟩ : Addr).block]? = _ from h.row]
  simp
theorem RunAt.nth {w : World} {R : Nat} {C : List Nat} {M : List UInt8} {va vc : Value} (h : RunAt w R C M va vc) (j : Nat) : w.cell? ⟨R, j, none⟩ = (rnC C M va vc)[j]? := by
  rw [cell_of_row _ _ _ _ 66 (0, 0) h.row]
  simp
theorem RunAt.range {w : World} {R : Nat} {C : List Nat} {M : List UInt8} {va vc : Value} (h : RunAt w R C M va vc) : w.rangeAt R 0 (cpC C) := fun j v hv => by
  rw [Nat.zero_add, h.nth, rnC, List.getElem?_append_left (List.getElem?_eq_some_iff.1 hv).1]
  exact hv
theorem RunAt.byte {w : World} {R : Nat} {C : List Nat} {M : List UInt8} {va vc : Value} (h : RunAt w R C M va vc) (i : Nat) (hi : i < 256) : w.cell? ⟨R, 9 + i, none⟩ = some (u8 ((M.getD i 0).toNat : Nat)) := by
  have hM : i < M.length := by rw [h.mem]; exact hi
  rw [h.nth, rnC, List.getElem?_append_right (by rw [cpC_len, h.rg.len]; omega), cpC_len, h.rg.len, Nat.add_sub_cancel_left, List.getElem?_append_left (by rw [cells_len]; exact hM)]
  simp [cells, List.getElem?_eq_getElem hM]
theorem RunAt.ans {w : World} {R : Nat} {C : List Nat} {M : List UInt8} {va vc : Value} (h : RunAt w R C M va vc) : w.cell? ⟨R, 265, none⟩ = some va ∧ w.cell? ⟨R, 266, none⟩ = some vc := by
  have hc := cpC_len C
  rw [h.rg.len] at hc
  have hm := cells_len M
  rw [h.mem] at hm
  refine ⟨?_, ?_⟩
  · rw [h.nth, rnC, List.getElem?_append_right (by omega), List.getElem?_append_right (by omega), hc, hm]; rfl
  · rw [h.nth, rnC, List.getElem?_append_right (by omega), List.getElem?_append_right (by omega), hc, hm]; rfl
theorem RunAt.there {w : World} {R : Nat} {C : List Nat} {M : List UInt8} {va vc : Value} (h : RunAt w R C M va vc) : w.there R 0 9 := fun j hj => by
  rw [Nat.zero_add]
  refine ⟨?_, h.free j⟩
  have hj' : j < (cpC C).length := by rw [cpC_len, h.rg.len]; exact hj
  rw [h.nth, rnC, List.getElem?_append_left hj', List.getElem?_eq_getElem hj']
  rfl
theorem RunAt.cpu {w : World} {R : Nat} {C : List Nat} {M : List UInt8} {va vc : Value} (h : RunAt w R C M va vc) {D : List Nat} (hD : Rg D) : RunAt (w.setCells R 0 (cpC D)) R D M va vc :=
  ⟨heap_mid (cells M ++ [va, vc]) (cpC D) (cpC C) [] w (by rw [cpC_len, cpC_len, h.rg.len, hD.len]) h.row, hD, h.mem⟩
theorem RunAt.one {w : World} {R : Nat} {C : List Nat} {M : List UInt8} {va vc : Value} (h : RunAt w R C M va vc) (j : Nat) (v : Value) : (w.setCell ⟨R, j, none⟩ v).heap[R]? = some (.cells ((rnC C M va vc).set j v).toArray 66 (0, 0)) := by
  simp only [World.setCell, Array.getElem?_modify, h.row, if_true, Option.map_some]
  congr 2
  simp
theorem RunAt.put {w : World} {R : Nat} {C : List Nat} {M : List UInt8} {va vc : Value} (h : RunAt w R C M va vc) (i : Nat) (hi : i < 256) (b : UInt8) : RunAt (w.setCell ⟨R, 9 + i, none⟩ (u8 (b.toNat : Nat))) R C (M.set i b) va vc := by
  refine ⟨?_, h.rg, by rw [List.length_set]; exact h.mem⟩
  rw [h.one]
  congr 3
  have hc := cpC_len C
  rw [h.rg.len] at hc
  have hm := cells_len M
  rw [h.mem] at hm
  unfold rnC
  rw [List.set_append_right _ _ (by omega), hc, Nat.add_sub_cancel_left, List.set_append_left _ _ (by omega)]
  simp [cells, List.map_set]
theorem RunAt.setA {w : World} {R : Nat} {C : List Nat} {M : List UInt8} {va vc : Value} (h : RunAt w R C M va vc) (v : Value) : RunAt (w.setCell ⟨R, 265, none⟩ v) R C M v vc := by
  refine ⟨?_, h.rg, h.mem⟩
  rw [h.one]
  have hc := cpC_len C
  rw [h.rg.len] at hc
  have hm := cells_len M
  rw [h.mem] at hm
  unfold rnC
  rw [List.set_append_right _ _ (by omega), hc, List.set_append_right _ _ (by omega), hm]
  rfl
theorem RunAt.setK {w : World} {R : Nat} {C : List Nat} {M : List UInt8} {va vc : Value} (h : RunAt w R C M va vc) (v : Value) : RunAt (w.setCell ⟨R, 266, none⟩ v) R C M va v := by
  refine ⟨?_, h.rg, h.mem⟩
  rw [h.one]
  have hc := cpC_len C
  rw [h.rg.len] at hc
  have hm := cells_len M
  rw [h.mem] at hm
  unfold rnC
  rw [List.set_append_right _ _ (by omega), hc, List.set_append_right _ _ (by omega), hm]
  rfl
end Go.Proofs.YtigbfdloodfdgaaDoor
