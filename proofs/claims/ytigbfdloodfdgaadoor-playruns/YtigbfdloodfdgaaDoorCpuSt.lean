/- cpu.Step: its contract; no statement is proved in this text. -/
import Derived.Test.YtigbfdloodfdgaaDoorCpuRs
import Derived.Deep.MidRow
import Derived.Deep.RegionHeld
namespace Go.Proofs.YtigbfdloodfdgaaDoor
open Go.ChangeShapes Go.WideShapes Go.ChangeAt Go.RowKit

def cpC (C : List Nat) : List Value := C.map fun x : Nat => Value.int .u16 (x : Int)
abbrev cpV (C : List Nat) : Value := .agg (cpC C).toArray
abbrev stV (C : List Nat) (x : Ac) : Value := .tuple #[cpV C, acV x]
abbrev acC (x : Ac) : List Value := [i64 x.k, i64 x.n, i64 x.r, i64 x.ad, i64 x.s, i64 x.v]
theorem info25 : (Tryd.prog.info? 30).map (·.size) = some 9 := by kernel_rfl
theorem info28 : (Tryd.prog.info? 61).map (·.size) = some 6 := by kernel_rfl
theorem cpC_len (C : List Nat) : (cpC C).length = C.length := by simp [cpC]
theorem cpC_one (C : List Nat) : (cpC C).toArray.all (·.oneCell') = true := all_oneCell_toArray fun v hv => by
  obtain ⟨x, _, rfl⟩ := List.mem_map.1 hv
  rfl
theorem cpC_info {C : List Nat} (h : Rg C) : (Tryd.prog.info? 30).map (·.size) = some (cpC C).length := by rw [cpC_len, h.len]; exact info25
theorem cpC_infoA {C : List Nat} (h : Rg C) : (Tryd.prog.info? 30).map (·.size) = some (cpC C).toArray.size := by rw [List.size_toArray]; exact cpC_info h
/-- What a block of registers gives. -/
structure Row (V : World) (b : Nat) (C : List Nat) : Prop where
  row : V.heap[b]? = some (.cells (cpC C).toArray 30 (0, 0))
theorem Row.cell {V : World} {b : Nat} {C : List Nat} (h : Row V b C) (hC : Rg C) (j : Nat) (hj : j < 9) : V.cell? ⟨b, j, none⟩ = some (u16 (C.getD j 0 : Nat)) := by
  rw [cell_of_row _ _ _ _ 30 (0, 0) h.row]
  have hj' : j < C.length := by rw [hC.len]; exact hj
  simp [cpC, List.getElem?_eq_getElem hj']
theorem Row.free {V : World} {b : Nat} {C : List Nat} (h : Row V b C) (j : Nat) : V.frozen? ⟨b, j, none⟩ = false := by
  unfold World.frozen?
  rw [show V.heap[(⟨b, j, none⟩ : Addr).block]? = _ from h.row]
  simp
theorem Row.range {V : World} {b : Nat} {C : List Nat} (h : Row V b C) : V.rangeAt b 0 (cpC C) := fun j v hv => by
  rw [cell_of_row _ _ _ _ 30 (0, 0) h.row]
  simpa using hv
theorem Row.there {V : World} {b : Nat} {C : List Nat} (h : Row V b C) (hC : Rg C) : V.there b 0 9 := fun j hj => by
  rw [Nat.zero_add]
  exact ⟨by rw [h.cell hC j hj]; rfl, h.free j⟩
theorem Row.set {V : World} {b : Nat} {C : List Nat} (h : Row V b C) (j x : Nat) : Row (V.setCell ⟨b, j, none⟩ (u16 x)) b (C.set j x) := by
  refine ⟨?_⟩
  simp only [World.setCell, Array.getElem?_modify, h.row, if_true, Option.map_some]
  congr 2
  simp [cpC, List.map_set]
theorem Row.below {V W : World} {b : Nat} {C : List Nat} (h : Row V b C) (hb : Below V.heap.size V W) : Row W b C :=
  ⟨(hb.block _ (Array.getElem?_eq_some_iff.1 h.row).1).trans h.row⟩
theorem Row.other {V : World} {b b' j : Nat} {C : List Nat} (h : Row V b C) (hne : b' ≠ b) (v : Value) : Row (V.setCell ⟨b', j, none⟩ v) b C :=
  ⟨(Below.heap_setCell _ _ _ _ hne.symm).trans h.row⟩
end Go.Proofs.YtigbfdloodfdgaaDoor
