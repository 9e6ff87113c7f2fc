/- New blocks of registers and acts; the laws' ref, cpu.Args: their contracts; no statement is proved in this text. -/
import Derived.Test.YtigbfdloodfdgaaDoorCpuEq
namespace Go.Proofs.YtigbfdloodfdgaaDoor
open Go.ChangeShapes Go.WideShapes Go.ChangeAt Go.RowKit

abbrev Z9 : Obj := .cells #[u16 0, u16 0, u16 0, u16 0, u16 0, u16 0, u16 0, u16 0, u16 0] 30
abbrev Z6 (t : TypeId) : Obj := .cells #[i64 0, i64 0, i64 0, i64 0, i64 0, i64 0] t
abbrev Z15 : Obj := .cells #[u16 0, u16 0, u16 0, u16 0, u16 0, u16 0, u16 0, u16 0, u16 0, i64 0, i64 0, i64 0, i64 0, i64 0, i64 0] 88
theorem setCells_size (b : Nat) (vs : List Value) (o : Nat) (w : World) : (w.setCells b o vs).heap.size = w.heap.size := by
  induction vs generalizing o w with
  | nil => rfl
  | cons v r ih => rw [World.setCells, ih]; simp [World.setCell]
theorem Arow.set {V : World} {b : Nat} {x0 x1 x2 x3 x4 x5 : Value} (h : V.heap[b]? = some (.cells #[x0, x1, x2, x3, x4, x5] 61 (0, 0))) (x : Ac) : Arow (V.setCells b 0 (acC x)) b x := by
  refine ⟨?_⟩
  simp [acC, World.setCells, World.setCell, Array.getElem?_modify, h]
theorem there_of_row {V : World} {b : Nat} {cs : Array Value} {t : TypeId} (h : V.heap[b]? = some (.cells cs t (0, 0))) : V.there b 0 cs.size := fun j hj => by
  rw [Nat.zero_add]
  refine ⟨?_, ?_⟩
  · rw [cell_of_row _ _ _ _ t (0, 0) h]
    simp [hj]
  · unfold World.frozen?
    rw [show V.heap[(⟨b, j, none⟩ : Addr).block]? = _ from h]
    simp
theorem range_below {V W : World} {b o : Nat} {cs : List Value} (h : V.rangeAt b o cs) (hlt : b < V.heap.size) (hb : Below V.heap.size V W) : W.rangeAt b o cs := fun j v hv => by
  rw [hb.cell (p := ⟨b, o + j, none⟩) hlt]
  exact h j v hv
theorem range_left {V : World} {b o : Nat} {cs ds : List Value} (h : V.rangeAt b o (cs ++ ds)) : V.rangeAt b o cs := fun j v hv => h j v (by rw [List.getElem?_append_left (List.getElem?_eq_some_iff.1 hv).1]; exact hv)
theorem range_right {V : World} {b o n : Nat} {cs ds : List Value} (h : V.rangeAt b o (cs ++ ds)) (hn : o + cs.length = n) : V.rangeAt b n ds := fun j v hv => by
  subst hn
  rw [Nat.add_assoc]
  exact h (cs.length + j) v (by rw [List.getElem?_append_right (by omega), Nat.add_sub_cancel_left]; exact hv)
theorem below_cells {V : World} {b : Nat} (hb : V.heap.size ≤ b) {W : World} (h : Below V.heap.size V W) (vs : List Value) : Below V.heap.size V (W.setCells b 0 vs) := Below.cellsAt vs b 0 W hb h
/-- A load of many cells at an operation that has a guard, which lets it. -/
theorem wpListG_load {P : Program} {ops : Array Oper} {rest : List Oper} {op : Oper} {a : Act} {w : World} {Q : Exit → Act → World → Prop} (hw : Region.wanted op (yielded ops a.tmps) = true) (ty : TypeId) (x : Operand) (ho : op.op = .load ty x)
    (b o : Nat) (hx : a.eval x = .pointer (some ⟨b, o, none⟩)) (cs : List Value) (d : TypeDesc) (hc : w.rangeAt b o cs)
    (hu : P.underlying ty = some d) (hd : d.isRow = true) (hi : (P.info? ty).map (·.size) = some cs.length)
    (h : wpList P ops Q rest (a.put op.dst (.agg cs.toArray)) w) : wpList P ops Q (op :: rest) a w := by
  rw [wpList, if_pos hw]
  exact Or.inl (wp_load_mid ty x ho b o hx cs d hc hu hd hi h)
/-- A new block of registers. -/
theorem new_row (W : World) {C : List Nat} (hC : Rg C) : Row ((W.alloc Z9).setCells W.heap.size 0 (cpC C)) W.heap.size C ∧ Below W.heap.size W ((W.alloc Z9).setCells W.heap.size 0 (cpC C)) ∧ (W.alloc Z9).there W.heap.size 0 (cpC C).toArray.size :=
  ⟨Row.all (C0 := z9) ⟨heap_at rfl _⟩ Rg.zero hC, below_cells (Nat.le_refl _) (below_one W _) _, fin_there (Row.there (C := z9) ⟨heap_at rfl _⟩ Rg.zero) hC⟩
/-- New blocks of registers and of an act. -/
theorem new_two (W : World) {C : List Nat} (hC : Rg C) (x : Ac) :
    ((W.alloc Z9).alloc (Z6 61)).there W.heap.size 0 (cpC C).toArray.size ∧ (((W.alloc Z9).alloc (Z6 61)).setCells W.heap.size 0 (cpC C)).there (W.heap.size + 1) 0 6 ∧
    Row ((((W.alloc Z9).alloc (Z6 61)).setCells W.heap.size 0 (cpC C)).setCells (W.heap.size + 1) 0 (acC x)) W.heap.size C ∧ Arow ((((W.alloc Z9).alloc (Z6 61)).setCells W.heap.size 0 (cpC C)).setCells (W.heap.size + 1) 0 (acC x)) (W.heap.size + 1) x ∧
    Below W.heap.size W ((((W.alloc Z9).alloc (Z6 61)).setCells W.heap.size 0 (cpC C)).setCells (W.heap.size + 1) 0 (acC x)) := by
  have r0 : Row ((W.alloc Z9).alloc (Z6 61)) W.heap.size z9 := ⟨by rw [Below.heap_alloc _ _ _ (by simp)]; exact heap_at rfl _⟩
  have a0 : ((W.alloc Z9).alloc (Z6 61)).heap[W.heap.size + 1]? = some (.cells #[i64 0, i64 0, i64 0, i64 0, i64 0, i64 0] 61 (0, 0)) := heap_at (by simp) _
  have a1 : (((W.alloc Z9).alloc (Z6 61)).setCells W.heap.size 0 (cpC C)).heap[W.heap.size + 1]? = some (.cells #[i64 0, i64 0, i64 0, i64 0, i64 0, i64 0] 61 (0, 0)) := by rw [heap_setCells_ne _ _ (by omega)]; exact a0
  have r1 := Row.all r0 Rg.zero hC
  refine ⟨fin_there (r0.there Rg.zero) hC, there_of_row a1, ⟨?_⟩, Arow.set a1 x, ?_⟩
  · rw [heap_setCells_ne _ _ (by omega)]; exact r1.row
  · exact below_cells (by omega) (below_cells (Nat.le_refl _) ((below_one W _).alloc (by simp) _) _) _
/-- A new block of registers and an act, of the document's. -/
theorem new_done (W : World) {C : List Nat} (hC : Rg C) (x : Ac) : (W.alloc Z15).there W.heap.size 0 (dnC C x).toArray.size ∧ ((W.alloc Z15).setCells W.heap.size 0 (dnC C x)).rangeAt W.heap.size 0 (cpC C) ∧ ((W.alloc Z15).setCells W.heap.size 0 (dnC C x)).rangeAt W.heap.size 9 (acC x) ∧ Below W.heap.size W ((W.alloc Z15).setCells W.heap.size 0 (dnC C x)) := by
  have h0 : (W.alloc Z15).there W.heap.size 0 15 := there_of_row (heap_at rfl _)
  have h1 : (W.alloc Z15).there W.heap.size 0 (dnC C x).length := by rw [dnC_len hC]; exact h0
  have h2 := World.rangeAt_setCells_same (W.alloc Z15) W.heap.size 0 (dnC C x) h1
  refine ⟨?_, range_left h2, range_right h2 (by rw [cpC_len, hC.len]), below_cells (Nat.le_refl _) (below_one W _) _⟩
  have e : (dnC C x).toArray.size = (dnC C x).length := List.size_toArray
  rw [e]
  exact h1
theorem Row.lt {V : World} {b : Nat} {C : List Nat} (h : Row V b C) : b < V.heap.size := (Array.getElem?_eq_some_iff.1 h.row).1
theorem Arow.lt {V : World} {b : Nat} {x : Ac} (h : Arow V b x) : b < V.heap.size := (Array.getElem?_eq_some_iff.1 h.row).1
theorem Arow.cell {V : World} {b : Nat} {x : Ac} (h : Arow V b x) : V.cell? ⟨b, 0, none⟩ = some (i64 x.k) := by
  rw [cell_of_row _ _ _ _ 61 (0, 0) h.row]
  rfl

set_option maxHeartbeats 1600000 in
theorem args_ok (w : World) (C : List Nat) (hC : Rg C) (v1 v2 v3 : Nat) (e1 : C.getD 1 0 = v1) (e2 : C.getD 2 0 = v2) (e3 : C.getD 3 0 = v3) : Calls Tryd.prog 29 #[cpV C] w fun e w' => e = .returned (.agg #[i64 v1, i64 v2, i64 v3]) ∧ Below w.heap.size w w' := by
  have h1 : v1 < 65536 := by rw [← e1]; exact hC.get 1
  have h2 : v2 < 65536 := by rw [← e2]; exact hC.get 2
  have h3 : v3 < 65536 := by rw [← e3]; exact hC.get 3
  have HE : Hid (C.getD 1 0 = v1 ∧ C.getD 2 0 = v2 ∧ C.getD 3 0 = v3) := ⟨e1, e2, e3⟩
  clear e1 e2 e3
  go_enter Tryd.func29, Tryd.ntmps29
  go_upto_region 1 with fail
  have hr : Row ((w.alloc (.cells (cpC C).toArray 30)).alloc (.cells #[i64 0, i64 0, i64 0] 49)) w.heap.size C := ⟨by rw [Below.heap_alloc _ _ _ (by simp)]; exact heap_at rfl _⟩
  have c1 := hr.cell hC 1 (by omega)
  have c2 := hr.cell hC 2 (by omega)
  have c3 := hr.cell hC 3 (by omega)
  rw [HE.out.1] at c1
  rw [HE.out.2.1] at c2
  rw [HE.out.2.2] at c3
  clear hr
  go_wp2_with fail
  exact bodyPost_ret (v := .agg #[i64 v1, i64 v2, i64 v3]) (by simp [results, Tryd.results29, go_sem]) rfl ⟨rfl, by repeat (first | exact Below.refl _ _ | refine Below.setCell ?_ (by simp) _ | refine Below.alloc ?_ (by simp) _)⟩

/-! ### The example -/
theorem Rg.lit {C : List Nat} (h1 : C.length = 9) (h2 : (C.all fun x => decide (x < 65536)) = true) : Rg C := ⟨h1, fun x hx => of_decide_eq_true (List.all_eq_true.1 h2 x hx)⟩
def s0 : List Nat := [0, 5, 7, 0, 0, 0, 0, 0, 0]
def s1 : List Nat := [0, 65534, 7, 0, 0, 0, 0, 0, 2]
def s2 : List Nat := [0, 65534, 7, 0, 0, 0, 0, 0, 4]
theorem maxLen_ge : 400 ≤ maxLen := by unfold maxLen; omega
theorem Arow.cells {V : World} {b : Nat} {x : Ac} (h : Arow V b x) : V.cell? ⟨b, 0, none⟩ = some (i64 x.k) ∧ V.cell? ⟨b, 1, none⟩ = some (i64 x.n) ∧ V.cell? ⟨b, 2, none⟩ = some (i64 x.r) ∧ V.cell? ⟨b, 3, none⟩ = some (i64 x.ad) ∧ V.cell? ⟨b, 4, none⟩ = some (i64 x.s) ∧ V.cell? ⟨b, 5, none⟩ = some (i64 x.v) := by
  simp only [cell_of_row _ _ _ _ 61 (0, 0) h.row]
  exact ⟨rfl, rfl, rfl, rfl, rfl, rfl⟩
end Go.Proofs.YtigbfdloodfdgaaDoor
