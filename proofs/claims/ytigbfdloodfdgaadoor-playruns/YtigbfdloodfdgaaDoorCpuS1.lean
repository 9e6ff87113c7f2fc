/- cpu.Step where no instruction is there: its contract; no statement is proved in this text. -/
import Derived.Test.YtigbfdloodfdgaaDoorCpuSt
import Derived.WalkMore
import Derived.ScopeJumps
namespace Go.Proofs.YtigbfdloodfdgaaDoor
open Go.ChangeShapes Go.WideShapes Go.ChangeAt Go.RowKit

/-- A scope in which the run jumps ahead to one label, once: what is left behind the label is walked at the jump. -/
theorem wp_scope_ahead {P : Program} {a : Act} {w : World} {Q : Exit → Act → World → Prop} {c rest : Code} (l : Nat) (hf : findLabel c l = some rest)
    (first : c.wp P (Exit.jump l (fun a w => rest.wp P (Exit.noGoto Q) a w) Q) a w) : (Code.scope c).wp P Q a w :=
  wp_scope_jumps l (fun a w => rest.wp P (Exit.noGoto Q) a w) (fun _ _ => 0) hf first fun _ _ h => wp_mono h fun e _ _ hq => by
    cases e <;> first | exact hq | exact hq.elim
def z9 : List Nat := [0, 0, 0, 0, 0, 0, 0, 0, 0]
theorem Rg.zero : Rg z9 := ⟨rfl, fun x hx => by simp [z9] at hx; omega⟩
/-- A block of an act. -/
structure Arow (V : World) (b : Nat) (x : Ac) : Prop where
  row : V.heap[b]? = some (.cells (acC x).toArray 61 (0, 0))
theorem Arow.range {V : World} {b : Nat} {x : Ac} (h : Arow V b x) : V.rangeAt b 0 (acC x) := fun j v hv => by
  rw [cell_of_row _ _ _ _ 61 (0, 0) h.row]
  simpa using hv
theorem Arow.there {V : World} {b : Nat} {x : Ac} (h : Arow V b x) : V.there b 0 6 := fun j hj => by
  rw [Nat.zero_add]
  refine ⟨?_, ?_⟩
  · rw [cell_of_row _ _ _ _ 61 (0, 0) h.row]
    simp [acC, hj]
  · unfold World.frozen?
    rw [show V.heap[(⟨b, j, none⟩ : Addr).block]? = _ from h.row]
    simp
theorem Arow.below {V W : World} {b : Nat} {x : Ac} (h : Arow V b x) (hb : Below V.heap.size V W) : Arow W b x :=
  ⟨(hb.block _ (Array.getElem?_eq_some_iff.1 h.row).1).trans h.row⟩
theorem Arow.other {V : World} {b b' j : Nat} {x : Ac} (h : Arow V b x) (hne : b' ≠ b) (v : Value) : Arow (V.setCell ⟨b', j, none⟩ v) b x :=
  ⟨(Below.heap_setCell _ _ _ _ hne.symm).trans h.row⟩
theorem Below.cellsAt {B : Nat} {a : World} : ∀ (vs : List Value) (b o : Nat) (w : World), B ≤ b → Below B a w → Below B a (w.setCells b o vs)
  | [], _, _, _, _, h => h
  | v :: r, b, o, w, hb, h => by
    rw [World.setCells]
    exact Below.cellsAt r b (o + 1) _ hb (h.setCell hb v)
/-- What stands behind the first region: the registers, the two results. -/
structure Beg (w V : World) (C : List Nat) : Prop where
  r0 : Row V w.heap.size C
  r1 : Row V (w.heap.size + 1) z9
  r2 : Arow V (w.heap.size + 1 + 1) zA
  bel : Below w.heap.size w V
  siz : w.heap.size + 2 < V.heap.size
theorem Beg.below {w V W : World} {C : List Nat} (h : Beg w V C) (hb : Below V.heap.size V W) : Beg w W C :=
  ⟨h.r0.below hb, h.r1.below hb, h.r2.below hb, h.bel.trans (hb.mono h.bel.size), by have := hb.size; have := h.siz; omega⟩
theorem Beg.start (w : World) (C : List Nat) : Beg w (((w.alloc (.cells (cpC C).toArray 30)).alloc (.cells #[u16 0, u16 0, u16 0, u16 0, u16 0, u16 0, u16 0, u16 0, u16 0] 30)).alloc (.cells #[i64 0, i64 0, i64 0, i64 0, i64 0, i64 0] 61)) C := by
  refine ⟨⟨?_⟩, ⟨?_⟩, ⟨?_⟩, ((below_one w _).alloc (by simp) _).alloc (by simp; omega) _, by simp⟩
  · rw [Below.heap_alloc _ _ _ (by simp; omega), Below.heap_alloc _ _ _ (by simp)]; exact heap_at rfl _
  · rw [Below.heap_alloc _ _ _ (by simp)]; exact heap_at (by simp) _
  · exact heap_at (by simp) _
/-- What stands behind the last region. -/
structure Fin (w W : World) (C : List Nat) (x : Ac) : Prop where
  r1 : W.rangeAt (w.heap.size + 1) 0 (cpC C)
  r2 : W.rangeAt (w.heap.size + 1 + 1) 0 (acC x)
  bel : Below w.heap.size w W
theorem fin_there {V : World} {b : Nat} (h1 : V.there b 0 9) {C : List Nat} (hC : Rg C) : V.there b 0 (cpC C).toArray.size := by rw [List.size_toArray, cpC_len, hC.len]; exact h1
theorem Beg.fin {w V : World} {C0 : List Nat} (h : Beg w V C0) {C : List Nat} (hC : Rg C) (x : Ac) : Fin w ((V.setCells (w.heap.size + 1) 0 (cpC C)).setCells (w.heap.size + 1 + 1) 0 (acC x)) C x := by
  refine ⟨?_, ?_, ?_⟩
  · refine World.rangeAt_setCells_apart (World.rangeAt_setCells_same V _ 0 _ ?_) _ _ _ (Or.inl (by omega))
    rw [cpC_len, hC.len]; exact h.r1.there Rg.zero
  · exact World.rangeAt_setCells_same _ _ 0 _ (World.there_setCells h.r2.there _ _ _)
  · exact Below.cellsAt _ _ _ _ (by omega) (Below.cellsAt _ _ _ _ (by omega) h.bel)
theorem Fin.results {w W : World} {C : List Nat} {x : Ac} (h : Fin w W C x) (hC : Rg C) : (loadVar 30 ⟨w.heap.size + 1, 0, none⟩).run Tryd.prog W = .ok (cpV C) W ∧ (loadVar 61 ⟨w.heap.size + 1 + 1, 0, none⟩).run Tryd.prog W = .ok (acV x) W :=
  ⟨run_loadVar_mid W _ 0 30 _ _ h.r1 Tryd.underlying30 rfl (cpC_info hC), run_loadVar_mid W _ 0 61 _ _ h.r2 Tryd.underlying61 rfl (by kernel_rfl)⟩
theorem results_two {W : World} {t : Array Value} {a b : Addr} {u v : Value} (h4 : t.getD 4 undef = .pointer (some a)) (h5 : t.getD 5 undef = .pointer (some b)) (g1 : (loadVar 30 a).run Tryd.prog W = .ok u W) (g2 : (loadVar 61 b).run Tryd.prog W = .ok v W) :
    (results Tryd.f16 t).run Tryd.prog W = .ok (.tuple #[u, v]) W := by
  have hr : Tryd.f16.results = #[.cell 4 30, .cell 5 61] := Tryd.results16
  simp only [results, hr]
  simp [Sem.run_bind, Result.andThen, asAddr, h4, h5, g1, g2, -Array.getD_eq_getD_getElem?]

set_option maxRecDepth 100000 in
set_option maxHeartbeats 1600000 in
theorem step_bad (w : World) (ht : Tab w) (C : List Nat) (hC : Rg C) (l : List UInt8) (hl : l.length ≤ maxLen) (he : atE l (C.getD 8 0 : Nat) ≠ 0) :
    Calls Tryd.prog 16 #[cpV C, .string ⟨l.toArray⟩] w fun e w' => e = .returned (stV C zA) ∧ Below w.heap.size w w' := by
  have hp := hC.get 8
  have HA : Hid (∀ w, Tab w → Calls Tryd.prog 32 #[.string ⟨l.toArray⟩, i64 (C.getD 8 0 : Nat)] w fun e w' => e = .returned (atV (atI l (C.getD 8 0 : Nat)) (atN l (C.getD 8 0 : Nat)) (atE l (C.getD 8 0 : Nat))) ∧ Below w.heap.size w w') := fun w ht => at_any w ht l hl _
  have hen : (atE l (C.getD 8 0 : Nat) != 0) = true := by simpa using he
  clear he
  go_enter Tryd.func16, Tryd.ntmps16
  go_wp2_with fail
  have hB := Beg.start w C
  generalize (((w.alloc (.cells (cpC C).toArray 30)).alloc (.cells #[u16 0, u16 0, u16 0, u16 0, u16 0, u16 0, u16 0, u16 0, u16 0] 30)).alloc (.cells #[i64 0, i64 0, i64 0, i64 0, i64 0, i64 0] 61)) = V at *
  have hc8 := hB.r0.cell hC 8 (by omega)
  have HB : Hid (Beg w V C) := hB
  have HT : Hid (Tab V) := ht.below hB.bel
  clear hB ht
  generalize C.getD 8 0 = pc at *
  generalize atI l pc = i at *
  generalize atN l pc = nx at *
  generalize atE l pc = er at *
  obtain ⟨op, A, B, n⟩ := i
  go_step3
  go_wp2_with fail
  refine (HA.out _ HT.out).mono ?_
  rintro e w1 ⟨rfl, hb1⟩
  have HBA : Hid (Beg w (w1.alloc (.cells #[i64 op, i64 A, i64 B, i64 n] 80)) C) := HB.out.below ((hb1.mono (Nat.le_refl _)).alloc hb1.size _)
  clear hb1
  go_wp2_with (first
    | (refine wpList_load_mid rfl 30 (.tmp 2) rfl w.heap.size 0 rfl (cpC C) _ (by exact HBA.out.r0.range) Tryd.underlying30 rfl (cpC_info hC) ?_)
    | (refine wpList_store_mid rfl 30 (.tmp 4) (.tmp 20) rfl (w.heap.size + 1) 0 (cpC C).toArray rfl rfl (by exact fin_there (HBA.out.r1.there Rg.zero) hC) (cpC_infoA hC) (cpC_one C) ?_)
    | (refine wpList_store_mid rfl 61 (.tmp 5) (.tmp 21) rfl (w.heap.size + 1 + 1) 0 #[i64 0, i64 0, i64 0, i64 0, i64 0, i64 0] rfl rfl (by exact World.there_setCells HBA.out.r2.there _ _ _) info28 (by kernel_rfl) ?_))
  have hF := HBA.out.fin hC zA
  obtain ⟨g1, g2⟩ := hF.results hC
  rw [Exit.noGoto_ret]
  exact bodyPost_ret (results_two rfl rfl g1 g2) rfl ⟨rfl, hF.bel⟩
end Go.Proofs.YtigbfdloodfdgaaDoor
