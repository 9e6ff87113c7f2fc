/- The document's Step: what its walk stands on, and where no instruction is there; no statement is proved in this text. -/
import Derived.Test.YtigbfdloodfdgaaDoorCpuS2
namespace Go.Proofs.YtigbfdloodfdgaaDoor
open Go.ChangeShapes Go.WideShapes Go.ChangeAt Go.RowKit

theorem list9 {α : Type} : ∀ {l : List α}, l.length = 9 → ∃ c0 c1 c2 c3 c4 c5 c6 c7 c8, l = [c0, c1, c2, c3, c4, c5, c6, c7, c8]
  | [c0, c1, c2, c3, c4, c5, c6, c7, c8], _ => ⟨c0, c1, c2, c3, c4, c5, c6, c7, c8, rfl⟩
abbrev dnC (C : List Nat) (x : Ac) : List Value := cpC C ++ acC x
abbrev dnV (C : List Nat) (x : Ac) : Value := .agg (dnC C x).toArray
theorem dnC_len {C : List Nat} (h : Rg C) (x : Ac) : (dnC C x).length = 15 := by rw [List.length_append, cpC_len, h.len]; rfl
theorem info33 : (Tryd.prog.info? 88).map (·.size) = some 15 := by kernel_rfl
theorem dnC_info {C : List Nat} (h : Rg C) (x : Ac) : (Tryd.prog.info? 88).map (·.size) = some (dnC C x).length := by rw [dnC_len h]; exact info33
theorem dnC_infoA {C : List Nat} (h : Rg C) (x : Ac) : (Tryd.prog.info? 88).map (·.size) = some (dnC C x).toArray.size := by rw [List.size_toArray]; exact dnC_info h x
theorem dnC_one (C : List Nat) (x : Ac) : (dnC C x).toArray.all (·.oneCell') = true := all_oneCell_toArray fun v hv => by
  rcases List.mem_append.1 hv with hv | hv
  · obtain ⟨y, _, rfl⟩ := List.mem_map.1 hv
    rfl
  · simp at hv
    rcases hv with rfl | rfl | rfl | rfl | rfl | rfl <;> rfl
theorem build_one {C : List Nat} (h : Rg C) (w : World) : (Instr.build 88 #[(0, cpV C)]).run Tryd.prog w = .ok (dnV C zA) w := by
  obtain ⟨c0, c1, c2, c3, c4, c5, c6, c7, c8, rfl⟩ := list9 h.len
  kernel_rfl
theorem build_two {C : List Nat} (h : Rg C) (x : Ac) (w : World) : (Instr.build 88 #[(0, cpV C), (1, acV x)]).run Tryd.prog w = .ok (dnV C x) w := by
  obtain ⟨c0, c1, c2, c3, c4, c5, c6, c7, c8, rfl⟩ := list9 h.len
  kernel_rfl
theorem wpList_build1 {w : World} {ops : Array Oper} {rest : List Oper} {o : Oper} {a : Act} {Q : Exit → Act → World → Prop} (hgd : o.guard = none) (x : Operand) (ho : o.op = .build 88 #[(0, x)]) {C : List Nat} (hx : a.eval x = cpV C) (hC : Rg C)
    (h : wpList Tryd.prog ops Q rest (a.put o.dst (dnV C zA)) w) : wpList Tryd.prog ops Q (o :: rest) a w := by
  refine wpList_plain hgd fun K hK => ?_
  unfold Oper.wp
  have hb := build_one hC w
  simp only [execOp, ho]
  simp [hx, hb, Result.andThen]
  exact hK _ _ h
theorem wpList_build2 {w : World} {ops : Array Oper} {rest : List Oper} {o : Oper} {a : Act} {Q : Exit → Act → World → Prop} (hgd : o.guard = none) (x y : Operand) (ho : o.op = .build 88 #[(0, x), (1, y)]) {C : List Nat} (X : Ac) (hx : a.eval x = cpV C) (hy : a.eval y = acV X) (hC : Rg C)
    (h : wpList Tryd.prog ops Q rest (a.put o.dst (dnV C X)) w) : wpList Tryd.prog ops Q (o :: rest) a w := by
  refine wpList_plain hgd fun K hK => ?_
  unfold Oper.wp
  have hb := build_two hC X w
  simp only [execOp, ho]
  simp [hx, hy, hb, Result.andThen]
  exact hK _ _ h
theorem Row.all {V : World} {b : Nat} {C0 C : List Nat} (h : Row V b C0) (h0 : Rg C0) (hC : Rg C) : Row (V.setCells b 0 (cpC C)) b C := by
  obtain ⟨d0, d1, d2, d3, d4, d5, d6, d7, d8, rfl⟩ := list9 h0.len
  obtain ⟨c0, c1, c2, c3, c4, c5, c6, c7, c8, rfl⟩ := list9 hC.len
  exact ((((((((h.set 0 c0).set 1 c1).set 2 c2).set 3 c3).set 4 c4).set 5 c5).set 6 c6).set 7 c7).set 8 c8
theorem results_done {W : World} {t : Array Value} {a : Addr} {u : Value} (h4 : t.getD 4 undef = .pointer (some a)) (g1 : (loadVar 88 a).run Tryd.prog W = .ok u W) :
    (results Tryd.f36 t).run Tryd.prog W = .ok u W := by
  have hr : Tryd.f36.results = #[.cell 4 88] := Tryd.results36
  simp only [results, hr]
  simp [asAddr, h4, g1, -Array.getD_eq_getD_getElem?]
/-- What stands behind the first region. -/
structure RBeg (w V : World) (C : List Nat) : Prop where
  r0 : Row V w.heap.size C
  d1 : V.there (w.heap.size + 1) 0 15
  bel : Below w.heap.size w V
  siz : w.heap.size + 1 < V.heap.size
theorem there_below {V W : World} {b n : Nat} (h : V.there b 0 n) (hlt : b < V.heap.size) (hb : Below V.heap.size V W) : W.there b 0 n := fun j hj => by
  rw [hb.cell (p := ⟨b, 0 + j, none⟩) hlt, hb.frozen (p := ⟨b, 0 + j, none⟩) hlt]
  exact h j hj
theorem RBeg.below {w V W : World} {C : List Nat} (h : RBeg w V C) (hb : Below V.heap.size V W) : RBeg w W C :=
  ⟨h.r0.below hb, there_below h.d1 h.siz hb, h.bel.trans (hb.mono h.bel.size), by have := hb.size; have := h.siz; omega⟩
theorem RBeg.start (w : World) (C : List Nat) : RBeg w ((w.alloc (.cells (cpC C).toArray 30)).alloc (.cells #[u16 0, u16 0, u16 0, u16 0, u16 0, u16 0, u16 0, u16 0, u16 0, i64 0, i64 0, i64 0, i64 0, i64 0, i64 0] 88)) C := by
  refine ⟨⟨?_⟩, ?_, (below_one w _).alloc (by simp) _, by simp⟩
  · rw [Below.heap_alloc _ _ _ (by simp)]; exact heap_at rfl _
  · have hh : ((w.alloc (.cells (cpC C).toArray 30)).alloc (.cells #[u16 0, u16 0, u16 0, u16 0, u16 0, u16 0, u16 0, u16 0, u16 0, i64 0, i64 0, i64 0, i64 0, i64 0, i64 0] 88)).heap[w.heap.size + 1]? = some (.cells #[u16 0, u16 0, u16 0, u16 0, u16 0, u16 0, u16 0, u16 0, u16 0, i64 0, i64 0, i64 0, i64 0, i64 0, i64 0] 88 (0, 0)) := heap_at (by simp) _
    intro j hj
    rw [Nat.zero_add]
    refine ⟨?_, ?_⟩
    · rw [cell_of_row _ _ _ _ 88 (0, 0) hh]
      simp [hj]
    · unfold World.frozen?
      rw [show (World.alloc _ _).heap[(⟨w.heap.size + 1, j, none⟩ : Addr).block]? = _ from hh]
      simp
/-- What stands behind the last region. -/
theorem RBeg.fin {w V : World} {C0 : List Nat} (h : RBeg w V C0) {C : List Nat} (hC : Rg C) (x : Ac) :
    (loadVar 88 ⟨w.heap.size + 1, 0, none⟩).run Tryd.prog (V.setCells (w.heap.size + 1) 0 (dnC C x)) = .ok (dnV C x) (V.setCells (w.heap.size + 1) 0 (dnC C x)) ∧ Below w.heap.size w (V.setCells (w.heap.size + 1) 0 (dnC C x)) := by
  refine ⟨run_loadVar_mid _ _ 0 88 _ _ (World.rangeAt_setCells_same V _ 0 _ ?_) Tryd.underlying88 rfl (dnC_info hC x), Below.cellsAt _ _ _ _ (by omega) h.bel⟩
  rw [dnC_len hC]; exact h.d1
theorem RBeg.thr {w V : World} {C0 : List Nat} (h : RBeg w V C0) {C : List Nat} (hC : Rg C) (x : Ac) : V.there (w.heap.size + 1) 0 (dnC C x).toArray.size := by
  have e : (dnC C x).toArray.size = 15 := List.size_toArray.trans (dnC_len hC x)
  rw [e]
  exact h.d1

set_option maxRecDepth 100000 in
set_option maxHeartbeats 1600000 in
theorem rstep_bad (w : World) (C : List Nat) (hC : Rg C) (s : ByteArray) (pc : Nat) (i : In) (nx er : Int) (hpc : C.getD 8 0 = pc)
    (hA : ∀ w, Calls Tryd.prog 43 #[.string s, i64 pc] w fun e w' => e = .returned (gotV i nx er) ∧ Below w.heap.size w w') (he : er ≠ 0) :
    Calls Tryd.prog 36 #[cpV C, .string s] w fun e w' => e = .returned (dnV C zA) ∧ Below w.heap.size w w' := by
  have hpc16 : pc < 65536 := by rw [← hpc]; exact hC.get 8
  have hen : (er != 0) = true := by simpa using he
  have HA : Hid (∀ w, Calls Tryd.prog 43 #[.string s, i64 pc] w fun e w' => e = .returned (gotV i nx er) ∧ Below w.heap.size w w') := hA
  have HPC : Hid (C.getD 8 0 = pc) := hpc
  obtain ⟨op, A, B, n⟩ := i
  clear he hA hpc
  go_enter Tryd.func36, Tryd.ntmps36
  go_upto_region 1 with fail
  have hB := RBeg.start w C
  generalize ((w.alloc (.cells (cpC C).toArray 30)).alloc (.cells #[u16 0, u16 0, u16 0, u16 0, u16 0, u16 0, u16 0, u16 0, u16 0, i64 0, i64 0, i64 0, i64 0, i64 0, i64 0] 88)) = V at *
  have hc8 := hB.r0.cell hC 8 (by omega)
  rw [HPC.out] at hc8
  have HB : Hid (RBeg w V C) := hB
  clear hB
  go_wp2_with fail
  refine (HA.out _).mono ?_
  rintro e w1 ⟨rfl, hb1⟩
  have HB2 : Hid (RBeg w (w1.alloc (.cells #[i64 op, i64 A, i64 B, i64 n, i64 nx, i64 er] 98)) C) := (HB.out.below hb1).below (below_one _ _)
  clear hb1 HB
  go_wp2_with (first
    | (refine wpList_load_mid rfl 30 (.tmp 2) rfl w.heap.size 0 rfl (cpC C) _ (by exact HB2.out.r0.range) Tryd.underlying30 rfl (cpC_info hC) ?_)
    | (refine wpList_build1 rfl (.tmp 18) rfl (C := C) rfl hC ?_)
    | (refine wpList_store_mid rfl 88 (.tmp 4) (.tmp 19) rfl (w.heap.size + 1) 0 (dnC C zA).toArray rfl rfl (by exact HB2.out.thr hC zA) (dnC_infoA hC zA) (dnC_one _ _) ?_))
  obtain ⟨g1, g2⟩ := HB2.out.fin hC zA
  exact bodyPost_ret (results_done rfl g1) rfl ⟨rfl, g2⟩
end Go.Proofs.YtigbfdloodfdgaaDoor
