/- play's deeds: their contract; no statement is proved in this text. -/
import Derived.Test.YtigbfdloodfdgaaDoorPlayD5
namespace Go.Proofs.YtigbfdloodfdgaaDoor
open Go.ChangeShapes Go.WideShapes Go.ChangeAt Go.RowKit

abbrev fn1 (f : Nat) (q : Nat) : Value := .func (.func f) #[] #[.pointer (some ⟨q, 0, none⟩)]
abbrev fn2 (f : Nat) (q h : Nat) : Value := .func (.func f) #[] #[.pointer (some ⟨q, 0, none⟩), .pointer (some ⟨h, 0, none⟩)]
set_option maxRecDepth 100000 in
set_option maxHeartbeats 1600000 in
theorem settle_ok (w : World) (q : Nat) (how : Int) : Calls Tryd.prog 19 #[i64 how, .pointer (some ⟨q, 0, none⟩)] w fun e w' => e = .returned (fn2 20 q w.heap.size) ∧ w' = w.alloc (.cells #[i64 how] 3) := by
  go_enter Tryd.func19, Tryd.ntmps19
  go_wp2_with fail
  go_ret
  exact ⟨rfl, rfl⟩
set_option maxRecDepth 100000 in
set_option maxHeartbeats 1600000 in
theorem inmk_ok (w : World) (f q : Nat) : Calls Tryd.prog 21 #[fn1 f q] w fun e w' => e = .returned (fn1 22 w.heap.size) ∧ w' = w.alloc (.cells #[fn1 f q] 57) := by
  go_enter Tryd.func21, Tryd.ntmps21
  go_wp2_with fail
  go_ret
  exact ⟨rfl, rfl⟩
/-- The deeds' own blocks. -/
structure DeedsAt (b R : Nat) (W : World) : Prop where
  q : W.cell? ⟨b, 0, none⟩ = some (.pointer (some ⟨R, 0, none⟩))
  h2 : W.cell? ⟨b + 2, 0, none⟩ = some (i64 2)
  h1 : W.cell? ⟨b + 3, 0, none⟩ = some (i64 1)
  d3 : W.cell? ⟨b + 4, 0, none⟩ = some (fn1 23 b)
  d4 : W.cell? ⟨b + 5, 0, none⟩ = some (fn1 26 b)
  h0 : W.cell? ⟨b + 6, 0, none⟩ = some (i64 0)
abbrev deedsC (b : Nat) : List Value := [fn2 20 b (b + 2), fn2 20 b (b + 3), fn1 28 b, fn1 22 (b + 4), fn1 22 (b + 5), fn2 20 b (b + 6)]
theorem seven (w : World) (o0 o1 o2 o3 o4 o5 o6 : Obj) (b : Nat) (hb : w.heap.size = b) :
    (((((((w.alloc o0).alloc o1).alloc o2).alloc o3).alloc o4).alloc o5).alloc o6).heap[b + 0]? = some o0 ∧ (((((((w.alloc o0).alloc o1).alloc o2).alloc o3).alloc o4).alloc o5).alloc o6).heap[b + 1]? = some o1 ∧ (((((((w.alloc o0).alloc o1).alloc o2).alloc o3).alloc o4).alloc o5).alloc o6).heap[b + 2]? = some o2 ∧ (((((((w.alloc o0).alloc o1).alloc o2).alloc o3).alloc o4).alloc o5).alloc o6).heap[b + 3]? = some o3 ∧ (((((((w.alloc o0).alloc o1).alloc o2).alloc o3).alloc o4).alloc o5).alloc o6).heap[b + 4]? = some o4 ∧ (((((((w.alloc o0).alloc o1).alloc o2).alloc o3).alloc o4).alloc o5).alloc o6).heap[b + 5]? = some o5 ∧ (((((((w.alloc o0).alloc o1).alloc o2).alloc o3).alloc o4).alloc o5).alloc o6).heap[b + 6]? = some o6 ∧ Below b w (((((((w.alloc o0).alloc o1).alloc o2).alloc o3).alloc o4).alloc o5).alloc o6) ∧ (((((((w.alloc o0).alloc o1).alloc o2).alloc o3).alloc o4).alloc o5).alloc o6).heap.size = b + 7 := by
  subst hb
  refine ⟨?_, ?_, ?_, ?_, ?_, ?_, ?_, ?_, ?_⟩
  · rw [Below.heap_alloc _ _ _ (by simp <;> omega)]; rw [Below.heap_alloc _ _ _ (by simp <;> omega)]; rw [Below.heap_alloc _ _ _ (by simp <;> omega)]; rw [Below.heap_alloc _ _ _ (by simp <;> omega)]; rw [Below.heap_alloc _ _ _ (by simp <;> omega)]; rw [Below.heap_alloc _ _ _ (by simp <;> omega)]; exact heap_at (by simp) _
  · rw [Below.heap_alloc _ _ _ (by simp <;> omega)]; rw [Below.heap_alloc _ _ _ (by simp <;> omega)]; rw [Below.heap_alloc _ _ _ (by simp <;> omega)]; rw [Below.heap_alloc _ _ _ (by simp <;> omega)]; rw [Below.heap_alloc _ _ _ (by simp <;> omega)]; exact heap_at (by simp) _
  · rw [Below.heap_alloc _ _ _ (by simp <;> omega)]; rw [Below.heap_alloc _ _ _ (by simp <;> omega)]; rw [Below.heap_alloc _ _ _ (by simp <;> omega)]; rw [Below.heap_alloc _ _ _ (by simp <;> omega)]; exact heap_at (by simp) _
  · rw [Below.heap_alloc _ _ _ (by simp <;> omega)]; rw [Below.heap_alloc _ _ _ (by simp <;> omega)]; rw [Below.heap_alloc _ _ _ (by simp <;> omega)]; exact heap_at (by simp) _
  · rw [Below.heap_alloc _ _ _ (by simp <;> omega)]; rw [Below.heap_alloc _ _ _ (by simp <;> omega)]; exact heap_at (by simp) _
  · rw [Below.heap_alloc _ _ _ (by simp <;> omega)]; exact heap_at (by simp) _
  · exact heap_at (by simp) _
  · exact ((((((below_one w _).alloc (by simp) _).alloc (by simp; omega) _).alloc (by simp; omega) _).alloc (by simp; omega) _).alloc (by simp; omega) _).alloc (by simp; omega) _
  · simp
theorem results_deeds {W : World} {t : Array Value} {a : Addr} {u : Value} (h2 : t.getD 2 undef = .pointer (some a)) (g1 : (loadVar 58 a).run Tryd.prog W = .ok u W) :
    (results Tryd.f15 t).run Tryd.prog W = .ok u W := by
  have hr : Tryd.f15.results = #[.cell 2 58] := Tryd.results15
  simp only [results, hr]
  simp [asAddr, h2, g1, -Array.getD_eq_getD_getElem?]
set_option maxRecDepth 100000 in
set_option maxHeartbeats 1600000 in
theorem deeds_ok (w : World) (R b : Nat) (hb : w.heap.size = b) : Calls Tryd.prog 15 #[.pointer (some ⟨R, 0, none⟩)] w fun e w' => e = .returned (.agg (deedsC b).toArray) ∧ DeedsAt b R w' ∧ Below b w w' ∧ w'.heap.size = b + 7 := by
  go_enter Tryd.func15, Tryd.ntmps15
  go_wp2_with fail
  refine (settle_ok _ _ _).mono ?_
  rintro e w1 ⟨rfl, rfl⟩
  go_wp2_with fail
  refine (settle_ok _ _ _).mono ?_
  rintro e w1 ⟨rfl, rfl⟩
  go_wp2_with fail
  refine (inmk_ok _ _ _).mono ?_
  rintro e w1 ⟨rfl, rfl⟩
  go_wp2_with fail
  refine (inmk_ok _ _ _).mono ?_
  rintro e w1 ⟨rfl, rfl⟩
  go_wp2_with fail
  refine (settle_ok _ _ _).mono ?_
  rintro e w1 ⟨rfl, rfl⟩
  go_wp2_with fail
  have h7 := seven w (.cells #[.pointer (some ⟨R, 0, none⟩)] 54) (.cells (deedsC b).toArray 58) (.cells #[i64 2] 3) (.cells #[i64 1] 3) (.cells #[fn1 23 b] 57) (.cells #[fn1 26 b] 57) (.cells #[i64 0] 3) b hb
  obtain ⟨g0, g1, g2, g3, g4, g5, g6, g7, g8⟩ := h7
  refine bodyPost_ret (results_deeds (a := ⟨b + 1, 0, none⟩) rfl (run_loadVar_mid _ _ 0 58 (deedsC b) _ (fun j v hv => ?_) Tryd.underlying58 rfl (by kernel_rfl))) rfl ⟨rfl, ⟨?_, ?_, ?_, ?_, ?_, ?_⟩, g7, g8⟩
  · refine (cell_of_row _ _ _ (deedsC b).toArray 58 (0, 0) g1).trans ?_
    simpa using hv
  · exact (cell_of_row _ _ _ _ 54 (0, 0) g0).trans rfl
  · exact (cell_of_row _ _ _ _ 3 (0, 0) g2).trans rfl
  · exact (cell_of_row _ _ _ _ 3 (0, 0) g3).trans rfl
  · exact (cell_of_row _ _ _ _ 57 (0, 0) g4).trans rfl
  · exact (cell_of_row _ _ _ _ 57 (0, 0) g5).trans rfl
  · exact (cell_of_row _ _ _ _ 3 (0, 0) g6).trans rfl
end Go.Proofs.YtigbfdloodfdgaaDoor
