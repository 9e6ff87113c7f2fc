/- cpu.Loaded and Answer: their contracts; no statement is proved in this text. -/
import Derived.Test.YtigbfdloodfdgaaDoorCpuW
namespace Go.Proofs.YtigbfdloodfdgaaDoor
open Go.ChangeShapes Go.WideShapes Go.ChangeAt Go.RowKit

theorem results_loaded {W : World} {t : Array Value} {a : Addr} {u v : Value} (h6 : t.getD 6 undef = .pointer (some a)) (h7 : t.getD 7 undef = v) (g1 : (loadVar 30 a).run Tryd.prog W = .ok u W) :
    (results Tryd.f24 t).run Tryd.prog W = .ok (.tuple #[u, v]) W := by
  have hr : Tryd.f24.results = #[.cell 6 30, .tmp 7] := Tryd.results24
  simp only [results, hr]
  simp [Result.andThen, asAddr, h6, h7, g1, -Array.getD_eq_getD_getElem?]
theorem results_answer {W : World} {t : Array Value} {a : Addr} {u : Value} (h4 : t.getD 4 undef = .pointer (some a)) (g1 : (loadVar 30 a).run Tryd.prog W = .ok u W) :
    (results Tryd.f30 t).run Tryd.prog W = .ok u W := by
  have hr : Tryd.f30.results = #[.cell 4 30] := Tryd.results30
  simp only [results, hr]
  simp [asAddr, h4, g1, -Array.getD_eq_getD_getElem?]
/-- A block of registers, and one behind it for the answer. -/
theorem two_rows (w : World) (C : List Nat) : Row ((w.alloc (.cells (cpC C).toArray 30)).alloc Z9) w.heap.size C ∧ Row ((w.alloc (.cells (cpC C).toArray 30)).alloc Z9) (w.heap.size + 1) z9 ∧ Below w.heap.size w ((w.alloc (.cells (cpC C).toArray 30)).alloc Z9) :=
  ⟨⟨by rw [Below.heap_alloc _ _ _ (by simp)]; exact heap_at rfl _⟩, ⟨heap_at (by simp) _⟩, (below_one w _).alloc (by simp) _⟩
theorem fin_row {w V : World} {b : Nat} (h : Row V b z9) (hb : w.heap.size ≤ b) (hbel : Below w.heap.size w V) {C : List Nat} (hC : Rg C) : (loadVar 30 ⟨b, 0, none⟩).run Tryd.prog (V.setCells b 0 (cpC C)) = .ok (cpV C) (V.setCells b 0 (cpC C)) ∧ Below w.heap.size w (V.setCells b 0 (cpC C)) ∧ V.there b 0 (cpC C).toArray.size :=
  ⟨run_loadVar_mid _ _ 0 30 _ _ (h.all Rg.zero hC).range Tryd.underlying30 rfl (cpC_info hC), Below.cellsAt _ _ _ _ hb hbel, fin_there (h.there Rg.zero) hC⟩
theorem build_zero (w : World) : (Instr.build 30 #[]).run Tryd.prog w = .ok (cpV z9) w := by kernel_rfl
set_option maxRecDepth 100000 in
set_option maxHeartbeats 1600000 in
theorem answer_ok (w : World) (C : List Nat) (hC : Rg C) (v : Int) (x : Nat) (hx : wd v = x) : Calls Tryd.prog 30 #[cpV C, i64 v] w fun e w' => e = .returned (cpV (C.set 0 x)) ∧ Below w.heap.size w w' := by
  have HW : Hid (∀ w, Calls Tryd.prog 33 #[i64 v] w fun e w' => e = .returned (u16 x) ∧ w' = w) := fun w => by rw [← hx]; exact word_ok w v
  have hC2 : Rg (C.set 0 x) := hC.set _ _ (by rw [← hx]; exact wd_lt _)
  clear hx
  go_enter Tryd.func30, Tryd.ntmps30
  go_upto_region 1 with fail
  obtain ⟨r0, r1, hb⟩ := two_rows w C
  generalize (w.alloc (.cells (cpC C).toArray 30)).alloc Z9 = V at *
  have c0 := r0.cell hC 0 (by omega)
  have f0 := r0.free 0
  have hr2 := r0.set 0 x
  have hr3 := r1.other (b' := w.heap.size) (j := 0) (by omega) (u16 x)
  have hb2 : Below w.heap.size w (V.setCell ⟨w.heap.size, 0, none⟩ (u16 x)) := hb.setCell (by simp) _
  have HR2 := hid hr2
  have HR3 := hid hr3
  have HB2 := hid hb2
  clear hr2 hr3 hb2 r0 r1 hb
  go_upto_region 2 with (go_at_call 33; refine (HW.out _).mono ?_; rintro e w1 ⟨rfl, rfl⟩)
  have hr2 := HR2.out
  have hr3 := HR3.out
  have hb2 := HB2.out
  clear HR2 HR3 HB2 c0 f0
  obtain ⟨g1, g2, g3⟩ := fin_row hr3 (by omega) hb2 hC2
  have HR2 := hid hr2
  have HG3 := hid g3
  have HG2 := hid g2
  have HG1 := hid g1
  clear g1 g2 g3 hr2 hr3 hb2
  go_wp2_with (first
    | (refine wpList_load_mid rfl 30 (.tmp 2) rfl w.heap.size 0 rfl (cpC (C.set 0 x)) _ (by exact HR2.out.range) Tryd.underlying30 rfl (cpC_info hC2) ?_)
    | (refine wpList_store_mid rfl 30 (.tmp 4) (.tmp 9) rfl (w.heap.size + 1) 0 (cpC (C.set 0 x)).toArray rfl rfl (by exact HG3.out) (cpC_infoA hC2) (cpC_one _) ?_))
  exact bodyPost_ret (results_answer rfl HG1.out) rfl ⟨rfl, HG2.out⟩
set_option maxRecDepth 100000 in
set_option maxHeartbeats 1600000 in
theorem loaded_no (w : World) (C : List Nat) (r v : Int) (h : r < 0 ∨ 7 < r ∨ v < 0 ∨ 65535 < v) : Calls Tryd.prog 24 #[cpV C, i64 r, i64 v] w fun e w' => e = .returned (.tuple #[cpV z9, i64 1]) ∧ Below w.heap.size w w' := by
  obtain ⟨r0, r1, hb⟩ := two_rows w C
  obtain ⟨g1, g2, g3⟩ := fin_row r1 (by omega) hb Rg.zero
  have HG3 := hid g3
  have HG2 := hid g2
  have HG1 := hid g1
  clear g1 g2 g3 r0 r1 hb
  rcases (show r < 0 ∨ (0 ≤ r ∧ 8 ≤ r) ∨ (0 ≤ r ∧ r < 8 ∧ v < 0) ∨ (0 ≤ r ∧ r < 8 ∧ 0 ≤ v ∧ 65535 < v) by omega) with h | ⟨h1, h2⟩ | ⟨h1, h2, h3⟩ | ⟨h1, h2, h3, h4⟩
  all_goals
    go_enter Tryd.func24, Tryd.ntmps24
    go_wp2_with (first
      | (refine wpList_store_mid rfl 30 (.tmp 6) (.tmp 22) rfl (w.heap.size + 1) 0 (cpC z9).toArray rfl rfl (by exact HG3.out) (cpC_infoA Rg.zero) (cpC_one _) ?_))
    exact bodyPost_ret (results_loaded rfl rfl HG1.out) rfl ⟨rfl, HG2.out⟩
set_option maxRecDepth 100000 in
set_option maxHeartbeats 1600000 in
theorem loaded_ok (w : World) (C : List Nat) (hC : Rg C) (r v : Nat) (hr : r < 8) (hv : v < 65536) : Calls Tryd.prog 24 #[cpV C, i64 r, i64 v] w fun e w' => e = .returned (.tuple #[cpV (C.set r v), i64 0]) ∧ Below w.heap.size w w' := by
  have HW : Hid (∀ w, Calls Tryd.prog 33 #[i64 v] w fun e w' => e = .returned (u16 v) ∧ w' = w) := fun w => by have := word_ok w (v : Int); rw [show wd (v : Int) = v by unfold wd; omega] at this; exact this
  have hC2 : Rg (C.set r v) := hC.set _ _ hv
  have hrI : (r : Int) < 8 := by omega
  have hvI : (v : Int) ≤ 65535 := by omega
  go_enter Tryd.func24, Tryd.ntmps24
  go_upto_region 3 with fail
  obtain ⟨r0, r1, hb⟩ := two_rows w C
  generalize (w.alloc (.cells (cpC C).toArray 30)).alloc Z9 = V at *
  have c0 := r0.cell hC r (by omega)
  have f0 := r0.free r
  have hr2 := r0.set r v
  have hr3 := r1.other (b' := w.heap.size) (j := r) (by omega) (u16 v)
  have hb2 : Below w.heap.size w (V.setCell ⟨w.heap.size, r, none⟩ (u16 v)) := hb.setCell (by simp) _
  have HR2 := hid hr2
  have HR3 := hid hr3
  have HB2 := hid hb2
  clear hr2 hr3 hb2 r0 r1 hb
  go_upto_region 4 with (go_at_call 33; refine (HW.out _).mono ?_; rintro e w1 ⟨rfl, rfl⟩)
  have hr2 := HR2.out
  have hr3 := HR3.out
  have hb2 := HB2.out
  clear HR2 HR3 HB2 c0 f0
  obtain ⟨g1, g2, g3⟩ := fin_row hr3 (by omega) hb2 hC2
  have HR2 := hid hr2
  have HG3 := hid g3
  have HG2 := hid g2
  have HG1 := hid g1
  clear g1 g2 g3 hr2 hr3 hb2
  go_wp2_with (first
    | (refine wpList_load_mid rfl 30 (.tmp 3) rfl w.heap.size 0 rfl (cpC (C.set r v)) _ (by exact HR2.out.range) Tryd.underlying30 rfl (cpC_info hC2) ?_)
    | (refine wpList_store_mid rfl 30 (.tmp 6) (.tmp 28) rfl (w.heap.size + 1) 0 (cpC (C.set r v)).toArray rfl rfl (by exact HG3.out) (cpC_infoA hC2) (cpC_one _) ?_))
  exact bodyPost_ret (results_loaded rfl rfl HG1.out) rfl ⟨rfl, HG2.out⟩
def ldE (r v : Int) : Int := if 0 ≤ r ∧ r ≤ 7 ∧ 0 ≤ v ∧ v ≤ 65535 then 0 else 1
def ldC (C : List Nat) (r v : Int) : List Nat := if 0 ≤ r ∧ r ≤ 7 ∧ 0 ≤ v ∧ v ≤ 65535 then C.set r.toNat v.toNat else z9
theorem loaded_any (w : World) (C : List Nat) (hC : Rg C) (r v : Int) : Calls Tryd.prog 24 #[cpV C, i64 r, i64 v] w fun e w' => e = .returned (.tuple #[cpV (ldC C r v), i64 (ldE r v)]) ∧ Below w.heap.size w w' := by
  unfold ldC ldE
  by_cases h : 0 ≤ r ∧ r ≤ 7 ∧ 0 ≤ v ∧ v ≤ 65535
  · rw [if_pos h, if_pos h]
    obtain ⟨a, rfl⟩ := Int.eq_ofNat_of_zero_le h.1
    obtain ⟨b, rfl⟩ := Int.eq_ofNat_of_zero_le h.2.2.1
    exact loaded_ok w C hC a b (by omega) (by omega)
  · rw [if_neg h, if_neg h]
    exact loaded_no w C r v (by omega)
end Go.Proofs.YtigbfdloodfdgaaDoor
