/- The laws' call: its contract; no statement is proved in this text. -/
import Derived.Test.YtigbfdloodfdgaaDoorPlayFu
namespace Go.Proofs.YtigbfdloodfdgaaDoor
open Go.ChangeShapes Go.WideShapes Go.ChangeAt Go.RowKit

theorem one_lit (w : World) (x : Int) (b R : Nat) (hb : w.heap.size = b) (hR : b < R) : ASl (w.alloc (.cells #[i64 x] 3)) (b + 1) R (.slice (some ⟨b, 0, none⟩) 1 1) [x] :=
  ⟨_, 1, rfl, Nat.le_refl _, by decide, Or.inr ⟨b, 0, rfl, by omega, by omega, fun j y hy => by
    subst hb
    rw [cell_of_row _ _ _ #[i64 x] 3 (0, 0) (heap_at rfl _)]
    match j with
    | 0 => simp at hy; subst hy; rfl
    | j + 1 => simp at hy⟩⟩
theorem rg_a : Rg endA.C := ⟨rfl, by decide⟩
theorem run_a (w : World) (ht : Tab w) : Calls Tryd.prog 9 #[.string ⟨#[1, 16, 0, 5, 20, 9, 0]⟩, .string ⟨#[]⟩, .slice (some ⟨w.heap.size, 0, none⟩) 1 1, i64 9] (w.alloc (.cells #[i64 3] 3)) fun e w' => ∃ (C : List Nat) (M : List UInt8) (g cap : Nat), e = .returned (.tuple #[.agg (resC 1 3 C M (.slice (some ⟨g, 0, none⟩) 1 cap)).toArray, i64 0]) ∧ Rg C ∧ C.getD 0 0 = 3 ∧ M.length = 256 ∧ (∃ C', C = 3 :: C') ∧ w'.cell? ⟨g, 0, none⟩ = some (i64 9) ∧ w'.cell? ⟨g, 1, none⟩ = some (i64 5) ∧ g < w'.heap.size ∧ Below w.heap.size w w' := by
  have hr0 := run_in (w.alloc (.cells #[i64 3] 3)) (ht.alloc _) [1, 16, 0, 5, 20, 9, 0] [] (some ⟨w.heap.size, 0, none⟩) 1 [3] 9 _ rfl (by decide) (by decide) (by decide) (by rw [World.size_alloc]; exact one_lit w 3 w.heap.size _ rfl (by omega))
  rw [it_a] at hr0
  refine hr0.mono ?_
  rintro e w1 ⟨vc, rfl, h2, h3⟩
  obtain ⟨g, cap, rfl, hg1, hg2⟩ := h2.form (by decide)
  exact ⟨_, _, g, cap, rfl, rg_a, rfl, List.length_replicate, ⟨_, rfl⟩, h2.cellAt 0 (by decide), h2.cellAt 1 (by decide), hg2, (below_one w _).trans (h3.mono (by rw [World.size_alloc]; omega))⟩
theorem f5000 : ((5000 : Nat) : Int) = 5000 := rfl
theorem fuel_b (V : World) (ht : Tab V) : Calls Tryd.prog 13 #[.string ⟨#[0]⟩, .string ⟨#[]⟩, .slice none 0 0] V fun e w' => e = .returned (.tuple #[i64 1, .bool true]) ∧ Below V.heap.size V w' :=
  fuel_ok V ht [0] [] none 0 [] (by decide) (by decide) ⟨⟨none, 0, rfl, Nat.le_refl _, Nat.zero_le _, Or.inl rfl⟩⟩ 1 1 5000 f5000 endB it_b 1 true (fun h => by cases h) (fun _ => ⟨rfl, rfl⟩)
set_option maxRecDepth 100000 in
set_option maxHeartbeats 800000 in
theorem call8_ok (w : World) (ht : Tab w) : Calls Tryd.prog 8 #[] w fun e w' => e = .returned (.bool true) ∧ Below w.heap.size w w' := by
  have HR := hid (run_a w ht)
  have HTB := hid ht
  clear ht
  go_enter Tryd.func8, Tryd.ntmps8
  go_upto_region 2 with (first
    | (go_at_call 9; refine (HR.out).mono ?_; rintro e w1 ⟨C, M, g, cap, rfl, hC, e0, hM, eC, k0, k1, hg2, h3⟩; have HE := hid eC; have HB := hid h3; have HST := hid (res_stored w1 (h := 1) (j := 3) hC M (.slice (some ⟨g, 0, none⟩) 1 cap)); have HO1 := hid (res_one 1 3 C M (some ⟨g, 0, none⟩) 1 cap); clear h3 eC)
    | (refine wpList_store_mid rfl 33 (.tmp 1) (.tmp 8) rfl w1.heap.size 0 (resC 1 3 C M (.slice (some ⟨g, 0, none⟩) 1 cap)).toArray rfl rfl (by exact HST.out.2.2.1) (by rw [List.size_toArray, resC_len hC]; exact infoR33) (by exact HO1.out) ?_))
  have hrow := HST.out.1
  have hbel := HST.out.2.1
  have hsz := HST.out.2.2.2
  clear HST HO1 HR
  generalize (w1.alloc Z33).setCells w1.heap.size 0 (resC 1 3 C M (.slice (some ⟨g, 0, none⟩) 1 cap)) = V at *
  have HK0 := hid ((hbel.cell (p := ⟨g, 0, none⟩) hg2).trans k0)
  have HK1 := hid ((hbel.cell (p := ⟨g, 1, none⟩) hg2).trans k1)
  have HBV := hid (HB.out.trans (hbel.mono HB.out.size))
  have HF := hid (fuel_b V ((HTB.out.below HB.out).below hbel))
  have HRW := hid hrow
  clear hrow hbel k0 k1 HB
  go_upto_region 3 with (go_at_call 13; refine (HF.out).mono ?_; rintro e w2 ⟨rfl, h2⟩; have HB2 := hid h2; clear h2)
  obtain ⟨C', rfl⟩ := HE.out
  have hC' : C'.length = 8 := by have := hC.len; simpa using this
  have hrow := (HB2.out.block w1.heap.size (by omega)).trans HRW.out
  have c0 : w2.cell? ⟨w1.heap.size, 0, none⟩ = some (i64 1) := (cell_of_row _ _ _ _ 33 (0, 0) hrow).trans rfl
  have c1 : w2.cell? ⟨w1.heap.size, 1, none⟩ = some (i64 3) := (cell_of_row _ _ _ _ 33 (0, 0) hrow).trans rfl
  have c2 : w2.cell? ⟨w1.heap.size, 2, none⟩ = some (Value.int .u16 3) := (cell_of_row _ _ _ _ 33 (0, 0) hrow).trans rfl
  have c11 : w2.cell? ⟨w1.heap.size, 11, none⟩ = some (.string ⟨M.toArray⟩) := (cell_of_row _ _ _ _ 33 (0, 0) hrow).trans (by simp [resC, cpC, hC'])
  have c12 : w2.cell? ⟨w1.heap.size, 12, none⟩ = some (.slice (some ⟨g, 0, none⟩) 1 cap) := (cell_of_row _ _ _ _ 33 (0, 0) hrow).trans (by simp [resC, cpC, hC'])
  have k0 := (HB2.out.cell (p := ⟨g, 0, none⟩) (by show g < V.heap.size; omega)).trans HK0.out
  have k1 := (HB2.out.cell (p := ⟨g, 1, none⟩) (by show g < V.heap.size; omega)).trans HK1.out
  have HBE := hid (HBV.out.trans (HB2.out.mono HBV.out.size))
  have hMI : (M.length : Int) = 256 := by omega
  clear hrow HB2 HBV HK0 HK1 HRW HF HE e0 hC hM hC' hsz hg2
  generalize w1.heap.size = bx at *
  go_wp2_with fail
  go_ret
  exact ⟨rfl, HBE.out⟩
abbrev jobV (l m : List UInt8) (ao : Option Addr) (n cap : Nat) : Value := .agg #[.string ⟨l.toArray⟩, .string ⟨m.toArray⟩, .slice ao n cap]
set_option maxRecDepth 100000 in
set_option maxHeartbeats 800000 in
theorem long_ok (w : World) (l m : List UInt8) (ao : Option Addr) (n cap : Nat) : Calls Tryd.prog 7 #[jobV l m ao n cap] w fun e w' => e = .returned (.bool (decide (600 < l.length ∨ 600 < m.length ∨ 100 < n))) ∧ Below w.heap.size w w' := by
  have HB := hid (below_one w (.cells #[.string ⟨l.toArray⟩, .string ⟨m.toArray⟩, .slice ao n cap] 24))
  by_cases h1 : 600 < l.length
  · have h1I : (600 : Int) < l.length := by omega
    have HD : Hid (decide (600 < l.length ∨ 600 < m.length ∨ 100 < n) = true) := decide_eq_true (Or.inl h1)
    rw [HD.out]
    clear h1 HD
    go_enter Tryd.func7, Tryd.ntmps7
    go_wp2_with fail
    go_ret
    exact ⟨rfl, HB.out⟩
  · by_cases h2 : 600 < m.length
    · have h1I : (l.length : Int) ≤ 600 := by omega
      have h2I : (600 : Int) < m.length := by omega
      have HD : Hid (decide (600 < l.length ∨ 600 < m.length ∨ 100 < n) = true) := decide_eq_true (Or.inr (Or.inl h2))
      rw [HD.out]
      clear h1 h2 HD
      go_enter Tryd.func7, Tryd.ntmps7
      go_wp2_with fail
      go_ret
      exact ⟨rfl, HB.out⟩
    · have h1I : (l.length : Int) ≤ 600 := by omega
      have h2I : (m.length : Int) ≤ 600 := by omega
      by_cases h3 : 100 < n
      · have h3I : (100 : Int) < n := by omega
        have HD : Hid (decide (600 < l.length ∨ 600 < m.length ∨ 100 < n) = true) := decide_eq_true (Or.inr (Or.inr h3))
        rw [HD.out]
        clear h1 h2 h3 HD
        go_enter Tryd.func7, Tryd.ntmps7
        go_wp2_with fail
        go_ret
        exact ⟨rfl, HB.out⟩
      · have h3I : (n : Int) ≤ 100 := by omega
        have HD : Hid (decide (600 < l.length ∨ 600 < m.length ∨ 100 < n) = false) := decide_eq_false (by omega)
        rw [HD.out]
        clear h1 h2 h3 HD
        go_enter Tryd.func7, Tryd.ntmps7
        go_wp2_with fail
        go_ret
        refine ⟨?_, HB.out⟩
        show Ending.returned (Value.bool (decide (600 < (l.length : Int)) || decide (600 < (m.length : Int)) || decide (100 < (n : Int)))) = _
        rw [decide_eq_false (by omega : ¬ 600 < (l.length : Int)), decide_eq_false (by omega : ¬ 600 < (m.length : Int)), decide_eq_false (by omega : ¬ 100 < (n : Int))]
        rfl
end Go.Proofs.YtigbfdloodfdgaaDoor
