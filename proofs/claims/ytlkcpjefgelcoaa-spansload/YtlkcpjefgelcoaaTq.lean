/- from, Unmap, Protect, May; no statement is proved in this text. -/
import Derived.Test.YtlkcpjefgelcoaaTn
namespace Go.Proofs.Ytlkcpjefgelcoaa
open Go.ChangeShapes Go.WideShapes Go.ChangeAt Go.RowKit Go.Deep
attribute [local go_sem ↓] Go.wp_at_zero Go.wp_at_succ

set_option maxRecDepth 100000 in
set_option maxHeartbeats 1600000 in
theorem from_none (w : World) (pv : Value) (p f : Int) (M : List Sp) (hof : ∀ W, Below w.heap.size w W → Calls Try.prog 37 #[pv, i64 p] W fun e w' => GotS W w' e M ∧ Below W.heap.size W w') (hM : M.length ≤ 24) (hf : ∀ x ∈ M, x.2.1 ≠ f) :
    Calls Try.prog 42 #[pv, i64 p, i64 f] w fun e w' => e = .returned (.tuple #[sv (0, 0, 0, 0), .bool false]) ∧ Below w.heap.size w w' := by
  have hz := fun W => zero71 W
  have HB := hid (below_one w (sO (0, 0, 0, 0) 71))
  have HX := hid (heap_last w (sO (0, 0, 0, 0) 71))
  have HC := hid (hof _ (below_one w (sO (0, 0, 0, 0) 71)))
  have HF := hid hf
  obtain ⟨N, hN⟩ : ∃ N, N = M.length := ⟨_, rfl⟩
  have HN : Hid (N = M.length) := hN
  rw [← hN] at hM
  clear hof hf hN
  go_enter Try.func42, Try.ntmps42
  go_wp2_with fail
  refine HC.out.mono ?_
  rintro e2 w2 ⟨⟨ao, cap, rfl, hown⟩, hb2⟩
  have HB2 : Hid (Below w.heap.size w w2) := HB.out.trans (hb2.mono HB.out.size)
  have HX2 := hid (blk_below HX.out hb2)
  have HR2 : Hid (Rd4 w2 ao M) := Rd4.own hown
  have hcap := own_cap4 hown
  rw [← HN.out] at hcap ⊢
  clear HB HC HX hb2 hown
  go_wp2_with fail
  go_loopw [14] (fun i wr => ∃ k : Nat, k ≤ N ∧ i = i64 k ∧ Hid (wr.heap[w.heap.size]? = some (sO (0, 0, 0, 0) 71)) ∧ Hid (Below w2.heap.size w2 wr)) (fun i _ => N - (intOf i).toNat)
  case atStart => exact ⟨0, by omega, rfl, HX2.out, Below.refl _ _⟩
  case round =>
    obtain ⟨k, hk, rfl, HX3, HB3⟩ := hrel
    have hbl := blk_lt HX3.out
    by_cases hlt : k < N
    · have hkI : (k : Int) < N := by omega
      obtain ⟨s, hs⟩ : ∃ s, M[k]? = some s := ⟨_, List.getElem?_eq_getElem (by rw [← HN.out]; exact hlt)⟩
      obtain ⟨g, o, rfl, hgl, c0, c1, c2, c3⟩ := HR2.out.below HB3.out k s hs
      have hq : (s.2.1 == f) = false := beq_false_of_ne (HF.out s (List.mem_of_getElem? hs))
      have HX4 : Hid ((wr.alloc (sO s 71)).heap[w.heap.size]? = some (sO (0, 0, 0, 0) 71)) := blk_alloc HX3.out _
      have HB4 : Hid (Below w2.heap.size w2 (wr.alloc (sO s 71))) := HB3.out.alloc HB3.out.size _
      clear hs
      go_wp2_with fail
      exact ⟨⟨k + 1, by omega, by go_num, HX4, HB4⟩, by simp [intOf]; omega⟩
    · obtain ⟨x0, x1, x2, x3⟩ := four_cells HX3.out
      have z0 := blk_frozen HX3.out 0
      have z1 := blk_frozen HX3.out 1
      have z2 := blk_frozen HX3.out 2
      have z3 := blk_frozen HX3.out 3
      have HXE := hid (set4 HX3.out (i64 0) (i64 0) (i64 0) (i64 0))
      have HBE : Hid (Below w.heap.size w ((((wr.setCell ⟨w.heap.size, 0, none⟩ (i64 0)).setCell ⟨w.heap.size, 1, none⟩ (i64 0)).setCell ⟨w.heap.size, 2, none⟩ (i64 0)).setCell ⟨w.heap.size, 3, none⟩ (i64 0))) := ((((HB2.out.trans (HB3.out.mono HB2.out.size)).setCell (by simp) _).setCell (by simp) _).setCell (by simp) _).setCell (by simp) _
      go_wp2_with fail
      exact bodyPost_ret (v := .tuple #[sv (0, 0, 0, 0), .bool false]) (results_cell Try.results42 rfl rfl (vload71 (s := (0, 0, 0, 0)) HXE.out)) rfl ⟨rfl, HBE.out⟩
set_option maxRecDepth 100000 in
set_option maxHeartbeats 1600000 in
theorem from_some (w : World) (pv : Value) (p f : Int) (X Y : List Sp) (s : Sp) (hof : ∀ W, Below w.heap.size w W → Calls Try.prog 37 #[pv, i64 p] W fun e w' => GotS W w' e (X ++ s :: Y) ∧ Below W.heap.size W w') (hM : (X ++ s :: Y).length ≤ 24) (hf : ∀ x ∈ X, x.2.1 ≠ f) (hsf : s.2.1 = f) :
    Calls Try.prog 42 #[pv, i64 p, i64 f] w fun e w' => e = .returned (.tuple #[sv s, .bool true]) ∧ Below w.heap.size w w' := by
  have hz := fun W => zero71 W
  have HB := hid (below_one w (sO (0, 0, 0, 0) 71))
  have HX := hid (heap_last w (sO (0, 0, 0, 0) 71))
  have HC := hid (hof _ (below_one w (sO (0, 0, 0, 0) 71)))
  have HF := hid hf
  have HS : Hid (s.2.1 = f) := hsf
  obtain ⟨N, hN⟩ : ∃ N, N = (X ++ s :: Y).length := ⟨_, rfl⟩
  have HN : Hid (N = (X ++ s :: Y).length) := hN
  have hXN : X.length < N := by rw [hN]; simp
  obtain ⟨K, hK⟩ : ∃ K, K = X.length := ⟨_, rfl⟩
  have HK := hid hK
  rw [← hN] at hM
  rw [← hK] at hXN
  clear hof hf hN hsf hK
  go_enter Try.func42, Try.ntmps42
  go_wp2_with fail
  refine HC.out.mono ?_
  rintro e2 w2 ⟨⟨ao, cap, rfl, hown⟩, hb2⟩
  have HB2 : Hid (Below w.heap.size w w2) := HB.out.trans (hb2.mono HB.out.size)
  have HX2 := hid (blk_below HX.out hb2)
  have HR2 : Hid (Rd4 w2 ao (X ++ s :: Y)) := Rd4.own hown
  have hcap := own_cap4 hown
  rw [← HN.out] at hcap ⊢
  clear HB HC HX hb2 hown
  go_wp2_with fail
  go_loopw [14] (fun i wr => ∃ k : Nat, k ≤ K ∧ i = i64 k ∧ Hid (wr.heap[w.heap.size]? = some (sO (0, 0, 0, 0) 71)) ∧ Hid (Below w2.heap.size w2 wr)) (fun i _ => N - (intOf i).toNat)
  case atStart => exact ⟨0, by omega, rfl, HX2.out, Below.refl _ _⟩
  case round =>
    obtain ⟨k, hk, rfl, HX3, HB3⟩ := hrel
    have hbl := blk_lt HX3.out
    have hkI : (k : Int) < N := by omega
    by_cases hlt : k < K
    · obtain ⟨x, hx⟩ : ∃ x, X[k]? = some x := ⟨_, List.getElem?_eq_getElem (by rw [← HK.out]; exact hlt)⟩
      obtain ⟨g, o, rfl, hgl, c0, c1, c2, c3⟩ := HR2.out.below HB3.out k x (by rw [List.getElem?_append_left (by rw [← HK.out]; exact hlt)]; exact hx)
      have hq : (x.2.1 == f) = false := beq_false_of_ne (HF.out x (List.mem_of_getElem? hx))
      have HX4 : Hid ((wr.alloc (sO x 71)).heap[w.heap.size]? = some (sO (0, 0, 0, 0) 71)) := blk_alloc HX3.out _
      have HB4 : Hid (Below w2.heap.size w2 (wr.alloc (sO x 71))) := HB3.out.alloc HB3.out.size _
      clear hx
      go_wp2_with fail
      exact ⟨⟨k + 1, by omega, by go_num, HX4, HB4⟩, by simp [intOf]; omega⟩
    · obtain ⟨g, o, rfl, hgl, c0, c1, c2, c3⟩ := HR2.out.below HB3.out k s (by rw [List.getElem?_append_right (by rw [← HK.out]; omega), show k - X.length = 0 by rw [← HK.out]; omega]; rfl)
      have hq : (s.2.1 == f) = true := beq_iff_eq.2 HS.out
      obtain ⟨x0, x1, x2, x3⟩ := four_cells HX3.out
      have z0 := blk_frozen HX3.out 0
      have z1 := blk_frozen HX3.out 1
      have z2 := blk_frozen HX3.out 2
      have z3 := blk_frozen HX3.out 3
      have HXE := hid (blk_alloc (set4 HX3.out (i64 s.1) (i64 s.2.1) (i64 s.2.2.1) (i64 s.2.2.2)) (sO s 71))
      have HBE : Hid (Below w.heap.size w (((((wr.setCell ⟨w.heap.size, 0, none⟩ (i64 s.1)).setCell ⟨w.heap.size, 1, none⟩ (i64 s.2.1)).setCell ⟨w.heap.size, 2, none⟩ (i64 s.2.2.1)).setCell ⟨w.heap.size, 3, none⟩ (i64 s.2.2.2)).alloc (sO s 71))) := (((((HB2.out.trans (HB3.out.mono HB2.out.size)).setCell (by simp) _).setCell (by simp) _).setCell (by simp) _).setCell (by simp) _).alloc (by have := HB2.out.size; have := HB3.out.size; simp; omega) _
      go_wp2_with fail
      exact bodyPost_ret (v := .tuple #[sv s, .bool true]) (results_cell Try.results42 rfl rfl (vload71 HXE.out)) rfl ⟨rfl, HBE.out⟩
end Go.Proofs.Ytlkcpjefgelcoaa
