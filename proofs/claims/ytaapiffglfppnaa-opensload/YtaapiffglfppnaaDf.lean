/- The document's Drop, Dup2, Add; no statement is proved in this text. -/
import Derived.Test.YtaapiffglfppnaaDe
namespace Go.Proofs.Ytaapiffglfppnaa
open Go.ChangeShapes Go.WideShapes Go.ChangeAt Go.RowKit Go.Deep
attribute [local go_sem ↓] Go.wp_at_zero Go.wp_at_succ

set_option maxRecDepth 100000 in
set_option maxHeartbeats 1600000 in
theorem rdrop_ok {w : World} {base r : Nat} {O : List Op4} {S : List Sl3} (p : Int) (h : Rt w base r O S) (hlO : O.length ≤ 900) (hl : S.length ≤ 900) : Calls Try.prog 35 #[pq r, i64 p] w fun e w' => e = .returned (i64 ((S.length : Int) - ((lfL S p (-1)).length : Int))) ∧ Rt w' base r (swO O (lfL S p (-1))) (lfL S p (-1)) ∧ Touch r w w' := by
  have HR := hid h
  have HL := hid (rleft_ok p (-1) h (by omega))
  have HW := hid fun W (hW : Rt W base r O (lfL S p (-1))) => rsweep_ok hW hlO (by have := lfL_le S p (-1); omega)
  have hrl := h.lt
  have hle := lfL_le S p (-1)
  obtain ⟨N, hN⟩ : ∃ N, N = S.length := ⟨_, rfl⟩
  obtain ⟨M, hM⟩ : ∃ M, M = (lfL S p (-1)).length := ⟨_, rfl⟩
  have HN := hid hN
  have HM := hid hM
  rw [← hN, ← hM] at hle
  rw [← hN] at hl
  rw [← hN, ← hM]
  clear h hlO hN hM
  go_enter Try.func35, Try.ntmps35
  go_wp2_with fail
  refine HL.out.mono ?_
  rintro e w3 ⟨hg, hb⟩
  obtain ⟨ao, cap, rfl, hR3, _, yf, hc⟩ := HR.out.putS hg hb
  have HB3 := hid hb
  obtain ⟨_, a1, cc1, a2, cc2, hbk3, _, hS3⟩ := HR.out.below hb
  have d0 : w3.cell? ⟨r, 1, none⟩ = some (.slice a2 S.length cc2) := blk_cell hbk3 1
  have hcS := own_capK hS3
  rw [← HN.out] at d0 hcS
  rw [← HM.out] at hR3 hc
  rw [← HM.out]
  have HT3 : Hid (Touch r w (w3.setCell ⟨r, 1, none⟩ (.slice ao M cap))) := Touch.setCell (q := r) (p := ⟨r, 1, none⟩) (Touch.of_below HB3.out) rfl _
  have HC3 := hid (HW.out _ hR3)
  clear hb hg hR3 HL HW hbk3 hS3
  go_wp2_with fail
  refine HC3.out.mono ?_
  rintro e w4 ⟨rfl, hRt, hT⟩
  have HF4 := hid hRt
  have HT4 : Hid (Touch r w w4) := HT3.out.trans hT
  clear hRt hT HC3 d0 yf
  go_wp2_with fail
  go_ret
  exact ⟨by go_num, HF4.out, HT4.out⟩
set_option maxRecDepth 100000 in
set_option maxHeartbeats 1600000 in
theorem rdup2_none {w : World} {base r : Nat} {O : List Op4} {S : List Sl3} (p q t : Int) (h : Rt w base r O S) (hl : S.length ≤ 900) (hs : S.find? (kp p q) = none) : Calls Try.prog 36 #[pq r, i64 p, i64 q, i64 t] w fun e w' => e = .returned (i64 6) ∧ Below w.heap.size w w' := by
  have HC := hid (rat_none p q h (by omega) hs)
  clear h hl hs
  go_enter Try.func36, Try.ntmps36
  go_wp2_with fail
  refine HC.out.mono ?_
  rintro e w2 ⟨rfl, hb⟩
  have HB := hid hb
  clear hb HC
  go_wp2_with fail
  go_ret
  exact ⟨rfl, HB.out⟩
set_option maxRecDepth 100000 in
set_option maxHeartbeats 1600000 in
theorem rdup2_arg {w : World} {base r : Nat} {O : List Op4} {S : List Sl3} (p q t : Int) (s : Sl3) (h : Rt w base r O S) (hl : S.length ≤ 900) (hs : S.find? (kp p q) = some s) (ht : ¬ (0 ≤ t ∧ t < 6)) : Calls Try.prog 36 #[pq r, i64 p, i64 q, i64 t] w fun e w' => e = .returned (i64 1) ∧ Below w.heap.size w w' := by
  obtain ⟨K, h1, h2, h3⟩ := find_at hs
  have HC := hid (rat_some p q K s h (by omega) h1 h2 h3)
  have hK0 : (0 : Int) ≤ K := by omega
  clear h hl hs h1 h2 h3
  by_cases h0 : t < 0
  · clear ht
    go_enter Try.func36, Try.ntmps36
    go_wp2_with fail
    refine HC.out.mono ?_
    rintro e w2 ⟨rfl, hb⟩
    have HB := hid hb
    clear hb HC
    go_wp2_with fail
    go_ret
    exact ⟨rfl, HB.out⟩
  · have h5 : (5 : Int) < t := by omega
    clear ht
    go_enter Try.func36, Try.ntmps36
    go_wp2_with fail
    refine HC.out.mono ?_
    rintro e w2 ⟨rfl, hb⟩
    have HB := hid hb
    clear hb HC
    go_wp2_with fail
    go_ret
    exact ⟨rfl, HB.out⟩
set_option maxRecDepth 100000 in
set_option maxHeartbeats 1600000 in
theorem rdup2_yes {w : World} {base r : Nat} {O : List Op4} {S A B : List Sl3} (p q t : Int) (s : Sl3) (h : Rt w base r O S) (hlO : O.length ≤ 900) (hl : S.length ≤ 800) (hs : S.find? (kp p q) = some s) (h0 : 0 ≤ t) (h5 : t < 6) (hsp : Spl (lfL S p t) (p, t, s.2.2) A B) : Calls Try.prog 36 #[pq r, i64 p, i64 q, i64 t] w fun e w' => e = .returned (i64 0) ∧ Rt w' base r (swO O (A ++ (p, t, s.2.2) :: B)) (A ++ (p, t, s.2.2) :: B) ∧ Touch r w w' := by
  obtain ⟨K, h1, h2, h3⟩ := find_at hs
  have hle := lfL_le S p t
  have HC := hid (rat_some p q K s h (by omega) h1 h2 h3)
  have HR := hid h
  have HL := hid fun W (hW : Rt W base r O S) => rleft_ok p t hW (by omega)
  have HI := hid fun W (hW : Rt W base r O (lfL S p t)) => rins_at hW (by omega) hsp
  have HW := hid fun W (hW : Rt W base r O (A ++ (p, t, s.2.2) :: B)) => rsweep_ok hW hlO (by have := hsp.1; rw [this, List.length_append] at hle; rw [List.length_append, List.length_cons]; omega)
  have HK := hid h1
  have hKN : K < S.length := (List.getElem?_eq_some_iff.1 h1).1
  have hK0 : (0 : Int) ≤ K := by omega
  obtain ⟨N, hN⟩ : ∃ N, N = S.length := ⟨_, rfl⟩
  have HN := hid hN
  rw [← hN] at hl hKN
  have hrl := h.lt
  have r0 : ¬ t < 0 := by omega
  have r5 : ¬ (5 : Int) < t := by omega
  clear h hs h1 h2 h3 hN hsp hle hlO h0 h5
  go_enter Try.func36, Try.ntmps36
  go_wp2_with fail
  refine HC.out.mono ?_
  rintro e w2 ⟨rfl, hb⟩
  have HB := hid hb
  have hR2 := HR.out.below hb
  obtain ⟨g, cap, d0, hcap, c2⟩ := slot_at hR2 HK.out
  rw [← HN.out] at d0 hcap
  have hKNI : (K : Int) < N := by omega
  have HBx : Hid (Below w.heap.size w (w2.alloc (lO (p, t, s.2.2) 57))) := HB.out.alloc HB.out.size _
  have HRx := hid (hR2.below (below_one w2 (lO (p, t, s.2.2) 57)))
  have HX := hid (heap_last w2 (lO (p, t, s.2.2) 57))
  have HC2 := hid (HL.out _ HRx.out)
  have hr2 := hR2.lt
  clear hb HC HL hR2
  go_wp2_with fail
  refine HC2.out.mono ?_
  rintro e w3 ⟨hg, hb⟩
  obtain ⟨ao, cap2, rfl, hR3, ⟨v, y0⟩, yf, _⟩ := HRx.out.putS hg hb
  have HB3 : Hid (Below w.heap.size w w3) := HBx.out.trans (hb.mono HBx.out.size)
  have HT3 : Hid (Touch r w (w3.setCell ⟨r, 1, none⟩ (.slice ao (lfL S p t).length cap2))) := Touch.setCell (q := r) (p := ⟨r, 1, none⟩) (Touch.of_below HB3.out) rfl _
  have hX3 : (w3.setCell ⟨r, 1, none⟩ (.slice ao (lfL S p t).length cap2)).heap[w2.heap.size]? = some (lO (p, t, s.2.2) 57) := (Below.heap_setCell _ _ _ _ (show w2.heap.size ≠ r by omega)).trans (blk_below HX.out hb)
  obtain ⟨x0, x1, x2⟩ := three_cells hX3
  have HC3 := hid (HI.out _ hR3)
  clear hb hg hR3 HC2 HI hX3 d0 c2
  go_wp2_with fail
  refine HC3.out.mono ?_
  rintro e w4 ⟨rfl, hRt, hT⟩
  have HT4 : Hid (Touch r w w4) := HT3.out.trans hT
  have HC4 := hid (HW.out _ hRt)
  clear hRt hT HC3 y0 yf x0 x1 x2 HW
  go_wp2_with fail
  refine HC4.out.mono ?_
  rintro e w5 ⟨rfl, hRt, hT⟩
  have HF5 := hid hRt
  have HT5 : Hid (Touch r w w5) := HT4.out.trans hT
  clear hRt hT HC4
  go_wp2_with fail
  go_ret
  exact ⟨rfl, HF5.out, HT5.out⟩
set_option maxRecDepth 100000 in
set_option maxHeartbeats 1600000 in
theorem radd_arg {w : World} (r : Nat) (p kd ob : Int) (hr : rightF p 0 kd ob 0 = false) : Calls Try.prog 30 #[pq r, i64 p, i64 kd, i64 ob] w fun e w' => e = .returned (.tuple #[i64 0, i64 1]) ∧ Below w.heap.size w w' := by
  have hC := rright_ok w p 0 kd ob 0
  rw [hr] at hC
  have HC := hid hC
  clear hC hr
  go_enter Try.func30, Try.ntmps30
  go_wp2_with fail
  refine HC.out.mono ?_
  rintro e w2 ⟨rfl, hb⟩
  have HB := hid hb
  clear hb HC
  go_wp2_with fail
  go_ret2
  exact ⟨rfl, HB.out⟩
set_option maxRecDepth 100000 in
set_option maxHeartbeats 1600000 in
theorem radd_full {w : World} {base r : Nat} {O : List Op4} {S : List Sl3} (p kd ob : Int) (h : Rt w base r O S) (hl : S.length ≤ 900) (hr : rightF p 0 kd ob 0 = true) (hf : FreeS S p 6) : Calls Try.prog 30 #[pq r, i64 p, i64 kd, i64 ob] w fun e w' => e = .returned (.tuple #[i64 0, i64 5]) ∧ Below w.heap.size w w' := by
  have hC := rright_ok w p 0 kd ob 0
  rw [hr] at hC
  have HC := hid hC
  have HR := hid h
  have HF := hid fun W (hW : Rt W base r O S) => rfree_ok p 6 hW (by omega) hf
  clear hC hr h hl hf
  go_enter Try.func30, Try.ntmps30
  go_wp2_with fail
  refine HC.out.mono ?_
  rintro e w2 ⟨rfl, hb⟩
  have HB := hid hb
  have HC2 := hid (HF.out w2 (HR.out.below hb))
  clear hb HC HF
  go_wp2_with fail
  refine HC2.out.mono ?_
  rintro e w3 ⟨rfl, hb⟩
  have HB3 : Hid (Below w.heap.size w w3) := HB.out.trans (hb.mono HB.out.size)
  clear hb HC2
  go_wp2_with fail
  go_ret2
  exact ⟨rfl, HB3.out⟩
set_option maxRecDepth 100000 in
set_option maxHeartbeats 1600000 in
theorem radd_yes {w : World} {base r : Nat} {O : List Op4} {S A B : List Sl3} (p kd ob : Int) (f i : Nat) (h : Rt w base r O S) (hlO : O.length ≤ 900) (hl : S.length ≤ 900) (hr : rightF p 0 kd ob 0 = true) (hf : FreeS S p f) (h6 : f < 6) (hi : i ≤ 900) (hfi : FreeI O i) (hsp : Spl S (p, (f : Int), (i : Int)) A B) : Calls Try.prog 30 #[pq r, i64 p, i64 kd, i64 ob] w fun e w' => e = .returned (.tuple #[i64 f, i64 0]) ∧ Rt w' base r (objO O i kd ob) (A ++ (p, (f : Int), (i : Int)) :: B) ∧ Touch r w w' := by
  have hC := rright_ok w p 0 kd ob 0
  rw [hr] at hC
  have HC := hid hC
  have HR := hid h
  have HF := hid fun W (hW : Rt W base r O S) => rfree_ok p f hW (by omega) hf
  have HO := hid fun W (hW : Rt W base r O S) => robject_ok kd ob i hW hlO hi hfi
  have HI := hid fun W (hW : Rt W base r (objO O i kd ob) S) => rins_at hW hl hsp
  have hf5 : ¬ (5 : Int) < (f : Int) := by omega
  clear hC hr h hl hf hlO hfi hsp
  go_enter Try.func30, Try.ntmps30
  go_wp2_with fail
  refine HC.out.mono ?_
  rintro e w2 ⟨rfl, hb⟩
  have HB := hid hb
  have HR2 := hid (HR.out.below hb)
  have HC2 := hid (HF.out w2 HR2.out)
  clear hb HC HF
  go_wp2_with fail
  refine HC2.out.mono ?_
  rintro e w3 ⟨rfl, hb⟩
  have HB3 : Hid (Below w.heap.size w w3) := HB.out.trans (hb.mono HB.out.size)
  have HC3 := hid (HO.out w3 (HR2.out.below hb))
  clear hb HC2 HO
  go_wp2_with fail
  refine HC3.out.mono ?_
  rintro e w4 ⟨rfl, hRt, hT⟩
  have HT4 : Hid (Touch r w w4) := (Touch.of_below HB3.out).trans hT
  have HC4 := hid (HI.out w4 hRt)
  clear hRt hT HC3 HI
  go_wp2_with fail
  refine HC4.out.mono ?_
  rintro e w5 ⟨rfl, hRt, hT⟩
  have HF5 := hid hRt
  have HT5 : Hid (Touch r w w5) := HT4.out.trans hT
  clear hRt hT HC4
  go_wp2_with fail
  go_ret2
  exact ⟨rfl, HF5.out, HT5.out⟩
end Go.Proofs.Ytaapiffglfppnaa
