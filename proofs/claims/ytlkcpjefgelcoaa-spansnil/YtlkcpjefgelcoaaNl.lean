/- SpansNil's walk; no statement is proved in this text. -/
import Derived.Test.YtlkcpjefgelcoaaTy
import Derived.Test.YtlkcpjefgelcoaaArgs
namespace Go.Proofs.Ytlkcpjefgelcoaa
open Go.ChangeShapes Go.WideShapes Go.ChangeAt Go.RowKit Go.Deep
attribute [local go_sem ↓] Go.wp_at_zero Go.wp_at_succ

theorem nfork (w : World) (p c : Int) : ∃ g : Int, (g = 1 ∨ g = 7) ∧ Calls Try.prog 22 #[.pointer none, i64 p, i64 c] w fun e w' => e = .returned (i64 g) ∧ w' = w := by
  by_cases h : ¬(1 ≤ p ∧ p ≤ 6) ∨ ¬(1 ≤ c ∧ c ≤ 6) ∨ p = c
  · exact ⟨1, .inl rfl, sfork_arg w _ p c h⟩
  · have hp : 1 ≤ p ∧ p ≤ 6 := Classical.byContradiction fun e => h (.inl e)
    have hc : 1 ≤ c ∧ c ≤ 6 := Classical.byContradiction fun e => h (.inr (.inl e))
    exact ⟨7, .inr rfl, sfork_nil w p c hp hc fun e => h (.inr (.inr e))⟩
set_option maxRecDepth 100000 in
set_option maxHeartbeats 1600000 in
theorem nil_p1 (w : World) (s : Stp) (h : s.pid < 1) : Calls Try.prog 7 #[s.v] w fun e w' => e = .returned (.bool true) ∧ Below w.heap.size w w' := by
  have HB0 := hid (below_one w (spO s))
  have HX0 := hid (heap_last w (spO s))
  have CM : Hid (∀ W, Calls Try.prog 18 #[.pointer none, i64 s.pid, i64 s.n] W fun e w' => e = .returned (.tuple #[i64 0, i64 1]) ∧ w' = W) := fun W => smap_arg W _ _ _ (.inl fun h2 => by omega)
  have CU := hid fun W => sunmap_no W (.pointer none) s.pid s.fst (fun W' _ => nfrom W' s.pid s.fst)
  have CF := hid fun W => nfork W s.pid s.n
  have CP := hid fun W => sprot_no W (.pointer none) s.pid s.fst s.n (fun W' _ => nfrom W' s.pid s.fst)
  have CY := hid fun W => smay_nil W s.pid s.fst false
  have CD := hid fun W => sdrop_nil W s.pid
  have CA := hid fun W => sall_nil W
  have C4 := hid fun W => four_ok W
  go_enter Try.func7, Try.ntmps7
  go_wp2_with fail
  refine (CM.out _).mono ?_
  rintro e1 w1 ⟨rfl, hv⟩
  replace hv := hv.symm
  subst hv
  go_wp2_with fail
  refine (CU.out _).mono ?_
  rintro e2 w2 ⟨rfl, hb2⟩
  have HB2 : Hid (Below w.heap.size w w2) := HB0.out.trans (hb2.mono HB0.out.size)
  have HX2 := hid (blk_below HX0.out hb2)
  obtain ⟨x0, x1, x2, x3⟩ := four_cells HX2.out
  have hbl := blk_lt HX2.out
  clear hb2 HB0 HX0
  obtain ⟨G, hG, hGc⟩ := CF.out w2
  have HGc := hid hGc
  clear hGc CF
  go_wp2_with fail
  refine HGc.out.mono ?_
  rintro e3 w3 ⟨rfl, hv⟩
  replace hv := hv.symm
  subst hv
  rcases hG with rfl | rfl
  all_goals
    go_wp2_with fail
    refine (CP.out _).mono ?_
    rintro e4 w4 ⟨rfl, hb4⟩
    have HB4 : Hid (Below w.heap.size w w4) := HB2.out.trans (hb4.mono HB2.out.size)
    have HX4 := hid (blk_below HX2.out hb4)
    clear x0 x1 x2 x3 hbl
    obtain ⟨x0, x1, x2, x3⟩ := four_cells HX4.out
    have hbl := blk_lt HX4.out
    clear hb4
    go_wp2_with fail
    refine (CY.out _).mono ?_
    rintro e5 w5 ⟨rfl, hv⟩
    replace hv := hv.symm
    subst hv
    go_wp2_with fail
    refine (CD.out _).mono ?_
    rintro e6 w6 ⟨rfl, hb6⟩
    have HB6 : Hid (Below w.heap.size w w6) := HB4.out.trans (hb6.mono HB4.out.size)
    clear hb6 x0 x1 x2 x3 hbl
    go_wp2_with fail
    refine (CA.out _).mono ?_
    rintro e7 w7 ⟨⟨ao, cap, rfl, _⟩, hb7⟩
    have HB7 : Hid (Below w.heap.size w w7) := HB6.out.trans (hb7.mono HB6.out.size)
    clear hb7
    go_wp2_with fail
    refine (C4.out _).mono ?_
    rintro e8 w8 ⟨rfl, hb8⟩
    have HB8 : Hid (Below w.heap.size w w8) := HB7.out.trans (hb8.mono HB7.out.size)
    clear hb8
    go_wp2_with fail
    go_ret
    exact ⟨rfl, HB8.out⟩
set_option maxRecDepth 100000 in
set_option maxHeartbeats 1600000 in
theorem nil_p6 (w : World) (s : Stp) (h : 6 < s.pid) : Calls Try.prog 7 #[s.v] w fun e w' => e = .returned (.bool true) ∧ Below w.heap.size w w' := by
  have HB0 := hid (below_one w (spO s))
  have HX0 := hid (heap_last w (spO s))
  have CM : Hid (∀ W, Calls Try.prog 18 #[.pointer none, i64 s.pid, i64 s.n] W fun e w' => e = .returned (.tuple #[i64 0, i64 1]) ∧ w' = W) := fun W => smap_arg W _ _ _ (.inl fun h2 => by omega)
  have CU := hid fun W => sunmap_no W (.pointer none) s.pid s.fst (fun W' _ => nfrom W' s.pid s.fst)
  have CF := hid fun W => nfork W s.pid s.n
  have CP := hid fun W => sprot_no W (.pointer none) s.pid s.fst s.n (fun W' _ => nfrom W' s.pid s.fst)
  have CY := hid fun W => smay_nil W s.pid s.fst false
  have CD := hid fun W => sdrop_nil W s.pid
  have CA := hid fun W => sall_nil W
  have C4 := hid fun W => four_ok W
  go_enter Try.func7, Try.ntmps7
  go_wp2_with fail
  refine (CM.out _).mono ?_
  rintro e1 w1 ⟨rfl, hv⟩
  replace hv := hv.symm
  subst hv
  go_wp2_with fail
  refine (CU.out _).mono ?_
  rintro e2 w2 ⟨rfl, hb2⟩
  have HB2 : Hid (Below w.heap.size w w2) := HB0.out.trans (hb2.mono HB0.out.size)
  have HX2 := hid (blk_below HX0.out hb2)
  obtain ⟨x0, x1, x2, x3⟩ := four_cells HX2.out
  have hbl := blk_lt HX2.out
  clear hb2 HB0 HX0
  obtain ⟨G, hG, hGc⟩ := CF.out w2
  have HGc := hid hGc
  clear hGc CF
  go_wp2_with fail
  refine HGc.out.mono ?_
  rintro e3 w3 ⟨rfl, hv⟩
  replace hv := hv.symm
  subst hv
  rcases hG with rfl | rfl
  all_goals
    go_wp2_with fail
    refine (CP.out _).mono ?_
    rintro e4 w4 ⟨rfl, hb4⟩
    have HB4 : Hid (Below w.heap.size w w4) := HB2.out.trans (hb4.mono HB2.out.size)
    have HX4 := hid (blk_below HX2.out hb4)
    clear x0 x1 x2 x3 hbl
    obtain ⟨x0, x1, x2, x3⟩ := four_cells HX4.out
    have hbl := blk_lt HX4.out
    clear hb4
    go_wp2_with fail
    refine (CY.out _).mono ?_
    rintro e5 w5 ⟨rfl, hv⟩
    replace hv := hv.symm
    subst hv
    go_wp2_with fail
    refine (CD.out _).mono ?_
    rintro e6 w6 ⟨rfl, hb6⟩
    have HB6 : Hid (Below w.heap.size w w6) := HB4.out.trans (hb6.mono HB4.out.size)
    clear hb6 x0 x1 x2 x3 hbl
    go_wp2_with fail
    refine (CA.out _).mono ?_
    rintro e7 w7 ⟨⟨ao, cap, rfl, _⟩, hb7⟩
    have HB7 : Hid (Below w.heap.size w w7) := HB6.out.trans (hb7.mono HB6.out.size)
    clear hb7
    go_wp2_with fail
    refine (C4.out _).mono ?_
    rintro e8 w8 ⟨rfl, hb8⟩
    have HB8 : Hid (Below w.heap.size w w8) := HB7.out.trans (hb8.mono HB7.out.size)
    clear hb8
    go_wp2_with fail
    go_ret
    exact ⟨rfl, HB8.out⟩
set_option maxRecDepth 100000 in
set_option maxHeartbeats 1600000 in
theorem nil_n1 (w : World) (s : Stp) (h1 : 1 ≤ s.pid) (h6 : s.pid ≤ 6) (h : s.n < 1) : Calls Try.prog 7 #[s.v] w fun e w' => e = .returned (.bool true) ∧ Below w.heap.size w w' := by
  have HB0 := hid (below_one w (spO s))
  have HX0 := hid (heap_last w (spO s))
  have CM : Hid (∀ W, Calls Try.prog 18 #[.pointer none, i64 s.pid, i64 s.n] W fun e w' => e = .returned (.tuple #[i64 0, i64 1]) ∧ w' = W) := fun W => smap_arg W _ _ _ (.inr (.inl h))
  have CU := hid fun W => sunmap_no W (.pointer none) s.pid s.fst (fun W' _ => nfrom W' s.pid s.fst)
  have CF := hid fun W => nfork W s.pid s.n
  have CP := hid fun W => sprot_no W (.pointer none) s.pid s.fst s.n (fun W' _ => nfrom W' s.pid s.fst)
  have CY := hid fun W => smay_nil W s.pid s.fst false
  have CD := hid fun W => sdrop_nil W s.pid
  have CA := hid fun W => sall_nil W
  have C4 := hid fun W => four_ok W
  go_enter Try.func7, Try.ntmps7
  go_wp2_with fail
  refine (CM.out _).mono ?_
  rintro e1 w1 ⟨rfl, hv⟩
  replace hv := hv.symm
  subst hv
  go_wp2_with fail
  refine (CU.out _).mono ?_
  rintro e2 w2 ⟨rfl, hb2⟩
  have HB2 : Hid (Below w.heap.size w w2) := HB0.out.trans (hb2.mono HB0.out.size)
  have HX2 := hid (blk_below HX0.out hb2)
  obtain ⟨x0, x1, x2, x3⟩ := four_cells HX2.out
  have hbl := blk_lt HX2.out
  clear hb2 HB0 HX0
  obtain ⟨G, hG, hGc⟩ := CF.out w2
  have HGc := hid hGc
  clear hGc CF
  go_wp2_with fail
  refine HGc.out.mono ?_
  rintro e3 w3 ⟨rfl, hv⟩
  replace hv := hv.symm
  subst hv
  rcases hG with rfl | rfl
  all_goals
    go_wp2_with fail
    refine (CP.out _).mono ?_
    rintro e4 w4 ⟨rfl, hb4⟩
    have HB4 : Hid (Below w.heap.size w w4) := HB2.out.trans (hb4.mono HB2.out.size)
    have HX4 := hid (blk_below HX2.out hb4)
    clear x0 x1 x2 x3 hbl
    obtain ⟨x0, x1, x2, x3⟩ := four_cells HX4.out
    have hbl := blk_lt HX4.out
    clear hb4
    go_wp2_with fail
    refine (CY.out _).mono ?_
    rintro e5 w5 ⟨rfl, hv⟩
    replace hv := hv.symm
    subst hv
    go_wp2_with fail
    refine (CD.out _).mono ?_
    rintro e6 w6 ⟨rfl, hb6⟩
    have HB6 : Hid (Below w.heap.size w w6) := HB4.out.trans (hb6.mono HB4.out.size)
    clear hb6 x0 x1 x2 x3 hbl
    go_wp2_with fail
    refine (CA.out _).mono ?_
    rintro e7 w7 ⟨⟨ao, cap, rfl, _⟩, hb7⟩
    have HB7 : Hid (Below w.heap.size w w7) := HB6.out.trans (hb7.mono HB6.out.size)
    clear hb7
    go_wp2_with fail
    refine (C4.out _).mono ?_
    rintro e8 w8 ⟨rfl, hb8⟩
    have HB8 : Hid (Below w.heap.size w w8) := HB7.out.trans (hb8.mono HB7.out.size)
    clear hb8
    go_wp2_with fail
    go_ret
    exact ⟨rfl, HB8.out⟩
set_option maxRecDepth 100000 in
set_option maxHeartbeats 1600000 in
theorem nil_n16 (w : World) (s : Stp) (h1 : 1 ≤ s.pid) (h6 : s.pid ≤ 6) (h : 16 < s.n) : Calls Try.prog 7 #[s.v] w fun e w' => e = .returned (.bool true) ∧ Below w.heap.size w w' := by
  have HB0 := hid (below_one w (spO s))
  have HX0 := hid (heap_last w (spO s))
  have CM : Hid (∀ W, Calls Try.prog 18 #[.pointer none, i64 s.pid, i64 s.n] W fun e w' => e = .returned (.tuple #[i64 0, i64 1]) ∧ w' = W) := fun W => smap_arg W _ _ _ (.inr (.inr h))
  have CU := hid fun W => sunmap_no W (.pointer none) s.pid s.fst (fun W' _ => nfrom W' s.pid s.fst)
  have CF := hid fun W => nfork W s.pid s.n
  have CP := hid fun W => sprot_no W (.pointer none) s.pid s.fst s.n (fun W' _ => nfrom W' s.pid s.fst)
  have CY := hid fun W => smay_nil W s.pid s.fst false
  have CD := hid fun W => sdrop_nil W s.pid
  have CA := hid fun W => sall_nil W
  have C4 := hid fun W => four_ok W
  go_enter Try.func7, Try.ntmps7
  go_wp2_with fail
  refine (CM.out _).mono ?_
  rintro e1 w1 ⟨rfl, hv⟩
  replace hv := hv.symm
  subst hv
  go_wp2_with fail
  refine (CU.out _).mono ?_
  rintro e2 w2 ⟨rfl, hb2⟩
  have HB2 : Hid (Below w.heap.size w w2) := HB0.out.trans (hb2.mono HB0.out.size)
  have HX2 := hid (blk_below HX0.out hb2)
  obtain ⟨x0, x1, x2, x3⟩ := four_cells HX2.out
  have hbl := blk_lt HX2.out
  clear hb2 HB0 HX0
  obtain ⟨G, hG, hGc⟩ := CF.out w2
  have HGc := hid hGc
  clear hGc CF
  go_wp2_with fail
  refine HGc.out.mono ?_
  rintro e3 w3 ⟨rfl, hv⟩
  replace hv := hv.symm
  subst hv
  rcases hG with rfl | rfl
  all_goals
    go_wp2_with fail
    refine (CP.out _).mono ?_
    rintro e4 w4 ⟨rfl, hb4⟩
    have HB4 : Hid (Below w.heap.size w w4) := HB2.out.trans (hb4.mono HB2.out.size)
    have HX4 := hid (blk_below HX2.out hb4)
    clear x0 x1 x2 x3 hbl
    obtain ⟨x0, x1, x2, x3⟩ := four_cells HX4.out
    have hbl := blk_lt HX4.out
    clear hb4
    go_wp2_with fail
    refine (CY.out _).mono ?_
    rintro e5 w5 ⟨rfl, hv⟩
    replace hv := hv.symm
    subst hv
    go_wp2_with fail
    refine (CD.out _).mono ?_
    rintro e6 w6 ⟨rfl, hb6⟩
    have HB6 : Hid (Below w.heap.size w w6) := HB4.out.trans (hb6.mono HB4.out.size)
    clear hb6 x0 x1 x2 x3 hbl
    go_wp2_with fail
    refine (CA.out _).mono ?_
    rintro e7 w7 ⟨⟨ao, cap, rfl, _⟩, hb7⟩
    have HB7 : Hid (Below w.heap.size w w7) := HB6.out.trans (hb7.mono HB6.out.size)
    clear hb7
    go_wp2_with fail
    refine (C4.out _).mono ?_
    rintro e8 w8 ⟨rfl, hb8⟩
    have HB8 : Hid (Below w.heap.size w w8) := HB7.out.trans (hb8.mono HB7.out.size)
    clear hb8
    go_wp2_with fail
    go_ret
    exact ⟨rfl, HB8.out⟩
set_option maxRecDepth 100000 in
set_option maxHeartbeats 1600000 in
theorem nil_ok (w : World) (s : Stp) (h1 : 1 ≤ s.pid) (h6 : s.pid ≤ 6) (h2 : 1 ≤ s.n) (h3 : s.n ≤ 16) : Calls Try.prog 7 #[s.v] w fun e w' => e = .returned (.bool true) ∧ Below w.heap.size w w' := by
  have d1 : decide (s.pid < 1) = false := decide_eq_false (by omega)
  have d2 : decide (6 < s.pid) = false := decide_eq_false (by omega)
  have d3 : decide (s.n < 1) = false := decide_eq_false (by omega)
  have d4 : decide (16 < s.n) = false := decide_eq_false (by omega)
  have HB0 := hid (below_one w (spO s))
  have HX0 := hid (heap_last w (spO s))
  have CM : Hid (∀ W, Calls Try.prog 18 #[.pointer none, i64 s.pid, i64 s.n] W fun e w' => e = .returned (.tuple #[i64 0, i64 7]) ∧ w' = W) := fun W => smap_nil W _ _ ⟨h1, h6⟩ h2 h3
  have CU := hid fun W => sunmap_no W (.pointer none) s.pid s.fst (fun W' _ => nfrom W' s.pid s.fst)
  have CF := hid fun W => nfork W s.pid s.n
  have CP := hid fun W => sprot_no W (.pointer none) s.pid s.fst s.n (fun W' _ => nfrom W' s.pid s.fst)
  have CY := hid fun W => smay_nil W s.pid s.fst false
  have CD := hid fun W => sdrop_nil W s.pid
  have CA := hid fun W => sall_nil W
  have C4 := hid fun W => four_ok W
  go_enter Try.func7, Try.ntmps7
  go_wp2_with fail
  refine (CM.out _).mono ?_
  rintro e1 w1 ⟨rfl, hv⟩
  replace hv := hv.symm
  subst hv
  go_wp2_with fail
  refine (CU.out _).mono ?_
  rintro e2 w2 ⟨rfl, hb2⟩
  have HB2 : Hid (Below w.heap.size w w2) := HB0.out.trans (hb2.mono HB0.out.size)
  have HX2 := hid (blk_below HX0.out hb2)
  obtain ⟨x0, x1, x2, x3⟩ := four_cells HX2.out
  have hbl := blk_lt HX2.out
  clear hb2 HB0 HX0
  obtain ⟨G, hG, hGc⟩ := CF.out w2
  have HGc := hid hGc
  clear hGc CF
  go_wp2_with fail
  refine HGc.out.mono ?_
  rintro e3 w3 ⟨rfl, hv⟩
  replace hv := hv.symm
  subst hv
  rcases hG with rfl | rfl
  all_goals
    go_wp2_with fail
    refine (CP.out _).mono ?_
    rintro e4 w4 ⟨rfl, hb4⟩
    have HB4 : Hid (Below w.heap.size w w4) := HB2.out.trans (hb4.mono HB2.out.size)
    have HX4 := hid (blk_below HX2.out hb4)
    clear x0 x1 x2 x3 hbl
    obtain ⟨x0, x1, x2, x3⟩ := four_cells HX4.out
    have hbl := blk_lt HX4.out
    clear hb4
    go_wp2_with fail
    refine (CY.out _).mono ?_
    rintro e5 w5 ⟨rfl, hv⟩
    replace hv := hv.symm
    subst hv
    go_wp2_with fail
    refine (CD.out _).mono ?_
    rintro e6 w6 ⟨rfl, hb6⟩
    have HB6 : Hid (Below w.heap.size w w6) := HB4.out.trans (hb6.mono HB4.out.size)
    clear hb6 x0 x1 x2 x3 hbl
    go_wp2_with fail
    refine (CA.out _).mono ?_
    rintro e7 w7 ⟨⟨ao, cap, rfl, _⟩, hb7⟩
    have HB7 : Hid (Below w.heap.size w w7) := HB6.out.trans (hb7.mono HB6.out.size)
    clear hb7
    go_wp2_with fail
    refine (C4.out _).mono ?_
    rintro e8 w8 ⟨rfl, hb8⟩
    have HB8 : Hid (Below w.heap.size w w8) := HB7.out.trans (hb8.mono HB7.out.size)
    clear hb8
    go_wp2_with fail
    go_ret
    exact ⟨rfl, HB8.out⟩
theorem nil_walk (w : World) (s : Stp) : Calls Try.prog 7 #[s.v] w fun e w' => e = .returned (.bool true) ∧ Below w.heap.size w w' := by
  by_cases a : s.pid < 1
  · exact nil_p1 w s a
  by_cases b : 6 < s.pid
  · exact nil_p6 w s b
  by_cases c : s.n < 1
  · exact nil_n1 w s (by omega) (by omega) c
  by_cases d : 16 < s.n
  · exact nil_n16 w s (by omega) (by omega) d
  exact nil_ok w s (by omega) (by omega) (by omega) (by omega)
end Go.Proofs.Ytlkcpjefgelcoaa
