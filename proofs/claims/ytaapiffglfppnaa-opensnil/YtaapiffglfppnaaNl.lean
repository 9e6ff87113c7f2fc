/- OpensNil's walk; no statement is proved in this text. -/
import Derived.Test.YtaapiffglfppnaaArgs
namespace Go.Proofs.Ytaapiffglfppnaa
open Go.ChangeShapes Go.WideShapes Go.ChangeAt Go.RowKit Go.Deep
attribute [local go_sem ↓] Go.wp_at_zero Go.wp_at_succ

theorem at0 (p s : Int) : atA A0 p s = none := by unfold atA A0; split <;> rfl
theorem refs_nil (w : World) (a b : Int) : Calls Try.prog 12 #[.pointer none, i64 a, i64 b] w fun e w' => e = .returned (i64 0) ∧ Below w.heap.size w w' := by
  have := refs_ok w (.pointer none) A0 V0 a b (tv_nil w V0)
  rw [nmL, ad0] at this
  exact this
theorem opens_nil (w : World) : Calls Try.prog 18 #[.pointer none] w fun e w' => (∃ ao cap, e = .returned (.slice ao 0 cap)) ∧ Below w.heap.size w w' :=
  (opens_ok w (.pointer none) A0 V0 (tv_nil w V0) (sml0 _)).mono fun e w' ⟨⟨ao, cap, M, he, hp, _, _, _⟩, hb⟩ => by
    have hl : M.length = 0 := by
      have := hp.length_eq
      rw [nmL, ad0] at this
      exact this
    rw [hl] at he
    exact ⟨⟨ao, cap, he⟩, hb⟩
theorem slots_nil (w : World) : Calls Try.prog 16 #[.pointer none] w fun e w' => (∃ ao cap, e = .returned (.slice ao 0 cap)) ∧ Below w.heap.size w w' :=
  (slots_ok w (.pointer none) A0 V0 (tv_nil w V0)).mono fun e w' ⟨⟨ao, cap, he, _⟩, hb⟩ => by
    have hl : (slL A0 V0).length = 0 := by rw [slL, ad0]; rfl
    rw [hl] at he
    exact ⟨⟨ao, cap, he⟩, hb⟩
set_option maxRecDepth 100000 in
set_option maxHeartbeats 12800000 in
theorem nil_t (w : World) (s : Stp) (hr : rightF s.pid 0 s.kind s.obj 0 = true) : Calls Try.prog 7 #[s.v] w fun e w' => e = .returned (.bool true) ∧ Below w.heap.size w w' := by
  have HB0 := hid (below_one w (spO s))
  have HX0 := hid (heap_last w (spO s))
  have CA := hid fun W => add_nil W s.pid s.kind s.obj hr
  have CG := hid fun W => get_none W (.pointer none) A0 V0 s.pid s.slot (tv_nil W V0) (at0 _ _)
  have CD := hid fun W => dup_none W (.pointer none) A0 V0 s.pid s.slot (tv_nil W V0) (at0 _ _)
  have CF := hid fun W => fork_nil W s.pid s.n
  have CR := hid fun W => rright_ok W s.pid 0 s.kind s.obj 0
  simp only [hr] at CR
  have CS := hid fun W => seek_none W (.pointer none) A0 V0 s.pid s.slot s.n (tv_nil W V0) (at0 _ _)
  have C2 := hid fun W => dup2_none W (.pointer none) A0 V0 s.pid s.slot s.n (tv_nil W V0) (at0 _ _)
  have CC := hid fun W => close_none W (.pointer none) A0 V0 s.pid s.slot (tv_nil W V0) (at0 _ _)
  have CDr := hid fun W => drop_nil W s.pid V0
  have CRf := hid fun W => refs_nil W s.kind s.obj
  have CO := hid fun W => opens_nil W
  have CL := hid fun W => slots_nil W
  have C9 := hid fun W => nine_ok W
  clear hr
  go_enter Try.func7, Try.ntmps7
  go_wp2_with fail
  refine (CA.out _).mono ?_
  rintro e1 w1 ⟨rfl, hb⟩
  have HB1 : Hid (Below w.heap.size w w1) := HB0.out.trans (hb.mono HB0.out.size)
  have HX1 := hid (blk_below HX0.out hb)
  obtain ⟨x0, x1, x2, x3, x4, x5⟩ := six_cells HX1.out
  have hbl := blk_lt HX1.out
  clear hb
  go_wp2_with fail
  refine (CG.out _).mono ?_
  rintro e2 w2 ⟨rfl, hb⟩
  have HB2 : Hid (Below w.heap.size w (w2.alloc (enO 0 0 0 0 0 37))) := (HB1.out.trans (hb.mono HB1.out.size)).alloc (Nat.le_trans HB1.out.size hb.size) _
  have HX2 := hid (blk_alloc (blk_below HX1.out hb) (enO 0 0 0 0 0 37))
  have HX2' := hid (blk_below HX1.out hb)
  clear x0 x1 x2 x3 x4 x5 hbl hb
  obtain ⟨x0, x1, x2, x3, x4, x5⟩ := six_cells HX2'.out
  have hbl := blk_lt HX2'.out
  go_wp2_with fail
  refine (CD.out _).mono ?_
  rintro e3 w3 ⟨rfl, hv⟩
  replace hv := hv.symm
  subst hv
  go_wp2_with fail
  refine (CF.out _).mono ?_
  rintro e4 w4 ⟨⟨G, rfl, hG⟩, hv⟩
  replace hv := hv.symm
  subst hv
  rcases hG with rfl | rfl
  all_goals
    go_wp2_with fail
    refine (CR.out _).mono ?_
    rintro e5 w5 ⟨rfl, hb⟩
    have HB5 : Hid (Below w.heap.size w w5) := HB2.out.trans (hb.mono HB2.out.size)
    have HX5 := hid (blk_below HX2.out hb)
    clear x0 x1 x2 x3 x4 x5 hbl hb
    obtain ⟨x0, x1, x2, x3, x4, x5⟩ := six_cells HX5.out
    have hbl := blk_lt HX5.out
    go_wp2_with fail
    refine (CS.out _).mono ?_
    rintro e6 w6 ⟨rfl, hv⟩
    replace hv := hv.symm
    subst hv
    go_wp2_with fail
    refine (C2.out _).mono ?_
    rintro e7 w7 ⟨rfl, hv⟩
    replace hv := hv.symm
    subst hv
    go_wp2_with fail
    refine (CC.out _).mono ?_
    rintro e8 w8 ⟨rfl, hv⟩
    replace hv := hv.symm
    subst hv
    go_wp2_with fail
    refine (CDr.out _).mono ?_
    rintro e9 w9 ⟨rfl, hv⟩
    replace hv := hv.symm
    subst hv
    go_wp2_with fail
    refine (CRf.out _).mono ?_
    rintro e10 w10 ⟨rfl, hb⟩
    have HB10 : Hid (Below w.heap.size w w10) := HB5.out.trans (hb.mono HB5.out.size)
    clear hb x0 x1 x2 x3 x4 x5 hbl
    go_wp2_with fail
    refine (CO.out _).mono ?_
    rintro e11 w11 ⟨⟨ao, cap, rfl⟩, hb⟩
    have HB11 : Hid (Below w.heap.size w w11) := HB10.out.trans (hb.mono HB10.out.size)
    clear hb
    go_wp2_with fail
    refine (CL.out _).mono ?_
    rintro e12 w12 ⟨⟨ao2, cap2, rfl⟩, hb⟩
    have HB12 : Hid (Below w.heap.size w w12) := HB11.out.trans (hb.mono HB11.out.size)
    clear hb
    go_wp2_with fail
    refine (C9.out _).mono ?_
    rintro e13 w13 ⟨rfl, hb⟩
    have HB13 : Hid (Below w.heap.size w w13) := HB12.out.trans (hb.mono HB12.out.size)
    clear hb
    go_wp2_with fail
    go_ret
    exact ⟨rfl, HB13.out⟩
set_option maxRecDepth 100000 in
set_option maxHeartbeats 12800000 in
theorem nil_f (w : World) (s : Stp) (hr : rightF s.pid 0 s.kind s.obj 0 = false) : Calls Try.prog 7 #[s.v] w fun e w' => e = .returned (.bool true) ∧ Below w.heap.size w w' := by
  have HB0 := hid (below_one w (spO s))
  have HX0 := hid (heap_last w (spO s))
  have CA := hid fun W => add_arg W (.pointer none) s.pid s.kind s.obj hr
  have CG := hid fun W => get_none W (.pointer none) A0 V0 s.pid s.slot (tv_nil W V0) (at0 _ _)
  have CD := hid fun W => dup_none W (.pointer none) A0 V0 s.pid s.slot (tv_nil W V0) (at0 _ _)
  have CF := hid fun W => fork_nil W s.pid s.n
  have CR := hid fun W => rright_ok W s.pid 0 s.kind s.obj 0
  simp only [hr] at CR
  have CS := hid fun W => seek_none W (.pointer none) A0 V0 s.pid s.slot s.n (tv_nil W V0) (at0 _ _)
  have C2 := hid fun W => dup2_none W (.pointer none) A0 V0 s.pid s.slot s.n (tv_nil W V0) (at0 _ _)
  have CC := hid fun W => close_none W (.pointer none) A0 V0 s.pid s.slot (tv_nil W V0) (at0 _ _)
  have CDr := hid fun W => drop_nil W s.pid V0
  have CRf := hid fun W => refs_nil W s.kind s.obj
  have CO := hid fun W => opens_nil W
  have CL := hid fun W => slots_nil W
  have C9 := hid fun W => nine_ok W
  clear hr
  go_enter Try.func7, Try.ntmps7
  go_wp2_with fail
  refine (CA.out _).mono ?_
  rintro e1 w1 ⟨rfl, hb⟩
  have HB1 : Hid (Below w.heap.size w w1) := HB0.out.trans (hb.mono HB0.out.size)
  have HX1 := hid (blk_below HX0.out hb)
  obtain ⟨x0, x1, x2, x3, x4, x5⟩ := six_cells HX1.out
  have hbl := blk_lt HX1.out
  clear hb
  go_wp2_with fail
  refine (CG.out _).mono ?_
  rintro e2 w2 ⟨rfl, hb⟩
  have HB2 : Hid (Below w.heap.size w (w2.alloc (enO 0 0 0 0 0 37))) := (HB1.out.trans (hb.mono HB1.out.size)).alloc (Nat.le_trans HB1.out.size hb.size) _
  have HX2 := hid (blk_alloc (blk_below HX1.out hb) (enO 0 0 0 0 0 37))
  have HX2' := hid (blk_below HX1.out hb)
  clear x0 x1 x2 x3 x4 x5 hbl hb
  obtain ⟨x0, x1, x2, x3, x4, x5⟩ := six_cells HX2'.out
  have hbl := blk_lt HX2'.out
  go_wp2_with fail
  refine (CD.out _).mono ?_
  rintro e3 w3 ⟨rfl, hv⟩
  replace hv := hv.symm
  subst hv
  go_wp2_with fail
  refine (CF.out _).mono ?_
  rintro e4 w4 ⟨⟨G, rfl, hG⟩, hv⟩
  replace hv := hv.symm
  subst hv
  rcases hG with rfl | rfl
  all_goals
    go_wp2_with fail
    refine (CR.out _).mono ?_
    rintro e5 w5 ⟨rfl, hb⟩
    have HB5 : Hid (Below w.heap.size w w5) := HB2.out.trans (hb.mono HB2.out.size)
    have HX5 := hid (blk_below HX2.out hb)
    clear x0 x1 x2 x3 x4 x5 hbl hb
    obtain ⟨x0, x1, x2, x3, x4, x5⟩ := six_cells HX5.out
    have hbl := blk_lt HX5.out
    go_wp2_with fail
    refine (CS.out _).mono ?_
    rintro e6 w6 ⟨rfl, hv⟩
    replace hv := hv.symm
    subst hv
    go_wp2_with fail
    refine (C2.out _).mono ?_
    rintro e7 w7 ⟨rfl, hv⟩
    replace hv := hv.symm
    subst hv
    go_wp2_with fail
    refine (CC.out _).mono ?_
    rintro e8 w8 ⟨rfl, hv⟩
    replace hv := hv.symm
    subst hv
    go_wp2_with fail
    refine (CDr.out _).mono ?_
    rintro e9 w9 ⟨rfl, hv⟩
    replace hv := hv.symm
    subst hv
    go_wp2_with fail
    refine (CRf.out _).mono ?_
    rintro e10 w10 ⟨rfl, hb⟩
    have HB10 : Hid (Below w.heap.size w w10) := HB5.out.trans (hb.mono HB5.out.size)
    clear hb x0 x1 x2 x3 x4 x5 hbl
    go_wp2_with fail
    refine (CO.out _).mono ?_
    rintro e11 w11 ⟨⟨ao, cap, rfl⟩, hb⟩
    have HB11 : Hid (Below w.heap.size w w11) := HB10.out.trans (hb.mono HB10.out.size)
    clear hb
    go_wp2_with fail
    refine (CL.out _).mono ?_
    rintro e12 w12 ⟨⟨ao2, cap2, rfl⟩, hb⟩
    have HB12 : Hid (Below w.heap.size w w12) := HB11.out.trans (hb.mono HB11.out.size)
    clear hb
    go_wp2_with fail
    refine (C9.out _).mono ?_
    rintro e13 w13 ⟨rfl, hb⟩
    have HB13 : Hid (Below w.heap.size w w13) := HB12.out.trans (hb.mono HB12.out.size)
    clear hb
    go_wp2_with fail
    go_ret
    exact ⟨rfl, HB13.out⟩
theorem nil_walk (w : World) (s : Stp) : Calls Try.prog 7 #[s.v] w fun e w' => e = .returned (.bool true) ∧ Below w.heap.size w w' := by
  cases h : rightF s.pid 0 s.kind s.obj 0
  · exact nil_f w s h
  · exact nil_t w s h
end Go.Proofs.Ytaapiffglfppnaa
