/- DescRight; no statement is proved in this text. -/
import Derived.Test.YtdgkajhlofpdeaaArgs
namespace Go.Proofs.Ytdgkajhlofpdeaa
open Go.ChangeShapes Go.WideShapes Go.ChangeAt Go.RowKit Go.Deep
attribute [local go_sem ↓] Go.wp_at_zero Go.wp_at_succ

set_option maxRecDepth 100000 in
set_option maxHeartbeats 1600000 in
theorem right_walk (w : World) (p s a b c : Int) : Calls Try.prog 4 #[ev p s a b c] w fun e w' => e = .returned (.bool true) ∧ Below w.heap.size w w' := by
  have HB0 := hid (below_one w (enO p s a b c 38))
  have HX := hid (heap_last w (enO p s a b c 38))
  have C1 := hid fun W => right_ok W p s a b c
  have C3 := hid fun W => rright_ok W p s a b c
  generalize rightF p s a b c = R at *
  go_enter Try.func4, Try.ntmps4
  go_upto_region 1 with fail
  obtain ⟨X, hX⟩ : ∃ X, X = w.heap.size := ⟨_, rfl⟩
  rw [← hX] at HX ⊢
  have HXw := hid hX
  clear hX
  generalize w.alloc (enO p s a b c 38) = V at *
  have HS : Hid (V.drew.heap[X]? = some (enO p s a b c 38)) := HX.out
  refine wp_region_noPanic ?_
  refine wp_region_last (fun W => W.heap[X]? = some (enO p s a b c 38)) 9 (by kernel_rfl) ?_
  refine wpL_take 0 3 (ev p s a b c) [] rfl rfl (by kernel_rfl) (by decide) (by kernel_rfl) (by kernel_rfl) (by kernel_rfl) (fun _ _ _ h => h) HS.out (by rfl) (fun W hW => by obtain ⟨e0, e1, e2, e3, e4⟩ := five_cells hW; go_simp) ?_
  simp only [Act.put, List.setIfInBounds_toArray, List.set_cons_zero, List.set_cons_succ]
  refine wpL_take 2 5 (ev p s a b c) [] rfl rfl (by kernel_rfl) (by decide) (by kernel_rfl) (by kernel_rfl) (by kernel_rfl) (fun _ _ _ h => h) HS.out (by rfl) (fun W hW => by obtain ⟨e0, e1, e2, e3, e4⟩ := five_cells hW; go_simp) ?_
  simp only [Act.put, List.setIfInBounds_toArray, List.set_cons_zero, List.set_cons_succ]
  have HBd : Hid (Below w.heap.size w V.drew) := HB0.out.drew
  refine wpL_one 1 rfl (by kernel_rfl) (by rfl) (fun K hK => ?_)
  go_simp
  refine (C1.out V.drew).mono ?_
  rintro e w1 ⟨rfl, hb1⟩
  have HB1 : Hid (Below w.heap.size w w1) := HBd.out.trans (hb1.mono HBd.out.size)
  have HS1 : Hid (w1.heap[X]? = some (enO p s a b c 38)) := blk_below HS.out hb1
  clear hb1
  go_simp
  refine hK.out _ _ (fun _ => HS1.out) ?_
  clear hK K
  refine wpL_one 3 rfl (by kernel_rfl) (by rfl) (fun K hK => ?_)
  go_simp
  refine (ref_ok w1 p s a b c).mono ?_
  rintro e w2 ⟨rfl, hb2⟩
  have HB2 : Hid (Below w.heap.size w w2) := HB1.out.trans (hb2.mono HB1.out.size)
  have HS2 : Hid (w2.heap[X]? = some (enO p s a b c 38)) := blk_below HS1.out hb2
  clear hb2
  go_simp
  refine hK.out _ _ (fun _ => HS2.out) ?_
  clear hK K
  refine wpL_one 4 rfl (by kernel_rfl) (by rfl) (fun K hK => ?_)
  go_simp
  refine (C3.out w2).mono ?_
  rintro e w3 ⟨rfl, hb3⟩
  have HB3 : Hid (Below w.heap.size w w3) := HB2.out.trans (hb3.mono HB2.out.size)
  have HS3 : Hid (w3.heap[X]? = some (enO p s a b c 38)) := blk_below HS2.out hb3
  clear hb3
  go_simp
  refine hK.out _ _ (fun _ => HS3.out) ?_
  clear hK K
  refine wpL_take 5 8 (.bool true) [] rfl rfl (by kernel_rfl) (by decide) (by kernel_rfl) (by kernel_rfl) (by kernel_rfl) (fun _ _ _ h => h) HS3.out (by rfl) (fun W hW => by cases R <;> go_simp) ?_
  simp only [Act.put, List.setIfInBounds_toArray, List.set_cons_zero, List.set_cons_succ]
  refine wpL_take 6 9 (.bool true) [] rfl rfl (by kernel_rfl) (by decide) (by kernel_rfl) (by kernel_rfl) (by kernel_rfl) (fun _ _ _ h => h) HS3.out (by rfl) (fun W hW => by go_simp) ?_
  simp only [Act.put, List.setIfInBounds_toArray, List.set_cons_zero, List.set_cons_succ]
  refine wpL_one 7 rfl (by kernel_rfl) (by rfl) (fun K hK => ?_)
  go_simp
  refine (five_ok w3).mono ?_
  rintro e w4 ⟨rfl, hb4⟩
  have HB4 : Hid (Below w.heap.size w w4) := HB3.out.trans (hb4.mono HB3.out.size)
  have HS4 : Hid (w4.heap[X]? = some (enO p s a b c 38)) := blk_below HS3.out hb4
  clear hb4
  go_simp
  refine hK.out _ _ (fun _ => HS4.out) ?_
  clear hK K
  refine wpL_take 8 11 (.bool true) [] rfl rfl (by kernel_rfl) (by decide) (by kernel_rfl) (by kernel_rfl) (by kernel_rfl) (fun _ _ _ h => h) HS4.out (by rfl) (fun W hW => by go_simp) ?_
  simp only [Act.put, List.setIfInBounds_toArray, List.set_cons_zero, List.set_cons_succ]
  refine wpL_one 9 rfl (by kernel_rfl) (by rfl) (fun K hK => ?_)
  go_simp
  refine hK.out _ _ (fun h => absurd rfl h) ?_
  clear hK K
  refine wpL_done (by kernel_rfl) ?_
  refine NoPanic.normal ?_
  go_wp2_with fail
  go_ret
  exact ⟨rfl, HB4.out⟩
end Go.Proofs.Ytdgkajhlofpdeaa
