/- TypesParses' walk; no statement is proved in this text. -/
import Derived.Test.YteecjilknembdaaDoorPs
import Derived.Test.YteecjilknembdaaDoorLaid
import Derived.Test.YteecjilknembdaaDoorRs
namespace Go.Proofs.YteecjilknembdaaDoor
open Go.ChangeShapes Go.WideShapes Go.ChangeAt Go.RowKit Go.Deep
attribute [local go_sem ↓] Go.wp_at_zero Go.wp_at_succ

set_option maxRecDepth 100000 in
set_option maxHeartbeats 12800000 in
theorem parses_walk (w : World) (hE : Env w) (l : Bs) (hl : l.length ≤ maxLen) : Calls Tryd.prog 4 #[str l] w fun e w' => e = .returned (.bool true) ∧ Below w.heap.size w w' := by
  have hbl := bz l
  unfold maxLen at hl
  have HE := hid hE
  have HPID : Hid (∀ W, Below w.heap.size w W → Calls Tryd.prog 9 #[] W fun e w' => e = .returned (.bool true) ∧ Below W.heap.size W w') := fun W hW => pid_ok W (hE.below hW)
  have HB0 : Hid (Below w.heap.size w w) := Below.refl _ _
  by_cases h1 : 1500 < l.length
  · have h1I : (1500 : Int) < l.length := by omega
    clear hE
    go_enter Tryd.func4, Tryd.ntmps4
    go_wp2_with fail
    refine (HPID.out w HB0.out).mono ?_
    rintro e w9 ⟨rfl, hb9⟩
    have HB9 : Hid (Below w.heap.size w w9) := HB0.out.trans (hb9.mono HB0.out.size)
    clear hb9
    go_wp2_with fail
    go_ret
    exact ⟨rfl, HB9.out⟩
  · have h1I : ¬ (1500 : Int) < l.length := by omega
    have HPA := hid (parse_ok l w (by omega) hE.ml)
    have HPD : Hid (∀ W, Calls Tryd.prog 16 #[str l] W (ParOk W l)) := fun W => by
      have := rparse_ok ⟨l.toArray⟩ W (by show l.toArray.size ≤ _; simp; omega)
      simpa using this
    clear hE h1
    go_enter Tryd.func4, Tryd.ntmps4
    go_wp2_with fail
    refine HPA.out.mono ?_
    rintro e w1 ⟨a1, n1, c1, a2, n2, c2, rfl, hb1, hr1⟩
    have HCN := hid (parT_cnt l)
    obtain ⟨T, hT⟩ : ∃ T, T = parT l := ⟨_, rfl⟩
    obtain ⟨Er, hEr⟩ : ∃ Er, Er = parE l := ⟨_, rfl⟩
    rw [← hT] at hr1 HCN
    rw [← hT, ← hEr]
    have HTe := hid hT
    have HEe := hid hEr
    have HB1 := hid hb1
    have HR1 := hid hr1
    have HX1 : Hid ((w1.alloc (.cells #[i64 T.kind, i64 T.num, .slice a1 n1 c1, .slice a2 n2 c2] 25)).heap[w1.heap.size]? = some (.cells #[i64 T.kind, i64 T.num, .slice a1 n1 c1, .slice a2 n2 c2] 25)) := heap_last w1 _
    have HBV : Hid (Below w.heap.size w (w1.alloc (.cells #[i64 T.kind, i64 T.num, .slice a1 n1 c1, .slice a2 n2 c2] 25))) := hb1.trans ((below_one w1 _).mono hb1.size)
    have HRV : Hid (Rd (w1.alloc (.cells #[i64 T.kind, i64 T.num, .slice a1 n1 c1, .slice a2 n2 c2] 25)) (fun b => w.heap.size ≤ b) T (.slice a1 n1 c1) (.slice a2 n2 c2)) := hr1.under (below_one w1 _)
    clear hT hEr hb1 hr1 HPA
    go_upto_region 4 with fail
    obtain ⟨Z, hZ⟩ : ∃ Z, Z = w1.heap.size := ⟨_, rfl⟩
    rw [← hZ] at HX1 ⊢
    clear hZ
    generalize w1.alloc (.cells #[i64 T.kind, i64 T.num, .slice a1 n1 c1, .slice a2 n2 c2] 25) = V at *
    go_wp2_with fail
    refine (HPD.out V).mono ?_
    rintro e w2 ⟨b1, m1, d1, b2, m2, d2, rfl, hb2, hr2⟩
    rw [← HTe.out] at hr2
    rw [← HTe.out, ← HEe.out]
    have HB2 : Hid (Below w.heap.size w w2) := HBV.out.trans (hb2.mono HBV.out.size)
    have HX2 : Hid (w2.heap[Z]? = some (.cells #[i64 T.kind, i64 T.num, .slice a1 n1 c1, .slice a2 n2 c2] 25)) := blk_below HX1.out hb2
    have HR2 := hid hr2
    have HRZ2 : Hid (Rd w2 (fun b => w.heap.size ≤ b) T (.slice a1 n1 c1) (.slice a2 n2 c2)) := HRV.out.under hb2
    have HwV : Hid (w.heap.size ≤ V.heap.size) := HBV.out.size
    have HY3 : Hid ((w2.alloc (.cells #[i64 T.kind, i64 T.num, .slice b1 m1 d1, .slice b2 m2 d2] 37)).heap[w2.heap.size]? = some (.cells #[i64 T.kind, i64 T.num, .slice b1 m1 d1, .slice b2 m2 d2] 37)) := heap_last w2 _
    have HX3 : Hid ((w2.alloc (.cells #[i64 T.kind, i64 T.num, .slice b1 m1 d1, .slice b2 m2 d2] 37)).heap[Z]? = some (.cells #[i64 T.kind, i64 T.num, .slice a1 n1 c1, .slice a2 n2 c2] 25)) := blk_alloc HX2.out _
    have HB3 : Hid (Below w.heap.size w (w2.alloc (.cells #[i64 T.kind, i64 T.num, .slice b1 m1 d1, .slice b2 m2 d2] 37))) := HB2.out.trans ((below_one w2 _).mono HB2.out.size)
    have HR3 : Hid (Rd (w2.alloc (.cells #[i64 T.kind, i64 T.num, .slice b1 m1 d1, .slice b2 m2 d2] 37)) (fun b => V.heap.size ≤ b) T (.slice b1 m1 d1) (.slice b2 m2 d2)) := HR2.out.under (below_one w2 _)
    have HRZ3 : Hid (Rd (w2.alloc (.cells #[i64 T.kind, i64 T.num, .slice b1 m1 d1, .slice b2 m2 d2] 37)) (fun b => w.heap.size ≤ b) T (.slice a1 n1 c1) (.slice a2 n2 c2)) := HRZ2.out.under (below_one w2 _)
    clear hb2 hr2 HR2 HRZ2 HRV HPD
    go_upto_region 5 with fail
    obtain ⟨Y, hY⟩ : ∃ Y, Y = w2.heap.size := ⟨_, rfl⟩
    rw [← hY] at HY3 ⊢
    clear hY
    generalize w2.alloc (.cells #[i64 T.kind, i64 T.num, .slice b1 m1 d1, .slice b2 m2 d2] 37) = X at *
    have HSd : Hid (So Z Y (.cells #[i64 T.kind, i64 T.num, .slice a1 n1 c1, .slice a2 n2 c2] 25) (.cells #[i64 T.kind, i64 T.num, .slice b1 m1 d1, .slice b2 m2 d2] 37) X.drew) := ⟨HX3.out, HY3.out⟩
    have HBd : Hid (Below w.heap.size w X.drew) := below_drewN HB3.out 1
    have HRF : Hid (Calls Tryd.prog 12 #[tyV T.kind T.num (.slice a1 n1 c1) (.slice a2 n2 c2)] X.drew fun e w' => ∃ a n c, e = .returned (tyV T.kind T.num (.slice a1 n1 c1) (.slice a n c)) ∧ Below X.drew.heap.size X.drew w' ∧ Rd w' (fun b => b < X.drew.heap.size ∨ X.drew.heap.size ≤ b) T (.slice a1 n1 c1) (.slice a n c)) :=
      ref_ok T.count T (Nat.le_refl _) (by have := HCN.out; omega) X.drew.heap.size X.drew _ _ (Nat.le_refl _) ((HRZ3.out.under (below_drewN (Below.refl _ X) 1)).mono (fun b _ hb => hb))
    have HRYd : Hid (Rd X.drew (fun _ => True) T (.slice b1 m1 d1) (.slice b2 m2 d2)) := (HR3.out.under (below_drewN (Below.refl _ X) 1)).mono (fun _ _ _ => trivial)
    refine wp_region_noPanic ?_
    refine wp_region_last (So Z Y (.cells #[i64 T.kind, i64 T.num, .slice a1 n1 c1, .slice a2 n2 c2] 25) (.cells #[i64 T.kind, i64 T.num, .slice b1 m1 d1, .slice b2 m2 d2] 37)) 12 (by kernel_rfl) ?_
    refine wpL_take 0 21 (.agg #[i64 T.kind, i64 T.num, .slice a1 n1 c1, .slice a2 n2 c2]) [] rfl rfl (by kernel_rfl) (by decide) (by kernel_rfl) (by kernel_rfl) (by kernel_rfl) (fun _ _ _ h => h) HSd.out (by rfl) (fun W hW => by have e0 : W.cell? ⟨Z, 0, none⟩ = some (i64 T.kind) := blk_cell hW.o 0; have e1 : W.cell? ⟨Z, 1, none⟩ = some (i64 T.num) := blk_cell hW.o 1; have e2 : W.cell? ⟨Z, 2, none⟩ = some (.slice a1 n1 c1) := blk_cell hW.o 2; have e3 : W.cell? ⟨Z, 3, none⟩ = some (.slice a2 n2 c2) := blk_cell hW.o 3; go_simp) ?_
    simp only [Act.put, List.setIfInBounds_toArray, List.set_cons_zero, List.set_cons_succ]
    refine wpL_take 2 23 (.agg #[i64 T.kind, i64 T.num, .slice b1 m1 d1, .slice b2 m2 d2]) [] rfl rfl (by kernel_rfl) (by decide) (by kernel_rfl) (by kernel_rfl) (by kernel_rfl) (fun _ _ _ h => h) HSd.out (by rfl) (fun W hW => by have e0 : W.cell? ⟨Y, 0, none⟩ = some (i64 T.kind) := blk_cell hW.k 0; have e1 : W.cell? ⟨Y, 1, none⟩ = some (i64 T.num) := blk_cell hW.k 1; have e2 : W.cell? ⟨Y, 2, none⟩ = some (.slice b1 m1 d1) := blk_cell hW.k 2; have e3 : W.cell? ⟨Y, 3, none⟩ = some (.slice b2 m2 d2) := blk_cell hW.k 3; go_simp) ?_
    simp only [Act.put, List.setIfInBounds_toArray, List.set_cons_zero, List.set_cons_succ]
    refine wpL_one 1 rfl (by kernel_rfl) (by rfl) (fun K hK => ?_)
    go_simp
    refine HRF.out.mono ?_
    rintro e w4 ⟨a9, n9, c9, rfl, hb4, hr4⟩
    have HB4 : Hid (Below w.heap.size w w4) := HBd.out.trans (hb4.mono HBd.out.size)
    have HS4 : Hid (So Z Y (.cells #[i64 T.kind, i64 T.num, .slice a1 n1 c1, .slice a2 n2 c2] 25) (.cells #[i64 T.kind, i64 T.num, .slice b1 m1 d1, .slice b2 m2 d2] 37) w4) := ⟨blk_below HSd.out.o hb4, blk_below HSd.out.k hb4⟩
    have HSM : Hid (Calls Tryd.prog 17 #[tyV T.kind T.num (.slice a1 n1 c1) (.slice a9 n9 c9), tyV T.kind T.num (.slice b1 m1 d1) (.slice b2 m2 d2)] w4 fun e w' => e = .returned (.bool true) ∧ Below w4.heap.size w4 w') := by
      have := rsame_ok T.count T (Nat.le_refl _) T w4 (fun _ => True) _ _ _ _ (hr4.mono (fun _ _ _ => trivial)) (HRYd.out.under hb4)
      rw [sameB_refl] at this
      exact this
    clear hb4 hr4
    go_simp
    refine hK.out _ _ (fun _ => HS4.out) ?_
    clear hK K
    refine wpL_one 3 rfl (by kernel_rfl) (by rfl) (fun K hK => ?_)
    go_simp
    refine HSM.out.mono ?_
    rintro e w5 ⟨rfl, hb5⟩
    have HB5 : Hid (Below w.heap.size w w5) := HB4.out.trans (hb5.mono HB4.out.size)
    have HS5 : Hid (So Z Y (.cells #[i64 T.kind, i64 T.num, .slice a1 n1 c1, .slice a2 n2 c2] 25) (.cells #[i64 T.kind, i64 T.num, .slice b1 m1 d1, .slice b2 m2 d2] 37) w5) := ⟨blk_below HS4.out.o hb5, blk_below HS4.out.k hb5⟩
    clear hb5
    go_simp
    refine hK.out _ _ (fun _ => HS5.out) ?_
    clear hK K
    have qE : (Er == Er) = true := by simp
    refine wpL_take 4 25 (.bool true) [] rfl rfl (by kernel_rfl) (by decide) (by kernel_rfl) (by kernel_rfl) (by kernel_rfl) (fun _ _ _ h => h) HS5.out (by rfl) (fun W hW => by go_simp) ?_
    simp only [Act.put, List.setIfInBounds_toArray, List.set_cons_zero, List.set_cons_succ]
    refine wpL_take 5 26 (i64 Er) [] rfl rfl (by kernel_rfl) (by decide) (by kernel_rfl) (by kernel_rfl) (by kernel_rfl) (fun _ _ _ h => h) HS5.out (by rfl) (fun W hW => by go_simp) ?_
    simp only [Act.put, List.setIfInBounds_toArray, List.set_cons_zero, List.set_cons_succ]
    refine wpL_take 6 27 (i64 Er) [] rfl rfl (by kernel_rfl) (by decide) (by kernel_rfl) (by kernel_rfl) (by kernel_rfl) (fun _ _ _ h => h) HS5.out (by rfl) (fun W hW => by go_simp) ?_
    simp only [Act.put, List.setIfInBounds_toArray, List.set_cons_zero, List.set_cons_succ]
    refine wpL_take 7 28 (.bool true) [] rfl rfl (by kernel_rfl) (by decide) (by kernel_rfl) (by kernel_rfl) (by kernel_rfl) (fun _ _ _ h => h) HS5.out (by rfl) (fun W hW => by go_simp) ?_
    simp only [Act.put, List.setIfInBounds_toArray, List.set_cons_zero, List.set_cons_succ]
    refine wpL_take 8 29 (.bool true) [] rfl rfl (by kernel_rfl) (by decide) (by kernel_rfl) (by kernel_rfl) (by kernel_rfl) (fun _ _ _ h => h) HS5.out (by rfl) (fun W hW => by go_simp) ?_
    simp only [Act.put, List.setIfInBounds_toArray, List.set_cons_zero, List.set_cons_succ]
    refine wpL_take 9 30 (.bool true) [] rfl rfl (by kernel_rfl) (by decide) (by kernel_rfl) (by kernel_rfl) (by kernel_rfl) (fun _ _ _ h => h) HS5.out (by rfl) (fun W hW => by go_simp) ?_
    simp only [Act.put, List.setIfInBounds_toArray, List.set_cons_zero, List.set_cons_succ]
    refine wpL_one 10 rfl (by kernel_rfl) (by rfl) (fun K hK => ?_)
    go_simp
    refine (HPID.out w5 HB5.out).mono ?_
    rintro e w6 ⟨rfl, hb6⟩
    have HB6 : Hid (Below w.heap.size w w6) := HB5.out.trans (hb6.mono HB5.out.size)
    have HS6 : Hid (So Z Y (.cells #[i64 T.kind, i64 T.num, .slice a1 n1 c1, .slice a2 n2 c2] 25) (.cells #[i64 T.kind, i64 T.num, .slice b1 m1 d1, .slice b2 m2 d2] 37) w6) := ⟨blk_below HS5.out.o hb6, blk_below HS5.out.k hb6⟩
    clear hb6
    go_simp
    refine hK.out _ _ (fun _ => HS6.out) ?_
    clear hK K
    refine wpL_take 11 32 (.bool true) [] rfl rfl (by kernel_rfl) (by decide) (by kernel_rfl) (by kernel_rfl) (by kernel_rfl) (fun _ _ _ h => h) HS6.out (by rfl) (fun W hW => by go_simp) ?_
    simp only [Act.put, List.setIfInBounds_toArray, List.set_cons_zero, List.set_cons_succ]
    refine wpL_one 12 rfl (by kernel_rfl) (by rfl) (fun K hK => ?_)
    go_simp
    refine hK.out _ _ (fun h => absurd rfl h) ?_
    clear hK K
    refine wpL_done (by kernel_rfl) ?_
    refine NoPanic.normal ?_
    go_wp2_with fail
    go_ret
    exact ⟨rfl, HB6.out⟩
end Go.Proofs.YteecjilknembdaaDoor
