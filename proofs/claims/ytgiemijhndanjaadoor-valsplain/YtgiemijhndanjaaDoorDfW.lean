/- ValsDefault's walk; no statement is proved in this text. -/
import Derived.Test.YtgiemijhndanjaaDoorDfP
import Derived.Test.YtgiemijhndanjaaDoorFv
import Derived.Test.YtgiemijhndanjaaDoorMu
import Derived.Test.YtgiemijhndanjaaDoorRck
namespace Go.Proofs.YtgiemijhndanjaaDoor
open Go.ChangeShapes Go.WideShapes Go.ChangeAt Go.RowKit Go.Deep
attribute [local go_sem ↓] Go.wp_at_zero Go.wp_at_succ

structure So3 (Z Y Q : Nat) (a b c : Obj) (W : World) : Prop where
  z : W.heap[Z]? = some a
  y : W.heap[Y]? = some b
  q : W.heap[Q]? = some c
theorem So3.under {Z Y Q : Nat} {a b c : Obj} {W W' : World} (h : So3 Z Y Q a b c W) (hb : Below W.heap.size W W') : So3 Z Y Q a b c W' := ⟨blk_below h.z hb, blk_below h.y hb, blk_below h.q hb⟩
theorem dflt_cnt : ∀ (M : Nat) (T : Ty), T.count ≤ M → T.dflt.size ≤ T.count
  | 0, T, h => by have := count_pos T; omega
  | M + 1, .mk k n names l, h => by
    have hl : ∀ l' : List Ty, countL l' ≤ M → sizeL (dfltL l') ≤ countL l' := by
      intro l'
      induction l' with
      | nil => intro _; exact Nat.le_refl _
      | cons x r ih =>
        intro hx
        simp only [countL] at hx
        have h1 := dflt_cnt M x (by omega)
        have h2 := ih (by omega)
        simp only [dfltL, sizeL, countL]
        omega
    simp only [Ty.count] at h
    simp only [Ty.dflt, Vl.size, Ty.count]
    split
    · have := hl l (by omega); omega
    · simp only [sizeL]; omega
set_option maxRecDepth 100000 in
set_option maxHeartbeats 12800000 in
theorem default_walk (w : World) (hE : Env w) (V : Vl) (kv : Value) (hV : Vd w (fun _ => True) V kv) (T : Ty) (nv tv : Value) (hR : Rd w (fun _ => True) T nv tv) : Calls Tryd.prog 6 #[vlV V kv, tyV T.kind T.num nv tv] w fun e w' => e = .returned (.bool true) ∧ Below w.heap.size w w' := by
  have HFV : Hid (∀ W, Below w.heap.size w W → Calls Tryd.prog 10 #[] W fun e w' => e = .returned (.bool true) ∧ Below W.heap.size W w') := fun W hW => five_ok W (hE.below hW)
  have HVd := hid hV
  have HRd := hid hR
  obtain ⟨ak, ck, rfl⟩ := hV.form
  obtain ⟨an, cn, rfl, at_, ct, rfl⟩ := hR.form
  have HX : Hid (((w.alloc (.cells #[i64 V.kind, i64 V.num, str V.s, .slice ak V.kids.length ck] 24)).alloc (.cells #[i64 T.kind, i64 T.num, .slice an T.names.length cn, .slice at_ T.kids.length ct] 28)).heap[w.heap.size]? = some (.cells #[i64 V.kind, i64 V.num, str V.s, .slice ak V.kids.length ck] 24)) := blk_alloc (heap_last w _) _
  have HY : Hid (((w.alloc (.cells #[i64 V.kind, i64 V.num, str V.s, .slice ak V.kids.length ck] 24)).alloc (.cells #[i64 T.kind, i64 T.num, .slice an T.names.length cn, .slice at_ T.kids.length ct] 28)).heap[w.heap.size + 1]? = some (.cells #[i64 T.kind, i64 T.num, .slice an T.names.length cn, .slice at_ T.kids.length ct] 28)) := heap_at3 _ _ _ (by simp)
  have HBV : Hid (Below w.heap.size w ((w.alloc (.cells #[i64 V.kind, i64 V.num, str V.s, .slice ak V.kids.length ck] 24)).alloc (.cells #[i64 T.kind, i64 T.num, .slice an T.names.length cn, .slice at_ T.kids.length ct] 28))) := (below_one w _).trans ((below_one _ _).mono (by simp))
  clear hV hR hE
  go_enter Tryd.func6, Tryd.ntmps6
  go_upto_region 1 with fail
  generalize (w.alloc (.cells #[i64 V.kind, i64 V.num, str V.s, .slice ak V.kids.length ck] 24)).alloc (.cells #[i64 T.kind, i64 T.num, .slice an T.names.length cn, .slice at_ T.kids.length ct] 28) = V0 at *
  obtain ⟨Z, hZ⟩ : ∃ Z, Z = w.heap.size := ⟨_, rfl⟩
  obtain ⟨Y, hY⟩ : ∃ Y, Y = w.heap.size + 1 := ⟨_, rfl⟩
  rw [← hZ] at HX
  rw [← hY] at HY
  rw [← hY, ← hZ]
  clear hZ hY
  have zc0 : V0.cell? ⟨Z, 0, none⟩ = some (i64 V.kind) := blk_cell HX.out 0
  have zc1 : V0.cell? ⟨Z, 1, none⟩ = some (i64 V.num) := blk_cell HX.out 1
  have zc2 : V0.cell? ⟨Z, 2, none⟩ = some (str V.s) := blk_cell HX.out 2
  have zc3 : V0.cell? ⟨Z, 3, none⟩ = some (.slice ak V.kids.length ck) := blk_cell HX.out 3
  have yc0 : V0.cell? ⟨Y, 0, none⟩ = some (i64 T.kind) := blk_cell HY.out 0
  have yc1 : V0.cell? ⟨Y, 1, none⟩ = some (i64 T.num) := blk_cell HY.out 1
  have yc2 : V0.cell? ⟨Y, 2, none⟩ = some (.slice an T.names.length cn) := blk_cell HY.out 2
  have yc3 : V0.cell? ⟨Y, 3, none⟩ = some (.slice at_ T.kids.length ct) := blk_cell HY.out 3
  have HMU := hid (much_ok V T V0 _ _ _ (HVd.out.under HBV.out) (HRd.out.under HBV.out))
  go_wp2_with fail
  refine HMU.out.mono ?_
  rintro e w1 ⟨b0, rfl, hb1, hf1⟩
  have HB1 : Hid (Below w.heap.size w w1) := HBV.out.trans (hb1.mono HBV.out.size)
  have HX1 : Hid (w1.heap[Z]? = some (.cells #[i64 V.kind, i64 V.num, str V.s, .slice ak V.kids.length ck] 24)) := blk_below HX.out hb1
  have HY1 : Hid (w1.heap[Y]? = some (.cells #[i64 T.kind, i64 T.num, .slice an T.names.length cn, .slice at_ T.kids.length ct] 28)) := blk_below HY.out hb1
  have HF1 := hid hf1
  clear hb1 hf1 HMU zc0 zc1 zc2 zc3 yc0 yc1 yc2 yc3
  cases b0 with
  | true =>
    go_wp2_with fail
    refine (HFV.out w1 HB1.out).mono ?_
    rintro e w9 ⟨rfl, hb9⟩
    have HB9 : Hid (Below w.heap.size w w9) := HB1.out.trans (hb9.mono HB1.out.size)
    clear hb9
    go_wp2_with fail
    go_ret
    exact ⟨rfl, HB9.out⟩
  | false =>
    obtain ⟨hs1, hs2, hs3⟩ := HF1.out rfl
    have HS3 := hid hs3
    have yc0 : w1.cell? ⟨Y, 0, none⟩ = some (i64 T.kind) := blk_cell HY1.out 0
    have yc1 : w1.cell? ⟨Y, 1, none⟩ = some (i64 T.num) := blk_cell HY1.out 1
    have yc2 : w1.cell? ⟨Y, 2, none⟩ = some (.slice an T.names.length cn) := blk_cell HY1.out 2
    have yc3 : w1.cell? ⟨Y, 3, none⟩ = some (.slice at_ T.kids.length ct) := blk_cell HY1.out 3
    have HTY : Hid (Calls Tryd.prog 12 #[tyV T.kind T.num (.slice an T.names.length cn) (.slice at_ T.kids.length ct)] w1 fun e w' => ∃ a n c, e = .returned (tyV T.kind T.num (.slice an T.names.length cn) (.slice a n c)) ∧ Below w1.heap.size w1 w' ∧ Rd w' (fun b => b < w1.heap.size ∨ w1.heap.size ≤ b) T (.slice an T.names.length cn) (.slice a n c)) := ref_ok T.count T (Nat.le_refl _) (by omega) w1.heap.size w1 _ _ (Nat.le_refl _) ((HRd.out.under HB1.out).mono (fun b _ hb => hb))
    go_wp2_with fail
    refine HTY.out.mono ?_
    rintro e w2 ⟨a2, n2, c2, rfl, hb2, hr2⟩
    have HB2 : Hid (Below w.heap.size w w2) := HB1.out.trans (hb2.mono HB1.out.size)
    have HX2 : Hid (w2.heap[Z]? = some (.cells #[i64 V.kind, i64 V.num, str V.s, .slice ak V.kids.length ck] 24)) := blk_below HX1.out hb2
    have HY2 : Hid (w2.heap[Y]? = some (.cells #[i64 T.kind, i64 T.num, .slice an T.names.length cn, .slice at_ T.kids.length ct] 28)) := blk_below HY1.out hb2
    have HCK := hid (rcheck_ok T w2 _ _ _ hr2 (by omega) hs3)
    clear hb2 hr2 HTY hs3 yc0 yc1 yc2 yc3
    obtain ⟨Er, hEr⟩ : ∃ Er, Er = T.err := ⟨_, rfl⟩
    rw [← hEr] at HCK
    have HEr := hid hEr
    clear hEr
    go_wp2_with fail
    refine HCK.out.mono ?_
    rintro e w3 ⟨rfl, hb3⟩
    have HB3 : Hid (Below w.heap.size w w3) := HB2.out.trans (hb3.mono HB2.out.size)
    have HX3 : Hid (w3.heap[Z]? = some (.cells #[i64 V.kind, i64 V.num, str V.s, .slice ak V.kids.length ck] 24)) := blk_below HX2.out hb3
    have HY3 : Hid (w3.heap[Y]? = some (.cells #[i64 T.kind, i64 T.num, .slice an T.names.length cn, .slice at_ T.kids.length ct] 28)) := blk_below HY2.out hb3
    clear hb3 HCK
    by_cases hE0 : Er = 0
    · have HT0 : Hid (T.err = 0) := by show _ = _; rw [← HEr.out]; exact hE0
      subst hE0
      have yc0 : w3.cell? ⟨Y, 0, none⟩ = some (i64 T.kind) := blk_cell HY3.out 0
      have yc1 : w3.cell? ⟨Y, 1, none⟩ = some (i64 T.num) := blk_cell HY3.out 1
      have yc2 : w3.cell? ⟨Y, 2, none⟩ = some (.slice an T.names.length cn) := blk_cell HY3.out 2
      have yc3 : w3.cell? ⟨Y, 3, none⟩ = some (.slice at_ T.kids.length ct) := blk_cell HY3.out 3
      have HDF := hid (default_ok T w3 _ _ _ (HRd.out.under HB3.out) HT0.out (by omega))
      have HDs : Hid (firstF T.dflt T = [] ∧ (firstF V T = [] → T.dflt.size ≤ V.size) ∧ T.dflt.size ≤ 400) := by
        show _ ∧ _
        have hf := err_formed HT0.out
        refine ⟨dflt_first _ T (Nat.le_refl _) hf, dflt_le _ T (Nat.le_refl _) hf V, ?_⟩
        have := dflt_cnt _ T (Nat.le_refl _)
        omega
      obtain ⟨D, hD⟩ : ∃ D, D = T.dflt := ⟨_, rfl⟩
      rw [← hD] at HDF HDs
      clear hD
      go_wp2_with fail
      refine HDF.out.mono ?_
      rintro e w4 ⟨a9, c9, rfl, hb4, hr4⟩
      have HB4 : Hid (Below w.heap.size w w4) := HB3.out.trans (hb4.mono HB3.out.size)
      have HX4 : Hid (w4.heap[Z]? = some (.cells #[i64 V.kind, i64 V.num, str V.s, .slice ak V.kids.length ck] 24)) := blk_below HX3.out hb4
      have HY4 : Hid (w4.heap[Y]? = some (.cells #[i64 T.kind, i64 T.num, .slice an T.names.length cn, .slice at_ T.kids.length ct] 28)) := blk_below HY3.out hb4
      have HB5 : Hid (Below w.heap.size w (w4.alloc (.cells #[i64 D.kind, i64 D.num, str D.s, .slice a9 D.kids.length c9] 24))) := HB4.out.trans ((below_one w4 _).mono HB4.out.size)
      have HX5 : Hid ((w4.alloc (.cells #[i64 D.kind, i64 D.num, str D.s, .slice a9 D.kids.length c9] 24)).heap[Z]? = some (.cells #[i64 V.kind, i64 V.num, str V.s, .slice ak V.kids.length ck] 24)) := blk_alloc HX4.out _
      have HY5 : Hid ((w4.alloc (.cells #[i64 D.kind, i64 D.num, str D.s, .slice a9 D.kids.length c9] 24)).heap[Y]? = some (.cells #[i64 T.kind, i64 T.num, .slice an T.names.length cn, .slice at_ T.kids.length ct] 28)) := blk_alloc HY4.out _
      have HQ5 : Hid ((w4.alloc (.cells #[i64 D.kind, i64 D.num, str D.s, .slice a9 D.kids.length c9] 24)).heap[w4.heap.size]? = some (.cells #[i64 D.kind, i64 D.num, str D.s, .slice a9 D.kids.length c9] 24)) := heap_last w4 _
      have HD5 : Hid (Vd (w4.alloc (.cells #[i64 D.kind, i64 D.num, str D.s, .slice a9 D.kids.length c9] 24)) (fun _ => True) D (.slice a9 D.kids.length c9)) := (hr4.under (below_one w4 _)).mono (fun _ _ _ => trivial)
      clear hb4 hr4 HDF yc0 yc1 yc2 yc3
      go_upto_region 4 with fail
      obtain ⟨Q, hQ⟩ : ∃ Q, Q = w4.heap.size := ⟨_, rfl⟩
      rw [← hQ] at HQ5 ⊢
      clear hQ
      generalize w4.alloc (.cells #[i64 D.kind, i64 D.num, str D.s, .slice a9 D.kids.length c9] 24) = X at *
      have HSd : Hid (So3 Z Y Q (.cells #[i64 V.kind, i64 V.num, str V.s, .slice ak V.kids.length ck] 24) (.cells #[i64 T.kind, i64 T.num, .slice an T.names.length cn, .slice at_ T.kids.length ct] 28) (.cells #[i64 D.kind, i64 D.num, str D.s, .slice a9 D.kids.length c9] 24) X.drew) := ⟨HX5.out, HY5.out, HQ5.out⟩
      have HBd : Hid (Below w.heap.size w X.drew) := below_drewN HB5.out 1
      have HDd : Hid (∀ W, Below X.drew.heap.size X.drew W → Vd W (fun _ => True) D (.slice a9 D.kids.length c9)) := fun W hW => (HD5.out.under (below_drewN (Below.refl _ X) 1)).under hW
      have HFD : Hid (Calls Tryd.prog 14 #[.agg #[i64 D.kind, i64 D.num, str D.s, .slice a9 D.kids.length c9], .agg #[i64 T.kind, i64 T.num, .slice an T.names.length cn, .slice at_ T.kids.length ct]] X.drew fun e w' => e = .returned (.bool true) ∧ Below X.drew.heap.size X.drew w') := by
        have := fits_ok D T X.drew _ _ _ _ _ (HDd.out X.drew (Below.refl _ _)) (HRd.out.under HBd.out) (by have := HDs.out.2.2; omega)
        have e : fitsB D T = true := by unfold fitsB; rw [decide_eq_true HT0.out, HDs.out.1]; rfl
        rw [e] at this
        exact this
      have HFW : Hid (∀ W, Below w.heap.size w W → Calls Tryd.prog 14 #[.agg #[i64 V.kind, i64 V.num, str V.s, .slice ak V.kids.length ck], .agg #[i64 T.kind, i64 T.num, .slice an T.names.length cn, .slice at_ T.kids.length ct]] W fun e w' => e = .returned (.bool (fitsB V T)) ∧ Below W.heap.size W w') := fun W hW => fits_ok V T W _ _ _ _ _ (HVd.out.under hW) (HRd.out.under hW) (by omega)
      have HSV : Hid (∀ W, Below w.heap.size w W → Calls Tryd.prog 23 #[.agg #[i64 V.kind, i64 V.num, str V.s, .slice ak V.kids.length ck]] W fun e w' => e = .returned (i64 V.size) ∧ Below W.heap.size W w') := fun W hW => size_ok V W _ _ (HVd.out.under hW) (by omega)
      have HSD : Hid (∀ W, Below X.drew.heap.size X.drew W → Calls Tryd.prog 23 #[.agg #[i64 D.kind, i64 D.num, str D.s, .slice a9 D.kids.length c9]] W fun e w' => e = .returned (i64 D.size) ∧ Below W.heap.size W w') := fun W hW => size_ok D W _ _ (HDd.out W hW) (by have := HDs.out.2.2; omega)
      have HLE : Hid (fitsB V T = true → D.size ≤ V.size) := fun h => HDs.out.2.1 (fits_first h).2
      obtain ⟨FB, hFB⟩ : ∃ FB, FB = fitsB V T := ⟨_, rfl⟩
      rw [← hFB] at HFW HLE
      clear hFB
      refine wp_region_noPanic ?_
      refine wp_region_last (So3 Z Y Q (.cells #[i64 V.kind, i64 V.num, str V.s, .slice ak V.kids.length ck] 24) (.cells #[i64 T.kind, i64 T.num, .slice an T.names.length cn, .slice at_ T.kids.length ct] 28) (.cells #[i64 D.kind, i64 D.num, str D.s, .slice a9 D.kids.length c9] 24)) 23 (by kernel_rfl) ?_
      refine wpL_take 0 22 (i64 0) [] rfl rfl (by kernel_rfl) (by decide) (by kernel_rfl) (by kernel_rfl) (by kernel_rfl) (fun _ _ _ h => h) HSd.out (by rfl) (fun W hW => by go_simp) ?_
      simp only [Act.put, List.setIfInBounds_toArray, List.set_cons_zero, List.set_cons_succ]
      refine wpL_take 1 23 (.bool true) [] rfl rfl (by kernel_rfl) (by decide) (by kernel_rfl) (by kernel_rfl) (by kernel_rfl) (fun _ _ _ h => h) HSd.out (by rfl) (fun W hW => by go_simp) ?_
      simp only [Act.put, List.setIfInBounds_toArray, List.set_cons_zero, List.set_cons_succ]
      refine wpL_take 2 24 (.bool true) [] rfl rfl (by kernel_rfl) (by decide) (by kernel_rfl) (by kernel_rfl) (by kernel_rfl) (fun _ _ _ h => h) HSd.out (by rfl) (fun W hW => by go_simp) ?_
      simp only [Act.put, List.setIfInBounds_toArray, List.set_cons_zero, List.set_cons_succ]
      refine wpL_take 3 25 (.agg #[i64 D.kind, i64 D.num, str D.s, .slice a9 D.kids.length c9]) [] rfl rfl (by kernel_rfl) (by decide) (by kernel_rfl) (by kernel_rfl) (by kernel_rfl) (fun _ _ _ h => h) HSd.out (by rfl) (fun W hW => by have e0 : W.cell? ⟨Q, 0, none⟩ = some (i64 D.kind) := blk_cell hW.q 0; have e1 : W.cell? ⟨Q, 1, none⟩ = some (i64 D.num) := blk_cell hW.q 1; have e2 : W.cell? ⟨Q, 2, none⟩ = some (str D.s) := blk_cell hW.q 2; have e3 : W.cell? ⟨Q, 3, none⟩ = some (.slice a9 D.kids.length c9) := blk_cell hW.q 3; go_simp) ?_
      simp only [Act.put, List.setIfInBounds_toArray, List.set_cons_zero, List.set_cons_succ]
      refine wpL_take 4 26 (.agg #[i64 T.kind, i64 T.num, .slice an T.names.length cn, .slice at_ T.kids.length ct]) [] rfl rfl (by kernel_rfl) (by decide) (by kernel_rfl) (by kernel_rfl) (by kernel_rfl) (fun _ _ _ h => h) HSd.out (by rfl) (fun W hW => by have e0 : W.cell? ⟨Y, 0, none⟩ = some (i64 T.kind) := blk_cell hW.y 0; have e1 : W.cell? ⟨Y, 1, none⟩ = some (i64 T.num) := blk_cell hW.y 1; have e2 : W.cell? ⟨Y, 2, none⟩ = some (.slice an T.names.length cn) := blk_cell hW.y 2; have e3 : W.cell? ⟨Y, 3, none⟩ = some (.slice at_ T.kids.length ct) := blk_cell hW.y 3; go_simp) ?_
      simp only [Act.put, List.setIfInBounds_toArray, List.set_cons_zero, List.set_cons_succ]
      refine wpL_one 5 rfl (by kernel_rfl) (by rfl) (fun K hK => ?_)
      go_simp
      refine HFD.out.mono ?_
      rintro e wa ⟨rfl, hb⟩
      have HBa : Hid (Below w.heap.size w wa) := HBd.out.trans (hb.mono HBd.out.size)
      have HSa := hid (HSd.out.under hb)
      have HCa := hid hb
      clear hb
      go_simp
      refine hK.out _ _ (fun _ => HSa.out) ?_
      clear hK K
      refine wpL_take 6 28 (.bool true) [] rfl rfl (by kernel_rfl) (by decide) (by kernel_rfl) (by kernel_rfl) (by kernel_rfl) (fun _ _ _ h => h) HSa.out (by rfl) (fun W hW => by go_simp) ?_
      simp only [Act.put, List.setIfInBounds_toArray, List.set_cons_zero, List.set_cons_succ]
      refine wpL_take 7 29 (.bool true) [] rfl rfl (by kernel_rfl) (by decide) (by kernel_rfl) (by kernel_rfl) (by kernel_rfl) (fun _ _ _ h => h) HSa.out (by rfl) (fun W hW => by go_simp) ?_
      simp only [Act.put, List.setIfInBounds_toArray, List.set_cons_zero, List.set_cons_succ]
      refine wpL_take 8 30 (.agg #[i64 V.kind, i64 V.num, str V.s, .slice ak V.kids.length ck]) [] rfl rfl (by kernel_rfl) (by decide) (by kernel_rfl) (by kernel_rfl) (by kernel_rfl) (fun _ _ _ h => h) HSa.out (by rfl) (fun W hW => by have e0 : W.cell? ⟨Z, 0, none⟩ = some (i64 V.kind) := blk_cell hW.z 0; have e1 : W.cell? ⟨Z, 1, none⟩ = some (i64 V.num) := blk_cell hW.z 1; have e2 : W.cell? ⟨Z, 2, none⟩ = some (str V.s) := blk_cell hW.z 2; have e3 : W.cell? ⟨Z, 3, none⟩ = some (.slice ak V.kids.length ck) := blk_cell hW.z 3; go_simp) ?_
      simp only [Act.put, List.setIfInBounds_toArray, List.set_cons_zero, List.set_cons_succ]
      refine wpL_take 9 31 (.agg #[i64 T.kind, i64 T.num, .slice an T.names.length cn, .slice at_ T.kids.length ct]) [] rfl rfl (by kernel_rfl) (by decide) (by kernel_rfl) (by kernel_rfl) (by kernel_rfl) (fun _ _ _ h => h) HSa.out (by rfl) (fun W hW => by have e0 : W.cell? ⟨Y, 0, none⟩ = some (i64 T.kind) := blk_cell hW.y 0; have e1 : W.cell? ⟨Y, 1, none⟩ = some (i64 T.num) := blk_cell hW.y 1; have e2 : W.cell? ⟨Y, 2, none⟩ = some (.slice an T.names.length cn) := blk_cell hW.y 2; have e3 : W.cell? ⟨Y, 3, none⟩ = some (.slice at_ T.kids.length ct) := blk_cell hW.y 3; go_simp) ?_
      simp only [Act.put, List.setIfInBounds_toArray, List.set_cons_zero, List.set_cons_succ]
      refine wpL_one 10 rfl (by kernel_rfl) (by rfl) (fun K hK => ?_)
      go_simp
      refine (HFW.out wa HBa.out).mono ?_
      rintro e wb ⟨rfl, hb⟩
      have HBb : Hid (Below w.heap.size w wb) := HBa.out.trans (hb.mono HBa.out.size)
      have HSb := hid (HSa.out.under hb)
      have HCb : Hid (Below X.drew.heap.size X.drew wb) := HCa.out.trans (hb.mono HCa.out.size)
      clear hb
      go_simp
      refine hK.out _ _ (fun _ => HSb.out) ?_
      clear hK K
      cases FB with
      | false =>
        refine wpL_take 11 33 (.bool true) [] rfl rfl (by kernel_rfl) (by decide) (by kernel_rfl) (by kernel_rfl) (by kernel_rfl) (fun _ _ _ h => h) HSb.out (by rfl) (fun W hW => by go_simp) ?_
        simp only [Act.put, List.setIfInBounds_toArray, List.set_cons_zero, List.set_cons_succ]
        refine wpL_take 12 34 (.bool true) [] rfl rfl (by kernel_rfl) (by decide) (by kernel_rfl) (by kernel_rfl) (by kernel_rfl) (fun _ _ _ h => h) HSb.out (by rfl) (fun W hW => by go_simp) ?_
        simp only [Act.put, List.setIfInBounds_toArray, List.set_cons_zero, List.set_cons_succ]
        refine wpL_skip 13 35 [] rfl rfl (by kernel_rfl) (by decide) (by kernel_rfl) (by kernel_rfl) (by kernel_rfl) (fun _ _ _ h => h) HSb.out (by rfl) ?_
        simp only [Act.put, List.setIfInBounds_toArray, List.set_cons_zero, List.set_cons_succ]
        refine wpL_skip 14 36 [] rfl rfl (by kernel_rfl) (by decide) (by kernel_rfl) (by kernel_rfl) (by kernel_rfl) (fun _ _ _ h => h) HSb.out (by rfl) ?_
        simp only [Act.put, List.setIfInBounds_toArray, List.set_cons_zero, List.set_cons_succ]
        refine wpL_skip 15 37 [] rfl rfl (by kernel_rfl) (by decide) (by kernel_rfl) (by kernel_rfl) (by kernel_rfl) (fun _ _ _ h => h) HSb.out (by rfl) ?_
        simp only [Act.put, List.setIfInBounds_toArray, List.set_cons_zero, List.set_cons_succ]
        refine wpL_skip 16 38 [] rfl rfl (by kernel_rfl) (by decide) (by kernel_rfl) (by kernel_rfl) (by kernel_rfl) (fun _ _ _ h => h) HSb.out (by rfl) ?_
        simp only [Act.put, List.setIfInBounds_toArray, List.set_cons_zero, List.set_cons_succ]
        refine wpL_skip 17 39 [] rfl rfl (by kernel_rfl) (by decide) (by kernel_rfl) (by kernel_rfl) (by kernel_rfl) (fun _ _ _ h => h) HSb.out (by rfl) ?_
        simp only [Act.put, List.setIfInBounds_toArray, List.set_cons_zero, List.set_cons_succ]
        refine wpL_take 18 40 (.bool true) [] rfl rfl (by kernel_rfl) (by decide) (by kernel_rfl) (by kernel_rfl) (by kernel_rfl) (fun _ _ _ h => h) HSb.out (by rfl) (fun W hW => by go_simp) ?_
        simp only [Act.put, List.setIfInBounds_toArray, List.set_cons_zero, List.set_cons_succ]
        refine wpL_take 19 41 (.bool true) [] rfl rfl (by kernel_rfl) (by decide) (by kernel_rfl) (by kernel_rfl) (by kernel_rfl) (fun _ _ _ h => h) HSb.out (by rfl) (fun W hW => by go_simp) ?_
        simp only [Act.put, List.setIfInBounds_toArray, List.set_cons_zero, List.set_cons_succ]
        refine wpL_take 20 42 (.bool true) [] rfl rfl (by kernel_rfl) (by decide) (by kernel_rfl) (by kernel_rfl) (by kernel_rfl) (fun _ _ _ h => h) HSb.out (by rfl) (fun W hW => by go_simp) ?_
        simp only [Act.put, List.setIfInBounds_toArray, List.set_cons_zero, List.set_cons_succ]
        refine wpL_one 21 rfl (by kernel_rfl) (by rfl) (fun K hK => ?_)
        go_simp
        refine (HFV.out wb HBb.out).mono ?_
        rintro e wz ⟨rfl, hb⟩
        have HBz : Hid (Below w.heap.size w wz) := HBb.out.trans (hb.mono HBb.out.size)
        have HSz := hid (HSb.out.under hb)
        clear hb
        go_simp
        refine hK.out _ _ (fun _ => HSz.out) ?_
        clear hK K
        refine wpL_take 22 44 (.bool true) [] rfl rfl (by kernel_rfl) (by decide) (by kernel_rfl) (by kernel_rfl) (by kernel_rfl) (fun _ _ _ h => h) HSz.out (by rfl) (fun W hW => by go_simp) ?_
        simp only [Act.put, List.setIfInBounds_toArray, List.set_cons_zero, List.set_cons_succ]
        refine wpL_one 23 rfl (by kernel_rfl) (by rfl) (fun K hK => ?_)
        go_simp
        refine hK.out _ _ (fun h => absurd rfl h) ?_
        clear hK K
        refine wpL_done (by kernel_rfl) ?_
        refine NoPanic.normal ?_
        go_wp2_with fail
        go_ret
        exact ⟨rfl, HBz.out⟩
      | true =>
        refine wpL_take 11 33 (.bool false) [] rfl rfl (by kernel_rfl) (by decide) (by kernel_rfl) (by kernel_rfl) (by kernel_rfl) (fun _ _ _ h => h) HSb.out (by rfl) (fun W hW => by go_simp) ?_
        simp only [Act.put, List.setIfInBounds_toArray, List.set_cons_zero, List.set_cons_succ]
        refine wpL_take 12 34 (.bool false) [] rfl rfl (by kernel_rfl) (by decide) (by kernel_rfl) (by kernel_rfl) (by kernel_rfl) (fun _ _ _ h => h) HSb.out (by rfl) (fun W hW => by go_simp) ?_
        simp only [Act.put, List.setIfInBounds_toArray, List.set_cons_zero, List.set_cons_succ]
        refine wpL_take 13 35 (.agg #[i64 D.kind, i64 D.num, str D.s, .slice a9 D.kids.length c9]) [] rfl rfl (by kernel_rfl) (by decide) (by kernel_rfl) (by kernel_rfl) (by kernel_rfl) (fun _ _ _ h => h) HSb.out (by rfl) (fun W hW => by have e0 : W.cell? ⟨Q, 0, none⟩ = some (i64 D.kind) := blk_cell hW.q 0; have e1 : W.cell? ⟨Q, 1, none⟩ = some (i64 D.num) := blk_cell hW.q 1; have e2 : W.cell? ⟨Q, 2, none⟩ = some (str D.s) := blk_cell hW.q 2; have e3 : W.cell? ⟨Q, 3, none⟩ = some (.slice a9 D.kids.length c9) := blk_cell hW.q 3; go_simp) ?_
        simp only [Act.put, List.setIfInBounds_toArray, List.set_cons_zero, List.set_cons_succ]
        refine wpL_take 15 37 (.agg #[i64 V.kind, i64 V.num, str V.s, .slice ak V.kids.length ck]) [] rfl rfl (by kernel_rfl) (by decide) (by kernel_rfl) (by kernel_rfl) (by kernel_rfl) (fun _ _ _ h => h) HSb.out (by rfl) (fun W hW => by have e0 : W.cell? ⟨Z, 0, none⟩ = some (i64 V.kind) := blk_cell hW.z 0; have e1 : W.cell? ⟨Z, 1, none⟩ = some (i64 V.num) := blk_cell hW.z 1; have e2 : W.cell? ⟨Z, 2, none⟩ = some (str V.s) := blk_cell hW.z 2; have e3 : W.cell? ⟨Z, 3, none⟩ = some (.slice ak V.kids.length ck) := blk_cell hW.z 3; go_simp) ?_
        simp only [Act.put, List.setIfInBounds_toArray, List.set_cons_zero, List.set_cons_succ]
        refine wpL_one 14 rfl (by kernel_rfl) (by rfl) (fun K hK => ?_)
        go_simp
        refine (HSD.out wb HCb.out).mono ?_
        rintro e wc ⟨rfl, hb⟩
        have HBc : Hid (Below w.heap.size w wc) := HBb.out.trans (hb.mono HBb.out.size)
        have HSc := hid (HSb.out.under hb)
        clear hb
        go_simp
        refine hK.out _ _ (fun _ => HSc.out) ?_
        clear hK K
        refine wpL_one 16 rfl (by kernel_rfl) (by rfl) (fun K hK => ?_)
        go_simp
        refine (HSV.out wc HBc.out).mono ?_
        rintro e wd ⟨rfl, hb⟩
        have HBd2 : Hid (Below w.heap.size w wd) := HBc.out.trans (hb.mono HBc.out.size)
        have HSd2 := hid (HSc.out.under hb)
        clear hb
        go_simp
        refine hK.out _ _ (fun _ => HSd2.out) ?_
        clear hK K
        have hle : ((D.size : Nat) : Int) ≤ V.size := by have := HLE.out rfl; omega
        refine wpL_take 17 39 (.bool true) [] rfl rfl (by kernel_rfl) (by decide) (by kernel_rfl) (by kernel_rfl) (by kernel_rfl) (fun _ _ _ h => h) HSd2.out (by rfl) (fun W hW => by go_simp) ?_
        simp only [Act.put, List.setIfInBounds_toArray, List.set_cons_zero, List.set_cons_succ]
        refine wpL_take 18 40 (.bool true) [] rfl rfl (by kernel_rfl) (by decide) (by kernel_rfl) (by kernel_rfl) (by kernel_rfl) (fun _ _ _ h => h) HSd2.out (by rfl) (fun W hW => by go_simp) ?_
        simp only [Act.put, List.setIfInBounds_toArray, List.set_cons_zero, List.set_cons_succ]
        refine wpL_take 19 41 (.bool true) [] rfl rfl (by kernel_rfl) (by decide) (by kernel_rfl) (by kernel_rfl) (by kernel_rfl) (fun _ _ _ h => h) HSd2.out (by rfl) (fun W hW => by go_simp) ?_
        simp only [Act.put, List.setIfInBounds_toArray, List.set_cons_zero, List.set_cons_succ]
        refine wpL_take 20 42 (.bool true) [] rfl rfl (by kernel_rfl) (by decide) (by kernel_rfl) (by kernel_rfl) (by kernel_rfl) (fun _ _ _ h => h) HSd2.out (by rfl) (fun W hW => by go_simp) ?_
        simp only [Act.put, List.setIfInBounds_toArray, List.set_cons_zero, List.set_cons_succ]
        refine wpL_one 21 rfl (by kernel_rfl) (by rfl) (fun K hK => ?_)
        go_simp
        refine (HFV.out wd HBd2.out).mono ?_
        rintro e wz ⟨rfl, hb⟩
        have HBz : Hid (Below w.heap.size w wz) := HBd2.out.trans (hb.mono HBd2.out.size)
        have HSz := hid (HSd2.out.under hb)
        clear hb
        go_simp
        refine hK.out _ _ (fun _ => HSz.out) ?_
        clear hK K
        refine wpL_take 22 44 (.bool true) [] rfl rfl (by kernel_rfl) (by decide) (by kernel_rfl) (by kernel_rfl) (by kernel_rfl) (fun _ _ _ h => h) HSz.out (by rfl) (fun W hW => by go_simp) ?_
        simp only [Act.put, List.setIfInBounds_toArray, List.set_cons_zero, List.set_cons_succ]
        refine wpL_one 23 rfl (by kernel_rfl) (by rfl) (fun K hK => ?_)
        go_simp
        refine hK.out _ _ (fun h => absurd rfl h) ?_
        clear hK K
        refine wpL_done (by kernel_rfl) ?_
        refine NoPanic.normal ?_
        go_wp2_with fail
        go_ret
        exact ⟨rfl, HBz.out⟩
    · have qE : (Er != 0) = true := by simpa using hE0
      have HE0 := hid hE0
      clear hE0
      go_wp2_with fail
      refine (HFV.out w3 HB3.out).mono ?_
      rintro e w9 ⟨rfl, hb9⟩
      have HB9 : Hid (Below w.heap.size w w9) := HB3.out.trans (hb9.mono HB3.out.size)
      clear hb9
      go_wp2_with fail
      go_ret
      exact ⟨rfl, HB9.out⟩
end Go.Proofs.YtgiemijhndanjaaDoor
