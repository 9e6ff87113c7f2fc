/- ValsFits' walk; no statement is proved in this text. -/
import Derived.Test.YtgiemijhndanjaaDoorRmi
import Derived.Test.YtgiemijhndanjaaDoorFv
import Derived.Test.YtgiemijhndanjaaDoorMu
import Derived.Test.YtgiemijhndanjaaDoorRck
import Derived.Test.YtgiemijhndanjaaDoorVa
import Derived.Test.YtgiemijhndanjaaDoorMsW
namespace Go.Proofs.YtgiemijhndanjaaDoor
open Go.ChangeShapes Go.WideShapes Go.ChangeAt Go.RowKit Go.Deep
attribute [local go_sem ↓] Go.wp_at_zero Go.wp_at_succ

structure So5 (Z Y Q J : Nat) (a b c d : Obj) (W : World) : Prop where
  z : W.heap[Z]? = some a
  y : W.heap[Y]? = some b
  q : W.heap[Q]? = some c
  j : W.heap[J]? = some d
theorem So5.under {Z Y Q J : Nat} {a b c d : Obj} {W W' : World} (h : So5 Z Y Q J a b c d W) (hb : Below W.heap.size W W') : So5 Z Y Q J a b c d W' := ⟨blk_below h.z hb, blk_below h.y hb, blk_below h.q hb, blk_below h.j hb⟩
theorem misD_first (V : Vl) (T : Ty) : misD V T 0 = firstF V T := by
  unfold misD
  cases h : firstF V T with
  | nil => rfl
  | cons x r =>
    rw [first_head h]
    rfl
set_option maxRecDepth 100000 in
set_option maxHeartbeats 12800000 in
theorem fits_walk (w : World) (hE : Env w) (V : Vl) (kv : Value) (hV : Vd w (fun _ => True) V kv) (T : Ty) (nv tv : Value) (hR : Rd w (fun _ => True) T nv tv) : Calls Tryd.prog 3 #[vlV V kv, tyV T.kind T.num nv tv] w fun e w' => e = .returned (.bool true) ∧ Below w.heap.size w w' := by
  have HFV : Hid (∀ W, Below w.heap.size w W → Calls Tryd.prog 10 #[] W fun e w' => e = .returned (.bool true) ∧ Below W.heap.size W w') := fun W hW => five_ok W (hE.below hW)
  have HVd := hid hV
  have HRd := hid hR
  obtain ⟨ak, ck, rfl⟩ := hV.form
  obtain ⟨an, cn, rfl, at_, ct, rfl⟩ := hR.form
  have HX : Hid (((w.alloc (.cells #[i64 V.kind, i64 V.num, str V.s, .slice ak V.kids.length ck] 24)).alloc (.cells #[i64 T.kind, i64 T.num, .slice an T.names.length cn, .slice at_ T.kids.length ct] 28)).heap[w.heap.size]? = some (.cells #[i64 V.kind, i64 V.num, str V.s, .slice ak V.kids.length ck] 24)) := blk_alloc (heap_last w _) _
  have HY : Hid (((w.alloc (.cells #[i64 V.kind, i64 V.num, str V.s, .slice ak V.kids.length ck] 24)).alloc (.cells #[i64 T.kind, i64 T.num, .slice an T.names.length cn, .slice at_ T.kids.length ct] 28)).heap[w.heap.size + 1]? = some (.cells #[i64 T.kind, i64 T.num, .slice an T.names.length cn, .slice at_ T.kids.length ct] 28)) := heap_at3 _ _ _ (by simp)
  have HBV : Hid (Below w.heap.size w ((w.alloc (.cells #[i64 V.kind, i64 V.num, str V.s, .slice ak V.kids.length ck] 24)).alloc (.cells #[i64 T.kind, i64 T.num, .slice an T.names.length cn, .slice at_ T.kids.length ct] 28))) := (below_one w _).trans ((below_one _ _).mono (by simp))
  clear hV hR hE
  go_enter Tryd.func3, Tryd.ntmps3
  go_upto_region 1 with fail
  generalize (w.alloc (.cells #[i64 V.kind, i64 V.num, str V.s, .slice ak V.kids.length ck] 24)).alloc (.cells #[i64 T.kind, i64 T.num, .slice an T.names.length cn, .slice at_ T.kids.length ct] 28) = V0 at *
  obtain ⟨Z, hZ⟩ : ∃ Z, Z = w.heap.size := ⟨_, rfl⟩
  obtain ⟨Y, hY⟩ : ∃ Y, Y = w.heap.size + 1 := ⟨_, rfl⟩
  rw [← hZ] at HX
  rw [← hY] at HY
  rw [← hY, ← hZ]
  clear hZ hY
  have zc0 : V0.cell? ⟨Z, 0, none⟩ = some (i64 V.kind) := blk_cell HX.out 0
  have zc1 : V0.cell? ⟨Z, 1, none⟩ = some (i64 V.num) := blk_cell HX.out 1
  have zc2 : V0.cell? ⟨Z, 2, none⟩ = some (str V.s) := blk_cell HX.out 2
  have zc3 : V0.cell? ⟨Z, 3, none⟩ = some (.slice ak V.kids.length ck) := blk_cell HX.out 3
  have yc0 : V0.cell? ⟨Y, 0, none⟩ = some (i64 T.kind) := blk_cell HY.out 0
  have yc1 : V0.cell? ⟨Y, 1, none⟩ = some (i64 T.num) := blk_cell HY.out 1
  have yc2 : V0.cell? ⟨Y, 2, none⟩ = some (.slice an T.names.length cn) := blk_cell HY.out 2
  have yc3 : V0.cell? ⟨Y, 3, none⟩ = some (.slice at_ T.kids.length ct) := blk_cell HY.out 3
  have HMU := hid (much_ok V T V0 _ _ _ (HVd.out.under HBV.out) (HRd.out.under HBV.out))
  go_wp2_with fail
  refine HMU.out.mono ?_
  rintro e w1 ⟨b0, rfl, hb1, hf1⟩
  have HB1 : Hid (Below w.heap.size w w1) := HBV.out.trans (hb1.mono HBV.out.size)
  have HX1 : Hid (w1.heap[Z]? = some (.cells #[i64 V.kind, i64 V.num, str V.s, .slice ak V.kids.length ck] 24)) := blk_below HX.out hb1
  have HY1 : Hid (w1.heap[Y]? = some (.cells #[i64 T.kind, i64 T.num, .slice an T.names.length cn, .slice at_ T.kids.length ct] 28)) := blk_below HY.out hb1
  have HF1 := hid hf1
  clear hb1 hf1 HMU zc0 zc1 zc2 zc3 yc0 yc1 yc2 yc3
  cases b0 with
  | true =>
    go_wp2_with fail
    refine (HFV.out w1 HB1.out).mono ?_
    rintro e w9 ⟨rfl, hb9⟩
    have HB9 : Hid (Below w.heap.size w w9) := HB1.out.trans (hb9.mono HB1.out.size)
    clear hb9
    go_wp2_with fail
    go_ret
    exact ⟨rfl, HB9.out⟩
  | false =>
    obtain ⟨hs1, hs2, hs3⟩ := HF1.out rfl
    have HS3 := hid hs3
    clear hs3
    have zc0 : w1.cell? ⟨Z, 0, none⟩ = some (i64 V.kind) := blk_cell HX1.out 0
    have zc1 : w1.cell? ⟨Z, 1, none⟩ = some (i64 V.num) := blk_cell HX1.out 1
    have zc2 : w1.cell? ⟨Z, 2, none⟩ = some (str V.s) := blk_cell HX1.out 2
    have zc3 : w1.cell? ⟨Z, 3, none⟩ = some (.slice ak V.kids.length ck) := blk_cell HX1.out 3
    have yc0 : w1.cell? ⟨Y, 0, none⟩ = some (i64 T.kind) := blk_cell HY1.out 0
    have yc1 : w1.cell? ⟨Y, 1, none⟩ = some (i64 T.num) := blk_cell HY1.out 1
    have yc2 : w1.cell? ⟨Y, 2, none⟩ = some (.slice an T.names.length cn) := blk_cell HY1.out 2
    have yc3 : w1.cell? ⟨Y, 3, none⟩ = some (.slice at_ T.kids.length ct) := blk_cell HY1.out 3
    have HVA := hid (val_ok _ V (Nat.le_refl _) (by omega) w1 _ _ (HVd.out.under HB1.out))
    go_wp2_with fail
    refine HVA.out.mono ?_
    rintro e w6 ⟨a9, c9, rfl, hb6, hr6⟩
    have HB6 : Hid (Below w.heap.size w w6) := HB1.out.trans (hb6.mono HB1.out.size)
    have HB7 : Hid (Below w.heap.size w (w6.alloc (.cells #[i64 V.kind, i64 V.num, str V.s, .slice a9 V.kids.length c9] 33))) := HB6.out.trans ((below_one w6 _).mono HB6.out.size)
    have HX7 : Hid ((w6.alloc (.cells #[i64 V.kind, i64 V.num, str V.s, .slice a9 V.kids.length c9] 33)).heap[Z]? = some (.cells #[i64 V.kind, i64 V.num, str V.s, .slice ak V.kids.length ck] 24)) := blk_alloc (blk_below HX1.out hb6) _
    have HY7 : Hid ((w6.alloc (.cells #[i64 V.kind, i64 V.num, str V.s, .slice a9 V.kids.length c9] 33)).heap[Y]? = some (.cells #[i64 T.kind, i64 T.num, .slice an T.names.length cn, .slice at_ T.kids.length ct] 28)) := blk_alloc (blk_below HY1.out hb6) _
    have HQ7 : Hid ((w6.alloc (.cells #[i64 V.kind, i64 V.num, str V.s, .slice a9 V.kids.length c9] 33)).heap[w6.heap.size]? = some (.cells #[i64 V.kind, i64 V.num, str V.s, .slice a9 V.kids.length c9] 33)) := heap_last w6 _
    have HV7 : Hid (Vd (w6.alloc (.cells #[i64 V.kind, i64 V.num, str V.s, .slice a9 V.kids.length c9] 33)) (fun _ => True) V (.slice a9 V.kids.length c9)) := (hr6.mono (S' := fun _ => True) (fun _ _ _ => trivial)).under (below_one w6 _)
    clear hb6 hr6 HVA zc0 zc1 zc2 zc3 yc0 yc1 yc2 yc3
    go_upto_region 4 with fail
    obtain ⟨Q, hQ⟩ : ∃ Q, Q = w6.heap.size := ⟨_, rfl⟩
    rw [← hQ] at HQ7 ⊢
    clear hQ
    generalize w6.alloc (.cells #[i64 V.kind, i64 V.num, str V.s, .slice a9 V.kids.length c9] 33) = X1 at *
    have yc0 : X1.cell? ⟨Y, 0, none⟩ = some (i64 T.kind) := blk_cell HY7.out 0
    have yc1 : X1.cell? ⟨Y, 1, none⟩ = some (i64 T.num) := blk_cell HY7.out 1
    have yc2 : X1.cell? ⟨Y, 2, none⟩ = some (.slice an T.names.length cn) := blk_cell HY7.out 2
    have yc3 : X1.cell? ⟨Y, 3, none⟩ = some (.slice at_ T.kids.length ct) := blk_cell HY7.out 3
    have HTY2 : Hid (Calls Tryd.prog 12 #[tyV T.kind T.num (.slice an T.names.length cn) (.slice at_ T.kids.length ct)] X1 fun e w' => ∃ a n c, e = .returned (tyV T.kind T.num (.slice an T.names.length cn) (.slice a n c)) ∧ Below X1.heap.size X1 w' ∧ Rd w' (fun b => b < X1.heap.size ∨ X1.heap.size ≤ b) T (.slice an T.names.length cn) (.slice a n c)) := ref_ok T.count T (Nat.le_refl _) (by omega) X1.heap.size X1 _ _ (Nat.le_refl _) ((HRd.out.under HB7.out).mono (fun b _ hb => hb))
    go_wp2_with fail
    refine HTY2.out.mono ?_
    rintro e w8 ⟨a2, n2', c2, rfl, hb8, hr8⟩
    obtain ⟨_, _, he1, a2', c2', he2⟩ := hr8.form
    cases he1
    cases he2
    have HB8 : Hid (Below w.heap.size w w8) := HB7.out.trans (hb8.mono HB7.out.size)
    have HB9 : Hid (Below w.heap.size w (w8.alloc (.cells #[i64 T.kind, i64 T.num, .slice an T.names.length cn, .slice a2 T.kids.length c2] 37))) := HB8.out.trans ((below_one w8 _).mono HB8.out.size)
    have HX9 : Hid ((w8.alloc (.cells #[i64 T.kind, i64 T.num, .slice an T.names.length cn, .slice a2 T.kids.length c2] 37)).heap[Z]? = some (.cells #[i64 V.kind, i64 V.num, str V.s, .slice ak V.kids.length ck] 24)) := blk_alloc (blk_below HX7.out hb8) _
    have HY9 : Hid ((w8.alloc (.cells #[i64 T.kind, i64 T.num, .slice an T.names.length cn, .slice a2 T.kids.length c2] 37)).heap[Y]? = some (.cells #[i64 T.kind, i64 T.num, .slice an T.names.length cn, .slice at_ T.kids.length ct] 28)) := blk_alloc (blk_below HY7.out hb8) _
    have HQ9 : Hid ((w8.alloc (.cells #[i64 T.kind, i64 T.num, .slice an T.names.length cn, .slice a2 T.kids.length c2] 37)).heap[Q]? = some (.cells #[i64 V.kind, i64 V.num, str V.s, .slice a9 V.kids.length c9] 33)) := blk_alloc (blk_below HQ7.out hb8) _
    have HJ9 : Hid ((w8.alloc (.cells #[i64 T.kind, i64 T.num, .slice an T.names.length cn, .slice a2 T.kids.length c2] 37)).heap[w8.heap.size]? = some (.cells #[i64 T.kind, i64 T.num, .slice an T.names.length cn, .slice a2 T.kids.length c2] 37)) := heap_last w8 _
    have HR9 : Hid (Rd (w8.alloc (.cells #[i64 T.kind, i64 T.num, .slice an T.names.length cn, .slice a2 T.kids.length c2] 37)) (fun _ => True) T (.slice an T.names.length cn) (.slice a2 T.kids.length c2)) := (hr8.mono (S' := fun _ => True) (fun _ _ _ => trivial)).under (below_one w8 _)
    have HV9 : Hid (Vd (w8.alloc (.cells #[i64 T.kind, i64 T.num, .slice an T.names.length cn, .slice a2 T.kids.length c2] 37)) (fun _ => True) V (.slice a9 V.kids.length c9)) := (HV7.out.under hb8).under (below_one w8 _)
    clear hb8 hr8 HTY2 yc0 yc1 yc2 yc3
    go_upto_region 5 with fail
    obtain ⟨J, hJ⟩ : ∃ J, J = w8.heap.size := ⟨_, rfl⟩
    rw [← hJ] at HJ9 ⊢
    clear hJ
    generalize w8.alloc (.cells #[i64 T.kind, i64 T.num, .slice an T.names.length cn, .slice a2 T.kids.length c2] 37) = X0 at *
    have yc0 : X0.cell? ⟨J, 0, none⟩ = some (i64 T.kind) := blk_cell HJ9.out 0
    have yc1 : X0.cell? ⟨J, 1, none⟩ = some (i64 T.num) := blk_cell HJ9.out 1
    have yc2 : X0.cell? ⟨J, 2, none⟩ = some (.slice an T.names.length cn) := blk_cell HJ9.out 2
    have yc3 : X0.cell? ⟨J, 3, none⟩ = some (.slice a2 T.kids.length c2) := blk_cell HJ9.out 3
    have HCK := hid (rcheck_ok T X0 _ _ _ HR9.out (by omega) HS3.out)
    obtain ⟨Er, hEr⟩ : ∃ Er, Er = T.err := ⟨_, rfl⟩
    rw [← hEr] at HCK
    have HEr := hid hEr
    clear hEr
    go_wp2_with fail
    refine HCK.out.mono ?_
    rintro e X ⟨rfl, hb⟩
    have HBX : Hid (Below w.heap.size w X) := HB9.out.trans (hb.mono HB9.out.size)
    have HXX : Hid (X.heap[Z]? = some (.cells #[i64 V.kind, i64 V.num, str V.s, .slice ak V.kids.length ck] 24)) := blk_below HX9.out hb
    have HYX : Hid (X.heap[Y]? = some (.cells #[i64 T.kind, i64 T.num, .slice an T.names.length cn, .slice at_ T.kids.length ct] 28)) := blk_below HY9.out hb
    have HQX : Hid (X.heap[Q]? = some (.cells #[i64 V.kind, i64 V.num, str V.s, .slice a9 V.kids.length c9] 33)) := blk_below HQ9.out hb
    have HJX : Hid (X.heap[J]? = some (.cells #[i64 T.kind, i64 T.num, .slice an T.names.length cn, .slice a2 T.kids.length c2] 37)) := blk_below HJ9.out hb
    have HRX := hid (HR9.out.under hb)
    have HVX := hid (HV9.out.under hb)
    clear hb HCK yc0 yc1 yc2 yc3
    have HFW0 : Hid (∀ W, Below w.heap.size w W → Calls Tryd.prog 14 #[.agg #[i64 V.kind, i64 V.num, str V.s, .slice ak V.kids.length ck], .agg #[i64 T.kind, i64 T.num, .slice an T.names.length cn, .slice at_ T.kids.length ct]] W fun e w' => e = .returned (.bool (fitsB V T)) ∧ Below W.heap.size W w') := fun W hW => fits_ok V T W _ _ _ _ _ (HVd.out.under hW) (HRd.out.under hW) (by omega)
    have HMW0 : Hid (∀ W, Below w.heap.size w W → Calls Tryd.prog 15 #[.agg #[i64 V.kind, i64 V.num, str V.s, .slice ak V.kids.length ck], .agg #[i64 T.kind, i64 T.num, .slice an T.names.length cn, .slice at_ T.kids.length ct]] W (FirstOk W (misF V T))) := fun W hW => misfit_ok V T W _ _ _ _ _ (HVd.out.under hW) (HRd.out.under hW) (by omega)
    by_cases hE0 : Er = 0
    · have HT0 : Hid (T.err = 0) := by show _ = _; rw [← HEr.out]; exact hE0
      subst hE0
      have e1 : fitsB V T = decide ((firstF V T).length = 0) := by unfold fitsB; rw [decide_eq_true HT0.out]; rfl
      have e2 : misF V T = firstF V T := by unfold misF; rw [if_pos HT0.out]
      obtain ⟨FB, hFB⟩ : ∃ FB, FB = decide ((firstF V T).length = 0) := ⟨_, rfl⟩
      have HFW : Hid (∀ W, Below w.heap.size w W → Calls Tryd.prog 14 #[.agg #[i64 V.kind, i64 V.num, str V.s, .slice ak V.kids.length ck], .agg #[i64 T.kind, i64 T.num, .slice an T.names.length cn, .slice at_ T.kids.length ct]] W fun e w' => e = .returned (.bool FB) ∧ Below W.heap.size W w') := by rw [hFB, ← e1]; exact HFW0
      have HMW : Hid (∀ W, Below w.heap.size w W → Calls Tryd.prog 15 #[.agg #[i64 V.kind, i64 V.num, str V.s, .slice ak V.kids.length ck], .agg #[i64 T.kind, i64 T.num, .slice an T.names.length cn, .slice at_ T.kids.length ct]] W (FirstOk W (firstF V T))) := by rw [← e2]; exact HMW0
      have HRF : Hid (∀ W, Below X.heap.size X W → Calls Tryd.prog 16 #[.agg #[i64 V.kind, i64 V.num, str V.s, .slice a9 V.kids.length c9], .agg #[i64 T.kind, i64 T.num, .slice an T.names.length cn, .slice a2 T.kids.length c2]] W fun e w' => e = .returned (.bool FB) ∧ Below W.heap.size W w') := by rw [hFB]; exact fun W hW => rfits_ok _ V (Nat.le_refl _) T (err_formed HT0.out) W _ _ _ _ _ (HVX.out.under hW) (HRX.out.under hW)
      have HRM2 : Hid (∀ W, Below X.heap.size X W → Calls Tryd.prog 18 #[.agg #[i64 V.kind, i64 V.num, str V.s, .slice a9 V.kids.length c9], .agg #[i64 T.kind, i64 T.num, .slice an T.names.length cn, .slice a2 T.kids.length c2], i64 0] W (FirstOk W (firstF V T))) := fun W hW => by
        have := rmis_ok _ V (Nat.le_refl _) (by omega) T (err_formed HT0.out) 0 (by omega) W _ _ _ _ _ (HVX.out.under hW) (HRX.out.under hW)
        rw [misD_first] at this
        exact this
      have hLl : (firstF V T).length ≤ 400 := Nat.le_trans (firstF_len _ V (Nat.le_refl _) T) (by omega)
      generalize firstF V T = L at *
      clear hFB e1 e2 HFW0 HMW0
      go_upto_region 7 with fail
      have HSd : Hid (So5 Z Y Q J (.cells #[i64 V.kind, i64 V.num, str V.s, .slice ak V.kids.length ck] 24) (.cells #[i64 T.kind, i64 T.num, .slice an T.names.length cn, .slice at_ T.kids.length ct] 28) (.cells #[i64 V.kind, i64 V.num, str V.s, .slice a9 V.kids.length c9] 33) (.cells #[i64 T.kind, i64 T.num, .slice an T.names.length cn, .slice a2 T.kids.length c2] 37) X.drew) := ⟨HXX.out, HYX.out, HQX.out, HJX.out⟩
      have HBd : Hid (Below w.heap.size w X.drew) := below_drewN HBX.out 1
      have HCd : Hid (Below X.heap.size X X.drew) := below_drewN (Below.refl _ X) 1
      refine wp_region_noPanic ?_
      refine wp_region_last (So5 Z Y Q J (.cells #[i64 V.kind, i64 V.num, str V.s, .slice ak V.kids.length ck] 24) (.cells #[i64 T.kind, i64 T.num, .slice an T.names.length cn, .slice at_ T.kids.length ct] 28) (.cells #[i64 V.kind, i64 V.num, str V.s, .slice a9 V.kids.length c9] 33) (.cells #[i64 T.kind, i64 T.num, .slice an T.names.length cn, .slice a2 T.kids.length c2] 37)) 19 (by kernel_rfl) ?_
      refine wpL_take 0 32 (.agg #[i64 V.kind, i64 V.num, str V.s, .slice ak V.kids.length ck]) [] rfl rfl (by kernel_rfl) (by decide) (by kernel_rfl) (by kernel_rfl) (by kernel_rfl) (fun _ _ _ h => h) HSd.out (by rfl) (fun W hW => by have e0 : W.cell? ⟨Z, 0, none⟩ = some (i64 V.kind) := blk_cell hW.z 0; have e1 : W.cell? ⟨Z, 1, none⟩ = some (i64 V.num) := blk_cell hW.z 1; have e2 : W.cell? ⟨Z, 2, none⟩ = some (str V.s) := blk_cell hW.z 2; have e3 : W.cell? ⟨Z, 3, none⟩ = some (.slice ak V.kids.length ck) := blk_cell hW.z 3; go_simp) ?_
      simp only [Act.put, List.setIfInBounds_toArray, List.set_cons_zero, List.set_cons_succ]
      refine wpL_take 1 33 (.agg #[i64 T.kind, i64 T.num, .slice an T.names.length cn, .slice at_ T.kids.length ct]) [] rfl rfl (by kernel_rfl) (by decide) (by kernel_rfl) (by kernel_rfl) (by kernel_rfl) (fun _ _ _ h => h) HSd.out (by rfl) (fun W hW => by have e0 : W.cell? ⟨Y, 0, none⟩ = some (i64 T.kind) := blk_cell hW.y 0; have e1 : W.cell? ⟨Y, 1, none⟩ = some (i64 T.num) := blk_cell hW.y 1; have e2 : W.cell? ⟨Y, 2, none⟩ = some (.slice an T.names.length cn) := blk_cell hW.y 2; have e3 : W.cell? ⟨Y, 3, none⟩ = some (.slice at_ T.kids.length ct) := blk_cell hW.y 3; go_simp) ?_
      simp only [Act.put, List.setIfInBounds_toArray, List.set_cons_zero, List.set_cons_succ]
      refine wpL_take 3 35 (.agg #[i64 V.kind, i64 V.num, str V.s, .slice a9 V.kids.length c9]) [] rfl rfl (by kernel_rfl) (by decide) (by kernel_rfl) (by kernel_rfl) (by kernel_rfl) (fun _ _ _ h => h) HSd.out (by rfl) (fun W hW => by have e0 : W.cell? ⟨Q, 0, none⟩ = some (i64 V.kind) := blk_cell hW.q 0; have e1 : W.cell? ⟨Q, 1, none⟩ = some (i64 V.num) := blk_cell hW.q 1; have e2 : W.cell? ⟨Q, 2, none⟩ = some (str V.s) := blk_cell hW.q 2; have e3 : W.cell? ⟨Q, 3, none⟩ = some (.slice a9 V.kids.length c9) := blk_cell hW.q 3; go_simp) ?_
      simp only [Act.put, List.setIfInBounds_toArray, List.set_cons_zero, List.set_cons_succ]
      refine wpL_take 4 36 (.agg #[i64 T.kind, i64 T.num, .slice an T.names.length cn, .slice a2 T.kids.length c2]) [] rfl rfl (by kernel_rfl) (by decide) (by kernel_rfl) (by kernel_rfl) (by kernel_rfl) (fun _ _ _ h => h) HSd.out (by rfl) (fun W hW => by have e0 : W.cell? ⟨J, 0, none⟩ = some (i64 T.kind) := blk_cell hW.j 0; have e1 : W.cell? ⟨J, 1, none⟩ = some (i64 T.num) := blk_cell hW.j 1; have e2 : W.cell? ⟨J, 2, none⟩ = some (.slice an T.names.length cn) := blk_cell hW.j 2; have e3 : W.cell? ⟨J, 3, none⟩ = some (.slice a2 T.kids.length c2) := blk_cell hW.j 3; go_simp) ?_
      simp only [Act.put, List.setIfInBounds_toArray, List.set_cons_zero, List.set_cons_succ]
      refine wpL_one 2 rfl (by kernel_rfl) (by rfl) (fun K hK => ?_)
      go_simp
      refine (HFW.out X.drew HBd.out).mono ?_
      rintro e wa ⟨rfl, hb⟩
      have HBa : Hid (Below w.heap.size w wa) := HBd.out.trans (hb.mono HBd.out.size)
      have HSa := hid (HSd.out.under hb)
      have HCa : Hid (Below X.heap.size X wa) := HCd.out.trans (hb.mono HCd.out.size)
      clear hb
      go_simp
      refine hK.out _ _ (fun _ => HSa.out) ?_
      clear hK K
      refine wpL_one 5 rfl (by kernel_rfl) (by rfl) (fun K hK => ?_)
      go_simp
      refine (HRF.out wa HCa.out).mono ?_
      rintro e wb ⟨rfl, hb⟩
      have HBb : Hid (Below w.heap.size w wb) := HBa.out.trans (hb.mono HBa.out.size)
      have HSb := hid (HSa.out.under hb)
      have HCb : Hid (Below X.heap.size X wb) := HCa.out.trans (hb.mono HCa.out.size)
      clear hb
      go_simp
      refine hK.out _ _ (fun _ => HSb.out) ?_
      clear hK K
      have qB : (FB == FB) = true := by simp
      refine wpL_take 6 38 (.bool true) [] rfl rfl (by kernel_rfl) (by decide) (by kernel_rfl) (by kernel_rfl) (by kernel_rfl) (fun _ _ _ h => h) HSb.out (by rfl) (fun W hW => by go_simp) ?_
      simp only [Act.put, List.setIfInBounds_toArray, List.set_cons_zero, List.set_cons_succ]
      refine wpL_take 7 39 (.bool true) [] rfl rfl (by kernel_rfl) (by decide) (by kernel_rfl) (by kernel_rfl) (by kernel_rfl) (fun _ _ _ h => h) HSb.out (by rfl) (fun W hW => by go_simp) ?_
      simp only [Act.put, List.setIfInBounds_toArray, List.set_cons_zero, List.set_cons_succ]
      refine wpL_take 8 40 (.agg #[i64 V.kind, i64 V.num, str V.s, .slice ak V.kids.length ck]) [] rfl rfl (by kernel_rfl) (by decide) (by kernel_rfl) (by kernel_rfl) (by kernel_rfl) (fun _ _ _ h => h) HSb.out (by rfl) (fun W hW => by have e0 : W.cell? ⟨Z, 0, none⟩ = some (i64 V.kind) := blk_cell hW.z 0; have e1 : W.cell? ⟨Z, 1, none⟩ = some (i64 V.num) := blk_cell hW.z 1; have e2 : W.cell? ⟨Z, 2, none⟩ = some (str V.s) := blk_cell hW.z 2; have e3 : W.cell? ⟨Z, 3, none⟩ = some (.slice ak V.kids.length ck) := blk_cell hW.z 3; go_simp) ?_
      simp only [Act.put, List.setIfInBounds_toArray, List.set_cons_zero, List.set_cons_succ]
      refine wpL_take 9 41 (.agg #[i64 T.kind, i64 T.num, .slice an T.names.length cn, .slice at_ T.kids.length ct]) [] rfl rfl (by kernel_rfl) (by decide) (by kernel_rfl) (by kernel_rfl) (by kernel_rfl) (fun _ _ _ h => h) HSb.out (by rfl) (fun W hW => by have e0 : W.cell? ⟨Y, 0, none⟩ = some (i64 T.kind) := blk_cell hW.y 0; have e1 : W.cell? ⟨Y, 1, none⟩ = some (i64 T.num) := blk_cell hW.y 1; have e2 : W.cell? ⟨Y, 2, none⟩ = some (.slice an T.names.length cn) := blk_cell hW.y 2; have e3 : W.cell? ⟨Y, 3, none⟩ = some (.slice at_ T.kids.length ct) := blk_cell hW.y 3; go_simp) ?_
      simp only [Act.put, List.setIfInBounds_toArray, List.set_cons_zero, List.set_cons_succ]
      refine wpL_take 11 43 (.agg #[i64 V.kind, i64 V.num, str V.s, .slice a9 V.kids.length c9]) [] rfl rfl (by kernel_rfl) (by decide) (by kernel_rfl) (by kernel_rfl) (by kernel_rfl) (fun _ _ _ h => h) HSb.out (by rfl) (fun W hW => by have e0 : W.cell? ⟨Q, 0, none⟩ = some (i64 V.kind) := blk_cell hW.q 0; have e1 : W.cell? ⟨Q, 1, none⟩ = some (i64 V.num) := blk_cell hW.q 1; have e2 : W.cell? ⟨Q, 2, none⟩ = some (str V.s) := blk_cell hW.q 2; have e3 : W.cell? ⟨Q, 3, none⟩ = some (.slice a9 V.kids.length c9) := blk_cell hW.q 3; go_simp) ?_
      simp only [Act.put, List.setIfInBounds_toArray, List.set_cons_zero, List.set_cons_succ]
      refine wpL_take 12 44 (.agg #[i64 T.kind, i64 T.num, .slice an T.names.length cn, .slice a2 T.kids.length c2]) [] rfl rfl (by kernel_rfl) (by decide) (by kernel_rfl) (by kernel_rfl) (by kernel_rfl) (fun _ _ _ h => h) HSb.out (by rfl) (fun W hW => by have e0 : W.cell? ⟨J, 0, none⟩ = some (i64 T.kind) := blk_cell hW.j 0; have e1 : W.cell? ⟨J, 1, none⟩ = some (i64 T.num) := blk_cell hW.j 1; have e2 : W.cell? ⟨J, 2, none⟩ = some (.slice an T.names.length cn) := blk_cell hW.j 2; have e3 : W.cell? ⟨J, 3, none⟩ = some (.slice a2 T.kids.length c2) := blk_cell hW.j 3; go_simp) ?_
      simp only [Act.put, List.setIfInBounds_toArray, List.set_cons_zero, List.set_cons_succ]
      refine wpL_one 10 rfl (by kernel_rfl) (by rfl) (fun K hK => ?_)
      go_simp
      refine (HMW.out wb HBb.out).mono ?_
      rintro e wc ⟨ao1, cap1, rfl, hb, hcp, hn⟩
      have HBc : Hid (Below w.heap.size w wc) := HBb.out.trans (hb.mono HBb.out.size)
      have HSc := hid (HSb.out.under hb)
      have HCc : Hid (Below X.heap.size X wc) := HCb.out.trans (hb.mono HCb.out.size)
      have HN1 := hid hn
      have HEc := hid hb
      clear hb hcp hn
      go_simp
      refine hK.out _ _ (fun _ => HSc.out) ?_
      clear hK K
      refine wpL_one 13 rfl (by kernel_rfl) (by rfl) (fun K hK => ?_)
      go_simp
      refine (HRM2.out wc HCc.out).mono ?_
      rintro e we ⟨ao2, cap2, rfl, hb, hcp, hn⟩
      have HBe : Hid (Below w.heap.size w we) := HBc.out.trans (hb.mono HBc.out.size)
      have HSe := hid (HSc.out.under hb)
      have HCe : Hid (Below X.heap.size X we) := HCc.out.trans (hb.mono HCc.out.size)
      have HN2 := hid hn
      have HEe := hid hb
      clear hb hcp hn
      go_simp
      refine hK.out _ _ (fun _ => HSe.out) ?_
      clear hK K
      have HIN : Hid (Calls Tryd.prog 17 #[.slice ao1 L.length cap1, .slice ao2 L.length cap2] we fun e w' => e = .returned (.bool true) ∧ ∃ n, w' = we.drewN n) := by
        have := ints_ok L L we _ _ _ _ (HN1.out.under HEe.out) HN2.out (by omega) (by omega)
        rw [decide_eq_true rfl] at this
        exact this
      refine wpL_one 14 rfl (by kernel_rfl) (by rfl) (fun K hK => ?_)
      go_simp
      refine HIN.out.mono ?_
      rintro e wf ⟨rfl, nd, hwf⟩
      have hb : Below we.heap.size we wf := by rw [hwf]; exact below_drewN (Below.refl _ _) nd
      have HBf : Hid (Below w.heap.size w wf) := HBe.out.trans (hb.mono HBe.out.size)
      have HSf := hid (HSe.out.under hb)
      clear hb hwf
      go_simp
      refine hK.out _ _ (fun _ => HSf.out) ?_
      clear hK K
      refine wpL_take 15 47 (.bool true) [] rfl rfl (by kernel_rfl) (by decide) (by kernel_rfl) (by kernel_rfl) (by kernel_rfl) (fun _ _ _ h => h) HSf.out (by rfl) (fun W hW => by go_simp) ?_
      simp only [Act.put, List.setIfInBounds_toArray, List.set_cons_zero, List.set_cons_succ]
      refine wpL_take 16 48 (.bool true) [] rfl rfl (by kernel_rfl) (by decide) (by kernel_rfl) (by kernel_rfl) (by kernel_rfl) (fun _ _ _ h => h) HSf.out (by rfl) (fun W hW => by go_simp) ?_
      simp only [Act.put, List.setIfInBounds_toArray, List.set_cons_zero, List.set_cons_succ]
      refine wpL_one 17 rfl (by kernel_rfl) (by rfl) (fun K hK => ?_)
      go_simp
      refine (HFV.out wf HBf.out).mono ?_
      rintro e wg ⟨rfl, hb⟩
      have HBg : Hid (Below w.heap.size w wg) := HBf.out.trans (hb.mono HBf.out.size)
      have HSg := hid (HSf.out.under hb)
      clear hb
      go_simp
      refine hK.out _ _ (fun _ => HSg.out) ?_
      clear hK K
      refine wpL_take 18 50 (.bool true) [] rfl rfl (by kernel_rfl) (by decide) (by kernel_rfl) (by kernel_rfl) (by kernel_rfl) (fun _ _ _ h => h) HSg.out (by rfl) (fun W hW => by go_simp) ?_
      simp only [Act.put, List.setIfInBounds_toArray, List.set_cons_zero, List.set_cons_succ]
      refine wpL_one 19 rfl (by kernel_rfl) (by rfl) (fun K hK => ?_)
      go_simp
      refine hK.out _ _ (fun h => absurd rfl h) ?_
      clear hK K
      refine wpL_done (by kernel_rfl) ?_
      refine NoPanic.normal ?_
      go_wp2_with fail
      go_ret
      exact ⟨rfl, HBg.out⟩
    · have qE : (Er != 0) = true := by simpa using hE0
      have HT1 : Hid (¬ T.err = 0) := by show ¬ _; rw [← HEr.out]; exact hE0
      have e1 : fitsB V T = false := by unfold fitsB; rw [decide_eq_false HT1.out]; rfl
      have e2 : misF V T = [] := by unfold misF; rw [if_neg HT1.out]
      have HFW : Hid (Calls Tryd.prog 14 #[.agg #[i64 V.kind, i64 V.num, str V.s, .slice ak V.kids.length ck], .agg #[i64 T.kind, i64 T.num, .slice an T.names.length cn, .slice at_ T.kids.length ct]] X fun e w' => e = .returned (.bool false) ∧ Below X.heap.size X w') := by rw [← e1]; exact HFW0.out X HBX.out
      have HMW : Hid (∀ W, Below w.heap.size w W → Calls Tryd.prog 15 #[.agg #[i64 V.kind, i64 V.num, str V.s, .slice ak V.kids.length ck], .agg #[i64 T.kind, i64 T.num, .slice an T.names.length cn, .slice at_ T.kids.length ct]] W (FirstOk W [])) := by rw [← e2]; exact HMW0
      have HE0 := hid hE0
      clear hE0 e1 e2 HFW0 HMW0
      have zc0 : X.cell? ⟨Z, 0, none⟩ = some (i64 V.kind) := blk_cell HXX.out 0
      have zc1 : X.cell? ⟨Z, 1, none⟩ = some (i64 V.num) := blk_cell HXX.out 1
      have zc2 : X.cell? ⟨Z, 2, none⟩ = some (str V.s) := blk_cell HXX.out 2
      have zc3 : X.cell? ⟨Z, 3, none⟩ = some (.slice ak V.kids.length ck) := blk_cell HXX.out 3
      have yc0 : X.cell? ⟨Y, 0, none⟩ = some (i64 T.kind) := blk_cell HYX.out 0
      have yc1 : X.cell? ⟨Y, 1, none⟩ = some (i64 T.num) := blk_cell HYX.out 1
      have yc2 : X.cell? ⟨Y, 2, none⟩ = some (.slice an T.names.length cn) := blk_cell HYX.out 2
      have yc3 : X.cell? ⟨Y, 3, none⟩ = some (.slice at_ T.kids.length ct) := blk_cell HYX.out 3
      go_wp2_with fail
      refine HFW.out.mono ?_
      rintro e wa ⟨rfl, hb⟩
      have HBa : Hid (Below w.heap.size w wa) := HBX.out.trans (hb.mono HBX.out.size)
      have HXa : Hid (wa.heap[Z]? = some (.cells #[i64 V.kind, i64 V.num, str V.s, .slice ak V.kids.length ck] 24)) := blk_below HXX.out hb
      have HYa : Hid (wa.heap[Y]? = some (.cells #[i64 T.kind, i64 T.num, .slice an T.names.length cn, .slice at_ T.kids.length ct] 28)) := blk_below HYX.out hb
      clear hb HFW zc0 zc1 zc2 zc3 yc0 yc1 yc2 yc3
      have zc0 : wa.cell? ⟨Z, 0, none⟩ = some (i64 V.kind) := blk_cell HXa.out 0
      have zc1 : wa.cell? ⟨Z, 1, none⟩ = some (i64 V.num) := blk_cell HXa.out 1
      have zc2 : wa.cell? ⟨Z, 2, none⟩ = some (str V.s) := blk_cell HXa.out 2
      have zc3 : wa.cell? ⟨Z, 3, none⟩ = some (.slice ak V.kids.length ck) := blk_cell HXa.out 3
      have yc0 : wa.cell? ⟨Y, 0, none⟩ = some (i64 T.kind) := blk_cell HYa.out 0
      have yc1 : wa.cell? ⟨Y, 1, none⟩ = some (i64 T.num) := blk_cell HYa.out 1
      have yc2 : wa.cell? ⟨Y, 2, none⟩ = some (.slice an T.names.length cn) := blk_cell HYa.out 2
      have yc3 : wa.cell? ⟨Y, 3, none⟩ = some (.slice at_ T.kids.length ct) := blk_cell HYa.out 3
      go_wp2_with fail
      refine (HMW.out wa HBa.out).mono ?_
      rintro e wb ⟨ao, cap, rfl, hb, _, _⟩
      have HBb : Hid (Below w.heap.size w wb) := HBa.out.trans (hb.mono HBa.out.size)
      clear hb
      have hl0 : ([] : List Nat).length = 0 := rfl
      rw [hl0]
      go_wp2_with fail
      refine (HFV.out wb HBb.out).mono ?_
      rintro e w9 ⟨rfl, hb9⟩
      have HB9 : Hid (Below w.heap.size w w9) := HBb.out.trans (hb9.mono HBb.out.size)
      clear hb9
      go_wp2_with fail
      go_ret
      exact ⟨rfl, HB9.out⟩
end Go.Proofs.YtgiemijhndanjaaDoor
