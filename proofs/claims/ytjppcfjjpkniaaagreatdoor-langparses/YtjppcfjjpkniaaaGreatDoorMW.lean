/- Texts Jw in one; no statement is proved in this text. -/
import Derived.Test.YtjppcfjjpkniaaaGreatDoorMK
namespace Go.Proofs.YtjppcfjjpkniaaaGreatDoor
open Go.ChangeShapes Go.WideShapes Go.ChangeAt Go.RowKit Go.Deep
attribute [local go_sem ↓] Go.wp_at_zero Go.wp_at_succ
set_option maxRecDepth 100000

theorem ba5 (a b : Bs) : (⟨a.toArray⟩ : ByteArray) ++ (⟨#[10]⟩ : ByteArray) ++ (⟨b.toArray⟩ : ByteArray) = ⟨(a ++ 10 :: b).toArray⟩ := by
  rw [show (⟨#[10]⟩ : ByteArray) = ⟨([10] : Bs).toArray⟩ from rfl, ba_append, ba_append]; simp
set_option maxHeartbeats 25600000 in
theorem joins_core (a b : Bs) (w : World) (he : Env w) : Calls Tryz.prog 6 #[str a, str b] w fun e w' => e = .returned (.bool true) ∧ Below w.heap.size w w' := by
  have HEA : Hid (∀ w', Below w.heap.size w w' → Calls Tryz.prog 8 #[] w' fun e w'' => e = .returned (.bool true) ∧ Below w'.heap.size w' w'') := fun w' hb => each_ok w' (he.below hb)
  have HE := hid he
  have HBr : Hid (Below w.heap.size w w) := Below.refl _ _
  clear he
  by_cases h1 : 1200 < a.length
  · go_enter Tryz.func6, Tryz.ntmps6
    go_wp2_with fail
    refine (HEA.out w HBr.out).mono ?_
    rintro e w1 ⟨rfl, hb1⟩
    go_wp2_with fail
    go_ret
    exact ⟨rfl, hb1⟩
  by_cases h2 : 1200 < b.length
  · go_enter Tryz.func6, Tryz.ntmps6
    go_wp2_with fail
    refine (HEA.out w HBr.out).mono ?_
    rintro e w1 ⟨rfl, hb1⟩
    go_wp2_with fail
    go_ret
    exact ⟨rfl, hb1⟩
  have HPA := hid (lparse_ok a w HE.out (by omega))
  have HPB : Hid (∀ w', Below w.heap.size w w' → Calls Tryz.prog 9 #[str b] w' fun e w'' => (∃ a' c, e = .returned (.tuple #[.slice a' (parseR b).1.length c, i64 ((parseR b).2 : Nat)]) ∧ Sds w'' (fun k => w'.heap.size ≤ k) (parseR b).1 (.slice a' (parseR b).1.length c)) ∧ Below w'.heap.size w' w'') := fun w' hb => lparse_ok b w' (HE.out.below hb) (by omega)
  have HPC : Hid (∀ w', Below w.heap.size w w' → Calls Tryz.prog 9 #[.string ((⟨a.toArray⟩ : ByteArray) ++ (⟨#[10]⟩ : ByteArray) ++ (⟨b.toArray⟩ : ByteArray))] w' fun e w'' => (∃ a' c, e = .returned (.tuple #[.slice a' (parseR (a ++ 10 :: b)).1.length c, i64 ((parseR (a ++ 10 :: b)).2 : Nat)]) ∧ Sds w'' (fun k => w'.heap.size ≤ k) (parseR (a ++ 10 :: b)).1 (.slice a' (parseR (a ++ 10 :: b)).1.length c)) ∧ Below w'.heap.size w' w'') := fun w' hb => by
    rw [ba5]
    exact lparse_ok (a ++ 10 :: b) w' (HE.out.below hb) (by simp; omega)
  have HJ : Hid (∀ x y, parseR a = (x, 0) → parseR b = (y, 0) → (cntL x + cntL y ≤ 60 → parseR (a ++ 10 :: b) = (x ++ y, 0)) ∧ (60 < cntL x + cntL y → ∃ k, parseR (a ++ 10 :: b) = ([], k + 1))) := fun x y hx hy => joins_eq hx hy
  have HCX := hid (parse_cnt a)
  have HCY := hid (parse_cnt b)
  have HTX := hid (parse_ty a)
  have HTY := hid (parse_ty b)
  generalize parseR a = X at *
  generalize parseR b = Y at *
  generalize parseR (a ++ 10 :: b) = Z at *
  obtain ⟨x, i⟩ := X
  obtain ⟨y, j⟩ := Y
  obtain ⟨z, k⟩ := Z
  have hi0 : (0 : Int) ≤ (i : Int) := by omega
  have hj0 : (0 : Int) ≤ (j : Int) := by omega
  have hk0 : (0 : Int) ≤ (k : Int) := by omega
  go_enter Tryz.func6, Tryz.ntmps6
  go_wp2_with fail
  refine HPA.out.mono ?_
  rintro e w1 ⟨⟨ax, cx, rfl, hsx⟩, hb1⟩
  have HB1 := hid hb1
  have HSX : Hid (Sds w1 (fun _ => True) x (.slice ax x.length cx)) := hsx.mono fun _ _ _ => trivial
  clear hsx hb1 HPA
  go_wp2_with fail
  refine (HPB.out w1 HB1.out).mono ?_
  rintro e w2 ⟨⟨ay, cy, rfl, hsy⟩, hb2⟩
  have HB2 : Hid (Below w.heap.size w w2) := HB1.out.trans (hb2.mono HB1.out.size)
  have HSX2 := hid (HSX.out.under hb2)
  have HSY : Hid (Sds w2 (fun _ => True) y (.slice ay y.length cy)) := hsy.mono fun _ _ _ => trivial
  clear hsy hb2 HPB HB1 HSX
  go_wp2_with fail
  refine (HPC.out w2 HB2.out).mono ?_
  rintro e w3 ⟨⟨az, cz, rfl, hsz⟩, hb3⟩
  have HB3 : Hid (Below w.heap.size w w3) := HB2.out.trans (hb3.mono HB2.out.size)
  have HSX3 := hid (HSX2.out.under hb3)
  have HSY3 := hid (HSY.out.under hb3)
  have HSZ : Hid (Sds w3 (fun _ => True) z (.slice az z.length cz)) := hsz.mono fun _ _ _ => trivial
  clear hsz hb3 HPC HB2 HSX2 HSY
  by_cases hi : i = 0
  · subst hi
    by_cases hj : j = 0
    · subst hj
      obtain ⟨hj1, hj2⟩ := HJ.out x y rfl rfl
      have HJ1 := hid hj1
      have HJ2 := hid hj2
      have HCX2 : Hid (cntL x ≤ 60) := HCX.out
      have HCY2 : Hid (cntL y ≤ 60) := HCY.out
      have HTX2 : Hid (tyL x) := HTX.out
      have HTY2 : Hid (tyL y) := HTY.out
      have HC1 := hid (lcount_ok x w3 _ HSX3.out (by have := HCX2.out; omega))
      clear hj1 hj2 HJ HCX HCY HTX HTY
      go_wp2_with fail
      refine HC1.out.mono ?_
      rintro e w4 ⟨rfl, hb4⟩
      have HB4 : Hid (Below w.heap.size w w4) := HB3.out.trans (hb4.mono HB3.out.size)
      have HSX4 := hid (HSX3.out.under hb4)
      have HSY4 := hid (HSY3.out.under hb4)
      have HSZ4 := hid (HSZ.out.under hb4)
      have HC2 := hid (lcount_ok y w4 _ HSY4.out (by have := HCY2.out; omega))
      clear hb4 HC1 HB3 HSX3 HSY3 HSZ
      go_wp2_with fail
      refine HC2.out.mono ?_
      rintro e w5 ⟨rfl, hb5⟩
      have HB5 : Hid (Below w.heap.size w w5) := HB4.out.trans (hb5.mono HB4.out.size)
      have HSX5 := hid (HSX4.out.under hb5)
      have HSY5 := hid (HSY4.out.under hb5)
      have HSZ5 := hid (HSZ4.out.under hb5)
      clear hb5 HC2 HB4 HSX4 HSY4 HSZ4
      have hcx := HCX2.out
      have hcy := HCY2.out
      generalize hCX : cntL x = CX at *
      generalize hCY : cntL y = CY at *
      have hcx0 : (0 : Int) ≤ (CX : Int) := by omega
      have hcy0 : (0 : Int) ≤ (CY : Int) := by omega
      have hcxy : (CX : Int) + (CY : Int) ≤ 120 := by omega
      have HCXe := hid hCX
      have HCYe := hid hCY
      clear hCX hCY
      by_cases h60 : 60 < CX + CY
      · obtain ⟨k', hk'⟩ := HJ2.out h60
        simp only [Prod.mk.injEq] at hk'
        obtain ⟨rfl, rfl⟩ := hk'
        have h60I : (60 : Int) < (CX : Int) + (CY : Int) := by omega
        have hkb : (((k' + 1 : Nat) : Int) != 0) = true := ibne2 (by omega)
        clear h60
        go_wp2_with fail
        refine (HEA.out w5 HB5.out).mono ?_
        rintro e w6 ⟨rfl, hb6⟩
        have HB6 : Hid (Below w.heap.size w w6) := HB5.out.trans (hb6.mono HB5.out.size)
        clear hb6
        go_simp
        go_wp2_with fail
        go_ret
        exact ⟨rfl, HB6.out⟩
      · have hz := HJ1.out (by omega)
        simp only [Prod.mk.injEq] at hz
        obtain ⟨rfl, rfl⟩ := hz
        have h60I : ¬ (60 : Int) < (CX : Int) + (CY : Int) := by omega
        clear h60
        obtain ⟨ao1, cap1, w6, Ms1, hrun1, hms1, hst1, hbl1⟩ := push_stms (lo := w5.heap.size) (StmR.nil w5 _ _) (HSX5.out.mono fun b _ hlt => hlt) (by have := len_le_cnt x; have := HCXe.out; simp; omega) (Nat.le_refl _)
        have hxl : ([] ++ Ms1).length = x.length := by rw [List.nil_append, ← hms1]; simp
        have HBL1 := hid hbl1
        obtain ⟨ao2, cap2, w7, Ms2, hrun2, hms2, hst2, hbl2⟩ := push_stms hst1 ((HSY5.out.mono (S' := fun b => b < w5.heap.size) fun b _ hlt => hlt).move hbl1.size fun b hb hlt => ⟨hb, hbl1.block b hb⟩) (by have := len_le_cnt y; have := HCYe.out; have := len_le_cnt x; have := HCXe.out; rw [hxl]; omega) hbl1.size
        have HB57 : Hid (Below w5.heap.size w5 w7) := hbl1.trans hbl2
        have HBo : Hid (Sds w7 (fun _ => True) (x ++ y) (.slice ao2 (x.length + y.length) cap2)) := by
          have h1 := hst2.sds (S := fun _ => True) (fun _ _ _ => trivial) (fun _ _ => trivial)
          rw [hxl] at h1
          rw [List.nil_append, List.map_append, hms1, hms2] at h1
          exact h1
        rw [hxl] at hrun2
        have HRUN1 : Hid ((Builtin.append_ #[23, 23] 23 #[nilS, .slice ax x.length cx]).run Tryz.prog w5 = .ok (.slice ao1 x.length cap1) w6) := by
          show _ = _
          rw [hrun1]; simp
        have HRUN2 : Hid ((Builtin.append_ #[23, 23] 23 #[.slice ao1 x.length cap1, .slice ay y.length cy]).run Tryz.prog w6 = .ok (.slice ao2 (x.length + y.length) cap2) w7) := by
          show _ = _
          rw [← hrun2]; simp
        have HSZ7 := hid (HSZ5.out.under HB57.out)
        have HB7 : Hid (Below w.heap.size w w7) := HB5.out.trans (HB57.out.mono HB5.out.size)
        have HCB : Hid (cntL (x ++ y) ≤ 10000) := by show _ ≤ _; rw [cntL_app, HCXe.out, HCYe.out]; omega
        have HTB : Hid (tyL (x ++ y)) := tyL_app x y HTX2.out HTY2.out
        have hxyl : (x ++ y).length = x.length + y.length := by simp
        have HR1 : Hid (Calls Tryz.prog 12 #[.slice az (x.length + y.length) cz] w7 fun e w' => ∃ a c, e = .returned (.slice a (x.length + y.length) c) ∧ Below w7.heap.size w7 w' ∧ Sds w' (fun _ => True) (x ++ y) (.slice a (x.length + y.length) c)) := by
          have := lref_ok (x ++ y) w7 _ HSZ7.out HCB.out HTB.out
          rw [hxyl] at this
          exact this
        clear hrun1 hrun2 hms1 hms2 hst1 hst2 hbl1 hbl2 hxl HBL1 HSX5 HSY5 HSZ5 HJ1 HJ2
        go_simp
        go_upto_region 12 with (at_builtin; refine wpList_app_run rfl (.tmp 57) (.tmp 58) 23 rfl _ _ rfl rfl 23 rfl _ _ HRUN1.out ?_)
        go_upto_region 13 with (at_builtin; refine wpList_app_run rfl (.tmp 60) (.tmp 61) 23 rfl _ _ rfl rfl 23 rfl _ _ HRUN2.out ?_)
        clear HRUN1 HRUN2
        go_wp2_with fail
        refine HR1.out.mono ?_
        rintro e w8 ⟨ar, cr, rfl, hb8, hs8⟩
        have HB8 : Hid (Below w.heap.size w w8) := HB7.out.trans (hb8.mono HB7.out.size)
        have HS8 := hid hs8
        have HBo8 := hid (HBo.out.under hb8)
        have HR2 : Hid (Calls Tryz.prog 12 #[.slice ao2 (x.length + y.length) cap2] w8 fun e w' => ∃ a c, e = .returned (.slice a (x.length + y.length) c) ∧ Below w8.heap.size w8 w' ∧ Sds w' (fun _ => True) (x ++ y) (.slice a (x.length + y.length) c)) := by
          have := lref_ok (x ++ y) w8 _ HBo8.out HCB.out HTB.out
          rw [hxyl] at this
          exact this
        clear hb8 hs8 HR1 HBo HSZ7 HB7
        go_simp
        go_wp2_with fail
        refine HR2.out.mono ?_
        rintro e w9 ⟨aq, cq, rfl, hb9, hs9⟩
        have HB9 : Hid (Below w.heap.size w w9) := HB8.out.trans (hb9.mono HB8.out.size)
        have HSM := hid (lsame_ok (x ++ y) w9 _ _ (HS8.out.under hb9) hs9)
        clear hb9 hs9 HR2 HS8 HBo8 HB8
        go_simp
        go_wp2_with fail
        refine HSM.out.mono ?_
        rintro e wa ⟨rfl, hba⟩
        have HBa : Hid (Below w.heap.size w wa) := HB9.out.trans (hba.mono HB9.out.size)
        clear hba HSM HB9
        go_simp
        go_wp2_with fail
        refine (HEA.out wa HBa.out).mono ?_
        rintro e wb ⟨rfl, hbb⟩
        have HBb : Hid (Below w.heap.size w wb) := HBa.out.trans (hbb.mono HBa.out.size)
        clear hbb
        go_simp
        go_wp2_with fail
        go_ret
        exact ⟨rfl, HBb.out⟩
    · have hjb := ibne2 (show (j : Int) ≠ 0 by omega)
      clear hj
      go_wp2_with fail
      refine (HEA.out w3 HB3.out).mono ?_
      rintro e w4 ⟨rfl, hb4⟩
      have HB4 : Hid (Below w.heap.size w w4) := HB3.out.trans (hb4.mono HB3.out.size)
      clear hb4
      go_wp2_with fail
      go_ret
      exact ⟨rfl, HB4.out⟩
  · have hib := ibne2 (show (i : Int) ≠ 0 by omega)
    clear hi
    go_wp2_with fail
    refine (HEA.out w3 HB3.out).mono ?_
    rintro e w4 ⟨rfl, hb4⟩
    have HB4 : Hid (Below w.heap.size w w4) := HB3.out.trans (hb4.mono HB3.out.size)
    clear hb4
    go_wp2_with fail
    go_ret
    exact ⟨rfl, HB4.out⟩
end Go.Proofs.YtjppcfjjpkniaaaGreatDoor
