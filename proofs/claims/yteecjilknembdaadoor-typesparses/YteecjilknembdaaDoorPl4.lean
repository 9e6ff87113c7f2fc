/- imagoref15's Plain of a record, and Check: their contracts; no statement is proved in this text. -/
import Derived.Test.YteecjilknembdaaDoorPl
import Derived.Test.YteecjilknembdaaDoorFmd
namespace Go.Proofs.YteecjilknembdaaDoor
open Go.ChangeShapes Go.WideShapes Go.ChangeAt Go.RowKit Go.Deep
attribute [local go_sem ↓] Go.wp_at_zero Go.wp_at_succ

theorem accT_all (FL : List Bs) (n : Nat) (h : FL.length ≤ n) : accT FL n = Lib.join FL [44] := by unfold accT; rw [List.take_of_length_le h]
theorem accT_mono (FL : List Bs) : ∀ (d i : Nat), i + d ≤ FL.length → (accT FL i).length ≤ (accT FL (i + d)).length
  | 0, i, _ => Nat.le_refl _
  | d + 1, i, h => by
    have ih := accT_mono FL d i (by omega)
    have hs := accT_step FL (i + d) (FL[i + d]'(by omega)) (by rw [List.take_succ_eq_append_getElem (by omega)]) (by omega)
    rw [show i + (d + 1) = i + d + 1 by omega, hs]
    split
    · rename_i h0
      have : i = 0 := by omega
      subst this
      simp [accT, Lib.join]
    · simp; omega
set_option maxRecDepth 100000 in
set_option maxHeartbeats 12800000 in
theorem plain_4 (names : List Bs) (kids : List Ty) (w : World) (S : Nat → Prop) (nv kv : Value) (hl1 : names.length = kids.length) (hl3 : kids.length ≤ 12) (hns : ∀ x ∈ names, x.length ≤ 8) (hln : ∀ T ∈ kids, T.txt.length ≤ 100000) (hft : (fieldT names (txtL kids)).length ≤ 100000) (hR : Rd w S (.mk 4 0 names kids) nv kv)
    (hih : ∀ T ∈ kids, ∀ (w : World) (nv kv : Value), Rd w S T nv kv → Calls Tryd.prog 14 #[tyV T.kind T.num nv kv] w fun e w' => e = .returned (str T.txt) ∧ Below w.heap.size w w') : Calls Tryd.prog 14 #[tyV 4 0 nv kv] w fun e w' => e = .returned (str (Ty.mk 4 0 names kids).txt) ∧ Below w.heap.size w w' := by
  have HRES : Hid (str (Ty.mk 4 0 names kids).txt = .string (((⟨#[114, 40]⟩ : ByteArray) ++ ⟨(fieldT names (txtL kids)).toArray⟩) ++ ⟨#[41]⟩)) := by
    show _ = _
    rw [txt_4]
    refine congrArg Value.string ?_
    apply ByteArray.ext
    simp
  have HJ : Hid (Lib.join (fieldL names (txtL kids)) [44] = fieldT names (txtL kids)) := join_field names (txtL kids) (by rw [txtL_len]; exact hl1)
  have HFL : Hid ((fieldL names (txtL kids)).length = kids.length) := by show _ = _; rw [fieldL_len _ _ (by rw [txtL_len]; exact hl1), hl1]
  have HSN : Hid (∀ i (h1 : i < names.length) (h2 : i < kids.length), (fieldL names (txtL kids)).take (i + 1) = (fieldL names (txtL kids)).take i ++ [names[i] ++ 58 :: kids[i].txt]) := field_snoc names kids
  generalize (Ty.mk 4 0 names kids).txt = TX at *
  generalize fieldL names (txtL kids) = FL at *
  generalize fieldT names (txtL kids) = FT at *
  have HAL : Hid (∀ i, i ≤ kids.length → (accT FL i).length ≤ 100000) := fun i hi => by
    have h1 := accT_mono FL (kids.length - i) i (by rw [HFL.out]; omega)
    rw [show i + (kids.length - i) = kids.length by omega, accT_all FL kids.length (by rw [HFL.out]; exact Nat.le_refl _), HJ.out] at h1
    omega
  have HIH := hid hih
  have HL1 := hid hl1
  have HNS := hid hns
  have HLN := hid hln
  clear hl1 hns hln
  have HRd : Hid (Rd w S (.mk 4 0 names kids) nv kv) := hR
  obtain ⟨⟨an, cn, rfl, hnl, hz1, hz2⟩, hkl, ak, ck, rfl, hz3⟩ := hR.kid
  clear hz1 hz2 hz3
  unfold maxLen at hnl hkl
  have HX : Hid ((w.alloc (.cells #[i64 4, i64 0, .slice an names.length cn, .slice ak kids.length ck] 37)).heap[w.heap.size]? = some (.cells #[i64 4, i64 0, .slice an names.length cn, .slice ak kids.length ck] 37)) := heap_last w _
  have HBV : Hid (Below w.heap.size w (w.alloc (.cells #[i64 4, i64 0, .slice an names.length cn, .slice ak kids.length ck] 37))) := below_one w _
  clear hR hih
  go_enter Tryd.func14, Tryd.ntmps14
  go_upto_region 1 with fail
  obtain ⟨Z, hZ⟩ : ∃ Z, Z = w.heap.size := ⟨_, rfl⟩
  rw [← hZ] at HX ⊢
  generalize w.alloc (.cells #[i64 4, i64 0, .slice an names.length cn, .slice ak kids.length ck] 37) = V at *
  have y0 : V.cell? ⟨Z, 0, none⟩ = some (i64 4) := blk_cell HX.out 0
  have y1 : V.cell? ⟨Z, 1, none⟩ = some (i64 0) := blk_cell HX.out 1
  have y2 : V.cell? ⟨Z, 2, none⟩ = some (.slice an names.length cn) := blk_cell HX.out 2
  have y3 : V.cell? ⟨Z, 3, none⟩ = some (.slice ak kids.length ck) := blk_cell HX.out 3
  have hZV : Z < V.heap.size := blk_lt HX.out
  have HZ := hid hZ
  clear hZ
  go_wp2_with fail
  go_loopw [3, 37] (fun a u wr => ∃ (i : Nat) (ac : Bs), i ≤ kids.length ∧ u = i64 i ∧ a = str ac ∧ Hid (ac = accT FL i) ∧ ac.length ≤ 100000 ∧ Hid (wr.heap[Z]? = some (.cells #[i64 4, i64 0, .slice an names.length cn, .slice ak kids.length ck] 37)) ∧ Hid (Below w.heap.size w wr)) (fun _ u _ => kids.length - (intOf u).toNat)
  case atStart => exact ⟨0, [], by omega, rfl, rfl, by show _ = _; simp [accT, Lib.join], by simp, HX, HBV⟩
  case round =>
    obtain ⟨i, ac, hi, rfl, rfl, HAc, hacl, HXr, HB⟩ := hrel
    by_cases hlt : i < kids.length
    · clear y0 y1 y2 y3 hZV
      obtain ⟨_, _, ak1, ck1, he, hkid⟩ := (HRd.out.under HB.out).kid
      cases he
      obtain ⟨b, off, nv2, kv2, rfl, hbS, hblt, hr, hrd⟩ := hkid i hlt
      obtain ⟨T, hT⟩ : ∃ T, T = kids[i] := ⟨_, rfl⟩
      rw [← hT] at hr hrd
      have HTm : Hid (T ∈ kids) := by show _; rw [hT]; exact List.getElem_mem hlt
      have HTe : Hid (T = kids[i]) := hT
      have c0 : wr.cell? ⟨b, off + i * 4, none⟩ = some (i64 T.kind) := hr 0 _ rfl
      have c1 : wr.cell? ⟨b, off + i * 4 + 1, none⟩ = some (i64 T.num) := hr 1 _ rfl
      have c2 : wr.cell? ⟨b, off + i * 4 + 2, none⟩ = some nv2 := hr 2 _ rfl
      have c3 : wr.cell? ⟨b, off + i * 4 + 3, none⟩ = some kv2 := hr 3 _ rfl
      obtain ⟨an2, cn2, rfl, ak2, ck2, rfl⟩ := hrd.form
      have HX2 : Hid ((wr.alloc (.cells #[i64 T.kind, i64 T.num, .slice an2 T.names.length cn2, .slice ak2 T.kids.length ck2] 37)).heap[wr.heap.size]? = some (.cells #[i64 T.kind, i64 T.num, .slice an2 T.names.length cn2, .slice ak2 T.kids.length ck2] 37)) := heap_last wr _
      have HBX : Hid (Below wr.heap.size wr (wr.alloc (.cells #[i64 T.kind, i64 T.num, .slice an2 T.names.length cn2, .slice ak2 T.kids.length ck2] 37))) := below_one wr _
      have HRT : Hid (Rd (wr.alloc (.cells #[i64 T.kind, i64 T.num, .slice an2 T.names.length cn2, .slice ak2 T.kids.length ck2] 37)) _ T (.slice an2 T.names.length cn2) (.slice ak2 T.kids.length ck2)) := hrd.under HBX.out
      clear hT hr hrd hkid hbS
      go_upto_region 12 with fail
      obtain ⟨Y, hY⟩ : ∃ Y, Y = wr.heap.size := ⟨_, rfl⟩
      rw [← hY] at HX2 ⊢
      generalize wr.alloc (.cells #[i64 T.kind, i64 T.num, .slice an2 T.names.length cn2, .slice ak2 T.kids.length ck2] 37) = X at *
      have z0 : X.cell? ⟨Y, 0, none⟩ = some (i64 T.kind) := blk_cell HX2.out 0
      have z1 : X.cell? ⟨Y, 1, none⟩ = some (i64 T.num) := blk_cell HX2.out 1
      have z2 : X.cell? ⟨Y, 2, none⟩ = some (.slice an2 T.names.length cn2) := blk_cell HX2.out 2
      have z3 : X.cell? ⟨Y, 3, none⟩ = some (.slice ak2 T.kids.length ck2) := blk_cell HX2.out 3
      have hYX : Y < X.heap.size := blk_lt HX2.out
      have HY := hid hY
      clear c0 c1 c2 c3 hY
      obtain ⟨hs, _⟩ := (HRd.out.under HB.out).kid
      obtain ⟨ao', cap', he, hat⟩ := hs.at
      cases he
      have hlt2 : i < names.length := by have := HL1.out; omega
      obtain ⟨nb, no, rfl, hnlt, cN⟩ := hat i hlt2
      obtain ⟨nm, hnm⟩ : ∃ nm, nm = names[i] := ⟨_, rfl⟩
      rw [← hnm] at cN
      have hnm8 : nm.length ≤ 8 := by rw [hnm]; exact HNS.out _ (List.getElem_mem hlt2)
      have HSN2 : Hid (FL.take (i + 1) = FL.take i ++ [nm ++ 58 :: T.txt]) := by show _ = _; rw [HSN.out i hlt2 hlt, ← hnm, ← HTe.out]
      have HAS : Hid (accT FL (i + 1) = if i = 0 then nm ++ 58 :: T.txt else accT FL i ++ 44 :: (nm ++ 58 :: T.txt)) := accT_step FL i _ HSN2.out (by rw [HFL.out]; omega)
      have hA2 := HAL.out (i + 1) (by omega)
      have HA2 := hid hA2
      have HCA := hid (HIH.out T HTm.out)
      have hTl := HLN.out T HTm.out
      have hbn := bz nm
      have hbt := bz T.txt
      have hba := bz ac
      have hiN : (i : Int) < names.length := by omega
      clear hnm hat hs hA2
      have HSX : Hid (Sx Z Y nb (no + i) (.cells #[i64 4, i64 0, .slice (some ⟨nb, no, none⟩) names.length cn, .slice (some ⟨b, off, none⟩) kids.length ck] 37) (.cells #[i64 T.kind, i64 T.num, .slice an2 T.names.length cn2, .slice ak2 T.kids.length ck2] 37) nm X.drew) := ⟨(blk_below HXr.out HBX.out : X.heap[Z]? = _), HX2.out, by have := HBX.out.cell (p := ⟨nb, no + i, none⟩) hnlt; exact this.trans cN⟩
      have HBXw : Hid (Below w.heap.size w X) := HB.out.trans (HBX.out.mono HB.out.size)
      have HZX : Hid (X.heap[Z]? = some (.cells #[i64 4, i64 0, .slice (some ⟨nb, no, none⟩) names.length cn, .slice (some ⟨b, off, none⟩) kids.length ck] 37)) := HSX.out.z
      have zx2 : X.cell? ⟨Z, 2, none⟩ = some (.slice (some ⟨nb, no, none⟩) names.length cn) := blk_cell HZX.out 2
      clear hnlt cN
      generalize hTT : T.txt = TT at *
      clear hTT HTe HX2
      by_cases hi0 : i = 0
      · have HBe : Hid (ac = []) := by show _ = _; rw [HAc.out, hi0]; simp [accT, Lib.join]
        obtain ⟨Bc, hBc⟩ : ∃ Bc, Bc = ac := ⟨_, rfl⟩
        have HAC : Hid (Bc ++ (nm ++ 58 :: TT) = accT FL (i + 1)) := by show _ = _; rw [HAS.out, if_pos hi0, hBc, HBe.out]; rfl
        have hAle : (Bc ++ (nm ++ 58 :: TT)).length ≤ 100000 := by rw [HAC.out]; exact HA2.out
        have hgt : ¬ 0 < i := by omega
        have hgt3 : ¬ (0 : Int) < (i : Int) := by omega
        have hgt2 : decide (0 < i) = false := by simp; omega
        have hBl : Bc.length ≤ 100001 := by rw [hBc]; omega
        have hbB := bz Bc
        have HI0 := hid hi0
        rw [← hBc]
        clear hi0 hBc
        go_upto_region 15 with fail
        refine wp_region_noPanic ?_
        refine wp_region_last (Sx Z Y nb (no + i) (.cells #[i64 4, i64 0, .slice (some ⟨nb, no, none⟩) names.length cn, .slice (some ⟨b, off, none⟩) kids.length ck] 37) (.cells #[i64 T.kind, i64 T.num, .slice an2 T.names.length cn2, .slice ak2 T.kids.length ck2] 37) nm) 11 (by kernel_rfl) ?_
        refine wpL_take 0 51 (str Bc) [] rfl rfl (by kernel_rfl) (by decide) (by kernel_rfl) (by kernel_rfl) (by kernel_rfl) (fun _ _ _ h => h) HSX.out (by rfl) (fun W hW => by go_simp) ?_
        simp only [Act.put, List.setIfInBounds_toArray, List.set_cons_zero, List.set_cons_succ]
        refine wpL_take 1 52 (.pointer (some ⟨Z, 2, none⟩)) [] rfl rfl (by kernel_rfl) (by decide) (by kernel_rfl) (by kernel_rfl) (by kernel_rfl) (fun _ _ _ h => h) HSX.out (by rfl) (fun W hW => by go_simp) ?_
        simp only [Act.put, List.setIfInBounds_toArray, List.set_cons_zero, List.set_cons_succ]
        refine wpL_take 2 53 (.slice (some ⟨nb, no, none⟩) names.length cn) [] rfl rfl (by kernel_rfl) (by decide) (by kernel_rfl) (by kernel_rfl) (by kernel_rfl) (fun _ _ _ h => h) HSX.out (by rfl) (fun W hW => by have d0 : W.cell? ⟨Z, 2, none⟩ = some (.slice (some ⟨nb, no, none⟩) names.length cn) := blk_cell hW.z 2; go_simp) ?_
        simp only [Act.put, List.setIfInBounds_toArray, List.set_cons_zero, List.set_cons_succ]
        refine wpL_take 3 54 (i64 i) [] rfl rfl (by kernel_rfl) (by decide) (by kernel_rfl) (by kernel_rfl) (by kernel_rfl) (fun _ _ _ h => h) HSX.out (by rfl) (fun W hW => by go_simp) ?_
        simp only [Act.put, List.setIfInBounds_toArray, List.set_cons_zero, List.set_cons_succ]
        refine wpL_take 4 55 (.pointer (some ⟨nb, no + i, none⟩)) [] rfl rfl (by kernel_rfl) (by decide) (by kernel_rfl) (by kernel_rfl) (by kernel_rfl) (fun _ _ _ h => h) HSX.out (by rfl) (fun W hW => by go_simp) ?_
        simp only [Act.put, List.setIfInBounds_toArray, List.set_cons_zero, List.set_cons_succ]
        refine wpL_take 5 56 (str nm) [] rfl rfl (by kernel_rfl) (by decide) (by kernel_rfl) (by kernel_rfl) (by kernel_rfl) (fun _ _ _ h => h) HSX.out (by rfl) (fun W hW => by have d0 := hW.c; go_simp) ?_
        simp only [Act.put, List.setIfInBounds_toArray, List.set_cons_zero, List.set_cons_succ]
        refine wpL_take 6 57 (.string ((⟨Bc.toArray⟩ : ByteArray) ++ ⟨nm.toArray⟩)) [] rfl rfl (by kernel_rfl) (by decide) (by kernel_rfl) (by kernel_rfl) (by kernel_rfl) (fun _ _ _ h => h) HSX.out (by rfl) (fun W hW => by go_simp; omega) ?_
        simp only [Act.put, List.setIfInBounds_toArray, List.set_cons_zero, List.set_cons_succ]
        refine wpL_take 7 58 (.string (((⟨Bc.toArray⟩ : ByteArray) ++ ⟨nm.toArray⟩) ++ ⟨#[58]⟩)) [] rfl rfl (by kernel_rfl) (by decide) (by kernel_rfl) (by kernel_rfl) (by kernel_rfl) (fun _ _ _ h => h) HSX.out (by rfl) (fun W hW => by go_simp; omega) ?_
        simp only [Act.put, List.setIfInBounds_toArray, List.set_cons_zero, List.set_cons_succ]
        refine wpL_take 8 59 (.agg #[i64 T.kind, i64 T.num, .slice an2 T.names.length cn2, .slice ak2 T.kids.length ck2]) [] rfl rfl (by kernel_rfl) (by decide) (by kernel_rfl) (by kernel_rfl) (by kernel_rfl) (fun _ _ _ h => h) HSX.out (by rfl) (fun W hW => by have d0 : W.cell? ⟨Y, 0, none⟩ = some (i64 T.kind) := blk_cell hW.y 0; have d1 : W.cell? ⟨Y, 1, none⟩ = some (i64 T.num) := blk_cell hW.y 1; have d2 : W.cell? ⟨Y, 2, none⟩ = some (.slice an2 T.names.length cn2) := blk_cell hW.y 2; have d3 : W.cell? ⟨Y, 3, none⟩ = some (.slice ak2 T.kids.length ck2) := blk_cell hW.y 3; go_simp) ?_
        simp only [Act.put, List.setIfInBounds_toArray, List.set_cons_zero, List.set_cons_succ]
        refine wpL_one 9 rfl (by kernel_rfl) (by rfl) (fun K hK => ?_)
        go_simp
        refine (HCA.out X.drew _ _ (HRT.out.under ⟨rfl, rfl, rfl, Nat.le_refl _, fun _ _ => rfl⟩)).mono ?_
        rintro e w4 ⟨rfl, hb4⟩
        have hb4' : Below X.heap.size X w4 := ⟨hb4.os, hb4.tape, hb4.output, hb4.size, hb4.block⟩
        have HS4 : Hid (Sx Z Y nb (no + i) (.cells #[i64 4, i64 0, .slice (some ⟨nb, no, none⟩) names.length cn, .slice (some ⟨b, off, none⟩) kids.length ck] 37) (.cells #[i64 T.kind, i64 T.num, .slice an2 T.names.length cn2, .slice ak2 T.kids.length ck2] 37) nm w4) := HSX.out.below hb4
        have HB4 : Hid (Below w.heap.size w w4) := HBXw.out.trans (hb4'.mono HBXw.out.size)
        clear hb4 hb4'
        go_simp
        refine hK.out _ _ (fun _ => HS4.out) ?_
        clear hK K
        have hstr : Value.string ((((⟨Bc.toArray⟩ : ByteArray) ++ ⟨nm.toArray⟩) ++ ⟨#[58]⟩) ++ ⟨TT.toArray⟩) = str (Bc ++ (nm ++ 58 :: TT)) := by
          refine congrArg Value.string ?_
          apply ByteArray.ext
          simp
        refine wpL_take 10 61 (str (Bc ++ (nm ++ 58 :: TT))) [] rfl rfl (by kernel_rfl) (by decide) (by kernel_rfl) (by kernel_rfl) (by kernel_rfl) (fun _ _ _ h => h) HS4.out (by rfl) (fun W hW => by rw [← hstr]; go_simp; omega) ?_
        simp only [Act.put, List.setIfInBounds_toArray, List.set_cons_zero, List.set_cons_succ]
        clear hstr
        refine wpL_one 11 rfl (by kernel_rfl) (by rfl) (fun K hK => ?_)
        go_simp
        refine hK.out _ _ (fun h => absurd rfl h) ?_
        clear hK K
        refine wpL_done (by kernel_rfl) ?_
        refine NoPanic.normal ?_
        go_wp2_with fail
        exact ⟨⟨i + 1, _, by omega, by go_num, rfl, HAC, hAle, HS4.out.z, HB4⟩, by simp [intOf]; omega⟩
      · obtain ⟨Bc, hBc⟩ : ∃ Bc, Bc = ac ++ [44] := ⟨_, rfl⟩
        have HAC : Hid (Bc ++ (nm ++ 58 :: TT) = accT FL (i + 1)) := by show _ = _; rw [HAS.out, if_neg hi0, hBc, HAc.out]; simp
        have hAle : (Bc ++ (nm ++ 58 :: TT)).length ≤ 100000 := by rw [HAC.out]; exact HA2.out
        have hBl : Bc.length ≤ 100001 := by rw [hBc]; simp; omega
        have hbB := bz Bc
        have hst2 : Value.string ((⟨ac.toArray⟩ : ByteArray) ++ ⟨#[44]⟩) = str Bc := by
          rw [hBc]
          exact congrArg Value.string (ba_append ac [44])
        have hgt : (0 : Int) < (i : Int) := by omega
        have HI0 := hid hi0
        have HST2 := hid hst2
        clear hi0 hBc hst2
        go_upto_region 15 with fail
        rw [HST2.out]
        refine wp_region_noPanic ?_
        refine wp_region_last (Sx Z Y nb (no + i) (.cells #[i64 4, i64 0, .slice (some ⟨nb, no, none⟩) names.length cn, .slice (some ⟨b, off, none⟩) kids.length ck] 37) (.cells #[i64 T.kind, i64 T.num, .slice an2 T.names.length cn2, .slice ak2 T.kids.length ck2] 37) nm) 11 (by kernel_rfl) ?_
        refine wpL_take 0 51 (str Bc) [] rfl rfl (by kernel_rfl) (by decide) (by kernel_rfl) (by kernel_rfl) (by kernel_rfl) (fun _ _ _ h => h) HSX.out (by rfl) (fun W hW => by go_simp) ?_
        simp only [Act.put, List.setIfInBounds_toArray, List.set_cons_zero, List.set_cons_succ]
        refine wpL_take 1 52 (.pointer (some ⟨Z, 2, none⟩)) [] rfl rfl (by kernel_rfl) (by decide) (by kernel_rfl) (by kernel_rfl) (by kernel_rfl) (fun _ _ _ h => h) HSX.out (by rfl) (fun W hW => by go_simp) ?_
        simp only [Act.put, List.setIfInBounds_toArray, List.set_cons_zero, List.set_cons_succ]
        refine wpL_take 2 53 (.slice (some ⟨nb, no, none⟩) names.length cn) [] rfl rfl (by kernel_rfl) (by decide) (by kernel_rfl) (by kernel_rfl) (by kernel_rfl) (fun _ _ _ h => h) HSX.out (by rfl) (fun W hW => by have d0 : W.cell? ⟨Z, 2, none⟩ = some (.slice (some ⟨nb, no, none⟩) names.length cn) := blk_cell hW.z 2; go_simp) ?_
        simp only [Act.put, List.setIfInBounds_toArray, List.set_cons_zero, List.set_cons_succ]
        refine wpL_take 3 54 (i64 i) [] rfl rfl (by kernel_rfl) (by decide) (by kernel_rfl) (by kernel_rfl) (by kernel_rfl) (fun _ _ _ h => h) HSX.out (by rfl) (fun W hW => by go_simp) ?_
        simp only [Act.put, List.setIfInBounds_toArray, List.set_cons_zero, List.set_cons_succ]
        refine wpL_take 4 55 (.pointer (some ⟨nb, no + i, none⟩)) [] rfl rfl (by kernel_rfl) (by decide) (by kernel_rfl) (by kernel_rfl) (by kernel_rfl) (fun _ _ _ h => h) HSX.out (by rfl) (fun W hW => by go_simp) ?_
        simp only [Act.put, List.setIfInBounds_toArray, List.set_cons_zero, List.set_cons_succ]
        refine wpL_take 5 56 (str nm) [] rfl rfl (by kernel_rfl) (by decide) (by kernel_rfl) (by kernel_rfl) (by kernel_rfl) (fun _ _ _ h => h) HSX.out (by rfl) (fun W hW => by have d0 := hW.c; go_simp) ?_
        simp only [Act.put, List.setIfInBounds_toArray, List.set_cons_zero, List.set_cons_succ]
        refine wpL_take 6 57 (.string ((⟨Bc.toArray⟩ : ByteArray) ++ ⟨nm.toArray⟩)) [] rfl rfl (by kernel_rfl) (by decide) (by kernel_rfl) (by kernel_rfl) (by kernel_rfl) (fun _ _ _ h => h) HSX.out (by rfl) (fun W hW => by go_simp; omega) ?_
        simp only [Act.put, List.setIfInBounds_toArray, List.set_cons_zero, List.set_cons_succ]
        refine wpL_take 7 58 (.string (((⟨Bc.toArray⟩ : ByteArray) ++ ⟨nm.toArray⟩) ++ ⟨#[58]⟩)) [] rfl rfl (by kernel_rfl) (by decide) (by kernel_rfl) (by kernel_rfl) (by kernel_rfl) (fun _ _ _ h => h) HSX.out (by rfl) (fun W hW => by go_simp; omega) ?_
        simp only [Act.put, List.setIfInBounds_toArray, List.set_cons_zero, List.set_cons_succ]
        refine wpL_take 8 59 (.agg #[i64 T.kind, i64 T.num, .slice an2 T.names.length cn2, .slice ak2 T.kids.length ck2]) [] rfl rfl (by kernel_rfl) (by decide) (by kernel_rfl) (by kernel_rfl) (by kernel_rfl) (fun _ _ _ h => h) HSX.out (by rfl) (fun W hW => by have d0 : W.cell? ⟨Y, 0, none⟩ = some (i64 T.kind) := blk_cell hW.y 0; have d1 : W.cell? ⟨Y, 1, none⟩ = some (i64 T.num) := blk_cell hW.y 1; have d2 : W.cell? ⟨Y, 2, none⟩ = some (.slice an2 T.names.length cn2) := blk_cell hW.y 2; have d3 : W.cell? ⟨Y, 3, none⟩ = some (.slice ak2 T.kids.length ck2) := blk_cell hW.y 3; go_simp) ?_
        simp only [Act.put, List.setIfInBounds_toArray, List.set_cons_zero, List.set_cons_succ]
        refine wpL_one 9 rfl (by kernel_rfl) (by rfl) (fun K hK => ?_)
        go_simp
        refine (HCA.out X.drew _ _ (HRT.out.under ⟨rfl, rfl, rfl, Nat.le_refl _, fun _ _ => rfl⟩)).mono ?_
        rintro e w4 ⟨rfl, hb4⟩
        have hb4' : Below X.heap.size X w4 := ⟨hb4.os, hb4.tape, hb4.output, hb4.size, hb4.block⟩
        have HS4 : Hid (Sx Z Y nb (no + i) (.cells #[i64 4, i64 0, .slice (some ⟨nb, no, none⟩) names.length cn, .slice (some ⟨b, off, none⟩) kids.length ck] 37) (.cells #[i64 T.kind, i64 T.num, .slice an2 T.names.length cn2, .slice ak2 T.kids.length ck2] 37) nm w4) := HSX.out.below hb4
        have HB4 : Hid (Below w.heap.size w w4) := HBXw.out.trans (hb4'.mono HBXw.out.size)
        clear hb4 hb4'
        go_simp
        refine hK.out _ _ (fun _ => HS4.out) ?_
        clear hK K
        have hstr : Value.string ((((⟨Bc.toArray⟩ : ByteArray) ++ ⟨nm.toArray⟩) ++ ⟨#[58]⟩) ++ ⟨TT.toArray⟩) = str (Bc ++ (nm ++ 58 :: TT)) := by
          refine congrArg Value.string ?_
          apply ByteArray.ext
          simp
        refine wpL_take 10 61 (str (Bc ++ (nm ++ 58 :: TT))) [] rfl rfl (by kernel_rfl) (by decide) (by kernel_rfl) (by kernel_rfl) (by kernel_rfl) (fun _ _ _ h => h) HS4.out (by rfl) (fun W hW => by rw [← hstr]; go_simp; omega) ?_
        simp only [Act.put, List.setIfInBounds_toArray, List.set_cons_zero, List.set_cons_succ]
        clear hstr
        refine wpL_one 11 rfl (by kernel_rfl) (by rfl) (fun K hK => ?_)
        go_simp
        refine hK.out _ _ (fun h => absurd rfl h) ?_
        clear hK K
        refine wpL_done (by kernel_rfl) ?_
        refine NoPanic.normal ?_
        go_wp2_with fail
        exact ⟨⟨i + 1, _, by omega, by go_num, rfl, HAC, hAle, HS4.out.z, HB4⟩, by simp [intOf]; omega⟩
    · have HF : Hid (ac = FT) := by show _ = _; rw [HAc.out, accT_all FL i (by rw [HFL.out]; omega), HJ.out]
      have hbf := bz ac
      have HRES2 : Hid (str TX = .string (((⟨#[114, 40]⟩ : ByteArray) ++ ⟨ac.toArray⟩) ++ ⟨#[41]⟩)) := by show _ = _; rw [HRES.out, HF.out]
      clear y0 y1 y2 y3 hZV
      go_wp2_with fail
      go_ret
      exact ⟨by rw [HRES2.out]; rfl, HB.out⟩
theorem plain_ok : ∀ (M : Nat) (T : Ty), T.count ≤ M → T.count ≤ 1000 → T.formed = true → ∀ (w : World) (S : Nat → Prop) (nv kv : Value), Rd w S T nv kv → Calls Tryd.prog 14 #[tyV T.kind T.num nv kv] w fun e w' => e = .returned (str T.txt) ∧ Below w.heap.size w w'
  | 0, T, hM, _, _, _, _, _, _, _ => by have := count_pos T; omega
  | M + 1, .mk k n names kids, hM, hC, hf, w, S, nv, kv, hR => by
    simp only [Ty.count] at hM hC
    simp only [Ty.formed, Bool.and_eq_true] at hf
    obtain ⟨hn, hl⟩ := hf
    have hnode := nodeB_node hn
    have ih : ∀ T ∈ kids, ∀ (w : World) (nv kv : Value), Rd w S T nv kv → Calls Tryd.prog 14 #[tyV T.kind T.num nv kv] w fun e w' => e = .returned (str T.txt) ∧ Below w.heap.size w w' := fun T hT w nv kv hR => plain_ok M T (by have := countL_mem hT; omega) (by have := countL_mem hT; omega) (formedL_mem hl hT) w S nv kv hR
    have hle : ∀ T ∈ kids, T.txt.length ≤ 100000 := fun T hT => by have h1 := txt_le T.count T (Nat.le_refl _) (formedL_mem hl hT); have h2 := countL_mem hT; omega
    generalize hkn : kids.length = kn at hnode
    cases hnode with
    | int h0 h1 =>
      obtain rfl := List.eq_nil_of_length_eq_zero hkn
      exact plain_1 n w S nv kv h0 h1 hR
    | text h0 h1 =>
      obtain rfl := List.eq_nil_of_length_eq_zero hkn
      exact plain_2 n w S nv kv h0 h1 hR
    | list h0 h1 =>
      obtain ⟨T, rfl⟩ : ∃ T, kids = [T] := by cases kids with
        | nil => simp at hkn
        | cons T r => have : r = [] := by simpa using hkn
                      exact ⟨T, by rw [this]⟩
      exact plain_3 n T w S nv kv h0 h1 hR (hle T (by simp)) (fun w nv kv hR => ih T (by simp) w nv kv hR)
    | rc h0 h1 h2 h3 =>
      have hft := fieldT_le names kids (by omega) (fun x hx => nameB_le (namesTo_mem h3 hx)) (fun T hT => txt_le T.count T (Nat.le_refl _) (formedL_mem hl hT))
      exact plain_4 names kids w S nv kv (by omega) (by omega) (fun x hx => nameB_le (namesTo_mem h3 hx)) hle (by omega) hR ih
set_option maxRecDepth 100000 in
set_option maxHeartbeats 3200000 in
theorem rcheck_ok (T : Ty) (w : World) (S : Nat → Prop) (nv kv : Value) (hR : Rd w S T nv kv) (hC : T.count ≤ 100000) (hS : T.small = true) : Calls Tryd.prog 11 #[tyV T.kind T.num nv kv] w fun e w' => e = .returned (i64 T.err) ∧ Below w.heap.size w w' := by
  obtain ⟨E0, hE0⟩ : ∃ E0, E0 = T.err := ⟨_, rfl⟩
  have HE0 : Hid (E0 = if T.depth ≤ 6 ∧ T.count ≤ 100 then (if T.formed = true then 0 else 4) else 2) := hE0
  rw [← hE0]
  clear hE0
  have HDp : Hid (∀ W, Below w.heap.size w W → Calls Tryd.prog 24 #[tyV T.kind T.num nv kv] W fun e w' => e = .returned (i64 (T.depth : Nat)) ∧ Below W.heap.size W w') := fun W hW => depth_ok T.count T (Nat.le_refl _) (by omega) W S nv kv (hR.under hW)
  have HCt : Hid (∀ W, Below w.heap.size w W → Calls Tryd.prog 25 #[tyV T.kind T.num nv kv] W fun e w' => e = .returned (i64 (T.count : Nat)) ∧ Below W.heap.size W w') := fun W hW => count_ok T.count T (Nat.le_refl _) (by omega) W S nv kv (hR.under hW)
  have HFm : Hid (∀ W, Below w.heap.size w W → Calls Tryd.prog 26 #[tyV T.kind T.num nv kv] W fun e w' => e = .returned (.bool T.formed) ∧ Below W.heap.size W w') := fun W hW => formed_ok T.count T (Nat.le_refl _) hS W S nv kv (hR.under hW)
  have hdl := depth_le T
  obtain ⟨an, cn, rfl, ak, ck, rfl⟩ := hR.form
  have HX : Hid ((w.alloc (.cells #[i64 T.kind, i64 T.num, .slice an T.names.length cn, .slice ak T.kids.length ck] 37)).heap[w.heap.size]? = some (.cells #[i64 T.kind, i64 T.num, .slice an T.names.length cn, .slice ak T.kids.length ck] 37)) := heap_last w _
  have HBV : Hid (Below w.heap.size w (w.alloc (.cells #[i64 T.kind, i64 T.num, .slice an T.names.length cn, .slice ak T.kids.length ck] 37))) := below_one w _
  clear hR hS
  generalize T.depth = DP at *
  generalize T.count = CT at *
  generalize T.formed = FM at *
  go_enter Tryd.func11, Tryd.ntmps11
  go_upto_region 1 with fail
  obtain ⟨Z, hZ⟩ : ∃ Z, Z = w.heap.size := ⟨_, rfl⟩
  rw [← hZ] at HX ⊢
  clear hZ
  generalize w.alloc (.cells #[i64 T.kind, i64 T.num, .slice an T.names.length cn, .slice ak T.kids.length ck] 37) = V at *
  have yc0 : V.cell? ⟨Z, 0, none⟩ = some (i64 T.kind) := blk_cell HX.out 0
  have yc1 : V.cell? ⟨Z, 1, none⟩ = some (i64 T.num) := blk_cell HX.out 1
  have yc2 : V.cell? ⟨Z, 2, none⟩ = some (.slice an T.names.length cn) := blk_cell HX.out 2
  have yc3 : V.cell? ⟨Z, 3, none⟩ = some (.slice ak T.kids.length ck) := blk_cell HX.out 3
  have HC1 := hid (HDp.out V HBV.out)
  go_wp2_with fail
  refine HC1.out.mono ?_
  rintro e w1 ⟨rfl, hb1⟩
  have HB1 : Hid (Below w.heap.size w w1) := HBV.out.trans (hb1.mono HBV.out.size)
  have HX1 := hid (blk_below HX.out hb1)
  clear hb1 yc0 yc1 yc2 yc3
  have yc0 : w1.cell? ⟨Z, 0, none⟩ = some (i64 T.kind) := blk_cell HX1.out 0
  have yc1 : w1.cell? ⟨Z, 1, none⟩ = some (i64 T.num) := blk_cell HX1.out 1
  have yc2 : w1.cell? ⟨Z, 2, none⟩ = some (.slice an T.names.length cn) := blk_cell HX1.out 2
  have yc3 : w1.cell? ⟨Z, 3, none⟩ = some (.slice ak T.kids.length ck) := blk_cell HX1.out 3
  by_cases h6 : 6 < DP
  · have HF : Hid (E0 = 2) := by show _ = _; rw [HE0.out, if_neg (by omega)]
    have h6I : (6 : Int) < DP := by omega
    go_wp2_with fail
    go_ret
    exact ⟨by rw [HF.out]; rfl, HB1.out⟩
  · have h6I : decide ((6 : Int) < DP) = false := by simp; omega
    have HC2 := hid (HCt.out w1 HB1.out)
    go_wp2_with fail
    refine HC2.out.mono ?_
    rintro e w2 ⟨rfl, hb2⟩
    have HB2 : Hid (Below w.heap.size w w2) := HB1.out.trans (hb2.mono HB1.out.size)
    have HX2 := hid (blk_below HX1.out hb2)
    clear hb2 yc0 yc1 yc2 yc3
    have yc0 : w2.cell? ⟨Z, 0, none⟩ = some (i64 T.kind) := blk_cell HX2.out 0
    have yc1 : w2.cell? ⟨Z, 1, none⟩ = some (i64 T.num) := blk_cell HX2.out 1
    have yc2 : w2.cell? ⟨Z, 2, none⟩ = some (.slice an T.names.length cn) := blk_cell HX2.out 2
    have yc3 : w2.cell? ⟨Z, 3, none⟩ = some (.slice ak T.kids.length ck) := blk_cell HX2.out 3
    by_cases h7 : 100 < CT
    · have HF : Hid (E0 = 2) := by show _ = _; rw [HE0.out, if_neg (by omega)]
      have h7I : (100 : Int) < CT := by omega
      go_wp2_with fail
      go_ret
      exact ⟨by rw [HF.out]; rfl, HB2.out⟩
    · have HF : Hid (E0 = if FM = true then 0 else 4) := by show _ = _; rw [HE0.out, if_pos (by omega)]
      have h7I : decide ((100 : Int) < CT) = false := by simp; omega
      have HC3 := hid (HFm.out w2 HB2.out)
      clear HE0
      go_wp2_with fail
      refine HC3.out.mono ?_
      rintro e w3 ⟨rfl, hb3⟩
      have HB3 : Hid (Below w.heap.size w w3) := HB2.out.trans (hb3.mono HB2.out.size)
      clear hb3 yc0 yc1 yc2 yc3
      cases FM with
      | true =>
        go_wp2_with fail
        go_ret
        exact ⟨by rw [HF.out]; rfl, HB3.out⟩
      | false =>
        go_wp2_with fail
        go_ret
        exact ⟨by rw [HF.out]; rfl, HB3.out⟩
end Go.Proofs.YteecjilknembdaaDoor
