/- types.textOf of a record; types.Print: their contracts; no statement is proved in this text. -/
import Derived.Test.YtihbbgcpdgnhoaaGreatDoorTx
import Derived.Test.YtihbbgcpdgnhoaaGreatDoorOrd2
namespace Go.Proofs.YtihbbgcpdgnhoaaGreatDoor
open Go.ChangeShapes Go.WideShapes Go.ChangeAt Go.RowKit Go.Deep
attribute [local go_sem ↓] Go.wp_at_zero Go.wp_at_succ

theorem field_snoc (names : List Bs) (kids : List Ty) (i : Nat) (h1 : i < names.length) (h2 : i < kids.length) : (fieldL names (txtL kids)).take (i + 1) = (fieldL names (txtL kids)).take i ++ [names[i] ++ 58 :: kids[i].txt] := by
  rw [List.take_add_one, fieldL_get names (txtL kids) i h1 (by rw [txtL_len]; exact h2), txtL_get kids i h2]
  rfl
/-- The facts that a round of textOf's loop reads. -/
structure Sx (Z Y b ix : Nat) (oZ oY : Obj) (x : Bs) (W : World) : Prop where
  z : W.heap[Z]? = some oZ
  y : W.heap[Y]? = some oY
  c : W.cell? ⟨b, ix, none⟩ = some (str x)
theorem Sx.move {Z Y b ix : Nat} {oZ oY : Obj} {x : Bs} {W W' : World} (h : Sx Z Y b ix oZ oY x W) (h1 : W'.heap[Z]? = W.heap[Z]?) (h2 : W'.heap[Y]? = W.heap[Y]?) (h3 : W'.heap[b]? = W.heap[b]?) : Sx Z Y b ix oZ oY x W' :=
  ⟨h1.trans h.z, h2.trans h.y, by rw [World.cell?_of_block (w := W) h3]; exact h.c⟩
theorem Sx.below {Z Y b ix : Nat} {oZ oY : Obj} {x : Bs} {W W' : World} (h : Sx Z Y b ix oZ oY x W) (hb : Below W.heap.size W W') : Sx Z Y b ix oZ oY x W' :=
  h.move (hb.block Z (blk_lt h.z)) (hb.block Y (blk_lt h.y)) (hb.block b (World.block_lt_of_cell? W _ h.c))
set_option maxRecDepth 100000 in
set_option maxHeartbeats 12800000 in
theorem text_4 (names : List Bs) (kids : List Ty) (w : World) (S : Nat → Prop) (nv kv : Value) (hP : Pw w) (hl1 : names.length = kids.length) (hl2 : 1 ≤ kids.length) (hl3 : kids.length ≤ 12) (hns : ∀ x ∈ names, x.length ≤ 8) (hln : ∀ T ∈ kids, T.txt.length ≤ 100000) (hft : (fieldT names (txtL kids)).length ≤ 100000) (hR : Rd w S (.mk 4 0 names kids) nv kv)
    (hih : ∀ T ∈ kids, ∀ (w : World) (nv kv : Value), Pw w → Rd w S T nv kv → Calls Tryz.prog 36 #[tyV T.kind T.num nv kv] w fun e w' => e = .returned (str T.txt) ∧ Below w.heap.size w w') : Calls Tryz.prog 36 #[tyV 4 0 nv kv] w fun e w' => e = .returned (str (Ty.mk 4 0 names kids).txt) ∧ Below w.heap.size w w' := by
  have HRES : Hid (str (Ty.mk 4 0 names kids).txt = .string (((⟨#[114, 40]⟩ : ByteArray) ++ ⟨(fieldT names (txtL kids)).toArray⟩) ++ ⟨#[41]⟩)) := by
    show _ = _
    rw [txt_4]
    refine congrArg Value.string ?_
    apply ByteArray.ext
    simp
  have HJ : Hid (Lib.join (fieldL names (txtL kids)) [44] = fieldT names (txtL kids)) := join_field names (txtL kids) (by rw [txtL_len]; exact hl1)
  have HFL : Hid ((fieldL names (txtL kids)).length = kids.length) := by show _ = _; rw [fieldL_len _ _ (by rw [txtL_len]; exact hl1), hl1]
  have HSN : Hid (∀ i (h1 : i < names.length) (h2 : i < kids.length), (fieldL names (txtL kids)).take (i + 1) = (fieldL names (txtL kids)).take i ++ [names[i] ++ 58 :: kids[i].txt]) := field_snoc names kids
  have hbf := bz (fieldT names (txtL kids))
  generalize (Ty.mk 4 0 names kids).txt = TX at *
  generalize fieldL names (txtL kids) = FL at *
  generalize fieldT names (txtL kids) = FT at *
  have HP := hid hP
  have HIH := hid hih
  have HL1 := hid hl1
  have HNS := hid hns
  have HLN := hid hln
  clear hl1 hns hln
  have HRd : Hid (Rd w S (.mk 4 0 names kids) nv kv) := hR
  obtain ⟨⟨an, cn, rfl, hnl, hz1, hz2⟩, hkl, ak, ck, rfl, hz3⟩ := hR.kid
  clear hz1 hz2 hz3
  unfold maxLen at hnl hkl
  have HX : Hid ((w.alloc (.cells #[i64 4, i64 0, .slice an names.length cn, .slice ak kids.length ck] 25)).heap[w.heap.size]? = some (.cells #[i64 4, i64 0, .slice an names.length cn, .slice ak kids.length ck] 25)) := heap_last w _
  have HBV : Hid (Below w.heap.size w (w.alloc (.cells #[i64 4, i64 0, .slice an names.length cn, .slice ak kids.length ck] 25))) := below_one w _
  clear hR hP hih
  go_enter Tryz.func36, Tryz.ntmps36
  go_upto_region 1 with fail
  obtain ⟨Z, hZ⟩ : ∃ Z, Z = w.heap.size := ⟨_, rfl⟩
  rw [← hZ] at HX ⊢
  generalize w.alloc (.cells #[i64 4, i64 0, .slice an names.length cn, .slice ak kids.length ck] 25) = V at *
  have y0 : V.cell? ⟨Z, 0, none⟩ = some (i64 4) := blk_cell HX.out 0
  have y1 : V.cell? ⟨Z, 1, none⟩ = some (i64 0) := blk_cell HX.out 1
  have y2 : V.cell? ⟨Z, 2, none⟩ = some (.slice an names.length cn) := blk_cell HX.out 2
  have y3 : V.cell? ⟨Z, 3, none⟩ = some (.slice ak kids.length ck) := blk_cell HX.out 3
  have hZV : Z < V.heap.size := blk_lt HX.out
  have HZ := hid hZ
  clear hZ
  have HIT : Hid (Calls Tryz.prog 59 #[i64 0] V fun e w' => e = .returned (str (Lib.itoa 0)) ∧ Below V.heap.size V w') := itoa_w V (HP.out.below (HZ.out ▸ HBV.out)) 0 (by omega) (by omega)
  generalize Lib.itoa 0 = IT at *
  go_wp2_with fail
  refine HIT.out.mono ?_
  rintro e w1 ⟨rfl, hb1⟩
  have HB1 : Hid (Below w.heap.size w w1) := HBV.out.trans (hb1.mono HBV.out.size)
  have HX1 := hid (blk_below HX.out hb1)
  have HZlo : Hid (w.heap.size ≤ Z) := by show _ ≤ _; have := HZ.out; omega
  clear hb1 y0 y1 y2 y3
  have y0 : w1.cell? ⟨Z, 0, none⟩ = some (i64 4) := blk_cell HX1.out 0
  have y3 : w1.cell? ⟨Z, 3, none⟩ = some (.slice ak kids.length ck) := blk_cell HX1.out 3
  go_wp2_with fail
  go_loopw [4, 35] (fun a u wr => ∃ (i : Nat), i ≤ kids.length ∧ u = i64 i ∧ Hid (wr.ownsRow w.heap.size 9 1 a i ((FL.take i).map str)) ∧ Hid (wr.heap[Z]? = some (.cells #[i64 4, i64 0, .slice an names.length cn, .slice ak kids.length ck] 25)) ∧ Hid (Below w.heap.size w wr)) (fun _ u _ => kids.length - (intOf u).toNat)
  case atStart => exact ⟨0, by omega, rfl, ⟨rfl, Or.inl ⟨rfl, rfl⟩⟩, HX1, HB1⟩
  case round =>
    obtain ⟨i, hi, rfl, HO, HXr, HB⟩ := hrel
    obtain ⟨fa, fc, rfl, _⟩ := own_slice HO.out
    by_cases hlt : i < kids.length
    · clear y0 y3
      obtain ⟨_, _, ak1, ck1, he, hkid⟩ := (HRd.out.under HB.out).kid
      cases he
      obtain ⟨b, off, nv2, kv2, rfl, hbS, hblt, hr, hrd⟩ := hkid i hlt
      obtain ⟨T, hT⟩ : ∃ T, T = kids[i] := ⟨_, rfl⟩
      rw [← hT] at hr hrd
      have HTm : Hid (T ∈ kids) := by show _; rw [hT]; exact List.getElem_mem hlt
      have HTe : Hid (T = kids[i]) := hT
      have c0 : wr.cell? ⟨b, off + i * 4, none⟩ = some (i64 T.kind) := hr 0 _ rfl
      have c1 : wr.cell? ⟨b, off + i * 4 + 1, none⟩ = some (i64 T.num) := hr 1 _ rfl
      have c2 : wr.cell? ⟨b, off + i * 4 + 2, none⟩ = some nv2 := hr 2 _ rfl
      have c3 : wr.cell? ⟨b, off + i * 4 + 3, none⟩ = some kv2 := hr 3 _ rfl
      obtain ⟨an2, cn2, rfl, ak2, ck2, rfl⟩ := hrd.form
      have HX2 : Hid ((wr.alloc (.cells #[i64 T.kind, i64 T.num, .slice an2 T.names.length cn2, .slice ak2 T.kids.length ck2] 25)).heap[wr.heap.size]? = some (.cells #[i64 T.kind, i64 T.num, .slice an2 T.names.length cn2, .slice ak2 T.kids.length ck2] 25)) := heap_last wr _
      have HBX : Hid (Below wr.heap.size wr (wr.alloc (.cells #[i64 T.kind, i64 T.num, .slice an2 T.names.length cn2, .slice ak2 T.kids.length ck2] 25))) := below_one wr _
      have HRT : Hid (Rd (wr.alloc (.cells #[i64 T.kind, i64 T.num, .slice an2 T.names.length cn2, .slice ak2 T.kids.length ck2] 25)) _ T (.slice an2 T.names.length cn2) (.slice ak2 T.kids.length ck2)) := hrd.under HBX.out
      clear hT hr hrd hkid hbS
      go_upto_region 13 with fail
      obtain ⟨Y, hY⟩ : ∃ Y, Y = wr.heap.size := ⟨_, rfl⟩
      rw [← hY] at HX2 ⊢
      generalize wr.alloc (.cells #[i64 T.kind, i64 T.num, .slice an2 T.names.length cn2, .slice ak2 T.kids.length ck2] 25) = X at *
      have z0 : X.cell? ⟨Y, 0, none⟩ = some (i64 T.kind) := blk_cell HX2.out 0
      have z1 : X.cell? ⟨Y, 1, none⟩ = some (i64 T.num) := blk_cell HX2.out 1
      have z2 : X.cell? ⟨Y, 2, none⟩ = some (.slice an2 T.names.length cn2) := blk_cell HX2.out 2
      have z3 : X.cell? ⟨Y, 3, none⟩ = some (.slice ak2 T.kids.length ck2) := blk_cell HX2.out 3
      have hYX : Y < X.heap.size := blk_lt HX2.out
      have HY := hid hY
      clear c0 c1 c2 c3 hY
      obtain ⟨hs, _⟩ := (HRd.out.under HB.out).kid
      obtain ⟨ao', cap', he, hat⟩ := hs.at
      cases he
      have hlt2 : i < names.length := by have := HL1.out; omega
      obtain ⟨nb, no, rfl, hnlt, cN⟩ := hat i hlt2
      have hnlo : nb < w.heap.size := by
        obtain ⟨hs0, _⟩ := HRd.out.kid
        obtain ⟨_, _, he0, hat0⟩ := hs0.at
        cases he0
        obtain ⟨b0, o0, he1, h1, _⟩ := hat0 i hlt2
        cases he1
        exact h1
      obtain ⟨nm, hnm⟩ : ∃ nm, nm = names[i] := ⟨_, rfl⟩
      rw [← hnm] at cN
      have hnm8 : nm.length ≤ 8 := by rw [hnm]; exact HNS.out _ (List.getElem_mem hlt2)
      have HSN2 : Hid (FL.take (i + 1) = FL.take i ++ [nm ++ 58 :: T.txt]) := by show _ = _; rw [HSN.out i hlt2 hlt, ← hnm, ← HTe.out]
      have HCA := hid (HIH.out T HTm.out)
      have hTl := HLN.out T HTm.out
      have hbn := bz nm
      have hbt := bz T.txt
      have hFl : (FL.take i).length = i := by rw [List.length_take, HFL.out]; omega
      have HFl := hid hFl
      have hiN : (i : Int) < names.length := by omega
      clear hnm hat hs hFl
      have HSX : Hid (Sx Z Y nb (no + i) (.cells #[i64 4, i64 0, .slice (some ⟨nb, no, none⟩) names.length cn, .slice (some ⟨b, off, none⟩) kids.length ck] 25) (.cells #[i64 T.kind, i64 T.num, .slice an2 T.names.length cn2, .slice ak2 T.kids.length ck2] 25) nm X.drew) := ⟨(blk_below HXr.out HBX.out : X.heap[Z]? = _), HX2.out, by have := HBX.out.cell (p := ⟨nb, no + i, none⟩) hnlt; exact this.trans cN⟩
      have HOX : Hid (X.ownsRow w.heap.size 9 1 (.slice fa i fc) i ((FL.take i).map str)) := own_keep1 HO.out (fun k hk => HBX.out.block k (HO.out.lt k hk).2)
      have HBXw : Hid (Below w.heap.size w X) := HB.out.trans (HBX.out.mono HB.out.size)
      clear hnlt cN
      generalize hTT : T.txt = TT at *
      generalize hFF : FL.take i = FF at *
      clear hTT hFF HTe HX2
      refine wp_region_noPanic ?_
      refine wp_region_last (Sx Z Y nb (no + i) (.cells #[i64 4, i64 0, .slice (some ⟨nb, no, none⟩) names.length cn, .slice (some ⟨b, off, none⟩) kids.length ck] 25) (.cells #[i64 T.kind, i64 T.num, .slice an2 T.names.length cn2, .slice ak2 T.kids.length ck2] 25) nm) 12 (by kernel_rfl) ?_
      refine wpL_take 0 40 (.slice fa i fc) [] rfl rfl (by kernel_rfl) (by decide) (by kernel_rfl) (by kernel_rfl) (by kernel_rfl) (fun _ _ _ h => h) HSX.out (by rfl) (fun W hW => by go_simp) ?_
      simp only [Act.put, List.setIfInBounds_toArray, List.set_cons_zero, List.set_cons_succ]
      refine wpL_take 1 41 (.pointer (some ⟨Z, 2, none⟩)) [] rfl rfl (by kernel_rfl) (by decide) (by kernel_rfl) (by kernel_rfl) (by kernel_rfl) (fun _ _ _ h => h) HSX.out (by rfl) (fun W hW => by go_simp) ?_
      simp only [Act.put, List.setIfInBounds_toArray, List.set_cons_zero, List.set_cons_succ]
      refine wpL_take 2 42 (.slice (some ⟨nb, no, none⟩) names.length cn) [] rfl rfl (by kernel_rfl) (by decide) (by kernel_rfl) (by kernel_rfl) (by kernel_rfl) (fun _ _ _ h => h) HSX.out (by rfl) (fun W hW => by have d0 : W.cell? ⟨Z, 2, none⟩ = some (.slice (some ⟨nb, no, none⟩) names.length cn) := blk_cell hW.z 2; go_simp) ?_
      simp only [Act.put, List.setIfInBounds_toArray, List.set_cons_zero, List.set_cons_succ]
      refine wpL_take 3 43 (i64 i) [] rfl rfl (by kernel_rfl) (by decide) (by kernel_rfl) (by kernel_rfl) (by kernel_rfl) (fun _ _ _ h => h) HSX.out (by rfl) (fun W hW => by go_simp) ?_
      simp only [Act.put, List.setIfInBounds_toArray, List.set_cons_zero, List.set_cons_succ]
      refine wpL_take 4 44 (.pointer (some ⟨nb, no + i, none⟩)) [] rfl rfl (by kernel_rfl) (by decide) (by kernel_rfl) (by kernel_rfl) (by kernel_rfl) (fun _ _ _ h => h) HSX.out (by rfl) (fun W hW => by go_simp) ?_
      simp only [Act.put, List.setIfInBounds_toArray, List.set_cons_zero, List.set_cons_succ]
      refine wpL_take 5 45 (str nm) [] rfl rfl (by kernel_rfl) (by decide) (by kernel_rfl) (by kernel_rfl) (by kernel_rfl) (fun _ _ _ h => h) HSX.out (by rfl) (fun W hW => by have d0 := hW.c; go_simp) ?_
      simp only [Act.put, List.setIfInBounds_toArray, List.set_cons_zero, List.set_cons_succ]
      refine wpL_take 6 46 (.string ((⟨nm.toArray⟩ : ByteArray) ++ ⟨#[58]⟩)) [] rfl rfl (by kernel_rfl) (by decide) (by kernel_rfl) (by kernel_rfl) (by kernel_rfl) (fun _ _ _ h => h) HSX.out (by rfl) (fun W hW => by go_simp; omega) ?_
      simp only [Act.put, List.setIfInBounds_toArray, List.set_cons_zero, List.set_cons_succ]
      refine wpL_take 7 47 (.agg #[i64 T.kind, i64 T.num, .slice an2 T.names.length cn2, .slice ak2 T.kids.length ck2]) [] rfl rfl (by kernel_rfl) (by decide) (by kernel_rfl) (by kernel_rfl) (by kernel_rfl) (fun _ _ _ h => h) HSX.out (by rfl) (fun W hW => by have d0 : W.cell? ⟨Y, 0, none⟩ = some (i64 T.kind) := blk_cell hW.y 0; have d1 : W.cell? ⟨Y, 1, none⟩ = some (i64 T.num) := blk_cell hW.y 1; have d2 : W.cell? ⟨Y, 2, none⟩ = some (.slice an2 T.names.length cn2) := blk_cell hW.y 2; have d3 : W.cell? ⟨Y, 3, none⟩ = some (.slice ak2 T.kids.length ck2) := blk_cell hW.y 3; go_simp) ?_
      simp only [Act.put, List.setIfInBounds_toArray, List.set_cons_zero, List.set_cons_succ]
      refine wpL_one 8 rfl (by kernel_rfl) (by rfl) (fun K hK => ?_)
      go_simp
      refine (HCA.out X.drew _ _ (HP.out.below (below_drewN HBXw.out 1)) (HRT.out.under ⟨rfl, rfl, rfl, Nat.le_refl _, fun _ _ => rfl⟩)).mono ?_
      rintro e w4 ⟨rfl, hb4⟩
      have hb4' : Below X.heap.size X w4 := ⟨hb4.os, hb4.tape, hb4.output, hb4.size, hb4.block⟩
      have HS4 : Hid (Sx Z Y nb (no + i) (.cells #[i64 4, i64 0, .slice (some ⟨nb, no, none⟩) names.length cn, .slice (some ⟨b, off, none⟩) kids.length ck] 25) (.cells #[i64 T.kind, i64 T.num, .slice an2 T.names.length cn2, .slice ak2 T.kids.length ck2] 25) nm w4) := HSX.out.below hb4
      have HO4 : Hid (w4.ownsRow w.heap.size 9 1 (.slice fa i fc) i (FF.map str)) := own_keep1 HOX.out (fun k hk => hb4'.block k (HOX.out.lt k hk).2)
      have HB4 : Hid (Below w.heap.size w w4) := HBXw.out.trans (hb4'.mono HBXw.out.size)
      clear hb4 hb4'
      go_simp
      refine hK.out _ _ (fun _ => HS4.out) ?_
      clear hK K
      have hstr : Value.string (((⟨nm.toArray⟩ : ByteArray) ++ ⟨#[58]⟩) ++ ⟨TT.toArray⟩) = str (nm ++ 58 :: TT) := by
        refine congrArg Value.string ?_
        apply ByteArray.ext
        simp
      refine wpL_take 9 49 (str (nm ++ 58 :: TT)) [] rfl rfl (by kernel_rfl) (by decide) (by kernel_rfl) (by kernel_rfl) (by kernel_rfl) (fun _ _ _ h => h) HS4.out (by rfl) (fun W hW => by rw [← hstr]; go_simp; omega) ?_
      simp only [Act.put, List.setIfInBounds_toArray, List.set_cons_zero, List.set_cons_succ]
      have HOE : Hid (w4.ownsRow w.heap.size 9 1 (.slice fa i fc) FF.length (FF.map str)) := by show World.ownsRow _ _ _ _ _ _ _; rw [HFl.out]; exact HO4.out
      obtain ⟨ao9, cap9, Y9, hrun, hown, hfr, hfar, hnew⟩ := push_name HOE.out (nm ++ 58 :: TT) (by rw [HFl.out]; omega) HB4.out.size
      rw [HFl.out] at hrun hown hnew
      have HRUN := hid hrun
      have HSA : Hid (Sx Z Y nb (no + i) (.cells #[i64 4, i64 0, .slice (some ⟨nb, no, none⟩) names.length cn, .slice (some ⟨b, off, none⟩) kids.length ck] 25) (.cells #[i64 T.kind, i64 T.num, .slice an2 T.names.length cn2, .slice ak2 T.kids.length ck2] 25) nm (w4.alloc (.cells #[str (nm ++ 58 :: TT)] 9))) := HS4.out.below (below_one w4 _)
      have hg1 : some nb ≠ (Value.slice fa i fc).ownBlock := fun e => by have := (HO4.out.lt nb e.symm).1; omega
      have HS9 : Hid (Sx Z Y nb (no + i) (.cells #[i64 4, i64 0, .slice (some ⟨nb, no, none⟩) names.length cn, .slice (some ⟨b, off, none⟩) kids.length ck] 25) (.cells #[i64 T.kind, i64 T.num, .slice an2 T.names.length cn2, .slice ak2 T.kids.length ck2] 25) nm Y9) := ⟨hfr.kept _ _ HS4.out.z (by rfl), hfr.kept _ _ HS4.out.y (by rfl), by rw [World.cell?_of_block (w := w4) (hfar nb (World.block_lt_of_cell? w4 _ HS4.out.c) hg1)]; exact HS4.out.c⟩
      have HO9 : Hid (Y9.ownsRow w.heap.size 9 1 (.slice ao9 (i + 1) cap9) (i + 1) ((FL.take (i + 1)).map str)) := by show World.ownsRow _ _ _ _ _ _ _; rw [HSN2.out]; have := hown; rw [List.length_append, HFl.out] at this; exact this
      have HB9 : Hid (Below w.heap.size w Y9) := HB4.out.trans hfr.below
      clear hrun hown hfr hfar hnew hg1 hstr
      refine wpL_one 10 rfl (by kernel_rfl) (by rfl) (fun K hK => ?_)
      go_simp
      refine hK.out _ _ (fun _ => HSA.out) ?_
      clear hK K
      refine wpL_one 11 rfl (by kernel_rfl) (by rfl) (fun K hK => ?_)
      refine wp_app_run (.tmp 40) (.tmp 50) 22 rfl _ _ (by rfl) (by rfl) _ rfl _ _ HRUN.out ?_
      refine hK.out _ _ (fun _ => HS9.out) ?_
      clear hK K
      simp only [Act.put, List.setIfInBounds_toArray]
      refine wpL_one 12 rfl (by kernel_rfl) (by rfl) (fun K hK => ?_)
      go_simp
      refine hK.out _ _ (fun h => absurd rfl h) ?_
      clear hK K
      refine wpL_done (by kernel_rfl) ?_
      refine NoPanic.normal ?_
      go_wp2_with fail
      exact ⟨⟨i + 1, by omega, by go_num, HO9, HS9.out.z, HB9⟩, by simp [intOf]; omega⟩
    · have he : i = kids.length := by omega
      have HOF : Hid (wr.ownsRow w.heap.size 9 1 (.slice fa kids.length fc) kids.length (FL.map str)) := by
        show World.ownsRow _ _ _ _ _ _ _
        have := HO.out
        rw [he, List.take_of_length_le (by rw [HFL.out]; omega)] at this
        exact this
      subst he
      obtain ⟨g, cur, rfl, hg, hcap⟩ : ∃ g cur, fa = some ⟨g, 0, none⟩ ∧ wr.heap[g]? = some (.cells cur 9) ∧ kids.length ≤ fc := by
        rcases HOF.out.2 with ⟨_, h0⟩ | ⟨g, cap, cur, hv, _, hg, hc, _⟩
        · omega
        · cases hv
          exact ⟨g, cur, rfl, hg, hc⟩
      have HJN : Hid (Calls Tryz.prog 60 #[.slice (some ⟨g, 0, none⟩) kids.length fc, str [44]] wr fun e w' => e = .returned (str FT) ∧ Below wr.heap.size wr w') := by
        have hmm : (FL.map ba).map (·.data.toList) = FL := by rw [List.map_map]; exact (List.map_congr_left (fun x _ => rfl)).trans (List.map_id FL)
        have hj := Tryz.strings_Join g 0 fc (FL.map ba) ⟨#[44]⟩ wr (fun j x hx => by
            rw [List.getElem?_map] at hx
            obtain ⟨y, h1, rfl⟩ := Option.map_eq_some_iff.1 hx
            have hj := (List.getElem?_eq_some_iff.1 h1).1
            rw [HFL.out] at hj
            rw [Nat.zero_add, HOF.out.cellAt j (by omega)]
            simp [h1]) (blk_lt hg) (by simp only [List.length_map, HFL.out]; omega) (by simp only [List.length_map, HFL.out]; exact hcap) (by rw [hmm]; show (Lib.join FL [44]).length ≤ _; rw [HJ.out]; omega)
        rw [hmm] at hj
        have e1 : (FL.map ba).length = kids.length := by simp only [List.length_map, HFL.out]
        rw [e1] at hj
        have e2 : Lib.join FL [44] = FT := HJ.out
        change Calls Tryz.prog 60 #[.slice (some ⟨g, 0, none⟩) kids.length fc, str [44]] wr (fun e w' => e = .returned (str (Lib.join FL [44])) ∧ Below wr.heap.size wr w') at hj
        rw [e2] at hj
        exact hj
      clear hg hcap y0 y3
      go_wp2_with fail
      refine HJN.out.mono ?_
      rintro e w5 ⟨rfl, hb5⟩
      have HB5 : Hid (Below w.heap.size w w5) := HB.out.trans (hb5.mono HB.out.size)
      clear hb5
      go_wp2_with fail
      go_ret
      exact ⟨by rw [HRES.out]; rfl, HB5.out⟩
theorem textOf_ok : ∀ (M : Nat) (T : Ty), T.count ≤ M → T.count ≤ 1000 → T.formed = true → ∀ (w : World) (S : Nat → Prop) (nv kv : Value), Pw w → Rd w S T nv kv → Calls Tryz.prog 36 #[tyV T.kind T.num nv kv] w fun e w' => e = .returned (str T.txt) ∧ Below w.heap.size w w'
  | 0, T, hM, _, _, _, _, _, _, _, _ => by have := count_pos T; omega
  | M + 1, .mk k n names kids, hM, hC, hf, w, S, nv, kv, hP, hR => by
    have hf0 := hf
    simp only [Ty.count] at hM hC
    simp only [Ty.formed, Bool.and_eq_true] at hf
    obtain ⟨hn, hl⟩ := hf
    have hnode := nodeB_node hn
    have ih : ∀ T ∈ kids, ∀ (w : World) (nv kv : Value), Pw w → Rd w S T nv kv → Calls Tryz.prog 36 #[tyV T.kind T.num nv kv] w fun e w' => e = .returned (str T.txt) ∧ Below w.heap.size w w' := fun T hT w nv kv hP hR => textOf_ok M T (by have := countL_mem hT; omega) (by have := countL_mem hT; omega) (formedL_mem hl hT) w S nv kv hP hR
    have hle : ∀ T ∈ kids, T.txt.length ≤ 100000 := fun T hT => by have h1 := txt_le T.count T (Nat.le_refl _) (formedL_mem hl hT); have h2 := countL_mem hT; omega
    generalize hkn : kids.length = kn at hnode
    cases hnode with
    | int h0 h1 =>
      obtain rfl := List.eq_nil_of_length_eq_zero hkn
      exact text_1 n w S nv kv hP h0 h1 hR
    | text h0 h1 =>
      obtain rfl := List.eq_nil_of_length_eq_zero hkn
      exact text_2 n w S nv kv hP h0 h1 hR
    | list h0 h1 =>
      obtain ⟨T, rfl⟩ : ∃ T, kids = [T] := by cases kids with
        | nil => simp at hkn
        | cons T r => have : r = [] := by simpa using hkn
                      exact ⟨T, by rw [this]⟩
      exact text_3 n T w S nv kv hP h0 h1 hR (hle T (by simp)) (fun w nv kv hP hR => ih T (by simp) w nv kv hP hR)
    | rc h0 h1 h2 h3 =>
      have hft := fieldT_le names kids (by omega) (fun x hx => nameB_le (namesTo_mem h3 hx)) (fun T hT => txt_le T.count T (Nat.le_refl _) (formedL_mem hl hT))
      exact text_4 names kids w S nv kv hP (by omega) (by omega) (by omega) (fun x hx => nameB_le (namesTo_mem h3 hx)) hle (by omega) hR ih
end Go.Proofs.YtihbbgcpdgnhoaaGreatDoor
