/- vals.At of what fits: its contract; no statement is proved in this text. -/
import Derived.Test.YtgiemijhndanjaaDoorPl
namespace Go.Proofs.YtgiemijhndanjaaDoor
open Go.ChangeShapes Go.WideShapes Go.ChangeAt Go.RowKit Go.Deep
attribute [local go_sem ↓] Go.wp_at_zero Go.wp_at_succ

theorem Rd.via {w wr wr' : World} {T : Ty} {nv kv : Value} (h : Rd wr (fun b => b < w.heap.size) T nv kv) (h1 : Below w.heap.size w wr) (h2 : Below w.heap.size w wr') (hz : wr.heap.size ≤ wr'.heap.size) : Rd wr' (fun b => b < w.heap.size) T nv kv := h.move hz fun b hb _ => ⟨hb, (h2.block b hb).trans (h1.block b hb).symm⟩
theorem Vd.via {w wr wr' : World} {V : Vl} {kv : Value} (h : Vd wr (fun b => b < w.heap.size) V kv) (h1 : Below w.heap.size w wr) (h2 : Below w.heap.size w wr') (hz : wr.heap.size ≤ wr'.heap.size) : Vd wr' (fun b => b < w.heap.size) V kv := h.move hz fun b hb _ => ⟨hb, (h2.block b hb).trans (h1.block b hb).symm⟩
/-- What At answers of what fits. -/
def AtOk (w : World) (ro : Option Vl) (e : Ending) (w' : World) : Prop := Below w.heap.size w w' ∧ (ro = none → e = .returned (.tuple #[zAgg, i64 6])) ∧ ∀ U, ro = some U → ∃ a c, e = .returned (.tuple #[vlV U (.slice a U.kids.length c), i64 0]) ∧ Vd w' (fun b => w.heap.size ≤ b) U (.slice a U.kids.length c)
structure So4 (Z Y b o : Nat) (oz oy : Obj) (l : List Value) (W : World) : Prop where
  z : W.heap[Z]? = some oz
  y : W.heap[Y]? = some oy
  r : W.rangeAt b o l
theorem fits_first {V : Vl} {T : Ty} (h : fitsB V T = true) : T.formed = true ∧ firstF V T = [] := by
  unfold fitsB at h
  simp only [Bool.and_eq_true, decide_eq_true_eq] at h
  exact ⟨err_formed h.1, List.eq_nil_of_length_eq_zero h.2⟩
set_option maxRecDepth 100000 in
set_option maxHeartbeats 12800000 in
theorem at_in (V : Vl) (T : Ty) (way : List Bs) (w : World) (kv nv tv wv : Value) (hV : Vd w (fun _ => True) V kv) (hR : Rd w (fun _ => True) T nv tv) (hw : Strs w (fun _ => True) wv way) (hP : Pw w) (hsz : V.size ≤ 10000) (hfit : fitsB V T = true)
    (hcp : ∀ U, atW way V T = some U → ∀ W kv, Vd W (fun b => b < w.heap.size) U kv → Calls Tryd.prog 25 #[vlV U kv] W (MkOk W U)) : Calls Tryd.prog 26 #[vlV V kv, tyV T.kind T.num nv tv, wv] w (AtOk w (atW way V T)) := by
  obtain ⟨hfm, hfn⟩ := fits_first hfit
  have HFT : Hid (∀ W kv nv tv, Vd W (fun _ => True) V kv → Rd W (fun _ => True) T nv tv → Calls Tryd.prog 14 #[vlV V kv, tyV T.kind T.num nv tv] W fun e w' => e = .returned (.bool true) ∧ Below W.heap.size W w') := fun W kv nv tv h1 h2 => by
    have := fits_ok V T W _ _ kv nv tv h1 h2 (by omega)
    rw [hfit] at this
    exact this
  obtain ⟨ro, hro⟩ : ∃ ro, ro = atW way V T := ⟨_, rfl⟩
  rw [← hro] at hcp ⊢
  have HRo0 : Hid (ro = atW (way.drop 0) V T) := hro
  have HCP := hid hcp
  have HWY := hid hw
  have HP := hid hP
  obtain ⟨aw, cw, rfl, hwl, _, _⟩ := hw
  unfold maxLen at hwl
  have HVd : Hid (Vd w (fun b => b < w.heap.size) V kv) := hV.mono (fun b _ h => h)
  have HRd : Hid (Rd w (fun b => b < w.heap.size) T nv tv) := hR.mono (fun b _ h => h)
  have HV2 := hid hV
  have HR2 := hid hR
  obtain ⟨ak, ck, rfl⟩ := hV.form
  obtain ⟨an, cn, rfl, at_, ct, rfl⟩ := hR.form
  have HX : Hid ((((w.alloc (.cells #[i64 V.kind, i64 V.num, str V.s, .slice ak V.kids.length ck] 24)).alloc (.cells #[i64 T.kind, i64 T.num, .slice an T.names.length cn, .slice at_ T.kids.length ct] 28)).alloc (zO 24)).heap[w.heap.size]? = some (.cells #[i64 V.kind, i64 V.num, str V.s, .slice ak V.kids.length ck] 24)) := blk_alloc (blk_alloc (heap_last w _) _) _
  have HY : Hid ((((w.alloc (.cells #[i64 V.kind, i64 V.num, str V.s, .slice ak V.kids.length ck] 24)).alloc (.cells #[i64 T.kind, i64 T.num, .slice an T.names.length cn, .slice at_ T.kids.length ct] 28)).alloc (zO 24)).heap[w.heap.size + 1]? = some (.cells #[i64 T.kind, i64 T.num, .slice an T.names.length cn, .slice at_ T.kids.length ct] 28)) := blk_alloc (heap_at3 _ _ _ (by simp)) _
  have HR0 : Hid ((((w.alloc (.cells #[i64 V.kind, i64 V.num, str V.s, .slice ak V.kids.length ck] 24)).alloc (.cells #[i64 T.kind, i64 T.num, .slice an T.names.length cn, .slice at_ T.kids.length ct] 28)).alloc (zO 24)).heap[w.heap.size + 2]? = some (zO 24)) := heap_at3 _ _ _ (by simp)
  have HBV : Hid (Below w.heap.size w (((w.alloc (.cells #[i64 V.kind, i64 V.num, str V.s, .slice ak V.kids.length ck] 24)).alloc (.cells #[i64 T.kind, i64 T.num, .slice an T.names.length cn, .slice at_ T.kids.length ct] 28)).alloc (zO 24))) := ((below_one w _).trans ((below_one _ _).mono (by simp))).trans ((below_one _ _).mono (by simp; omega))
  have HSz := hid hsz
  have HFm := hid hfm
  have HFn := hid hfn
  clear hV hR hP hro hcp hfit hfm hfn
  go_enter Tryd.func26, Tryd.ntmps26
  go_upto_region 1 with fail
  generalize ((w.alloc (.cells #[i64 V.kind, i64 V.num, str V.s, .slice ak V.kids.length ck] 24)).alloc (.cells #[i64 T.kind, i64 T.num, .slice an T.names.length cn, .slice at_ T.kids.length ct] 28)).alloc (zO 24) = V0 at *
  obtain ⟨Z, hZ⟩ : ∃ Z, Z = w.heap.size := ⟨_, rfl⟩
  obtain ⟨Y, hY⟩ : ∃ Y, Y = w.heap.size + 1 := ⟨_, rfl⟩
  obtain ⟨R, hR⟩ : ∃ R, R = w.heap.size + 2 := ⟨_, rfl⟩
  have HZ : Hid (w.heap.size ≤ Z ∧ w.heap.size ≤ Y ∧ w.heap.size ≤ R ∧ Z ≠ Y ∧ Z ≠ R ∧ Y ≠ R) := by show _ ∧ _; omega
  rw [← hZ] at HX
  rw [← hY] at HY
  rw [← hR] at HR0
  rw [← hR, ← hY, ← hZ]
  clear hZ hY hR
  have zc0 : V0.cell? ⟨Z, 0, none⟩ = some (i64 V.kind) := blk_cell HX.out 0
  have zc1 : V0.cell? ⟨Z, 1, none⟩ = some (i64 V.num) := blk_cell HX.out 1
  have zc2 : V0.cell? ⟨Z, 2, none⟩ = some (str V.s) := blk_cell HX.out 2
  have zc3 : V0.cell? ⟨Z, 3, none⟩ = some (.slice ak V.kids.length ck) := blk_cell HX.out 3
  have yc0 : V0.cell? ⟨Y, 0, none⟩ = some (i64 T.kind) := blk_cell HY.out 0
  have yc1 : V0.cell? ⟨Y, 1, none⟩ = some (i64 T.num) := blk_cell HY.out 1
  have yc2 : V0.cell? ⟨Y, 2, none⟩ = some (.slice an T.names.length cn) := blk_cell HY.out 2
  have yc3 : V0.cell? ⟨Y, 3, none⟩ = some (.slice at_ T.kids.length ct) := blk_cell HY.out 3
  have HC1 := hid (HFT.out V0 _ _ _ (HV2.out.under HBV.out) (HR2.out.under HBV.out))
  clear HFT
  go_wp2_with fail
  refine HC1.out.mono ?_
  rintro e w1 ⟨rfl, hb1⟩
  have HB1 : Hid (Below w.heap.size w w1) := HBV.out.trans (hb1.mono HBV.out.size)
  have HX1 : Hid (w1.heap[Z]? = some (.cells #[i64 V.kind, i64 V.num, str V.s, .slice ak V.kids.length ck] 24)) := blk_below HX.out hb1
  have HY1 : Hid (w1.heap[Y]? = some (.cells #[i64 T.kind, i64 T.num, .slice an T.names.length cn, .slice at_ T.kids.length ct] 28)) := blk_below HY.out hb1
  have HR1 : Hid (w1.heap[R]? = some (zO 24)) := blk_below HR0.out hb1
  have HV1 : Hid (Vd w1 (fun b => b < w.heap.size) V (.slice ak V.kids.length ck)) := HVd.out.via (Below.refl _ _) HB1.out HB1.out.size
  have HT1 : Hid (Rd w1 (fun b => b < w.heap.size) T (.slice an T.names.length cn) (.slice at_ T.kids.length ct)) := HRd.out.via (Below.refl _ _) HB1.out HB1.out.size
  clear hb1 HC1 zc0 zc1 zc2 zc3 yc0 yc1 yc2 yc3 HX HY HR0 HBV HVd HRd HV2 HR2
  go_wp2_with fail
  go_loopw [18] (fun u wr => ∃ (i : Nat) (U : Vl) (P : Ty) (au : Option Addr) (cu : Nat) (an2 : Option Addr) (cn2 : Nat) (at2 : Option Addr) (ct2 : Nat), i ≤ way.length ∧ u = i64 i ∧ Hid (Below w.heap.size w wr) ∧ Hid (wr.heap[Z]? = some (.cells #[i64 U.kind, i64 U.num, str U.s, .slice au U.kids.length cu] 24)) ∧ Hid (wr.heap[Y]? = some (.cells #[i64 P.kind, i64 P.num, .slice an2 P.names.length cn2, .slice at2 P.kids.length ct2] 28)) ∧ Hid (wr.heap[R]? = some (zO 24)) ∧ Hid (Vd wr (fun b => b < w.heap.size) U (.slice au U.kids.length cu)) ∧ Hid (Rd wr (fun b => b < w.heap.size) P (.slice an2 P.names.length cn2) (.slice at2 P.kids.length ct2)) ∧ Hid (P.formed = true ∧ firstF U P = [] ∧ U.size ≤ 10000) ∧ Hid (ro = atW (way.drop i) U P)) (fun u _ => way.length - (intOf u).toNat)
  case atStart => exact ⟨0, V, T, _, _, _, _, _, _, Nat.zero_le _, rfl, HB1, HX1, HY1, HR1, HV1, HT1, ⟨HFm.out, HFn.out, HSz.out⟩, HRo0⟩
  case round =>
    obtain ⟨i, U, P, au, cu, an2, cn2, at2, ct2, hi, rfl, HB, HXr, HYr, HRr, HUd, HPd, HFF, HRo⟩ := hrel
    by_cases hlt : i < way.length
    · obtain ⟨aw', cw', he, hsc⟩ := (HWY.out.below HB.out).at
      cases he
      obtain ⟨wb, wo, rfl, hwb, hx⟩ := hsc i hlt
      obtain ⟨x, hxe⟩ : ∃ x, x = way[i] := ⟨_, rfl⟩
      rw [← hxe] at hx
      have HRs : Hid (ro = if placeF U P x < 0 then none else atW (way.drop (i + 1)) (U.kids.getD (placeF U P x).toNat (.mk 0 0 [] [])) (kidT P (placeF U P x).toNat)) := by
        show _ = _
        rw [HRo.out, List.drop_eq_getElem_cons hlt, ← hxe]
        rfl
      have HCP1 := hid (place_ok U P x wr _ _ _ _ _ HUd.out HPd.out (HP.out.below HB.out) (by have h1 := HFF.out.2.2; have h2 := U.size_eq; have h3 := sizeL_len U.kids; omega))
      have HPR : Hid (0 ≤ placeF U P x → (placeF U P x).toNat < U.kids.length) := fun h => place_room HFF.out.1 (first_nil HFF.out.2.1).1 h
      generalize placeF U P x = PL at *
      have zc0 : wr.cell? ⟨Z, 0, none⟩ = some (i64 U.kind) := blk_cell HXr.out 0
      have zc1 : wr.cell? ⟨Z, 1, none⟩ = some (i64 U.num) := blk_cell HXr.out 1
      have zc2 : wr.cell? ⟨Z, 2, none⟩ = some (str U.s) := blk_cell HXr.out 2
      have zc3 : wr.cell? ⟨Z, 3, none⟩ = some (.slice au U.kids.length cu) := blk_cell HXr.out 3
      have yc0 : wr.cell? ⟨Y, 0, none⟩ = some (i64 P.kind) := blk_cell HYr.out 0
      have yc1 : wr.cell? ⟨Y, 1, none⟩ = some (i64 P.num) := blk_cell HYr.out 1
      have yc2 : wr.cell? ⟨Y, 2, none⟩ = some (.slice an2 P.names.length cn2) := blk_cell HYr.out 2
      have yc3 : wr.cell? ⟨Y, 3, none⟩ = some (.slice at2 P.kids.length ct2) := blk_cell HYr.out 3
      clear hxe HRo hsc
      go_wp2_with fail
      refine HCP1.out.mono ?_
      rintro e w2 ⟨rfl, hb2⟩
      have HB2 : Hid (Below w.heap.size w w2) := HB.out.trans (hb2.mono HB.out.size)
      have HX2 : Hid (w2.heap[Z]? = some (.cells #[i64 U.kind, i64 U.num, str U.s, .slice au U.kids.length cu] 24)) := blk_below HXr.out hb2
      have HY2 : Hid (w2.heap[Y]? = some (.cells #[i64 P.kind, i64 P.num, .slice an2 P.names.length cn2, .slice at2 P.kids.length ct2] 28)) := blk_below HYr.out hb2
      have HR2 : Hid (w2.heap[R]? = some (zO 24)) := blk_below HRr.out hb2
      have HU2 : Hid (Vd w2 (fun b => b < w.heap.size) U (.slice au U.kids.length cu)) := HUd.out.via HB.out HB2.out hb2.size
      have HP2 : Hid (Rd w2 (fun b => b < w.heap.size) P (.slice an2 P.names.length cn2) (.slice at2 P.kids.length ct2)) := HPd.out.via HB.out HB2.out hb2.size
      clear hb2 HCP1 zc0 zc1 zc2 zc3 yc0 yc1 yc2 yc3 hx HXr HYr HRr HUd HPd
      by_cases hneg : PL < 0
      · have HRn : Hid (ro = none) := by show _ = _; rw [HRs.out, if_pos hneg]
        clear HRs HPR
        have rc0 : w2.cell? ⟨R, 0, none⟩ = some (i64 0) := blk_cell HR2.out 0
        have rf0 : w2.frozen? ⟨R, 0, none⟩ = false := blk_frozen HR2.out 0
        have rc1 : w2.cell? ⟨R, 1, none⟩ = some (i64 0) := blk_cell HR2.out 1
        have rf1 : w2.frozen? ⟨R, 1, none⟩ = false := blk_frozen HR2.out 1
        have rc2 : w2.cell? ⟨R, 2, none⟩ = some (.string ⟨#[]⟩) := blk_cell HR2.out 2
        have rf2 : w2.frozen? ⟨R, 2, none⟩ = false := blk_frozen HR2.out 2
        have rc3 : w2.cell? ⟨R, 3, none⟩ = some (.slice none 0 0) := blk_cell HR2.out 3
        have rf3 : w2.frozen? ⟨R, 3, none⟩ = false := blk_frozen HR2.out 3
        go_wp2_with fail
        refine bodyPost_ret (v := .tuple #[zAgg, i64 6]) (results_cell Tryd.results26 rfl rfl (load24 (set4 HR2.out _ _ _ _))) rfl ?_
        exact ⟨bset4 HB2.out HZ.out.2.2.1 _ _ _ _, fun _ => rfl, fun U' h => by rw [HRn.out] at h; cases h⟩
      · have hroom := HPR.out (by omega)
        obtain ⟨j, hj⟩ : ∃ j : Nat, j = PL.toNat := ⟨_, rfl⟩
        have hjP : PL = (j : Int) := by omega
        rw [← hj] at HRs hroom
        have HRt : Hid (ro = atW (way.drop (i + 1)) (U.kids.getD j (.mk 0 0 [] [])) (kidT P j)) := by show _ = _; rw [HRs.out, if_neg hneg]
        rw [getD_lt _ _ _ hroom] at HRt
        obtain ⟨b, off, kv2, rfl, hbS, hblt, hr, hrd⟩ := HU2.out.kid j hroom
        obtain ⟨K2, hK2⟩ : ∃ K2, K2 = U.kids[j] := ⟨_, rfl⟩
        rw [← hK2] at hr hrd HRt
        obtain ⟨ak2, ck2, rfl⟩ := hrd.form
        have HK2 : Hid (firstF K2 (kidT P j) = [] ∧ (kidT P j).formed = true ∧ K2.size ≤ 10000) := by
          obtain ⟨g1, g2⟩ := first_nil HFF.out.2.1
          obtain ⟨g3, g4⟩ := kid_room HFF.out.1 g1 j hroom
          refine ⟨by rw [hK2]; exact g2 j hroom, kidT_formed HFF.out.1 j g3 g4, ?_⟩
          have h1 : K2 ∈ U.kids := by rw [hK2]; exact List.getElem_mem hroom
          have h2 := sizeL_mem h1
          have h3 := U.size_eq
          have h4 := HFF.out.2.2
          omega
        have HRM := hid (kid_room HFF.out.1 (first_nil HFF.out.2.1).1 j hroom)
        have HKd : Hid (Vd w2.drew (fun b => b < w.heap.size) K2 (.slice ak2 K2.kids.length ck2)) := hrd.under (below_drewN (Below.refl _ w2) 1)
        have HPd2 : Hid (Rd w2.drew (fun b => b < w.heap.size) P (.slice an2 P.names.length cn2) (.slice at2 P.kids.length ct2)) := HP2.out.under (below_drewN (Below.refl _ w2) 1)
        have HSd : Hid (So4 Z Y b (off + j * 4) (.cells #[i64 U.kind, i64 U.num, str U.s, .slice (some ⟨b, off, none⟩) U.kids.length cu] 24) (.cells #[i64 P.kind, i64 P.num, .slice an2 P.names.length cn2, .slice at2 P.kids.length ct2] 28) [i64 K2.kind, i64 K2.num, str K2.s, .slice ak2 K2.kids.length ck2] w2.drew) := ⟨HX2.out, HY2.out, hr⟩
        have HBd : Hid (Below w.heap.size w w2.drew) := below_drewN HB2.out 1
        have HRd2 : Hid (w2.drew.heap[R]? = some (zO 24)) := HR2.out
        have HCB := hid (below_ok P j w2.drew (fun b => b < w.heap.size) _ _ HPd2.out HRM.out.1 HRM.out.2)
        have hjI : (j : Int) < U.kids.length := by omega
        have hUl := HU2.out.lens.2
        unfold maxLen at hUl
        subst hjP
        clear hj hr hrd hK2 HRs HPR HU2 HP2 hneg HX2 HY2 HR2 hbS HCP
        generalize kidT P j = P2 at *
        go_upto_region 9 with fail
        refine wp_region_noPanic ?_
        refine wp_region_lastM (So4 Z Y b (off + j * 4) (.cells #[i64 U.kind, i64 U.num, str U.s, .slice (some ⟨b, off, none⟩) U.kids.length cu] 24) (.cells #[i64 P.kind, i64 P.num, .slice an2 P.names.length cn2, .slice at2 P.kids.length ct2] 28) [i64 K2.kind, i64 K2.num, str K2.s, .slice ak2 K2.kids.length ck2]) 8 (by kernel_rfl) ?_
        refine wpM_take 0 29 (.pointer (some ⟨Z, 3, none⟩)) [] rfl rfl (by kernel_rfl) (by kernel_rfl) (by kernel_rfl) (by kernel_rfl) (fun _ _ _ h => h) HSd.out (by rfl) (fun W hW => by go_simp) ?_
        simp only [Act.put, List.setIfInBounds_toArray, List.set_cons_zero, List.set_cons_succ]
        refine wpM_take 2 31 (i64 j) [] rfl rfl (by kernel_rfl) (by kernel_rfl) (by kernel_rfl) (by kernel_rfl) (fun _ _ _ h => h) HSd.out (by rfl) (fun W hW => by go_simp) ?_
        simp only [Act.put, List.setIfInBounds_toArray, List.set_cons_zero, List.set_cons_succ]
        refine wpM_take 5 34 (.agg #[i64 P.kind, i64 P.num, .slice an2 P.names.length cn2, .slice at2 P.kids.length ct2]) [7] rfl rfl (by kernel_rfl) (by kernel_rfl) (by kernel_rfl) (by kernel_rfl) (fun _ _ _ h => h) HSd.out (by rfl) (fun W hW => by have e0 : W.cell? ⟨Y, 0, none⟩ = some (i64 P.kind) := blk_cell hW.y 0; have e1 : W.cell? ⟨Y, 1, none⟩ = some (i64 P.num) := blk_cell hW.y 1; have e2 : W.cell? ⟨Y, 2, none⟩ = some (.slice an2 P.names.length cn2) := blk_cell hW.y 2; have e3 : W.cell? ⟨Y, 3, none⟩ = some (.slice at2 P.kids.length ct2) := blk_cell hW.y 3; go_simp) ?_
        simp only [Act.put, List.setIfInBounds_toArray, List.set_cons_zero, List.set_cons_succ]
        refine wpM_take 6 35 (i64 j) [7] rfl rfl (by kernel_rfl) (by kernel_rfl) (by kernel_rfl) (by kernel_rfl) (fun _ _ _ h => h) HSd.out (by rfl) (fun W hW => by go_simp) ?_
        simp only [Act.put, List.setIfInBounds_toArray, List.set_cons_zero, List.set_cons_succ]
        refine wpM_take 1 30 (.slice (some ⟨b, off, none⟩) U.kids.length cu) [] rfl rfl (by kernel_rfl) (by kernel_rfl) (by kernel_rfl) (by kernel_rfl) (fun _ _ _ h => h) HSd.out (by rfl) (fun W hW => by have e0 : W.cell? ⟨Z, 0, none⟩ = some (i64 U.kind) := blk_cell hW.z 0; have e1 : W.cell? ⟨Z, 1, none⟩ = some (i64 U.num) := blk_cell hW.z 1; have e2 : W.cell? ⟨Z, 2, none⟩ = some (str U.s) := blk_cell hW.z 2; have e3 : W.cell? ⟨Z, 3, none⟩ = some (.slice (some ⟨b, off, none⟩) U.kids.length cu) := blk_cell hW.z 3; go_simp) ?_
        simp only [Act.put, List.setIfInBounds_toArray, List.set_cons_zero, List.set_cons_succ]
        refine wpM_take 3 32 (.pointer (some ⟨b, off + j * 4, none⟩)) [] rfl rfl (by kernel_rfl) (by kernel_rfl) (by kernel_rfl) (by kernel_rfl) (fun _ _ _ h => h) HSd.out (by rfl) (fun W hW => by go_simp) ?_
        simp only [Act.put, List.setIfInBounds_toArray, List.set_cons_zero, List.set_cons_succ]
        refine wpM_take 4 33 (.agg #[i64 K2.kind, i64 K2.num, str K2.s, .slice ak2 K2.kids.length ck2]) [] rfl rfl (by kernel_rfl) (by kernel_rfl) (by kernel_rfl) (by kernel_rfl) (fun _ _ _ h => h) HSd.out (by rfl) (fun W hW => by have f0 : W.cell? ⟨b, off + j * 4, none⟩ = some (i64 K2.kind) := hW.r 0 _ rfl; have f1 : W.cell? ⟨b, off + j * 4 + 1, none⟩ = some (i64 K2.num) := hW.r 1 _ rfl; have f2 : W.cell? ⟨b, off + j * 4 + 2, none⟩ = some (str K2.s) := hW.r 2 _ rfl; have f3 : W.cell? ⟨b, off + j * 4 + 3, none⟩ = some (.slice ak2 K2.kids.length ck2) := hW.r 3 _ rfl; go_simp) ?_
        simp only [Act.put, List.setIfInBounds_toArray, List.set_cons_zero, List.set_cons_succ]
        refine wpM_one 7 rfl (by kernel_rfl) (by rfl) (fun K hK => ?_)
        go_simp
        refine HCB.out.mono ?_
        rintro e w4 ⟨p1, q1, p2, q2, rfl, hb4, hr4⟩
        have HB4 : Hid (Below w.heap.size w w4) := HBd.out.trans (hb4.mono HBd.out.size)
        have HS4 : Hid (So4 Z Y b (off + j * 4) (.cells #[i64 U.kind, i64 U.num, str U.s, .slice (some ⟨b, off, none⟩) U.kids.length cu] 24) (.cells #[i64 P.kind, i64 P.num, .slice an2 P.names.length cn2, .slice at2 P.kids.length ct2] 28) [i64 K2.kind, i64 K2.num, str K2.s, .slice ak2 K2.kids.length ck2] w4) := ⟨blk_below HSd.out.z hb4, blk_below HSd.out.y hb4, range_keep HSd.out.r (hb4.block b hblt)⟩
        have HR4 : Hid (w4.heap[R]? = some (zO 24)) := blk_below HRd2.out hb4
        have HK4 : Hid (Vd w4 (fun b => b < w.heap.size) K2 (.slice ak2 K2.kids.length ck2)) := HKd.out.under hb4
        have HP4 := hid hr4
        clear hb4 hr4 HCB
        go_simp
        refine hK.out _ _ (fun _ => HS4.out) ?_
        clear hK K
        have zc0 : w4.cell? ⟨Z, 0, none⟩ = some (i64 U.kind) := blk_cell HS4.out.z 0
        have zf0 : w4.frozen? ⟨Z, 0, none⟩ = false := blk_frozen HS4.out.z 0
        have zc1 : w4.cell? ⟨Z, 1, none⟩ = some (i64 U.num) := blk_cell HS4.out.z 1
        have zf1 : w4.frozen? ⟨Z, 1, none⟩ = false := blk_frozen HS4.out.z 1
        have zc2 : w4.cell? ⟨Z, 2, none⟩ = some (str U.s) := blk_cell HS4.out.z 2
        have zf2 : w4.frozen? ⟨Z, 2, none⟩ = false := blk_frozen HS4.out.z 2
        have zc3 : w4.cell? ⟨Z, 3, none⟩ = some (.slice (some ⟨b, off, none⟩) U.kids.length cu) := blk_cell HS4.out.z 3
        have zf3 : w4.frozen? ⟨Z, 3, none⟩ = false := blk_frozen HS4.out.z 3
        refine wpM_one 8 rfl (by kernel_rfl) (by rfl) (fun K hK => ?_)
        go_simp
        refine hK.out _ _ (fun h => by cases h) ?_
        clear hK K zc0 zc1 zc2 zc3 zf0 zf1 zf2 zf3
        have HX5 := hid (set4 HS4.out.z (i64 K2.kind) (i64 K2.num) (str K2.s) (.slice ak2 K2.kids.length ck2))
        have HY5 := hid (set4_ne HS4.out.y (show Y ≠ Z from fun e => HZ.out.2.2.2.1 e.symm) (i64 K2.kind) (i64 K2.num) (str K2.s) (.slice ak2 K2.kids.length ck2))
        have HR5 := hid (set4_ne HR4.out (show R ≠ Z from fun e => HZ.out.2.2.2.2.1 e.symm) (i64 K2.kind) (i64 K2.num) (str K2.s) (.slice ak2 K2.kids.length ck2))
        have HB5 := hid (bset4 HB4.out HZ.out.1 (i64 K2.kind) (i64 K2.num) (str K2.s) (.slice ak2 K2.kids.length ck2))
        have HZ5 : Hid (w4.heap.size ≤ ((((w4.setCell ⟨Z, 0, none⟩ (i64 K2.kind)).setCell ⟨Z, 1, none⟩ (i64 K2.num)).setCell ⟨Z, 2, none⟩ (str K2.s)).setCell ⟨Z, 3, none⟩ (.slice ak2 K2.kids.length ck2)).heap.size) := by show _ ≤ _; simp [World.setCell]
        generalize (((w4.setCell ⟨Z, 0, none⟩ (i64 K2.kind)).setCell ⟨Z, 1, none⟩ (i64 K2.num)).setCell ⟨Z, 2, none⟩ (str K2.s)).setCell ⟨Z, 3, none⟩ (.slice ak2 K2.kids.length ck2) = W5 at *
        have yc0 : W5.cell? ⟨Y, 0, none⟩ = some (i64 P.kind) := blk_cell HY5.out 0
        have yf0 : W5.frozen? ⟨Y, 0, none⟩ = false := blk_frozen HY5.out 0
        have yc1 : W5.cell? ⟨Y, 1, none⟩ = some (i64 P.num) := blk_cell HY5.out 1
        have yf1 : W5.frozen? ⟨Y, 1, none⟩ = false := blk_frozen HY5.out 1
        have yc2 : W5.cell? ⟨Y, 2, none⟩ = some (.slice an2 P.names.length cn2) := blk_cell HY5.out 2
        have yf2 : W5.frozen? ⟨Y, 2, none⟩ = false := blk_frozen HY5.out 2
        have yc3 : W5.cell? ⟨Y, 3, none⟩ = some (.slice at2 P.kids.length ct2) := blk_cell HY5.out 3
        have yf3 : W5.frozen? ⟨Y, 3, none⟩ = false := blk_frozen HY5.out 3
        refine wpM_one 9 rfl (by kernel_rfl) (by rfl) (fun K hK => ?_)
        go_simp
        refine hK.out _ _ (fun h => by cases h) ?_
        clear hK K yc0 yc1 yc2 yc3 yf0 yf1 yf2 yf3
        refine wpM_done (by kernel_rfl) ?_
        refine NoPanic.normal ?_
        have HY6 := hid (set4 HY5.out (i64 P2.kind) (i64 P2.num) (.slice p1 P2.names.length q1) (.slice p2 P2.kids.length q2))
        have HX6 := hid (set4_ne HX5.out (show Z ≠ Y from HZ.out.2.2.2.1) (i64 P2.kind) (i64 P2.num) (.slice p1 P2.names.length q1) (.slice p2 P2.kids.length q2))
        have HR6 := hid (set4_ne HR5.out (show R ≠ Y from fun e => HZ.out.2.2.2.2.2 e.symm) (i64 P2.kind) (i64 P2.num) (.slice p1 P2.names.length q1) (.slice p2 P2.kids.length q2))
        have HB6 := hid (bset4 HB5.out HZ.out.2.1 (i64 P2.kind) (i64 P2.num) (.slice p1 P2.names.length q1) (.slice p2 P2.kids.length q2))
        have HZ6 : Hid (W5.heap.size ≤ ((((W5.setCell ⟨Y, 0, none⟩ (i64 P2.kind)).setCell ⟨Y, 1, none⟩ (i64 P2.num)).setCell ⟨Y, 2, none⟩ (.slice p1 P2.names.length q1)).setCell ⟨Y, 3, none⟩ (.slice p2 P2.kids.length q2)).heap.size) := by show _ ≤ _; simp [World.setCell]
        generalize (((W5.setCell ⟨Y, 0, none⟩ (i64 P2.kind)).setCell ⟨Y, 1, none⟩ (i64 P2.num)).setCell ⟨Y, 2, none⟩ (.slice p1 P2.names.length q1)).setCell ⟨Y, 3, none⟩ (.slice p2 P2.kids.length q2) = W6 at *
        have HK6 : Hid (Vd W6 (fun b => b < w.heap.size) K2 (.slice ak2 K2.kids.length ck2)) := HK4.out.via HB4.out HB6.out (Nat.le_trans HZ5.out HZ6.out)
        have HP6 : Hid (Rd W6 (fun b => b < w.heap.size) P2 (.slice p1 P2.names.length q1) (.slice p2 P2.kids.length q2)) := HP4.out.via HB4.out HB6.out (Nat.le_trans HZ5.out HZ6.out)
        go_wp2_with fail
        exact ⟨⟨i + 1, K2, P2, _, _, _, _, _, _, by omega, by go_num, HB6, HX6, HY6, HR6, HK6, HP6, ⟨HK2.out.2.1, HK2.out.1, HK2.out.2.2⟩, HRt⟩, by simp [intOf]; omega⟩
    · have HRn : Hid (ro = some U) := by show _ = _; rw [HRo.out, List.drop_eq_nil_of_le (by omega)]; rfl
      have HCC := hid (HCP.out U HRn.out wr _ HUd.out)
      have zc0 : wr.cell? ⟨Z, 0, none⟩ = some (i64 U.kind) := blk_cell HXr.out 0
      have zc1 : wr.cell? ⟨Z, 1, none⟩ = some (i64 U.num) := blk_cell HXr.out 1
      have zc2 : wr.cell? ⟨Z, 2, none⟩ = some (str U.s) := blk_cell HXr.out 2
      have zc3 : wr.cell? ⟨Z, 3, none⟩ = some (.slice au U.kids.length cu) := blk_cell HXr.out 3
      clear HRo HCP
      go_wp2_with fail
      refine HCC.out.mono ?_
      rintro e w2 ⟨a9, c9, rfl, hb2, hr2⟩
      have HB2 : Hid (Below w.heap.size w w2) := HB.out.trans (hb2.mono HB.out.size)
      have HR2 : Hid (w2.heap[R]? = some (zO 24)) := blk_below HRr.out hb2
      have HRw : Hid (R < wr.heap.size) := blk_lt HRr.out
      have HD2 := hid hr2
      have HBz : Hid (w.heap.size ≤ wr.heap.size) := HB.out.size
      clear hb2 hr2 HCC zc0 zc1 zc2 zc3
      have rc0 : w2.cell? ⟨R, 0, none⟩ = some (i64 0) := blk_cell HR2.out 0
      have rf0 : w2.frozen? ⟨R, 0, none⟩ = false := blk_frozen HR2.out 0
      have rc1 : w2.cell? ⟨R, 1, none⟩ = some (i64 0) := blk_cell HR2.out 1
      have rf1 : w2.frozen? ⟨R, 1, none⟩ = false := blk_frozen HR2.out 1
      have rc2 : w2.cell? ⟨R, 2, none⟩ = some (.string ⟨#[]⟩) := blk_cell HR2.out 2
      have rf2 : w2.frozen? ⟨R, 2, none⟩ = false := blk_frozen HR2.out 2
      have rc3 : w2.cell? ⟨R, 3, none⟩ = some (.slice none 0 0) := blk_cell HR2.out 3
      have rf3 : w2.frozen? ⟨R, 3, none⟩ = false := blk_frozen HR2.out 3
      go_wp2_with fail
      refine bodyPost_ret (v := .tuple #[vlV U (.slice a9 U.kids.length c9), i64 0]) (results_cell Tryd.results26 rfl rfl (load24 (set4 HR2.out _ _ _ _))) rfl ?_
      refine ⟨bset4 HB2.out HZ.out.2.2.1 _ _ _ _, fun h => (by rw [HRn.out] at h; cases h), fun U' h => ?_⟩
      rw [HRn.out] at h
      cases h
      refine ⟨a9, c9, rfl, HD2.out.move (by simp [World.setCell]) (fun b hb _ => ⟨Nat.le_trans HBz.out hb, ?_⟩)⟩
      have hne : b ≠ R := by have := HRw.out; omega
      rw [Below.heap_setCell _ _ _ _ hne, Below.heap_setCell _ _ _ _ hne, Below.heap_setCell _ _ _ _ hne, Below.heap_setCell _ _ _ _ hne]
end Go.Proofs.YtgiemijhndanjaaDoor
