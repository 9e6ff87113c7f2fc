/- imagoref16's Fits: its contract; no statement is proved in this text. -/
import Derived.Test.YtgiemijhndanjaaDoorAl
import Derived.Test.YtgiemijhndanjaaDoorKd
import Derived.Test.YtgiemijhndanjaaDoorFi
import Derived.Test.YtgiemijhndanjaaDoorDfP
namespace Go.Proofs.YtgiemijhndanjaaDoor
open Go.ChangeShapes Go.WideShapes Go.ChangeAt Go.RowKit Go.Deep
attribute [local go_sem ↓] Go.wp_at_zero Go.wp_at_succ

theorem alone_ok (V : Vl) (T : Ty) (w : World) (S S' : Nat → Prop) (kv nv tv : Value) (hV : Vd w S V kv) (hR : Rd w S' T nv tv) (hf : T.formed = true) : Calls Tryd.prog 28 #[vlV V kv, tyV T.kind T.num nv tv] w fun e w' => e = .returned (.bool (aloneB V T)) ∧ Below w.heap.size w w' := by
  have h1 := hV.lens
  have h2 := hR.lens
  obtain ⟨ak, ck, rfl⟩ := hV.form
  obtain ⟨an, cn, rfl, at_, ct, rfl⟩ := hR.form
  exact al_in _ _ _ _ _ _ _ _ _ _ _ _ _ _ w h1.1 h1.2 h2.2 (formed_int hf) (kinds hf)
set_option maxRecDepth 100000 in
set_option maxHeartbeats 12800000 in
theorem rfits_in (V : Vl) (T : Ty) (w : World) (S S' : Nat → Prop) (kv nv tv : Value) (hV : Vd w S V kv) (hR : Rd w S' T nv tv) (hf : T.formed = true)
    (hih : ∀ U ∈ V.kids, ∀ (P : Ty), P.formed = true → ∀ (w : World) (kv nv tv : Value), Vd w S U kv → Rd w S' P nv tv → Calls Tryd.prog 16 #[vlV U kv, tyV P.kind P.num nv tv] w fun e w' => e = .returned (.bool (decide ((firstF U P).length = 0))) ∧ Below w.heap.size w w') : Calls Tryd.prog 16 #[vlV V kv, tyV T.kind T.num nv tv] w fun e w' => e = .returned (.bool (decide ((firstF V T).length = 0))) ∧ Below w.heap.size w w' := by
  obtain ⟨B, hB⟩ : ∃ B, B = decide ((firstF V T).length = 0) := ⟨_, rfl⟩
  have HBe := hid hB
  rw [← hB]
  clear hB
  have hln := hV.lens
  have hlt := hR.lens
  unfold maxLen at hln hlt
  obtain ⟨hln1, hln2⟩ := hln
  obtain ⟨hlt1, hlt2⟩ := hlt
  have HIH := hid hih
  have HF := hid hf
  have HM1 : Hid (∀ (W : World) kv nv tv, Vd W S V kv → Rd W S' T nv tv → Calls Tryd.prog 28 #[vlV V kv, tyV T.kind T.num nv tv] W fun e w' => e = .returned (.bool (aloneB V T)) ∧ Below W.heap.size W w') := fun W kv nv tv h1 h2 => alone_ok V T W S S' kv nv tv h1 h2 hf
  obtain ⟨A, hA⟩ : ∃ A, A = aloneB V T := ⟨_, rfl⟩
  have HAe := hid hA
  rw [← hA] at HM1
  clear hA
  have HVd := hid hV
  have HRd := hid hR
  obtain ⟨ak, ck, rfl⟩ := hV.form
  obtain ⟨an, cn, rfl, at_, ct, rfl⟩ := hR.form
  have HX : Hid (((w.alloc (.cells #[i64 V.kind, i64 V.num, str V.s, .slice ak V.kids.length ck] 33)).alloc (.cells #[i64 T.kind, i64 T.num, .slice an T.names.length cn, .slice at_ T.kids.length ct] 37)).heap[w.heap.size]? = some (.cells #[i64 V.kind, i64 V.num, str V.s, .slice ak V.kids.length ck] 33)) := blk_alloc (heap_last w _) _
  have HY : Hid (((w.alloc (.cells #[i64 V.kind, i64 V.num, str V.s, .slice ak V.kids.length ck] 33)).alloc (.cells #[i64 T.kind, i64 T.num, .slice an T.names.length cn, .slice at_ T.kids.length ct] 37)).heap[w.heap.size + 1]? = some (.cells #[i64 T.kind, i64 T.num, .slice an T.names.length cn, .slice at_ T.kids.length ct] 37)) := heap_at3 _ _ _ (by simp)
  have HBV : Hid (Below w.heap.size w ((w.alloc (.cells #[i64 V.kind, i64 V.num, str V.s, .slice ak V.kids.length ck] 33)).alloc (.cells #[i64 T.kind, i64 T.num, .slice an T.names.length cn, .slice at_ T.kids.length ct] 37))) := (below_one w _).trans ((below_one _ _).mono (by simp))
  clear hV hR hih hf
  go_enter Tryd.func16, Tryd.ntmps16
  go_upto_region 1 with fail
  generalize (w.alloc (.cells #[i64 V.kind, i64 V.num, str V.s, .slice ak V.kids.length ck] 33)).alloc (.cells #[i64 T.kind, i64 T.num, .slice an T.names.length cn, .slice at_ T.kids.length ct] 37) = V0 at *
  obtain ⟨Z, hZ⟩ : ∃ Z, Z = w.heap.size := ⟨_, rfl⟩
  obtain ⟨Y, hY⟩ : ∃ Y, Y = w.heap.size + 1 := ⟨_, rfl⟩
  rw [← hZ] at HX
  rw [← hY] at HY
  rw [← hY, ← hZ]
  clear hZ hY
  have zc0 : V0.cell? ⟨Z, 0, none⟩ = some (i64 V.kind) := blk_cell HX.out 0
  have zc1 : V0.cell? ⟨Z, 1, none⟩ = some (i64 V.num) := blk_cell HX.out 1
  have zc2 : V0.cell? ⟨Z, 2, none⟩ = some (str V.s) := blk_cell HX.out 2
  have zc3 : V0.cell? ⟨Z, 3, none⟩ = some (.slice ak V.kids.length ck) := blk_cell HX.out 3
  have yc0 : V0.cell? ⟨Y, 0, none⟩ = some (i64 T.kind) := blk_cell HY.out 0
  have yc1 : V0.cell? ⟨Y, 1, none⟩ = some (i64 T.num) := blk_cell HY.out 1
  have yc2 : V0.cell? ⟨Y, 2, none⟩ = some (.slice an T.names.length cn) := blk_cell HY.out 2
  have yc3 : V0.cell? ⟨Y, 3, none⟩ = some (.slice at_ T.kids.length ct) := blk_cell HY.out 3
  have HC1 := hid (HM1.out V0 _ _ _ (HVd.out.under HBV.out) (HRd.out.under HBV.out))
  clear HM1
  go_wp2_with fail
  refine HC1.out.mono ?_
  rintro e w1 ⟨rfl, hb1⟩
  have HB1 : Hid (Below w.heap.size w w1) := HBV.out.trans (hb1.mono HBV.out.size)
  have HX1 : Hid (w1.heap[Z]? = some (.cells #[i64 V.kind, i64 V.num, str V.s, .slice ak V.kids.length ck] 33)) := blk_below HX.out hb1
  have HY1 : Hid (w1.heap[Y]? = some (.cells #[i64 T.kind, i64 T.num, .slice an T.names.length cn, .slice at_ T.kids.length ct] 37)) := blk_below HY.out hb1
  clear hb1 HC1 zc0 zc1 zc2 zc3 yc0 yc1 yc2 yc3
  cases A with
  | false =>
    have HV : Hid (B = false) := by show _ = _; rw [HBe.out, firstF_eq, ← HAe.out]; rfl
    go_wp2_with fail
    go_ret
    exact ⟨by rw [HV.out]; rfl, HB1.out⟩
  | true =>
    have HB0 : Hid (B = decide ((firstL (V.kids.drop 0) 0 T).length = 0)) := by show _ = _; rw [HBe.out, firstF_eq, ← HAe.out]; rfl
    have HRM : Hid (∀ i, i < V.kids.length → (T.kind = 3 → 0 < T.kids.length) ∧ (T.kind ≠ 3 → i < T.kids.length)) := fun i hi => kid_room HF.out HAe.out.symm i hi
    have zc3 : w1.cell? ⟨Z, 3, none⟩ = some (.slice ak V.kids.length ck) := blk_cell HX1.out 3
    go_wp2_with fail
    go_loopw [14] (fun u wr => ∃ i : Nat, i ≤ V.kids.length ∧ u = i64 i ∧ Hid (Below w.heap.size w wr) ∧ Hid (wr.heap[Z]? = some (.cells #[i64 V.kind, i64 V.num, str V.s, .slice ak V.kids.length ck] 33)) ∧ Hid (wr.heap[Y]? = some (.cells #[i64 T.kind, i64 T.num, .slice an T.names.length cn, .slice at_ T.kids.length ct] 37)) ∧ Hid (B = decide ((firstL (V.kids.drop i) i T).length = 0))) (fun u _ => V.kids.length - (intOf u).toNat)
    case atStart => exact ⟨0, Nat.zero_le _, rfl, HB1, HX1, HY1, HB0⟩
    case round =>
      obtain ⟨i, hi, rfl, HB, HXr, HYr, HLr⟩ := hrel
      by_cases hlt : i < V.kids.length
      · obtain ⟨b, off, kv2, rfl, _, hblt, hr, hrd⟩ := (HVd.out.under HB.out).kid i hlt
        obtain ⟨U, hU⟩ : ∃ U, U = V.kids[i] := ⟨_, rfl⟩
        rw [← hU] at hr hrd
        have HUm : Hid (U ∈ V.kids) := by show U ∈ _; rw [hU]; exact List.getElem_mem hlt
        have HST : Hid (firstL (V.kids.drop i) i T = if (firstF U (kidT T i)).length = 0 then firstL (V.kids.drop (i + 1)) (i + 1) T else 0 :: i :: (firstF U (kidT T i)).tail) := by show _ = _; rw [firstL_step _ _ _ hlt, ← hU]
        obtain ⟨ak2, ck2, rfl⟩ := hrd.form
        have c0 : wr.cell? ⟨b, off + i * 4, none⟩ = some (i64 U.kind) := hr 0 _ rfl
        have c1 : wr.cell? ⟨b, off + i * 4 + 1, none⟩ = some (i64 U.num) := hr 1 _ rfl
        have c2 : wr.cell? ⟨b, off + i * 4 + 2, none⟩ = some (str U.s) := hr 2 _ rfl
        have c3 : wr.cell? ⟨b, off + i * 4 + 3, none⟩ = some (.slice ak2 U.kids.length ck2) := hr 3 _ rfl
        have HBX : Hid (Below w.heap.size w (wr.alloc (.cells #[i64 U.kind, i64 U.num, str U.s, .slice ak2 U.kids.length ck2] 33))) := HB.out.trans ((below_one wr _).mono HB.out.size)
        have HX2 : Hid ((wr.alloc (.cells #[i64 U.kind, i64 U.num, str U.s, .slice ak2 U.kids.length ck2] 33)).heap[wr.heap.size]? = some (.cells #[i64 U.kind, i64 U.num, str U.s, .slice ak2 U.kids.length ck2] 33)) := heap_last wr _
        have HZ2 : Hid ((wr.alloc (.cells #[i64 U.kind, i64 U.num, str U.s, .slice ak2 U.kids.length ck2] 33)).heap[Z]? = some (.cells #[i64 V.kind, i64 V.num, str V.s, .slice (some ⟨b, off, none⟩) V.kids.length ck] 33)) := blk_alloc HXr.out _
        have HY2 : Hid ((wr.alloc (.cells #[i64 U.kind, i64 U.num, str U.s, .slice ak2 U.kids.length ck2] 33)).heap[Y]? = some (.cells #[i64 T.kind, i64 T.num, .slice an T.names.length cn, .slice at_ T.kids.length ct] 37)) := blk_alloc HYr.out _
        have HUd : Hid (Vd (wr.alloc (.cells #[i64 U.kind, i64 U.num, str U.s, .slice ak2 U.kids.length ck2] 33)) S U (.slice ak2 U.kids.length ck2)) := hrd.under (below_one wr _)
        have HCw : Hid (Below wr.heap.size wr (wr.alloc (.cells #[i64 U.kind, i64 U.num, str U.s, .slice ak2 U.kids.length ck2] 33))) := below_one wr _
        obtain ⟨hr3, hr4⟩ := HRM.out i hlt
        have HFK : Hid ((kidT T i).formed = true) := kidT_formed HF.out i hr3 hr4
        have HR3 := hid hr3
        have HR4 := hid hr4
        clear hU hr hrd hr3 hr4
        go_upto_region 6 with fail
        obtain ⟨Q, hQ⟩ : ∃ Q, Q = wr.heap.size := ⟨_, rfl⟩
        rw [← hQ] at HX2 ⊢
        clear hQ c0 c1 c2 c3
        generalize wr.alloc (.cells #[i64 U.kind, i64 U.num, str U.s, .slice ak2 U.kids.length ck2] 33) = X at *
        have HSd : Hid (So2 Q Y (.cells #[i64 U.kind, i64 U.num, str U.s, .slice ak2 U.kids.length ck2] 33) (.cells #[i64 T.kind, i64 T.num, .slice an T.names.length cn, .slice at_ T.kids.length ct] 37) X.drew) := ⟨HX2.out, HY2.out⟩
        have HBd : Hid (Below w.heap.size w X.drew) := below_drewN HBX.out 1
        have HKD : Hid (∀ W, Below w.heap.size w W → Calls Tryd.prog 29 #[.agg #[i64 T.kind, i64 T.num, .slice an T.names.length cn, .slice at_ T.kids.length ct], i64 i] W fun e w' => ∃ a1 c1 a2 c2, e = .returned (tyV (kidT T i).kind (kidT T i).num (.slice a1 (kidT T i).names.length c1) (.slice a2 (kidT T i).kids.length c2)) ∧ Below W.heap.size W w' ∧ Rd w' S' (kidT T i) (.slice a1 (kidT T i).names.length c1) (.slice a2 (kidT T i).kids.length c2)) := fun W hW => kid_ok T i W S' _ _ (HRd.out.under hW) HR3.out HR4.out
        have HUd2 : Hid (Vd X.drew S U (.slice ak2 U.kids.length ck2)) := HUd.out.under (below_drewN (Below.refl _ X) 1)
        have HCd : Hid (Below wr.heap.size wr X.drew) := below_drewN HCw.out 1
        generalize kidT T i = P at *
        refine wp_region_noPanic ?_
        refine wp_region_last (So2 Q Y (.cells #[i64 U.kind, i64 U.num, str U.s, .slice ak2 U.kids.length ck2] 33) (.cells #[i64 T.kind, i64 T.num, .slice an T.names.length cn, .slice at_ T.kids.length ct] 37)) 5 (by kernel_rfl) ?_
        refine wpL_take 0 19 (.agg #[i64 U.kind, i64 U.num, str U.s, .slice ak2 U.kids.length ck2]) [4] rfl rfl (by kernel_rfl) (by decide) (by kernel_rfl) (by kernel_rfl) (by kernel_rfl) (fun _ _ _ h => h) HSd.out (by rfl) (fun W hW => by have e0 : W.cell? ⟨Q, 0, none⟩ = some (i64 U.kind) := blk_cell hW.z 0; have e1 : W.cell? ⟨Q, 1, none⟩ = some (i64 U.num) := blk_cell hW.z 1; have e2 : W.cell? ⟨Q, 2, none⟩ = some (str U.s) := blk_cell hW.z 2; have e3 : W.cell? ⟨Q, 3, none⟩ = some (.slice ak2 U.kids.length ck2) := blk_cell hW.z 3; go_simp) ?_
        simp only [Act.put, List.setIfInBounds_toArray, List.set_cons_zero, List.set_cons_succ]
        refine wpL_take 1 20 (.agg #[i64 T.kind, i64 T.num, .slice an T.names.length cn, .slice at_ T.kids.length ct]) [3, 4] rfl rfl (by kernel_rfl) (by decide) (by kernel_rfl) (by kernel_rfl) (by kernel_rfl) (fun _ _ _ h => h) HSd.out (by rfl) (fun W hW => by have e0 : W.cell? ⟨Y, 0, none⟩ = some (i64 T.kind) := blk_cell hW.y 0; have e1 : W.cell? ⟨Y, 1, none⟩ = some (i64 T.num) := blk_cell hW.y 1; have e2 : W.cell? ⟨Y, 2, none⟩ = some (.slice an T.names.length cn) := blk_cell hW.y 2; have e3 : W.cell? ⟨Y, 3, none⟩ = some (.slice at_ T.kids.length ct) := blk_cell hW.y 3; go_simp) ?_
        simp only [Act.put, List.setIfInBounds_toArray, List.set_cons_zero, List.set_cons_succ]
        refine wpL_take 2 21 (i64 i) [3, 4] rfl rfl (by kernel_rfl) (by decide) (by kernel_rfl) (by kernel_rfl) (by kernel_rfl) (fun _ _ _ h => h) HSd.out (by rfl) (fun W hW => by go_simp) ?_
        simp only [Act.put, List.setIfInBounds_toArray, List.set_cons_zero, List.set_cons_succ]
        refine wpL_one 3 rfl (by kernel_rfl) (by rfl) (fun K hK => ?_)
        go_simp
        refine (HKD.out X.drew HBd.out).mono ?_
        rintro e w4 ⟨p1, q1, p2, q2, rfl, hb4, hr4⟩
        have HB4 : Hid (Below w.heap.size w w4) := HBd.out.trans (hb4.mono HBd.out.size)
        have HS4 : Hid (So2 Q Y (.cells #[i64 U.kind, i64 U.num, str U.s, .slice ak2 U.kids.length ck2] 33) (.cells #[i64 T.kind, i64 T.num, .slice an T.names.length cn, .slice at_ T.kids.length ct] 37) w4) := ⟨blk_below HSd.out.z hb4, blk_below HSd.out.y hb4⟩
        have HZ4 : Hid (w4.heap[Z]? = some (.cells #[i64 V.kind, i64 V.num, str V.s, .slice (some ⟨b, off, none⟩) V.kids.length ck] 33)) := blk_below (show X.drew.heap[Z]? = some (.cells #[i64 V.kind, i64 V.num, str V.s, .slice (some ⟨b, off, none⟩) V.kids.length ck] 33) from HZ2.out) hb4
        have HU4 := hid (HUd2.out.under hb4)
        have HC4 : Hid (Below wr.heap.size wr w4) := HCd.out.trans (hb4.mono HCd.out.size)
        have HCF := hid (HIH.out U HUm.out P HFK.out w4 _ _ _ HU4.out hr4)
        obtain ⟨FB, hFB⟩ : ∃ FB, FB = decide ((firstF U P).length = 0) := ⟨_, rfl⟩
        rw [← hFB] at HCF
        have HFB := hid hFB
        clear hb4 hr4 hFB
        go_simp
        refine hK.out _ _ (fun _ => HS4.out) ?_
        clear hK K
        refine wpL_one 4 rfl (by kernel_rfl) (by rfl) (fun K hK => ?_)
        go_simp
        refine HCF.out.mono ?_
        rintro e w5 ⟨rfl, hb5⟩
        have HB5 : Hid (Below w.heap.size w w5) := HB4.out.trans (hb5.mono HB4.out.size)
        have HS5 : Hid (So2 Q Y (.cells #[i64 U.kind, i64 U.num, str U.s, .slice ak2 U.kids.length ck2] 33) (.cells #[i64 T.kind, i64 T.num, .slice an T.names.length cn, .slice at_ T.kids.length ct] 37) w5) := ⟨blk_below HS4.out.z hb5, blk_below HS4.out.y hb5⟩
        have HZ5 : Hid (w5.heap[Z]? = some (.cells #[i64 V.kind, i64 V.num, str V.s, .slice (some ⟨b, off, none⟩) V.kids.length ck] 33)) := blk_below HZ4.out hb5
        have HU5 := hid (HU4.out.under hb5)
        have HC5 : Hid (Below wr.heap.size wr w5) := HC4.out.trans (hb5.mono HC4.out.size)
        clear hb5 HCF
        go_simp
        refine hK.out _ _ (fun _ => HS5.out) ?_
        clear hK K
        refine wpL_one 5 rfl (by kernel_rfl) (by rfl) (fun K hK => ?_)
        go_simp
        refine hK.out _ _ (fun h => absurd rfl h) ?_
        clear hK K
        refine wpL_done (by kernel_rfl) ?_
        refine NoPanic.normal ?_
        cases FB with
        | true =>
          have h0 : (firstF U P).length = 0 := of_decide_eq_true HFB.out.symm
          have HLn : Hid (B = decide ((firstL (V.kids.drop (i + 1)) (i + 1) T).length = 0)) := by show _ = _; rw [HLr.out, HST.out, if_pos h0]
          have HYy := hid HS5.out.y
          clear HST HLr h0
          go_wp2_with fail
          exact ⟨⟨i + 1, by omega, by go_num, HB5, HZ5, HYy, HLn⟩, by simp [intOf]; omega⟩
        | false =>
          have h0 : ¬ (firstF U P).length = 0 := of_decide_eq_false HFB.out.symm
          have HV : Hid (B = false) := by show _ = _; rw [HLr.out, HST.out, if_neg h0]; simp
          clear HST HLr h0
          go_wp2_with fail
          go_ret
          exact ⟨by rw [HV.out]; rfl, HB5.out⟩
      · have he : i = V.kids.length := by omega
        have HV : Hid (B = true) := by show _ = _; rw [HLr.out, he, List.drop_length]; rfl
        clear he
        go_wp2_with fail
        go_ret
        exact ⟨by rw [HV.out]; rfl, HB.out⟩
theorem rfits_ok : ∀ (M : Nat) (V : Vl), V.size ≤ M → ∀ (T : Ty), T.formed = true → ∀ (w : World) (S S' : Nat → Prop) (kv nv tv : Value), Vd w S V kv → Rd w S' T nv tv → Calls Tryd.prog 16 #[vlV V kv, tyV T.kind T.num nv tv] w fun e w' => e = .returned (.bool (decide ((firstF V T).length = 0))) ∧ Below w.heap.size w w'
  | 0, V, h, _, _, _, _, _, _, _, _, _, _ => by have := size_pos V; omega
  | M + 1, V, h, T, hf, w, S, S', kv, nv, tv, hV, hR => rfits_in V T w S S' kv nv tv hV hR hf (fun U hU P hP w kv nv tv hV hR => rfits_ok M U (by have := sizeL_mem hU; have := V.size_eq; omega) P hP w S S' kv nv tv hV hR)
end Go.Proofs.YtgiemijhndanjaaDoor
