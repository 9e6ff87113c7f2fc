/- vals' plainest and Default: their contracts; no statement is proved in this text. -/
import Derived.Test.YtgiemijhndanjaaDoorGv
import Derived.Test.YtgiemijhndanjaaDoorFit
namespace Go.Proofs.YtgiemijhndanjaaDoor
open Go.ChangeShapes Go.WideShapes Go.ChangeAt Go.RowKit Go.Deep
attribute [local go_sem ↓] Go.wp_at_zero Go.wp_at_succ

theorem countL_len : ∀ l : List Ty, l.length ≤ countL l
  | [] => by simp
  | t :: r => by have := countL_len r; have := count_pos t; simp only [countL, List.length_cons]; omega
set_option maxRecDepth 100000 in
set_option maxHeartbeats 12800000 in
theorem pln_in (T : Ty) (w : World) (S : Nat → Prop) (nv kv : Value) (hV : Rd w S T nv kv) (hl : T.kids.length ≤ 1000) (h4 : T.kind = 4)
    (hih : ∀ U ∈ T.kids, ∀ (w : World) (nv kv : Value), Rd w S U nv kv → Calls Tryd.prog 39 #[tyV U.kind U.num nv kv] w (MkOk w U.dflt)) : Calls Tryd.prog 39 #[tyV T.kind T.num nv kv] w (MkOk w T.dflt) := by
  have hln := hV.lens
  unfold maxLen at hln
  obtain ⟨hln1, hln2⟩ := hln
  have HIH := hid hih
  have HVd := hid hV
  refine (?_ : ∀ D, D = T.dflt → Calls Tryd.prog 39 #[tyV T.kind T.num nv kv] w (MkOk w D)) _ rfl
  intro D hD
  obtain ⟨an, cn, rfl, at_, ct, rfl⟩ := hV.form
  have HDe : Hid (D = .mk T.kind 0 [] (dfltL T.kids)) := by show _ = _; rw [hD]; rw [T.dflt_eq, if_pos h4]
  have HOl : Hid ((dfltL T.kids).length = T.kids.length) := dfltL_len _
  have HX0 : Hid ((w.alloc (.cells #[i64 T.kind, i64 T.num, .slice an T.names.length cn, .slice at_ T.kids.length ct] 28)).heap[w.heap.size]? = some (.cells #[i64 T.kind, i64 T.num, .slice an T.names.length cn, .slice at_ T.kids.length ct] 28)) := heap_last w _
  have HR0 : Hid (((w.alloc (.cells #[i64 T.kind, i64 T.num, .slice an T.names.length cn, .slice at_ T.kids.length ct] 28)).alloc (zO 24)).heap[w.heap.size + 1]? = some (zO 24)) := heap_at3 _ _ _ (by simp)
  have HB0 : Hid (Below w.heap.size w ((w.alloc (.cells #[i64 T.kind, i64 T.num, .slice an T.names.length cn, .slice at_ T.kids.length ct] 28)).alloc (zO 24))) := (below_one w _).trans ((below_one _ _).mono (by simp))
  have HX1 : Hid (((w.alloc (.cells #[i64 T.kind, i64 T.num, .slice an T.names.length cn, .slice at_ T.kids.length ct] 28)).alloc (zO 24)).heap[w.heap.size]? = some (.cells #[i64 T.kind, i64 T.num, .slice an T.names.length cn, .slice at_ T.kids.length ct] 28)) := blk_alloc HX0.out _
  clear hV hih hD
  have HHL := hid hl
  have q4 : (T.kind == 4) = true := by simpa using h4
  have HK4 := hid h4
  clear h4
  go_enter Tryd.func39, Tryd.ntmps39
  go_upto_region 1 with fail
  obtain ⟨Z, hZ⟩ : ∃ Z, Z = w.heap.size := ⟨_, rfl⟩
  obtain ⟨R, hRe⟩ : ∃ R, R = w.heap.size + 1 := ⟨_, rfl⟩
  rw [← hRe] at HR0
  rw [← hZ] at HX1
  rw [← hRe, ← hZ]
  have HRlo : Hid (w.heap.size ≤ R) := by show _ ≤ _; omega
  clear hZ hRe HX0
  generalize (w.alloc (.cells #[i64 T.kind, i64 T.num, .slice an T.names.length cn, .slice at_ T.kids.length ct] 28)).alloc (zO 24) = V0 at *
  have zc0 : V0.cell? ⟨Z, 0, none⟩ = some (i64 T.kind) := blk_cell HX1.out 0
  have zc1 : V0.cell? ⟨Z, 1, none⟩ = some (i64 T.num) := blk_cell HX1.out 1
  have zc2 : V0.cell? ⟨Z, 2, none⟩ = some (.slice an T.names.length cn) := blk_cell HX1.out 2
  have zc3 : V0.cell? ⟨Z, 3, none⟩ = some (.slice at_ T.kids.length ct) := blk_cell HX1.out 3
  have HBO : Hid (Below V0.heap.size V0 (V0.alloc (.cells #[i64 T.kind, i64 0, str [], .slice none 0 0] 24))) := below_one V0 _
  have HO1 : Hid ((V0.alloc (.cells #[i64 T.kind, i64 0, str [], .slice none 0 0] 24)).heap[V0.heap.size]? = some (.cells #[i64 T.kind, i64 0, str [], .slice none 0 0] 24)) := heap_last V0 _
  have HOlo0 : Hid (w.heap.size ≤ V0.heap.size) := HB0.out.size
  have HRV : Hid (R < V0.heap.size) := blk_lt HR0.out
  go_upto_region 2 with fail
  obtain ⟨O, hO⟩ : ∃ O, O = V0.heap.size := ⟨_, rfl⟩
  rw [← hO] at HO1 HOlo0 HRV ⊢
  clear hO
  have HRO : Hid (R ≠ O) := by show R ≠ O; have := HRV.out; omega
  have HI0 : Hid (VfI w (V0.alloc (.cells #[i64 T.kind, i64 0, str [], .slice none 0 0] 24)) R O 24 T.kind 0 [] (.slice none 0 0) []) := ⟨blk_below HR0.out HBO.out, HO1.out, VKids.nil _ _ _ _, by simp [Value.ownBlock], by simp [Value.ownBlock], HB0.out.trans (HBO.out.mono HB0.out.size)⟩
  have HXr : Hid ((V0.alloc (.cells #[i64 T.kind, i64 0, str [], .slice none 0 0] 24)).heap[Z]? = some (.cells #[i64 T.kind, i64 T.num, .slice an T.names.length cn, .slice at_ T.kids.length ct] 28)) := blk_below HX1.out HBO.out
  generalize V0.alloc (.cells #[i64 T.kind, i64 0, str [], .slice none 0 0] 24) = V1 at *
  clear zc0 zc1 zc2 zc3 HBO HO1 HX1 HR0 HB0
  have zc0 : V1.cell? ⟨Z, 0, none⟩ = some (i64 T.kind) := blk_cell HXr.out 0
  have zc1 : V1.cell? ⟨Z, 1, none⟩ = some (i64 T.num) := blk_cell HXr.out 1
  have zc2 : V1.cell? ⟨Z, 2, none⟩ = some (.slice an T.names.length cn) := blk_cell HXr.out 2
  have zc3 : V1.cell? ⟨Z, 3, none⟩ = some (.slice at_ T.kids.length ct) := blk_cell HXr.out 3
  go_wp2_with fail
  go_loopw [15] (fun u wr => ∃ (i : Nat) (kv : Value) (Ks : List Kv), i ≤ T.kids.length ∧ u = i64 i ∧ Hid (VfI w wr R O 24 T.kind 0 [] kv Ks) ∧ Hid (Ks.map (·.1) = (dfltL T.kids).take i)) (fun u _ => T.kids.length - (intOf u).toNat)
  case atStart => exact ⟨0, _, [], by omega, rfl, HI0, by show _ = _; simp⟩
  case round =>
    obtain ⟨i, kvr, Ks, hi, rfl, HI, HM⟩ := hrel
    obtain ⟨ka, kc, rfl⟩ := HI.out.slice
    have hKsl : Ks.length = i := by
      have h1 := congrArg List.length HM.out
      have h2 := HOl.out
      rw [List.length_map, List.length_take] at h1
      omega
    rw [hKsl] at HI
    have HKL := hid hKsl
    clear hKsl
    by_cases hlt : i < T.kids.length
    · obtain ⟨b, off, nv2, kv2, rfl, _, hblt, hr, hrd⟩ := (HVd.out.under HI.out.b).kidAt i hlt
      obtain ⟨U, hU⟩ : ∃ U, U = T.kids[i] := ⟨_, rfl⟩
      rw [← hU] at hr hrd
      have HUm : Hid (U ∈ T.kids) := by show U ∈ _; rw [hU]; exact List.getElem_mem hlt
      have HTT : Hid ((dfltL T.kids).take (i + 1) = (dfltL T.kids).take i ++ [U.dflt]) := by show _ = _; rw [List.take_succ_eq_append_getElem (by rw [dfltL_len]; exact hlt), dfltL_get _ _ hlt, ← hU]
      obtain ⟨an2, cn2, rfl, ak2, ck2, rfl⟩ := hrd.form
      have c0 : wr.cell? ⟨b, off + i * 4, none⟩ = some (i64 U.kind) := hr 0 _ rfl
      have c1 : wr.cell? ⟨b, off + i * 4 + 1, none⟩ = some (i64 U.num) := hr 1 _ rfl
      have c2 : wr.cell? ⟨b, off + i * 4 + 2, none⟩ = some (.slice an2 U.names.length cn2) := hr 2 _ rfl
      have c3 : wr.cell? ⟨b, off + i * 4 + 3, none⟩ = some (.slice ak2 U.kids.length ck2) := hr 3 _ rfl
      have HX2 : Hid ((wr.alloc (.cells #[i64 U.kind, i64 U.num, .slice an2 U.names.length cn2, .slice ak2 U.kids.length ck2] 28)).heap[wr.heap.size]? = some (.cells #[i64 U.kind, i64 U.num, .slice an2 U.names.length cn2, .slice ak2 U.kids.length ck2] 28)) := heap_last wr _
      have HIX := hid (HI.out.below (below_one wr (.cells #[i64 U.kind, i64 U.num, .slice an2 U.names.length cn2, .slice ak2 U.kids.length ck2] 28)))
      have HUd : Hid (Rd (wr.alloc (.cells #[i64 U.kind, i64 U.num, .slice an2 U.names.length cn2, .slice ak2 U.kids.length ck2] 28)) S U (.slice an2 U.names.length cn2) (.slice ak2 U.kids.length ck2)) := hrd.under (below_one wr _)
      have HQn : Hid (some wr.heap.size ≠ (Value.slice ka i kc).ownBlock) := by show _ ≠ _; intro e; have := (HI.out.ok.own.lt _ e.symm).2; omega
      clear hU hr hrd
      go_upto_region 6 with fail
      obtain ⟨Q, hQ⟩ : ∃ Q, Q = wr.heap.size := ⟨_, rfl⟩
      rw [← hQ] at HX2 HQn ⊢
      clear hQ c0 c1 c2 c3
      generalize wr.alloc (.cells #[i64 U.kind, i64 U.num, .slice an2 U.names.length cn2, .slice ak2 U.kids.length ck2] 28) = X at *
      have HSX : Hid (So2 O Q (.cells #[i64 T.kind, i64 0, str [], .slice ka i kc] 24) (.cells #[i64 U.kind, i64 U.num, .slice an2 U.names.length cn2, .slice ak2 U.kids.length ck2] 28) X.drew) := ⟨HIX.out.o, HX2.out⟩
      have HID : Hid (VfI w X.drew R O 24 T.kind 0 [] (.slice ka i kc) Ks) := HIX.out.below (below_drewN (Below.refl _ X) 1)
      have HCA : Hid (Calls Tryd.prog 39 #[.agg #[i64 U.kind, i64 U.num, .slice an2 U.names.length cn2, .slice ak2 U.kids.length ck2]] X.drew (MkOk X.drew U.dflt)) := HIH.out U HUm.out X.drew _ _ (HUd.out.under (below_drewN (Below.refl _ X) 1))
      clear HI HIX
      obtain ⟨DU, hDU⟩ : ∃ DU, DU = U.dflt := ⟨_, rfl⟩
      rw [← hDU] at HCA HTT
      clear hDU
      refine wp_region_noPanic ?_
      refine wp_region_last (So2 O Q (.cells #[i64 T.kind, i64 0, str [], .slice ka i kc] 24) (.cells #[i64 U.kind, i64 U.num, .slice an2 U.names.length cn2, .slice ak2 U.kids.length ck2] 28)) 7 (by kernel_rfl) ?_
      refine wpL_take 0 19 (.pointer (some ⟨O, 3, none⟩)) [] rfl rfl (by kernel_rfl) (by decide) (by kernel_rfl) (by kernel_rfl) (by kernel_rfl) (fun _ _ _ h => h) HSX.out (by rfl) (fun W hW => by go_simp) ?_
      simp only [Act.put, List.setIfInBounds_toArray, List.set_cons_zero, List.set_cons_succ]
      refine wpL_take 1 20 (.slice ka i kc) [] rfl rfl (by kernel_rfl) (by decide) (by kernel_rfl) (by kernel_rfl) (by kernel_rfl) (fun _ _ _ h => h) HSX.out (by rfl) (fun W hW => by have d0 : W.cell? ⟨O, 3, none⟩ = some (.slice ka i kc) := blk_cell hW.z 3; go_simp) ?_
      simp only [Act.put, List.setIfInBounds_toArray, List.set_cons_zero, List.set_cons_succ]
      refine wpL_take 2 21 (.agg #[i64 U.kind, i64 U.num, .slice an2 U.names.length cn2, .slice ak2 U.kids.length ck2]) [] rfl rfl (by kernel_rfl) (by decide) (by kernel_rfl) (by kernel_rfl) (by kernel_rfl) (fun _ _ _ h => h) HSX.out (by rfl) (fun W hW => by have e0 : W.cell? ⟨Q, 0, none⟩ = some (i64 U.kind) := blk_cell hW.y 0; have e1 : W.cell? ⟨Q, 1, none⟩ = some (i64 U.num) := blk_cell hW.y 1; have e2 : W.cell? ⟨Q, 2, none⟩ = some (.slice an2 U.names.length cn2) := blk_cell hW.y 2; have e3 : W.cell? ⟨Q, 3, none⟩ = some (.slice ak2 U.kids.length ck2) := blk_cell hW.y 3; go_simp) ?_
      simp only [Act.put, List.setIfInBounds_toArray, List.set_cons_zero, List.set_cons_succ]
      refine wpL_one 3 rfl (by kernel_rfl) (by rfl) (fun K hK => ?_)
      go_simp
      refine HCA.out.mono ?_
      rintro e w4 ⟨a9, c9, rfl, hb4, hr4⟩
      have HI4 : Hid (VfI w w4 R O 24 T.kind 0 [] (.slice ka i kc) Ks) := HID.out.below hb4
      have HS4 : Hid (So2 O Q (.cells #[i64 T.kind, i64 0, str [], .slice ka i kc] 24) (.cells #[i64 U.kind, i64 U.num, .slice an2 U.names.length cn2, .slice ak2 U.kids.length ck2] 28) w4) := ⟨HI4.out.o, blk_below HSX.out.y hb4⟩
      have HR4 : Hid (Vd w4 (fun b => Avw w.heap.size R O b ∧ some b ≠ (Value.slice ka i kc).ownBlock) DU (.slice a9 DU.kids.length c9)) := by
        show Vd _ _ _ _
        refine hr4.mono (fun b hb _ => ?_)
        have t1 := blk_lt HID.out.r
        have t2 := blk_lt HID.out.o
        have t5 := HID.out.b.size
        have t6 : ∀ k, (Value.slice ka i kc).ownBlock = some k → w.heap.size ≤ k ∧ k < X.drew.heap.size := fun k hk => HID.out.ok.own.lt k hk
        exact ⟨⟨by omega, by omega, by omega⟩, fun e => by have := (t6 b e.symm).2; omega⟩
      clear hb4 hr4
      go_simp
      refine hK.out _ _ (fun _ => HS4.out) ?_
      clear hK K
      obtain ⟨ao9, cap9, Y9, hrun, hO9, hK9, hI9⟩ := vf_push vunder22 vinfo24 HI4.out HOlo0.out HRO.out DU _ _ _ HR4.out (by rw [HKL.out]; omega) Q _ HS4.out.y HQn.out
      rw [HKL.out] at hrun hI9
      have HRUN := hid hrun
      have HI9 := hid hI9
      have HSA : Hid (So2 O Q (.cells #[i64 T.kind, i64 0, str [], .slice ka i kc] 24) (.cells #[i64 U.kind, i64 U.num, .slice an2 U.names.length cn2, .slice ak2 U.kids.length ck2] 28) (w4.alloc (.cells #[i64 DU.kind, i64 DU.num, str DU.s, .slice a9 DU.kids.length c9] 24))) := ⟨blk_alloc HS4.out.z _, blk_alloc HS4.out.y _⟩
      have HS9 : Hid (So2 O Q (.cells #[i64 T.kind, i64 0, str [], .slice ka i kc] 24) (.cells #[i64 U.kind, i64 U.num, .slice an2 U.names.length cn2, .slice ak2 U.kids.length ck2] 28) Y9) := ⟨hO9, hK9⟩
      have oc3 : Y9.cell? ⟨O, 3, none⟩ = some (.slice ka i kc) := blk_cell hO9 3
      have of3 : Y9.frozen? ⟨O, 3, none⟩ = false := blk_frozen hO9 3
      clear hrun hI9 hO9 hK9
      refine wpL_one 4 rfl (by kernel_rfl) (by rfl) (fun K hK => ?_)
      go_simp
      refine hK.out _ _ (fun _ => HSA.out) ?_
      clear hK K
      refine wpL_one 5 rfl (by kernel_rfl) (by rfl) (fun K hK => ?_)
      refine wp_app_run (.tmp 20) (.tmp 23) 22 rfl _ _ (by rfl) (by rfl) _ rfl _ _ HRUN.out ?_
      refine hK.out _ _ (fun _ => HS9.out) ?_
      clear hK K
      simp only [Act.put, List.setIfInBounds_toArray]
      refine wpL_take 6 25 (.pointer (some ⟨O, 3, none⟩)) [] rfl rfl (by kernel_rfl) (by decide) (by kernel_rfl) (by kernel_rfl) (by kernel_rfl) (fun _ _ _ h => h) HS9.out (by rfl) (fun W hW => by go_simp) ?_
      simp only [Act.put]
      refine wpL_one 7 rfl (by kernel_rfl) (by rfl) (fun K hK => ?_)
      go_simp
      refine hK.out _ _ (fun h => absurd rfl h) ?_
      clear hK K
      refine wpL_done (by kernel_rfl) ?_
      refine NoPanic.normal ?_
      have HM2 : Hid ((Ks ++ [((DU, Value.slice a9 DU.kids.length c9) : Kv)]).map (·.1) = (dfltL T.kids).take (i + 1)) := by show _ = _; rw [List.map_append, HM.out, HTT.out]; rfl
      go_wp2_with fail
      exact ⟨⟨i + 1, _, _, by omega, by go_num, HI9, HM2⟩, by simp [intOf]; omega⟩
    · have he : i = T.kids.length := by omega
      have HKs : Hid (Ks.map (·.1) = (dfltL T.kids)) := by
        show _ = _
        have := HM.out
        have h2 := HOl.out
        rw [List.take_of_length_le (by omega)] at this
        exact this
      have HRw := hid HI.out.r
      have HOw := hid HI.out.o
      have HLD : Hid (D.kids.length = i) := by show _ = _; rw [HDe.out]; show (dfltL T.kids).length = i; rw [HOl.out]; exact he.symm
      have HDk : Hid (D.kind = T.kind ∧ D.num = 0 ∧ D.s = []) := by show _ ∧ _; rw [HDe.out]; exact ⟨rfl, rfl, rfl⟩
      clear he
      have rc0 : wr.cell? ⟨R, 0, none⟩ = some (i64 0) := blk_cell HRw.out 0
      have rf0 : wr.frozen? ⟨R, 0, none⟩ = false := blk_frozen HRw.out 0
      have rc1 : wr.cell? ⟨R, 1, none⟩ = some (i64 0) := blk_cell HRw.out 1
      have rf1 : wr.frozen? ⟨R, 1, none⟩ = false := blk_frozen HRw.out 1
      have rc2 : wr.cell? ⟨R, 2, none⟩ = some (.string ⟨#[]⟩) := blk_cell HRw.out 2
      have rf2 : wr.frozen? ⟨R, 2, none⟩ = false := blk_frozen HRw.out 2
      have rc3 : wr.cell? ⟨R, 3, none⟩ = some (.slice none 0 0) := blk_cell HRw.out 3
      have rf3 : wr.frozen? ⟨R, 3, none⟩ = false := blk_frozen HRw.out 3
      have oc0 : wr.cell? ⟨O, 0, none⟩ = some (i64 T.kind) := blk_cell HOw.out 0
      have oc1 : wr.cell? ⟨O, 1, none⟩ = some (i64 0) := blk_cell HOw.out 1
      have oc2 : wr.cell? ⟨O, 2, none⟩ = some (str []) := blk_cell HOw.out 2
      have oc3 : wr.cell? ⟨O, 3, none⟩ = some (.slice ka i kc) := blk_cell HOw.out 3
      go_wp2_with fail
      refine bodyPost_ret (v := .agg #[i64 T.kind, i64 0, str [], .slice ka i kc]) (results_one Tryd.results39 rfl (load24 (set4 HRw.out _ _ _ _))) rfl ?_
      refine ⟨ka, kc, ?_, bset4 HI.out.b HRlo.out _ _ _ _, ?_⟩
      · rw [HLD.out]; unfold vlV; rw [HDk.out.1, HDk.out.2.1, HDk.out.2.2]
      · rw [HLD.out, HDe.out, ← HKs.out]
        exact HI.out.rd (Nat.zero_le _) _ _ _ _
set_option maxRecDepth 100000 in
set_option maxHeartbeats 12800000 in
theorem pln_leaf (T : Ty) (w : World) (S : Nat → Prop) (nv kv : Value) (hV : Rd w S T nv kv) (h4 : T.kind ≠ 4) : Calls Tryd.prog 39 #[tyV T.kind T.num nv kv] w (MkOk w T.dflt) := by
  refine (?_ : ∀ D, D = T.dflt → Calls Tryd.prog 39 #[tyV T.kind T.num nv kv] w (MkOk w D)) _ rfl
  intro D hD
  have HDe : Hid (D = .mk T.kind 0 [] []) := by show _ = _; rw [hD, T.dflt_eq, if_neg h4]
  have HK4 := hid h4
  have q4 : (T.kind == 4) = false := by simpa using h4
  obtain ⟨an, cn, rfl, at_, ct, rfl⟩ := hV.form
  have HX : Hid (((w.alloc (.cells #[i64 T.kind, i64 T.num, .slice an T.names.length cn, .slice at_ T.kids.length ct] 28)).alloc (zO 24)).heap[w.heap.size]? = some (.cells #[i64 T.kind, i64 T.num, .slice an T.names.length cn, .slice at_ T.kids.length ct] 28)) := blk_alloc (heap_last w _) _
  have HR0 : Hid (((w.alloc (.cells #[i64 T.kind, i64 T.num, .slice an T.names.length cn, .slice at_ T.kids.length ct] 28)).alloc (zO 24)).heap[w.heap.size + 1]? = some (zO 24)) := heap_at3 _ _ _ (by simp)
  have HBV : Hid (Below w.heap.size w ((w.alloc (.cells #[i64 T.kind, i64 T.num, .slice an T.names.length cn, .slice at_ T.kids.length ct] 28)).alloc (zO 24))) := (below_one w _).trans ((below_one _ _).mono (by simp))
  clear hV hD h4
  go_enter Tryd.func39, Tryd.ntmps39
  go_upto_region 1 with fail
  generalize (w.alloc (.cells #[i64 T.kind, i64 T.num, .slice an T.names.length cn, .slice at_ T.kids.length ct] 28)).alloc (zO 24) = V0 at *
  obtain ⟨Z, hZ⟩ : ∃ Z, Z = w.heap.size := ⟨_, rfl⟩
  obtain ⟨R, hR⟩ : ∃ R, R = w.heap.size + 1 := ⟨_, rfl⟩
  have HRw : Hid (w.heap.size ≤ R) := by show _ ≤ _; omega
  rw [← hZ] at HX
  rw [← hR] at HR0
  rw [← hR, ← hZ]
  clear hZ hR
  have zc0 : V0.cell? ⟨Z, 0, none⟩ = some (i64 T.kind) := blk_cell HX.out 0
  have zc1 : V0.cell? ⟨Z, 1, none⟩ = some (i64 T.num) := blk_cell HX.out 1
  have zc2 : V0.cell? ⟨Z, 2, none⟩ = some (.slice an T.names.length cn) := blk_cell HX.out 2
  have zc3 : V0.cell? ⟨Z, 3, none⟩ = some (.slice at_ T.kids.length ct) := blk_cell HX.out 3
  have HB1 : Hid (Below w.heap.size w (V0.alloc (.cells #[i64 T.kind, i64 0, .string ⟨#[]⟩, .slice none 0 0] 24))) := HBV.out.trans ((below_one V0 _).mono HBV.out.size)
  have HO1 : Hid ((V0.alloc (.cells #[i64 T.kind, i64 0, .string ⟨#[]⟩, .slice none 0 0] 24)).heap[V0.heap.size]? = some (.cells #[i64 T.kind, i64 0, .string ⟨#[]⟩, .slice none 0 0] 24)) := heap_last V0 _
  have HR1 : Hid ((V0.alloc (.cells #[i64 T.kind, i64 0, .string ⟨#[]⟩, .slice none 0 0] 24)).heap[R]? = some (zO 24)) := blk_alloc HR0.out _
  have HX1 : Hid ((V0.alloc (.cells #[i64 T.kind, i64 0, .string ⟨#[]⟩, .slice none 0 0] 24)).heap[Z]? = some (.cells #[i64 T.kind, i64 T.num, .slice an T.names.length cn, .slice at_ T.kids.length ct] 28)) := blk_alloc HX.out _
  go_upto_region 2 with fail
  obtain ⟨O, hO⟩ : ∃ O, O = V0.heap.size := ⟨_, rfl⟩
  rw [← hO] at HO1 ⊢
  clear hO zc0 zc1 zc2 zc3
  generalize V0.alloc (.cells #[i64 T.kind, i64 0, .string ⟨#[]⟩, .slice none 0 0] 24) = X at *
  have zc0 : X.cell? ⟨Z, 0, none⟩ = some (i64 T.kind) := blk_cell HX1.out 0
  have zc1 : X.cell? ⟨Z, 1, none⟩ = some (i64 T.num) := blk_cell HX1.out 1
  have zc2 : X.cell? ⟨Z, 2, none⟩ = some (.slice an T.names.length cn) := blk_cell HX1.out 2
  have zc3 : X.cell? ⟨Z, 3, none⟩ = some (.slice at_ T.kids.length ct) := blk_cell HX1.out 3
  have oc0 : X.cell? ⟨O, 0, none⟩ = some (i64 T.kind) := blk_cell HO1.out 0
  have oc1 : X.cell? ⟨O, 1, none⟩ = some (i64 0) := blk_cell HO1.out 1
  have oc2 : X.cell? ⟨O, 2, none⟩ = some (.string ⟨#[]⟩) := blk_cell HO1.out 2
  have oc3 : X.cell? ⟨O, 3, none⟩ = some (.slice none 0 0) := blk_cell HO1.out 3
  have rc0 : X.cell? ⟨R, 0, none⟩ = some (i64 0) := blk_cell HR1.out 0
  have rf0 : X.frozen? ⟨R, 0, none⟩ = false := blk_frozen HR1.out 0
  have rc1 : X.cell? ⟨R, 1, none⟩ = some (i64 0) := blk_cell HR1.out 1
  have rf1 : X.frozen? ⟨R, 1, none⟩ = false := blk_frozen HR1.out 1
  have rc2 : X.cell? ⟨R, 2, none⟩ = some (.string ⟨#[]⟩) := blk_cell HR1.out 2
  have rf2 : X.frozen? ⟨R, 2, none⟩ = false := blk_frozen HR1.out 2
  have rc3 : X.cell? ⟨R, 3, none⟩ = some (.slice none 0 0) := blk_cell HR1.out 3
  have rf3 : X.frozen? ⟨R, 3, none⟩ = false := blk_frozen HR1.out 3
  go_wp2_with fail
  refine bodyPost_ret (v := .agg #[i64 T.kind, i64 0, .string ⟨#[]⟩, .slice none 0 0]) (results_one Tryd.results39 rfl (load24 (set4 HR1.out _ _ _ _))) rfl ?_
  rw [HDe.out]
  exact ⟨none, 0, rfl, bset4 HB1.out HRw.out _ _ _ _, Vd.leaf _ _ _ _ _ (Nat.zero_le _) _ _⟩
theorem plain_ok : ∀ (M : Nat) (T : Ty), T.count ≤ M → M ≤ 1000 → ∀ (w : World) (S : Nat → Prop) (nv kv : Value), Rd w S T nv kv → Calls Tryd.prog 39 #[tyV T.kind T.num nv kv] w (MkOk w T.dflt)
  | 0, T, h, _, _, _, _, _, _ => by have := count_pos T; omega
  | M + 1, T, h, hM, w, S, nv, kv, hV => by
    by_cases h4 : T.kind = 4
    · have hc : T.count = 1 + countL T.kids := by cases T; rfl
      have hl := countL_len T.kids
      exact pln_in T w S nv kv hV (by omega) h4 (fun U hU w nv kv hV => plain_ok M U (by have := countL_mem hU; omega) (by omega) w S nv kv hV)
    · exact pln_leaf T w S nv kv hV h4
set_option maxRecDepth 100000 in
set_option maxHeartbeats 12800000 in
theorem default_ok (T : Ty) (w : World) (S : Nat → Prop) (nv kv : Value) (hV : Rd w S T nv kv) (he : T.err = 0) (hc : T.count ≤ 1000) : Calls Tryd.prog 19 #[tyV T.kind T.num nv kv] w fun e w' => ∃ a c, e = .returned (.tuple #[vlV T.dflt (.slice a T.dflt.kids.length c), i64 0]) ∧ Below w.heap.size w w' ∧ Vd w' (fun b => w.heap.size ≤ b) T.dflt (.slice a T.dflt.kids.length c) := by
  have HCK : Hid (∀ W nv tv, Rd W S T nv tv → Calls Tryd.prog 35 #[tyV T.kind T.num nv tv] W fun e w' => e = .returned (i64 0) ∧ Below W.heap.size W w') := fun W nv tv h => by
    have := check_ok T W S nv tv h
    rw [he] at this
    exact this
  have HPL : Hid (∀ W nv tv, Rd W S T nv tv → Calls Tryd.prog 39 #[tyV T.kind T.num nv tv] W (MkOk W T.dflt)) := fun W nv tv h => plain_ok _ T (Nat.le_refl _) hc W S nv tv h
  have HRd := hid hV
  generalize T.dflt = D at *
  obtain ⟨an, cn, rfl, at_, ct, rfl⟩ := hV.form
  have HX : Hid (((w.alloc (.cells #[i64 T.kind, i64 T.num, .slice an T.names.length cn, .slice at_ T.kids.length ct] 28)).alloc (zO 24)).heap[w.heap.size]? = some (.cells #[i64 T.kind, i64 T.num, .slice an T.names.length cn, .slice at_ T.kids.length ct] 28)) := blk_alloc (heap_last w _) _
  have HR0 : Hid (((w.alloc (.cells #[i64 T.kind, i64 T.num, .slice an T.names.length cn, .slice at_ T.kids.length ct] 28)).alloc (zO 24)).heap[w.heap.size + 1]? = some (zO 24)) := heap_at3 _ _ _ (by simp)
  have HBV : Hid (Below w.heap.size w ((w.alloc (.cells #[i64 T.kind, i64 T.num, .slice an T.names.length cn, .slice at_ T.kids.length ct] 28)).alloc (zO 24))) := (below_one w _).trans ((below_one _ _).mono (by simp))
  clear hV he
  go_enter Tryd.func19, Tryd.ntmps19
  go_upto_region 1 with fail
  generalize (w.alloc (.cells #[i64 T.kind, i64 T.num, .slice an T.names.length cn, .slice at_ T.kids.length ct] 28)).alloc (zO 24) = V0 at *
  obtain ⟨Z, hZ⟩ : ∃ Z, Z = w.heap.size := ⟨_, rfl⟩
  obtain ⟨R, hR⟩ : ∃ R, R = w.heap.size + 1 := ⟨_, rfl⟩
  have HRw : Hid (w.heap.size ≤ R) := by show _ ≤ _; omega
  rw [← hZ] at HX
  rw [← hR] at HR0
  rw [← hR, ← hZ]
  clear hZ hR
  have zc0 : V0.cell? ⟨Z, 0, none⟩ = some (i64 T.kind) := blk_cell HX.out 0
  have zc1 : V0.cell? ⟨Z, 1, none⟩ = some (i64 T.num) := blk_cell HX.out 1
  have zc2 : V0.cell? ⟨Z, 2, none⟩ = some (.slice an T.names.length cn) := blk_cell HX.out 2
  have zc3 : V0.cell? ⟨Z, 3, none⟩ = some (.slice at_ T.kids.length ct) := blk_cell HX.out 3
  have HC1 := hid (HCK.out V0 _ _ (HRd.out.under HBV.out))
  go_wp2_with fail
  refine HC1.out.mono ?_
  rintro e w1 ⟨rfl, hb1⟩
  have HB1 : Hid (Below w.heap.size w w1) := HBV.out.trans (hb1.mono HBV.out.size)
  have HX1 : Hid (w1.heap[Z]? = some (.cells #[i64 T.kind, i64 T.num, .slice an T.names.length cn, .slice at_ T.kids.length ct] 28)) := blk_below HX.out hb1
  have HR1 : Hid (w1.heap[R]? = some (zO 24)) := blk_below HR0.out hb1
  clear hb1 HC1 zc0 zc1 zc2 zc3
  have zc0 : w1.cell? ⟨Z, 0, none⟩ = some (i64 T.kind) := blk_cell HX1.out 0
  have zc1 : w1.cell? ⟨Z, 1, none⟩ = some (i64 T.num) := blk_cell HX1.out 1
  have zc2 : w1.cell? ⟨Z, 2, none⟩ = some (.slice an T.names.length cn) := blk_cell HX1.out 2
  have zc3 : w1.cell? ⟨Z, 3, none⟩ = some (.slice at_ T.kids.length ct) := blk_cell HX1.out 3
  have HC2 := hid (HPL.out w1 _ _ (HRd.out.under HB1.out))
  have HRl : Hid (R < w1.heap.size) := blk_lt HR1.out
  have HwS : Hid (w.heap.size ≤ w1.heap.size) := HB1.out.size
  go_wp2_with fail
  refine HC2.out.mono ?_
  rintro e w2 ⟨a9, c9, rfl, hb2, hr2⟩
  have HB2 : Hid (Below w.heap.size w w2) := HB1.out.trans (hb2.mono HB1.out.size)
  have HR2 : Hid (w2.heap[R]? = some (zO 24)) := blk_below HR1.out hb2
  have HD2 := hid hr2
  clear hb2 hr2 HC2
  have rc0 : w2.cell? ⟨R, 0, none⟩ = some (i64 0) := blk_cell HR2.out 0
  have rf0 : w2.frozen? ⟨R, 0, none⟩ = false := blk_frozen HR2.out 0
  have rc1 : w2.cell? ⟨R, 1, none⟩ = some (i64 0) := blk_cell HR2.out 1
  have rf1 : w2.frozen? ⟨R, 1, none⟩ = false := blk_frozen HR2.out 1
  have rc2 : w2.cell? ⟨R, 2, none⟩ = some (.string ⟨#[]⟩) := blk_cell HR2.out 2
  have rf2 : w2.frozen? ⟨R, 2, none⟩ = false := blk_frozen HR2.out 2
  have rc3 : w2.cell? ⟨R, 3, none⟩ = some (.slice none 0 0) := blk_cell HR2.out 3
  have rf3 : w2.frozen? ⟨R, 3, none⟩ = false := blk_frozen HR2.out 3
  go_wp2_with fail
  refine bodyPost_ret (v := .tuple #[vlV D (.slice a9 D.kids.length c9), i64 0]) (results_cell Tryd.results19 rfl rfl (load24 (set4 HR2.out _ _ _ _))) rfl ?_
  refine ⟨a9, c9, rfl, bset4 HB2.out HRw.out _ _ _ _, HD2.out.move (by simp [World.setCell]) (fun b hb _ => ⟨Nat.le_trans HwS.out hb, ?_⟩)⟩
  have hne : b ≠ R := by have := HRl.out; omega
  rw [Below.heap_setCell _ _ _ _ hne, Below.heap_setCell _ _ _ _ hne, Below.heap_setCell _ _ _ _ hne, Below.heap_setCell _ _ _ _ hne]
end Go.Proofs.YtgiemijhndanjaaDoor
