/- imagolaw16's val: its contract; no statement is proved in this text. -/
import Derived.Test.YtihbbgcpdgnhoaaDoorGv
namespace Go.Proofs.YtihbbgcpdgnhoaaDoor
open Go.ChangeShapes Go.WideShapes Go.ChangeAt Go.RowKit Go.Deep
attribute [local go_sem ↓] Go.wp_at_zero Go.wp_at_succ

set_option maxRecDepth 100000 in
set_option maxHeartbeats 12800000 in
theorem val_in (V : Vl) (w : World) (S : Nat → Prop) (kv : Value) (hV : Vd w S V kv) (hl : V.kids.length ≤ 3000)
    (hih : ∀ U ∈ V.kids, ∀ (w : World) (kv : Value), Vd w S U kv → Calls Tryd.prog 25 #[vlV U kv] w (MkOk w U)) : Calls Tryd.prog 25 #[vlV V kv] w (MkOk w V) := by
  have hln := hV.lens
  unfold maxLen at hln
  obtain ⟨hln1, hln2⟩ := hln
  have HSl : Hid (V.s.length ≤ maxLen) := by show _ ≤ _; unfold maxLen; omega
  have HIH := hid hih
  have HVd := hid hV
  refine (?_ : ∀ D, D = V → Calls Tryd.prog 25 #[vlV V kv] w (MkOk w D)) _ rfl
  intro D hD
  obtain ⟨ak, ck, rfl⟩ := hV.form
  have HDe : Hid (D = .mk V.kind V.num V.s V.kids) := by show _ = _; rw [hD]; cases V; rfl
  have HOl : Hid (V.kids.length = V.kids.length) := rfl
  have HX0 : Hid ((w.alloc (.cells #[i64 V.kind, i64 V.num, str V.s, .slice ak V.kids.length ck] 28)).heap[w.heap.size]? = some (.cells #[i64 V.kind, i64 V.num, str V.s, .slice ak V.kids.length ck] 28)) := heap_last w _
  have HR0 : Hid (((w.alloc (.cells #[i64 V.kind, i64 V.num, str V.s, .slice ak V.kids.length ck] 28)).alloc (zO 44)).heap[w.heap.size + 1]? = some (zO 44)) := heap_at3 _ _ _ (by simp)
  have HB0 : Hid (Below w.heap.size w ((w.alloc (.cells #[i64 V.kind, i64 V.num, str V.s, .slice ak V.kids.length ck] 28)).alloc (zO 44))) := (below_one w _).trans ((below_one _ _).mono (by simp))
  have HX1 : Hid (((w.alloc (.cells #[i64 V.kind, i64 V.num, str V.s, .slice ak V.kids.length ck] 28)).alloc (zO 44)).heap[w.heap.size]? = some (.cells #[i64 V.kind, i64 V.num, str V.s, .slice ak V.kids.length ck] 28)) := blk_alloc HX0.out _
  clear hV hih hD
  have HHL := hid hl

  go_enter Tryd.func25, Tryd.ntmps25
  go_upto_region 1 with fail
  obtain ⟨Z, hZ⟩ : ∃ Z, Z = w.heap.size := ⟨_, rfl⟩
  obtain ⟨R, hRe⟩ : ∃ R, R = w.heap.size + 1 := ⟨_, rfl⟩
  rw [← hRe] at HR0
  rw [← hZ] at HX1
  rw [← hRe, ← hZ]
  have HRlo : Hid (w.heap.size ≤ R) := by show _ ≤ _; omega
  clear hZ hRe HX0
  generalize (w.alloc (.cells #[i64 V.kind, i64 V.num, str V.s, .slice ak V.kids.length ck] 28)).alloc (zO 44) = V0 at *
  have zc0 : V0.cell? ⟨Z, 0, none⟩ = some (i64 V.kind) := blk_cell HX1.out 0
  have zc1 : V0.cell? ⟨Z, 1, none⟩ = some (i64 V.num) := blk_cell HX1.out 1
  have zc2 : V0.cell? ⟨Z, 2, none⟩ = some (str V.s) := blk_cell HX1.out 2
  have zc3 : V0.cell? ⟨Z, 3, none⟩ = some (.slice ak V.kids.length ck) := blk_cell HX1.out 3
  have HBO : Hid (Below V0.heap.size V0 (V0.alloc (.cells #[i64 V.kind, i64 V.num, str V.s, .slice none 0 0] 44))) := below_one V0 _
  have HO1 : Hid ((V0.alloc (.cells #[i64 V.kind, i64 V.num, str V.s, .slice none 0 0] 44)).heap[V0.heap.size]? = some (.cells #[i64 V.kind, i64 V.num, str V.s, .slice none 0 0] 44)) := heap_last V0 _
  have HOlo0 : Hid (w.heap.size ≤ V0.heap.size) := HB0.out.size
  have HRV : Hid (R < V0.heap.size) := blk_lt HR0.out
  go_upto_region 2 with fail
  obtain ⟨O, hO⟩ : ∃ O, O = V0.heap.size := ⟨_, rfl⟩
  rw [← hO] at HO1 HOlo0 HRV ⊢
  clear hO
  have HRO : Hid (R ≠ O) := by show R ≠ O; have := HRV.out; omega
  have HI0 : Hid (VfI w (V0.alloc (.cells #[i64 V.kind, i64 V.num, str V.s, .slice none 0 0] 44)) R O 44 V.kind V.num V.s (.slice none 0 0) []) := ⟨blk_below HR0.out HBO.out, HO1.out, VKids.nil _ _ _ _, by simp [Value.ownBlock], by simp [Value.ownBlock], HB0.out.trans (HBO.out.mono HB0.out.size)⟩
  have HXr : Hid ((V0.alloc (.cells #[i64 V.kind, i64 V.num, str V.s, .slice none 0 0] 44)).heap[Z]? = some (.cells #[i64 V.kind, i64 V.num, str V.s, .slice ak V.kids.length ck] 28)) := blk_below HX1.out HBO.out
  generalize V0.alloc (.cells #[i64 V.kind, i64 V.num, str V.s, .slice none 0 0] 44) = V1 at *
  clear zc0 zc1 zc2 zc3 HBO HO1 HX1 HR0 HB0
  have zc0 : V1.cell? ⟨Z, 0, none⟩ = some (i64 V.kind) := blk_cell HXr.out 0
  have zc1 : V1.cell? ⟨Z, 1, none⟩ = some (i64 V.num) := blk_cell HXr.out 1
  have zc2 : V1.cell? ⟨Z, 2, none⟩ = some (str V.s) := blk_cell HXr.out 2
  have zc3 : V1.cell? ⟨Z, 3, none⟩ = some (.slice ak V.kids.length ck) := blk_cell HXr.out 3
  go_wp2_with fail
  go_loopw [16] (fun u wr => ∃ (i : Nat) (kv : Value) (Ks : List Kv), i ≤ V.kids.length ∧ u = i64 i ∧ Hid (VfI w wr R O 44 V.kind V.num V.s kv Ks) ∧ Hid (Ks.map (·.1) = V.kids.take i)) (fun u _ => V.kids.length - (intOf u).toNat)
  case atStart => exact ⟨0, _, [], by omega, rfl, HI0, by show _ = _; simp⟩
  case round =>
    obtain ⟨i, kvr, Ks, hi, rfl, HI, HM⟩ := hrel
    obtain ⟨ka, kc, rfl⟩ := HI.out.slice
    have hKsl : Ks.length = i := by
      have h1 := congrArg List.length HM.out
      have h2 := HOl.out
      rw [List.length_map, List.length_take] at h1
      omega
    rw [hKsl] at HI
    have HKL := hid hKsl
    clear hKsl
    by_cases hlt : i < V.kids.length
    · obtain ⟨b, off, kv2, rfl, _, hblt, hr, hrd⟩ := (HVd.out.under HI.out.b).kid i hlt
      obtain ⟨U, hU⟩ : ∃ U, U = V.kids[i] := ⟨_, rfl⟩
      rw [← hU] at hr hrd
      have HUm : Hid (U ∈ V.kids) := by show U ∈ _; rw [hU]; exact List.getElem_mem hlt
      have HTT : Hid (V.kids.take (i + 1) = V.kids.take i ++ [U]) := by show _ = _; rw [List.take_succ_eq_append_getElem hlt, ← hU]
      obtain ⟨ak2, ck2, rfl⟩ := hrd.form
      have c0 : wr.cell? ⟨b, off + i * 4, none⟩ = some (i64 U.kind) := hr 0 _ rfl
      have c1 : wr.cell? ⟨b, off + i * 4 + 1, none⟩ = some (i64 U.num) := hr 1 _ rfl
      have c2 : wr.cell? ⟨b, off + i * 4 + 2, none⟩ = some (str U.s) := hr 2 _ rfl
      have c3 : wr.cell? ⟨b, off + i * 4 + 3, none⟩ = some (.slice ak2 U.kids.length ck2) := hr 3 _ rfl
      have HX2 : Hid ((wr.alloc (.cells #[i64 U.kind, i64 U.num, str U.s, .slice ak2 U.kids.length ck2] 28)).heap[wr.heap.size]? = some (.cells #[i64 U.kind, i64 U.num, str U.s, .slice ak2 U.kids.length ck2] 28)) := heap_last wr _
      have HIX := hid (HI.out.below (below_one wr (.cells #[i64 U.kind, i64 U.num, str U.s, .slice ak2 U.kids.length ck2] 28)))
      have HUd : Hid (Vd (wr.alloc (.cells #[i64 U.kind, i64 U.num, str U.s, .slice ak2 U.kids.length ck2] 28)) S U (.slice ak2 U.kids.length ck2)) := hrd.under (below_one wr _)
      have HQn : Hid (some wr.heap.size ≠ (Value.slice ka i kc).ownBlock) := by show _ ≠ _; intro e; have := (HI.out.ok.own.lt _ e.symm).2; omega
      clear hU hr hrd
      go_upto_region 5 with fail
      obtain ⟨Q, hQ⟩ : ∃ Q, Q = wr.heap.size := ⟨_, rfl⟩
      rw [← hQ] at HX2 HQn ⊢
      clear hQ c0 c1 c2 c3
      generalize wr.alloc (.cells #[i64 U.kind, i64 U.num, str U.s, .slice ak2 U.kids.length ck2] 28) = X at *
      have HSX : Hid (So2 O Q (.cells #[i64 V.kind, i64 V.num, str V.s, .slice ka i kc] 44) (.cells #[i64 U.kind, i64 U.num, str U.s, .slice ak2 U.kids.length ck2] 28) X.drew) := ⟨HIX.out.o, HX2.out⟩
      have HID : Hid (VfI w X.drew R O 44 V.kind V.num V.s (.slice ka i kc) Ks) := HIX.out.below (below_drewN (Below.refl _ X) 1)
      have HCA : Hid (Calls Tryd.prog 25 #[.agg #[i64 U.kind, i64 U.num, str U.s, .slice ak2 U.kids.length ck2]] X.drew (MkOk X.drew U)) := HIH.out U HUm.out X.drew _ (HUd.out.under (below_drewN (Below.refl _ X) 1))
      clear HI HIX
      refine wp_region_noPanic ?_
      refine wp_region_last (So2 O Q (.cells #[i64 V.kind, i64 V.num, str V.s, .slice ka i kc] 44) (.cells #[i64 U.kind, i64 U.num, str U.s, .slice ak2 U.kids.length ck2] 28)) 7 (by kernel_rfl) ?_
      refine wpL_take 0 20 (.pointer (some ⟨O, 3, none⟩)) [] rfl rfl (by kernel_rfl) (by decide) (by kernel_rfl) (by kernel_rfl) (by kernel_rfl) (fun _ _ _ h => h) HSX.out (by rfl) (fun W hW => by go_simp) ?_
      simp only [Act.put, List.setIfInBounds_toArray, List.set_cons_zero, List.set_cons_succ]
      refine wpL_take 1 21 (.slice ka i kc) [] rfl rfl (by kernel_rfl) (by decide) (by kernel_rfl) (by kernel_rfl) (by kernel_rfl) (fun _ _ _ h => h) HSX.out (by rfl) (fun W hW => by have d0 : W.cell? ⟨O, 3, none⟩ = some (.slice ka i kc) := blk_cell hW.z 3; go_simp) ?_
      simp only [Act.put, List.setIfInBounds_toArray, List.set_cons_zero, List.set_cons_succ]
      refine wpL_take 2 22 (.agg #[i64 U.kind, i64 U.num, str U.s, .slice ak2 U.kids.length ck2]) [] rfl rfl (by kernel_rfl) (by decide) (by kernel_rfl) (by kernel_rfl) (by kernel_rfl) (fun _ _ _ h => h) HSX.out (by rfl) (fun W hW => by have e0 : W.cell? ⟨Q, 0, none⟩ = some (i64 U.kind) := blk_cell hW.y 0; have e1 : W.cell? ⟨Q, 1, none⟩ = some (i64 U.num) := blk_cell hW.y 1; have e2 : W.cell? ⟨Q, 2, none⟩ = some (str U.s) := blk_cell hW.y 2; have e3 : W.cell? ⟨Q, 3, none⟩ = some (.slice ak2 U.kids.length ck2) := blk_cell hW.y 3; go_simp) ?_
      simp only [Act.put, List.setIfInBounds_toArray, List.set_cons_zero, List.set_cons_succ]
      refine wpL_one 3 rfl (by kernel_rfl) (by rfl) (fun K hK => ?_)
      go_simp
      refine HCA.out.mono ?_
      rintro e w4 ⟨a9, c9, rfl, hb4, hr4⟩
      have HI4 : Hid (VfI w w4 R O 44 V.kind V.num V.s (.slice ka i kc) Ks) := HID.out.below hb4
      have HS4 : Hid (So2 O Q (.cells #[i64 V.kind, i64 V.num, str V.s, .slice ka i kc] 44) (.cells #[i64 U.kind, i64 U.num, str U.s, .slice ak2 U.kids.length ck2] 28) w4) := ⟨HI4.out.o, blk_below HSX.out.y hb4⟩
      have HR4 : Hid (Vd w4 (fun b => Avw w.heap.size R O b ∧ some b ≠ (Value.slice ka i kc).ownBlock) U (.slice a9 U.kids.length c9)) := by
        show Vd _ _ _ _
        refine hr4.mono (fun b hb _ => ?_)
        have t1 := blk_lt HID.out.r
        have t2 := blk_lt HID.out.o
        have t5 := HID.out.b.size
        have t6 : ∀ k, (Value.slice ka i kc).ownBlock = some k → w.heap.size ≤ k ∧ k < X.drew.heap.size := fun k hk => HID.out.ok.own.lt k hk
        exact ⟨⟨by omega, by omega, by omega⟩, fun e => by have := (t6 b e.symm).2; omega⟩
      clear hb4 hr4
      go_simp
      refine hK.out _ _ (fun _ => HS4.out) ?_
      clear hK K
      obtain ⟨ao9, cap9, Y9, hrun, hO9, hK9, hI9⟩ := vf_push vunder31 vinfo33 HI4.out HOlo0.out HRO.out U _ _ _ HR4.out (by rw [HKL.out]; omega) Q _ HS4.out.y HQn.out
      rw [HKL.out] at hrun hI9
      have HRUN := hid hrun
      have HI9 := hid hI9
      have HSA : Hid (So2 O Q (.cells #[i64 V.kind, i64 V.num, str V.s, .slice ka i kc] 44) (.cells #[i64 U.kind, i64 U.num, str U.s, .slice ak2 U.kids.length ck2] 28) (w4.alloc (.cells #[i64 U.kind, i64 U.num, str U.s, .slice a9 U.kids.length c9] 44))) := ⟨blk_alloc HS4.out.z _, blk_alloc HS4.out.y _⟩
      have HS9 : Hid (So2 O Q (.cells #[i64 V.kind, i64 V.num, str V.s, .slice ka i kc] 44) (.cells #[i64 U.kind, i64 U.num, str U.s, .slice ak2 U.kids.length ck2] 28) Y9) := ⟨hO9, hK9⟩
      have oc3 : Y9.cell? ⟨O, 3, none⟩ = some (.slice ka i kc) := blk_cell hO9 3
      have of3 : Y9.frozen? ⟨O, 3, none⟩ = false := blk_frozen hO9 3
      clear hrun hI9 hO9 hK9
      refine wpL_one 4 rfl (by kernel_rfl) (by rfl) (fun K hK => ?_)
      go_simp
      refine hK.out _ _ (fun _ => HSA.out) ?_
      clear hK K
      refine wpL_one 5 rfl (by kernel_rfl) (by rfl) (fun K hK => ?_)
      refine wp_app_run (.tmp 21) (.tmp 24) 42 rfl _ _ (by rfl) (by rfl) _ rfl _ _ HRUN.out ?_
      refine hK.out _ _ (fun _ => HS9.out) ?_
      clear hK K
      simp only [Act.put, List.setIfInBounds_toArray]
      refine wpL_take 6 26 (.pointer (some ⟨O, 3, none⟩)) [] rfl rfl (by kernel_rfl) (by decide) (by kernel_rfl) (by kernel_rfl) (by kernel_rfl) (fun _ _ _ h => h) HS9.out (by rfl) (fun W hW => by go_simp) ?_
      simp only [Act.put]
      refine wpL_one 7 rfl (by kernel_rfl) (by rfl) (fun K hK => ?_)
      go_simp
      refine hK.out _ _ (fun h => absurd rfl h) ?_
      clear hK K
      refine wpL_done (by kernel_rfl) ?_
      refine NoPanic.normal ?_
      have HM2 : Hid ((Ks ++ [((U, Value.slice a9 U.kids.length c9) : Kv)]).map (·.1) = V.kids.take (i + 1)) := by show _ = _; rw [List.map_append, HM.out, HTT.out]; rfl
      go_wp2_with fail
      exact ⟨⟨i + 1, _, _, by omega, by go_num, HI9, HM2⟩, by simp [intOf]; omega⟩
    · have he : i = V.kids.length := by omega
      have HKs : Hid (Ks.map (·.1) = V.kids) := by
        show _ = _
        have := HM.out
        have h2 := HOl.out
        rw [List.take_of_length_le (by omega)] at this
        exact this
      have HRw := hid HI.out.r
      have HOw := hid HI.out.o
      have HLD : Hid (D.kids.length = i) := by show _ = _; rw [HDe.out]; show V.kids.length = i; exact he.symm
      have HDk : Hid (D.kind = V.kind ∧ D.num = V.num ∧ D.s = V.s) := by show _ ∧ _; rw [HDe.out]; exact ⟨rfl, rfl, rfl⟩
      clear he
      have rc0 : wr.cell? ⟨R, 0, none⟩ = some (i64 0) := blk_cell HRw.out 0
      have rf0 : wr.frozen? ⟨R, 0, none⟩ = false := blk_frozen HRw.out 0
      have rc1 : wr.cell? ⟨R, 1, none⟩ = some (i64 0) := blk_cell HRw.out 1
      have rf1 : wr.frozen? ⟨R, 1, none⟩ = false := blk_frozen HRw.out 1
      have rc2 : wr.cell? ⟨R, 2, none⟩ = some (.string ⟨#[]⟩) := blk_cell HRw.out 2
      have rf2 : wr.frozen? ⟨R, 2, none⟩ = false := blk_frozen HRw.out 2
      have rc3 : wr.cell? ⟨R, 3, none⟩ = some (.slice none 0 0) := blk_cell HRw.out 3
      have rf3 : wr.frozen? ⟨R, 3, none⟩ = false := blk_frozen HRw.out 3
      have oc0 : wr.cell? ⟨O, 0, none⟩ = some (i64 V.kind) := blk_cell HOw.out 0
      have oc1 : wr.cell? ⟨O, 1, none⟩ = some (i64 V.num) := blk_cell HOw.out 1
      have oc2 : wr.cell? ⟨O, 2, none⟩ = some (str V.s) := blk_cell HOw.out 2
      have oc3 : wr.cell? ⟨O, 3, none⟩ = some (.slice ka i kc) := blk_cell HOw.out 3
      go_wp2_with fail
      refine bodyPost_ret (v := .agg #[i64 V.kind, i64 V.num, str V.s, .slice ka i kc]) (results_one Tryd.results25 rfl (load33 (set4 HRw.out _ _ _ _))) rfl ?_
      refine ⟨ka, kc, ?_, bset4 HI.out.b HRlo.out _ _ _ _, ?_⟩
      · rw [HLD.out]; unfold vlV; rw [HDk.out.1, HDk.out.2.1, HDk.out.2.2]
      · rw [HLD.out, HDe.out, ← HKs.out]
        exact HI.out.rd HSl.out _ _ _ _
theorem val_ok : ∀ (M : Nat) (V : Vl), V.size ≤ M → M ≤ 3000 → ∀ (w : World) (S : Nat → Prop) (kv : Value), Vd w S V kv → Calls Tryd.prog 25 #[vlV V kv] w (MkOk w V)
  | 0, V, h, _, _, _, _, _ => by have := size_pos V; omega
  | M + 1, V, h, hM, w, S, kv, hV => by
    have hs := V.size_eq
    have hl := sizeL_len V.kids
    exact val_in V w S kv hV (by omega) (fun U hU w kv hV => val_ok M U (by have := sizeL_mem hU; omega) (by omega) w S kv hV)
end Go.Proofs.YtihbbgcpdgnhoaaDoor
