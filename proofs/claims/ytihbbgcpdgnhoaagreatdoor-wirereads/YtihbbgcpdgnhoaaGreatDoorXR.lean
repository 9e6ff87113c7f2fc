/- Texts Va Rsv Sm0 Rs Sms Rfs Wx in one; no statement is proved in this text. -/
import Derived.Test.YtihbbgcpdgnhoaaGreatDoorGv
import Derived.BigQuiet
import Derived.Test.YtihbbgcpdgnhoaaGreatDoorPar
import Derived.Deep.LoopGhost
import Derived.Test.YtihbbgcpdgnhoaaGreatDoorCnt
import Derived.Test.YtihbbgcpdgnhoaaGreatDoorRf
import Derived.Test.YtihbbgcpdgnhoaaGreatDoorRM
namespace Go.Proofs.YtihbbgcpdgnhoaaGreatDoor
open Go.ChangeShapes Go.WideShapes Go.ChangeAt Go.RowKit Go.Deep
attribute [local go_sem ↓] Go.wp_at_zero Go.wp_at_succ

set_option maxRecDepth 100000 in
set_option maxHeartbeats 12800000 in
theorem val_in (V : Vl) (w : World) (S : Nat → Prop) (kv : Value) (hV : Vd w S V kv) (hl : V.kids.length ≤ 3000)
    (hih : ∀ U ∈ V.kids, ∀ (w : World) (kv : Value), Vd w S U kv → Calls Tryz.prog 19 #[vlV U kv] w (MkOk w U)) : Calls Tryz.prog 19 #[vlV V kv] w (MkOk w V) := by
  have hln := hV.lens
  unfold maxLen at hln
  obtain ⟨hln1, hln2⟩ := hln
  have HSl : Hid (V.s.length ≤ maxLen) := by show _ ≤ _; unfold maxLen; omega
  have HIH := hid hih
  have HVd := hid hV
  refine (?_ : ∀ D, D = V → Calls Tryz.prog 19 #[vlV V kv] w (MkOk w D)) _ rfl
  intro D hD
  obtain ⟨ak, ck, rfl⟩ := hV.form
  have HDe : Hid (D = .mk V.kind V.num V.s V.kids) := by show _ = _; rw [hD]; cases V; rfl
  have HOl : Hid (V.kids.length = V.kids.length) := rfl
  have HX0 : Hid ((w.alloc (.cells #[i64 V.kind, i64 V.num, str V.s, .slice ak V.kids.length ck] 28)).heap[w.heap.size]? = some (.cells #[i64 V.kind, i64 V.num, str V.s, .slice ak V.kids.length ck] 28)) := heap_last w _
  have HR0 : Hid (((w.alloc (.cells #[i64 V.kind, i64 V.num, str V.s, .slice ak V.kids.length ck] 28)).alloc (zO 38)).heap[w.heap.size + 1]? = some (zO 38)) := heap_at3 _ _ _ (by simp)
  have HB0 : Hid (Below w.heap.size w ((w.alloc (.cells #[i64 V.kind, i64 V.num, str V.s, .slice ak V.kids.length ck] 28)).alloc (zO 38))) := (below_one w _).trans ((below_one _ _).mono (by simp))
  have HX1 : Hid (((w.alloc (.cells #[i64 V.kind, i64 V.num, str V.s, .slice ak V.kids.length ck] 28)).alloc (zO 38)).heap[w.heap.size]? = some (.cells #[i64 V.kind, i64 V.num, str V.s, .slice ak V.kids.length ck] 28)) := blk_alloc HX0.out _
  clear hV hih hD
  have HHL := hid hl

  go_enter Tryz.func19, Tryz.ntmps19
  go_upto_region 1 with fail
  obtain ⟨Z, hZ⟩ : ∃ Z, Z = w.heap.size := ⟨_, rfl⟩
  obtain ⟨R, hRe⟩ : ∃ R, R = w.heap.size + 1 := ⟨_, rfl⟩
  rw [← hRe] at HR0
  rw [← hZ] at HX1
  rw [← hRe, ← hZ]
  have HRlo : Hid (w.heap.size ≤ R) := by show _ ≤ _; omega
  clear hZ hRe HX0
  generalize (w.alloc (.cells #[i64 V.kind, i64 V.num, str V.s, .slice ak V.kids.length ck] 28)).alloc (zO 38) = V0 at *
  have zc0 : V0.cell? ⟨Z, 0, none⟩ = some (i64 V.kind) := blk_cell HX1.out 0
  have zc1 : V0.cell? ⟨Z, 1, none⟩ = some (i64 V.num) := blk_cell HX1.out 1
  have zc2 : V0.cell? ⟨Z, 2, none⟩ = some (str V.s) := blk_cell HX1.out 2
  have zc3 : V0.cell? ⟨Z, 3, none⟩ = some (.slice ak V.kids.length ck) := blk_cell HX1.out 3
  have HBO : Hid (Below V0.heap.size V0 (V0.alloc (.cells #[i64 V.kind, i64 V.num, str V.s, .slice none 0 0] 38))) := below_one V0 _
  have HO1 : Hid ((V0.alloc (.cells #[i64 V.kind, i64 V.num, str V.s, .slice none 0 0] 38)).heap[V0.heap.size]? = some (.cells #[i64 V.kind, i64 V.num, str V.s, .slice none 0 0] 38)) := heap_last V0 _
  have HOlo0 : Hid (w.heap.size ≤ V0.heap.size) := HB0.out.size
  have HRV : Hid (R < V0.heap.size) := blk_lt HR0.out
  go_upto_region 2 with fail
  obtain ⟨O, hO⟩ : ∃ O, O = V0.heap.size := ⟨_, rfl⟩
  rw [← hO] at HO1 HOlo0 HRV ⊢
  clear hO
  have HRO : Hid (R ≠ O) := by show R ≠ O; have := HRV.out; omega
  have HI0 : Hid (VfI w (V0.alloc (.cells #[i64 V.kind, i64 V.num, str V.s, .slice none 0 0] 38)) R O 38 V.kind V.num V.s (.slice none 0 0) []) := ⟨blk_below HR0.out HBO.out, HO1.out, VKids.nil _ _ _ _, by simp [Value.ownBlock], by simp [Value.ownBlock], HB0.out.trans (HBO.out.mono HB0.out.size)⟩
  have HXr : Hid ((V0.alloc (.cells #[i64 V.kind, i64 V.num, str V.s, .slice none 0 0] 38)).heap[Z]? = some (.cells #[i64 V.kind, i64 V.num, str V.s, .slice ak V.kids.length ck] 28)) := blk_below HX1.out HBO.out
  generalize V0.alloc (.cells #[i64 V.kind, i64 V.num, str V.s, .slice none 0 0] 38) = V1 at *
  clear zc0 zc1 zc2 zc3 HBO HO1 HX1 HR0 HB0
  have zc0 : V1.cell? ⟨Z, 0, none⟩ = some (i64 V.kind) := blk_cell HXr.out 0
  have zc1 : V1.cell? ⟨Z, 1, none⟩ = some (i64 V.num) := blk_cell HXr.out 1
  have zc2 : V1.cell? ⟨Z, 2, none⟩ = some (str V.s) := blk_cell HXr.out 2
  have zc3 : V1.cell? ⟨Z, 3, none⟩ = some (.slice ak V.kids.length ck) := blk_cell HXr.out 3
  go_wp2_with fail
  go_loopw [16] (fun u wr => ∃ (i : Nat) (kv : Value) (Ks : List Kv), i ≤ V.kids.length ∧ u = i64 i ∧ Hid (VfI w wr R O 38 V.kind V.num V.s kv Ks) ∧ Hid (Ks.map (·.1) = V.kids.take i)) (fun u _ => V.kids.length - (intOf u).toNat)
  case atStart => exact ⟨0, _, [], by omega, rfl, HI0, by show _ = _; simp⟩
  case round =>
    obtain ⟨i, kvr, Ks, hi, rfl, HI, HM⟩ := hrel
    obtain ⟨ka, kc, rfl⟩ := HI.out.slice
    have hKsl : Ks.length = i := by
      have h1 := congrArg List.length HM.out
      have h2 := HOl.out
      rw [List.length_map, List.length_take] at h1
      omega
    rw [hKsl] at HI
    have HKL := hid hKsl
    clear hKsl
    by_cases hlt : i < V.kids.length
    · obtain ⟨b, off, kv2, rfl, _, hblt, hr, hrd⟩ := (HVd.out.under HI.out.b).kid i hlt
      obtain ⟨U, hU⟩ : ∃ U, U = V.kids[i] := ⟨_, rfl⟩
      rw [← hU] at hr hrd
      have HUm : Hid (U ∈ V.kids) := by show U ∈ _; rw [hU]; exact List.getElem_mem hlt
      have HTT : Hid (V.kids.take (i + 1) = V.kids.take i ++ [U]) := by show _ = _; rw [List.take_succ_eq_append_getElem hlt, ← hU]
      obtain ⟨ak2, ck2, rfl⟩ := hrd.form
      have c0 : wr.cell? ⟨b, off + i * 4, none⟩ = some (i64 U.kind) := hr 0 _ rfl
      have c1 : wr.cell? ⟨b, off + i * 4 + 1, none⟩ = some (i64 U.num) := hr 1 _ rfl
      have c2 : wr.cell? ⟨b, off + i * 4 + 2, none⟩ = some (str U.s) := hr 2 _ rfl
      have c3 : wr.cell? ⟨b, off + i * 4 + 3, none⟩ = some (.slice ak2 U.kids.length ck2) := hr 3 _ rfl
      have HX2 : Hid ((wr.alloc (.cells #[i64 U.kind, i64 U.num, str U.s, .slice ak2 U.kids.length ck2] 28)).heap[wr.heap.size]? = some (.cells #[i64 U.kind, i64 U.num, str U.s, .slice ak2 U.kids.length ck2] 28)) := heap_last wr _
      have HIX := hid (HI.out.below (below_one wr (.cells #[i64 U.kind, i64 U.num, str U.s, .slice ak2 U.kids.length ck2] 28)))
      have HUd : Hid (Vd (wr.alloc (.cells #[i64 U.kind, i64 U.num, str U.s, .slice ak2 U.kids.length ck2] 28)) S U (.slice ak2 U.kids.length ck2)) := hrd.under (below_one wr _)
      have HQn : Hid (some wr.heap.size ≠ (Value.slice ka i kc).ownBlock) := by show _ ≠ _; intro e; have := (HI.out.ok.own.lt _ e.symm).2; omega
      clear hU hr hrd
      go_upto_region 5 with fail
      obtain ⟨Q, hQ⟩ : ∃ Q, Q = wr.heap.size := ⟨_, rfl⟩
      rw [← hQ] at HX2 HQn ⊢
      clear hQ c0 c1 c2 c3
      generalize wr.alloc (.cells #[i64 U.kind, i64 U.num, str U.s, .slice ak2 U.kids.length ck2] 28) = X at *
      have HSX : Hid (So2 O Q (.cells #[i64 V.kind, i64 V.num, str V.s, .slice ka i kc] 38) (.cells #[i64 U.kind, i64 U.num, str U.s, .slice ak2 U.kids.length ck2] 28) X.drew) := ⟨HIX.out.o, HX2.out⟩
      have HID : Hid (VfI w X.drew R O 38 V.kind V.num V.s (.slice ka i kc) Ks) := HIX.out.below (below_drewN (Below.refl _ X) 1)
      have HCA : Hid (Calls Tryz.prog 19 #[.agg #[i64 U.kind, i64 U.num, str U.s, .slice ak2 U.kids.length ck2]] X.drew (MkOk X.drew U)) := HIH.out U HUm.out X.drew _ (HUd.out.under (below_drewN (Below.refl _ X) 1))
      clear HI HIX
      refine wp_region_noPanic ?_
      refine wp_region_last (So2 O Q (.cells #[i64 V.kind, i64 V.num, str V.s, .slice ka i kc] 38) (.cells #[i64 U.kind, i64 U.num, str U.s, .slice ak2 U.kids.length ck2] 28)) 7 (by kernel_rfl) ?_
      refine wpL_take 0 20 (.pointer (some ⟨O, 3, none⟩)) [] rfl rfl (by kernel_rfl) (by decide) (by kernel_rfl) (by kernel_rfl) (by kernel_rfl) (fun _ _ _ h => h) HSX.out (by rfl) (fun W hW => by go_simp) ?_
      simp only [Act.put, List.setIfInBounds_toArray, List.set_cons_zero, List.set_cons_succ]
      refine wpL_take 1 21 (.slice ka i kc) [] rfl rfl (by kernel_rfl) (by decide) (by kernel_rfl) (by kernel_rfl) (by kernel_rfl) (fun _ _ _ h => h) HSX.out (by rfl) (fun W hW => by have d0 : W.cell? ⟨O, 3, none⟩ = some (.slice ka i kc) := blk_cell hW.z 3; go_simp) ?_
      simp only [Act.put, List.setIfInBounds_toArray, List.set_cons_zero, List.set_cons_succ]
      refine wpL_take 2 22 (.agg #[i64 U.kind, i64 U.num, str U.s, .slice ak2 U.kids.length ck2]) [] rfl rfl (by kernel_rfl) (by decide) (by kernel_rfl) (by kernel_rfl) (by kernel_rfl) (fun _ _ _ h => h) HSX.out (by rfl) (fun W hW => by have e0 : W.cell? ⟨Q, 0, none⟩ = some (i64 U.kind) := blk_cell hW.y 0; have e1 : W.cell? ⟨Q, 1, none⟩ = some (i64 U.num) := blk_cell hW.y 1; have e2 : W.cell? ⟨Q, 2, none⟩ = some (str U.s) := blk_cell hW.y 2; have e3 : W.cell? ⟨Q, 3, none⟩ = some (.slice ak2 U.kids.length ck2) := blk_cell hW.y 3; go_simp) ?_
      simp only [Act.put, List.setIfInBounds_toArray, List.set_cons_zero, List.set_cons_succ]
      refine wpL_one 3 rfl (by kernel_rfl) (by rfl) (fun K hK => ?_)
      go_simp
      refine HCA.out.mono ?_
      rintro e w4 ⟨a9, c9, rfl, hb4, hr4⟩
      have HI4 : Hid (VfI w w4 R O 38 V.kind V.num V.s (.slice ka i kc) Ks) := HID.out.below hb4
      have HS4 : Hid (So2 O Q (.cells #[i64 V.kind, i64 V.num, str V.s, .slice ka i kc] 38) (.cells #[i64 U.kind, i64 U.num, str U.s, .slice ak2 U.kids.length ck2] 28) w4) := ⟨HI4.out.o, blk_below HSX.out.y hb4⟩
      have HR4 : Hid (Vd w4 (fun b => Avw w.heap.size R O b ∧ some b ≠ (Value.slice ka i kc).ownBlock) U (.slice a9 U.kids.length c9)) := by
        show Vd _ _ _ _
        refine hr4.mono (fun b hb _ => ?_)
        have t1 := blk_lt HID.out.r
        have t2 := blk_lt HID.out.o
        have t5 := HID.out.b.size
        have t6 : ∀ k, (Value.slice ka i kc).ownBlock = some k → w.heap.size ≤ k ∧ k < X.drew.heap.size := fun k hk => HID.out.ok.own.lt k hk
        exact ⟨⟨by omega, by omega, by omega⟩, fun e => by have := (t6 b e.symm).2; omega⟩
      clear hb4 hr4
      go_simp
      refine hK.out _ _ (fun _ => HS4.out) ?_
      clear hK K
      obtain ⟨ao9, cap9, Y9, hrun, hO9, hK9, hI9⟩ := vf_push vunder31 vinfo33 HI4.out HOlo0.out HRO.out U _ _ _ HR4.out (by rw [HKL.out]; omega) Q _ HS4.out.y HQn.out
      rw [HKL.out] at hrun hI9
      have HRUN := hid hrun
      have HI9 := hid hI9
      have HSA : Hid (So2 O Q (.cells #[i64 V.kind, i64 V.num, str V.s, .slice ka i kc] 38) (.cells #[i64 U.kind, i64 U.num, str U.s, .slice ak2 U.kids.length ck2] 28) (w4.alloc (.cells #[i64 U.kind, i64 U.num, str U.s, .slice a9 U.kids.length c9] 38))) := ⟨blk_alloc HS4.out.z _, blk_alloc HS4.out.y _⟩
      have HS9 : Hid (So2 O Q (.cells #[i64 V.kind, i64 V.num, str V.s, .slice ka i kc] 38) (.cells #[i64 U.kind, i64 U.num, str U.s, .slice ak2 U.kids.length ck2] 28) Y9) := ⟨hO9, hK9⟩
      have oc3 : Y9.cell? ⟨O, 3, none⟩ = some (.slice ka i kc) := blk_cell hO9 3
      have of3 : Y9.frozen? ⟨O, 3, none⟩ = false := blk_frozen hO9 3
      clear hrun hI9 hO9 hK9
      refine wpL_one 4 rfl (by kernel_rfl) (by rfl) (fun K hK => ?_)
      go_simp
      refine hK.out _ _ (fun _ => HSA.out) ?_
      clear hK K
      refine wpL_one 5 rfl (by kernel_rfl) (by rfl) (fun K hK => ?_)
      refine wp_app_run (.tmp 21) (.tmp 24) 36 rfl _ _ (by rfl) (by rfl) _ rfl _ _ HRUN.out ?_
      refine hK.out _ _ (fun _ => HS9.out) ?_
      clear hK K
      simp only [Act.put, List.setIfInBounds_toArray]
      refine wpL_take 6 26 (.pointer (some ⟨O, 3, none⟩)) [] rfl rfl (by kernel_rfl) (by decide) (by kernel_rfl) (by kernel_rfl) (by kernel_rfl) (fun _ _ _ h => h) HS9.out (by rfl) (fun W hW => by go_simp) ?_
      simp only [Act.put]
      refine wpL_one 7 rfl (by kernel_rfl) (by rfl) (fun K hK => ?_)
      go_simp
      refine hK.out _ _ (fun h => absurd rfl h) ?_
      clear hK K
      refine wpL_done (by kernel_rfl) ?_
      refine NoPanic.normal ?_
      have HM2 : Hid ((Ks ++ [((U, Value.slice a9 U.kids.length c9) : Kv)]).map (·.1) = V.kids.take (i + 1)) := by show _ = _; rw [List.map_append, HM.out, HTT.out]; rfl
      go_wp2_with fail
      exact ⟨⟨i + 1, _, _, by omega, by go_num, HI9, HM2⟩, by simp [intOf]; omega⟩
    · have he : i = V.kids.length := by omega
      have HKs : Hid (Ks.map (·.1) = V.kids) := by
        show _ = _
        have := HM.out
        have h2 := HOl.out
        rw [List.take_of_length_le (by omega)] at this
        exact this
      have HRw := hid HI.out.r
      have HOw := hid HI.out.o
      have HLD : Hid (D.kids.length = i) := by show _ = _; rw [HDe.out]; show V.kids.length = i; exact he.symm
      have HDk : Hid (D.kind = V.kind ∧ D.num = V.num ∧ D.s = V.s) := by show _ ∧ _; rw [HDe.out]; exact ⟨rfl, rfl, rfl⟩
      clear he
      have rc0 : wr.cell? ⟨R, 0, none⟩ = some (i64 0) := blk_cell HRw.out 0
      have rf0 : wr.frozen? ⟨R, 0, none⟩ = false := blk_frozen HRw.out 0
      have rc1 : wr.cell? ⟨R, 1, none⟩ = some (i64 0) := blk_cell HRw.out 1
      have rf1 : wr.frozen? ⟨R, 1, none⟩ = false := blk_frozen HRw.out 1
      have rc2 : wr.cell? ⟨R, 2, none⟩ = some (.string ⟨#[]⟩) := blk_cell HRw.out 2
      have rf2 : wr.frozen? ⟨R, 2, none⟩ = false := blk_frozen HRw.out 2
      have rc3 : wr.cell? ⟨R, 3, none⟩ = some (.slice none 0 0) := blk_cell HRw.out 3
      have rf3 : wr.frozen? ⟨R, 3, none⟩ = false := blk_frozen HRw.out 3
      have oc0 : wr.cell? ⟨O, 0, none⟩ = some (i64 V.kind) := blk_cell HOw.out 0
      have oc1 : wr.cell? ⟨O, 1, none⟩ = some (i64 V.num) := blk_cell HOw.out 1
      have oc2 : wr.cell? ⟨O, 2, none⟩ = some (str V.s) := blk_cell HOw.out 2
      have oc3 : wr.cell? ⟨O, 3, none⟩ = some (.slice ka i kc) := blk_cell HOw.out 3
      go_wp2_with fail
      refine bodyPost_ret (v := .agg #[i64 V.kind, i64 V.num, str V.s, .slice ka i kc]) (results_one Tryz.results19 rfl (load33 (set4 HRw.out _ _ _ _))) rfl ?_
      refine ⟨ka, kc, ?_, bset4 HI.out.b HRlo.out _ _ _ _, ?_⟩
      · rw [HLD.out]; unfold vlV; rw [HDk.out.1, HDk.out.2.1, HDk.out.2.2]
      · rw [HLD.out, HDe.out, ← HKs.out]
        exact HI.out.rd HSl.out _ _ _ _
theorem val_ok : ∀ (M : Nat) (V : Vl), V.size ≤ M → M ≤ 3000 → ∀ (w : World) (S : Nat → Prop) (kv : Value), Vd w S V kv → Calls Tryz.prog 19 #[vlV V kv] w (MkOk w V)
  | 0, V, h, _, _, _, _, _ => by have := size_pos V; omega
  | M + 1, V, h, hM, w, S, kv, hV => by
    have hs := V.size_eq
    have hl := sizeL_len V.kids
    exact val_in V w S kv hV (by omega) (fun U hU w kv hV => val_ok M U (by have := sizeL_mem hU; omega) (by omega) w S kv hV)
end Go.Proofs.YtihbbgcpdgnhoaaGreatDoor
namespace Go.Proofs.YtihbbgcpdgnhoaaGreatDoor
open Go.ChangeShapes Go.WideShapes Go.ChangeAt Go.RowKit Go.Deep
attribute [local go_sem ↓] Go.wp_at_zero Go.wp_at_succ

structure S5 (Z Y b1 o1 b2 o2 : Nat) (oZ oY : Obj) (l1 l2 : List Value) (W : World) : Prop where
  z : W.heap[Z]? = some oZ
  y : W.heap[Y]? = some oY
  r1 : W.rangeAt b1 o1 l1
  r2 : W.rangeAt b2 o2 l2
  l1 : b1 < W.heap.size
  l2 : b2 < W.heap.size
theorem S5.below {Z Y b1 o1 b2 o2 : Nat} {oZ oY : Obj} {l1 l2 : List Value} {W W' : World} (h : S5 Z Y b1 o1 b2 o2 oZ oY l1 l2 W) (hb : Below W.heap.size W W') : S5 Z Y b1 o1 b2 o2 oZ oY l1 l2 W' :=
  ⟨blk_below h.z hb, blk_below h.y hb, range_keep h.r1 (hb.block b1 h.l1), range_keep h.r2 (hb.block b2 h.l2), Nat.lt_of_lt_of_le h.l1 hb.size, Nat.lt_of_lt_of_le h.l2 hb.size⟩
mutual
def sameV : Vl → Vl → Bool
  | .mk k n s l, .mk k' n' s' l' => decide (k = k') && decide (n = n') && decide (s = s') && decide (l.length = l'.length) && sameW l l'
def sameW : List Vl → List Vl → Bool
  | [], [] => true
  | a :: r, b :: s => sameV a b && sameW r s
  | _, _ => false
end
theorem sameV_eq (a b : Vl) : sameV a b = (decide (a.kind = b.kind) && decide (a.num = b.num) && decide (a.s = b.s) && decide (a.kids.length = b.kids.length) && sameW a.kids b.kids) := by
  cases a; cases b; rfl
theorem sameW_take : ∀ (la lb : List Vl) (i : Nat) (h1 : i < la.length) (h2 : i < lb.length), sameW (la.take (i + 1)) (lb.take (i + 1)) = (sameW (la.take i) (lb.take i) && sameV la[i] lb[i])
  | _ :: _, _ :: _, 0, _, _ => by simp [sameW]
  | a :: r, b :: s, i + 1, h1, h2 => by
    have := sameW_take r s i (by simpa using h1) (by simpa using h2)
    simp only [List.take_succ_cons, sameW, List.getElem_cons_succ, this, Bool.and_assoc]
theorem sameW_no : ∀ (la lb : List Vl) (i : Nat) (h1 : i < la.length) (h2 : i < lb.length), sameV la[i] lb[i] = false → sameW la lb = false
  | a :: r, b :: s, 0, _, _, h => by have h' : sameV a b = false := h; simp [sameW, h']
  | a :: r, b :: s, i + 1, h1, h2, h => by simp [sameW, sameW_no r s i (by simpa using h1) (by simpa using h2) h]
set_option maxRecDepth 100000 in
set_option maxHeartbeats 12800000 in
theorem vrsame_in (V U : Vl) (w : World) (S : Nat → Prop) (kv lv : Value) (hR : Vd w S V kv) (hQ : Vd w S U lv)
    (hih : ∀ x ∈ V.kids, ∀ (y : Vl) (w : World) (kv lv : Value), Vd w S x kv → Vd w S y lv → Calls Tryz.prog 34 #[vlV x kv, vlV y lv] w fun e w' => e = .returned (.bool (sameV x y)) ∧ Below w.heap.size w w') :
    Calls Tryz.prog 34 #[vlV V kv, vlV U lv] w fun e w' => e = .returned (.bool (sameV V U)) ∧ Below w.heap.size w w' := by
  obtain ⟨Rr, hRe⟩ : ∃ Rr, Rr = sameV V U := ⟨_, rfl⟩
  have HRe : Hid (Rr = (decide (V.kind = U.kind) && decide (V.num = U.num) && decide (V.s = U.s) && decide (V.kids.length = U.kids.length) && sameW V.kids U.kids)) := by show _ = _; rw [hRe, sameV_eq]
  rw [← hRe]
  clear hRe
  have HIH := hid hih
  have HRd := hid hR
  have HQd := hid hQ
  have hkl := hR.lens.2
  have hll := hQ.lens.2
  unfold maxLen at hkl hll
  obtain ⟨ak, ck, rfl⟩ := hR.form
  obtain ⟨al, cl, rfl⟩ := hQ.form
  have HX : Hid (((w.alloc (.cells #[i64 V.kind, i64 V.num, str V.s, .slice ak V.kids.length ck] 38)).alloc (.cells #[i64 U.kind, i64 U.num, str U.s, .slice al U.kids.length cl] 38)).heap[w.heap.size]? = some (.cells #[i64 V.kind, i64 V.num, str V.s, .slice ak V.kids.length ck] 38)) := blk_alloc (heap_last w _) _
  have HY : Hid (((w.alloc (.cells #[i64 V.kind, i64 V.num, str V.s, .slice ak V.kids.length ck] 38)).alloc (.cells #[i64 U.kind, i64 U.num, str U.s, .slice al U.kids.length cl] 38)).heap[w.heap.size + 1]? = some (.cells #[i64 U.kind, i64 U.num, str U.s, .slice al U.kids.length cl] 38)) := heap_at3 _ _ _ (by simp)
  have HBV : Hid (Below w.heap.size w ((w.alloc (.cells #[i64 V.kind, i64 V.num, str V.s, .slice ak V.kids.length ck] 38)).alloc (.cells #[i64 U.kind, i64 U.num, str U.s, .slice al U.kids.length cl] 38))) := (below_one w _).trans ((below_one _ _).mono (by simp))
  clear hR hQ hih
  go_enter Tryz.func34, Tryz.ntmps34
  go_upto_region 1 with fail
  generalize (w.alloc (.cells #[i64 V.kind, i64 V.num, str V.s, .slice ak V.kids.length ck] 38)).alloc (.cells #[i64 U.kind, i64 U.num, str U.s, .slice al U.kids.length cl] 38) = V0 at *
  obtain ⟨Z, hZ⟩ : ∃ Z, Z = w.heap.size := ⟨_, rfl⟩
  obtain ⟨Y, hY⟩ : ∃ Y, Y = w.heap.size + 1 := ⟨_, rfl⟩
  rw [← hZ] at HX
  rw [← hY] at HY
  rw [← hY, ← hZ]
  clear hZ hY
  have zc3 : V0.cell? ⟨Z, 3, none⟩ = some (.slice ak V.kids.length ck) := blk_cell HX.out 3
  go_wp2_with fail
  go_loopw [9] (fun u wr => ∃ (i : Nat), i ≤ V.kids.length ∧ u = i64 i ∧ Hid (i ≤ U.kids.length) ∧ Hid (sameW (V.kids.take i) (U.kids.take i) = true) ∧ Hid (wr.heap[Z]? = some (.cells #[i64 V.kind, i64 V.num, str V.s, .slice ak V.kids.length ck] 38)) ∧ Hid (wr.heap[Y]? = some (.cells #[i64 U.kind, i64 U.num, str U.s, .slice al U.kids.length cl] 38)) ∧ Hid (Below w.heap.size w wr)) (fun u _ => V.kids.length - (intOf u).toNat)
  case atStart => exact ⟨0, by omega, rfl, Nat.zero_le _, by show _ = _; simp [sameW], HX, HY, HBV⟩
  case round =>
    obtain ⟨i, hi, rfl, HiU, HMs, HXs, HYs, HB⟩ := hrel
    clear zc3
    by_cases hlt : i < V.kids.length
    · by_cases hlt2 : i < U.kids.length
      · obtain ⟨b1, o1, kvx, rfl, _, hb1, hr1, hrx⟩ := (HRd.out.under HB.out).kid i hlt
        obtain ⟨b2, o2, kvy, rfl, _, hb2, hr2, hry⟩ := (HQd.out.under HB.out).kid i hlt2
        obtain ⟨x, hx⟩ : ∃ x, x = V.kids[i] := ⟨_, rfl⟩
        obtain ⟨y, hy⟩ : ∃ y, y = U.kids[i] := ⟨_, rfl⟩
        rw [← hx] at hr1 hrx
        rw [← hy] at hr2 hry
        obtain ⟨ak2, ck2, rfl⟩ := hrx.form
        obtain ⟨al2, cl2, rfl⟩ := hry.form
        have HSX : Hid (S5 Z Y b1 (o1 + i * 4) b2 (o2 + i * 4) (.cells #[i64 V.kind, i64 V.num, str V.s, .slice (some ⟨b1, o1, none⟩) V.kids.length ck] 38) (.cells #[i64 U.kind, i64 U.num, str U.s, .slice (some ⟨b2, o2, none⟩) U.kids.length cl] 38) [i64 x.kind, i64 x.num, str x.s, .slice ak2 x.kids.length ck2] [i64 y.kind, i64 y.num, str y.s, .slice al2 y.kids.length cl2] wr.drew) := ⟨HXs.out, HYs.out, hr1, hr2, hb1, hb2⟩
        have hmx : x ∈ V.kids := by rw [hx]; exact List.getElem_mem hlt
        have HCA := hid (HIH.out x hmx y wr.drew _ _ (hrx.under ⟨rfl, rfl, rfl, Nat.le_refl _, fun _ _ => rfl⟩) (hry.under ⟨rfl, rfl, rfl, Nat.le_refl _, fun _ _ => rfl⟩))
        have HTk : Hid (sameW (V.kids.take (i + 1)) (U.kids.take (i + 1)) = sameV x y) := by show _ = _; rw [sameW_take V.kids U.kids i hlt hlt2, HMs.out, ← hx, ← hy]; rfl
        have HNo : Hid (sameV x y = false → Rr = false) := fun h => by rw [HRe.out, sameW_no V.kids U.kids i hlt hlt2 (by rw [← hx, ← hy]; exact h)]; simp
        have hl2I : (i : Int) < U.kids.length := by omega
        have HiU2 : Hid (i + 1 ≤ U.kids.length) := hlt2
        generalize sameV x y = SB at *
        clear hx hy hr1 hr2 hrx hry hmx
        go_upto_region 4 with fail
        refine wp_region_noPanic ?_
        refine wp_region_last (S5 Z Y b1 (o1 + i * 4) b2 (o2 + i * 4) (.cells #[i64 V.kind, i64 V.num, str V.s, .slice (some ⟨b1, o1, none⟩) V.kids.length ck] 38) (.cells #[i64 U.kind, i64 U.num, str U.s, .slice (some ⟨b2, o2, none⟩) U.kids.length cl] 38) [i64 x.kind, i64 x.num, str x.s, .slice ak2 x.kids.length ck2] [i64 y.kind, i64 y.num, str y.s, .slice al2 y.kids.length cl2]) 18 (by kernel_rfl) ?_
        refine wpL_take 0 12 (i64 i) [4, 5] rfl rfl (by kernel_rfl) (by decide) (by kernel_rfl) (by kernel_rfl) (by kernel_rfl) (fun _ _ _ h => h) HSX.out (by rfl) (fun W hW => by go_simp) ?_
        simp only [Act.put, List.setIfInBounds_toArray, List.set_cons_zero, List.set_cons_succ]
        refine wpL_take 1 13 (.pointer (some ⟨Y, 3, none⟩)) [2, 3, 4, 5] rfl rfl (by kernel_rfl) (by decide) (by kernel_rfl) (by kernel_rfl) (by kernel_rfl) (fun _ _ _ h => h) HSX.out (by rfl) (fun W hW => by go_simp) ?_
        simp only [Act.put, List.setIfInBounds_toArray, List.set_cons_zero, List.set_cons_succ]
        refine wpL_take 2 14 (.slice (some ⟨b2, o2, none⟩) U.kids.length cl) [3, 4, 5] rfl rfl (by kernel_rfl) (by decide) (by kernel_rfl) (by kernel_rfl) (by kernel_rfl) (fun _ _ _ h => h) HSX.out (by rfl) (fun W hW => by have d0 : W.cell? ⟨Y, 3, none⟩ = some (.slice (some ⟨b2, o2, none⟩) U.kids.length cl) := blk_cell hW.y 3; go_simp) ?_
        simp only [Act.put, List.setIfInBounds_toArray, List.set_cons_zero, List.set_cons_succ]
        refine wpL_one 3 rfl (by kernel_rfl) (by rfl) (fun K hK => ?_)
        go_simp
        refine hK.out _ _ (fun _ => HSX.out) ?_
        clear hK K
        refine wpL_take 4 16 (.bool false) [5] rfl rfl (by kernel_rfl) (by decide) (by kernel_rfl) (by kernel_rfl) (by kernel_rfl) (fun _ _ _ h => h) HSX.out (by rfl) (fun W hW => by go_simp) ?_
        simp only [Act.put, List.setIfInBounds_toArray, List.set_cons_zero, List.set_cons_succ]
        refine wpL_take 5 17 (.bool false) [] rfl rfl (by kernel_rfl) (by decide) (by kernel_rfl) (by kernel_rfl) (by kernel_rfl) (fun _ _ _ h => h) HSX.out (by rfl) (fun W hW => by go_simp) ?_
        simp only [Act.put, List.setIfInBounds_toArray, List.set_cons_zero, List.set_cons_succ]
        refine wpL_take 6 18 (.pointer (some ⟨Z, 3, none⟩)) [7, 9, 10, 16, 17] rfl rfl (by kernel_rfl) (by decide) (by kernel_rfl) (by kernel_rfl) (by kernel_rfl) (fun _ _ _ h => h) HSX.out (by rfl) (fun W hW => by go_simp) ?_
        simp only [Act.put, List.setIfInBounds_toArray, List.set_cons_zero, List.set_cons_succ]
        refine wpL_take 7 19 (.slice (some ⟨b1, o1, none⟩) V.kids.length ck) [9, 10, 16, 17] rfl rfl (by kernel_rfl) (by decide) (by kernel_rfl) (by kernel_rfl) (by kernel_rfl) (fun _ _ _ h => h) HSX.out (by rfl) (fun W hW => by have d0 : W.cell? ⟨Z, 3, none⟩ = some (.slice (some ⟨b1, o1, none⟩) V.kids.length ck) := blk_cell hW.z 3; go_simp) ?_
        simp only [Act.put, List.setIfInBounds_toArray, List.set_cons_zero, List.set_cons_succ]
        refine wpL_take 8 20 (i64 i) [9, 10, 16, 17] rfl rfl (by kernel_rfl) (by decide) (by kernel_rfl) (by kernel_rfl) (by kernel_rfl) (fun _ _ _ h => h) HSX.out (by rfl) (fun W hW => by go_simp) ?_
        simp only [Act.put, List.setIfInBounds_toArray, List.set_cons_zero, List.set_cons_succ]
        refine wpL_take 9 21 (.pointer (some ⟨b1, o1 + i * 4, none⟩)) [10, 16, 17] rfl rfl (by kernel_rfl) (by decide) (by kernel_rfl) (by kernel_rfl) (by kernel_rfl) (fun _ _ _ h => h) HSX.out (by rfl) (fun W hW => by go_simp) ?_
        simp only [Act.put, List.setIfInBounds_toArray, List.set_cons_zero, List.set_cons_succ]
        refine wpL_take 10 22 (.agg #[i64 x.kind, i64 x.num, str x.s, .slice ak2 x.kids.length ck2]) [16, 17] rfl rfl (by kernel_rfl) (by decide) (by kernel_rfl) (by kernel_rfl) (by kernel_rfl) (fun _ _ _ h => h) HSX.out (by rfl) (fun W hW => by have d0 : W.cell? ⟨b1, o1 + i * 4, none⟩ = some (i64 x.kind) := hW.r1 0 _ rfl; have d1 : W.cell? ⟨b1, o1 + i * 4 + 1, none⟩ = some (i64 x.num) := hW.r1 1 _ rfl; have d2 : W.cell? ⟨b1, o1 + i * 4 + 2, none⟩ = some (str x.s) := hW.r1 2 _ rfl; have d3 : W.cell? ⟨b1, o1 + i * 4 + 3, none⟩ = some (.slice ak2 x.kids.length ck2) := hW.r1 3 _ rfl; go_simp) ?_
        simp only [Act.put, List.setIfInBounds_toArray, List.set_cons_zero, List.set_cons_succ]
        refine wpL_take 11 23 (.pointer (some ⟨Y, 3, none⟩)) [12, 14, 15, 16, 17] rfl rfl (by kernel_rfl) (by decide) (by kernel_rfl) (by kernel_rfl) (by kernel_rfl) (fun _ _ _ h => h) HSX.out (by rfl) (fun W hW => by go_simp) ?_
        simp only [Act.put, List.setIfInBounds_toArray, List.set_cons_zero, List.set_cons_succ]
        refine wpL_take 12 24 (.slice (some ⟨b2, o2, none⟩) U.kids.length cl) [14, 15, 16, 17] rfl rfl (by kernel_rfl) (by decide) (by kernel_rfl) (by kernel_rfl) (by kernel_rfl) (fun _ _ _ h => h) HSX.out (by rfl) (fun W hW => by have d0 : W.cell? ⟨Y, 3, none⟩ = some (.slice (some ⟨b2, o2, none⟩) U.kids.length cl) := blk_cell hW.y 3; go_simp) ?_
        simp only [Act.put, List.setIfInBounds_toArray, List.set_cons_zero, List.set_cons_succ]
        refine wpL_take 13 25 (i64 i) [14, 15, 16, 17] rfl rfl (by kernel_rfl) (by decide) (by kernel_rfl) (by kernel_rfl) (by kernel_rfl) (fun _ _ _ h => h) HSX.out (by rfl) (fun W hW => by go_simp) ?_
        simp only [Act.put, List.setIfInBounds_toArray, List.set_cons_zero, List.set_cons_succ]
        refine wpL_take 14 26 (.pointer (some ⟨b2, o2 + i * 4, none⟩)) [15, 16, 17] rfl rfl (by kernel_rfl) (by decide) (by kernel_rfl) (by kernel_rfl) (by kernel_rfl) (fun _ _ _ h => h) HSX.out (by rfl) (fun W hW => by go_simp) ?_
        simp only [Act.put, List.setIfInBounds_toArray, List.set_cons_zero, List.set_cons_succ]
        refine wpL_take 15 27 (.agg #[i64 y.kind, i64 y.num, str y.s, .slice al2 y.kids.length cl2]) [16, 17] rfl rfl (by kernel_rfl) (by decide) (by kernel_rfl) (by kernel_rfl) (by kernel_rfl) (fun _ _ _ h => h) HSX.out (by rfl) (fun W hW => by have d0 : W.cell? ⟨b2, o2 + i * 4, none⟩ = some (i64 y.kind) := hW.r2 0 _ rfl; have d1 : W.cell? ⟨b2, o2 + i * 4 + 1, none⟩ = some (i64 y.num) := hW.r2 1 _ rfl; have d2 : W.cell? ⟨b2, o2 + i * 4 + 2, none⟩ = some (str y.s) := hW.r2 2 _ rfl; have d3 : W.cell? ⟨b2, o2 + i * 4 + 3, none⟩ = some (.slice al2 y.kids.length cl2) := hW.r2 3 _ rfl; go_simp) ?_
        simp only [Act.put, List.setIfInBounds_toArray, List.set_cons_zero, List.set_cons_succ]
        refine wpL_one 16 rfl (by kernel_rfl) (by rfl) (fun K hK => ?_)
        go_simp
        refine HCA.out.mono ?_
        rintro e w4 ⟨rfl, hb4⟩
        have hb4' : Below wr.heap.size wr w4 := ⟨hb4.os, hb4.tape, hb4.output, hb4.size, hb4.block⟩
        have HS4 : Hid (S5 Z Y b1 (o1 + i * 4) b2 (o2 + i * 4) (.cells #[i64 V.kind, i64 V.num, str V.s, .slice (some ⟨b1, o1, none⟩) V.kids.length ck] 38) (.cells #[i64 U.kind, i64 U.num, str U.s, .slice (some ⟨b2, o2, none⟩) U.kids.length cl] 38) [i64 x.kind, i64 x.num, str x.s, .slice ak2 x.kids.length ck2] [i64 y.kind, i64 y.num, str y.s, .slice al2 y.kids.length cl2] w4) := HSX.out.below hb4
        have HB4 : Hid (Below w.heap.size w w4) := HB.out.trans (hb4'.mono HB.out.size)
        clear hb4 hb4'
        go_simp
        refine hK.out _ _ (fun _ => HS4.out) ?_
        clear hK K
        cases SB with
        | true =>
          have HM2 : Hid (sameW (V.kids.take (i + 1)) (U.kids.take (i + 1)) = true) := HTk.out
          refine wpL_take 17 29 (.bool false) [] rfl rfl (by kernel_rfl) (by decide) (by kernel_rfl) (by kernel_rfl) (by kernel_rfl) (fun _ _ _ h => h) HS4.out (by rfl) (fun W hW => by go_simp) ?_
          simp only [Act.put, List.setIfInBounds_toArray, List.set_cons_zero, List.set_cons_succ]
          refine wpL_one 18 rfl (by kernel_rfl) (by rfl) (fun K hK => ?_)
          go_simp
          refine hK.out _ _ (fun h => absurd rfl h) ?_
          clear hK K
          refine wpL_done (by kernel_rfl) ?_
          refine NoPanic.normal ?_
          go_wp2_with fail
          exact ⟨⟨i + 1, by omega, by go_num, HiU2, HM2, HS4.out.z, HS4.out.y, HB4⟩, by simp [intOf]; omega⟩
        | false =>
          have HF : Hid (Rr = false) := HNo.out rfl
          refine wpL_take 17 29 (.bool true) [] rfl rfl (by kernel_rfl) (by decide) (by kernel_rfl) (by kernel_rfl) (by kernel_rfl) (fun _ _ _ h => h) HS4.out (by rfl) (fun W hW => by go_simp) ?_
          simp only [Act.put, List.setIfInBounds_toArray, List.set_cons_zero, List.set_cons_succ]
          refine wpL_one 18 rfl (by kernel_rfl) (by rfl) (fun K hK => ?_)
          go_simp
          refine hK.out _ _ (fun h => absurd rfl h) ?_
          clear hK K
          refine wpL_done (by kernel_rfl) ?_
          refine NoPanic.normal ?_
          go_wp2_with fail
          go_ret
          exact ⟨by rw [HF.out]; rfl, HB4.out⟩
      · have HF : Hid (Rr = false) := by
          show _ = _
          rw [HRe.out, decide_eq_false (show ¬ (V.kids.length = U.kids.length) by omega)]
          simp
        have y3 : wr.cell? ⟨Y, 3, none⟩ = some (.slice al U.kids.length cl) := blk_cell HYs.out 3
        have z3 : wr.cell? ⟨Z, 3, none⟩ = some (.slice ak V.kids.length ck) := blk_cell HXs.out 3
        have hgI : (U.kids.length : Int) ≤ i := by omega
        have hgd : decide ((U.kids.length : Int) ≤ i) = true := by simpa using hgI
        go_upto_region 4 with fail
        go_quiet (fail)
        go_wp2_with fail
        go_ret
        exact ⟨by rw [HF.out]; rfl, below_drewN HB.out _⟩
    · have he : i = V.kids.length := by omega
      have HR5 : Hid (Rr = (decide (V.kind = U.kind) && decide (V.num = U.num) && decide (V.s = U.s) && decide (V.kids.length = U.kids.length))) := by
        show _ = _
        rw [HRe.out]
        by_cases hm : V.kids.length = U.kids.length
        · have h1 := HMs.out
          rw [List.take_of_length_le (by omega), List.take_of_length_le (by omega)] at h1
          rw [h1, Bool.and_true]
        · rw [decide_eq_false hm]
          simp
      clear he
      have z0 : wr.cell? ⟨Z, 0, none⟩ = some (i64 V.kind) := blk_cell HXs.out 0
      have z1 : wr.cell? ⟨Z, 1, none⟩ = some (i64 V.num) := blk_cell HXs.out 1
      have z2 : wr.cell? ⟨Z, 2, none⟩ = some (str V.s) := blk_cell HXs.out 2
      have z3 : wr.cell? ⟨Z, 3, none⟩ = some (.slice ak V.kids.length ck) := blk_cell HXs.out 3
      have y0 : wr.cell? ⟨Y, 0, none⟩ = some (i64 U.kind) := blk_cell HYs.out 0
      have y1 : wr.cell? ⟨Y, 1, none⟩ = some (i64 U.num) := blk_cell HYs.out 1
      have y2 : wr.cell? ⟨Y, 2, none⟩ = some (str U.s) := blk_cell HYs.out 2
      have y3 : wr.cell? ⟨Y, 3, none⟩ = some (.slice al U.kids.length cl) := blk_cell HYs.out 3
      by_cases hk : V.kind = U.kind
      · have e_hk0 : (V.kind == U.kind) = true := by simpa using hk
        by_cases hn : V.num = U.num
        · have e_hn0 : (V.num == U.num) = true := by simpa using hn
          by_cases hs : V.s = U.s
          · have e_hs0 : (V.s == U.s) = true := by simpa using hs
            by_cases hm : V.kids.length = U.kids.length
            · have e_hm0 : ((V.kids.length : Int) == U.kids.length) = true := by simp [hm]
              have e_hm1 : (V.kids.length == U.kids.length) = true := by simp [hm]
              have HF : Hid (Rr = true) := by show _ = _; rw [HR5.out, decide_eq_true hk, decide_eq_true hn, decide_eq_true hs, decide_eq_true hm]; rfl
              clear hk hn hs hm
              go_wp2_with fail
              go_ret
              exact ⟨by rw [HF.out]; rfl, HB.out⟩
            · have e_hm0 : ((V.kids.length : Int) == U.kids.length) = false := by simp; omega
              have e_hm1 : (V.kids.length == U.kids.length) = false := by simp; omega
              have HF : Hid (Rr = false) := by show _ = _; rw [HR5.out, decide_eq_false hm]; simp
              clear hk hn hs hm
              go_wp2_with fail
              go_ret
              exact ⟨by rw [HF.out]; rfl, HB.out⟩
          · have e_hs0 : (V.s == U.s) = false := by simpa using hs
            have HF : Hid (Rr = false) := by show _ = _; rw [HR5.out, decide_eq_false hs]; simp
            clear hk hn hs
            go_wp2_with fail
            go_ret
            exact ⟨by rw [HF.out]; rfl, HB.out⟩
        · have e_hn0 : (V.num == U.num) = false := by simpa using hn
          have HF : Hid (Rr = false) := by show _ = _; rw [HR5.out, decide_eq_false hn]; simp
          clear hk hn
          go_wp2_with fail
          go_ret
          exact ⟨by rw [HF.out]; rfl, HB.out⟩
      · have e_hk0 : (V.kind == U.kind) = false := by simpa using hk
        have HF : Hid (Rr = false) := by show _ = _; rw [HR5.out, decide_eq_false hk]; simp
        clear hk
        go_wp2_with fail
        go_ret
        exact ⟨by rw [HF.out]; rfl, HB.out⟩
theorem vrsame_ok : ∀ (M : Nat) (x : Vl), x.size ≤ M → ∀ (y : Vl) (w : World) (S : Nat → Prop) (kv lv : Value), Vd w S x kv → Vd w S y lv → Calls Tryz.prog 34 #[vlV x kv, vlV y lv] w fun e w' => e = .returned (.bool (sameV x y)) ∧ Below w.heap.size w w'
  | 0, T, hM, _, _, _, _, _, _, _ => by have := T.size_eq; omega
  | M + 1, V, hM, U, w, S, kv, lv, hR, hQ => vrsame_in V U w S kv lv hR hQ (fun x hx y w kv lv hR hQ => vrsame_ok M x (by have := sizeL_mem hx; have := V.size_eq; omega) y w S kv lv hR hQ)
end Go.Proofs.YtihbbgcpdgnhoaaGreatDoor
namespace Go.Proofs.YtihbbgcpdgnhoaaGreatDoor
open Go.ChangeShapes Go.WideShapes Go.ChangeAt Go.RowKit Go.Deep

def aloneS (a b : Ty) : Bool := decide (a.kind = b.kind) && decide (a.num = b.num) && decide (a.names = b.names) && decide (a.kids.length = b.kids.length)
mutual
def sameB : Ty → Ty → Bool
  | .mk k n l ks, .mk k' n' l' ks' => decide (k = k') && decide (n = n') && decide (l = l') && decide (ks.length = ks'.length) && sameL ks ks'
def sameL : List Ty → List Ty → Bool
  | [], [] => true
  | a :: r, b :: s => sameB a b && sameL r s
  | _, _ => false
end
mutual
theorem sameB_refl : ∀ a : Ty, sameB a a = true
  | .mk k n l ks => by simp [sameB, sameL_refl ks]
theorem sameL_refl : ∀ l : List Ty, sameL l l = true
  | [] => rfl
  | a :: r => by simp [sameL, sameB_refl a, sameL_refl r]
end
/-- Two rows, with their slices. -/
abbrev Rw : Type := List Ty × List Ty × Value × Value
def scs (Ss : List Rw) : List Value := Ss.flatMap fun x => [x.2.2.1, x.2.2.2]
def allS (Ss : List Rw) : Bool := Ss.all fun x => sameL x.1 x.2.1
def totS (Ss : List Rw) : Nat := (Ss.map fun x => 1 + countL x.1).sum
/-- A slice of kids. -/
def RowAt (V : World) (S : Nat → Prop) (l : List Ty) (v : Value) : Prop := Rd V S (.mk 0 0 [] l) (.slice none 0 0) v
theorem Rd.row {V : World} {S : Nat → Prop} {T : Ty} {nv kv : Value} (h : Rd V S T nv kv) : RowAt V S T.kids kv := by
  cases h with
  | mk b off nvs kvs hn hl ha hc hr => exact .mk b off nvs kvs ⟨none, 0, rfl, Nat.zero_le _, ⟨Nat.le_refl _, fun x hx => by cases hx⟩, Or.inl rfl⟩ hl ha hc hr
/-- Where a tree may stand: below lo, or in one of two blocks. -/
def Sx2 (lo A B b : Nat) : Prop := b < lo ∨ b = A ∨ b = B
structure Stk (V : World) (lo A B : Nat) (v : Value) (Ss : List Rw) : Prop where
  own : V.ownsRow lo 79 2 v Ss.length (scs Ss)
  row : ∀ x ∈ Ss, RowAt V (Sx2 lo A B) x.1 x.2.2.1 ∧ RowAt V (Sx2 lo A B) x.2.1 x.2.2.2 ∧ x.1.length = x.2.1.length
structure Ab (V : World) (A B : Nat) : Prop where
  a : ∃ c, V.heap[A]? = some (.cells c 25)
  b : ∃ c, V.heap[B]? = some (.cells c 25)
theorem RowAt.move {V V' : World} {S S' : Nat → Prop} {l : List Ty} {v : Value} (h : RowAt V S l v) (hz : V.heap.size ≤ V'.heap.size) (hk : ∀ b, S b → b < V.heap.size → S' b ∧ V'.heap[b]? = V.heap[b]?) : RowAt V' S' l v := Rd.move h hz hk
theorem Ab.below {V V' : World} {A B : Nat} (h : Ab V A B) (hb : Below V.heap.size V V') : Ab V' A B := by
  obtain ⟨⟨c, h1⟩, d, h2⟩ := h
  exact ⟨⟨c, blk_below h1 hb⟩, d, blk_below h2 hb⟩
theorem Stk.below {V V' : World} {lo A B : Nat} {v : Value} {Ss : List Rw} (h : Stk V lo A B v Ss) (hb : Below V.heap.size V V') : Stk V' lo A B v Ss :=
  ⟨own_keep1 h.own fun k hk => hb.block k (h.own.lt k hk).2, fun x hx => by
    obtain ⟨h1, h2, h3⟩ := h.row x hx
    exact ⟨h1.move hb.size fun b hS hlt => ⟨hS, hb.block b hlt⟩, h2.move hb.size fun b hS hlt => ⟨hS, hb.block b hlt⟩, h3⟩⟩
/-- What a row's kid is. -/
theorem RowAt.kid {V : World} {S : Nat → Prop} {l : List Ty} {v : Value} (h : RowAt V S l v) : l.length ≤ maxLen ∧ ∃ ao cap, v = .slice ao l.length cap ∧
    ∀ i (hi : i < l.length), ∃ b off nv' kv', ao = some ⟨b, off, none⟩ ∧ S b ∧ b < V.heap.size ∧ V.rangeAt b (off + i * 4) [i64 l[i].kind, i64 l[i].num, nv', kv'] ∧ Rd V S l[i] nv' kv' := (Rd.kid h).2
end Go.Proofs.YtihbbgcpdgnhoaaGreatDoor
namespace Go.Proofs.YtihbbgcpdgnhoaaGreatDoor
open Go.ChangeShapes Go.WideShapes Go.ChangeAt Go.RowKit Go.Deep
attribute [local go_sem ↓] Go.wp_at_zero Go.wp_at_succ

structure S4 (Z Y b1 o1 b2 o2 : Nat) (oZ oY : Obj) (l1 l2 : List Value) (W : World) : Prop where
  z : W.heap[Z]? = some oZ
  y : W.heap[Y]? = some oY
  r1 : W.rangeAt b1 o1 l1
  r2 : W.rangeAt b2 o2 l2
  l1 : b1 < W.heap.size
  l2 : b2 < W.heap.size
theorem S4.below {Z Y b1 o1 b2 o2 : Nat} {oZ oY : Obj} {l1 l2 : List Value} {W W' : World} (h : S4 Z Y b1 o1 b2 o2 oZ oY l1 l2 W) (hb : Below W.heap.size W W') : S4 Z Y b1 o1 b2 o2 oZ oY l1 l2 W' :=
  ⟨blk_below h.z hb, blk_below h.y hb, range_keep h.r1 (hb.block b1 h.l1), range_keep h.r2 (hb.block b2 h.l2), Nat.lt_of_lt_of_le h.l1 hb.size, Nat.lt_of_lt_of_le h.l2 hb.size⟩
theorem eq_of_get {l1 l2 : List Bs} (hl : l1.length = l2.length) (h : ∀ m (h1 : m < l1.length) (h2 : m < l2.length), l1[m] = l2[m]) : l1 = l2 := List.ext_getElem hl h
theorem sameL_take : ∀ (la lb : List Ty) (i : Nat) (h1 : i < la.length) (h2 : i < lb.length), sameL (la.take (i + 1)) (lb.take (i + 1)) = (sameL (la.take i) (lb.take i) && sameB la[i] lb[i])
  | _ :: _, _ :: _, 0, _, _ => by simp [sameL]
  | a :: r, b :: s, i + 1, h1, h2 => by
    have := sameL_take r s i (by simpa using h1) (by simpa using h2)
    simp only [List.take_succ_cons, sameL, List.getElem_cons_succ, this, Bool.and_assoc]
theorem sameL_no : ∀ (la lb : List Ty) (i : Nat) (h1 : i < la.length) (h2 : i < lb.length), sameB la[i] lb[i] = false → sameL la lb = false
  | a :: r, b :: s, 0, _, _, h => by have h' : sameB a b = false := h; simp [sameL, h']
  | a :: r, b :: s, i + 1, h1, h2, h => by simp [sameL, sameL_no r s i (by simpa using h1) (by simpa using h2) h]
set_option maxRecDepth 100000 in
set_option maxHeartbeats 12800000 in
theorem rsame_in (k n : Int) (names : List Bs) (kids : List Ty) (k2 n2 : Int) (names2 : List Bs) (kids2 : List Ty) (w : World) (S : Nat → Prop) (nv kv mv lv : Value) (hR : Rd w S (.mk k n names kids) nv kv) (hQ : Rd w S (.mk k2 n2 names2 kids2) mv lv)
    (hih : ∀ x ∈ kids, ∀ (y : Ty) (w : World) (nv kv mv lv : Value), Rd w S x nv kv → Rd w S y mv lv → Calls Tryz.prog 33 #[tyV x.kind x.num nv kv, tyV y.kind y.num mv lv] w fun e w' => e = .returned (.bool (sameB x y)) ∧ Below w.heap.size w w') :
    Calls Tryz.prog 33 #[tyV k n nv kv, tyV k2 n2 mv lv] w fun e w' => e = .returned (.bool (sameB (.mk k n names kids) (.mk k2 n2 names2 kids2))) ∧ Below w.heap.size w w' := by
  obtain ⟨Rr, hRe⟩ : ∃ Rr, Rr = sameB (.mk k n names kids) (.mk k2 n2 names2 kids2) := ⟨_, rfl⟩
  have HRe : Hid (Rr = (decide (k = k2) && decide (n = n2) && decide (names = names2) && decide (kids.length = kids2.length) && sameL kids kids2)) := by show _ = _; rw [hRe, sameB]
  rw [← hRe]
  clear hRe
  have HIH := hid hih
  have HRd := hid hR
  have HQd := hid hQ
  obtain ⟨⟨an, cn, rfl, hnl, hz1, hz2⟩, hkl, ak, ck, rfl, hz3⟩ := hR.kid
  clear hz1 hz2 hz3
  obtain ⟨⟨am, cm, rfl, hml, hz1, hz2⟩, hll, al, cl, rfl, hz3⟩ := hQ.kid
  clear hz1 hz2 hz3
  unfold maxLen at hnl hkl hml hll
  have HX : Hid (((w.alloc (.cells #[i64 k, i64 n, .slice an names.length cn, .slice ak kids.length ck] 35)).alloc (.cells #[i64 k2, i64 n2, .slice am names2.length cm, .slice al kids2.length cl] 35)).heap[w.heap.size]? = some (.cells #[i64 k, i64 n, .slice an names.length cn, .slice ak kids.length ck] 35)) := blk_alloc (heap_last w _) _
  have HY : Hid (((w.alloc (.cells #[i64 k, i64 n, .slice an names.length cn, .slice ak kids.length ck] 35)).alloc (.cells #[i64 k2, i64 n2, .slice am names2.length cm, .slice al kids2.length cl] 35)).heap[w.heap.size + 1]? = some (.cells #[i64 k2, i64 n2, .slice am names2.length cm, .slice al kids2.length cl] 35)) := heap_at3 _ _ _ (by simp)
  have HBV : Hid (Below w.heap.size w ((w.alloc (.cells #[i64 k, i64 n, .slice an names.length cn, .slice ak kids.length ck] 35)).alloc (.cells #[i64 k2, i64 n2, .slice am names2.length cm, .slice al kids2.length cl] 35))) := (below_one w _).trans ((below_one _ _).mono (by simp))
  clear hR hQ hih
  go_enter Tryz.func33, Tryz.ntmps33
  go_upto_region 1 with fail
  generalize (w.alloc (.cells #[i64 k, i64 n, .slice an names.length cn, .slice ak kids.length ck] 35)).alloc (.cells #[i64 k2, i64 n2, .slice am names2.length cm, .slice al kids2.length cl] 35) = V at *
  obtain ⟨Z, hZ⟩ : ∃ Z, Z = w.heap.size := ⟨_, rfl⟩
  obtain ⟨Y, hY⟩ : ∃ Y, Y = w.heap.size + 1 := ⟨_, rfl⟩
  rw [← hZ] at HX
  rw [← hY] at HY
  rw [← hY, ← hZ]
  clear hZ hY
  have zc0 : V.cell? ⟨Z, 0, none⟩ = some (i64 k) := blk_cell HX.out 0
  have zc1 : V.cell? ⟨Z, 1, none⟩ = some (i64 n) := blk_cell HX.out 1
  have zc2 : V.cell? ⟨Z, 2, none⟩ = some (.slice an names.length cn) := blk_cell HX.out 2
  have zc3 : V.cell? ⟨Z, 3, none⟩ = some (.slice ak kids.length ck) := blk_cell HX.out 3
  have yc0 : V.cell? ⟨Y, 0, none⟩ = some (i64 k2) := blk_cell HY.out 0
  have yc1 : V.cell? ⟨Y, 1, none⟩ = some (i64 n2) := blk_cell HY.out 1
  have yc2 : V.cell? ⟨Y, 2, none⟩ = some (.slice am names2.length cm) := blk_cell HY.out 2
  have yc3 : V.cell? ⟨Y, 3, none⟩ = some (.slice al kids2.length cl) := blk_cell HY.out 3
  by_cases hk : k = k2
  · by_cases hn : n = n2
    · by_cases hl : names.length = names2.length
      · by_cases hm : kids.length = kids2.length
        · have HR2 : Hid (Rr = (decide (names = names2) && sameL kids kids2)) := by show _ = _; rw [HRe.out, decide_eq_true hk, decide_eq_true hn, decide_eq_true hm]; simp
          have e1 : (k != k2) = false := by simpa using hk
          have e2 : (n != n2) = false := by simpa using hn
          have e3 : ((names.length : Int) != names2.length) = false := by simp [hl]
          have e4 : ((kids.length : Int) != kids2.length) = false := by simp [hm]
          have e3' : (names.length != names2.length) = false := by simp [hl]
          have e4' : (kids.length != kids2.length) = false := by simp [hm]
          have HK := hid hk
          have HNn := hid hn
          have HL := hid hl
          have HMm := hid hm
          clear hk hn hl hm HRe
          go_wp2_with fail
          go_loopw [40] (fun u wr => ∃ (i : Nat), i ≤ names.length ∧ u = i64 i ∧ Hid (∀ m (h1 : m < i) (h2 : m < names.length) (h3 : m < names2.length), names[m] = names2[m]) ∧ Hid (wr.heap[Z]? = some (.cells #[i64 k, i64 n, .slice an names.length cn, .slice ak kids.length ck] 35)) ∧ Hid (wr.heap[Y]? = some (.cells #[i64 k2, i64 n2, .slice am names2.length cm, .slice al kids2.length cl] 35)) ∧ Hid (Below w.heap.size w wr)) (fun u _ => names.length - (intOf u).toNat)
          case atStart => exact ⟨0, by omega, rfl, by intro m h1; omega, HX, HY, HBV⟩
          case round =>
            obtain ⟨i, hi, rfl, HNs, HXr, HYr, HB⟩ := hrel
            clear zc0 zc1 zc2 zc3 yc0 yc1 yc2 yc3
            by_cases hlt : i < names.length
            · have hlt2 : i < names2.length := by have := HL.out; omega
              obtain ⟨ao1, cp1, he1, hat1⟩ := (HRd.out.under HB.out).kid.1.at
              cases he1
              obtain ⟨b1, o1, rfl, hb1, cA⟩ := hat1 i hlt
              obtain ⟨ao2, cp2, he2, hat2⟩ := (HQd.out.under HB.out).kid.1.at
              cases he2
              obtain ⟨b2, o2, rfl, hb2, cB⟩ := hat2 i hlt2
              obtain ⟨x, hx⟩ : ∃ x, x = names[i] := ⟨_, rfl⟩
              obtain ⟨y, hy⟩ : ∃ y, y = names2[i] := ⟨_, rfl⟩
              rw [← hx] at cA
              rw [← hy] at cB
              have z2 : wr.cell? ⟨Z, 2, none⟩ = some (.slice (some ⟨b1, o1, none⟩) names.length cn) := blk_cell HXr.out 2
              have y2 : wr.cell? ⟨Y, 2, none⟩ = some (.slice (some ⟨b2, o2, none⟩) names2.length cm) := blk_cell HYr.out 2
              have hl2I : (i : Int) < names2.length := by omega
              have HXe := hid hx
              have HYe := hid hy
              clear hx hy hat1 hat2
              by_cases hxy : x = y
              · have q1 : (x != y) = false := by simpa using hxy
                have q2 : (x == y) = true := by simpa using hxy
                have HN2 : Hid (∀ m (h1 : m < i + 1) (h2 : m < names.length) (h3 : m < names2.length), names[m] = names2[m]) := by
                  intro m h1 h2 h3
                  by_cases e : m = i
                  · subst e; rw [← HXe.out, ← HYe.out]; exact hxy
                  · exact HNs.out m (by omega) h2 h3
                clear hxy
                go_upto_region 6 with fail
                go_quiet (fail)
                go_wp2_with fail
                exact ⟨⟨i + 1, by omega, by go_num, HN2, HXr, HYr, below_drewN HB.out _⟩, by simp [intOf]; omega⟩
              · have q1 : (x != y) = true := by simpa using hxy
                have q2 : (x == y) = false := by simpa using hxy
                have HF : Hid (Rr = false) := by
                  show _ = _
                  rw [HR2.out, decide_eq_false (fun e => hxy ?_)]
                  · rfl
                  · rw [HXe.out, HYe.out]; simp only [e]
                clear hxy
                go_upto_region 6 with fail
                go_quiet (fail)
                go_wp2_with fail
                go_ret
                exact ⟨by rw [HF.out]; rfl, below_drewN HB.out _⟩
            · have HR3 : Hid (Rr = sameL kids kids2) := by
                show _ = _
                rw [HR2.out, decide_eq_true (eq_of_get HL.out (fun m h1 h2 => HNs.out m (by omega) h1 h2))]
                rfl
              have z3 : wr.cell? ⟨Z, 3, none⟩ = some (.slice ak kids.length ck) := blk_cell HXr.out 3
              clear HR2 HNs
              go_wp2_with fail
              generalize hW : wr = W0 at *
              clear hW
              go_loopw [58] (fun u wr => ∃ (i : Nat), i ≤ kids.length ∧ u = i64 i ∧ Hid (sameL (kids.take i) (kids2.take i) = true) ∧ Hid (wr.heap[Z]? = some (.cells #[i64 k, i64 n, .slice an names.length cn, .slice ak kids.length ck] 35)) ∧ Hid (wr.heap[Y]? = some (.cells #[i64 k2, i64 n2, .slice am names2.length cm, .slice al kids2.length cl] 35)) ∧ Hid (Below w.heap.size w wr)) (fun u _ => kids.length - (intOf u).toNat)
              case atStart => exact ⟨0, by omega, rfl, by show _ = _; simp [sameL], HXr, HYr, HB⟩
              case round =>
                obtain ⟨i, hi, rfl, HMs, HXs, HYs, HB⟩ := hrel
                clear z3
                by_cases hlt : i < kids.length
                · have hlt2 : i < kids2.length := by have := HMm.out; omega
                  obtain ⟨_, _, ak1, ck1, he1, hk1⟩ := (HRd.out.under HB.out).kid
                  cases he1
                  obtain ⟨b1, o1, nvx, kvx, rfl, _, hb1, hr1, hrx⟩ := hk1 i hlt
                  obtain ⟨_, _, ak2', ck2', he2, hk2⟩ := (HQd.out.under HB.out).kid
                  cases he2
                  obtain ⟨b2, o2, nvy, kvy, rfl, _, hb2, hr2, hry⟩ := hk2 i hlt2
                  obtain ⟨x, hx⟩ : ∃ x, x = kids[i] := ⟨_, rfl⟩
                  obtain ⟨y, hy⟩ : ∃ y, y = kids2[i] := ⟨_, rfl⟩
                  rw [← hx] at hr1 hrx
                  rw [← hy] at hr2 hry
                  obtain ⟨an2, cn2, rfl, ak2, ck2, rfl⟩ := hrx.form
                  obtain ⟨am2, cm2, rfl, al2, cl2, rfl⟩ := hry.form
                  have HSX : Hid (S4 Z Y b1 (o1 + i * 4) b2 (o2 + i * 4) (.cells #[i64 k, i64 n, .slice an names.length cn, .slice (some ⟨b1, o1, none⟩) kids.length ck] 35) (.cells #[i64 k2, i64 n2, .slice am names2.length cm, .slice (some ⟨b2, o2, none⟩) kids2.length cl] 35) [i64 x.kind, i64 x.num, .slice an2 x.names.length cn2, .slice ak2 x.kids.length ck2] [i64 y.kind, i64 y.num, .slice am2 y.names.length cm2, .slice al2 y.kids.length cl2] wr.drew) := ⟨HXs.out, HYs.out, hr1, hr2, hb1, hb2⟩
                  have hmx : x ∈ kids := by rw [hx]; exact List.getElem_mem hlt
                  have HCA := hid (HIH.out x hmx y wr.drew _ _ _ _ (hrx.under ⟨rfl, rfl, rfl, Nat.le_refl _, fun _ _ => rfl⟩) (hry.under ⟨rfl, rfl, rfl, Nat.le_refl _, fun _ _ => rfl⟩))
                  have HTk : Hid (sameL (kids.take (i + 1)) (kids2.take (i + 1)) = sameB x y) := by show _ = _; rw [sameL_take kids kids2 i hlt hlt2, HMs.out, ← hx, ← hy]; rfl
                  have HNo : Hid (sameB x y = false → Rr = false) := fun h => by rw [HR3.out]; exact sameL_no kids kids2 i hlt hlt2 (by rw [← hx, ← hy]; exact h)
                  have hl2I : (i : Int) < kids2.length := by omega
                  generalize sameB x y = SB at *
                  clear hx hy hr1 hr2 hrx hry hk1 hk2 hmx
                  go_upto_region 12 with fail
                  refine wp_region_noPanic ?_
                  refine wp_region_last (S4 Z Y b1 (o1 + i * 4) b2 (o2 + i * 4) (.cells #[i64 k, i64 n, .slice an names.length cn, .slice (some ⟨b1, o1, none⟩) kids.length ck] 35) (.cells #[i64 k2, i64 n2, .slice am names2.length cm, .slice (some ⟨b2, o2, none⟩) kids2.length cl] 35) [i64 x.kind, i64 x.num, .slice an2 x.names.length cn2, .slice ak2 x.kids.length ck2] [i64 y.kind, i64 y.num, .slice am2 y.names.length cm2, .slice al2 y.kids.length cl2]) 11 (by kernel_rfl) ?_
                  refine wpL_take 0 61 (.pointer (some ⟨Z, 3, none⟩)) [1, 3, 4, 10] rfl rfl (by kernel_rfl) (by decide) (by kernel_rfl) (by kernel_rfl) (by kernel_rfl) (fun _ _ _ h => h) HSX.out (by rfl) (fun W hW => by go_simp) ?_
                  simp only [Act.put, List.setIfInBounds_toArray, List.set_cons_zero, List.set_cons_succ]
                  refine wpL_take 1 62 (.slice (some ⟨b1, o1, none⟩) kids.length ck) [3, 4, 10] rfl rfl (by kernel_rfl) (by decide) (by kernel_rfl) (by kernel_rfl) (by kernel_rfl) (fun _ _ _ h => h) HSX.out (by rfl) (fun W hW => by have d0 : W.cell? ⟨Z, 3, none⟩ = some (.slice (some ⟨b1, o1, none⟩) kids.length ck) := blk_cell hW.z 3; go_simp) ?_
                  simp only [Act.put, List.setIfInBounds_toArray, List.set_cons_zero, List.set_cons_succ]
                  refine wpL_take 2 63 (i64 i) [3, 4, 10] rfl rfl (by kernel_rfl) (by decide) (by kernel_rfl) (by kernel_rfl) (by kernel_rfl) (fun _ _ _ h => h) HSX.out (by rfl) (fun W hW => by go_simp) ?_
                  simp only [Act.put, List.setIfInBounds_toArray, List.set_cons_zero, List.set_cons_succ]
                  refine wpL_take 3 64 (.pointer (some ⟨b1, o1 + i * 4, none⟩)) [4, 10] rfl rfl (by kernel_rfl) (by decide) (by kernel_rfl) (by kernel_rfl) (by kernel_rfl) (fun _ _ _ h => h) HSX.out (by rfl) (fun W hW => by go_simp) ?_
                  simp only [Act.put, List.setIfInBounds_toArray, List.set_cons_zero, List.set_cons_succ]
                  refine wpL_take 4 65 (.agg #[i64 x.kind, i64 x.num, .slice an2 x.names.length cn2, .slice ak2 x.kids.length ck2]) [10] rfl rfl (by kernel_rfl) (by decide) (by kernel_rfl) (by kernel_rfl) (by kernel_rfl) (fun _ _ _ h => h) HSX.out (by rfl) (fun W hW => by have d0 : W.cell? ⟨b1, o1 + i * 4, none⟩ = some (i64 x.kind) := hW.r1 0 _ rfl; have d1 : W.cell? ⟨b1, o1 + i * 4 + 1, none⟩ = some (i64 x.num) := hW.r1 1 _ rfl; have d2 : W.cell? ⟨b1, o1 + i * 4 + 2, none⟩ = some (.slice an2 x.names.length cn2) := hW.r1 2 _ rfl; have d3 : W.cell? ⟨b1, o1 + i * 4 + 3, none⟩ = some (.slice ak2 x.kids.length ck2) := hW.r1 3 _ rfl; go_simp) ?_
                  simp only [Act.put, List.setIfInBounds_toArray, List.set_cons_zero, List.set_cons_succ]
                  refine wpL_take 5 66 (.pointer (some ⟨Y, 3, none⟩)) [6, 8, 9, 10] rfl rfl (by kernel_rfl) (by decide) (by kernel_rfl) (by kernel_rfl) (by kernel_rfl) (fun _ _ _ h => h) HSX.out (by rfl) (fun W hW => by go_simp) ?_
                  simp only [Act.put, List.setIfInBounds_toArray, List.set_cons_zero, List.set_cons_succ]
                  refine wpL_take 6 67 (.slice (some ⟨b2, o2, none⟩) kids2.length cl) [8, 9, 10] rfl rfl (by kernel_rfl) (by decide) (by kernel_rfl) (by kernel_rfl) (by kernel_rfl) (fun _ _ _ h => h) HSX.out (by rfl) (fun W hW => by have d0 : W.cell? ⟨Y, 3, none⟩ = some (.slice (some ⟨b2, o2, none⟩) kids2.length cl) := blk_cell hW.y 3; go_simp) ?_
                  simp only [Act.put, List.setIfInBounds_toArray, List.set_cons_zero, List.set_cons_succ]
                  refine wpL_take 7 68 (i64 i) [8, 9, 10] rfl rfl (by kernel_rfl) (by decide) (by kernel_rfl) (by kernel_rfl) (by kernel_rfl) (fun _ _ _ h => h) HSX.out (by rfl) (fun W hW => by go_simp) ?_
                  simp only [Act.put, List.setIfInBounds_toArray, List.set_cons_zero, List.set_cons_succ]
                  refine wpL_take 8 69 (.pointer (some ⟨b2, o2 + i * 4, none⟩)) [9, 10] rfl rfl (by kernel_rfl) (by decide) (by kernel_rfl) (by kernel_rfl) (by kernel_rfl) (fun _ _ _ h => h) HSX.out (by rfl) (fun W hW => by go_simp) ?_
                  simp only [Act.put, List.setIfInBounds_toArray, List.set_cons_zero, List.set_cons_succ]
                  refine wpL_take 9 70 (.agg #[i64 y.kind, i64 y.num, .slice am2 y.names.length cm2, .slice al2 y.kids.length cl2]) [10] rfl rfl (by kernel_rfl) (by decide) (by kernel_rfl) (by kernel_rfl) (by kernel_rfl) (fun _ _ _ h => h) HSX.out (by rfl) (fun W hW => by have d0 : W.cell? ⟨b2, o2 + i * 4, none⟩ = some (i64 y.kind) := hW.r2 0 _ rfl; have d1 : W.cell? ⟨b2, o2 + i * 4 + 1, none⟩ = some (i64 y.num) := hW.r2 1 _ rfl; have d2 : W.cell? ⟨b2, o2 + i * 4 + 2, none⟩ = some (.slice am2 y.names.length cm2) := hW.r2 2 _ rfl; have d3 : W.cell? ⟨b2, o2 + i * 4 + 3, none⟩ = some (.slice al2 y.kids.length cl2) := hW.r2 3 _ rfl; go_simp) ?_
                  simp only [Act.put, List.setIfInBounds_toArray, List.set_cons_zero, List.set_cons_succ]
                  refine wpL_one 10 rfl (by kernel_rfl) (by rfl) (fun K hK => ?_)
                  go_simp
                  refine HCA.out.mono ?_
                  rintro e w4 ⟨rfl, hb4⟩
                  have hb4' : Below wr.heap.size wr w4 := ⟨hb4.os, hb4.tape, hb4.output, hb4.size, hb4.block⟩
                  have HS4 : Hid (S4 Z Y b1 (o1 + i * 4) b2 (o2 + i * 4) (.cells #[i64 k, i64 n, .slice an names.length cn, .slice (some ⟨b1, o1, none⟩) kids.length ck] 35) (.cells #[i64 k2, i64 n2, .slice am names2.length cm, .slice (some ⟨b2, o2, none⟩) kids2.length cl] 35) [i64 x.kind, i64 x.num, .slice an2 x.names.length cn2, .slice ak2 x.kids.length ck2] [i64 y.kind, i64 y.num, .slice am2 y.names.length cm2, .slice al2 y.kids.length cl2] w4) := HSX.out.below hb4
                  have HB4 : Hid (Below w.heap.size w w4) := HB.out.trans (hb4'.mono HB.out.size)
                  clear hb4 hb4'
                  go_simp
                  refine hK.out _ _ (fun _ => HS4.out) ?_
                  clear hK K
                  cases SB with
                  | true =>
                    have HM2 : Hid (sameL (kids.take (i + 1)) (kids2.take (i + 1)) = true) := HTk.out
                    refine wpL_one 11 rfl (by kernel_rfl) (by rfl) (fun K hK => ?_)
                    go_simp
                    refine hK.out _ _ (fun h => absurd rfl h) ?_
                    clear hK K
                    refine wpL_done (by kernel_rfl) ?_
                    refine NoPanic.normal ?_
                    go_wp2_with fail
                    exact ⟨⟨i + 1, by omega, by go_num, HM2, HS4.out.z, HS4.out.y, HB4⟩, by simp [intOf]; omega⟩
                  | false =>
                    have HF : Hid (Rr = false) := HNo.out rfl
                    refine wpL_one 11 rfl (by kernel_rfl) (by rfl) (fun K hK => ?_)
                    go_simp
                    refine hK.out _ _ (fun h => absurd rfl h) ?_
                    clear hK K
                    refine wpL_done (by kernel_rfl) ?_
                    refine NoPanic.normal ?_
                    go_wp2_with fail
                    go_ret
                    exact ⟨by rw [HF.out]; rfl, HB4.out⟩
                · have HF : Hid (Rr = true) := by
                    show _ = _
                    have h1 := HMs.out
                    rw [List.take_of_length_le (by omega), List.take_of_length_le (by have := HMm.out; omega)] at h1
                    rw [HR3.out, h1]
                  go_wp2_with fail
                  go_ret
                  exact ⟨by rw [HF.out]; rfl, HB.out⟩
        · skip
          have e1 : (k != k2) = false := by simpa using hk
          have e2 : (n != n2) = false := by simpa using hn
          have e3 : ((names.length : Int) != names2.length) = false := by simp [hl]
          have e3' : (names.length != names2.length) = false := by simp [hl]
          have e4 : ((kids.length : Int) != kids2.length) = true := by simp; omega
          have e4' : (kids.length != kids2.length) = true := by simp; omega
          have HMm := hid hm
          have HF0 : Hid (decide (kids.length = kids2.length) = false) := decide_eq_false hm
          have HKk := hid hk
          have HNn := hid hn
          have HLl := hid hl
          clear hk hn hl hm
          have HF : Hid (Rr = false) := by show _ = _; rw [HRe.out, HF0.out]; simp
          clear HRe
          go_wp2_with fail
          go_ret
          exact ⟨by rw [HF.out]; rfl, HBV.out⟩
      · skip
        have e1 : (k != k2) = false := by simpa using hk
        have e2 : (n != n2) = false := by simpa using hn
        have e3 : ((names.length : Int) != names2.length) = true := by simp; omega
        have e3' : (names.length != names2.length) = true := by simp; omega
        have HF0 : Hid (decide (names = names2) = false) := decide_eq_false (fun e => hl (by rw [e]))
        have HKk := hid hk
        have HNn := hid hn
        clear hk hn hl
        have HF : Hid (Rr = false) := by show _ = _; rw [HRe.out, HF0.out]; simp
        clear HRe
        go_wp2_with fail
        go_ret
        exact ⟨by rw [HF.out]; rfl, HBV.out⟩
    · skip
      have e1 : (k != k2) = false := by simpa using hk
      have e2 : (n != n2) = true := by simpa using hn
      have HF0 : Hid (decide (n = n2) = false) := decide_eq_false hn
      have HKk := hid hk
      clear hk hn
      have HF : Hid (Rr = false) := by show _ = _; rw [HRe.out, HF0.out]; simp
      clear HRe
      go_wp2_with fail
      go_ret
      exact ⟨by rw [HF.out]; rfl, HBV.out⟩
  · skip
    have e1 : (k != k2) = true := by simpa using hk
    have HF0 : Hid (decide (k = k2) = false) := decide_eq_false hk
    clear hk
    have HF : Hid (Rr = false) := by show _ = _; rw [HRe.out, HF0.out]; simp
    clear HRe
    go_wp2_with fail
    go_ret
    exact ⟨by rw [HF.out]; rfl, HBV.out⟩
theorem rsame_ok : ∀ (M : Nat) (x : Ty), x.count ≤ M → ∀ (y : Ty) (w : World) (S : Nat → Prop) (nv kv mv lv : Value), Rd w S x nv kv → Rd w S y mv lv → Calls Tryz.prog 33 #[tyV x.kind x.num nv kv, tyV y.kind y.num mv lv] w fun e w' => e = .returned (.bool (sameB x y)) ∧ Below w.heap.size w w'
  | 0, T, hM, _, _, _, _, _, _, _, _, _ => by have := count_pos T; omega
  | M + 1, .mk k n names kids, hM, .mk k2 n2 names2 kids2, w, S, nv, kv, mv, lv, hR, hQ => by
    simp only [Ty.count] at hM
    exact rsame_in k n names kids k2 n2 names2 kids2 w S nv kv mv lv hR hQ (fun x hx y w nv kv mv lv hR hQ => rsame_ok M x (by have := countL_mem hx; omega) y w S nv kv mv lv hR hQ)
end Go.Proofs.YtihbbgcpdgnhoaaGreatDoor
namespace Go.Proofs.YtihbbgcpdgnhoaaGreatDoor
open Go.ChangeShapes Go.WideShapes Go.ChangeAt Go.RowKit Go.Deep
attribute [local go_sem ↓] Go.wp_at_zero Go.wp_at_succ
set_option maxRecDepth 100000

abbrev stD (v : Int) (T : Ty) (V : Vl) (nv tv kv : Value) : Obj := .cells #[i64 v, i64 T.kind, i64 T.num, nv, tv, i64 V.kind, i64 V.num, str V.s, kv] 40
def sameS (v : Int) (T : Ty) (V : Vl) (v' : Int) (T' : Ty) (V' : Vl) : Bool := decide (v = v') && sameB T T' && sameV V V'
set_option maxHeartbeats 6400000 in
theorem rst_same (v v' : Int) (T T' : Ty) (V V' : Vl) (w : World) (S : Nat → Prop) (nv tv kv nv' tv' kv' : Value) (hR : Rd w S T nv tv) (hV : Vd w S V kv) (hR' : Rd w S T' nv' tv') (hV' : Vd w S V' kv') : Calls Tryz.prog 15 #[stV v T V nv tv kv, stV v' T' V' nv' tv' kv'] w fun e w' => e = .returned (.bool (sameS v T V v' T' V')) ∧ Below w.heap.size w w' := by
  have hR0 := hR
  have hV0 := hV
  have hR1 := hR'
  have hV1 := hV'
  obtain ⟨ka, kc, rfl⟩ := hV.form
  obtain ⟨an, cn, rfl, at_, ct, rfl⟩ := hR.form
  obtain ⟨ka', kc', rfl⟩ := hV'.form
  obtain ⟨an', cn', rfl, at', ct', rfl⟩ := hR'.form
  obtain ⟨HXa, HYa, hb0⟩ := two_boxes w (stD v T V (.slice an T.names.length cn) (.slice at_ T.kids.length ct) (.slice ka V.kids.length kc)) (stD v' T' V' (.slice an' T'.names.length cn') (.slice at' T'.kids.length ct') (.slice ka' V'.kids.length kc'))
  have HX := hid HXa
  have HY := hid HYa
  have HB0 := hid hb0
  have HC22 := hid (rsame_ok T.count T (Nat.le_refl _) T' _ S _ _ _ _ (hR0.under hb0) (hR1.under hb0))
  have HC23 := hid fun W hb => vrsame_ok V.size V (Nat.le_refl _) V' W S _ _ (hV0.under hb) (hV1.under (w' := W) hb)
  unfold sameS
  obtain ⟨bT, hbT⟩ : ∃ b, b = sameB T T' := ⟨_, rfl⟩
  rw [← hbT] at HC22 ⊢
  clear hbT
  clear HXa HYa hb0 hR hV hR' hV' hR0 hV0 hR1 hV1
  by_cases hv : v = v'
  · subst hv
    rw [decide_eq_true rfl, Bool.true_and]
    go_enter Tryz.func15, Tryz.ntmps15
    go_wp2_with fail
    refine HC22.out.mono ?_
    rintro e w1 ⟨rfl, hb1⟩
    have HX1 := hid (blk_below HX.out hb1)
    have HY1 := hid (blk_below HY.out hb1)
    have HB1 : Hid (Below w.heap.size w w1) := HB0.out.trans (hb1.mono HB0.out.size)
    clear hb1 HC22
    cases bT with
    | false =>
      go_wp2_with fail
      go_ret
      exact ⟨rfl, HB1.out⟩
    | true =>
      have HC := hid (HC23.out w1 HB1.out)
      clear HC23
      have x0 := blk_cell HX1.out 0
      have x1 := blk_cell HX1.out 1
      have x2 := blk_cell HX1.out 2
      have x3 := blk_cell HX1.out 3
      have x4 := blk_cell HX1.out 4
      have x5 := blk_cell HX1.out 5
      have x6 := blk_cell HX1.out 6
      have x7 := blk_cell HX1.out 7
      have x8 := blk_cell HX1.out 8
      have y0 := blk_cell HY1.out 0
      have y1 := blk_cell HY1.out 1
      have y2 := blk_cell HY1.out 2
      have y3 := blk_cell HY1.out 3
      have y4 := blk_cell HY1.out 4
      have y5 := blk_cell HY1.out 5
      have y6 := blk_cell HY1.out 6
      have y7 := blk_cell HY1.out 7
      have y8 := blk_cell HY1.out 8
      go_wp2_with fail
      refine HC.out.mono ?_
      rintro e w2 ⟨rfl, hb2⟩
      have HB2 : Hid (Below w.heap.size w w2) := HB1.out.trans (hb2.mono HB1.out.size)
      clear hb2 HC
      go_wp2_with fail
      go_ret
      exact ⟨rfl, HB2.out⟩
  · rw [decide_eq_false hv, Bool.false_and, Bool.false_and]
    have hvb : (v == v') = false := beq_false_of_ne hv
    go_enter Tryz.func15, Tryz.ntmps15
    go_wp2_with fail
    go_ret
    exact ⟨rfl, HB0.out⟩
end Go.Proofs.YtihbbgcpdgnhoaaGreatDoor
namespace Go.Proofs.YtihbbgcpdgnhoaaGreatDoor
open Go.ChangeShapes Go.WideShapes Go.ChangeAt Go.RowKit Go.Deep
attribute [local go_sem ↓] Go.wp_at_zero Go.wp_at_succ
set_option maxRecDepth 100000

theorem zero46 (w : World) : (zeroValue 40).run Tryz.prog w = .ok (.agg #[i64 0, i64 0, i64 0, .slice none 0 0, .slice none 0 0, i64 0, i64 0, str [], .slice none 0 0]) w := by kernel_rfl
abbrev z46 : Obj := .cells #[i64 0, i64 0, i64 0, .slice none 0 0, .slice none 0 0, i64 0, i64 0, str [], .slice none 0 0] 40
theorem vload46 {W : World} {b : Nat} {v : Int} {T : Ty} {V : Vl} {nv tv kv : Value} (h : W.heap[b]? = some (stD v T V nv tv kv)) : (loadVar 40 ⟨b, 0, none⟩).run Tryz.prog W = .ok (stV v T V nv tv kv) W := by
  refine run_loadVar_mid _ _ 0 40 [i64 v, i64 T.kind, i64 T.num, nv, tv, i64 V.kind, i64 V.num, str V.s, kv] _ (fun j u hu => ?_) Tryz.underlying40 rfl (by kernel_rfl)
  rw [Nat.zero_add, cell_of_row _ _ _ _ 40 (0, 0) h]
  simpa using hu
theorem bset9 {R : Nat} {w V : World} (h : Below w.heap.size w V) (hR : w.heap.size ≤ R) (p0 p1 p2 p3 p4 p5 p6 p7 p8 : Value) : Below w.heap.size w (((((((((V.setCell ⟨R, 0, none⟩ p0).setCell ⟨R, 1, none⟩ p1).setCell ⟨R, 2, none⟩ p2).setCell ⟨R, 3, none⟩ p3).setCell ⟨R, 4, none⟩ p4).setCell ⟨R, 5, none⟩ p5).setCell ⟨R, 6, none⟩ p6).setCell ⟨R, 7, none⟩ p7).setCell ⟨R, 8, none⟩ p8) :=
  (Below.setCell (p := ⟨R, 8, none⟩) (Below.setCell (p := ⟨R, 7, none⟩) (Below.setCell (p := ⟨R, 6, none⟩) (Below.setCell (p := ⟨R, 5, none⟩) (Below.setCell (p := ⟨R, 4, none⟩) (Below.setCell (p := ⟨R, 3, none⟩) (Below.setCell (p := ⟨R, 2, none⟩) (Below.setCell (p := ⟨R, 1, none⟩) (Below.setCell (p := ⟨R, 0, none⟩) h hR p0) hR p1) hR p2) hR p3) hR p4) hR p5) hR p6) hR p7) hR p8)
structure Sr (Z R : Nat) (o : Obj) (W : World) : Prop where
  z : W.heap[Z]? = some o
  r : W.heap[R]? = some z46
def RefOk (w : World) (v : Int) (T : Ty) (V : Vl) (e : Ending) (w' : World) : Prop := ∃ a1 c1 a2 c2 a3 c3, e = .returned (stV v T V (.slice a1 T.names.length c1) (.slice a2 T.kids.length c2) (.slice a3 V.kids.length c3)) ∧ Below w.heap.size w w' ∧ Rd w' (fun _ => True) T (.slice a1 T.names.length c1) (.slice a2 T.kids.length c2) ∧ Vd w' (fun _ => True) V (.slice a3 V.kids.length c3)
set_option maxHeartbeats 6400000 in
theorem refs_ok (v : Int) (T : Ty) (V : Vl) (w : World) (kv nv tv : Value) (hV : Vd w (fun _ => True) V kv) (hR : Rd w (fun _ => True) T nv tv) (hc : T.count ≤ 1000) (hs : V.size ≤ 3000) : Calls Tryz.prog 7 #[stV v T V nv tv kv] w (RefOk w v T V) := by
  have hV0 : Vd w (fun b => b < w.heap.size) V kv := hV.mono (fun b _ h => h)
  have hR0 : Rd w (fun b => b < w.heap.size) T nv tv := hR.mono (fun b _ h => h)
  obtain ⟨ka, kc, rfl⟩ := hV.form
  obtain ⟨an, cn, rfl, at_, ct, rfl⟩ := hR.form
  obtain ⟨HXa, HYa, hb0⟩ := two_boxes w (stC v T V (.slice an T.names.length cn) (.slice at_ T.kids.length ct) (.slice ka V.kids.length kc)) z46
  have HZ := hid HXa
  have HY := hid HYa
  have HB0 := hid hb0
  have HR0 := hid (hR0.under hb0)
  have HV0 := hid (hV0.under hb0)
  have HCn := hid hc
  have HSn := hid hs
  have hz := zero46
  clear HXa HYa hb0 hV hR hV0 hR0 hc hs
  go_enter Tryz.func7, Tryz.ntmps7
  go_upto_region 1 with fail
  generalize (w.alloc (stC v T V (.slice an T.names.length cn) (.slice at_ T.kids.length ct) (.slice ka V.kids.length kc))).alloc z46 = X at *
  obtain ⟨Z, hZ⟩ : ∃ Z, Z = w.heap.size := ⟨_, rfl⟩
  obtain ⟨R, hRe⟩ : ∃ R, R = w.heap.size + 1 := ⟨_, rfl⟩
  have HRe := hid hRe
  rw [← hRe] at HY ⊢
  rw [← hZ] at HZ ⊢
  clear hZ hRe
  have HS0 : Hid (Sr Z R (stC v T V (.slice an T.names.length cn) (.slice at_ T.kids.length ct) (.slice ka V.kids.length kc)) X.drew) := ⟨HZ.out, HY.out⟩
  have HBd : Hid (Below w.heap.size w X.drew) := HB0.out.trans ((below_drewN (Below.refl _ X) 1).mono HB0.out.size)
  have HRd0 : Hid (Rd X.drew (fun b => b < w.heap.size) T (.slice an T.names.length cn) (.slice at_ T.kids.length ct)) := HR0.out.under (below_drewN (Below.refl _ X) 1)
  have HVd0 : Hid (Vd X.drew (fun b => b < w.heap.size) V (.slice ka V.kids.length kc)) := HV0.out.under (below_drewN (Below.refl _ X) 1)
  have HCT := hid (ref_ok T.count T (Nat.le_refl _) HCn.out w.heap.size X.drew _ _ HBd.out.size HRd0.out)
  clear HR0 HV0 HB0
  refine wp_region_noPanic ?_
  refine wp_region_last (Sr Z R (stC v T V (.slice an T.names.length cn) (.slice at_ T.kids.length ct) (.slice ka V.kids.length kc))) 9 (by kernel_rfl) ?_
  refine wpL_take 0 3 (.pointer (some ⟨Z, 0, none⟩)) [] rfl rfl (by kernel_rfl) (by decide) (by kernel_rfl) (by kernel_rfl) (by kernel_rfl) (fun _ _ _ h => h) HS0.out (by rfl) (fun W hW => by go_simp) ?_
  simp only [Act.put, List.setIfInBounds_toArray, List.set_cons_zero, List.set_cons_succ]
  refine wpL_take 1 4 (i64 v) [] rfl rfl (by kernel_rfl) (by decide) (by kernel_rfl) (by kernel_rfl) (by kernel_rfl) (fun _ _ _ h => h) HS0.out (by rfl) (fun W hW => by have q0 := blk_cell hW.z 0; go_simp) ?_
  simp only [Act.put, List.setIfInBounds_toArray, List.set_cons_zero, List.set_cons_succ]
  refine wpL_take 2 5 (.pointer (some ⟨Z, 1, none⟩)) [] rfl rfl (by kernel_rfl) (by decide) (by kernel_rfl) (by kernel_rfl) (by kernel_rfl) (fun _ _ _ h => h) HS0.out (by rfl) (fun W hW => by go_simp) ?_
  simp only [Act.put, List.setIfInBounds_toArray, List.set_cons_zero, List.set_cons_succ]
  refine wpL_take 3 6 (.agg #[i64 T.kind, i64 T.num, .slice an T.names.length cn, .slice at_ T.kids.length ct]) [] rfl rfl (by kernel_rfl) (by decide) (by kernel_rfl) (by kernel_rfl) (by kernel_rfl) (fun _ _ _ h => h) HS0.out (by rfl) (fun W hW => by have q1 := blk_cell hW.z 1; have q2 := blk_cell hW.z 2; have q3 := blk_cell hW.z 3; have q4 := blk_cell hW.z 4; go_simp) ?_
  simp only [Act.put, List.setIfInBounds_toArray, List.set_cons_zero, List.set_cons_succ]
  refine wpL_take 5 8 (.pointer (some ⟨Z, 5, none⟩)) [] rfl rfl (by kernel_rfl) (by decide) (by kernel_rfl) (by kernel_rfl) (by kernel_rfl) (fun _ _ _ h => h) HS0.out (by rfl) (fun W hW => by go_simp) ?_
  simp only [Act.put, List.setIfInBounds_toArray, List.set_cons_zero, List.set_cons_succ]
  refine wpL_take 6 9 (.agg #[i64 V.kind, i64 V.num, str V.s, .slice ka V.kids.length kc]) [] rfl rfl (by kernel_rfl) (by decide) (by kernel_rfl) (by kernel_rfl) (by kernel_rfl) (fun _ _ _ h => h) HS0.out (by rfl) (fun W hW => by have q5 := blk_cell hW.z 5; have q6 := blk_cell hW.z 6; have q7 := blk_cell hW.z 7; have q8 := blk_cell hW.z 8; go_simp) ?_
  simp only [Act.put, List.setIfInBounds_toArray, List.set_cons_zero, List.set_cons_succ]
  refine wpL_one 4 rfl (by kernel_rfl) (by rfl) (fun K hK => ?_)
  go_simp
  refine HCT.out.mono ?_
  rintro e w2 ⟨a2, n2, c2, rfl, hb2, hrd2⟩
  obtain ⟨an', cn', ee1, at', ct', ee2⟩ := hrd2.form
  cases ee1
  cases ee2
  have HS2 : Hid (Sr Z R (stC v T V (.slice an T.names.length cn) (.slice at_ T.kids.length ct) (.slice ka V.kids.length kc)) w2) := ⟨blk_below HS0.out.z hb2, blk_below HS0.out.r hb2⟩
  have HB2 : Hid (Below w.heap.size w w2) := HBd.out.trans (hb2.mono HBd.out.size)
  have HLX : Hid (R < X.drew.heap.size) := blk_lt HS0.out.r
  have HX2 : Hid (X.drew.heap.size ≤ w2.heap.size) := hb2.size
  have HRd2 := hid hrd2
  have HCV := hid (val_ok V.size V (Nat.le_refl _) HSn.out w2 _ _ (HVd0.out.under hb2))
  clear hb2 hrd2 HCT
  go_simp
  refine hK.out _ _ (fun _ => HS2.out) ?_
  clear hK K
  refine wpL_one 7 rfl (by kernel_rfl) (by rfl) (fun K hK => ?_)
  go_simp
  refine HCV.out.mono ?_
  rintro e w4 ⟨a3, c3, rfl, hb4, hvd4⟩
  have HS4 : Hid (Sr Z R (stC v T V (.slice an T.names.length cn) (.slice at_ T.kids.length ct) (.slice ka V.kids.length kc)) w4) := ⟨blk_below HS2.out.z hb4, blk_below HS2.out.r hb4⟩
  have HB4 : Hid (Below w.heap.size w w4) := HB2.out.trans (hb4.mono HB2.out.size)
  have HRd4 := hid (HRd2.out.under hb4)
  have HVd4 : Hid (Vd w4 (fun b => b < w.heap.size ∨ X.drew.heap.size ≤ b) V (.slice a3 V.kids.length c3)) := hvd4.mono (fun b hb _ => by have := HX2.out; omega)
  clear hb4 hvd4 HCV
  go_simp
  refine hK.out _ _ (fun _ => HS4.out) ?_
  clear hK K
  refine wpL_take 8 11 (stV v T V (.slice an T.names.length cn) (.slice a2 T.kids.length c2) (.slice a3 V.kids.length c3)) [] rfl rfl (by kernel_rfl) (by decide) (by kernel_rfl) (by kernel_rfl) (by kernel_rfl) (fun _ _ _ h => h) HS4.out (by rfl) (fun W hW => by go_simp) ?_
  simp only [Act.put, List.setIfInBounds_toArray, List.set_cons_zero, List.set_cons_succ]
  have rf := blk_frozen HS4.out.r
  have r0 := blk_cell HS4.out.r 0
  have r1 := blk_cell HS4.out.r 1
  have r2 := blk_cell HS4.out.r 2
  have r3 := blk_cell HS4.out.r 3
  have r4 := blk_cell HS4.out.r 4
  have r5 := blk_cell HS4.out.r 5
  have r6 := blk_cell HS4.out.r 6
  have r7 := blk_cell HS4.out.r 7
  have r8 := blk_cell HS4.out.r 8
  refine wpL_one 9 rfl (by kernel_rfl) (by rfl) (fun K hK => ?_)
  go_simp
  refine hK.out _ _ (fun h => absurd rfl h) ?_
  clear hK K
  refine wpL_done (by kernel_rfl) ?_
  refine NoPanic.normal ?_
  go_wp2_with fail
  refine bodyPost_ret (results_one Tryz.results7 rfl (vload46 (v := v) (T := T) (V := V) (set9 HS4.out.r _ _ _ _ _ _ _ _ _))) rfl ⟨an, cn, a2, c2, a3, c3, rfl, ?_, ?_, ?_⟩
  · exact bset9 HB4.out (by have := HRe.out; omega) _ _ _ _ _ _ _ _ _
  · exact HRd4.out.move (by simp [World.setCell]) (fun b hb _ => ⟨trivial, at9 (by have := HRe.out; have := HLX.out; omega) _ _ _ _ _ _ _ _ _⟩)
  · exact HVd4.out.move (by simp [World.setCell]) (fun b hb _ => ⟨trivial, at9 (by have := HRe.out; have := HLX.out; omega) _ _ _ _ _ _ _ _ _⟩)
end Go.Proofs.YtihbbgcpdgnhoaaGreatDoor
namespace Go.Proofs.YtihbbgcpdgnhoaaGreatDoor

mutual
theorem sameB_true : ∀ a b : Ty, sameB a b = true → a = b
  | .mk k n l ks, .mk k' n' l' ks', h => by
    simp only [sameB, Bool.and_eq_true, decide_eq_true_eq] at h
    obtain ⟨⟨⟨⟨rfl, rfl⟩, rfl⟩, _⟩, h⟩ := h
    rw [sameL_true ks ks' h]
theorem sameL_true : ∀ a b : List Ty, sameL a b = true → a = b
  | [], [], _ => rfl
  | a :: r, b :: s, h => by
    simp only [sameL, Bool.and_eq_true] at h
    rw [sameB_true a b h.1, sameL_true r s h.2]
  | [], _ :: _, h => by simp [sameL] at h
  | _ :: _, [], h => by simp [sameL] at h
end
mutual
theorem sameV_refl : ∀ a : Vl, sameV a a = true
  | .mk k n s l => by simp [sameV, sameW_refl l]
theorem sameW_refl : ∀ l : List Vl, sameW l l = true
  | [] => rfl
  | a :: r => by simp [sameW, sameV_refl a, sameW_refl r]
end
mutual
theorem sameV_true : ∀ a b : Vl, sameV a b = true → a = b
  | .mk k n s l, .mk k' n' s' l', h => by
    simp only [sameV, Bool.and_eq_true, decide_eq_true_eq] at h
    obtain ⟨⟨⟨⟨rfl, rfl⟩, rfl⟩, _⟩, h⟩ := h
    rw [sameW_true l l' h]
theorem sameW_true : ∀ a b : List Vl, sameW a b = true → a = b
  | [], [], _ => rfl
  | a :: r, b :: s, h => by
    simp only [sameW, Bool.and_eq_true] at h
    rw [sameV_true a b h.1, sameW_true r s h.2]
  | [], _ :: _, h => by simp [sameW] at h
  | _ :: _, [], h => by simp [sameW] at h
end
theorem sameS_refl (v : Int) (T : Ty) (V : Vl) : sameS v T V v T V = true := by
  simp [sameS, sameB_refl, sameV_refl]
end Go.Proofs.YtihbbgcpdgnhoaaGreatDoor
