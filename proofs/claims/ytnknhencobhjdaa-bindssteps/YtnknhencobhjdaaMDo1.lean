/- No statement here. -/
import Derived.Test.YtnknhencobhjdaaMMd
set_option maxRecDepth 100000
namespace Go.Proofs.Ytnknhencobhjdaa
open Go.ChangeShapes Go.WideShapes Go.ChangeAt Go.RowKit Go.Deep
open Go.Proofs.Ytnknhencobhjdaa.Cp (pq hid bl1 hO)
attribute [local go_sem ↓] Go.wp_at_zero Go.wp_at_succ
theorem Pf.drewl {base : Nat} {w w' : World} (h : Pf base w w') : Pf base w w'.drew := ⟨h.below.drew, h.kept⟩
set_option maxHeartbeats 12800000 in
theorem does_open {w : World} {base p : Nat} {z : Px} {t : Qt.T} {s : Qt.St} {T : List Cp.Pl} {L : Ls} {R : Nat → List Hn} {C : List Cp.Rw} {Rs : List Rt} {P : List Int} {H : List Hn} {E : List Int} (h : Pp w base p z t s T L R C Rs P H E) (_hcl : C.length ≤ 90) (hhl : H.length ≤ 900) (x : Sb) (hr : x.rng) (hw : x.what = 0) : DoesTo w base p z t C H x := by
  unfold DoesTo
  have HW := hid hw
  have HQ : Hid (Qt.T.rng x.q) := hr.2.2.2.2.2.2
  clear hw hr
  obtain ⟨⟨hs, hg⟩, hpk⟩ : ∃ v, pkH H x = v := ⟨_, rfl⟩
  obtain ⟨ev, hev⟩ : ∃ v, pkE H E x = v := ⟨_, rfl⟩
  have hlo := h.lo
  obtain ⟨V, hV⟩ : ∃ V, V = w.alloc (sbO x) := ⟨_, rfl⟩
  have HV : Hid (w.alloc (.cells #[i64 x.what, i64 x.env, i64 x.kind, i64 x.n, i64 x.tt, i64 x.rts, .bool x.by_, i64 x.q.a, i64 x.q.b, i64 x.q.c] 33) = V) := hV.symm
  have hbV : Below w.heap.size w V := by rw [hV]; exact bl1 w _
  have HX : Hid (V.heap[w.heap.size]? = some (sbO x)) := by rw [hV]; exact hid (hlx w _)
  have HPk := hid (pick_any (h.below hbV).pk (by omega) h.he x hs hg ev hpk hev)
  have HPp := hid (h.below hbV)
  have HBV := hid hbV
  have HIV := hid h.iv
  have HGL : Hid (∀ i, i < 3 → z.x.g i < w.heap.size) := fun i hi => blk_lt (h.bd.rt i hi).1
  have HHL : Hid (∀ g, z.hb = some g → g < w.heap.size) := fun g hg => h.hb_lt hg
  clear h hV hbV hpk hev
  go_enter Try.func12, Try.ntmps12
  go_upto_region 1 with fail
  rw [HV.out]
  go_wp2_with (refine wpList_load_mid rfl 33 (.tmp 3) rfl w.heap.size 0 rfl x.c _ (by exact sbO_range HX.out) Try.underlying33 rfl info33 ?_)
  refine HPk.out.mono ?_
  rintro e w2 ⟨rfl, hb2⟩
  have hB2 : Below w.heap.size w w2 := HBV.out.trans (hb2.mono HBV.out.size)
  have HF3 : Hid (Pf base w (w2.alloc (hO hs hg))) := Pf.of_below (hB2.alloc hB2.size _) hlo
  have HM3 : Hid (Md (w2.alloc (hO hs hg)) base p w.heap.size w2.heap.size z x hs hg t s s T L R C Rs P H E) := by
    have hp := (HPp.out.below hb2).below (bl1 w2 (hO hs hg))
    have hsz := hB2.size
    exact ⟨hp.bd, hp.dd, hp.pk, bka (bkb HX.out hb2) _, hlx w2 _, hp.he, hp.ah, hp.ae, fun i hi e => by have := HGL.out i hi; omega, fun e => by have := HHL.out _ e; omega⟩
  have hYw : w.heap.size ≤ w2.heap.size := hB2.size
  clear hb2 hB2 HPk HPp HBV HX HV HGL HHL V
  go_upto_region 2 with fail
  unfold hO at HF3 HM3
  generalize w2.alloc (.cells #[i64 hs, i64 hg] 43) = W3 at *
  generalize w2.heap.size = Y at *
  have x0 : W3.cell? ⟨w.heap.size, 0, none⟩ = some (i64 x.what) := bkc HM3.out.hx 0
  rw [HW.out] at x0
  go_upto_region 4 with fail
  clear x0
  obtain ⟨X, hX⟩ : ∃ X, Qt.opE t s x.env x.q = X := ⟨_, rfl⟩
  have hc1 := open_ok HM3.out.drew.bd x.env x.q.a x.q.b x.q.c
  have hc2 : ∀ V s', Dd V base z.d z.y t s C Rs P → Qt.OpS t s s' x.env x.q → Qt.Wf t s' → Calls Try.prog 32 #[pq z.y.kb, i64 x.env, .agg #[i64 x.q.a, i64 x.q.b, i64 x.q.c]] V fun e w' => e = .returned (i64 X) ∧ Dd w' base z.d z.y t s' C Rs P ∧ Df base z.y.pb V w' := fun V s' hV ho hw => by rw [← hX]; exact ropen_dd hV x.env x.q HQ.out ho hw
  have hX' : Qt.opE t s x.env ⟨x.q.a, x.q.b, x.q.c⟩ = X := hX
  rw [hX'] at hc1
  have HC1 := hid hc1
  have HC2 := hid hc2
  clear hc1 hc2 hX hX'
  have HMd := hid HM3.out.drew
  have HFd : Hid (Pf base w W3.drew) := HF3.out.drewl
  have HS := hid HMd.out.sq
  refine wp_region_noPanic ?_
  refine wrl (SqW w.heap.size Y p z.b z.d z.y.kb z.y.kc x hs hg) 22 (by kernel_rfl) ?_
  refine wk 0 32 (.pointer (some ⟨p, 0, none⟩)) rfl HS.out (fun W hW => by go_simp) ?_
  refine wk 1 33 (.pointer (some ⟨p, 0, none⟩)) rfl HS.out (fun W hW => by go_simp) ?_
  refine wk 2 34 (.pointer (some ⟨p, 0, none⟩)) rfl HS.out (fun W hW => by go_simp) ?_
  refine wk 3 35 (.pointer (some ⟨z.b, 0, none⟩)) rfl HS.out (fun W hW => by have p0 := hW.p0; go_simp) ?_
  refine wk 4 36 (.pointer (some ⟨w.heap.size, 1, none⟩)) rfl HS.out (fun W hW => by go_simp) ?_
  refine wk 5 37 (i64 x.env) rfl HS.out (fun W hW => by have x1 := bkc hW.x 1; go_simp) ?_
  refine wk 6 38 (.pointer (some ⟨w.heap.size, 7, none⟩)) rfl HS.out (fun W hW => by go_simp) ?_
  refine wk 7 39 (.agg #[i64 x.q.a, i64 x.q.b, i64 x.q.c]) rfl HS.out (fun W hW => by have x7 := bkc hW.x 7; have x8 := bkc hW.x 8; have x9 := bkc hW.x 9; go_simp) ?_
  refine wk 9 41 (.pointer (some ⟨p, 0, none⟩)) rfl HS.out (fun W hW => by go_simp) ?_
  refine wk 10 42 (.pointer (some ⟨p, 0, none⟩)) rfl HS.out (fun W hW => by go_simp) ?_
  refine wk 11 43 (.pointer (some ⟨p, 1, none⟩)) rfl HS.out (fun W hW => by go_simp) ?_
  refine wk 12 44 (.pointer (some ⟨z.d, 0, none⟩)) rfl HS.out (fun W hW => by have p1 := hW.p1; go_simp) ?_
  refine wk 13 45 (.pointer (some ⟨z.d, 0, none⟩)) rfl HS.out (fun W hW => by go_simp) ?_
  refine wk 14 46 (.pointer (some ⟨z.d, 1, none⟩)) rfl HS.out (fun W hW => by go_simp) ?_
  refine wk 15 47 (.pointer (some ⟨z.y.kb, 0, none⟩)) rfl HS.out (fun W hW => by have d1 := hW.d1; go_simp) ?_
  refine wk 16 48 (.pointer (some ⟨w.heap.size, 1, none⟩)) rfl HS.out (fun W hW => by go_simp) ?_
  refine wk 17 49 (i64 x.env) rfl HS.out (fun W hW => by have x1 := bkc hW.x 1; go_simp) ?_
  refine wk 18 50 (.pointer (some ⟨w.heap.size, 7, none⟩)) rfl HS.out (fun W hW => by go_simp) ?_
  refine wk 19 51 (.agg #[i64 x.q.a, i64 x.q.b, i64 x.q.c]) rfl HS.out (fun W hW => by have x7 := bkc hW.x 7; have x8 := bkc hW.x 8; have x9 := bkc hW.x 9; go_simp) ?_
  simp only [Act.put, sA, sZ, sS]
  refine wo 8 rfl (fun K hK => ?_)
  go_simp
  refine HC1.out.mono ?_
  rintro e w4 ⟨rfl, s', ho, hd4, hf4⟩
  have HM4 := hid (HMd.out.bf hd4 hf4)
  have HF4 : Hid (Pf base w w4) := HFd.out.trans (HMd.out.bd.pf hf4)
  have HO := hid ho
  have HS4 := hid HM4.out.sq
  clear hd4 hf4 ho HC1
  go_simp
  refine hK.out _ _ (fun _ => HS4.out) ?_
  clear hK K
  refine wo 20 rfl (fun K hK => ?_)
  go_simp
  refine (HC2.out w4 s' HM4.out.dd HO.out HM4.out.bd.bk.wf).mono ?_
  rintro e w5 ⟨rfl, hd5, hf5⟩
  have HM5 := hid (HM4.out.df0 hd5 hf5)
  have HF5 : Hid (Pf base w w5) := HF4.out.trans (HM4.out.dd.pf hf5)
  have HS5 := hid HM5.out.sq
  clear hd5 hf5 HC2
  go_simp
  refine hK.out _ _ (fun _ => HS5.out) ?_
  clear hK K
  refine wk 21 53 (.bool true) rfl HS5.out (fun W hW => by go_simp) ?_
  simp only [Act.put, sA, sZ, sS]
  refine wo 22 rfl (fun K hK => ?_)
  go_simp
  refine hK.out _ _ (fun h => absurd rfl h) ?_
  clear hK K
  refine wdd ?_
  refine NoPanic.normal ?_
  go_wp2_with fail
  go_ret
  exact ⟨by simp, Aft.of (HM5.out.pp (HIV.out.enter HO.out)) rfl rfl (by omega) (by omega), HF5.out⟩
set_option maxHeartbeats 12800000 in
theorem does_close {w : World} {base p : Nat} {z : Px} {t : Qt.T} {s : Qt.St} {T : List Cp.Pl} {L : Ls} {R : Nat → List Hn} {C : List Cp.Rw} {Rs : List Rt} {P : List Int} {H : List Hn} {E : List Int} (h : Pp w base p z t s T L R C Rs P H E) (hcl : C.length ≤ 90) (hhl : H.length ≤ 900) (x : Sb) (hw : x.what = 1) : DoesTo w base p z t C H x := by
  unfold DoesTo
  have HW := hid hw
  clear hw
  obtain ⟨⟨hs, hg⟩, hpk⟩ : ∃ v, pkH H x = v := ⟨_, rfl⟩
  obtain ⟨ev, hev⟩ : ∃ v, pkE H E x = v := ⟨_, rfl⟩
  have hlo := h.lo
  obtain ⟨V, hV⟩ : ∃ V, V = w.alloc (sbO x) := ⟨_, rfl⟩
  have HV : Hid (w.alloc (.cells #[i64 x.what, i64 x.env, i64 x.kind, i64 x.n, i64 x.tt, i64 x.rts, .bool x.by_, i64 x.q.a, i64 x.q.b, i64 x.q.c] 33) = V) := hV.symm
  have hbV : Below w.heap.size w V := by rw [hV]; exact bl1 w _
  have HX : Hid (V.heap[w.heap.size]? = some (sbO x)) := by rw [hV]; exact hid (hlx w _)
  have HPk := hid (pick_any (h.below hbV).pk (by omega) h.he x hs hg ev hpk hev)
  have HPp := hid (h.below hbV)
  have HBV := hid hbV
  have HIV := hid h.iv
  have HGL : Hid (∀ i, i < 3 → z.x.g i < w.heap.size) := fun i hi => blk_lt (h.bd.rt i hi).1
  have HHL : Hid (∀ g, z.hb = some g → g < w.heap.size) := fun g hg => h.hb_lt hg
  clear h hV hbV hpk hev
  go_enter Try.func12, Try.ntmps12
  go_upto_region 1 with fail
  rw [HV.out]
  go_wp2_with (refine wpList_load_mid rfl 33 (.tmp 3) rfl w.heap.size 0 rfl x.c _ (by exact sbO_range HX.out) Try.underlying33 rfl info33 ?_)
  refine HPk.out.mono ?_
  rintro e w2 ⟨rfl, hb2⟩
  have hB2 : Below w.heap.size w w2 := HBV.out.trans (hb2.mono HBV.out.size)
  have HF3 : Hid (Pf base w (w2.alloc (hO hs hg))) := Pf.of_below (hB2.alloc hB2.size _) hlo
  have HM3 : Hid (Md (w2.alloc (hO hs hg)) base p w.heap.size w2.heap.size z x hs hg t s s T L R C Rs P H E) := by
    have hp := (HPp.out.below hb2).below (bl1 w2 (hO hs hg))
    have hsz := hB2.size
    exact ⟨hp.bd, hp.dd, hp.pk, bka (bkb HX.out hb2) _, hlx w2 _, hp.he, hp.ah, hp.ae, fun i hi e => by have := HGL.out i hi; omega, fun e => by have := HHL.out _ e; omega⟩
  have hYw : w.heap.size ≤ w2.heap.size := hB2.size
  clear hb2 hB2 HPk HPp HBV HX HV HGL HHL V
  go_upto_region 2 with fail
  unfold hO at HF3 HM3
  generalize w2.alloc (.cells #[i64 hs, i64 hg] 43) = W3 at *
  generalize w2.heap.size = Y at *
  have x0 : W3.cell? ⟨w.heap.size, 0, none⟩ = some (i64 x.what) := bkc HM3.out.hx 0
  rw [HW.out] at x0
  go_upto_region 6 with fail
  clear x0
  obtain ⟨X, s', T', L', R', C', Rs', hbo⟩ := both_close (base := base) (b := z.b) (d := z.d) (x := z.x) (y := z.y) HIV.out (by omega) x.env
  have HBo := hid hbo
  clear hbo
  have HMd := hid HM3.out.drew
  have HFd : Hid (Pf base w W3.drew) := HF3.out.drewl
  have HS := hid HMd.out.sq
  refine wp_region_noPanic ?_
  refine wrl (SqW w.heap.size Y p z.b z.d z.y.kb z.y.kc x hs hg) 15 (by kernel_rfl) ?_
  refine wk 0 56 (.pointer (some ⟨p, 0, none⟩)) rfl HS.out (fun W hW => by go_simp) ?_
  refine wk 1 57 (.pointer (some ⟨p, 0, none⟩)) rfl HS.out (fun W hW => by go_simp) ?_
  refine wk 2 58 (.pointer (some ⟨p, 0, none⟩)) rfl HS.out (fun W hW => by go_simp) ?_
  refine wk 3 59 (.pointer (some ⟨z.b, 0, none⟩)) rfl HS.out (fun W hW => by have p0 := hW.p0; go_simp) ?_
  refine wk 4 60 (.pointer (some ⟨w.heap.size, 1, none⟩)) rfl HS.out (fun W hW => by go_simp) ?_
  refine wk 5 61 (i64 x.env) rfl HS.out (fun W hW => by have x1 := bkc hW.x 1; go_simp) ?_
  refine wk 7 63 (.pointer (some ⟨p, 0, none⟩)) rfl HS.out (fun W hW => by go_simp) ?_
  refine wk 8 64 (.pointer (some ⟨p, 0, none⟩)) rfl HS.out (fun W hW => by go_simp) ?_
  refine wk 9 65 (.pointer (some ⟨p, 1, none⟩)) rfl HS.out (fun W hW => by go_simp) ?_
  refine wk 10 66 (.pointer (some ⟨z.d, 0, none⟩)) rfl HS.out (fun W hW => by have p1 := hW.p1; go_simp) ?_
  refine wk 11 67 (.pointer (some ⟨w.heap.size, 1, none⟩)) rfl HS.out (fun W hW => by go_simp) ?_
  refine wk 12 68 (i64 x.env) rfl HS.out (fun W hW => by have x1 := bkc hW.x 1; go_simp) ?_
  simp only [Act.put, sA, sZ, sS]
  refine wo 6 rfl (fun K hK => ?_)
  go_simp
  refine (HBo.out.p _ HMd.out.bd).mono ?_
  rintro e w4 ⟨rfl, hd4, hf4⟩
  have HM4 := hid (HMd.out.bf hd4 hf4)
  have HF4 : Hid (Pf base w w4) := HFd.out.trans (HMd.out.bd.pf hf4)
  have HS4 := hid HM4.out.sq
  clear hd4 hf4
  go_simp
  refine hK.out _ _ (fun _ => HS4.out) ?_
  clear hK K
  refine wo 13 rfl (fun K hK => ?_)
  go_simp
  refine (HBo.out.r _ HM4.out.dd).mono ?_
  rintro e w5 ⟨rfl, hd5, hf5⟩
  have HM5 := hid (HM4.out.df0 hd5 hf5)
  have HF5 : Hid (Pf base w w5) := HF4.out.trans (HM4.out.dd.pf hf5)
  have HS5 := hid HM5.out.sq
  clear hd5 hf5
  go_simp
  refine hK.out _ _ (fun _ => HS5.out) ?_
  clear hK K
  refine wk 14 70 (.bool true) rfl HS5.out (fun W hW => by go_simp) ?_
  simp only [Act.put, sA, sZ, sS]
  refine wo 15 rfl (fun K hK => ?_)
  go_simp
  refine hK.out _ _ (fun h => absurd rfl h) ?_
  clear hK K
  refine wdd ?_
  refine NoPanic.normal ?_
  go_wp2_with fail
  go_ret
  exact ⟨by simp, Aft.of (HM5.out.pp HBo.out.iv) rfl rfl (by rw [HBo.out.len]; omega) (by omega), HF5.out⟩
set_option maxHeartbeats 12800000 in
theorem does_free {w : World} {base p : Nat} {z : Px} {t : Qt.T} {s : Qt.St} {T : List Cp.Pl} {L : Ls} {R : Nat → List Hn} {C : List Cp.Rw} {Rs : List Rt} {P : List Int} {H : List Hn} {E : List Int} (h : Pp w base p z t s T L R C Rs P H E) (hcl : C.length ≤ 90) (hhl : H.length ≤ 900) (x : Sb) (hw : x.what = 5) : DoesTo w base p z t C H x := by
  unfold DoesTo
  have HW := hid hw
  clear hw
  obtain ⟨⟨hs, hg⟩, hpk⟩ : ∃ v, pkH H x = v := ⟨_, rfl⟩
  obtain ⟨ev, hev⟩ : ∃ v, pkE H E x = v := ⟨_, rfl⟩
  have hlo := h.lo
  obtain ⟨V, hV⟩ : ∃ V, V = w.alloc (sbO x) := ⟨_, rfl⟩
  have HV : Hid (w.alloc (.cells #[i64 x.what, i64 x.env, i64 x.kind, i64 x.n, i64 x.tt, i64 x.rts, .bool x.by_, i64 x.q.a, i64 x.q.b, i64 x.q.c] 33) = V) := hV.symm
  have hbV : Below w.heap.size w V := by rw [hV]; exact bl1 w _
  have HX : Hid (V.heap[w.heap.size]? = some (sbO x)) := by rw [hV]; exact hid (hlx w _)
  have HPk := hid (pick_any (h.below hbV).pk (by omega) h.he x hs hg ev hpk hev)
  have HPp := hid (h.below hbV)
  have HBV := hid hbV
  have HIV := hid h.iv
  have HGL : Hid (∀ i, i < 3 → z.x.g i < w.heap.size) := fun i hi => blk_lt (h.bd.rt i hi).1
  have HHL : Hid (∀ g, z.hb = some g → g < w.heap.size) := fun g hg => h.hb_lt hg
  clear h hV hbV hpk hev
  go_enter Try.func12, Try.ntmps12
  go_upto_region 1 with fail
  rw [HV.out]
  go_wp2_with (refine wpList_load_mid rfl 33 (.tmp 3) rfl w.heap.size 0 rfl x.c _ (by exact sbO_range HX.out) Try.underlying33 rfl info33 ?_)
  refine HPk.out.mono ?_
  rintro e w2 ⟨rfl, hb2⟩
  have hB2 : Below w.heap.size w w2 := HBV.out.trans (hb2.mono HBV.out.size)
  have HF3 : Hid (Pf base w (w2.alloc (hO hs hg))) := Pf.of_below (hB2.alloc hB2.size _) hlo
  have HM3 : Hid (Md (w2.alloc (hO hs hg)) base p w.heap.size w2.heap.size z x hs hg t s s T L R C Rs P H E) := by
    have hp := (HPp.out.below hb2).below (bl1 w2 (hO hs hg))
    have hsz := hB2.size
    exact ⟨hp.bd, hp.dd, hp.pk, bka (bkb HX.out hb2) _, hlx w2 _, hp.he, hp.ah, hp.ae, fun i hi e => by have := HGL.out i hi; omega, fun e => by have := HHL.out _ e; omega⟩
  have hYw : w.heap.size ≤ w2.heap.size := hB2.size
  clear hb2 hB2 HPk HPp HBV HX HV HGL HHL V
  go_upto_region 2 with fail
  unfold hO at HF3 HM3
  generalize w2.alloc (.cells #[i64 hs, i64 hg] 43) = W3 at *
  generalize w2.heap.size = Y at *
  have x0 : W3.cell? ⟨w.heap.size, 0, none⟩ = some (i64 x.what) := bkc HM3.out.hx 0
  rw [HW.out] at x0
  go_upto_region 16 with fail
  clear x0
  obtain ⟨X, s', T', L', R', C', Rs', hbo⟩ := both_free (base := base) (b := z.b) (d := z.d) (x := z.x) (y := z.y) HIV.out (by omega) ev hs hg
  have HBo := hid hbo
  clear hbo
  have HMd := hid HM3.out.drew
  have HFd : Hid (Pf base w W3.drew) := HF3.out.drewl
  have HS := hid HMd.out.sq
  refine wp_region_noPanic ?_
  refine wrl (SqW w.heap.size Y p z.b z.d z.y.kb z.y.kc x hs hg) 16 (by kernel_rfl) ?_
  refine wk 0 123 (.pointer (some ⟨p, 0, none⟩)) rfl HS.out (fun W hW => by go_simp) ?_
  refine wk 1 124 (.pointer (some ⟨p, 0, none⟩)) rfl HS.out (fun W hW => by go_simp) ?_
  refine wk 2 125 (.pointer (some ⟨p, 0, none⟩)) rfl HS.out (fun W hW => by go_simp) ?_
  refine wk 3 126 (.pointer (some ⟨z.b, 0, none⟩)) rfl HS.out (fun W hW => by have p0 := hW.p0; go_simp) ?_
  refine wk 4 127 (i64 ev) rfl HS.out (fun W hW => by go_simp) ?_
  refine wk 5 128 (.agg #[i64 hs, i64 hg]) rfl HS.out (fun W hW => by have y0 := bkc hW.y 0; have y1 := bkc hW.y 1; go_simp) ?_
  refine wk 7 130 (.pointer (some ⟨p, 0, none⟩)) rfl HS.out (fun W hW => by go_simp) ?_
  refine wk 8 131 (.pointer (some ⟨p, 0, none⟩)) rfl HS.out (fun W hW => by go_simp) ?_
  refine wk 9 132 (.pointer (some ⟨p, 1, none⟩)) rfl HS.out (fun W hW => by go_simp) ?_
  refine wk 10 133 (.pointer (some ⟨z.d, 0, none⟩)) rfl HS.out (fun W hW => by have p1 := hW.p1; go_simp) ?_
  refine wk 11 134 (i64 ev) rfl HS.out (fun W hW => by go_simp) ?_
  refine wk 12 135 (.agg #[i64 hs, i64 hg]) rfl HS.out (fun W hW => by have y0 := bkc hW.y 0; have y1 := bkc hW.y 1; go_simp) ?_
  simp only [Act.put, sA, sZ, sS]
  refine wo 6 rfl (fun K hK => ?_)
  go_simp
  refine (HBo.out.p _ HMd.out.bd).mono ?_
  rintro e w4 ⟨rfl, hd4, hf4⟩
  have HM4 := hid (HMd.out.bf hd4 hf4)
  have HF4 : Hid (Pf base w w4) := HFd.out.trans (HMd.out.bd.pf hf4)
  have HS4 := hid HM4.out.sq
  clear hd4 hf4
  go_simp
  refine hK.out _ _ (fun _ => HS4.out) ?_
  clear hK K
  refine wo 13 rfl (fun K hK => ?_)
  go_simp
  refine (ref_ok _ hs hg).mono ?_
  rintro e wr ⟨rfl, hb⟩
  have HMr := hid (HM4.out.below hb)
  have HFr : Hid (Pf base w wr) := HF4.out.trans (Pf.of_below hb HM4.out.lo)
  have HSwr := hid HMr.out.sq
  clear hb
  go_simp
  refine hK.out _ _ (fun _ => HSwr.out) ?_
  clear hK K
  refine wo 14 rfl (fun K hK => ?_)
  go_simp
  refine (HBo.out.r _ HMr.out.dd).mono ?_
  rintro e w5 ⟨rfl, hd5, hf5⟩
  have HM5 := hid (HMr.out.df0 hd5 hf5)
  have HF5 : Hid (Pf base w w5) := HFr.out.trans (HMr.out.dd.pf hf5)
  have HS5 := hid HM5.out.sq
  clear hd5 hf5
  go_simp
  refine hK.out _ _ (fun _ => HS5.out) ?_
  clear hK K
  refine wk 15 138 (.bool true) rfl HS5.out (fun W hW => by go_simp) ?_
  simp only [Act.put, sA, sZ, sS]
  refine wo 16 rfl (fun K hK => ?_)
  go_simp
  refine hK.out _ _ (fun h => absurd rfl h) ?_
  clear hK K
  refine wdd ?_
  refine NoPanic.normal ?_
  go_wp2_with fail
  go_ret
  exact ⟨by simp, Aft.of (HM5.out.pp HBo.out.iv) rfl rfl (by rw [HBo.out.len]; omega) (by omega), HF5.out⟩
set_option maxHeartbeats 12800000 in
theorem does_revoke {w : World} {base p : Nat} {z : Px} {t : Qt.T} {s : Qt.St} {T : List Cp.Pl} {L : Ls} {R : Nat → List Hn} {C : List Cp.Rw} {Rs : List Rt} {P : List Int} {H : List Hn} {E : List Int} (h : Pp w base p z t s T L R C Rs P H E) (hcl : C.length ≤ 90) (hhl : H.length ≤ 900) (x : Sb) (hw : x.what = 8) : DoesTo w base p z t C H x := by
  unfold DoesTo
  have HW := hid hw
  clear hw
  obtain ⟨⟨hs, hg⟩, hpk⟩ : ∃ v, pkH H x = v := ⟨_, rfl⟩
  obtain ⟨ev, hev⟩ : ∃ v, pkE H E x = v := ⟨_, rfl⟩
  have hlo := h.lo
  obtain ⟨V, hV⟩ : ∃ V, V = w.alloc (sbO x) := ⟨_, rfl⟩
  have HV : Hid (w.alloc (.cells #[i64 x.what, i64 x.env, i64 x.kind, i64 x.n, i64 x.tt, i64 x.rts, .bool x.by_, i64 x.q.a, i64 x.q.b, i64 x.q.c] 33) = V) := hV.symm
  have hbV : Below w.heap.size w V := by rw [hV]; exact bl1 w _
  have HX : Hid (V.heap[w.heap.size]? = some (sbO x)) := by rw [hV]; exact hid (hlx w _)
  have HPk := hid (pick_any (h.below hbV).pk (by omega) h.he x hs hg ev hpk hev)
  have HPp := hid (h.below hbV)
  have HBV := hid hbV
  have HIV := hid h.iv
  have HGL : Hid (∀ i, i < 3 → z.x.g i < w.heap.size) := fun i hi => blk_lt (h.bd.rt i hi).1
  have HHL : Hid (∀ g, z.hb = some g → g < w.heap.size) := fun g hg => h.hb_lt hg
  clear h hV hbV hpk hev
  go_enter Try.func12, Try.ntmps12
  go_upto_region 1 with fail
  rw [HV.out]
  go_wp2_with (refine wpList_load_mid rfl 33 (.tmp 3) rfl w.heap.size 0 rfl x.c _ (by exact sbO_range HX.out) Try.underlying33 rfl info33 ?_)
  refine HPk.out.mono ?_
  rintro e w2 ⟨rfl, hb2⟩
  have hB2 : Below w.heap.size w w2 := HBV.out.trans (hb2.mono HBV.out.size)
  have HF3 : Hid (Pf base w (w2.alloc (hO hs hg))) := Pf.of_below (hB2.alloc hB2.size _) hlo
  have HM3 : Hid (Md (w2.alloc (hO hs hg)) base p w.heap.size w2.heap.size z x hs hg t s s T L R C Rs P H E) := by
    have hp := (HPp.out.below hb2).below (bl1 w2 (hO hs hg))
    have hsz := hB2.size
    exact ⟨hp.bd, hp.dd, hp.pk, bka (bkb HX.out hb2) _, hlx w2 _, hp.he, hp.ah, hp.ae, fun i hi e => by have := HGL.out i hi; omega, fun e => by have := HHL.out _ e; omega⟩
  have hYw : w.heap.size ≤ w2.heap.size := hB2.size
  clear hb2 hB2 HPk HPp HBV HX HV HGL HHL V
  go_upto_region 2 with fail
  unfold hO at HF3 HM3
  generalize w2.alloc (.cells #[i64 hs, i64 hg] 43) = W3 at *
  generalize w2.heap.size = Y at *
  have x0 : W3.cell? ⟨w.heap.size, 0, none⟩ = some (i64 x.what) := bkc HM3.out.hx 0
  rw [HW.out] at x0
  go_upto_region 25 with fail
  clear x0
  obtain ⟨M, E1, s', T', L', R', C', hiv, hlen, rfl, hcp, hcr⟩ := both_revoke (base := base) (b := z.b) (d := z.d) (x := z.x) (y := z.y) HIV.out (by omega) ev hs hg
  have HIV2 := hid hiv
  have HLen := hid hlen
  have HCP := hid hcp
  have HCR := hid hcr
  clear hiv hlen hcp hcr
  have HMd := hid HM3.out.drew
  have HFd : Hid (Pf base w W3.drew) := HF3.out.drewl
  have HS := hid HMd.out.sq
  refine wp_region_noPanic ?_
  refine wrl (SqW w.heap.size Y p z.b z.d z.y.kb z.y.kc x hs hg) 11 (by kernel_rfl) ?_
  refine wk 0 190 (.pointer (some ⟨p, 0, none⟩)) rfl HS.out (fun W hW => by go_simp) ?_
  refine wk 1 191 (.pointer (some ⟨p, 0, none⟩)) rfl HS.out (fun W hW => by go_simp) ?_
  refine wk 2 192 (.pointer (some ⟨p, 0, none⟩)) rfl HS.out (fun W hW => by go_simp) ?_
  refine wk 3 193 (.pointer (some ⟨z.b, 0, none⟩)) rfl HS.out (fun W hW => by have p0 := hW.p0; go_simp) ?_
  refine wk 4 194 (i64 ev) rfl HS.out (fun W hW => by go_simp) ?_
  refine wk 5 195 (.agg #[i64 hs, i64 hg]) rfl HS.out (fun W hW => by have y0 := bkc hW.y 0; have y1 := bkc hW.y 1; go_simp) ?_
  simp only [Act.put, sA, sZ, sS]
  refine wo 6 rfl (fun K hK => ?_)
  go_simp
  refine (HCP.out _ HMd.out.bd).mono ?_
  rintro e w4 ⟨rfl, hd4, hf4⟩
  have HM4 := hid (HMd.out.bf hd4 hf4)
  have HF4 : Hid (Pf base w w4) := HFd.out.trans (HMd.out.bd.pf hf4)
  have HS4 := hid HM4.out.sq
  clear hd4 hf4
  go_simp
  refine hK.out _ _ (fun _ => HS4.out) ?_
  clear hK K
  refine wk 7 189 (.tuple #[i64 M, i64 E1]) rfl HS4.out (fun W hW => by go_simp) ?_
  refine wk 8 197 (i64 M) rfl HS4.out (fun W hW => by go_simp) ?_
  refine wk 9 198 (i64 E1) rfl HS4.out (fun W hW => by go_simp) ?_
  simp only [Act.put, sA, sZ, sS]
  refine wo 10 rfl (fun K hK => ?_)
  go_simp
  refine hK.out _ _ (fun _ => HS4.out) ?_
  clear hK K
  refine wo 11 rfl (fun K hK => ?_)
  go_simp
  refine hK.out _ _ (fun h => absurd rfl h) ?_
  clear hK K
  refine wdd ?_
  refine NoPanic.normal ?_
  go_upto_region 26 with fail
  have HMe := hid HM4.out.drew
  have HFe : Hid (Pf base w w4.drew) := HF4.out.drewl
  have HSe := hid HMe.out.sq
  refine wp_region_noPanic ?_
  refine wrl (SqW w.heap.size Y p z.b z.d z.y.kb z.y.kc x hs hg) 15 (by kernel_rfl) ?_
  refine wk 0 200 (.pointer (some ⟨p, 0, none⟩)) rfl HSe.out (fun W hW => by go_simp) ?_
  refine wk 1 201 (.pointer (some ⟨p, 0, none⟩)) rfl HSe.out (fun W hW => by go_simp) ?_
  refine wk 2 202 (.pointer (some ⟨p, 1, none⟩)) rfl HSe.out (fun W hW => by go_simp) ?_
  refine wk 3 203 (.pointer (some ⟨z.d, 0, none⟩)) rfl HSe.out (fun W hW => by have p1 := hW.p1; go_simp) ?_
  refine wk 4 204 (.pointer (some ⟨z.d, 0, none⟩)) rfl HSe.out (fun W hW => by go_simp) ?_
  refine wk 5 205 (.pointer (some ⟨z.d, 0, none⟩)) rfl HSe.out (fun W hW => by go_simp) ?_
  refine wk 6 206 (.pointer (some ⟨z.y.kc, 0, none⟩)) rfl HSe.out (fun W hW => by have d0 := hW.d0; go_simp) ?_
  refine wk 7 207 (i64 ev) rfl HSe.out (fun W hW => by go_simp) ?_
  refine wk 8 208 (.agg #[i64 hs, i64 hg]) rfl HSe.out (fun W hW => by have y0 := bkc hW.y 0; have y1 := bkc hW.y 1; go_simp) ?_
  simp only [Act.put, sA, sZ, sS]
  refine wo 9 rfl (fun K hK => ?_)
  go_simp
  refine (ref_ok _ hs hg).mono ?_
  rintro e wr ⟨rfl, hb⟩
  have HMr := hid (HMe.out.below hb)
  have HFr : Hid (Pf base w wr) := HFe.out.trans (Pf.of_below hb HMe.out.lo)
  have HSwr := hid HMr.out.sq
  clear hb
  go_simp
  refine hK.out _ _ (fun _ => HSwr.out) ?_
  clear hK K
  refine wo 10 rfl (fun K hK => ?_)
  go_simp
  refine (HCR.out _ HMr.out.dd).mono ?_
  rintro e w5 ⟨rfl, hd5, hf5⟩
  have HM5 := hid (HMr.out.df0 hd5 hf5)
  have HF5 : Hid (Pf base w w5) := HFr.out.trans (HMr.out.dd.pf hf5)
  have HS5 := hid HM5.out.sq
  clear hd5 hf5
  go_simp
  refine hK.out _ _ (fun _ => HS5.out) ?_
  clear hK K
  refine wk 11 199 (.tuple #[i64 M, i64 E1]) rfl HS5.out (fun W hW => by go_simp) ?_
  refine wk 12 211 (i64 M) rfl HS5.out (fun W hW => by go_simp) ?_
  refine wk 13 212 (i64 E1) rfl HS5.out (fun W hW => by go_simp) ?_
  simp only [Act.put, sA, sZ, sS]
  refine wo 14 rfl (fun K hK => ?_)
  go_simp
  refine hK.out _ _ (fun _ => HS5.out) ?_
  clear hK K
  refine wo 15 rfl (fun K hK => ?_)
  go_simp
  refine hK.out _ _ (fun h => absurd rfl h) ?_
  clear hK K
  refine wdd ?_
  refine NoPanic.normal ?_
  go_wp2_with fail
  go_ret
  exact ⟨by simp, Aft.of (HM5.out.pp HIV2.out) rfl rfl (by rw [HLen.out]; omega) (by omega), HF5.out⟩
set_option maxHeartbeats 12800000 in
theorem does_number {w : World} {base p : Nat} {z : Px} {t : Qt.T} {s : Qt.St} {T : List Cp.Pl} {L : Ls} {R : Nat → List Hn} {C : List Cp.Rw} {Rs : List Rt} {P : List Int} {H : List Hn} {E : List Int} (h : Pp w base p z t s T L R C Rs P H E) (hcl : C.length ≤ 90) (hhl : H.length ≤ 900) (x : Sb) (hw : x.what < 0 ∨ 8 < x.what) : DoesTo w base p z t C H x := by
  unfold DoesTo
  have n0 : (x.what == 0) = false := by simp; omega
  have n1 : (x.what == 1) = false := by simp; omega
  have n2 : (x.what == 2) = false := by simp; omega
  have n3 : (x.what == 3) = false := by simp; omega
  have n4 : (x.what == 4) = false := by simp; omega
  have n5 : (x.what == 5) = false := by simp; omega
  have n6 : (x.what == 6) = false := by simp; omega
  have n7 : (x.what == 7) = false := by simp; omega
  have n8 : (x.what == 8) = false := by simp; omega
  clear hw
  obtain ⟨⟨hs, hg⟩, hpk⟩ : ∃ v, pkH H x = v := ⟨_, rfl⟩
  obtain ⟨ev, hev⟩ : ∃ v, pkE H E x = v := ⟨_, rfl⟩
  have hlo := h.lo
  obtain ⟨V, hV⟩ : ∃ V, V = w.alloc (sbO x) := ⟨_, rfl⟩
  have HV : Hid (w.alloc (.cells #[i64 x.what, i64 x.env, i64 x.kind, i64 x.n, i64 x.tt, i64 x.rts, .bool x.by_, i64 x.q.a, i64 x.q.b, i64 x.q.c] 33) = V) := hV.symm
  have hbV : Below w.heap.size w V := by rw [hV]; exact bl1 w _
  have HX : Hid (V.heap[w.heap.size]? = some (sbO x)) := by rw [hV]; exact hid (hlx w _)
  have HPk := hid (pick_any (h.below hbV).pk (by omega) h.he x hs hg ev hpk hev)
  have HPp := hid (h.below hbV)
  have HBV := hid hbV
  have HIV := hid h.iv
  have HGL : Hid (∀ i, i < 3 → z.x.g i < w.heap.size) := fun i hi => blk_lt (h.bd.rt i hi).1
  have HHL : Hid (∀ g, z.hb = some g → g < w.heap.size) := fun g hg => h.hb_lt hg
  clear h hV hbV hpk hev
  go_enter Try.func12, Try.ntmps12
  go_upto_region 1 with fail
  rw [HV.out]
  go_wp2_with (refine wpList_load_mid rfl 33 (.tmp 3) rfl w.heap.size 0 rfl x.c _ (by exact sbO_range HX.out) Try.underlying33 rfl info33 ?_)
  refine HPk.out.mono ?_
  rintro e w2 ⟨rfl, hb2⟩
  have hB2 : Below w.heap.size w w2 := HBV.out.trans (hb2.mono HBV.out.size)
  have HF3 : Hid (Pf base w (w2.alloc (hO hs hg))) := Pf.of_below (hB2.alloc hB2.size _) hlo
  have HM3 : Hid (Md (w2.alloc (hO hs hg)) base p w.heap.size w2.heap.size z x hs hg t s s T L R C Rs P H E) := by
    have hp := (HPp.out.below hb2).below (bl1 w2 (hO hs hg))
    have hsz := hB2.size
    exact ⟨hp.bd, hp.dd, hp.pk, bka (bkb HX.out hb2) _, hlx w2 _, hp.he, hp.ah, hp.ae, fun i hi e => by have := HGL.out i hi; omega, fun e => by have := HHL.out _ e; omega⟩
  have hYw : w.heap.size ≤ w2.heap.size := hB2.size
  clear hb2 hB2 HPk HPp HBV HX HV HGL HHL V
  go_upto_region 2 with fail
  unfold hO at HF3 HM3
  generalize w2.alloc (.cells #[i64 hs, i64 hg] 43) = W3 at *
  generalize w2.heap.size = Y at *
  have x0 : W3.cell? ⟨w.heap.size, 0, none⟩ = some (i64 x.what) := bkc HM3.out.hx 0
  go_upto_region 28 with fail
  clear x0
  obtain ⟨nv, ne, hcp, hcr, _, _⟩ := both_number (base := base) (b := z.b) (d := z.d) (x := z.x) (y := z.y) HIV.out (by omega) ev hs hg x.kind
  have HCP := hid hcp
  have HCR := hid hcr
  clear hcp hcr n0 n1 n2 n3 n4 n5 n6 n7 n8
  have HMd := hid HM3.out.drew
  have HFd : Hid (Pf base w W3.drew) := HF3.out.drewl
  have HS := hid HMd.out.sq
  refine wp_region_noPanic ?_
  refine wrl (SqW w.heap.size Y p z.b z.d z.y.kb z.y.kc x hs hg) 13 (by kernel_rfl) ?_
  refine wk 0 222 (.pointer (some ⟨p, 0, none⟩)) rfl HS.out (fun W hW => by go_simp) ?_
  refine wk 1 223 (.pointer (some ⟨p, 0, none⟩)) rfl HS.out (fun W hW => by go_simp) ?_
  refine wk 2 224 (.pointer (some ⟨p, 0, none⟩)) rfl HS.out (fun W hW => by go_simp) ?_
  refine wk 3 225 (.pointer (some ⟨z.b, 0, none⟩)) rfl HS.out (fun W hW => by have p0 := hW.p0; go_simp) ?_
  refine wk 4 226 (i64 ev) rfl HS.out (fun W hW => by go_simp) ?_
  refine wk 5 227 (.agg #[i64 hs, i64 hg]) rfl HS.out (fun W hW => by have y0 := bkc hW.y 0; have y1 := bkc hW.y 1; go_simp) ?_
  refine wk 6 228 (.pointer (some ⟨w.heap.size, 2, none⟩)) rfl HS.out (fun W hW => by go_simp) ?_
  refine wk 7 229 (i64 x.kind) rfl HS.out (fun W hW => by have x2 := bkc hW.x 2; go_simp) ?_
  simp only [Act.put, sA, sZ, sS]
  refine wo 8 rfl (fun K hK => ?_)
  go_simp
  refine (HCP.out _ HMd.out.bd).mono ?_
  rintro e w4 ⟨rfl, hb⟩
  have HM4 := hid (HMd.out.below hb)
  have HF4 : Hid (Pf base w w4) := HFd.out.trans (Pf.of_below hb HMd.out.lo)
  have HS4 := hid HM4.out.sq
  clear hb
  go_simp
  refine hK.out _ _ (fun _ => HS4.out) ?_
  clear hK K
  refine wk 9 221 (.tuple #[i64 nv, i64 ne]) rfl HS4.out (fun W hW => by go_simp) ?_
  refine wk 10 231 (i64 nv) rfl HS4.out (fun W hW => by go_simp) ?_
  refine wk 11 232 (i64 ne) rfl HS4.out (fun W hW => by go_simp) ?_
  simp only [Act.put, sA, sZ, sS]
  refine wo 12 rfl (fun K hK => ?_)
  go_simp
  refine hK.out _ _ (fun _ => HS4.out) ?_
  clear hK K
  refine wo 13 rfl (fun K hK => ?_)
  go_simp
  refine hK.out _ _ (fun h => absurd rfl h) ?_
  clear hK K
  refine wdd ?_
  refine NoPanic.normal ?_
  go_upto_region 29 with fail
  have HMe := hid HM4.out.drew
  have HFe : Hid (Pf base w w4.drew) := HF4.out.drewl
  have HSe := hid HMe.out.sq
  refine wp_region_noPanic ?_
  refine wrl (SqW w.heap.size Y p z.b z.d z.y.kb z.y.kc x hs hg) 14 (by kernel_rfl) ?_
  refine wk 0 234 (.pointer (some ⟨p, 0, none⟩)) rfl HSe.out (fun W hW => by go_simp) ?_
  refine wk 1 235 (.pointer (some ⟨p, 0, none⟩)) rfl HSe.out (fun W hW => by go_simp) ?_
  refine wk 2 236 (.pointer (some ⟨p, 1, none⟩)) rfl HSe.out (fun W hW => by go_simp) ?_
  refine wk 3 237 (.pointer (some ⟨z.d, 0, none⟩)) rfl HSe.out (fun W hW => by have p1 := hW.p1; go_simp) ?_
  refine wk 4 238 (i64 ev) rfl HSe.out (fun W hW => by go_simp) ?_
  refine wk 5 239 (.agg #[i64 hs, i64 hg]) rfl HSe.out (fun W hW => by have y0 := bkc hW.y 0; have y1 := bkc hW.y 1; go_simp) ?_
  refine wk 7 241 (.pointer (some ⟨w.heap.size, 2, none⟩)) rfl HSe.out (fun W hW => by go_simp) ?_
  refine wk 8 242 (i64 x.kind) rfl HSe.out (fun W hW => by have x2 := bkc hW.x 2; go_simp) ?_
  simp only [Act.put, sA, sZ, sS]
  refine wo 6 rfl (fun K hK => ?_)
  go_simp
  refine (ref_ok _ hs hg).mono ?_
  rintro e wr ⟨rfl, hb⟩
  have HMr := hid (HMe.out.below hb)
  have HFr : Hid (Pf base w wr) := HFe.out.trans (Pf.of_below hb HMe.out.lo)
  have HSwr := hid HMr.out.sq
  clear hb
  go_simp
  refine hK.out _ _ (fun _ => HSwr.out) ?_
  clear hK K
  refine wo 9 rfl (fun K hK => ?_)
  go_simp
  refine (HCR.out _ HMr.out.dd).mono ?_
  rintro e w5 ⟨rfl, hb⟩
  have HM5 := hid (HMr.out.below hb)
  have HF5 : Hid (Pf base w w5) := HFr.out.trans (Pf.of_below hb HMr.out.lo)
  have HS5 := hid HM5.out.sq
  clear hb
  go_simp
  refine hK.out _ _ (fun _ => HS5.out) ?_
  clear hK K
  refine wk 10 233 (.tuple #[i64 nv, i64 ne]) rfl HS5.out (fun W hW => by go_simp) ?_
  refine wk 11 244 (i64 nv) rfl HS5.out (fun W hW => by go_simp) ?_
  refine wk 12 245 (i64 ne) rfl HS5.out (fun W hW => by go_simp) ?_
  simp only [Act.put, sA, sZ, sS]
  refine wo 13 rfl (fun K hK => ?_)
  go_simp
  refine hK.out _ _ (fun _ => HS5.out) ?_
  clear hK K
  refine wo 14 rfl (fun K hK => ?_)
  go_simp
  refine hK.out _ _ (fun h => absurd rfl h) ?_
  clear hK K
  refine wdd ?_
  refine NoPanic.normal ?_
  go_wp2_with fail
  go_ret
  exact ⟨by simp, Aft.of (HM5.out.pp HIV.out) rfl rfl (by omega) (by omega), HF5.out⟩
end Go.Proofs.Ytnknhencobhjdaa
