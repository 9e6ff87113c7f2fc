/- No statement here. -/
import Derived.Test.YtnknhencobhjdaaMMd2
set_option maxRecDepth 100000
namespace Go.Proofs.Ytnknhencobhjdaa
open Go.ChangeShapes Go.WideShapes Go.ChangeAt Go.RowKit Go.Deep
open Go.Proofs.Ytnknhencobhjdaa.Cp (pq hid bl1 hO)
attribute [local go_sem ↓] Go.wp_at_zero Go.wp_at_succ
structure SqE (K G : Nat) (ks kg gn0 ke : Int) (W : World) : Prop where
  k : W.heap[K]? = some (hO ks kg)
  g : W.heap[G]? = some (gtO gn0 ks kg ke)
theorem SqE.below {K G : Nat} {ks kg gn0 ke : Int} {W W' : World} (h : SqE K G ks kg gn0 ke W) (hb : Below W.heap.size W W') : SqE K G ks kg gn0 ke W' := ⟨bkb h.k hb, bkb h.g hb⟩
set_option maxHeartbeats 12800000 in
theorem does_bind {w : World} {base p : Nat} {z : Px} {t : Qt.T} {s : Qt.St} {T : List Cp.Pl} {L : Ls} {R : Nat → List Hn} {C : List Cp.Rw} {Rs : List Rt} {P : List Int} {H : List Hn} {E : List Int} (h : Pp w base p z t s T L R C Rs P H E) (hcl : C.length ≤ 90) (hhl : H.length ≤ 900) (x : Sb) (hw : x.what = 2 ∨ x.what = 3 ∨ x.what = 4) : DoesTo w base p z t C H x := by
  unfold DoesTo
  have HWf := hid h.bd.bk.wf
  have HLn := hid h.bd.len
  rcases hw with hw | hw | hw
  all_goals
    have HW := hid hw
    clear hw
    obtain ⟨⟨hs, hg⟩, hpk⟩ : ∃ v, pkH H x = v := ⟨_, rfl⟩
    obtain ⟨ev, hev⟩ : ∃ v, pkE H E x = v := ⟨_, rfl⟩
    have hlo := h.lo
    obtain ⟨V, hV⟩ : ∃ V, V = w.alloc (sbO x) := ⟨_, rfl⟩
    have HV : Hid (w.alloc (.cells #[i64 x.what, i64 x.env, i64 x.kind, i64 x.n, i64 x.tt, i64 x.rts, .bool x.by_, i64 x.q.a, i64 x.q.b, i64 x.q.c] 33) = V) := hV.symm
    have hbV : Below w.heap.size w V := by rw [hV]; exact bl1 w _
    have HX : Hid (V.heap[w.heap.size]? = some (sbO x)) := by rw [hV]; exact hid (hlx w _)
    have HPk := hid (pick_any (h.below hbV).pk (by omega) h.he x hs hg ev hpk hev)
    have HPp := hid (h.below hbV)
    have HBV := hid hbV
    have HIV := hid h.iv
    have HGL : Hid (∀ i, i < 3 → z.x.g i < w.heap.size) := fun i hi => blk_lt (h.bd.rt i hi).1
    have HHL : Hid (∀ g, z.hb = some g → g < w.heap.size) := fun g hg => h.hb_lt hg
    clear h hV hbV hpk hev
    go_enter Try.func12, Try.ntmps12
    go_upto_region 1 with fail
    rw [HV.out]
    go_wp2_with (refine wpList_load_mid rfl 33 (.tmp 3) rfl w.heap.size 0 rfl x.c _ (by exact sbO_range HX.out) Try.underlying33 rfl info33 ?_)
    refine HPk.out.mono ?_
    rintro e w2 ⟨rfl, hb2⟩
    have hB2 : Below w.heap.size w w2 := HBV.out.trans (hb2.mono HBV.out.size)
    have HF3 : Hid (Pf base w (w2.alloc (hO hs hg))) := Pf.of_below (hB2.alloc hB2.size _) hlo
    have HM3 : Hid (Md (w2.alloc (hO hs hg)) base p w.heap.size w2.heap.size z x hs hg t s s T L R C Rs P H E) := by
      have hp := (HPp.out.below hb2).below (bl1 w2 (hO hs hg))
      have hsz := hB2.size
      exact ⟨hp.bd, hp.dd, hp.pk, bka (bkb HX.out hb2) _, hlx w2 _, hp.he, hp.ah, hp.ae, fun i hi e => by have := HGL.out i hi; omega, fun e => by have := HHL.out _ e; omega⟩
    have hYw : w.heap.size ≤ w2.heap.size := hB2.size
    clear hb2 hB2 HPk HPp HBV HX HV HGL HHL V
    go_upto_region 2 with fail
    unfold hO at HF3 HM3
    generalize w2.alloc (.cells #[i64 hs, i64 hg] 43) = W3 at *
    generalize w2.heap.size = Y at *
    have x0 : W3.cell? ⟨w.heap.size, 0, none⟩ = some (i64 x.what) := bkc HM3.out.hx 0
    rw [HW.out] at x0
    go_upto_region 10 with fail
    clear x0
    obtain ⟨gn0, ks, kg, ke, s', T', L', R', C', Rs', P', hgv⟩ := both_bind (base := base) (b := z.b) (d := z.d) (x := z.x) (y := z.y) HIV.out HWf.out HLn.out (by omega) x.env x.kind
    have HG := hid hgv
    clear hgv HWf HLn
    have HS1q := hid HM3.out.drew.sq
    refine wp_region_noPanic ?_
    refine wrl (SqW w.heap.size Y p z.b z.d z.y.kb z.y.kc x hs hg) 16 (by kernel_rfl) ?_
    refine wk 0 76 (.pointer (some ⟨p, 0, none⟩)) rfl HS1q.out (fun W hW => by go_simp) ?_
    simp only [Act.put, sA, sZ, sS]
    refine wk 1 77 (.pointer (some ⟨p, 0, none⟩)) rfl HS1q.out (fun W hW => by go_simp) ?_
    simp only [Act.put, sA, sZ, sS]
    refine wk 2 78 (.pointer (some ⟨p, 0, none⟩)) rfl HS1q.out (fun W hW => by go_simp) ?_
    simp only [Act.put, sA, sZ, sS]
    refine wk 3 79 (.pointer (some ⟨z.b, 0, none⟩)) rfl HS1q.out (fun W hW => by have p0 := hW.p0; go_simp) ?_
    simp only [Act.put, sA, sZ, sS]
    refine wk 4 80 (.pointer (some ⟨w.heap.size, 1, none⟩)) rfl HS1q.out (fun W hW => by go_simp) ?_
    simp only [Act.put, sA, sZ, sS]
    refine wk 5 81 (i64 x.env) rfl HS1q.out (fun W hW => by have x1 := bkc hW.x 1; go_simp) ?_
    simp only [Act.put, sA, sZ, sS]
    refine wk 6 82 (.pointer (some ⟨w.heap.size, 2, none⟩)) rfl HS1q.out (fun W hW => by go_simp) ?_
    simp only [Act.put, sA, sZ, sS]
    refine wk 7 83 (i64 x.kind) rfl HS1q.out (fun W hW => by have x2 := bkc hW.x 2; go_simp) ?_
    simp only [Act.put, sA, sZ, sS]
    refine wpL_two 8 13 rfl rfl (by kernel_rfl) (by rfl) (by rfl) (fun K hK => ?_) (fun K hK => ?_)
    go_simp
    refine (HG.out.p _ HM3.out.drew.bd).mono ?_
    rintro e w2q ⟨rfl, hd, hf⟩
    have HM3q := hid (HM3.out.drew.bf hd hf)
    have HF4q : Hid (Pf base w w2q) := (HF3.out.drewl).trans (HM3.out.drew.bd.pf hf)
    have HS5q := hid HM3q.out.sq
    clear hd hf
    go_simp
    refine hK.out _ _ (fun _ => HS5q.out) ?_
    clear hK K
    refine wk 9 75 (.tuple #[i64 gn0, .agg #[i64 ks, i64 kg], i64 ke]) rfl HS5q.out (fun W hW => by go_simp) ?_
    simp only [Act.put, sA, sZ, sS]
    refine wk 10 85 (i64 gn0) rfl HS5q.out (fun W hW => by go_simp) ?_
    simp only [Act.put, sA, sZ, sS]
    refine wk 11 86 (.agg #[i64 ks, i64 kg]) rfl HS5q.out (fun W hW => by go_simp) ?_
    simp only [Act.put, sA, sZ, sS]
    refine wk 12 87 (i64 ke) rfl HS5q.out (fun W hW => by go_simp) ?_
    simp only [Act.put, sA, sZ, sS]
    refine wo 13 rfl (fun K hK => ?_)
    go_simp
    refine hK.out _ _ (fun _ => HS5q.out.below (bl1 w2q _)) ?_
    clear hK K
    have HM8q := hid ((HM3q.out.below (bl1 w2q (hO 0 0))))
    have HF9q : Hid (Pf base w (w2q.alloc (hO 0 0))) := (HF4q.out.trans (Pf.of_below (bl1 w2q _) HM3q.out.lo))
    have HK10q : Hid ((w2q.alloc (hO 0 0)).heap[w2q.heap.size]? = some (hO 0 0)) := hlx w2q _
    have hz16q : w.heap.size ≤ w2q.heap.size := HF4q.out.below.size
    have hx14q : w.heap.size < w2q.heap.size := blk_lt HM3q.out.hx
    have hy15q : Y < w2q.heap.size := blk_lt HM3q.out.hy
    have HZg12q : Hid (∀ i, i < 3 → w2q.heap.size ≠ z.x.g i) := fun i hi e => by have h9 : z.x.g i < w2q.heap.size := blk_lt (HM3q.out.bd.rt i hi).1; omega
    have HZh13q : Hid (z.hb ≠ some w2q.heap.size) := fun e => by have h9 : w2q.heap.size < w2q.heap.size := HM3q.out.hb_lt e; omega
    clear HM3q HF4q HS5q
    unfold hO at HM8q HF9q HK10q
    generalize (w2q.alloc (.cells #[i64 0, i64 0] 43)) = V6q at *
    generalize w2q.heap.size = Z7q at *
    have HS11q := hid HM8q.out.sq
    refine wo 14 rfl (fun K hK => ?_)
    go_simp
    refine hK.out _ _ (fun _ => HS11q.out) ?_
    clear hK K
    refine wo 15 rfl (fun K hK => ?_)
    have z0 : V6q.cell? ⟨Z7q, 0, none⟩ = some (i64 0) := bkc HK10q.out 0
    have z1 : V6q.cell? ⟨Z7q, 1, none⟩ = some (i64 0) := bkc HK10q.out 1
    have zf : ∀ j, V6q.frozen? ⟨Z7q, j, none⟩ = false := bkf HK10q.out
    have HM18q := hid (HM8q.out.touch (W' := ((V6q.setCell ⟨Z7q, 0, none⟩ (i64 ks)).setCell ⟨Z7q, 1, none⟩ (i64 kg))) HK10q.out (Or.inl ⟨rfl, by omega, HZg12q.out, HZh13q.out⟩) (ne2 _ _ _ _))
    have HF19q : Hid (Pf base w ((V6q.setCell ⟨Z7q, 0, none⟩ (i64 ks)).setCell ⟨Z7q, 1, none⟩ (i64 kg))) := HF9q.out.set2 hlo (by omega) _ _
    have HK20q : Hid (((V6q.setCell ⟨Z7q, 0, none⟩ (i64 ks)).setCell ⟨Z7q, 1, none⟩ (i64 kg)).heap[Z7q]? = some (hO ks kg)) := Cp.set2 HK10q.out _ _
    have HS21q := hid HM18q.out.sq
    go_simp
    refine hK.out _ _ (fun _ => HS21q.out) ?_
    clear hK K
    clear HM8q HF9q HS11q HK10q z0 z1 zf
    generalize ((V6q.setCell ⟨Z7q, 0, none⟩ (i64 ks)).setCell ⟨Z7q, 1, none⟩ (i64 kg)) = U17q at *
    refine wo 16 rfl (fun K hK => ?_)
    go_simp
    refine hK.out _ _ (fun h => absurd rfl h) ?_
    clear hK K
    refine wdd ?_
    refine NoPanic.normal ?_
    have HMja := HM18q
    have HFja := HF19q
    have HKja := HK20q
    have hzja : w.heap.size ≤ Z7q := by omega
    have HZgja := HZg12q
    have HZhja := HZh13q
    clear HM18q HF19q HS21q HK20q HZg12q HZh13q
    generalize U17q = Uja at *
    generalize Z7q = Zja at *
    rotate_left
    go_simp
    refine hK.out _ _ (fun _ => HS1q.out.below (bl1 W3.drew _)) ?_
    clear hK K
    have HM24q := hid ((HM3.out.below (bl1 W3 (hO 0 0))).drew)
    have HF25q : Hid (Pf base w (W3.alloc (hO 0 0)).drew) := (HF3.out.trans (Pf.of_below (bl1 W3 _) HM3.out.lo)).drewl
    have HK26q : Hid ((W3.alloc (hO 0 0)).drew.heap[W3.heap.size]? = some (hO 0 0)) := hlx W3 _
    have hz32q : w.heap.size ≤ W3.heap.size := HF3.out.below.size
    have hx30q : w.heap.size < W3.heap.size := blk_lt HM3.out.hx
    have hy31q : Y < W3.heap.size := blk_lt HM3.out.hy
    have HZg28q : Hid (∀ i, i < 3 → W3.heap.size ≠ z.x.g i) := fun i hi e => by have h9 : z.x.g i < W3.heap.size := blk_lt (HM3.out.bd.rt i hi).1; omega
    have HZh29q : Hid (z.hb ≠ some W3.heap.size) := fun e => by have h9 : W3.heap.size < W3.heap.size := HM3.out.hb_lt e; omega
    clear HM3 HF3 HS1q
    unfold hO at HM24q HF25q HK26q
    generalize (W3.alloc (.cells #[i64 0, i64 0] 43)).drew = V22q at *
    generalize W3.heap.size = Z23q at *
    have HS27q := hid HM24q.out.sq
    refine wo 8 rfl (fun K hK => ?_)
    go_simp
    refine (HG.out.p _ HM24q.out.bd).mono ?_
    rintro e w33q ⟨rfl, hd, hf⟩
    have HM34q := hid (HM24q.out.bf hd hf)
    have HF35q : Hid (Pf base w w33q) := (HF25q.out).trans (HM24q.out.bd.pf hf)
    have HK37q : Hid (w33q.heap[Z23q]? = some (hO 0 0)) := HM24q.out.bd.kt hf HK26q.out (by decide) (by decide) (by decide) (Or.inr HZg28q.out)
    have HS36q := hid HM34q.out.sq
    clear hd hf
    go_simp
    refine hK.out _ _ (fun _ => HS36q.out) ?_
    clear hK K
    refine wk 9 75 (.tuple #[i64 gn0, .agg #[i64 ks, i64 kg], i64 ke]) rfl HS36q.out (fun W hW => by go_simp) ?_
    simp only [Act.put, sA, sZ, sS]
    refine wk 10 85 (i64 gn0) rfl HS36q.out (fun W hW => by go_simp) ?_
    simp only [Act.put, sA, sZ, sS]
    refine wk 11 86 (.agg #[i64 ks, i64 kg]) rfl HS36q.out (fun W hW => by go_simp) ?_
    simp only [Act.put, sA, sZ, sS]
    refine wk 12 87 (i64 ke) rfl HS36q.out (fun W hW => by go_simp) ?_
    simp only [Act.put, sA, sZ, sS]
    refine wo 14 rfl (fun K hK => ?_)
    go_simp
    refine hK.out _ _ (fun _ => HS36q.out) ?_
    clear hK K
    refine wo 15 rfl (fun K hK => ?_)
    have z0 : w33q.cell? ⟨Z23q, 0, none⟩ = some (i64 0) := bkc HK37q.out 0
    have z1 : w33q.cell? ⟨Z23q, 1, none⟩ = some (i64 0) := bkc HK37q.out 1
    have zf : ∀ j, w33q.frozen? ⟨Z23q, j, none⟩ = false := bkf HK37q.out
    have HM39q := hid (HM34q.out.touch (W' := ((w33q.setCell ⟨Z23q, 0, none⟩ (i64 ks)).setCell ⟨Z23q, 1, none⟩ (i64 kg))) HK37q.out (Or.inl ⟨rfl, by omega, HZg28q.out, HZh29q.out⟩) (ne2 _ _ _ _))
    have HF40q : Hid (Pf base w ((w33q.setCell ⟨Z23q, 0, none⟩ (i64 ks)).setCell ⟨Z23q, 1, none⟩ (i64 kg))) := HF35q.out.set2 hlo (by omega) _ _
    have HK41q : Hid (((w33q.setCell ⟨Z23q, 0, none⟩ (i64 ks)).setCell ⟨Z23q, 1, none⟩ (i64 kg)).heap[Z23q]? = some (hO ks kg)) := Cp.set2 HK37q.out _ _
    have HS42q := hid HM39q.out.sq
    go_simp
    refine hK.out _ _ (fun _ => HS42q.out) ?_
    clear hK K
    clear HM34q HF35q HS36q HK37q z0 z1 zf
    generalize ((w33q.setCell ⟨Z23q, 0, none⟩ (i64 ks)).setCell ⟨Z23q, 1, none⟩ (i64 kg)) = U38q at *
    refine wo 16 rfl (fun K hK => ?_)
    go_simp
    refine hK.out _ _ (fun h => absurd rfl h) ?_
    clear hK K
    refine wdd ?_
    refine NoPanic.normal ?_
    have HMja := HM39q
    have HFja := HF40q
    have HKja := HK41q
    have hzja : w.heap.size ≤ Z23q := by omega
    have HZgja := HZg28q
    have HZhja := HZh29q
    clear HM39q HF40q HS42q HK41q HZg28q HZh29q
    generalize U38q = Uja at *
    generalize Z23q = Zja at *
    all_goals
      go_upto_region 11 with fail
      have HS43q := hid HMja.out.drew.sq
      refine wp_region_noPanic ?_
      refine wrl (SqW w.heap.size Y p z.b z.d z.y.kb z.y.kc x hs hg) 10 (by kernel_rfl) ?_
      refine wk 0 88 (.pointer (some ⟨p, 0, none⟩)) rfl HS43q.out (fun W hW => by go_simp) ?_
      simp only [Act.put, sA, sZ, sS]
      refine wk 1 89 (.pointer (some ⟨p, 0, none⟩)) rfl HS43q.out (fun W hW => by go_simp) ?_
      simp only [Act.put, sA, sZ, sS]
      refine wk 2 90 (.pointer (some ⟨p, 1, none⟩)) rfl HS43q.out (fun W hW => by go_simp) ?_
      simp only [Act.put, sA, sZ, sS]
      refine wk 3 91 (.pointer (some ⟨z.d, 0, none⟩)) rfl HS43q.out (fun W hW => by have p1 := hW.p1; go_simp) ?_
      simp only [Act.put, sA, sZ, sS]
      refine wk 4 92 (.pointer (some ⟨w.heap.size, 1, none⟩)) rfl HS43q.out (fun W hW => by go_simp) ?_
      simp only [Act.put, sA, sZ, sS]
      refine wk 5 93 (i64 x.env) rfl HS43q.out (fun W hW => by have x1 := bkc hW.x 1; go_simp) ?_
      simp only [Act.put, sA, sZ, sS]
      refine wk 6 94 (.pointer (some ⟨w.heap.size, 2, none⟩)) rfl HS43q.out (fun W hW => by go_simp) ?_
      simp only [Act.put, sA, sZ, sS]
      refine wk 7 95 (i64 x.kind) rfl HS43q.out (fun W hW => by have x2 := bkc hW.x 2; go_simp) ?_
      simp only [Act.put, sA, sZ, sS]
      refine wpL_two 8 9 rfl rfl (by kernel_rfl) (by rfl) (by rfl) (fun K hK => ?_) (fun K hK => ?_)
      go_simp
      refine (HG.out.r _ HMja.out.drew.dd).mono ?_
      rintro e w44q ⟨rfl, pb', hp, hd, hf⟩
      have HM45q := hid (HMja.out.drew.df hp hd hf)
      have HF46q : Hid (Pf base w w44q) := (HFja.out.drewl).trans (HMja.out.drew.dd.pf hf)
      have HK48q : Hid (w44q.heap[Zja]? = some (hO ks kg)) := HMja.out.drew.dd.kt hf HKja.out (by decide) (by decide) (by decide) (by decide) (by decide) (by decide) (Or.inl (by decide))
      have HS47q := hid HM45q.out.sq
      clear hp hd hf
      go_simp
      refine hK.out _ _ (fun _ => HS47q.out) ?_
      clear hK K
      refine wo 9 rfl (fun K hK => ?_)
      go_simp
      refine hK.out _ _ (fun _ => HS47q.out.below (bl1 w44q _)) ?_
      clear hK K
      have HM51q := hid ((HM45q.out.below (bl1 w44q (gtO 0 0 0 0))))
      have HF52q : Hid (Pf base w (w44q.alloc (gtO 0 0 0 0))) := (HF46q.out.trans (Pf.of_below (bl1 w44q _) HM45q.out.lo))
      have HK53q : Hid ((w44q.alloc (gtO 0 0 0 0)).heap[w44q.heap.size]? = some (gtO 0 0 0 0)) := hlx w44q _
      have hz59q : w.heap.size ≤ w44q.heap.size := HF46q.out.below.size
      have hx57q : w.heap.size < w44q.heap.size := blk_lt HM45q.out.hx
      have hy58q : Y < w44q.heap.size := blk_lt HM45q.out.hy
      have HZg55q : Hid (∀ i, i < 3 → w44q.heap.size ≠ z.x.g i) := fun i hi e => by have h9 : z.x.g i < w44q.heap.size := blk_lt (HM45q.out.bd.rt i hi).1; omega
      have HZh56q : Hid (z.hb ≠ some w44q.heap.size) := fun e => by have h9 : w44q.heap.size < w44q.heap.size := HM45q.out.hb_lt e; omega
      have HK60q : Hid ((w44q.alloc (gtO 0 0 0 0)).heap[Zja]? = some (hO ks kg)) := bka HK48q.out _
      have hl61q : Zja < w44q.heap.size := blk_lt HK48q.out
      clear HM45q HF46q HS47q HK48q
      unfold gtO at HM51q HF52q HK53q
      unfold gtO hO at HK60q
      generalize (w44q.alloc (.cells #[i64 0, i64 0, i64 0, i64 0] 83)) = V49q at *
      generalize w44q.heap.size = Z50q at *
      have HS54q := hid HM51q.out.sq
      refine wo 10 rfl (fun K hK => ?_)
      have z0 : V49q.cell? ⟨Z50q, 0, none⟩ = some (i64 0) := bkc HK53q.out 0
      have z1 : V49q.cell? ⟨Z50q, 1, none⟩ = some (i64 0) := bkc HK53q.out 1
      have z2 : V49q.cell? ⟨Z50q, 2, none⟩ = some (i64 0) := bkc HK53q.out 2
      have z3 : V49q.cell? ⟨Z50q, 3, none⟩ = some (i64 0) := bkc HK53q.out 3
      have zf : ∀ j, V49q.frozen? ⟨Z50q, j, none⟩ = false := bkf HK53q.out
      have HM63q := hid (HM51q.out.touch (W' := ((((V49q.setCell ⟨Z50q, 0, none⟩ (i64 gn0)).setCell ⟨Z50q, 1, none⟩ (i64 ks)).setCell ⟨Z50q, 2, none⟩ (i64 kg)).setCell ⟨Z50q, 3, none⟩ (i64 ke))) HK53q.out (Or.inr rfl) (ne4 _ _ _ _ _ _))
      have HF64q : Hid (Pf base w ((((V49q.setCell ⟨Z50q, 0, none⟩ (i64 gn0)).setCell ⟨Z50q, 1, none⟩ (i64 ks)).setCell ⟨Z50q, 2, none⟩ (i64 kg)).setCell ⟨Z50q, 3, none⟩ (i64 ke))) := HF52q.out.set4 hlo (by omega) _ _ _ _
      have HK65q : Hid (((((V49q.setCell ⟨Z50q, 0, none⟩ (i64 gn0)).setCell ⟨Z50q, 1, none⟩ (i64 ks)).setCell ⟨Z50q, 2, none⟩ (i64 kg)).setCell ⟨Z50q, 3, none⟩ (i64 ke)).heap[Z50q]? = some (gtO gn0 ks kg ke)) := set83 HK53q.out gn0 ks kg ke
      have HK67q : Hid (((((V49q.setCell ⟨Z50q, 0, none⟩ (i64 gn0)).setCell ⟨Z50q, 1, none⟩ (i64 ks)).setCell ⟨Z50q, 2, none⟩ (i64 kg)).setCell ⟨Z50q, 3, none⟩ (i64 ke)).heap[Zja]? = some (hO ks kg)) := (ne4 _ _ _ _ _ _ _ (by omega)).trans HK60q.out
      have HS66q := hid HM63q.out.sq
      go_simp
      refine hK.out _ _ (fun h => absurd rfl h) ?_
      clear hK K
      refine wdd ?_
      refine NoPanic.normal ?_
      clear HM51q HF52q HS54q HK60q HK53q z0 z1 z2 z3 zf
      generalize ((((V49q.setCell ⟨Z50q, 0, none⟩ (i64 gn0)).setCell ⟨Z50q, 1, none⟩ (i64 ks)).setCell ⟨Z50q, 2, none⟩ (i64 kg)).setCell ⟨Z50q, 3, none⟩ (i64 ke)) = U62q at *
      have HMjb := HM63q
      have HFjb := HF64q
      have HKjb := HK65q
      have hzjb : w.heap.size ≤ Z50q := by omega
      have HZgjb := HZg55q
      have HZhjb := HZh56q
      have HKob := HK67q
      clear HM63q HF64q HS66q HK65q HZg55q HZh56q HK67q
      generalize U62q = Ujb at *
      generalize Z50q = Zjb at *
      rotate_left
      go_simp
      refine hK.out _ _ (fun _ => HS43q.out.below (bl1 Uja.drew _)) ?_
      clear hK K
      have HM70q := hid ((HMja.out.below (bl1 Uja (gtO 0 0 0 0))).drew)
      have HF71q : Hid (Pf base w (Uja.alloc (gtO 0 0 0 0)).drew) := (HFja.out.trans (Pf.of_below (bl1 Uja _) HMja.out.lo)).drewl
      have HK72q : Hid ((Uja.alloc (gtO 0 0 0 0)).drew.heap[Uja.heap.size]? = some (gtO 0 0 0 0)) := hlx Uja _
      have hz78q : w.heap.size ≤ Uja.heap.size := HFja.out.below.size
      have hx76q : w.heap.size < Uja.heap.size := blk_lt HMja.out.hx
      have hy77q : Y < Uja.heap.size := blk_lt HMja.out.hy
      have HZg74q : Hid (∀ i, i < 3 → Uja.heap.size ≠ z.x.g i) := fun i hi e => by have h9 : z.x.g i < Uja.heap.size := blk_lt (HMja.out.bd.rt i hi).1; omega
      have HZh75q : Hid (z.hb ≠ some Uja.heap.size) := fun e => by have h9 : Uja.heap.size < Uja.heap.size := HMja.out.hb_lt e; omega
      have HK79q : Hid ((Uja.alloc (gtO 0 0 0 0)).drew.heap[Zja]? = some (hO ks kg)) := bka HKja.out _
      have hl80q : Zja < Uja.heap.size := blk_lt HKja.out
      clear HMja HFja HS43q HKja
      unfold gtO at HM70q HF71q HK72q
      unfold gtO hO at HK79q
      generalize (Uja.alloc (.cells #[i64 0, i64 0, i64 0, i64 0] 83)).drew = V68q at *
      generalize Uja.heap.size = Z69q at *
      have HS73q := hid HM70q.out.sq
      refine wo 8 rfl (fun K hK => ?_)
      go_simp
      refine (HG.out.r _ HM70q.out.dd).mono ?_
      rintro e w81q ⟨rfl, pb', hp, hd, hf⟩
      have HM82q := hid (HM70q.out.df hp hd hf)
      have HF83q : Hid (Pf base w w81q) := (HF71q.out).trans (HM70q.out.dd.pf hf)
      have HK85q : Hid (w81q.heap[Zja]? = some (hO ks kg)) := HM70q.out.dd.kt hf HK79q.out (by decide) (by decide) (by decide) (by decide) (by decide) (by decide) (Or.inl (by decide))
      have HK86q : Hid (w81q.heap[Z69q]? = some (gtO 0 0 0 0)) := HM70q.out.dd.kt hf HK72q.out (by decide) (by decide) (by decide) (by decide) (by decide) (by decide) (Or.inl (by decide))
      have HS84q := hid HM82q.out.sq
      clear hp hd hf
      go_simp
      refine hK.out _ _ (fun _ => HS84q.out) ?_
      clear hK K
      refine wo 10 rfl (fun K hK => ?_)
      have z0 : w81q.cell? ⟨Z69q, 0, none⟩ = some (i64 0) := bkc HK86q.out 0
      have z1 : w81q.cell? ⟨Z69q, 1, none⟩ = some (i64 0) := bkc HK86q.out 1
      have z2 : w81q.cell? ⟨Z69q, 2, none⟩ = some (i64 0) := bkc HK86q.out 2
      have z3 : w81q.cell? ⟨Z69q, 3, none⟩ = some (i64 0) := bkc HK86q.out 3
      have zf : ∀ j, w81q.frozen? ⟨Z69q, j, none⟩ = false := bkf HK86q.out
      have HM88q := hid (HM82q.out.touch (W' := ((((w81q.setCell ⟨Z69q, 0, none⟩ (i64 gn0)).setCell ⟨Z69q, 1, none⟩ (i64 ks)).setCell ⟨Z69q, 2, none⟩ (i64 kg)).setCell ⟨Z69q, 3, none⟩ (i64 ke))) HK86q.out (Or.inr rfl) (ne4 _ _ _ _ _ _))
      have HF89q : Hid (Pf base w ((((w81q.setCell ⟨Z69q, 0, none⟩ (i64 gn0)).setCell ⟨Z69q, 1, none⟩ (i64 ks)).setCell ⟨Z69q, 2, none⟩ (i64 kg)).setCell ⟨Z69q, 3, none⟩ (i64 ke))) := HF83q.out.set4 hlo (by omega) _ _ _ _
      have HK90q : Hid (((((w81q.setCell ⟨Z69q, 0, none⟩ (i64 gn0)).setCell ⟨Z69q, 1, none⟩ (i64 ks)).setCell ⟨Z69q, 2, none⟩ (i64 kg)).setCell ⟨Z69q, 3, none⟩ (i64 ke)).heap[Z69q]? = some (gtO gn0 ks kg ke)) := set83 HK86q.out gn0 ks kg ke
      have HK92q : Hid (((((w81q.setCell ⟨Z69q, 0, none⟩ (i64 gn0)).setCell ⟨Z69q, 1, none⟩ (i64 ks)).setCell ⟨Z69q, 2, none⟩ (i64 kg)).setCell ⟨Z69q, 3, none⟩ (i64 ke)).heap[Zja]? = some (hO ks kg)) := (ne4 _ _ _ _ _ _ _ (by omega)).trans HK85q.out
      have HS91q := hid HM88q.out.sq
      go_simp
      refine hK.out _ _ (fun h => absurd rfl h) ?_
      clear hK K
      refine wdd ?_
      refine NoPanic.normal ?_
      clear HM82q HF83q HS84q HK85q HK86q z0 z1 z2 z3 zf
      generalize ((((w81q.setCell ⟨Z69q, 0, none⟩ (i64 gn0)).setCell ⟨Z69q, 1, none⟩ (i64 ks)).setCell ⟨Z69q, 2, none⟩ (i64 kg)).setCell ⟨Z69q, 3, none⟩ (i64 ke)) = U87q at *
      have HMjb := HM88q
      have HFjb := HF89q
      have HKjb := HK90q
      have hzjb : w.heap.size ≤ Z69q := by omega
      have HZgjb := HZg74q
      have HZhjb := HZh75q
      have HKob := HK92q
      clear HM88q HF89q HS91q HK90q HZg74q HZh75q HK92q
      generalize U87q = Ujb at *
      generalize Z69q = Zjb at *
      all_goals
        by_cases hE : ke = 0
        · have hEe : (ke == 0) = true := by simpa using hE
          have k0 : Ujb.cell? ⟨Zja, 0, none⟩ = some (i64 ks) := bkc HKob.out 0
          have k1 : Ujb.cell? ⟨Zja, 1, none⟩ = some (i64 kg) := bkc HKob.out 1
          have xe : Ujb.cell? ⟨w.heap.size, 1, none⟩ = some (i64 x.env) := bkc HMjb.out.hx 1
          have HGI := hid (given_ok HMjb.out.pk (by omega) HMjb.out.he ks kg x.env)
          have hZk : w.heap.size ≤ Zja := by omega
          clear hE
          go_wp2_with fail
          refine HGI.out.mono ?_
          rintro e w8 ⟨rfl, hb', eb', hp1, hp2, hk8, hf8⟩
          have HM8 := hid (HMjb.out.gf hp1 hp2 hk8 (by simp [HMjb.out.he]) hf8)
          have HF8 : Hid (Pf base w w8) := HFjb.out.trans (HMjb.out.pk.pf hf8)
          have HK8 : Hid (w8.heap[Zja]? = some (hO ks kg)) := by
            obtain ⟨e1, e2, e3⟩ := HMjb.out.pk.other HKob.out (by simp) (Or.inr (fun e => HZhja.out e.symm)) (Or.inl (by simp))
            exact hf8.kept _ _ HKob.out e1 e2 e3
          have HG8 : Hid (w8.heap[Zjb]? = some (gtO gn0 ks kg ke)) := by
            obtain ⟨e1, e2, e3⟩ := HMjb.out.pk.other HKjb.out (by simp) (Or.inl (by simp)) (Or.inl (by simp))
            exact hf8.kept _ _ HKjb.out e1 e2 e3
          clear hp1 hp2 hk8 hf8 HGI k0 k1 xe hEe HMjb HFjb HKob HKjb
          go_upto_region 14 with fail
          have HSE : Hid (SqE Zja Zjb ks kg gn0 ke w8.drew) := ⟨HK8.out, HG8.out⟩
          refine wp_region_noPanic ?_
          refine wrl (SqE Zja Zjb ks kg gn0 ke) 17 (by kernel_rfl) ?_
          refine wk 0 104 (i64 gn0) rfl HSE.out (fun W hW => by go_simp) ?_
          simp only [Act.put, sA, sZ, sS]
          refine wk 1 105 (.pointer (some ⟨Zjb, 0, none⟩)) rfl HSE.out (fun W hW => by go_simp) ?_
          simp only [Act.put, sA, sZ, sS]
          refine wk 2 106 (i64 gn0) rfl HSE.out (fun W hW => by have g0 := bkc hW.g 0; go_simp) ?_
          simp only [Act.put, sA, sZ, sS]
          refine wk 3 107 (.bool true) rfl HSE.out (fun W hW => by have q := eqIn81 ks kg ks kg W; simp only [and_self, decide_true] at q; go_simp) ?_
          simp only [Act.put, sA, sZ, sS]
          refine wk 4 108 (.bool true) rfl HSE.out (fun W hW => by go_simp) ?_
          simp only [Act.put, sA, sZ, sS]
          refine wk 5 109 (.agg #[i64 ks, i64 kg]) rfl HSE.out (fun W hW => by have k0 := bkc hW.k 0; have k1 := bkc hW.k 1; go_simp) ?_
          simp only [Act.put, sA, sZ, sS]
          refine wk 7 111 (.pointer (some ⟨Zjb, 1, none⟩)) rfl HSE.out (fun W hW => by go_simp) ?_
          simp only [Act.put, sA, sZ, sS]
          refine wk 8 112 (.agg #[i64 ks, i64 kg]) rfl HSE.out (fun W hW => by have g1 := bkc hW.g 1; have g2 := bkc hW.g 2; go_simp) ?_
          simp only [Act.put, sA, sZ, sS]
          refine wo 6 rfl (fun K hK => ?_)
          go_simp
          refine (ref_ok _ ks kg).mono ?_
          rintro e w93q ⟨rfl, hb⟩
          have HSE2 : Hid (SqE Zja Zjb ks kg gn0 ke w93q) := HSE.out.below hb
          have HM9 := hid (HM8.out.drew.below hb)
          have HF9 : Hid (Pf base w w93q) := HF8.out.drewl.trans (Pf.of_below hb HM8.out.drew.lo)
          clear hb
          go_simp
          refine hK.out _ _ (fun _ => HSE2.out) ?_
          clear hK K
          refine wk 9 113 (.bool true) rfl HSE2.out (fun W hW => by have q := eqIn81 ks kg ks kg W; simp only [and_self, decide_true] at q; go_simp) ?_
          simp only [Act.put, sA, sZ, sS]
          refine wk 10 114 (.bool true) rfl HSE2.out (fun W hW => by go_simp) ?_
          simp only [Act.put, sA, sZ, sS]
          refine wk 11 115 (.bool true) rfl HSE2.out (fun W hW => by go_simp) ?_
          simp only [Act.put, sA, sZ, sS]
          refine wk 12 116 (i64 ke) rfl HSE2.out (fun W hW => by go_simp) ?_
          simp only [Act.put, sA, sZ, sS]
          refine wk 13 117 (.pointer (some ⟨Zjb, 3, none⟩)) rfl HSE2.out (fun W hW => by go_simp) ?_
          simp only [Act.put, sA, sZ, sS]
          refine wk 14 118 (i64 ke) rfl HSE2.out (fun W hW => by have g3 := bkc hW.g 3; go_simp) ?_
          simp only [Act.put, sA, sZ, sS]
          refine wk 15 119 (.bool true) rfl HSE2.out (fun W hW => by have q := eqIn81 ks kg ks kg W; simp only [and_self, decide_true] at q; go_simp) ?_
          simp only [Act.put, sA, sZ, sS]
          refine wk 16 120 (.bool true) rfl HSE2.out (fun W hW => by go_simp) ?_
          simp only [Act.put, sA, sZ, sS]
          refine wo 17 rfl (fun K hK => ?_)
          go_simp
          refine hK.out _ _ (fun h => absurd rfl h) ?_
          clear hK K
          refine wdd ?_
          refine NoPanic.normal ?_
          go_wp2_with fail
          go_ret
          first | exact ⟨by simp, Aft.of (HM9.out.pp HG.out.iv) rfl rfl (HG.out.len) (by simp), HF9.out⟩ | exact ⟨Aft.of (HM9.out.pp HG.out.iv) rfl rfl (HG.out.len) (by simp), HF9.out⟩
        · have hEe : (ke == 0) = false := by simpa using hE
          clear hE
          go_upto_region 14 with fail
          clear hEe
          have HSE : Hid (SqE Zja Zjb ks kg gn0 ke Ujb.drew) := ⟨HKob.out, HKjb.out⟩
          refine wp_region_noPanic ?_
          refine wrl (SqE Zja Zjb ks kg gn0 ke) 17 (by kernel_rfl) ?_
          refine wk 0 104 (i64 gn0) rfl HSE.out (fun W hW => by go_simp) ?_
          simp only [Act.put, sA, sZ, sS]
          refine wk 1 105 (.pointer (some ⟨Zjb, 0, none⟩)) rfl HSE.out (fun W hW => by go_simp) ?_
          simp only [Act.put, sA, sZ, sS]
          refine wk 2 106 (i64 gn0) rfl HSE.out (fun W hW => by have g0 := bkc hW.g 0; go_simp) ?_
          simp only [Act.put, sA, sZ, sS]
          refine wk 3 107 (.bool true) rfl HSE.out (fun W hW => by have q := eqIn81 ks kg ks kg W; simp only [and_self, decide_true] at q; go_simp) ?_
          simp only [Act.put, sA, sZ, sS]
          refine wk 4 108 (.bool true) rfl HSE.out (fun W hW => by go_simp) ?_
          simp only [Act.put, sA, sZ, sS]
          refine wk 5 109 (.agg #[i64 ks, i64 kg]) rfl HSE.out (fun W hW => by have k0 := bkc hW.k 0; have k1 := bkc hW.k 1; go_simp) ?_
          simp only [Act.put, sA, sZ, sS]
          refine wk 7 111 (.pointer (some ⟨Zjb, 1, none⟩)) rfl HSE.out (fun W hW => by go_simp) ?_
          simp only [Act.put, sA, sZ, sS]
          refine wk 8 112 (.agg #[i64 ks, i64 kg]) rfl HSE.out (fun W hW => by have g1 := bkc hW.g 1; have g2 := bkc hW.g 2; go_simp) ?_
          simp only [Act.put, sA, sZ, sS]
          refine wo 6 rfl (fun K hK => ?_)
          go_simp
          refine (ref_ok _ ks kg).mono ?_
          rintro e w94q ⟨rfl, hb⟩
          have HSE2 : Hid (SqE Zja Zjb ks kg gn0 ke w94q) := HSE.out.below hb
          have HM9 := hid (HMjb.out.drew.below hb)
          have HF9 : Hid (Pf base w w94q) := HFjb.out.drewl.trans (Pf.of_below hb HMjb.out.drew.lo)
          clear hb
          go_simp
          refine hK.out _ _ (fun _ => HSE2.out) ?_
          clear hK K
          refine wk 9 113 (.bool true) rfl HSE2.out (fun W hW => by have q := eqIn81 ks kg ks kg W; simp only [and_self, decide_true] at q; go_simp) ?_
          simp only [Act.put, sA, sZ, sS]
          refine wk 10 114 (.bool true) rfl HSE2.out (fun W hW => by go_simp) ?_
          simp only [Act.put, sA, sZ, sS]
          refine wk 11 115 (.bool true) rfl HSE2.out (fun W hW => by go_simp) ?_
          simp only [Act.put, sA, sZ, sS]
          refine wk 12 116 (i64 ke) rfl HSE2.out (fun W hW => by go_simp) ?_
          simp only [Act.put, sA, sZ, sS]
          refine wk 13 117 (.pointer (some ⟨Zjb, 3, none⟩)) rfl HSE2.out (fun W hW => by go_simp) ?_
          simp only [Act.put, sA, sZ, sS]
          refine wk 14 118 (i64 ke) rfl HSE2.out (fun W hW => by have g3 := bkc hW.g 3; go_simp) ?_
          simp only [Act.put, sA, sZ, sS]
          refine wk 15 119 (.bool true) rfl HSE2.out (fun W hW => by have q := eqIn81 ks kg ks kg W; simp only [and_self, decide_true] at q; go_simp) ?_
          simp only [Act.put, sA, sZ, sS]
          refine wk 16 120 (.bool true) rfl HSE2.out (fun W hW => by go_simp) ?_
          simp only [Act.put, sA, sZ, sS]
          refine wo 17 rfl (fun K hK => ?_)
          go_simp
          refine hK.out _ _ (fun h => absurd rfl h) ?_
          clear hK K
          refine wdd ?_
          refine NoPanic.normal ?_
          go_wp2_with fail
          go_ret
          first | exact ⟨by simp, Aft.of (HM9.out.pp HG.out.iv) rfl rfl (HG.out.len) (Nat.le_succ _), HF9.out⟩ | exact ⟨Aft.of (HM9.out.pp HG.out.iv) rfl rfl (HG.out.len) (Nat.le_succ _), HF9.out⟩
end Go.Proofs.Ytnknhencobhjdaa
