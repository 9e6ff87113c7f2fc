/- No statement here. -/
import Derived.Test.YtnknhencobhjdaaMMd2
import Derived.Test.YtnknhencobhjdaaMDb2
set_option maxRecDepth 100000
namespace Go.Proofs.Ytnknhencobhjdaa
open Go.ChangeShapes Go.WideShapes Go.ChangeAt Go.RowKit Go.Deep
open Go.Proofs.Ytnknhencobhjdaa.Cp (pq hid bl1 hO)
attribute [local go_sem ↓] Go.wp_at_zero Go.wp_at_succ
set_option maxHeartbeats 12800000 in
theorem does_share {w : World} {base p : Nat} {z : Px} {t : Qt.T} {s : Qt.St} {T : List Cp.Pl} {L : Ls} {R : Nat → List Hn} {C : List Cp.Rw} {Rs : List Rt} {P : List Int} {H : List Hn} {E : List Int} (h : Pp w base p z t s T L R C Rs P H E) (hcl : C.length ≤ 90) (hhl : H.length ≤ 900) (x : Sb) (hw : x.what = 6 ∨ x.what = 7) : DoesTo w base p z t C H x := by
  unfold DoesTo
  have HWf := hid h.bd.bk.wf
  have HLn := hid h.bd.len
  rcases hw with hw | hw
  all_goals
    have HW := hid hw
    clear hw
    obtain ⟨⟨hs, hg⟩, hpk⟩ : ∃ v, pkH H x = v := ⟨_, rfl⟩
    obtain ⟨ev, hev⟩ : ∃ v, pkE H E x = v := ⟨_, rfl⟩
    have hlo := h.lo
    obtain ⟨V, hV⟩ : ∃ V, V = w.alloc (sbO x) := ⟨_, rfl⟩
    have HV : Hid (w.alloc (.cells #[i64 x.what, i64 x.env, i64 x.kind, i64 x.n, i64 x.tt, i64 x.rts, .bool x.by_, i64 x.q.a, i64 x.q.b, i64 x.q.c] 33) = V) := hV.symm
    have hbV : Below w.heap.size w V := by rw [hV]; exact bl1 w _
    have HX : Hid (V.heap[w.heap.size]? = some (sbO x)) := by rw [hV]; exact hid (hlx w _)
    have HPk := hid (pick_any (h.below hbV).pk (by omega) h.he x hs hg ev hpk hev)
    have HPp := hid (h.below hbV)
    have HBV := hid hbV
    have HIV := hid h.iv
    have HGL : Hid (∀ i, i < 3 → z.x.g i < w.heap.size) := fun i hi => blk_lt (h.bd.rt i hi).1
    have HHL : Hid (∀ g, z.hb = some g → g < w.heap.size) := fun g hg => h.hb_lt hg
    clear h hV hbV hpk hev
    go_enter Try.func12, Try.ntmps12
    go_upto_region 1 with fail
    rw [HV.out]
    go_wp2_with (refine wpList_load_mid rfl 33 (.tmp 3) rfl w.heap.size 0 rfl x.c _ (by exact sbO_range HX.out) Try.underlying33 rfl info33 ?_)
    refine HPk.out.mono ?_
    rintro e w2 ⟨rfl, hb2⟩
    have hB2 : Below w.heap.size w w2 := HBV.out.trans (hb2.mono HBV.out.size)
    have HF3 : Hid (Pf base w (w2.alloc (hO hs hg))) := Pf.of_below (hB2.alloc hB2.size _) hlo
    have HM3 : Hid (Md (w2.alloc (hO hs hg)) base p w.heap.size w2.heap.size z x hs hg t s s T L R C Rs P H E) := by
      have hp := (HPp.out.below hb2).below (bl1 w2 (hO hs hg))
      have hsz := hB2.size
      exact ⟨hp.bd, hp.dd, hp.pk, bka (bkb HX.out hb2) _, hlx w2 _, hp.he, hp.ah, hp.ae, fun i hi e => by have := HGL.out i hi; omega, fun e => by have := HHL.out _ e; omega⟩
    have hYw : w.heap.size ≤ w2.heap.size := hB2.size
    clear hb2 hB2 HPk HPp HBV HX HV HGL HHL V
    go_upto_region 2 with fail
    unfold hO at HF3 HM3
    generalize w2.alloc (.cells #[i64 hs, i64 hg] 43) = W3 at *
    generalize w2.heap.size = Y at *
    have x0 : W3.cell? ⟨w.heap.size, 0, none⟩ = some (i64 x.what) := bkc HM3.out.hx 0
    rw [HW.out] at x0
    go_upto_region 19 with fail
    clear x0
    obtain ⟨ks, kg, ke, s', T', L', R', C', Rs', P', hgv⟩ := both_share (base := base) (b := z.b) (d := z.d) (x := z.x) (y := z.y) HIV.out (by omega) ev hs hg x.tt x.rts
    obtain ⟨gn0, hg0⟩ : ∃ gn0 : Int, (0 : Int) = gn0 := ⟨_, rfl⟩
    rw [hg0] at hgv
    have HG := hid hgv
    clear hgv HWf HLn hg0
    have HS1q := hid HM3.out.drew.sq
    refine wp_region_noPanic ?_
    refine wrl (SqW w.heap.size Y p z.b z.d z.y.kb z.y.kc x hs hg) 16 (by kernel_rfl) ?_
    refine wk 0 143 (.pointer (some ⟨p, 0, none⟩)) rfl HS1q.out (fun W hW => by go_simp) ?_
    simp only [Act.put, sA, sZ, sS]
    refine wk 1 144 (.pointer (some ⟨p, 0, none⟩)) rfl HS1q.out (fun W hW => by go_simp) ?_
    simp only [Act.put, sA, sZ, sS]
    refine wk 2 145 (.pointer (some ⟨p, 0, none⟩)) rfl HS1q.out (fun W hW => by go_simp) ?_
    simp only [Act.put, sA, sZ, sS]
    refine wk 3 146 (.pointer (some ⟨z.b, 0, none⟩)) rfl HS1q.out (fun W hW => by have p0 := hW.p0; go_simp) ?_
    simp only [Act.put, sA, sZ, sS]
    refine wk 4 147 (i64 ev) rfl HS1q.out (fun W hW => by go_simp) ?_
    simp only [Act.put, sA, sZ, sS]
    refine wk 5 148 (.agg #[i64 hs, i64 hg]) rfl HS1q.out (fun W hW => by have y0 := bkc hW.y 0; have y1 := bkc hW.y 1; go_simp) ?_
    simp only [Act.put, sA, sZ, sS]
    refine wk 6 149 (.pointer (some ⟨w.heap.size, 4, none⟩)) rfl HS1q.out (fun W hW => by go_simp) ?_
    simp only [Act.put, sA, sZ, sS]
    refine wk 7 150 (i64 x.tt) rfl HS1q.out (fun W hW => by have x4 := bkc hW.x 4; go_simp) ?_
    simp only [Act.put, sA, sZ, sS]
    refine wk 8 151 (.pointer (some ⟨w.heap.size, 5, none⟩)) rfl HS1q.out (fun W hW => by go_simp) ?_
    simp only [Act.put, sA, sZ, sS]
    refine wk 9 152 (i64 x.rts) rfl HS1q.out (fun W hW => by have x5 := bkc hW.x 5; go_simp) ?_
    simp only [Act.put, sA, sZ, sS]
    refine wpL_two 10 14 rfl rfl (by kernel_rfl) (by rfl) (by rfl) (fun K hK => ?_) (fun K hK => ?_)
    go_simp
    refine (HG.out.p _ HM3.out.drew.bd).mono ?_
    rintro e w2q ⟨rfl, hd, hf⟩
    have HM3q := hid (HM3.out.drew.bf hd hf)
    have HF4q : Hid (Pf base w w2q) := (HF3.out.drewl).trans (HM3.out.drew.bd.pf hf)
    have HS5q := hid HM3q.out.sq
    clear hd hf
    go_simp
    refine hK.out _ _ (fun _ => HS5q.out) ?_
    clear hK K
    refine wk 11 142 (.tuple #[.agg #[i64 ks, i64 kg], i64 ke]) rfl HS5q.out (fun W hW => by go_simp) ?_
    simp only [Act.put, sA, sZ, sS]
    refine wk 12 154 (.agg #[i64 ks, i64 kg]) rfl HS5q.out (fun W hW => by go_simp) ?_
    simp only [Act.put, sA, sZ, sS]
    refine wk 13 155 (i64 ke) rfl HS5q.out (fun W hW => by go_simp) ?_
    simp only [Act.put, sA, sZ, sS]
    refine wo 14 rfl (fun K hK => ?_)
    go_simp
    refine hK.out _ _ (fun _ => HS5q.out.below (bl1 w2q _)) ?_
    clear hK K
    have HM8q := hid ((HM3q.out.below (bl1 w2q (hO 0 0))))
    have HF9q : Hid (Pf base w (w2q.alloc (hO 0 0))) := (HF4q.out.trans (Pf.of_below (bl1 w2q _) HM3q.out.lo))
    have HK10q : Hid ((w2q.alloc (hO 0 0)).heap[w2q.heap.size]? = some (hO 0 0)) := hlx w2q _
    have hz16q : w.heap.size ≤ w2q.heap.size := HF4q.out.below.size
    have hx14q : w.heap.size < w2q.heap.size := blk_lt HM3q.out.hx
    have hy15q : Y < w2q.heap.size := blk_lt HM3q.out.hy
    have HZg12q : Hid (∀ i, i < 3 → w2q.heap.size ≠ z.x.g i) := fun i hi e => by have h9 : z.x.g i < w2q.heap.size := blk_lt (HM3q.out.bd.rt i hi).1; omega
    have HZh13q : Hid (z.hb ≠ some w2q.heap.size) := fun e => by have h9 : w2q.heap.size < w2q.heap.size := HM3q.out.hb_lt e; omega
    clear HM3q HF4q HS5q
    unfold hO at HM8q HF9q HK10q
    generalize (w2q.alloc (.cells #[i64 0, i64 0] 43)) = V6q at *
    generalize w2q.heap.size = Z7q at *
    have HS11q := hid HM8q.out.sq
    refine wo 15 rfl (fun K hK => ?_)
    have z0 : V6q.cell? ⟨Z7q, 0, none⟩ = some (i64 0) := bkc HK10q.out 0
    have z1 : V6q.cell? ⟨Z7q, 1, none⟩ = some (i64 0) := bkc HK10q.out 1
    have zf : ∀ j, V6q.frozen? ⟨Z7q, j, none⟩ = false := bkf HK10q.out
    have HM18q := hid (HM8q.out.touch (W' := ((V6q.setCell ⟨Z7q, 0, none⟩ (i64 ks)).setCell ⟨Z7q, 1, none⟩ (i64 kg))) HK10q.out (Or.inl ⟨rfl, by omega, HZg12q.out, HZh13q.out⟩) (ne2 _ _ _ _))
    have HF19q : Hid (Pf base w ((V6q.setCell ⟨Z7q, 0, none⟩ (i64 ks)).setCell ⟨Z7q, 1, none⟩ (i64 kg))) := HF9q.out.set2 hlo (by omega) _ _
    have HK20q : Hid (((V6q.setCell ⟨Z7q, 0, none⟩ (i64 ks)).setCell ⟨Z7q, 1, none⟩ (i64 kg)).heap[Z7q]? = some (hO ks kg)) := Cp.set2 HK10q.out _ _
    have HS21q := hid HM18q.out.sq
    go_simp
    refine hK.out _ _ (fun _ => HS21q.out) ?_
    clear hK K
    clear HM8q HF9q HS11q HK10q z0 z1 zf
    generalize ((V6q.setCell ⟨Z7q, 0, none⟩ (i64 ks)).setCell ⟨Z7q, 1, none⟩ (i64 kg)) = U17q at *
    refine wo 16 rfl (fun K hK => ?_)
    go_simp
    refine hK.out _ _ (fun h => absurd rfl h) ?_
    clear hK K
    refine wdd ?_
    refine NoPanic.normal ?_
    have HMja := HM18q
    have HFja := HF19q
    have HKja := HK20q
    have hzja : w.heap.size ≤ Z7q := by omega
    have HZgja := HZg12q
    have HZhja := HZh13q
    clear HM18q HF19q HS21q HK20q HZg12q HZh13q
    generalize U17q = Uja at *
    generalize Z7q = Zja at *
    rotate_left
    go_simp
    refine hK.out _ _ (fun _ => HS1q.out.below (bl1 W3.drew _)) ?_
    clear hK K
    have HM24q := hid ((HM3.out.below (bl1 W3 (hO 0 0))).drew)
    have HF25q : Hid (Pf base w (W3.alloc (hO 0 0)).drew) := (HF3.out.trans (Pf.of_below (bl1 W3 _) HM3.out.lo)).drewl
    have HK26q : Hid ((W3.alloc (hO 0 0)).drew.heap[W3.heap.size]? = some (hO 0 0)) := hlx W3 _
    have hz32q : w.heap.size ≤ W3.heap.size := HF3.out.below.size
    have hx30q : w.heap.size < W3.heap.size := blk_lt HM3.out.hx
    have hy31q : Y < W3.heap.size := blk_lt HM3.out.hy
    have HZg28q : Hid (∀ i, i < 3 → W3.heap.size ≠ z.x.g i) := fun i hi e => by have h9 : z.x.g i < W3.heap.size := blk_lt (HM3.out.bd.rt i hi).1; omega
    have HZh29q : Hid (z.hb ≠ some W3.heap.size) := fun e => by have h9 : W3.heap.size < W3.heap.size := HM3.out.hb_lt e; omega
    clear HM3 HF3 HS1q
    unfold hO at HM24q HF25q HK26q
    generalize (W3.alloc (.cells #[i64 0, i64 0] 43)).drew = V22q at *
    generalize W3.heap.size = Z23q at *
    have HS27q := hid HM24q.out.sq
    refine wo 10 rfl (fun K hK => ?_)
    go_simp
    refine (HG.out.p _ HM24q.out.bd).mono ?_
    rintro e w33q ⟨rfl, hd, hf⟩
    have HM34q := hid (HM24q.out.bf hd hf)
    have HF35q : Hid (Pf base w w33q) := (HF25q.out).trans (HM24q.out.bd.pf hf)
    have HK37q : Hid (w33q.heap[Z23q]? = some (hO 0 0)) := HM24q.out.bd.kt hf HK26q.out (by decide) (by decide) (by decide) (Or.inr HZg28q.out)
    have HS36q := hid HM34q.out.sq
    clear hd hf
    go_simp
    refine hK.out _ _ (fun _ => HS36q.out) ?_
    clear hK K
    refine wk 11 142 (.tuple #[.agg #[i64 ks, i64 kg], i64 ke]) rfl HS36q.out (fun W hW => by go_simp) ?_
    simp only [Act.put, sA, sZ, sS]
    refine wk 12 154 (.agg #[i64 ks, i64 kg]) rfl HS36q.out (fun W hW => by go_simp) ?_
    simp only [Act.put, sA, sZ, sS]
    refine wk 13 155 (i64 ke) rfl HS36q.out (fun W hW => by go_simp) ?_
    simp only [Act.put, sA, sZ, sS]
    refine wo 15 rfl (fun K hK => ?_)
    have z0 : w33q.cell? ⟨Z23q, 0, none⟩ = some (i64 0) := bkc HK37q.out 0
    have z1 : w33q.cell? ⟨Z23q, 1, none⟩ = some (i64 0) := bkc HK37q.out 1
    have zf : ∀ j, w33q.frozen? ⟨Z23q, j, none⟩ = false := bkf HK37q.out
    have HM39q := hid (HM34q.out.touch (W' := ((w33q.setCell ⟨Z23q, 0, none⟩ (i64 ks)).setCell ⟨Z23q, 1, none⟩ (i64 kg))) HK37q.out (Or.inl ⟨rfl, by omega, HZg28q.out, HZh29q.out⟩) (ne2 _ _ _ _))
    have HF40q : Hid (Pf base w ((w33q.setCell ⟨Z23q, 0, none⟩ (i64 ks)).setCell ⟨Z23q, 1, none⟩ (i64 kg))) := HF35q.out.set2 hlo (by omega) _ _
    have HK41q : Hid (((w33q.setCell ⟨Z23q, 0, none⟩ (i64 ks)).setCell ⟨Z23q, 1, none⟩ (i64 kg)).heap[Z23q]? = some (hO ks kg)) := Cp.set2 HK37q.out _ _
    have HS42q := hid HM39q.out.sq
    go_simp
    refine hK.out _ _ (fun _ => HS42q.out) ?_
    clear hK K
    clear HM34q HF35q HS36q HK37q z0 z1 zf
    generalize ((w33q.setCell ⟨Z23q, 0, none⟩ (i64 ks)).setCell ⟨Z23q, 1, none⟩ (i64 kg)) = U38q at *
    refine wo 16 rfl (fun K hK => ?_)
    go_simp
    refine hK.out _ _ (fun h => absurd rfl h) ?_
    clear hK K
    refine wdd ?_
    refine NoPanic.normal ?_
    have HMja := HM39q
    have HFja := HF40q
    have HKja := HK41q
    have hzja : w.heap.size ≤ Z23q := by omega
    have HZgja := HZg28q
    have HZhja := HZh29q
    clear HM39q HF40q HS42q HK41q HZg28q HZh29q
    generalize U38q = Uja at *
    generalize Z23q = Zja at *
    all_goals
      go_upto_region 20 with fail
      have HS43q := hid HMja.out.drew.sq
      refine wp_region_noPanic ?_
      refine wrl (SqW w.heap.size Y p z.b z.d z.y.kb z.y.kc x hs hg) 14 (by kernel_rfl) ?_
      refine wk 0 156 (.pointer (some ⟨p, 0, none⟩)) rfl HS43q.out (fun W hW => by go_simp) ?_
      simp only [Act.put, sA, sZ, sS]
      refine wk 1 157 (.pointer (some ⟨p, 0, none⟩)) rfl HS43q.out (fun W hW => by go_simp) ?_
      simp only [Act.put, sA, sZ, sS]
      refine wk 2 158 (.pointer (some ⟨p, 1, none⟩)) rfl HS43q.out (fun W hW => by go_simp) ?_
      simp only [Act.put, sA, sZ, sS]
      refine wk 3 159 (.pointer (some ⟨z.d, 0, none⟩)) rfl HS43q.out (fun W hW => by have p1 := hW.p1; go_simp) ?_
      simp only [Act.put, sA, sZ, sS]
      refine wk 4 160 (i64 ev) rfl HS43q.out (fun W hW => by go_simp) ?_
      simp only [Act.put, sA, sZ, sS]
      refine wk 5 161 (.agg #[i64 hs, i64 hg]) rfl HS43q.out (fun W hW => by have y0 := bkc hW.y 0; have y1 := bkc hW.y 1; go_simp) ?_
      simp only [Act.put, sA, sZ, sS]
      refine wk 7 163 (.pointer (some ⟨w.heap.size, 4, none⟩)) rfl HS43q.out (fun W hW => by go_simp) ?_
      simp only [Act.put, sA, sZ, sS]
      refine wk 8 164 (i64 x.tt) rfl HS43q.out (fun W hW => by have x4 := bkc hW.x 4; go_simp) ?_
      simp only [Act.put, sA, sZ, sS]
      refine wk 9 165 (.pointer (some ⟨w.heap.size, 5, none⟩)) rfl HS43q.out (fun W hW => by go_simp) ?_
      simp only [Act.put, sA, sZ, sS]
      refine wk 10 166 (i64 x.rts) rfl HS43q.out (fun W hW => by have x5 := bkc hW.x 5; go_simp) ?_
      simp only [Act.put, sA, sZ, sS]
      refine wk 11 167 (.agg #[i64 x.tt, i64 x.rts]) rfl HS43q.out (fun W hW => by go_simp) ?_
      simp only [Act.put, sA, sZ, sS]
      refine wpL_two 6 13 rfl rfl (by kernel_rfl) (by rfl) (by rfl) (fun K hK => ?_) (fun K hK => ?_)
      go_simp
      refine (ref_ok _ hs hg).mono ?_
      rintro e w44q ⟨rfl, hb⟩
      have HM45q := hid (HMja.out.drew.below hb)
      have HF46q : Hid (Pf base w w44q) := (HFja.out.drewl).trans (Pf.of_below hb HMja.out.drew.lo)
      have HK48q : Hid (w44q.heap[Zja]? = some (hO ks kg)) := bkb (w := Uja.drew) HKja.out hb
      have HS47q := hid HM45q.out.sq
      clear hb
      go_simp
      refine hK.out _ _ (fun _ => HS47q.out) ?_
      clear hK K
      refine wpL_two 12 13 rfl rfl (by kernel_rfl) (by rfl) (by rfl) (fun K hK => ?_) (fun K hK => ?_)
      go_simp
      refine (HG.out.r _ HM45q.out.dd).mono ?_
      rintro e w49q ⟨rfl, pb', hp, hd, hf⟩
      have HM50q := hid (HM45q.out.df hp hd hf)
      have HF51q : Hid (Pf base w w49q) := (HF46q.out).trans (HM45q.out.dd.pf hf)
      have HK53q : Hid (w49q.heap[Zja]? = some (hO ks kg)) := HM45q.out.dd.kt hf HK48q.out (by decide) (by decide) (by decide) (by decide) (by decide) (by decide) (Or.inl (by decide))
      have HS52q := hid HM50q.out.sq
      clear hp hd hf
      go_simp
      refine hK.out _ _ (fun _ => HS52q.out) ?_
      clear hK K
      refine wo 13 rfl (fun K hK => ?_)
      go_simp
      refine hK.out _ _ (fun _ => HS52q.out.below (bl1 w49q _)) ?_
      clear hK K
      have HM56q := hid ((HM50q.out.below (bl1 w49q (gtO 0 0 0 0))))
      have HF57q : Hid (Pf base w (w49q.alloc (gtO 0 0 0 0))) := (HF51q.out.trans (Pf.of_below (bl1 w49q _) HM50q.out.lo))
      have HK58q : Hid ((w49q.alloc (gtO 0 0 0 0)).heap[w49q.heap.size]? = some (gtO 0 0 0 0)) := hlx w49q _
      have hz64q : w.heap.size ≤ w49q.heap.size := HF51q.out.below.size
      have hx62q : w.heap.size < w49q.heap.size := blk_lt HM50q.out.hx
      have hy63q : Y < w49q.heap.size := blk_lt HM50q.out.hy
      have HZg60q : Hid (∀ i, i < 3 → w49q.heap.size ≠ z.x.g i) := fun i hi e => by have h9 : z.x.g i < w49q.heap.size := blk_lt (HM50q.out.bd.rt i hi).1; omega
      have HZh61q : Hid (z.hb ≠ some w49q.heap.size) := fun e => by have h9 : w49q.heap.size < w49q.heap.size := HM50q.out.hb_lt e; omega
      have HK65q : Hid ((w49q.alloc (gtO 0 0 0 0)).heap[Zja]? = some (hO ks kg)) := bka HK53q.out _
      have hl66q : Zja < w49q.heap.size := blk_lt HK53q.out
      clear HM50q HF51q HS52q HK53q
      unfold gtO at HM56q HF57q HK58q
      unfold gtO hO at HK65q
      generalize (w49q.alloc (.cells #[i64 0, i64 0, i64 0, i64 0] 83)) = V54q at *
      generalize w49q.heap.size = Z55q at *
      have HS59q := hid HM56q.out.sq
      refine wo 14 rfl (fun K hK => ?_)
      have z0 : V54q.cell? ⟨Z55q, 0, none⟩ = some (i64 0) := bkc HK58q.out 0
      have z1 : V54q.cell? ⟨Z55q, 1, none⟩ = some (i64 0) := bkc HK58q.out 1
      have z2 : V54q.cell? ⟨Z55q, 2, none⟩ = some (i64 0) := bkc HK58q.out 2
      have z3 : V54q.cell? ⟨Z55q, 3, none⟩ = some (i64 0) := bkc HK58q.out 3
      have zf : ∀ j, V54q.frozen? ⟨Z55q, j, none⟩ = false := bkf HK58q.out
      have HM68q := hid (HM56q.out.touch (W' := ((((V54q.setCell ⟨Z55q, 0, none⟩ (i64 gn0)).setCell ⟨Z55q, 1, none⟩ (i64 ks)).setCell ⟨Z55q, 2, none⟩ (i64 kg)).setCell ⟨Z55q, 3, none⟩ (i64 ke))) HK58q.out (Or.inr rfl) (ne4 _ _ _ _ _ _))
      have HF69q : Hid (Pf base w ((((V54q.setCell ⟨Z55q, 0, none⟩ (i64 gn0)).setCell ⟨Z55q, 1, none⟩ (i64 ks)).setCell ⟨Z55q, 2, none⟩ (i64 kg)).setCell ⟨Z55q, 3, none⟩ (i64 ke))) := HF57q.out.set4 hlo (by omega) _ _ _ _
      have HK70q : Hid (((((V54q.setCell ⟨Z55q, 0, none⟩ (i64 gn0)).setCell ⟨Z55q, 1, none⟩ (i64 ks)).setCell ⟨Z55q, 2, none⟩ (i64 kg)).setCell ⟨Z55q, 3, none⟩ (i64 ke)).heap[Z55q]? = some (gtO gn0 ks kg ke)) := set83 HK58q.out gn0 ks kg ke
      have HK72q : Hid (((((V54q.setCell ⟨Z55q, 0, none⟩ (i64 gn0)).setCell ⟨Z55q, 1, none⟩ (i64 ks)).setCell ⟨Z55q, 2, none⟩ (i64 kg)).setCell ⟨Z55q, 3, none⟩ (i64 ke)).heap[Zja]? = some (hO ks kg)) := (ne4 _ _ _ _ _ _ _ (by omega)).trans HK65q.out
      have HS71q := hid HM68q.out.sq
      go_simp
      refine hK.out _ _ (fun h => absurd rfl h) ?_
      clear hK K
      refine wdd ?_
      refine NoPanic.normal ?_
      clear HM56q HF57q HS59q HK65q HK58q z0 z1 z2 z3 zf
      generalize ((((V54q.setCell ⟨Z55q, 0, none⟩ (i64 gn0)).setCell ⟨Z55q, 1, none⟩ (i64 ks)).setCell ⟨Z55q, 2, none⟩ (i64 kg)).setCell ⟨Z55q, 3, none⟩ (i64 ke)) = U67q at *
      have HMjb := HM68q
      have HFjb := HF69q
      have HKjb := HK70q
      have hzjb : w.heap.size ≤ Z55q := by omega
      have HZgjb := HZg60q
      have HZhjb := HZh61q
      have HKob := HK72q
      clear HM68q HF69q HS71q HK70q HZg60q HZh61q HK72q
      generalize U67q = Ujb at *
      generalize Z55q = Zjb at *
      rotate_left
      go_simp
      refine hK.out _ _ (fun _ => HS47q.out.below (bl1 w44q _)) ?_
      clear hK K
      have HM75q := hid ((HM45q.out.below (bl1 w44q (gtO 0 0 0 0))))
      have HF76q : Hid (Pf base w (w44q.alloc (gtO 0 0 0 0))) := (HF46q.out.trans (Pf.of_below (bl1 w44q _) HM45q.out.lo))
      have HK77q : Hid ((w44q.alloc (gtO 0 0 0 0)).heap[w44q.heap.size]? = some (gtO 0 0 0 0)) := hlx w44q _
      have hz83q : w.heap.size ≤ w44q.heap.size := HF46q.out.below.size
      have hx81q : w.heap.size < w44q.heap.size := blk_lt HM45q.out.hx
      have hy82q : Y < w44q.heap.size := blk_lt HM45q.out.hy
      have HZg79q : Hid (∀ i, i < 3 → w44q.heap.size ≠ z.x.g i) := fun i hi e => by have h9 : z.x.g i < w44q.heap.size := blk_lt (HM45q.out.bd.rt i hi).1; omega
      have HZh80q : Hid (z.hb ≠ some w44q.heap.size) := fun e => by have h9 : w44q.heap.size < w44q.heap.size := HM45q.out.hb_lt e; omega
      have HK84q : Hid ((w44q.alloc (gtO 0 0 0 0)).heap[Zja]? = some (hO ks kg)) := bka HK48q.out _
      have hl85q : Zja < w44q.heap.size := blk_lt HK48q.out
      clear HM45q HF46q HS47q HK48q
      unfold gtO at HM75q HF76q HK77q
      unfold gtO hO at HK84q
      generalize (w44q.alloc (.cells #[i64 0, i64 0, i64 0, i64 0] 83)) = V73q at *
      generalize w44q.heap.size = Z74q at *
      have HS78q := hid HM75q.out.sq
      refine wo 12 rfl (fun K hK => ?_)
      go_simp
      refine (HG.out.r _ HM75q.out.dd).mono ?_
      rintro e w86q ⟨rfl, pb', hp, hd, hf⟩
      have HM87q := hid (HM75q.out.df hp hd hf)
      have HF88q : Hid (Pf base w w86q) := (HF76q.out).trans (HM75q.out.dd.pf hf)
      have HK90q : Hid (w86q.heap[Zja]? = some (hO ks kg)) := HM75q.out.dd.kt hf HK84q.out (by decide) (by decide) (by decide) (by decide) (by decide) (by decide) (Or.inl (by decide))
      have HK91q : Hid (w86q.heap[Z74q]? = some (gtO 0 0 0 0)) := HM75q.out.dd.kt hf HK77q.out (by decide) (by decide) (by decide) (by decide) (by decide) (by decide) (Or.inl (by decide))
      have HS89q := hid HM87q.out.sq
      clear hp hd hf
      go_simp
      refine hK.out _ _ (fun _ => HS89q.out) ?_
      clear hK K
      refine wo 14 rfl (fun K hK => ?_)
      have z0 : w86q.cell? ⟨Z74q, 0, none⟩ = some (i64 0) := bkc HK91q.out 0
      have z1 : w86q.cell? ⟨Z74q, 1, none⟩ = some (i64 0) := bkc HK91q.out 1
      have z2 : w86q.cell? ⟨Z74q, 2, none⟩ = some (i64 0) := bkc HK91q.out 2
      have z3 : w86q.cell? ⟨Z74q, 3, none⟩ = some (i64 0) := bkc HK91q.out 3
      have zf : ∀ j, w86q.frozen? ⟨Z74q, j, none⟩ = false := bkf HK91q.out
      have HM93q := hid (HM87q.out.touch (W' := ((((w86q.setCell ⟨Z74q, 0, none⟩ (i64 gn0)).setCell ⟨Z74q, 1, none⟩ (i64 ks)).setCell ⟨Z74q, 2, none⟩ (i64 kg)).setCell ⟨Z74q, 3, none⟩ (i64 ke))) HK91q.out (Or.inr rfl) (ne4 _ _ _ _ _ _))
      have HF94q : Hid (Pf base w ((((w86q.setCell ⟨Z74q, 0, none⟩ (i64 gn0)).setCell ⟨Z74q, 1, none⟩ (i64 ks)).setCell ⟨Z74q, 2, none⟩ (i64 kg)).setCell ⟨Z74q, 3, none⟩ (i64 ke))) := HF88q.out.set4 hlo (by omega) _ _ _ _
      have HK95q : Hid (((((w86q.setCell ⟨Z74q, 0, none⟩ (i64 gn0)).setCell ⟨Z74q, 1, none⟩ (i64 ks)).setCell ⟨Z74q, 2, none⟩ (i64 kg)).setCell ⟨Z74q, 3, none⟩ (i64 ke)).heap[Z74q]? = some (gtO gn0 ks kg ke)) := set83 HK91q.out gn0 ks kg ke
      have HK97q : Hid (((((w86q.setCell ⟨Z74q, 0, none⟩ (i64 gn0)).setCell ⟨Z74q, 1, none⟩ (i64 ks)).setCell ⟨Z74q, 2, none⟩ (i64 kg)).setCell ⟨Z74q, 3, none⟩ (i64 ke)).heap[Zja]? = some (hO ks kg)) := (ne4 _ _ _ _ _ _ _ (by omega)).trans HK90q.out
      have HS96q := hid HM93q.out.sq
      go_simp
      refine hK.out _ _ (fun h => absurd rfl h) ?_
      clear hK K
      refine wdd ?_
      refine NoPanic.normal ?_
      clear HM87q HF88q HS89q HK90q HK91q z0 z1 z2 z3 zf
      generalize ((((w86q.setCell ⟨Z74q, 0, none⟩ (i64 gn0)).setCell ⟨Z74q, 1, none⟩ (i64 ks)).setCell ⟨Z74q, 2, none⟩ (i64 kg)).setCell ⟨Z74q, 3, none⟩ (i64 ke)) = U92q at *
      have HMjb := HM93q
      have HFjb := HF94q
      have HKjb := HK95q
      have hzjb : w.heap.size ≤ Z74q := by omega
      have HZgjb := HZg79q
      have HZhjb := HZh80q
      have HKob := HK97q
      clear HM93q HF94q HS96q HK95q HZg79q HZh80q HK97q
      generalize U92q = Ujb at *
      generalize Z74q = Zjb at *
      rotate_left
      go_simp
      refine hK.out _ _ (fun _ => HS43q.out.below (bl1 Uja.drew _)) ?_
      clear hK K
      have HM100q := hid ((HMja.out.below (bl1 Uja (gtO 0 0 0 0))).drew)
      have HF101q : Hid (Pf base w (Uja.alloc (gtO 0 0 0 0)).drew) := (HFja.out.trans (Pf.of_below (bl1 Uja _) HMja.out.lo)).drewl
      have HK102q : Hid ((Uja.alloc (gtO 0 0 0 0)).drew.heap[Uja.heap.size]? = some (gtO 0 0 0 0)) := hlx Uja _
      have hz108q : w.heap.size ≤ Uja.heap.size := HFja.out.below.size
      have hx106q : w.heap.size < Uja.heap.size := blk_lt HMja.out.hx
      have hy107q : Y < Uja.heap.size := blk_lt HMja.out.hy
      have HZg104q : Hid (∀ i, i < 3 → Uja.heap.size ≠ z.x.g i) := fun i hi e => by have h9 : z.x.g i < Uja.heap.size := blk_lt (HMja.out.bd.rt i hi).1; omega
      have HZh105q : Hid (z.hb ≠ some Uja.heap.size) := fun e => by have h9 : Uja.heap.size < Uja.heap.size := HMja.out.hb_lt e; omega
      have HK109q : Hid ((Uja.alloc (gtO 0 0 0 0)).drew.heap[Zja]? = some (hO ks kg)) := bka HKja.out _
      have hl110q : Zja < Uja.heap.size := blk_lt HKja.out
      clear HMja HFja HS43q HKja
      unfold gtO at HM100q HF101q HK102q
      unfold gtO hO at HK109q
      generalize (Uja.alloc (.cells #[i64 0, i64 0, i64 0, i64 0] 83)).drew = V98q at *
      generalize Uja.heap.size = Z99q at *
      have HS103q := hid HM100q.out.sq
      refine wo 6 rfl (fun K hK => ?_)
      go_simp
      refine (ref_ok _ hs hg).mono ?_
      rintro e w111q ⟨rfl, hb⟩
      have HM112q := hid (HM100q.out.below hb)
      have HF113q : Hid (Pf base w w111q) := (HF101q.out).trans (Pf.of_below hb HM100q.out.lo)
      have HK115q : Hid (w111q.heap[Zja]? = some (hO ks kg)) := bkb (w := V98q) HK109q.out hb
      have HK116q : Hid (w111q.heap[Z99q]? = some (gtO 0 0 0 0)) := bkb (w := V98q) HK102q.out hb
      have HS114q := hid HM112q.out.sq
      clear hb
      go_simp
      refine hK.out _ _ (fun _ => HS114q.out) ?_
      clear hK K
      refine wo 12 rfl (fun K hK => ?_)
      go_simp
      refine (HG.out.r _ HM112q.out.dd).mono ?_
      rintro e w117q ⟨rfl, pb', hp, hd, hf⟩
      have HM118q := hid (HM112q.out.df hp hd hf)
      have HF119q : Hid (Pf base w w117q) := (HF113q.out).trans (HM112q.out.dd.pf hf)
      have HK121q : Hid (w117q.heap[Zja]? = some (hO ks kg)) := HM112q.out.dd.kt hf HK115q.out (by decide) (by decide) (by decide) (by decide) (by decide) (by decide) (Or.inl (by decide))
      have HK122q : Hid (w117q.heap[Z99q]? = some (gtO 0 0 0 0)) := HM112q.out.dd.kt hf HK116q.out (by decide) (by decide) (by decide) (by decide) (by decide) (by decide) (Or.inl (by decide))
      have HS120q := hid HM118q.out.sq
      clear hp hd hf
      go_simp
      refine hK.out _ _ (fun _ => HS120q.out) ?_
      clear hK K
      refine wo 14 rfl (fun K hK => ?_)
      have z0 : w117q.cell? ⟨Z99q, 0, none⟩ = some (i64 0) := bkc HK122q.out 0
      have z1 : w117q.cell? ⟨Z99q, 1, none⟩ = some (i64 0) := bkc HK122q.out 1
      have z2 : w117q.cell? ⟨Z99q, 2, none⟩ = some (i64 0) := bkc HK122q.out 2
      have z3 : w117q.cell? ⟨Z99q, 3, none⟩ = some (i64 0) := bkc HK122q.out 3
      have zf : ∀ j, w117q.frozen? ⟨Z99q, j, none⟩ = false := bkf HK122q.out
      have HM124q := hid (HM118q.out.touch (W' := ((((w117q.setCell ⟨Z99q, 0, none⟩ (i64 gn0)).setCell ⟨Z99q, 1, none⟩ (i64 ks)).setCell ⟨Z99q, 2, none⟩ (i64 kg)).setCell ⟨Z99q, 3, none⟩ (i64 ke))) HK122q.out (Or.inr rfl) (ne4 _ _ _ _ _ _))
      have HF125q : Hid (Pf base w ((((w117q.setCell ⟨Z99q, 0, none⟩ (i64 gn0)).setCell ⟨Z99q, 1, none⟩ (i64 ks)).setCell ⟨Z99q, 2, none⟩ (i64 kg)).setCell ⟨Z99q, 3, none⟩ (i64 ke))) := HF119q.out.set4 hlo (by omega) _ _ _ _
      have HK126q : Hid (((((w117q.setCell ⟨Z99q, 0, none⟩ (i64 gn0)).setCell ⟨Z99q, 1, none⟩ (i64 ks)).setCell ⟨Z99q, 2, none⟩ (i64 kg)).setCell ⟨Z99q, 3, none⟩ (i64 ke)).heap[Z99q]? = some (gtO gn0 ks kg ke)) := set83 HK122q.out gn0 ks kg ke
      have HK128q : Hid (((((w117q.setCell ⟨Z99q, 0, none⟩ (i64 gn0)).setCell ⟨Z99q, 1, none⟩ (i64 ks)).setCell ⟨Z99q, 2, none⟩ (i64 kg)).setCell ⟨Z99q, 3, none⟩ (i64 ke)).heap[Zja]? = some (hO ks kg)) := (ne4 _ _ _ _ _ _ _ (by omega)).trans HK121q.out
      have HS127q := hid HM124q.out.sq
      go_simp
      refine hK.out _ _ (fun h => absurd rfl h) ?_
      clear hK K
      refine wdd ?_
      refine NoPanic.normal ?_
      clear HM118q HF119q HS120q HK121q HK122q z0 z1 z2 z3 zf
      generalize ((((w117q.setCell ⟨Z99q, 0, none⟩ (i64 gn0)).setCell ⟨Z99q, 1, none⟩ (i64 ks)).setCell ⟨Z99q, 2, none⟩ (i64 kg)).setCell ⟨Z99q, 3, none⟩ (i64 ke)) = U123q at *
      have HMjb := HM124q
      have HFjb := HF125q
      have HKjb := HK126q
      have hzjb : w.heap.size ≤ Z99q := by omega
      have HZgjb := HZg104q
      have HZhjb := HZh105q
      have HKob := HK128q
      clear HM124q HF125q HS127q HK126q HZg104q HZh105q HK128q
      generalize U123q = Ujb at *
      generalize Z99q = Zjb at *
      all_goals
        by_cases hE : ke = 0
        · have hEe : (ke == 0) = true := by simpa using hE
          have k0 : Ujb.cell? ⟨Zja, 0, none⟩ = some (i64 ks) := bkc HKob.out 0
          have k1 : Ujb.cell? ⟨Zja, 1, none⟩ = some (i64 kg) := bkc HKob.out 1
          have xe : Ujb.cell? ⟨w.heap.size, 4, none⟩ = some (i64 x.tt) := bkc HMjb.out.hx 4
          have HGI := hid (given_ok HMjb.out.pk (by omega) HMjb.out.he ks kg x.tt)
          have hZk : w.heap.size ≤ Zja := by omega
          clear hE
          go_wp2_with fail
          refine HGI.out.mono ?_
          rintro e w8 ⟨rfl, hb', eb', hp1, hp2, hk8, hf8⟩
          have HM8 := hid (HMjb.out.gf hp1 hp2 hk8 (by simp [HMjb.out.he]) hf8)
          have HF8 : Hid (Pf base w w8) := HFjb.out.trans (HMjb.out.pk.pf hf8)
          have HK8 : Hid (w8.heap[Zja]? = some (hO ks kg)) := by
            obtain ⟨e1, e2, e3⟩ := HMjb.out.pk.other HKob.out (by simp) (Or.inr (fun e => HZhja.out e.symm)) (Or.inl (by simp))
            exact hf8.kept _ _ HKob.out e1 e2 e3
          have HG8 : Hid (w8.heap[Zjb]? = some (gtO gn0 ks kg ke)) := by
            obtain ⟨e1, e2, e3⟩ := HMjb.out.pk.other HKjb.out (by simp) (Or.inl (by simp)) (Or.inl (by simp))
            exact hf8.kept _ _ HKjb.out e1 e2 e3
          clear hp1 hp2 hk8 hf8 HGI k0 k1 xe hEe HMjb HFjb HKob HKjb
          go_upto_region 23 with fail
          have HSE : Hid (SqE Zja Zjb ks kg gn0 ke w8.drew) := ⟨HK8.out, HG8.out⟩
          refine wp_region_noPanic ?_
          refine wrl (SqE Zja Zjb ks kg gn0 ke) 11 (by kernel_rfl) ?_
          refine wk 0 176 (.agg #[i64 ks, i64 kg]) rfl HSE.out (fun W hW => by have k0 := bkc hW.k 0; have k1 := bkc hW.k 1; go_simp) ?_
          simp only [Act.put, sA, sZ, sS]
          refine wk 2 178 (.pointer (some ⟨Zjb, 1, none⟩)) rfl HSE.out (fun W hW => by go_simp) ?_
          simp only [Act.put, sA, sZ, sS]
          refine wk 3 179 (.agg #[i64 ks, i64 kg]) rfl HSE.out (fun W hW => by have g1 := bkc hW.g 1; have g2 := bkc hW.g 2; go_simp) ?_
          simp only [Act.put, sA, sZ, sS]
          refine wo 1 rfl (fun K hK => ?_)
          go_simp
          refine (ref_ok _ ks kg).mono ?_
          rintro e w129q ⟨rfl, hb⟩
          have HSE2 : Hid (SqE Zja Zjb ks kg gn0 ke w129q) := HSE.out.below hb
          have HM9 := hid (HM8.out.drew.below hb)
          have HF9 : Hid (Pf base w w129q) := HF8.out.drewl.trans (Pf.of_below hb HM8.out.drew.lo)
          clear hb
          go_simp
          refine hK.out _ _ (fun _ => HSE2.out) ?_
          clear hK K
          refine wk 4 180 (.bool true) rfl HSE2.out (fun W hW => by have q := eqIn81 ks kg ks kg W; simp only [and_self, decide_true] at q; go_simp) ?_
          simp only [Act.put, sA, sZ, sS]
          refine wk 5 181 (.bool true) rfl HSE2.out (fun W hW => by go_simp) ?_
          simp only [Act.put, sA, sZ, sS]
          refine wk 6 182 (i64 ke) rfl HSE2.out (fun W hW => by go_simp) ?_
          simp only [Act.put, sA, sZ, sS]
          refine wk 7 183 (.pointer (some ⟨Zjb, 3, none⟩)) rfl HSE2.out (fun W hW => by go_simp) ?_
          simp only [Act.put, sA, sZ, sS]
          refine wk 8 184 (i64 ke) rfl HSE2.out (fun W hW => by have g3 := bkc hW.g 3; go_simp) ?_
          simp only [Act.put, sA, sZ, sS]
          refine wk 9 185 (.bool true) rfl HSE2.out (fun W hW => by have q := eqIn81 ks kg ks kg W; simp only [and_self, decide_true] at q; go_simp) ?_
          simp only [Act.put, sA, sZ, sS]
          refine wk 10 186 (.bool true) rfl HSE2.out (fun W hW => by go_simp) ?_
          simp only [Act.put, sA, sZ, sS]
          refine wo 11 rfl (fun K hK => ?_)
          go_simp
          refine hK.out _ _ (fun h => absurd rfl h) ?_
          clear hK K
          refine wdd ?_
          refine NoPanic.normal ?_
          go_wp2_with fail
          go_ret
          first | exact ⟨by simp, Aft.of (HM9.out.pp HG.out.iv) rfl rfl (HG.out.len) (by simp), HF9.out⟩ | exact ⟨Aft.of (HM9.out.pp HG.out.iv) rfl rfl (HG.out.len) (by simp), HF9.out⟩
        · have hEe : (ke == 0) = false := by simpa using hE
          clear hE
          go_upto_region 23 with fail
          clear hEe
          have HSE : Hid (SqE Zja Zjb ks kg gn0 ke Ujb.drew) := ⟨HKob.out, HKjb.out⟩
          refine wp_region_noPanic ?_
          refine wrl (SqE Zja Zjb ks kg gn0 ke) 11 (by kernel_rfl) ?_
          refine wk 0 176 (.agg #[i64 ks, i64 kg]) rfl HSE.out (fun W hW => by have k0 := bkc hW.k 0; have k1 := bkc hW.k 1; go_simp) ?_
          simp only [Act.put, sA, sZ, sS]
          refine wk 2 178 (.pointer (some ⟨Zjb, 1, none⟩)) rfl HSE.out (fun W hW => by go_simp) ?_
          simp only [Act.put, sA, sZ, sS]
          refine wk 3 179 (.agg #[i64 ks, i64 kg]) rfl HSE.out (fun W hW => by have g1 := bkc hW.g 1; have g2 := bkc hW.g 2; go_simp) ?_
          simp only [Act.put, sA, sZ, sS]
          refine wo 1 rfl (fun K hK => ?_)
          go_simp
          refine (ref_ok _ ks kg).mono ?_
          rintro e w130q ⟨rfl, hb⟩
          have HSE2 : Hid (SqE Zja Zjb ks kg gn0 ke w130q) := HSE.out.below hb
          have HM9 := hid (HMjb.out.drew.below hb)
          have HF9 : Hid (Pf base w w130q) := HFjb.out.drewl.trans (Pf.of_below hb HMjb.out.drew.lo)
          clear hb
          go_simp
          refine hK.out _ _ (fun _ => HSE2.out) ?_
          clear hK K
          refine wk 4 180 (.bool true) rfl HSE2.out (fun W hW => by have q := eqIn81 ks kg ks kg W; simp only [and_self, decide_true] at q; go_simp) ?_
          simp only [Act.put, sA, sZ, sS]
          refine wk 5 181 (.bool true) rfl HSE2.out (fun W hW => by go_simp) ?_
          simp only [Act.put, sA, sZ, sS]
          refine wk 6 182 (i64 ke) rfl HSE2.out (fun W hW => by go_simp) ?_
          simp only [Act.put, sA, sZ, sS]
          refine wk 7 183 (.pointer (some ⟨Zjb, 3, none⟩)) rfl HSE2.out (fun W hW => by go_simp) ?_
          simp only [Act.put, sA, sZ, sS]
          refine wk 8 184 (i64 ke) rfl HSE2.out (fun W hW => by have g3 := bkc hW.g 3; go_simp) ?_
          simp only [Act.put, sA, sZ, sS]
          refine wk 9 185 (.bool true) rfl HSE2.out (fun W hW => by have q := eqIn81 ks kg ks kg W; simp only [and_self, decide_true] at q; go_simp) ?_
          simp only [Act.put, sA, sZ, sS]
          refine wk 10 186 (.bool true) rfl HSE2.out (fun W hW => by go_simp) ?_
          simp only [Act.put, sA, sZ, sS]
          refine wo 11 rfl (fun K hK => ?_)
          go_simp
          refine hK.out _ _ (fun h => absurd rfl h) ?_
          clear hK K
          refine wdd ?_
          refine NoPanic.normal ?_
          go_wp2_with fail
          go_ret
          first | exact ⟨by simp, Aft.of (HM9.out.pp HG.out.iv) rfl rfl (HG.out.len) (Nat.le_succ _), HF9.out⟩ | exact ⟨Aft.of (HM9.out.pp HG.out.iv) rfl rfl (HG.out.len) (Nat.le_succ _), HF9.out⟩
end Go.Proofs.Ytnknhencobhjdaa
