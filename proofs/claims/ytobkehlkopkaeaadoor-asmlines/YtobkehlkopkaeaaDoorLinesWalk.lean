/- AsmLines: its walk; no statement is proved in this text. -/
import Derived.Test.YtobkehlkopkaeaaDoorRLines
import Derived.Test.YtobkehlkopkaeaaDoorLoop2
namespace Go.Proofs.YtobkehlkopkaeaaDoor
open Go.ChangeShapes Go.WideShapes Go.ChangeAt Go.RowKit
set_option maxRecDepth 100000

set_option maxHeartbeats 1600000 in
theorem ref_ok (w : World) (i : In) : Calls Tryd.prog 15 #[inV i] w fun e w' => e = .returned (inV i) ∧ Below w.heap.size w w' := by
  obtain ⟨op, a, b, n⟩ := i
  go_enter Tryd.func15, Tryd.ntmps15
  go_wp2_with fail
  exact bodyPost_ret (v := inV ⟨op, a, b, n⟩) (by simp [results, Tryd.results15, go_sem]) rfl ⟨rfl, (below_one w _).alloc (by simp) _⟩


set_option maxHeartbeats 1600000 in
theorem lines_walk (w : World) (he : Env w) (l : Bs) (i : In) (hl : l.length ≤ maxLen) : Calls Tryd.prog 4 #[str l, inV i] w fun e w' => e = .returned (.bool true) ∧ Below w.heap.size w w' := by
  have HE : Hid (Env w) := he
  have HLP : Hid (∀ w, Env w → Calls Tryd.prog 8 #[] w fun e w' => e = .returned (.bool true) ∧ Below w.heap.size w w') := fun w he => loop_ok w he
  have HLN : Hid (∀ w, Env w → Calls Tryd.prog 11 #[str l] w fun e w' => ∃ v, e = .returned (.tuple #[v, i64 (alE l)]) ∧ w'.ownsRow w.heap.size 9 1 v (alL l).length (((alL l).map lineF).map str) ∧ Below w.heap.size w w') := fun w he => lines_ok w he l
  have HRL : Hid (∀ w, Calls Tryd.prog 12 #[str l] w fun e w' => ∃ v, e = .returned (.tuple #[v, i64 (alE l)]) ∧ w'.ownsRow w.heap.size 9 1 v (alL l).length (((alL l).map lineF).map str) ∧ Below w.heap.size w w') := fun w => rlines_ok w l
  have HL1 : Hid (∀ w, Env w → Calls Tryd.prog 13 #[inV i] w fun e w' => e = .returned (.tuple #[str (if isI i = true then lineF i else []), i64 (btE i)]) ∧ Below w.heap.size w w') := fun w he => line_any w he i
  have HR1 : Hid (∀ w, Calls Tryd.prog 14 #[inV i] w fun e w' => e = .returned (.tuple #[str (if isI i = true then lineF i else []), i64 (btE i)]) ∧ Below w.heap.size w w') := fun w => rline_any w i
  have HRF : Hid (∀ w, Calls Tryd.prog 15 #[inV i] w fun e w' => e = .returned (inV i) ∧ Below w.heap.size w w') := fun w => ref_ok w i
  have h256 := alL_len l
  have hsz := bz l
  obtain ⟨op, a, b, n⟩ := i
  have HNA : Hid (∀ w, Env w → Calls Tryd.prog 17 #[i64 op] w fun e w' => e = .returned (str (if 0 ≤ op ∧ op ≤ 20 then nmOf op.toNat else [])) ∧ w' = w) := fun w he => name_ok w he op
  have HNB : Hid (∀ w, Calls Tryd.prog 18 #[i64 op] w fun e w' => e = .returned (str (if 0 ≤ op ∧ op ≤ 20 then nmOf op.toNat else [])) ∧ Below w.heap.size w w') := fun w => rname_ok w op
  unfold maxLen at hl
  clear he
  generalize (if 0 ≤ op ∧ op ≤ 20 then nmOf op.toNat else []) = NM at *
  generalize (if isI ⟨op, a, b, n⟩ = true then lineF ⟨op, a, b, n⟩ else []) = LI at *
  generalize btE ⟨op, a, b, n⟩ = LE at *
  generalize alE l = E at *
  by_cases h6 : 600 < l.length
  · clear HLN HRL HL1 HR1 HRF HNA HNB
    go_enter Tryd.func4, Tryd.ntmps4
    go_wp2_with fail
    refine (HLP.out _ (HE.out.alloc _)).mono ?_
    rintro e w1 ⟨rfl, hb1⟩
    have HB1 : Hid (Below w.heap.size w w1) := (below_one w _).trans (hb1.mono (by simp))
    clear hb1
    go_wp2_with fail
    go_ret
    exact ⟨rfl, HB1.out⟩
  · have hXL : ((alL l).map lineF).length = (alL l).length := List.length_map _
    generalize hXS : (alL l).map lineF = xs at *
    obtain ⟨NX, hNX⟩ : ∃ NX, (alL l).length = NX := ⟨_, rfl⟩
    rw [hNX] at HLN HRL hXL h256
    have HXL : Hid (xs.length = NX) := hXL
    clear hXS hNX hXL
    go_enter Tryd.func4, Tryd.ntmps4
    go_wp2_with fail
    refine (HLN.out _ (HE.out.alloc _)).mono ?_
    rintro e w1 ⟨v1, rfl, ho1, hb1⟩
    have HB1 : Hid (Below w.heap.size w w1) := (below_one w _).trans (hb1.mono (by simp))
    have hz1 : w.heap.size < w1.heap.size := by have := hb1.size; simp at this; omega
    have HBX : Hid (w1.heap[w.heap.size]? = some (.cells #[i64 op, i64 a, i64 b, i64 n] 27 (0, 0))) := (hb1.block _ (by simp)).trans (heap_at rfl _)
    obtain ⟨ao1, cap1, rfl, hs1, _⟩ := own_words ho1
    have HS1 : Hid (WSl w1 ao1 xs) := hs1
    have HUP : Hid (∀ W, Below w1.heap.size w1 W → W.cell? ⟨w.heap.size, 0, none⟩ = some (i64 op) ∧ W.cell? ⟨w.heap.size, 1, none⟩ = some (i64 a) ∧ W.cell? ⟨w.heap.size, 2, none⟩ = some (i64 b) ∧ W.cell? ⟨w.heap.size, 3, none⟩ = some (i64 n)) := fun W hb => by
      obtain ⟨x0, x1, x2, x3, _⟩ := four_cells ((hb.block _ hz1).trans HBX.out)
      exact ⟨x0, x1, x2, x3⟩
    clear ho1 hb1 hs1
    go_wp2_with fail
    refine (HRL.out _).mono ?_
    rintro e w2 ⟨v2, rfl, ho2, hb2⟩
    obtain ⟨ao2, cap2, rfl, hs2, _⟩ := own_words ho2
    have HS2 : Hid (WSl w2 ao2 xs) := hs2
    have HS12 : Hid (WSl w2 ao1 xs) := HS1.out.below hb2
    have HB2 : Hid (Below w1.heap.size w1 w2) := hb2
    have hz2 := hb2.size
    obtain ⟨x0, x1, x2, x3⟩ := HUP.out _ hb2
    clear ho2 hb2 hs2
    go_wp2_with fail
    refine (HL1.out _ (HE.out.below (HB1.out.trans (HB2.out.mono (by omega))))).mono ?_
    rintro e w3 ⟨rfl, hb3⟩
    have HB3 : Hid (Below w1.heap.size w1 w3) := HB2.out.trans (hb3.mono hz2)
    have HB23 : Hid (Below w2.heap.size w2 w3) := hb3
    have hz3 := HB3.out.size
    clear x0 x1 x2 x3 hb3
    obtain ⟨x0, x1, x2, x3⟩ := HUP.out _ HB3.out
    go_wp2_with fail
    refine (HRF.out _).mono ?_
    rintro e w4 ⟨rfl, hb4⟩
    have HB4 : Hid (Below w1.heap.size w1 w4) := HB3.out.trans (hb4.mono hz3)
    have HB24 : Hid (Below w2.heap.size w2 w4) := HB23.out.trans (hb4.mono HB23.out.size)
    have hz4 := HB4.out.size
    clear x0 x1 x2 x3 hb4
    go_wp2_with fail
    refine (HR1.out _).mono ?_
    rintro e V ⟨rfl, hb5⟩
    have HB5 : Hid (Below w1.heap.size w1 V) := HB4.out.trans (hb5.mono hz4)
    have HB25 : Hid (Below w2.heap.size w2 V) := HB24.out.trans (hb5.mono HB24.out.size)
    have hzV := HB5.out.size
    clear hb5
    have HV0 : Hid (Below V.heap.size V V) := Below.refl _ _
    have HV1 : Hid (Below V.heap.size V V.drew) := ⟨rfl, rfl, rfl, Nat.le_refl _, fun _ _ => rfl⟩
    have HTX : Hid (∀ W, Below V.heap.size V W → Calls Tryd.prog 16 #[.slice ao1 NX cap1, .slice ao2 NX cap2] W fun e w' => e = .returned (.bool true) ∧ Below W.heap.size W w') := fun W hb => by
      have := texts_ok W xs ao1 ao2 cap1 cap2 (HS12.out.below (HB25.out.trans (hb.mono HB25.out.size))) (HS2.out.below (HB25.out.trans (hb.mono HB25.out.size))) (by rw [HXL.out]; omega)
      rw [HXL.out] at this
      exact this
    have HEV : Hid (∀ W, Below V.heap.size V W → Env W) := fun W hb => HE.out.below (HB1.out.trans ((HB5.out.trans (hb.mono hzV)).mono (by omega)))
    have HKP : Hid (∀ W, Below V.heap.size V W → W.cell? ⟨w.heap.size, 0, none⟩ = some (i64 op)) := fun W hb => (HUP.out W (HB5.out.trans (hb.mono hzV))).1
    go_wp2_with fail
    go_region_held3 (fun w' => w'.cell? ⟨w.heap.size, 0, none⟩ = some (i64 op)) (first | exact HKP.out _ HV1.out | exact HKP.out _ HV2.out | exact HKP.out _ HV3.out | exact HKP.out _ HV4.out | exact HKP.out _ HV0.out) ((first | (go_at_call 16; refine (HTX.out _ HV1.out).mono ?_; rintro e w5 ⟨rfl, hb5⟩; have HV2 : Hid (Below V.heap.size V w5) := HV1.out.trans (hb5.mono HV1.out.size); clear hb5) | (go_at_call 17; refine (HNA.out _ (HEV.out _ HV2.out)).mono ?_; rintro e w6 ⟨rfl, rfl⟩) | (go_at_call 18; refine (HNB.out _).mono ?_; rintro e w7 ⟨rfl, hb7⟩; have HV3 : Hid (Below V.heap.size V w7) := HV2.out.trans (hb7.mono HV2.out.size); clear hb7) | (go_at_call 8; refine (HLP.out _ (HEV.out _ HV3.out)).mono ?_; rintro e w8 ⟨rfl, hb8⟩; have HV4 : Hid (Below V.heap.size V w8) := HV3.out.trans (hb8.mono HV3.out.size); clear hb8)))
    go_wp2_with fail
    go_ret
    exact ⟨rfl, HB1.out.trans ((HB5.out.trans (HV4.out.mono hzV)).mono (by omega))⟩
end Go.Proofs.YtobkehlkopkaeaaDoor
