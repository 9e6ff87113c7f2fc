/- cpu.Step, jumps: its contract; no statement is proved in this text. -/
import Derived.Test.YtigbfdloodfdgaaDoorCpuS2
namespace Go.Proofs.YtigbfdloodfdgaaDoor
open Go.ChangeShapes Go.WideShapes Go.ChangeAt Go.RowKit

set_option maxRecDepth 100000 in
set_option maxHeartbeats 1600000 in
theorem step_far17 (w : World) (ht : Tab w) (C : List Nat) (hC : Rg C) (s : ByteArray) (pc a b va vb pn wr : Nat) (n nx : Int) (hpc : C.getD 8 0 = pc)
    (hA : ∀ w, Tab w → Calls Tryd.prog 32 #[.string s, i64 pc] w fun e w' => e = .returned (atV ⟨17, a, b, n⟩ nx 0) ∧ Below w.heap.size w w')
    (ha : a < 8) (hb : b < 8) (hva : C.getD a 0 = va) (hvb : C.getD b 0 = vb) (hpn : wd nx = pn)  (hn : 0 ≤ n ∧ n ≤ 65535) (hnx : 0 ≤ nx ∧ nx ≤ 4611686018427387904) (hwr : wd (nx + n) = wr) :
    Calls Tryd.prog 16 #[cpV C, .string s] w fun e w' => e = .returned (stV (C.set 8 wr) (⟨5, 0, 0, 0, 0, 0⟩)) ∧ Below w.heap.size w w' := by
  have hpc16 : pc < 65536 := by rw [← hpc]; exact hC.get 8
  have hva16 : va < 65536 := by rw [← hva]; exact hC.get a
  have hvb16 : vb < 65536 := by rw [← hvb]; exact hC.get b
  have hpn16 : pn < 65536 := by rw [← hpn]; exact wd_lt _
  have HA : Hid (∀ w, Tab w → Calls Tryd.prog 32 #[.string s, i64 pc] w fun e w' => e = .returned (atV ⟨17, a, b, n⟩ nx 0) ∧ Below w.heap.size w w') := hA
  have HWD : Hid (∀ w, Calls Tryd.prog 33 #[i64 nx] w fun e w' => e = .returned (u16 pn) ∧ w' = w) := fun w => by rw [← hpn]; exact word_ok w nx
  have hC1 : Rg (C.set 8 pn) := hC.set _ _ hpn16
  have HVA : Hid (C.getD a 0 = va) := hva
  have HVB : Hid (C.getD b 0 = vb) := hvb
  have HPC : Hid (C.getD 8 0 = pc) := hpc
  clear hA hva hvb hpn hpc
  have HWR : Hid (∀ w, Calls Tryd.prog 33 #[i64 (nx + n)] w fun e w' => e = .returned (u16 wr) ∧ w' = w) := fun w => by rw [← hwr]; exact word_ok w (nx + n)
  have hC2 : Rg (C.set 8 wr) := hC.set _ _ (by rw [← hwr]; exact wd_lt _)
  obtain ⟨hn0, hn1⟩ := hn
  obtain ⟨hx0, hx1⟩ := hnx
  clear hwr
  go_enter Tryd.func16, Tryd.ntmps16
  go_wp2_with fail
  have hB := Beg.start w C
  generalize (((w.alloc (.cells (cpC C).toArray 30)).alloc (.cells #[u16 0, u16 0, u16 0, u16 0, u16 0, u16 0, u16 0, u16 0, u16 0] 30)).alloc (.cells #[i64 0, i64 0, i64 0, i64 0, i64 0, i64 0] 61)) = V at *
  have hc8 := hB.r0.cell hC 8 (by omega)
  rw [HPC.out] at hc8
  have HB : Hid (Beg w V C) := hB
  have HT : Hid (Tab V) := ht.below hB.bel
  clear hB ht
  refine wp_scope_ahead 0 rfl ?_
  go_wp2_with fail
  refine (HA.out _ HT.out).mono ?_
  rintro e w1 ⟨rfl, hb1⟩
  have hM1 := Mid2.start (HB.out.below hb1) ⟨17, a, b, n⟩
  clear hb1 HA HB HT hc8
  go_wp2_with fail
  obtain ⟨V1, hV1⟩ : ∃ V1, V1 = w1.alloc (.cells #[i64 17, i64 a, i64 b, i64 n] 80) := ⟨_, rfl⟩
  have hM2 := hM1.set 8 pn
  rw [← hV1] at hM1 hM2 ⊢
  have c8 := hM1.beg.r0.cell hC 8 (by omega)
  have f8 := hM1.beg.r0.free 8
  have hq := hM1.hq
  clear hV1 hM1
  generalize w1.heap.size = q at *
  obtain ⟨V2, hV2⟩ : ∃ V2, V2 = V1.setCell ⟨w.heap.size, 8, none⟩ (u16 pn) := ⟨_, rfl⟩
  have HM2 : Hid (Mid2 w V2 (C.set 8 pn) q ⟨17, a, b, n⟩) := by rw [hV2]; exact hM2
  have HV2 : Hid (V2 = V1.setCell ⟨w.heap.size, 8, none⟩ (u16 pn)) := hV2
  clear hM2 hV2
  refine (HWD.out _).mono ?_
  rintro e w2 ⟨rfl, rfl⟩
  go_upto_region 5 with fail
  rw [← HV2.out]
  obtain ⟨q0, q1, q2, q3⟩ := HM2.out.cells
  have ca := HM2.out.beg.r0.cell hC1 a (by omega)
  have cb := HM2.out.beg.r0.cell hC1 b (by omega)
  have fa := HM2.out.beg.r0.free a
  rw [set_getD_ne _ _ _ _ (by omega), HVA.out] at ca
  rw [set_getD_ne _ _ _ _ (by omega), HVB.out] at cb
  clear c8 f8 HWD
  have haI : (a : Int) < 8 := by omega
  go_wp2_with fail
  go_step3
  refine ⟨rfl, ?_⟩
  go_wp2_with fail
  have c8 := HM2.out.beg.r0.cell hC1 8 (by omega)
  have f8 := HM2.out.beg.r0.free 8
  refine (HWR.out _).mono ?_
  rintro e w3 ⟨rfl, rfl⟩
  have hM4 := HM2.out.set 8 wr
  rw [List.set_set] at hM4
  obtain ⟨V4, hV4⟩ : ∃ V4, V4 = w3.setCell ⟨w.heap.size, 8, none⟩ (u16 wr) := ⟨_, rfl⟩
  rw [← hV4] at hM4
  have HM4 : Hid (Mid2 w V4 (C.set 8 wr) q ⟨17, a, b, n⟩) := hM4
  have HV4 : Hid (V4 = w3.setCell ⟨w.heap.size, 8, none⟩ (u16 wr)) := hV4
  clear hM4 hV4 HV2
  go_upto_region 21 with fail
  rw [← HV4.out]
  go_wp2_with (first
    | (refine wpList_load_mid rfl 30 (.tmp 2) rfl w.heap.size 0 rfl (cpC (C.set 8 wr)) _ (by exact HM4.out.beg.r0.range) Tryd.underlying30 rfl (cpC_info hC2) ?_)
    | (refine wpList_store_mid rfl 30 (.tmp 4) (.tmp 94) rfl (w.heap.size + 1) 0 (cpC (C.set 8 wr)).toArray rfl rfl (by exact fin_there (HM4.out.beg.r1.there Rg.zero) hC2) (cpC_infoA hC2) (cpC_one _) ?_)
    | (refine wpList_store_mid rfl 61 (.tmp 5) (.tmp 95) rfl (w.heap.size + 1 + 1) 0 #[i64 5, i64 0, i64 0, i64 0, i64 0, i64 0] rfl rfl (by exact World.there_setCells HM4.out.beg.r2.there _ _ _) info28 (by kernel_rfl) ?_))
  have hF := HM4.out.beg.fin hC2 ⟨5, 0, 0, 0, 0, 0⟩
  obtain ⟨g1, g2⟩ := hF.results hC2
  first
    | simp only [Exit.jump]
    | rw [Exit.noGoto_ret]
  exact bodyPost_ret (results_two rfl rfl g1 g2) rfl ⟨rfl, hF.bel⟩
set_option maxRecDepth 100000 in
set_option maxHeartbeats 1600000 in
theorem step_far18 (w : World) (ht : Tab w) (C : List Nat) (hC : Rg C) (s : ByteArray) (pc a b va vb pn wr : Nat) (n nx : Int) (hpc : C.getD 8 0 = pc)
    (hA : ∀ w, Tab w → Calls Tryd.prog 32 #[.string s, i64 pc] w fun e w' => e = .returned (atV ⟨18, a, b, n⟩ nx 0) ∧ Below w.heap.size w w')
    (ha : a < 8) (hb : b < 8) (hva : C.getD a 0 = va) (hvb : C.getD b 0 = vb) (hpn : wd nx = pn) (hz : va = 0) (hn : 0 ≤ n ∧ n ≤ 65535) (hnx : 0 ≤ nx ∧ nx ≤ 4611686018427387904) (hwr : wd (nx + n) = wr) :
    Calls Tryd.prog 16 #[cpV C, .string s] w fun e w' => e = .returned (stV (C.set 8 wr) (⟨5, 0, 0, 0, 0, 0⟩)) ∧ Below w.heap.size w w' := by
  have hpc16 : pc < 65536 := by rw [← hpc]; exact hC.get 8
  have hva16 : va < 65536 := by rw [← hva]; exact hC.get a
  have hvb16 : vb < 65536 := by rw [← hvb]; exact hC.get b
  have hpn16 : pn < 65536 := by rw [← hpn]; exact wd_lt _
  have HA : Hid (∀ w, Tab w → Calls Tryd.prog 32 #[.string s, i64 pc] w fun e w' => e = .returned (atV ⟨18, a, b, n⟩ nx 0) ∧ Below w.heap.size w w') := hA
  have HWD : Hid (∀ w, Calls Tryd.prog 33 #[i64 nx] w fun e w' => e = .returned (u16 pn) ∧ w' = w) := fun w => by rw [← hpn]; exact word_ok w nx
  have hC1 : Rg (C.set 8 pn) := hC.set _ _ hpn16
  have HVA : Hid (C.getD a 0 = va) := hva
  have HVB : Hid (C.getD b 0 = vb) := hvb
  have HPC : Hid (C.getD 8 0 = pc) := hpc
  clear hA hva hvb hpn hpc
  have HWR : Hid (∀ w, Calls Tryd.prog 33 #[i64 (nx + n)] w fun e w' => e = .returned (u16 wr) ∧ w' = w) := fun w => by rw [← hwr]; exact word_ok w (nx + n)
  have hC2 : Rg (C.set 8 wr) := hC.set _ _ (by rw [← hwr]; exact wd_lt _)
  obtain ⟨hn0, hn1⟩ := hn
  obtain ⟨hx0, hx1⟩ := hnx
  clear hwr
  have hzb : ((va : Int) == 0) = true := by simp; omega
  have hzn : ((va : Int) != 0) = false := by simp; omega
  clear hz
  go_enter Tryd.func16, Tryd.ntmps16
  go_wp2_with fail
  have hB := Beg.start w C
  generalize (((w.alloc (.cells (cpC C).toArray 30)).alloc (.cells #[u16 0, u16 0, u16 0, u16 0, u16 0, u16 0, u16 0, u16 0, u16 0] 30)).alloc (.cells #[i64 0, i64 0, i64 0, i64 0, i64 0, i64 0] 61)) = V at *
  have hc8 := hB.r0.cell hC 8 (by omega)
  rw [HPC.out] at hc8
  have HB : Hid (Beg w V C) := hB
  have HT : Hid (Tab V) := ht.below hB.bel
  clear hB ht
  refine wp_scope_ahead 0 rfl ?_
  go_wp2_with fail
  refine (HA.out _ HT.out).mono ?_
  rintro e w1 ⟨rfl, hb1⟩
  have hM1 := Mid2.start (HB.out.below hb1) ⟨18, a, b, n⟩
  clear hb1 HA HB HT hc8
  go_wp2_with fail
  obtain ⟨V1, hV1⟩ : ∃ V1, V1 = w1.alloc (.cells #[i64 18, i64 a, i64 b, i64 n] 80) := ⟨_, rfl⟩
  have hM2 := hM1.set 8 pn
  rw [← hV1] at hM1 hM2 ⊢
  have c8 := hM1.beg.r0.cell hC 8 (by omega)
  have f8 := hM1.beg.r0.free 8
  have hq := hM1.hq
  clear hV1 hM1
  generalize w1.heap.size = q at *
  obtain ⟨V2, hV2⟩ : ∃ V2, V2 = V1.setCell ⟨w.heap.size, 8, none⟩ (u16 pn) := ⟨_, rfl⟩
  have HM2 : Hid (Mid2 w V2 (C.set 8 pn) q ⟨18, a, b, n⟩) := by rw [hV2]; exact hM2
  have HV2 : Hid (V2 = V1.setCell ⟨w.heap.size, 8, none⟩ (u16 pn)) := hV2
  clear hM2 hV2
  refine (HWD.out _).mono ?_
  rintro e w2 ⟨rfl, rfl⟩
  go_upto_region 5 with fail
  rw [← HV2.out]
  obtain ⟨q0, q1, q2, q3⟩ := HM2.out.cells
  have ca := HM2.out.beg.r0.cell hC1 a (by omega)
  have cb := HM2.out.beg.r0.cell hC1 b (by omega)
  have fa := HM2.out.beg.r0.free a
  rw [set_getD_ne _ _ _ _ (by omega), HVA.out] at ca
  rw [set_getD_ne _ _ _ _ (by omega), HVB.out] at cb
  clear c8 f8 HWD
  have haI : (a : Int) < 8 := by omega
  go_wp2_with fail
  go_step3
  refine ⟨rfl, ?_⟩
  go_wp2_with fail
  have c8 := HM2.out.beg.r0.cell hC1 8 (by omega)
  have f8 := HM2.out.beg.r0.free 8
  refine (HWR.out _).mono ?_
  rintro e w3 ⟨rfl, rfl⟩
  have hM4 := HM2.out.set 8 wr
  rw [List.set_set] at hM4
  obtain ⟨V4, hV4⟩ : ∃ V4, V4 = w3.setCell ⟨w.heap.size, 8, none⟩ (u16 wr) := ⟨_, rfl⟩
  rw [← hV4] at hM4
  have HM4 : Hid (Mid2 w V4 (C.set 8 wr) q ⟨18, a, b, n⟩) := hM4
  have HV4 : Hid (V4 = w3.setCell ⟨w.heap.size, 8, none⟩ (u16 wr)) := hV4
  clear hM4 hV4 HV2
  go_upto_region 21 with fail
  rw [← HV4.out]
  go_wp2_with (first
    | (refine wpList_load_mid rfl 30 (.tmp 2) rfl w.heap.size 0 rfl (cpC (C.set 8 wr)) _ (by exact HM4.out.beg.r0.range) Tryd.underlying30 rfl (cpC_info hC2) ?_)
    | (refine wpList_store_mid rfl 30 (.tmp 4) (.tmp 94) rfl (w.heap.size + 1) 0 (cpC (C.set 8 wr)).toArray rfl rfl (by exact fin_there (HM4.out.beg.r1.there Rg.zero) hC2) (cpC_infoA hC2) (cpC_one _) ?_)
    | (refine wpList_store_mid rfl 61 (.tmp 5) (.tmp 95) rfl (w.heap.size + 1 + 1) 0 #[i64 5, i64 0, i64 0, i64 0, i64 0, i64 0] rfl rfl (by exact World.there_setCells HM4.out.beg.r2.there _ _ _) info28 (by kernel_rfl) ?_))
  have hF := HM4.out.beg.fin hC2 ⟨5, 0, 0, 0, 0, 0⟩
  obtain ⟨g1, g2⟩ := hF.results hC2
  first
    | simp only [Exit.jump]
    | rw [Exit.noGoto_ret]
  exact bodyPost_ret (results_two rfl rfl g1 g2) rfl ⟨rfl, hF.bel⟩
set_option maxRecDepth 100000 in
set_option maxHeartbeats 1600000 in
theorem step_stay18 (w : World) (ht : Tab w) (C : List Nat) (hC : Rg C) (s : ByteArray) (pc a b va vb pn : Nat) (n nx : Int) (hpc : C.getD 8 0 = pc)
    (hA : ∀ w, Tab w → Calls Tryd.prog 32 #[.string s, i64 pc] w fun e w' => e = .returned (atV ⟨18, a, b, n⟩ nx 0) ∧ Below w.heap.size w w')
    (ha : a < 8) (hb : b < 8) (hva : C.getD a 0 = va) (hvb : C.getD b 0 = vb) (hpn : wd nx = pn) (hz : va ≠ 0) :
    Calls Tryd.prog 16 #[cpV C, .string s] w fun e w' => e = .returned (stV (C.set 8 pn) (⟨5, 0, 0, 0, 0, 0⟩)) ∧ Below w.heap.size w w' := by
  have hpc16 : pc < 65536 := by rw [← hpc]; exact hC.get 8
  have hva16 : va < 65536 := by rw [← hva]; exact hC.get a
  have hvb16 : vb < 65536 := by rw [← hvb]; exact hC.get b
  have hpn16 : pn < 65536 := by rw [← hpn]; exact wd_lt _
  have HA : Hid (∀ w, Tab w → Calls Tryd.prog 32 #[.string s, i64 pc] w fun e w' => e = .returned (atV ⟨18, a, b, n⟩ nx 0) ∧ Below w.heap.size w w') := hA
  have HWD : Hid (∀ w, Calls Tryd.prog 33 #[i64 nx] w fun e w' => e = .returned (u16 pn) ∧ w' = w) := fun w => by rw [← hpn]; exact word_ok w nx
  have hC1 : Rg (C.set 8 pn) := hC.set _ _ hpn16
  have HVA : Hid (C.getD a 0 = va) := hva
  have HVB : Hid (C.getD b 0 = vb) := hvb
  have HPC : Hid (C.getD 8 0 = pc) := hpc
  clear hA hva hvb hpn hpc
  have hzb : ((va : Int) == 0) = false := by simp; omega
  have hzn : ((va : Int) != 0) = true := by simp; omega
  clear hz
  go_enter Tryd.func16, Tryd.ntmps16
  go_wp2_with fail
  have hB := Beg.start w C
  generalize (((w.alloc (.cells (cpC C).toArray 30)).alloc (.cells #[u16 0, u16 0, u16 0, u16 0, u16 0, u16 0, u16 0, u16 0, u16 0] 30)).alloc (.cells #[i64 0, i64 0, i64 0, i64 0, i64 0, i64 0] 61)) = V at *
  have hc8 := hB.r0.cell hC 8 (by omega)
  rw [HPC.out] at hc8
  have HB : Hid (Beg w V C) := hB
  have HT : Hid (Tab V) := ht.below hB.bel
  clear hB ht
  refine wp_scope_ahead 0 rfl ?_
  go_wp2_with fail
  refine (HA.out _ HT.out).mono ?_
  rintro e w1 ⟨rfl, hb1⟩
  have hM1 := Mid2.start (HB.out.below hb1) ⟨18, a, b, n⟩
  clear hb1 HA HB HT hc8
  go_wp2_with fail
  obtain ⟨V1, hV1⟩ : ∃ V1, V1 = w1.alloc (.cells #[i64 18, i64 a, i64 b, i64 n] 80) := ⟨_, rfl⟩
  have hM2 := hM1.set 8 pn
  rw [← hV1] at hM1 hM2 ⊢
  have c8 := hM1.beg.r0.cell hC 8 (by omega)
  have f8 := hM1.beg.r0.free 8
  have hq := hM1.hq
  clear hV1 hM1
  generalize w1.heap.size = q at *
  obtain ⟨V2, hV2⟩ : ∃ V2, V2 = V1.setCell ⟨w.heap.size, 8, none⟩ (u16 pn) := ⟨_, rfl⟩
  have HM2 : Hid (Mid2 w V2 (C.set 8 pn) q ⟨18, a, b, n⟩) := by rw [hV2]; exact hM2
  have HV2 : Hid (V2 = V1.setCell ⟨w.heap.size, 8, none⟩ (u16 pn)) := hV2
  clear hM2 hV2
  refine (HWD.out _).mono ?_
  rintro e w2 ⟨rfl, rfl⟩
  go_upto_region 5 with fail
  rw [← HV2.out]
  obtain ⟨q0, q1, q2, q3⟩ := HM2.out.cells
  have ca := HM2.out.beg.r0.cell hC1 a (by omega)
  have cb := HM2.out.beg.r0.cell hC1 b (by omega)
  have fa := HM2.out.beg.r0.free a
  rw [set_getD_ne _ _ _ _ (by omega), HVA.out] at ca
  rw [set_getD_ne _ _ _ _ (by omega), HVB.out] at cb
  clear c8 f8 HWD
  have haI : (a : Int) < 8 := by omega
  go_wp2_with (first
    | (refine wpList_load_mid rfl 30 (.tmp 2) rfl w.heap.size 0 rfl (cpC (C.set 8 pn)) _ (by exact HM2.out.beg.r0.range) Tryd.underlying30 rfl (cpC_info hC1) ?_)
    | (refine wpList_store_mid rfl 30 (.tmp 4) (.tmp 86) rfl (w.heap.size + 1) 0 (cpC (C.set 8 pn)).toArray rfl rfl (by exact fin_there (HM2.out.beg.r1.there Rg.zero) hC1) (cpC_infoA hC1) (cpC_one _) ?_)
    | (refine wpList_store_mid rfl 61 (.tmp 5) (.tmp 87) rfl (w.heap.size + 1 + 1) 0 #[i64 5, i64 0, i64 0, i64 0, i64 0, i64 0] rfl rfl (by exact World.there_setCells HM2.out.beg.r2.there _ _ _) info28 (by kernel_rfl) ?_))
  have hF := HM2.out.beg.fin hC1 ⟨5, 0, 0, 0, 0, 0⟩
  obtain ⟨g1, g2⟩ := hF.results hC1
  first
    | simp only [Exit.jump]
    | rw [Exit.noGoto_ret]
  exact bodyPost_ret (results_two rfl rfl g1 g2) rfl ⟨rfl, hF.bel⟩
set_option maxRecDepth 100000 in
set_option maxHeartbeats 1600000 in
theorem step_far19 (w : World) (ht : Tab w) (C : List Nat) (hC : Rg C) (s : ByteArray) (pc a b va vb pn wr : Nat) (n nx : Int) (hpc : C.getD 8 0 = pc)
    (hA : ∀ w, Tab w → Calls Tryd.prog 32 #[.string s, i64 pc] w fun e w' => e = .returned (atV ⟨19, a, b, n⟩ nx 0) ∧ Below w.heap.size w w')
    (ha : a < 8) (hb : b < 8) (hva : C.getD a 0 = va) (hvb : C.getD b 0 = vb) (hpn : wd nx = pn) (hz : va ≠ 0) (hn : 0 ≤ n ∧ n ≤ 65535) (hnx : 0 ≤ nx ∧ nx ≤ 4611686018427387904) (hwr : wd (nx + n) = wr) :
    Calls Tryd.prog 16 #[cpV C, .string s] w fun e w' => e = .returned (stV (C.set 8 wr) (⟨5, 0, 0, 0, 0, 0⟩)) ∧ Below w.heap.size w w' := by
  have hpc16 : pc < 65536 := by rw [← hpc]; exact hC.get 8
  have hva16 : va < 65536 := by rw [← hva]; exact hC.get a
  have hvb16 : vb < 65536 := by rw [← hvb]; exact hC.get b
  have hpn16 : pn < 65536 := by rw [← hpn]; exact wd_lt _
  have HA : Hid (∀ w, Tab w → Calls Tryd.prog 32 #[.string s, i64 pc] w fun e w' => e = .returned (atV ⟨19, a, b, n⟩ nx 0) ∧ Below w.heap.size w w') := hA
  have HWD : Hid (∀ w, Calls Tryd.prog 33 #[i64 nx] w fun e w' => e = .returned (u16 pn) ∧ w' = w) := fun w => by rw [← hpn]; exact word_ok w nx
  have hC1 : Rg (C.set 8 pn) := hC.set _ _ hpn16
  have HVA : Hid (C.getD a 0 = va) := hva
  have HVB : Hid (C.getD b 0 = vb) := hvb
  have HPC : Hid (C.getD 8 0 = pc) := hpc
  clear hA hva hvb hpn hpc
  have HWR : Hid (∀ w, Calls Tryd.prog 33 #[i64 (nx + n)] w fun e w' => e = .returned (u16 wr) ∧ w' = w) := fun w => by rw [← hwr]; exact word_ok w (nx + n)
  have hC2 : Rg (C.set 8 wr) := hC.set _ _ (by rw [← hwr]; exact wd_lt _)
  obtain ⟨hn0, hn1⟩ := hn
  obtain ⟨hx0, hx1⟩ := hnx
  clear hwr
  have hzb : ((va : Int) == 0) = false := by simp; omega
  have hzn : ((va : Int) != 0) = true := by simp; omega
  clear hz
  go_enter Tryd.func16, Tryd.ntmps16
  go_wp2_with fail
  have hB := Beg.start w C
  generalize (((w.alloc (.cells (cpC C).toArray 30)).alloc (.cells #[u16 0, u16 0, u16 0, u16 0, u16 0, u16 0, u16 0, u16 0, u16 0] 30)).alloc (.cells #[i64 0, i64 0, i64 0, i64 0, i64 0, i64 0] 61)) = V at *
  have hc8 := hB.r0.cell hC 8 (by omega)
  rw [HPC.out] at hc8
  have HB : Hid (Beg w V C) := hB
  have HT : Hid (Tab V) := ht.below hB.bel
  clear hB ht
  refine wp_scope_ahead 0 rfl ?_
  go_wp2_with fail
  refine (HA.out _ HT.out).mono ?_
  rintro e w1 ⟨rfl, hb1⟩
  have hM1 := Mid2.start (HB.out.below hb1) ⟨19, a, b, n⟩
  clear hb1 HA HB HT hc8
  go_wp2_with fail
  obtain ⟨V1, hV1⟩ : ∃ V1, V1 = w1.alloc (.cells #[i64 19, i64 a, i64 b, i64 n] 80) := ⟨_, rfl⟩
  have hM2 := hM1.set 8 pn
  rw [← hV1] at hM1 hM2 ⊢
  have c8 := hM1.beg.r0.cell hC 8 (by omega)
  have f8 := hM1.beg.r0.free 8
  have hq := hM1.hq
  clear hV1 hM1
  generalize w1.heap.size = q at *
  obtain ⟨V2, hV2⟩ : ∃ V2, V2 = V1.setCell ⟨w.heap.size, 8, none⟩ (u16 pn) := ⟨_, rfl⟩
  have HM2 : Hid (Mid2 w V2 (C.set 8 pn) q ⟨19, a, b, n⟩) := by rw [hV2]; exact hM2
  have HV2 : Hid (V2 = V1.setCell ⟨w.heap.size, 8, none⟩ (u16 pn)) := hV2
  clear hM2 hV2
  refine (HWD.out _).mono ?_
  rintro e w2 ⟨rfl, rfl⟩
  go_upto_region 5 with fail
  rw [← HV2.out]
  obtain ⟨q0, q1, q2, q3⟩ := HM2.out.cells
  have ca := HM2.out.beg.r0.cell hC1 a (by omega)
  have cb := HM2.out.beg.r0.cell hC1 b (by omega)
  have fa := HM2.out.beg.r0.free a
  rw [set_getD_ne _ _ _ _ (by omega), HVA.out] at ca
  rw [set_getD_ne _ _ _ _ (by omega), HVB.out] at cb
  clear c8 f8 HWD
  have haI : (a : Int) < 8 := by omega
  go_wp2_with fail
  go_step3
  refine ⟨rfl, ?_⟩
  go_wp2_with fail
  have c8 := HM2.out.beg.r0.cell hC1 8 (by omega)
  have f8 := HM2.out.beg.r0.free 8
  refine (HWR.out _).mono ?_
  rintro e w3 ⟨rfl, rfl⟩
  have hM4 := HM2.out.set 8 wr
  rw [List.set_set] at hM4
  obtain ⟨V4, hV4⟩ : ∃ V4, V4 = w3.setCell ⟨w.heap.size, 8, none⟩ (u16 wr) := ⟨_, rfl⟩
  rw [← hV4] at hM4
  have HM4 : Hid (Mid2 w V4 (C.set 8 wr) q ⟨19, a, b, n⟩) := hM4
  have HV4 : Hid (V4 = w3.setCell ⟨w.heap.size, 8, none⟩ (u16 wr)) := hV4
  clear hM4 hV4 HV2
  go_upto_region 21 with fail
  rw [← HV4.out]
  go_wp2_with (first
    | (refine wpList_load_mid rfl 30 (.tmp 2) rfl w.heap.size 0 rfl (cpC (C.set 8 wr)) _ (by exact HM4.out.beg.r0.range) Tryd.underlying30 rfl (cpC_info hC2) ?_)
    | (refine wpList_store_mid rfl 30 (.tmp 4) (.tmp 94) rfl (w.heap.size + 1) 0 (cpC (C.set 8 wr)).toArray rfl rfl (by exact fin_there (HM4.out.beg.r1.there Rg.zero) hC2) (cpC_infoA hC2) (cpC_one _) ?_)
    | (refine wpList_store_mid rfl 61 (.tmp 5) (.tmp 95) rfl (w.heap.size + 1 + 1) 0 #[i64 5, i64 0, i64 0, i64 0, i64 0, i64 0] rfl rfl (by exact World.there_setCells HM4.out.beg.r2.there _ _ _) info28 (by kernel_rfl) ?_))
  have hF := HM4.out.beg.fin hC2 ⟨5, 0, 0, 0, 0, 0⟩
  obtain ⟨g1, g2⟩ := hF.results hC2
  first
    | simp only [Exit.jump]
    | rw [Exit.noGoto_ret]
  exact bodyPost_ret (results_two rfl rfl g1 g2) rfl ⟨rfl, hF.bel⟩
set_option maxRecDepth 100000 in
set_option maxHeartbeats 1600000 in
theorem step_stay19 (w : World) (ht : Tab w) (C : List Nat) (hC : Rg C) (s : ByteArray) (pc a b va vb pn : Nat) (n nx : Int) (hpc : C.getD 8 0 = pc)
    (hA : ∀ w, Tab w → Calls Tryd.prog 32 #[.string s, i64 pc] w fun e w' => e = .returned (atV ⟨19, a, b, n⟩ nx 0) ∧ Below w.heap.size w w')
    (ha : a < 8) (hb : b < 8) (hva : C.getD a 0 = va) (hvb : C.getD b 0 = vb) (hpn : wd nx = pn) (hz : va = 0) :
    Calls Tryd.prog 16 #[cpV C, .string s] w fun e w' => e = .returned (stV (C.set 8 pn) (⟨5, 0, 0, 0, 0, 0⟩)) ∧ Below w.heap.size w w' := by
  have hpc16 : pc < 65536 := by rw [← hpc]; exact hC.get 8
  have hva16 : va < 65536 := by rw [← hva]; exact hC.get a
  have hvb16 : vb < 65536 := by rw [← hvb]; exact hC.get b
  have hpn16 : pn < 65536 := by rw [← hpn]; exact wd_lt _
  have HA : Hid (∀ w, Tab w → Calls Tryd.prog 32 #[.string s, i64 pc] w fun e w' => e = .returned (atV ⟨19, a, b, n⟩ nx 0) ∧ Below w.heap.size w w') := hA
  have HWD : Hid (∀ w, Calls Tryd.prog 33 #[i64 nx] w fun e w' => e = .returned (u16 pn) ∧ w' = w) := fun w => by rw [← hpn]; exact word_ok w nx
  have hC1 : Rg (C.set 8 pn) := hC.set _ _ hpn16
  have HVA : Hid (C.getD a 0 = va) := hva
  have HVB : Hid (C.getD b 0 = vb) := hvb
  have HPC : Hid (C.getD 8 0 = pc) := hpc
  clear hA hva hvb hpn hpc
  have hzb : ((va : Int) == 0) = true := by simp; omega
  have hzn : ((va : Int) != 0) = false := by simp; omega
  clear hz
  go_enter Tryd.func16, Tryd.ntmps16
  go_wp2_with fail
  have hB := Beg.start w C
  generalize (((w.alloc (.cells (cpC C).toArray 30)).alloc (.cells #[u16 0, u16 0, u16 0, u16 0, u16 0, u16 0, u16 0, u16 0, u16 0] 30)).alloc (.cells #[i64 0, i64 0, i64 0, i64 0, i64 0, i64 0] 61)) = V at *
  have hc8 := hB.r0.cell hC 8 (by omega)
  rw [HPC.out] at hc8
  have HB : Hid (Beg w V C) := hB
  have HT : Hid (Tab V) := ht.below hB.bel
  clear hB ht
  refine wp_scope_ahead 0 rfl ?_
  go_wp2_with fail
  refine (HA.out _ HT.out).mono ?_
  rintro e w1 ⟨rfl, hb1⟩
  have hM1 := Mid2.start (HB.out.below hb1) ⟨19, a, b, n⟩
  clear hb1 HA HB HT hc8
  go_wp2_with fail
  obtain ⟨V1, hV1⟩ : ∃ V1, V1 = w1.alloc (.cells #[i64 19, i64 a, i64 b, i64 n] 80) := ⟨_, rfl⟩
  have hM2 := hM1.set 8 pn
  rw [← hV1] at hM1 hM2 ⊢
  have c8 := hM1.beg.r0.cell hC 8 (by omega)
  have f8 := hM1.beg.r0.free 8
  have hq := hM1.hq
  clear hV1 hM1
  generalize w1.heap.size = q at *
  obtain ⟨V2, hV2⟩ : ∃ V2, V2 = V1.setCell ⟨w.heap.size, 8, none⟩ (u16 pn) := ⟨_, rfl⟩
  have HM2 : Hid (Mid2 w V2 (C.set 8 pn) q ⟨19, a, b, n⟩) := by rw [hV2]; exact hM2
  have HV2 : Hid (V2 = V1.setCell ⟨w.heap.size, 8, none⟩ (u16 pn)) := hV2
  clear hM2 hV2
  refine (HWD.out _).mono ?_
  rintro e w2 ⟨rfl, rfl⟩
  go_upto_region 5 with fail
  rw [← HV2.out]
  obtain ⟨q0, q1, q2, q3⟩ := HM2.out.cells
  have ca := HM2.out.beg.r0.cell hC1 a (by omega)
  have cb := HM2.out.beg.r0.cell hC1 b (by omega)
  have fa := HM2.out.beg.r0.free a
  rw [set_getD_ne _ _ _ _ (by omega), HVA.out] at ca
  rw [set_getD_ne _ _ _ _ (by omega), HVB.out] at cb
  clear c8 f8 HWD
  have haI : (a : Int) < 8 := by omega
  go_wp2_with (first
    | (refine wpList_load_mid rfl 30 (.tmp 2) rfl w.heap.size 0 rfl (cpC (C.set 8 pn)) _ (by exact HM2.out.beg.r0.range) Tryd.underlying30 rfl (cpC_info hC1) ?_)
    | (refine wpList_store_mid rfl 30 (.tmp 4) (.tmp 86) rfl (w.heap.size + 1) 0 (cpC (C.set 8 pn)).toArray rfl rfl (by exact fin_there (HM2.out.beg.r1.there Rg.zero) hC1) (cpC_infoA hC1) (cpC_one _) ?_)
    | (refine wpList_store_mid rfl 61 (.tmp 5) (.tmp 87) rfl (w.heap.size + 1 + 1) 0 #[i64 5, i64 0, i64 0, i64 0, i64 0, i64 0] rfl rfl (by exact World.there_setCells HM2.out.beg.r2.there _ _ _) info28 (by kernel_rfl) ?_))
  have hF := HM2.out.beg.fin hC1 ⟨5, 0, 0, 0, 0, 0⟩
  obtain ⟨g1, g2⟩ := hF.results hC1
  first
    | simp only [Exit.jump]
    | rw [Exit.noGoto_ret]
  exact bodyPost_ret (results_two rfl rfl g1 g2) rfl ⟨rfl, hF.bel⟩
end Go.Proofs.YtigbfdloodfdgaaDoor
