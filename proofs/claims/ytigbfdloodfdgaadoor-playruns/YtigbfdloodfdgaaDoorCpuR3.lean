/- The document's Step, what others must do: its contract; no statement is proved in this text. -/
import Derived.Test.YtigbfdloodfdgaaDoorCpuR2
namespace Go.Proofs.YtigbfdloodfdgaaDoor
open Go.ChangeShapes Go.WideShapes Go.ChangeAt Go.RowKit

set_option maxRecDepth 100000 in
set_option maxHeartbeats 1600000 in
theorem rstep_asked0 (w : World) (C : List Nat) (hC : Rg C) (s : ByteArray) (pc a b va vb pn : Nat) (n nx : Int) (hpc : C.getD 8 0 = pc)
    (hA : ∀ w, Calls Tryd.prog 43 #[.string s, i64 pc] w fun e w' => e = .returned (gotV ⟨0, a, b, n⟩ nx 0) ∧ Below w.heap.size w w')
    (ha : a < 8) (hb : b < 8) (hva : C.getD a 0 = va) (hvb : C.getD b 0 = vb) (hpn : wd nx = pn)  :
    Calls Tryd.prog 36 #[cpV C, .string s] w fun e w' => e = .returned (dnV (C.set 8 pn) (⟨1, 0, 0, 0, 0, 0⟩)) ∧ Below w.heap.size w w' := by
  have hpc16 : pc < 65536 := by rw [← hpc]; exact hC.get 8
  have hva16 : va < 65536 := by rw [← hva]; exact hC.get a
  have hvb16 : vb < 65536 := by rw [← hvb]; exact hC.get b
  have hpn16 : pn < 65536 := by rw [← hpn]; exact wd_lt _
  have hpw : IntKind.u16.wrap nx = (pn : Int) := by rw [wrap_u16', ← hpn]; unfold wd; omega
  have HA : Hid (∀ w, Calls Tryd.prog 43 #[.string s, i64 pc] w fun e w' => e = .returned (gotV ⟨0, a, b, n⟩ nx 0) ∧ Below w.heap.size w w') := hA
  have hC1 : Rg (C.set 8 pn) := hC.set _ _ hpn16
  have HVA : Hid (C.getD a 0 = va) := hva
  have HVB : Hid (C.getD b 0 = vb) := hvb
  have HPC : Hid (C.getD 8 0 = pc) := hpc
  have haI : (a : Int) < 8 := by omega
  have hbI : (b : Int) < 8 := by omega
  clear hA hva hvb hpn hpc
  go_enter Tryd.func36, Tryd.ntmps36
  go_upto_region 1 with fail
  have hB := RBeg.start w C
  generalize ((w.alloc (.cells (cpC C).toArray 30)).alloc (.cells #[u16 0, u16 0, u16 0, u16 0, u16 0, u16 0, u16 0, u16 0, u16 0, i64 0, i64 0, i64 0, i64 0, i64 0, i64 0] 88)) = V at *
  have hc8 := hB.r0.cell hC 8 (by omega)
  rw [HPC.out] at hc8
  have HB : Hid (RBeg w V C) := hB
  clear hB
  go_wp2_with fail
  refine (HA.out _).mono ?_
  rintro e w1 ⟨rfl, hb1⟩
  have HB1 : Hid (RBeg w w1 C) := HB.out.below hb1
  have HM3 := hid (RM.start HB1.out hC ⟨0, a, b, n⟩ nx)
  have hB2 := (HB1.out.below (below_one w1 (.cells #[i64 0, i64 a, i64 b, i64 n, i64 nx, i64 0] 98))).below (below_one _ (.cells #[i64 0, i64 a, i64 b, i64 n] 96))
  have ca := hB2.r0.cell hC a (by omega)
  have cb := hB2.r0.cell hC b (by omega)
  rw [HVA.out] at ca
  rw [HVB.out] at cb
  have HB2 := hid hB2
  have hz1 := HB1.out.siz
  clear hb1 HB HA hc8 hB2
  go_upto_region 5 with fail
  obtain ⟨V2, hV2⟩ : ∃ V2, V2 = (w1.alloc (.cells #[i64 0, i64 a, i64 b, i64 n, i64 nx, i64 0] 98)).alloc (.cells #[i64 0, i64 a, i64 b, i64 n] 96) := ⟨_, rfl⟩
  have d1 : V2.cell? ⟨w1.heap.size + 1, 1, none⟩ = some (i64 a) := by rw [hV2, cell_of_row _ _ _ _ 96 (0, 0) (heap_at (by simp) _)]; rfl
  have d2 : V2.cell? ⟨w1.heap.size + 1, 2, none⟩ = some (i64 b) := by rw [hV2, cell_of_row _ _ _ _ 96 (0, 0) (heap_at (by simp) _)]; rfl
  have hz2 : V2.heap.size = w1.heap.size + 1 + 1 := by rw [hV2]; simp
  have HZ2 : Hid (V2.heap.size = w1.heap.size + 1 + 1) := hz2
  rw [← hV2] at HM3 HB2 ca cb ⊢
  clear hV2 hz2
  go_upto_region 7 with fail
  clear ca cb d1 d2
  have HT9 : Hid ((V2.alloc (.cells #[u16 0, u16 0, u16 0, u16 0, u16 0, u16 0, u16 0, u16 0, u16 0] 30)).there V2.heap.size 0 (cpC C).toArray.size) := by
    have := fin_there (Row.there (V := V2.alloc (.cells #[u16 0, u16 0, u16 0, u16 0, u16 0, u16 0, u16 0, u16 0, u16 0] 30)) (b := V2.heap.size) (C := z9) ⟨heap_at rfl _⟩ Rg.zero) hC
    exact this
  rw [← HZ2.out] at HM3
  go_upto_region 8 with (first
    | (refine wpList_load_mid rfl 30 (.tmp 2) rfl w.heap.size 0 rfl (cpC C) _ (by exact HB2.out.r0.range) Tryd.underlying30 rfl (cpC_info hC) ?_)
    | (refine wpList_store_mid rfl 30 (.tmp 9) (.tmp 34) rfl V2.heap.size 0 (cpC C).toArray rfl rfl (by exact HT9.out) (cpC_infoA hC) (cpC_one _) ?_))
  have hM3 := HM3.out
  generalize (V2.alloc (.cells #[u16 0, u16 0, u16 0, u16 0, u16 0, u16 0, u16 0, u16 0, u16 0] 30)).setCells V2.heap.size 0 (cpC C) = V3 at *
  generalize V2.heap.size = q3 at *
  generalize w1.heap.size = q at *
  clear HT9 HM3
  have c8 := hM3.n3.cell hC 8 (by omega)
  have f8 := hM3.n3.free 8
  have g4 := hM3.cells.1
  obtain ⟨V4, hV4⟩ : ∃ V4, V4 = V3.setCell ⟨q3, 8, none⟩ (u16 pn) := ⟨_, rfl⟩
  have hM4 := hM3.set 8 pn
  rw [← hV4] at hM4
  have HM4 : Hid (RM w V4 C (C.set 8 pn) q (q + 1) q3 ⟨0, a, b, n⟩ nx) := hM4
  have HV4 : Hid (V4 = V3.setCell ⟨q3, 8, none⟩ (u16 pn)) := hV4
  clear hM3 hM4 hV4
  go_upto_region 9 with fail
  rw [← HV4.out]
  obtain ⟨g4', q0, q1, q2, q3'⟩ := HM4.out.cells
  clear c8 f8 g4 HZ2
  go_wp2_with (first
    | (refine wpList_load_mid rfl 30 (.tmp 9) rfl q3 0 rfl (cpC (C.set 8 pn)) _ (by exact HM4.out.n3.range) Tryd.underlying30 rfl (cpC_info hC1) ?_)
    | (refine wpList_build2 rfl (.tmp 53) (.tmp 54) rfl (C := C.set 8 pn) ⟨1, 0, 0, 0, 0, 0⟩ rfl rfl hC1 ?_)
    | (refine wpList_store_mid rfl 88 (.tmp 4) (.tmp 55) rfl (w.heap.size + 1) 0 (dnC (C.set 8 pn) ⟨1, 0, 0, 0, 0, 0⟩).toArray rfl rfl (by exact HM4.out.beg.thr hC1 ⟨1, 0, 0, 0, 0, 0⟩) (dnC_infoA hC1 ⟨1, 0, 0, 0, 0, 0⟩) (dnC_one _ _) ?_))
  obtain ⟨g1, g2⟩ := HM4.out.beg.fin hC1 ⟨1, 0, 0, 0, 0, 0⟩
  exact bodyPost_ret (results_done rfl g1) rfl ⟨rfl, g2⟩
set_option maxRecDepth 100000 in
set_option maxHeartbeats 1600000 in
theorem rstep_asked14 (w : World) (C : List Nat) (hC : Rg C) (s : ByteArray) (pc a b va vb pn : Nat) (n nx : Int) (hpc : C.getD 8 0 = pc)
    (hA : ∀ w, Calls Tryd.prog 43 #[.string s, i64 pc] w fun e w' => e = .returned (gotV ⟨14, a, b, n⟩ nx 0) ∧ Below w.heap.size w w')
    (ha : a < 8) (hb : b < 8) (hva : C.getD a 0 = va) (hvb : C.getD b 0 = vb) (hpn : wd nx = pn)  :
    Calls Tryd.prog 36 #[cpV C, .string s] w fun e w' => e = .returned (dnV (C.set 8 pn) (⟨4, 0, 0, va, 1, (vb % 256 : Nat)⟩)) ∧ Below w.heap.size w w' := by
  have hpc16 : pc < 65536 := by rw [← hpc]; exact hC.get 8
  have hva16 : va < 65536 := by rw [← hva]; exact hC.get a
  have hvb16 : vb < 65536 := by rw [← hvb]; exact hC.get b
  have hpn16 : pn < 65536 := by rw [← hpn]; exact wd_lt _
  have hpw : IntKind.u16.wrap nx = (pn : Int) := by rw [wrap_u16', ← hpn]; unfold wd; omega
  have HA : Hid (∀ w, Calls Tryd.prog 43 #[.string s, i64 pc] w fun e w' => e = .returned (gotV ⟨14, a, b, n⟩ nx 0) ∧ Below w.heap.size w w') := hA
  have hC1 : Rg (C.set 8 pn) := hC.set _ _ hpn16
  have HVA : Hid (C.getD a 0 = va) := hva
  have HVB : Hid (C.getD b 0 = vb) := hvb
  have HPC : Hid (C.getD 8 0 = pc) := hpc
  have haI : (a : Int) < 8 := by omega
  have hbI : (b : Int) < 8 := by omega
  clear hA hva hvb hpn hpc
  go_enter Tryd.func36, Tryd.ntmps36
  go_upto_region 1 with fail
  have hB := RBeg.start w C
  generalize ((w.alloc (.cells (cpC C).toArray 30)).alloc (.cells #[u16 0, u16 0, u16 0, u16 0, u16 0, u16 0, u16 0, u16 0, u16 0, i64 0, i64 0, i64 0, i64 0, i64 0, i64 0] 88)) = V at *
  have hc8 := hB.r0.cell hC 8 (by omega)
  rw [HPC.out] at hc8
  have HB : Hid (RBeg w V C) := hB
  clear hB
  go_wp2_with fail
  refine (HA.out _).mono ?_
  rintro e w1 ⟨rfl, hb1⟩
  have HB1 : Hid (RBeg w w1 C) := HB.out.below hb1
  have HM3 := hid (RM.start HB1.out hC ⟨14, a, b, n⟩ nx)
  have hB2 := (HB1.out.below (below_one w1 (.cells #[i64 14, i64 a, i64 b, i64 n, i64 nx, i64 0] 98))).below (below_one _ (.cells #[i64 14, i64 a, i64 b, i64 n] 96))
  have ca := hB2.r0.cell hC a (by omega)
  have cb := hB2.r0.cell hC b (by omega)
  rw [HVA.out] at ca
  rw [HVB.out] at cb
  have HB2 := hid hB2
  have hz1 := HB1.out.siz
  clear hb1 HB HA hc8 hB2
  go_upto_region 5 with fail
  obtain ⟨V2, hV2⟩ : ∃ V2, V2 = (w1.alloc (.cells #[i64 14, i64 a, i64 b, i64 n, i64 nx, i64 0] 98)).alloc (.cells #[i64 14, i64 a, i64 b, i64 n] 96) := ⟨_, rfl⟩
  have d1 : V2.cell? ⟨w1.heap.size + 1, 1, none⟩ = some (i64 a) := by rw [hV2, cell_of_row _ _ _ _ 96 (0, 0) (heap_at (by simp) _)]; rfl
  have d2 : V2.cell? ⟨w1.heap.size + 1, 2, none⟩ = some (i64 b) := by rw [hV2, cell_of_row _ _ _ _ 96 (0, 0) (heap_at (by simp) _)]; rfl
  have hz2 : V2.heap.size = w1.heap.size + 1 + 1 := by rw [hV2]; simp
  have HZ2 : Hid (V2.heap.size = w1.heap.size + 1 + 1) := hz2
  rw [← hV2] at HM3 HB2 ca cb ⊢
  clear hV2 hz2
  go_upto_region 7 with fail
  clear ca cb d1 d2
  have HT9 : Hid ((V2.alloc (.cells #[u16 0, u16 0, u16 0, u16 0, u16 0, u16 0, u16 0, u16 0, u16 0] 30)).there V2.heap.size 0 (cpC C).toArray.size) := by
    have := fin_there (Row.there (V := V2.alloc (.cells #[u16 0, u16 0, u16 0, u16 0, u16 0, u16 0, u16 0, u16 0, u16 0] 30)) (b := V2.heap.size) (C := z9) ⟨heap_at rfl _⟩ Rg.zero) hC
    exact this
  rw [← HZ2.out] at HM3
  go_upto_region 8 with (first
    | (refine wpList_load_mid rfl 30 (.tmp 2) rfl w.heap.size 0 rfl (cpC C) _ (by exact HB2.out.r0.range) Tryd.underlying30 rfl (cpC_info hC) ?_)
    | (refine wpList_store_mid rfl 30 (.tmp 9) (.tmp 34) rfl V2.heap.size 0 (cpC C).toArray rfl rfl (by exact HT9.out) (cpC_infoA hC) (cpC_one _) ?_))
  have hM3 := HM3.out
  generalize (V2.alloc (.cells #[u16 0, u16 0, u16 0, u16 0, u16 0, u16 0, u16 0, u16 0, u16 0] 30)).setCells V2.heap.size 0 (cpC C) = V3 at *
  generalize V2.heap.size = q3 at *
  generalize w1.heap.size = q at *
  clear HT9 HM3
  have c8 := hM3.n3.cell hC 8 (by omega)
  have f8 := hM3.n3.free 8
  have g4 := hM3.cells.1
  obtain ⟨V4, hV4⟩ : ∃ V4, V4 = V3.setCell ⟨q3, 8, none⟩ (u16 pn) := ⟨_, rfl⟩
  have hM4 := hM3.set 8 pn
  rw [← hV4] at hM4
  have HM4 : Hid (RM w V4 C (C.set 8 pn) q (q + 1) q3 ⟨14, a, b, n⟩ nx) := hM4
  have HV4 : Hid (V4 = V3.setCell ⟨q3, 8, none⟩ (u16 pn)) := hV4
  clear hM3 hM4 hV4
  go_upto_region 9 with fail
  rw [← HV4.out]
  obtain ⟨g4', q0, q1, q2, q3'⟩ := HM4.out.cells
  clear c8 f8 g4 HZ2
  go_wp2_with (first
    | (refine wpList_load_mid rfl 30 (.tmp 9) rfl q3 0 rfl (cpC (C.set 8 pn)) _ (by exact HM4.out.n3.range) Tryd.underlying30 rfl (cpC_info hC1) ?_)
    | (refine wpList_build2 rfl (.tmp 81) (.tmp 85) rfl (C := C.set 8 pn) ⟨4, 0, 0, va, 1, (vb % 256 : Nat)⟩ rfl rfl hC1 ?_)
    | (refine wpList_store_mid rfl 88 (.tmp 4) (.tmp 86) rfl (w.heap.size + 1) 0 (dnC (C.set 8 pn) ⟨4, 0, 0, va, 1, (vb % 256 : Nat)⟩).toArray rfl rfl (by exact HM4.out.beg.thr hC1 ⟨4, 0, 0, va, 1, (vb % 256 : Nat)⟩) (dnC_infoA hC1 ⟨4, 0, 0, va, 1, (vb % 256 : Nat)⟩) (dnC_one _ _) ?_))
  obtain ⟨g1, g2⟩ := HM4.out.beg.fin hC1 ⟨4, 0, 0, va, 1, (vb % 256 : Nat)⟩
  exact bodyPost_ret (results_done rfl g1) rfl ⟨rfl, g2⟩
set_option maxRecDepth 100000 in
set_option maxHeartbeats 1600000 in
theorem rstep_asked20 (w : World) (C : List Nat) (hC : Rg C) (s : ByteArray) (pc a b va vb pn : Nat) (n nx : Int) (hpc : C.getD 8 0 = pc)
    (hA : ∀ w, Calls Tryd.prog 43 #[.string s, i64 pc] w fun e w' => e = .returned (gotV ⟨20, a, b, n⟩ nx 0) ∧ Below w.heap.size w w')
    (ha : a < 8) (hb : b < 8) (hva : C.getD a 0 = va) (hvb : C.getD b 0 = vb) (hpn : wd nx = pn)  :
    Calls Tryd.prog 36 #[cpV C, .string s] w fun e w' => e = .returned (dnV (C.set 8 pn) (⟨2, n, 0, 0, 0, 0⟩)) ∧ Below w.heap.size w w' := by
  have hpc16 : pc < 65536 := by rw [← hpc]; exact hC.get 8
  have hva16 : va < 65536 := by rw [← hva]; exact hC.get a
  have hvb16 : vb < 65536 := by rw [← hvb]; exact hC.get b
  have hpn16 : pn < 65536 := by rw [← hpn]; exact wd_lt _
  have hpw : IntKind.u16.wrap nx = (pn : Int) := by rw [wrap_u16', ← hpn]; unfold wd; omega
  have HA : Hid (∀ w, Calls Tryd.prog 43 #[.string s, i64 pc] w fun e w' => e = .returned (gotV ⟨20, a, b, n⟩ nx 0) ∧ Below w.heap.size w w') := hA
  have hC1 : Rg (C.set 8 pn) := hC.set _ _ hpn16
  have HVA : Hid (C.getD a 0 = va) := hva
  have HVB : Hid (C.getD b 0 = vb) := hvb
  have HPC : Hid (C.getD 8 0 = pc) := hpc
  have haI : (a : Int) < 8 := by omega
  have hbI : (b : Int) < 8 := by omega
  clear hA hva hvb hpn hpc
  go_enter Tryd.func36, Tryd.ntmps36
  go_upto_region 1 with fail
  have hB := RBeg.start w C
  generalize ((w.alloc (.cells (cpC C).toArray 30)).alloc (.cells #[u16 0, u16 0, u16 0, u16 0, u16 0, u16 0, u16 0, u16 0, u16 0, i64 0, i64 0, i64 0, i64 0, i64 0, i64 0] 88)) = V at *
  have hc8 := hB.r0.cell hC 8 (by omega)
  rw [HPC.out] at hc8
  have HB : Hid (RBeg w V C) := hB
  clear hB
  go_wp2_with fail
  refine (HA.out _).mono ?_
  rintro e w1 ⟨rfl, hb1⟩
  have HB1 : Hid (RBeg w w1 C) := HB.out.below hb1
  have HM3 := hid (RM.start HB1.out hC ⟨20, a, b, n⟩ nx)
  have hB2 := (HB1.out.below (below_one w1 (.cells #[i64 20, i64 a, i64 b, i64 n, i64 nx, i64 0] 98))).below (below_one _ (.cells #[i64 20, i64 a, i64 b, i64 n] 96))
  have ca := hB2.r0.cell hC a (by omega)
  have cb := hB2.r0.cell hC b (by omega)
  rw [HVA.out] at ca
  rw [HVB.out] at cb
  have HB2 := hid hB2
  have hz1 := HB1.out.siz
  clear hb1 HB HA hc8 hB2
  go_upto_region 5 with fail
  obtain ⟨V2, hV2⟩ : ∃ V2, V2 = (w1.alloc (.cells #[i64 20, i64 a, i64 b, i64 n, i64 nx, i64 0] 98)).alloc (.cells #[i64 20, i64 a, i64 b, i64 n] 96) := ⟨_, rfl⟩
  have d1 : V2.cell? ⟨w1.heap.size + 1, 1, none⟩ = some (i64 a) := by rw [hV2, cell_of_row _ _ _ _ 96 (0, 0) (heap_at (by simp) _)]; rfl
  have d2 : V2.cell? ⟨w1.heap.size + 1, 2, none⟩ = some (i64 b) := by rw [hV2, cell_of_row _ _ _ _ 96 (0, 0) (heap_at (by simp) _)]; rfl
  have hz2 : V2.heap.size = w1.heap.size + 1 + 1 := by rw [hV2]; simp
  have HZ2 : Hid (V2.heap.size = w1.heap.size + 1 + 1) := hz2
  rw [← hV2] at HM3 HB2 ca cb ⊢
  clear hV2 hz2
  go_upto_region 7 with fail
  clear ca cb d1 d2
  have HT9 : Hid ((V2.alloc (.cells #[u16 0, u16 0, u16 0, u16 0, u16 0, u16 0, u16 0, u16 0, u16 0] 30)).there V2.heap.size 0 (cpC C).toArray.size) := by
    have := fin_there (Row.there (V := V2.alloc (.cells #[u16 0, u16 0, u16 0, u16 0, u16 0, u16 0, u16 0, u16 0, u16 0] 30)) (b := V2.heap.size) (C := z9) ⟨heap_at rfl _⟩ Rg.zero) hC
    exact this
  rw [← HZ2.out] at HM3
  go_upto_region 8 with (first
    | (refine wpList_load_mid rfl 30 (.tmp 2) rfl w.heap.size 0 rfl (cpC C) _ (by exact HB2.out.r0.range) Tryd.underlying30 rfl (cpC_info hC) ?_)
    | (refine wpList_store_mid rfl 30 (.tmp 9) (.tmp 34) rfl V2.heap.size 0 (cpC C).toArray rfl rfl (by exact HT9.out) (cpC_infoA hC) (cpC_one _) ?_))
  have hM3 := HM3.out
  generalize (V2.alloc (.cells #[u16 0, u16 0, u16 0, u16 0, u16 0, u16 0, u16 0, u16 0, u16 0] 30)).setCells V2.heap.size 0 (cpC C) = V3 at *
  generalize V2.heap.size = q3 at *
  generalize w1.heap.size = q at *
  clear HT9 HM3
  have c8 := hM3.n3.cell hC 8 (by omega)
  have f8 := hM3.n3.free 8
  have g4 := hM3.cells.1
  obtain ⟨V4, hV4⟩ : ∃ V4, V4 = V3.setCell ⟨q3, 8, none⟩ (u16 pn) := ⟨_, rfl⟩
  have hM4 := hM3.set 8 pn
  rw [← hV4] at hM4
  have HM4 : Hid (RM w V4 C (C.set 8 pn) q (q + 1) q3 ⟨20, a, b, n⟩ nx) := hM4
  have HV4 : Hid (V4 = V3.setCell ⟨q3, 8, none⟩ (u16 pn)) := hV4
  clear hM3 hM4 hV4
  go_upto_region 9 with fail
  rw [← HV4.out]
  obtain ⟨g4', q0, q1, q2, q3'⟩ := HM4.out.cells
  clear c8 f8 g4 HZ2
  go_wp2_with (first
    | (refine wpList_load_mid rfl 30 (.tmp 9) rfl q3 0 rfl (cpC (C.set 8 pn)) _ (by exact HM4.out.n3.range) Tryd.underlying30 rfl (cpC_info hC1) ?_)
    | (refine wpList_build2 rfl (.tmp 58) (.tmp 61) rfl (C := C.set 8 pn) ⟨2, n, 0, 0, 0, 0⟩ rfl rfl hC1 ?_)
    | (refine wpList_store_mid rfl 88 (.tmp 4) (.tmp 62) rfl (w.heap.size + 1) 0 (dnC (C.set 8 pn) ⟨2, n, 0, 0, 0, 0⟩).toArray rfl rfl (by exact HM4.out.beg.thr hC1 ⟨2, n, 0, 0, 0, 0⟩) (dnC_infoA hC1 ⟨2, n, 0, 0, 0, 0⟩) (dnC_one _ _) ?_))
  obtain ⟨g1, g2⟩ := HM4.out.beg.fin hC1 ⟨2, n, 0, 0, 0, 0⟩
  exact bodyPost_ret (results_done rfl g1) rfl ⟨rfl, g2⟩
set_option maxRecDepth 100000 in
set_option maxHeartbeats 1600000 in
theorem rstep_asked13 (w : World) (C : List Nat) (hC : Rg C) (s : ByteArray) (pc a b va vb pn : Nat) (n nx : Int) (hpc : C.getD 8 0 = pc)
    (hA : ∀ w, Calls Tryd.prog 43 #[.string s, i64 pc] w fun e w' => e = .returned (gotV ⟨13, a, b, n⟩ nx 0) ∧ Below w.heap.size w w')
    (ha : a < 8) (hb : b < 8) (hva : C.getD a 0 = va) (hvb : C.getD b 0 = vb) (hpn : wd nx = pn)  :
    Calls Tryd.prog 36 #[cpV C, .string s] w fun e w' => e = .returned (dnV (C.set 8 pn) (⟨3, 0, a, vb, 1, 0⟩)) ∧ Below w.heap.size w w' := by
  have hpc16 : pc < 65536 := by rw [← hpc]; exact hC.get 8
  have hva16 : va < 65536 := by rw [← hva]; exact hC.get a
  have hvb16 : vb < 65536 := by rw [← hvb]; exact hC.get b
  have hpn16 : pn < 65536 := by rw [← hpn]; exact wd_lt _
  have hpw : IntKind.u16.wrap nx = (pn : Int) := by rw [wrap_u16', ← hpn]; unfold wd; omega
  have HA : Hid (∀ w, Calls Tryd.prog 43 #[.string s, i64 pc] w fun e w' => e = .returned (gotV ⟨13, a, b, n⟩ nx 0) ∧ Below w.heap.size w w') := hA
  have hC1 : Rg (C.set 8 pn) := hC.set _ _ hpn16
  have HVA : Hid (C.getD a 0 = va) := hva
  have HVB : Hid (C.getD b 0 = vb) := hvb
  have HPC : Hid (C.getD 8 0 = pc) := hpc
  have haI : (a : Int) < 8 := by omega
  have hbI : (b : Int) < 8 := by omega
  clear hA hva hvb hpn hpc
  go_enter Tryd.func36, Tryd.ntmps36
  go_upto_region 1 with fail
  have hB := RBeg.start w C
  generalize ((w.alloc (.cells (cpC C).toArray 30)).alloc (.cells #[u16 0, u16 0, u16 0, u16 0, u16 0, u16 0, u16 0, u16 0, u16 0, i64 0, i64 0, i64 0, i64 0, i64 0, i64 0] 88)) = V at *
  have hc8 := hB.r0.cell hC 8 (by omega)
  rw [HPC.out] at hc8
  have HB : Hid (RBeg w V C) := hB
  clear hB
  go_wp2_with fail
  refine (HA.out _).mono ?_
  rintro e w1 ⟨rfl, hb1⟩
  have HB1 : Hid (RBeg w w1 C) := HB.out.below hb1
  have HM3 := hid (RM.start HB1.out hC ⟨13, a, b, n⟩ nx)
  have hB2 := (HB1.out.below (below_one w1 (.cells #[i64 13, i64 a, i64 b, i64 n, i64 nx, i64 0] 98))).below (below_one _ (.cells #[i64 13, i64 a, i64 b, i64 n] 96))
  have ca := hB2.r0.cell hC a (by omega)
  have cb := hB2.r0.cell hC b (by omega)
  rw [HVA.out] at ca
  rw [HVB.out] at cb
  have HB2 := hid hB2
  have hz1 := HB1.out.siz
  clear hb1 HB HA hc8 hB2
  go_upto_region 5 with fail
  obtain ⟨V2, hV2⟩ : ∃ V2, V2 = (w1.alloc (.cells #[i64 13, i64 a, i64 b, i64 n, i64 nx, i64 0] 98)).alloc (.cells #[i64 13, i64 a, i64 b, i64 n] 96) := ⟨_, rfl⟩
  have d1 : V2.cell? ⟨w1.heap.size + 1, 1, none⟩ = some (i64 a) := by rw [hV2, cell_of_row _ _ _ _ 96 (0, 0) (heap_at (by simp) _)]; rfl
  have d2 : V2.cell? ⟨w1.heap.size + 1, 2, none⟩ = some (i64 b) := by rw [hV2, cell_of_row _ _ _ _ 96 (0, 0) (heap_at (by simp) _)]; rfl
  have hz2 : V2.heap.size = w1.heap.size + 1 + 1 := by rw [hV2]; simp
  have HZ2 : Hid (V2.heap.size = w1.heap.size + 1 + 1) := hz2
  rw [← hV2] at HM3 HB2 ca cb ⊢
  clear hV2 hz2
  go_upto_region 7 with fail
  clear ca cb d1 d2
  have HT9 : Hid ((V2.alloc (.cells #[u16 0, u16 0, u16 0, u16 0, u16 0, u16 0, u16 0, u16 0, u16 0] 30)).there V2.heap.size 0 (cpC C).toArray.size) := by
    have := fin_there (Row.there (V := V2.alloc (.cells #[u16 0, u16 0, u16 0, u16 0, u16 0, u16 0, u16 0, u16 0, u16 0] 30)) (b := V2.heap.size) (C := z9) ⟨heap_at rfl _⟩ Rg.zero) hC
    exact this
  rw [← HZ2.out] at HM3
  go_upto_region 8 with (first
    | (refine wpList_load_mid rfl 30 (.tmp 2) rfl w.heap.size 0 rfl (cpC C) _ (by exact HB2.out.r0.range) Tryd.underlying30 rfl (cpC_info hC) ?_)
    | (refine wpList_store_mid rfl 30 (.tmp 9) (.tmp 34) rfl V2.heap.size 0 (cpC C).toArray rfl rfl (by exact HT9.out) (cpC_infoA hC) (cpC_one _) ?_))
  have hM3 := HM3.out
  generalize (V2.alloc (.cells #[u16 0, u16 0, u16 0, u16 0, u16 0, u16 0, u16 0, u16 0, u16 0] 30)).setCells V2.heap.size 0 (cpC C) = V3 at *
  generalize V2.heap.size = q3 at *
  generalize w1.heap.size = q at *
  clear HT9 HM3
  have c8 := hM3.n3.cell hC 8 (by omega)
  have f8 := hM3.n3.free 8
  have g4 := hM3.cells.1
  obtain ⟨V4, hV4⟩ : ∃ V4, V4 = V3.setCell ⟨q3, 8, none⟩ (u16 pn) := ⟨_, rfl⟩
  have hM4 := hM3.set 8 pn
  rw [← hV4] at hM4
  have HM4 : Hid (RM w V4 C (C.set 8 pn) q (q + 1) q3 ⟨13, a, b, n⟩ nx) := hM4
  have HV4 : Hid (V4 = V3.setCell ⟨q3, 8, none⟩ (u16 pn)) := hV4
  clear hM3 hM4 hV4
  go_upto_region 9 with fail
  rw [← HV4.out]
  obtain ⟨g4', q0, q1, q2, q3'⟩ := HM4.out.cells
  clear c8 f8 g4 HZ2
  go_wp2_with (first
    | (refine wpList_load_mid rfl 30 (.tmp 9) rfl q3 0 rfl (cpC (C.set 8 pn)) _ (by exact HM4.out.n3.range) Tryd.underlying30 rfl (cpC_info hC1) ?_)
    | (refine wpList_build2 rfl (.tmp 65) (.tmp 69) rfl (C := C.set 8 pn) ⟨3, 0, a, vb, 1, 0⟩ rfl rfl hC1 ?_)
    | (refine wpList_store_mid rfl 88 (.tmp 4) (.tmp 70) rfl (w.heap.size + 1) 0 (dnC (C.set 8 pn) ⟨3, 0, a, vb, 1, 0⟩).toArray rfl rfl (by exact HM4.out.beg.thr hC1 ⟨3, 0, a, vb, 1, 0⟩) (dnC_infoA hC1 ⟨3, 0, a, vb, 1, 0⟩) (dnC_one _ _) ?_))
  obtain ⟨g1, g2⟩ := HM4.out.beg.fin hC1 ⟨3, 0, a, vb, 1, 0⟩
  exact bodyPost_ret (results_done rfl g1) rfl ⟨rfl, g2⟩
set_option maxRecDepth 100000 in
set_option maxHeartbeats 1600000 in
theorem rstep_asked15 (w : World) (C : List Nat) (hC : Rg C) (s : ByteArray) (pc a b va vb pn : Nat) (n nx : Int) (hpc : C.getD 8 0 = pc)
    (hA : ∀ w, Calls Tryd.prog 43 #[.string s, i64 pc] w fun e w' => e = .returned (gotV ⟨15, a, b, n⟩ nx 0) ∧ Below w.heap.size w w')
    (ha : a < 8) (hb : b < 8) (hva : C.getD a 0 = va) (hvb : C.getD b 0 = vb) (hpn : wd nx = pn)  :
    Calls Tryd.prog 36 #[cpV C, .string s] w fun e w' => e = .returned (dnV (C.set 8 pn) (⟨3, 0, a, vb, 2, 0⟩)) ∧ Below w.heap.size w w' := by
  have hpc16 : pc < 65536 := by rw [← hpc]; exact hC.get 8
  have hva16 : va < 65536 := by rw [← hva]; exact hC.get a
  have hvb16 : vb < 65536 := by rw [← hvb]; exact hC.get b
  have hpn16 : pn < 65536 := by rw [← hpn]; exact wd_lt _
  have hpw : IntKind.u16.wrap nx = (pn : Int) := by rw [wrap_u16', ← hpn]; unfold wd; omega
  have HA : Hid (∀ w, Calls Tryd.prog 43 #[.string s, i64 pc] w fun e w' => e = .returned (gotV ⟨15, a, b, n⟩ nx 0) ∧ Below w.heap.size w w') := hA
  have hC1 : Rg (C.set 8 pn) := hC.set _ _ hpn16
  have HVA : Hid (C.getD a 0 = va) := hva
  have HVB : Hid (C.getD b 0 = vb) := hvb
  have HPC : Hid (C.getD 8 0 = pc) := hpc
  have haI : (a : Int) < 8 := by omega
  have hbI : (b : Int) < 8 := by omega
  clear hA hva hvb hpn hpc
  go_enter Tryd.func36, Tryd.ntmps36
  go_upto_region 1 with fail
  have hB := RBeg.start w C
  generalize ((w.alloc (.cells (cpC C).toArray 30)).alloc (.cells #[u16 0, u16 0, u16 0, u16 0, u16 0, u16 0, u16 0, u16 0, u16 0, i64 0, i64 0, i64 0, i64 0, i64 0, i64 0] 88)) = V at *
  have hc8 := hB.r0.cell hC 8 (by omega)
  rw [HPC.out] at hc8
  have HB : Hid (RBeg w V C) := hB
  clear hB
  go_wp2_with fail
  refine (HA.out _).mono ?_
  rintro e w1 ⟨rfl, hb1⟩
  have HB1 : Hid (RBeg w w1 C) := HB.out.below hb1
  have HM3 := hid (RM.start HB1.out hC ⟨15, a, b, n⟩ nx)
  have hB2 := (HB1.out.below (below_one w1 (.cells #[i64 15, i64 a, i64 b, i64 n, i64 nx, i64 0] 98))).below (below_one _ (.cells #[i64 15, i64 a, i64 b, i64 n] 96))
  have ca := hB2.r0.cell hC a (by omega)
  have cb := hB2.r0.cell hC b (by omega)
  rw [HVA.out] at ca
  rw [HVB.out] at cb
  have HB2 := hid hB2
  have hz1 := HB1.out.siz
  clear hb1 HB HA hc8 hB2
  go_upto_region 5 with fail
  obtain ⟨V2, hV2⟩ : ∃ V2, V2 = (w1.alloc (.cells #[i64 15, i64 a, i64 b, i64 n, i64 nx, i64 0] 98)).alloc (.cells #[i64 15, i64 a, i64 b, i64 n] 96) := ⟨_, rfl⟩
  have d1 : V2.cell? ⟨w1.heap.size + 1, 1, none⟩ = some (i64 a) := by rw [hV2, cell_of_row _ _ _ _ 96 (0, 0) (heap_at (by simp) _)]; rfl
  have d2 : V2.cell? ⟨w1.heap.size + 1, 2, none⟩ = some (i64 b) := by rw [hV2, cell_of_row _ _ _ _ 96 (0, 0) (heap_at (by simp) _)]; rfl
  have hz2 : V2.heap.size = w1.heap.size + 1 + 1 := by rw [hV2]; simp
  have HZ2 : Hid (V2.heap.size = w1.heap.size + 1 + 1) := hz2
  rw [← hV2] at HM3 HB2 ca cb ⊢
  clear hV2 hz2
  go_upto_region 7 with fail
  clear ca cb d1 d2
  have HT9 : Hid ((V2.alloc (.cells #[u16 0, u16 0, u16 0, u16 0, u16 0, u16 0, u16 0, u16 0, u16 0] 30)).there V2.heap.size 0 (cpC C).toArray.size) := by
    have := fin_there (Row.there (V := V2.alloc (.cells #[u16 0, u16 0, u16 0, u16 0, u16 0, u16 0, u16 0, u16 0, u16 0] 30)) (b := V2.heap.size) (C := z9) ⟨heap_at rfl _⟩ Rg.zero) hC
    exact this
  rw [← HZ2.out] at HM3
  go_upto_region 8 with (first
    | (refine wpList_load_mid rfl 30 (.tmp 2) rfl w.heap.size 0 rfl (cpC C) _ (by exact HB2.out.r0.range) Tryd.underlying30 rfl (cpC_info hC) ?_)
    | (refine wpList_store_mid rfl 30 (.tmp 9) (.tmp 34) rfl V2.heap.size 0 (cpC C).toArray rfl rfl (by exact HT9.out) (cpC_infoA hC) (cpC_one _) ?_))
  have hM3 := HM3.out
  generalize (V2.alloc (.cells #[u16 0, u16 0, u16 0, u16 0, u16 0, u16 0, u16 0, u16 0, u16 0] 30)).setCells V2.heap.size 0 (cpC C) = V3 at *
  generalize V2.heap.size = q3 at *
  generalize w1.heap.size = q at *
  clear HT9 HM3
  have c8 := hM3.n3.cell hC 8 (by omega)
  have f8 := hM3.n3.free 8
  have g4 := hM3.cells.1
  obtain ⟨V4, hV4⟩ : ∃ V4, V4 = V3.setCell ⟨q3, 8, none⟩ (u16 pn) := ⟨_, rfl⟩
  have hM4 := hM3.set 8 pn
  rw [← hV4] at hM4
  have HM4 : Hid (RM w V4 C (C.set 8 pn) q (q + 1) q3 ⟨15, a, b, n⟩ nx) := hM4
  have HV4 : Hid (V4 = V3.setCell ⟨q3, 8, none⟩ (u16 pn)) := hV4
  clear hM3 hM4 hV4
  go_upto_region 9 with fail
  rw [← HV4.out]
  obtain ⟨g4', q0, q1, q2, q3'⟩ := HM4.out.cells
  clear c8 f8 g4 HZ2
  go_wp2_with (first
    | (refine wpList_load_mid rfl 30 (.tmp 9) rfl q3 0 rfl (cpC (C.set 8 pn)) _ (by exact HM4.out.n3.range) Tryd.underlying30 rfl (cpC_info hC1) ?_)
    | (refine wpList_build2 rfl (.tmp 73) (.tmp 77) rfl (C := C.set 8 pn) ⟨3, 0, a, vb, 2, 0⟩ rfl rfl hC1 ?_)
    | (refine wpList_store_mid rfl 88 (.tmp 4) (.tmp 78) rfl (w.heap.size + 1) 0 (dnC (C.set 8 pn) ⟨3, 0, a, vb, 2, 0⟩).toArray rfl rfl (by exact HM4.out.beg.thr hC1 ⟨3, 0, a, vb, 2, 0⟩) (dnC_infoA hC1 ⟨3, 0, a, vb, 2, 0⟩) (dnC_one _ _) ?_))
  obtain ⟨g1, g2⟩ := HM4.out.beg.fin hC1 ⟨3, 0, a, vb, 2, 0⟩
  exact bodyPost_ret (results_done rfl g1) rfl ⟨rfl, g2⟩
set_option maxRecDepth 100000 in
set_option maxHeartbeats 1600000 in
theorem rstep_asked16 (w : World) (C : List Nat) (hC : Rg C) (s : ByteArray) (pc a b va vb pn : Nat) (n nx : Int) (hpc : C.getD 8 0 = pc)
    (hA : ∀ w, Calls Tryd.prog 43 #[.string s, i64 pc] w fun e w' => e = .returned (gotV ⟨16, a, b, n⟩ nx 0) ∧ Below w.heap.size w w')
    (ha : a < 8) (hb : b < 8) (hva : C.getD a 0 = va) (hvb : C.getD b 0 = vb) (hpn : wd nx = pn)  :
    Calls Tryd.prog 36 #[cpV C, .string s] w fun e w' => e = .returned (dnV (C.set 8 pn) (⟨4, 0, 0, va, 2, vb⟩)) ∧ Below w.heap.size w w' := by
  have hpc16 : pc < 65536 := by rw [← hpc]; exact hC.get 8
  have hva16 : va < 65536 := by rw [← hva]; exact hC.get a
  have hvb16 : vb < 65536 := by rw [← hvb]; exact hC.get b
  have hpn16 : pn < 65536 := by rw [← hpn]; exact wd_lt _
  have hpw : IntKind.u16.wrap nx = (pn : Int) := by rw [wrap_u16', ← hpn]; unfold wd; omega
  have HA : Hid (∀ w, Calls Tryd.prog 43 #[.string s, i64 pc] w fun e w' => e = .returned (gotV ⟨16, a, b, n⟩ nx 0) ∧ Below w.heap.size w w') := hA
  have hC1 : Rg (C.set 8 pn) := hC.set _ _ hpn16
  have HVA : Hid (C.getD a 0 = va) := hva
  have HVB : Hid (C.getD b 0 = vb) := hvb
  have HPC : Hid (C.getD 8 0 = pc) := hpc
  have haI : (a : Int) < 8 := by omega
  have hbI : (b : Int) < 8 := by omega
  clear hA hva hvb hpn hpc
  go_enter Tryd.func36, Tryd.ntmps36
  go_upto_region 1 with fail
  have hB := RBeg.start w C
  generalize ((w.alloc (.cells (cpC C).toArray 30)).alloc (.cells #[u16 0, u16 0, u16 0, u16 0, u16 0, u16 0, u16 0, u16 0, u16 0, i64 0, i64 0, i64 0, i64 0, i64 0, i64 0] 88)) = V at *
  have hc8 := hB.r0.cell hC 8 (by omega)
  rw [HPC.out] at hc8
  have HB : Hid (RBeg w V C) := hB
  clear hB
  go_wp2_with fail
  refine (HA.out _).mono ?_
  rintro e w1 ⟨rfl, hb1⟩
  have HB1 : Hid (RBeg w w1 C) := HB.out.below hb1
  have HM3 := hid (RM.start HB1.out hC ⟨16, a, b, n⟩ nx)
  have hB2 := (HB1.out.below (below_one w1 (.cells #[i64 16, i64 a, i64 b, i64 n, i64 nx, i64 0] 98))).below (below_one _ (.cells #[i64 16, i64 a, i64 b, i64 n] 96))
  have ca := hB2.r0.cell hC a (by omega)
  have cb := hB2.r0.cell hC b (by omega)
  rw [HVA.out] at ca
  rw [HVB.out] at cb
  have HB2 := hid hB2
  have hz1 := HB1.out.siz
  clear hb1 HB HA hc8 hB2
  go_upto_region 5 with fail
  obtain ⟨V2, hV2⟩ : ∃ V2, V2 = (w1.alloc (.cells #[i64 16, i64 a, i64 b, i64 n, i64 nx, i64 0] 98)).alloc (.cells #[i64 16, i64 a, i64 b, i64 n] 96) := ⟨_, rfl⟩
  have d1 : V2.cell? ⟨w1.heap.size + 1, 1, none⟩ = some (i64 a) := by rw [hV2, cell_of_row _ _ _ _ 96 (0, 0) (heap_at (by simp) _)]; rfl
  have d2 : V2.cell? ⟨w1.heap.size + 1, 2, none⟩ = some (i64 b) := by rw [hV2, cell_of_row _ _ _ _ 96 (0, 0) (heap_at (by simp) _)]; rfl
  have hz2 : V2.heap.size = w1.heap.size + 1 + 1 := by rw [hV2]; simp
  have HZ2 : Hid (V2.heap.size = w1.heap.size + 1 + 1) := hz2
  rw [← hV2] at HM3 HB2 ca cb ⊢
  clear hV2 hz2
  go_upto_region 7 with fail
  clear ca cb d1 d2
  have HT9 : Hid ((V2.alloc (.cells #[u16 0, u16 0, u16 0, u16 0, u16 0, u16 0, u16 0, u16 0, u16 0] 30)).there V2.heap.size 0 (cpC C).toArray.size) := by
    have := fin_there (Row.there (V := V2.alloc (.cells #[u16 0, u16 0, u16 0, u16 0, u16 0, u16 0, u16 0, u16 0, u16 0] 30)) (b := V2.heap.size) (C := z9) ⟨heap_at rfl _⟩ Rg.zero) hC
    exact this
  rw [← HZ2.out] at HM3
  go_upto_region 8 with (first
    | (refine wpList_load_mid rfl 30 (.tmp 2) rfl w.heap.size 0 rfl (cpC C) _ (by exact HB2.out.r0.range) Tryd.underlying30 rfl (cpC_info hC) ?_)
    | (refine wpList_store_mid rfl 30 (.tmp 9) (.tmp 34) rfl V2.heap.size 0 (cpC C).toArray rfl rfl (by exact HT9.out) (cpC_infoA hC) (cpC_one _) ?_))
  have hM3 := HM3.out
  generalize (V2.alloc (.cells #[u16 0, u16 0, u16 0, u16 0, u16 0, u16 0, u16 0, u16 0, u16 0] 30)).setCells V2.heap.size 0 (cpC C) = V3 at *
  generalize V2.heap.size = q3 at *
  generalize w1.heap.size = q at *
  clear HT9 HM3
  have c8 := hM3.n3.cell hC 8 (by omega)
  have f8 := hM3.n3.free 8
  have g4 := hM3.cells.1
  obtain ⟨V4, hV4⟩ : ∃ V4, V4 = V3.setCell ⟨q3, 8, none⟩ (u16 pn) := ⟨_, rfl⟩
  have hM4 := hM3.set 8 pn
  rw [← hV4] at hM4
  have HM4 : Hid (RM w V4 C (C.set 8 pn) q (q + 1) q3 ⟨16, a, b, n⟩ nx) := hM4
  have HV4 : Hid (V4 = V3.setCell ⟨q3, 8, none⟩ (u16 pn)) := hV4
  clear hM3 hM4 hV4
  go_upto_region 9 with fail
  rw [← HV4.out]
  obtain ⟨g4', q0, q1, q2, q3'⟩ := HM4.out.cells
  clear c8 f8 g4 HZ2
  go_wp2_with (first
    | (refine wpList_load_mid rfl 30 (.tmp 9) rfl q3 0 rfl (cpC (C.set 8 pn)) _ (by exact HM4.out.n3.range) Tryd.underlying30 rfl (cpC_info hC1) ?_)
    | (refine wpList_build2 rfl (.tmp 89) (.tmp 92) rfl (C := C.set 8 pn) ⟨4, 0, 0, va, 2, vb⟩ rfl rfl hC1 ?_)
    | (refine wpList_store_mid rfl 88 (.tmp 4) (.tmp 93) rfl (w.heap.size + 1) 0 (dnC (C.set 8 pn) ⟨4, 0, 0, va, 2, vb⟩).toArray rfl rfl (by exact HM4.out.beg.thr hC1 ⟨4, 0, 0, va, 2, vb⟩) (dnC_infoA hC1 ⟨4, 0, 0, va, 2, vb⟩) (dnC_one _ _) ?_))
  obtain ⟨g1, g2⟩ := HM4.out.beg.fin hC1 ⟨4, 0, 0, va, 2, vb⟩
  exact bodyPost_ret (results_done rfl g1) rfl ⟨rfl, g2⟩
end Go.Proofs.YtigbfdloodfdgaaDoor
