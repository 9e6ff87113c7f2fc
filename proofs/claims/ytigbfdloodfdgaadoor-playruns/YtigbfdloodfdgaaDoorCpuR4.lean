/- The document's Step, jumps and results: its contract; no statement is proved in this text. -/
import Derived.Test.YtigbfdloodfdgaaDoorCpuR2
namespace Go.Proofs.YtigbfdloodfdgaaDoor
open Go.ChangeShapes Go.WideShapes Go.ChangeAt Go.RowKit

set_option maxRecDepth 100000 in
set_option maxHeartbeats 1600000 in
theorem rstep_far17 (w : World) (C : List Nat) (hC : Rg C) (s : ByteArray) (pc a b va vb pn : Nat) (n nx : Int) (hpc : C.getD 8 0 = pc)
    (hA : ∀ w, Calls Tryd.prog 43 #[.string s, i64 pc] w fun e w' => e = .returned (gotV ⟨17, a, b, n⟩ nx 0) ∧ Below w.heap.size w w')
    (ha : a < 8) (hb : b < 8) (hva : C.getD a 0 = va) (hvb : C.getD b 0 = vb) (hpn : wd nx = pn) (wr : Nat) (hn : 0 ≤ n ∧ n ≤ 65535) (hnx : 0 ≤ nx ∧ nx ≤ 4611686018427387904) (hwr : wd (nx + n) = wr) :
    Calls Tryd.prog 36 #[cpV C, .string s] w fun e w' => e = .returned (dnV (C.set 8 wr) (⟨5, 0, 0, 0, 0, 0⟩)) ∧ Below w.heap.size w w' := by
  have hpc16 : pc < 65536 := by rw [← hpc]; exact hC.get 8
  have hva16 : va < 65536 := by rw [← hva]; exact hC.get a
  have hvb16 : vb < 65536 := by rw [← hvb]; exact hC.get b
  have hpn16 : pn < 65536 := by rw [← hpn]; exact wd_lt _
  have hpw : IntKind.u16.wrap nx = (pn : Int) := by rw [wrap_u16', ← hpn]; unfold wd; omega
  have HA : Hid (∀ w, Calls Tryd.prog 43 #[.string s, i64 pc] w fun e w' => e = .returned (gotV ⟨17, a, b, n⟩ nx 0) ∧ Below w.heap.size w w') := hA
  have hC1 : Rg (C.set 8 pn) := hC.set _ _ hpn16
  have HVA : Hid (C.getD a 0 = va) := hva
  have HVB : Hid (C.getD b 0 = vb) := hvb
  have HPC : Hid (C.getD 8 0 = pc) := hpc
  have haI : (a : Int) < 8 := by omega
  have hbI : (b : Int) < 8 := by omega
  clear hA hva hvb hpn hpc
  obtain ⟨hn0, hn1⟩ := hn
  obtain ⟨hx0, hx1⟩ := hnx
  have hw2 : IntKind.u16.wrap ((nx + n) % 65536) = (wr : Int) := by rw [wrap_u16', ← hwr]; unfold wd; omega
  have hw3 : (nx + n) % 65536 = (wr : Int) := by rw [← hwr]; unfold wd; omega
  have hwr16 : wr < 65536 := by rw [← hwr]; exact wd_lt _
  have hC2 : Rg (C.set 8 wr) := hC.set _ _ hwr16
  clear hwr
  go_enter Tryd.func36, Tryd.ntmps36
  go_upto_region 1 with fail
  have hB := RBeg.start w C
  generalize ((w.alloc (.cells (cpC C).toArray 30)).alloc (.cells #[u16 0, u16 0, u16 0, u16 0, u16 0, u16 0, u16 0, u16 0, u16 0, i64 0, i64 0, i64 0, i64 0, i64 0, i64 0] 88)) = V at *
  have hc8 := hB.r0.cell hC 8 (by omega)
  rw [HPC.out] at hc8
  have HB : Hid (RBeg w V C) := hB
  clear hB
  go_wp2_with fail
  refine (HA.out _).mono ?_
  rintro e w1 ⟨rfl, hb1⟩
  have HB1 : Hid (RBeg w w1 C) := HB.out.below hb1
  have HM3 := hid (RM.start HB1.out hC ⟨17, a, b, n⟩ nx)
  have hB2 := (HB1.out.below (below_one w1 (.cells #[i64 17, i64 a, i64 b, i64 n, i64 nx, i64 0] 98))).below (below_one _ (.cells #[i64 17, i64 a, i64 b, i64 n] 96))
  have ca := hB2.r0.cell hC a (by omega)
  have cb := hB2.r0.cell hC b (by omega)
  rw [HVA.out] at ca
  rw [HVB.out] at cb
  have HB2 := hid hB2
  have hz1 := HB1.out.siz
  clear hb1 HB HA hc8 hB2
  go_upto_region 5 with fail
  obtain ⟨V2, hV2⟩ : ∃ V2, V2 = (w1.alloc (.cells #[i64 17, i64 a, i64 b, i64 n, i64 nx, i64 0] 98)).alloc (.cells #[i64 17, i64 a, i64 b, i64 n] 96) := ⟨_, rfl⟩
  have d1 : V2.cell? ⟨w1.heap.size + 1, 1, none⟩ = some (i64 a) := by rw [hV2, cell_of_row _ _ _ _ 96 (0, 0) (heap_at (by simp) _)]; rfl
  have d2 : V2.cell? ⟨w1.heap.size + 1, 2, none⟩ = some (i64 b) := by rw [hV2, cell_of_row _ _ _ _ 96 (0, 0) (heap_at (by simp) _)]; rfl
  have hz2 : V2.heap.size = w1.heap.size + 1 + 1 := by rw [hV2]; simp
  have HZ2 : Hid (V2.heap.size = w1.heap.size + 1 + 1) := hz2
  rw [← hV2] at HM3 HB2 ca cb ⊢
  clear hV2 hz2
  go_upto_region 7 with fail
  clear ca cb d1 d2
  have HT9 : Hid ((V2.alloc (.cells #[u16 0, u16 0, u16 0, u16 0, u16 0, u16 0, u16 0, u16 0, u16 0] 30)).there V2.heap.size 0 (cpC C).toArray.size) := by
    have := fin_there (Row.there (V := V2.alloc (.cells #[u16 0, u16 0, u16 0, u16 0, u16 0, u16 0, u16 0, u16 0, u16 0] 30)) (b := V2.heap.size) (C := z9) ⟨heap_at rfl _⟩ Rg.zero) hC
    exact this
  rw [← HZ2.out] at HM3
  go_upto_region 8 with (first
    | (refine wpList_load_mid rfl 30 (.tmp 2) rfl w.heap.size 0 rfl (cpC C) _ (by exact HB2.out.r0.range) Tryd.underlying30 rfl (cpC_info hC) ?_)
    | (refine wpList_store_mid rfl 30 (.tmp 9) (.tmp 34) rfl V2.heap.size 0 (cpC C).toArray rfl rfl (by exact HT9.out) (cpC_infoA hC) (cpC_one _) ?_))
  have hM3 := HM3.out
  generalize (V2.alloc (.cells #[u16 0, u16 0, u16 0, u16 0, u16 0, u16 0, u16 0, u16 0, u16 0] 30)).setCells V2.heap.size 0 (cpC C) = V3 at *
  generalize V2.heap.size = q3 at *
  generalize w1.heap.size = q at *
  clear HT9 HM3
  have c8 := hM3.n3.cell hC 8 (by omega)
  have f8 := hM3.n3.free 8
  have g4 := hM3.cells.1
  obtain ⟨V4, hV4⟩ : ∃ V4, V4 = V3.setCell ⟨q3, 8, none⟩ (u16 pn) := ⟨_, rfl⟩
  have hM4 := hM3.set 8 pn
  rw [← hV4] at hM4
  have HM4 : Hid (RM w V4 C (C.set 8 pn) q (q + 1) q3 ⟨17, a, b, n⟩ nx) := hM4
  have HV4 : Hid (V4 = V3.setCell ⟨q3, 8, none⟩ (u16 pn)) := hV4
  clear hM3 hM4 hV4
  go_upto_region 9 with fail
  rw [← HV4.out]
  obtain ⟨g4', q0, q1, q2, q3'⟩ := HM4.out.cells
  clear c8 f8 g4 HZ2
  have c8 := HM4.out.n3.cell hC1 8 (by omega)
  have f8 := HM4.out.n3.free 8
  go_upto_region 30 with fail
  have HM5 : Hid (RM w (V4.setCell ⟨q3, 8, none⟩ (u16 wr)) C (C.set 8 wr) q (q + 1) q3 ⟨17, a, b, n⟩ nx) := by have := HM4.out.set 8 wr; rw [List.set_set] at this; exact this
  generalize V4.setCell ⟨q3, 8, none⟩ (u16 wr) = V5 at *
  go_wp2_with (first
    | (refine wpList_load_mid rfl 30 (.tmp 9) rfl q3 0 rfl (cpC (C.set 8 wr)) _ (by exact HM5.out.n3.range) Tryd.underlying30 rfl (cpC_info hC2) ?_)
    | (refine wpList_build2 rfl (.tmp 136) (.tmp 137) rfl (C := C.set 8 wr) ⟨5, 0, 0, 0, 0, 0⟩ rfl rfl hC2 ?_)
    | (refine wpList_store_mid rfl 88 (.tmp 4) (.tmp 138) rfl (w.heap.size + 1) 0 (dnC (C.set 8 wr) ⟨5, 0, 0, 0, 0, 0⟩).toArray rfl rfl (by exact HM5.out.beg.thr hC2 ⟨5, 0, 0, 0, 0, 0⟩) (dnC_infoA hC2 ⟨5, 0, 0, 0, 0, 0⟩) (dnC_one _ _) ?_))
  obtain ⟨g1, g2⟩ := HM5.out.beg.fin hC2 ⟨5, 0, 0, 0, 0, 0⟩
  exact bodyPost_ret (results_done rfl g1) rfl ⟨rfl, g2⟩
set_option maxRecDepth 100000 in
set_option maxHeartbeats 1600000 in
theorem rstep_set (w : World) (C : List Nat) (hC : Rg C) (s : ByteArray) (pc a b va vb pn : Nat) (n nx : Int) (hpc : C.getD 8 0 = pc)
    (hA : ∀ w, Calls Tryd.prog 43 #[.string s, i64 pc] w fun e w' => e = .returned (gotV ⟨1, a, b, n⟩ nx 0) ∧ Below w.heap.size w w')
    (ha : a < 8) (hb : b < 8) (hva : C.getD a 0 = va) (hvb : C.getD b 0 = vb) (hpn : wd nx = pn) (wr : Nat) (hwr : wd n = wr) :
    Calls Tryd.prog 36 #[cpV C, .string s] w fun e w' => e = .returned (dnV ((C.set 8 pn).set a wr) (⟨5, 0, 0, 0, 0, 0⟩)) ∧ Below w.heap.size w w' := by
  have hpc16 : pc < 65536 := by rw [← hpc]; exact hC.get 8
  have hva16 : va < 65536 := by rw [← hva]; exact hC.get a
  have hvb16 : vb < 65536 := by rw [← hvb]; exact hC.get b
  have hpn16 : pn < 65536 := by rw [← hpn]; exact wd_lt _
  have hpw : IntKind.u16.wrap nx = (pn : Int) := by rw [wrap_u16', ← hpn]; unfold wd; omega
  have HA : Hid (∀ w, Calls Tryd.prog 43 #[.string s, i64 pc] w fun e w' => e = .returned (gotV ⟨1, a, b, n⟩ nx 0) ∧ Below w.heap.size w w') := hA
  have hC1 : Rg (C.set 8 pn) := hC.set _ _ hpn16
  have HVA : Hid (C.getD a 0 = va) := hva
  have HVB : Hid (C.getD b 0 = vb) := hvb
  have HPC : Hid (C.getD 8 0 = pc) := hpc
  have haI : (a : Int) < 8 := by omega
  have hbI : (b : Int) < 8 := by omega
  clear hA hva hvb hpn hpc
  have hw3 : IntKind.u16.wrap n = (wr : Int) := by rw [wrap_u16', ← hwr]; unfold wd; omega
  have hwr16 : wr < 65536 := by rw [← hwr]; exact wd_lt _
  have hC2 : Rg ((C.set 8 pn).set a wr) := hC1.set _ _ hwr16
  clear hwr
  go_enter Tryd.func36, Tryd.ntmps36
  go_upto_region 1 with fail
  have hB := RBeg.start w C
  generalize ((w.alloc (.cells (cpC C).toArray 30)).alloc (.cells #[u16 0, u16 0, u16 0, u16 0, u16 0, u16 0, u16 0, u16 0, u16 0, i64 0, i64 0, i64 0, i64 0, i64 0, i64 0] 88)) = V at *
  have hc8 := hB.r0.cell hC 8 (by omega)
  rw [HPC.out] at hc8
  have HB : Hid (RBeg w V C) := hB
  clear hB
  go_wp2_with fail
  refine (HA.out _).mono ?_
  rintro e w1 ⟨rfl, hb1⟩
  have HB1 : Hid (RBeg w w1 C) := HB.out.below hb1
  have HM3 := hid (RM.start HB1.out hC ⟨1, a, b, n⟩ nx)
  have hB2 := (HB1.out.below (below_one w1 (.cells #[i64 1, i64 a, i64 b, i64 n, i64 nx, i64 0] 98))).below (below_one _ (.cells #[i64 1, i64 a, i64 b, i64 n] 96))
  have ca := hB2.r0.cell hC a (by omega)
  have cb := hB2.r0.cell hC b (by omega)
  rw [HVA.out] at ca
  rw [HVB.out] at cb
  have HB2 := hid hB2
  have hz1 := HB1.out.siz
  clear hb1 HB HA hc8 hB2
  go_upto_region 5 with fail
  obtain ⟨V2, hV2⟩ : ∃ V2, V2 = (w1.alloc (.cells #[i64 1, i64 a, i64 b, i64 n, i64 nx, i64 0] 98)).alloc (.cells #[i64 1, i64 a, i64 b, i64 n] 96) := ⟨_, rfl⟩
  have d1 : V2.cell? ⟨w1.heap.size + 1, 1, none⟩ = some (i64 a) := by rw [hV2, cell_of_row _ _ _ _ 96 (0, 0) (heap_at (by simp) _)]; rfl
  have d2 : V2.cell? ⟨w1.heap.size + 1, 2, none⟩ = some (i64 b) := by rw [hV2, cell_of_row _ _ _ _ 96 (0, 0) (heap_at (by simp) _)]; rfl
  have hz2 : V2.heap.size = w1.heap.size + 1 + 1 := by rw [hV2]; simp
  have HZ2 : Hid (V2.heap.size = w1.heap.size + 1 + 1) := hz2
  rw [← hV2] at HM3 HB2 ca cb ⊢
  clear hV2 hz2
  go_upto_region 7 with fail
  clear ca cb d1 d2
  have HT9 : Hid ((V2.alloc (.cells #[u16 0, u16 0, u16 0, u16 0, u16 0, u16 0, u16 0, u16 0, u16 0] 30)).there V2.heap.size 0 (cpC C).toArray.size) := by
    have := fin_there (Row.there (V := V2.alloc (.cells #[u16 0, u16 0, u16 0, u16 0, u16 0, u16 0, u16 0, u16 0, u16 0] 30)) (b := V2.heap.size) (C := z9) ⟨heap_at rfl _⟩ Rg.zero) hC
    exact this
  rw [← HZ2.out] at HM3
  go_upto_region 8 with (first
    | (refine wpList_load_mid rfl 30 (.tmp 2) rfl w.heap.size 0 rfl (cpC C) _ (by exact HB2.out.r0.range) Tryd.underlying30 rfl (cpC_info hC) ?_)
    | (refine wpList_store_mid rfl 30 (.tmp 9) (.tmp 34) rfl V2.heap.size 0 (cpC C).toArray rfl rfl (by exact HT9.out) (cpC_infoA hC) (cpC_one _) ?_))
  have hM3 := HM3.out
  generalize (V2.alloc (.cells #[u16 0, u16 0, u16 0, u16 0, u16 0, u16 0, u16 0, u16 0, u16 0] 30)).setCells V2.heap.size 0 (cpC C) = V3 at *
  generalize V2.heap.size = q3 at *
  generalize w1.heap.size = q at *
  clear HT9 HM3
  have c8 := hM3.n3.cell hC 8 (by omega)
  have f8 := hM3.n3.free 8
  have g4 := hM3.cells.1
  obtain ⟨V4, hV4⟩ : ∃ V4, V4 = V3.setCell ⟨q3, 8, none⟩ (u16 pn) := ⟨_, rfl⟩
  have hM4 := hM3.set 8 pn
  rw [← hV4] at hM4
  have HM4 : Hid (RM w V4 C (C.set 8 pn) q (q + 1) q3 ⟨1, a, b, n⟩ nx) := hM4
  have HV4 : Hid (V4 = V3.setCell ⟨q3, 8, none⟩ (u16 pn)) := hV4
  clear hM3 hM4 hV4
  go_upto_region 9 with fail
  rw [← HV4.out]
  obtain ⟨g4', q0, q1, q2, q3'⟩ := HM4.out.cells
  clear c8 f8 g4 HZ2
  have cr := HM4.out.n3.cell hC1 a (by omega)
  have fr := HM4.out.n3.free a
  go_upto_region 30 with fail
  have HM5 : Hid (RM w (V4.setCell ⟨q3, a, none⟩ (u16 wr)) C ((C.set 8 pn).set a wr) q (q + 1) q3 ⟨1, a, b, n⟩ nx) := HM4.out.set a wr
  generalize V4.setCell ⟨q3, a, none⟩ (u16 wr) = V5 at *
  go_wp2_with (first
    | (refine wpList_load_mid rfl 30 (.tmp 9) rfl q3 0 rfl (cpC ((C.set 8 pn).set a wr)) _ (by exact HM5.out.n3.range) Tryd.underlying30 rfl (cpC_info hC2) ?_)
    | (refine wpList_build2 rfl (.tmp 136) (.tmp 137) rfl (C := (C.set 8 pn).set a wr) ⟨5, 0, 0, 0, 0, 0⟩ rfl rfl hC2 ?_)
    | (refine wpList_store_mid rfl 88 (.tmp 4) (.tmp 138) rfl (w.heap.size + 1) 0 (dnC ((C.set 8 pn).set a wr) ⟨5, 0, 0, 0, 0, 0⟩).toArray rfl rfl (by exact HM5.out.beg.thr hC2 ⟨5, 0, 0, 0, 0, 0⟩) (dnC_infoA hC2 ⟨5, 0, 0, 0, 0, 0⟩) (dnC_one _ _) ?_))
  obtain ⟨g1, g2⟩ := HM5.out.beg.fin hC2 ⟨5, 0, 0, 0, 0, 0⟩
  exact bodyPost_ret (results_done rfl g1) rfl ⟨rfl, g2⟩
set_option maxRecDepth 100000 in
set_option maxHeartbeats 1600000 in
theorem rstep_def (w : World) (C : List Nat) (hC : Rg C) (s : ByteArray) (pc a b va vb pn : Nat) (op n nx : Int) (hpc : C.getD 8 0 = pc)
    (hA : ∀ w, Calls Tryd.prog 43 #[.string s, i64 pc] w fun e w' => e = .returned (gotV ⟨op, a, b, n⟩ nx 0) ∧ Below w.heap.size w w')
    (ha : a < 8) (hb : b < 8) (hva : C.getD a 0 = va) (hvb : C.getD b 0 = vb) (hpn : wd nx = pn) (wr : Nat) (rs : Int) (h1 : 2 ≤ op) (h2 : op ≤ 12) (hR : ∀ w, Calls Tryd.prog 44 #[i64 op, i64 va, i64 vb] w fun e w' => e = .returned (i64 rs) ∧ w' = w) (hwr : wd rs = wr) :
    Calls Tryd.prog 36 #[cpV C, .string s] w fun e w' => e = .returned (dnV ((C.set 8 pn).set a wr) (⟨5, 0, 0, 0, 0, 0⟩)) ∧ Below w.heap.size w w' := by
  have hpc16 : pc < 65536 := by rw [← hpc]; exact hC.get 8
  have hva16 : va < 65536 := by rw [← hva]; exact hC.get a
  have hvb16 : vb < 65536 := by rw [← hvb]; exact hC.get b
  have hpn16 : pn < 65536 := by rw [← hpn]; exact wd_lt _
  have hpw : IntKind.u16.wrap nx = (pn : Int) := by rw [wrap_u16', ← hpn]; unfold wd; omega
  have HA : Hid (∀ w, Calls Tryd.prog 43 #[.string s, i64 pc] w fun e w' => e = .returned (gotV ⟨op, a, b, n⟩ nx 0) ∧ Below w.heap.size w w') := hA
  have hC1 : Rg (C.set 8 pn) := hC.set _ _ hpn16
  have HVA : Hid (C.getD a 0 = va) := hva
  have HVB : Hid (C.getD b 0 = vb) := hvb
  have HPC : Hid (C.getD 8 0 = pc) := hpc
  have haI : (a : Int) < 8 := by omega
  have hbI : (b : Int) < 8 := by omega
  clear hA hva hvb hpn hpc
  have HR : Hid (∀ w, Calls Tryd.prog 44 #[i64 op, i64 va, i64 vb] w fun e w' => e = .returned (i64 rs) ∧ w' = w) := hR
  have HWR : Hid (∀ w, Calls Tryd.prog 37 #[i64 rs] w fun e w' => e = .returned (u16 wr) ∧ w' = w) := fun w => by rw [← hwr]; exact rword_ok w rs
  have hC2 : Rg ((C.set 8 pn).set a wr) := hC1.set _ _ (by rw [← hwr]; exact wd_lt _)
  clear hR hwr
  have t0 : (op == 0) = false := by simp; omega
  have t20 : (op == 20) = false := by simp; omega
  have t13 : (op == 13) = false := by simp; omega
  have t15 : (op == 15) = false := by simp; omega
  have t14 : (op == 14) = false := by simp; omega
  have t16 : (op == 16) = false := by simp; omega
  have t1 : (op == 1) = false := by simp; omega
  have t17 : (op == 17) = false := by simp; omega
  have t18 : (op == 18) = false := by simp; omega
  have t19 : (op == 19) = false := by simp; omega
  go_enter Tryd.func36, Tryd.ntmps36
  go_upto_region 1 with fail
  have hB := RBeg.start w C
  generalize ((w.alloc (.cells (cpC C).toArray 30)).alloc (.cells #[u16 0, u16 0, u16 0, u16 0, u16 0, u16 0, u16 0, u16 0, u16 0, i64 0, i64 0, i64 0, i64 0, i64 0, i64 0] 88)) = V at *
  have hc8 := hB.r0.cell hC 8 (by omega)
  rw [HPC.out] at hc8
  have HB : Hid (RBeg w V C) := hB
  clear hB
  go_wp2_with fail
  refine (HA.out _).mono ?_
  rintro e w1 ⟨rfl, hb1⟩
  have HB1 : Hid (RBeg w w1 C) := HB.out.below hb1
  have HM3 := hid (RM.start HB1.out hC ⟨op, a, b, n⟩ nx)
  have hB2 := (HB1.out.below (below_one w1 (.cells #[i64 op, i64 a, i64 b, i64 n, i64 nx, i64 0] 98))).below (below_one _ (.cells #[i64 op, i64 a, i64 b, i64 n] 96))
  have ca := hB2.r0.cell hC a (by omega)
  have cb := hB2.r0.cell hC b (by omega)
  rw [HVA.out] at ca
  rw [HVB.out] at cb
  have HB2 := hid hB2
  have hz1 := HB1.out.siz
  clear hb1 HB HA hc8 hB2
  go_upto_region 5 with fail
  obtain ⟨V2, hV2⟩ : ∃ V2, V2 = (w1.alloc (.cells #[i64 op, i64 a, i64 b, i64 n, i64 nx, i64 0] 98)).alloc (.cells #[i64 op, i64 a, i64 b, i64 n] 96) := ⟨_, rfl⟩
  have d1 : V2.cell? ⟨w1.heap.size + 1, 1, none⟩ = some (i64 a) := by rw [hV2, cell_of_row _ _ _ _ 96 (0, 0) (heap_at (by simp) _)]; rfl
  have d2 : V2.cell? ⟨w1.heap.size + 1, 2, none⟩ = some (i64 b) := by rw [hV2, cell_of_row _ _ _ _ 96 (0, 0) (heap_at (by simp) _)]; rfl
  have hz2 : V2.heap.size = w1.heap.size + 1 + 1 := by rw [hV2]; simp
  have HZ2 : Hid (V2.heap.size = w1.heap.size + 1 + 1) := hz2
  rw [← hV2] at HM3 HB2 ca cb ⊢
  clear hV2 hz2
  go_upto_region 7 with fail
  clear ca cb d1 d2
  have HT9 : Hid ((V2.alloc (.cells #[u16 0, u16 0, u16 0, u16 0, u16 0, u16 0, u16 0, u16 0, u16 0] 30)).there V2.heap.size 0 (cpC C).toArray.size) := by
    have := fin_there (Row.there (V := V2.alloc (.cells #[u16 0, u16 0, u16 0, u16 0, u16 0, u16 0, u16 0, u16 0, u16 0] 30)) (b := V2.heap.size) (C := z9) ⟨heap_at rfl _⟩ Rg.zero) hC
    exact this
  rw [← HZ2.out] at HM3
  go_upto_region 8 with (first
    | (refine wpList_load_mid rfl 30 (.tmp 2) rfl w.heap.size 0 rfl (cpC C) _ (by exact HB2.out.r0.range) Tryd.underlying30 rfl (cpC_info hC) ?_)
    | (refine wpList_store_mid rfl 30 (.tmp 9) (.tmp 34) rfl V2.heap.size 0 (cpC C).toArray rfl rfl (by exact HT9.out) (cpC_infoA hC) (cpC_one _) ?_))
  have hM3 := HM3.out
  generalize (V2.alloc (.cells #[u16 0, u16 0, u16 0, u16 0, u16 0, u16 0, u16 0, u16 0, u16 0] 30)).setCells V2.heap.size 0 (cpC C) = V3 at *
  generalize V2.heap.size = q3 at *
  generalize w1.heap.size = q at *
  clear HT9 HM3
  have c8 := hM3.n3.cell hC 8 (by omega)
  have f8 := hM3.n3.free 8
  have g4 := hM3.cells.1
  obtain ⟨V4, hV4⟩ : ∃ V4, V4 = V3.setCell ⟨q3, 8, none⟩ (u16 pn) := ⟨_, rfl⟩
  have hM4 := hM3.set 8 pn
  rw [← hV4] at hM4
  have HM4 : Hid (RM w V4 C (C.set 8 pn) q (q + 1) q3 ⟨op, a, b, n⟩ nx) := hM4
  have HV4 : Hid (V4 = V3.setCell ⟨q3, 8, none⟩ (u16 pn)) := hV4
  clear hM3 hM4 hV4
  go_upto_region 9 with fail
  rw [← HV4.out]
  obtain ⟨g4', q0, q1, q2, q3'⟩ := HM4.out.cells
  clear c8 f8 g4 HZ2
  go_wp2_with fail
  have HS2 : Hid (V4.drew.cell? ⟨q + 1, 0, none⟩ = some (i64 op) ∧ V4.drew.cell? ⟨q + 1, 1, none⟩ = some (i64 a)) := ⟨q0, q1⟩
  have ca := HM4.out.n3.cell hC1 a (by omega)
  have fa := HM4.out.n3.free a
  clear q0 q1 q2 q3' g4'
  refine wp_region_noPanic ?_
  refine wp_region_last (fun W => W.cell? ⟨q + 1, 0, none⟩ = some (i64 op) ∧ W.cell? ⟨q + 1, 1, none⟩ = some (i64 a)) 10 (by kernel_rfl) ?_
  refine wpL_take 0 41 (.pointer (some ⟨q + 1, 1, none⟩)) [1, 9] rfl rfl (by kernel_rfl) (by decide) (by kernel_rfl) (by kernel_rfl) (by kernel_rfl) (fun _ _ _ h => h) HS2.out (by rfl) (fun W hW => by obtain ⟨s0, s1⟩ := hW; go_simp) ?_
  simp only [Act.put, List.setIfInBounds_toArray, List.set_cons_zero, List.set_cons_succ]
  refine wpL_take 1 42 (i64 a) [9] rfl rfl (by kernel_rfl) (by decide) (by kernel_rfl) (by kernel_rfl) (by kernel_rfl) (fun _ _ _ h => h) HS2.out (by rfl) (fun W hW => by obtain ⟨s0, s1⟩ := hW; go_simp) ?_
  simp only [Act.put, List.setIfInBounds_toArray, List.set_cons_zero, List.set_cons_succ]
  refine wpL_take 2 43 (.pointer (some ⟨q + 1, 0, none⟩)) [3, 6, 7] rfl rfl (by kernel_rfl) (by decide) (by kernel_rfl) (by kernel_rfl) (by kernel_rfl) (fun _ _ _ h => h) HS2.out (by rfl) (fun W hW => by obtain ⟨s0, s1⟩ := hW; go_simp) ?_
  simp only [Act.put, List.setIfInBounds_toArray, List.set_cons_zero, List.set_cons_succ]
  refine wpL_take 3 44 (i64 op) [6, 7] rfl rfl (by kernel_rfl) (by decide) (by kernel_rfl) (by kernel_rfl) (by kernel_rfl) (fun _ _ _ h => h) HS2.out (by rfl) (fun W hW => by obtain ⟨s0, s1⟩ := hW; go_simp) ?_
  simp only [Act.put, List.setIfInBounds_toArray, List.set_cons_zero, List.set_cons_succ]
  refine wpL_take 4 45 (i64 va) [6, 7] rfl rfl (by kernel_rfl) (by decide) (by kernel_rfl) (by kernel_rfl) (by kernel_rfl) (fun _ _ _ h => h) HS2.out (by rfl) (fun W hW => by obtain ⟨s0, s1⟩ := hW; go_simp) ?_
  simp only [Act.put, List.setIfInBounds_toArray, List.set_cons_zero, List.set_cons_succ]
  refine wpL_take 5 46 (i64 vb) [6, 7] rfl rfl (by kernel_rfl) (by decide) (by kernel_rfl) (by kernel_rfl) (by kernel_rfl) (fun _ _ _ h => h) HS2.out (by rfl) (fun W hW => by obtain ⟨s0, s1⟩ := hW; go_simp) ?_
  simp only [Act.put, List.setIfInBounds_toArray, List.set_cons_zero, List.set_cons_succ]
  refine wpL_take 8 49 (.pointer (some ⟨q3, 0, none⟩)) [9] rfl rfl (by kernel_rfl) (by decide) (by kernel_rfl) (by kernel_rfl) (by kernel_rfl) (fun _ _ _ h => h) HS2.out (by rfl) (fun W hW => by obtain ⟨s0, s1⟩ := hW; go_simp) ?_
  simp only [Act.put, List.setIfInBounds_toArray, List.set_cons_zero, List.set_cons_succ]
  refine wpL_one 6 rfl (by kernel_rfl) (by rfl) (fun K hK => ?_)
  go_simp
  refine (HR.out _).mono ?_
  rintro e w3 ⟨rfl, rfl⟩
  go_simp
  refine hK.out _ _ (fun _ => HS2.out) ?_
  clear hK K
  refine wpL_one 7 rfl (by kernel_rfl) (by rfl) (fun K hK => ?_)
  go_simp
  refine (HWR.out _).mono ?_
  rintro e w3 ⟨rfl, rfl⟩
  go_simp
  refine hK.out _ _ (fun _ => HS2.out) ?_
  clear hK K
  refine wpL_one 9 rfl (by kernel_rfl) (by rfl) (fun K hK => ?_)
  go_simp
  refine hK.out _ _ (fun _ => HS2.out) ?_
  clear hK K
  refine wpL_one 10 rfl (by kernel_rfl) (by rfl) (fun K hK => ?_)
  go_simp
  refine hK.out _ _ (fun h => absurd rfl h) ?_
  clear hK K
  refine wpL_done (by kernel_rfl) ?_
  refine NoPanic.normal ?_
  have HM5 : Hid (RM w (V4.setCell ⟨q3, a, none⟩ (u16 wr)).drew C ((C.set 8 pn).set a wr) q (q + 1) q3 ⟨op, a, b, n⟩ nx) := (HM4.out.set a wr).drew
  generalize (V4.setCell ⟨q3, a, none⟩ (u16 wr)).drew = V5 at *
  clear ca fa
  go_wp2_with (first
    | (refine wpList_load_mid rfl 30 (.tmp 9) rfl q3 0 rfl (cpC ((C.set 8 pn).set a wr)) _ (by exact HM5.out.n3.range) Tryd.underlying30 rfl (cpC_info hC2) ?_)
    | (refine wpList_build2 rfl (.tmp 136) (.tmp 137) rfl (C := (C.set 8 pn).set a wr) ⟨5, 0, 0, 0, 0, 0⟩ rfl rfl hC2 ?_)
    | (refine wpList_store_mid rfl 88 (.tmp 4) (.tmp 138) rfl (w.heap.size + 1) 0 (dnC ((C.set 8 pn).set a wr) ⟨5, 0, 0, 0, 0, 0⟩).toArray rfl rfl (by exact HM5.out.beg.thr hC2 ⟨5, 0, 0, 0, 0, 0⟩) (dnC_infoA hC2 ⟨5, 0, 0, 0, 0, 0⟩) (dnC_one _ _) ?_))
  obtain ⟨g1, g2⟩ := HM5.out.beg.fin hC2 ⟨5, 0, 0, 0, 0, 0⟩
  exact bodyPost_ret (results_done rfl g1) rfl ⟨rfl, g2⟩
set_option maxRecDepth 100000 in
set_option maxHeartbeats 1600000 in
theorem rstep_far18 (w : World) (C : List Nat) (hC : Rg C) (s : ByteArray) (pc a b va vb pn : Nat) (n nx : Int) (hpc : C.getD 8 0 = pc)
    (hA : ∀ w, Calls Tryd.prog 43 #[.string s, i64 pc] w fun e w' => e = .returned (gotV ⟨18, a, b, n⟩ nx 0) ∧ Below w.heap.size w w')
    (ha : a < 8) (hb : b < 8) (hva : C.getD a 0 = va) (hvb : C.getD b 0 = vb) (hpn : wd nx = pn) (wr : Nat) (hz : va = 0) (hn : 0 ≤ n ∧ n ≤ 65535) (hnx : 0 ≤ nx ∧ nx ≤ 4611686018427387904) (hwr : wd (nx + n) = wr) :
    Calls Tryd.prog 36 #[cpV C, .string s] w fun e w' => e = .returned (dnV (C.set 8 wr) (⟨5, 0, 0, 0, 0, 0⟩)) ∧ Below w.heap.size w w' := by
  have hpc16 : pc < 65536 := by rw [← hpc]; exact hC.get 8
  have hva16 : va < 65536 := by rw [← hva]; exact hC.get a
  have hvb16 : vb < 65536 := by rw [← hvb]; exact hC.get b
  have hpn16 : pn < 65536 := by rw [← hpn]; exact wd_lt _
  have hpw : IntKind.u16.wrap nx = (pn : Int) := by rw [wrap_u16', ← hpn]; unfold wd; omega
  have HA : Hid (∀ w, Calls Tryd.prog 43 #[.string s, i64 pc] w fun e w' => e = .returned (gotV ⟨18, a, b, n⟩ nx 0) ∧ Below w.heap.size w w') := hA
  have hC1 : Rg (C.set 8 pn) := hC.set _ _ hpn16
  have HVA : Hid (C.getD a 0 = va) := hva
  have HVB : Hid (C.getD b 0 = vb) := hvb
  have HPC : Hid (C.getD 8 0 = pc) := hpc
  have haI : (a : Int) < 8 := by omega
  have hbI : (b : Int) < 8 := by omega
  clear hA hva hvb hpn hpc
  obtain ⟨hn0, hn1⟩ := hn
  obtain ⟨hx0, hx1⟩ := hnx
  have hw2 : IntKind.u16.wrap ((nx + n) % 65536) = (wr : Int) := by rw [wrap_u16', ← hwr]; unfold wd; omega
  have hw3 : (nx + n) % 65536 = (wr : Int) := by rw [← hwr]; unfold wd; omega
  have hwr16 : wr < 65536 := by rw [← hwr]; exact wd_lt _
  have hC2 : Rg (C.set 8 wr) := hC.set _ _ hwr16
  clear hwr
  have hzb : ((va : Int) == 0) = true := by simp; omega
  have hzn : ((va : Int) != 0) = false := by simp; omega
  clear hz
  go_enter Tryd.func36, Tryd.ntmps36
  go_upto_region 1 with fail
  have hB := RBeg.start w C
  generalize ((w.alloc (.cells (cpC C).toArray 30)).alloc (.cells #[u16 0, u16 0, u16 0, u16 0, u16 0, u16 0, u16 0, u16 0, u16 0, i64 0, i64 0, i64 0, i64 0, i64 0, i64 0] 88)) = V at *
  have hc8 := hB.r0.cell hC 8 (by omega)
  rw [HPC.out] at hc8
  have HB : Hid (RBeg w V C) := hB
  clear hB
  go_wp2_with fail
  refine (HA.out _).mono ?_
  rintro e w1 ⟨rfl, hb1⟩
  have HB1 : Hid (RBeg w w1 C) := HB.out.below hb1
  have HM3 := hid (RM.start HB1.out hC ⟨18, a, b, n⟩ nx)
  have hB2 := (HB1.out.below (below_one w1 (.cells #[i64 18, i64 a, i64 b, i64 n, i64 nx, i64 0] 98))).below (below_one _ (.cells #[i64 18, i64 a, i64 b, i64 n] 96))
  have ca := hB2.r0.cell hC a (by omega)
  have cb := hB2.r0.cell hC b (by omega)
  rw [HVA.out] at ca
  rw [HVB.out] at cb
  have HB2 := hid hB2
  have hz1 := HB1.out.siz
  clear hb1 HB HA hc8 hB2
  go_upto_region 5 with fail
  obtain ⟨V2, hV2⟩ : ∃ V2, V2 = (w1.alloc (.cells #[i64 18, i64 a, i64 b, i64 n, i64 nx, i64 0] 98)).alloc (.cells #[i64 18, i64 a, i64 b, i64 n] 96) := ⟨_, rfl⟩
  have d1 : V2.cell? ⟨w1.heap.size + 1, 1, none⟩ = some (i64 a) := by rw [hV2, cell_of_row _ _ _ _ 96 (0, 0) (heap_at (by simp) _)]; rfl
  have d2 : V2.cell? ⟨w1.heap.size + 1, 2, none⟩ = some (i64 b) := by rw [hV2, cell_of_row _ _ _ _ 96 (0, 0) (heap_at (by simp) _)]; rfl
  have hz2 : V2.heap.size = w1.heap.size + 1 + 1 := by rw [hV2]; simp
  have HZ2 : Hid (V2.heap.size = w1.heap.size + 1 + 1) := hz2
  rw [← hV2] at HM3 HB2 ca cb ⊢
  clear hV2 hz2
  go_upto_region 7 with fail
  clear ca cb d1 d2
  have HT9 : Hid ((V2.alloc (.cells #[u16 0, u16 0, u16 0, u16 0, u16 0, u16 0, u16 0, u16 0, u16 0] 30)).there V2.heap.size 0 (cpC C).toArray.size) := by
    have := fin_there (Row.there (V := V2.alloc (.cells #[u16 0, u16 0, u16 0, u16 0, u16 0, u16 0, u16 0, u16 0, u16 0] 30)) (b := V2.heap.size) (C := z9) ⟨heap_at rfl _⟩ Rg.zero) hC
    exact this
  rw [← HZ2.out] at HM3
  go_upto_region 8 with (first
    | (refine wpList_load_mid rfl 30 (.tmp 2) rfl w.heap.size 0 rfl (cpC C) _ (by exact HB2.out.r0.range) Tryd.underlying30 rfl (cpC_info hC) ?_)
    | (refine wpList_store_mid rfl 30 (.tmp 9) (.tmp 34) rfl V2.heap.size 0 (cpC C).toArray rfl rfl (by exact HT9.out) (cpC_infoA hC) (cpC_one _) ?_))
  have hM3 := HM3.out
  generalize (V2.alloc (.cells #[u16 0, u16 0, u16 0, u16 0, u16 0, u16 0, u16 0, u16 0, u16 0] 30)).setCells V2.heap.size 0 (cpC C) = V3 at *
  generalize V2.heap.size = q3 at *
  generalize w1.heap.size = q at *
  clear HT9 HM3
  have c8 := hM3.n3.cell hC 8 (by omega)
  have f8 := hM3.n3.free 8
  have g4 := hM3.cells.1
  obtain ⟨V4, hV4⟩ : ∃ V4, V4 = V3.setCell ⟨q3, 8, none⟩ (u16 pn) := ⟨_, rfl⟩
  have hM4 := hM3.set 8 pn
  rw [← hV4] at hM4
  have HM4 : Hid (RM w V4 C (C.set 8 pn) q (q + 1) q3 ⟨18, a, b, n⟩ nx) := hM4
  have HV4 : Hid (V4 = V3.setCell ⟨q3, 8, none⟩ (u16 pn)) := hV4
  clear hM3 hM4 hV4
  go_upto_region 9 with fail
  rw [← HV4.out]
  obtain ⟨g4', q0, q1, q2, q3'⟩ := HM4.out.cells
  clear c8 f8 g4 HZ2
  have c8 := HM4.out.n3.cell hC1 8 (by omega)
  have f8 := HM4.out.n3.free 8
  go_upto_region 30 with fail
  have HM5 : Hid (RM w (V4.setCell ⟨q3, 8, none⟩ (u16 wr)) C (C.set 8 wr) q (q + 1) q3 ⟨18, a, b, n⟩ nx) := by have := HM4.out.set 8 wr; rw [List.set_set] at this; exact this
  generalize V4.setCell ⟨q3, 8, none⟩ (u16 wr) = V5 at *
  go_wp2_with (first
    | (refine wpList_load_mid rfl 30 (.tmp 9) rfl q3 0 rfl (cpC (C.set 8 wr)) _ (by exact HM5.out.n3.range) Tryd.underlying30 rfl (cpC_info hC2) ?_)
    | (refine wpList_build2 rfl (.tmp 136) (.tmp 137) rfl (C := C.set 8 wr) ⟨5, 0, 0, 0, 0, 0⟩ rfl rfl hC2 ?_)
    | (refine wpList_store_mid rfl 88 (.tmp 4) (.tmp 138) rfl (w.heap.size + 1) 0 (dnC (C.set 8 wr) ⟨5, 0, 0, 0, 0, 0⟩).toArray rfl rfl (by exact HM5.out.beg.thr hC2 ⟨5, 0, 0, 0, 0, 0⟩) (dnC_infoA hC2 ⟨5, 0, 0, 0, 0, 0⟩) (dnC_one _ _) ?_))
  obtain ⟨g1, g2⟩ := HM5.out.beg.fin hC2 ⟨5, 0, 0, 0, 0, 0⟩
  exact bodyPost_ret (results_done rfl g1) rfl ⟨rfl, g2⟩
set_option maxRecDepth 100000 in
set_option maxHeartbeats 1600000 in
theorem rstep_stay18 (w : World) (C : List Nat) (hC : Rg C) (s : ByteArray) (pc a b va vb pn : Nat) (n nx : Int) (hpc : C.getD 8 0 = pc)
    (hA : ∀ w, Calls Tryd.prog 43 #[.string s, i64 pc] w fun e w' => e = .returned (gotV ⟨18, a, b, n⟩ nx 0) ∧ Below w.heap.size w w')
    (ha : a < 8) (hb : b < 8) (hva : C.getD a 0 = va) (hvb : C.getD b 0 = vb) (hpn : wd nx = pn) (hz : va ≠ 0) :
    Calls Tryd.prog 36 #[cpV C, .string s] w fun e w' => e = .returned (dnV (C.set 8 pn) (⟨5, 0, 0, 0, 0, 0⟩)) ∧ Below w.heap.size w w' := by
  have hpc16 : pc < 65536 := by rw [← hpc]; exact hC.get 8
  have hva16 : va < 65536 := by rw [← hva]; exact hC.get a
  have hvb16 : vb < 65536 := by rw [← hvb]; exact hC.get b
  have hpn16 : pn < 65536 := by rw [← hpn]; exact wd_lt _
  have hpw : IntKind.u16.wrap nx = (pn : Int) := by rw [wrap_u16', ← hpn]; unfold wd; omega
  have HA : Hid (∀ w, Calls Tryd.prog 43 #[.string s, i64 pc] w fun e w' => e = .returned (gotV ⟨18, a, b, n⟩ nx 0) ∧ Below w.heap.size w w') := hA
  have hC1 : Rg (C.set 8 pn) := hC.set _ _ hpn16
  have HVA : Hid (C.getD a 0 = va) := hva
  have HVB : Hid (C.getD b 0 = vb) := hvb
  have HPC : Hid (C.getD 8 0 = pc) := hpc
  have haI : (a : Int) < 8 := by omega
  have hbI : (b : Int) < 8 := by omega
  clear hA hva hvb hpn hpc
  have hzb : ((va : Int) == 0) = false := by simp; omega
  have hzn : ((va : Int) != 0) = true := by simp; omega
  clear hz
  go_enter Tryd.func36, Tryd.ntmps36
  go_upto_region 1 with fail
  have hB := RBeg.start w C
  generalize ((w.alloc (.cells (cpC C).toArray 30)).alloc (.cells #[u16 0, u16 0, u16 0, u16 0, u16 0, u16 0, u16 0, u16 0, u16 0, i64 0, i64 0, i64 0, i64 0, i64 0, i64 0] 88)) = V at *
  have hc8 := hB.r0.cell hC 8 (by omega)
  rw [HPC.out] at hc8
  have HB : Hid (RBeg w V C) := hB
  clear hB
  go_wp2_with fail
  refine (HA.out _).mono ?_
  rintro e w1 ⟨rfl, hb1⟩
  have HB1 : Hid (RBeg w w1 C) := HB.out.below hb1
  have HM3 := hid (RM.start HB1.out hC ⟨18, a, b, n⟩ nx)
  have hB2 := (HB1.out.below (below_one w1 (.cells #[i64 18, i64 a, i64 b, i64 n, i64 nx, i64 0] 98))).below (below_one _ (.cells #[i64 18, i64 a, i64 b, i64 n] 96))
  have ca := hB2.r0.cell hC a (by omega)
  have cb := hB2.r0.cell hC b (by omega)
  rw [HVA.out] at ca
  rw [HVB.out] at cb
  have HB2 := hid hB2
  have hz1 := HB1.out.siz
  clear hb1 HB HA hc8 hB2
  go_upto_region 5 with fail
  obtain ⟨V2, hV2⟩ : ∃ V2, V2 = (w1.alloc (.cells #[i64 18, i64 a, i64 b, i64 n, i64 nx, i64 0] 98)).alloc (.cells #[i64 18, i64 a, i64 b, i64 n] 96) := ⟨_, rfl⟩
  have d1 : V2.cell? ⟨w1.heap.size + 1, 1, none⟩ = some (i64 a) := by rw [hV2, cell_of_row _ _ _ _ 96 (0, 0) (heap_at (by simp) _)]; rfl
  have d2 : V2.cell? ⟨w1.heap.size + 1, 2, none⟩ = some (i64 b) := by rw [hV2, cell_of_row _ _ _ _ 96 (0, 0) (heap_at (by simp) _)]; rfl
  have hz2 : V2.heap.size = w1.heap.size + 1 + 1 := by rw [hV2]; simp
  have HZ2 : Hid (V2.heap.size = w1.heap.size + 1 + 1) := hz2
  rw [← hV2] at HM3 HB2 ca cb ⊢
  clear hV2 hz2
  go_upto_region 7 with fail
  clear ca cb d1 d2
  have HT9 : Hid ((V2.alloc (.cells #[u16 0, u16 0, u16 0, u16 0, u16 0, u16 0, u16 0, u16 0, u16 0] 30)).there V2.heap.size 0 (cpC C).toArray.size) := by
    have := fin_there (Row.there (V := V2.alloc (.cells #[u16 0, u16 0, u16 0, u16 0, u16 0, u16 0, u16 0, u16 0, u16 0] 30)) (b := V2.heap.size) (C := z9) ⟨heap_at rfl _⟩ Rg.zero) hC
    exact this
  rw [← HZ2.out] at HM3
  go_upto_region 8 with (first
    | (refine wpList_load_mid rfl 30 (.tmp 2) rfl w.heap.size 0 rfl (cpC C) _ (by exact HB2.out.r0.range) Tryd.underlying30 rfl (cpC_info hC) ?_)
    | (refine wpList_store_mid rfl 30 (.tmp 9) (.tmp 34) rfl V2.heap.size 0 (cpC C).toArray rfl rfl (by exact HT9.out) (cpC_infoA hC) (cpC_one _) ?_))
  have hM3 := HM3.out
  generalize (V2.alloc (.cells #[u16 0, u16 0, u16 0, u16 0, u16 0, u16 0, u16 0, u16 0, u16 0] 30)).setCells V2.heap.size 0 (cpC C) = V3 at *
  generalize V2.heap.size = q3 at *
  generalize w1.heap.size = q at *
  clear HT9 HM3
  have c8 := hM3.n3.cell hC 8 (by omega)
  have f8 := hM3.n3.free 8
  have g4 := hM3.cells.1
  obtain ⟨V4, hV4⟩ : ∃ V4, V4 = V3.setCell ⟨q3, 8, none⟩ (u16 pn) := ⟨_, rfl⟩
  have hM4 := hM3.set 8 pn
  rw [← hV4] at hM4
  have HM4 : Hid (RM w V4 C (C.set 8 pn) q (q + 1) q3 ⟨18, a, b, n⟩ nx) := hM4
  have HV4 : Hid (V4 = V3.setCell ⟨q3, 8, none⟩ (u16 pn)) := hV4
  clear hM3 hM4 hV4
  go_upto_region 9 with fail
  rw [← HV4.out]
  obtain ⟨g4', q0, q1, q2, q3'⟩ := HM4.out.cells
  clear c8 f8 g4 HZ2
  go_wp2_with (first
    | (refine wpList_load_mid rfl 30 (.tmp 9) rfl q3 0 rfl (cpC (C.set 8 pn)) _ (by exact HM4.out.n3.range) Tryd.underlying30 rfl (cpC_info hC1) ?_)
    | (refine wpList_build2 rfl (.tmp 136) (.tmp 137) rfl (C := C.set 8 pn) ⟨5, 0, 0, 0, 0, 0⟩ rfl rfl hC1 ?_)
    | (refine wpList_store_mid rfl 88 (.tmp 4) (.tmp 138) rfl (w.heap.size + 1) 0 (dnC (C.set 8 pn) ⟨5, 0, 0, 0, 0, 0⟩).toArray rfl rfl (by exact HM4.out.beg.thr hC1 ⟨5, 0, 0, 0, 0, 0⟩) (dnC_infoA hC1 ⟨5, 0, 0, 0, 0, 0⟩) (dnC_one _ _) ?_))
  obtain ⟨g1, g2⟩ := HM4.out.beg.fin hC1 ⟨5, 0, 0, 0, 0, 0⟩
  exact bodyPost_ret (results_done rfl g1) rfl ⟨rfl, g2⟩
set_option maxRecDepth 100000 in
set_option maxHeartbeats 1600000 in
theorem rstep_far19 (w : World) (C : List Nat) (hC : Rg C) (s : ByteArray) (pc a b va vb pn : Nat) (n nx : Int) (hpc : C.getD 8 0 = pc)
    (hA : ∀ w, Calls Tryd.prog 43 #[.string s, i64 pc] w fun e w' => e = .returned (gotV ⟨19, a, b, n⟩ nx 0) ∧ Below w.heap.size w w')
    (ha : a < 8) (hb : b < 8) (hva : C.getD a 0 = va) (hvb : C.getD b 0 = vb) (hpn : wd nx = pn) (wr : Nat) (hz : va ≠ 0) (hn : 0 ≤ n ∧ n ≤ 65535) (hnx : 0 ≤ nx ∧ nx ≤ 4611686018427387904) (hwr : wd (nx + n) = wr) :
    Calls Tryd.prog 36 #[cpV C, .string s] w fun e w' => e = .returned (dnV (C.set 8 wr) (⟨5, 0, 0, 0, 0, 0⟩)) ∧ Below w.heap.size w w' := by
  have hpc16 : pc < 65536 := by rw [← hpc]; exact hC.get 8
  have hva16 : va < 65536 := by rw [← hva]; exact hC.get a
  have hvb16 : vb < 65536 := by rw [← hvb]; exact hC.get b
  have hpn16 : pn < 65536 := by rw [← hpn]; exact wd_lt _
  have hpw : IntKind.u16.wrap nx = (pn : Int) := by rw [wrap_u16', ← hpn]; unfold wd; omega
  have HA : Hid (∀ w, Calls Tryd.prog 43 #[.string s, i64 pc] w fun e w' => e = .returned (gotV ⟨19, a, b, n⟩ nx 0) ∧ Below w.heap.size w w') := hA
  have hC1 : Rg (C.set 8 pn) := hC.set _ _ hpn16
  have HVA : Hid (C.getD a 0 = va) := hva
  have HVB : Hid (C.getD b 0 = vb) := hvb
  have HPC : Hid (C.getD 8 0 = pc) := hpc
  have haI : (a : Int) < 8 := by omega
  have hbI : (b : Int) < 8 := by omega
  clear hA hva hvb hpn hpc
  obtain ⟨hn0, hn1⟩ := hn
  obtain ⟨hx0, hx1⟩ := hnx
  have hw2 : IntKind.u16.wrap ((nx + n) % 65536) = (wr : Int) := by rw [wrap_u16', ← hwr]; unfold wd; omega
  have hw3 : (nx + n) % 65536 = (wr : Int) := by rw [← hwr]; unfold wd; omega
  have hwr16 : wr < 65536 := by rw [← hwr]; exact wd_lt _
  have hC2 : Rg (C.set 8 wr) := hC.set _ _ hwr16
  clear hwr
  have hzb : ((va : Int) == 0) = false := by simp; omega
  have hzn : ((va : Int) != 0) = true := by simp; omega
  clear hz
  go_enter Tryd.func36, Tryd.ntmps36
  go_upto_region 1 with fail
  have hB := RBeg.start w C
  generalize ((w.alloc (.cells (cpC C).toArray 30)).alloc (.cells #[u16 0, u16 0, u16 0, u16 0, u16 0, u16 0, u16 0, u16 0, u16 0, i64 0, i64 0, i64 0, i64 0, i64 0, i64 0] 88)) = V at *
  have hc8 := hB.r0.cell hC 8 (by omega)
  rw [HPC.out] at hc8
  have HB : Hid (RBeg w V C) := hB
  clear hB
  go_wp2_with fail
  refine (HA.out _).mono ?_
  rintro e w1 ⟨rfl, hb1⟩
  have HB1 : Hid (RBeg w w1 C) := HB.out.below hb1
  have HM3 := hid (RM.start HB1.out hC ⟨19, a, b, n⟩ nx)
  have hB2 := (HB1.out.below (below_one w1 (.cells #[i64 19, i64 a, i64 b, i64 n, i64 nx, i64 0] 98))).below (below_one _ (.cells #[i64 19, i64 a, i64 b, i64 n] 96))
  have ca := hB2.r0.cell hC a (by omega)
  have cb := hB2.r0.cell hC b (by omega)
  rw [HVA.out] at ca
  rw [HVB.out] at cb
  have HB2 := hid hB2
  have hz1 := HB1.out.siz
  clear hb1 HB HA hc8 hB2
  go_upto_region 5 with fail
  obtain ⟨V2, hV2⟩ : ∃ V2, V2 = (w1.alloc (.cells #[i64 19, i64 a, i64 b, i64 n, i64 nx, i64 0] 98)).alloc (.cells #[i64 19, i64 a, i64 b, i64 n] 96) := ⟨_, rfl⟩
  have d1 : V2.cell? ⟨w1.heap.size + 1, 1, none⟩ = some (i64 a) := by rw [hV2, cell_of_row _ _ _ _ 96 (0, 0) (heap_at (by simp) _)]; rfl
  have d2 : V2.cell? ⟨w1.heap.size + 1, 2, none⟩ = some (i64 b) := by rw [hV2, cell_of_row _ _ _ _ 96 (0, 0) (heap_at (by simp) _)]; rfl
  have hz2 : V2.heap.size = w1.heap.size + 1 + 1 := by rw [hV2]; simp
  have HZ2 : Hid (V2.heap.size = w1.heap.size + 1 + 1) := hz2
  rw [← hV2] at HM3 HB2 ca cb ⊢
  clear hV2 hz2
  go_upto_region 7 with fail
  clear ca cb d1 d2
  have HT9 : Hid ((V2.alloc (.cells #[u16 0, u16 0, u16 0, u16 0, u16 0, u16 0, u16 0, u16 0, u16 0] 30)).there V2.heap.size 0 (cpC C).toArray.size) := by
    have := fin_there (Row.there (V := V2.alloc (.cells #[u16 0, u16 0, u16 0, u16 0, u16 0, u16 0, u16 0, u16 0, u16 0] 30)) (b := V2.heap.size) (C := z9) ⟨heap_at rfl _⟩ Rg.zero) hC
    exact this
  rw [← HZ2.out] at HM3
  go_upto_region 8 with (first
    | (refine wpList_load_mid rfl 30 (.tmp 2) rfl w.heap.size 0 rfl (cpC C) _ (by exact HB2.out.r0.range) Tryd.underlying30 rfl (cpC_info hC) ?_)
    | (refine wpList_store_mid rfl 30 (.tmp 9) (.tmp 34) rfl V2.heap.size 0 (cpC C).toArray rfl rfl (by exact HT9.out) (cpC_infoA hC) (cpC_one _) ?_))
  have hM3 := HM3.out
  generalize (V2.alloc (.cells #[u16 0, u16 0, u16 0, u16 0, u16 0, u16 0, u16 0, u16 0, u16 0] 30)).setCells V2.heap.size 0 (cpC C) = V3 at *
  generalize V2.heap.size = q3 at *
  generalize w1.heap.size = q at *
  clear HT9 HM3
  have c8 := hM3.n3.cell hC 8 (by omega)
  have f8 := hM3.n3.free 8
  have g4 := hM3.cells.1
  obtain ⟨V4, hV4⟩ : ∃ V4, V4 = V3.setCell ⟨q3, 8, none⟩ (u16 pn) := ⟨_, rfl⟩
  have hM4 := hM3.set 8 pn
  rw [← hV4] at hM4
  have HM4 : Hid (RM w V4 C (C.set 8 pn) q (q + 1) q3 ⟨19, a, b, n⟩ nx) := hM4
  have HV4 : Hid (V4 = V3.setCell ⟨q3, 8, none⟩ (u16 pn)) := hV4
  clear hM3 hM4 hV4
  go_upto_region 9 with fail
  rw [← HV4.out]
  obtain ⟨g4', q0, q1, q2, q3'⟩ := HM4.out.cells
  clear c8 f8 g4 HZ2
  have c8 := HM4.out.n3.cell hC1 8 (by omega)
  have f8 := HM4.out.n3.free 8
  go_upto_region 30 with fail
  have HM5 : Hid (RM w (V4.setCell ⟨q3, 8, none⟩ (u16 wr)) C (C.set 8 wr) q (q + 1) q3 ⟨19, a, b, n⟩ nx) := by have := HM4.out.set 8 wr; rw [List.set_set] at this; exact this
  generalize V4.setCell ⟨q3, 8, none⟩ (u16 wr) = V5 at *
  go_wp2_with (first
    | (refine wpList_load_mid rfl 30 (.tmp 9) rfl q3 0 rfl (cpC (C.set 8 wr)) _ (by exact HM5.out.n3.range) Tryd.underlying30 rfl (cpC_info hC2) ?_)
    | (refine wpList_build2 rfl (.tmp 136) (.tmp 137) rfl (C := C.set 8 wr) ⟨5, 0, 0, 0, 0, 0⟩ rfl rfl hC2 ?_)
    | (refine wpList_store_mid rfl 88 (.tmp 4) (.tmp 138) rfl (w.heap.size + 1) 0 (dnC (C.set 8 wr) ⟨5, 0, 0, 0, 0, 0⟩).toArray rfl rfl (by exact HM5.out.beg.thr hC2 ⟨5, 0, 0, 0, 0, 0⟩) (dnC_infoA hC2 ⟨5, 0, 0, 0, 0, 0⟩) (dnC_one _ _) ?_))
  obtain ⟨g1, g2⟩ := HM5.out.beg.fin hC2 ⟨5, 0, 0, 0, 0, 0⟩
  exact bodyPost_ret (results_done rfl g1) rfl ⟨rfl, g2⟩
set_option maxRecDepth 100000 in
set_option maxHeartbeats 1600000 in
theorem rstep_stay19 (w : World) (C : List Nat) (hC : Rg C) (s : ByteArray) (pc a b va vb pn : Nat) (n nx : Int) (hpc : C.getD 8 0 = pc)
    (hA : ∀ w, Calls Tryd.prog 43 #[.string s, i64 pc] w fun e w' => e = .returned (gotV ⟨19, a, b, n⟩ nx 0) ∧ Below w.heap.size w w')
    (ha : a < 8) (hb : b < 8) (hva : C.getD a 0 = va) (hvb : C.getD b 0 = vb) (hpn : wd nx = pn) (hz : va = 0) :
    Calls Tryd.prog 36 #[cpV C, .string s] w fun e w' => e = .returned (dnV (C.set 8 pn) (⟨5, 0, 0, 0, 0, 0⟩)) ∧ Below w.heap.size w w' := by
  have hpc16 : pc < 65536 := by rw [← hpc]; exact hC.get 8
  have hva16 : va < 65536 := by rw [← hva]; exact hC.get a
  have hvb16 : vb < 65536 := by rw [← hvb]; exact hC.get b
  have hpn16 : pn < 65536 := by rw [← hpn]; exact wd_lt _
  have hpw : IntKind.u16.wrap nx = (pn : Int) := by rw [wrap_u16', ← hpn]; unfold wd; omega
  have HA : Hid (∀ w, Calls Tryd.prog 43 #[.string s, i64 pc] w fun e w' => e = .returned (gotV ⟨19, a, b, n⟩ nx 0) ∧ Below w.heap.size w w') := hA
  have hC1 : Rg (C.set 8 pn) := hC.set _ _ hpn16
  have HVA : Hid (C.getD a 0 = va) := hva
  have HVB : Hid (C.getD b 0 = vb) := hvb
  have HPC : Hid (C.getD 8 0 = pc) := hpc
  have haI : (a : Int) < 8 := by omega
  have hbI : (b : Int) < 8 := by omega
  clear hA hva hvb hpn hpc
  have hzb : ((va : Int) == 0) = true := by simp; omega
  have hzn : ((va : Int) != 0) = false := by simp; omega
  clear hz
  go_enter Tryd.func36, Tryd.ntmps36
  go_upto_region 1 with fail
  have hB := RBeg.start w C
  generalize ((w.alloc (.cells (cpC C).toArray 30)).alloc (.cells #[u16 0, u16 0, u16 0, u16 0, u16 0, u16 0, u16 0, u16 0, u16 0, i64 0, i64 0, i64 0, i64 0, i64 0, i64 0] 88)) = V at *
  have hc8 := hB.r0.cell hC 8 (by omega)
  rw [HPC.out] at hc8
  have HB : Hid (RBeg w V C) := hB
  clear hB
  go_wp2_with fail
  refine (HA.out _).mono ?_
  rintro e w1 ⟨rfl, hb1⟩
  have HB1 : Hid (RBeg w w1 C) := HB.out.below hb1
  have HM3 := hid (RM.start HB1.out hC ⟨19, a, b, n⟩ nx)
  have hB2 := (HB1.out.below (below_one w1 (.cells #[i64 19, i64 a, i64 b, i64 n, i64 nx, i64 0] 98))).below (below_one _ (.cells #[i64 19, i64 a, i64 b, i64 n] 96))
  have ca := hB2.r0.cell hC a (by omega)
  have cb := hB2.r0.cell hC b (by omega)
  rw [HVA.out] at ca
  rw [HVB.out] at cb
  have HB2 := hid hB2
  have hz1 := HB1.out.siz
  clear hb1 HB HA hc8 hB2
  go_upto_region 5 with fail
  obtain ⟨V2, hV2⟩ : ∃ V2, V2 = (w1.alloc (.cells #[i64 19, i64 a, i64 b, i64 n, i64 nx, i64 0] 98)).alloc (.cells #[i64 19, i64 a, i64 b, i64 n] 96) := ⟨_, rfl⟩
  have d1 : V2.cell? ⟨w1.heap.size + 1, 1, none⟩ = some (i64 a) := by rw [hV2, cell_of_row _ _ _ _ 96 (0, 0) (heap_at (by simp) _)]; rfl
  have d2 : V2.cell? ⟨w1.heap.size + 1, 2, none⟩ = some (i64 b) := by rw [hV2, cell_of_row _ _ _ _ 96 (0, 0) (heap_at (by simp) _)]; rfl
  have hz2 : V2.heap.size = w1.heap.size + 1 + 1 := by rw [hV2]; simp
  have HZ2 : Hid (V2.heap.size = w1.heap.size + 1 + 1) := hz2
  rw [← hV2] at HM3 HB2 ca cb ⊢
  clear hV2 hz2
  go_upto_region 7 with fail
  clear ca cb d1 d2
  have HT9 : Hid ((V2.alloc (.cells #[u16 0, u16 0, u16 0, u16 0, u16 0, u16 0, u16 0, u16 0, u16 0] 30)).there V2.heap.size 0 (cpC C).toArray.size) := by
    have := fin_there (Row.there (V := V2.alloc (.cells #[u16 0, u16 0, u16 0, u16 0, u16 0, u16 0, u16 0, u16 0, u16 0] 30)) (b := V2.heap.size) (C := z9) ⟨heap_at rfl _⟩ Rg.zero) hC
    exact this
  rw [← HZ2.out] at HM3
  go_upto_region 8 with (first
    | (refine wpList_load_mid rfl 30 (.tmp 2) rfl w.heap.size 0 rfl (cpC C) _ (by exact HB2.out.r0.range) Tryd.underlying30 rfl (cpC_info hC) ?_)
    | (refine wpList_store_mid rfl 30 (.tmp 9) (.tmp 34) rfl V2.heap.size 0 (cpC C).toArray rfl rfl (by exact HT9.out) (cpC_infoA hC) (cpC_one _) ?_))
  have hM3 := HM3.out
  generalize (V2.alloc (.cells #[u16 0, u16 0, u16 0, u16 0, u16 0, u16 0, u16 0, u16 0, u16 0] 30)).setCells V2.heap.size 0 (cpC C) = V3 at *
  generalize V2.heap.size = q3 at *
  generalize w1.heap.size = q at *
  clear HT9 HM3
  have c8 := hM3.n3.cell hC 8 (by omega)
  have f8 := hM3.n3.free 8
  have g4 := hM3.cells.1
  obtain ⟨V4, hV4⟩ : ∃ V4, V4 = V3.setCell ⟨q3, 8, none⟩ (u16 pn) := ⟨_, rfl⟩
  have hM4 := hM3.set 8 pn
  rw [← hV4] at hM4
  have HM4 : Hid (RM w V4 C (C.set 8 pn) q (q + 1) q3 ⟨19, a, b, n⟩ nx) := hM4
  have HV4 : Hid (V4 = V3.setCell ⟨q3, 8, none⟩ (u16 pn)) := hV4
  clear hM3 hM4 hV4
  go_upto_region 9 with fail
  rw [← HV4.out]
  obtain ⟨g4', q0, q1, q2, q3'⟩ := HM4.out.cells
  clear c8 f8 g4 HZ2
  go_wp2_with (first
    | (refine wpList_load_mid rfl 30 (.tmp 9) rfl q3 0 rfl (cpC (C.set 8 pn)) _ (by exact HM4.out.n3.range) Tryd.underlying30 rfl (cpC_info hC1) ?_)
    | (refine wpList_build2 rfl (.tmp 136) (.tmp 137) rfl (C := C.set 8 pn) ⟨5, 0, 0, 0, 0, 0⟩ rfl rfl hC1 ?_)
    | (refine wpList_store_mid rfl 88 (.tmp 4) (.tmp 138) rfl (w.heap.size + 1) 0 (dnC (C.set 8 pn) ⟨5, 0, 0, 0, 0, 0⟩).toArray rfl rfl (by exact HM4.out.beg.thr hC1 ⟨5, 0, 0, 0, 0, 0⟩) (dnC_infoA hC1 ⟨5, 0, 0, 0, 0, 0⟩) (dnC_one _ _) ?_))
  obtain ⟨g1, g2⟩ := HM4.out.beg.fin hC1 ⟨5, 0, 0, 0, 0, 0⟩
  exact bodyPost_ret (results_done rfl g1) rfl ⟨rfl, g2⟩
end Go.Proofs.YtigbfdloodfdgaaDoor
