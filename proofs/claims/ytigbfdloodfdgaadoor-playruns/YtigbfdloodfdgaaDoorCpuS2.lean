/- cpu.Step, an instruction that goes: its contract; no statement is proved in this text. -/
import Derived.Test.YtigbfdloodfdgaaDoorCpuS1
import Derived.Test.YtigbfdloodfdgaaDoorOrd
import Derived.Deep.RegionHeld3
import Derived.Deep.DeepCutAuto
namespace Go.Proofs.YtigbfdloodfdgaaDoor
open Go.ChangeShapes Go.WideShapes Go.ChangeAt Go.RowKit

theorem at_fine {l : List UInt8} {p : Int} (h : atE l p = 0) : isI (atI l p) = true ∧ atN l p = p + (sz (atI l p).op.toNat : Int) ∧ 0 ≤ p ∧ p < l.length := by
  unfold atE at h
  unfold atI atN
  by_cases hp : 0 ≤ p ∧ p < l.length
  · rw [if_pos hp] at h ⊢
    rw [if_pos hp]
    cases hh : hd (l.drop p.toNat) with
    | none => rw [hh] at h; simp at h
    | some i =>
      refine ⟨?_, rfl, hp.1, hp.2⟩
      unfold hd at hh
      split at hh
      · cases hh
      · split at hh
        · rename_i hc
          cases hh
          exact hc.2.2
        · cases hh
  · rw [if_neg hp] at h; cases h
/-- What stands behind the PC's store. -/
structure Mid2 (w V : World) (C : List Nat) (q : Nat) (i : In) : Prop where
  beg : Beg w V C
  ins : V.heap[q]? = some (.cells #[i64 i.op, i64 i.a, i64 i.b, i64 i.n] 80 (0, 0))
  hq : w.heap.size + 2 < q
theorem Mid2.cells {w V : World} {C : List Nat} {q : Nat} {i : In} (h : Mid2 w V C q i) : V.cell? ⟨q, 0, none⟩ = some (i64 i.op) ∧ V.cell? ⟨q, 1, none⟩ = some (i64 i.a) ∧ V.cell? ⟨q, 2, none⟩ = some (i64 i.b) ∧ V.cell? ⟨q, 3, none⟩ = some (i64 i.n) := by
  rw [cell_of_row _ _ _ _ 80 (0, 0) h.ins, cell_of_row _ _ _ _ 80 (0, 0) h.ins, cell_of_row _ _ _ _ 80 (0, 0) h.ins, cell_of_row _ _ _ _ 80 (0, 0) h.ins]
  exact ⟨rfl, rfl, rfl, rfl⟩
theorem Mid2.set {w V : World} {C : List Nat} {q : Nat} {i : In} (h : Mid2 w V C q i) (j x : Nat) : Mid2 w (V.setCell ⟨w.heap.size, j, none⟩ (u16 x)) (C.set j x) q i :=
  ⟨⟨h.beg.r0.set j x, h.beg.r1.other (by omega) _, h.beg.r2.other (by omega) _, h.beg.bel.setCell (by simp) _, by have := h.beg.siz; simpa [World.setCell] using this⟩,
    (Below.heap_setCell _ _ _ _ (by have := h.hq; show q ≠ w.heap.size; omega)).trans h.ins, h.hq⟩
theorem Mid2.below {w V W : World} {C : List Nat} {q : Nat} {i : In} (h : Mid2 w V C q i) (hb : Below V.heap.size V W) : Mid2 w W C q i :=
  ⟨h.beg.below hb, (hb.block _ (Array.getElem?_eq_some_iff.1 h.ins).1).trans h.ins, h.hq⟩
theorem Mid2.start {w w1 : World} {C : List Nat} (h : Beg w w1 C) (i : In) : Mid2 w (w1.alloc (.cells #[i64 i.op, i64 i.a, i64 i.b, i64 i.n] 80)) C w1.heap.size i :=
  ⟨h.below (below_one w1 _), heap_at rfl _, h.siz⟩
theorem set_getD_ne (C : List Nat) (j k x : Nat) (h : j ≠ k) : (C.set j x).getD k 0 = C.getD k 0 := by
  rw [List.getD_eq_getElem?_getD, List.getD_eq_getElem?_getD, List.getElem?_set_ne h]

/-- What the operations of the result's region read. -/
structure Sq (H q : Nat) (op n : Int) (a b va vb : Nat) (W : World) : Prop where
  s0 : W.cell? ⟨q, 0, none⟩ = some (i64 op)
  s1 : W.cell? ⟨q, 1, none⟩ = some (i64 a)
  s2 : W.cell? ⟨q, 2, none⟩ = some (i64 b)
  s3 : W.cell? ⟨q, 3, none⟩ = some (i64 n)
  sa : W.cell? ⟨H, a, none⟩ = some (u16 va)
  sb : W.cell? ⟨H, b, none⟩ = some (u16 vb)
set_option maxRecDepth 100000 in
set_option maxHeartbeats 1600000 in
theorem step_def (w : World) (ht : Tab w) (C : List Nat) (hC : Rg C) (s : ByteArray) (pc a b va vb pn wr : Nat) (op n nx rs : Int) (hpc : C.getD 8 0 = pc)
    (hA : ∀ w, Tab w → Calls Tryd.prog 32 #[.string s, i64 pc] w fun e w' => e = .returned (atV ⟨op, a, b, n⟩ nx 0) ∧ Below w.heap.size w w')
    (ha : a < 8) (hb : b < 8) (hva : C.getD a 0 = va) (hvb : C.getD b 0 = vb) (hpn : wd nx = pn) (h1 : 1 ≤ op) (h2 : op ≤ 12) (hR : ∀ w, Calls Tryd.prog 35 #[inV ⟨op, a, b, n⟩, i64 va, i64 vb] w fun e w' => e = .returned (i64 rs) ∧ Below w.heap.size w w') (hwr : wd rs = wr) :
    Calls Tryd.prog 16 #[cpV C, .string s] w fun e w' => e = .returned (stV ((C.set 8 pn).set a wr) (⟨5, 0, 0, 0, 0, 0⟩)) ∧ Below w.heap.size w w' := by
  have hpc16 : pc < 65536 := by rw [← hpc]; exact hC.get 8
  have hva16 : va < 65536 := by rw [← hva]; exact hC.get a
  have hvb16 : vb < 65536 := by rw [← hvb]; exact hC.get b
  have hpn16 : pn < 65536 := by rw [← hpn]; exact wd_lt _
  have HA : Hid (∀ w, Tab w → Calls Tryd.prog 32 #[.string s, i64 pc] w fun e w' => e = .returned (atV ⟨op, a, b, n⟩ nx 0) ∧ Below w.heap.size w w') := hA
  have HWD : Hid (∀ w, Calls Tryd.prog 33 #[i64 nx] w fun e w' => e = .returned (u16 pn) ∧ w' = w) := fun w => by rw [← hpn]; exact word_ok w nx
  have hC1 : Rg (C.set 8 pn) := hC.set _ _ hpn16
  have HVA : Hid (C.getD a 0 = va) := hva
  have HVB : Hid (C.getD b 0 = vb) := hvb
  have HPC : Hid (C.getD 8 0 = pc) := hpc
  clear hA hva hvb hpn hpc
  have HR : Hid (∀ w, Calls Tryd.prog 35 #[inV ⟨op, a, b, n⟩, i64 va, i64 vb] w fun e w' => e = .returned (i64 rs) ∧ Below w.heap.size w w') := hR
  have HWR : Hid (∀ w, Calls Tryd.prog 33 #[i64 rs] w fun e w' => e = .returned (u16 wr) ∧ w' = w) := fun w => by rw [← hwr]; exact word_ok w rs
  have hC2 : Rg ((C.set 8 pn).set a wr) := hC1.set _ _ (by rw [← hwr]; exact wd_lt _)
  clear hR hwr
  have t17 : (op == 17) = false := by simp; omega
  have t18 : (op == 18) = false := by simp; omega
  have t19 : (op == 19) = false := by simp; omega
  have t0 : (op == 0) = false := by simp; omega
  have t20 : (op == 20) = false := by simp; omega
  have t13 : (op == 13) = false := by simp; omega
  have t15 : (op == 15) = false := by simp; omega
  have t14 : (op == 14) = false := by simp; omega
  have t16 : (op == 16) = false := by simp; omega
  go_enter Tryd.func16, Tryd.ntmps16
  go_wp2_with fail
  have hB := Beg.start w C
  generalize (((w.alloc (.cells (cpC C).toArray 30)).alloc (.cells #[u16 0, u16 0, u16 0, u16 0, u16 0, u16 0, u16 0, u16 0, u16 0] 30)).alloc (.cells #[i64 0, i64 0, i64 0, i64 0, i64 0, i64 0] 61)) = V at *
  have hc8 := hB.r0.cell hC 8 (by omega)
  rw [HPC.out] at hc8
  have HB : Hid (Beg w V C) := hB
  have HT : Hid (Tab V) := ht.below hB.bel
  clear hB ht
  refine wp_scope_ahead 0 rfl ?_
  go_wp2_with fail
  refine (HA.out _ HT.out).mono ?_
  rintro e w1 ⟨rfl, hb1⟩
  have hM1 := Mid2.start (HB.out.below hb1) ⟨op, a, b, n⟩
  clear hb1 HA HB HT hc8
  go_wp2_with fail
  obtain ⟨V1, hV1⟩ : ∃ V1, V1 = w1.alloc (.cells #[i64 op, i64 a, i64 b, i64 n] 80) := ⟨_, rfl⟩
  have hM2 := hM1.set 8 pn
  rw [← hV1] at hM1 hM2 ⊢
  have c8 := hM1.beg.r0.cell hC 8 (by omega)
  have f8 := hM1.beg.r0.free 8
  have hq := hM1.hq
  clear hV1 hM1
  generalize w1.heap.size = q at *
  obtain ⟨V2, hV2⟩ : ∃ V2, V2 = V1.setCell ⟨w.heap.size, 8, none⟩ (u16 pn) := ⟨_, rfl⟩
  have HM2 : Hid (Mid2 w V2 (C.set 8 pn) q ⟨op, a, b, n⟩) := by rw [hV2]; exact hM2
  have HV2 : Hid (V2 = V1.setCell ⟨w.heap.size, 8, none⟩ (u16 pn)) := hV2
  clear hM2 hV2
  refine (HWD.out _).mono ?_
  rintro e w2 ⟨rfl, rfl⟩
  go_upto_region 5 with fail
  rw [← HV2.out]
  obtain ⟨q0, q1, q2, q3⟩ := HM2.out.cells
  have ca := HM2.out.beg.r0.cell hC1 a (by omega)
  have cb := HM2.out.beg.r0.cell hC1 b (by omega)
  have fa := HM2.out.beg.r0.free a
  rw [set_getD_ne _ _ _ _ (by omega), HVA.out] at ca
  rw [set_getD_ne _ _ _ _ (by omega), HVB.out] at cb
  clear c8 f8 HWD
  go_wp2_with fail
  have HS2 : Hid (Sq w.heap.size q op n a b va vb V2.drew) := ⟨q0, q1, q2, q3, ca, cb⟩
  have haI : (a : Int) < 8 := by omega
  have hbI : (b : Int) < 8 := by omega
  clear q0 q1 q2 q3 ca cb fa
  refine wp_region_noPanic ?_
  refine wp_region_last (Sq w.heap.size q op n a b va vb) 19 (by kernel_rfl) ?_
  refine wpL_take 0 27 (.pointer (some ⟨q, 1, none⟩)) [1, 18] rfl rfl (by kernel_rfl) (by decide) (by kernel_rfl) (by kernel_rfl) (by kernel_rfl) (fun _ _ _ h => h) HS2.out (by rfl) (fun W hW => by obtain ⟨s0, s1, s2, s3, sa, sb⟩ := hW; go_simp) ?_
  simp only [Act.put, List.setIfInBounds_toArray, List.set_cons_zero, List.set_cons_succ]
  refine wpL_take 1 28 (i64 a) [18] rfl rfl (by kernel_rfl) (by decide) (by kernel_rfl) (by kernel_rfl) (by kernel_rfl) (fun _ _ _ h => h) HS2.out (by rfl) (fun W hW => by obtain ⟨s0, s1, s2, s3, sa, sb⟩ := hW; go_simp) ?_
  simp only [Act.put, List.setIfInBounds_toArray, List.set_cons_zero, List.set_cons_succ]
  refine wpL_take 2 29 (inV ⟨op, a, b, n⟩) [15, 16] rfl rfl (by kernel_rfl) (by decide) (by kernel_rfl) (by kernel_rfl) (by kernel_rfl) (fun _ _ _ h => h) HS2.out (by rfl) (fun W hW => by obtain ⟨s0, s1, s2, s3, sa, sb⟩ := hW; go_simp) ?_
  simp only [Act.put, List.setIfInBounds_toArray, List.set_cons_zero, List.set_cons_succ]
  refine wpL_take 3 30 (.pointer (some ⟨q, 1, none⟩)) [4, 6, 7, 8, 15, 16] rfl rfl (by kernel_rfl) (by decide) (by kernel_rfl) (by kernel_rfl) (by kernel_rfl) (fun _ _ _ h => h) HS2.out (by rfl) (fun W hW => by obtain ⟨s0, s1, s2, s3, sa, sb⟩ := hW; go_simp) ?_
  simp only [Act.put, List.setIfInBounds_toArray, List.set_cons_zero, List.set_cons_succ]
  refine wpL_take 4 31 (i64 a) [6, 7, 8, 15, 16] rfl rfl (by kernel_rfl) (by decide) (by kernel_rfl) (by kernel_rfl) (by kernel_rfl) (fun _ _ _ h => h) HS2.out (by rfl) (fun W hW => by obtain ⟨s0, s1, s2, s3, sa, sb⟩ := hW; go_simp) ?_
  simp only [Act.put, List.setIfInBounds_toArray, List.set_cons_zero, List.set_cons_succ]
  refine wpL_take 5 32 (.pointer (some ⟨w.heap.size, 0, none⟩)) [6, 7, 8, 15, 16] rfl rfl (by kernel_rfl) (by decide) (by kernel_rfl) (by kernel_rfl) (by kernel_rfl) (fun _ _ _ h => h) HS2.out (by rfl) (fun W hW => by obtain ⟨s0, s1, s2, s3, sa, sb⟩ := hW; go_simp) ?_
  simp only [Act.put, List.setIfInBounds_toArray, List.set_cons_zero, List.set_cons_succ]
  refine wpL_take 6 33 (.pointer (some ⟨w.heap.size, a, none⟩)) [7, 8, 15, 16] rfl rfl (by kernel_rfl) (by decide) (by kernel_rfl) (by kernel_rfl) (by kernel_rfl) (fun _ _ _ h => h) HS2.out (by rfl) (fun W hW => by obtain ⟨s0, s1, s2, s3, sa, sb⟩ := hW; go_simp) ?_
  simp only [Act.put, List.setIfInBounds_toArray, List.set_cons_zero, List.set_cons_succ]
  refine wpL_take 7 34 (u16 va) [8, 15, 16] rfl rfl (by kernel_rfl) (by decide) (by kernel_rfl) (by kernel_rfl) (by kernel_rfl) (fun _ _ _ h => h) HS2.out (by rfl) (fun W hW => by obtain ⟨s0, s1, s2, s3, sa, sb⟩ := hW; go_simp) ?_
  simp only [Act.put, List.setIfInBounds_toArray, List.set_cons_zero, List.set_cons_succ]
  refine wpL_take 8 35 (i64 va) [15, 16] rfl rfl (by kernel_rfl) (by decide) (by kernel_rfl) (by kernel_rfl) (by kernel_rfl) (fun _ _ _ h => h) HS2.out (by rfl) (fun W hW => by obtain ⟨s0, s1, s2, s3, sa, sb⟩ := hW; go_simp; exact wraps_i64 _ (by omega) (by omega)) ?_
  simp only [Act.put, List.setIfInBounds_toArray, List.set_cons_zero, List.set_cons_succ]
  refine wpL_take 9 36 (.pointer (some ⟨q, 2, none⟩)) [10, 12, 13, 14, 15, 16] rfl rfl (by kernel_rfl) (by decide) (by kernel_rfl) (by kernel_rfl) (by kernel_rfl) (fun _ _ _ h => h) HS2.out (by rfl) (fun W hW => by obtain ⟨s0, s1, s2, s3, sa, sb⟩ := hW; go_simp) ?_
  simp only [Act.put, List.setIfInBounds_toArray, List.set_cons_zero, List.set_cons_succ]
  refine wpL_take 10 37 (i64 b) [12, 13, 14, 15, 16] rfl rfl (by kernel_rfl) (by decide) (by kernel_rfl) (by kernel_rfl) (by kernel_rfl) (fun _ _ _ h => h) HS2.out (by rfl) (fun W hW => by obtain ⟨s0, s1, s2, s3, sa, sb⟩ := hW; go_simp) ?_
  simp only [Act.put, List.setIfInBounds_toArray, List.set_cons_zero, List.set_cons_succ]
  refine wpL_take 11 38 (.pointer (some ⟨w.heap.size, 0, none⟩)) [12, 13, 14, 15, 16] rfl rfl (by kernel_rfl) (by decide) (by kernel_rfl) (by kernel_rfl) (by kernel_rfl) (fun _ _ _ h => h) HS2.out (by rfl) (fun W hW => by obtain ⟨s0, s1, s2, s3, sa, sb⟩ := hW; go_simp) ?_
  simp only [Act.put, List.setIfInBounds_toArray, List.set_cons_zero, List.set_cons_succ]
  refine wpL_take 12 39 (.pointer (some ⟨w.heap.size, b, none⟩)) [13, 14, 15, 16] rfl rfl (by kernel_rfl) (by decide) (by kernel_rfl) (by kernel_rfl) (by kernel_rfl) (fun _ _ _ h => h) HS2.out (by rfl) (fun W hW => by obtain ⟨s0, s1, s2, s3, sa, sb⟩ := hW; go_simp) ?_
  simp only [Act.put, List.setIfInBounds_toArray, List.set_cons_zero, List.set_cons_succ]
  refine wpL_take 13 40 (u16 vb) [14, 15, 16] rfl rfl (by kernel_rfl) (by decide) (by kernel_rfl) (by kernel_rfl) (by kernel_rfl) (fun _ _ _ h => h) HS2.out (by rfl) (fun W hW => by obtain ⟨s0, s1, s2, s3, sa, sb⟩ := hW; go_simp) ?_
  simp only [Act.put, List.setIfInBounds_toArray, List.set_cons_zero, List.set_cons_succ]
  refine wpL_take 14 41 (i64 vb) [15, 16] rfl rfl (by kernel_rfl) (by decide) (by kernel_rfl) (by kernel_rfl) (by kernel_rfl) (fun _ _ _ h => h) HS2.out (by rfl) (fun W hW => by obtain ⟨s0, s1, s2, s3, sa, sb⟩ := hW; go_simp; exact wraps_i64 _ (by omega) (by omega)) ?_
  simp only [Act.put, List.setIfInBounds_toArray, List.set_cons_zero, List.set_cons_succ]
  refine wpL_take 17 44 (.pointer (some ⟨w.heap.size, 0, none⟩)) [18] rfl rfl (by kernel_rfl) (by decide) (by kernel_rfl) (by kernel_rfl) (by kernel_rfl) (fun _ _ _ h => h) HS2.out (by rfl) (fun W hW => by obtain ⟨s0, s1, s2, s3, sa, sb⟩ := hW; go_simp) ?_
  simp only [Act.put, List.setIfInBounds_toArray, List.set_cons_zero, List.set_cons_succ]
  refine wpL_one 15 rfl (by kernel_rfl) (by rfl) (fun K hK => ?_)
  go_simp
  refine (HR.out _).mono ?_
  rintro e w3 ⟨rfl, hb3⟩
  have hM3 := (HM2.out.below (W := V2.drew) ⟨rfl, rfl, rfl, Nat.le_refl _, fun _ _ => rfl⟩).below hb3
  obtain ⟨q0, q1, q2, q3⟩ := hM3.cells
  have ca := hM3.beg.r0.cell hC1 a (by omega)
  have cb := hM3.beg.r0.cell hC1 b (by omega)
  have fa := hM3.beg.r0.free a
  rw [set_getD_ne _ _ _ _ (by omega), HVA.out] at ca
  rw [set_getD_ne _ _ _ _ (by omega), HVB.out] at cb
  have HS3 : Hid (Sq w.heap.size q op n a b va vb w3) := ⟨q0, q1, q2, q3, ca, cb⟩
  have HM3 : Hid (Mid2 w w3 (C.set 8 pn) q ⟨op, a, b, n⟩) := hM3
  clear q0 q1 q2 q3 cb hb3 hM3
  go_simp
  refine hK.out _ _ (fun _ => HS3.out) ?_
  clear hK K
  refine wpL_one 16 rfl (by kernel_rfl) (by rfl) (fun K hK => ?_)
  go_simp
  refine (HWR.out _).mono ?_
  rintro e w4 ⟨rfl, rfl⟩
  go_simp
  refine hK.out _ _ (fun _ => HS3.out) ?_
  clear hK K
  refine wpL_one 18 rfl (by kernel_rfl) (by rfl) (fun K hK => ?_)
  go_simp
  refine hK.out _ _ (fun _ => HS3.out) ?_
  clear hK K
  refine wpL_one 19 rfl (by kernel_rfl) (by rfl) (fun K hK => ?_)
  go_simp
  refine hK.out _ _ (fun h => absurd rfl h) ?_
  clear hK K
  refine wpL_done (by kernel_rfl) ?_
  refine NoPanic.normal ?_
  have HM4 : Hid (Mid2 w (w4.setCell ⟨w.heap.size, a, none⟩ (u16 wr)) ((C.set 8 pn).set a wr) q ⟨op, a, b, n⟩) := HM3.out.set a wr
  generalize w4.setCell ⟨w.heap.size, a, none⟩ (u16 wr) = V4 at *
  clear ca fa
  go_wp2_with (first
    | (refine wpList_load_mid rfl 30 (.tmp 2) rfl w.heap.size 0 rfl (cpC ((C.set 8 pn).set a wr)) _ (by exact HM4.out.beg.r0.range) Tryd.underlying30 rfl (cpC_info hC2) ?_)
    | (refine wpList_store_mid rfl 30 (.tmp 4) (.tmp 86) rfl (w.heap.size + 1) 0 (cpC ((C.set 8 pn).set a wr)).toArray rfl rfl (by exact fin_there (HM4.out.beg.r1.there Rg.zero) hC2) (cpC_infoA hC2) (cpC_one _) ?_)
    | (refine wpList_store_mid rfl 61 (.tmp 5) (.tmp 87) rfl (w.heap.size + 1 + 1) 0 #[i64 5, i64 0, i64 0, i64 0, i64 0, i64 0] rfl rfl (by exact World.there_setCells HM4.out.beg.r2.there _ _ _) info28 (by kernel_rfl) ?_))
  have hF := HM4.out.beg.fin hC2 ⟨5, 0, 0, 0, 0, 0⟩
  obtain ⟨g1, g2⟩ := hF.results hC2
  simp only [Exit.jump]
  exact bodyPost_ret (results_two rfl rfl g1 g2) rfl ⟨rfl, hF.bel⟩
end Go.Proofs.YtigbfdloodfdgaaDoor
