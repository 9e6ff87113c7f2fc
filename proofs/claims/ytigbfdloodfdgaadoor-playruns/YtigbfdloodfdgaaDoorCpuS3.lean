/- cpu.Step, what others must do: its contract; no statement is proved in this text. -/
import Derived.Test.YtigbfdloodfdgaaDoorCpuS2
namespace Go.Proofs.YtigbfdloodfdgaaDoor
open Go.ChangeShapes Go.WideShapes Go.ChangeAt Go.RowKit

theorem wpL_takeY {P : Program} {ops : Array Oper} {Q : Exit → Act → World → Prop} {md : Region.Mode} {S : World → Prop} {z : Nat} (i d : Nat) (v : Value) (p : List Nat) {oi : Oper} {fuel : Nat} {listed : Array Bool} {a : Act} {w : World} (hi : ops[i]? = some oi) (hd : oi.dst = some d) (hp : anc md ops (i :: (p ++ [z])) = true) (hiz : i ≠ z)
    (hs : Region.noSelect ops = true) (hf : Region.free md ops listed i = true) (hr : (Region.ready md ops listed).contains i = true)
    (hQ : ∀ c a w, Q (.panic c) (a.put (some d) v) w → Q (.panic c) a w) (hS : S w) (hy : YieldsIf P ops S oi v a)
    (h : wpL P md ops Q S z fuel (listed.setIfInBounds i true) (a.put (some d) v) w) : wpL P md ops Q S z (fuel + 1) listed a w := fun hc =>
  have hr' : i ∈ Region.ready md ops listed := by simpa using hr
  wpAnyL_first hp hiz hi (Region.noSelect_spec hs) (by rw [hd]; exact hQ) fuel listed a w hc (Region.free_spec hi hf) hr' hy hS (by rw [hd]; exact h (hc.step hr'))
structure Sa (H q : Nat) (op n : Int) (a b va vb : Nat) (C : List Nat) (W : World) : Prop where
  sq : Sq H q op n a b va vb W
  rng : W.rangeAt H 0 (cpC C)
theorem Sa.mid {w V : World} {C0 : List Nat} {q pn a b va vb : Nat} {op n : Int} (h : Mid2 w V (C0.set 8 pn) q ⟨op, a, b, n⟩) (hC : Rg (C0.set 8 pn)) (ha : a < 8) (hb : b < 8) (hva : C0.getD a 0 = va) (hvb : C0.getD b 0 = vb) : Sa w.heap.size q op n a b va vb (C0.set 8 pn) V := by
  obtain ⟨q0, q1, q2, q3⟩ := h.cells
  have ca := h.beg.r0.cell hC a (by omega)
  have cb := h.beg.r0.cell hC b (by omega)
  rw [set_getD_ne _ _ _ _ (by omega), hva] at ca
  rw [set_getD_ne _ _ _ _ (by omega), hvb] at cb
  exact ⟨⟨q0, q1, q2, q3, ca, cb⟩, h.beg.r0.range⟩
theorem Sa.store {H q : Nat} {op n : Int} {a b va vb : Nat} {C : List Nat} {W : World} (h : Sa H q op n a b va vb C W) (hq : H + 2 < q) (vs : List Value) : Sa H q op n a b va vb C (W.setCells (H + 1) 0 vs) := by
  have e : ∀ x : Addr, x.block ≠ H + 1 → (W.setCells (H + 1) 0 vs).cell? x = W.cell? x := fun x hx => World.cell?_setCells_out _ _ _ _ _ (fun hb => absurd hb hx)
  refine ⟨⟨?_, ?_, ?_, ?_, ?_, ?_⟩, World.rangeAt_setCells_apart h.rng _ _ _ (Or.inl (by omega))⟩
  · rw [e _ (by show q ≠ H + 1; omega)]; exact h.sq.s0
  · rw [e _ (by show q ≠ H + 1; omega)]; exact h.sq.s1
  · rw [e _ (by show q ≠ H + 1; omega)]; exact h.sq.s2
  · rw [e _ (by show q ≠ H + 1; omega)]; exact h.sq.s3
  · rw [e _ (by show H ≠ H + 1; omega)]; exact h.sq.sa
  · rw [e _ (by show H ≠ H + 1; omega)]; exact h.sq.sb
set_option maxRecDepth 100000 in
set_option maxHeartbeats 1600000 in
theorem step_asked20 (w : World) (ht : Tab w) (C : List Nat) (hC : Rg C) (s : ByteArray) (pc a b va vb pn : Nat) (n nx : Int) (hpc : C.getD 8 0 = pc)
    (hA : ∀ w, Tab w → Calls Tryd.prog 32 #[.string s, i64 pc] w fun e w' => e = .returned (atV ⟨20, a, b, n⟩ nx 0) ∧ Below w.heap.size w w')
    (ha : a < 8) (hb : b < 8) (hva : C.getD a 0 = va) (hvb : C.getD b 0 = vb) (hpn : wd nx = pn) (X : Ac) (hR : ∀ w, Calls Tryd.prog 34 #[inV ⟨20, a, b, n⟩, i64 va, i64 vb] w fun e w' => e = .returned (acV X) ∧ Below w.heap.size w w') :
    Calls Tryd.prog 16 #[cpV C, .string s] w fun e w' => e = .returned (stV (C.set 8 pn) (X)) ∧ Below w.heap.size w w' := by
  have hpc16 : pc < 65536 := by rw [← hpc]; exact hC.get 8
  have hva16 : va < 65536 := by rw [← hva]; exact hC.get a
  have hvb16 : vb < 65536 := by rw [← hvb]; exact hC.get b
  have hpn16 : pn < 65536 := by rw [← hpn]; exact wd_lt _
  have HA : Hid (∀ w, Tab w → Calls Tryd.prog 32 #[.string s, i64 pc] w fun e w' => e = .returned (atV ⟨20, a, b, n⟩ nx 0) ∧ Below w.heap.size w w') := hA
  have HWD : Hid (∀ w, Calls Tryd.prog 33 #[i64 nx] w fun e w' => e = .returned (u16 pn) ∧ w' = w) := fun w => by rw [← hpn]; exact word_ok w nx
  have hC1 : Rg (C.set 8 pn) := hC.set _ _ hpn16
  have HVA : Hid (C.getD a 0 = va) := hva
  have HVB : Hid (C.getD b 0 = vb) := hvb
  have HPC : Hid (C.getD 8 0 = pc) := hpc
  clear hA hva hvb hpn hpc
  have HR : Hid (∀ w, Calls Tryd.prog 34 #[inV ⟨20, a, b, n⟩, i64 va, i64 vb] w fun e w' => e = .returned (acV X) ∧ Below w.heap.size w w') := hR
  clear hR
  go_enter Tryd.func16, Tryd.ntmps16
  go_wp2_with fail
  have hB := Beg.start w C
  generalize (((w.alloc (.cells (cpC C).toArray 30)).alloc (.cells #[u16 0, u16 0, u16 0, u16 0, u16 0, u16 0, u16 0, u16 0, u16 0] 30)).alloc (.cells #[i64 0, i64 0, i64 0, i64 0, i64 0, i64 0] 61)) = V at *
  have hc8 := hB.r0.cell hC 8 (by omega)
  rw [HPC.out] at hc8
  have HB : Hid (Beg w V C) := hB
  have HT : Hid (Tab V) := ht.below hB.bel
  clear hB ht
  refine wp_scope_ahead 0 rfl ?_
  go_wp2_with fail
  refine (HA.out _ HT.out).mono ?_
  rintro e w1 ⟨rfl, hb1⟩
  have hM1 := Mid2.start (HB.out.below hb1) ⟨20, a, b, n⟩
  clear hb1 HA HB HT hc8
  go_wp2_with fail
  obtain ⟨V1, hV1⟩ : ∃ V1, V1 = w1.alloc (.cells #[i64 20, i64 a, i64 b, i64 n] 80) := ⟨_, rfl⟩
  have hM2 := hM1.set 8 pn
  rw [← hV1] at hM1 hM2 ⊢
  have c8 := hM1.beg.r0.cell hC 8 (by omega)
  have f8 := hM1.beg.r0.free 8
  have hq := hM1.hq
  clear hV1 hM1
  generalize w1.heap.size = q at *
  obtain ⟨V2, hV2⟩ : ∃ V2, V2 = V1.setCell ⟨w.heap.size, 8, none⟩ (u16 pn) := ⟨_, rfl⟩
  have HM2 : Hid (Mid2 w V2 (C.set 8 pn) q ⟨20, a, b, n⟩) := by rw [hV2]; exact hM2
  have HV2 : Hid (V2 = V1.setCell ⟨w.heap.size, 8, none⟩ (u16 pn)) := hV2
  clear hM2 hV2
  refine (HWD.out _).mono ?_
  rintro e w2 ⟨rfl, rfl⟩
  go_upto_region 5 with fail
  rw [← HV2.out]
  obtain ⟨q0, q1, q2, q3⟩ := HM2.out.cells
  have ca := HM2.out.beg.r0.cell hC1 a (by omega)
  have cb := HM2.out.beg.r0.cell hC1 b (by omega)
  have fa := HM2.out.beg.r0.free a
  rw [set_getD_ne _ _ _ _ (by omega), HVA.out] at ca
  rw [set_getD_ne _ _ _ _ (by omega), HVB.out] at cb
  clear c8 f8 HWD
  go_wp2_with fail
  have HS2 : Hid (Sa w.heap.size q 20 n a b va vb (C.set 8 pn) V2.drew) := ⟨⟨q0, q1, q2, q3, ca, cb⟩, HM2.out.beg.r0.range⟩
  have haI : (a : Int) < 8 := by omega
  have hbI : (b : Int) < 8 := by omega
  clear q0 q1 q2 q3 ca cb fa
  refine wp_region_noPanic ?_
  refine wp_region_last (Sa w.heap.size q 20 n a b va vb (C.set 8 pn)) 16 (by kernel_rfl) ?_
  refine wpL_takeY 0 71 (cpV (C.set 8 pn)) [15] rfl rfl (by kernel_rfl) (by decide) (by kernel_rfl) (by kernel_rfl) (by kernel_rfl) (fun _ _ _ h => h) HS2.out (yieldsIf_load_mid (by rfl) 30 (.tmp 2) rfl w.heap.size 0 rfl (cpC (C.set 8 pn)) _ (fun W h => h.rng) Tryd.underlying30 rfl (cpC_info hC1)) ?_
  simp only [Act.put, List.setIfInBounds_toArray, List.set_cons_zero, List.set_cons_succ]
  refine wpL_take 1 72 (inV ⟨20, a, b, n⟩) [14, 15] rfl rfl (by kernel_rfl) (by decide) (by kernel_rfl) (by kernel_rfl) (by kernel_rfl) (fun _ _ _ h => h) HS2.out (by rfl) (fun W hW => by obtain ⟨⟨s0, s1, s2, s3, sa, sb⟩, _⟩ := hW; go_simp) ?_
  simp only [Act.put, List.setIfInBounds_toArray, List.set_cons_zero, List.set_cons_succ]
  refine wpL_take 2 73 (.pointer (some ⟨q, 1, none⟩)) [3, 5, 6, 7, 14, 15] rfl rfl (by kernel_rfl) (by decide) (by kernel_rfl) (by kernel_rfl) (by kernel_rfl) (fun _ _ _ h => h) HS2.out (by rfl) (fun W hW => by obtain ⟨⟨s0, s1, s2, s3, sa, sb⟩, _⟩ := hW; go_simp) ?_
  simp only [Act.put, List.setIfInBounds_toArray, List.set_cons_zero, List.set_cons_succ]
  refine wpL_take 3 74 (i64 a) [5, 6, 7, 14, 15] rfl rfl (by kernel_rfl) (by decide) (by kernel_rfl) (by kernel_rfl) (by kernel_rfl) (fun _ _ _ h => h) HS2.out (by rfl) (fun W hW => by obtain ⟨⟨s0, s1, s2, s3, sa, sb⟩, _⟩ := hW; go_simp) ?_
  simp only [Act.put, List.setIfInBounds_toArray, List.set_cons_zero, List.set_cons_succ]
  refine wpL_take 4 75 (.pointer (some ⟨w.heap.size, 0, none⟩)) [5, 6, 7, 14, 15] rfl rfl (by kernel_rfl) (by decide) (by kernel_rfl) (by kernel_rfl) (by kernel_rfl) (fun _ _ _ h => h) HS2.out (by rfl) (fun W hW => by obtain ⟨⟨s0, s1, s2, s3, sa, sb⟩, _⟩ := hW; go_simp) ?_
  simp only [Act.put, List.setIfInBounds_toArray, List.set_cons_zero, List.set_cons_succ]
  refine wpL_take 5 76 (.pointer (some ⟨w.heap.size, a, none⟩)) [6, 7, 14, 15] rfl rfl (by kernel_rfl) (by decide) (by kernel_rfl) (by kernel_rfl) (by kernel_rfl) (fun _ _ _ h => h) HS2.out (by rfl) (fun W hW => by obtain ⟨⟨s0, s1, s2, s3, sa, sb⟩, _⟩ := hW; go_simp) ?_
  simp only [Act.put, List.setIfInBounds_toArray, List.set_cons_zero, List.set_cons_succ]
  refine wpL_take 6 77 (u16 va) [7, 14, 15] rfl rfl (by kernel_rfl) (by decide) (by kernel_rfl) (by kernel_rfl) (by kernel_rfl) (fun _ _ _ h => h) HS2.out (by rfl) (fun W hW => by obtain ⟨⟨s0, s1, s2, s3, sa, sb⟩, _⟩ := hW; go_simp) ?_
  simp only [Act.put, List.setIfInBounds_toArray, List.set_cons_zero, List.set_cons_succ]
  refine wpL_take 7 78 (i64 va) [14, 15] rfl rfl (by kernel_rfl) (by decide) (by kernel_rfl) (by kernel_rfl) (by kernel_rfl) (fun _ _ _ h => h) HS2.out (by rfl) (fun W hW => by obtain ⟨⟨s0, s1, s2, s3, sa, sb⟩, _⟩ := hW; go_simp; exact wraps_i64 _ (by omega) (by omega)) ?_
  simp only [Act.put, List.setIfInBounds_toArray, List.set_cons_zero, List.set_cons_succ]
  refine wpL_take 8 79 (.pointer (some ⟨q, 2, none⟩)) [9, 11, 12, 13, 14, 15] rfl rfl (by kernel_rfl) (by decide) (by kernel_rfl) (by kernel_rfl) (by kernel_rfl) (fun _ _ _ h => h) HS2.out (by rfl) (fun W hW => by obtain ⟨⟨s0, s1, s2, s3, sa, sb⟩, _⟩ := hW; go_simp) ?_
  simp only [Act.put, List.setIfInBounds_toArray, List.set_cons_zero, List.set_cons_succ]
  refine wpL_take 9 80 (i64 b) [11, 12, 13, 14, 15] rfl rfl (by kernel_rfl) (by decide) (by kernel_rfl) (by kernel_rfl) (by kernel_rfl) (fun _ _ _ h => h) HS2.out (by rfl) (fun W hW => by obtain ⟨⟨s0, s1, s2, s3, sa, sb⟩, _⟩ := hW; go_simp) ?_
  simp only [Act.put, List.setIfInBounds_toArray, List.set_cons_zero, List.set_cons_succ]
  refine wpL_take 10 81 (.pointer (some ⟨w.heap.size, 0, none⟩)) [11, 12, 13, 14, 15] rfl rfl (by kernel_rfl) (by decide) (by kernel_rfl) (by kernel_rfl) (by kernel_rfl) (fun _ _ _ h => h) HS2.out (by rfl) (fun W hW => by obtain ⟨⟨s0, s1, s2, s3, sa, sb⟩, _⟩ := hW; go_simp) ?_
  simp only [Act.put, List.setIfInBounds_toArray, List.set_cons_zero, List.set_cons_succ]
  refine wpL_take 11 82 (.pointer (some ⟨w.heap.size, b, none⟩)) [12, 13, 14, 15] rfl rfl (by kernel_rfl) (by decide) (by kernel_rfl) (by kernel_rfl) (by kernel_rfl) (fun _ _ _ h => h) HS2.out (by rfl) (fun W hW => by obtain ⟨⟨s0, s1, s2, s3, sa, sb⟩, _⟩ := hW; go_simp) ?_
  simp only [Act.put, List.setIfInBounds_toArray, List.set_cons_zero, List.set_cons_succ]
  refine wpL_take 12 83 (u16 vb) [13, 14, 15] rfl rfl (by kernel_rfl) (by decide) (by kernel_rfl) (by kernel_rfl) (by kernel_rfl) (fun _ _ _ h => h) HS2.out (by rfl) (fun W hW => by obtain ⟨⟨s0, s1, s2, s3, sa, sb⟩, _⟩ := hW; go_simp) ?_
  simp only [Act.put, List.setIfInBounds_toArray, List.set_cons_zero, List.set_cons_succ]
  refine wpL_take 13 84 (i64 vb) [14, 15] rfl rfl (by kernel_rfl) (by decide) (by kernel_rfl) (by kernel_rfl) (by kernel_rfl) (fun _ _ _ h => h) HS2.out (by rfl) (fun W hW => by obtain ⟨⟨s0, s1, s2, s3, sa, sb⟩, _⟩ := hW; go_simp; exact wraps_i64 _ (by omega) (by omega)) ?_
  simp only [Act.put, List.setIfInBounds_toArray, List.set_cons_zero, List.set_cons_succ]
  refine wpL_one 14 rfl (by kernel_rfl) (by rfl) (fun K hK => ?_)
  go_simp
  refine (HR.out _).mono ?_
  rintro e w3 ⟨rfl, hb3⟩
  have HM3 : Hid (Mid2 w w3 (C.set 8 pn) q ⟨20, a, b, n⟩) := (HM2.out.below (W := V2.drew) ⟨rfl, rfl, rfl, Nat.le_refl _, fun _ _ => rfl⟩).below hb3
  have HS3 : Hid (Sa w.heap.size q 20 n a b va vb (C.set 8 pn) w3) := Sa.mid HM3.out hC1 (by omega) (by omega) HVA.out HVB.out
  clear hb3
  go_simp
  refine hK.out _ _ (fun _ => HS3.out) ?_
  clear hK K
  refine wpL_one 15 rfl (by kernel_rfl) (by rfl) (fun K hK => ?_)
  refine wp_store_mid 30 (.tmp 4) (.tmp 71) rfl (w.heap.size + 1) 0 (cpC (C.set 8 pn)).toArray rfl rfl (by exact fin_there (HM3.out.beg.r1.there Rg.zero) hC1) (cpC_infoA hC1) (cpC_one _) ?_
  refine hK.out _ _ (fun _ => HS3.out.store hq _) ?_
  clear hK K
  refine wpL_one 16 rfl (by kernel_rfl) (by rfl) (fun K hK => ?_)
  refine wp_store_mid 61 (.tmp 5) (.tmp 85) rfl (w.heap.size + 1 + 1) 0 (acC X).toArray rfl rfl (by exact World.there_setCells HM3.out.beg.r2.there _ _ _) info28 (by kernel_rfl) ?_
  refine hK.out _ _ (fun h => absurd rfl h) ?_
  clear hK K
  refine wpL_done (by kernel_rfl) ?_
  refine NoPanic.normal ?_
  have hF := HM3.out.beg.fin hC1 X
  obtain ⟨g1, g2⟩ := hF.results hC1
  go_wp2_with fail
  first
    | simp only [Exit.jump]
    | rw [Exit.noGoto_ret]
  exact bodyPost_ret (results_two rfl rfl g1 g2) rfl ⟨rfl, hF.bel⟩
set_option maxRecDepth 100000 in
set_option maxHeartbeats 1600000 in
theorem step_asked0 (w : World) (ht : Tab w) (C : List Nat) (hC : Rg C) (s : ByteArray) (pc a b va vb pn : Nat) (n nx : Int) (hpc : C.getD 8 0 = pc)
    (hA : ∀ w, Tab w → Calls Tryd.prog 32 #[.string s, i64 pc] w fun e w' => e = .returned (atV ⟨0, a, b, n⟩ nx 0) ∧ Below w.heap.size w w')
    (ha : a < 8) (hb : b < 8) (hva : C.getD a 0 = va) (hvb : C.getD b 0 = vb) (hpn : wd nx = pn) (X : Ac) (hR : ∀ w, Calls Tryd.prog 34 #[inV ⟨0, a, b, n⟩, i64 va, i64 vb] w fun e w' => e = .returned (acV X) ∧ Below w.heap.size w w') :
    Calls Tryd.prog 16 #[cpV C, .string s] w fun e w' => e = .returned (stV (C.set 8 pn) (X)) ∧ Below w.heap.size w w' := by
  have hpc16 : pc < 65536 := by rw [← hpc]; exact hC.get 8
  have hva16 : va < 65536 := by rw [← hva]; exact hC.get a
  have hvb16 : vb < 65536 := by rw [← hvb]; exact hC.get b
  have hpn16 : pn < 65536 := by rw [← hpn]; exact wd_lt _
  have HA : Hid (∀ w, Tab w → Calls Tryd.prog 32 #[.string s, i64 pc] w fun e w' => e = .returned (atV ⟨0, a, b, n⟩ nx 0) ∧ Below w.heap.size w w') := hA
  have HWD : Hid (∀ w, Calls Tryd.prog 33 #[i64 nx] w fun e w' => e = .returned (u16 pn) ∧ w' = w) := fun w => by rw [← hpn]; exact word_ok w nx
  have hC1 : Rg (C.set 8 pn) := hC.set _ _ hpn16
  have HVA : Hid (C.getD a 0 = va) := hva
  have HVB : Hid (C.getD b 0 = vb) := hvb
  have HPC : Hid (C.getD 8 0 = pc) := hpc
  clear hA hva hvb hpn hpc
  have HR : Hid (∀ w, Calls Tryd.prog 34 #[inV ⟨0, a, b, n⟩, i64 va, i64 vb] w fun e w' => e = .returned (acV X) ∧ Below w.heap.size w w') := hR
  clear hR
  go_enter Tryd.func16, Tryd.ntmps16
  go_wp2_with fail
  have hB := Beg.start w C
  generalize (((w.alloc (.cells (cpC C).toArray 30)).alloc (.cells #[u16 0, u16 0, u16 0, u16 0, u16 0, u16 0, u16 0, u16 0, u16 0] 30)).alloc (.cells #[i64 0, i64 0, i64 0, i64 0, i64 0, i64 0] 61)) = V at *
  have hc8 := hB.r0.cell hC 8 (by omega)
  rw [HPC.out] at hc8
  have HB : Hid (Beg w V C) := hB
  have HT : Hid (Tab V) := ht.below hB.bel
  clear hB ht
  refine wp_scope_ahead 0 rfl ?_
  go_wp2_with fail
  refine (HA.out _ HT.out).mono ?_
  rintro e w1 ⟨rfl, hb1⟩
  have hM1 := Mid2.start (HB.out.below hb1) ⟨0, a, b, n⟩
  clear hb1 HA HB HT hc8
  go_wp2_with fail
  obtain ⟨V1, hV1⟩ : ∃ V1, V1 = w1.alloc (.cells #[i64 0, i64 a, i64 b, i64 n] 80) := ⟨_, rfl⟩
  have hM2 := hM1.set 8 pn
  rw [← hV1] at hM1 hM2 ⊢
  have c8 := hM1.beg.r0.cell hC 8 (by omega)
  have f8 := hM1.beg.r0.free 8
  have hq := hM1.hq
  clear hV1 hM1
  generalize w1.heap.size = q at *
  obtain ⟨V2, hV2⟩ : ∃ V2, V2 = V1.setCell ⟨w.heap.size, 8, none⟩ (u16 pn) := ⟨_, rfl⟩
  have HM2 : Hid (Mid2 w V2 (C.set 8 pn) q ⟨0, a, b, n⟩) := by rw [hV2]; exact hM2
  have HV2 : Hid (V2 = V1.setCell ⟨w.heap.size, 8, none⟩ (u16 pn)) := hV2
  clear hM2 hV2
  refine (HWD.out _).mono ?_
  rintro e w2 ⟨rfl, rfl⟩
  go_upto_region 5 with fail
  rw [← HV2.out]
  obtain ⟨q0, q1, q2, q3⟩ := HM2.out.cells
  have ca := HM2.out.beg.r0.cell hC1 a (by omega)
  have cb := HM2.out.beg.r0.cell hC1 b (by omega)
  have fa := HM2.out.beg.r0.free a
  rw [set_getD_ne _ _ _ _ (by omega), HVA.out] at ca
  rw [set_getD_ne _ _ _ _ (by omega), HVB.out] at cb
  clear c8 f8 HWD
  go_wp2_with fail
  have HS2 : Hid (Sa w.heap.size q 0 n a b va vb (C.set 8 pn) V2.drew) := ⟨⟨q0, q1, q2, q3, ca, cb⟩, HM2.out.beg.r0.range⟩
  have haI : (a : Int) < 8 := by omega
  have hbI : (b : Int) < 8 := by omega
  clear q0 q1 q2 q3 ca cb fa
  refine wp_region_noPanic ?_
  refine wp_region_last (Sa w.heap.size q 0 n a b va vb (C.set 8 pn)) 16 (by kernel_rfl) ?_
  refine wpL_takeY 0 71 (cpV (C.set 8 pn)) [15] rfl rfl (by kernel_rfl) (by decide) (by kernel_rfl) (by kernel_rfl) (by kernel_rfl) (fun _ _ _ h => h) HS2.out (yieldsIf_load_mid (by rfl) 30 (.tmp 2) rfl w.heap.size 0 rfl (cpC (C.set 8 pn)) _ (fun W h => h.rng) Tryd.underlying30 rfl (cpC_info hC1)) ?_
  simp only [Act.put, List.setIfInBounds_toArray, List.set_cons_zero, List.set_cons_succ]
  refine wpL_take 1 72 (inV ⟨0, a, b, n⟩) [14, 15] rfl rfl (by kernel_rfl) (by decide) (by kernel_rfl) (by kernel_rfl) (by kernel_rfl) (fun _ _ _ h => h) HS2.out (by rfl) (fun W hW => by obtain ⟨⟨s0, s1, s2, s3, sa, sb⟩, _⟩ := hW; go_simp) ?_
  simp only [Act.put, List.setIfInBounds_toArray, List.set_cons_zero, List.set_cons_succ]
  refine wpL_take 2 73 (.pointer (some ⟨q, 1, none⟩)) [3, 5, 6, 7, 14, 15] rfl rfl (by kernel_rfl) (by decide) (by kernel_rfl) (by kernel_rfl) (by kernel_rfl) (fun _ _ _ h => h) HS2.out (by rfl) (fun W hW => by obtain ⟨⟨s0, s1, s2, s3, sa, sb⟩, _⟩ := hW; go_simp) ?_
  simp only [Act.put, List.setIfInBounds_toArray, List.set_cons_zero, List.set_cons_succ]
  refine wpL_take 3 74 (i64 a) [5, 6, 7, 14, 15] rfl rfl (by kernel_rfl) (by decide) (by kernel_rfl) (by kernel_rfl) (by kernel_rfl) (fun _ _ _ h => h) HS2.out (by rfl) (fun W hW => by obtain ⟨⟨s0, s1, s2, s3, sa, sb⟩, _⟩ := hW; go_simp) ?_
  simp only [Act.put, List.setIfInBounds_toArray, List.set_cons_zero, List.set_cons_succ]
  refine wpL_take 4 75 (.pointer (some ⟨w.heap.size, 0, none⟩)) [5, 6, 7, 14, 15] rfl rfl (by kernel_rfl) (by decide) (by kernel_rfl) (by kernel_rfl) (by kernel_rfl) (fun _ _ _ h => h) HS2.out (by rfl) (fun W hW => by obtain ⟨⟨s0, s1, s2, s3, sa, sb⟩, _⟩ := hW; go_simp) ?_
  simp only [Act.put, List.setIfInBounds_toArray, List.set_cons_zero, List.set_cons_succ]
  refine wpL_take 5 76 (.pointer (some ⟨w.heap.size, a, none⟩)) [6, 7, 14, 15] rfl rfl (by kernel_rfl) (by decide) (by kernel_rfl) (by kernel_rfl) (by kernel_rfl) (fun _ _ _ h => h) HS2.out (by rfl) (fun W hW => by obtain ⟨⟨s0, s1, s2, s3, sa, sb⟩, _⟩ := hW; go_simp) ?_
  simp only [Act.put, List.setIfInBounds_toArray, List.set_cons_zero, List.set_cons_succ]
  refine wpL_take 6 77 (u16 va) [7, 14, 15] rfl rfl (by kernel_rfl) (by decide) (by kernel_rfl) (by kernel_rfl) (by kernel_rfl) (fun _ _ _ h => h) HS2.out (by rfl) (fun W hW => by obtain ⟨⟨s0, s1, s2, s3, sa, sb⟩, _⟩ := hW; go_simp) ?_
  simp only [Act.put, List.setIfInBounds_toArray, List.set_cons_zero, List.set_cons_succ]
  refine wpL_take 7 78 (i64 va) [14, 15] rfl rfl (by kernel_rfl) (by decide) (by kernel_rfl) (by kernel_rfl) (by kernel_rfl) (fun _ _ _ h => h) HS2.out (by rfl) (fun W hW => by obtain ⟨⟨s0, s1, s2, s3, sa, sb⟩, _⟩ := hW; go_simp; exact wraps_i64 _ (by omega) (by omega)) ?_
  simp only [Act.put, List.setIfInBounds_toArray, List.set_cons_zero, List.set_cons_succ]
  refine wpL_take 8 79 (.pointer (some ⟨q, 2, none⟩)) [9, 11, 12, 13, 14, 15] rfl rfl (by kernel_rfl) (by decide) (by kernel_rfl) (by kernel_rfl) (by kernel_rfl) (fun _ _ _ h => h) HS2.out (by rfl) (fun W hW => by obtain ⟨⟨s0, s1, s2, s3, sa, sb⟩, _⟩ := hW; go_simp) ?_
  simp only [Act.put, List.setIfInBounds_toArray, List.set_cons_zero, List.set_cons_succ]
  refine wpL_take 9 80 (i64 b) [11, 12, 13, 14, 15] rfl rfl (by kernel_rfl) (by decide) (by kernel_rfl) (by kernel_rfl) (by kernel_rfl) (fun _ _ _ h => h) HS2.out (by rfl) (fun W hW => by obtain ⟨⟨s0, s1, s2, s3, sa, sb⟩, _⟩ := hW; go_simp) ?_
  simp only [Act.put, List.setIfInBounds_toArray, List.set_cons_zero, List.set_cons_succ]
  refine wpL_take 10 81 (.pointer (some ⟨w.heap.size, 0, none⟩)) [11, 12, 13, 14, 15] rfl rfl (by kernel_rfl) (by decide) (by kernel_rfl) (by kernel_rfl) (by kernel_rfl) (fun _ _ _ h => h) HS2.out (by rfl) (fun W hW => by obtain ⟨⟨s0, s1, s2, s3, sa, sb⟩, _⟩ := hW; go_simp) ?_
  simp only [Act.put, List.setIfInBounds_toArray, List.set_cons_zero, List.set_cons_succ]
  refine wpL_take 11 82 (.pointer (some ⟨w.heap.size, b, none⟩)) [12, 13, 14, 15] rfl rfl (by kernel_rfl) (by decide) (by kernel_rfl) (by kernel_rfl) (by kernel_rfl) (fun _ _ _ h => h) HS2.out (by rfl) (fun W hW => by obtain ⟨⟨s0, s1, s2, s3, sa, sb⟩, _⟩ := hW; go_simp) ?_
  simp only [Act.put, List.setIfInBounds_toArray, List.set_cons_zero, List.set_cons_succ]
  refine wpL_take 12 83 (u16 vb) [13, 14, 15] rfl rfl (by kernel_rfl) (by decide) (by kernel_rfl) (by kernel_rfl) (by kernel_rfl) (fun _ _ _ h => h) HS2.out (by rfl) (fun W hW => by obtain ⟨⟨s0, s1, s2, s3, sa, sb⟩, _⟩ := hW; go_simp) ?_
  simp only [Act.put, List.setIfInBounds_toArray, List.set_cons_zero, List.set_cons_succ]
  refine wpL_take 13 84 (i64 vb) [14, 15] rfl rfl (by kernel_rfl) (by decide) (by kernel_rfl) (by kernel_rfl) (by kernel_rfl) (fun _ _ _ h => h) HS2.out (by rfl) (fun W hW => by obtain ⟨⟨s0, s1, s2, s3, sa, sb⟩, _⟩ := hW; go_simp; exact wraps_i64 _ (by omega) (by omega)) ?_
  simp only [Act.put, List.setIfInBounds_toArray, List.set_cons_zero, List.set_cons_succ]
  refine wpL_one 14 rfl (by kernel_rfl) (by rfl) (fun K hK => ?_)
  go_simp
  refine (HR.out _).mono ?_
  rintro e w3 ⟨rfl, hb3⟩
  have HM3 : Hid (Mid2 w w3 (C.set 8 pn) q ⟨0, a, b, n⟩) := (HM2.out.below (W := V2.drew) ⟨rfl, rfl, rfl, Nat.le_refl _, fun _ _ => rfl⟩).below hb3
  have HS3 : Hid (Sa w.heap.size q 0 n a b va vb (C.set 8 pn) w3) := Sa.mid HM3.out hC1 (by omega) (by omega) HVA.out HVB.out
  clear hb3
  go_simp
  refine hK.out _ _ (fun _ => HS3.out) ?_
  clear hK K
  refine wpL_one 15 rfl (by kernel_rfl) (by rfl) (fun K hK => ?_)
  refine wp_store_mid 30 (.tmp 4) (.tmp 71) rfl (w.heap.size + 1) 0 (cpC (C.set 8 pn)).toArray rfl rfl (by exact fin_there (HM3.out.beg.r1.there Rg.zero) hC1) (cpC_infoA hC1) (cpC_one _) ?_
  refine hK.out _ _ (fun _ => HS3.out.store hq _) ?_
  clear hK K
  refine wpL_one 16 rfl (by kernel_rfl) (by rfl) (fun K hK => ?_)
  refine wp_store_mid 61 (.tmp 5) (.tmp 85) rfl (w.heap.size + 1 + 1) 0 (acC X).toArray rfl rfl (by exact World.there_setCells HM3.out.beg.r2.there _ _ _) info28 (by kernel_rfl) ?_
  refine hK.out _ _ (fun h => absurd rfl h) ?_
  clear hK K
  refine wpL_done (by kernel_rfl) ?_
  refine NoPanic.normal ?_
  have hF := HM3.out.beg.fin hC1 X
  obtain ⟨g1, g2⟩ := hF.results hC1
  go_wp2_with fail
  first
    | simp only [Exit.jump]
    | rw [Exit.noGoto_ret]
  exact bodyPost_ret (results_two rfl rfl g1 g2) rfl ⟨rfl, hF.bel⟩
set_option maxRecDepth 100000 in
set_option maxHeartbeats 1600000 in
theorem step_asked13 (w : World) (ht : Tab w) (C : List Nat) (hC : Rg C) (s : ByteArray) (pc a b va vb pn : Nat) (n nx : Int) (hpc : C.getD 8 0 = pc)
    (hA : ∀ w, Tab w → Calls Tryd.prog 32 #[.string s, i64 pc] w fun e w' => e = .returned (atV ⟨13, a, b, n⟩ nx 0) ∧ Below w.heap.size w w')
    (ha : a < 8) (hb : b < 8) (hva : C.getD a 0 = va) (hvb : C.getD b 0 = vb) (hpn : wd nx = pn) (X : Ac) (hR : ∀ w, Calls Tryd.prog 34 #[inV ⟨13, a, b, n⟩, i64 va, i64 vb] w fun e w' => e = .returned (acV X) ∧ Below w.heap.size w w') :
    Calls Tryd.prog 16 #[cpV C, .string s] w fun e w' => e = .returned (stV (C.set 8 pn) (X)) ∧ Below w.heap.size w w' := by
  have hpc16 : pc < 65536 := by rw [← hpc]; exact hC.get 8
  have hva16 : va < 65536 := by rw [← hva]; exact hC.get a
  have hvb16 : vb < 65536 := by rw [← hvb]; exact hC.get b
  have hpn16 : pn < 65536 := by rw [← hpn]; exact wd_lt _
  have HA : Hid (∀ w, Tab w → Calls Tryd.prog 32 #[.string s, i64 pc] w fun e w' => e = .returned (atV ⟨13, a, b, n⟩ nx 0) ∧ Below w.heap.size w w') := hA
  have HWD : Hid (∀ w, Calls Tryd.prog 33 #[i64 nx] w fun e w' => e = .returned (u16 pn) ∧ w' = w) := fun w => by rw [← hpn]; exact word_ok w nx
  have hC1 : Rg (C.set 8 pn) := hC.set _ _ hpn16
  have HVA : Hid (C.getD a 0 = va) := hva
  have HVB : Hid (C.getD b 0 = vb) := hvb
  have HPC : Hid (C.getD 8 0 = pc) := hpc
  clear hA hva hvb hpn hpc
  have HR : Hid (∀ w, Calls Tryd.prog 34 #[inV ⟨13, a, b, n⟩, i64 va, i64 vb] w fun e w' => e = .returned (acV X) ∧ Below w.heap.size w w') := hR
  clear hR
  go_enter Tryd.func16, Tryd.ntmps16
  go_wp2_with fail
  have hB := Beg.start w C
  generalize (((w.alloc (.cells (cpC C).toArray 30)).alloc (.cells #[u16 0, u16 0, u16 0, u16 0, u16 0, u16 0, u16 0, u16 0, u16 0] 30)).alloc (.cells #[i64 0, i64 0, i64 0, i64 0, i64 0, i64 0] 61)) = V at *
  have hc8 := hB.r0.cell hC 8 (by omega)
  rw [HPC.out] at hc8
  have HB : Hid (Beg w V C) := hB
  have HT : Hid (Tab V) := ht.below hB.bel
  clear hB ht
  refine wp_scope_ahead 0 rfl ?_
  go_wp2_with fail
  refine (HA.out _ HT.out).mono ?_
  rintro e w1 ⟨rfl, hb1⟩
  have hM1 := Mid2.start (HB.out.below hb1) ⟨13, a, b, n⟩
  clear hb1 HA HB HT hc8
  go_wp2_with fail
  obtain ⟨V1, hV1⟩ : ∃ V1, V1 = w1.alloc (.cells #[i64 13, i64 a, i64 b, i64 n] 80) := ⟨_, rfl⟩
  have hM2 := hM1.set 8 pn
  rw [← hV1] at hM1 hM2 ⊢
  have c8 := hM1.beg.r0.cell hC 8 (by omega)
  have f8 := hM1.beg.r0.free 8
  have hq := hM1.hq
  clear hV1 hM1
  generalize w1.heap.size = q at *
  obtain ⟨V2, hV2⟩ : ∃ V2, V2 = V1.setCell ⟨w.heap.size, 8, none⟩ (u16 pn) := ⟨_, rfl⟩
  have HM2 : Hid (Mid2 w V2 (C.set 8 pn) q ⟨13, a, b, n⟩) := by rw [hV2]; exact hM2
  have HV2 : Hid (V2 = V1.setCell ⟨w.heap.size, 8, none⟩ (u16 pn)) := hV2
  clear hM2 hV2
  refine (HWD.out _).mono ?_
  rintro e w2 ⟨rfl, rfl⟩
  go_upto_region 5 with fail
  rw [← HV2.out]
  obtain ⟨q0, q1, q2, q3⟩ := HM2.out.cells
  have ca := HM2.out.beg.r0.cell hC1 a (by omega)
  have cb := HM2.out.beg.r0.cell hC1 b (by omega)
  have fa := HM2.out.beg.r0.free a
  rw [set_getD_ne _ _ _ _ (by omega), HVA.out] at ca
  rw [set_getD_ne _ _ _ _ (by omega), HVB.out] at cb
  clear c8 f8 HWD
  go_wp2_with fail
  have HS2 : Hid (Sa w.heap.size q 13 n a b va vb (C.set 8 pn) V2.drew) := ⟨⟨q0, q1, q2, q3, ca, cb⟩, HM2.out.beg.r0.range⟩
  have haI : (a : Int) < 8 := by omega
  have hbI : (b : Int) < 8 := by omega
  clear q0 q1 q2 q3 ca cb fa
  refine wp_region_noPanic ?_
  refine wp_region_last (Sa w.heap.size q 13 n a b va vb (C.set 8 pn)) 16 (by kernel_rfl) ?_
  refine wpL_takeY 0 71 (cpV (C.set 8 pn)) [15] rfl rfl (by kernel_rfl) (by decide) (by kernel_rfl) (by kernel_rfl) (by kernel_rfl) (fun _ _ _ h => h) HS2.out (yieldsIf_load_mid (by rfl) 30 (.tmp 2) rfl w.heap.size 0 rfl (cpC (C.set 8 pn)) _ (fun W h => h.rng) Tryd.underlying30 rfl (cpC_info hC1)) ?_
  simp only [Act.put, List.setIfInBounds_toArray, List.set_cons_zero, List.set_cons_succ]
  refine wpL_take 1 72 (inV ⟨13, a, b, n⟩) [14, 15] rfl rfl (by kernel_rfl) (by decide) (by kernel_rfl) (by kernel_rfl) (by kernel_rfl) (fun _ _ _ h => h) HS2.out (by rfl) (fun W hW => by obtain ⟨⟨s0, s1, s2, s3, sa, sb⟩, _⟩ := hW; go_simp) ?_
  simp only [Act.put, List.setIfInBounds_toArray, List.set_cons_zero, List.set_cons_succ]
  refine wpL_take 2 73 (.pointer (some ⟨q, 1, none⟩)) [3, 5, 6, 7, 14, 15] rfl rfl (by kernel_rfl) (by decide) (by kernel_rfl) (by kernel_rfl) (by kernel_rfl) (fun _ _ _ h => h) HS2.out (by rfl) (fun W hW => by obtain ⟨⟨s0, s1, s2, s3, sa, sb⟩, _⟩ := hW; go_simp) ?_
  simp only [Act.put, List.setIfInBounds_toArray, List.set_cons_zero, List.set_cons_succ]
  refine wpL_take 3 74 (i64 a) [5, 6, 7, 14, 15] rfl rfl (by kernel_rfl) (by decide) (by kernel_rfl) (by kernel_rfl) (by kernel_rfl) (fun _ _ _ h => h) HS2.out (by rfl) (fun W hW => by obtain ⟨⟨s0, s1, s2, s3, sa, sb⟩, _⟩ := hW; go_simp) ?_
  simp only [Act.put, List.setIfInBounds_toArray, List.set_cons_zero, List.set_cons_succ]
  refine wpL_take 4 75 (.pointer (some ⟨w.heap.size, 0, none⟩)) [5, 6, 7, 14, 15] rfl rfl (by kernel_rfl) (by decide) (by kernel_rfl) (by kernel_rfl) (by kernel_rfl) (fun _ _ _ h => h) HS2.out (by rfl) (fun W hW => by obtain ⟨⟨s0, s1, s2, s3, sa, sb⟩, _⟩ := hW; go_simp) ?_
  simp only [Act.put, List.setIfInBounds_toArray, List.set_cons_zero, List.set_cons_succ]
  refine wpL_take 5 76 (.pointer (some ⟨w.heap.size, a, none⟩)) [6, 7, 14, 15] rfl rfl (by kernel_rfl) (by decide) (by kernel_rfl) (by kernel_rfl) (by kernel_rfl) (fun _ _ _ h => h) HS2.out (by rfl) (fun W hW => by obtain ⟨⟨s0, s1, s2, s3, sa, sb⟩, _⟩ := hW; go_simp) ?_
  simp only [Act.put, List.setIfInBounds_toArray, List.set_cons_zero, List.set_cons_succ]
  refine wpL_take 6 77 (u16 va) [7, 14, 15] rfl rfl (by kernel_rfl) (by decide) (by kernel_rfl) (by kernel_rfl) (by kernel_rfl) (fun _ _ _ h => h) HS2.out (by rfl) (fun W hW => by obtain ⟨⟨s0, s1, s2, s3, sa, sb⟩, _⟩ := hW; go_simp) ?_
  simp only [Act.put, List.setIfInBounds_toArray, List.set_cons_zero, List.set_cons_succ]
  refine wpL_take 7 78 (i64 va) [14, 15] rfl rfl (by kernel_rfl) (by decide) (by kernel_rfl) (by kernel_rfl) (by kernel_rfl) (fun _ _ _ h => h) HS2.out (by rfl) (fun W hW => by obtain ⟨⟨s0, s1, s2, s3, sa, sb⟩, _⟩ := hW; go_simp; exact wraps_i64 _ (by omega) (by omega)) ?_
  simp only [Act.put, List.setIfInBounds_toArray, List.set_cons_zero, List.set_cons_succ]
  refine wpL_take 8 79 (.pointer (some ⟨q, 2, none⟩)) [9, 11, 12, 13, 14, 15] rfl rfl (by kernel_rfl) (by decide) (by kernel_rfl) (by kernel_rfl) (by kernel_rfl) (fun _ _ _ h => h) HS2.out (by rfl) (fun W hW => by obtain ⟨⟨s0, s1, s2, s3, sa, sb⟩, _⟩ := hW; go_simp) ?_
  simp only [Act.put, List.setIfInBounds_toArray, List.set_cons_zero, List.set_cons_succ]
  refine wpL_take 9 80 (i64 b) [11, 12, 13, 14, 15] rfl rfl (by kernel_rfl) (by decide) (by kernel_rfl) (by kernel_rfl) (by kernel_rfl) (fun _ _ _ h => h) HS2.out (by rfl) (fun W hW => by obtain ⟨⟨s0, s1, s2, s3, sa, sb⟩, _⟩ := hW; go_simp) ?_
  simp only [Act.put, List.setIfInBounds_toArray, List.set_cons_zero, List.set_cons_succ]
  refine wpL_take 10 81 (.pointer (some ⟨w.heap.size, 0, none⟩)) [11, 12, 13, 14, 15] rfl rfl (by kernel_rfl) (by decide) (by kernel_rfl) (by kernel_rfl) (by kernel_rfl) (fun _ _ _ h => h) HS2.out (by rfl) (fun W hW => by obtain ⟨⟨s0, s1, s2, s3, sa, sb⟩, _⟩ := hW; go_simp) ?_
  simp only [Act.put, List.setIfInBounds_toArray, List.set_cons_zero, List.set_cons_succ]
  refine wpL_take 11 82 (.pointer (some ⟨w.heap.size, b, none⟩)) [12, 13, 14, 15] rfl rfl (by kernel_rfl) (by decide) (by kernel_rfl) (by kernel_rfl) (by kernel_rfl) (fun _ _ _ h => h) HS2.out (by rfl) (fun W hW => by obtain ⟨⟨s0, s1, s2, s3, sa, sb⟩, _⟩ := hW; go_simp) ?_
  simp only [Act.put, List.setIfInBounds_toArray, List.set_cons_zero, List.set_cons_succ]
  refine wpL_take 12 83 (u16 vb) [13, 14, 15] rfl rfl (by kernel_rfl) (by decide) (by kernel_rfl) (by kernel_rfl) (by kernel_rfl) (fun _ _ _ h => h) HS2.out (by rfl) (fun W hW => by obtain ⟨⟨s0, s1, s2, s3, sa, sb⟩, _⟩ := hW; go_simp) ?_
  simp only [Act.put, List.setIfInBounds_toArray, List.set_cons_zero, List.set_cons_succ]
  refine wpL_take 13 84 (i64 vb) [14, 15] rfl rfl (by kernel_rfl) (by decide) (by kernel_rfl) (by kernel_rfl) (by kernel_rfl) (fun _ _ _ h => h) HS2.out (by rfl) (fun W hW => by obtain ⟨⟨s0, s1, s2, s3, sa, sb⟩, _⟩ := hW; go_simp; exact wraps_i64 _ (by omega) (by omega)) ?_
  simp only [Act.put, List.setIfInBounds_toArray, List.set_cons_zero, List.set_cons_succ]
  refine wpL_one 14 rfl (by kernel_rfl) (by rfl) (fun K hK => ?_)
  go_simp
  refine (HR.out _).mono ?_
  rintro e w3 ⟨rfl, hb3⟩
  have HM3 : Hid (Mid2 w w3 (C.set 8 pn) q ⟨13, a, b, n⟩) := (HM2.out.below (W := V2.drew) ⟨rfl, rfl, rfl, Nat.le_refl _, fun _ _ => rfl⟩).below hb3
  have HS3 : Hid (Sa w.heap.size q 13 n a b va vb (C.set 8 pn) w3) := Sa.mid HM3.out hC1 (by omega) (by omega) HVA.out HVB.out
  clear hb3
  go_simp
  refine hK.out _ _ (fun _ => HS3.out) ?_
  clear hK K
  refine wpL_one 15 rfl (by kernel_rfl) (by rfl) (fun K hK => ?_)
  refine wp_store_mid 30 (.tmp 4) (.tmp 71) rfl (w.heap.size + 1) 0 (cpC (C.set 8 pn)).toArray rfl rfl (by exact fin_there (HM3.out.beg.r1.there Rg.zero) hC1) (cpC_infoA hC1) (cpC_one _) ?_
  refine hK.out _ _ (fun _ => HS3.out.store hq _) ?_
  clear hK K
  refine wpL_one 16 rfl (by kernel_rfl) (by rfl) (fun K hK => ?_)
  refine wp_store_mid 61 (.tmp 5) (.tmp 85) rfl (w.heap.size + 1 + 1) 0 (acC X).toArray rfl rfl (by exact World.there_setCells HM3.out.beg.r2.there _ _ _) info28 (by kernel_rfl) ?_
  refine hK.out _ _ (fun h => absurd rfl h) ?_
  clear hK K
  refine wpL_done (by kernel_rfl) ?_
  refine NoPanic.normal ?_
  have hF := HM3.out.beg.fin hC1 X
  obtain ⟨g1, g2⟩ := hF.results hC1
  go_wp2_with fail
  first
    | simp only [Exit.jump]
    | rw [Exit.noGoto_ret]
  exact bodyPost_ret (results_two rfl rfl g1 g2) rfl ⟨rfl, hF.bel⟩
set_option maxRecDepth 100000 in
set_option maxHeartbeats 1600000 in
theorem step_asked15 (w : World) (ht : Tab w) (C : List Nat) (hC : Rg C) (s : ByteArray) (pc a b va vb pn : Nat) (n nx : Int) (hpc : C.getD 8 0 = pc)
    (hA : ∀ w, Tab w → Calls Tryd.prog 32 #[.string s, i64 pc] w fun e w' => e = .returned (atV ⟨15, a, b, n⟩ nx 0) ∧ Below w.heap.size w w')
    (ha : a < 8) (hb : b < 8) (hva : C.getD a 0 = va) (hvb : C.getD b 0 = vb) (hpn : wd nx = pn) (X : Ac) (hR : ∀ w, Calls Tryd.prog 34 #[inV ⟨15, a, b, n⟩, i64 va, i64 vb] w fun e w' => e = .returned (acV X) ∧ Below w.heap.size w w') :
    Calls Tryd.prog 16 #[cpV C, .string s] w fun e w' => e = .returned (stV (C.set 8 pn) (X)) ∧ Below w.heap.size w w' := by
  have hpc16 : pc < 65536 := by rw [← hpc]; exact hC.get 8
  have hva16 : va < 65536 := by rw [← hva]; exact hC.get a
  have hvb16 : vb < 65536 := by rw [← hvb]; exact hC.get b
  have hpn16 : pn < 65536 := by rw [← hpn]; exact wd_lt _
  have HA : Hid (∀ w, Tab w → Calls Tryd.prog 32 #[.string s, i64 pc] w fun e w' => e = .returned (atV ⟨15, a, b, n⟩ nx 0) ∧ Below w.heap.size w w') := hA
  have HWD : Hid (∀ w, Calls Tryd.prog 33 #[i64 nx] w fun e w' => e = .returned (u16 pn) ∧ w' = w) := fun w => by rw [← hpn]; exact word_ok w nx
  have hC1 : Rg (C.set 8 pn) := hC.set _ _ hpn16
  have HVA : Hid (C.getD a 0 = va) := hva
  have HVB : Hid (C.getD b 0 = vb) := hvb
  have HPC : Hid (C.getD 8 0 = pc) := hpc
  clear hA hva hvb hpn hpc
  have HR : Hid (∀ w, Calls Tryd.prog 34 #[inV ⟨15, a, b, n⟩, i64 va, i64 vb] w fun e w' => e = .returned (acV X) ∧ Below w.heap.size w w') := hR
  clear hR
  go_enter Tryd.func16, Tryd.ntmps16
  go_wp2_with fail
  have hB := Beg.start w C
  generalize (((w.alloc (.cells (cpC C).toArray 30)).alloc (.cells #[u16 0, u16 0, u16 0, u16 0, u16 0, u16 0, u16 0, u16 0, u16 0] 30)).alloc (.cells #[i64 0, i64 0, i64 0, i64 0, i64 0, i64 0] 61)) = V at *
  have hc8 := hB.r0.cell hC 8 (by omega)
  rw [HPC.out] at hc8
  have HB : Hid (Beg w V C) := hB
  have HT : Hid (Tab V) := ht.below hB.bel
  clear hB ht
  refine wp_scope_ahead 0 rfl ?_
  go_wp2_with fail
  refine (HA.out _ HT.out).mono ?_
  rintro e w1 ⟨rfl, hb1⟩
  have hM1 := Mid2.start (HB.out.below hb1) ⟨15, a, b, n⟩
  clear hb1 HA HB HT hc8
  go_wp2_with fail
  obtain ⟨V1, hV1⟩ : ∃ V1, V1 = w1.alloc (.cells #[i64 15, i64 a, i64 b, i64 n] 80) := ⟨_, rfl⟩
  have hM2 := hM1.set 8 pn
  rw [← hV1] at hM1 hM2 ⊢
  have c8 := hM1.beg.r0.cell hC 8 (by omega)
  have f8 := hM1.beg.r0.free 8
  have hq := hM1.hq
  clear hV1 hM1
  generalize w1.heap.size = q at *
  obtain ⟨V2, hV2⟩ : ∃ V2, V2 = V1.setCell ⟨w.heap.size, 8, none⟩ (u16 pn) := ⟨_, rfl⟩
  have HM2 : Hid (Mid2 w V2 (C.set 8 pn) q ⟨15, a, b, n⟩) := by rw [hV2]; exact hM2
  have HV2 : Hid (V2 = V1.setCell ⟨w.heap.size, 8, none⟩ (u16 pn)) := hV2
  clear hM2 hV2
  refine (HWD.out _).mono ?_
  rintro e w2 ⟨rfl, rfl⟩
  go_upto_region 5 with fail
  rw [← HV2.out]
  obtain ⟨q0, q1, q2, q3⟩ := HM2.out.cells
  have ca := HM2.out.beg.r0.cell hC1 a (by omega)
  have cb := HM2.out.beg.r0.cell hC1 b (by omega)
  have fa := HM2.out.beg.r0.free a
  rw [set_getD_ne _ _ _ _ (by omega), HVA.out] at ca
  rw [set_getD_ne _ _ _ _ (by omega), HVB.out] at cb
  clear c8 f8 HWD
  go_wp2_with fail
  have HS2 : Hid (Sa w.heap.size q 15 n a b va vb (C.set 8 pn) V2.drew) := ⟨⟨q0, q1, q2, q3, ca, cb⟩, HM2.out.beg.r0.range⟩
  have haI : (a : Int) < 8 := by omega
  have hbI : (b : Int) < 8 := by omega
  clear q0 q1 q2 q3 ca cb fa
  refine wp_region_noPanic ?_
  refine wp_region_last (Sa w.heap.size q 15 n a b va vb (C.set 8 pn)) 16 (by kernel_rfl) ?_
  refine wpL_takeY 0 71 (cpV (C.set 8 pn)) [15] rfl rfl (by kernel_rfl) (by decide) (by kernel_rfl) (by kernel_rfl) (by kernel_rfl) (fun _ _ _ h => h) HS2.out (yieldsIf_load_mid (by rfl) 30 (.tmp 2) rfl w.heap.size 0 rfl (cpC (C.set 8 pn)) _ (fun W h => h.rng) Tryd.underlying30 rfl (cpC_info hC1)) ?_
  simp only [Act.put, List.setIfInBounds_toArray, List.set_cons_zero, List.set_cons_succ]
  refine wpL_take 1 72 (inV ⟨15, a, b, n⟩) [14, 15] rfl rfl (by kernel_rfl) (by decide) (by kernel_rfl) (by kernel_rfl) (by kernel_rfl) (fun _ _ _ h => h) HS2.out (by rfl) (fun W hW => by obtain ⟨⟨s0, s1, s2, s3, sa, sb⟩, _⟩ := hW; go_simp) ?_
  simp only [Act.put, List.setIfInBounds_toArray, List.set_cons_zero, List.set_cons_succ]
  refine wpL_take 2 73 (.pointer (some ⟨q, 1, none⟩)) [3, 5, 6, 7, 14, 15] rfl rfl (by kernel_rfl) (by decide) (by kernel_rfl) (by kernel_rfl) (by kernel_rfl) (fun _ _ _ h => h) HS2.out (by rfl) (fun W hW => by obtain ⟨⟨s0, s1, s2, s3, sa, sb⟩, _⟩ := hW; go_simp) ?_
  simp only [Act.put, List.setIfInBounds_toArray, List.set_cons_zero, List.set_cons_succ]
  refine wpL_take 3 74 (i64 a) [5, 6, 7, 14, 15] rfl rfl (by kernel_rfl) (by decide) (by kernel_rfl) (by kernel_rfl) (by kernel_rfl) (fun _ _ _ h => h) HS2.out (by rfl) (fun W hW => by obtain ⟨⟨s0, s1, s2, s3, sa, sb⟩, _⟩ := hW; go_simp) ?_
  simp only [Act.put, List.setIfInBounds_toArray, List.set_cons_zero, List.set_cons_succ]
  refine wpL_take 4 75 (.pointer (some ⟨w.heap.size, 0, none⟩)) [5, 6, 7, 14, 15] rfl rfl (by kernel_rfl) (by decide) (by kernel_rfl) (by kernel_rfl) (by kernel_rfl) (fun _ _ _ h => h) HS2.out (by rfl) (fun W hW => by obtain ⟨⟨s0, s1, s2, s3, sa, sb⟩, _⟩ := hW; go_simp) ?_
  simp only [Act.put, List.setIfInBounds_toArray, List.set_cons_zero, List.set_cons_succ]
  refine wpL_take 5 76 (.pointer (some ⟨w.heap.size, a, none⟩)) [6, 7, 14, 15] rfl rfl (by kernel_rfl) (by decide) (by kernel_rfl) (by kernel_rfl) (by kernel_rfl) (fun _ _ _ h => h) HS2.out (by rfl) (fun W hW => by obtain ⟨⟨s0, s1, s2, s3, sa, sb⟩, _⟩ := hW; go_simp) ?_
  simp only [Act.put, List.setIfInBounds_toArray, List.set_cons_zero, List.set_cons_succ]
  refine wpL_take 6 77 (u16 va) [7, 14, 15] rfl rfl (by kernel_rfl) (by decide) (by kernel_rfl) (by kernel_rfl) (by kernel_rfl) (fun _ _ _ h => h) HS2.out (by rfl) (fun W hW => by obtain ⟨⟨s0, s1, s2, s3, sa, sb⟩, _⟩ := hW; go_simp) ?_
  simp only [Act.put, List.setIfInBounds_toArray, List.set_cons_zero, List.set_cons_succ]
  refine wpL_take 7 78 (i64 va) [14, 15] rfl rfl (by kernel_rfl) (by decide) (by kernel_rfl) (by kernel_rfl) (by kernel_rfl) (fun _ _ _ h => h) HS2.out (by rfl) (fun W hW => by obtain ⟨⟨s0, s1, s2, s3, sa, sb⟩, _⟩ := hW; go_simp; exact wraps_i64 _ (by omega) (by omega)) ?_
  simp only [Act.put, List.setIfInBounds_toArray, List.set_cons_zero, List.set_cons_succ]
  refine wpL_take 8 79 (.pointer (some ⟨q, 2, none⟩)) [9, 11, 12, 13, 14, 15] rfl rfl (by kernel_rfl) (by decide) (by kernel_rfl) (by kernel_rfl) (by kernel_rfl) (fun _ _ _ h => h) HS2.out (by rfl) (fun W hW => by obtain ⟨⟨s0, s1, s2, s3, sa, sb⟩, _⟩ := hW; go_simp) ?_
  simp only [Act.put, List.setIfInBounds_toArray, List.set_cons_zero, List.set_cons_succ]
  refine wpL_take 9 80 (i64 b) [11, 12, 13, 14, 15] rfl rfl (by kernel_rfl) (by decide) (by kernel_rfl) (by kernel_rfl) (by kernel_rfl) (fun _ _ _ h => h) HS2.out (by rfl) (fun W hW => by obtain ⟨⟨s0, s1, s2, s3, sa, sb⟩, _⟩ := hW; go_simp) ?_
  simp only [Act.put, List.setIfInBounds_toArray, List.set_cons_zero, List.set_cons_succ]
  refine wpL_take 10 81 (.pointer (some ⟨w.heap.size, 0, none⟩)) [11, 12, 13, 14, 15] rfl rfl (by kernel_rfl) (by decide) (by kernel_rfl) (by kernel_rfl) (by kernel_rfl) (fun _ _ _ h => h) HS2.out (by rfl) (fun W hW => by obtain ⟨⟨s0, s1, s2, s3, sa, sb⟩, _⟩ := hW; go_simp) ?_
  simp only [Act.put, List.setIfInBounds_toArray, List.set_cons_zero, List.set_cons_succ]
  refine wpL_take 11 82 (.pointer (some ⟨w.heap.size, b, none⟩)) [12, 13, 14, 15] rfl rfl (by kernel_rfl) (by decide) (by kernel_rfl) (by kernel_rfl) (by kernel_rfl) (fun _ _ _ h => h) HS2.out (by rfl) (fun W hW => by obtain ⟨⟨s0, s1, s2, s3, sa, sb⟩, _⟩ := hW; go_simp) ?_
  simp only [Act.put, List.setIfInBounds_toArray, List.set_cons_zero, List.set_cons_succ]
  refine wpL_take 12 83 (u16 vb) [13, 14, 15] rfl rfl (by kernel_rfl) (by decide) (by kernel_rfl) (by kernel_rfl) (by kernel_rfl) (fun _ _ _ h => h) HS2.out (by rfl) (fun W hW => by obtain ⟨⟨s0, s1, s2, s3, sa, sb⟩, _⟩ := hW; go_simp) ?_
  simp only [Act.put, List.setIfInBounds_toArray, List.set_cons_zero, List.set_cons_succ]
  refine wpL_take 13 84 (i64 vb) [14, 15] rfl rfl (by kernel_rfl) (by decide) (by kernel_rfl) (by kernel_rfl) (by kernel_rfl) (fun _ _ _ h => h) HS2.out (by rfl) (fun W hW => by obtain ⟨⟨s0, s1, s2, s3, sa, sb⟩, _⟩ := hW; go_simp; exact wraps_i64 _ (by omega) (by omega)) ?_
  simp only [Act.put, List.setIfInBounds_toArray, List.set_cons_zero, List.set_cons_succ]
  refine wpL_one 14 rfl (by kernel_rfl) (by rfl) (fun K hK => ?_)
  go_simp
  refine (HR.out _).mono ?_
  rintro e w3 ⟨rfl, hb3⟩
  have HM3 : Hid (Mid2 w w3 (C.set 8 pn) q ⟨15, a, b, n⟩) := (HM2.out.below (W := V2.drew) ⟨rfl, rfl, rfl, Nat.le_refl _, fun _ _ => rfl⟩).below hb3
  have HS3 : Hid (Sa w.heap.size q 15 n a b va vb (C.set 8 pn) w3) := Sa.mid HM3.out hC1 (by omega) (by omega) HVA.out HVB.out
  clear hb3
  go_simp
  refine hK.out _ _ (fun _ => HS3.out) ?_
  clear hK K
  refine wpL_one 15 rfl (by kernel_rfl) (by rfl) (fun K hK => ?_)
  refine wp_store_mid 30 (.tmp 4) (.tmp 71) rfl (w.heap.size + 1) 0 (cpC (C.set 8 pn)).toArray rfl rfl (by exact fin_there (HM3.out.beg.r1.there Rg.zero) hC1) (cpC_infoA hC1) (cpC_one _) ?_
  refine hK.out _ _ (fun _ => HS3.out.store hq _) ?_
  clear hK K
  refine wpL_one 16 rfl (by kernel_rfl) (by rfl) (fun K hK => ?_)
  refine wp_store_mid 61 (.tmp 5) (.tmp 85) rfl (w.heap.size + 1 + 1) 0 (acC X).toArray rfl rfl (by exact World.there_setCells HM3.out.beg.r2.there _ _ _) info28 (by kernel_rfl) ?_
  refine hK.out _ _ (fun h => absurd rfl h) ?_
  clear hK K
  refine wpL_done (by kernel_rfl) ?_
  refine NoPanic.normal ?_
  have hF := HM3.out.beg.fin hC1 X
  obtain ⟨g1, g2⟩ := hF.results hC1
  go_wp2_with fail
  first
    | simp only [Exit.jump]
    | rw [Exit.noGoto_ret]
  exact bodyPost_ret (results_two rfl rfl g1 g2) rfl ⟨rfl, hF.bel⟩
set_option maxRecDepth 100000 in
set_option maxHeartbeats 1600000 in
theorem step_asked14 (w : World) (ht : Tab w) (C : List Nat) (hC : Rg C) (s : ByteArray) (pc a b va vb pn : Nat) (n nx : Int) (hpc : C.getD 8 0 = pc)
    (hA : ∀ w, Tab w → Calls Tryd.prog 32 #[.string s, i64 pc] w fun e w' => e = .returned (atV ⟨14, a, b, n⟩ nx 0) ∧ Below w.heap.size w w')
    (ha : a < 8) (hb : b < 8) (hva : C.getD a 0 = va) (hvb : C.getD b 0 = vb) (hpn : wd nx = pn) (X : Ac) (hR : ∀ w, Calls Tryd.prog 34 #[inV ⟨14, a, b, n⟩, i64 va, i64 vb] w fun e w' => e = .returned (acV X) ∧ Below w.heap.size w w') :
    Calls Tryd.prog 16 #[cpV C, .string s] w fun e w' => e = .returned (stV (C.set 8 pn) (X)) ∧ Below w.heap.size w w' := by
  have hpc16 : pc < 65536 := by rw [← hpc]; exact hC.get 8
  have hva16 : va < 65536 := by rw [← hva]; exact hC.get a
  have hvb16 : vb < 65536 := by rw [← hvb]; exact hC.get b
  have hpn16 : pn < 65536 := by rw [← hpn]; exact wd_lt _
  have HA : Hid (∀ w, Tab w → Calls Tryd.prog 32 #[.string s, i64 pc] w fun e w' => e = .returned (atV ⟨14, a, b, n⟩ nx 0) ∧ Below w.heap.size w w') := hA
  have HWD : Hid (∀ w, Calls Tryd.prog 33 #[i64 nx] w fun e w' => e = .returned (u16 pn) ∧ w' = w) := fun w => by rw [← hpn]; exact word_ok w nx
  have hC1 : Rg (C.set 8 pn) := hC.set _ _ hpn16
  have HVA : Hid (C.getD a 0 = va) := hva
  have HVB : Hid (C.getD b 0 = vb) := hvb
  have HPC : Hid (C.getD 8 0 = pc) := hpc
  clear hA hva hvb hpn hpc
  have HR : Hid (∀ w, Calls Tryd.prog 34 #[inV ⟨14, a, b, n⟩, i64 va, i64 vb] w fun e w' => e = .returned (acV X) ∧ Below w.heap.size w w') := hR
  clear hR
  go_enter Tryd.func16, Tryd.ntmps16
  go_wp2_with fail
  have hB := Beg.start w C
  generalize (((w.alloc (.cells (cpC C).toArray 30)).alloc (.cells #[u16 0, u16 0, u16 0, u16 0, u16 0, u16 0, u16 0, u16 0, u16 0] 30)).alloc (.cells #[i64 0, i64 0, i64 0, i64 0, i64 0, i64 0] 61)) = V at *
  have hc8 := hB.r0.cell hC 8 (by omega)
  rw [HPC.out] at hc8
  have HB : Hid (Beg w V C) := hB
  have HT : Hid (Tab V) := ht.below hB.bel
  clear hB ht
  refine wp_scope_ahead 0 rfl ?_
  go_wp2_with fail
  refine (HA.out _ HT.out).mono ?_
  rintro e w1 ⟨rfl, hb1⟩
  have hM1 := Mid2.start (HB.out.below hb1) ⟨14, a, b, n⟩
  clear hb1 HA HB HT hc8
  go_wp2_with fail
  obtain ⟨V1, hV1⟩ : ∃ V1, V1 = w1.alloc (.cells #[i64 14, i64 a, i64 b, i64 n] 80) := ⟨_, rfl⟩
  have hM2 := hM1.set 8 pn
  rw [← hV1] at hM1 hM2 ⊢
  have c8 := hM1.beg.r0.cell hC 8 (by omega)
  have f8 := hM1.beg.r0.free 8
  have hq := hM1.hq
  clear hV1 hM1
  generalize w1.heap.size = q at *
  obtain ⟨V2, hV2⟩ : ∃ V2, V2 = V1.setCell ⟨w.heap.size, 8, none⟩ (u16 pn) := ⟨_, rfl⟩
  have HM2 : Hid (Mid2 w V2 (C.set 8 pn) q ⟨14, a, b, n⟩) := by rw [hV2]; exact hM2
  have HV2 : Hid (V2 = V1.setCell ⟨w.heap.size, 8, none⟩ (u16 pn)) := hV2
  clear hM2 hV2
  refine (HWD.out _).mono ?_
  rintro e w2 ⟨rfl, rfl⟩
  go_upto_region 5 with fail
  rw [← HV2.out]
  obtain ⟨q0, q1, q2, q3⟩ := HM2.out.cells
  have ca := HM2.out.beg.r0.cell hC1 a (by omega)
  have cb := HM2.out.beg.r0.cell hC1 b (by omega)
  have fa := HM2.out.beg.r0.free a
  rw [set_getD_ne _ _ _ _ (by omega), HVA.out] at ca
  rw [set_getD_ne _ _ _ _ (by omega), HVB.out] at cb
  clear c8 f8 HWD
  go_wp2_with fail
  have HS2 : Hid (Sa w.heap.size q 14 n a b va vb (C.set 8 pn) V2.drew) := ⟨⟨q0, q1, q2, q3, ca, cb⟩, HM2.out.beg.r0.range⟩
  have haI : (a : Int) < 8 := by omega
  have hbI : (b : Int) < 8 := by omega
  clear q0 q1 q2 q3 ca cb fa
  refine wp_region_noPanic ?_
  refine wp_region_last (Sa w.heap.size q 14 n a b va vb (C.set 8 pn)) 16 (by kernel_rfl) ?_
  refine wpL_takeY 0 71 (cpV (C.set 8 pn)) [15] rfl rfl (by kernel_rfl) (by decide) (by kernel_rfl) (by kernel_rfl) (by kernel_rfl) (fun _ _ _ h => h) HS2.out (yieldsIf_load_mid (by rfl) 30 (.tmp 2) rfl w.heap.size 0 rfl (cpC (C.set 8 pn)) _ (fun W h => h.rng) Tryd.underlying30 rfl (cpC_info hC1)) ?_
  simp only [Act.put, List.setIfInBounds_toArray, List.set_cons_zero, List.set_cons_succ]
  refine wpL_take 1 72 (inV ⟨14, a, b, n⟩) [14, 15] rfl rfl (by kernel_rfl) (by decide) (by kernel_rfl) (by kernel_rfl) (by kernel_rfl) (fun _ _ _ h => h) HS2.out (by rfl) (fun W hW => by obtain ⟨⟨s0, s1, s2, s3, sa, sb⟩, _⟩ := hW; go_simp) ?_
  simp only [Act.put, List.setIfInBounds_toArray, List.set_cons_zero, List.set_cons_succ]
  refine wpL_take 2 73 (.pointer (some ⟨q, 1, none⟩)) [3, 5, 6, 7, 14, 15] rfl rfl (by kernel_rfl) (by decide) (by kernel_rfl) (by kernel_rfl) (by kernel_rfl) (fun _ _ _ h => h) HS2.out (by rfl) (fun W hW => by obtain ⟨⟨s0, s1, s2, s3, sa, sb⟩, _⟩ := hW; go_simp) ?_
  simp only [Act.put, List.setIfInBounds_toArray, List.set_cons_zero, List.set_cons_succ]
  refine wpL_take 3 74 (i64 a) [5, 6, 7, 14, 15] rfl rfl (by kernel_rfl) (by decide) (by kernel_rfl) (by kernel_rfl) (by kernel_rfl) (fun _ _ _ h => h) HS2.out (by rfl) (fun W hW => by obtain ⟨⟨s0, s1, s2, s3, sa, sb⟩, _⟩ := hW; go_simp) ?_
  simp only [Act.put, List.setIfInBounds_toArray, List.set_cons_zero, List.set_cons_succ]
  refine wpL_take 4 75 (.pointer (some ⟨w.heap.size, 0, none⟩)) [5, 6, 7, 14, 15] rfl rfl (by kernel_rfl) (by decide) (by kernel_rfl) (by kernel_rfl) (by kernel_rfl) (fun _ _ _ h => h) HS2.out (by rfl) (fun W hW => by obtain ⟨⟨s0, s1, s2, s3, sa, sb⟩, _⟩ := hW; go_simp) ?_
  simp only [Act.put, List.setIfInBounds_toArray, List.set_cons_zero, List.set_cons_succ]
  refine wpL_take 5 76 (.pointer (some ⟨w.heap.size, a, none⟩)) [6, 7, 14, 15] rfl rfl (by kernel_rfl) (by decide) (by kernel_rfl) (by kernel_rfl) (by kernel_rfl) (fun _ _ _ h => h) HS2.out (by rfl) (fun W hW => by obtain ⟨⟨s0, s1, s2, s3, sa, sb⟩, _⟩ := hW; go_simp) ?_
  simp only [Act.put, List.setIfInBounds_toArray, List.set_cons_zero, List.set_cons_succ]
  refine wpL_take 6 77 (u16 va) [7, 14, 15] rfl rfl (by kernel_rfl) (by decide) (by kernel_rfl) (by kernel_rfl) (by kernel_rfl) (fun _ _ _ h => h) HS2.out (by rfl) (fun W hW => by obtain ⟨⟨s0, s1, s2, s3, sa, sb⟩, _⟩ := hW; go_simp) ?_
  simp only [Act.put, List.setIfInBounds_toArray, List.set_cons_zero, List.set_cons_succ]
  refine wpL_take 7 78 (i64 va) [14, 15] rfl rfl (by kernel_rfl) (by decide) (by kernel_rfl) (by kernel_rfl) (by kernel_rfl) (fun _ _ _ h => h) HS2.out (by rfl) (fun W hW => by obtain ⟨⟨s0, s1, s2, s3, sa, sb⟩, _⟩ := hW; go_simp; exact wraps_i64 _ (by omega) (by omega)) ?_
  simp only [Act.put, List.setIfInBounds_toArray, List.set_cons_zero, List.set_cons_succ]
  refine wpL_take 8 79 (.pointer (some ⟨q, 2, none⟩)) [9, 11, 12, 13, 14, 15] rfl rfl (by kernel_rfl) (by decide) (by kernel_rfl) (by kernel_rfl) (by kernel_rfl) (fun _ _ _ h => h) HS2.out (by rfl) (fun W hW => by obtain ⟨⟨s0, s1, s2, s3, sa, sb⟩, _⟩ := hW; go_simp) ?_
  simp only [Act.put, List.setIfInBounds_toArray, List.set_cons_zero, List.set_cons_succ]
  refine wpL_take 9 80 (i64 b) [11, 12, 13, 14, 15] rfl rfl (by kernel_rfl) (by decide) (by kernel_rfl) (by kernel_rfl) (by kernel_rfl) (fun _ _ _ h => h) HS2.out (by rfl) (fun W hW => by obtain ⟨⟨s0, s1, s2, s3, sa, sb⟩, _⟩ := hW; go_simp) ?_
  simp only [Act.put, List.setIfInBounds_toArray, List.set_cons_zero, List.set_cons_succ]
  refine wpL_take 10 81 (.pointer (some ⟨w.heap.size, 0, none⟩)) [11, 12, 13, 14, 15] rfl rfl (by kernel_rfl) (by decide) (by kernel_rfl) (by kernel_rfl) (by kernel_rfl) (fun _ _ _ h => h) HS2.out (by rfl) (fun W hW => by obtain ⟨⟨s0, s1, s2, s3, sa, sb⟩, _⟩ := hW; go_simp) ?_
  simp only [Act.put, List.setIfInBounds_toArray, List.set_cons_zero, List.set_cons_succ]
  refine wpL_take 11 82 (.pointer (some ⟨w.heap.size, b, none⟩)) [12, 13, 14, 15] rfl rfl (by kernel_rfl) (by decide) (by kernel_rfl) (by kernel_rfl) (by kernel_rfl) (fun _ _ _ h => h) HS2.out (by rfl) (fun W hW => by obtain ⟨⟨s0, s1, s2, s3, sa, sb⟩, _⟩ := hW; go_simp) ?_
  simp only [Act.put, List.setIfInBounds_toArray, List.set_cons_zero, List.set_cons_succ]
  refine wpL_take 12 83 (u16 vb) [13, 14, 15] rfl rfl (by kernel_rfl) (by decide) (by kernel_rfl) (by kernel_rfl) (by kernel_rfl) (fun _ _ _ h => h) HS2.out (by rfl) (fun W hW => by obtain ⟨⟨s0, s1, s2, s3, sa, sb⟩, _⟩ := hW; go_simp) ?_
  simp only [Act.put, List.setIfInBounds_toArray, List.set_cons_zero, List.set_cons_succ]
  refine wpL_take 13 84 (i64 vb) [14, 15] rfl rfl (by kernel_rfl) (by decide) (by kernel_rfl) (by kernel_rfl) (by kernel_rfl) (fun _ _ _ h => h) HS2.out (by rfl) (fun W hW => by obtain ⟨⟨s0, s1, s2, s3, sa, sb⟩, _⟩ := hW; go_simp; exact wraps_i64 _ (by omega) (by omega)) ?_
  simp only [Act.put, List.setIfInBounds_toArray, List.set_cons_zero, List.set_cons_succ]
  refine wpL_one 14 rfl (by kernel_rfl) (by rfl) (fun K hK => ?_)
  go_simp
  refine (HR.out _).mono ?_
  rintro e w3 ⟨rfl, hb3⟩
  have HM3 : Hid (Mid2 w w3 (C.set 8 pn) q ⟨14, a, b, n⟩) := (HM2.out.below (W := V2.drew) ⟨rfl, rfl, rfl, Nat.le_refl _, fun _ _ => rfl⟩).below hb3
  have HS3 : Hid (Sa w.heap.size q 14 n a b va vb (C.set 8 pn) w3) := Sa.mid HM3.out hC1 (by omega) (by omega) HVA.out HVB.out
  clear hb3
  go_simp
  refine hK.out _ _ (fun _ => HS3.out) ?_
  clear hK K
  refine wpL_one 15 rfl (by kernel_rfl) (by rfl) (fun K hK => ?_)
  refine wp_store_mid 30 (.tmp 4) (.tmp 71) rfl (w.heap.size + 1) 0 (cpC (C.set 8 pn)).toArray rfl rfl (by exact fin_there (HM3.out.beg.r1.there Rg.zero) hC1) (cpC_infoA hC1) (cpC_one _) ?_
  refine hK.out _ _ (fun _ => HS3.out.store hq _) ?_
  clear hK K
  refine wpL_one 16 rfl (by kernel_rfl) (by rfl) (fun K hK => ?_)
  refine wp_store_mid 61 (.tmp 5) (.tmp 85) rfl (w.heap.size + 1 + 1) 0 (acC X).toArray rfl rfl (by exact World.there_setCells HM3.out.beg.r2.there _ _ _) info28 (by kernel_rfl) ?_
  refine hK.out _ _ (fun h => absurd rfl h) ?_
  clear hK K
  refine wpL_done (by kernel_rfl) ?_
  refine NoPanic.normal ?_
  have hF := HM3.out.beg.fin hC1 X
  obtain ⟨g1, g2⟩ := hF.results hC1
  go_wp2_with fail
  first
    | simp only [Exit.jump]
    | rw [Exit.noGoto_ret]
  exact bodyPost_ret (results_two rfl rfl g1 g2) rfl ⟨rfl, hF.bel⟩
set_option maxRecDepth 100000 in
set_option maxHeartbeats 1600000 in
theorem step_asked16 (w : World) (ht : Tab w) (C : List Nat) (hC : Rg C) (s : ByteArray) (pc a b va vb pn : Nat) (n nx : Int) (hpc : C.getD 8 0 = pc)
    (hA : ∀ w, Tab w → Calls Tryd.prog 32 #[.string s, i64 pc] w fun e w' => e = .returned (atV ⟨16, a, b, n⟩ nx 0) ∧ Below w.heap.size w w')
    (ha : a < 8) (hb : b < 8) (hva : C.getD a 0 = va) (hvb : C.getD b 0 = vb) (hpn : wd nx = pn) (X : Ac) (hR : ∀ w, Calls Tryd.prog 34 #[inV ⟨16, a, b, n⟩, i64 va, i64 vb] w fun e w' => e = .returned (acV X) ∧ Below w.heap.size w w') :
    Calls Tryd.prog 16 #[cpV C, .string s] w fun e w' => e = .returned (stV (C.set 8 pn) (X)) ∧ Below w.heap.size w w' := by
  have hpc16 : pc < 65536 := by rw [← hpc]; exact hC.get 8
  have hva16 : va < 65536 := by rw [← hva]; exact hC.get a
  have hvb16 : vb < 65536 := by rw [← hvb]; exact hC.get b
  have hpn16 : pn < 65536 := by rw [← hpn]; exact wd_lt _
  have HA : Hid (∀ w, Tab w → Calls Tryd.prog 32 #[.string s, i64 pc] w fun e w' => e = .returned (atV ⟨16, a, b, n⟩ nx 0) ∧ Below w.heap.size w w') := hA
  have HWD : Hid (∀ w, Calls Tryd.prog 33 #[i64 nx] w fun e w' => e = .returned (u16 pn) ∧ w' = w) := fun w => by rw [← hpn]; exact word_ok w nx
  have hC1 : Rg (C.set 8 pn) := hC.set _ _ hpn16
  have HVA : Hid (C.getD a 0 = va) := hva
  have HVB : Hid (C.getD b 0 = vb) := hvb
  have HPC : Hid (C.getD 8 0 = pc) := hpc
  clear hA hva hvb hpn hpc
  have HR : Hid (∀ w, Calls Tryd.prog 34 #[inV ⟨16, a, b, n⟩, i64 va, i64 vb] w fun e w' => e = .returned (acV X) ∧ Below w.heap.size w w') := hR
  clear hR
  go_enter Tryd.func16, Tryd.ntmps16
  go_wp2_with fail
  have hB := Beg.start w C
  generalize (((w.alloc (.cells (cpC C).toArray 30)).alloc (.cells #[u16 0, u16 0, u16 0, u16 0, u16 0, u16 0, u16 0, u16 0, u16 0] 30)).alloc (.cells #[i64 0, i64 0, i64 0, i64 0, i64 0, i64 0] 61)) = V at *
  have hc8 := hB.r0.cell hC 8 (by omega)
  rw [HPC.out] at hc8
  have HB : Hid (Beg w V C) := hB
  have HT : Hid (Tab V) := ht.below hB.bel
  clear hB ht
  refine wp_scope_ahead 0 rfl ?_
  go_wp2_with fail
  refine (HA.out _ HT.out).mono ?_
  rintro e w1 ⟨rfl, hb1⟩
  have hM1 := Mid2.start (HB.out.below hb1) ⟨16, a, b, n⟩
  clear hb1 HA HB HT hc8
  go_wp2_with fail
  obtain ⟨V1, hV1⟩ : ∃ V1, V1 = w1.alloc (.cells #[i64 16, i64 a, i64 b, i64 n] 80) := ⟨_, rfl⟩
  have hM2 := hM1.set 8 pn
  rw [← hV1] at hM1 hM2 ⊢
  have c8 := hM1.beg.r0.cell hC 8 (by omega)
  have f8 := hM1.beg.r0.free 8
  have hq := hM1.hq
  clear hV1 hM1
  generalize w1.heap.size = q at *
  obtain ⟨V2, hV2⟩ : ∃ V2, V2 = V1.setCell ⟨w.heap.size, 8, none⟩ (u16 pn) := ⟨_, rfl⟩
  have HM2 : Hid (Mid2 w V2 (C.set 8 pn) q ⟨16, a, b, n⟩) := by rw [hV2]; exact hM2
  have HV2 : Hid (V2 = V1.setCell ⟨w.heap.size, 8, none⟩ (u16 pn)) := hV2
  clear hM2 hV2
  refine (HWD.out _).mono ?_
  rintro e w2 ⟨rfl, rfl⟩
  go_upto_region 5 with fail
  rw [← HV2.out]
  obtain ⟨q0, q1, q2, q3⟩ := HM2.out.cells
  have ca := HM2.out.beg.r0.cell hC1 a (by omega)
  have cb := HM2.out.beg.r0.cell hC1 b (by omega)
  have fa := HM2.out.beg.r0.free a
  rw [set_getD_ne _ _ _ _ (by omega), HVA.out] at ca
  rw [set_getD_ne _ _ _ _ (by omega), HVB.out] at cb
  clear c8 f8 HWD
  go_wp2_with fail
  have HS2 : Hid (Sa w.heap.size q 16 n a b va vb (C.set 8 pn) V2.drew) := ⟨⟨q0, q1, q2, q3, ca, cb⟩, HM2.out.beg.r0.range⟩
  have haI : (a : Int) < 8 := by omega
  have hbI : (b : Int) < 8 := by omega
  clear q0 q1 q2 q3 ca cb fa
  refine wp_region_noPanic ?_
  refine wp_region_last (Sa w.heap.size q 16 n a b va vb (C.set 8 pn)) 16 (by kernel_rfl) ?_
  refine wpL_takeY 0 71 (cpV (C.set 8 pn)) [15] rfl rfl (by kernel_rfl) (by decide) (by kernel_rfl) (by kernel_rfl) (by kernel_rfl) (fun _ _ _ h => h) HS2.out (yieldsIf_load_mid (by rfl) 30 (.tmp 2) rfl w.heap.size 0 rfl (cpC (C.set 8 pn)) _ (fun W h => h.rng) Tryd.underlying30 rfl (cpC_info hC1)) ?_
  simp only [Act.put, List.setIfInBounds_toArray, List.set_cons_zero, List.set_cons_succ]
  refine wpL_take 1 72 (inV ⟨16, a, b, n⟩) [14, 15] rfl rfl (by kernel_rfl) (by decide) (by kernel_rfl) (by kernel_rfl) (by kernel_rfl) (fun _ _ _ h => h) HS2.out (by rfl) (fun W hW => by obtain ⟨⟨s0, s1, s2, s3, sa, sb⟩, _⟩ := hW; go_simp) ?_
  simp only [Act.put, List.setIfInBounds_toArray, List.set_cons_zero, List.set_cons_succ]
  refine wpL_take 2 73 (.pointer (some ⟨q, 1, none⟩)) [3, 5, 6, 7, 14, 15] rfl rfl (by kernel_rfl) (by decide) (by kernel_rfl) (by kernel_rfl) (by kernel_rfl) (fun _ _ _ h => h) HS2.out (by rfl) (fun W hW => by obtain ⟨⟨s0, s1, s2, s3, sa, sb⟩, _⟩ := hW; go_simp) ?_
  simp only [Act.put, List.setIfInBounds_toArray, List.set_cons_zero, List.set_cons_succ]
  refine wpL_take 3 74 (i64 a) [5, 6, 7, 14, 15] rfl rfl (by kernel_rfl) (by decide) (by kernel_rfl) (by kernel_rfl) (by kernel_rfl) (fun _ _ _ h => h) HS2.out (by rfl) (fun W hW => by obtain ⟨⟨s0, s1, s2, s3, sa, sb⟩, _⟩ := hW; go_simp) ?_
  simp only [Act.put, List.setIfInBounds_toArray, List.set_cons_zero, List.set_cons_succ]
  refine wpL_take 4 75 (.pointer (some ⟨w.heap.size, 0, none⟩)) [5, 6, 7, 14, 15] rfl rfl (by kernel_rfl) (by decide) (by kernel_rfl) (by kernel_rfl) (by kernel_rfl) (fun _ _ _ h => h) HS2.out (by rfl) (fun W hW => by obtain ⟨⟨s0, s1, s2, s3, sa, sb⟩, _⟩ := hW; go_simp) ?_
  simp only [Act.put, List.setIfInBounds_toArray, List.set_cons_zero, List.set_cons_succ]
  refine wpL_take 5 76 (.pointer (some ⟨w.heap.size, a, none⟩)) [6, 7, 14, 15] rfl rfl (by kernel_rfl) (by decide) (by kernel_rfl) (by kernel_rfl) (by kernel_rfl) (fun _ _ _ h => h) HS2.out (by rfl) (fun W hW => by obtain ⟨⟨s0, s1, s2, s3, sa, sb⟩, _⟩ := hW; go_simp) ?_
  simp only [Act.put, List.setIfInBounds_toArray, List.set_cons_zero, List.set_cons_succ]
  refine wpL_take 6 77 (u16 va) [7, 14, 15] rfl rfl (by kernel_rfl) (by decide) (by kernel_rfl) (by kernel_rfl) (by kernel_rfl) (fun _ _ _ h => h) HS2.out (by rfl) (fun W hW => by obtain ⟨⟨s0, s1, s2, s3, sa, sb⟩, _⟩ := hW; go_simp) ?_
  simp only [Act.put, List.setIfInBounds_toArray, List.set_cons_zero, List.set_cons_succ]
  refine wpL_take 7 78 (i64 va) [14, 15] rfl rfl (by kernel_rfl) (by decide) (by kernel_rfl) (by kernel_rfl) (by kernel_rfl) (fun _ _ _ h => h) HS2.out (by rfl) (fun W hW => by obtain ⟨⟨s0, s1, s2, s3, sa, sb⟩, _⟩ := hW; go_simp; exact wraps_i64 _ (by omega) (by omega)) ?_
  simp only [Act.put, List.setIfInBounds_toArray, List.set_cons_zero, List.set_cons_succ]
  refine wpL_take 8 79 (.pointer (some ⟨q, 2, none⟩)) [9, 11, 12, 13, 14, 15] rfl rfl (by kernel_rfl) (by decide) (by kernel_rfl) (by kernel_rfl) (by kernel_rfl) (fun _ _ _ h => h) HS2.out (by rfl) (fun W hW => by obtain ⟨⟨s0, s1, s2, s3, sa, sb⟩, _⟩ := hW; go_simp) ?_
  simp only [Act.put, List.setIfInBounds_toArray, List.set_cons_zero, List.set_cons_succ]
  refine wpL_take 9 80 (i64 b) [11, 12, 13, 14, 15] rfl rfl (by kernel_rfl) (by decide) (by kernel_rfl) (by kernel_rfl) (by kernel_rfl) (fun _ _ _ h => h) HS2.out (by rfl) (fun W hW => by obtain ⟨⟨s0, s1, s2, s3, sa, sb⟩, _⟩ := hW; go_simp) ?_
  simp only [Act.put, List.setIfInBounds_toArray, List.set_cons_zero, List.set_cons_succ]
  refine wpL_take 10 81 (.pointer (some ⟨w.heap.size, 0, none⟩)) [11, 12, 13, 14, 15] rfl rfl (by kernel_rfl) (by decide) (by kernel_rfl) (by kernel_rfl) (by kernel_rfl) (fun _ _ _ h => h) HS2.out (by rfl) (fun W hW => by obtain ⟨⟨s0, s1, s2, s3, sa, sb⟩, _⟩ := hW; go_simp) ?_
  simp only [Act.put, List.setIfInBounds_toArray, List.set_cons_zero, List.set_cons_succ]
  refine wpL_take 11 82 (.pointer (some ⟨w.heap.size, b, none⟩)) [12, 13, 14, 15] rfl rfl (by kernel_rfl) (by decide) (by kernel_rfl) (by kernel_rfl) (by kernel_rfl) (fun _ _ _ h => h) HS2.out (by rfl) (fun W hW => by obtain ⟨⟨s0, s1, s2, s3, sa, sb⟩, _⟩ := hW; go_simp) ?_
  simp only [Act.put, List.setIfInBounds_toArray, List.set_cons_zero, List.set_cons_succ]
  refine wpL_take 12 83 (u16 vb) [13, 14, 15] rfl rfl (by kernel_rfl) (by decide) (by kernel_rfl) (by kernel_rfl) (by kernel_rfl) (fun _ _ _ h => h) HS2.out (by rfl) (fun W hW => by obtain ⟨⟨s0, s1, s2, s3, sa, sb⟩, _⟩ := hW; go_simp) ?_
  simp only [Act.put, List.setIfInBounds_toArray, List.set_cons_zero, List.set_cons_succ]
  refine wpL_take 13 84 (i64 vb) [14, 15] rfl rfl (by kernel_rfl) (by decide) (by kernel_rfl) (by kernel_rfl) (by kernel_rfl) (fun _ _ _ h => h) HS2.out (by rfl) (fun W hW => by obtain ⟨⟨s0, s1, s2, s3, sa, sb⟩, _⟩ := hW; go_simp; exact wraps_i64 _ (by omega) (by omega)) ?_
  simp only [Act.put, List.setIfInBounds_toArray, List.set_cons_zero, List.set_cons_succ]
  refine wpL_one 14 rfl (by kernel_rfl) (by rfl) (fun K hK => ?_)
  go_simp
  refine (HR.out _).mono ?_
  rintro e w3 ⟨rfl, hb3⟩
  have HM3 : Hid (Mid2 w w3 (C.set 8 pn) q ⟨16, a, b, n⟩) := (HM2.out.below (W := V2.drew) ⟨rfl, rfl, rfl, Nat.le_refl _, fun _ _ => rfl⟩).below hb3
  have HS3 : Hid (Sa w.heap.size q 16 n a b va vb (C.set 8 pn) w3) := Sa.mid HM3.out hC1 (by omega) (by omega) HVA.out HVB.out
  clear hb3
  go_simp
  refine hK.out _ _ (fun _ => HS3.out) ?_
  clear hK K
  refine wpL_one 15 rfl (by kernel_rfl) (by rfl) (fun K hK => ?_)
  refine wp_store_mid 30 (.tmp 4) (.tmp 71) rfl (w.heap.size + 1) 0 (cpC (C.set 8 pn)).toArray rfl rfl (by exact fin_there (HM3.out.beg.r1.there Rg.zero) hC1) (cpC_infoA hC1) (cpC_one _) ?_
  refine hK.out _ _ (fun _ => HS3.out.store hq _) ?_
  clear hK K
  refine wpL_one 16 rfl (by kernel_rfl) (by rfl) (fun K hK => ?_)
  refine wp_store_mid 61 (.tmp 5) (.tmp 85) rfl (w.heap.size + 1 + 1) 0 (acC X).toArray rfl rfl (by exact World.there_setCells HM3.out.beg.r2.there _ _ _) info28 (by kernel_rfl) ?_
  refine hK.out _ _ (fun h => absurd rfl h) ?_
  clear hK K
  refine wpL_done (by kernel_rfl) ?_
  refine NoPanic.normal ?_
  have hF := HM3.out.beg.fin hC1 X
  obtain ⟨g1, g2⟩ := hF.results hC1
  go_wp2_with fail
  first
    | simp only [Exit.jump]
    | rw [Exit.noGoto_ret]
  exact bodyPost_ret (results_two rfl rfl g1 g2) rfl ⟨rfl, hF.bel⟩
end Go.Proofs.YtigbfdloodfdgaaDoor
