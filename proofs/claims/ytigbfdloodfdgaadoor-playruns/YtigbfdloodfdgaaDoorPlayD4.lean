/- play's read: its contract; no statement is proved in this text. -/
import Derived.Test.YtigbfdloodfdgaaDoorPlayD3
import Derived.Test.YtigbfdloodfdgaaDoorCpuL
import Derived.Test.YtigbfdloodfdgaaDoorOrd
namespace Go.Proofs.YtigbfdloodfdgaaDoor
open Go.ChangeShapes Go.WideShapes Go.ChangeAt Go.RowKit

section
variable {P : Program} {ops : Array Oper} {Q : Exit → Act → World → Prop} {md : Region.Mode} {S : World → Prop} {z : Nat}
theorem wpL_two (i j : Nat) {oi oj : Oper} {fuel : Nat} {listed : Array Bool} {a : Act} {w : World} (hi : ops[i]? = some oi) (hj : ops[j]? = some oj) (hr : Region.ready md ops listed = [i, j]) (hwi : Region.wanted oi (yielded ops a.tmps) = true) (hwj : Region.wanted oj (yielded ops a.tmps) = true)
    (h1 : ∀ K' : Act → World → Prop, Shut (∀ a w, (i ≠ z → S w) → wpL P md ops Q S z fuel (listed.setIfInBounds i true) a w → K' a w) → Oper.wp P oi a w K' Q)
    (h2 : ∀ K' : Act → World → Prop, Shut (∀ a w, (j ≠ z → S w) → wpL P md ops Q S z fuel (listed.setIfInBounds j true) a w → K' a w) → Oper.wp P oj a w K' Q) : wpL P md ops Q S z (fuel + 1) listed a w := fun hc =>
  ⟨fun h0 => (by rw [hr] at h0; cases h0), fun k hk => by
    have hk' := hk
    rw [hr] at hk
    rcases List.mem_cons.1 hk with rfl | hk
    · refine wpOp_step hi fun K' hK => ?_
      rw [if_pos hwi]
      exact h1 K' (fun a w hS hL => hK a w ⟨hS, hL (hc.step hk')⟩)
    · obtain rfl := List.mem_singleton.1 hk
      refine wpOp_step hj fun K' hK => ?_
      rw [if_pos hwj]
      exact h2 K' (fun a w hS hL => hK a w ⟨hS, hL (hc.step hk')⟩)⟩
end
theorem exec_load {P : Program} {op : Oper} {a : Act} {w : World} {ad : Addr} {u : Value} (ty : TypeId) (x : Operand) (ho : op.op = .load ty x) (hx : a.eval x = .pointer (some ad)) (h : (loadVar ty ad).run P w = .ok u w) : (execOp a.eval op).run P w = .ok (.value u) w := by
  unfold execOp
  simp only [ho, hx, Instr.loadAt, Instr.sureAddr, Sem.run_bind, Sem.run_pure, Result.andThen_ok, h]
/-- What read finds. -/
structure SqR (b q R : Nat) (D : List Nat) (r ad sz : Nat) (W : World) : Prop where
  s0 : W.cell? ⟨q, 0, none⟩ = some (.pointer (some ⟨R, 0, none⟩))
  s2 : W.cell? ⟨b + 1, 2, none⟩ = some (i64 r)
  s3 : W.cell? ⟨b + 1, 3, none⟩ = some (i64 ad)
  s4 : W.cell? ⟨b + 1, 4, none⟩ = some (i64 sz)
  sl : (loadVar 30 ⟨b, 0, none⟩).run Tryd.prog W = .ok (cpV D) W
theorem SqR.of {W : World} {b q R : Nat} {D : List Nat} {k n v : Int} {r ad sz : Nat} (h0 : W.cell? ⟨q, 0, none⟩ = some (.pointer (some ⟨R, 0, none⟩))) (hr : Row W b D) (hD : Rg D) (ha : W.heap[b + 1]? = some (.cells #[i64 k, i64 n, i64 r, i64 ad, i64 sz, i64 v] 61 (0, 0))) : SqR b q R D r ad sz W :=
  ⟨h0, by rw [cell_of_row _ _ _ _ 61 (0, 0) ha]; rfl, by rw [cell_of_row _ _ _ _ 61 (0, 0) ha]; rfl, by rw [cell_of_row _ _ _ _ 61 (0, 0) ha]; rfl, run_loadVar_mid _ _ 0 30 _ _ hr.range Tryd.underlying30 rfl (cpC_info hD)⟩
set_option maxRecDepth 100000 in
set_option maxHeartbeats 3200000 in
theorem read_ok (w : World) (R q : Nat) (C D : List Nat) (M : List UInt8) (va vc : Value) (n v : Int) (r ad sz : Nat) (k : Int) (hs : sz = 1 ∨ sz = 2) (ha : ad + sz ≤ 256) (h8 : r < 8) (hD : Rg D) (hr : RunAt w R C M va vc) (hq : w.cell? ⟨q, 0, none⟩ = some (.pointer (some ⟨R, 0, none⟩))) (hqR : q ≠ R) :
    Calls Tryd.prog 23 #[cpV D, acV ⟨k, n, r, ad, sz, v⟩, .pointer (some ⟨q, 0, none⟩)] w fun e w' => e = .returned (i64 0) ∧ RunAt w' R (D.set r (memN M ad sz)) M va vc ∧ Fr w.heap.size R w w' := by
  obtain ⟨b1, b2, b3⟩ := two_boxes w D ⟨k, n, r, ad, sz, v⟩
  have hlq := lt_of_cell hq
  have hq2 := (b3.cell (p := ⟨q, 0, none⟩) hlq).trans hq
  have hr2 := hr.below b3
  have hlR := hr.lt
  have hm := memN_lt M ad sz
  have hD2 : Rg (D.set r (memN M ad sz)) := hD.set _ _ hm
  have HB1 := hid b1
  have HB2 := hid b2
  have HB3 := hid b3
  have HR2 := hid hr2
  have HQ2 := hid hq2
  clear hq hr b2 b3 hr2 b1 hq2
  go_enter Tryd.func23, Tryd.ntmps23
  go_upto_region 1 with fail
  generalize (w.alloc (.cells (cpC D).toArray 30)).alloc (.cells #[i64 k, i64 n, i64 r, i64 ad, i64 sz, i64 v] 61) = V at *
  have HS : Hid (SqR w.heap.size q R D r ad sz V.drew) := SqR.of HQ2.out ⟨HB1.out.row⟩ hD HB2.out
  refine wp_region_noPanic ?_
  refine wp_region_last (SqR w.heap.size q R D r ad sz) 16 (by kernel_rfl) ?_
  refine wpL_take 0 7 (.pointer (some ⟨R, 0, none⟩)) [14, 15] rfl rfl (by kernel_rfl) (by decide) (by kernel_rfl) (by kernel_rfl) (by kernel_rfl) (fun _ _ _ h => h) HS.out (by rfl) (fun W hW => by obtain ⟨s0, s2, s3, s4, sl⟩ := hW; go_simp) ?_
  simp only [Act.put, List.setIfInBounds_toArray, List.set_cons_zero, List.set_cons_succ]
  refine wpL_take 1 8 (cpV D) [10] rfl rfl (by kernel_rfl) (by decide) (by kernel_rfl) (by kernel_rfl) (by kernel_rfl) (fun _ _ _ h => h) HS.out (by rfl) (fun W hW => by exact exec_load 30 (.tmp 3) rfl rfl hW.sl) ?_
  simp only [Act.put, List.setIfInBounds_toArray, List.set_cons_zero, List.set_cons_succ]
  refine wpL_take 2 9 (.pointer (some ⟨w.heap.size + 1, 2, none⟩)) [3, 10] rfl rfl (by kernel_rfl) (by decide) (by kernel_rfl) (by kernel_rfl) (by kernel_rfl) (fun _ _ _ h => h) HS.out (by rfl) (fun W hW => by obtain ⟨s0, s2, s3, s4, sl⟩ := hW; go_simp) ?_
  simp only [Act.put, List.setIfInBounds_toArray, List.set_cons_zero, List.set_cons_succ]
  refine wpL_take 3 10 (i64 r) [10] rfl rfl (by kernel_rfl) (by decide) (by kernel_rfl) (by kernel_rfl) (by kernel_rfl) (fun _ _ _ h => h) HS.out (by rfl) (fun W hW => by obtain ⟨s0, s2, s3, s4, sl⟩ := hW; go_simp) ?_
  simp only [Act.put, List.setIfInBounds_toArray, List.set_cons_zero, List.set_cons_succ]
  refine wpL_take 4 11 (.pointer (some ⟨R, 0, none⟩)) [9] rfl rfl (by kernel_rfl) (by decide) (by kernel_rfl) (by kernel_rfl) (by kernel_rfl) (fun _ _ _ h => h) HS.out (by rfl) (fun W hW => by obtain ⟨s0, s2, s3, s4, sl⟩ := hW; go_simp) ?_
  simp only [Act.put, List.setIfInBounds_toArray, List.set_cons_zero, List.set_cons_succ]
  refine wpL_take 5 12 (.pointer (some ⟨w.heap.size + 1, 3, none⟩)) [6, 9] rfl rfl (by kernel_rfl) (by decide) (by kernel_rfl) (by kernel_rfl) (by kernel_rfl) (fun _ _ _ h => h) HS.out (by rfl) (fun W hW => by obtain ⟨s0, s2, s3, s4, sl⟩ := hW; go_simp) ?_
  simp only [Act.put, List.setIfInBounds_toArray, List.set_cons_zero, List.set_cons_succ]
  refine wpL_take 6 13 (i64 ad) [9] rfl rfl (by kernel_rfl) (by decide) (by kernel_rfl) (by kernel_rfl) (by kernel_rfl) (fun _ _ _ h => h) HS.out (by rfl) (fun W hW => by obtain ⟨s0, s2, s3, s4, sl⟩ := hW; go_simp) ?_
  simp only [Act.put, List.setIfInBounds_toArray, List.set_cons_zero, List.set_cons_succ]
  refine wpL_take 7 14 (.pointer (some ⟨w.heap.size + 1, 4, none⟩)) [8, 9] rfl rfl (by kernel_rfl) (by decide) (by kernel_rfl) (by kernel_rfl) (by kernel_rfl) (fun _ _ _ h => h) HS.out (by rfl) (fun W hW => by obtain ⟨s0, s2, s3, s4, sl⟩ := hW; go_simp) ?_
  simp only [Act.put, List.setIfInBounds_toArray, List.set_cons_zero, List.set_cons_succ]
  refine wpL_take 8 15 (i64 sz) [9] rfl rfl (by kernel_rfl) (by decide) (by kernel_rfl) (by kernel_rfl) (by kernel_rfl) (fun _ _ _ h => h) HS.out (by rfl) (fun W hW => by obtain ⟨s0, s2, s3, s4, sl⟩ := hW; go_simp) ?_
  simp only [Act.put, List.setIfInBounds_toArray, List.set_cons_zero, List.set_cons_succ]
  refine wpL_one 9 rfl (by kernel_rfl) (by rfl) (fun K hK => ?_)
  go_simp
  refine (number_ok _ R C M va vc HR2.out.drew ad sz hs ha).mono ?_
  rintro e w3 ⟨rfl, rfl⟩
  go_simp
  refine hK.out _ _ (fun _ => HS.out) ?_
  clear hK K
  refine wpL_one 10 rfl (by kernel_rfl) (by rfl) (fun K hK => ?_)
  go_simp
  refine (loaded_ok _ D hD r (memN M ad sz) h8 hm).mono ?_
  rintro e w3 ⟨rfl, hb3⟩
  have hq3 := (hb3.cell (p := ⟨q, 0, none⟩) (lt_of_cell HS.out.s0)).trans HS.out.s0
  have hr3 := (show Row V.drew w.heap.size D from ⟨HB1.out.row⟩).below hb3
  have ha3 := (hb3.block _ (lt_of_cell HS.out.s2)).trans HB2.out
  have HS3 : Hid (SqR w.heap.size q R D r ad sz w3) := SqR.of hq3 hr3 hD ha3
  have HR3 := hid (HR2.out.drew.below hb3)
  have HF3 : Hid (Below w.heap.size w w3) := HB3.out.trans (Below.trans (show Below w.heap.size V V.drew from ⟨rfl, rfl, rfl, Nat.le_refl _, fun _ _ => rfl⟩) (hb3.mono HB3.out.size))
  have HW3 := hid hr3
  have HA3 := hid ha3
  clear hq3 hr3 ha3 hb3
  go_simp
  refine hK.out _ _ (fun _ => HS3.out) ?_
  clear hK K
  refine wpL_one 11 rfl (by kernel_rfl) (by rfl) (fun K hK => ?_)
  go_simp
  refine hK.out _ _ (fun _ => HS3.out) ?_
  clear hK K
  refine wpL_take 12 18 (cpV (D.set r (memN M ad sz))) [] rfl rfl (by kernel_rfl) (by decide) (by kernel_rfl) (by kernel_rfl) (by kernel_rfl) (fun _ _ _ h => h) HS3.out (by rfl) (fun W hW => by obtain ⟨s0, s2, s3, s4, sl⟩ := hW; go_simp) ?_
  simp only [Act.put, List.setIfInBounds_toArray, List.set_cons_zero, List.set_cons_succ]
  refine wpL_take 14 20 (.pointer (some ⟨R, 0, none⟩)) [15] rfl rfl (by kernel_rfl) (by decide) (by kernel_rfl) (by kernel_rfl) (by kernel_rfl) (fun _ _ _ h => h) HS3.out (by rfl) (fun W hW => by obtain ⟨s0, s2, s3, s4, sl⟩ := hW; go_simp) ?_
  simp only [Act.put, List.setIfInBounds_toArray, List.set_cons_zero, List.set_cons_succ]
  refine wpL_take 15 21 (.pointer (some ⟨R, 0, none⟩)) [] rfl rfl (by kernel_rfl) (by decide) (by kernel_rfl) (by kernel_rfl) (by kernel_rfl) (fun _ _ _ h => h) HS3.out (by rfl) (fun W hW => by obtain ⟨s0, s2, s3, s4, sl⟩ := hW; go_simp) ?_
  simp only [Act.put, List.setIfInBounds_toArray, List.set_cons_zero, List.set_cons_succ]
  have HTH := hid (there9 HR3.out.there hD2)
  refine wpL_two 13 16 rfl rfl (by kernel_rfl) (by rfl) (by rfl) (fun K hK => ?_) (fun K hK => ?_)
  · go_simp
    refine hK.out _ _ (fun _ => HS3.out) ?_
    clear hK K
    refine wpL_one 16 rfl (by kernel_rfl) (by rfl) (fun K hK => ?_)
    refine wp_store_mid 30 (.tmp 21) (.tmp 18) rfl R 0 (cpC (D.set r (memN M ad sz))).toArray rfl rfl (by exact HTH.out) (cpC_infoA hD2) (cpC_one _) ?_
    refine hK.out _ _ (fun h => absurd rfl h) ?_
    clear hK K
    refine wpL_done (by kernel_rfl) ?_
    refine NoPanic.normal ?_
    go_wp2_with fail
    go_ret
    exact ⟨rfl, HR3.out.cpu hD2, Fr.setCells _ 0 _ (Fr.of_below HF3.out)⟩
  · refine wp_store_mid 30 (.tmp 21) (.tmp 18) rfl R 0 (cpC (D.set r (memN M ad sz))).toArray rfl rfl (by exact HTH.out) (cpC_infoA hD2) (cpC_one _) ?_
    refine hK.out _ _ (fun h => absurd rfl h) ?_
    clear hK K
    refine wpL_one 13 rfl (by kernel_rfl) (by rfl) (fun K hK => ?_)
    go_simp
    refine hK.out _ _ (fun _ => ?_) ?_
    · exact SqR.of (by rw [World.cell?_setCells_out R _ 0 _ ⟨q, 0, none⟩ (fun hb => absurd hb hqR)]; exact HS3.out.s0) ⟨by rw [heap_sc_ne _ _ (by omega)]; exact HW3.out.row⟩ hD (by rw [heap_sc_ne _ _ (by omega)]; exact HA3.out)
    clear hK K
    refine wpL_done (by kernel_rfl) ?_
    refine NoPanic.normal ?_
    go_wp2_with fail
    go_ret
    exact ⟨rfl, HR3.out.cpu hD2, Fr.setCells _ 0 _ (Fr.of_below HF3.out)⟩
end Go.Proofs.YtigbfdloodfdgaaDoor
