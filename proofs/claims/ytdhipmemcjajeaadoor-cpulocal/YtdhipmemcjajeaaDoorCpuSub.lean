/- The laws' example: its contract; no statement is proved in this text. -/
import Derived.Test.YtdhipmemcjajeaaDoorCpuW
namespace Go.Proofs.YtdhipmemcjajeaaDoor
open Go.ChangeShapes Go.WideShapes Go.ChangeAt Go.RowKit

theorem eql45 (x y z : Int) (w : World) : (Op.equalIn 10000 45 (.agg #[i64 x, i64 y, i64 z]) (.agg #[i64 x, i64 y, i64 z])).run Tryd.prog w = .ok true w := by
  obtain ⟨i, hi⟩ := info_of_underlying Tryd.underlying3
  have c3 : Tryd.prog.cellsOf 3 = 1 := by kernel_rfl
  have hq := eqInt3 9998
  have p0 : (part 3 #[i64 x, i64 y, i64 z] 0).run Tryd.prog w = .ok (i64 x) w := by kernel_rfl
  have p1 : (part 3 #[i64 x, i64 y, i64 z] 1).run Tryd.prog w = .ok (i64 y) w := by kernel_rfl
  have p2 : (part 3 #[i64 x, i64 y, i64 z] 2).run Tryd.prog w = .ok (i64 z) w := by kernel_rfl
  rw [run_equalIn_array w 9999 _ _ Tryd.underlying45 hi, c3]
  simp [Op.eqItems, List.range, List.range.loop, p0, p1, p2, hq]
set_option maxRecDepth 100000 in
set_option maxHeartbeats 1600000 in
theorem sub_core (w : World) (ht : Tab w) (B D : List Nat) (hB : Rg B) (hD : Rg D) (x : Nat)
    (h1 : ∀ w, Tab w → Calls Tryd.prog 9 #[cpV s0, .string ⟨#[4, 18]⟩] w fun e w' => e = .returned (stV B ⟨5, 0, 0, 0, 0, 0⟩) ∧ Below w.heap.size w w')
    (h2 : ∀ w, Tab w → Calls Tryd.prog 9 #[cpV B, .string ⟨#[4, 18, 20, 9]⟩] w fun e w' => e = .returned (stV D ⟨2, 9, 0, 0, 0, 0⟩) ∧ Below w.heap.size w w')
    (h3 : ∀ w, Calls Tryd.prog 14 #[cpV B] w fun e w' => e = .returned (.agg #[i64 x, i64 7, i64 0]) ∧ Below w.heap.size w w')
    (g1 : B.getD 1 0 = x) (g2 : B.getD 8 0 = 2) (g3 : D.getD 8 0 = 4) (hx : ((x : Int) == 65534) = true) : Calls Tryd.prog 8 #[] w fun e w' => e = .returned (.bool true) ∧ Below w.heap.size w w' := by
  have H1 : Hid (∀ w, Tab w → Calls Tryd.prog 9 #[cpV s0, .string ⟨#[4, 18]⟩] w fun e w' => e = .returned (stV B ⟨5, 0, 0, 0, 0, 0⟩) ∧ Below w.heap.size w w') := h1
  have H2 : Hid (∀ w, Tab w → Calls Tryd.prog 9 #[cpV B, .string ⟨#[4, 18, 20, 9]⟩] w fun e w' => e = .returned (stV D ⟨2, 9, 0, 0, 0, 0⟩) ∧ Below w.heap.size w w') := h2
  have H3 : Hid (∀ w, Calls Tryd.prog 14 #[cpV B] w fun e w' => e = .returned (.agg #[i64 x, i64 7, i64 0]) ∧ Below w.heap.size w w') := h3
  have HG : Hid (B.getD 1 0 = x ∧ B.getD 8 0 = 2 ∧ D.getD 8 0 = 4) := ⟨g1, g2, g3⟩
  have h45 : ∀ w, (Op.equalIn 10000 45 (.agg #[i64 x, i64 7, i64 0]) (.agg #[i64 65534, i64 7, i64 0])).run Tryd.prog w = .ok true w := fun w => by
    have e : (x : Int) = 65534 := by simpa using hx
    rw [e]
    exact eql45 65534 7 0 w
  clear h1 h2 h3 g1 g2 g3
  obtain ⟨n1, n2, n3⟩ := new_row w s0_rg
  have HN : Hid (Row ((w.alloc Z9).setCells w.heap.size 0 (cpC s0)) w.heap.size s0 ∧ Below w.heap.size w ((w.alloc Z9).setCells w.heap.size 0 (cpC s0)) ∧ (w.alloc Z9).there w.heap.size 0 (cpC s0).toArray.size) := ⟨n1, n2, n3⟩
  have HT : Hid (Tab w) := ht
  clear n1 n2 n3 ht
  go_enter Tryd.func8, Tryd.ntmps8
  go_upto_region 2 with (refine wpList_store_mid rfl 25 (.tmp 1) (.tmp 7) rfl w.heap.size 0 (cpC s0).toArray rfl rfl (by exact HN.out.2.2) (cpC_infoA s0_rg) (cpC_one _) ?_)
  have hr0 := HN.out.1
  have hb0 := HN.out.2.1
  generalize hV : (w.alloc Z9).setCells w.heap.size 0 (cpC s0) = V at *
  clear hV
  have HR0 : Hid (Row V w.heap.size s0) := hr0
  have HB0 : Hid (Below w.heap.size w V) := hb0
  have HT1 : Hid (Tab V) := HT.out.below hb0
  clear hr0 hb0 HN
  go_wp2_with (refine wpList_load_mid rfl 25 (.tmp 1) rfl w.heap.size 0 rfl (cpC s0) _ (by exact HR0.out.range) Tryd.underlying25 rfl (cpC_info s0_rg) ?_)
  refine (H1.out _ HT1.out).mono ?_
  rintro e w1 ⟨rfl, hb1⟩
  obtain ⟨m1, m2, m3, m4, m5⟩ := new_two w1 hB ⟨5, 0, 0, 0, 0, 0⟩
  have HM1 := hid m1
  have HM2 := hid m2
  have HM3 := hid m3
  have HM4 := hid m4
  have HM5 := hid m5
  have HB1 : Hid (Below w.heap.size w w1) := HB0.out.trans (hb1.mono HB0.out.size)
  clear m1 m2 m3 m4 m5 hb1 HR0 HB0 HT1
  go_upto_region 3 with (first
    | (refine wpList_store_mid rfl 25 (.tmp 2) (.tmp 11) rfl w1.heap.size 0 (cpC B).toArray rfl rfl (by exact HM1.out) (cpC_infoA hB) (cpC_one _) ?_)
    | (refine wpList_store_mid rfl 28 (.tmp 3) (.tmp 12) rfl (w1.heap.size + 1) 0 #[i64 5, i64 0, i64 0, i64 0, i64 0, i64 0] rfl rfl (by exact HM2.out) info28 (by kernel_rfl) ?_))
  have hr1 := HM3.out
  have ha1 := HM4.out
  have hb1 := HM5.out
  generalize (((w1.alloc Z9).alloc (Z6 28)).setCells w1.heap.size 0 (cpC B)).setCells (w1.heap.size + 1) 0 (acC ⟨5, 0, 0, 0, 0, 0⟩) = V1 at *
  have HR1 : Hid (Row V1 w1.heap.size B) := hr1
  have HA1 : Hid (Arow V1 (w1.heap.size + 1) ⟨5, 0, 0, 0, 0, 0⟩) := ha1
  have HB2 : Hid (Below w.heap.size w V1) := HB1.out.trans (hb1.mono HB1.out.size)
  have HT2 : Hid (Tab V1) := HT.out.below HB2.out
  clear hr1 ha1 hb1 HM1 HM2 HM3 HM4 HM5 HB1
  generalize w1.heap.size = p at *
  go_wp2_with (refine wpList_load_mid rfl 25 (.tmp 2) rfl p 0 rfl (cpC B) _ (by exact HR1.out.range) Tryd.underlying25 rfl (cpC_info hB) ?_)
  refine (H2.out _ HT2.out).mono ?_
  rintro e w2 ⟨rfl, hb2⟩
  obtain ⟨m1, m2, m3, m4, m5⟩ := new_two w2 hD ⟨2, 9, 0, 0, 0, 0⟩
  have HM1 := hid m1
  have HM2 := hid m2
  have HM3 := hid m3
  have HM4 := hid m4
  have HM5 := hid m5
  have HR2 : Hid (Row w2 p B) := HR1.out.below hb2
  have HA2 : Hid (Arow w2 (p + 1) ⟨5, 0, 0, 0, 0, 0⟩) := HA1.out.below hb2
  have HB3 : Hid (Below w.heap.size w w2) := HB2.out.trans (hb2.mono HB2.out.size)
  clear m1 m2 m3 m4 m5 hb2 HR1 HA1 HB2 HT2
  go_upto_region 4 with (first
    | (refine wpList_store_mid rfl 25 (.tmp 4) (.tmp 16) rfl w2.heap.size 0 (cpC D).toArray rfl rfl (by exact HM1.out) (cpC_infoA hD) (cpC_one _) ?_)
    | (refine wpList_store_mid rfl 28 (.tmp 5) (.tmp 17) rfl (w2.heap.size + 1) 0 #[i64 2, i64 9, i64 0, i64 0, i64 0, i64 0] rfl rfl (by exact HM2.out) info28 (by kernel_rfl) ?_))
  have hr2 := HM3.out
  have ha2 := HM4.out
  have hb2 := HM5.out
  generalize (((w2.alloc Z9).alloc (Z6 28)).setCells w2.heap.size 0 (cpC D)).setCells (w2.heap.size + 1) 0 (acC ⟨2, 9, 0, 0, 0, 0⟩) = V2 at *
  have HR3 : Hid (Row V2 p B) := HR2.out.below hb2
  have HA3 : Hid (Arow V2 (p + 1) ⟨5, 0, 0, 0, 0, 0⟩) := HA2.out.below hb2
  have HB4 : Hid (Below w.heap.size w V2) := HB3.out.trans (hb2.mono HB3.out.size)
  generalize w2.heap.size = q at *
  have HA4 := hid ha2
  have k1 := HR3.out.cell hB 1 (by omega)
  have k2 := HR3.out.cell hB 8 (by omega)
  rw [HG.out.1] at k1
  rw [HG.out.2.1] at k2
  have k3 : V2.cell? ⟨p + 1, 0, none⟩ = some (i64 5) := HA3.out.cell
  obtain ⟨l0, l1, l2, l3, l4, l5⟩ := HA4.out.cells
  have k4 := hr2.cell hD 8 (by omega)
  rw [HG.out.2.2] at k4
  have hq := fun w => eqlAct 28 (Or.inl rfl) ⟨2, 9, 0, 0, 0, 0⟩ ⟨2, 9, 0, 0, 0, 0⟩ w
  simp only [decide_true] at hq
  clear hr2 ha2 hb2 HM1 HM2 HM3 HM4 HM5 HB3 HR2 HA2
  go_wp2_with (first
    | (refine wpListG_load (by rfl) 25 (.tmp 2) rfl p 0 rfl (cpC B) _ (by exact HR3.out.range) Tryd.underlying25 rfl (cpC_info hB) ?_)
    | (go_at_call 14; refine (H3.out _).mono ?_; rintro e w3 ⟨rfl, hb3⟩; have HB5 := hid hb3; clear hb3))
  go_ret
  exact ⟨rfl, HB4.out.trans (HB5.out.mono HB4.out.size)⟩
theorem sub_ok (w : World) (ht : Tab w) : Calls Tryd.prog 8 #[] w fun e w' => e = .returned (.bool true) ∧ Below w.heap.size w w' :=
  sub_core w ht s1 s2 s1_rg s2_rg 65534
    (fun w ht => by
      have := step_ok w ht s0 s0_rg [4, 18] (Nat.le_trans (by simp) maxLen_ge)
      rw [s_one.1, s_one.2] at this
      exact this)
    (fun w ht => by
      have := step_ok w ht s1 s1_rg [4, 18, 20, 9] (Nat.le_trans (by simp) maxLen_ge)
      rw [s_two.1, s_two.2] at this
      exact this)
    (fun w => args_ok w s1 s1_rg 65534 7 0 rfl rfl rfl) rfl rfl rfl rfl
end Go.Proofs.YtdhipmemcjajeaaDoor
