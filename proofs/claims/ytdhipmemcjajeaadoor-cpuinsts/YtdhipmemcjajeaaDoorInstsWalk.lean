/- CpuInsts' walk: each instruction alone is as the document's; no statement is proved in this text. -/
import Derived.Test.YtdhipmemcjajeaaDoorStepsWalk
namespace Go.Proofs.YtdhipmemcjajeaaDoor
open Go.ChangeShapes Go.WideShapes Go.ChangeAt Go.RowKit

set_option maxHeartbeats 800000 in
theorem insts_no (W : World) (D : List Nat) (i : In) (ht : Tab W) (s : ByteArray) (er : Int) (h1 : ∀ w, Tab w → Calls Tryd.prog 12 #[inV i] w fun e w' => e = .returned (.tuple #[.string s, i64 er]) ∧ Below w.heap.size w w') (he : er ≠ 0) : Calls Tryd.prog 4 #[cpV D, inV i] W fun e w' => e = .returned (.bool true) ∧ Below W.heap.size W w' := by
  obtain ⟨op, A, B, n⟩ := i
  have hen : (er != 0) = true := by simpa using he
  have HT : Hid (Tab W) := ht
  have H1 : Hid (∀ w, Tab w → Calls Tryd.prog 12 #[inV ⟨op, A, B, n⟩] w fun e w' => e = .returned (.tuple #[.string s, i64 er]) ∧ Below w.heap.size w w') := h1
  clear ht h1 he
  go_enter Tryd.func4, Tryd.ntmps4
  go_wp2_with fail
  refine (H1.out _ ((HT.out.alloc _).alloc _)).mono ?_
  rintro e w1 ⟨rfl, hb1⟩
  have HB : Hid (Below W.heap.size W w1) := ((below_one W _).alloc (by simp) _).trans (hb1.mono (by simp; omega))
  clear hb1
  go_wp2_with fail
  refine (sub_ok _ (HT.out.below HB.out)).mono ?_
  rintro e w2 ⟨rfl, hb2⟩
  have HB2 : Hid (Below W.heap.size W w2) := HB.out.trans (hb2.mono HB.out.size)
  clear hb2
  go_wp2_with fail
  go_ret
  exact ⟨rfl, HB2.out⟩
set_option maxRecDepth 100000 in
set_option maxHeartbeats 1600000 in
theorem insts_walk (W : World) (D C C1 : List Nat) (x : Ac) (hD : Rg D) (hC : Rg C) (hDC : D.set 8 0 = C) (hC1 : Rg C1) (i : In) (s : ByteArray) (ht : Tab W)
    (h0 : ∀ w, Tab w → Calls Tryd.prog 12 #[inV i] w fun e w' => e = .returned (.tuple #[.string s, i64 0]) ∧ Below w.heap.size w w')
    (h1 : ∀ w, Tab w → Calls Tryd.prog 9 #[cpV C, .string s] w fun e w' => e = .returned (stV C1 x) ∧ Below w.heap.size w w')
    (h2 : ∀ w, Calls Tryd.prog 10 #[cpV C, .string s] w fun e w' => e = .returned (dnV C1 x) ∧ Below w.heap.size w w') :
    Calls Tryd.prog 4 #[cpV D, inV i] W fun e w' => e = .returned (.bool true) ∧ Below W.heap.size W w' := by
  obtain ⟨op, A, B, n⟩ := i
  have HT : Hid (Tab W) := ht
  have H0 : Hid (∀ w, Tab w → Calls Tryd.prog 12 #[inV ⟨op, A, B, n⟩] w fun e w' => e = .returned (.tuple #[.string s, i64 0]) ∧ Below w.heap.size w w') := h0
  have H1 : Hid (∀ w, Tab w → Calls Tryd.prog 9 #[cpV C, .string s] w fun e w' => e = .returned (stV C1 x) ∧ Below w.heap.size w w') := h1
  have H2 : Hid (∀ w, Calls Tryd.prog 10 #[cpV C, .string s] w fun e w' => e = .returned (dnV C1 x) ∧ Below w.heap.size w w') := h2
  have HDC : Hid (D.set 8 0 = C) := hDC
  clear ht h0 h1 h2 hDC
  go_enter Tryd.func4, Tryd.ntmps4
  go_wp2_with fail
  refine (H0.out _ ((HT.out.alloc _).alloc _)).mono ?_
  rintro e w0 ⟨rfl, hb0⟩
  have hr0 : Row w0 W.heap.size D := Row.below (V := (W.alloc (.cells (cpC D).toArray 25)).alloc (.cells #[i64 op, i64 A, i64 B, i64 n] 38)) ⟨by rw [Below.heap_alloc _ _ _ (by simp)]; exact heap_at rfl _⟩ hb0
  have hbb : Below W.heap.size W w0 := ((below_one W _).alloc (by simp) _).trans (hb0.mono (by simp; omega))
  have c8 := hr0.cell hD 8 (by omega)
  have f8 := hr0.free 8
  have hrs : Row (w0.setCell ⟨W.heap.size, 8, none⟩ (u16 (0 : Nat))) W.heap.size C := by have := hr0.set 8 0; rw [HDC.out] at this; exact this
  have hbs : Below W.heap.size W (w0.setCell ⟨W.heap.size, 8, none⟩ (u16 (0 : Nat))) := hbb.setCell (by simp) _
  have HRS := hid hrs
  have HBS := hid hbs
  clear hb0 hr0 hrs hbs hbb
  go_upto_region 5 with fail
  have hr0 := HRS.out
  have hb0 := HBS.out
  rw [show ((0 : Nat) : Int) = 0 from rfl] at hr0 hb0
  generalize w0.setCell ⟨W.heap.size, 8, none⟩ (u16 0) = V at *
  have HR0 := hid hr0
  have HB0 := hid hb0
  have HTV : Hid (Tab V) := HT.out.below hb0
  clear hr0 hb0 HRS HBS c8 f8
  go_wp2_with (refine wpList_load_mid rfl 25 (.tmp 2) rfl W.heap.size 0 rfl (cpC C) _ (by exact HR0.out.range) Tryd.underlying25 rfl (cpC_info hC) ?_)
  refine (H1.out _ HTV.out).mono ?_
  rintro e w1 ⟨rfl, hb1⟩
  obtain ⟨m1, m2, m3, m4, m5⟩ := new_two w1 hC1 x
  have HM1 := hid m1
  have HM2 := hid m2
  have HM3 := hid m3
  have HM4 := hid m4
  have HM5 := hid m5
  have HR1 : Hid (Row w1 W.heap.size C) := HR0.out.below hb1
  have HB1 : Hid (Below W.heap.size W w1) := HB0.out.trans (hb1.mono HB0.out.size)
  clear m1 m2 m3 m4 m5 hb1 HR0 HB0 HTV
  go_upto_region 6 with (first
    | (refine wpList_store_mid rfl 25 (.tmp 7) (.tmp 23) rfl w1.heap.size 0 (cpC C1).toArray rfl rfl (by exact HM1.out) (cpC_infoA hC1) (cpC_one _) ?_)
    | (refine wpList_store_mid rfl 28 (.tmp 8) (.tmp 24) rfl (w1.heap.size + 1) 0 (acC x).toArray rfl rfl (by exact HM2.out) info28 (by kernel_rfl) ?_))
  have hr1 := HM3.out
  have ha1 := HM4.out
  have hb1 := HM5.out
  generalize (((w1.alloc Z9).alloc (Z6 28)).setCells w1.heap.size 0 (cpC C1)).setCells (w1.heap.size + 1) 0 (acC x) = V1 at *
  have HR2 : Hid (Row V1 W.heap.size C) := HR1.out.below hb1
  have HR3 : Hid (Row V1 w1.heap.size C1) := hr1
  have HA3 : Hid (Arow V1 (w1.heap.size + 1) x) := ha1
  have HB2 : Hid (Below W.heap.size W V1) := HB1.out.trans (hb1.mono HB1.out.size)
  clear hr1 ha1 hb1 HM1 HM2 HM3 HM4 HM5 HR1 HB1
  generalize w1.heap.size = p at *
  go_wp2_with (refine wpList_load_mid rfl 25 (.tmp 2) rfl W.heap.size 0 rfl (cpC C) _ (by exact HR2.out.range) Tryd.underlying25 rfl (cpC_info hC) ?_)
  refine (H2.out _).mono ?_
  rintro e w2 ⟨rfl, hb2⟩
  obtain ⟨d1, d2, d3, d4⟩ := new_done w2 hC1 x
  have HD1 := hid d1
  have HD2 := hid d2
  have HD3 := hid d3
  have HD4 := hid d4
  have HR4 : Hid (Row w2 p C1) := HR3.out.below hb2
  have HA4 : Hid (Arow w2 (p + 1) x) := HA3.out.below hb2
  have HB3 : Hid (Below W.heap.size W w2) := HB2.out.trans (hb2.mono HB2.out.size)
  clear d1 d2 d3 d4 hb2 HR2 HR3 HA3 HB2
  go_upto_region 7 with (refine wpList_store_mid rfl 33 (.tmp 9) (.tmp 27) rfl w2.heap.size 0 (dnC C1 x).toArray rfl rfl (by exact HD1.out) (dnC_infoA hC1 x) (dnC_one _ _) ?_)
  have g2 := HD2.out
  have g3 := HD3.out
  have g4 := HD4.out
  have gl : w2.heap.size < ((w2.alloc Z15).setCells w2.heap.size 0 (dnC C1 x)).heap.size := by rw [setCells_size]; simp
  generalize (w2.alloc Z15).setCells w2.heap.size 0 (dnC C1 x) = V2 at *
  have HP : Hid (Pair p (p + 1) w2.heap.size C1 x V2.drew) := ⟨(HR4.out.below g4).range, (HA4.out.below g4).range, g2, g3⟩
  have HL : Hid (p < V2.heap.size ∧ p + 1 < V2.heap.size ∧ w2.heap.size < V2.heap.size) := ⟨(HR4.out.below g4).lt, (HA4.out.below g4).lt, gl⟩
  have HB4 : Hid (Below W.heap.size W V2) := HB3.out.trans (g4.mono HB3.out.size)
  clear g2 g3 g4 gl HD1 HD2 HD3 HD4 HR4 HA4 HB3
  generalize w2.heap.size = q at *
  refine wp_region_noPanic ?_
  refine wp_region_last (Pair p (p + 1) q C1 x) 14 (by kernel_rfl) ?_
  refine wpL_takeY 0 28 (cpV C1) [3, 4, 10, 11, 13] rfl rfl (by kernel_rfl) (by decide) (by kernel_rfl) (by kernel_rfl) (by kernel_rfl) (fun _ _ _ h => h) HP.out (yieldsIf_load_mid (by rfl) 25 (.tmp 7) rfl p 0 rfl (cpC C1) _ (fun W h => h.p5) Tryd.underlying25 rfl (cpC_info hC1)) ?_
  simp only [Act.put, List.setIfInBounds_toArray, List.set_cons_zero, List.set_cons_succ]
  refine wpL_take 1 29 (.pointer (some ⟨q, 0, none⟩)) [2, 3, 4, 10, 11, 13] rfl rfl (by kernel_rfl) (by decide) (by kernel_rfl) (by kernel_rfl) (by kernel_rfl) (fun _ _ _ h => h) HP.out (by rfl) (fun W hW => by clear hW; go_simp) ?_
  simp only [Act.put, List.setIfInBounds_toArray, List.set_cons_zero, List.set_cons_succ]
  refine wpL_takeY 2 30 (cpV C1) [3, 4, 10, 11, 13] rfl rfl (by kernel_rfl) (by decide) (by kernel_rfl) (by kernel_rfl) (by kernel_rfl) (fun _ _ _ h => h) HP.out (yieldsIf_load_mid (by rfl) 25 (.tmp 29) rfl q 0 rfl (cpC C1) _ (fun W h => h.p7) Tryd.underlying25 rfl (cpC_info hC1)) ?_
  simp only [Act.put, List.setIfInBounds_toArray, List.set_cons_zero, List.set_cons_succ]
  refine wpL_takeY 3 31 (.bool true) [4, 10, 11, 13] rfl rfl (by kernel_rfl) (by decide) (by kernel_rfl) (by kernel_rfl) (by kernel_rfl) (fun _ _ _ h => h) HP.out (yields_eql (cpC C1).toArray (cpC C1).toArray (by rfl) rfl (by kernel_rfl) rfl rfl (fun w => by rw [eql25 hC1.len hC1.len, decide_eq_true rfl])) ?_
  simp only [Act.put, List.setIfInBounds_toArray, List.set_cons_zero, List.set_cons_succ]
  refine wpL_take 4 32 (.bool true) [10, 11, 13] rfl rfl (by kernel_rfl) (by decide) (by kernel_rfl) (by kernel_rfl) (by kernel_rfl) (fun _ _ _ h => h) HP.out (by rfl) (fun W hW => by clear hW; go_simp) ?_
  simp only [Act.put, List.setIfInBounds_toArray, List.set_cons_zero, List.set_cons_succ]
  refine wpL_takeY 5 33 (acV x) [6, 9, 10, 11, 13] rfl rfl (by kernel_rfl) (by decide) (by kernel_rfl) (by kernel_rfl) (by kernel_rfl) (fun _ _ _ h => h) HP.out (yieldsIf_load_mid (by rfl) 28 (.tmp 8) rfl (p + 1) 0 rfl (acC x) _ (fun W h => h.p6) Tryd.underlying28 rfl (acC_info28 x)) ?_
  simp only [Act.put, List.setIfInBounds_toArray, List.set_cons_zero, List.set_cons_succ]
  refine wpL_take 7 35 (.pointer (some ⟨q, 9, none⟩)) [8, 9, 10, 11, 13] rfl rfl (by kernel_rfl) (by decide) (by kernel_rfl) (by kernel_rfl) (by kernel_rfl) (fun _ _ _ h => h) HP.out (by rfl) (fun W hW => by clear hW; go_simp) ?_
  simp only [Act.put, List.setIfInBounds_toArray, List.set_cons_zero, List.set_cons_succ]
  refine wpL_takeY 8 36 (acV x) [9, 10, 11, 13] rfl rfl (by kernel_rfl) (by decide) (by kernel_rfl) (by kernel_rfl) (by kernel_rfl) (fun _ _ _ h => h) HP.out (yieldsIf_load_mid (by rfl) 31 (.tmp 35) rfl q 9 rfl (acC x) _ (fun W h => h.p8) Tryd.underlying31 rfl (acC_info31 x)) ?_
  simp only [Act.put, List.setIfInBounds_toArray, List.set_cons_zero, List.set_cons_succ]
  refine wpL_one 6 rfl (by kernel_rfl) (by rfl) (fun K hK => ?_)
  go_simp
  refine (refA_ok _ x).mono ?_
  rintro e w3 ⟨rfl, hb3⟩
  have HP3 : Hid (Pair p (p + 1) q C1 x w3) := HP.out.below HL.out.1 HL.out.2.1 HL.out.2.2 hb3
  have HB5 : Hid (Below W.heap.size W w3) := (HB4.out.trans (c := V2.drew) ⟨rfl, rfl, rfl, Nat.le_refl _, fun _ _ => rfl⟩).trans (hb3.mono HB4.out.size)
  have HZ3 : Hid (V2.heap.size ≤ w3.heap.size) := hb3.size
  clear hb3
  go_simp
  refine hK.out _ _ (fun _ => HP3.out) ?_
  clear hK K
  refine wpL_takeY 9 37 (.bool true) [10, 11, 13] rfl rfl (by kernel_rfl) (by decide) (by kernel_rfl) (by kernel_rfl) (by kernel_rfl) (fun _ _ _ h => h) HP3.out (yields_eql (acC x).toArray (acC x).toArray (by rfl) rfl (by kernel_rfl) rfl rfl (fun w => by rw [eqlAct 31 (Or.inr rfl), decide_eq_true rfl])) ?_
  simp only [Act.put, List.setIfInBounds_toArray, List.set_cons_zero, List.set_cons_succ]
  refine wpL_take 10 38 (.bool true) [11, 13] rfl rfl (by kernel_rfl) (by decide) (by kernel_rfl) (by kernel_rfl) (by kernel_rfl) (fun _ _ _ h => h) HP3.out (by rfl) (fun W hW => by clear hW; go_simp) ?_
  simp only [Act.put, List.setIfInBounds_toArray, List.set_cons_zero, List.set_cons_succ]
  refine wpL_take 11 39 (.bool true) [13] rfl rfl (by kernel_rfl) (by decide) (by kernel_rfl) (by kernel_rfl) (by kernel_rfl) (fun _ _ _ h => h) HP3.out (by rfl) (fun W hW => by clear hW; go_simp) ?_
  simp only [Act.put, List.setIfInBounds_toArray, List.set_cons_zero, List.set_cons_succ]
  refine wpL_one 12 rfl (by kernel_rfl) (by rfl) (fun K hK => ?_)
  go_simp
  refine (sub_ok _ (HT.out.below HB5.out)).mono ?_
  rintro e w4 ⟨rfl, hb4⟩
  have HB6 : Hid (Below W.heap.size W w4) := HB5.out.trans (hb4.mono HB5.out.size)
  have HW3 := hid hb4
  clear hb4
  go_simp
  refine hK.out _ _ (fun _ => HP3.out.below (Nat.lt_of_lt_of_le HL.out.1 HZ3.out) (Nat.lt_of_lt_of_le HL.out.2.1 HZ3.out) (Nat.lt_of_lt_of_le HL.out.2.2 HZ3.out) HW3.out) ?_
  clear hK K
  have HP4 : Hid (Pair p (p + 1) q C1 x w4) := HP3.out.below (Nat.lt_of_lt_of_le HL.out.1 HZ3.out) (Nat.lt_of_lt_of_le HL.out.2.1 HZ3.out) (Nat.lt_of_lt_of_le HL.out.2.2 HZ3.out) HW3.out
  refine wpL_take 13 41 (.bool true) [] rfl rfl (by kernel_rfl) (by decide) (by kernel_rfl) (by kernel_rfl) (by kernel_rfl) (fun _ _ _ h => h) HP4.out (by rfl) (fun W hW => by clear hW; go_simp) ?_
  simp only [Act.put, List.setIfInBounds_toArray, List.set_cons_zero, List.set_cons_succ]
  refine wpL_one 14 rfl (by kernel_rfl) (by rfl) (fun K hK => ?_)
  go_simp
  refine hK.out _ _ (fun h => absurd rfl h) ?_
  clear hK K
  refine wpL_done (by kernel_rfl) ?_
  refine NoPanic.normal ?_
  go_wp2_with fail
  go_ret
  exact ⟨rfl, HB6.out⟩
theorem insts_any (W : World) (ht : Tab W) (C : List Nat) (hC : Rg C) (i : In) : Calls Tryd.prog 4 #[cpV C, inV i] W fun e w' => e = .returned (.bool true) ∧ Below W.heap.size W w' := by
  by_cases h : btE i = 0
  · have hI : isI i = true := by unfold btE at h; by_cases hh : isI i = true; exact hh; rw [if_neg hh] at h; cases h
    have hl : (btS i).length ≤ maxLen := by
      unfold btS
      rw [if_pos hI, plain_len]
      have := sz_le i.op.toNat
      have := maxLen_ge
      omega
    refine insts_walk W C (C.set 8 0) (stC (C.set 8 0) (btS i)) (stA (C.set 8 0) (btS i)) hC (hC.set _ _ (by omega)) rfl ((hC.set _ _ (by omega)).step _) i ⟨(btS i).toArray⟩ ht (fun w ht => ?_) (fun w ht => step_ok w ht _ (hC.set _ _ (by omega)) _ hl) (fun w => rstep_ok w _ (hC.set _ _ (by omega)) _ hl)
    have := bytes_any w ht i
    rw [h] at this
    exact this
  · exact insts_no W C i ht _ _ (fun w ht => bytes_any w ht i) h
end Go.Proofs.YtdhipmemcjajeaaDoor
