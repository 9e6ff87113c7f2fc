/- CpuSteps' walk: a step is as the document's; no statement is proved in this text. -/
import Derived.Test.YtdhipmemcjajeaaDoorCpuSub
namespace Go.Proofs.YtdhipmemcjajeaaDoor
open Go.ChangeShapes Go.WideShapes Go.ChangeAt Go.RowKit

theorem eqGuard_agg {P : Program} {t : TypeId} (hg : P.eqGuardType P.depth t = false) (x y : Operand) (xs ys : Array Value) (w : World) : (eqGuard .eql t x y (.agg xs) (.agg ys)).run P w = .ok () w := by
  simp [eqGuard, hg]
theorem yields_eql {P : Program} {ops : Array Oper} {S : World → Prop} {o : Oper} {a : Act} {t t' : TypeId} {x y : Operand} (xs ys : Array Value) {r : Value} (hw : Region.wanted o (yielded ops a.tmps) = true) (ho : o.op = .binOp .eql t x y t') (hg : P.eqGuardType P.depth t = false) (hx : a.eval x = .agg xs) (hy : a.eval y = .agg ys) (h : ∀ w, (binOp .eql t (.agg xs) (.agg ys)).run P w = .ok r w) : YieldsIf P ops S o r a :=
  .inl ⟨hw, fun w _ => by
    unfold execOp
    simp only [ho, hx, hy, Sem.run_bind, eqGuard_agg hg, h w, Result.andThen_ok]
    rfl⟩
/-- What the end of a law reads: registers and an act, and the document's. -/
structure Pair (b5 b6 b7 : Nat) (C : List Nat) (x : Ac) (W : World) : Prop where
  p5 : W.rangeAt b5 0 (cpC C)
  p6 : W.rangeAt b6 0 (acC x)
  p7 : W.rangeAt b7 0 (cpC C)
  p8 : W.rangeAt b7 9 (acC x)
theorem Pair.below {b5 b6 b7 : Nat} {C : List Nat} {x : Ac} {V W : World} (h : Pair b5 b6 b7 C x V) (h5 : b5 < V.heap.size) (h6 : b6 < V.heap.size) (h7 : b7 < V.heap.size) (hb : Below V.heap.size V W) : Pair b5 b6 b7 C x W :=
  ⟨range_below h.p5 h5 hb, range_below h.p6 h6 hb, range_below h.p7 h7 hb, range_below h.p8 h7 hb⟩
theorem acC_info28 (x : Ac) : (Tryd.prog.info? 28).map (·.size) = some (acC x).length := info28
theorem acC_info31 (x : Ac) : (Tryd.prog.info? 31).map (·.size) = some (acC x).length := by
  have : (Tryd.prog.info? 31).map (·.size) = some 6 := by kernel_rfl
  exact this

set_option maxHeartbeats 800000 in
theorem steps_long (W : World) (C : List Nat) (s : ByteArray) (ht : Tab W) (hs : 400 < s.size) (hm : s.size ≤ maxLen) : Calls Tryd.prog 3 #[cpV C, .string s] W fun e w' => e = .returned (.bool true) ∧ Below W.heap.size W w' := by
  unfold maxLen at hm
  have hlt : (400 : Int) < s.size := by omega
  have HT : Hid (Tab W) := ht
  clear ht
  go_enter Tryd.func3, Tryd.ntmps3
  go_wp2_with fail
  refine (sub_ok _ (HT.out.alloc _)).mono ?_
  rintro e w1 ⟨rfl, hb⟩
  have HB : Hid (Below W.heap.size W w1) := (below_one W _).trans (hb.mono (by simp))
  clear hb
  go_wp2_with fail
  go_ret
  exact ⟨rfl, HB.out⟩
set_option maxRecDepth 100000 in
set_option maxHeartbeats 1600000 in
theorem steps_walk (W : World) (C C1 : List Nat) (x : Ac) (hC : Rg C) (hC1 : Rg C1) (s : ByteArray) (ht : Tab W) (hs : s.size ≤ 400)
    (h1 : ∀ w, Tab w → Calls Tryd.prog 9 #[cpV C, .string s] w fun e w' => e = .returned (stV C1 x) ∧ Below w.heap.size w w')
    (h2 : ∀ w, Calls Tryd.prog 10 #[cpV C, .string s] w fun e w' => e = .returned (dnV C1 x) ∧ Below w.heap.size w w') :
    Calls Tryd.prog 3 #[cpV C, .string s] W fun e w' => e = .returned (.bool true) ∧ Below W.heap.size W w' := by
  have hle : (s.size : Int) ≤ 400 := by omega
  have HT : Hid (Tab W) := ht
  have H1 : Hid (∀ w, Tab w → Calls Tryd.prog 9 #[cpV C, .string s] w fun e w' => e = .returned (stV C1 x) ∧ Below w.heap.size w w') := h1
  have H2 : Hid (∀ w, Calls Tryd.prog 10 #[cpV C, .string s] w fun e w' => e = .returned (dnV C1 x) ∧ Below w.heap.size w w') := h2
  clear ht h1 h2
  go_enter Tryd.func3, Tryd.ntmps3
  go_upto_region 3 with fail
  have hr0 : Row (W.alloc (.cells (cpC C).toArray 25)) W.heap.size C := ⟨heap_at rfl _⟩
  have hb0 : Below W.heap.size W (W.alloc (.cells (cpC C).toArray 25)) := below_one W _
  generalize W.alloc (.cells (cpC C).toArray 25) = V at *
  have HR0 := hid hr0
  have HB0 := hid hb0
  have HTV : Hid (Tab V) := HT.out.below hb0
  clear hr0 hb0
  go_wp2_with (refine wpList_load_mid rfl 25 (.tmp 2) rfl W.heap.size 0 rfl (cpC C) _ (by exact HR0.out.range) Tryd.underlying25 rfl (cpC_info hC) ?_)
  refine (H1.out _ HTV.out).mono ?_
  rintro e w1 ⟨rfl, hb1⟩
  obtain ⟨m1, m2, m3, m4, m5⟩ := new_two w1 hC1 x
  have HM1 := hid m1
  have HM2 := hid m2
  have HM3 := hid m3
  have HM4 := hid m4
  have HM5 := hid m5
  have HR1 : Hid (Row w1 W.heap.size C) := HR0.out.below hb1
  have HB1 : Hid (Below W.heap.size W w1) := HB0.out.trans (hb1.mono HB0.out.size)
  clear m1 m2 m3 m4 m5 hb1 HR0 HB0 HTV
  go_upto_region 4 with (first
    | (refine wpList_store_mid rfl 25 (.tmp 5) (.tmp 16) rfl w1.heap.size 0 (cpC C1).toArray rfl rfl (by exact HM1.out) (cpC_infoA hC1) (cpC_one _) ?_)
    | (refine wpList_store_mid rfl 28 (.tmp 6) (.tmp 17) rfl (w1.heap.size + 1) 0 (acC x).toArray rfl rfl (by exact HM2.out) info28 (by kernel_rfl) ?_))
  have hr1 := HM3.out
  have ha1 := HM4.out
  have hb1 := HM5.out
  generalize (((w1.alloc Z9).alloc (Z6 28)).setCells w1.heap.size 0 (cpC C1)).setCells (w1.heap.size + 1) 0 (acC x) = V1 at *
  have HR2 : Hid (Row V1 W.heap.size C) := HR1.out.below hb1
  have HR3 : Hid (Row V1 w1.heap.size C1) := hr1
  have HA3 : Hid (Arow V1 (w1.heap.size + 1) x) := ha1
  have HB2 : Hid (Below W.heap.size W V1) := HB1.out.trans (hb1.mono HB1.out.size)
  clear hr1 ha1 hb1 HM1 HM2 HM3 HM4 HM5 HR1 HB1
  generalize w1.heap.size = p at *
  go_wp2_with (refine wpList_load_mid rfl 25 (.tmp 2) rfl W.heap.size 0 rfl (cpC C) _ (by exact HR2.out.range) Tryd.underlying25 rfl (cpC_info hC) ?_)
  refine (H2.out _).mono ?_
  rintro e w2 ⟨rfl, hb2⟩
  obtain ⟨d1, d2, d3, d4⟩ := new_done w2 hC1 x
  have HD1 := hid d1
  have HD2 := hid d2
  have HD3 := hid d3
  have HD4 := hid d4
  have HR4 : Hid (Row w2 p C1) := HR3.out.below hb2
  have HA4 : Hid (Arow w2 (p + 1) x) := HA3.out.below hb2
  have HB3 : Hid (Below W.heap.size W w2) := HB2.out.trans (hb2.mono HB2.out.size)
  clear d1 d2 d3 d4 hb2 HR2 HR3 HA3 HB2
  go_upto_region 5 with (refine wpList_store_mid rfl 33 (.tmp 7) (.tmp 20) rfl w2.heap.size 0 (dnC C1 x).toArray rfl rfl (by exact HD1.out) (dnC_infoA hC1 x) (dnC_one _ _) ?_)
  have g2 := HD2.out
  have g3 := HD3.out
  have g4 := HD4.out
  have gl : w2.heap.size < ((w2.alloc Z15).setCells w2.heap.size 0 (dnC C1 x)).heap.size := by rw [setCells_size]; simp
  generalize (w2.alloc Z15).setCells w2.heap.size 0 (dnC C1 x) = V2 at *
  have HP : Hid (Pair p (p + 1) w2.heap.size C1 x V2.drew) := ⟨(HR4.out.below g4).range, (HA4.out.below g4).range, g2, g3⟩
  have HL : Hid (p < V2.heap.size ∧ p + 1 < V2.heap.size ∧ w2.heap.size < V2.heap.size) := ⟨(HR4.out.below g4).lt, (HA4.out.below g4).lt, gl⟩
  have HB4 : Hid (Below W.heap.size W V2) := HB3.out.trans (g4.mono HB3.out.size)
  clear g2 g3 g4 gl HD1 HD2 HD3 HD4 HR4 HA4 HB3
  generalize w2.heap.size = q at *
  refine wp_region_noPanic ?_
  refine wp_region_last (Pair p (p + 1) q C1 x) 14 (by kernel_rfl) ?_
  refine wpL_takeY 0 21 (cpV C1) [3, 4, 10, 11, 13] rfl rfl (by kernel_rfl) (by decide) (by kernel_rfl) (by kernel_rfl) (by kernel_rfl) (fun _ _ _ h => h) HP.out (yieldsIf_load_mid (by rfl) 25 (.tmp 5) rfl p 0 rfl (cpC C1) _ (fun W h => h.p5) Tryd.underlying25 rfl (cpC_info hC1)) ?_
  simp only [Act.put, List.setIfInBounds_toArray, List.set_cons_zero, List.set_cons_succ]
  refine wpL_take 1 22 (.pointer (some ⟨q, 0, none⟩)) [2, 3, 4, 10, 11, 13] rfl rfl (by kernel_rfl) (by decide) (by kernel_rfl) (by kernel_rfl) (by kernel_rfl) (fun _ _ _ h => h) HP.out (by rfl) (fun W hW => by clear hW; go_simp) ?_
  simp only [Act.put, List.setIfInBounds_toArray, List.set_cons_zero, List.set_cons_succ]
  refine wpL_takeY 2 23 (cpV C1) [3, 4, 10, 11, 13] rfl rfl (by kernel_rfl) (by decide) (by kernel_rfl) (by kernel_rfl) (by kernel_rfl) (fun _ _ _ h => h) HP.out (yieldsIf_load_mid (by rfl) 25 (.tmp 22) rfl q 0 rfl (cpC C1) _ (fun W h => h.p7) Tryd.underlying25 rfl (cpC_info hC1)) ?_
  simp only [Act.put, List.setIfInBounds_toArray, List.set_cons_zero, List.set_cons_succ]
  refine wpL_takeY 3 24 (.bool true) [4, 10, 11, 13] rfl rfl (by kernel_rfl) (by decide) (by kernel_rfl) (by kernel_rfl) (by kernel_rfl) (fun _ _ _ h => h) HP.out (yields_eql (cpC C1).toArray (cpC C1).toArray (by rfl) rfl (by kernel_rfl) rfl rfl (fun w => by rw [eql25 hC1.len hC1.len, decide_eq_true rfl])) ?_
  simp only [Act.put, List.setIfInBounds_toArray, List.set_cons_zero, List.set_cons_succ]
  refine wpL_take 4 25 (.bool true) [10, 11, 13] rfl rfl (by kernel_rfl) (by decide) (by kernel_rfl) (by kernel_rfl) (by kernel_rfl) (fun _ _ _ h => h) HP.out (by rfl) (fun W hW => by clear hW; go_simp) ?_
  simp only [Act.put, List.setIfInBounds_toArray, List.set_cons_zero, List.set_cons_succ]
  refine wpL_takeY 5 26 (acV x) [6, 9, 10, 11, 13] rfl rfl (by kernel_rfl) (by decide) (by kernel_rfl) (by kernel_rfl) (by kernel_rfl) (fun _ _ _ h => h) HP.out (yieldsIf_load_mid (by rfl) 28 (.tmp 6) rfl (p + 1) 0 rfl (acC x) _ (fun W h => h.p6) Tryd.underlying28 rfl (acC_info28 x)) ?_
  simp only [Act.put, List.setIfInBounds_toArray, List.set_cons_zero, List.set_cons_succ]
  refine wpL_take 7 28 (.pointer (some ⟨q, 9, none⟩)) [8, 9, 10, 11, 13] rfl rfl (by kernel_rfl) (by decide) (by kernel_rfl) (by kernel_rfl) (by kernel_rfl) (fun _ _ _ h => h) HP.out (by rfl) (fun W hW => by clear hW; go_simp) ?_
  simp only [Act.put, List.setIfInBounds_toArray, List.set_cons_zero, List.set_cons_succ]
  refine wpL_takeY 8 29 (acV x) [9, 10, 11, 13] rfl rfl (by kernel_rfl) (by decide) (by kernel_rfl) (by kernel_rfl) (by kernel_rfl) (fun _ _ _ h => h) HP.out (yieldsIf_load_mid (by rfl) 31 (.tmp 28) rfl q 9 rfl (acC x) _ (fun W h => h.p8) Tryd.underlying31 rfl (acC_info31 x)) ?_
  simp only [Act.put, List.setIfInBounds_toArray, List.set_cons_zero, List.set_cons_succ]
  refine wpL_one 6 rfl (by kernel_rfl) (by rfl) (fun K hK => ?_)
  go_simp
  refine (refA_ok _ x).mono ?_
  rintro e w3 ⟨rfl, hb3⟩
  have HP3 : Hid (Pair p (p + 1) q C1 x w3) := HP.out.below HL.out.1 HL.out.2.1 HL.out.2.2 hb3
  have HB5 : Hid (Below W.heap.size W w3) := (HB4.out.trans (c := V2.drew) ⟨rfl, rfl, rfl, Nat.le_refl _, fun _ _ => rfl⟩).trans (hb3.mono HB4.out.size)
  have HZ3 : Hid (V2.heap.size ≤ w3.heap.size) := hb3.size
  clear hb3
  go_simp
  refine hK.out _ _ (fun _ => HP3.out) ?_
  clear hK K
  refine wpL_takeY 9 30 (.bool true) [10, 11, 13] rfl rfl (by kernel_rfl) (by decide) (by kernel_rfl) (by kernel_rfl) (by kernel_rfl) (fun _ _ _ h => h) HP3.out (yields_eql (acC x).toArray (acC x).toArray (by rfl) rfl (by kernel_rfl) rfl rfl (fun w => by rw [eqlAct 31 (Or.inr rfl), decide_eq_true rfl])) ?_
  simp only [Act.put, List.setIfInBounds_toArray, List.set_cons_zero, List.set_cons_succ]
  refine wpL_take 10 31 (.bool true) [11, 13] rfl rfl (by kernel_rfl) (by decide) (by kernel_rfl) (by kernel_rfl) (by kernel_rfl) (fun _ _ _ h => h) HP3.out (by rfl) (fun W hW => by clear hW; go_simp) ?_
  simp only [Act.put, List.setIfInBounds_toArray, List.set_cons_zero, List.set_cons_succ]
  refine wpL_take 11 32 (.bool true) [13] rfl rfl (by kernel_rfl) (by decide) (by kernel_rfl) (by kernel_rfl) (by kernel_rfl) (fun _ _ _ h => h) HP3.out (by rfl) (fun W hW => by clear hW; go_simp) ?_
  simp only [Act.put, List.setIfInBounds_toArray, List.set_cons_zero, List.set_cons_succ]
  refine wpL_one 12 rfl (by kernel_rfl) (by rfl) (fun K hK => ?_)
  go_simp
  refine (sub_ok _ (HT.out.below HB5.out)).mono ?_
  rintro e w4 ⟨rfl, hb4⟩
  have HB6 : Hid (Below W.heap.size W w4) := HB5.out.trans (hb4.mono HB5.out.size)
  have HW3 := hid hb4
  clear hb4
  go_simp
  refine hK.out _ _ (fun _ => HP3.out.below (Nat.lt_of_lt_of_le HL.out.1 HZ3.out) (Nat.lt_of_lt_of_le HL.out.2.1 HZ3.out) (Nat.lt_of_lt_of_le HL.out.2.2 HZ3.out) HW3.out) ?_
  clear hK K
  have HP4 : Hid (Pair p (p + 1) q C1 x w4) := HP3.out.below (Nat.lt_of_lt_of_le HL.out.1 HZ3.out) (Nat.lt_of_lt_of_le HL.out.2.1 HZ3.out) (Nat.lt_of_lt_of_le HL.out.2.2 HZ3.out) HW3.out
  refine wpL_take 13 34 (.bool true) [] rfl rfl (by kernel_rfl) (by decide) (by kernel_rfl) (by kernel_rfl) (by kernel_rfl) (fun _ _ _ h => h) HP4.out (by rfl) (fun W hW => by clear hW; go_simp) ?_
  simp only [Act.put, List.setIfInBounds_toArray, List.set_cons_zero, List.set_cons_succ]
  refine wpL_one 14 rfl (by kernel_rfl) (by rfl) (fun K hK => ?_)
  go_simp
  refine hK.out _ _ (fun h => absurd rfl h) ?_
  clear hK K
  refine wpL_done (by kernel_rfl) ?_
  refine NoPanic.normal ?_
  go_wp2_with fail
  go_ret
  exact ⟨rfl, HB6.out⟩
theorem steps_any (W : World) (ht : Tab W) (C : List Nat) (hC : Rg C) (s : ByteArray) (hm : s.size ≤ maxLen) : Calls Tryd.prog 3 #[cpV C, .string s] W fun e w' => e = .returned (.bool true) ∧ Below W.heap.size W w' := by
  by_cases h : 400 < s.size
  · exact steps_long W C s ht h hm
  · have e : s = ⟨s.data.toList.toArray⟩ := by cases s; rfl
    have hl : s.data.toList.length ≤ maxLen := by rw [Array.length_toList]; exact hm
    refine steps_walk W C (stC C s.data.toList) (stA C s.data.toList) hC (hC.step _) s ht (by omega) (fun w ht => ?_) (fun w => ?_)
    · have := step_ok w ht C hC s.data.toList hl
      rw [← e] at this
      exact this
    · have := rstep_ok w C hC s.data.toList hl
      rw [← e] at this
      exact this
end Go.Proofs.YtdhipmemcjajeaaDoor
