/- CpuOne's walk: a step changes at most one register, and the PC; no statement is proved in this text. -/
import Derived.Test.YtdhipmemcjajeaaDoorStepsWalk
namespace Go.Proofs.YtdhipmemcjajeaaDoor
open Go.ChangeShapes Go.WideShapes Go.ChangeAt Go.RowKit

/-- In how many of the first places do two lists differ? -/
def dfN (C D : List Nat) : Nat → Nat
  | 0 => 0
  | k + 1 => dfN C D k + if C.getD k 0 = D.getD k 0 then 0 else 1
theorem dfN_le (C D : List Nat) : ∀ k, dfN C D k ≤ k
  | 0 => Nat.le_refl _
  | k + 1 => by have := dfN_le C D k; unfold dfN; split <;> omega
theorem dfN_same (C : List Nat) : ∀ k, dfN C C k = 0
  | 0 => rfl
  | k + 1 => by unfold dfN; rw [dfN_same C k, if_pos rfl]
theorem dfN_zero {C D : List Nat} : ∀ k, (∀ j, j < k → C.getD j 0 = D.getD j 0) → dfN C D k = 0
  | 0, _ => rfl
  | k + 1, h => by unfold dfN; rw [dfN_zero k (fun j hj => h j (by omega)), if_pos (h k (by omega))]
theorem dfN_one {C D : List Nat} (a : Nat) : ∀ k, (∀ j, j < k → j ≠ a → C.getD j 0 = D.getD j 0) → dfN C D k ≤ 1
  | 0, _ => Nat.zero_le 1
  | k + 1, h => by
    unfold dfN
    by_cases hk : k = a
    · rw [dfN_zero k (fun j hj => h j (by omega) (by omega))]
      split <;> omega
    · rw [if_pos (h k (by omega) hk)]
      exact dfN_one a k (fun j hj hne => h j (by omega) hne)
theorem getD_set8 (C : List Nat) (j x : Nat) (h : j < 8) : (C.set 8 x).getD j 0 = C.getD j 0 := set_getD_ne _ _ _ _ (by omega)
theorem one_fact (C : List Nat) (l : List UInt8) : (atE l (C.getD 8 0 : Nat) ≠ 0 ∧ stA C l = zA ∧ stC C l = C ∧ dfN C (stC C l) 8 = 0) ∨ (atE l (C.getD 8 0 : Nat) = 0 ∧ (stA C l).k = 5 ∧ dfN C (stC C l) 8 ≤ 1) ∨ (atE l (C.getD 8 0 : Nat) = 0 ∧ (stA C l).k ≠ 5 ∧ (stA C l).k ≠ 0 ∧ dfN C (stC C l) 8 = 0) := by
  by_cases he : atE l (C.getD 8 0 : Nat) = 0
  · obtain ⟨hI, -⟩ := at_fine he
    obtain ⟨o1, -⟩ := isI_out hI
    right
    have e1 : stC C l = doC C (atI l (C.getD 8 0 : Nat)) (atN l (C.getD 8 0 : Nat)) := by unfold stC; rw [if_pos he]
    have e2 : stA C l = actF (atI l (C.getD 8 0 : Nat)) (C.getD (atI l (C.getD 8 0 : Nat)).a.toNat 0) (C.getD (atI l (C.getD 8 0 : Nat)).b.toNat 0) := by unfold stA; rw [if_pos he]
    rw [e1, e2]
    generalize atI l (C.getD 8 0 : Nat) = i at *
    generalize atN l (C.getD 8 0 : Nat) = nx at *
    by_cases hg : (1 ≤ i.op ∧ i.op ≤ 12) ∨ i.op = 17 ∨ i.op = 18 ∨ i.op = 19
    · left
      refine ⟨he, by rw [actF_def hg], ?_⟩
      unfold doC
      split
      · exact Nat.le_trans (Nat.le_of_eq (dfN_zero 8 (fun j hj => (getD_set8 C j _ hj).symm))) (by omega)
      · split
        · exact dfN_one i.a.toNat 8 (fun j hj hne => by rw [set_getD_ne _ _ _ _ (Ne.symm hne), getD_set8 C j _ hj])
        · exact Nat.le_trans (Nat.le_of_eq (dfN_zero 8 (fun j hj => (getD_set8 C j _ hj).symm))) (by omega)
    · right
      have hz : dfN C (doC C i nx) 8 = 0 := by
        unfold doC
        have hgo : gone i.op (C.getD i.a.toNat 0) = false := by unfold gone; simp; omega
        rw [hgo, if_neg (by simp), if_neg (by omega)]
        exact dfN_zero 8 (fun j hj => (getD_set8 C j _ hj).symm)
      refine ⟨he, ?_, ?_, hz⟩
      all_goals
        unfold actF
        rcases (show i.op = 0 ∨ i.op = 20 ∨ i.op = 13 ∨ i.op = 15 ∨ i.op = 14 ∨ i.op = 16 by omega) with h | h | h | h | h | h <;> simp [h]
  · left
    have e1 : stC C l = C := by unfold stC; rw [if_neg he]
    have e2 : stA C l = zA := by unfold stA; rw [if_neg he]
    rw [e1]
    exact ⟨he, e2, rfl, dfN_same C 8⟩
set_option maxHeartbeats 800000 in
theorem one_long (W : World) (C : List Nat) (s : ByteArray) (ht : Tab W) (hs : 400 < s.size) (hm : s.size ≤ maxLen) : Calls Tryd.prog 6 #[cpV C, .string s] W fun e w' => e = .returned (.bool true) ∧ Below W.heap.size W w' := by
  unfold maxLen at hm
  have hlt : (400 : Int) < s.size := by omega
  have HT : Hid (Tab W) := ht
  clear ht
  go_enter Tryd.func6, Tryd.ntmps6
  go_wp2_with fail
  refine (sub_ok _ (HT.out.alloc _)).mono ?_
  rintro e w1 ⟨rfl, hb⟩
  have HB : Hid (Below W.heap.size W w1) := (below_one W _).trans (hb.mono (by simp))
  clear hb
  go_wp2_with fail
  go_ret
  exact ⟨rfl, HB.out⟩
theorem eqIn25' {C D : List Nat} (hC : C.length = 9) (hD : D.length = 9) (h : C = D) (w : World) : (Op.equalIn 10000 25 (cpV C) (cpV D)).run Tryd.prog w = .ok true w := by
  have h2 := eql25 hC hD w
  rw [run_eql_struct] at h2
  cases hr : (Op.equalIn 10000 25 (cpV C) (cpV D)).run Tryd.prog w with
  | ok b w' =>
    rw [hr] at h2
    simp only [Result.andThen_ok, Result.ok.injEq, Value.bool.injEq] at h2 ⊢
    exact ⟨by rw [h2.1]; simp [h], h2.2⟩
  | halt x w' => rw [hr] at h2; cases h2
/-- What stands in the loop. -/
structure Lp (W wr : World) (C C1 : List Nat) (x : Ac) (p : Nat) : Prop where
  r0 : Row wr W.heap.size C
  r1 : Row wr p C1
  a1 : Arow wr (p + 1) x
  bel : Below W.heap.size W wr
theorem Lp.drew {W wr : World} {C C1 : List Nat} {x : Ac} {p : Nat} (h : Lp W wr C C1 x p) (n : Nat) : Lp W (wr.drewN n) C C1 x p :=
  ⟨⟨h.r0.row⟩, ⟨h.r1.row⟩, ⟨h.a1.row⟩, h.bel.trans (c := wr.drewN n) ⟨rfl, rfl, rfl, Nat.le_refl _, fun _ _ => rfl⟩⟩
theorem Lp.below {W V wr : World} {C C1 : List Nat} {x : Ac} {p : Nat} (h : Lp W V C C1 x p) (hb : Below V.heap.size V wr) : Lp W wr C C1 x p :=
  ⟨h.r0.below hb, h.r1.below hb, h.a1.below hb, h.bel.trans (hb.mono h.bel.size)⟩
set_option maxRecDepth 100000 in
set_option maxHeartbeats 1600000 in
theorem one_walk (W : World) (C C1 : List Nat) (x : Ac) (hC : Rg C) (hC1 : Rg C1) (s : ByteArray) (pc M : Nat) (i : In) (nx er : Int) (ht : Tab W) (hs : s.size ≤ 400) (hpc : C.getD 8 0 = pc) (hM : dfN C C1 8 = M)
    (hk : (er ≠ 0 ∧ x = zA ∧ C1 = C ∧ M = 0) ∨ (er = 0 ∧ x.k = 5 ∧ M ≤ 1) ∨ (er = 0 ∧ x.k ≠ 5 ∧ x.k ≠ 0 ∧ M = 0))
    (h1 : ∀ w, Tab w → Calls Tryd.prog 9 #[cpV C, .string s] w fun e w' => e = .returned (stV C1 x) ∧ Below w.heap.size w w')
    (h2 : ∀ w, Calls Tryd.prog 16 #[.string s, i64 pc] w fun e w' => e = .returned (gotV i nx er) ∧ Below w.heap.size w w') :
    Calls Tryd.prog 6 #[cpV C, .string s] W fun e w' => e = .returned (.bool true) ∧ Below W.heap.size W w' := by
  have hle : (s.size : Int) ≤ 400 := by omega
  have hpc16 : pc < 65536 := by rw [← hpc]; exact hC.get 8
  obtain ⟨op, A, B, n⟩ := i
  obtain ⟨xk, xn, xr, xa, xs, xv⟩ := x
  have HT : Hid (Tab W) := ht
  have HK := hid hk
  have HM := hid hM
  have HPC := hid hpc
  have H1 : Hid (∀ w, Tab w → Calls Tryd.prog 9 #[cpV C, .string s] w fun e w' => e = .returned (stV C1 ⟨xk, xn, xr, xa, xs, xv⟩) ∧ Below w.heap.size w w') := h1
  have H2 : Hid (∀ w, Calls Tryd.prog 16 #[.string s, i64 pc] w fun e w' => e = .returned (gotV ⟨op, A, B, n⟩ nx er) ∧ Below w.heap.size w w') := h2
  clear ht h1 h2 hk hM hpc
  go_enter Tryd.func6, Tryd.ntmps6
  go_upto_region 3 with fail
  have hr0 : Row (W.alloc (.cells (cpC C).toArray 25)) W.heap.size C := ⟨heap_at rfl _⟩
  have hb0 : Below W.heap.size W (W.alloc (.cells (cpC C).toArray 25)) := below_one W _
  generalize W.alloc (.cells (cpC C).toArray 25) = V at *
  have HR0 := hid hr0
  have HB0 := hid hb0
  have HTV : Hid (Tab V) := HT.out.below hb0
  clear hr0 hb0
  go_wp2_with (refine wpList_load_mid rfl 25 (.tmp 2) rfl W.heap.size 0 rfl (cpC C) _ (by exact HR0.out.range) Tryd.underlying25 rfl (cpC_info hC) ?_)
  refine (H1.out _ HTV.out).mono ?_
  rintro e w1 ⟨rfl, hb1⟩
  obtain ⟨m1, m2, m3, m4, m5⟩ := new_two w1 hC1 ⟨xk, xn, xr, xa, xs, xv⟩
  have HM1 := hid m1
  have HM2 := hid m2
  have HM3 := hid m3
  have HM4 := hid m4
  have HM5 := hid m5
  have HR1 : Hid (Row w1 W.heap.size C) := HR0.out.below hb1
  have HB1 : Hid (Below W.heap.size W w1) := HB0.out.trans (hb1.mono HB0.out.size)
  clear m1 m2 m3 m4 m5 hb1 HR0 HB0 HTV
  go_upto_region 4 with (first
    | (refine wpList_store_mid rfl 25 (.tmp 5) (.tmp 19) rfl w1.heap.size 0 (cpC C1).toArray rfl rfl (by exact HM1.out) (cpC_infoA hC1) (cpC_one _) ?_)
    | (refine wpList_store_mid rfl 28 (.tmp 6) (.tmp 20) rfl (w1.heap.size + 1) 0 (acC ⟨xk, xn, xr, xa, xs, xv⟩).toArray rfl rfl (by exact HM2.out) info28 (by kernel_rfl) ?_))
  have HL : Hid (Lp W ((((w1.alloc Z9).alloc (Z6 28)).setCells w1.heap.size 0 (cpC C1)).setCells (w1.heap.size + 1) 0 (acC ⟨xk, xn, xr, xa, xs, xv⟩)) C C1 ⟨xk, xn, xr, xa, xs, xv⟩ w1.heap.size) := ⟨HR1.out.below HM5.out, HM3.out, HM4.out, HB1.out.trans (HM5.out.mono HB1.out.size)⟩
  generalize (((w1.alloc Z9).alloc (Z6 28)).setCells w1.heap.size 0 (cpC C1)).setCells (w1.heap.size + 1) 0 (acC ⟨xk, xn, xr, xa, xs, xv⟩) = V1 at *
  clear HM1 HM2 HM3 HM4 HM5 HR1 HB1
  generalize w1.heap.size = p at *
  go_wp2_with fail
  go_loopw [7, 8] (fun u j wr => ∃ k : Nat, k ≤ 8 ∧ j = .int .i64 k ∧ u = .int .i64 (dfN C C1 k : Nat) ∧ Lp W wr C C1 ⟨xk, xn, xr, xa, xs, xv⟩ p) (fun _ j _ => 8 - (intOf j).toNat)
  case atStart => exact ⟨0, by omega, rfl, rfl, HL.out⟩
  case round =>
    obtain ⟨k, hk, rfl, rfl, hlp⟩ := hrel
    have hkn := dfN_le C C1 k
    have HLP := hid hlp
    by_cases hk8 : k < 8
    · have hkI : (k : Int) < 8 := by omega
      have c0 := hlp.r0.cell hC k (by omega)
      have c1 := hlp.r1.cell hC1 k (by omega)
      have HS : Hid (dfN C C1 (k + 1) = dfN C C1 k + if C.getD k 0 = C1.getD k 0 then 0 else 1) := (rfl : dfN C C1 (k + 1) = dfN C C1 k + if C.getD k 0 = C1.getD k 0 then 0 else 1)
      clear hlp
      by_cases heq : C.getD k 0 = C1.getD k 0
      · rw [if_pos heq] at HS
        rw [heq] at c0
        have hne : (((C1.getD k 0 : Nat) : Int) != ((C1.getD k 0 : Nat) : Int)) = false := by simp
        clear heq
        generalize C1.getD k 0 = y at *
        generalize dfN C C1 k = N at *
        go_wp2_with fail
        go_quiet (fail)
        go_wp2_with fail
        exact ⟨⟨k + 1, by omega, by go_num, congrArg (Value.int .i64) (by rw [HS.out]; rfl), HLP.out.drew _⟩, by simp [intOf]; omega⟩
      · rw [if_neg heq] at HS
        have hne : (((C.getD k 0 : Nat) : Int) != ((C1.getD k 0 : Nat) : Int)) = true := by rw [bne_iff_ne]; omega
        clear heq
        generalize C1.getD k 0 = y at *
        generalize C.getD k 0 = z at *
        generalize dfN C C1 k = N at *
        go_wp2_with fail
        go_quiet (fail)
        go_wp2_with fail
        exact ⟨⟨k + 1, by omega, by go_num, congrArg (Value.int .i64) (by rw [HS.out]; rfl), HLP.out.drew _⟩, by simp [intOf]; omega⟩
    · obtain rfl : k = 8 := by omega
      have c8 := hlp.r0.cell hC 8 (by omega)
      rw [HPC.out] at c8
      rw [HM.out] at hkn ⊢
      clear hlp
      go_wp2_with fail
      refine (H2.out _).mono ?_
      rintro e w2 ⟨rfl, hb2⟩
      have hg := heap_at (w := w2) rfl (.cells #[i64 op, i64 A, i64 B, i64 n, i64 nx, i64 er] 51)
      have hlp2 := (HLP.out.below hb2).below (below_one w2 (.cells #[i64 op, i64 A, i64 B, i64 n, i64 nx, i64 er] 51))
      clear hb2 c8 HLP
      go_upto_region 11 with fail
      generalize w2.alloc (.cells #[i64 op, i64 A, i64 B, i64 n, i64 nx, i64 er] 51) = V3 at *
      generalize w2.heap.size = q at *
      have g5 : V3.cell? ⟨q, 5, none⟩ = some (i64 er) := by rw [cell_of_row _ _ _ _ 51 (0, 0) hg]; rfl
      obtain ⟨l0, l1, l2, l3, l4, l5⟩ := hlp2.a1.cells
      simp only at l0 l1 l2 l3 l4 l5
      have HLQ := hid hlp2
      have HTQ : Hid (Tab V3) := HT.out.below hlp2.bel
      clear hg hlp2
      rcases HK.out with ⟨k1, k2, k3, k4⟩ | ⟨k1, k2, k3⟩ | ⟨k1, k2, k3, k4⟩
      · unfold zA at k2
        simp only [Ac.mk.injEq] at k2
        obtain ⟨rfl, rfl, rfl, rfl, rfl, rfl⟩ := k2
        have hen : (er != 0) = true := by simpa using k1
        subst k4
        have hq0 := fun w => eqIn25' hC1.len hC.len k3 w
        have hq1 := fun w => eqlAct 28 (Or.inl rfl) zA zA w
        simp only [decide_true] at hq1
        clear k1 k3 HK HM
        go_wp2_with (first
          | (refine wpListG_load (by rfl) 25 (.tmp 5) rfl p 0 rfl (cpC C1) _ (by exact HLQ.out.r1.range) Tryd.underlying25 rfl (cpC_info hC1) ?_)
          | (refine wpListG_load (by rfl) 25 (.tmp 2) rfl W.heap.size 0 rfl (cpC C) _ (by exact HLQ.out.r0.range) Tryd.underlying25 rfl (cpC_info hC) ?_)
          | (go_at_call 8; refine (sub_ok _ HTQ.out).mono ?_; rintro e w7 ⟨rfl, hb7⟩; have HB12 := hid hb7; clear hb7))
        go_ret
        exact ⟨rfl, HLQ.out.bel.trans (HB12.out.mono HLQ.out.bel.size)⟩
      · subst k1 k2
        clear HK HM
        go_wp2_with (go_at_call 8; refine (sub_ok _ HTQ.out).mono ?_; rintro e w7 ⟨rfl, hb7⟩; have HB12 := hid hb7; clear hb7)
        go_ret
        exact ⟨rfl, HLQ.out.bel.trans (HB12.out.mono HLQ.out.bel.size)⟩
      · subst k1 k4
        have hx5 : (xk == 5) = false := by simpa using k2
        have hx0 : (xk == 0) = false := by simpa using k3
        clear HK HM k2 k3
        go_wp2_with (go_at_call 8; refine (sub_ok _ HTQ.out).mono ?_; rintro e w7 ⟨rfl, hb7⟩; have HB12 := hid hb7; clear hb7)
        go_ret
        exact ⟨rfl, HLQ.out.bel.trans (HB12.out.mono HLQ.out.bel.size)⟩
theorem one_any (W : World) (ht : Tab W) (C : List Nat) (hC : Rg C) (s : ByteArray) (hm : s.size ≤ maxLen) : Calls Tryd.prog 6 #[cpV C, .string s] W fun e w' => e = .returned (.bool true) ∧ Below W.heap.size W w' := by
  by_cases h : 400 < s.size
  · exact one_long W C s ht h hm
  · have e : s = ⟨s.data.toList.toArray⟩ := by cases s; rfl
    have hl : s.data.toList.length ≤ maxLen := by rw [Array.length_toList]; exact hm
    refine one_walk W C (stC C s.data.toList) (stA C s.data.toList) hC (hC.step _) s _ _ (atI s.data.toList (C.getD 8 0 : Nat)) (atN s.data.toList (C.getD 8 0 : Nat)) (atE s.data.toList (C.getD 8 0 : Nat)) ht (by omega) rfl rfl (one_fact C s.data.toList) (fun w ht => ?_) (fun w => ?_)
    · have := step_ok w ht C hC s.data.toList hl
      rw [← e] at this
      exact this
    · have := rat_any w s.data.toList hl (C.getD 8 0 : Nat)
      rw [← e] at this
      exact this
end Go.Proofs.YtdhipmemcjajeaaDoor
