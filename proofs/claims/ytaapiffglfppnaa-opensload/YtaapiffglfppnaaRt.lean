/- desc's isProc, objects, Right, the document's Right of an entry; no statement is proved in this text. -/
import Derived.Test.YtaapiffglfppnaaApp
namespace Go.Proofs.Ytaapiffglfppnaa
open Go.ChangeShapes Go.WideShapes Go.ChangeAt Go.RowKit Go.Deep
attribute [local go_sem ↓] Go.wp_at_zero Go.wp_at_succ

abbrev ev (p s a b c : Int) : Value := .agg #[i64 p, i64 s, i64 a, i64 b, i64 c]
abbrev enO (p s a c d : Int) (t : TypeId) : Obj := .cells #[i64 p, i64 s, i64 a, i64 c, i64 d] t
theorem five_cells {W : World} {b : Nat} {p s a c d : Value} {t : TypeId} (h : W.heap[b]? = some (.cells #[p, s, a, c, d] t)) : W.cell? ⟨b, 0, none⟩ = some p ∧ W.cell? ⟨b, 1, none⟩ = some s ∧ W.cell? ⟨b, 2, none⟩ = some a ∧ W.cell? ⟨b, 3, none⟩ = some c ∧ W.cell? ⟨b, 4, none⟩ = some d := ⟨blk_cell h 0, blk_cell h 1, blk_cell h 2, blk_cell h 3, blk_cell h 4⟩
def RightP (p s a b c : Int) : Prop := 1 ≤ p ∧ p ≤ 6 ∧ 0 ≤ s ∧ s ≤ 5 ∧ 0 ≤ b ∧ 0 ≤ c ∧ ((a = 1 ∧ b = 0 ∧ c = 0) ∨ (a = 2 ∧ b < 4 ∧ c < 33) ∨ ((a = 3 ∨ a = 4) ∧ b < 3 ∧ c = 0))
instance (p s a b c : Int) : Decidable (RightP p s a b c) := by unfold RightP; infer_instance
def rightF (p s a b c : Int) : Bool := decide (RightP p s a b c)
def MF (a m f : Int) : Prop := (a = 1 ∧ m = 1 ∧ f = 0) ∨ (a = 2 ∧ m = 4 ∧ f = 32) ∨ ((a = 3 ∨ a = 4) ∧ m = 3 ∧ f = 0) ∨ (a ≠ 1 ∧ a ≠ 2 ∧ a ≠ 3 ∧ a ≠ 4 ∧ m = 0 ∧ f = 0)
def isP (p : Int) : Bool := decide (1 ≤ p ∧ p ≤ 6)
theorem isP_true {p : Int} (h1 : 1 ≤ p) (h2 : p ≤ 6) : isP p = true := decide_eq_true ⟨h1, h2⟩
theorem isP_false {p : Int} (h : ¬ (1 ≤ p ∧ p ≤ 6)) : isP p = false := decide_eq_false h
theorem dProc_ok (w : World) (p : Int) : Calls Try.prog 69 #[i64 p] w fun e w' => e = .returned (.bool (isP p)) ∧ w' = w := by
  by_cases h1 : 1 ≤ p
  · by_cases h2 : p ≤ 6
    · rw [isP_true h1 h2]
      go_enter Try.func69, Try.ntmps69
      go_wp2_with fail
      go_ret
      exact ⟨rfl, rfl⟩
    · rw [isP_false (by omega)]
      go_enter Try.func69, Try.ntmps69
      go_wp2_with fail
      go_ret
      exact ⟨rfl, rfl⟩
  · rw [isP_false (by omega)]
    go_enter Try.func69, Try.ntmps69
    go_wp2_with fail
    go_ret
    exact ⟨rfl, rfl⟩
set_option maxRecDepth 100000 in
set_option maxHeartbeats 800000 in
theorem objects1 (w : World) (a : Int) (h : a = 1) : Calls Try.prog 68 #[i64 a] w fun e w' => ∃ m f : Int, e = .returned (.tuple #[i64 m, i64 f]) ∧ MF a m f ∧ w' = w := by
  have q1 : (a == 1) = true := by simp only [beq_iff_eq]; omega
  have HM : Hid (MF a 1 0) := by unfold MF; show _ ∨ _; omega
  clear h
  go_enter Try.func68, Try.ntmps68
  go_wp2_with fail
  go_ret2
  exact ⟨_, _, rfl, HM.out, rfl⟩
set_option maxRecDepth 100000 in
set_option maxHeartbeats 800000 in
theorem objects2 (w : World) (a : Int) (h : a = 2) : Calls Try.prog 68 #[i64 a] w fun e w' => ∃ m f : Int, e = .returned (.tuple #[i64 m, i64 f]) ∧ MF a m f ∧ w' = w := by
  have q1 : (a == 1) = false := by simp only [beq_eq_false_iff_ne]; omega
  have q2 : (a == 2) = true := by simp only [beq_iff_eq]; omega
  have HM : Hid (MF a 4 32) := by unfold MF; show _ ∨ _; omega
  clear h
  go_enter Try.func68, Try.ntmps68
  go_wp2_with fail
  go_ret2
  exact ⟨_, _, rfl, HM.out, rfl⟩
set_option maxRecDepth 100000 in
set_option maxHeartbeats 800000 in
theorem objects3 (w : World) (a : Int) (h : a = 3) : Calls Try.prog 68 #[i64 a] w fun e w' => ∃ m f : Int, e = .returned (.tuple #[i64 m, i64 f]) ∧ MF a m f ∧ w' = w := by
  have q1 : (a == 1) = false := by simp only [beq_eq_false_iff_ne]; omega
  have q2 : (a == 2) = false := by simp only [beq_eq_false_iff_ne]; omega
  have q3 : (a == 3) = true := by simp only [beq_iff_eq]; omega
  have HM : Hid (MF a 3 0) := by unfold MF; show _ ∨ _; omega
  clear h
  go_enter Try.func68, Try.ntmps68
  go_wp2_with fail
  go_ret2
  exact ⟨_, _, rfl, HM.out, rfl⟩
set_option maxRecDepth 100000 in
set_option maxHeartbeats 800000 in
theorem objects4 (w : World) (a : Int) (h : a = 4) : Calls Try.prog 68 #[i64 a] w fun e w' => ∃ m f : Int, e = .returned (.tuple #[i64 m, i64 f]) ∧ MF a m f ∧ w' = w := by
  have q1 : (a == 1) = false := by simp only [beq_eq_false_iff_ne]; omega
  have q2 : (a == 2) = false := by simp only [beq_eq_false_iff_ne]; omega
  have q3 : (a == 3) = false := by simp only [beq_eq_false_iff_ne]; omega
  have q4 : (a == 4) = true := by simp only [beq_iff_eq]; omega
  have HM : Hid (MF a 3 0) := by unfold MF; show _ ∨ _; omega
  clear h
  go_enter Try.func68, Try.ntmps68
  go_wp2_with fail
  go_ret2
  exact ⟨_, _, rfl, HM.out, rfl⟩
set_option maxRecDepth 100000 in
set_option maxHeartbeats 800000 in
theorem objects5 (w : World) (a : Int) (h : a ≠ 1 ∧ a ≠ 2 ∧ a ≠ 3 ∧ a ≠ 4) : Calls Try.prog 68 #[i64 a] w fun e w' => ∃ m f : Int, e = .returned (.tuple #[i64 m, i64 f]) ∧ MF a m f ∧ w' = w := by
  have q1 : (a == 1) = false := by simp only [beq_eq_false_iff_ne]; omega
  have q2 : (a == 2) = false := by simp only [beq_eq_false_iff_ne]; omega
  have q3 : (a == 3) = false := by simp only [beq_eq_false_iff_ne]; omega
  have q4 : (a == 4) = false := by simp only [beq_eq_false_iff_ne]; omega
  have HM : Hid (MF a 0 0) := by unfold MF; show _ ∨ _; omega
  clear h
  go_enter Try.func68, Try.ntmps68
  go_wp2_with fail
  go_ret2
  exact ⟨_, _, rfl, HM.out, rfl⟩
theorem objects_ok (w : World) (a : Int) : Calls Try.prog 68 #[i64 a] w fun e w' => ∃ m f : Int, e = .returned (.tuple #[i64 m, i64 f]) ∧ MF a m f ∧ w' = w := by
  by_cases h1 : a = 1
  · exact objects1 w a h1
  by_cases h2 : a = 2
  · exact objects2 w a h2
  by_cases h3 : a = 3
  · exact objects3 w a h3
  by_cases h4 : a = 4
  · exact objects4 w a h4
  exact objects5 w a ⟨h1, h2, h3, h4⟩
set_option maxRecDepth 100000 in
set_option maxHeartbeats 800000 in
theorem right_ok (w : World) (p s a b c : Int) : Calls Try.prog 53 #[ev p s a b c] w fun e w' => e = .returned (.bool (rightF p s a b c)) ∧ Below w.heap.size w w' := by
  have HB := hid (below_one w (enO p s a b c 37))
  have HO := hid (objects_ok (w.alloc (enO p s a b c 37)) a)
  have HP := hid (dProc_ok (w.alloc (enO p s a b c 37)) p)
  go_enter Try.func53, Try.ntmps53
  go_wp2_with fail
  refine HO.out.mono ?_
  rintro e w1 ⟨m, f, rfl, hM, hw⟩
  subst hw
  have HM := hid hM
  clear hM HO
  by_cases h1 : 1 ≤ p ∧ p ≤ 6
  · have hp : isP p = true := isP_true h1.1 h1.2
    have HP1 := hid h1
    clear h1
    rw [hp] at HP
    clear hp
    by_cases h2 : 0 ≤ s
    rotate_left
    · have HR : Hid (rightF p s a b c = false) := by
        have h1 := HP1.out
        have hM := HM.out
        unfold MF at hM
        refine decide_eq_false ?_
        unfold RightP
        omega
      go_wp2_with fail
      refine HP.out.mono ?_
      rintro e w1 ⟨rfl, hw⟩
      subst hw
      go_wp2_with fail
      go_ret
      refine ⟨?_, HB.out⟩
      rw [HR.out]
      first
        | rfl
        | exact congrArg Ending.returned (congrArg Value.bool (decide_eq_false (by omega)))
        | exact congrArg Ending.returned (congrArg Value.bool (decide_eq_true (by omega)))
        | exact congrArg Ending.returned (congrArg Value.bool (beq_false_of_ne (by omega)))
        | exact congrArg Ending.returned (congrArg Value.bool (beq_iff_eq.2 (by omega)))
        | exact congrArg Ending.returned (congrArg Value.bool (by assumption))
    by_cases h3 : s < 6
    rotate_left
    · have HR : Hid (rightF p s a b c = false) := by
        have h1 := HP1.out
        have hM := HM.out
        unfold MF at hM
        refine decide_eq_false ?_
        unfold RightP
        omega
      go_wp2_with fail
      refine HP.out.mono ?_
      rintro e w1 ⟨rfl, hw⟩
      subst hw
      go_wp2_with fail
      go_ret
      refine ⟨?_, HB.out⟩
      rw [HR.out]
      first
        | rfl
        | exact congrArg Ending.returned (congrArg Value.bool (decide_eq_false (by omega)))
        | exact congrArg Ending.returned (congrArg Value.bool (decide_eq_true (by omega)))
        | exact congrArg Ending.returned (congrArg Value.bool (beq_false_of_ne (by omega)))
        | exact congrArg Ending.returned (congrArg Value.bool (beq_iff_eq.2 (by omega)))
        | exact congrArg Ending.returned (congrArg Value.bool (by assumption))
    by_cases h4 : 0 ≤ b
    rotate_left
    · have HR : Hid (rightF p s a b c = false) := by
        have h1 := HP1.out
        have hM := HM.out
        unfold MF at hM
        refine decide_eq_false ?_
        unfold RightP
        omega
      go_wp2_with fail
      refine HP.out.mono ?_
      rintro e w1 ⟨rfl, hw⟩
      subst hw
      go_wp2_with fail
      go_ret
      refine ⟨?_, HB.out⟩
      rw [HR.out]
      first
        | rfl
        | exact congrArg Ending.returned (congrArg Value.bool (decide_eq_false (by omega)))
        | exact congrArg Ending.returned (congrArg Value.bool (decide_eq_true (by omega)))
        | exact congrArg Ending.returned (congrArg Value.bool (beq_false_of_ne (by omega)))
        | exact congrArg Ending.returned (congrArg Value.bool (beq_iff_eq.2 (by omega)))
        | exact congrArg Ending.returned (congrArg Value.bool (by assumption))
    by_cases h5 : b < m
    rotate_left
    · have HR : Hid (rightF p s a b c = false) := by
        have h1 := HP1.out
        have hM := HM.out
        unfold MF at hM
        refine decide_eq_false ?_
        unfold RightP
        omega
      go_wp2_with fail
      refine HP.out.mono ?_
      rintro e w1 ⟨rfl, hw⟩
      subst hw
      go_wp2_with fail
      go_ret
      refine ⟨?_, HB.out⟩
      rw [HR.out]
      first
        | rfl
        | exact congrArg Ending.returned (congrArg Value.bool (decide_eq_false (by omega)))
        | exact congrArg Ending.returned (congrArg Value.bool (decide_eq_true (by omega)))
        | exact congrArg Ending.returned (congrArg Value.bool (beq_false_of_ne (by omega)))
        | exact congrArg Ending.returned (congrArg Value.bool (beq_iff_eq.2 (by omega)))
        | exact congrArg Ending.returned (congrArg Value.bool (by assumption))
    by_cases h6 : 0 ≤ c
    rotate_left
    · have HR : Hid (rightF p s a b c = false) := by
        have h1 := HP1.out
        have hM := HM.out
        unfold MF at hM
        refine decide_eq_false ?_
        unfold RightP
        omega
      go_wp2_with fail
      refine HP.out.mono ?_
      rintro e w1 ⟨rfl, hw⟩
      subst hw
      go_wp2_with fail
      go_ret
      refine ⟨?_, HB.out⟩
      rw [HR.out]
      first
        | rfl
        | exact congrArg Ending.returned (congrArg Value.bool (decide_eq_false (by omega)))
        | exact congrArg Ending.returned (congrArg Value.bool (decide_eq_true (by omega)))
        | exact congrArg Ending.returned (congrArg Value.bool (beq_false_of_ne (by omega)))
        | exact congrArg Ending.returned (congrArg Value.bool (beq_iff_eq.2 (by omega)))
        | exact congrArg Ending.returned (congrArg Value.bool (by assumption))
    by_cases h7 : c ≤ f
    rotate_left
    · have HR : Hid (rightF p s a b c = false) := by
        have h1 := HP1.out
        have hM := HM.out
        unfold MF at hM
        refine decide_eq_false ?_
        unfold RightP
        omega
      go_wp2_with fail
      refine HP.out.mono ?_
      rintro e w1 ⟨rfl, hw⟩
      subst hw
      go_wp2_with fail
      go_ret
      refine ⟨?_, HB.out⟩
      rw [HR.out]
      first
        | rfl
        | exact congrArg Ending.returned (congrArg Value.bool (decide_eq_false (by omega)))
        | exact congrArg Ending.returned (congrArg Value.bool (decide_eq_true (by omega)))
        | exact congrArg Ending.returned (congrArg Value.bool (beq_false_of_ne (by omega)))
        | exact congrArg Ending.returned (congrArg Value.bool (beq_iff_eq.2 (by omega)))
        | exact congrArg Ending.returned (congrArg Value.bool (by assumption))
    have HR : Hid (rightF p s a b c = true) := by
      have h1 := HP1.out
      have hM := HM.out
      unfold MF at hM
      refine decide_eq_true ?_
      unfold RightP
      omega
    go_wp2_with fail
    refine HP.out.mono ?_
    rintro e w1 ⟨rfl, hw⟩
    subst hw
    go_wp2_with fail
    go_ret
    refine ⟨?_, HB.out⟩
    rw [HR.out]
    first
      | rfl
      | exact congrArg Ending.returned (congrArg Value.bool (decide_eq_false (by omega)))
      | exact congrArg Ending.returned (congrArg Value.bool (decide_eq_true (by omega)))
      | exact congrArg Ending.returned (congrArg Value.bool (beq_false_of_ne (by omega)))
      | exact congrArg Ending.returned (congrArg Value.bool (beq_iff_eq.2 (by omega)))
      | exact congrArg Ending.returned (congrArg Value.bool (by assumption))
  · have hp : isP p = false := isP_false h1
    have HP1 := hid h1
    clear h1
    rw [hp] at HP
    clear hp
    have HR : Hid (rightF p s a b c = false) := by
      have h1 := HP1.out
      have hM := HM.out
      unfold MF at hM
      refine decide_eq_false ?_
      unfold RightP
      omega
    go_wp2_with fail
    refine HP.out.mono ?_
    rintro e w1 ⟨rfl, hw⟩
    subst hw
    go_wp2_with fail
    go_ret
    refine ⟨?_, HB.out⟩
    rw [HR.out]
    first
      | rfl
      | exact congrArg Ending.returned (congrArg Value.bool (decide_eq_false (by omega)))
      | exact congrArg Ending.returned (congrArg Value.bool (decide_eq_true (by omega)))
      | exact congrArg Ending.returned (congrArg Value.bool (beq_false_of_ne (by omega)))
      | exact congrArg Ending.returned (congrArg Value.bool (beq_iff_eq.2 (by omega)))
      | exact congrArg Ending.returned (congrArg Value.bool (by assumption))
set_option maxRecDepth 100000 in
set_option maxHeartbeats 800000 in
theorem rright_ok (w : World) (p s a b c : Int) : Calls Try.prog 27 #[ev p s a b c] w fun e w' => e = .returned (.bool (rightF p s a b c)) ∧ Below w.heap.size w w' := by
  have HB := hid (below_one w (enO p s a b c 41))
  by_cases h1 : p < 1
  · have HR : Hid (rightF p s a b c = false) := by
      refine decide_eq_false ?_
      unfold RightP
      omega
    go_enter Try.func27, Try.ntmps27
    go_wp2_with fail
    go_ret
    refine ⟨?_, HB.out⟩
    rw [HR.out]
    first
      | rfl
      | exact congrArg Ending.returned (congrArg Value.bool (decide_eq_false (by omega)))
      | exact congrArg Ending.returned (congrArg Value.bool (decide_eq_true (by omega)))
      | exact congrArg Ending.returned (congrArg Value.bool (beq_false_of_ne (by omega)))
      | exact congrArg Ending.returned (congrArg Value.bool (beq_iff_eq.2 (by omega)))
      | exact congrArg Ending.returned (congrArg Value.bool (by assumption))
  by_cases h2 : 6 < p
  · have HR : Hid (rightF p s a b c = false) := by
      refine decide_eq_false ?_
      unfold RightP
      omega
    go_enter Try.func27, Try.ntmps27
    go_wp2_with fail
    go_ret
    refine ⟨?_, HB.out⟩
    rw [HR.out]
    first
      | rfl
      | exact congrArg Ending.returned (congrArg Value.bool (decide_eq_false (by omega)))
      | exact congrArg Ending.returned (congrArg Value.bool (decide_eq_true (by omega)))
      | exact congrArg Ending.returned (congrArg Value.bool (beq_false_of_ne (by omega)))
      | exact congrArg Ending.returned (congrArg Value.bool (beq_iff_eq.2 (by omega)))
      | exact congrArg Ending.returned (congrArg Value.bool (by assumption))
  by_cases h3 : s < 0
  · have HR : Hid (rightF p s a b c = false) := by
      refine decide_eq_false ?_
      unfold RightP
      omega
    go_enter Try.func27, Try.ntmps27
    go_wp2_with fail
    go_ret
    refine ⟨?_, HB.out⟩
    rw [HR.out]
    first
      | rfl
      | exact congrArg Ending.returned (congrArg Value.bool (decide_eq_false (by omega)))
      | exact congrArg Ending.returned (congrArg Value.bool (decide_eq_true (by omega)))
      | exact congrArg Ending.returned (congrArg Value.bool (beq_false_of_ne (by omega)))
      | exact congrArg Ending.returned (congrArg Value.bool (beq_iff_eq.2 (by omega)))
      | exact congrArg Ending.returned (congrArg Value.bool (by assumption))
  by_cases h4 : 5 < s
  · have HR : Hid (rightF p s a b c = false) := by
      refine decide_eq_false ?_
      unfold RightP
      omega
    go_enter Try.func27, Try.ntmps27
    go_wp2_with fail
    go_ret
    refine ⟨?_, HB.out⟩
    rw [HR.out]
    first
      | rfl
      | exact congrArg Ending.returned (congrArg Value.bool (decide_eq_false (by omega)))
      | exact congrArg Ending.returned (congrArg Value.bool (decide_eq_true (by omega)))
      | exact congrArg Ending.returned (congrArg Value.bool (beq_false_of_ne (by omega)))
      | exact congrArg Ending.returned (congrArg Value.bool (beq_iff_eq.2 (by omega)))
      | exact congrArg Ending.returned (congrArg Value.bool (by assumption))
  by_cases h5 : b < 0
  · have HR : Hid (rightF p s a b c = false) := by
      refine decide_eq_false ?_
      unfold RightP
      omega
    go_enter Try.func27, Try.ntmps27
    go_wp2_with fail
    go_ret
    refine ⟨?_, HB.out⟩
    rw [HR.out]
    first
      | rfl
      | exact congrArg Ending.returned (congrArg Value.bool (decide_eq_false (by omega)))
      | exact congrArg Ending.returned (congrArg Value.bool (decide_eq_true (by omega)))
      | exact congrArg Ending.returned (congrArg Value.bool (beq_false_of_ne (by omega)))
      | exact congrArg Ending.returned (congrArg Value.bool (beq_iff_eq.2 (by omega)))
      | exact congrArg Ending.returned (congrArg Value.bool (by assumption))
  by_cases h6 : c < 0
  · have HR : Hid (rightF p s a b c = false) := by
      refine decide_eq_false ?_
      unfold RightP
      omega
    go_enter Try.func27, Try.ntmps27
    go_wp2_with fail
    go_ret
    refine ⟨?_, HB.out⟩
    rw [HR.out]
    first
      | rfl
      | exact congrArg Ending.returned (congrArg Value.bool (decide_eq_false (by omega)))
      | exact congrArg Ending.returned (congrArg Value.bool (decide_eq_true (by omega)))
      | exact congrArg Ending.returned (congrArg Value.bool (beq_false_of_ne (by omega)))
      | exact congrArg Ending.returned (congrArg Value.bool (beq_iff_eq.2 (by omega)))
      | exact congrArg Ending.returned (congrArg Value.bool (by assumption))
  by_cases k1 : a = 1
  · have q1 : (a == 1) = true := by simp only [beq_iff_eq]; omega
    by_cases gb : b = 0
    rotate_left
    · have HR : Hid (rightF p s a b c = false) := by
        refine decide_eq_false ?_
        unfold RightP
        omega
      have eb : (b == 0) = false := beq_false_of_ne gb
      clear gb
      clear k1
      go_enter Try.func27, Try.ntmps27
      go_wp2_with fail
      go_ret
      refine ⟨?_, HB.out⟩
      rw [HR.out]
      first
        | rfl
        | exact congrArg Ending.returned (congrArg Value.bool (decide_eq_false (by omega)))
        | exact congrArg Ending.returned (congrArg Value.bool (decide_eq_true (by omega)))
        | exact congrArg Ending.returned (congrArg Value.bool (beq_false_of_ne (by omega)))
        | exact congrArg Ending.returned (congrArg Value.bool (beq_iff_eq.2 (by omega)))
        | exact congrArg Ending.returned (congrArg Value.bool (by assumption))
    by_cases gc : c = 0
    rotate_left
    · have HR : Hid (rightF p s a b c = false) := by
        refine decide_eq_false ?_
        unfold RightP
        omega
      have eb : (b == 0) = true := beq_iff_eq.2 gb
      clear gb
      have ec : (c == 0) = false := beq_false_of_ne gc
      clear gc
      clear k1
      go_enter Try.func27, Try.ntmps27
      go_wp2_with fail
      go_ret
      refine ⟨?_, HB.out⟩
      rw [HR.out]
      first
        | rfl
        | exact congrArg Ending.returned (congrArg Value.bool (decide_eq_false (by omega)))
        | exact congrArg Ending.returned (congrArg Value.bool (decide_eq_true (by omega)))
        | exact congrArg Ending.returned (congrArg Value.bool (beq_false_of_ne (by omega)))
        | exact congrArg Ending.returned (congrArg Value.bool (beq_iff_eq.2 (by omega)))
        | exact congrArg Ending.returned (congrArg Value.bool (by assumption))
    have HR : Hid (rightF p s a b c = true) := by
      refine decide_eq_true ?_
      unfold RightP
      omega
    have eb : (b == 0) = true := beq_iff_eq.2 gb
    clear gb
    have ec : (c == 0) = true := beq_iff_eq.2 gc
    clear gc
    clear k1
    go_enter Try.func27, Try.ntmps27
    go_wp2_with fail
    go_ret
    refine ⟨?_, HB.out⟩
    rw [HR.out]
    first
      | rfl
      | exact congrArg Ending.returned (congrArg Value.bool (decide_eq_false (by omega)))
      | exact congrArg Ending.returned (congrArg Value.bool (decide_eq_true (by omega)))
      | exact congrArg Ending.returned (congrArg Value.bool (beq_false_of_ne (by omega)))
      | exact congrArg Ending.returned (congrArg Value.bool (beq_iff_eq.2 (by omega)))
      | exact congrArg Ending.returned (congrArg Value.bool (by assumption))
  by_cases k2 : a = 2
  · have q1 : (a == 1) = false := by simp only [beq_eq_false_iff_ne]; omega
    have q2 : (a == 2) = true := by simp only [beq_iff_eq]; omega
    by_cases gb : b < 4
    rotate_left
    · have HR : Hid (rightF p s a b c = false) := by
        refine decide_eq_false ?_
        unfold RightP
        omega
      clear k1 k2
      go_enter Try.func27, Try.ntmps27
      go_wp2_with fail
      go_ret
      refine ⟨?_, HB.out⟩
      rw [HR.out]
      first
        | rfl
        | exact congrArg Ending.returned (congrArg Value.bool (decide_eq_false (by omega)))
        | exact congrArg Ending.returned (congrArg Value.bool (decide_eq_true (by omega)))
        | exact congrArg Ending.returned (congrArg Value.bool (beq_false_of_ne (by omega)))
        | exact congrArg Ending.returned (congrArg Value.bool (beq_iff_eq.2 (by omega)))
        | exact congrArg Ending.returned (congrArg Value.bool (by assumption))
    by_cases gc : c < 33
    rotate_left
    · have HR : Hid (rightF p s a b c = false) := by
        refine decide_eq_false ?_
        unfold RightP
        omega
      clear k1 k2
      go_enter Try.func27, Try.ntmps27
      go_wp2_with fail
      go_ret
      refine ⟨?_, HB.out⟩
      rw [HR.out]
      first
        | rfl
        | exact congrArg Ending.returned (congrArg Value.bool (decide_eq_false (by omega)))
        | exact congrArg Ending.returned (congrArg Value.bool (decide_eq_true (by omega)))
        | exact congrArg Ending.returned (congrArg Value.bool (beq_false_of_ne (by omega)))
        | exact congrArg Ending.returned (congrArg Value.bool (beq_iff_eq.2 (by omega)))
        | exact congrArg Ending.returned (congrArg Value.bool (by assumption))
    have HR : Hid (rightF p s a b c = true) := by
      refine decide_eq_true ?_
      unfold RightP
      omega
    clear k1 k2
    go_enter Try.func27, Try.ntmps27
    go_wp2_with fail
    go_ret
    refine ⟨?_, HB.out⟩
    rw [HR.out]
    first
      | rfl
      | exact congrArg Ending.returned (congrArg Value.bool (decide_eq_false (by omega)))
      | exact congrArg Ending.returned (congrArg Value.bool (decide_eq_true (by omega)))
      | exact congrArg Ending.returned (congrArg Value.bool (beq_false_of_ne (by omega)))
      | exact congrArg Ending.returned (congrArg Value.bool (beq_iff_eq.2 (by omega)))
      | exact congrArg Ending.returned (congrArg Value.bool (by assumption))
  by_cases k3 : a = 3
  · have q1 : (a == 1) = false := by simp only [beq_eq_false_iff_ne]; omega
    have q2 : (a == 2) = false := by simp only [beq_eq_false_iff_ne]; omega
    have q3 : (a == 3) = true := by simp only [beq_iff_eq]; omega
    by_cases gb : b < 3
    rotate_left
    · have HR : Hid (rightF p s a b c = false) := by
        refine decide_eq_false ?_
        unfold RightP
        omega
      clear k1 k2 k3
      go_enter Try.func27, Try.ntmps27
      go_wp2_with fail
      go_ret
      refine ⟨?_, HB.out⟩
      rw [HR.out]
      first
        | rfl
        | exact congrArg Ending.returned (congrArg Value.bool (decide_eq_false (by omega)))
        | exact congrArg Ending.returned (congrArg Value.bool (decide_eq_true (by omega)))
        | exact congrArg Ending.returned (congrArg Value.bool (beq_false_of_ne (by omega)))
        | exact congrArg Ending.returned (congrArg Value.bool (beq_iff_eq.2 (by omega)))
        | exact congrArg Ending.returned (congrArg Value.bool (by assumption))
    by_cases gc : c = 0
    rotate_left
    · have HR : Hid (rightF p s a b c = false) := by
        refine decide_eq_false ?_
        unfold RightP
        omega
      have ec : (c == 0) = false := beq_false_of_ne gc
      clear gc
      clear k1 k2 k3
      go_enter Try.func27, Try.ntmps27
      go_wp2_with fail
      go_ret
      refine ⟨?_, HB.out⟩
      rw [HR.out]
      first
        | rfl
        | exact congrArg Ending.returned (congrArg Value.bool (decide_eq_false (by omega)))
        | exact congrArg Ending.returned (congrArg Value.bool (decide_eq_true (by omega)))
        | exact congrArg Ending.returned (congrArg Value.bool (beq_false_of_ne (by omega)))
        | exact congrArg Ending.returned (congrArg Value.bool (beq_iff_eq.2 (by omega)))
        | exact congrArg Ending.returned (congrArg Value.bool (by assumption))
    have HR : Hid (rightF p s a b c = true) := by
      refine decide_eq_true ?_
      unfold RightP
      omega
    have ec : (c == 0) = true := beq_iff_eq.2 gc
    clear gc
    clear k1 k2 k3
    go_enter Try.func27, Try.ntmps27
    go_wp2_with fail
    go_ret
    refine ⟨?_, HB.out⟩
    rw [HR.out]
    first
      | rfl
      | exact congrArg Ending.returned (congrArg Value.bool (decide_eq_false (by omega)))
      | exact congrArg Ending.returned (congrArg Value.bool (decide_eq_true (by omega)))
      | exact congrArg Ending.returned (congrArg Value.bool (beq_false_of_ne (by omega)))
      | exact congrArg Ending.returned (congrArg Value.bool (beq_iff_eq.2 (by omega)))
      | exact congrArg Ending.returned (congrArg Value.bool (by assumption))
  by_cases k4 : a = 4
  · have q1 : (a == 1) = false := by simp only [beq_eq_false_iff_ne]; omega
    have q2 : (a == 2) = false := by simp only [beq_eq_false_iff_ne]; omega
    have q3 : (a == 3) = false := by simp only [beq_eq_false_iff_ne]; omega
    have q4 : (a == 4) = true := by simp only [beq_iff_eq]; omega
    by_cases gb : b < 3
    rotate_left
    · have HR : Hid (rightF p s a b c = false) := by
        refine decide_eq_false ?_
        unfold RightP
        omega
      clear k1 k2 k3 k4
      go_enter Try.func27, Try.ntmps27
      go_wp2_with fail
      go_ret
      refine ⟨?_, HB.out⟩
      rw [HR.out]
      first
        | rfl
        | exact congrArg Ending.returned (congrArg Value.bool (decide_eq_false (by omega)))
        | exact congrArg Ending.returned (congrArg Value.bool (decide_eq_true (by omega)))
        | exact congrArg Ending.returned (congrArg Value.bool (beq_false_of_ne (by omega)))
        | exact congrArg Ending.returned (congrArg Value.bool (beq_iff_eq.2 (by omega)))
        | exact congrArg Ending.returned (congrArg Value.bool (by assumption))
    by_cases gc : c = 0
    rotate_left
    · have HR : Hid (rightF p s a b c = false) := by
        refine decide_eq_false ?_
        unfold RightP
        omega
      have ec : (c == 0) = false := beq_false_of_ne gc
      clear gc
      clear k1 k2 k3 k4
      go_enter Try.func27, Try.ntmps27
      go_wp2_with fail
      go_ret
      refine ⟨?_, HB.out⟩
      rw [HR.out]
      first
        | rfl
        | exact congrArg Ending.returned (congrArg Value.bool (decide_eq_false (by omega)))
        | exact congrArg Ending.returned (congrArg Value.bool (decide_eq_true (by omega)))
        | exact congrArg Ending.returned (congrArg Value.bool (beq_false_of_ne (by omega)))
        | exact congrArg Ending.returned (congrArg Value.bool (beq_iff_eq.2 (by omega)))
        | exact congrArg Ending.returned (congrArg Value.bool (by assumption))
    have HR : Hid (rightF p s a b c = true) := by
      refine decide_eq_true ?_
      unfold RightP
      omega
    have ec : (c == 0) = true := beq_iff_eq.2 gc
    clear gc
    clear k1 k2 k3 k4
    go_enter Try.func27, Try.ntmps27
    go_wp2_with fail
    go_ret
    refine ⟨?_, HB.out⟩
    rw [HR.out]
    first
      | rfl
      | exact congrArg Ending.returned (congrArg Value.bool (decide_eq_false (by omega)))
      | exact congrArg Ending.returned (congrArg Value.bool (decide_eq_true (by omega)))
      | exact congrArg Ending.returned (congrArg Value.bool (beq_false_of_ne (by omega)))
      | exact congrArg Ending.returned (congrArg Value.bool (beq_iff_eq.2 (by omega)))
      | exact congrArg Ending.returned (congrArg Value.bool (by assumption))
  have q1 : (a == 1) = false := by simp only [beq_eq_false_iff_ne]; omega
  have q2 : (a == 2) = false := by simp only [beq_eq_false_iff_ne]; omega
  have q3 : (a == 3) = false := by simp only [beq_eq_false_iff_ne]; omega
  have q4 : (a == 4) = false := by simp only [beq_eq_false_iff_ne]; omega
  have HR : Hid (rightF p s a b c = false) := by
    refine decide_eq_false ?_
    unfold RightP
    omega
  clear k1 k2 k3 k4
  go_enter Try.func27, Try.ntmps27
  go_wp2_with fail
  go_ret
  refine ⟨?_, HB.out⟩
  rw [HR.out]
  first
    | rfl
    | exact congrArg Ending.returned (congrArg Value.bool (decide_eq_false (by omega)))
    | exact congrArg Ending.returned (congrArg Value.bool (decide_eq_true (by omega)))
    | exact congrArg Ending.returned (congrArg Value.bool (beq_false_of_ne (by omega)))
    | exact congrArg Ending.returned (congrArg Value.bool (beq_iff_eq.2 (by omega)))
    | exact congrArg Ending.returned (congrArg Value.bool (by assumption))
end Go.Proofs.Ytaapiffglfppnaa
