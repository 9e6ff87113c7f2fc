/- What a capability may be, by the program and by the document; a place that is free; no statement is proved in this text. -/
import Derived.Test.YtnknhencobhjdaaBase
namespace Go.Proofs.Ytnknhencobhjdaa.Cp
open Go.ChangeShapes Go.WideShapes Go.ChangeAt Go.RowKit
attribute [local go_sem ↓] Go.wp_at_zero Go.wp_at_succ

structure Cp where
  env : Int
  kind : Int
  num : Int
  rts : Int
deriving DecidableEq
abbrev Cp.v (c : Cp) : Value := .agg #[i64 c.env, i64 c.kind, i64 c.num, i64 c.rts]
def envB (n : Int) : Bool := decide (1 ≤ n ∧ n ≤ 3)
def rightB (c : Cp) : Bool := decide (1 ≤ c.env ∧ c.env ≤ 3 ∧ 1 ≤ c.kind ∧ c.kind ≤ 3 ∧ 0 ≤ c.num ∧ c.num ≤ 63 ∧ 1 ≤ c.rts ∧ c.rts ≤ 3)
theorem hid {p : Prop} (h : p) : Hid p := h
theorem below_one (w : World) (o : Obj) : Below w.heap.size w (w.alloc o) := (Below.refl _ _).alloc (Nat.le_refl _) _
theorem isEnv_ok (w : World) (n : Int) : Calls Try.prog 86 #[i64 n] w fun e w' => e = .returned (.bool (envB n)) ∧ w' = w := by
  unfold envB
  by_cases h1 : 1 ≤ n
  · by_cases h2 : n ≤ 3
    · rw [decide_eq_true ⟨h1, h2⟩]
      go_enter Try.func86, Try.ntmps86
      go_wp2_with fail
      go_ret
      simp
    · rw [decide_eq_false (fun h => h2 h.2)]
      go_enter Try.func86, Try.ntmps86
      go_wp2_with fail
      go_ret
      simp
  · rw [decide_eq_false (fun h => h1 h.1)]
    go_enter Try.func86, Try.ntmps86
    go_wp2_with fail
    go_ret
    exact ⟨rfl, rfl⟩
theorem areRights_ok (w : World) (n : Int) : Calls Try.prog 87 #[i64 n] w fun e w' => e = .returned (.bool (envB n)) ∧ w' = w := by
  unfold envB
  by_cases h1 : 1 ≤ n
  · by_cases h2 : n ≤ 3
    · rw [decide_eq_true ⟨h1, h2⟩]
      go_enter Try.func87, Try.ntmps87
      go_wp2_with fail
      go_ret
      simp
    · rw [decide_eq_false (fun h => h2 h.2)]
      go_enter Try.func87, Try.ntmps87
      go_wp2_with fail
      go_ret
      simp
  · rw [decide_eq_false (fun h => h1 h.1)]
    go_enter Try.func87, Try.ntmps87
    go_wp2_with fail
    go_ret
    exact ⟨rfl, rfl⟩
set_option maxRecDepth 100000 in
set_option maxHeartbeats 1600000 in
theorem right_ok (w : World) (c : Cp) : Calls Try.prog 96 #[c.v] w fun e w' => e = .returned (.bool (rightB c)) ∧ Below w.heap.size w w' := by
  obtain ⟨a, k, n, r⟩ := c
  have HE := hid (isEnv_ok (w.alloc (.cells #[i64 a, i64 k, i64 n, i64 r] 108)) a)
  have HA := hid (areRights_ok (w.alloc (.cells #[i64 a, i64 k, i64 n, i64 r] 108)) r)
  have hr : rightB ⟨a, k, n, r⟩ = (envB a && decide (1 ≤ k) && decide (k ≤ 3) && decide (0 ≤ n) && decide (n ≤ 63) && envB r) := by
    unfold rightB envB
    simp only [← Bool.decide_and, and_assoc]
  rw [hr]
  generalize envB a = A at *
  generalize envB r = B at *
  unfold Cp.v
  cases A
  · simp only [Bool.false_and]
    go_enter Try.func96, Try.ntmps96
    go_wp2_with (first | (go_at_call 86; refine HE.out.mono ?_; rintro e v' ⟨rfl, rfl⟩) | (go_at_call 87; refine HA.out.mono ?_; rintro e v' ⟨rfl, rfl⟩))
    go_ret
    exact ⟨rfl, below_one w _⟩
  · by_cases h1 : 1 ≤ k
    · by_cases h2 : k ≤ 3
      · by_cases h3 : 0 ≤ n
        · by_cases h4 : n ≤ 63
          · simp only [h1, h2, h3, h4, Bool.true_and, decide_true]
            go_enter Try.func96, Try.ntmps96
            go_wp2_with (first | (go_at_call 86; refine HE.out.mono ?_; rintro e v' ⟨rfl, rfl⟩) | (go_at_call 87; refine HA.out.mono ?_; rintro e v' ⟨rfl, rfl⟩))
            go_ret
            first | exact ⟨rfl, below_one w _⟩ | exact ⟨by simp, below_one w _⟩
          · simp only [h1, h2, h3, h4, Bool.true_and, decide_false, decide_true, Bool.false_and, Bool.and_false]
            go_enter Try.func96, Try.ntmps96
            go_wp2_with (first | (go_at_call 86; refine HE.out.mono ?_; rintro e v' ⟨rfl, rfl⟩) | (go_at_call 87; refine HA.out.mono ?_; rintro e v' ⟨rfl, rfl⟩))
            go_ret
            first | exact ⟨rfl, below_one w _⟩ | exact ⟨by simp, below_one w _⟩
        · simp only [h1, h2, h3, Bool.true_and, decide_false, decide_true, Bool.false_and, Bool.and_false]
          go_enter Try.func96, Try.ntmps96
          go_wp2_with (first | (go_at_call 86; refine HE.out.mono ?_; rintro e v' ⟨rfl, rfl⟩) | (go_at_call 87; refine HA.out.mono ?_; rintro e v' ⟨rfl, rfl⟩))
          go_ret
          first | exact ⟨rfl, below_one w _⟩ | exact ⟨by simp, below_one w _⟩
      · simp only [h1, h2, Bool.true_and, decide_false, decide_true, Bool.false_and, Bool.and_false]
        go_enter Try.func96, Try.ntmps96
        go_wp2_with (first | (go_at_call 86; refine HE.out.mono ?_; rintro e v' ⟨rfl, rfl⟩) | (go_at_call 87; refine HA.out.mono ?_; rintro e v' ⟨rfl, rfl⟩))
        go_ret
        first | exact ⟨rfl, below_one w _⟩ | exact ⟨by simp, below_one w _⟩
    · simp only [h1, decide_false, Bool.false_and, Bool.and_false]
      go_enter Try.func96, Try.ntmps96
      go_wp2_with (first | (go_at_call 86; refine HE.out.mono ?_; rintro e v' ⟨rfl, rfl⟩) | (go_at_call 87; refine HA.out.mono ?_; rintro e v' ⟨rfl, rfl⟩))
      go_ret
      first | exact ⟨rfl, below_one w _⟩ | exact ⟨by simp, below_one w _⟩
end Go.Proofs.Ytnknhencobhjdaa.Cp
