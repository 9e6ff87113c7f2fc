/- The document's Is: its contract; no statement is proved in this text. -/
import Derived.Test.YtobkehlkopkaeaaDoorSmall
namespace Go.Proofs.YtobkehlkopkaeaaDoor
open Go.ChangeShapes Go.WideShapes Go.ChangeAt Go.RowKit
set_option maxRecDepth 100000

/-- The five shapes. -/
theorem cls : ∀ k : Nat, k < 21 → (rg k = 0 ∧ nb k = 0) ∨ (rg k = 1 ∧ nb k = 2) ∨ (rg k = 2 ∧ nb k = 0) ∨ (rg k = 0 ∧ nb k = 2) ∨ (rg k = 0 ∧ nb k = 1) := by decide
theorem rgI_nat {k : Nat} (h : k < 21) : rgI (k : Int) = (rg k : Nat) := by unfold rgI; rw [if_pos (by omega), Int.toNat_natCast]
theorem nbI_nat {k : Nat} (h : k < 21) : nbI (k : Int) = (nb k : Nat) := by unfold nbI; rw [if_pos (by omega), Int.toNat_natCast]
theorem isI_off {i : In} (h : i.a < 0 ∨ 7 < i.a ∨ i.b < 0 ∨ 7 < i.b ∨ i.n < 0) : isI i = false := by
  unfold isI
  exact decide_eq_false (fun hh => by omega)
theorem below_one (w : World) (o : Obj) : Below w.heap.size w (w.alloc o) := (Below.refl _ _).alloc (Nat.le_refl _) o

set_option maxHeartbeats 800000 in
theorem is_op (w : World) (i : In) (h : ¬ (0 ≤ i.op ∧ i.op ≤ 20)) : Calls Tryd.prog 37 #[inV i] w fun e w' => e = .returned (.bool false) ∧ Below w.heap.size w w' := by
  have hr : rgI i.op = -1 := by unfold rgI; rw [if_neg h]
  have HR : Hid (rgI i.op = -1) := hr
  clear hr h
  go_enter Tryd.func37, Tryd.ntmps37
  go_wp2_with fail
  refine (regs_ok _ _).mono ?_
  rintro e w1 ⟨he, rfl⟩
  rw [HR.out] at he
  subst he
  go_wp2_with fail
  go_ret
  exact ⟨rfl, below_one _ _⟩
set_option maxHeartbeats 800000 in
theorem is_off (w : World) (k : Nat) (a b n : Int) (hk : k < 21) (h : a < 0 ∨ 7 < a ∨ b < 0 ∨ 7 < b ∨ n < 0) : Calls Tryd.prog 37 #[inV ⟨k, a, b, n⟩] w fun e w' => e = .returned (.bool false) ∧ Below w.heap.size w w' := by
  have HR : Hid (∀ w, Calls Tryd.prog 57 #[i64 (k : Int)] w fun e w' => e = .returned (i64 (rg k : Nat)) ∧ w' = w) := fun w => by rw [← rgI_nat hk]; exact regs_ok w _
  generalize rg k = r at *
  have h5 : (a < 0) ∨ (¬ a < 0 ∧ 7 < a) ∨ (¬ a < 0 ∧ ¬ 7 < a ∧ b < 0) ∨ (¬ a < 0 ∧ ¬ 7 < a ∧ ¬ b < 0 ∧ 7 < b) ∨ (¬ a < 0 ∧ ¬ 7 < a ∧ ¬ b < 0 ∧ ¬ 7 < b ∧ n < 0) := by omega
  clear h
  rcases h5 with h1 | ⟨h1, h2⟩ | ⟨h1, h2, h3⟩ | ⟨h1, h2, h3, h4⟩ | ⟨h1, h2, h3, h4, h5⟩
  all_goals
    go_enter Tryd.func37, Tryd.ntmps37
    go_wp2_with fail
    refine (HR.out _).mono ?_
    rintro e w1 ⟨rfl, rfl⟩
    go_wp2_with fail
    go_ret
    exact ⟨rfl, below_one _ _⟩
set_option maxHeartbeats 3200000 in
theorem is_in (w : World) (k : Nat) (a b n : Int) (hk : k < 21) (ha : 0 ≤ a) (ha7 : a ≤ 7) (hb : 0 ≤ b) (hb7 : b ≤ 7) (hn : 0 ≤ n) : Calls Tryd.prog 37 #[inV ⟨k, a, b, n⟩] w fun e w' => e = .returned (.bool (isI ⟨k, a, b, n⟩)) ∧ Below w.heap.size w w' := by
  have HR : Hid (∀ w, Calls Tryd.prog 57 #[i64 (k : Int)] w fun e w' => e = .returned (i64 (rg k : Nat)) ∧ w' = w) := fun w => by rw [← rgI_nat hk]; exact regs_ok w _
  have HM : Hid (∀ w, Calls Tryd.prog 58 #[i64 (k : Int)] w fun e w' => e = .returned (i64 (nb k : Nat)) ∧ w' = w) := fun w => by rw [← nbI_nat hk]; exact num_calls w _
  have hc := cls k hk
  have hI : isI ⟨k, a, b, n⟩ = ((decide (rg k = 0 → a = 0)) && (decide (rg k ≤ 1 → b = 0) && decide (n < 256 ^ nb k))) := by
    unfold isI
    rw [Bool.eq_iff_iff]
    simp
    omega
  have HI : Hid (isI ⟨k, a, b, n⟩ = ((decide (rg k = 0 → a = 0)) && (decide (rg k ≤ 1 → b = 0) && decide (n < 256 ^ nb k)))) := hI
  clear hI
  generalize isI ⟨k, a, b, n⟩ = R at *
  generalize rg k = r at *
  generalize nb k = m at *
  obtain ⟨X, hX⟩ : ∃ X, (a == 0) = X := ⟨_, rfl⟩
  obtain ⟨Y, hY⟩ : ∃ Y, (b == 0) = Y := ⟨_, rfl⟩
  have HX : Hid ((a == 0) = X) := hX
  have HY : Hid ((b == 0) = Y) := hY
  rcases hc with ⟨rfl, rfl⟩ | ⟨rfl, rfl⟩ | ⟨rfl, rfl⟩ | ⟨rfl, rfl⟩ | ⟨rfl, rfl⟩
  all_goals
    cases X <;> cases Y
    all_goals
      go_enter Tryd.func37, Tryd.ntmps37
      go_wp2_with (first | (go_at_call 57; refine (HR.out _).mono ?_; rintro e w1 ⟨rfl, rfl⟩) | (go_at_call 58; refine (HM.out _).mono ?_; rintro e w1 ⟨rfl, rfl⟩))
      go_ret
      refine ⟨congrArg (fun b => Ending.returned (Value.bool b)) ?_, below_one _ _⟩
      have hX' := HX.out
      have hY' := HY.out
      rw [HI.out]
      simp at hX' hY'
      simp [hX', hY']
      try omega
theorem is_ok (w : World) (i : In) : Calls Tryd.prog 37 #[inV i] w fun e w' => e = .returned (.bool (isI i)) ∧ Below w.heap.size w w' := by
  by_cases h : 0 ≤ i.op ∧ i.op ≤ 20
  · obtain ⟨op, a, b, n⟩ := i
    obtain ⟨k, rfl⟩ := Int.eq_ofNat_of_zero_le h.1
    by_cases h2 : a < 0 ∨ 7 < a ∨ b < 0 ∨ 7 < b ∨ n < 0
    · rw [isI_off h2]
      exact is_off w k a b n (by have := h.2; simp only at this; omega) h2
    · exact is_in w k a b n (by have := h.2; simp only at this; omega) (by omega) (by omega) (by omega) (by omega) (by omega)
  · rw [isI_no h]
    exact is_op w i h
end Go.Proofs.YtobkehlkopkaeaaDoor
