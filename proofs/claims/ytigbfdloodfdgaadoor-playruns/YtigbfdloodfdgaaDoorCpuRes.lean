/- The document's both: its contract; no statement is proved in this text. -/
import Derived.Test.YtigbfdloodfdgaaDoorCpuOps
namespace Go.Proofs.YtigbfdloodfdgaaDoor
open Go.ChangeShapes Go.WideShapes Go.ChangeAt Go.RowKit

theorem div_le16 (a p : Nat) (ha : a < 65536) : a / p < 65536 := Nat.lt_of_le_of_lt (Nat.div_le_self _ _) ha
set_option maxRecDepth 100000 in
set_option maxHeartbeats 1600000 in
theorem both5 (w : World) (a b : Nat) (ha : a < 65536) (hb : b < 65536) : Calls Tryd.prog 51 #[i64 5, i64 a, i64 b] w fun e w' => e = .returned (i64 (opF 5 a b : Nat)) ∧ w' = w := by
  have HL : Hid (opF 5 a b % 2 ^ 16 = opF 5 a b) := Nat.mod_eq_of_lt (opF_lt 5 a b ha hb)
  have HS : Hid (∀ k, opF 5 a b % 2 ^ (k + 1) = opF 5 a b % 2 ^ k + if setB 5 (a / 2 ^ k % 2 + b / 2 ^ k % 2) then 2 ^ k else 0) := fun k => op_step 5 a b k (by omega)
  go_enter Tryd.func51, Tryd.ntmps51
  go_wp2_with fail
  go_loop [7, 8, 9, 10, 11] (fun s i _ _ _ => ∃ k : Nat, k ≤ 16 ∧ i = .int .i64 k ∧ s = .int .i64 (opF 5 a b % 2 ^ k : Nat)) (fun _ i _ _ _ => 16 - (intOf i).toNat)
  case atStart => exact ⟨0, by omega, rfl, by rw [Nat.pow_zero, Nat.mod_one]; rfl⟩
  case round =>
    obtain ⟨k, hk, rfl, rfl⟩ := hrel
    by_cases hkn : k < 16
    · have hp : 0 < 2 ^ k := Nat.two_pow_pos _
      have hp2 : 2 ^ k ≤ 2 ^ 15 := Nat.pow_le_pow_right (by omega) (by omega)
      have HP : Hid (∀ w, Calls Tryd.prog 52 #[i64 k] w fun e w' => e = .returned (i64 (2 ^ k : Nat)) ∧ w' = w) := fun w => power_ok w k (by omega)
      have hs := HS.out k
      have hlt : opF 5 a b % 2 ^ k < 2 ^ k := Nat.mod_lt _ hp
      have e1 : ((a : Int) / ((2 ^ k : Nat) : Int)) = ((a / 2 ^ k : Nat) : Int) := rfl
      have e2 : ((b : Int) / ((2 ^ k : Nat) : Int)) = ((b / 2 ^ k : Nat) : Int) := rfl
      have hda := div_le16 a (2 ^ k) ha
      have hdb := div_le16 b (2 ^ k) hb
      have HS1 : Hid (∃ s1, opF 5 a b % 2 ^ (k + 1) = s1 ∧ s1 = opF 5 a b % 2 ^ k + if setB 5 (a / 2 ^ k % 2 + b / 2 ^ k % 2) then 2 ^ k else 0) := ⟨_, rfl, hs⟩
      clear hs
      generalize opF 5 a b % 2 ^ k = s0 at *
      generalize a / 2 ^ k = x at *
      generalize b / 2 ^ k = y at *
      generalize 2 ^ k = P at *
      have hx2 : x % 2 = 0 ∨ x % 2 = 1 := by omega
      have hy2 : y % 2 = 0 ∨ y % 2 = 1 := by omega
      rcases hx2 with hx | hx <;> rcases hy2 with hy | hy
      all_goals
        have HS2 : Hid (opF 5 a b % 2 ^ (k + 1) = s0 + if setB 5 (x % 2 + y % 2) then P else 0) := by obtain ⟨s1, h1, h2⟩ := HS1.out; rw [h1]; exact h2
        rw [hx, hy] at HS2
        have hxI : (x : Int) % 2 = ((x % 2 : Nat) : Int) := rfl
        have hyI : (y : Int) % 2 = ((y % 2 : Nat) : Int) := rfl
        rw [hx] at hxI
        rw [hy] at hyI
        clear hx hy HS1
        go_wp2_with (go_at_call 52; refine (HP.out _).mono ?_; rintro e w1 ⟨rfl, rfl⟩)
        exact ⟨⟨k + 1, by omega, by go_num, congrArg (Value.int .i64) (by rw [HS2.out]; simp [setB])⟩, by simp [intOf]; omega⟩
    · obtain rfl : k = 16 := by omega
      rw [HL.out]
      go_wp2_with fail
      go_ret
      exact ⟨rfl, rfl⟩
set_option maxRecDepth 100000 in
set_option maxHeartbeats 1600000 in
theorem both6 (w : World) (a b : Nat) (ha : a < 65536) (hb : b < 65536) : Calls Tryd.prog 51 #[i64 6, i64 a, i64 b] w fun e w' => e = .returned (i64 (opF 6 a b : Nat)) ∧ w' = w := by
  have HL : Hid (opF 6 a b % 2 ^ 16 = opF 6 a b) := Nat.mod_eq_of_lt (opF_lt 6 a b ha hb)
  have HS : Hid (∀ k, opF 6 a b % 2 ^ (k + 1) = opF 6 a b % 2 ^ k + if setB 6 (a / 2 ^ k % 2 + b / 2 ^ k % 2) then 2 ^ k else 0) := fun k => op_step 6 a b k (by omega)
  go_enter Tryd.func51, Tryd.ntmps51
  go_wp2_with fail
  go_loop [7, 8, 9, 10, 11] (fun s i _ _ _ => ∃ k : Nat, k ≤ 16 ∧ i = .int .i64 k ∧ s = .int .i64 (opF 6 a b % 2 ^ k : Nat)) (fun _ i _ _ _ => 16 - (intOf i).toNat)
  case atStart => exact ⟨0, by omega, rfl, by rw [Nat.pow_zero, Nat.mod_one]; rfl⟩
  case round =>
    obtain ⟨k, hk, rfl, rfl⟩ := hrel
    by_cases hkn : k < 16
    · have hp : 0 < 2 ^ k := Nat.two_pow_pos _
      have hp2 : 2 ^ k ≤ 2 ^ 15 := Nat.pow_le_pow_right (by omega) (by omega)
      have HP : Hid (∀ w, Calls Tryd.prog 52 #[i64 k] w fun e w' => e = .returned (i64 (2 ^ k : Nat)) ∧ w' = w) := fun w => power_ok w k (by omega)
      have hs := HS.out k
      have hlt : opF 6 a b % 2 ^ k < 2 ^ k := Nat.mod_lt _ hp
      have e1 : ((a : Int) / ((2 ^ k : Nat) : Int)) = ((a / 2 ^ k : Nat) : Int) := rfl
      have e2 : ((b : Int) / ((2 ^ k : Nat) : Int)) = ((b / 2 ^ k : Nat) : Int) := rfl
      have hda := div_le16 a (2 ^ k) ha
      have hdb := div_le16 b (2 ^ k) hb
      have HS1 : Hid (∃ s1, opF 6 a b % 2 ^ (k + 1) = s1 ∧ s1 = opF 6 a b % 2 ^ k + if setB 6 (a / 2 ^ k % 2 + b / 2 ^ k % 2) then 2 ^ k else 0) := ⟨_, rfl, hs⟩
      clear hs
      generalize opF 6 a b % 2 ^ k = s0 at *
      generalize a / 2 ^ k = x at *
      generalize b / 2 ^ k = y at *
      generalize 2 ^ k = P at *
      have hx2 : x % 2 = 0 ∨ x % 2 = 1 := by omega
      have hy2 : y % 2 = 0 ∨ y % 2 = 1 := by omega
      rcases hx2 with hx | hx <;> rcases hy2 with hy | hy
      all_goals
        have HS2 : Hid (opF 6 a b % 2 ^ (k + 1) = s0 + if setB 6 (x % 2 + y % 2) then P else 0) := by obtain ⟨s1, h1, h2⟩ := HS1.out; rw [h1]; exact h2
        rw [hx, hy] at HS2
        have hxI : (x : Int) % 2 = ((x % 2 : Nat) : Int) := rfl
        have hyI : (y : Int) % 2 = ((y % 2 : Nat) : Int) := rfl
        rw [hx] at hxI
        rw [hy] at hyI
        clear hx hy HS1
        go_wp2_with (go_at_call 52; refine (HP.out _).mono ?_; rintro e w1 ⟨rfl, rfl⟩)
        exact ⟨⟨k + 1, by omega, by go_num, congrArg (Value.int .i64) (by rw [HS2.out]; simp [setB])⟩, by simp [intOf]; omega⟩
    · obtain rfl : k = 16 := by omega
      rw [HL.out]
      go_wp2_with fail
      go_ret
      exact ⟨rfl, rfl⟩
set_option maxRecDepth 100000 in
set_option maxHeartbeats 1600000 in
theorem both7 (w : World) (a b : Nat) (ha : a < 65536) (hb : b < 65536) : Calls Tryd.prog 51 #[i64 7, i64 a, i64 b] w fun e w' => e = .returned (i64 (opF 7 a b : Nat)) ∧ w' = w := by
  have HL : Hid (opF 7 a b % 2 ^ 16 = opF 7 a b) := Nat.mod_eq_of_lt (opF_lt 7 a b ha hb)
  have HS : Hid (∀ k, opF 7 a b % 2 ^ (k + 1) = opF 7 a b % 2 ^ k + if setB 7 (a / 2 ^ k % 2 + b / 2 ^ k % 2) then 2 ^ k else 0) := fun k => op_step 7 a b k (by omega)
  go_enter Tryd.func51, Tryd.ntmps51
  go_wp2_with fail
  go_loop [7, 8, 9, 10, 11] (fun s i _ _ _ => ∃ k : Nat, k ≤ 16 ∧ i = .int .i64 k ∧ s = .int .i64 (opF 7 a b % 2 ^ k : Nat)) (fun _ i _ _ _ => 16 - (intOf i).toNat)
  case atStart => exact ⟨0, by omega, rfl, by rw [Nat.pow_zero, Nat.mod_one]; rfl⟩
  case round =>
    obtain ⟨k, hk, rfl, rfl⟩ := hrel
    by_cases hkn : k < 16
    · have hp : 0 < 2 ^ k := Nat.two_pow_pos _
      have hp2 : 2 ^ k ≤ 2 ^ 15 := Nat.pow_le_pow_right (by omega) (by omega)
      have HP : Hid (∀ w, Calls Tryd.prog 52 #[i64 k] w fun e w' => e = .returned (i64 (2 ^ k : Nat)) ∧ w' = w) := fun w => power_ok w k (by omega)
      have hs := HS.out k
      have hlt : opF 7 a b % 2 ^ k < 2 ^ k := Nat.mod_lt _ hp
      have e1 : ((a : Int) / ((2 ^ k : Nat) : Int)) = ((a / 2 ^ k : Nat) : Int) := rfl
      have e2 : ((b : Int) / ((2 ^ k : Nat) : Int)) = ((b / 2 ^ k : Nat) : Int) := rfl
      have hda := div_le16 a (2 ^ k) ha
      have hdb := div_le16 b (2 ^ k) hb
      have HS1 : Hid (∃ s1, opF 7 a b % 2 ^ (k + 1) = s1 ∧ s1 = opF 7 a b % 2 ^ k + if setB 7 (a / 2 ^ k % 2 + b / 2 ^ k % 2) then 2 ^ k else 0) := ⟨_, rfl, hs⟩
      clear hs
      generalize opF 7 a b % 2 ^ k = s0 at *
      generalize a / 2 ^ k = x at *
      generalize b / 2 ^ k = y at *
      generalize 2 ^ k = P at *
      have hx2 : x % 2 = 0 ∨ x % 2 = 1 := by omega
      have hy2 : y % 2 = 0 ∨ y % 2 = 1 := by omega
      rcases hx2 with hx | hx <;> rcases hy2 with hy | hy
      all_goals
        have HS2 : Hid (opF 7 a b % 2 ^ (k + 1) = s0 + if setB 7 (x % 2 + y % 2) then P else 0) := by obtain ⟨s1, h1, h2⟩ := HS1.out; rw [h1]; exact h2
        rw [hx, hy] at HS2
        have hxI : (x : Int) % 2 = ((x % 2 : Nat) : Int) := rfl
        have hyI : (y : Int) % 2 = ((y % 2 : Nat) : Int) := rfl
        rw [hx] at hxI
        rw [hy] at hyI
        clear hx hy HS1
        go_wp2_with (go_at_call 52; refine (HP.out _).mono ?_; rintro e w1 ⟨rfl, rfl⟩)
        exact ⟨⟨k + 1, by omega, by go_num, congrArg (Value.int .i64) (by rw [HS2.out]; simp [setB])⟩, by simp [intOf]; omega⟩
    · obtain rfl : k = 16 := by omega
      rw [HL.out]
      go_wp2_with fail
      go_ret
      exact ⟨rfl, rfl⟩
end Go.Proofs.YtigbfdloodfdgaaDoor
