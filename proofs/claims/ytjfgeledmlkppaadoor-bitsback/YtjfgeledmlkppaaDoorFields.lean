/- bits' and imagoref01's calls on fields: Cut, Put and what they call: their contracts; no statement is proved in this text. -/
import Derived.Test.YtjfgeledmlkppaaDoorWords
namespace Go.Proofs.YtjfgeledmlkppaaDoor
open Go.ChangeShapes Go.WideShapes Go.ChangeAt Go.RowKit

set_option maxHeartbeats 400000 in
theorem mask_ok (w : World) (k : Nat) (hk : k ≤ 32) : Calls Tryd.prog 30 #[.int .i64 k] w fun e w' => e = .returned (.int .u64 (2 ^ k - 1 : Nat)) ∧ w' = w := by
  have h2 : IntKind.u64.wrap ((2 : Int) ^ k) = (2 : Int) ^ k := by
    have h1 : 2 ^ k ≤ 2 ^ 32 := Nat.pow_le_pow_right (by omega) hk
    rw [pow_cast, IntKind.wrap_u64]
    generalize 2 ^ k = p at *
    omega
  go_enter Tryd.func30, Tryd.ntmps30
  go_wp2
  go_ret
  exact ⟨congrArg (fun n => Ending.returned (Value.int .u64 n)) (mask_num k (by omega)), rfl⟩
/-- Is there such a field? -/
def isF (from_ width : Int) : Bool := decide (1 ≤ width ∧ width ≤ 32 ∧ 0 ≤ from_ ∧ from_ ≤ 64 - width)

set_option maxHeartbeats 400000 in
theorem isField_ok (w : World) (f d : Int) (hf : (Lit.int .i64 f).wf = true) (hd : (Lit.int .i64 d).wf = true) : Calls Tryd.prog 29 #[.int .i64 f, .int .i64 d] w fun e w' => e = .returned (.bool (isF f d)) ∧ w' = w := by
  have b1 := bounds_i64 hf
  have b2 := bounds_i64 hd
  by_cases h1 : d < 1
  · go_enter Tryd.func29, Tryd.ntmps29
    go_wp2
    go_ret
    exact ⟨by simp [isF]; omega, rfl⟩
  · by_cases h2 : 32 < d
    · go_enter Tryd.func29, Tryd.ntmps29
      go_wp2
      go_ret
      exact ⟨by simp [isF]; omega, rfl⟩
    · by_cases h3 : 0 ≤ f
      · have h4 : decide (f ≤ 64 - d) = isF f d := by unfold isF; rw [decide_eq_decide]; omega
        go_enter Tryd.func29, Tryd.ntmps29
        go_wp2
        go_ret
        exact ⟨rfl, rfl⟩
      · go_enter Tryd.func29, Tryd.ntmps29
        go_wp2
        go_ret
        exact ⟨by simp [isF]; omega, rfl⟩

set_option maxHeartbeats 400000 in
theorem rfield_ok (w : World) (f d : Int) (hf : (Lit.int .i64 f).wf = true) (hd : (Lit.int .i64 d).wf = true) : Calls Tryd.prog 31 #[.int .i64 f, .int .i64 d] w fun e w' => e = .returned (.bool (isF f d)) ∧ w' = w := by
  have b1 := bounds_i64 hf
  have b2 := bounds_i64 hd
  by_cases h1 : 0 < d
  · by_cases h2 : d < 33
    · by_cases h3 : 0 ≤ f
      · by_cases h4 : f < 64
        · have h5 : decide (f ≤ 64 - d) = isF f d := by unfold isF; rw [decide_eq_decide]; omega
          go_enter Tryd.func31, Tryd.ntmps31
          go_wp2
          go_ret
          exact ⟨rfl, rfl⟩
        · go_enter Tryd.func31, Tryd.ntmps31
          go_wp2
          go_ret
          exact ⟨by simp [isF]; omega, rfl⟩
      · go_enter Tryd.func31, Tryd.ntmps31
        go_wp2
        go_ret
        exact ⟨by simp [isF]; omega, rfl⟩
    · go_enter Tryd.func31, Tryd.ntmps31
      go_wp2
      go_ret
      exact ⟨by simp [isF]; omega, rfl⟩
  · go_enter Tryd.func31, Tryd.ntmps31
    go_wp2
    go_ret
    exact ⟨by simp [isF]; omega, rfl⟩

set_option maxHeartbeats 400000 in
theorem fits_ok (w : World) (v k : Nat) (hv : v < 4294967296) (hk : k ≤ 32) : Calls Tryd.prog 33 #[.int .u32 v, .int .i64 k] w fun e w' => e = .returned (.bool (decide (v < 2 ^ k))) ∧ w' = w := by
  have h0 : 0 < 2 ^ k := Nat.two_pow_pos _
  have h1 : 2 ^ k ≤ 2 ^ 32 := Nat.pow_le_pow_right (by omega) hk
  go_enter Tryd.func33, Tryd.ntmps33
  go_wp2_with (go_at_call 30; refine (mask_ok _ k hk).mono ?_; rintro e w1 ⟨rfl, rfl⟩)
  go_ret
  refine ⟨congrArg (fun b => Ending.returned (Value.bool b)) ?_, rfl⟩
  generalize 2 ^ k = p at *
  simp
  omega

set_option maxHeartbeats 400000 in
theorem cut_no (w : World) (n f d : Int) (hf : (Lit.int .i64 f).wf = true) (hd : (Lit.int .i64 d).wf = true) (h : isF f d = false) : Calls Tryd.prog 9 #[.int .u64 n, .int .i64 f, .int .i64 d] w fun e w' => e = .returned (.tuple #[.int .u32 0, .int .i64 1]) ∧ w' = w := by
  go_enter Tryd.func9, Tryd.ntmps9
  go_wp2_with (go_at_call 29; refine (isField_ok _ _ _ hf hd).mono ?_; rintro e w1 ⟨rfl, rfl⟩)
  go_ret2
  exact ⟨rfl, rfl⟩
set_option maxHeartbeats 400000 in
theorem cut_ok (w : World) (n f d : Nat) (hn : n < 18446744073709551616) (hf : f + d ≤ 64) (hd1 : 1 ≤ d) (hd : d ≤ 32) : Calls Tryd.prog 9 #[.int .u64 n, .int .i64 f, .int .i64 d] w fun e w' => e = .returned (.tuple #[.int .u32 (n / 2 ^ f % 2 ^ d : Nat), .int .i64 0]) ∧ ∃ m, w' = w.drewN m := by
  have h : isF f d = true := by simp [isF]; omega
  go_enter Tryd.func9, Tryd.ntmps9
  go_wp2_with (go_at_call 29; refine (isField_ok _ _ _ (by simp [Lit.wf, IntKind.min, IntKind.max, IntKind.signed, IntKind.bits]; omega) (by simp [Lit.wf, IntKind.min, IntKind.max, IntKind.signed, IntKind.bits]; omega)).mono ?_; rintro e w1 ⟨rfl, rfl⟩)
  go_quiet ((go_at_call 30; exact Calls.quiet_of_same (mask_ok _ d hd)))
  go_wp2
  go_ret2
  exact ⟨congrArg (fun n => Ending.returned (Value.tuple #[Value.int .u32 n, Value.int .i64 0])) (cut_num n f d hn hd), nq, rfl⟩

theorem sf1 : (4660 / 2 ^ 4 % 2 ^ 8 : Nat) = 35 := by decide
theorem sf2 : sgn 65535 = -1 := by decide
theorem sf3 : turnN ((1 : Int) % 16).toNat 32769 = 3 := by decide
theorem sf4 : popN 16 7 = 3 := by decide

theorem Tab.drewN {w : World} (h : Tab w) (n : Nat) : Tab (w.drewN n) := fun i hi => by simpa using h i hi
theorem Tab.below {w w' : World} (h : Tab w) (hb : Below w.heap.size w w') : Tab w' := fun i hi => by
  rw [hb.cell (World.block_lt_of_cell? w _ (h i hi))]; exact h i hi

set_option maxHeartbeats 800000 in
theorem few_ok (w : World) (ht : Tab w) : Calls Tryd.prog 13 #[] w fun e w' => e = .returned (.bool true) ∧ Below w.heap.size w w' := by
  have HT : Hid (Tab w) := ht
  clear ht
  go_enter Tryd.func13, Tryd.ntmps13
  go_wp2_with fail
  refine (cut_ok w 4660 4 8 (by omega) (by omega) (by omega) (by omega)).mono ?_
  rintro e w1 ⟨he, m, rfl⟩
  rw [sf1] at he
  subst he
  go_wp2_with fail
  refine (signed_ok _ 65535 (by omega)).mono ?_
  rintro e w2 ⟨he, rfl⟩
  rw [sf2] at he
  subst he
  go_wp2_with fail
  refine (turn_ok _ 32769 1 (by omega)).mono ?_
  rintro e w3 ⟨he, m2, rfl⟩
  rw [sf3] at he
  subst he
  go_wp2_with fail
  refine (ones_ok _ 7 (by omega) (HT.out.drewN (m + m2))).mono ?_
  rintro e w4 ⟨he, rfl⟩
  rw [sf4] at he
  subst he
  go_wp2_with fail
  go_ret
  exact ⟨rfl, below_drewN (Below.refl _ _) _⟩
end Go.Proofs.YtjfgeledmlkppaaDoor
