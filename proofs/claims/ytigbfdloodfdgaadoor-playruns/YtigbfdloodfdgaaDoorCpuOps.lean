/- cpu's and the document's small functions: their contracts; no statement is proved in this text. -/
import Derived.Test.YtigbfdloodfdgaaDoorRAt
import Derived.Test.YtigbfdloodfdgaaDoorCpuPure
namespace Go.Proofs.YtigbfdloodfdgaaDoor
open Go.ChangeShapes Go.WideShapes Go.ChangeAt Go.RowKit

theorem wrap_u16' (n : Int) : IntKind.u16.wrap n = n % 65536 := by simp [IntKind.wrap, IntKind.bits, IntKind.signed]
theorem tmod_two (v m : Int) : v.tmod m = if 0 ≤ v then v % m else -((-v) % m) := by
  split
  · rw [Int.tmod_eq_emod_of_nonneg ‹_›]
  · rw [← Int.neg_neg (v.tmod m), ← Int.neg_tmod, Int.tmod_eq_emod_of_nonneg (by omega)]
abbrev u16 (n : Int) : Value := .int .u16 n
theorem and15_i64 (b : Nat) (hb : b < 65536) : bits BinOp.and IntKind.i64 (b : Int) 15 = ((b % 16 : Nat) : Int) := by
  have := bits_mask IntKind.i64 63 (by decide) (fun n h0 h1 => by simp [IntKind.wrap, IntKind.bits, IntKind.signed]; omega) 4 (by decide) (b : Int) (by omega) (by omega)
  rw [show (15 : Int) = 2 ^ 4 - 1 by decide, this]
  omega
theorem and255_i64 (b : Nat) (hb : b < 65536) : bits BinOp.and IntKind.i64 (b : Int) 255 = ((b % 256 : Nat) : Int) := by
  have := bits_mask IntKind.i64 63 (by decide) (fun n h0 h1 => by simp [IntKind.wrap, IntKind.bits, IntKind.signed]; omega) 8 (by decide) (b : Int) (by omega) (by omega)
  rw [show (255 : Int) = 2 ^ 8 - 1 by decide, this]
  omega
theorem wraps_i64 (n : Int) (h0 : 0 ≤ n) (h1 : n < 2 ^ 63) : IntKind.i64.wrap n = n := by simp [IntKind.wrap, IntKind.bits, IntKind.signed]; omega
theorem and_i64 (a b : Nat) (ha : a < 65536) (hb : b < 65536) : bits BinOp.and IntKind.i64 (a : Int) (b : Int) = ((a &&& b : Nat) : Int) :=
  (bits_nat IntKind.i64 63 (by decide) wraps_i64 a b (by omega) (by omega)).1
theorem or_i64 (a b : Nat) (ha : a < 65536) (hb : b < 65536) : bits BinOp.or IntKind.i64 (a : Int) (b : Int) = ((a ||| b : Nat) : Int) :=
  (bits_nat IntKind.i64 63 (by decide) wraps_i64 a b (by omega) (by omega)).2
theorem xor_i64 (a b : Nat) (ha : a < 65536) (hb : b < 65536) : bits BinOp.xor IntKind.i64 (a : Int) (b : Int) = ((a ^^^ b : Nat) : Int) := by
  have h := opF_lt 7 a b ha hb
  simp only [opF] at h
  simp only [bits, BitVec.ofInt_natCast, BitVec.toNat_xor, BitVec.toNat_ofNat]
  rw [Nat.mod_eq_of_lt (Nat.lt_trans ha (by decide)), Nat.mod_eq_of_lt (Nat.lt_trans hb (by decide))]
  refine wraps_i64 _ (by omega) ?_
  simp at h
  omega

set_option maxHeartbeats 400000 in
theorem word_ok (w : World) (v : Int) : Calls Tryd.prog 33 #[i64 v] w fun e w' => e = .returned (u16 (wd v : Nat)) ∧ w' = w := by
  go_enter Tryd.func33, Tryd.ntmps33
  go_wp2
  go_ret
  exact ⟨congrArg (fun n => Ending.returned (Value.int .u16 n)) (by rw [wrap_u16']; unfold wd; omega), rfl⟩
set_option maxHeartbeats 400000 in
theorem rword_ok (w : World) (v : Int) : Calls Tryd.prog 37 #[i64 v] w fun e w' => e = .returned (u16 (wd v : Nat)) ∧ w' = w := by
  have hmod := tmod_two v 65536
  obtain ⟨m, hm, hm16⟩ : ∃ m : Nat, v % 65536 = m ∧ m < 65536 := ⟨(v % 65536).toNat, by omega, by omega⟩
  have HM : Hid (wd v = m) := by unfold wd; rw [hm]; rfl
  by_cases h0 : 0 ≤ v.tmod 65536
  · have hr : v.tmod 65536 = (m : Int) := by omega
    clear hm hmod h0
    go_enter Tryd.func37, Tryd.ntmps37
    go_wp2
    go_ret
    exact ⟨congrArg (fun n => Ending.returned (Value.int .u16 n)) (by rw [HM.out]), rfl⟩
  · have hr : v.tmod 65536 = (m : Int) - 65536 := by omega
    clear hm hmod h0
    go_enter Tryd.func37, Tryd.ntmps37
    go_wp2
    go_ret
    exact ⟨congrArg (fun n => Ending.returned (Value.int .u16 n)) (by rw [HM.out]), rfl⟩
set_option maxHeartbeats 400000 in
theorem truth_ok (w : World) (b : Bool) : Calls Tryd.prog 42 #[.bool b] w fun e w' => e = .returned (i64 (if b then 1 else 0)) ∧ w' = w := by
  cases b
  · go_enter Tryd.func42, Tryd.ntmps42
    go_wp2
    go_ret
    exact ⟨rfl, rfl⟩
  · go_enter Tryd.func42, Tryd.ntmps42
    go_wp2
    go_ret
    exact ⟨rfl, rfl⟩
set_option maxHeartbeats 400000 in
theorem power_ok (w : World) (n : Nat) (hn : n ≤ 61) : Calls Tryd.prog 52 #[i64 n] w fun e w' => e = .returned (i64 (2 ^ n : Nat)) ∧ w' = w := by
  go_enter Tryd.func52, Tryd.ntmps52
  go_wp2_with fail
  go_loop [3, 4] (fun a i => ∃ k : Nat, k ≤ n ∧ i = .int .i64 k ∧ a = .int .i64 (2 ^ k : Nat)) (fun _ i => n - (intOf i).toNat)
  case atStart => exact ⟨0, by omega, rfl, rfl⟩
  case round =>
    obtain ⟨k, hk, rfl, rfl⟩ := hrel
    have hs : 2 ^ (k + 1) = 2 ^ k * 2 := Nat.pow_succ 2 k
    have HS : Hid (2 ^ (k + 1) = 2 ^ k * 2) := hs
    clear hs
    by_cases hkn : k < n
    · have hb : 2 ^ k ≤ 2 ^ 61 := Nat.pow_le_pow_right (by omega) (by omega)
      generalize hyy : 2 ^ k = y at *
      clear hyy
      go_wp2
      exact ⟨⟨k + 1, by omega, by go_num, congrArg (Value.int .i64) (by rw [HS.out]; omega)⟩, by simp [intOf]; omega⟩
    · obtain rfl : k = n := by omega
      go_wp2
      go_ret
      exact ⟨rfl, rfl⟩
end Go.Proofs.YtigbfdloodfdgaaDoor
