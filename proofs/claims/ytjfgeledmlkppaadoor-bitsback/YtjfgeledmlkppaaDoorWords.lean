/- bits' and imagoref01's calls on words: Turn, Word, Signed, Ones: their contracts; no statement is proved in this text. -/
import Derived.Test.YtjfgeledmlkppaaDoorRows
import Derived.Test.YtjfgeledmlkppaaDoorPure
import Derived.WalkKit
import Derived.ProofKit
import Derived.OpenShut
import Derived.WalkSmall
import Derived.Deep.QuietTactic
import Derived.BigQuiet
namespace Go.Proofs.YtjfgeledmlkppaaDoor
open Go.ChangeShapes Go.WideShapes Go.ChangeAt Go.RowKit

set_option maxHeartbeats 400000 in
theorem turn_ok (w : World) (x : Nat) (b : Int) (hx : x < 65536) :
    Calls Tryd.prog 22 #[.int .u16 x, .int .i64 b] w fun e w' => e = .returned (.int .u16 (turnN (b % 16).toNat x : Nat)) ∧ ∃ n, w' = w.drewN n := by
  obtain ⟨m, hm, hm16⟩ : ∃ m : Nat, b % 16 = m ∧ m < 16 := ⟨(b % 16).toNat, by omega, by omega⟩
  have hand : bits BinOp.and IntKind.i64 b 15 = (m : Int) := by rw [and15_i64, hm]
  have HM : Hid (b % 16 = (m : Int)) := hm
  clear hm
  go_enter Tryd.func22, Tryd.ntmps22
  go_wp2
  go_quiet (fail)
  go_wp2
  go_ret
  refine ⟨?_, nq, rfl⟩
  rw [HM.out]
  exact congrArg (fun n => Ending.returned (Value.int .u16 n)) (turn_num x m hx hm16)

set_option maxHeartbeats 400000 in
theorem rturn_ok (w : World) (x : Nat) (b : Int) (hx : x < 65536) (hb : (Lit.int .i64 b).wf = true) :
    Calls Tryd.prog 23 #[.int .u16 x, .int .i64 b] w fun e w' => e = .returned (.int .u16 (turnN (b % 16).toNat x : Nat)) ∧ w' = w := by
  obtain ⟨m, hm, hm16⟩ : ∃ m : Nat, b % 16 = m ∧ m < 16 := ⟨(b % 16).toNat, by omega, by omega⟩
  have hbd := bounds_i64 hb
  have HM : Hid (b % 16 = (m : Int)) := hm
  have hmod := tmod_two b 16 (by omega)
  by_cases h0 : 0 ≤ b.tmod 16
  · have hr : b.tmod 16 = (m : Int) := by omega
    clear hm hb hmod h0
    go_enter Tryd.func23, Tryd.ntmps23
    go_wp2_with fail
    go_loop [6, 7] (fun a i => ∃ k : Nat, k ≤ m ∧ i = .int .i64 k ∧ a = .int .i64 (turnN k x : Nat)) (fun _ i => m - (intOf i).toNat)
    case atStart => exact ⟨0, by omega, rfl, rfl⟩
    case round =>
      obtain ⟨k, hk, rfl, rfl⟩ := hrel
      have hlt := turnN_lt k x hx
      have hstep : turnN (k + 1) x = if 65535 < 2 * turnN k x then 2 * turnN k x - 65535 else 2 * turnN k x := rfl
      have HS : Hid _ := hstep
      clear hstep
      generalize hyy : turnN k x = y at *
      have HY : Hid (turnN k x = y) := hyy
      clear hyy
      by_cases hkm : k < m
      · by_cases hy : 65535 < 2 * y
        · go_wp2
          exact ⟨⟨k + 1, by omega, by go_num, congrArg (Value.int .i64) (by rw [HS.out, if_pos hy]; omega)⟩, by simp [intOf]; omega⟩
        · go_wp2
          exact ⟨⟨k + 1, by omega, by go_num, congrArg (Value.int .i64) (by rw [HS.out, if_neg hy]; omega)⟩, by simp [intOf]; omega⟩
      · obtain rfl : k = m := by omega
        go_wp2
        go_ret
        refine ⟨congrArg (fun n => Ending.returned (Value.int .u16 n)) ?_, rfl⟩
        rw [HM.out]
        show _ = ((turnN k x : Nat) : Int)
        rw [HY.out]
  · have hr : b.tmod 16 = (m : Int) - 16 := by omega
    clear hm hb hmod h0
    go_enter Tryd.func23, Tryd.ntmps23
    go_wp2_with fail
    go_loop [6, 7] (fun a i => ∃ k : Nat, k ≤ m ∧ i = .int .i64 k ∧ a = .int .i64 (turnN k x : Nat)) (fun _ i => m - (intOf i).toNat)
    case atStart => exact ⟨0, by omega, rfl, rfl⟩
    case round =>
      obtain ⟨k, hk, rfl, rfl⟩ := hrel
      have hlt := turnN_lt k x hx
      have hstep : turnN (k + 1) x = if 65535 < 2 * turnN k x then 2 * turnN k x - 65535 else 2 * turnN k x := rfl
      have HS : Hid _ := hstep
      clear hstep
      generalize hyy : turnN k x = y at *
      have HY : Hid (turnN k x = y) := hyy
      clear hyy
      by_cases hkm : k < m
      · by_cases hy : 65535 < 2 * y
        · go_wp2
          exact ⟨⟨k + 1, by omega, by go_num, congrArg (Value.int .i64) (by rw [HS.out, if_pos hy]; omega)⟩, by simp [intOf]; omega⟩
        · go_wp2
          exact ⟨⟨k + 1, by omega, by go_num, congrArg (Value.int .i64) (by rw [HS.out, if_neg hy]; omega)⟩, by simp [intOf]; omega⟩
      · obtain rfl : k = m := by omega
        go_wp2
        go_ret
        refine ⟨congrArg (fun n => Ending.returned (Value.int .u16 n)) ?_, rfl⟩
        rw [HM.out]
        show _ = ((turnN k x : Nat) : Int)
        rw [HY.out]

set_option maxHeartbeats 400000 in
theorem word_ok (w : World) (v : Int) : Calls Tryd.prog 16 #[.int .i64 v] w fun e w' => e = .returned (.int .u16 ((v % 65536).toNat : Nat)) ∧ w' = w := by
  go_enter Tryd.func16, Tryd.ntmps16
  go_wp2
  go_ret
  exact ⟨congrArg (fun n => Ending.returned (Value.int .u16 n)) (by rw [wrap_u16']; omega), rfl⟩
set_option maxHeartbeats 400000 in
theorem rword_ok (w : World) (v : Int) (hv : (Lit.int .i64 v).wf = true) : Calls Tryd.prog 17 #[.int .i64 v] w fun e w' => e = .returned (.int .u16 ((v % 65536).toNat : Nat)) ∧ w' = w := by
  have hbd := bounds_i64 hv
  have hmod := tmod_two v 65536 (by omega)
  obtain ⟨m, hm, hm16⟩ : ∃ m : Nat, v % 65536 = m ∧ m < 65536 := ⟨(v % 65536).toNat, by omega, by omega⟩
  have HM : Hid (v % 65536 = (m : Int)) := hm
  by_cases h0 : 0 ≤ v.tmod 65536
  · have hr : v.tmod 65536 = (m : Int) := by omega
    clear hm hv hmod h0
    go_enter Tryd.func17, Tryd.ntmps17
    go_wp2
    go_ret
    exact ⟨congrArg (fun n => Ending.returned (Value.int .u16 n)) (by rw [HM.out]; rfl), rfl⟩
  · have hr : v.tmod 65536 = (m : Int) - 65536 := by omega
    clear hm hv hmod h0
    go_enter Tryd.func17, Tryd.ntmps17
    go_wp2
    go_ret
    exact ⟨congrArg (fun n => Ending.returned (Value.int .u16 n)) (by rw [HM.out]; rfl), rfl⟩
def sgn (x : Nat) : Int := if 32767 < x then (x : Int) - 65536 else x
set_option maxHeartbeats 400000 in
theorem signed_ok (w : World) (x : Nat) (hx : x < 65536) : Calls Tryd.prog 18 #[.int .u16 x] w fun e w' => e = .returned (.int .i64 (sgn x)) ∧ w' = w := by
  go_enter Tryd.func18, Tryd.ntmps18
  go_wp2
  go_ret
  exact ⟨congrArg (fun n => Ending.returned (Value.int .i64 n)) (by rw [wrap_i16']; unfold wrap64 sgn; split <;> omega), rfl⟩
set_option maxHeartbeats 400000 in
theorem rsigned_ok (w : World) (x : Nat) (hx : x < 65536) : Calls Tryd.prog 19 #[.int .u16 x] w fun e w' => e = .returned (.int .i64 (sgn x)) ∧ w' = w := by
  go_enter Tryd.func19, Tryd.ntmps19
  by_cases h : 32767 < x
  · go_wp2
    go_ret
    exact ⟨congrArg (fun n => Ending.returned (Value.int .i64 n)) (by unfold sgn; rw [if_pos h]), rfl⟩
  · go_wp2
    go_ret
    exact ⟨congrArg (fun n => Ending.returned (Value.int .i64 n)) (by unfold sgn; rw [if_neg h]), rfl⟩

/-! ### Powers, bits, ones -/
set_option maxHeartbeats 400000 in
theorem power_ok (w : World) (n : Nat) (hn : n ≤ 63) : Calls Tryd.prog 32 #[.int .i64 n] w fun e w' => e = .returned (.int .u64 (2 ^ n : Nat)) ∧ w' = w := by
  go_enter Tryd.func32, Tryd.ntmps32
  go_wp2_with fail
  go_loop [3, 4] (fun a i => ∃ k : Nat, k ≤ n ∧ i = .int .i64 k ∧ a = .int .u64 (2 ^ k : Nat)) (fun _ i => n - (intOf i).toNat)
  case atStart => exact ⟨0, by omega, rfl, rfl⟩
  case round =>
    obtain ⟨k, hk, rfl, rfl⟩ := hrel
    have hs : 2 ^ (k + 1) = 2 ^ k * 2 := Nat.pow_succ 2 k
    have HS : Hid _ := hs
    clear hs
    by_cases hkn : k < n
    · have hb : 2 ^ k ≤ 2 ^ 62 := Nat.pow_le_pow_right (by omega) (by omega)
      generalize hyy : 2 ^ k = y at *
      clear hyy
      go_wp2
      exact ⟨⟨k + 1, by omega, by go_num, congrArg (Value.int .u64) (by rw [HS.out]; omega)⟩, by simp [intOf]; omega⟩
    · obtain rfl : k = n := by omega
      go_wp2
      go_ret
      exact ⟨rfl, rfl⟩

set_option maxHeartbeats 400000 in
theorem bit_ok (w : World) (n at_ : Nat) (hn : n < 18446744073709551616) (ha : at_ ≤ 63) : Calls Tryd.prog 28 #[.int .u64 n, .int .i64 at_] w fun e w' => e = .returned (.int .u64 (bitN n at_ : Nat)) ∧ w' = w := by
  have hp : 0 < 2 ^ at_ := Nat.two_pow_pos _
  have hp2 : 2 ^ at_ ≤ 2 ^ 63 := Nat.pow_le_pow_right (by omega) ha
  have hbd : bitN n at_ = n / 2 ^ at_ % 2 := rfl
  have HBD : Hid _ := hbd
  clear hbd
  go_enter Tryd.func28, Tryd.ntmps28
  go_wp2_with fail
  refine (power_ok w at_ ha).mono ?_
  rintro e w1 ⟨rfl, rfl⟩
  generalize 2 ^ at_ = p at *
  go_wp2_with fail
  go_ret
  exact ⟨congrArg (fun n => Ending.returned (Value.int .u64 n)) (by rw [HBD.out]; exact bit_num n p hn), rfl⟩

set_option maxHeartbeats 400000 in
theorem rones_ok (w : World) (x : Nat) (hx : x < 65536) : Calls Tryd.prog 21 #[.int .u16 x] w fun e w' => e = .returned (.int .i64 (popN 16 x : Nat)) ∧ w' = w := by
  go_enter Tryd.func21, Tryd.ntmps21
  go_wp2_with fail
  go_loop [3, 4] (fun a i => ∃ k : Nat, k ≤ 16 ∧ i = .int .i64 k ∧ a = .int .i64 (popN k x : Nat)) (fun _ i => 16 - (intOf i).toNat)
  case atStart => exact ⟨0, by omega, rfl, rfl⟩
  case round =>
    obtain ⟨k, hk, rfl, rfl⟩ := hrel
    have hs : popN (k + 1) x = popN k x + bitN x k := rfl
    have hle := popN_le x k
    have hbit : bitN x k ≤ 1 := by unfold bitN; omega
    have HS : Hid _ := hs
    clear hs
    by_cases hkn : k < 16
    · generalize popN k x = y at *
      go_wp2_with (go_at_call 28; refine (bit_ok _ x k (by omega) (by omega)).mono ?_; rintro e w1 ⟨rfl, rfl⟩)
      generalize bitN x k = z at *
      exact ⟨⟨k + 1, by omega, by go_num, congrArg (Value.int .i64) (by rw [HS.out]; omega)⟩, by simp [intOf]; omega⟩
    · obtain rfl : k = 16 := by omega
      go_wp2
      go_ret
      exact ⟨rfl, rfl⟩

/-- The table of ones lies in its variable. -/
def Tab (w : World) : Prop := ∀ i, i < 16 → w.cell? ⟨0, i, none⟩ = some (.int .i64 (ones4 i : Nat))

set_option maxHeartbeats 400000 in
theorem ones_ok (w : World) (x : Nat) (hx : x < 65536) (ht : Tab w) : Calls Tryd.prog 20 #[.int .u16 x] w fun e w' => e = .returned (.int .i64 (popN 16 x : Nat)) ∧ w' = w := by
  have HT : Hid (Tab w) := ht
  clear ht
  go_enter Tryd.func20, Tryd.ntmps20
  go_wp2_with fail
  go_loop [3, 4] (fun a r => ∃ j : Nat, j ≤ 4 ∧ r = .int .u16 (x / 2 ^ (4 * j) : Nat) ∧ a = .int .i64 (popN (4 * j) x : Nat)) (fun _ r => (intOf r).toNat)
  case atStart => exact ⟨0, by omega, by simp, rfl⟩
  case round =>
    obtain ⟨j, hj, rfl, rfl⟩ := hrel
    have hle := popN_le x (4 * j)
    have hr := pop_round x j
    have he := pop_end x j hj
    have hlt : x / 2 ^ (4 * j) < 65536 := Nat.lt_of_le_of_lt (Nat.div_le_self _ _) hx
    have hnext : x / 2 ^ (4 * (j + 1)) = x / 2 ^ (4 * j) / 16 := by rw [Nat.div_div_eq_div_mul, show 4 * (j + 1) = 4 * j + 4 by omega, Nat.pow_add]
    have hz4 : j = 4 → x / 2 ^ (4 * j) = 0 := fun e => by subst e; exact Nat.div_eq_of_lt hx
    have HR : Hid _ := hr
    have HE : Hid _ := he
    have HN : Hid _ := hnext
    have HZ : Hid _ := hz4
    clear hr he hnext hz4
    generalize popN (4 * j) x = y at *
    generalize x / 2 ^ (4 * j) = r at *
    by_cases hr0 : r = 0
    · have hy := HE.out hr0
      have HY : Hid _ := hy
      have hbne : ((r : Int) != 0) = false := by simp; omega
      clear hr0 hy
      go_wp2
      go_ret
      exact ⟨congrArg (fun n : Nat => Ending.returned (Value.int .i64 (n : Int))) HY.out, rfl⟩
    · have hc := HT.out (r % 16) (by omega)
      have hand := and15_u16 r hlt
      have hone : ones4 (r % 16) ≤ 4 := by
        rw [ones4_pop _ (by omega)]; exact popN_le _ 4
      have hm16 : r % 16 < 16 := by omega
      have hbne : ((r : Int) != 0) = true := by simp; omega
      generalize ones4 (r % 16) = o at *
      go_wp2
      exact ⟨⟨j + 1, by have := HZ.out; omega, congrArg (Value.int .u16) (by rw [HN.out]; omega), congrArg (Value.int .i64) (by rw [HR.out]; omega)⟩, by simp [intOf]; omega⟩
end Go.Proofs.YtjfgeledmlkppaaDoor
