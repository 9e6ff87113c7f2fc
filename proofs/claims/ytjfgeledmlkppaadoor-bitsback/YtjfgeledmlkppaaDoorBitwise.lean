/- Plain arithmetic of fields: what is put, bit by bit; nothing of the program; no statement is proved in this text. -/
import Derived.Test.YtjfgeledmlkppaaDoorPure
namespace Go.Proofs.YtjfgeledmlkppaaDoor
open Go.RowKit

theorem high_bit {a k : Nat} (ha : a < 18446744073709551616) (hk : 64 ≤ k) : a.testBit k = false := by
  apply Nat.testBit_lt_two_pow
  exact Nat.lt_of_lt_of_le ha (by rw [show 18446744073709551616 = 2 ^ 64 from rfl]; exact Nat.pow_le_pow_right (by omega) hk)

theorem andNot_u64 (a b : Nat) (ha : a < 18446744073709551616) :
    ∃ X : Nat, bits BinOp.andNot IntKind.u64 (a : Int) (b : Int) = (X : Int) ∧ X < 18446744073709551616 ∧ ∀ k, X.testBit k = (a.testBit k && !b.testBit k) := by
  refine ⟨(BitVec.ofNat 64 a &&& ~~~(BitVec.ofNat 64 b)).toNat, ?_, (BitVec.ofNat 64 a &&& ~~~(BitVec.ofNat 64 b)).isLt, fun k => ?_⟩
  · show IntKind.u64.wrap ((BitVec.ofInt 64 (a : Int) &&& ~~~(BitVec.ofInt 64 (b : Int))).toNat : Int) = _
    rw [BitVec.ofInt_natCast, BitVec.ofInt_natCast, IntKind.wrap_u64]
    have := (BitVec.ofNat 64 a &&& ~~~(BitVec.ofNat 64 b)).isLt
    omega
  · rw [BitVec.testBit_toNat, BitVec.getLsbD_and, BitVec.getLsbD_not, BitVec.getLsbD_ofNat, BitVec.getLsbD_ofNat]
    by_cases hk : k < 64
    · simp [hk]
    · simp [hk, high_bit ha (by omega : 64 ≤ k)]

/-- What is put: the bits below, v, the bits above. -/
def putR (n f d v : Nat) : Nat := 2 ^ (f + d) * (n / 2 ^ (f + d)) + (2 ^ f * v + n % 2 ^ f)

theorem putR_mid (n f d v : Nat) (hv : v < 2 ^ d) : 2 ^ f * v + n % 2 ^ f < 2 ^ (f + d) := by
  have h1 : n % 2 ^ f < 2 ^ f := Nat.mod_lt _ (Nat.two_pow_pos _)
  have h2 : 2 ^ f * v + 2 ^ f ≤ 2 ^ f * 2 ^ d := by rw [← Nat.mul_succ]; exact Nat.mul_le_mul_left _ hv
  rw [Nat.pow_add]
  omega

theorem putR_bit (n f d v k : Nat) (hv : v < 2 ^ d) : (putR n f d v).testBit k = if f ≤ k ∧ k < f + d then v.testBit (k - f) else n.testBit k := by
  unfold putR
  rw [Nat.testBit_two_pow_mul_add _ (putR_mid n f d v hv), Nat.testBit_two_pow_mul_add _ (Nat.mod_lt _ (Nat.two_pow_pos f))]
  by_cases h1 : k < f + d
  · rw [if_pos h1]
    by_cases h2 : k < f
    · rw [if_pos h2, if_neg (by omega), Nat.testBit_mod_two_pow]
      simp [h2]
    · rw [if_neg h2, if_pos (by omega)]
  · rw [if_neg h1, if_neg (by omega), Nat.testBit_div_two_pow]
    congr 1; omega

theorem putR_lt (n f d v : Nat) (hn : n < 18446744073709551616) (hfd : f + d ≤ 64) (hv : v < 2 ^ d) : putR n f d v < 18446744073709551616 := by
  rw [show 18446744073709551616 = 2 ^ 64 from rfl]
  apply Nat.lt_pow_two_of_testBit
  intro k hk
  rw [putR_bit n f d v k hv, if_neg (by omega)]
  exact high_bit hn hk

/-- A bit of what is put. -/
theorem putR_bitN (n f d v k : Nat) (hv : v < 2 ^ d) : bitN (putR n f d v) k = if f ≤ k ∧ k < f + d then bitN v (k - f) else bitN n k := by
  unfold bitN
  rw [← Nat.toNat_testBit, putR_bit n f d v k hv]
  split <;> rw [Nat.toNat_testBit]

theorem bitN_sum (R k : Nat) : R % 2 ^ (k + 1) = R % 2 ^ k + bitN R k * 2 ^ k := by
  unfold bitN
  rw [Nat.mod_pow_succ, Nat.mul_comm]

/-- What bits.Put reckons. -/
theorem put_num (n f d v : Nat) (hn : n < 18446744073709551616) (hfd : f + d ≤ 64) (hv : v < 2 ^ d) :
    bits BinOp.or IntKind.u64 (bits BinOp.andNot IntKind.u64 (n : Int) (IntKind.u64.wrap (((2 ^ d - 1 : Nat) : Int) * 2 ^ f))) (IntKind.u64.wrap ((v : Int) * 2 ^ f)) = (putR n f d v : Nat) := by
  have hpow : 2 ^ d * 2 ^ f ≤ 2 ^ 64 := by rw [← Nat.pow_add]; exact Nat.pow_le_pow_right (by omega) (by omega)
  have hv1 : v * 2 ^ f + 2 ^ f ≤ 2 ^ 64 := by
    refine Nat.le_trans ?_ hpow
    rw [← Nat.succ_mul]; exact Nat.mul_le_mul_right _ hv
  have hm1 : (2 ^ d - 1) * 2 ^ f + 2 ^ f ≤ 2 ^ 64 := by
    refine Nat.le_trans ?_ hpow
    rw [← Nat.succ_mul]; exact Nat.mul_le_mul_right _ (by have := Nat.two_pow_pos d; omega)
  have hf0 := Nat.two_pow_pos f
  have e1 : IntKind.u64.wrap (((2 ^ d - 1 : Nat) : Int) * 2 ^ f) = (((2 ^ d - 1) * 2 ^ f : Nat) : Int) := by
    rw [pow_cast, ← Int.natCast_mul, IntKind.wrap_u64]
    generalize (2 ^ d - 1) * 2 ^ f = z at *
    omega
  have e2 : IntKind.u64.wrap ((v : Int) * 2 ^ f) = ((v * 2 ^ f : Nat) : Int) := by
    rw [pow_cast, ← Int.natCast_mul, IntKind.wrap_u64]
    generalize v * 2 ^ f = z at *
    omega
  rw [e1, e2]
  obtain ⟨X, hX, hXlt, hXb⟩ := andNot_u64 n ((2 ^ d - 1) * 2 ^ f) hn
  rw [hX, bits_or_u64_nat X (v * 2 ^ f) hXlt (by generalize v * 2 ^ f = z at *; omega)]
  refine congrArg (fun t : Nat => (t : Int)) (Nat.eq_of_testBit_eq fun k => ?_)
  rw [Nat.testBit_or, hXb, putR_bit n f d v k hv, Nat.testBit_mul_two_pow, Nat.testBit_mul_two_pow, Nat.testBit_two_pow_sub_one]
  by_cases h1 : f ≤ k
  · by_cases h2 : k < f + d
    · rw [if_pos ⟨h1, h2⟩]
      have h3 : k - f < d := by omega
      simp [h1, h3]
    · rw [if_neg (by omega)]
      have h3 : ¬ k - f < d := by omega
      have h4 : v.testBit (k - f) = false := Nat.testBit_lt_two_pow (Nat.lt_of_lt_of_le hv (Nat.pow_le_pow_right (by omega) (by omega)))
      simp [h3, h4]
  · rw [if_neg (by omega)]
    simp [h1]
/-- What was put is cut. -/
theorem put_cut (n f d v : Nat) (hv : v < 2 ^ d) : putR n f d v / 2 ^ f % 2 ^ d = v := by
  apply Nat.eq_of_testBit_eq
  intro k
  rw [Nat.testBit_mod_two_pow, Nat.testBit_div_two_pow, putR_bit n f d v _ hv]
  by_cases hk : k < d
  · rw [if_pos (by omega)]
    simp [hk]
  · have : v.testBit k = false := Nat.testBit_lt_two_pow (Nat.lt_of_lt_of_le hv (Nat.pow_le_pow_right (by omega) (by omega)))
    simp [hk, this]
end Go.Proofs.YtjfgeledmlkppaaDoor
