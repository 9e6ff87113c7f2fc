/- Plain arithmetic of words: turning, counting ones, cutting; nothing of the program; no statement is proved in this text. -/
import Derived.WalkKit
import Derived.Laws.BitsLemmas
namespace Go.Proofs.YtjfgeledmlkppaaDoor
open Go.RowKit

/-! ### Turning -/
def step1 (x : Nat) : Nat := if 65535 < 2 * x then 2 * x - 65535 else 2 * x
def turnN : Nat → Nat → Nat
  | 0, x => x
  | k + 1, x => step1 (turnN k x)
theorem step1_lt (x : Nat) (h : x < 65536) : step1 x < 65536 := by unfold step1; split <;> omega
theorem turnN_lt : ∀ (k x : Nat), x < 65536 → turnN k x < 65536
  | 0, _, h => h
  | k + 1, x, h => step1_lt _ (turnN_lt k x h)
def rot (x m : Nat) : Nat := 2 ^ m * (x % 2 ^ (16 - m)) + x / 2 ^ (16 - m)

theorem rot_arith (P M q : Nat) (h1 : P + M ≤ 32768) (h2 : q < 2 * M) : 2 * P + q = step1 (P + 32768 * (q % 2) + q / 2) := by
  unfold step1
  split <;> omega

theorem rot_step (x m : Nat) (hx : x < 65536) (hm : m < 16) : rot x (m + 1) = step1 (rot x m) := by
  unfold rot
  have e : 2 ^ (16 - m) = 2 ^ (16 - (m + 1)) * 2 := by rw [← Nat.pow_succ, show (16 - (m + 1)).succ = 16 - m by omega]
  have hdM : 2 ^ m * 2 ^ (16 - (m + 1)) = 32768 := by rw [← Nat.pow_add, show m + (16 - (m + 1)) = 15 by omega]
  have hd : 0 < 2 ^ (16 - (m + 1)) := Nat.two_pow_pos _
  rw [e, Nat.mod_mul, ← Nat.div_div_eq_div_mul, Nat.pow_succ, Nat.mul_add, ← Nat.mul_assoc (2 ^ m) (2 ^ (16 - (m + 1))), hdM]
  have hr : x % 2 ^ (16 - (m + 1)) < 2 ^ (16 - (m + 1)) := Nat.mod_lt _ hd
  have hq : x / 2 ^ (16 - (m + 1)) < 2 * 2 ^ m := by
    rw [Nat.div_lt_iff_lt_mul hd, Nat.mul_assoc, hdM]; exact hx
  generalize x / 2 ^ (16 - (m + 1)) = q at *
  generalize x % 2 ^ (16 - (m + 1)) = r at *
  have hP : 2 ^ m * r + 2 ^ m ≤ 32768 := by
    rw [← Nat.mul_succ, ← hdM]; exact Nat.mul_le_mul_left _ hr
  have := rot_arith (2 ^ m * r) (2 ^ m) q hP hq
  rw [← this]
  rw [Nat.mul_right_comm, Nat.mul_comm]

theorem rot_turn (x : Nat) (hx : x < 65536) : ∀ m, m ≤ 16 → rot x m = turnN m x
  | 0, _ => by
    unfold rot turnN
    omega
  | m + 1, h => by rw [rot_step x m hx (by omega), rot_turn x hx m (by omega)]; rfl

/-- x shifted to the left and to the right, joined. -/
theorem join_rot (x m : Nat) (hx : x < 65536) (hm : m < 16) : (x * 2 ^ m % 65536) ||| (x / 2 ^ (16 - m)) = rot x m := by
  have hlt : x / 2 ^ (16 - m) < 2 ^ m := by
    rw [Nat.div_lt_iff_lt_mul (Nat.two_pow_pos _), ← Nat.pow_add, show m + (16 - m) = 16 by omega]
    exact hx
  have h1 : x * 2 ^ m % 65536 = 2 ^ m * (x % 2 ^ (16 - m)) := by
    have h0 : 65536 = 2 ^ m * 2 ^ (16 - m) := by rw [← Nat.pow_add, show m + (16 - m) = 16 by omega]
    rw [h0, Nat.mul_comm x, Nat.mul_mod_mul_left]
  unfold rot
  rw [h1, ← Nat.two_pow_add_eq_or_of_lt hlt]

theorem and15_i64 (b : Int) : bits BinOp.and IntKind.i64 b 15 = b % 16 := by
  show IntKind.i64.wrap ((BitVec.ofInt 64 b &&& BitVec.ofInt 64 15).toNat : Int) = _
  have h1 : (BitVec.ofInt 64 b &&& BitVec.ofInt 64 15).toNat = (b % 18446744073709551616).toNat % 16 := by
    rw [BitVec.toNat_and, BitVec.toNat_ofInt, show (BitVec.ofInt 64 15).toNat = 2 ^ 4 - 1 from rfl, Nat.and_two_pow_sub_one_eq_mod]
    rfl
  rw [h1, IntKind.wrap_i64]
  omega

theorem turnN_add (x : Nat) : ∀ (a b : Nat), turnN (a + b) x = turnN a (turnN b x)
  | 0, b => by rw [Nat.zero_add]; rfl
  | a + 1, b => by rw [show a + 1 + b = (a + b) + 1 by omega, turnN, turnN, turnN_add x a b]
theorem turnN_16 (x : Nat) (hx : x < 65536) : turnN 16 x = x := by
  rw [← rot_turn x hx 16 (by omega)]
  unfold rot
  omega
theorem turn_back (x : Nat) (b : Int) (hx : x < 65536) : turnN ((-(b.tmod 16)) % 16).toNat (turnN (b % 16).toNat x) = x := by
  rw [← turnN_add]
  have h : ((-(b.tmod 16)) % 16).toNat + (b % 16).toNat = 0 ∨ ((-(b.tmod 16)) % 16).toNat + (b % 16).toNat = 16 := by
    have := Int.tmod_def b 16
    omega
  rcases h with h | h
  · rw [h]; rfl
  · rw [h]; exact turnN_16 x hx

theorem tmod_two (b d : Int) (hd : 0 < d) : (b.tmod d = b % d ∧ 0 ≤ b.tmod d) ∨ (b.tmod d = b % d - d ∧ b.tmod d < 0) := by
  have h1 := Int.emod_nonneg b (show d ≠ 0 by omega)
  have h2 := Int.emod_lt_of_pos b hd
  have h3 := Int.emod_add_mul_ediv b d
  have h4 := Int.tmod_def b d
  by_cases hb : 0 ≤ b
  · left
    rw [Int.tmod_eq_emod_of_nonneg hb]
    exact ⟨rfl, h1⟩
  · have h5 : b.tmod d = -((-b) % d) := by
      have := Int.neg_tmod (a := -b) (b := d)
      have e2 : (-b).tmod d = (-b) % d := Int.tmod_eq_emod_of_nonneg (show 0 ≤ -b by omega)
      rw [Int.neg_neg, e2] at this
      exact this
    by_cases hz : b % d = 0
    · left
      have h6 : (-b) % d = 0 := Int.emod_eq_zero_of_dvd (by
        have : d ∣ b := Int.dvd_of_emod_eq_zero hz
        exact (Int.dvd_neg).2 this)
      omega
    · right
      have h7 : (-b) % d = d - b % d := by
        have e : -b = (d - b % d) + d * (-(b / d) - 1) := by
          rw [Int.mul_sub, Int.mul_neg]; omega
        rw [e, Int.add_mul_emod_self_left]
        exact Int.emod_eq_of_lt (by omega) (by omega)
      omega

/-! ### Counting -/
def bitN (x i : Nat) : Nat := x / 2 ^ i % 2
def popN : Nat → Nat → Nat
  | 0, _ => 0
  | k + 1, x => popN k x + bitN x k
theorem popN_le (x : Nat) : ∀ k, popN k x ≤ k
  | 0 => Nat.le_refl _
  | k + 1 => by have := popN_le x k; unfold popN bitN; omega
theorem bitN_div (x a i : Nat) : bitN (x / 2 ^ a) i = bitN x (a + i) := by
  unfold bitN; rw [Nat.div_div_eq_div_mul, ← Nat.pow_add]
theorem popN_add (x a : Nat) : ∀ b, popN (a + b) x = popN a x + popN b (x / 2 ^ a)
  | 0 => rfl
  | b + 1 => by
    show popN (a + b) x + bitN x (a + b) = popN a x + (popN b (x / 2 ^ a) + bitN (x / 2 ^ a) b)
    rw [popN_add x a b, bitN_div]; omega
theorem bitN_mod (x n i : Nat) (h : i < n) : bitN (x % 2 ^ n) i = bitN x i := by
  unfold bitN
  rw [← Nat.toNat_testBit, ← Nat.toNat_testBit, Nat.testBit_mod_two_pow]
  simp [h]
theorem popN_mod (x n : Nat) : ∀ k, k ≤ n → popN k (x % 2 ^ n) = popN k x
  | 0, _ => rfl
  | k + 1, h => by
    show popN k (x % 2 ^ n) + bitN (x % 2 ^ n) k = popN k x + bitN x k
    rw [popN_mod x n k (by omega), bitN_mod x n k (by omega)]
theorem popN_zero : ∀ k, popN k 0 = 0
  | 0 => rfl
  | k + 1 => by show popN k 0 + bitN 0 k = 0; rw [popN_zero k]; simp [bitN]
theorem step1_eq (x : Nat) (hx : x < 65536) : step1 x = 2 * (x % 2 ^ 15) + x / 2 ^ 15 := by
  unfold step1; split <;> omega
theorem pop_step (x : Nat) (hx : x < 65536) : popN 16 (step1 x) = popN 16 x := by
  rw [step1_eq x hx]
  have h1 := popN_add (2 * (x % 2 ^ 15) + x / 2 ^ 15) 1 15
  have h2 : (2 * (x % 2 ^ 15) + x / 2 ^ 15) / 2 ^ 1 = x % 2 ^ 15 := by omega
  have h3 : popN 1 (2 * (x % 2 ^ 15) + x / 2 ^ 15) = x / 2 ^ 15 % 2 := by
    show 0 + bitN _ 0 = _
    unfold bitN; omega
  have h4 : popN 16 x = popN 15 x + x / 2 ^ 15 % 2 := rfl
  rw [show (16 : Nat) = 1 + 15 from rfl, h1, h2, h3, popN_mod x 15 15 (Nat.le_refl _), h4]
  omega
theorem pop_turn (x : Nat) (hx : x < 65536) : ∀ k, popN 16 (turnN k x) = popN 16 x
  | 0 => rfl
  | k + 1 => by show popN 16 (step1 (turnN k x)) = _; rw [pop_step _ (turnN_lt k x hx), pop_turn x hx k]

def ones4 (i : Nat) : Nat := [0, 1, 1, 2, 1, 2, 2, 3, 1, 2, 2, 3, 2, 3, 3, 4].getD i 0
theorem ones4_pop (i : Nat) (h : i < 16) : ones4 i = popN 4 i := by
  rcases i with _|_|_|_|_|_|_|_|_|_|_|_|_|_|_|_|i
  all_goals first | decide | omega
theorem pop4 (x : Nat) : popN 4 x = ones4 (x % 16) := by
  rw [ones4_pop _ (by omega), show (16 : Nat) = 2 ^ 4 from rfl, popN_mod x 4 4 (Nat.le_refl _)]
/-- One round of the count by halves of bytes. -/
theorem pop_round (w j : Nat) : popN (4 * (j + 1)) w = popN (4 * j) w + ones4 (w / 2 ^ (4 * j) % 16) := by
  rw [show 4 * (j + 1) = 4 * j + 4 by omega, popN_add, pop4]
theorem pop_end (w j : Nat) (hj : j ≤ 4) (h : w / 2 ^ (4 * j) = 0) : popN (4 * j) w = popN 16 w := by
  have := popN_add w (4 * j) (16 - 4 * j)
  rw [h, popN_zero, show 4 * j + (16 - 4 * j) = 16 by omega] at this
  omega

theorem wrap_u16' (n : Int) : IntKind.u16.wrap n = n % 65536 := by simp [IntKind.wrap, IntKind.bits, IntKind.signed]
theorem wrap_i16' (n : Int) : IntKind.i16.wrap n = (n + 32768) % 65536 - 32768 := by
  simp [IntKind.wrap, IntKind.bits, IntKind.signed]
  split <;> omega
theorem wraps_u16' (n : Int) (h₀ : 0 ≤ n) (h₁ : n < 2 ^ 16) : IntKind.u16.wrap n = n := by rw [wrap_u16']; omega
/-- What bits.Turn reckons. -/
theorem turn_num (x m : Nat) (hx : x < 65536) (hm : m < 16) : bits BinOp.or IntKind.u16 (IntKind.u16.wrap ((x : Int) * 2 ^ m)) ((x : Int) / 2 ^ (16 - m)) = (turnN m x : Nat) := by
  have h1 : IntKind.u16.wrap ((x : Int) * 2 ^ m) = ((x * 2 ^ m % 65536 : Nat) : Int) := by rw [wrap_u16', Int.natCast_emod, Int.natCast_mul, Int.natCast_pow]; rfl
  have h2 : ((x : Int) / 2 ^ (16 - m)) = ((x / 2 ^ (16 - m) : Nat) : Int) := by rw [Int.natCast_ediv, Int.natCast_pow]; rfl
  rw [h1, h2, (bits_nat IntKind.u16 16 (by decide) wraps_u16' _ _ (by omega) (Nat.lt_of_le_of_lt (Nat.div_le_self _ _) hx)).2, join_rot x m hx hm, rot_turn x hx m (by omega)]
/-- What imagoref01.Bit reckons. -/
theorem bit_num (n p : Nat) (hn : n < 18446744073709551616) : (IntKind.u64.wrap ((n : Int) / (p : Int))).tmod 2 = ((n / p % 2 : Nat) : Int) := by
  have h1 : n / p ≤ n := Nat.div_le_self _ _
  have h2 : ((n : Int) / (p : Int)) = ((n / p : Nat) : Int) := (Int.natCast_ediv n p).symm
  rw [h2]
  clear h2
  generalize n / p = q at *
  have h3 : IntKind.u64.wrap ((q : Nat) : Int) = ((q : Nat) : Int) := by rw [IntKind.wrap_u64]; omega
  rw [h3, Int.tmod_eq_emod_of_nonneg (Int.natCast_nonneg _)]
  omega
theorem pow_cast (k : Nat) : ((2 : Int) ^ k) = ((2 ^ k : Nat) : Int) := by rw [Int.natCast_pow]; rfl
theorem mask_num (k : Nat) (hk : k ≤ 63) : IntKind.u64.wrap ((2 : Int) ^ k - 1) = ((2 ^ k - 1 : Nat) : Int) := by
  have h1 : 2 ^ k ≤ 2 ^ 63 := Nat.pow_le_pow_right (by omega) hk
  have h0 : 0 < 2 ^ k := Nat.two_pow_pos _
  rw [pow_cast, IntKind.wrap_u64]
  generalize 2 ^ k = p at *
  omega
theorem wraps_u64' (n : Int) (h₀ : 0 ≤ n) (h₁ : n < 2 ^ 64) : IntKind.u64.wrap n = n := by rw [IntKind.wrap_u64]; omega
/-- What bits.Cut reckons. -/
theorem cut_num (n f d : Nat) (hn : n < 18446744073709551616) (hd : d ≤ 32) : bits BinOp.and IntKind.u64 ((n : Int) / 2 ^ f) ((2 ^ d - 1 : Nat) : Int) % 4294967296 = ((n / 2 ^ f % 2 ^ d : Nat) : Int) := by
  have h1 : n / 2 ^ f ≤ n := Nat.div_le_self _ _
  have h2 : ((n : Int) / 2 ^ f) = ((n / 2 ^ f : Nat) : Int) := by rw [pow_cast, Int.natCast_ediv]
  have h3 : ((2 ^ d - 1 : Nat) : Int) = (2 : Int) ^ d - 1 := by
    have h0 : 0 < 2 ^ d := Nat.two_pow_pos _
    rw [pow_cast]
    generalize 2 ^ d = p at *
    omega
  rw [h2, h3]
  clear h2 h3
  generalize n / 2 ^ f = q at *
  rw [bits_mask IntKind.u64 64 (by decide) wraps_u64' d (by omega) (q : Int) (by omega) (by omega), pow_cast]
  have h4 : 2 ^ d ≤ 2 ^ 32 := Nat.pow_le_pow_right (by omega) hd
  have h5 : q % 2 ^ d < 2 ^ d := Nat.mod_lt _ (Nat.two_pow_pos _)
  rw [← Int.natCast_emod]
  generalize q % 2 ^ d = r at *
  generalize 2 ^ d = p at *
  omega
/-- A word's low half of a byte. -/
theorem and15_u16 (x : Nat) (hx : x < 65536) : bits BinOp.and IntKind.u16 (x : Int) 15 = ((x % 16 : Nat) : Int) := by
  have := bits_mask IntKind.u16 16 (by decide) wraps_u16' 4 (by decide) (x : Int) (by omega) (by omega)
  rw [show ((2 : Int) ^ 4 - 1) = 15 from rfl] at this
  rw [this]
  omega
end Go.Proofs.YtjfgeledmlkppaaDoor
