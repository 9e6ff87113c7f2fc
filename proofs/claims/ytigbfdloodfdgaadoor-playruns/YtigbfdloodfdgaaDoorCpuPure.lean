/- Registers, results and steps, as plain lists and numbers; no statement is proved in this text. -/
import Derived.Test.YtigbfdloodfdgaaDoorPure
namespace Go.Proofs.YtigbfdloodfdgaaDoor

theorem bit_sum (R k : Nat) : R % 2 ^ (k + 1) = R % 2 ^ k + R / 2 ^ k % 2 * 2 ^ k := by
  rw [Nat.mod_pow_succ, Nat.mul_comm]
theorem bit_and (a b k : Nat) : (a &&& b) / 2 ^ k % 2 = if a / 2 ^ k % 2 + b / 2 ^ k % 2 = 2 then 1 else 0 := by
  rw [← Nat.toNat_testBit, ← Nat.toNat_testBit, ← Nat.toNat_testBit, Nat.testBit_and]
  cases a.testBit k <;> cases b.testBit k <;> rfl
theorem bit_or (a b k : Nat) : (a ||| b) / 2 ^ k % 2 = if 0 < a / 2 ^ k % 2 + b / 2 ^ k % 2 then 1 else 0 := by
  rw [← Nat.toNat_testBit, ← Nat.toNat_testBit, ← Nat.toNat_testBit, Nat.testBit_or]
  cases a.testBit k <;> cases b.testBit k <;> rfl
theorem bit_xor (a b k : Nat) : (a ^^^ b) / 2 ^ k % 2 = if a / 2 ^ k % 2 + b / 2 ^ k % 2 = 1 then 1 else 0 := by
  rw [← Nat.toNat_testBit, ← Nat.toNat_testBit, ← Nat.toNat_testBit, Nat.testBit_xor]
  cases a.testBit k <;> cases b.testBit k <;> rfl
def opF (op a b : Nat) : Nat := if op = 5 then a &&& b else if op = 6 then a ||| b else a ^^^ b
/-- Is the bit set, of the sum of both bits? -/
def setB (op n : Nat) : Bool := decide (op = 5 ∧ n = 2 ∨ op = 6 ∧ 0 < n ∨ op = 7 ∧ n = 1)
theorem bit_op (op a b k : Nat) (h : op = 5 ∨ op = 6 ∨ op = 7) : opF op a b / 2 ^ k % 2 = if setB op (a / 2 ^ k % 2 + b / 2 ^ k % 2) then 1 else 0 := by
  rcases h with rfl | rfl | rfl
  · simp only [opF, setB]; simp [bit_and]
  · simp only [opF, setB]; simp [bit_or]
  · simp only [opF, setB]; simp [bit_xor]
theorem op_step (op a b k : Nat) (h : op = 5 ∨ op = 6 ∨ op = 7) : opF op a b % 2 ^ (k + 1) = opF op a b % 2 ^ k + if setB op (a / 2 ^ k % 2 + b / 2 ^ k % 2) then 2 ^ k else 0 := by
  rw [bit_sum, bit_op op a b k h]
  split <;> simp
theorem opF_lt (op a b : Nat) (ha : a < 65536) (hb : b < 65536) : opF op a b < 65536 := by
  have h16 : (65536 : Nat) = 2 ^ 16 := rfl
  unfold opF
  rw [h16] at *
  split
  · exact Nat.and_lt_two_pow _ hb
  · split
    · exact Nat.or_lt_two_pow ha hb
    · exact Nat.xor_lt_two_pow ha hb

/-- What an op makes of two words (and of its number), not yet cut. -/
def rsF (op n : Int) (a b : Nat) : Int :=
  if op = 1 then n else if op = 3 then (a : Int) + b else if op = 4 then (a : Int) - b else if op = 5 then ((a &&& b : Nat) : Int) else if op = 6 then ((a ||| b : Nat) : Int) else if op = 7 then ((a ^^^ b : Nat) : Int)
  else if op = 8 then ((a * 2 ^ (b % 16) : Nat) : Int) else if op = 9 then ((a / 2 ^ (b % 16) : Nat) : Int) else if op = 10 then ((a * b : Nat) : Int) else if op = 11 then (if a < b then 1 else 0) else if op = 12 then (if a = b then 1 else 0) else (b : Int)
theorem pow16 (b : Nat) : 0 < 2 ^ (b % 16) ∧ 2 ^ (b % 16) ≤ 32768 :=
  ⟨Nat.two_pow_pos _, Nat.le_trans (Nat.pow_le_pow_right (by omega) (by omega : b % 16 ≤ 15)) (by decide)⟩
theorem mul_lt {a b x y : Nat} (h1 : a ≤ x) (h2 : b ≤ y) : a * b ≤ x * y := Nat.mul_le_mul h1 h2

structure Ac where
  k : Int
  n : Int
  r : Int
  ad : Int
  s : Int
  v : Int
deriving DecidableEq
def zA : Ac := ⟨0, 0, 0, 0, 0, 0⟩
def wd (v : Int) : Nat := (v % 65536).toNat
theorem wd_lt (v : Int) : wd v < 65536 := by unfold wd; omega
/-- Does a jump go further? -/
def gone (op : Int) (a : Nat) : Bool := decide (op = 17 ∨ op = 18 ∧ a = 0 ∨ op = 19 ∧ a ≠ 0)
/-- The registers behind an instruction: C's first eight are registers, the ninth is the PC; nx is where the next instruction stands. -/
def doC (C : List Nat) (i : In) (nx : Int) : List Nat :=
  if gone i.op (C.getD i.a.toNat 0) then C.set 8 (wd (nx + i.n))
  else if 1 ≤ i.op ∧ i.op ≤ 12 then (C.set 8 (wd nx)).set i.a.toNat (wd (rsF i.op i.n (C.getD i.a.toNat 0) (C.getD i.b.toNat 0)))
  else C.set 8 (wd nx)
/-- What comes of an instruction, of what its registers have. -/
def actF (i : In) (a b : Nat) : Ac :=
  if i.op = 0 then ⟨1, 0, 0, 0, 0, 0⟩ else if i.op = 20 then ⟨2, i.n, 0, 0, 0, 0⟩ else if i.op = 13 then ⟨3, 0, i.a, b, 1, 0⟩ else if i.op = 15 then ⟨3, 0, i.a, b, 2, 0⟩
  else if i.op = 14 then ⟨4, 0, 0, a, 1, (b % 256 : Nat)⟩ else if i.op = 16 then ⟨4, 0, 0, a, 2, b⟩ else ⟨5, 0, 0, 0, 0, 0⟩
/-- A step. -/
def stC (C : List Nat) (l : List UInt8) : List Nat := if atE l (C.getD 8 0 : Nat) = 0 then doC C (atI l (C.getD 8 0 : Nat)) (atN l (C.getD 8 0 : Nat)) else C
def stA (C : List Nat) (l : List UInt8) : Ac := if atE l (C.getD 8 0 : Nat) = 0 then actF (atI l (C.getD 8 0 : Nat)) (C.getD (atI l (C.getD 8 0 : Nat)).a.toNat 0) (C.getD (atI l (C.getD 8 0 : Nat)).b.toNat 0) else zA

structure Rg (C : List Nat) : Prop where
  len : C.length = 9
  lt : ∀ x ∈ C, x < 65536
theorem Rg.get {C : List Nat} (h : Rg C) (j : Nat) : C.getD j 0 < 65536 := by
  by_cases hj : j < C.length
  · rw [List.getD_eq_getElem?_getD, List.getElem?_eq_getElem hj]; exact h.lt _ (List.getElem_mem hj)
  · rw [List.getD_eq_getElem?_getD, List.getElem?_eq_none (by omega)]; decide
theorem Rg.set {C : List Nat} (h : Rg C) (j x : Nat) (hx : x < 65536) : Rg (C.set j x) :=
  ⟨by rw [List.length_set]; exact h.len, fun y hy => by
    rcases List.mem_or_eq_of_mem_set hy with hy | rfl
    · exact h.lt y hy
    · exact hx⟩
theorem Rg.do {C : List Nat} (h : Rg C) (i : In) (nx : Int) : Rg (doC C i nx) := by
  unfold doC
  split
  · exact h.set _ _ (wd_lt _)
  · split
    · exact (h.set _ _ (wd_lt _)).set _ _ (wd_lt _)
    · exact h.set _ _ (wd_lt _)
theorem Rg.step {C : List Nat} (h : Rg C) (l : List UInt8) : Rg (stC C l) := by
  unfold stC
  split
  · exact h.do _ _
  · exact h
end Go.Proofs.YtigbfdloodfdgaaDoor
