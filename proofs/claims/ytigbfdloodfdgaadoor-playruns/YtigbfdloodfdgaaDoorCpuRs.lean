/- cpu's and the document's result, cpu's asked: their contracts; no statement is proved in this text. -/
import Derived.Test.YtigbfdloodfdgaaDoorCpuRes
namespace Go.Proofs.YtigbfdloodfdgaaDoor
open Go.ChangeShapes Go.WideShapes Go.ChangeAt Go.RowKit

abbrev acV (x : Ac) : Value := .agg #[i64 x.k, i64 x.n, i64 x.r, i64 x.ad, i64 x.s, i64 x.v]
theorem shl_num (a b : Nat) (ha : a < 65536) : wrap64 ((a : Int) * 2 ^ (b % 16)) = ((a * 2 ^ (b % 16) : Nat) : Int) := by
  obtain ⟨p1, p2⟩ := pow16 b
  have h : a * 2 ^ (b % 16) ≤ 65536 * 32768 := mul_lt (by omega) p2
  have e : ((a * 2 ^ (b % 16) : Nat) : Int) = (a : Int) * 2 ^ (b % 16) := by rw [Int.natCast_mul, Int.natCast_pow]; rfl
  rw [← e]
  generalize a * 2 ^ (b % 16) = x at *
  unfold wrap64
  omega
set_option maxHeartbeats 1600000 in
theorem res1 (w : World) (i : In) (a b : Nat) (_ha : a < 65536) (_hb : b < 65536) (ho : i.op = 1) : Calls Tryd.prog 35 #[inV i, i64 a, i64 b] w fun e w' => e = .returned (i64 (rsF 1 i.n a b)) ∧ Below w.heap.size w w' := by
  obtain ⟨op, A, B, n⟩ := i
  simp only at ho
  subst ho
  go_enter Tryd.func35, Tryd.ntmps35
  go_wp2_with fail
  go_ret
  exact ⟨congrArg (fun n => Ending.returned (Value.int .i64 n)) (by simp [rsF]), below_one w _⟩
set_option maxHeartbeats 1600000 in
theorem res2 (w : World) (i : In) (a b : Nat) (_ha : a < 65536) (_hb : b < 65536) (ho : i.op = 2) : Calls Tryd.prog 35 #[inV i, i64 a, i64 b] w fun e w' => e = .returned (i64 (rsF 2 i.n a b)) ∧ Below w.heap.size w w' := by
  obtain ⟨op, A, B, n⟩ := i
  simp only at ho
  subst ho
  go_enter Tryd.func35, Tryd.ntmps35
  go_wp2_with fail
  go_ret
  exact ⟨congrArg (fun n => Ending.returned (Value.int .i64 n)) (by simp [rsF]), below_one w _⟩
set_option maxHeartbeats 1600000 in
theorem res3 (w : World) (i : In) (a b : Nat) (ha : a < 65536) (hb : b < 65536) (ho : i.op = 3) : Calls Tryd.prog 35 #[inV i, i64 a, i64 b] w fun e w' => e = .returned (i64 (rsF 3 i.n a b)) ∧ Below w.heap.size w w' := by
  obtain ⟨op, A, B, n⟩ := i
  simp only at ho
  subst ho
  go_enter Tryd.func35, Tryd.ntmps35
  go_wp2_with fail
  go_ret
  exact ⟨congrArg (fun n => Ending.returned (Value.int .i64 n)) (by simp [rsF]), below_one w _⟩
set_option maxHeartbeats 1600000 in
theorem res4 (w : World) (i : In) (a b : Nat) (ha : a < 65536) (hb : b < 65536) (ho : i.op = 4) : Calls Tryd.prog 35 #[inV i, i64 a, i64 b] w fun e w' => e = .returned (i64 (rsF 4 i.n a b)) ∧ Below w.heap.size w w' := by
  obtain ⟨op, A, B, n⟩ := i
  simp only at ho
  subst ho
  go_enter Tryd.func35, Tryd.ntmps35
  go_wp2_with fail
  go_ret
  exact ⟨congrArg (fun n => Ending.returned (Value.int .i64 n)) (by simp [rsF]), below_one w _⟩
set_option maxHeartbeats 1600000 in
theorem res5 (w : World) (i : In) (a b : Nat) (ha : a < 65536) (hb : b < 65536) (ho : i.op = 5) : Calls Tryd.prog 35 #[inV i, i64 a, i64 b] w fun e w' => e = .returned (i64 (rsF 5 i.n a b)) ∧ Below w.heap.size w w' := by
  obtain ⟨op, A, B, n⟩ := i
  simp only at ho
  subst ho
  have h := and_i64 a b ha hb
  go_enter Tryd.func35, Tryd.ntmps35
  go_wp2_with fail
  go_ret
  exact ⟨congrArg (fun n => Ending.returned (Value.int .i64 n)) (by simp [rsF]), below_one w _⟩
set_option maxHeartbeats 1600000 in
theorem res6 (w : World) (i : In) (a b : Nat) (ha : a < 65536) (hb : b < 65536) (ho : i.op = 6) : Calls Tryd.prog 35 #[inV i, i64 a, i64 b] w fun e w' => e = .returned (i64 (rsF 6 i.n a b)) ∧ Below w.heap.size w w' := by
  obtain ⟨op, A, B, n⟩ := i
  simp only at ho
  subst ho
  have h := or_i64 a b ha hb
  go_enter Tryd.func35, Tryd.ntmps35
  go_wp2_with fail
  go_ret
  exact ⟨congrArg (fun n => Ending.returned (Value.int .i64 n)) (by simp [rsF]), below_one w _⟩
set_option maxHeartbeats 1600000 in
theorem res7 (w : World) (i : In) (a b : Nat) (ha : a < 65536) (hb : b < 65536) (ho : i.op = 7) : Calls Tryd.prog 35 #[inV i, i64 a, i64 b] w fun e w' => e = .returned (i64 (rsF 7 i.n a b)) ∧ Below w.heap.size w w' := by
  obtain ⟨op, A, B, n⟩ := i
  simp only at ho
  subst ho
  have h := xor_i64 a b ha hb
  go_enter Tryd.func35, Tryd.ntmps35
  go_wp2_with fail
  go_ret
  exact ⟨congrArg (fun n => Ending.returned (Value.int .i64 n)) (by simp [rsF]), below_one w _⟩
set_option maxHeartbeats 1600000 in
theorem res8 (w : World) (i : In) (a b : Nat) (ha : a < 65536) (hb : b < 65536) (ho : i.op = 8) : Calls Tryd.prog 35 #[inV i, i64 a, i64 b] w fun e w' => e = .returned (i64 (rsF 8 i.n a b)) ∧ Below w.heap.size w w' := by
  obtain ⟨op, A, B, n⟩ := i
  simp only at ho
  subst ho
  have h15 := and15_i64 b hb
  go_enter Tryd.func35, Tryd.ntmps35
  go_wp2_with fail
  go_ret
  exact ⟨congrArg (fun n => Ending.returned (Value.int .i64 n)) (by rw [shl_num a b ha]; simp [rsF]), below_one w _⟩
set_option maxHeartbeats 1600000 in
theorem res9 (w : World) (i : In) (a b : Nat) (_ha : a < 65536) (hb : b < 65536) (ho : i.op = 9) : Calls Tryd.prog 35 #[inV i, i64 a, i64 b] w fun e w' => e = .returned (i64 (rsF 9 i.n a b)) ∧ Below w.heap.size w w' := by
  obtain ⟨op, A, B, n⟩ := i
  simp only at ho
  subst ho
  have h15 := and15_i64 b hb
  go_enter Tryd.func35, Tryd.ntmps35
  go_wp2_with fail
  go_ret
  exact ⟨congrArg (fun n => Ending.returned (Value.int .i64 n)) (by simp [rsF]), below_one w _⟩
set_option maxHeartbeats 1600000 in
theorem res10 (w : World) (i : In) (a b : Nat) (ha : a < 65536) (hb : b < 65536) (ho : i.op = 10) : Calls Tryd.prog 35 #[inV i, i64 a, i64 b] w fun e w' => e = .returned (i64 (rsF 10 i.n a b)) ∧ Below w.heap.size w w' := by
  obtain ⟨op, A, B, n⟩ := i
  simp only at ho
  subst ho
  have hm : (a : Int) * (b : Int) ≤ 65535 * 65535 := Int.mul_le_mul (by omega) (by omega) (by omega) (by omega)
  have hm0 : 0 ≤ (a : Int) * (b : Int) := Int.mul_nonneg (by omega) (by omega)
  go_enter Tryd.func35, Tryd.ntmps35
  go_wp2_with fail
  go_ret
  exact ⟨congrArg (fun n => Ending.returned (Value.int .i64 n)) (by simp [rsF]), below_one w _⟩
set_option maxHeartbeats 1600000 in
theorem res11 (w : World) (i : In) (a b : Nat) (_ha : a < 65536) (_hb : b < 65536) (ho : i.op = 11) : Calls Tryd.prog 35 #[inV i, i64 a, i64 b] w fun e w' => e = .returned (i64 (rsF 11 i.n a b)) ∧ Below w.heap.size w w' := by
  obtain ⟨op, A, B, n⟩ := i
  simp only at ho
  subst ho
  by_cases h : a < b
  · have hh : decide ((a : Int) < (b : Int)) = true := by simp; omega
    go_enter Tryd.func35, Tryd.ntmps35
    go_wp2_with (go_at_call 42; refine (truth_ok _ _).mono ?_; rintro e w1 ⟨rfl, rfl⟩)
    go_ret
    exact ⟨congrArg (fun n => Ending.returned (Value.int .i64 n)) (by simp [rsF, h]), below_one w _⟩
  · have hh : decide ((a : Int) < (b : Int)) = false := by simp; omega
    go_enter Tryd.func35, Tryd.ntmps35
    go_wp2_with (go_at_call 42; refine (truth_ok _ _).mono ?_; rintro e w1 ⟨rfl, rfl⟩)
    go_ret
    exact ⟨congrArg (fun n => Ending.returned (Value.int .i64 n)) (by simp [rsF, h]), below_one w _⟩
set_option maxHeartbeats 1600000 in
theorem res12 (w : World) (i : In) (a b : Nat) (_ha : a < 65536) (_hb : b < 65536) (ho : i.op = 12) : Calls Tryd.prog 35 #[inV i, i64 a, i64 b] w fun e w' => e = .returned (i64 (rsF 12 i.n a b)) ∧ Below w.heap.size w w' := by
  obtain ⟨op, A, B, n⟩ := i
  simp only at ho
  subst ho
  by_cases h : a = b
  · have hh : ((a : Int) == (b : Int)) = true := by simp; omega
    go_enter Tryd.func35, Tryd.ntmps35
    go_wp2_with (go_at_call 42; refine (truth_ok _ _).mono ?_; rintro e w1 ⟨rfl, rfl⟩)
    go_ret
    exact ⟨congrArg (fun n => Ending.returned (Value.int .i64 n)) (by simp [rsF, h]), below_one w _⟩
  · have hh : ((a : Int) == (b : Int)) = false := by simp; omega
    go_enter Tryd.func35, Tryd.ntmps35
    go_wp2_with (go_at_call 42; refine (truth_ok _ _).mono ?_; rintro e w1 ⟨rfl, rfl⟩)
    go_ret
    exact ⟨congrArg (fun n => Ending.returned (Value.int .i64 n)) (by simp [rsF, h]), below_one w _⟩
theorem res_ok (w : World) (i : In) (a b : Nat) (ha : a < 65536) (hb : b < 65536) (h1 : 1 ≤ i.op) (h2 : i.op ≤ 12) : Calls Tryd.prog 35 #[inV i, i64 a, i64 b] w fun e w' => e = .returned (i64 (rsF i.op i.n a b)) ∧ Below w.heap.size w w' := by
  rcases (show i.op = 1 ∨ i.op = 2 ∨ i.op = 3 ∨ i.op = 4 ∨ i.op = 5 ∨ i.op = 6 ∨ i.op = 7 ∨ i.op = 8 ∨ i.op = 9 ∨ i.op = 10 ∨ i.op = 11 ∨ i.op = 12 by omega) with h | h | h | h | h | h | h | h | h | h | h | h
  · have r := res1 w i a b ha hb h; rw [← h] at r; exact r
  · have r := res2 w i a b ha hb h; rw [← h] at r; exact r
  · have r := res3 w i a b ha hb h; rw [← h] at r; exact r
  · have r := res4 w i a b ha hb h; rw [← h] at r; exact r
  · have r := res5 w i a b ha hb h; rw [← h] at r; exact r
  · have r := res6 w i a b ha hb h; rw [← h] at r; exact r
  · have r := res7 w i a b ha hb h; rw [← h] at r; exact r
  · have r := res8 w i a b ha hb h; rw [← h] at r; exact r
  · have r := res9 w i a b ha hb h; rw [← h] at r; exact r
  · have r := res10 w i a b ha hb h; rw [← h] at r; exact r
  · have r := res11 w i a b ha hb h; rw [← h] at r; exact r
  · have r := res12 w i a b ha hb h; rw [← h] at r; exact r
set_option maxHeartbeats 1600000 in
theorem rres2 (w : World) (n : Int) (a b : Nat) (_ha : a < 65536) (_hb : b < 65536) : Calls Tryd.prog 44 #[i64 2, i64 a, i64 b] w fun e w' => e = .returned (i64 (rsF 2 n a b)) ∧ w' = w := by
  go_enter Tryd.func44, Tryd.ntmps44
  go_wp2_with (fail)
  go_ret
  exact ⟨congrArg (fun n => Ending.returned (Value.int .i64 n)) (by simp [rsF]), rfl⟩
set_option maxHeartbeats 1600000 in
theorem rres3 (w : World) (n : Int) (a b : Nat) (ha : a < 65536) (hb : b < 65536) : Calls Tryd.prog 44 #[i64 3, i64 a, i64 b] w fun e w' => e = .returned (i64 (rsF 3 n a b)) ∧ w' = w := by
  go_enter Tryd.func44, Tryd.ntmps44
  go_wp2_with (fail)
  go_ret
  exact ⟨congrArg (fun n => Ending.returned (Value.int .i64 n)) (by simp [rsF]), rfl⟩
set_option maxHeartbeats 1600000 in
theorem rres4 (w : World) (n : Int) (a b : Nat) (ha : a < 65536) (hb : b < 65536) : Calls Tryd.prog 44 #[i64 4, i64 a, i64 b] w fun e w' => e = .returned (i64 (rsF 4 n a b)) ∧ w' = w := by
  go_enter Tryd.func44, Tryd.ntmps44
  go_wp2_with (fail)
  go_ret
  exact ⟨congrArg (fun n => Ending.returned (Value.int .i64 n)) (by simp [rsF]), rfl⟩
set_option maxHeartbeats 1600000 in
theorem rres5 (w : World) (n : Int) (a b : Nat) (ha : a < 65536) (hb : b < 65536) : Calls Tryd.prog 44 #[i64 5, i64 a, i64 b] w fun e w' => e = .returned (i64 (rsF 5 n a b)) ∧ w' = w := by
  go_enter Tryd.func44, Tryd.ntmps44
  go_wp2_with (go_at_call 51; refine (both5 _ a b ha hb).mono ?_; rintro e w1 ⟨rfl, rfl⟩)
  go_ret
  exact ⟨congrArg (fun n => Ending.returned (Value.int .i64 n)) (by simp [rsF, opF]), rfl⟩
set_option maxHeartbeats 1600000 in
theorem rres6 (w : World) (n : Int) (a b : Nat) (ha : a < 65536) (hb : b < 65536) : Calls Tryd.prog 44 #[i64 6, i64 a, i64 b] w fun e w' => e = .returned (i64 (rsF 6 n a b)) ∧ w' = w := by
  go_enter Tryd.func44, Tryd.ntmps44
  go_wp2_with (go_at_call 51; refine (both6 _ a b ha hb).mono ?_; rintro e w1 ⟨rfl, rfl⟩)
  go_ret
  exact ⟨congrArg (fun n => Ending.returned (Value.int .i64 n)) (by simp [rsF, opF]), rfl⟩
set_option maxHeartbeats 1600000 in
theorem rres7 (w : World) (n : Int) (a b : Nat) (ha : a < 65536) (hb : b < 65536) : Calls Tryd.prog 44 #[i64 7, i64 a, i64 b] w fun e w' => e = .returned (i64 (rsF 7 n a b)) ∧ w' = w := by
  go_enter Tryd.func44, Tryd.ntmps44
  go_wp2_with (go_at_call 51; refine (both7 _ a b ha hb).mono ?_; rintro e w1 ⟨rfl, rfl⟩)
  go_ret
  exact ⟨congrArg (fun n => Ending.returned (Value.int .i64 n)) (by simp [rsF, opF]), rfl⟩
set_option maxHeartbeats 1600000 in
theorem rres8 (w : World) (n : Int) (a b : Nat) (ha : a < 65536) (hb : b < 65536) : Calls Tryd.prog 44 #[i64 8, i64 a, i64 b] w fun e w' => e = .returned (i64 (rsF 8 n a b)) ∧ w' = w := by
  obtain ⟨p1, p2⟩ := pow16 b
  have HP : Hid (∀ w, Calls Tryd.prog 52 #[i64 ((b % 16 : Nat) : Int)] w fun e w' => e = .returned (i64 (2 ^ (b % 16) : Nat)) ∧ w' = w) := fun w => power_ok w (b % 16) (by omega)
  have hr : rsF 8 n a b = ((a * 2 ^ (b % 16) : Nat) : Int) := by simp [rsF]
  have HR : Hid (rsF 8 n a b = ((a * 2 ^ (b % 16) : Nat) : Int)) := hr
  clear hr
  have hm : (a : Int) * ((2 ^ (b % 16) : Nat) : Int) ≤ 65535 * 32768 := Int.mul_le_mul (by omega) (by omega) (by omega) (by omega)
  have hm0 : 0 ≤ (a : Int) * ((2 ^ (b % 16) : Nat) : Int) := Int.mul_nonneg (by omega) (by omega)
  generalize 2 ^ (b % 16) = P at *
  go_enter Tryd.func44, Tryd.ntmps44
  go_wp2_with (go_at_call 52; rw [show ((b : Int) % 16) = ((b % 16 : Nat) : Int) from rfl]; refine (HP.out _).mono ?_; rintro e w1 ⟨rfl, rfl⟩)
  go_ret
  exact ⟨congrArg (fun n => Ending.returned (Value.int .i64 n)) (by rw [HR.out]; simp), rfl⟩
set_option maxHeartbeats 1600000 in
theorem rres9 (w : World) (n : Int) (a b : Nat) (ha : a < 65536) (hb : b < 65536) : Calls Tryd.prog 44 #[i64 9, i64 a, i64 b] w fun e w' => e = .returned (i64 (rsF 9 n a b)) ∧ w' = w := by
  obtain ⟨p1, p2⟩ := pow16 b
  have HP : Hid (∀ w, Calls Tryd.prog 52 #[i64 ((b % 16 : Nat) : Int)] w fun e w' => e = .returned (i64 (2 ^ (b % 16) : Nat)) ∧ w' = w) := fun w => power_ok w (b % 16) (by omega)
  have hr : rsF 9 n a b = ((a / 2 ^ (b % 16) : Nat) : Int) := by simp [rsF]
  have HR : Hid (rsF 9 n a b = ((a / 2 ^ (b % 16) : Nat) : Int)) := hr
  clear hr
  generalize 2 ^ (b % 16) = P at *
  go_enter Tryd.func44, Tryd.ntmps44
  go_wp2_with (go_at_call 52; rw [show ((b : Int) % 16) = ((b % 16 : Nat) : Int) from rfl]; refine (HP.out _).mono ?_; rintro e w1 ⟨rfl, rfl⟩)
  go_ret
  exact ⟨congrArg (fun n => Ending.returned (Value.int .i64 n)) (by rw [HR.out, show ((a : Int) / (P : Int)) = ((a / P : Nat) : Int) from rfl]; have := div_le16 a P ha; generalize a / P = q at *; unfold wrap64; omega), rfl⟩
set_option maxHeartbeats 1600000 in
theorem rres10 (w : World) (n : Int) (a b : Nat) (ha : a < 65536) (hb : b < 65536) : Calls Tryd.prog 44 #[i64 10, i64 a, i64 b] w fun e w' => e = .returned (i64 (rsF 10 n a b)) ∧ w' = w := by
  have hm : (a : Int) * (b : Int) ≤ 65535 * 65535 := Int.mul_le_mul (by omega) (by omega) (by omega) (by omega)
  have hm0 : 0 ≤ (a : Int) * (b : Int) := Int.mul_nonneg (by omega) (by omega)
  go_enter Tryd.func44, Tryd.ntmps44
  go_wp2_with (fail)
  go_ret
  exact ⟨congrArg (fun n => Ending.returned (Value.int .i64 n)) (by simp [rsF]), rfl⟩
set_option maxHeartbeats 1600000 in
theorem rres11 (w : World) (n : Int) (a b : Nat) (_ha : a < 65536) (_hb : b < 65536) : Calls Tryd.prog 44 #[i64 11, i64 a, i64 b] w fun e w' => e = .returned (i64 (rsF 11 n a b)) ∧ w' = w := by
  by_cases h : a < b
  · have hh : decide ((a : Int) < (b : Int)) = true := by simp; omega
    go_enter Tryd.func44, Tryd.ntmps44
    go_wp2_with fail
    go_ret
    exact ⟨congrArg (fun n => Ending.returned (Value.int .i64 n)) (by simp [rsF, h]), rfl⟩
  · have hh : decide ((a : Int) < (b : Int)) = false := by simp; omega
    go_enter Tryd.func44, Tryd.ntmps44
    go_wp2_with fail
    go_ret
    exact ⟨congrArg (fun n => Ending.returned (Value.int .i64 n)) (by simp [rsF, h]), rfl⟩
set_option maxHeartbeats 1600000 in
theorem rres12 (w : World) (n : Int) (a b : Nat) (_ha : a < 65536) (_hb : b < 65536) : Calls Tryd.prog 44 #[i64 12, i64 a, i64 b] w fun e w' => e = .returned (i64 (rsF 12 n a b)) ∧ w' = w := by
  by_cases h : a = b
  · have hh : ((a : Int) == (b : Int)) = true := by simp; omega
    go_enter Tryd.func44, Tryd.ntmps44
    go_wp2_with fail
    go_ret
    exact ⟨congrArg (fun n => Ending.returned (Value.int .i64 n)) (by simp [rsF, h]), rfl⟩
  · have hh : ((a : Int) == (b : Int)) = false := by simp; omega
    go_enter Tryd.func44, Tryd.ntmps44
    go_wp2_with fail
    go_ret
    exact ⟨congrArg (fun n => Ending.returned (Value.int .i64 n)) (by simp [rsF, h]), rfl⟩
theorem rres_ok (w : World) (op n : Int) (a b : Nat) (ha : a < 65536) (hb : b < 65536) (h1 : 2 ≤ op) (h2 : op ≤ 12) : Calls Tryd.prog 44 #[i64 op, i64 a, i64 b] w fun e w' => e = .returned (i64 (rsF op n a b)) ∧ w' = w := by
  rcases (show op = 2 ∨ op = 3 ∨ op = 4 ∨ op = 5 ∨ op = 6 ∨ op = 7 ∨ op = 8 ∨ op = 9 ∨ op = 10 ∨ op = 11 ∨ op = 12 by omega) with rfl | rfl | rfl | rfl | rfl | rfl | rfl | rfl | rfl | rfl | rfl
  · exact rres2 w n a b ha hb
  · exact rres3 w n a b ha hb
  · exact rres4 w n a b ha hb
  · exact rres5 w n a b ha hb
  · exact rres6 w n a b ha hb
  · exact rres7 w n a b ha hb
  · exact rres8 w n a b ha hb
  · exact rres9 w n a b ha hb
  · exact rres10 w n a b ha hb
  · exact rres11 w n a b ha hb
  · exact rres12 w n a b ha hb
set_option maxHeartbeats 1600000 in
theorem asked0 (w : World) (A B n : Int) (a b : Nat) (_ha : a < 65536) (_hb : b < 65536) : Calls Tryd.prog 34 #[inV ⟨0, A, B, n⟩, i64 a, i64 b] w fun e w' => e = .returned (acV (actF ⟨0, A, B, n⟩ a b)) ∧ Below w.heap.size w w' := by
  have hA : actF ⟨0, A, B, n⟩ a b = ⟨1, 0, 0, 0, 0, 0⟩ := by simp [actF]
  rw [hA]
  clear hA
  go_enter Tryd.func34, Tryd.ntmps34
  go_wp2_with fail
  exact bodyPost_ret (v := acV ⟨1, 0, 0, 0, 0, 0⟩) (by simp [results, Tryd.results34, go_sem]) rfl ⟨rfl, by repeat (first | exact Below.refl _ _ | refine Below.setCell ?_ (by simp) _ | refine Below.alloc ?_ (by simp) _)⟩
set_option maxHeartbeats 1600000 in
theorem asked20 (w : World) (A B n : Int) (a b : Nat) (_ha : a < 65536) (_hb : b < 65536) : Calls Tryd.prog 34 #[inV ⟨20, A, B, n⟩, i64 a, i64 b] w fun e w' => e = .returned (acV (actF ⟨20, A, B, n⟩ a b)) ∧ Below w.heap.size w w' := by
  have hA : actF ⟨20, A, B, n⟩ a b = ⟨2, n, 0, 0, 0, 0⟩ := by simp [actF]
  rw [hA]
  clear hA
  go_enter Tryd.func34, Tryd.ntmps34
  go_wp2_with fail
  exact bodyPost_ret (v := acV ⟨2, n, 0, 0, 0, 0⟩) (by simp [results, Tryd.results34, go_sem]) rfl ⟨rfl, by repeat (first | exact Below.refl _ _ | refine Below.setCell ?_ (by simp) _ | refine Below.alloc ?_ (by simp) _)⟩
set_option maxHeartbeats 1600000 in
theorem asked13 (w : World) (A B n : Int) (a b : Nat) (_ha : a < 65536) (_hb : b < 65536) : Calls Tryd.prog 34 #[inV ⟨13, A, B, n⟩, i64 a, i64 b] w fun e w' => e = .returned (acV (actF ⟨13, A, B, n⟩ a b)) ∧ Below w.heap.size w w' := by
  have hA : actF ⟨13, A, B, n⟩ a b = ⟨3, 0, A, b, 1, 0⟩ := by simp [actF]
  rw [hA]
  clear hA
  go_enter Tryd.func34, Tryd.ntmps34
  go_wp2_with fail
  exact bodyPost_ret (v := acV ⟨3, 0, A, b, 1, 0⟩) (by simp [results, Tryd.results34, go_sem]) rfl ⟨rfl, by repeat (first | exact Below.refl _ _ | refine Below.setCell ?_ (by simp) _ | refine Below.alloc ?_ (by simp) _)⟩
set_option maxHeartbeats 1600000 in
theorem asked15 (w : World) (A B n : Int) (a b : Nat) (_ha : a < 65536) (_hb : b < 65536) : Calls Tryd.prog 34 #[inV ⟨15, A, B, n⟩, i64 a, i64 b] w fun e w' => e = .returned (acV (actF ⟨15, A, B, n⟩ a b)) ∧ Below w.heap.size w w' := by
  have hA : actF ⟨15, A, B, n⟩ a b = ⟨3, 0, A, b, 2, 0⟩ := by simp [actF]
  rw [hA]
  clear hA
  go_enter Tryd.func34, Tryd.ntmps34
  go_wp2_with fail
  exact bodyPost_ret (v := acV ⟨3, 0, A, b, 2, 0⟩) (by simp [results, Tryd.results34, go_sem]) rfl ⟨rfl, by repeat (first | exact Below.refl _ _ | refine Below.setCell ?_ (by simp) _ | refine Below.alloc ?_ (by simp) _)⟩
set_option maxHeartbeats 1600000 in
theorem asked14 (w : World) (A B n : Int) (a b : Nat) (_ha : a < 65536) (hb : b < 65536) : Calls Tryd.prog 34 #[inV ⟨14, A, B, n⟩, i64 a, i64 b] w fun e w' => e = .returned (acV (actF ⟨14, A, B, n⟩ a b)) ∧ Below w.heap.size w w' := by
  have h255 := and255_i64 b hb
  have hA : actF ⟨14, A, B, n⟩ a b = ⟨4, 0, 0, a, 1, (b % 256 : Nat)⟩ := by simp [actF]
  rw [hA]
  clear hA
  go_enter Tryd.func34, Tryd.ntmps34
  go_wp2_with fail
  exact bodyPost_ret (v := acV ⟨4, 0, 0, a, 1, (b % 256 : Nat)⟩) (by simp [results, Tryd.results34, go_sem]) rfl ⟨rfl, by repeat (first | exact Below.refl _ _ | refine Below.setCell ?_ (by simp) _ | refine Below.alloc ?_ (by simp) _)⟩
set_option maxHeartbeats 1600000 in
theorem asked16 (w : World) (A B n : Int) (a b : Nat) (_ha : a < 65536) (_hb : b < 65536) : Calls Tryd.prog 34 #[inV ⟨16, A, B, n⟩, i64 a, i64 b] w fun e w' => e = .returned (acV (actF ⟨16, A, B, n⟩ a b)) ∧ Below w.heap.size w w' := by
  have hA : actF ⟨16, A, B, n⟩ a b = ⟨4, 0, 0, a, 2, b⟩ := by simp [actF]
  rw [hA]
  clear hA
  go_enter Tryd.func34, Tryd.ntmps34
  go_wp2_with fail
  exact bodyPost_ret (v := acV ⟨4, 0, 0, a, 2, b⟩) (by simp [results, Tryd.results34, go_sem]) rfl ⟨rfl, by repeat (first | exact Below.refl _ _ | refine Below.setCell ?_ (by simp) _ | refine Below.alloc ?_ (by simp) _)⟩
end Go.Proofs.YtigbfdloodfdgaaDoor
