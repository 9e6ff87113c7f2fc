/- Three bytes (abc); nil pipes; no statement is proved in this text. -/
import Derived.Test.YtojhmiggocommaaLs
namespace Go.Proofs.Ytojhmiggocommaa
open Go.ChangeShapes Go.WideShapes Go.ChangeAt Go.RowKit Go.Deep
attribute [local go_sem ↓] Go.wp_at_zero Go.wp_at_succ

def S1 : St := opnS noSt
def S2 : St := wrtS S1 0 [97, 98, 99]
def S3 : St := redS S2 0 2
theorem s0i : opnI noSt = 0 := by rfl
theorem s0e : opnE noSt = 0 := by rfl
theorem s1e : wrtE S1 0 [97, 98, 99] = 0 := by rfl
theorem s2e : redE S2 0 2 = 0 := by rfl
theorem s2t : redT S2 0 2 = [97, 98] := by rfl
theorem s3v : wtsV S3 0 = 1 := by rfl
theorem s3e : errA S3 0 = 0 := by rfl
theorem s3l : (lst S3).length = 1 := by rfl
set_option maxRecDepth 100000 in
set_option maxHeartbeats 3200000 in
theorem abc_ok (w : World) : Calls Try.prog 10 #[] w fun e w' => e = .returned (.bool true) ∧ Below w.heap.size w w' := by
  obtain ⟨b, hb⟩ : ∃ b, b = w.heap.size := ⟨_, rfl⟩
  have HB0 := hid hb
  have HN := hid (new_ok w)
  rw [← hb] at HN ⊢
  clear hb
  go_enter Try.func10, Try.ntmps10
  go_wp2_with fail
  refine HN.out.mono ?_
  rintro e w1 ⟨rfl, hp1, hb1⟩
  have HP1 := hid hp1
  have HB1 : Hid (Below b w w1) := hb1
  clear hp1 hb1 HN
  go_wp2_with fail
  refine (open_ok w1 b b noSt HP1.out).mono ?_
  rw [s0i, s0e]
  rintro e w2 ⟨rfl, hp2, hf2⟩
  have HP2 : Hid (PS w2 b b S1) := hp2
  have HB2 : Hid (Below b w w2) := HB1.out.trans hf2.below
  clear hp2 hf2
  go_wp2_with fail
  have HW : Hid (Calls Try.prog 15 #[pq b, i64 0, .string ⟨#[97, 98, 99]⟩] w2 fun e w' => e = .returned (i64 (wrtE S1 0 [97, 98, 99])) ∧ PS w' b b S2 ∧ Fr b [57, 68] w2 w') := write_ok w2 b b S1 0 ⟨#[97, 98, 99]⟩ HP2.out
  rw [s1e] at HW
  refine HW.out.mono ?_
  rintro e w3 ⟨rfl, hp3, hf3⟩
  have HP3 := hid hp3
  have HB3 : Hid (Below b w w3) := HB2.out.trans hf3.below
  clear hp3 hf3 HW
  go_wp2_with fail
  refine (read_ok w3 b b S2 0 2 HP3.out).mono ?_
  rw [s2t, s2e]
  rintro e w4 ⟨rfl, hp4, hf4⟩
  have HP4 : Hid (PS w4 b b S3) := hp4
  have HB4 : Hid (Below b w w4) := HB3.out.trans hf4.below
  clear hp4 hf4
  rw [show str [97, 98] = .string ⟨#[97, 98]⟩ from rfl]
  go_wp2_with fail
  refine (waits_ok w4 b b S3 0 HP4.out).mono ?_
  rw [s3v, s3e]
  rintro e w5 ⟨rfl, hw5⟩
  replace hw5 := hw5.symm
  subst hw5
  have HL := hid (list_ok w4 b b S3 HP4.out)
  rw [s3l] at HL
  go_wp2_with fail
  refine HL.out.mono ?_
  rintro e w6 ⟨ao, cap, rfl, ho, hb6⟩
  have HB6 : Hid (Below b w w6) := HB4.out.trans (hb6.mono (by have := HP4.out.lt; omega))
  clear ho hb6
  go_wp2_with fail
  go_ret
  exact ⟨rfl, HB6.out⟩
theorem open_nil (w : World) : Calls Try.prog 14 #[.pointer none] w fun e w' => e = .returned (.tuple #[i64 0, i64 7]) ∧ w' = w := by
  go_enter Try.func14, Try.ntmps14
  go_wp2_with fail
  go_ret2
  exact ⟨rfl, rfl⟩
theorem list_nil (w : World) : Calls Try.prog 13 #[.pointer none] w fun e w' => e = .returned (.slice none 0 0) ∧ w' = w := by
  go_enter Try.func13, Try.ntmps13
  go_wp2_with fail
  go_ret
  exact ⟨rfl, rfl⟩
theorem at_z (w : World) (id E : Int) (hE : (¬ (0 ≤ id ∧ id < 3) ∧ E = 1) ∨ ((0 ≤ id ∧ id < 3) ∧ E = 6)) : Calls Try.prog 27 #[.pointer none, i64 id] w fun e w' => e = .returned (.tuple #[.pointer none, i64 E]) ∧ w' = w := by
  rcases hE with ⟨h, rfl⟩ | ⟨h, rfl⟩
  · exact at_arg w _ id h
  · obtain ⟨i, rfl⟩ : ∃ i : Nat, id = i := ⟨id.toNat, by omega⟩
    exact at_nil w i (by omega)
set_option maxRecDepth 100000 in
set_option maxHeartbeats 3200000 in
theorem close_nil (w : World) (id E : Int) (hE : (¬ (0 ≤ id ∧ id < 3) ∧ E = 1) ∨ ((0 ≤ id ∧ id < 3) ∧ E = 6)) : Calls Try.prog 20 #[.pointer none, i64 id] w fun e w' => e = .returned (i64 E) ∧ w' = w := by
  have H := hid (at_z w id E hE)
  have hne : (E != 0) = true := by rcases hE with ⟨_, rfl⟩ | ⟨_, rfl⟩ <;> rfl
  clear hE
  go_enter Try.func20, Try.ntmps20
  go_wp2_with fail
  refine H.out.mono ?_
  rintro e w1 ⟨rfl, hw⟩
  replace hw := hw.symm
  subst hw
  go_wp2_with fail
  go_ret
  exact ⟨rfl, rfl⟩
set_option maxRecDepth 100000 in
set_option maxHeartbeats 3200000 in
theorem write_nil (w : World) (id E : Int) (s : ByteArray) (hE : (¬ (0 ≤ id ∧ id < 3) ∧ E = 1) ∨ ((0 ≤ id ∧ id < 3) ∧ E = 6)) : Calls Try.prog 15 #[.pointer none, i64 id, .string s] w fun e w' => e = .returned (i64 E) ∧ w' = w := by
  have H := hid (at_z w id E hE)
  have hne : (E != 0) = true := by rcases hE with ⟨_, rfl⟩ | ⟨_, rfl⟩ <;> rfl
  clear hE
  go_enter Try.func15, Try.ntmps15
  go_wp2_with fail
  refine H.out.mono ?_
  rintro e w1 ⟨rfl, hw⟩
  replace hw := hw.symm
  subst hw
  go_wp2_with fail
  go_ret
  exact ⟨rfl, rfl⟩
set_option maxRecDepth 100000 in
set_option maxHeartbeats 3200000 in
theorem waits_nil (w : World) (id E : Int) (hE : (¬ (0 ≤ id ∧ id < 3) ∧ E = 1) ∨ ((0 ≤ id ∧ id < 3) ∧ E = 6)) : Calls Try.prog 19 #[.pointer none, i64 id] w fun e w' => e = .returned (.tuple #[i64 0, i64 E]) ∧ w' = w := by
  have H := hid (at_z w id E hE)
  have hne : (E != 0) = true := by rcases hE with ⟨_, rfl⟩ | ⟨_, rfl⟩ <;> rfl
  clear hE
  go_enter Try.func19, Try.ntmps19
  go_wp2_with fail
  refine H.out.mono ?_
  rintro e w1 ⟨rfl, hw⟩
  replace hw := hw.symm
  subst hw
  go_wp2_with fail
  go_ret2
  exact ⟨rfl, rfl⟩
set_option maxRecDepth 100000 in
set_option maxHeartbeats 3200000 in
theorem read_nil (w : World) (id E : Int) (n : Int) (hE : (¬ (0 ≤ id ∧ id < 3) ∧ E = 1) ∨ ((0 ≤ id ∧ id < 3) ∧ E = 6)) (hn : 0 ≤ n) : Calls Try.prog 16 #[.pointer none, i64 id, i64 n] w fun e w' => e = .returned (.tuple #[.string ⟨#[]⟩, i64 E]) ∧ w' = w := by
  have H := hid (at_z w id E hE)
  have hne : (E != 0) = true := by rcases hE with ⟨_, rfl⟩ | ⟨_, rfl⟩ <;> rfl
  clear hE
  go_enter Try.func16, Try.ntmps16
  go_wp2_with fail
  refine H.out.mono ?_
  rintro e w1 ⟨rfl, hw⟩
  replace hw := hw.symm
  subst hw
  go_wp2_with fail
  go_ret2
  exact ⟨rfl, rfl⟩
theorem read_nil_neg (w : World) (id n : Int) (hn : n < 0) : Calls Try.prog 16 #[.pointer none, i64 id, i64 n] w fun e w' => e = .returned (.tuple #[.string ⟨#[]⟩, i64 1]) ∧ w' = w := by
  go_enter Try.func16, Try.ntmps16
  go_wp2_with fail
  go_ret2
  exact ⟨rfl, rfl⟩
set_option maxRecDepth 100000 in
set_option maxHeartbeats 3200000 in
theorem nil1 (w : World) (what id n : Int) (s : ByteArray) (h1 : id < 0) (hn : n < 0) : Calls Try.prog 7 #[.agg #[i64 what, i64 id, i64 n, .string s]] w fun e w' => e = .returned (.bool true) ∧ Below w.heap.size w w' := by
  have HR := hid (read_nil_neg (w.alloc (.cells #[i64 what, i64 id, i64 n, .string s] 32)) id n hn)
  have HW := hid (waits_nil (w.alloc (.cells #[i64 what, i64 id, i64 n, .string s] 32)) id 1 (.inl ⟨by omega, rfl⟩))
  have HC := hid (close_nil (w.alloc (.cells #[i64 what, i64 id, i64 n, .string s] 32)) id 1 (.inl ⟨by omega, rfl⟩))
  have HT := hid (write_nil (w.alloc (.cells #[i64 what, i64 id, i64 n, .string s] 32)) id 1 s (.inl ⟨by omega, rfl⟩))
  have HB : Hid (Below w.heap.size w (w.alloc (.cells #[i64 what, i64 id, i64 n, .string s] 32))) := below_one w _
  go_enter Try.func7, Try.ntmps7
  go_wp2_with fail
  refine (open_nil _).mono ?_
  rintro e w1 ⟨rfl, hw⟩
  subst hw
  go_wp2_with fail
  refine HR.out.mono ?_
  rintro e w1 ⟨rfl, hw⟩
  subst hw
  go_wp2_with fail
  refine HW.out.mono ?_
  rintro e w1 ⟨rfl, hw⟩
  subst hw
  go_wp2_with fail
  refine HC.out.mono ?_
  rintro e w1 ⟨rfl, hw⟩
  subst hw
  go_wp2_with fail
  refine HT.out.mono ?_
  rintro e w1 ⟨rfl, hw⟩
  subst hw
  go_wp2_with fail
  refine (list_nil _).mono ?_
  rintro e w1 ⟨rfl, hw⟩
  subst hw
  go_wp2_with fail
  refine (abc_ok _).mono ?_
  rintro e w2 ⟨rfl, hb2⟩
  have HB2 : Hid (Below w.heap.size w w2) := HB.out.trans (hb2.mono HB.out.size)
  clear hb2
  go_wp2_with fail
  go_ret
  exact ⟨rfl, HB2.out⟩
set_option maxRecDepth 100000 in
set_option maxHeartbeats 3200000 in
theorem nil2 (w : World) (what id n : Int) (s : ByteArray) (h1 : id < 0) (hn : ¬ n < 0) : Calls Try.prog 7 #[.agg #[i64 what, i64 id, i64 n, .string s]] w fun e w' => e = .returned (.bool true) ∧ Below w.heap.size w w' := by
  have HR := hid (read_nil (w.alloc (.cells #[i64 what, i64 id, i64 n, .string s] 32)) id 1 n (.inl ⟨by omega, rfl⟩) (by omega))
  have HW := hid (waits_nil (w.alloc (.cells #[i64 what, i64 id, i64 n, .string s] 32)) id 1 (.inl ⟨by omega, rfl⟩))
  have HC := hid (close_nil (w.alloc (.cells #[i64 what, i64 id, i64 n, .string s] 32)) id 1 (.inl ⟨by omega, rfl⟩))
  have HT := hid (write_nil (w.alloc (.cells #[i64 what, i64 id, i64 n, .string s] 32)) id 1 s (.inl ⟨by omega, rfl⟩))
  have HB : Hid (Below w.heap.size w (w.alloc (.cells #[i64 what, i64 id, i64 n, .string s] 32))) := below_one w _
  go_enter Try.func7, Try.ntmps7
  go_wp2_with fail
  refine (open_nil _).mono ?_
  rintro e w1 ⟨rfl, hw⟩
  subst hw
  go_wp2_with fail
  refine HR.out.mono ?_
  rintro e w1 ⟨rfl, hw⟩
  subst hw
  go_wp2_with fail
  refine HW.out.mono ?_
  rintro e w1 ⟨rfl, hw⟩
  subst hw
  go_wp2_with fail
  refine HC.out.mono ?_
  rintro e w1 ⟨rfl, hw⟩
  subst hw
  go_wp2_with fail
  refine HT.out.mono ?_
  rintro e w1 ⟨rfl, hw⟩
  subst hw
  go_wp2_with fail
  refine (list_nil _).mono ?_
  rintro e w1 ⟨rfl, hw⟩
  subst hw
  go_wp2_with fail
  refine (abc_ok _).mono ?_
  rintro e w2 ⟨rfl, hb2⟩
  have HB2 : Hid (Below w.heap.size w w2) := HB.out.trans (hb2.mono HB.out.size)
  clear hb2
  go_wp2_with fail
  go_ret
  exact ⟨rfl, HB2.out⟩
set_option maxRecDepth 100000 in
set_option maxHeartbeats 3200000 in
theorem nil3 (w : World) (what id n : Int) (s : ByteArray) (h1 : ¬ id < 0) (h2 : 2 < id) (hn : n < 0) : Calls Try.prog 7 #[.agg #[i64 what, i64 id, i64 n, .string s]] w fun e w' => e = .returned (.bool true) ∧ Below w.heap.size w w' := by
  have HR := hid (read_nil_neg (w.alloc (.cells #[i64 what, i64 id, i64 n, .string s] 32)) id n hn)
  have HW := hid (waits_nil (w.alloc (.cells #[i64 what, i64 id, i64 n, .string s] 32)) id 1 (.inl ⟨by omega, rfl⟩))
  have HC := hid (close_nil (w.alloc (.cells #[i64 what, i64 id, i64 n, .string s] 32)) id 1 (.inl ⟨by omega, rfl⟩))
  have HT := hid (write_nil (w.alloc (.cells #[i64 what, i64 id, i64 n, .string s] 32)) id 1 s (.inl ⟨by omega, rfl⟩))
  have HB : Hid (Below w.heap.size w (w.alloc (.cells #[i64 what, i64 id, i64 n, .string s] 32))) := below_one w _
  go_enter Try.func7, Try.ntmps7
  go_wp2_with fail
  refine (open_nil _).mono ?_
  rintro e w1 ⟨rfl, hw⟩
  subst hw
  go_wp2_with fail
  refine HR.out.mono ?_
  rintro e w1 ⟨rfl, hw⟩
  subst hw
  go_wp2_with fail
  refine HW.out.mono ?_
  rintro e w1 ⟨rfl, hw⟩
  subst hw
  go_wp2_with fail
  refine HC.out.mono ?_
  rintro e w1 ⟨rfl, hw⟩
  subst hw
  go_wp2_with fail
  refine HT.out.mono ?_
  rintro e w1 ⟨rfl, hw⟩
  subst hw
  go_wp2_with fail
  refine (list_nil _).mono ?_
  rintro e w1 ⟨rfl, hw⟩
  subst hw
  go_wp2_with fail
  refine (abc_ok _).mono ?_
  rintro e w2 ⟨rfl, hb2⟩
  have HB2 : Hid (Below w.heap.size w w2) := HB.out.trans (hb2.mono HB.out.size)
  clear hb2
  go_wp2_with fail
  go_ret
  exact ⟨rfl, HB2.out⟩
set_option maxRecDepth 100000 in
set_option maxHeartbeats 3200000 in
theorem nil4 (w : World) (what id n : Int) (s : ByteArray) (h1 : ¬ id < 0) (h2 : 2 < id) (hn : ¬ n < 0) : Calls Try.prog 7 #[.agg #[i64 what, i64 id, i64 n, .string s]] w fun e w' => e = .returned (.bool true) ∧ Below w.heap.size w w' := by
  have HR := hid (read_nil (w.alloc (.cells #[i64 what, i64 id, i64 n, .string s] 32)) id 1 n (.inl ⟨by omega, rfl⟩) (by omega))
  have HW := hid (waits_nil (w.alloc (.cells #[i64 what, i64 id, i64 n, .string s] 32)) id 1 (.inl ⟨by omega, rfl⟩))
  have HC := hid (close_nil (w.alloc (.cells #[i64 what, i64 id, i64 n, .string s] 32)) id 1 (.inl ⟨by omega, rfl⟩))
  have HT := hid (write_nil (w.alloc (.cells #[i64 what, i64 id, i64 n, .string s] 32)) id 1 s (.inl ⟨by omega, rfl⟩))
  have HB : Hid (Below w.heap.size w (w.alloc (.cells #[i64 what, i64 id, i64 n, .string s] 32))) := below_one w _
  go_enter Try.func7, Try.ntmps7
  go_wp2_with fail
  refine (open_nil _).mono ?_
  rintro e w1 ⟨rfl, hw⟩
  subst hw
  go_wp2_with fail
  refine HR.out.mono ?_
  rintro e w1 ⟨rfl, hw⟩
  subst hw
  go_wp2_with fail
  refine HW.out.mono ?_
  rintro e w1 ⟨rfl, hw⟩
  subst hw
  go_wp2_with fail
  refine HC.out.mono ?_
  rintro e w1 ⟨rfl, hw⟩
  subst hw
  go_wp2_with fail
  refine HT.out.mono ?_
  rintro e w1 ⟨rfl, hw⟩
  subst hw
  go_wp2_with fail
  refine (list_nil _).mono ?_
  rintro e w1 ⟨rfl, hw⟩
  subst hw
  go_wp2_with fail
  refine (abc_ok _).mono ?_
  rintro e w2 ⟨rfl, hb2⟩
  have HB2 : Hid (Below w.heap.size w w2) := HB.out.trans (hb2.mono HB.out.size)
  clear hb2
  go_wp2_with fail
  go_ret
  exact ⟨rfl, HB2.out⟩
set_option maxRecDepth 100000 in
set_option maxHeartbeats 3200000 in
theorem nil5 (w : World) (what id n : Int) (s : ByteArray) (h1 : ¬ id < 0) (h2 : ¬ 2 < id) (hn : n < 0) : Calls Try.prog 7 #[.agg #[i64 what, i64 id, i64 n, .string s]] w fun e w' => e = .returned (.bool true) ∧ Below w.heap.size w w' := by
  have HR := hid (read_nil_neg (w.alloc (.cells #[i64 what, i64 id, i64 n, .string s] 32)) id n hn)
  have HW := hid (waits_nil (w.alloc (.cells #[i64 what, i64 id, i64 n, .string s] 32)) id 6 (.inr ⟨by omega, rfl⟩))
  have HC := hid (close_nil (w.alloc (.cells #[i64 what, i64 id, i64 n, .string s] 32)) id 6 (.inr ⟨by omega, rfl⟩))
  have HT := hid (write_nil (w.alloc (.cells #[i64 what, i64 id, i64 n, .string s] 32)) id 6 s (.inr ⟨by omega, rfl⟩))
  have HB : Hid (Below w.heap.size w (w.alloc (.cells #[i64 what, i64 id, i64 n, .string s] 32))) := below_one w _
  have d1 : decide (id < 0) = false := by simpa using h1
  have d2 : decide (2 < id) = false := by simpa using h2
  have dn : decide (n < 0) = true := by simpa using hn
  go_enter Try.func7, Try.ntmps7
  go_wp2_with fail
  refine (open_nil _).mono ?_
  rintro e w1 ⟨rfl, hw⟩
  subst hw
  go_wp2_with fail
  refine HR.out.mono ?_
  rintro e w1 ⟨rfl, hw⟩
  subst hw
  go_wp2_with fail
  refine HW.out.mono ?_
  rintro e w1 ⟨rfl, hw⟩
  subst hw
  go_wp2_with fail
  refine HC.out.mono ?_
  rintro e w1 ⟨rfl, hw⟩
  subst hw
  go_wp2_with fail
  refine HT.out.mono ?_
  rintro e w1 ⟨rfl, hw⟩
  subst hw
  go_wp2_with fail
  refine (list_nil _).mono ?_
  rintro e w1 ⟨rfl, hw⟩
  subst hw
  go_wp2_with fail
  refine (abc_ok _).mono ?_
  rintro e w2 ⟨rfl, hb2⟩
  have HB2 : Hid (Below w.heap.size w w2) := HB.out.trans (hb2.mono HB.out.size)
  clear hb2
  go_wp2_with fail
  go_ret
  exact ⟨rfl, HB2.out⟩
set_option maxRecDepth 100000 in
set_option maxHeartbeats 3200000 in
theorem nil6 (w : World) (what id n : Int) (s : ByteArray) (h1 : ¬ id < 0) (h2 : ¬ 2 < id) (hn : ¬ n < 0) : Calls Try.prog 7 #[.agg #[i64 what, i64 id, i64 n, .string s]] w fun e w' => e = .returned (.bool true) ∧ Below w.heap.size w w' := by
  have HR := hid (read_nil (w.alloc (.cells #[i64 what, i64 id, i64 n, .string s] 32)) id 6 n (.inr ⟨by omega, rfl⟩) (by omega))
  have HW := hid (waits_nil (w.alloc (.cells #[i64 what, i64 id, i64 n, .string s] 32)) id 6 (.inr ⟨by omega, rfl⟩))
  have HC := hid (close_nil (w.alloc (.cells #[i64 what, i64 id, i64 n, .string s] 32)) id 6 (.inr ⟨by omega, rfl⟩))
  have HT := hid (write_nil (w.alloc (.cells #[i64 what, i64 id, i64 n, .string s] 32)) id 6 s (.inr ⟨by omega, rfl⟩))
  have HB : Hid (Below w.heap.size w (w.alloc (.cells #[i64 what, i64 id, i64 n, .string s] 32))) := below_one w _
  have d1 : decide (id < 0) = false := by simpa using h1
  have d2 : decide (2 < id) = false := by simpa using h2
  have dn : decide (n < 0) = false := by simpa using hn
  go_enter Try.func7, Try.ntmps7
  go_wp2_with fail
  refine (open_nil _).mono ?_
  rintro e w1 ⟨rfl, hw⟩
  subst hw
  go_wp2_with fail
  refine HR.out.mono ?_
  rintro e w1 ⟨rfl, hw⟩
  subst hw
  go_wp2_with fail
  refine HW.out.mono ?_
  rintro e w1 ⟨rfl, hw⟩
  subst hw
  go_wp2_with fail
  refine HC.out.mono ?_
  rintro e w1 ⟨rfl, hw⟩
  subst hw
  go_wp2_with fail
  refine HT.out.mono ?_
  rintro e w1 ⟨rfl, hw⟩
  subst hw
  go_wp2_with fail
  refine (list_nil _).mono ?_
  rintro e w1 ⟨rfl, hw⟩
  subst hw
  go_wp2_with fail
  refine (abc_ok _).mono ?_
  rintro e w2 ⟨rfl, hb2⟩
  have HB2 : Hid (Below w.heap.size w w2) := HB.out.trans (hb2.mono HB.out.size)
  clear hb2
  go_wp2_with fail
  go_ret
  exact ⟨rfl, HB2.out⟩
theorem nil_walk (w : World) (what id n : Int) (s : ByteArray) : Calls Try.prog 7 #[.agg #[i64 what, i64 id, i64 n, .string s]] w fun e w' => e = .returned (.bool true) ∧ Below w.heap.size w w' := by
  by_cases hn : n < 0
  · by_cases h1 : id < 0
    · exact nil1 w what id n s h1 hn
    · by_cases h2 : 2 < id
      · exact nil3 w what id n s h1 h2 hn
      · exact nil5 w what id n s h1 h2 hn
  · by_cases h1 : id < 0
    · exact nil2 w what id n s h1 hn
    · by_cases h2 : 2 < id
      · exact nil4 w what id n s h1 h2 hn
      · exact nil6 w what id n s h1 h2 hn
end Go.Proofs.Ytojhmiggocommaa
