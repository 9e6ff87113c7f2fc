/- five: a run of its own; no statement is proved in this text. -/
import Derived.Test.YtdgkajhlofpdeaaFk
namespace Go.Proofs.Ytdgkajhlofpdeaa
open Go.ChangeShapes Go.WideShapes Go.ChangeAt Go.RowKit Go.Deep
attribute [local go_sem ↓] Go.wp_at_zero Go.wp_at_succ


def F1 : St := upd noSt (1, 0) (some (2, 2, 0))
def F2 : St := upd F1 (1, 0) (some (2, 2, 5))
def F3 : St := upd F2 (1, 1) (some (2, 2, 5))
def F4 : St := upd F3 (1, 1) (some (2, 2, 9))
theorem f1i : addI noSt 1 2 2 = 0 := by decide
theorem f1e : addE noSt 1 2 2 = 0 := by decide
theorem f1s : addS noSt 1 2 2 = F1 := rfl
theorem f2e : seekE F1 (1, 0) 5 = 0 := by decide
theorem f2s : seekS F1 (1, 0) 5 = F2 := rfl
theorem f3i : dupI F2 (1, 0) = 1 := by decide
theorem f3e : dupE F2 (1, 0) = 0 := by decide
theorem f3s : dupS F2 (1, 0) = F3 := rfl
theorem f4e : seekE F3 (1, 1) 9 = 0 := by decide
theorem f4s : seekS F3 (1, 1) 9 = F4 := rfl
theorem f5 : F4 (1, 0) = some (2, 2, 5) := by decide
theorem f6 : F4 (1, 1) = some (2, 2, 9) := by decide
theorem f5e : getE F4 (1, 0) = 0 := by decide
theorem f6e : getE F4 (1, 1) = 0 := by decide
theorem f7 : cnt 2 2 (lst F4) = 2 := by decide
set_option maxRecDepth 100000 in
set_option maxHeartbeats 1600000 in
theorem five_ok (w : World) : Calls Try.prog 10 #[] w fun e w' => e = .returned (.bool true) ∧ Below w.heap.size w w' := by
  obtain ⟨b, hb⟩ : ∃ b, b = w.heap.size := ⟨_, rfl⟩
  have HN := hid (new_ok w)
  rw [← hb] at HN ⊢
  clear hb
  have A1 := hid fun W h => add_ok W b b noSt 1 2 2 h
  rw [f1i, f1e, f1s] at A1
  have A2 := hid fun W h => seek_ok W b b F1 1 0 5 h
  rw [f2e, f2s] at A2
  have A3 := hid fun W h => dup_ok W b b F2 1 0 h
  rw [f3i, f3e, f3s] at A3
  have A4 := hid fun W h => seek_ok W b b F3 1 1 9 h
  rw [f4e, f4s] at A4
  have A5 : Hid (∀ W, Tb W b b F4 → Calls Try.prog 16 #[pq b, i64 1, i64 0] W fun e w' => e = .returned (.tuple #[ev 1 0 2 2 5, i64 0]) ∧ Below W.heap.size W w') := fun W h => by
    have := get_ok W b (pq b) F4 1 0 h.tv
    rw [f5, f5e] at this
    exact this
  have A6 : Hid (∀ W, Tb W b b F4 → Calls Try.prog 16 #[pq b, i64 1, i64 1] W fun e w' => e = .returned (.tuple #[ev 1 1 2 2 9, i64 0]) ∧ Below W.heap.size W w') := fun W h => by
    have := get_ok W b (pq b) F4 1 1 h.tv
    rw [f6, f6e] at this
    exact this
  have A7 : Hid (∀ W, Tb W b b F4 → Calls Try.prog 14 #[pq b, i64 2, i64 2] W fun e w' => e = .returned (i64 2) ∧ Below W.heap.size W w') := fun W h => by
    have := refs_ok W b (pq b) F4 2 2 h.tv
    rw [f7] at this
    exact this
  go_enter Try.func10, Try.ntmps10
  go_wp2_with fail
  refine HN.out.mono ?_
  rintro e w1 ⟨rfl, ht1, hb1⟩
  have C1 := hid (A1.out w1 ht1)
  have B1 : Hid (Below b w w1) := hb1
  clear ht1 hb1
  go_wp2_with fail
  refine C1.out.mono ?_
  rintro e w2 ⟨rfl, ht2, hf2⟩
  have C2 := hid (A2.out w2 ht2)
  have B2 : Hid (Below b w w2) := B1.out.trans hf2.below
  clear ht2 hf2
  go_wp2_with fail
  refine C2.out.mono ?_
  rintro e w3 ⟨rfl, ht3, hf3⟩
  have C3 := hid (A3.out w3 ht3)
  have B3 : Hid (Below b w w3) := B2.out.trans hf3.below
  clear ht3 hf3
  go_wp2_with fail
  refine C3.out.mono ?_
  rintro e w4 ⟨rfl, ht4, hf4⟩
  have C4 := hid (A4.out w4 ht4)
  have B4 : Hid (Below b w w4) := B3.out.trans hf4.below
  clear ht4 hf4
  go_wp2_with fail
  refine C4.out.mono ?_
  rintro e w5 ⟨rfl, ht5, hf5⟩
  have C5 := hid (A5.out w5 ht5)
  have B5 : Hid (Below b w w5) := B4.out.trans hf5.below
  have T5 := hid ht5
  clear ht5 hf5
  go_wp2_with fail
  refine C5.out.mono ?_
  rintro e w6 ⟨rfl, hb6⟩
  have T6 : Hid (Tb (w6.alloc (enO 1 0 2 2 5 38)) b b F4) := (T5.out.below hb6).below (below_one w6 _)
  have B6 : Hid (Below b w (w6.alloc (enO 1 0 2 2 5 38))) := (B5.out.trans (hb6.mono (Nat.le_of_lt T5.out.lt))).alloc (Nat.le_trans (Nat.le_of_lt T5.out.lt) hb6.size) _
  have C6 := hid (A6.out (w6.alloc (enO 1 0 2 2 5 38)) T6.out)
  have X6 := hid (heap_last w6 (enO 1 0 2 2 5 38))
  clear hb6
  go_wp2_with fail
  refine C6.out.mono ?_
  rintro e w7 ⟨rfl, hb7⟩
  have T7 : Hid (Tb (w7.alloc (enO 1 1 2 2 9 38)) b b F4) := (T6.out.below hb7).below (below_one w7 _)
  have B7 : Hid (Below b w (w7.alloc (enO 1 1 2 2 9 38))) := (B6.out.trans (hb7.mono (Nat.le_of_lt T6.out.lt))).alloc (Nat.le_trans (Nat.le_of_lt T6.out.lt) hb7.size) _
  have C7 := hid (A7.out (w7.alloc (enO 1 1 2 2 9 38)) T7.out)
  have x4 : w7.cell? ⟨w6.heap.size, 4, none⟩ = some (i64 5) := blk_cell (blk_below X6.out hb7) 4
  have hne : w6.heap.size < w7.heap.size := blk_lt (blk_below X6.out hb7)
  clear hb7
  go_wp2_with fail
  refine C7.out.mono ?_
  rintro e w8 ⟨rfl, hb8⟩
  have B8 : Hid (Below b w w8) := B7.out.trans (hb8.mono (Nat.le_of_lt T7.out.lt))
  clear hb8
  go_wp2_with fail
  go_ret
  exact ⟨rfl, B8.out⟩
end Go.Proofs.Ytdgkajhlofpdeaa
