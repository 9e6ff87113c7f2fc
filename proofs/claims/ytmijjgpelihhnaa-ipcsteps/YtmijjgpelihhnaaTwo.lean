/- imagolaw12.seven: its contract; no statement is proved in this text. -/
import Derived.Test.YtmijjgpelihhnaaRecv
namespace Go.Proofs.Ytmijjgpelihhnaa
open Go.ChangeShapes Go.WideShapes Go.ChangeAt Go.RowKit Go.Deep
attribute [local go_sem ↓] Go.wp_at_zero Go.wp_at_succ

def Q1 : Nat → List Ms := upQ zQ 1 (1, 7)
def Q2 : Nat → List Ms := upQ Q1 1 (1, 8)
def Q3 : Nat → List Ms := cutQ20 2 Q2
def Q4 : Nat → List Ms := cutQ21 1 Q3
theorem q3_len : ((Q3 1).length : Int) = 1 := by decide +kernel
theorem q4_gone : gc Q3 Q4 3 = 1 := by decide +kernel
theorem eq39a (w : World) : (Op.equalIn 10000 39 (.agg #[i64 1, u16v 7]) (.agg #[i64 1, u16v 7])).run Try.prog w = .ok true w := by kernel_rfl
set_option maxRecDepth 100000 in
set_option maxHeartbeats 3200000 in
theorem seven_ok (w : World) : Calls Try.prog 8 #[] w fun e w' => e = .returned (.bool true) ∧ Below w.heap.size w w' := by
  obtain ⟨b, hb⟩ : ∃ b, b = w.heap.size := ⟨_, rfl⟩
  have HN : Hid (Calls Try.prog 7 #[] w fun e w' => e = .returned (pq b) ∧ Pt w' b b zQ ∧ Below b w w') := by rw [hb]; exact new_ok w
  have HS1 : Hid (∀ W, Pt W b b zQ → Calls Try.prog 9 #[pq b, i64 1, i64 2, i64 7] W fun e w' => e = .returned (i64 0) ∧ Pt w' b b Q1 ∧ Below b W w') := fun W hW => send1 hW 1 7 (by decide) (by decide)
  have HS2 : Hid (∀ W, Pt W b b Q1 → Calls Try.prog 9 #[pq b, i64 1, i64 2, i64 8] W fun e w' => e = .returned (i64 0) ∧ Pt w' b b Q2 ∧ Below b W w') := fun W hW => send1 hW 1 8 (by decide) (by decide)
  have HR : Hid (∀ W, Pt W b b Q2 → Calls Try.prog 11 #[pq b, i64 2] W fun e w' => e = .returned (.tuple #[.agg #[i64 1, u16v 7], i64 0]) ∧ Pt w' b b Q3 ∧ Below b W w') := fun W hW => recv1 hW 1 7 [(1, 8)] (by decide)
  have HW : Hid (∀ W, Pt W b b Q3 → Calls Try.prog 15 #[pq b, i64 2] W fun e w' => e = .returned (i64 1) ∧ w' = W) := fun W hW => by have := waits1 hW; rw [q3_len] at this; exact this
  have HC : Hid (∀ W, Pt W b b Q3 → Calls Try.prog 13 #[pq b, i64 1] W fun e w' => e = .returned (i64 1) ∧ Pt w' b b Q4 ∧ Below b W w') := fun W hW => by have := clear_ok hW 1; rw [show gc Q3 (cutQ21 1 Q3) 3 = 1 from q4_gone] at this; exact this
  have z0 := eq39a
  rw [← hb]
  clear hb
  go_enter Try.func8, Try.ntmps8
  go_wp2_with fail
  refine HN.out.mono ?_
  rintro e w1 ⟨rfl, ht1, hb1⟩
  have HT1 := hid ht1
  have HB1 := hid hb1
  clear ht1 hb1
  go_wp2_with fail
  refine (HS1.out _ HT1.out).mono ?_
  rintro e w2 ⟨rfl, ht2, hb2⟩
  have HT2 := hid ht2
  have HB2 : Hid (Below b w w2) := HB1.out.trans hb2
  clear ht2 hb2
  go_wp2_with fail
  refine (HS2.out _ HT2.out).mono ?_
  rintro e w3 ⟨rfl, ht3, hb3⟩
  have HT3 := hid ht3
  have HB3 : Hid (Below b w w3) := HB2.out.trans hb3
  clear ht3 hb3
  go_wp2_with fail
  refine (HR.out _ HT3.out).mono ?_
  rintro e w4 ⟨rfl, ht4, hb4⟩
  have HT5 : Hid (Pt (w4.alloc (.cells #[i64 1, u16v 7] 39)) b b Q3) := ht4.below (below_one w4 _)
  have HX5 : Hid ((w4.alloc (.cells #[i64 1, u16v 7] 39)).heap[w4.heap.size]? = some (msO (1, 7))) := heap_last w4 _
  have hbl := HT3.out.lt
  have HB5 : Hid (Below b w (w4.alloc (.cells #[i64 1, u16v 7] 39))) := (HB3.out.trans hb4).trans ((below_one w4 _).mono (by have := hb4.size; omega))
  clear ht4 hb4 hbl
  go_upto_region 5 with fail
  generalize w4.alloc (.cells #[i64 1, u16v 7] 39) = U at *
  have c0 : U.cell? ⟨w4.heap.size, 0, none⟩ = some (i64 1) := blk_cell HX5.out 0
  have c1 : U.cell? ⟨w4.heap.size, 1, none⟩ = some (u16v 7) := blk_cell HX5.out 1
  go_wp2_with fail
  refine (HW.out _ HT5.out).mono ?_
  rintro e w6 ⟨rfl, hv⟩
  replace hv := hv.symm
  subst hv
  go_wp2_with fail
  refine (HC.out _ HT5.out).mono ?_
  rintro e w7 ⟨rfl, ht7, hb7⟩
  have HB7 : Hid (Below b w w7) := HB5.out.trans hb7
  clear ht7 hb7
  go_wp2_with fail
  go_ret
  exact ⟨rfl, HB7.out⟩
end Go.Proofs.Ytmijjgpelihhnaa
