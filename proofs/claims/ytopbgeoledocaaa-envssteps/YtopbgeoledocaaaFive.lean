/- imagolaw13.five: its contract; no statement is proved in this text. -/
import Derived.Test.YtopbgeoledocaaaTurn
namespace Go.Proofs.Ytopbgeoledocaaa
open Go.ChangeShapes Go.WideShapes Go.ChangeAt Go.RowKit Go.Deep
attribute [local go_sem ↓] Go.wp_at_zero Go.wp_at_succ

def stF : Nat → (Nat → Option En)
  | 0 => opE zE 1 1
  | k + 1 => poT (stF k) 1 3 k
theorem stF0 : stE (stF 0) 1 = some ⟨1, 0, 0, 0, 0, 0, 0, 0, 0, 0, 0⟩ := rfl
theorem stF_s {k : Nat} {e : En} (h : stE (stF k) 1 = some e) : stE (stF (k + 1)) 1 = some (poE e 3 k) := by
  show stE (poT (stF k) 1 3 k) 1 = _
  unfold poT
  rw [h]
  simp only [show kdB 3 = true by decide, Bool.true_eq_false, if_false]
  exact stE_up (by decide) _
theorem stF1 : stE (stF 1) 1 = some ⟨1, 3, 0, 0, 0, 0, 0, 0, 0, 1, 0⟩ := stF_s stF0
theorem stF2 : stE (stF 2) 1 = some ⟨1, 3, 0, 3, 1, 0, 0, 0, 0, 2, 0⟩ := stF_s stF1
theorem stF3 : stE (stF 3) 1 = some ⟨1, 3, 0, 3, 1, 3, 2, 0, 0, 3, 0⟩ := stF_s stF2
theorem stF4 : stE (stF 4) 1 = some ⟨1, 3, 0, 3, 1, 3, 2, 3, 3, 4, 0⟩ := stF_s stF3
theorem stF5 : stE (stF 5) 1 = some ⟨1, 3, 1, 3, 2, 3, 3, 3, 4, 4, 1⟩ := stF_s stF4
theorem stF_any {k : Nat} (h : k < 5) : ∃ e, stE (stF k) 1 = some e ∧ 0 ≤ e.lost ∧ e.lost ≤ 1000000 := by
  rcases (show k = 0 ∨ k = 1 ∨ k = 2 ∨ k = 3 ∨ k = 4 by omega) with rfl | rfl | rfl | rfl | rfl
  · exact ⟨_, stF0, by decide, by decide⟩
  · exact ⟨_, stF1, by decide, by decide⟩
  · exact ⟨_, stF2, by decide, by decide⟩
  · exact ⟨_, stF3, by decide, by decide⟩
  · exact ⟨_, stF4, by decide, by decide⟩
theorem post_five {W : World} {b : Nat} {k : Nat} (hk : k < 5) (h : Tb W b b (stF k)) : Calls Try.prog 18 #[pq b, i64 1, upV 3 k] W fun e w' => e = .returned (i64 0) ∧ Tb w' b b (stF (k + 1)) ∧ Below b W w' := by
  obtain ⟨e0, h0, h1, h2⟩ := stF_any hk
  refine (post_ok h 1 3 k (fun e he => by rw [h0] at he; cases he; exact ⟨h1, h2⟩)).mono fun _ _ ⟨g1, g2, g3⟩ => ⟨?_, g2, g3.below⟩
  rw [h0] at g1
  exact g1
theorem take_five {W : World} {b : Nat} (h : Tb W b b (stF 5)) : Calls Try.prog 19 #[pq b, i64 1] W fun e w' => e = .returned (.tuple #[upV 3 1, i64 0]) ∧ Tb w' b b (tkT (stF 5) 1) ∧ Below b W w' := by
  refine (take_ok h 1).mono fun _ _ ⟨g1, g2, g3⟩ => ⟨?_, g2, g3.below⟩
  rw [stF5] at g1
  exact g1
theorem lost_five {W : World} {b : Nat} (h : Tb W b b (tkT (stF 5) 1)) : Calls Try.prog 11 #[pq b, i64 1] W fun e w' => e = .returned (i64 1) ∧ w' = W := by
  refine (lost_ok h 1).mono fun _ _ ⟨g1, g2⟩ => ⟨?_, g2⟩
  have hx : stE (tkT (stF 5) 1) 1 = some (shE ⟨1, 3, 1, 3, 2, 3, 3, 3, 4, 4, 1⟩) := by
    unfold tkT
    rw [stF5]
    simp only [show ((4 : Int) = 0) = False by simp, if_false]
    exact stE_up (by decide) _
  rw [hx] at g1
  exact g1
theorem turn_five (w : World) (b : Nat) (h : w.heap[b]? = some (.cells #[i64 1, i64 0, i64 2] 3)) : Calls Try.prog 15 #[.slice (some ⟨b, 0, none⟩) 3 3, i64 (-1)] w fun e w' => e = .returned (i64 2) ∧ w' = w := by
  have := turn_in w (some ⟨b, 0, none⟩) 3 3 (-1) (fun i => [1, 0, 2].getD i 0) (Or.inr ⟨b, 0, rfl, blk_lt h, fun i hi => by
    rw [Nat.zero_add, blk_cell h]
    rcases (show i = 0 ∨ i = 1 ∨ i = 2 by omega) with rfl | rfl | rfl <;> rfl⟩) (by omega) (by omega)
  exact this
set_option maxRecDepth 100000 in
set_option maxHeartbeats 3200000 in
theorem five_ok (w : World) : Calls Try.prog 9 #[] w fun e w' => e = .returned (.bool true) ∧ Below w.heap.size w w' := by
  obtain ⟨b, hb⟩ : ∃ b, b = w.heap.size := ⟨_, rfl⟩
  have HN : Hid (Calls Try.prog 8 #[] w fun e w' => e = .returned (pq b) ∧ Tb w' b b zE ∧ Below b w w') := by rw [hb]; exact new_ok w
  have HOp : Hid (∀ W, Tb W b b zE → Calls Try.prog 17 #[pq b, i64 1, i64 1] W fun e w' => e = .returned (i64 0) ∧ Tb w' b b (stF 0) ∧ Below b W w') := fun W hW => (open_ok hW 1 1).mono fun _ _ ⟨h1, h2, h3⟩ => ⟨h1, h2, h3.below⟩
  rw [← hb]
  have HBe := hid hb
  clear hb
  go_enter Try.func9, Try.ntmps9
  go_wp2_with fail
  refine HN.out.mono ?_
  rintro e w1 ⟨rfl, ht1, hb1⟩
  have HT1 := hid ht1
  have HB1 := hid hb1
  clear ht1 hb1
  go_wp2_with fail
  refine (HOp.out _ HT1.out).mono ?_
  rintro e w2 ⟨rfl, ht2, hb2⟩
  have HT2 := hid ht2
  have HB2 : Hid (Below b w w2) := HB1.out.trans hb2
  clear ht2 hb2
  go_wp2_with fail
  go_loopw [3] (fun u wr => ∃ k : Nat, k ≤ 5 ∧ u = i64 k ∧ Hid (Tb wr b b (stF k)) ∧ Hid (Below b w wr)) (fun u _ => 5 - (intOf u).toNat)
  case atStart => exact ⟨0, by omega, rfl, HT2, HB2⟩
  case round =>
    obtain ⟨k, hk, rfl, HT, HB⟩ := hrel
    by_cases hlt : k < 5
    · have hkI : (k : Int) < 5 := by omega
      go_wp2_with fail
      refine (post_five hlt HT.out).mono ?_
      rintro e w3 ⟨rfl, ht3, hb3⟩
      have HT3 := hid ht3
      have HB3 : Hid (Below b w w3) := HB.out.trans hb3
      clear ht3 hb3
      go_wp2_with fail
      exact ⟨⟨k + 1, by omega, by go_num, HT3, HB3⟩, by simp [intOf]; omega⟩
    · obtain rfl : k = 5 := by omega
      go_wp2_with fail
      refine (take_five HT.out).mono ?_
      rintro e w3 ⟨rfl, ht3, hb3⟩
      have hl3 := ht3.lt
      have HT3 : Hid (Tb (w3.alloc (upO 3 1)) b b (tkT (stF 5) 1)) := ht3.below (below_one w3 _)
      have HB3 : Hid (Below b w (w3.alloc (upO 3 1))) := (HB.out.trans hb3).trans ((below_one w3 _).mono (by omega))
      have HX : Hid ((w3.alloc (upO 3 1)).heap[w3.heap.size]? = some (upO 3 1)) := heap_last w3 _
      clear ht3 hb3 hl3
      go_upto_region 8 with fail
      generalize w3.alloc (upO 3 1) = U at *
      have x1 : U.cell? ⟨w3.heap.size, 1, none⟩ = some (i64 1) := blk_cell HX.out 1
      have hl4 := hid HT3.out.lt
      go_wp2_with fail
      refine (lost_five HT3.out).mono ?_
      rintro e v4 ⟨rfl, hv⟩
      replace hv := hv.symm
      subst hv
      go_wp2_with fail
      refine (turn_five _ U.heap.size (heap_last U _)).mono ?_
      rintro e v5 ⟨rfl, hv⟩
      replace hv := hv.symm
      subst hv
      have HB5 : Hid (Below b w (U.alloc (.cells #[i64 1, i64 0, i64 2] 3))) := HB3.out.trans ((below_one U _).mono (by have := hl4.out; omega))
      go_wp2_with fail
      go_ret
      exact ⟨rfl, HB5.out⟩
end Go.Proofs.Ytopbgeoledocaaa
