/- three: a run of its own; refs, same; no statement is proved in this text. -/
import Derived.Test.YtmebkpdijamdgaaArgs
namespace Go.Proofs.Ytmebkpdijamdgaa
open Go.ChangeShapes Go.WideShapes Go.ChangeAt Go.RowKit Go.Deep
attribute [local go_sem ↓] Go.wp_at_zero Go.wp_at_succ

def A1 : List Ar := [(1, 0, 4)]
def A2 : List Ar := [(1, 0, 4), (1, 4, 2)]
def A3 : List Ar := [(1, 4, 2)]
def A4 : List Ar := [(1, 4, 2), (1, 0, 3)]
theorem no_lt {P : Nat → Prop} (h : ∀ j, j < 4 → P j) : ∀ j, j < 4 → P j := h
theorem m1 : MapAt [] 1 4 0 := ⟨by decide, by decide, fun j hj => by omega⟩
theorem m2 : MapAt A1 1 2 4 := ⟨by decide, by decide, fun j hj => by
  have : j = 0 ∨ j = 1 ∨ j = 2 ∨ j = 3 := by omega
  rcases this with rfl | rfl | rfl | rfl <;> decide⟩
theorem m3 : MapAt A3 1 3 0 := ⟨by decide, by decide, fun j hj => by omega⟩
theorem g1 : Good A1 := Good.map (L := []) .nil (by decide) (by decide) (by decide) m1
theorem g2 : Good A2 := Good.map g1 (by decide) (by decide) (by decide) m2
theorem u2 : unmL A2 1 0 = A3 := by decide
theorem u2i : unmI A2 1 0 = 4 := by decide
theorem u2e : unmE A2 1 0 = 0 := by decide
theorem g3 : Good A3 := by rw [← u2]; exact g2.filter _
theorem g4 : Good A4 := Good.map g3 (by decide) (by decide) (by decide) m3
theorem h5 : hasL A4 1 5 = true := by decide
theorem h3 : hasL A4 1 3 = false := by decide
set_option maxRecDepth 100000 in
set_option maxHeartbeats 3200000 in
theorem three_ok (w : World) : Calls Try.prog 9 #[] w fun e w' => e = .returned (.bool true) ∧ Below w.heap.size w w' := by
  obtain ⟨b, hb⟩ : ∃ b, b = w.heap.size := ⟨_, rfl⟩
  have HN := hid (new_ok w)
  rw [← hb] at HN ⊢
  clear hb
  have X1 : Hid (∀ W, Lb W b b [] → Calls Try.prog 17 #[pq b, i64 1, i64 4] W fun e w' => e = .returned (.tuple #[i64 0, i64 0]) ∧ Lb w' b b A1 ∧ Fr b [54, 42] W w') := fun W h => map_at W b b [] 1 4 0 (by decide) h .nil m1
  have X2 : Hid (∀ W, Lb W b b A1 → Calls Try.prog 17 #[pq b, i64 1, i64 2] W fun e w' => e = .returned (.tuple #[i64 4, i64 0]) ∧ Lb w' b b A2 ∧ Fr b [54, 42] W w') := fun W h => map_at W b b A1 1 2 4 (by decide) h g1 m2
  have X3 : Hid (∀ W, Lb W b b A2 → Calls Try.prog 19 #[pq b, i64 1, i64 0] W fun e w' => e = .returned (.tuple #[i64 4, i64 0]) ∧ Lb w' b b A3 ∧ Fr b [54, 42] W w') := fun W h => by
    have := unmap_ok W b b A2 1 0 h (by decide)
    rw [u2, u2i, u2e] at this
    exact this
  have X4 : Hid (∀ W, Lb W b b A3 → Calls Try.prog 17 #[pq b, i64 1, i64 3] W fun e w' => e = .returned (.tuple #[i64 0, i64 0]) ∧ Lb w' b b A4 ∧ Fr b [54, 42] W w') := fun W h => map_at W b b A3 1 3 0 (by decide) h g3 m3
  have X5 : Hid (∀ W, Lb W b b A4 → Calls Try.prog 14 #[pq b, i64 1, i64 5] W fun e w' => e = .returned (.bool true) ∧ Below W.heap.size W w') := fun W h => by
    have := has_ok W b (pq b) A4 1 5 h.lv (by decide) g4.isA
    rw [h5] at this
    exact this
  have X6 : Hid (∀ W, Lb W b b A4 → Calls Try.prog 14 #[pq b, i64 1, i64 3] W fun e w' => e = .returned (.bool false) ∧ Below W.heap.size W w') := fun W h => by
    have := has_ok W b (pq b) A4 1 3 h.lv (by decide) g4.isA
    rw [h3] at this
    exact this
  have X7 : Hid (∀ W, Lb W b b A4 → Calls Try.prog 13 #[pq b] W fun e w' => Got W w' e A4 ∧ Below W.heap.size W w') := fun W h => all_ok W b (pq b) A4 h.lv (by decide)
  go_enter Try.func9, Try.ntmps9
  go_wp2_with fail
  refine HN.out.mono ?_
  rintro e w1 ⟨rfl, ht1, hb1⟩
  have B1 : Hid (Below b w w1) := hb1
  have C1 := hid (X1.out w1 ht1)
  clear ht1 hb1 X1
  go_wp2_with fail
  refine C1.out.mono ?_
  rintro e w2 ⟨rfl, ht2, hf2⟩
  have B2 : Hid (Below b w w2) := B1.out.trans hf2.below
  have C2 := hid (X2.out w2 ht2)
  clear ht2 hf2 X2
  go_wp2_with fail
  refine C2.out.mono ?_
  rintro e w3 ⟨rfl, ht3, hf3⟩
  have B3 : Hid (Below b w w3) := B2.out.trans hf3.below
  have C3 := hid (X3.out w3 ht3)
  clear ht3 hf3 X3
  go_wp2_with fail
  refine C3.out.mono ?_
  rintro e w4 ⟨rfl, ht4, hf4⟩
  have B4 : Hid (Below b w w4) := B3.out.trans hf4.below
  have C4 := hid (X4.out w4 ht4)
  clear ht4 hf4 X4
  go_wp2_with fail
  refine C4.out.mono ?_
  rintro e w5 ⟨rfl, ht5, hf5⟩
  have B5 : Hid (Below b w w5) := B4.out.trans hf5.below
  have C5 := hid (X5.out w5 ht5)
  have T5 := hid ht5
  clear ht5 hf5 X5
  go_wp2_with fail
  refine C5.out.mono ?_
  rintro e w6 ⟨rfl, hb6⟩
  have T6 := hid (T5.out.below hb6)
  have B6 : Hid (Below b w w6) := B5.out.trans (hb6.mono T5.out.lob)
  have C6 := hid (X6.out w6 T6.out)
  clear hb6 X6
  go_wp2_with fail
  refine C6.out.mono ?_
  rintro e w7 ⟨rfl, hb7⟩
  have T7 := hid (T6.out.below hb7)
  have B7 : Hid (Below b w w7) := B6.out.trans (hb7.mono T6.out.lob)
  have C7 := hid (X7.out w7 T7.out)
  clear hb7 X7
  go_wp2_with fail
  refine C7.out.mono ?_
  rintro e w8 ⟨⟨ao, cap, rfl, _⟩, hb8⟩
  have B8 : Hid (Below b w w8) := B7.out.trans (hb8.mono T7.out.lob)
  rw [show A4.length = 2 from rfl]
  clear hb8
  go_wp2_with fail
  go_ret
  exact ⟨rfl, B8.out⟩
end Go.Proofs.Ytmebkpdijamdgaa
