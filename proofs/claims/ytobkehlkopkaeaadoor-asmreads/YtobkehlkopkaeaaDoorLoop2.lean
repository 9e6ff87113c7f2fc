/- The example of the laws of layer 6: its contract; no statement is proved in this text. -/
import Derived.Test.YtobkehlkopkaeaaDoorLoop
namespace Go.Proofs.YtobkehlkopkaeaaDoor
open Go.ChangeShapes Go.WideShapes Go.ChangeAt Go.RowKit
set_option maxRecDepth 100000

theorem three_at {w : World} (u0 u1 u2 : Bs) : WSl (w.alloc (.cells #[str u0, str u1, str u2] 9)) (some ⟨w.heap.size, 0, none⟩) [u0, u1, u2] := by
  refine Or.inr ⟨w.heap.size, 0, rfl, by simp, fun j x hx => ?_⟩
  rw [cell_of_row _ _ _ _ 9 (0, 0) (heap_at rfl _)]
  rcases j with _ | _ | _ | j
  · obtain rfl : u0 = x := by simpa using hx
    rfl
  · obtain rfl : u1 = x := by simpa using hx
    rfl
  · obtain rfl : u2 = x := by simpa using hx
    rfl
  · simp at hx

set_option maxHeartbeats 1600000 in
theorem loop_ok (w : World) (he : Env w) : Calls Tryd.prog 8 #[] w fun e w' => e = .returned (.bool true) ∧ Below w.heap.size w w' := by
  have HR : Hid (∀ w, Env w → Calls Tryd.prog 9 #[str exT] w fun e w' => e = .returned (.tuple #[.string ⟨#[1, 16, 0, 3, 4, 18, 19, 16, 255, 250]⟩, i64 0]) ∧ Below w.heap.size w w') := fun w he => by
    have := read_ok w he exT (by decide) exP
    rw [exR] at this
    exact this
  have HL : Hid (∀ w, Env w → Calls Tryd.prog 11 #[.string ⟨#[1, 16, 0, 3, 4, 18, 19, 16, 255, 250]⟩] w fun e w' => ∃ v, e = .returned (.tuple #[v, i64 0]) ∧ w'.ownsRow w.heap.size 9 1 v 3 (exL.map str) ∧ Below w.heap.size w w') := fun w he => by
    have := lines_ok w he [1, 16, 0, 3, 4, 18, 19, 16, 255, 250]
    rw [exLn, exA.1, exA.2] at this
    exact this
  have HN : Hid (∀ w, Env w → Calls Tryd.prog 17 #[i64 1] w fun e w' => e = .returned (.string ⟨#[115, 101, 116]⟩) ∧ w' = w) := fun w he => name_ok w he 1
  have HE : Hid (Env w) := he
  clear he
  go_enter Tryd.func8, Tryd.ntmps8
  go_wp2_with fail
  refine (HR.out _ HE.out).mono ?_
  rintro e w1 ⟨rfl, hb1⟩
  have HB1 : Hid (Below w.heap.size w w1) := hb1
  have hz1 := hb1.size
  clear hb1
  go_wp2_with fail
  refine (HL.out _ (HE.out.below HB1.out)).mono ?_
  rintro e w2 ⟨v, rfl, ho2, hb2⟩
  have HB2 : Hid (Below w.heap.size w w2) := HB1.out.trans (hb2.mono hz1)
  have hz2 := HB2.out.size
  obtain ⟨ao, cap, rfl, hs, _⟩ := own_words ho2
  have hb3 := below_one w2 (.cells #[str [115, 101, 116, 32, 114, 49, 32, 51], str [115, 117, 98, 32, 114, 49, 32, 114, 50], str [111, 116, 104, 101, 114, 32, 114, 49, 32, 54, 53, 53, 51, 48]] 9)
  have HT : Hid (Calls Tryd.prog 16 #[.slice ao 3 cap, .slice (some ⟨w2.heap.size, 0, none⟩) 3 3] (w2.alloc (.cells #[str [115, 101, 116, 32, 114, 49, 32, 51], str [115, 117, 98, 32, 114, 49, 32, 114, 50], str [111, 116, 104, 101, 114, 32, 114, 49, 32, 54, 53, 53, 51, 48]] 9)) fun e w' => e = .returned (.bool true) ∧ Below (w2.alloc (.cells #[str [115, 101, 116, 32, 114, 49, 32, 51], str [115, 117, 98, 32, 114, 49, 32, 114, 50], str [111, 116, 104, 101, 114, 32, 114, 49, 32, 54, 53, 53, 51, 48]] 9)).heap.size (w2.alloc (.cells #[str [115, 101, 116, 32, 114, 49, 32, 51], str [115, 117, 98, 32, 114, 49, 32, 114, 50], str [111, 116, 104, 101, 114, 32, 114, 49, 32, 54, 53, 53, 51, 48]] 9)) w') :=
    texts_ok _ exL ao _ cap 3 (hs.below hb3) (three_at _ _ _) (by decide)
  clear ho2 hb2 hs hb3
  go_wp2_with (first
    | (go_at_call 16; refine HT.out.mono ?_; rintro e w4 ⟨rfl, hb4⟩; have HB4 : Hid (Below w.heap.size w w4) := (HB2.out.alloc hz2 _).trans (hb4.mono (by simp <;> omega)); clear hb4)
    | (go_at_call 17; refine (HN.out _ (HE.out.below HB4.out)).mono ?_; rintro e w5 ⟨rfl, rfl⟩))
  go_ret
  exact ⟨rfl, HB4.out⟩
end Go.Proofs.YtobkehlkopkaeaaDoor
