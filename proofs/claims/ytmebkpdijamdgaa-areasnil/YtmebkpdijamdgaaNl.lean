/- AreasNil; no statement is proved in this text. -/
import Derived.Test.YtmebkpdijamdgaaDo
namespace Go.Proofs.Ytmebkpdijamdgaa
open Go.ChangeShapes Go.WideShapes Go.ChangeAt Go.RowKit Go.Deep
attribute [local go_sem ↓] Go.wp_at_zero Go.wp_at_succ

set_option maxRecDepth 100000 in
set_option maxHeartbeats 12800000 in
theorem nil_core (w : World) (x : Sp) (E F : Int) (hF : F = 1 ∨ F = 7) (hM : Calls Try.prog 17 #[.pointer none, i64 x.pid, i64 x.n] (w.alloc (spO x)) fun e w' => e = .returned (.tuple #[i64 0, i64 E]) ∧ Below (w.alloc (spO x)).heap.size (w.alloc (spO x)) w') (hFk : ∀ W, Calls Try.prog 20 #[.pointer none, i64 x.pid, i64 x.n] W fun e w' => e = .returned (i64 F) ∧ Below W.heap.size W w') (hbad : (E = 1 ∧ (x.pid < 1 ∨ 6 < x.pid ∨ x.n < 1 ∨ 16 < x.n)) ∨ (E = 7 ∧ 1 ≤ x.pid ∧ x.pid ≤ 6 ∧ 1 ≤ x.n ∧ x.n ≤ 16)) : Calls Try.prog 7 #[x.v] w fun e w' => e = .returned (.bool true) ∧ Below w.heap.size w w' := by
  have HM := hid hM
  have HF := hid hFk
  have B1 : Hid (Below w.heap.size w (w.alloc (spO x))) := below_one w _
  have X1 : Hid ((w.alloc (spO x)).heap[w.heap.size]? = some (spO x)) := heap_last w _
  clear hM hFk
  rcases hF with rfl | rfl
  · rcases hbad with ⟨rfl, h1 | h2 | h3 | h4⟩ | ⟨rfl, h1, h2, h3, h4⟩
    · go_enter Try.func7, Try.ntmps7
      go_wp2_with fail
      refine HM.out.mono ?_
      rintro e w2 ⟨rfl, hb2⟩
      have B2 : Hid (Below w.heap.size w w2) := B1.out.trans (hb2.mono B1.out.size)
      have X2 := hid (blk_below X1.out hb2)
      obtain ⟨y0, y1, y2, y3⟩ := four_cells X2.out
      have l2 : w.heap.size < w2.heap.size := blk_lt X2.out
      clear hb2 HM
      go_wp2_with fail
      refine (unmap_nil w2 x.pid x.fst).mono ?_
      rintro e w3 ⟨rfl, hb3⟩
      have B3 : Hid (Below w.heap.size w w3) := B2.out.trans (hb3.mono B2.out.size)
      have X3 := hid (blk_below X2.out hb3)
      clear y0 y1 y2 y3 l2
      obtain ⟨y0, y1, y2, y3⟩ := four_cells X3.out
      have l3 : w.heap.size < w3.heap.size := blk_lt X3.out
      have HF3 := hid (HF.out w3)
      clear hb3 HF
      go_wp2_with fail
      refine HF3.out.mono ?_
      rintro e w4 ⟨rfl, hb4⟩
      have B4 : Hid (Below w.heap.size w w4) := B3.out.trans (hb4.mono B3.out.size)
      have X4 := hid (blk_below X3.out hb4)
      clear y0 y1 y2 y3 l3 HF3
      obtain ⟨y0, y1, y2, y3⟩ := four_cells X4.out
      have l4 : w.heap.size < w4.heap.size := blk_lt X4.out
      have HH4 := hid (has_ok w4 0 (.pointer none) [] x.pid x.fst (.inl ⟨rfl, rfl⟩) (by simp) (fun a ha => by cases ha))
      rw [show hasL [] x.pid x.fst = false from rfl] at HH4
      clear hb4
      go_wp2_with fail
      refine HH4.out.mono ?_
      rintro e w5 ⟨rfl, hb5⟩
      have B5 : Hid (Below w.heap.size w w5) := B4.out.trans (hb5.mono B4.out.size)
      have X5 := hid (blk_below X4.out hb5)
      clear y0 y1 y2 y3 l4 HH4
      obtain ⟨y0, y1, y2, y3⟩ := four_cells X5.out
      have l5 : w.heap.size < w5.heap.size := blk_lt X5.out
      clear hb5
      go_wp2_with fail
      refine (drop_nil w5 x.pid).mono ?_
      rintro e w6 ⟨rfl, hb6⟩
      have B6 : Hid (Below w.heap.size w w6) := B5.out.trans (hb6.mono B5.out.size)
      have HA6 := hid (all_ok w6 0 (.pointer none) [] (.inl ⟨rfl, rfl⟩) (by simp))
      clear y0 y1 y2 y3 l5 hb6
      go_wp2_with fail
      refine HA6.out.mono ?_
      rintro e w7 ⟨⟨ao7, cap7, rfl, _⟩, hb7⟩
      have B7 : Hid (Below w.heap.size w w7) := B6.out.trans (hb7.mono B6.out.size)
      rw [show ([] : List Ar).length = 0 from rfl]
      clear hb7 HA6
      go_wp2_with fail
      refine (three_ok w7).mono ?_
      rintro e w8 ⟨rfl, hb8⟩
      have B8 : Hid (Below w.heap.size w w8) := B7.out.trans (hb8.mono B7.out.size)
      clear hb8
      go_wp2_with fail
      go_ret
      exact ⟨rfl, B8.out⟩
    · have g1 : ¬ x.pid < 1 := by omega
      go_enter Try.func7, Try.ntmps7
      go_wp2_with fail
      refine HM.out.mono ?_
      rintro e w2 ⟨rfl, hb2⟩
      have B2 : Hid (Below w.heap.size w w2) := B1.out.trans (hb2.mono B1.out.size)
      have X2 := hid (blk_below X1.out hb2)
      obtain ⟨y0, y1, y2, y3⟩ := four_cells X2.out
      have l2 : w.heap.size < w2.heap.size := blk_lt X2.out
      clear hb2 HM
      go_wp2_with fail
      refine (unmap_nil w2 x.pid x.fst).mono ?_
      rintro e w3 ⟨rfl, hb3⟩
      have B3 : Hid (Below w.heap.size w w3) := B2.out.trans (hb3.mono B2.out.size)
      have X3 := hid (blk_below X2.out hb3)
      clear y0 y1 y2 y3 l2
      obtain ⟨y0, y1, y2, y3⟩ := four_cells X3.out
      have l3 : w.heap.size < w3.heap.size := blk_lt X3.out
      have HF3 := hid (HF.out w3)
      clear hb3 HF
      go_wp2_with fail
      refine HF3.out.mono ?_
      rintro e w4 ⟨rfl, hb4⟩
      have B4 : Hid (Below w.heap.size w w4) := B3.out.trans (hb4.mono B3.out.size)
      have X4 := hid (blk_below X3.out hb4)
      clear y0 y1 y2 y3 l3 HF3
      obtain ⟨y0, y1, y2, y3⟩ := four_cells X4.out
      have l4 : w.heap.size < w4.heap.size := blk_lt X4.out
      have HH4 := hid (has_ok w4 0 (.pointer none) [] x.pid x.fst (.inl ⟨rfl, rfl⟩) (by simp) (fun a ha => by cases ha))
      rw [show hasL [] x.pid x.fst = false from rfl] at HH4
      clear hb4
      go_wp2_with fail
      refine HH4.out.mono ?_
      rintro e w5 ⟨rfl, hb5⟩
      have B5 : Hid (Below w.heap.size w w5) := B4.out.trans (hb5.mono B4.out.size)
      have X5 := hid (blk_below X4.out hb5)
      clear y0 y1 y2 y3 l4 HH4
      obtain ⟨y0, y1, y2, y3⟩ := four_cells X5.out
      have l5 : w.heap.size < w5.heap.size := blk_lt X5.out
      clear hb5
      go_wp2_with fail
      refine (drop_nil w5 x.pid).mono ?_
      rintro e w6 ⟨rfl, hb6⟩
      have B6 : Hid (Below w.heap.size w w6) := B5.out.trans (hb6.mono B5.out.size)
      have HA6 := hid (all_ok w6 0 (.pointer none) [] (.inl ⟨rfl, rfl⟩) (by simp))
      clear y0 y1 y2 y3 l5 hb6
      go_wp2_with fail
      refine HA6.out.mono ?_
      rintro e w7 ⟨⟨ao7, cap7, rfl, _⟩, hb7⟩
      have B7 : Hid (Below w.heap.size w w7) := B6.out.trans (hb7.mono B6.out.size)
      rw [show ([] : List Ar).length = 0 from rfl]
      clear hb7 HA6
      go_wp2_with fail
      refine (three_ok w7).mono ?_
      rintro e w8 ⟨rfl, hb8⟩
      have B8 : Hid (Below w.heap.size w w8) := B7.out.trans (hb8.mono B7.out.size)
      clear hb8
      go_wp2_with fail
      go_ret
      exact ⟨rfl, B8.out⟩
    · by_cases g1 : x.pid < 1
      · go_enter Try.func7, Try.ntmps7
        go_wp2_with fail
        refine HM.out.mono ?_
        rintro e w2 ⟨rfl, hb2⟩
        have B2 : Hid (Below w.heap.size w w2) := B1.out.trans (hb2.mono B1.out.size)
        have X2 := hid (blk_below X1.out hb2)
        obtain ⟨y0, y1, y2, y3⟩ := four_cells X2.out
        have l2 : w.heap.size < w2.heap.size := blk_lt X2.out
        clear hb2 HM
        go_wp2_with fail
        refine (unmap_nil w2 x.pid x.fst).mono ?_
        rintro e w3 ⟨rfl, hb3⟩
        have B3 : Hid (Below w.heap.size w w3) := B2.out.trans (hb3.mono B2.out.size)
        have X3 := hid (blk_below X2.out hb3)
        clear y0 y1 y2 y3 l2
        obtain ⟨y0, y1, y2, y3⟩ := four_cells X3.out
        have l3 : w.heap.size < w3.heap.size := blk_lt X3.out
        have HF3 := hid (HF.out w3)
        clear hb3 HF
        go_wp2_with fail
        refine HF3.out.mono ?_
        rintro e w4 ⟨rfl, hb4⟩
        have B4 : Hid (Below w.heap.size w w4) := B3.out.trans (hb4.mono B3.out.size)
        have X4 := hid (blk_below X3.out hb4)
        clear y0 y1 y2 y3 l3 HF3
        obtain ⟨y0, y1, y2, y3⟩ := four_cells X4.out
        have l4 : w.heap.size < w4.heap.size := blk_lt X4.out
        have HH4 := hid (has_ok w4 0 (.pointer none) [] x.pid x.fst (.inl ⟨rfl, rfl⟩) (by simp) (fun a ha => by cases ha))
        rw [show hasL [] x.pid x.fst = false from rfl] at HH4
        clear hb4
        go_wp2_with fail
        refine HH4.out.mono ?_
        rintro e w5 ⟨rfl, hb5⟩
        have B5 : Hid (Below w.heap.size w w5) := B4.out.trans (hb5.mono B4.out.size)
        have X5 := hid (blk_below X4.out hb5)
        clear y0 y1 y2 y3 l4 HH4
        obtain ⟨y0, y1, y2, y3⟩ := four_cells X5.out
        have l5 : w.heap.size < w5.heap.size := blk_lt X5.out
        clear hb5
        go_wp2_with fail
        refine (drop_nil w5 x.pid).mono ?_
        rintro e w6 ⟨rfl, hb6⟩
        have B6 : Hid (Below w.heap.size w w6) := B5.out.trans (hb6.mono B5.out.size)
        have HA6 := hid (all_ok w6 0 (.pointer none) [] (.inl ⟨rfl, rfl⟩) (by simp))
        clear y0 y1 y2 y3 l5 hb6
        go_wp2_with fail
        refine HA6.out.mono ?_
        rintro e w7 ⟨⟨ao7, cap7, rfl, _⟩, hb7⟩
        have B7 : Hid (Below w.heap.size w w7) := B6.out.trans (hb7.mono B6.out.size)
        rw [show ([] : List Ar).length = 0 from rfl]
        clear hb7 HA6
        go_wp2_with fail
        refine (three_ok w7).mono ?_
        rintro e w8 ⟨rfl, hb8⟩
        have B8 : Hid (Below w.heap.size w w8) := B7.out.trans (hb8.mono B7.out.size)
        clear hb8
        go_wp2_with fail
        go_ret
        exact ⟨rfl, B8.out⟩
      · by_cases g2 : 6 < x.pid
        · go_enter Try.func7, Try.ntmps7
          go_wp2_with fail
          refine HM.out.mono ?_
          rintro e w2 ⟨rfl, hb2⟩
          have B2 : Hid (Below w.heap.size w w2) := B1.out.trans (hb2.mono B1.out.size)
          have X2 := hid (blk_below X1.out hb2)
          obtain ⟨y0, y1, y2, y3⟩ := four_cells X2.out
          have l2 : w.heap.size < w2.heap.size := blk_lt X2.out
          clear hb2 HM
          go_wp2_with fail
          refine (unmap_nil w2 x.pid x.fst).mono ?_
          rintro e w3 ⟨rfl, hb3⟩
          have B3 : Hid (Below w.heap.size w w3) := B2.out.trans (hb3.mono B2.out.size)
          have X3 := hid (blk_below X2.out hb3)
          clear y0 y1 y2 y3 l2
          obtain ⟨y0, y1, y2, y3⟩ := four_cells X3.out
          have l3 : w.heap.size < w3.heap.size := blk_lt X3.out
          have HF3 := hid (HF.out w3)
          clear hb3 HF
          go_wp2_with fail
          refine HF3.out.mono ?_
          rintro e w4 ⟨rfl, hb4⟩
          have B4 : Hid (Below w.heap.size w w4) := B3.out.trans (hb4.mono B3.out.size)
          have X4 := hid (blk_below X3.out hb4)
          clear y0 y1 y2 y3 l3 HF3
          obtain ⟨y0, y1, y2, y3⟩ := four_cells X4.out
          have l4 : w.heap.size < w4.heap.size := blk_lt X4.out
          have HH4 := hid (has_ok w4 0 (.pointer none) [] x.pid x.fst (.inl ⟨rfl, rfl⟩) (by simp) (fun a ha => by cases ha))
          rw [show hasL [] x.pid x.fst = false from rfl] at HH4
          clear hb4
          go_wp2_with fail
          refine HH4.out.mono ?_
          rintro e w5 ⟨rfl, hb5⟩
          have B5 : Hid (Below w.heap.size w w5) := B4.out.trans (hb5.mono B4.out.size)
          have X5 := hid (blk_below X4.out hb5)
          clear y0 y1 y2 y3 l4 HH4
          obtain ⟨y0, y1, y2, y3⟩ := four_cells X5.out
          have l5 : w.heap.size < w5.heap.size := blk_lt X5.out
          clear hb5
          go_wp2_with fail
          refine (drop_nil w5 x.pid).mono ?_
          rintro e w6 ⟨rfl, hb6⟩
          have B6 : Hid (Below w.heap.size w w6) := B5.out.trans (hb6.mono B5.out.size)
          have HA6 := hid (all_ok w6 0 (.pointer none) [] (.inl ⟨rfl, rfl⟩) (by simp))
          clear y0 y1 y2 y3 l5 hb6
          go_wp2_with fail
          refine HA6.out.mono ?_
          rintro e w7 ⟨⟨ao7, cap7, rfl, _⟩, hb7⟩
          have B7 : Hid (Below w.heap.size w w7) := B6.out.trans (hb7.mono B6.out.size)
          rw [show ([] : List Ar).length = 0 from rfl]
          clear hb7 HA6
          go_wp2_with fail
          refine (three_ok w7).mono ?_
          rintro e w8 ⟨rfl, hb8⟩
          have B8 : Hid (Below w.heap.size w w8) := B7.out.trans (hb8.mono B7.out.size)
          clear hb8
          go_wp2_with fail
          go_ret
          exact ⟨rfl, B8.out⟩
        · go_enter Try.func7, Try.ntmps7
          go_wp2_with fail
          refine HM.out.mono ?_
          rintro e w2 ⟨rfl, hb2⟩
          have B2 : Hid (Below w.heap.size w w2) := B1.out.trans (hb2.mono B1.out.size)
          have X2 := hid (blk_below X1.out hb2)
          obtain ⟨y0, y1, y2, y3⟩ := four_cells X2.out
          have l2 : w.heap.size < w2.heap.size := blk_lt X2.out
          clear hb2 HM
          go_wp2_with fail
          refine (unmap_nil w2 x.pid x.fst).mono ?_
          rintro e w3 ⟨rfl, hb3⟩
          have B3 : Hid (Below w.heap.size w w3) := B2.out.trans (hb3.mono B2.out.size)
          have X3 := hid (blk_below X2.out hb3)
          clear y0 y1 y2 y3 l2
          obtain ⟨y0, y1, y2, y3⟩ := four_cells X3.out
          have l3 : w.heap.size < w3.heap.size := blk_lt X3.out
          have HF3 := hid (HF.out w3)
          clear hb3 HF
          go_wp2_with fail
          refine HF3.out.mono ?_
          rintro e w4 ⟨rfl, hb4⟩
          have B4 : Hid (Below w.heap.size w w4) := B3.out.trans (hb4.mono B3.out.size)
          have X4 := hid (blk_below X3.out hb4)
          clear y0 y1 y2 y3 l3 HF3
          obtain ⟨y0, y1, y2, y3⟩ := four_cells X4.out
          have l4 : w.heap.size < w4.heap.size := blk_lt X4.out
          have HH4 := hid (has_ok w4 0 (.pointer none) [] x.pid x.fst (.inl ⟨rfl, rfl⟩) (by simp) (fun a ha => by cases ha))
          rw [show hasL [] x.pid x.fst = false from rfl] at HH4
          clear hb4
          go_wp2_with fail
          refine HH4.out.mono ?_
          rintro e w5 ⟨rfl, hb5⟩
          have B5 : Hid (Below w.heap.size w w5) := B4.out.trans (hb5.mono B4.out.size)
          have X5 := hid (blk_below X4.out hb5)
          clear y0 y1 y2 y3 l4 HH4
          obtain ⟨y0, y1, y2, y3⟩ := four_cells X5.out
          have l5 : w.heap.size < w5.heap.size := blk_lt X5.out
          clear hb5
          go_wp2_with fail
          refine (drop_nil w5 x.pid).mono ?_
          rintro e w6 ⟨rfl, hb6⟩
          have B6 : Hid (Below w.heap.size w w6) := B5.out.trans (hb6.mono B5.out.size)
          have HA6 := hid (all_ok w6 0 (.pointer none) [] (.inl ⟨rfl, rfl⟩) (by simp))
          clear y0 y1 y2 y3 l5 hb6
          go_wp2_with fail
          refine HA6.out.mono ?_
          rintro e w7 ⟨⟨ao7, cap7, rfl, _⟩, hb7⟩
          have B7 : Hid (Below w.heap.size w w7) := B6.out.trans (hb7.mono B6.out.size)
          rw [show ([] : List Ar).length = 0 from rfl]
          clear hb7 HA6
          go_wp2_with fail
          refine (three_ok w7).mono ?_
          rintro e w8 ⟨rfl, hb8⟩
          have B8 : Hid (Below w.heap.size w w8) := B7.out.trans (hb8.mono B7.out.size)
          clear hb8
          go_wp2_with fail
          go_ret
          exact ⟨rfl, B8.out⟩
    · by_cases g1 : x.pid < 1
      · go_enter Try.func7, Try.ntmps7
        go_wp2_with fail
        refine HM.out.mono ?_
        rintro e w2 ⟨rfl, hb2⟩
        have B2 : Hid (Below w.heap.size w w2) := B1.out.trans (hb2.mono B1.out.size)
        have X2 := hid (blk_below X1.out hb2)
        obtain ⟨y0, y1, y2, y3⟩ := four_cells X2.out
        have l2 : w.heap.size < w2.heap.size := blk_lt X2.out
        clear hb2 HM
        go_wp2_with fail
        refine (unmap_nil w2 x.pid x.fst).mono ?_
        rintro e w3 ⟨rfl, hb3⟩
        have B3 : Hid (Below w.heap.size w w3) := B2.out.trans (hb3.mono B2.out.size)
        have X3 := hid (blk_below X2.out hb3)
        clear y0 y1 y2 y3 l2
        obtain ⟨y0, y1, y2, y3⟩ := four_cells X3.out
        have l3 : w.heap.size < w3.heap.size := blk_lt X3.out
        have HF3 := hid (HF.out w3)
        clear hb3 HF
        go_wp2_with fail
        refine HF3.out.mono ?_
        rintro e w4 ⟨rfl, hb4⟩
        have B4 : Hid (Below w.heap.size w w4) := B3.out.trans (hb4.mono B3.out.size)
        have X4 := hid (blk_below X3.out hb4)
        clear y0 y1 y2 y3 l3 HF3
        obtain ⟨y0, y1, y2, y3⟩ := four_cells X4.out
        have l4 : w.heap.size < w4.heap.size := blk_lt X4.out
        have HH4 := hid (has_ok w4 0 (.pointer none) [] x.pid x.fst (.inl ⟨rfl, rfl⟩) (by simp) (fun a ha => by cases ha))
        rw [show hasL [] x.pid x.fst = false from rfl] at HH4
        clear hb4
        go_wp2_with fail
        refine HH4.out.mono ?_
        rintro e w5 ⟨rfl, hb5⟩
        have B5 : Hid (Below w.heap.size w w5) := B4.out.trans (hb5.mono B4.out.size)
        have X5 := hid (blk_below X4.out hb5)
        clear y0 y1 y2 y3 l4 HH4
        obtain ⟨y0, y1, y2, y3⟩ := four_cells X5.out
        have l5 : w.heap.size < w5.heap.size := blk_lt X5.out
        clear hb5
        go_wp2_with fail
        refine (drop_nil w5 x.pid).mono ?_
        rintro e w6 ⟨rfl, hb6⟩
        have B6 : Hid (Below w.heap.size w w6) := B5.out.trans (hb6.mono B5.out.size)
        have HA6 := hid (all_ok w6 0 (.pointer none) [] (.inl ⟨rfl, rfl⟩) (by simp))
        clear y0 y1 y2 y3 l5 hb6
        go_wp2_with fail
        refine HA6.out.mono ?_
        rintro e w7 ⟨⟨ao7, cap7, rfl, _⟩, hb7⟩
        have B7 : Hid (Below w.heap.size w w7) := B6.out.trans (hb7.mono B6.out.size)
        rw [show ([] : List Ar).length = 0 from rfl]
        clear hb7 HA6
        go_wp2_with fail
        refine (three_ok w7).mono ?_
        rintro e w8 ⟨rfl, hb8⟩
        have B8 : Hid (Below w.heap.size w w8) := B7.out.trans (hb8.mono B7.out.size)
        clear hb8
        go_wp2_with fail
        go_ret
        exact ⟨rfl, B8.out⟩
      · by_cases g2 : 6 < x.pid
        · go_enter Try.func7, Try.ntmps7
          go_wp2_with fail
          refine HM.out.mono ?_
          rintro e w2 ⟨rfl, hb2⟩
          have B2 : Hid (Below w.heap.size w w2) := B1.out.trans (hb2.mono B1.out.size)
          have X2 := hid (blk_below X1.out hb2)
          obtain ⟨y0, y1, y2, y3⟩ := four_cells X2.out
          have l2 : w.heap.size < w2.heap.size := blk_lt X2.out
          clear hb2 HM
          go_wp2_with fail
          refine (unmap_nil w2 x.pid x.fst).mono ?_
          rintro e w3 ⟨rfl, hb3⟩
          have B3 : Hid (Below w.heap.size w w3) := B2.out.trans (hb3.mono B2.out.size)
          have X3 := hid (blk_below X2.out hb3)
          clear y0 y1 y2 y3 l2
          obtain ⟨y0, y1, y2, y3⟩ := four_cells X3.out
          have l3 : w.heap.size < w3.heap.size := blk_lt X3.out
          have HF3 := hid (HF.out w3)
          clear hb3 HF
          go_wp2_with fail
          refine HF3.out.mono ?_
          rintro e w4 ⟨rfl, hb4⟩
          have B4 : Hid (Below w.heap.size w w4) := B3.out.trans (hb4.mono B3.out.size)
          have X4 := hid (blk_below X3.out hb4)
          clear y0 y1 y2 y3 l3 HF3
          obtain ⟨y0, y1, y2, y3⟩ := four_cells X4.out
          have l4 : w.heap.size < w4.heap.size := blk_lt X4.out
          have HH4 := hid (has_ok w4 0 (.pointer none) [] x.pid x.fst (.inl ⟨rfl, rfl⟩) (by simp) (fun a ha => by cases ha))
          rw [show hasL [] x.pid x.fst = false from rfl] at HH4
          clear hb4
          go_wp2_with fail
          refine HH4.out.mono ?_
          rintro e w5 ⟨rfl, hb5⟩
          have B5 : Hid (Below w.heap.size w w5) := B4.out.trans (hb5.mono B4.out.size)
          have X5 := hid (blk_below X4.out hb5)
          clear y0 y1 y2 y3 l4 HH4
          obtain ⟨y0, y1, y2, y3⟩ := four_cells X5.out
          have l5 : w.heap.size < w5.heap.size := blk_lt X5.out
          clear hb5
          go_wp2_with fail
          refine (drop_nil w5 x.pid).mono ?_
          rintro e w6 ⟨rfl, hb6⟩
          have B6 : Hid (Below w.heap.size w w6) := B5.out.trans (hb6.mono B5.out.size)
          have HA6 := hid (all_ok w6 0 (.pointer none) [] (.inl ⟨rfl, rfl⟩) (by simp))
          clear y0 y1 y2 y3 l5 hb6
          go_wp2_with fail
          refine HA6.out.mono ?_
          rintro e w7 ⟨⟨ao7, cap7, rfl, _⟩, hb7⟩
          have B7 : Hid (Below w.heap.size w w7) := B6.out.trans (hb7.mono B6.out.size)
          rw [show ([] : List Ar).length = 0 from rfl]
          clear hb7 HA6
          go_wp2_with fail
          refine (three_ok w7).mono ?_
          rintro e w8 ⟨rfl, hb8⟩
          have B8 : Hid (Below w.heap.size w w8) := B7.out.trans (hb8.mono B7.out.size)
          clear hb8
          go_wp2_with fail
          go_ret
          exact ⟨rfl, B8.out⟩
        · have g3 : ¬ x.n < 1 := by omega
          go_enter Try.func7, Try.ntmps7
          go_wp2_with fail
          refine HM.out.mono ?_
          rintro e w2 ⟨rfl, hb2⟩
          have B2 : Hid (Below w.heap.size w w2) := B1.out.trans (hb2.mono B1.out.size)
          have X2 := hid (blk_below X1.out hb2)
          obtain ⟨y0, y1, y2, y3⟩ := four_cells X2.out
          have l2 : w.heap.size < w2.heap.size := blk_lt X2.out
          clear hb2 HM
          go_wp2_with fail
          refine (unmap_nil w2 x.pid x.fst).mono ?_
          rintro e w3 ⟨rfl, hb3⟩
          have B3 : Hid (Below w.heap.size w w3) := B2.out.trans (hb3.mono B2.out.size)
          have X3 := hid (blk_below X2.out hb3)
          clear y0 y1 y2 y3 l2
          obtain ⟨y0, y1, y2, y3⟩ := four_cells X3.out
          have l3 : w.heap.size < w3.heap.size := blk_lt X3.out
          have HF3 := hid (HF.out w3)
          clear hb3 HF
          go_wp2_with fail
          refine HF3.out.mono ?_
          rintro e w4 ⟨rfl, hb4⟩
          have B4 : Hid (Below w.heap.size w w4) := B3.out.trans (hb4.mono B3.out.size)
          have X4 := hid (blk_below X3.out hb4)
          clear y0 y1 y2 y3 l3 HF3
          obtain ⟨y0, y1, y2, y3⟩ := four_cells X4.out
          have l4 : w.heap.size < w4.heap.size := blk_lt X4.out
          have HH4 := hid (has_ok w4 0 (.pointer none) [] x.pid x.fst (.inl ⟨rfl, rfl⟩) (by simp) (fun a ha => by cases ha))
          rw [show hasL [] x.pid x.fst = false from rfl] at HH4
          clear hb4
          go_wp2_with fail
          refine HH4.out.mono ?_
          rintro e w5 ⟨rfl, hb5⟩
          have B5 : Hid (Below w.heap.size w w5) := B4.out.trans (hb5.mono B4.out.size)
          have X5 := hid (blk_below X4.out hb5)
          clear y0 y1 y2 y3 l4 HH4
          obtain ⟨y0, y1, y2, y3⟩ := four_cells X5.out
          have l5 : w.heap.size < w5.heap.size := blk_lt X5.out
          clear hb5
          go_wp2_with fail
          refine (drop_nil w5 x.pid).mono ?_
          rintro e w6 ⟨rfl, hb6⟩
          have B6 : Hid (Below w.heap.size w w6) := B5.out.trans (hb6.mono B5.out.size)
          have HA6 := hid (all_ok w6 0 (.pointer none) [] (.inl ⟨rfl, rfl⟩) (by simp))
          clear y0 y1 y2 y3 l5 hb6
          go_wp2_with fail
          refine HA6.out.mono ?_
          rintro e w7 ⟨⟨ao7, cap7, rfl, _⟩, hb7⟩
          have B7 : Hid (Below w.heap.size w w7) := B6.out.trans (hb7.mono B6.out.size)
          rw [show ([] : List Ar).length = 0 from rfl]
          clear hb7 HA6
          go_wp2_with fail
          refine (three_ok w7).mono ?_
          rintro e w8 ⟨rfl, hb8⟩
          have B8 : Hid (Below w.heap.size w w8) := B7.out.trans (hb8.mono B7.out.size)
          clear hb8
          go_wp2_with fail
          go_ret
          exact ⟨rfl, B8.out⟩
    · have g1 : ¬ x.pid < 1 := by omega
      have g2 : ¬ 6 < x.pid := by omega
      have g3 : ¬ x.n < 1 := by omega
      have g4 : ¬ 16 < x.n := by omega
      clear h1 h2 h3 h4
      go_enter Try.func7, Try.ntmps7
      go_wp2_with fail
      refine HM.out.mono ?_
      rintro e w2 ⟨rfl, hb2⟩
      have B2 : Hid (Below w.heap.size w w2) := B1.out.trans (hb2.mono B1.out.size)
      have X2 := hid (blk_below X1.out hb2)
      obtain ⟨y0, y1, y2, y3⟩ := four_cells X2.out
      have l2 : w.heap.size < w2.heap.size := blk_lt X2.out
      clear hb2 HM
      go_wp2_with fail
      refine (unmap_nil w2 x.pid x.fst).mono ?_
      rintro e w3 ⟨rfl, hb3⟩
      have B3 : Hid (Below w.heap.size w w3) := B2.out.trans (hb3.mono B2.out.size)
      have X3 := hid (blk_below X2.out hb3)
      clear y0 y1 y2 y3 l2
      obtain ⟨y0, y1, y2, y3⟩ := four_cells X3.out
      have l3 : w.heap.size < w3.heap.size := blk_lt X3.out
      have HF3 := hid (HF.out w3)
      clear hb3 HF
      go_wp2_with fail
      refine HF3.out.mono ?_
      rintro e w4 ⟨rfl, hb4⟩
      have B4 : Hid (Below w.heap.size w w4) := B3.out.trans (hb4.mono B3.out.size)
      have X4 := hid (blk_below X3.out hb4)
      clear y0 y1 y2 y3 l3 HF3
      obtain ⟨y0, y1, y2, y3⟩ := four_cells X4.out
      have l4 : w.heap.size < w4.heap.size := blk_lt X4.out
      have HH4 := hid (has_ok w4 0 (.pointer none) [] x.pid x.fst (.inl ⟨rfl, rfl⟩) (by simp) (fun a ha => by cases ha))
      rw [show hasL [] x.pid x.fst = false from rfl] at HH4
      clear hb4
      go_wp2_with fail
      refine HH4.out.mono ?_
      rintro e w5 ⟨rfl, hb5⟩
      have B5 : Hid (Below w.heap.size w w5) := B4.out.trans (hb5.mono B4.out.size)
      have X5 := hid (blk_below X4.out hb5)
      clear y0 y1 y2 y3 l4 HH4
      obtain ⟨y0, y1, y2, y3⟩ := four_cells X5.out
      have l5 : w.heap.size < w5.heap.size := blk_lt X5.out
      clear hb5
      go_wp2_with fail
      refine (drop_nil w5 x.pid).mono ?_
      rintro e w6 ⟨rfl, hb6⟩
      have B6 : Hid (Below w.heap.size w w6) := B5.out.trans (hb6.mono B5.out.size)
      have HA6 := hid (all_ok w6 0 (.pointer none) [] (.inl ⟨rfl, rfl⟩) (by simp))
      clear y0 y1 y2 y3 l5 hb6
      go_wp2_with fail
      refine HA6.out.mono ?_
      rintro e w7 ⟨⟨ao7, cap7, rfl, _⟩, hb7⟩
      have B7 : Hid (Below w.heap.size w w7) := B6.out.trans (hb7.mono B6.out.size)
      rw [show ([] : List Ar).length = 0 from rfl]
      clear hb7 HA6
      go_wp2_with fail
      refine (three_ok w7).mono ?_
      rintro e w8 ⟨rfl, hb8⟩
      have B8 : Hid (Below w.heap.size w w8) := B7.out.trans (hb8.mono B7.out.size)
      clear hb8
      go_wp2_with fail
      go_ret
      exact ⟨by show Ending.returned (Value.bool (!decide (x.pid < 1) && !decide (6 < x.pid) && !decide (x.n < 1) && !decide (16 < x.n))) = _; rw [decide_eq_false (show ¬ x.pid < 1 by omega), decide_eq_false (show ¬ 6 < x.pid by omega), decide_eq_false (show ¬ x.n < 1 by omega), decide_eq_false (show ¬ 16 < x.n by omega)]; rfl, B8.out⟩
  · rcases hbad with ⟨rfl, h1 | h2 | h3 | h4⟩ | ⟨rfl, h1, h2, h3, h4⟩
    · go_enter Try.func7, Try.ntmps7
      go_wp2_with fail
      refine HM.out.mono ?_
      rintro e w2 ⟨rfl, hb2⟩
      have B2 : Hid (Below w.heap.size w w2) := B1.out.trans (hb2.mono B1.out.size)
      have X2 := hid (blk_below X1.out hb2)
      obtain ⟨y0, y1, y2, y3⟩ := four_cells X2.out
      have l2 : w.heap.size < w2.heap.size := blk_lt X2.out
      clear hb2 HM
      go_wp2_with fail
      refine (unmap_nil w2 x.pid x.fst).mono ?_
      rintro e w3 ⟨rfl, hb3⟩
      have B3 : Hid (Below w.heap.size w w3) := B2.out.trans (hb3.mono B2.out.size)
      have X3 := hid (blk_below X2.out hb3)
      clear y0 y1 y2 y3 l2
      obtain ⟨y0, y1, y2, y3⟩ := four_cells X3.out
      have l3 : w.heap.size < w3.heap.size := blk_lt X3.out
      have HF3 := hid (HF.out w3)
      clear hb3 HF
      go_wp2_with fail
      refine HF3.out.mono ?_
      rintro e w4 ⟨rfl, hb4⟩
      have B4 : Hid (Below w.heap.size w w4) := B3.out.trans (hb4.mono B3.out.size)
      have X4 := hid (blk_below X3.out hb4)
      clear y0 y1 y2 y3 l3 HF3
      obtain ⟨y0, y1, y2, y3⟩ := four_cells X4.out
      have l4 : w.heap.size < w4.heap.size := blk_lt X4.out
      have HH4 := hid (has_ok w4 0 (.pointer none) [] x.pid x.fst (.inl ⟨rfl, rfl⟩) (by simp) (fun a ha => by cases ha))
      rw [show hasL [] x.pid x.fst = false from rfl] at HH4
      clear hb4
      go_wp2_with fail
      refine HH4.out.mono ?_
      rintro e w5 ⟨rfl, hb5⟩
      have B5 : Hid (Below w.heap.size w w5) := B4.out.trans (hb5.mono B4.out.size)
      have X5 := hid (blk_below X4.out hb5)
      clear y0 y1 y2 y3 l4 HH4
      obtain ⟨y0, y1, y2, y3⟩ := four_cells X5.out
      have l5 : w.heap.size < w5.heap.size := blk_lt X5.out
      clear hb5
      go_wp2_with fail
      refine (drop_nil w5 x.pid).mono ?_
      rintro e w6 ⟨rfl, hb6⟩
      have B6 : Hid (Below w.heap.size w w6) := B5.out.trans (hb6.mono B5.out.size)
      have HA6 := hid (all_ok w6 0 (.pointer none) [] (.inl ⟨rfl, rfl⟩) (by simp))
      clear y0 y1 y2 y3 l5 hb6
      go_wp2_with fail
      refine HA6.out.mono ?_
      rintro e w7 ⟨⟨ao7, cap7, rfl, _⟩, hb7⟩
      have B7 : Hid (Below w.heap.size w w7) := B6.out.trans (hb7.mono B6.out.size)
      rw [show ([] : List Ar).length = 0 from rfl]
      clear hb7 HA6
      go_wp2_with fail
      refine (three_ok w7).mono ?_
      rintro e w8 ⟨rfl, hb8⟩
      have B8 : Hid (Below w.heap.size w w8) := B7.out.trans (hb8.mono B7.out.size)
      clear hb8
      go_wp2_with fail
      go_ret
      exact ⟨rfl, B8.out⟩
    · have g1 : ¬ x.pid < 1 := by omega
      go_enter Try.func7, Try.ntmps7
      go_wp2_with fail
      refine HM.out.mono ?_
      rintro e w2 ⟨rfl, hb2⟩
      have B2 : Hid (Below w.heap.size w w2) := B1.out.trans (hb2.mono B1.out.size)
      have X2 := hid (blk_below X1.out hb2)
      obtain ⟨y0, y1, y2, y3⟩ := four_cells X2.out
      have l2 : w.heap.size < w2.heap.size := blk_lt X2.out
      clear hb2 HM
      go_wp2_with fail
      refine (unmap_nil w2 x.pid x.fst).mono ?_
      rintro e w3 ⟨rfl, hb3⟩
      have B3 : Hid (Below w.heap.size w w3) := B2.out.trans (hb3.mono B2.out.size)
      have X3 := hid (blk_below X2.out hb3)
      clear y0 y1 y2 y3 l2
      obtain ⟨y0, y1, y2, y3⟩ := four_cells X3.out
      have l3 : w.heap.size < w3.heap.size := blk_lt X3.out
      have HF3 := hid (HF.out w3)
      clear hb3 HF
      go_wp2_with fail
      refine HF3.out.mono ?_
      rintro e w4 ⟨rfl, hb4⟩
      have B4 : Hid (Below w.heap.size w w4) := B3.out.trans (hb4.mono B3.out.size)
      have X4 := hid (blk_below X3.out hb4)
      clear y0 y1 y2 y3 l3 HF3
      obtain ⟨y0, y1, y2, y3⟩ := four_cells X4.out
      have l4 : w.heap.size < w4.heap.size := blk_lt X4.out
      have HH4 := hid (has_ok w4 0 (.pointer none) [] x.pid x.fst (.inl ⟨rfl, rfl⟩) (by simp) (fun a ha => by cases ha))
      rw [show hasL [] x.pid x.fst = false from rfl] at HH4
      clear hb4
      go_wp2_with fail
      refine HH4.out.mono ?_
      rintro e w5 ⟨rfl, hb5⟩
      have B5 : Hid (Below w.heap.size w w5) := B4.out.trans (hb5.mono B4.out.size)
      have X5 := hid (blk_below X4.out hb5)
      clear y0 y1 y2 y3 l4 HH4
      obtain ⟨y0, y1, y2, y3⟩ := four_cells X5.out
      have l5 : w.heap.size < w5.heap.size := blk_lt X5.out
      clear hb5
      go_wp2_with fail
      refine (drop_nil w5 x.pid).mono ?_
      rintro e w6 ⟨rfl, hb6⟩
      have B6 : Hid (Below w.heap.size w w6) := B5.out.trans (hb6.mono B5.out.size)
      have HA6 := hid (all_ok w6 0 (.pointer none) [] (.inl ⟨rfl, rfl⟩) (by simp))
      clear y0 y1 y2 y3 l5 hb6
      go_wp2_with fail
      refine HA6.out.mono ?_
      rintro e w7 ⟨⟨ao7, cap7, rfl, _⟩, hb7⟩
      have B7 : Hid (Below w.heap.size w w7) := B6.out.trans (hb7.mono B6.out.size)
      rw [show ([] : List Ar).length = 0 from rfl]
      clear hb7 HA6
      go_wp2_with fail
      refine (three_ok w7).mono ?_
      rintro e w8 ⟨rfl, hb8⟩
      have B8 : Hid (Below w.heap.size w w8) := B7.out.trans (hb8.mono B7.out.size)
      clear hb8
      go_wp2_with fail
      go_ret
      exact ⟨rfl, B8.out⟩
    · by_cases g1 : x.pid < 1
      · go_enter Try.func7, Try.ntmps7
        go_wp2_with fail
        refine HM.out.mono ?_
        rintro e w2 ⟨rfl, hb2⟩
        have B2 : Hid (Below w.heap.size w w2) := B1.out.trans (hb2.mono B1.out.size)
        have X2 := hid (blk_below X1.out hb2)
        obtain ⟨y0, y1, y2, y3⟩ := four_cells X2.out
        have l2 : w.heap.size < w2.heap.size := blk_lt X2.out
        clear hb2 HM
        go_wp2_with fail
        refine (unmap_nil w2 x.pid x.fst).mono ?_
        rintro e w3 ⟨rfl, hb3⟩
        have B3 : Hid (Below w.heap.size w w3) := B2.out.trans (hb3.mono B2.out.size)
        have X3 := hid (blk_below X2.out hb3)
        clear y0 y1 y2 y3 l2
        obtain ⟨y0, y1, y2, y3⟩ := four_cells X3.out
        have l3 : w.heap.size < w3.heap.size := blk_lt X3.out
        have HF3 := hid (HF.out w3)
        clear hb3 HF
        go_wp2_with fail
        refine HF3.out.mono ?_
        rintro e w4 ⟨rfl, hb4⟩
        have B4 : Hid (Below w.heap.size w w4) := B3.out.trans (hb4.mono B3.out.size)
        have X4 := hid (blk_below X3.out hb4)
        clear y0 y1 y2 y3 l3 HF3
        obtain ⟨y0, y1, y2, y3⟩ := four_cells X4.out
        have l4 : w.heap.size < w4.heap.size := blk_lt X4.out
        have HH4 := hid (has_ok w4 0 (.pointer none) [] x.pid x.fst (.inl ⟨rfl, rfl⟩) (by simp) (fun a ha => by cases ha))
        rw [show hasL [] x.pid x.fst = false from rfl] at HH4
        clear hb4
        go_wp2_with fail
        refine HH4.out.mono ?_
        rintro e w5 ⟨rfl, hb5⟩
        have B5 : Hid (Below w.heap.size w w5) := B4.out.trans (hb5.mono B4.out.size)
        have X5 := hid (blk_below X4.out hb5)
        clear y0 y1 y2 y3 l4 HH4
        obtain ⟨y0, y1, y2, y3⟩ := four_cells X5.out
        have l5 : w.heap.size < w5.heap.size := blk_lt X5.out
        clear hb5
        go_wp2_with fail
        refine (drop_nil w5 x.pid).mono ?_
        rintro e w6 ⟨rfl, hb6⟩
        have B6 : Hid (Below w.heap.size w w6) := B5.out.trans (hb6.mono B5.out.size)
        have HA6 := hid (all_ok w6 0 (.pointer none) [] (.inl ⟨rfl, rfl⟩) (by simp))
        clear y0 y1 y2 y3 l5 hb6
        go_wp2_with fail
        refine HA6.out.mono ?_
        rintro e w7 ⟨⟨ao7, cap7, rfl, _⟩, hb7⟩
        have B7 : Hid (Below w.heap.size w w7) := B6.out.trans (hb7.mono B6.out.size)
        rw [show ([] : List Ar).length = 0 from rfl]
        clear hb7 HA6
        go_wp2_with fail
        refine (three_ok w7).mono ?_
        rintro e w8 ⟨rfl, hb8⟩
        have B8 : Hid (Below w.heap.size w w8) := B7.out.trans (hb8.mono B7.out.size)
        clear hb8
        go_wp2_with fail
        go_ret
        exact ⟨rfl, B8.out⟩
      · by_cases g2 : 6 < x.pid
        · go_enter Try.func7, Try.ntmps7
          go_wp2_with fail
          refine HM.out.mono ?_
          rintro e w2 ⟨rfl, hb2⟩
          have B2 : Hid (Below w.heap.size w w2) := B1.out.trans (hb2.mono B1.out.size)
          have X2 := hid (blk_below X1.out hb2)
          obtain ⟨y0, y1, y2, y3⟩ := four_cells X2.out
          have l2 : w.heap.size < w2.heap.size := blk_lt X2.out
          clear hb2 HM
          go_wp2_with fail
          refine (unmap_nil w2 x.pid x.fst).mono ?_
          rintro e w3 ⟨rfl, hb3⟩
          have B3 : Hid (Below w.heap.size w w3) := B2.out.trans (hb3.mono B2.out.size)
          have X3 := hid (blk_below X2.out hb3)
          clear y0 y1 y2 y3 l2
          obtain ⟨y0, y1, y2, y3⟩ := four_cells X3.out
          have l3 : w.heap.size < w3.heap.size := blk_lt X3.out
          have HF3 := hid (HF.out w3)
          clear hb3 HF
          go_wp2_with fail
          refine HF3.out.mono ?_
          rintro e w4 ⟨rfl, hb4⟩
          have B4 : Hid (Below w.heap.size w w4) := B3.out.trans (hb4.mono B3.out.size)
          have X4 := hid (blk_below X3.out hb4)
          clear y0 y1 y2 y3 l3 HF3
          obtain ⟨y0, y1, y2, y3⟩ := four_cells X4.out
          have l4 : w.heap.size < w4.heap.size := blk_lt X4.out
          have HH4 := hid (has_ok w4 0 (.pointer none) [] x.pid x.fst (.inl ⟨rfl, rfl⟩) (by simp) (fun a ha => by cases ha))
          rw [show hasL [] x.pid x.fst = false from rfl] at HH4
          clear hb4
          go_wp2_with fail
          refine HH4.out.mono ?_
          rintro e w5 ⟨rfl, hb5⟩
          have B5 : Hid (Below w.heap.size w w5) := B4.out.trans (hb5.mono B4.out.size)
          have X5 := hid (blk_below X4.out hb5)
          clear y0 y1 y2 y3 l4 HH4
          obtain ⟨y0, y1, y2, y3⟩ := four_cells X5.out
          have l5 : w.heap.size < w5.heap.size := blk_lt X5.out
          clear hb5
          go_wp2_with fail
          refine (drop_nil w5 x.pid).mono ?_
          rintro e w6 ⟨rfl, hb6⟩
          have B6 : Hid (Below w.heap.size w w6) := B5.out.trans (hb6.mono B5.out.size)
          have HA6 := hid (all_ok w6 0 (.pointer none) [] (.inl ⟨rfl, rfl⟩) (by simp))
          clear y0 y1 y2 y3 l5 hb6
          go_wp2_with fail
          refine HA6.out.mono ?_
          rintro e w7 ⟨⟨ao7, cap7, rfl, _⟩, hb7⟩
          have B7 : Hid (Below w.heap.size w w7) := B6.out.trans (hb7.mono B6.out.size)
          rw [show ([] : List Ar).length = 0 from rfl]
          clear hb7 HA6
          go_wp2_with fail
          refine (three_ok w7).mono ?_
          rintro e w8 ⟨rfl, hb8⟩
          have B8 : Hid (Below w.heap.size w w8) := B7.out.trans (hb8.mono B7.out.size)
          clear hb8
          go_wp2_with fail
          go_ret
          exact ⟨rfl, B8.out⟩
        · go_enter Try.func7, Try.ntmps7
          go_wp2_with fail
          refine HM.out.mono ?_
          rintro e w2 ⟨rfl, hb2⟩
          have B2 : Hid (Below w.heap.size w w2) := B1.out.trans (hb2.mono B1.out.size)
          have X2 := hid (blk_below X1.out hb2)
          obtain ⟨y0, y1, y2, y3⟩ := four_cells X2.out
          have l2 : w.heap.size < w2.heap.size := blk_lt X2.out
          clear hb2 HM
          go_wp2_with fail
          refine (unmap_nil w2 x.pid x.fst).mono ?_
          rintro e w3 ⟨rfl, hb3⟩
          have B3 : Hid (Below w.heap.size w w3) := B2.out.trans (hb3.mono B2.out.size)
          have X3 := hid (blk_below X2.out hb3)
          clear y0 y1 y2 y3 l2
          obtain ⟨y0, y1, y2, y3⟩ := four_cells X3.out
          have l3 : w.heap.size < w3.heap.size := blk_lt X3.out
          have HF3 := hid (HF.out w3)
          clear hb3 HF
          go_wp2_with fail
          refine HF3.out.mono ?_
          rintro e w4 ⟨rfl, hb4⟩
          have B4 : Hid (Below w.heap.size w w4) := B3.out.trans (hb4.mono B3.out.size)
          have X4 := hid (blk_below X3.out hb4)
          clear y0 y1 y2 y3 l3 HF3
          obtain ⟨y0, y1, y2, y3⟩ := four_cells X4.out
          have l4 : w.heap.size < w4.heap.size := blk_lt X4.out
          have HH4 := hid (has_ok w4 0 (.pointer none) [] x.pid x.fst (.inl ⟨rfl, rfl⟩) (by simp) (fun a ha => by cases ha))
          rw [show hasL [] x.pid x.fst = false from rfl] at HH4
          clear hb4
          go_wp2_with fail
          refine HH4.out.mono ?_
          rintro e w5 ⟨rfl, hb5⟩
          have B5 : Hid (Below w.heap.size w w5) := B4.out.trans (hb5.mono B4.out.size)
          have X5 := hid (blk_below X4.out hb5)
          clear y0 y1 y2 y3 l4 HH4
          obtain ⟨y0, y1, y2, y3⟩ := four_cells X5.out
          have l5 : w.heap.size < w5.heap.size := blk_lt X5.out
          clear hb5
          go_wp2_with fail
          refine (drop_nil w5 x.pid).mono ?_
          rintro e w6 ⟨rfl, hb6⟩
          have B6 : Hid (Below w.heap.size w w6) := B5.out.trans (hb6.mono B5.out.size)
          have HA6 := hid (all_ok w6 0 (.pointer none) [] (.inl ⟨rfl, rfl⟩) (by simp))
          clear y0 y1 y2 y3 l5 hb6
          go_wp2_with fail
          refine HA6.out.mono ?_
          rintro e w7 ⟨⟨ao7, cap7, rfl, _⟩, hb7⟩
          have B7 : Hid (Below w.heap.size w w7) := B6.out.trans (hb7.mono B6.out.size)
          rw [show ([] : List Ar).length = 0 from rfl]
          clear hb7 HA6
          go_wp2_with fail
          refine (three_ok w7).mono ?_
          rintro e w8 ⟨rfl, hb8⟩
          have B8 : Hid (Below w.heap.size w w8) := B7.out.trans (hb8.mono B7.out.size)
          clear hb8
          go_wp2_with fail
          go_ret
          exact ⟨rfl, B8.out⟩
    · by_cases g1 : x.pid < 1
      · go_enter Try.func7, Try.ntmps7
        go_wp2_with fail
        refine HM.out.mono ?_
        rintro e w2 ⟨rfl, hb2⟩
        have B2 : Hid (Below w.heap.size w w2) := B1.out.trans (hb2.mono B1.out.size)
        have X2 := hid (blk_below X1.out hb2)
        obtain ⟨y0, y1, y2, y3⟩ := four_cells X2.out
        have l2 : w.heap.size < w2.heap.size := blk_lt X2.out
        clear hb2 HM
        go_wp2_with fail
        refine (unmap_nil w2 x.pid x.fst).mono ?_
        rintro e w3 ⟨rfl, hb3⟩
        have B3 : Hid (Below w.heap.size w w3) := B2.out.trans (hb3.mono B2.out.size)
        have X3 := hid (blk_below X2.out hb3)
        clear y0 y1 y2 y3 l2
        obtain ⟨y0, y1, y2, y3⟩ := four_cells X3.out
        have l3 : w.heap.size < w3.heap.size := blk_lt X3.out
        have HF3 := hid (HF.out w3)
        clear hb3 HF
        go_wp2_with fail
        refine HF3.out.mono ?_
        rintro e w4 ⟨rfl, hb4⟩
        have B4 : Hid (Below w.heap.size w w4) := B3.out.trans (hb4.mono B3.out.size)
        have X4 := hid (blk_below X3.out hb4)
        clear y0 y1 y2 y3 l3 HF3
        obtain ⟨y0, y1, y2, y3⟩ := four_cells X4.out
        have l4 : w.heap.size < w4.heap.size := blk_lt X4.out
        have HH4 := hid (has_ok w4 0 (.pointer none) [] x.pid x.fst (.inl ⟨rfl, rfl⟩) (by simp) (fun a ha => by cases ha))
        rw [show hasL [] x.pid x.fst = false from rfl] at HH4
        clear hb4
        go_wp2_with fail
        refine HH4.out.mono ?_
        rintro e w5 ⟨rfl, hb5⟩
        have B5 : Hid (Below w.heap.size w w5) := B4.out.trans (hb5.mono B4.out.size)
        have X5 := hid (blk_below X4.out hb5)
        clear y0 y1 y2 y3 l4 HH4
        obtain ⟨y0, y1, y2, y3⟩ := four_cells X5.out
        have l5 : w.heap.size < w5.heap.size := blk_lt X5.out
        clear hb5
        go_wp2_with fail
        refine (drop_nil w5 x.pid).mono ?_
        rintro e w6 ⟨rfl, hb6⟩
        have B6 : Hid (Below w.heap.size w w6) := B5.out.trans (hb6.mono B5.out.size)
        have HA6 := hid (all_ok w6 0 (.pointer none) [] (.inl ⟨rfl, rfl⟩) (by simp))
        clear y0 y1 y2 y3 l5 hb6
        go_wp2_with fail
        refine HA6.out.mono ?_
        rintro e w7 ⟨⟨ao7, cap7, rfl, _⟩, hb7⟩
        have B7 : Hid (Below w.heap.size w w7) := B6.out.trans (hb7.mono B6.out.size)
        rw [show ([] : List Ar).length = 0 from rfl]
        clear hb7 HA6
        go_wp2_with fail
        refine (three_ok w7).mono ?_
        rintro e w8 ⟨rfl, hb8⟩
        have B8 : Hid (Below w.heap.size w w8) := B7.out.trans (hb8.mono B7.out.size)
        clear hb8
        go_wp2_with fail
        go_ret
        exact ⟨rfl, B8.out⟩
      · by_cases g2 : 6 < x.pid
        · go_enter Try.func7, Try.ntmps7
          go_wp2_with fail
          refine HM.out.mono ?_
          rintro e w2 ⟨rfl, hb2⟩
          have B2 : Hid (Below w.heap.size w w2) := B1.out.trans (hb2.mono B1.out.size)
          have X2 := hid (blk_below X1.out hb2)
          obtain ⟨y0, y1, y2, y3⟩ := four_cells X2.out
          have l2 : w.heap.size < w2.heap.size := blk_lt X2.out
          clear hb2 HM
          go_wp2_with fail
          refine (unmap_nil w2 x.pid x.fst).mono ?_
          rintro e w3 ⟨rfl, hb3⟩
          have B3 : Hid (Below w.heap.size w w3) := B2.out.trans (hb3.mono B2.out.size)
          have X3 := hid (blk_below X2.out hb3)
          clear y0 y1 y2 y3 l2
          obtain ⟨y0, y1, y2, y3⟩ := four_cells X3.out
          have l3 : w.heap.size < w3.heap.size := blk_lt X3.out
          have HF3 := hid (HF.out w3)
          clear hb3 HF
          go_wp2_with fail
          refine HF3.out.mono ?_
          rintro e w4 ⟨rfl, hb4⟩
          have B4 : Hid (Below w.heap.size w w4) := B3.out.trans (hb4.mono B3.out.size)
          have X4 := hid (blk_below X3.out hb4)
          clear y0 y1 y2 y3 l3 HF3
          obtain ⟨y0, y1, y2, y3⟩ := four_cells X4.out
          have l4 : w.heap.size < w4.heap.size := blk_lt X4.out
          have HH4 := hid (has_ok w4 0 (.pointer none) [] x.pid x.fst (.inl ⟨rfl, rfl⟩) (by simp) (fun a ha => by cases ha))
          rw [show hasL [] x.pid x.fst = false from rfl] at HH4
          clear hb4
          go_wp2_with fail
          refine HH4.out.mono ?_
          rintro e w5 ⟨rfl, hb5⟩
          have B5 : Hid (Below w.heap.size w w5) := B4.out.trans (hb5.mono B4.out.size)
          have X5 := hid (blk_below X4.out hb5)
          clear y0 y1 y2 y3 l4 HH4
          obtain ⟨y0, y1, y2, y3⟩ := four_cells X5.out
          have l5 : w.heap.size < w5.heap.size := blk_lt X5.out
          clear hb5
          go_wp2_with fail
          refine (drop_nil w5 x.pid).mono ?_
          rintro e w6 ⟨rfl, hb6⟩
          have B6 : Hid (Below w.heap.size w w6) := B5.out.trans (hb6.mono B5.out.size)
          have HA6 := hid (all_ok w6 0 (.pointer none) [] (.inl ⟨rfl, rfl⟩) (by simp))
          clear y0 y1 y2 y3 l5 hb6
          go_wp2_with fail
          refine HA6.out.mono ?_
          rintro e w7 ⟨⟨ao7, cap7, rfl, _⟩, hb7⟩
          have B7 : Hid (Below w.heap.size w w7) := B6.out.trans (hb7.mono B6.out.size)
          rw [show ([] : List Ar).length = 0 from rfl]
          clear hb7 HA6
          go_wp2_with fail
          refine (three_ok w7).mono ?_
          rintro e w8 ⟨rfl, hb8⟩
          have B8 : Hid (Below w.heap.size w w8) := B7.out.trans (hb8.mono B7.out.size)
          clear hb8
          go_wp2_with fail
          go_ret
          exact ⟨rfl, B8.out⟩
        · have g3 : ¬ x.n < 1 := by omega
          go_enter Try.func7, Try.ntmps7
          go_wp2_with fail
          refine HM.out.mono ?_
          rintro e w2 ⟨rfl, hb2⟩
          have B2 : Hid (Below w.heap.size w w2) := B1.out.trans (hb2.mono B1.out.size)
          have X2 := hid (blk_below X1.out hb2)
          obtain ⟨y0, y1, y2, y3⟩ := four_cells X2.out
          have l2 : w.heap.size < w2.heap.size := blk_lt X2.out
          clear hb2 HM
          go_wp2_with fail
          refine (unmap_nil w2 x.pid x.fst).mono ?_
          rintro e w3 ⟨rfl, hb3⟩
          have B3 : Hid (Below w.heap.size w w3) := B2.out.trans (hb3.mono B2.out.size)
          have X3 := hid (blk_below X2.out hb3)
          clear y0 y1 y2 y3 l2
          obtain ⟨y0, y1, y2, y3⟩ := four_cells X3.out
          have l3 : w.heap.size < w3.heap.size := blk_lt X3.out
          have HF3 := hid (HF.out w3)
          clear hb3 HF
          go_wp2_with fail
          refine HF3.out.mono ?_
          rintro e w4 ⟨rfl, hb4⟩
          have B4 : Hid (Below w.heap.size w w4) := B3.out.trans (hb4.mono B3.out.size)
          have X4 := hid (blk_below X3.out hb4)
          clear y0 y1 y2 y3 l3 HF3
          obtain ⟨y0, y1, y2, y3⟩ := four_cells X4.out
          have l4 : w.heap.size < w4.heap.size := blk_lt X4.out
          have HH4 := hid (has_ok w4 0 (.pointer none) [] x.pid x.fst (.inl ⟨rfl, rfl⟩) (by simp) (fun a ha => by cases ha))
          rw [show hasL [] x.pid x.fst = false from rfl] at HH4
          clear hb4
          go_wp2_with fail
          refine HH4.out.mono ?_
          rintro e w5 ⟨rfl, hb5⟩
          have B5 : Hid (Below w.heap.size w w5) := B4.out.trans (hb5.mono B4.out.size)
          have X5 := hid (blk_below X4.out hb5)
          clear y0 y1 y2 y3 l4 HH4
          obtain ⟨y0, y1, y2, y3⟩ := four_cells X5.out
          have l5 : w.heap.size < w5.heap.size := blk_lt X5.out
          clear hb5
          go_wp2_with fail
          refine (drop_nil w5 x.pid).mono ?_
          rintro e w6 ⟨rfl, hb6⟩
          have B6 : Hid (Below w.heap.size w w6) := B5.out.trans (hb6.mono B5.out.size)
          have HA6 := hid (all_ok w6 0 (.pointer none) [] (.inl ⟨rfl, rfl⟩) (by simp))
          clear y0 y1 y2 y3 l5 hb6
          go_wp2_with fail
          refine HA6.out.mono ?_
          rintro e w7 ⟨⟨ao7, cap7, rfl, _⟩, hb7⟩
          have B7 : Hid (Below w.heap.size w w7) := B6.out.trans (hb7.mono B6.out.size)
          rw [show ([] : List Ar).length = 0 from rfl]
          clear hb7 HA6
          go_wp2_with fail
          refine (three_ok w7).mono ?_
          rintro e w8 ⟨rfl, hb8⟩
          have B8 : Hid (Below w.heap.size w w8) := B7.out.trans (hb8.mono B7.out.size)
          clear hb8
          go_wp2_with fail
          go_ret
          exact ⟨rfl, B8.out⟩
    · have g1 : ¬ x.pid < 1 := by omega
      have g2 : ¬ 6 < x.pid := by omega
      have g3 : ¬ x.n < 1 := by omega
      have g4 : ¬ 16 < x.n := by omega
      clear h1 h2 h3 h4
      go_enter Try.func7, Try.ntmps7
      go_wp2_with fail
      refine HM.out.mono ?_
      rintro e w2 ⟨rfl, hb2⟩
      have B2 : Hid (Below w.heap.size w w2) := B1.out.trans (hb2.mono B1.out.size)
      have X2 := hid (blk_below X1.out hb2)
      obtain ⟨y0, y1, y2, y3⟩ := four_cells X2.out
      have l2 : w.heap.size < w2.heap.size := blk_lt X2.out
      clear hb2 HM
      go_wp2_with fail
      refine (unmap_nil w2 x.pid x.fst).mono ?_
      rintro e w3 ⟨rfl, hb3⟩
      have B3 : Hid (Below w.heap.size w w3) := B2.out.trans (hb3.mono B2.out.size)
      have X3 := hid (blk_below X2.out hb3)
      clear y0 y1 y2 y3 l2
      obtain ⟨y0, y1, y2, y3⟩ := four_cells X3.out
      have l3 : w.heap.size < w3.heap.size := blk_lt X3.out
      have HF3 := hid (HF.out w3)
      clear hb3 HF
      go_wp2_with fail
      refine HF3.out.mono ?_
      rintro e w4 ⟨rfl, hb4⟩
      have B4 : Hid (Below w.heap.size w w4) := B3.out.trans (hb4.mono B3.out.size)
      have X4 := hid (blk_below X3.out hb4)
      clear y0 y1 y2 y3 l3 HF3
      obtain ⟨y0, y1, y2, y3⟩ := four_cells X4.out
      have l4 : w.heap.size < w4.heap.size := blk_lt X4.out
      have HH4 := hid (has_ok w4 0 (.pointer none) [] x.pid x.fst (.inl ⟨rfl, rfl⟩) (by simp) (fun a ha => by cases ha))
      rw [show hasL [] x.pid x.fst = false from rfl] at HH4
      clear hb4
      go_wp2_with fail
      refine HH4.out.mono ?_
      rintro e w5 ⟨rfl, hb5⟩
      have B5 : Hid (Below w.heap.size w w5) := B4.out.trans (hb5.mono B4.out.size)
      have X5 := hid (blk_below X4.out hb5)
      clear y0 y1 y2 y3 l4 HH4
      obtain ⟨y0, y1, y2, y3⟩ := four_cells X5.out
      have l5 : w.heap.size < w5.heap.size := blk_lt X5.out
      clear hb5
      go_wp2_with fail
      refine (drop_nil w5 x.pid).mono ?_
      rintro e w6 ⟨rfl, hb6⟩
      have B6 : Hid (Below w.heap.size w w6) := B5.out.trans (hb6.mono B5.out.size)
      have HA6 := hid (all_ok w6 0 (.pointer none) [] (.inl ⟨rfl, rfl⟩) (by simp))
      clear y0 y1 y2 y3 l5 hb6
      go_wp2_with fail
      refine HA6.out.mono ?_
      rintro e w7 ⟨⟨ao7, cap7, rfl, _⟩, hb7⟩
      have B7 : Hid (Below w.heap.size w w7) := B6.out.trans (hb7.mono B6.out.size)
      rw [show ([] : List Ar).length = 0 from rfl]
      clear hb7 HA6
      go_wp2_with fail
      refine (three_ok w7).mono ?_
      rintro e w8 ⟨rfl, hb8⟩
      have B8 : Hid (Below w.heap.size w w8) := B7.out.trans (hb8.mono B7.out.size)
      clear hb8
      go_wp2_with fail
      go_ret
      exact ⟨by show Ending.returned (Value.bool (!decide (x.pid < 1) && !decide (6 < x.pid) && !decide (x.n < 1) && !decide (16 < x.n))) = _; rw [decide_eq_false (show ¬ x.pid < 1 by omega), decide_eq_false (show ¬ 6 < x.pid by omega), decide_eq_false (show ¬ x.n < 1 by omega), decide_eq_false (show ¬ 16 < x.n by omega)]; rfl, B8.out⟩
theorem nil_walk (w : World) (x : Sp) : Calls Try.prog 7 #[x.v] w fun e w' => e = .returned (.bool true) ∧ Below w.heap.size w w' := by
  have hf : ∃ F, (F = 1 ∨ F = 7) ∧ ∀ W, Calls Try.prog 20 #[.pointer none, i64 x.pid, i64 x.n] W fun e w' => e = .returned (i64 F) ∧ Below W.heap.size W w' := by
    by_cases h : FkOk x.pid x.n
    · exact ⟨7, .inr rfl, fun W => fork_nil W _ _ h⟩
    · exact ⟨1, .inl rfl, fun W => fork_arg W _ _ _ h⟩
  obtain ⟨F, hF, hFk⟩ := hf
  by_cases h : (1 ≤ x.pid ∧ x.pid ≤ 6) ∧ 1 ≤ x.n ∧ x.n ≤ 16
  · exact nil_core w x 7 F hF (map_nil _ _ _ h) hFk (.inr ⟨rfl, h.1.1, h.1.2, h.2.1, h.2.2⟩)
  · exact nil_core w x 1 F hF (map_arg _ _ _ _ h) hFk (.inl ⟨rfl, by omega⟩)
end Go.Proofs.Ytmebkpdijamdgaa
