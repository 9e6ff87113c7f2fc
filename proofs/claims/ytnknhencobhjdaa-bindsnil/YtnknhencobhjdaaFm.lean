/- imagolaw11.frame: it is true; no statement is proved in this text. -/
import Derived.Test.YtnknhencobhjdaaFm0
namespace Go.Proofs.Ytnknhencobhjdaa
open Go.ChangeShapes Go.WideShapes Go.ChangeAt Go.RowKit Go.Deep Go.ChangeMaps Go.MapKept
open Go.Proofs.Ytnknhencobhjdaa.Cp (pq hid below_one hO cO zC looks_nil)
open Go.Proofs.Ytnknhencobhjdaa.Qt (zT badB)

set_option maxRecDepth 100000 in
set_option maxHeartbeats 3200000 in
theorem frame_ok (w : World) : Calls Try.prog 10 #[] w fun e w' => e = .returned (.bool true) ∧ Below w.heap.size w w' := by
  have HF : Hid (w.heap.size ≤ w.heap.size) := Nat.le_refl _
  go_enter Try.func10, Try.ntmps10
  go_wp2_with fail
  refine (new4 w).mono ?_
  rintro e w1 ⟨B, x, rfl, hd1, hb1⟩
  have HD1 := hid hd1
  have HB1 : Hid (Below w.heap.size w w1) := hb1
  clear hd1 hb1
  go_wp2_with fail
  refine (open1 HD1.out).mono ?_
  rintro e w2 ⟨rfl, p1, hd2, hf2⟩
  have HD2 := hid hd2
  have HB2 : Hid (Below w.heap.size w w2) := HB1.out.trans hf2.below
  clear hd2 hf2 HD1 HB1
  go_wp2_with fail
  refine (open2 HD2.out).mono ?_
  rintro e w3 ⟨rfl, p2, hd3, hf3⟩
  have HD3 := hid hd3
  have HB3 : Hid (Below w.heap.size w w3) := HB2.out.trans hf3.below
  clear hd3 hf3 HD2 HB2
  go_wp2_with fail
  refine (bind1 HD3.out).mono ?_
  rintro e w4 ⟨rfl, hd4, hf4⟩
  have HD4 : Hid (Bd (w4.alloc (.cells #[i64 0, i64 1] 43)) w.heap.size B x ⟨4, 4, 4⟩ (Qt.tkS (sA p1 p2) 1 1 1) T1 L1 R1) := hd4.below (below_one w4 _)
  have HB4 : Hid (Below w.heap.size w (w4.alloc (.cells #[i64 0, i64 1] 43))) := (HB3.out.trans hf4.below).trans ((below_one w4 _).mono hd4.lo')
  have HH4 : Hid ((w4.alloc (.cells #[i64 0, i64 1] 43)).heap[w4.heap.size]? = some (hO 0 1)) := heap_last w4 _
  have HG4 : Hid (∀ j, j < 3 → x.g j < w4.heap.size) := fun j hj => blk_lt (hd4.rt j hj).1
  have hl4 : w.heap.size ≤ w4.heap.size := hd4.lo'
  clear hd4 hf4 HD3 HB3
  go_upto_region 5 with fail
  generalize w4.alloc (.cells #[i64 0, i64 1] 43) = W4 at *
  generalize w4.heap.size = H at *
  have a0 : W4.cell? ⟨H, 0, none⟩ = some (i64 0) := blk_cell HH4.out 0
  have a1 : W4.cell? ⟨H, 1, none⟩ = some (i64 1) := blk_cell HH4.out 1
  go_wp2_with fail
  refine (share1 HD4.out).mono ?_
  rintro e w5 ⟨rfl, hd5, hf5⟩
  have hkeep : ∀ W', Bf w.heap.size x W4 W' → W'.heap[H]? = some (hO 0 1) := fun W' hf => hf.kept _ _ HH4.out (by
    have e0 := HG4.out 0 (by omega)
    have e1 := HG4.out 1 (by omega)
    have e2 := HG4.out 2 (by omega)
    simp only [ownB, Bool.or_eq_false_iff, beq_eq_false_iff_ne]
    refine ⟨⟨⟨⟨⟨by decide, by decide⟩, by decide⟩, by omega⟩, by omega⟩, by omega⟩)
  have HD5 : Hid (Bd (w5.alloc (.cells #[i64 1, i64 1] 43)) w.heap.size B x ⟨4, 4, 4⟩ (Qt.tkS (sA p1 p2) 1 1 1) T2 L2 R1) := hd5.below (below_one w5 _)
  have HB5 : Hid (Below w.heap.size w (w5.alloc (.cells #[i64 1, i64 1] 43))) := (HB4.out.trans hf5.below).trans ((below_one w5 _).mono hd5.lo')
  have HH5 : Hid ((w5.alloc (.cells #[i64 1, i64 1] 43)).heap[H]? = some (hO 0 1)) := blk_alloc (hkeep w5 hf5) _
  have HK5 : Hid ((w5.alloc (.cells #[i64 1, i64 1] 43)).heap[w5.heap.size]? = some (hO 1 1)) := heap_last w5 _
  have HG5 : Hid (∀ j, j < 3 → x.g j < w5.heap.size) := fun j hj => blk_lt (hd5.rt j hj).1
  have hl5 : w.heap.size ≤ w5.heap.size := hd5.lo'
  clear hd5 hf5 HD4 HB4 a0 a1 hkeep HH4 HG4
  go_upto_region 6 with fail
  generalize w5.alloc (.cells #[i64 1, i64 1] 43) = W5 at *
  generalize w5.heap.size = H2 at *
  have a0 : W5.cell? ⟨H2, 0, none⟩ = some (i64 1) := blk_cell HK5.out 0
  have a1 : W5.cell? ⟨H2, 1, none⟩ = some (i64 1) := blk_cell HK5.out 1
  go_wp2_with fail
  refine (number_ok HD5.out T2_rts 2 1 1 2 1 0 1 look2 (by decide)).mono ?_
  rintro e w6 ⟨rfl, hb6⟩
  have HD6 := hid (HD5.out.below hb6)
  have HB6 := bel_then HB5 hb6
  have HH6 : Hid (w6.heap[H]? = some (hO 0 1)) := blk_below HH5.out hb6
  have HK6 : Hid (w6.heap[H2]? = some (hO 1 1)) := blk_below HK5.out hb6
  clear hb6 HD5 HB5 HH5 HK5 a0 a1
  have a0 : w6.cell? ⟨H, 0, none⟩ = some (i64 0) := blk_cell HH6.out 0
  have a1 : w6.cell? ⟨H, 1, none⟩ = some (i64 1) := blk_cell HH6.out 1
  go_wp2_with fail
  refine (free1 HD6.out).mono ?_
  rintro e w7 ⟨rfl, hd7, hf7⟩
  have HD7 := hid hd7
  have HB7 : Hid (Below w.heap.size w w7) := HB6.out.trans hf7.below
  have HK7 : Hid (w7.heap[H2]? = some (hO 1 1)) := hf7.kept _ _ HK6.out (by
    have e0 := HG5.out 0 (by omega)
    have e1 := HG5.out 1 (by omega)
    have e2 := HG5.out 2 (by omega)
    simp only [ownB, Bool.or_eq_false_iff, beq_eq_false_iff_ne]
    refine ⟨⟨⟨⟨⟨by decide, by decide⟩, by decide⟩, by omega⟩, by omega⟩, by omega⟩)
  clear hd7 hf7 HD6 HB6 HH6 HK6 a0 a1
  generalize strL T3 L2 = L3 at *
  generalize mixR R1 L3 3 = R3 at *
  have a0 : w7.cell? ⟨H2, 0, none⟩ = some (i64 1) := blk_cell HK7.out 0
  have a1 : w7.cell? ⟨H2, 1, none⟩ = some (i64 1) := blk_cell HK7.out 1
  go_wp2_with fail
  refine (number_stale w7 (pq B) _ _ _ _ _ _ 2 1 1 1 0 0 0 0 rfl (ent_ok HD7.out.row) (by have := Cp.looks_tb HD7.out.tb 2 1 1; rw [look4] at this; exact this)).mono ?_
  rintro e w8 ⟨rfl, hb8⟩
  have HD8 := hid (HD7.out.below hb8)
  have HB8 := bel_then HB7 hb8
  clear hb8 HD7 HB7 HK7 a0 a1
  go_wp2_with fail
  refine (spare_ok HD8.out).mono ?_
  rintro e w9 ⟨he, hb9⟩
  rw [fr4] at he
  subst he
  have HB9 := bel_then HB8 hb9
  clear hb9 HD8 HB8
  have hq : (Op.equalIn 10000 22 (.agg #[i64 4, i64 4, i64 4]) (.agg #[i64 4, i64 4, i64 4])).run Try.prog w9 = .ok true w9 := Qt.eqIn22 9998 ⟨4, 4, 4⟩ ⟨4, 4, 4⟩ w9
  unfold Qt.T.v
  go_wp2_with fail
  go_ret
  exact ⟨rfl, HB9.out⟩
end Go.Proofs.Ytnknhencobhjdaa
