/- BindsNil, walked; no statement is proved in this text. -/
import Derived.Test.YtnknhencobhjdaaArgs
import Derived.Test.YtnknhencobhjdaaFm
namespace Go.Proofs.Ytnknhencobhjdaa
open Go.ChangeShapes Go.WideShapes Go.ChangeAt Go.RowKit Go.Deep Go.ChangeMaps Go.MapKept
open Go.Proofs.Ytnknhencobhjdaa.Cp (pq hid below_one hO cO zC looks_nil)
open Go.Proofs.Ytnknhencobhjdaa.Qt (zT badB)

theorem open0 (W : World) (env q0 q1 q2 : Int) (X : Int) (hX : (if badB env ⟨q0, q1, q2⟩ = true then (1 : Int) else 7) = X) : Calls Try.prog 18 #[.pointer none, i64 env, .agg #[i64 q0, i64 q1, i64 q2]] W fun e w' => e = .returned (i64 X) ∧ Below W.heap.size W w' := by
  rw [← hX]
  exact bopen_nil W env ⟨q0, q1, q2⟩
theorem left0 (W : World) (env : Int) : Calls Try.prog 26 #[.pointer none, i64 env] W fun e w' => e = .returned (.tuple #[.agg #[i64 0, i64 0, i64 0], i64 6]) ∧ Below W.heap.size W w' := left_gen W (.pointer none) _ _ _ _ _ _ env 6 ⟨0, 0, 0⟩ (ent_nil W) (fun W' _ => Qt.left_nil W' env)
theorem spare0 (W : World) : Calls Try.prog 17 #[.pointer none] W fun e w' => e = .returned (.agg #[i64 0, i64 0, i64 0]) ∧ Below W.heap.size W w' := spare_gen W (.pointer none) _ _ _ _ _ _ ⟨0, 0, 0⟩ (ent_nil W) (fun W' _ => Qt.free_nil W')
theorem share0 (W : World) (env sl gn tt rights : Int) : Calls Try.prog 24 #[.pointer none, i64 env, .agg #[i64 sl, i64 gn], i64 tt, i64 rights] W fun e w' => e = .returned (.tuple #[.agg #[i64 0, i64 0], i64 90]) ∧ Below W.heap.size W w' := share_stale W (.pointer none) _ _ _ _ _ _ env sl gn tt rights 0 0 0 0 (ent_nil W) (looks_nil W env sl gn)
theorem number0 (W : World) (env sl gn kind : Int) : Calls Try.prog 16 #[.pointer none, i64 env, .agg #[i64 sl, i64 gn], i64 kind] W fun e w' => e = .returned (.tuple #[i64 0, i64 90]) ∧ Below W.heap.size W w' := number_stale W (.pointer none) _ _ _ _ _ _ env sl gn kind 0 0 0 0 rfl (ent_nil W) (looks_nil W env sl gn)
theorem free0 (W : World) (env sl gn : Int) : Calls Try.prog 19 #[.pointer none, i64 env, .agg #[i64 sl, i64 gn]] W fun e w' => e = .returned (i64 90) ∧ Below W.heap.size W w' := free_stale W (.pointer none) _ _ _ _ _ _ env sl gn 0 0 0 0 (ent_nil W) (looks_nil W env sl gn)
theorem bind0 (W : World) (env kind : Int) : Calls Try.prog 20 #[.pointer none, i64 env, i64 kind] W fun e w' => e = .returned (.tuple #[i64 0, .agg #[i64 0, i64 0], i64 6]) ∧ Below W.heap.size W w' := bbind_nil W env kind
theorem root0 (W : World) (kind n : Int) : Calls Try.prog 15 #[.pointer none, i64 kind, i64 n] W fun e w' => e = .returned (.agg #[i64 0, i64 0]) ∧ Below W.heap.size W w' := root_nil W kind n
set_option maxRecDepth 100000 in
set_option maxHeartbeats 6400000 in
theorem nil_a (w : World) (what env kind n tt rts q0 q1 q2 : Int) (by_ : Bool) (h1 : env < 1) (hX : (if badB env ⟨q0, q1, q2⟩ = true then (1 : Int) else 7) = 1) : Calls Try.prog 7 #[.agg #[i64 what, i64 env, i64 kind, i64 n, i64 tt, i64 rts, .bool by_, i64 q0, i64 q1, i64 q2]] w fun e w' => e = .returned (.bool true) ∧ Below w.heap.size w w' := by
  have HO : Hid (∀ W, Calls Try.prog 18 #[.pointer none, i64 env, .agg #[i64 q0, i64 q1, i64 q2]] W fun e w' => e = .returned (i64 1) ∧ Below W.heap.size W w') := fun W => open0 W env q0 q1 q2 1 hX
  have HB0 := bel_two w (.cells #[i64 what, i64 env, i64 kind, i64 n, i64 tt, i64 rts, .bool by_, i64 q0, i64 q1, i64 q2] 33) (.cells #[i64 n, i64 rts] 43)
  have HX0 : Hid (((w.alloc (.cells #[i64 what, i64 env, i64 kind, i64 n, i64 tt, i64 rts, .bool by_, i64 q0, i64 q1, i64 q2] 33)).alloc (.cells #[i64 n, i64 rts] 43)).heap[w.heap.size]? = some (.cells #[i64 what, i64 env, i64 kind, i64 n, i64 tt, i64 rts, .bool by_, i64 q0, i64 q1, i64 q2] 33)) := blk_alloc (heap_last w _) _
  have HY0 : Hid (((w.alloc (.cells #[i64 what, i64 env, i64 kind, i64 n, i64 tt, i64 rts, .bool by_, i64 q0, i64 q1, i64 q2] 33)).alloc (.cells #[i64 n, i64 rts] 43)).heap[w.heap.size + 1]? = some (hO n rts)) := by
    have := heap_last (w.alloc (.cells #[i64 what, i64 env, i64 kind, i64 n, i64 tt, i64 rts, .bool by_, i64 q0, i64 q1, i64 q2] 33)) (hO n rts)
    rwa [show (w.alloc (.cells #[i64 what, i64 env, i64 kind, i64 n, i64 tt, i64 rts, .bool by_, i64 q0, i64 q1, i64 q2] 33)).heap.size = w.heap.size + 1 by simp] at this
  clear hX
  go_enter Try.func7, Try.ntmps7
  go_upto_region 3 with fail
  generalize (w.alloc (.cells #[i64 what, i64 env, i64 kind, i64 n, i64 tt, i64 rts, .bool by_, i64 q0, i64 q1, i64 q2] 33)).alloc (.cells #[i64 n, i64 rts] 43) = w0 at *
  have x1 : w0.cell? ⟨w.heap.size, 1, none⟩ = some (i64 env) := blk_cell HX0.out 1
  have x2 : w0.cell? ⟨w.heap.size, 2, none⟩ = some (i64 kind) := blk_cell HX0.out 2
  have x3 : w0.cell? ⟨w.heap.size, 3, none⟩ = some (i64 n) := blk_cell HX0.out 3
  have x4 : w0.cell? ⟨w.heap.size, 4, none⟩ = some (i64 tt) := blk_cell HX0.out 4
  have x5 : w0.cell? ⟨w.heap.size, 5, none⟩ = some (i64 rts) := blk_cell HX0.out 5
  have x7 : w0.cell? ⟨w.heap.size, 7, none⟩ = some (i64 q0) := blk_cell HX0.out 7
  have x8 : w0.cell? ⟨w.heap.size, 8, none⟩ = some (i64 q1) := blk_cell HX0.out 8
  have x9 : w0.cell? ⟨w.heap.size, 9, none⟩ = some (i64 q2) := blk_cell HX0.out 9
  have y0 : w0.cell? ⟨w.heap.size + 1, 0, none⟩ = some (i64 n) := blk_cell HY0.out 0
  have y1 : w0.cell? ⟨w.heap.size + 1, 1, none⟩ = some (i64 rts) := blk_cell HY0.out 1
  go_wp2_with fail
  refine (HO.out _).mono ?_
  rintro e w1 ⟨rfl, hb⟩
  have HB1 : Hid (Below w.heap.size w w1) := bel_then HB0 hb
  have HX1 : Hid (w1.heap[w.heap.size]? = some (.cells #[i64 what, i64 env, i64 kind, i64 n, i64 tt, i64 rts, .bool by_, i64 q0, i64 q1, i64 q2] 33)) := blk_below HX0.out hb
  have HY1 : Hid (w1.heap[w.heap.size + 1]? = some (hO n rts)) := blk_below HY0.out hb
  clear hb HB0 HX0 HY0 x1 x2 x3 x4 x5 x7 x8 x9 y0 y1
  have x1 : w1.cell? ⟨w.heap.size, 1, none⟩ = some (i64 env) := blk_cell HX1.out 1
  have x2 : w1.cell? ⟨w.heap.size, 2, none⟩ = some (i64 kind) := blk_cell HX1.out 2
  have x3 : w1.cell? ⟨w.heap.size, 3, none⟩ = some (i64 n) := blk_cell HX1.out 3
  have x4 : w1.cell? ⟨w.heap.size, 4, none⟩ = some (i64 tt) := blk_cell HX1.out 4
  have x5 : w1.cell? ⟨w.heap.size, 5, none⟩ = some (i64 rts) := blk_cell HX1.out 5
  have x7 : w1.cell? ⟨w.heap.size, 7, none⟩ = some (i64 q0) := blk_cell HX1.out 7
  have x8 : w1.cell? ⟨w.heap.size, 8, none⟩ = some (i64 q1) := blk_cell HX1.out 8
  have x9 : w1.cell? ⟨w.heap.size, 9, none⟩ = some (i64 q2) := blk_cell HX1.out 9
  have y0 : w1.cell? ⟨w.heap.size + 1, 0, none⟩ = some (i64 n) := blk_cell HY1.out 0
  have y1 : w1.cell? ⟨w.heap.size + 1, 1, none⟩ = some (i64 rts) := blk_cell HY1.out 1
  go_wp2_with fail
  refine (bind0 _ env kind).mono ?_
  rintro e w2 ⟨rfl, hb⟩
  have HB2 : Hid (Below w.heap.size w (w2.alloc (.cells #[i64 0, i64 0] 43))) := bel_then (bel_then HB1 hb) (below_one w2 _)
  have HX2 : Hid ((w2.alloc (.cells #[i64 0, i64 0] 43)).heap[w.heap.size]? = some (.cells #[i64 what, i64 env, i64 kind, i64 n, i64 tt, i64 rts, .bool by_, i64 q0, i64 q1, i64 q2] 33)) := blk_alloc (blk_below HX1.out hb) _
  have HY2 : Hid ((w2.alloc (.cells #[i64 0, i64 0] 43)).heap[w.heap.size + 1]? = some (hO n rts)) := blk_alloc (blk_below HY1.out hb) _
  clear hb HB1 HX1 HY1 x1 x2 x3 x4 x5 x7 x8 x9 y0 y1
  go_upto_region 5 with fail
  generalize w2.alloc (.cells #[i64 0, i64 0] 43) = V2 at *
  generalize w2.heap.size = A2 at *
  have x1 : V2.cell? ⟨w.heap.size, 1, none⟩ = some (i64 env) := blk_cell HX2.out 1
  have x2 : V2.cell? ⟨w.heap.size, 2, none⟩ = some (i64 kind) := blk_cell HX2.out 2
  have x3 : V2.cell? ⟨w.heap.size, 3, none⟩ = some (i64 n) := blk_cell HX2.out 3
  have x4 : V2.cell? ⟨w.heap.size, 4, none⟩ = some (i64 tt) := blk_cell HX2.out 4
  have x5 : V2.cell? ⟨w.heap.size, 5, none⟩ = some (i64 rts) := blk_cell HX2.out 5
  have x7 : V2.cell? ⟨w.heap.size, 7, none⟩ = some (i64 q0) := blk_cell HX2.out 7
  have x8 : V2.cell? ⟨w.heap.size, 8, none⟩ = some (i64 q1) := blk_cell HX2.out 8
  have x9 : V2.cell? ⟨w.heap.size, 9, none⟩ = some (i64 q2) := blk_cell HX2.out 9
  have y0 : V2.cell? ⟨w.heap.size + 1, 0, none⟩ = some (i64 n) := blk_cell HY2.out 0
  have y1 : V2.cell? ⟨w.heap.size + 1, 1, none⟩ = some (i64 rts) := blk_cell HY2.out 1
  go_wp2_with fail
  refine (share0 _ env n rts tt rts).mono ?_
  rintro e w3 ⟨rfl, hb⟩
  have HB3 : Hid (Below w.heap.size w (w3.alloc (.cells #[i64 0, i64 0] 43))) := bel_then (bel_then HB2 hb) (below_one w3 _)
  have HX3 : Hid ((w3.alloc (.cells #[i64 0, i64 0] 43)).heap[w.heap.size]? = some (.cells #[i64 what, i64 env, i64 kind, i64 n, i64 tt, i64 rts, .bool by_, i64 q0, i64 q1, i64 q2] 33)) := blk_alloc (blk_below HX2.out hb) _
  have HY3 : Hid ((w3.alloc (.cells #[i64 0, i64 0] 43)).heap[w.heap.size + 1]? = some (hO n rts)) := blk_alloc (blk_below HY2.out hb) _
  clear hb HB2 HX2 HY2 x1 x2 x3 x4 x5 x7 x8 x9 y0 y1
  go_upto_region 6 with fail
  generalize w3.alloc (.cells #[i64 0, i64 0] 43) = V3 at *
  generalize w3.heap.size = A3 at *
  have x1 : V3.cell? ⟨w.heap.size, 1, none⟩ = some (i64 env) := blk_cell HX3.out 1
  have x2 : V3.cell? ⟨w.heap.size, 2, none⟩ = some (i64 kind) := blk_cell HX3.out 2
  have x3 : V3.cell? ⟨w.heap.size, 3, none⟩ = some (i64 n) := blk_cell HX3.out 3
  have x4 : V3.cell? ⟨w.heap.size, 4, none⟩ = some (i64 tt) := blk_cell HX3.out 4
  have x5 : V3.cell? ⟨w.heap.size, 5, none⟩ = some (i64 rts) := blk_cell HX3.out 5
  have x7 : V3.cell? ⟨w.heap.size, 7, none⟩ = some (i64 q0) := blk_cell HX3.out 7
  have x8 : V3.cell? ⟨w.heap.size, 8, none⟩ = some (i64 q1) := blk_cell HX3.out 8
  have x9 : V3.cell? ⟨w.heap.size, 9, none⟩ = some (i64 q2) := blk_cell HX3.out 9
  have y0 : V3.cell? ⟨w.heap.size + 1, 0, none⟩ = some (i64 n) := blk_cell HY3.out 0
  have y1 : V3.cell? ⟨w.heap.size + 1, 1, none⟩ = some (i64 rts) := blk_cell HY3.out 1
  go_wp2_with fail
  refine (brevoke_nil _ env n rts).mono ?_
  rintro e w4 ⟨rfl, hb⟩
  have HB4 : Hid (Below w.heap.size w w4) := bel_then HB3 hb
  have HX4 : Hid (w4.heap[w.heap.size]? = some (.cells #[i64 what, i64 env, i64 kind, i64 n, i64 tt, i64 rts, .bool by_, i64 q0, i64 q1, i64 q2] 33)) := blk_below HX3.out hb
  have HY4 : Hid (w4.heap[w.heap.size + 1]? = some (hO n rts)) := blk_below HY3.out hb
  clear hb HB3 HX3 HY3 x1 x2 x3 x4 x5 x7 x8 x9 y0 y1
  have x1 : w4.cell? ⟨w.heap.size, 1, none⟩ = some (i64 env) := blk_cell HX4.out 1
  have x2 : w4.cell? ⟨w.heap.size, 2, none⟩ = some (i64 kind) := blk_cell HX4.out 2
  have x3 : w4.cell? ⟨w.heap.size, 3, none⟩ = some (i64 n) := blk_cell HX4.out 3
  have x4 : w4.cell? ⟨w.heap.size, 4, none⟩ = some (i64 tt) := blk_cell HX4.out 4
  have x5 : w4.cell? ⟨w.heap.size, 5, none⟩ = some (i64 rts) := blk_cell HX4.out 5
  have x7 : w4.cell? ⟨w.heap.size, 7, none⟩ = some (i64 q0) := blk_cell HX4.out 7
  have x8 : w4.cell? ⟨w.heap.size, 8, none⟩ = some (i64 q1) := blk_cell HX4.out 8
  have x9 : w4.cell? ⟨w.heap.size, 9, none⟩ = some (i64 q2) := blk_cell HX4.out 9
  have y0 : w4.cell? ⟨w.heap.size + 1, 0, none⟩ = some (i64 n) := blk_cell HY4.out 0
  have y1 : w4.cell? ⟨w.heap.size + 1, 1, none⟩ = some (i64 rts) := blk_cell HY4.out 1
  go_wp2_with fail
  refine (number0 _ env n rts kind).mono ?_
  rintro e w5 ⟨rfl, hb⟩
  have HB5 : Hid (Below w.heap.size w w5) := bel_then HB4 hb
  have HX5 : Hid (w5.heap[w.heap.size]? = some (.cells #[i64 what, i64 env, i64 kind, i64 n, i64 tt, i64 rts, .bool by_, i64 q0, i64 q1, i64 q2] 33)) := blk_below HX4.out hb
  have HY5 : Hid (w5.heap[w.heap.size + 1]? = some (hO n rts)) := blk_below HY4.out hb
  clear hb HB4 HX4 HY4 x1 x2 x3 x4 x5 x7 x8 x9 y0 y1
  have x1 : w5.cell? ⟨w.heap.size, 1, none⟩ = some (i64 env) := blk_cell HX5.out 1
  have x2 : w5.cell? ⟨w.heap.size, 2, none⟩ = some (i64 kind) := blk_cell HX5.out 2
  have x3 : w5.cell? ⟨w.heap.size, 3, none⟩ = some (i64 n) := blk_cell HX5.out 3
  have x4 : w5.cell? ⟨w.heap.size, 4, none⟩ = some (i64 tt) := blk_cell HX5.out 4
  have x5 : w5.cell? ⟨w.heap.size, 5, none⟩ = some (i64 rts) := blk_cell HX5.out 5
  have x7 : w5.cell? ⟨w.heap.size, 7, none⟩ = some (i64 q0) := blk_cell HX5.out 7
  have x8 : w5.cell? ⟨w.heap.size, 8, none⟩ = some (i64 q1) := blk_cell HX5.out 8
  have x9 : w5.cell? ⟨w.heap.size, 9, none⟩ = some (i64 q2) := blk_cell HX5.out 9
  have y0 : w5.cell? ⟨w.heap.size + 1, 0, none⟩ = some (i64 n) := blk_cell HY5.out 0
  have y1 : w5.cell? ⟨w.heap.size + 1, 1, none⟩ = some (i64 rts) := blk_cell HY5.out 1
  go_wp2_with fail
  refine (left0 _ env).mono ?_
  rintro e w6 ⟨rfl, hb⟩
  have HB6 : Hid (Below w.heap.size w (w6.alloc (.cells #[i64 0, i64 0, i64 0] 22))) := bel_then (bel_then HB5 hb) (below_one w6 _)
  have HX6 : Hid ((w6.alloc (.cells #[i64 0, i64 0, i64 0] 22)).heap[w.heap.size]? = some (.cells #[i64 what, i64 env, i64 kind, i64 n, i64 tt, i64 rts, .bool by_, i64 q0, i64 q1, i64 q2] 33)) := blk_alloc (blk_below HX5.out hb) _
  have HY6 : Hid ((w6.alloc (.cells #[i64 0, i64 0, i64 0] 22)).heap[w.heap.size + 1]? = some (hO n rts)) := blk_alloc (blk_below HY5.out hb) _
  clear hb HB5 HX5 HY5 x1 x2 x3 x4 x5 x7 x8 x9 y0 y1
  go_upto_region 9 with fail
  generalize w6.alloc (.cells #[i64 0, i64 0, i64 0] 22) = V6 at *
  generalize w6.heap.size = A6 at *
  have x1 : V6.cell? ⟨w.heap.size, 1, none⟩ = some (i64 env) := blk_cell HX6.out 1
  have x2 : V6.cell? ⟨w.heap.size, 2, none⟩ = some (i64 kind) := blk_cell HX6.out 2
  have x3 : V6.cell? ⟨w.heap.size, 3, none⟩ = some (i64 n) := blk_cell HX6.out 3
  have x4 : V6.cell? ⟨w.heap.size, 4, none⟩ = some (i64 tt) := blk_cell HX6.out 4
  have x5 : V6.cell? ⟨w.heap.size, 5, none⟩ = some (i64 rts) := blk_cell HX6.out 5
  have x7 : V6.cell? ⟨w.heap.size, 7, none⟩ = some (i64 q0) := blk_cell HX6.out 7
  have x8 : V6.cell? ⟨w.heap.size, 8, none⟩ = some (i64 q1) := blk_cell HX6.out 8
  have x9 : V6.cell? ⟨w.heap.size, 9, none⟩ = some (i64 q2) := blk_cell HX6.out 9
  have y0 : V6.cell? ⟨w.heap.size + 1, 0, none⟩ = some (i64 n) := blk_cell HY6.out 0
  have y1 : V6.cell? ⟨w.heap.size + 1, 1, none⟩ = some (i64 rts) := blk_cell HY6.out 1
  go_wp2_with fail
  refine (bclose_nil _ env).mono ?_
  rintro e w7 ⟨rfl, hb⟩
  have HB7 : Hid (Below w.heap.size w w7) := bel_then HB6 hb
  have HX7 : Hid (w7.heap[w.heap.size]? = some (.cells #[i64 what, i64 env, i64 kind, i64 n, i64 tt, i64 rts, .bool by_, i64 q0, i64 q1, i64 q2] 33)) := blk_below HX6.out hb
  have HY7 : Hid (w7.heap[w.heap.size + 1]? = some (hO n rts)) := blk_below HY6.out hb
  clear hb HB6 HX6 HY6 x1 x2 x3 x4 x5 x7 x8 x9 y0 y1
  have x1 : w7.cell? ⟨w.heap.size, 1, none⟩ = some (i64 env) := blk_cell HX7.out 1
  have x2 : w7.cell? ⟨w.heap.size, 2, none⟩ = some (i64 kind) := blk_cell HX7.out 2
  have x3 : w7.cell? ⟨w.heap.size, 3, none⟩ = some (i64 n) := blk_cell HX7.out 3
  have x4 : w7.cell? ⟨w.heap.size, 4, none⟩ = some (i64 tt) := blk_cell HX7.out 4
  have x5 : w7.cell? ⟨w.heap.size, 5, none⟩ = some (i64 rts) := blk_cell HX7.out 5
  have x7 : w7.cell? ⟨w.heap.size, 7, none⟩ = some (i64 q0) := blk_cell HX7.out 7
  have x8 : w7.cell? ⟨w.heap.size, 8, none⟩ = some (i64 q1) := blk_cell HX7.out 8
  have x9 : w7.cell? ⟨w.heap.size, 9, none⟩ = some (i64 q2) := blk_cell HX7.out 9
  have y0 : w7.cell? ⟨w.heap.size + 1, 0, none⟩ = some (i64 n) := blk_cell HY7.out 0
  have y1 : w7.cell? ⟨w.heap.size + 1, 1, none⟩ = some (i64 rts) := blk_cell HY7.out 1
  go_wp2_with fail
  refine (free0 _ env n rts).mono ?_
  rintro e w8 ⟨rfl, hb⟩
  have HB8 : Hid (Below w.heap.size w w8) := bel_then HB7 hb
  have HX8 : Hid (w8.heap[w.heap.size]? = some (.cells #[i64 what, i64 env, i64 kind, i64 n, i64 tt, i64 rts, .bool by_, i64 q0, i64 q1, i64 q2] 33)) := blk_below HX7.out hb
  have HY8 : Hid (w8.heap[w.heap.size + 1]? = some (hO n rts)) := blk_below HY7.out hb
  clear hb HB7 HX7 HY7 x1 x2 x3 x4 x5 x7 x8 x9 y0 y1
  have x1 : w8.cell? ⟨w.heap.size, 1, none⟩ = some (i64 env) := blk_cell HX8.out 1
  have x2 : w8.cell? ⟨w.heap.size, 2, none⟩ = some (i64 kind) := blk_cell HX8.out 2
  have x3 : w8.cell? ⟨w.heap.size, 3, none⟩ = some (i64 n) := blk_cell HX8.out 3
  have x4 : w8.cell? ⟨w.heap.size, 4, none⟩ = some (i64 tt) := blk_cell HX8.out 4
  have x5 : w8.cell? ⟨w.heap.size, 5, none⟩ = some (i64 rts) := blk_cell HX8.out 5
  have x7 : w8.cell? ⟨w.heap.size, 7, none⟩ = some (i64 q0) := blk_cell HX8.out 7
  have x8 : w8.cell? ⟨w.heap.size, 8, none⟩ = some (i64 q1) := blk_cell HX8.out 8
  have x9 : w8.cell? ⟨w.heap.size, 9, none⟩ = some (i64 q2) := blk_cell HX8.out 9
  have y0 : w8.cell? ⟨w.heap.size + 1, 0, none⟩ = some (i64 n) := blk_cell HY8.out 0
  have y1 : w8.cell? ⟨w.heap.size + 1, 1, none⟩ = some (i64 rts) := blk_cell HY8.out 1
  go_wp2_with fail
  refine (owner_nil _ kind n).mono ?_
  rintro e w9 ⟨rfl, hb⟩
  have HB9 : Hid (Below w.heap.size w w9) := bel_then HB8 hb
  have HX9 : Hid (w9.heap[w.heap.size]? = some (.cells #[i64 what, i64 env, i64 kind, i64 n, i64 tt, i64 rts, .bool by_, i64 q0, i64 q1, i64 q2] 33)) := blk_below HX8.out hb
  have HY9 : Hid (w9.heap[w.heap.size + 1]? = some (hO n rts)) := blk_below HY8.out hb
  clear hb HB8 HX8 HY8 x1 x2 x3 x4 x5 x7 x8 x9 y0 y1
  have x1 : w9.cell? ⟨w.heap.size, 1, none⟩ = some (i64 env) := blk_cell HX9.out 1
  have x2 : w9.cell? ⟨w.heap.size, 2, none⟩ = some (i64 kind) := blk_cell HX9.out 2
  have x3 : w9.cell? ⟨w.heap.size, 3, none⟩ = some (i64 n) := blk_cell HX9.out 3
  have x4 : w9.cell? ⟨w.heap.size, 4, none⟩ = some (i64 tt) := blk_cell HX9.out 4
  have x5 : w9.cell? ⟨w.heap.size, 5, none⟩ = some (i64 rts) := blk_cell HX9.out 5
  have x7 : w9.cell? ⟨w.heap.size, 7, none⟩ = some (i64 q0) := blk_cell HX9.out 7
  have x8 : w9.cell? ⟨w.heap.size, 8, none⟩ = some (i64 q1) := blk_cell HX9.out 8
  have x9 : w9.cell? ⟨w.heap.size, 9, none⟩ = some (i64 q2) := blk_cell HX9.out 9
  have y0 : w9.cell? ⟨w.heap.size + 1, 0, none⟩ = some (i64 n) := blk_cell HY9.out 0
  have y1 : w9.cell? ⟨w.heap.size + 1, 1, none⟩ = some (i64 rts) := blk_cell HY9.out 1
  go_wp2_with fail
  refine (root0 _ kind n).mono ?_
  rintro e w10 ⟨rfl, hb⟩
  have HB10 : Hid (Below w.heap.size w w10) := bel_then HB9 hb
  have HX10 : Hid (w10.heap[w.heap.size]? = some (.cells #[i64 what, i64 env, i64 kind, i64 n, i64 tt, i64 rts, .bool by_, i64 q0, i64 q1, i64 q2] 33)) := blk_below HX9.out hb
  have HY10 : Hid (w10.heap[w.heap.size + 1]? = some (hO n rts)) := blk_below HY9.out hb
  clear hb HB9 HX9 HY9 x1 x2 x3 x4 x5 x7 x8 x9 y0 y1
  have x1 : w10.cell? ⟨w.heap.size, 1, none⟩ = some (i64 env) := blk_cell HX10.out 1
  have x2 : w10.cell? ⟨w.heap.size, 2, none⟩ = some (i64 kind) := blk_cell HX10.out 2
  have x3 : w10.cell? ⟨w.heap.size, 3, none⟩ = some (i64 n) := blk_cell HX10.out 3
  have x4 : w10.cell? ⟨w.heap.size, 4, none⟩ = some (i64 tt) := blk_cell HX10.out 4
  have x5 : w10.cell? ⟨w.heap.size, 5, none⟩ = some (i64 rts) := blk_cell HX10.out 5
  have x7 : w10.cell? ⟨w.heap.size, 7, none⟩ = some (i64 q0) := blk_cell HX10.out 7
  have x8 : w10.cell? ⟨w.heap.size, 8, none⟩ = some (i64 q1) := blk_cell HX10.out 8
  have x9 : w10.cell? ⟨w.heap.size, 9, none⟩ = some (i64 q2) := blk_cell HX10.out 9
  have y0 : w10.cell? ⟨w.heap.size + 1, 0, none⟩ = some (i64 n) := blk_cell HY10.out 0
  have y1 : w10.cell? ⟨w.heap.size + 1, 1, none⟩ = some (i64 rts) := blk_cell HY10.out 1
  have hq : (Op.equalIn 10000 43 (.agg #[i64 0, i64 0]) (.agg #[i64 0, i64 0])).run Try.prog w10 = .ok true w10 := eql (0, 0) (0, 0) w10
  go_wp2_with fail
  refine (list_nil _ env kind).mono ?_
  rintro e w11 ⟨rfl, hb⟩
  have HB11 : Hid (Below w.heap.size w w11) := bel_then HB10 hb
  have HX11 : Hid (w11.heap[w.heap.size]? = some (.cells #[i64 what, i64 env, i64 kind, i64 n, i64 tt, i64 rts, .bool by_, i64 q0, i64 q1, i64 q2] 33)) := blk_below HX10.out hb
  have HY11 : Hid (w11.heap[w.heap.size + 1]? = some (hO n rts)) := blk_below HY10.out hb
  clear hq hb HB10 HX10 HY10 x1 x2 x3 x4 x5 x7 x8 x9 y0 y1
  have x1 : w11.cell? ⟨w.heap.size, 1, none⟩ = some (i64 env) := blk_cell HX11.out 1
  have x2 : w11.cell? ⟨w.heap.size, 2, none⟩ = some (i64 kind) := blk_cell HX11.out 2
  have x3 : w11.cell? ⟨w.heap.size, 3, none⟩ = some (i64 n) := blk_cell HX11.out 3
  have x4 : w11.cell? ⟨w.heap.size, 4, none⟩ = some (i64 tt) := blk_cell HX11.out 4
  have x5 : w11.cell? ⟨w.heap.size, 5, none⟩ = some (i64 rts) := blk_cell HX11.out 5
  have x7 : w11.cell? ⟨w.heap.size, 7, none⟩ = some (i64 q0) := blk_cell HX11.out 7
  have x8 : w11.cell? ⟨w.heap.size, 8, none⟩ = some (i64 q1) := blk_cell HX11.out 8
  have x9 : w11.cell? ⟨w.heap.size, 9, none⟩ = some (i64 q2) := blk_cell HX11.out 9
  have y0 : w11.cell? ⟨w.heap.size + 1, 0, none⟩ = some (i64 n) := blk_cell HY11.out 0
  have y1 : w11.cell? ⟨w.heap.size + 1, 1, none⟩ = some (i64 rts) := blk_cell HY11.out 1
  go_wp2_with fail
  refine (spare0 _).mono ?_
  rintro e w12 ⟨rfl, hb⟩
  have HB12 : Hid (Below w.heap.size w w12) := bel_then HB11 hb
  have HX12 : Hid (w12.heap[w.heap.size]? = some (.cells #[i64 what, i64 env, i64 kind, i64 n, i64 tt, i64 rts, .bool by_, i64 q0, i64 q1, i64 q2] 33)) := blk_below HX11.out hb
  have HY12 : Hid (w12.heap[w.heap.size + 1]? = some (hO n rts)) := blk_below HY11.out hb
  clear hb HB11 HX11 HY11 x1 x2 x3 x4 x5 x7 x8 x9 y0 y1
  have x1 : w12.cell? ⟨w.heap.size, 1, none⟩ = some (i64 env) := blk_cell HX12.out 1
  have x2 : w12.cell? ⟨w.heap.size, 2, none⟩ = some (i64 kind) := blk_cell HX12.out 2
  have x3 : w12.cell? ⟨w.heap.size, 3, none⟩ = some (i64 n) := blk_cell HX12.out 3
  have x4 : w12.cell? ⟨w.heap.size, 4, none⟩ = some (i64 tt) := blk_cell HX12.out 4
  have x5 : w12.cell? ⟨w.heap.size, 5, none⟩ = some (i64 rts) := blk_cell HX12.out 5
  have x7 : w12.cell? ⟨w.heap.size, 7, none⟩ = some (i64 q0) := blk_cell HX12.out 7
  have x8 : w12.cell? ⟨w.heap.size, 8, none⟩ = some (i64 q1) := blk_cell HX12.out 8
  have x9 : w12.cell? ⟨w.heap.size, 9, none⟩ = some (i64 q2) := blk_cell HX12.out 9
  have y0 : w12.cell? ⟨w.heap.size + 1, 0, none⟩ = some (i64 n) := blk_cell HY12.out 0
  have y1 : w12.cell? ⟨w.heap.size + 1, 1, none⟩ = some (i64 rts) := blk_cell HY12.out 1
  have hq : (Op.equalIn 10000 22 (.agg #[i64 0, i64 0, i64 0]) (.agg #[i64 0, i64 0, i64 0])).run Try.prog w12 = .ok true w12 := Qt.eqIn22 9998 ⟨0, 0, 0⟩ ⟨0, 0, 0⟩ w12
  go_wp2_with fail
  refine (paid_nil _ env).mono ?_
  rintro e w13 ⟨rfl, hb⟩
  have HB13 : Hid (Below w.heap.size w w13) := bel_then HB12 hb
  have HX13 : Hid (w13.heap[w.heap.size]? = some (.cells #[i64 what, i64 env, i64 kind, i64 n, i64 tt, i64 rts, .bool by_, i64 q0, i64 q1, i64 q2] 33)) := blk_below HX12.out hb
  have HY13 : Hid (w13.heap[w.heap.size + 1]? = some (hO n rts)) := blk_below HY12.out hb
  clear hq hb HB12 HX12 HY12 x1 x2 x3 x4 x5 x7 x8 x9 y0 y1
  go_wp2_with fail
  refine (frame_ok _).mono ?_
  rintro e w14 ⟨rfl, hb⟩
  have HB14 : Hid (Below w.heap.size w w14) := bel_then HB13 hb
  clear hb
  go_wp2_with fail
  go_ret
  exact ⟨rfl, HB14.out⟩
set_option maxRecDepth 100000 in
set_option maxHeartbeats 6400000 in
theorem nil_b (w : World) (what env kind n tt rts q0 q1 q2 : Int) (by_ : Bool) (h1 : ¬ env < 1) (h2 : 3 < env) (hX : (if badB env ⟨q0, q1, q2⟩ = true then (1 : Int) else 7) = 1) : Calls Try.prog 7 #[.agg #[i64 what, i64 env, i64 kind, i64 n, i64 tt, i64 rts, .bool by_, i64 q0, i64 q1, i64 q2]] w fun e w' => e = .returned (.bool true) ∧ Below w.heap.size w w' := by
  have HO : Hid (∀ W, Calls Try.prog 18 #[.pointer none, i64 env, .agg #[i64 q0, i64 q1, i64 q2]] W fun e w' => e = .returned (i64 1) ∧ Below W.heap.size W w') := fun W => open0 W env q0 q1 q2 1 hX
  have HB0 := bel_two w (.cells #[i64 what, i64 env, i64 kind, i64 n, i64 tt, i64 rts, .bool by_, i64 q0, i64 q1, i64 q2] 33) (.cells #[i64 n, i64 rts] 43)
  have HX0 : Hid (((w.alloc (.cells #[i64 what, i64 env, i64 kind, i64 n, i64 tt, i64 rts, .bool by_, i64 q0, i64 q1, i64 q2] 33)).alloc (.cells #[i64 n, i64 rts] 43)).heap[w.heap.size]? = some (.cells #[i64 what, i64 env, i64 kind, i64 n, i64 tt, i64 rts, .bool by_, i64 q0, i64 q1, i64 q2] 33)) := blk_alloc (heap_last w _) _
  have HY0 : Hid (((w.alloc (.cells #[i64 what, i64 env, i64 kind, i64 n, i64 tt, i64 rts, .bool by_, i64 q0, i64 q1, i64 q2] 33)).alloc (.cells #[i64 n, i64 rts] 43)).heap[w.heap.size + 1]? = some (hO n rts)) := by
    have := heap_last (w.alloc (.cells #[i64 what, i64 env, i64 kind, i64 n, i64 tt, i64 rts, .bool by_, i64 q0, i64 q1, i64 q2] 33)) (hO n rts)
    rwa [show (w.alloc (.cells #[i64 what, i64 env, i64 kind, i64 n, i64 tt, i64 rts, .bool by_, i64 q0, i64 q1, i64 q2] 33)).heap.size = w.heap.size + 1 by simp] at this
  clear hX
  go_enter Try.func7, Try.ntmps7
  go_upto_region 3 with fail
  generalize (w.alloc (.cells #[i64 what, i64 env, i64 kind, i64 n, i64 tt, i64 rts, .bool by_, i64 q0, i64 q1, i64 q2] 33)).alloc (.cells #[i64 n, i64 rts] 43) = w0 at *
  have x1 : w0.cell? ⟨w.heap.size, 1, none⟩ = some (i64 env) := blk_cell HX0.out 1
  have x2 : w0.cell? ⟨w.heap.size, 2, none⟩ = some (i64 kind) := blk_cell HX0.out 2
  have x3 : w0.cell? ⟨w.heap.size, 3, none⟩ = some (i64 n) := blk_cell HX0.out 3
  have x4 : w0.cell? ⟨w.heap.size, 4, none⟩ = some (i64 tt) := blk_cell HX0.out 4
  have x5 : w0.cell? ⟨w.heap.size, 5, none⟩ = some (i64 rts) := blk_cell HX0.out 5
  have x7 : w0.cell? ⟨w.heap.size, 7, none⟩ = some (i64 q0) := blk_cell HX0.out 7
  have x8 : w0.cell? ⟨w.heap.size, 8, none⟩ = some (i64 q1) := blk_cell HX0.out 8
  have x9 : w0.cell? ⟨w.heap.size, 9, none⟩ = some (i64 q2) := blk_cell HX0.out 9
  have y0 : w0.cell? ⟨w.heap.size + 1, 0, none⟩ = some (i64 n) := blk_cell HY0.out 0
  have y1 : w0.cell? ⟨w.heap.size + 1, 1, none⟩ = some (i64 rts) := blk_cell HY0.out 1
  go_wp2_with fail
  refine (HO.out _).mono ?_
  rintro e w1 ⟨rfl, hb⟩
  have HB1 : Hid (Below w.heap.size w w1) := bel_then HB0 hb
  have HX1 : Hid (w1.heap[w.heap.size]? = some (.cells #[i64 what, i64 env, i64 kind, i64 n, i64 tt, i64 rts, .bool by_, i64 q0, i64 q1, i64 q2] 33)) := blk_below HX0.out hb
  have HY1 : Hid (w1.heap[w.heap.size + 1]? = some (hO n rts)) := blk_below HY0.out hb
  clear hb HB0 HX0 HY0 x1 x2 x3 x4 x5 x7 x8 x9 y0 y1
  have x1 : w1.cell? ⟨w.heap.size, 1, none⟩ = some (i64 env) := blk_cell HX1.out 1
  have x2 : w1.cell? ⟨w.heap.size, 2, none⟩ = some (i64 kind) := blk_cell HX1.out 2
  have x3 : w1.cell? ⟨w.heap.size, 3, none⟩ = some (i64 n) := blk_cell HX1.out 3
  have x4 : w1.cell? ⟨w.heap.size, 4, none⟩ = some (i64 tt) := blk_cell HX1.out 4
  have x5 : w1.cell? ⟨w.heap.size, 5, none⟩ = some (i64 rts) := blk_cell HX1.out 5
  have x7 : w1.cell? ⟨w.heap.size, 7, none⟩ = some (i64 q0) := blk_cell HX1.out 7
  have x8 : w1.cell? ⟨w.heap.size, 8, none⟩ = some (i64 q1) := blk_cell HX1.out 8
  have x9 : w1.cell? ⟨w.heap.size, 9, none⟩ = some (i64 q2) := blk_cell HX1.out 9
  have y0 : w1.cell? ⟨w.heap.size + 1, 0, none⟩ = some (i64 n) := blk_cell HY1.out 0
  have y1 : w1.cell? ⟨w.heap.size + 1, 1, none⟩ = some (i64 rts) := blk_cell HY1.out 1
  go_wp2_with fail
  refine (bind0 _ env kind).mono ?_
  rintro e w2 ⟨rfl, hb⟩
  have HB2 : Hid (Below w.heap.size w (w2.alloc (.cells #[i64 0, i64 0] 43))) := bel_then (bel_then HB1 hb) (below_one w2 _)
  have HX2 : Hid ((w2.alloc (.cells #[i64 0, i64 0] 43)).heap[w.heap.size]? = some (.cells #[i64 what, i64 env, i64 kind, i64 n, i64 tt, i64 rts, .bool by_, i64 q0, i64 q1, i64 q2] 33)) := blk_alloc (blk_below HX1.out hb) _
  have HY2 : Hid ((w2.alloc (.cells #[i64 0, i64 0] 43)).heap[w.heap.size + 1]? = some (hO n rts)) := blk_alloc (blk_below HY1.out hb) _
  clear hb HB1 HX1 HY1 x1 x2 x3 x4 x5 x7 x8 x9 y0 y1
  go_upto_region 5 with fail
  generalize w2.alloc (.cells #[i64 0, i64 0] 43) = V2 at *
  generalize w2.heap.size = A2 at *
  have x1 : V2.cell? ⟨w.heap.size, 1, none⟩ = some (i64 env) := blk_cell HX2.out 1
  have x2 : V2.cell? ⟨w.heap.size, 2, none⟩ = some (i64 kind) := blk_cell HX2.out 2
  have x3 : V2.cell? ⟨w.heap.size, 3, none⟩ = some (i64 n) := blk_cell HX2.out 3
  have x4 : V2.cell? ⟨w.heap.size, 4, none⟩ = some (i64 tt) := blk_cell HX2.out 4
  have x5 : V2.cell? ⟨w.heap.size, 5, none⟩ = some (i64 rts) := blk_cell HX2.out 5
  have x7 : V2.cell? ⟨w.heap.size, 7, none⟩ = some (i64 q0) := blk_cell HX2.out 7
  have x8 : V2.cell? ⟨w.heap.size, 8, none⟩ = some (i64 q1) := blk_cell HX2.out 8
  have x9 : V2.cell? ⟨w.heap.size, 9, none⟩ = some (i64 q2) := blk_cell HX2.out 9
  have y0 : V2.cell? ⟨w.heap.size + 1, 0, none⟩ = some (i64 n) := blk_cell HY2.out 0
  have y1 : V2.cell? ⟨w.heap.size + 1, 1, none⟩ = some (i64 rts) := blk_cell HY2.out 1
  go_wp2_with fail
  refine (share0 _ env n rts tt rts).mono ?_
  rintro e w3 ⟨rfl, hb⟩
  have HB3 : Hid (Below w.heap.size w (w3.alloc (.cells #[i64 0, i64 0] 43))) := bel_then (bel_then HB2 hb) (below_one w3 _)
  have HX3 : Hid ((w3.alloc (.cells #[i64 0, i64 0] 43)).heap[w.heap.size]? = some (.cells #[i64 what, i64 env, i64 kind, i64 n, i64 tt, i64 rts, .bool by_, i64 q0, i64 q1, i64 q2] 33)) := blk_alloc (blk_below HX2.out hb) _
  have HY3 : Hid ((w3.alloc (.cells #[i64 0, i64 0] 43)).heap[w.heap.size + 1]? = some (hO n rts)) := blk_alloc (blk_below HY2.out hb) _
  clear hb HB2 HX2 HY2 x1 x2 x3 x4 x5 x7 x8 x9 y0 y1
  go_upto_region 6 with fail
  generalize w3.alloc (.cells #[i64 0, i64 0] 43) = V3 at *
  generalize w3.heap.size = A3 at *
  have x1 : V3.cell? ⟨w.heap.size, 1, none⟩ = some (i64 env) := blk_cell HX3.out 1
  have x2 : V3.cell? ⟨w.heap.size, 2, none⟩ = some (i64 kind) := blk_cell HX3.out 2
  have x3 : V3.cell? ⟨w.heap.size, 3, none⟩ = some (i64 n) := blk_cell HX3.out 3
  have x4 : V3.cell? ⟨w.heap.size, 4, none⟩ = some (i64 tt) := blk_cell HX3.out 4
  have x5 : V3.cell? ⟨w.heap.size, 5, none⟩ = some (i64 rts) := blk_cell HX3.out 5
  have x7 : V3.cell? ⟨w.heap.size, 7, none⟩ = some (i64 q0) := blk_cell HX3.out 7
  have x8 : V3.cell? ⟨w.heap.size, 8, none⟩ = some (i64 q1) := blk_cell HX3.out 8
  have x9 : V3.cell? ⟨w.heap.size, 9, none⟩ = some (i64 q2) := blk_cell HX3.out 9
  have y0 : V3.cell? ⟨w.heap.size + 1, 0, none⟩ = some (i64 n) := blk_cell HY3.out 0
  have y1 : V3.cell? ⟨w.heap.size + 1, 1, none⟩ = some (i64 rts) := blk_cell HY3.out 1
  go_wp2_with fail
  refine (brevoke_nil _ env n rts).mono ?_
  rintro e w4 ⟨rfl, hb⟩
  have HB4 : Hid (Below w.heap.size w w4) := bel_then HB3 hb
  have HX4 : Hid (w4.heap[w.heap.size]? = some (.cells #[i64 what, i64 env, i64 kind, i64 n, i64 tt, i64 rts, .bool by_, i64 q0, i64 q1, i64 q2] 33)) := blk_below HX3.out hb
  have HY4 : Hid (w4.heap[w.heap.size + 1]? = some (hO n rts)) := blk_below HY3.out hb
  clear hb HB3 HX3 HY3 x1 x2 x3 x4 x5 x7 x8 x9 y0 y1
  have x1 : w4.cell? ⟨w.heap.size, 1, none⟩ = some (i64 env) := blk_cell HX4.out 1
  have x2 : w4.cell? ⟨w.heap.size, 2, none⟩ = some (i64 kind) := blk_cell HX4.out 2
  have x3 : w4.cell? ⟨w.heap.size, 3, none⟩ = some (i64 n) := blk_cell HX4.out 3
  have x4 : w4.cell? ⟨w.heap.size, 4, none⟩ = some (i64 tt) := blk_cell HX4.out 4
  have x5 : w4.cell? ⟨w.heap.size, 5, none⟩ = some (i64 rts) := blk_cell HX4.out 5
  have x7 : w4.cell? ⟨w.heap.size, 7, none⟩ = some (i64 q0) := blk_cell HX4.out 7
  have x8 : w4.cell? ⟨w.heap.size, 8, none⟩ = some (i64 q1) := blk_cell HX4.out 8
  have x9 : w4.cell? ⟨w.heap.size, 9, none⟩ = some (i64 q2) := blk_cell HX4.out 9
  have y0 : w4.cell? ⟨w.heap.size + 1, 0, none⟩ = some (i64 n) := blk_cell HY4.out 0
  have y1 : w4.cell? ⟨w.heap.size + 1, 1, none⟩ = some (i64 rts) := blk_cell HY4.out 1
  go_wp2_with fail
  refine (number0 _ env n rts kind).mono ?_
  rintro e w5 ⟨rfl, hb⟩
  have HB5 : Hid (Below w.heap.size w w5) := bel_then HB4 hb
  have HX5 : Hid (w5.heap[w.heap.size]? = some (.cells #[i64 what, i64 env, i64 kind, i64 n, i64 tt, i64 rts, .bool by_, i64 q0, i64 q1, i64 q2] 33)) := blk_below HX4.out hb
  have HY5 : Hid (w5.heap[w.heap.size + 1]? = some (hO n rts)) := blk_below HY4.out hb
  clear hb HB4 HX4 HY4 x1 x2 x3 x4 x5 x7 x8 x9 y0 y1
  have x1 : w5.cell? ⟨w.heap.size, 1, none⟩ = some (i64 env) := blk_cell HX5.out 1
  have x2 : w5.cell? ⟨w.heap.size, 2, none⟩ = some (i64 kind) := blk_cell HX5.out 2
  have x3 : w5.cell? ⟨w.heap.size, 3, none⟩ = some (i64 n) := blk_cell HX5.out 3
  have x4 : w5.cell? ⟨w.heap.size, 4, none⟩ = some (i64 tt) := blk_cell HX5.out 4
  have x5 : w5.cell? ⟨w.heap.size, 5, none⟩ = some (i64 rts) := blk_cell HX5.out 5
  have x7 : w5.cell? ⟨w.heap.size, 7, none⟩ = some (i64 q0) := blk_cell HX5.out 7
  have x8 : w5.cell? ⟨w.heap.size, 8, none⟩ = some (i64 q1) := blk_cell HX5.out 8
  have x9 : w5.cell? ⟨w.heap.size, 9, none⟩ = some (i64 q2) := blk_cell HX5.out 9
  have y0 : w5.cell? ⟨w.heap.size + 1, 0, none⟩ = some (i64 n) := blk_cell HY5.out 0
  have y1 : w5.cell? ⟨w.heap.size + 1, 1, none⟩ = some (i64 rts) := blk_cell HY5.out 1
  go_wp2_with fail
  refine (left0 _ env).mono ?_
  rintro e w6 ⟨rfl, hb⟩
  have HB6 : Hid (Below w.heap.size w (w6.alloc (.cells #[i64 0, i64 0, i64 0] 22))) := bel_then (bel_then HB5 hb) (below_one w6 _)
  have HX6 : Hid ((w6.alloc (.cells #[i64 0, i64 0, i64 0] 22)).heap[w.heap.size]? = some (.cells #[i64 what, i64 env, i64 kind, i64 n, i64 tt, i64 rts, .bool by_, i64 q0, i64 q1, i64 q2] 33)) := blk_alloc (blk_below HX5.out hb) _
  have HY6 : Hid ((w6.alloc (.cells #[i64 0, i64 0, i64 0] 22)).heap[w.heap.size + 1]? = some (hO n rts)) := blk_alloc (blk_below HY5.out hb) _
  clear hb HB5 HX5 HY5 x1 x2 x3 x4 x5 x7 x8 x9 y0 y1
  go_upto_region 9 with fail
  generalize w6.alloc (.cells #[i64 0, i64 0, i64 0] 22) = V6 at *
  generalize w6.heap.size = A6 at *
  have x1 : V6.cell? ⟨w.heap.size, 1, none⟩ = some (i64 env) := blk_cell HX6.out 1
  have x2 : V6.cell? ⟨w.heap.size, 2, none⟩ = some (i64 kind) := blk_cell HX6.out 2
  have x3 : V6.cell? ⟨w.heap.size, 3, none⟩ = some (i64 n) := blk_cell HX6.out 3
  have x4 : V6.cell? ⟨w.heap.size, 4, none⟩ = some (i64 tt) := blk_cell HX6.out 4
  have x5 : V6.cell? ⟨w.heap.size, 5, none⟩ = some (i64 rts) := blk_cell HX6.out 5
  have x7 : V6.cell? ⟨w.heap.size, 7, none⟩ = some (i64 q0) := blk_cell HX6.out 7
  have x8 : V6.cell? ⟨w.heap.size, 8, none⟩ = some (i64 q1) := blk_cell HX6.out 8
  have x9 : V6.cell? ⟨w.heap.size, 9, none⟩ = some (i64 q2) := blk_cell HX6.out 9
  have y0 : V6.cell? ⟨w.heap.size + 1, 0, none⟩ = some (i64 n) := blk_cell HY6.out 0
  have y1 : V6.cell? ⟨w.heap.size + 1, 1, none⟩ = some (i64 rts) := blk_cell HY6.out 1
  go_wp2_with fail
  refine (bclose_nil _ env).mono ?_
  rintro e w7 ⟨rfl, hb⟩
  have HB7 : Hid (Below w.heap.size w w7) := bel_then HB6 hb
  have HX7 : Hid (w7.heap[w.heap.size]? = some (.cells #[i64 what, i64 env, i64 kind, i64 n, i64 tt, i64 rts, .bool by_, i64 q0, i64 q1, i64 q2] 33)) := blk_below HX6.out hb
  have HY7 : Hid (w7.heap[w.heap.size + 1]? = some (hO n rts)) := blk_below HY6.out hb
  clear hb HB6 HX6 HY6 x1 x2 x3 x4 x5 x7 x8 x9 y0 y1
  have x1 : w7.cell? ⟨w.heap.size, 1, none⟩ = some (i64 env) := blk_cell HX7.out 1
  have x2 : w7.cell? ⟨w.heap.size, 2, none⟩ = some (i64 kind) := blk_cell HX7.out 2
  have x3 : w7.cell? ⟨w.heap.size, 3, none⟩ = some (i64 n) := blk_cell HX7.out 3
  have x4 : w7.cell? ⟨w.heap.size, 4, none⟩ = some (i64 tt) := blk_cell HX7.out 4
  have x5 : w7.cell? ⟨w.heap.size, 5, none⟩ = some (i64 rts) := blk_cell HX7.out 5
  have x7 : w7.cell? ⟨w.heap.size, 7, none⟩ = some (i64 q0) := blk_cell HX7.out 7
  have x8 : w7.cell? ⟨w.heap.size, 8, none⟩ = some (i64 q1) := blk_cell HX7.out 8
  have x9 : w7.cell? ⟨w.heap.size, 9, none⟩ = some (i64 q2) := blk_cell HX7.out 9
  have y0 : w7.cell? ⟨w.heap.size + 1, 0, none⟩ = some (i64 n) := blk_cell HY7.out 0
  have y1 : w7.cell? ⟨w.heap.size + 1, 1, none⟩ = some (i64 rts) := blk_cell HY7.out 1
  go_wp2_with fail
  refine (free0 _ env n rts).mono ?_
  rintro e w8 ⟨rfl, hb⟩
  have HB8 : Hid (Below w.heap.size w w8) := bel_then HB7 hb
  have HX8 : Hid (w8.heap[w.heap.size]? = some (.cells #[i64 what, i64 env, i64 kind, i64 n, i64 tt, i64 rts, .bool by_, i64 q0, i64 q1, i64 q2] 33)) := blk_below HX7.out hb
  have HY8 : Hid (w8.heap[w.heap.size + 1]? = some (hO n rts)) := blk_below HY7.out hb
  clear hb HB7 HX7 HY7 x1 x2 x3 x4 x5 x7 x8 x9 y0 y1
  have x1 : w8.cell? ⟨w.heap.size, 1, none⟩ = some (i64 env) := blk_cell HX8.out 1
  have x2 : w8.cell? ⟨w.heap.size, 2, none⟩ = some (i64 kind) := blk_cell HX8.out 2
  have x3 : w8.cell? ⟨w.heap.size, 3, none⟩ = some (i64 n) := blk_cell HX8.out 3
  have x4 : w8.cell? ⟨w.heap.size, 4, none⟩ = some (i64 tt) := blk_cell HX8.out 4
  have x5 : w8.cell? ⟨w.heap.size, 5, none⟩ = some (i64 rts) := blk_cell HX8.out 5
  have x7 : w8.cell? ⟨w.heap.size, 7, none⟩ = some (i64 q0) := blk_cell HX8.out 7
  have x8 : w8.cell? ⟨w.heap.size, 8, none⟩ = some (i64 q1) := blk_cell HX8.out 8
  have x9 : w8.cell? ⟨w.heap.size, 9, none⟩ = some (i64 q2) := blk_cell HX8.out 9
  have y0 : w8.cell? ⟨w.heap.size + 1, 0, none⟩ = some (i64 n) := blk_cell HY8.out 0
  have y1 : w8.cell? ⟨w.heap.size + 1, 1, none⟩ = some (i64 rts) := blk_cell HY8.out 1
  go_wp2_with fail
  refine (owner_nil _ kind n).mono ?_
  rintro e w9 ⟨rfl, hb⟩
  have HB9 : Hid (Below w.heap.size w w9) := bel_then HB8 hb
  have HX9 : Hid (w9.heap[w.heap.size]? = some (.cells #[i64 what, i64 env, i64 kind, i64 n, i64 tt, i64 rts, .bool by_, i64 q0, i64 q1, i64 q2] 33)) := blk_below HX8.out hb
  have HY9 : Hid (w9.heap[w.heap.size + 1]? = some (hO n rts)) := blk_below HY8.out hb
  clear hb HB8 HX8 HY8 x1 x2 x3 x4 x5 x7 x8 x9 y0 y1
  have x1 : w9.cell? ⟨w.heap.size, 1, none⟩ = some (i64 env) := blk_cell HX9.out 1
  have x2 : w9.cell? ⟨w.heap.size, 2, none⟩ = some (i64 kind) := blk_cell HX9.out 2
  have x3 : w9.cell? ⟨w.heap.size, 3, none⟩ = some (i64 n) := blk_cell HX9.out 3
  have x4 : w9.cell? ⟨w.heap.size, 4, none⟩ = some (i64 tt) := blk_cell HX9.out 4
  have x5 : w9.cell? ⟨w.heap.size, 5, none⟩ = some (i64 rts) := blk_cell HX9.out 5
  have x7 : w9.cell? ⟨w.heap.size, 7, none⟩ = some (i64 q0) := blk_cell HX9.out 7
  have x8 : w9.cell? ⟨w.heap.size, 8, none⟩ = some (i64 q1) := blk_cell HX9.out 8
  have x9 : w9.cell? ⟨w.heap.size, 9, none⟩ = some (i64 q2) := blk_cell HX9.out 9
  have y0 : w9.cell? ⟨w.heap.size + 1, 0, none⟩ = some (i64 n) := blk_cell HY9.out 0
  have y1 : w9.cell? ⟨w.heap.size + 1, 1, none⟩ = some (i64 rts) := blk_cell HY9.out 1
  go_wp2_with fail
  refine (root0 _ kind n).mono ?_
  rintro e w10 ⟨rfl, hb⟩
  have HB10 : Hid (Below w.heap.size w w10) := bel_then HB9 hb
  have HX10 : Hid (w10.heap[w.heap.size]? = some (.cells #[i64 what, i64 env, i64 kind, i64 n, i64 tt, i64 rts, .bool by_, i64 q0, i64 q1, i64 q2] 33)) := blk_below HX9.out hb
  have HY10 : Hid (w10.heap[w.heap.size + 1]? = some (hO n rts)) := blk_below HY9.out hb
  clear hb HB9 HX9 HY9 x1 x2 x3 x4 x5 x7 x8 x9 y0 y1
  have x1 : w10.cell? ⟨w.heap.size, 1, none⟩ = some (i64 env) := blk_cell HX10.out 1
  have x2 : w10.cell? ⟨w.heap.size, 2, none⟩ = some (i64 kind) := blk_cell HX10.out 2
  have x3 : w10.cell? ⟨w.heap.size, 3, none⟩ = some (i64 n) := blk_cell HX10.out 3
  have x4 : w10.cell? ⟨w.heap.size, 4, none⟩ = some (i64 tt) := blk_cell HX10.out 4
  have x5 : w10.cell? ⟨w.heap.size, 5, none⟩ = some (i64 rts) := blk_cell HX10.out 5
  have x7 : w10.cell? ⟨w.heap.size, 7, none⟩ = some (i64 q0) := blk_cell HX10.out 7
  have x8 : w10.cell? ⟨w.heap.size, 8, none⟩ = some (i64 q1) := blk_cell HX10.out 8
  have x9 : w10.cell? ⟨w.heap.size, 9, none⟩ = some (i64 q2) := blk_cell HX10.out 9
  have y0 : w10.cell? ⟨w.heap.size + 1, 0, none⟩ = some (i64 n) := blk_cell HY10.out 0
  have y1 : w10.cell? ⟨w.heap.size + 1, 1, none⟩ = some (i64 rts) := blk_cell HY10.out 1
  have hq : (Op.equalIn 10000 43 (.agg #[i64 0, i64 0]) (.agg #[i64 0, i64 0])).run Try.prog w10 = .ok true w10 := eql (0, 0) (0, 0) w10
  go_wp2_with fail
  refine (list_nil _ env kind).mono ?_
  rintro e w11 ⟨rfl, hb⟩
  have HB11 : Hid (Below w.heap.size w w11) := bel_then HB10 hb
  have HX11 : Hid (w11.heap[w.heap.size]? = some (.cells #[i64 what, i64 env, i64 kind, i64 n, i64 tt, i64 rts, .bool by_, i64 q0, i64 q1, i64 q2] 33)) := blk_below HX10.out hb
  have HY11 : Hid (w11.heap[w.heap.size + 1]? = some (hO n rts)) := blk_below HY10.out hb
  clear hq hb HB10 HX10 HY10 x1 x2 x3 x4 x5 x7 x8 x9 y0 y1
  have x1 : w11.cell? ⟨w.heap.size, 1, none⟩ = some (i64 env) := blk_cell HX11.out 1
  have x2 : w11.cell? ⟨w.heap.size, 2, none⟩ = some (i64 kind) := blk_cell HX11.out 2
  have x3 : w11.cell? ⟨w.heap.size, 3, none⟩ = some (i64 n) := blk_cell HX11.out 3
  have x4 : w11.cell? ⟨w.heap.size, 4, none⟩ = some (i64 tt) := blk_cell HX11.out 4
  have x5 : w11.cell? ⟨w.heap.size, 5, none⟩ = some (i64 rts) := blk_cell HX11.out 5
  have x7 : w11.cell? ⟨w.heap.size, 7, none⟩ = some (i64 q0) := blk_cell HX11.out 7
  have x8 : w11.cell? ⟨w.heap.size, 8, none⟩ = some (i64 q1) := blk_cell HX11.out 8
  have x9 : w11.cell? ⟨w.heap.size, 9, none⟩ = some (i64 q2) := blk_cell HX11.out 9
  have y0 : w11.cell? ⟨w.heap.size + 1, 0, none⟩ = some (i64 n) := blk_cell HY11.out 0
  have y1 : w11.cell? ⟨w.heap.size + 1, 1, none⟩ = some (i64 rts) := blk_cell HY11.out 1
  go_wp2_with fail
  refine (spare0 _).mono ?_
  rintro e w12 ⟨rfl, hb⟩
  have HB12 : Hid (Below w.heap.size w w12) := bel_then HB11 hb
  have HX12 : Hid (w12.heap[w.heap.size]? = some (.cells #[i64 what, i64 env, i64 kind, i64 n, i64 tt, i64 rts, .bool by_, i64 q0, i64 q1, i64 q2] 33)) := blk_below HX11.out hb
  have HY12 : Hid (w12.heap[w.heap.size + 1]? = some (hO n rts)) := blk_below HY11.out hb
  clear hb HB11 HX11 HY11 x1 x2 x3 x4 x5 x7 x8 x9 y0 y1
  have x1 : w12.cell? ⟨w.heap.size, 1, none⟩ = some (i64 env) := blk_cell HX12.out 1
  have x2 : w12.cell? ⟨w.heap.size, 2, none⟩ = some (i64 kind) := blk_cell HX12.out 2
  have x3 : w12.cell? ⟨w.heap.size, 3, none⟩ = some (i64 n) := blk_cell HX12.out 3
  have x4 : w12.cell? ⟨w.heap.size, 4, none⟩ = some (i64 tt) := blk_cell HX12.out 4
  have x5 : w12.cell? ⟨w.heap.size, 5, none⟩ = some (i64 rts) := blk_cell HX12.out 5
  have x7 : w12.cell? ⟨w.heap.size, 7, none⟩ = some (i64 q0) := blk_cell HX12.out 7
  have x8 : w12.cell? ⟨w.heap.size, 8, none⟩ = some (i64 q1) := blk_cell HX12.out 8
  have x9 : w12.cell? ⟨w.heap.size, 9, none⟩ = some (i64 q2) := blk_cell HX12.out 9
  have y0 : w12.cell? ⟨w.heap.size + 1, 0, none⟩ = some (i64 n) := blk_cell HY12.out 0
  have y1 : w12.cell? ⟨w.heap.size + 1, 1, none⟩ = some (i64 rts) := blk_cell HY12.out 1
  have hq : (Op.equalIn 10000 22 (.agg #[i64 0, i64 0, i64 0]) (.agg #[i64 0, i64 0, i64 0])).run Try.prog w12 = .ok true w12 := Qt.eqIn22 9998 ⟨0, 0, 0⟩ ⟨0, 0, 0⟩ w12
  go_wp2_with fail
  refine (paid_nil _ env).mono ?_
  rintro e w13 ⟨rfl, hb⟩
  have HB13 : Hid (Below w.heap.size w w13) := bel_then HB12 hb
  have HX13 : Hid (w13.heap[w.heap.size]? = some (.cells #[i64 what, i64 env, i64 kind, i64 n, i64 tt, i64 rts, .bool by_, i64 q0, i64 q1, i64 q2] 33)) := blk_below HX12.out hb
  have HY13 : Hid (w13.heap[w.heap.size + 1]? = some (hO n rts)) := blk_below HY12.out hb
  clear hq hb HB12 HX12 HY12 x1 x2 x3 x4 x5 x7 x8 x9 y0 y1
  go_wp2_with fail
  refine (frame_ok _).mono ?_
  rintro e w14 ⟨rfl, hb⟩
  have HB14 : Hid (Below w.heap.size w w14) := bel_then HB13 hb
  clear hb
  go_wp2_with fail
  go_ret
  exact ⟨rfl, HB14.out⟩
set_option maxRecDepth 100000 in
set_option maxHeartbeats 6400000 in
theorem nil_c (w : World) (what env kind n tt rts q0 q1 q2 : Int) (by_ : Bool) (h1 : ¬ env < 1) (h2 : ¬ 3 < env) (h3 : q0 < 0) (hX : (if badB env ⟨q0, q1, q2⟩ = true then (1 : Int) else 7) = 1) : Calls Try.prog 7 #[.agg #[i64 what, i64 env, i64 kind, i64 n, i64 tt, i64 rts, .bool by_, i64 q0, i64 q1, i64 q2]] w fun e w' => e = .returned (.bool true) ∧ Below w.heap.size w w' := by
  have HO : Hid (∀ W, Calls Try.prog 18 #[.pointer none, i64 env, .agg #[i64 q0, i64 q1, i64 q2]] W fun e w' => e = .returned (i64 1) ∧ Below W.heap.size W w') := fun W => open0 W env q0 q1 q2 1 hX
  have HB0 := bel_two w (.cells #[i64 what, i64 env, i64 kind, i64 n, i64 tt, i64 rts, .bool by_, i64 q0, i64 q1, i64 q2] 33) (.cells #[i64 n, i64 rts] 43)
  have HX0 : Hid (((w.alloc (.cells #[i64 what, i64 env, i64 kind, i64 n, i64 tt, i64 rts, .bool by_, i64 q0, i64 q1, i64 q2] 33)).alloc (.cells #[i64 n, i64 rts] 43)).heap[w.heap.size]? = some (.cells #[i64 what, i64 env, i64 kind, i64 n, i64 tt, i64 rts, .bool by_, i64 q0, i64 q1, i64 q2] 33)) := blk_alloc (heap_last w _) _
  have HY0 : Hid (((w.alloc (.cells #[i64 what, i64 env, i64 kind, i64 n, i64 tt, i64 rts, .bool by_, i64 q0, i64 q1, i64 q2] 33)).alloc (.cells #[i64 n, i64 rts] 43)).heap[w.heap.size + 1]? = some (hO n rts)) := by
    have := heap_last (w.alloc (.cells #[i64 what, i64 env, i64 kind, i64 n, i64 tt, i64 rts, .bool by_, i64 q0, i64 q1, i64 q2] 33)) (hO n rts)
    rwa [show (w.alloc (.cells #[i64 what, i64 env, i64 kind, i64 n, i64 tt, i64 rts, .bool by_, i64 q0, i64 q1, i64 q2] 33)).heap.size = w.heap.size + 1 by simp] at this
  clear hX
  go_enter Try.func7, Try.ntmps7
  go_upto_region 3 with fail
  generalize (w.alloc (.cells #[i64 what, i64 env, i64 kind, i64 n, i64 tt, i64 rts, .bool by_, i64 q0, i64 q1, i64 q2] 33)).alloc (.cells #[i64 n, i64 rts] 43) = w0 at *
  have x1 : w0.cell? ⟨w.heap.size, 1, none⟩ = some (i64 env) := blk_cell HX0.out 1
  have x2 : w0.cell? ⟨w.heap.size, 2, none⟩ = some (i64 kind) := blk_cell HX0.out 2
  have x3 : w0.cell? ⟨w.heap.size, 3, none⟩ = some (i64 n) := blk_cell HX0.out 3
  have x4 : w0.cell? ⟨w.heap.size, 4, none⟩ = some (i64 tt) := blk_cell HX0.out 4
  have x5 : w0.cell? ⟨w.heap.size, 5, none⟩ = some (i64 rts) := blk_cell HX0.out 5
  have x7 : w0.cell? ⟨w.heap.size, 7, none⟩ = some (i64 q0) := blk_cell HX0.out 7
  have x8 : w0.cell? ⟨w.heap.size, 8, none⟩ = some (i64 q1) := blk_cell HX0.out 8
  have x9 : w0.cell? ⟨w.heap.size, 9, none⟩ = some (i64 q2) := blk_cell HX0.out 9
  have y0 : w0.cell? ⟨w.heap.size + 1, 0, none⟩ = some (i64 n) := blk_cell HY0.out 0
  have y1 : w0.cell? ⟨w.heap.size + 1, 1, none⟩ = some (i64 rts) := blk_cell HY0.out 1
  go_wp2_with fail
  refine (HO.out _).mono ?_
  rintro e w1 ⟨rfl, hb⟩
  have HB1 : Hid (Below w.heap.size w w1) := bel_then HB0 hb
  have HX1 : Hid (w1.heap[w.heap.size]? = some (.cells #[i64 what, i64 env, i64 kind, i64 n, i64 tt, i64 rts, .bool by_, i64 q0, i64 q1, i64 q2] 33)) := blk_below HX0.out hb
  have HY1 : Hid (w1.heap[w.heap.size + 1]? = some (hO n rts)) := blk_below HY0.out hb
  clear hb HB0 HX0 HY0 x1 x2 x3 x4 x5 x7 x8 x9 y0 y1
  have x1 : w1.cell? ⟨w.heap.size, 1, none⟩ = some (i64 env) := blk_cell HX1.out 1
  have x2 : w1.cell? ⟨w.heap.size, 2, none⟩ = some (i64 kind) := blk_cell HX1.out 2
  have x3 : w1.cell? ⟨w.heap.size, 3, none⟩ = some (i64 n) := blk_cell HX1.out 3
  have x4 : w1.cell? ⟨w.heap.size, 4, none⟩ = some (i64 tt) := blk_cell HX1.out 4
  have x5 : w1.cell? ⟨w.heap.size, 5, none⟩ = some (i64 rts) := blk_cell HX1.out 5
  have x7 : w1.cell? ⟨w.heap.size, 7, none⟩ = some (i64 q0) := blk_cell HX1.out 7
  have x8 : w1.cell? ⟨w.heap.size, 8, none⟩ = some (i64 q1) := blk_cell HX1.out 8
  have x9 : w1.cell? ⟨w.heap.size, 9, none⟩ = some (i64 q2) := blk_cell HX1.out 9
  have y0 : w1.cell? ⟨w.heap.size + 1, 0, none⟩ = some (i64 n) := blk_cell HY1.out 0
  have y1 : w1.cell? ⟨w.heap.size + 1, 1, none⟩ = some (i64 rts) := blk_cell HY1.out 1
  go_wp2_with fail
  refine (bind0 _ env kind).mono ?_
  rintro e w2 ⟨rfl, hb⟩
  have HB2 : Hid (Below w.heap.size w (w2.alloc (.cells #[i64 0, i64 0] 43))) := bel_then (bel_then HB1 hb) (below_one w2 _)
  have HX2 : Hid ((w2.alloc (.cells #[i64 0, i64 0] 43)).heap[w.heap.size]? = some (.cells #[i64 what, i64 env, i64 kind, i64 n, i64 tt, i64 rts, .bool by_, i64 q0, i64 q1, i64 q2] 33)) := blk_alloc (blk_below HX1.out hb) _
  have HY2 : Hid ((w2.alloc (.cells #[i64 0, i64 0] 43)).heap[w.heap.size + 1]? = some (hO n rts)) := blk_alloc (blk_below HY1.out hb) _
  clear hb HB1 HX1 HY1 x1 x2 x3 x4 x5 x7 x8 x9 y0 y1
  go_upto_region 5 with fail
  generalize w2.alloc (.cells #[i64 0, i64 0] 43) = V2 at *
  generalize w2.heap.size = A2 at *
  have x1 : V2.cell? ⟨w.heap.size, 1, none⟩ = some (i64 env) := blk_cell HX2.out 1
  have x2 : V2.cell? ⟨w.heap.size, 2, none⟩ = some (i64 kind) := blk_cell HX2.out 2
  have x3 : V2.cell? ⟨w.heap.size, 3, none⟩ = some (i64 n) := blk_cell HX2.out 3
  have x4 : V2.cell? ⟨w.heap.size, 4, none⟩ = some (i64 tt) := blk_cell HX2.out 4
  have x5 : V2.cell? ⟨w.heap.size, 5, none⟩ = some (i64 rts) := blk_cell HX2.out 5
  have x7 : V2.cell? ⟨w.heap.size, 7, none⟩ = some (i64 q0) := blk_cell HX2.out 7
  have x8 : V2.cell? ⟨w.heap.size, 8, none⟩ = some (i64 q1) := blk_cell HX2.out 8
  have x9 : V2.cell? ⟨w.heap.size, 9, none⟩ = some (i64 q2) := blk_cell HX2.out 9
  have y0 : V2.cell? ⟨w.heap.size + 1, 0, none⟩ = some (i64 n) := blk_cell HY2.out 0
  have y1 : V2.cell? ⟨w.heap.size + 1, 1, none⟩ = some (i64 rts) := blk_cell HY2.out 1
  go_wp2_with fail
  refine (share0 _ env n rts tt rts).mono ?_
  rintro e w3 ⟨rfl, hb⟩
  have HB3 : Hid (Below w.heap.size w (w3.alloc (.cells #[i64 0, i64 0] 43))) := bel_then (bel_then HB2 hb) (below_one w3 _)
  have HX3 : Hid ((w3.alloc (.cells #[i64 0, i64 0] 43)).heap[w.heap.size]? = some (.cells #[i64 what, i64 env, i64 kind, i64 n, i64 tt, i64 rts, .bool by_, i64 q0, i64 q1, i64 q2] 33)) := blk_alloc (blk_below HX2.out hb) _
  have HY3 : Hid ((w3.alloc (.cells #[i64 0, i64 0] 43)).heap[w.heap.size + 1]? = some (hO n rts)) := blk_alloc (blk_below HY2.out hb) _
  clear hb HB2 HX2 HY2 x1 x2 x3 x4 x5 x7 x8 x9 y0 y1
  go_upto_region 6 with fail
  generalize w3.alloc (.cells #[i64 0, i64 0] 43) = V3 at *
  generalize w3.heap.size = A3 at *
  have x1 : V3.cell? ⟨w.heap.size, 1, none⟩ = some (i64 env) := blk_cell HX3.out 1
  have x2 : V3.cell? ⟨w.heap.size, 2, none⟩ = some (i64 kind) := blk_cell HX3.out 2
  have x3 : V3.cell? ⟨w.heap.size, 3, none⟩ = some (i64 n) := blk_cell HX3.out 3
  have x4 : V3.cell? ⟨w.heap.size, 4, none⟩ = some (i64 tt) := blk_cell HX3.out 4
  have x5 : V3.cell? ⟨w.heap.size, 5, none⟩ = some (i64 rts) := blk_cell HX3.out 5
  have x7 : V3.cell? ⟨w.heap.size, 7, none⟩ = some (i64 q0) := blk_cell HX3.out 7
  have x8 : V3.cell? ⟨w.heap.size, 8, none⟩ = some (i64 q1) := blk_cell HX3.out 8
  have x9 : V3.cell? ⟨w.heap.size, 9, none⟩ = some (i64 q2) := blk_cell HX3.out 9
  have y0 : V3.cell? ⟨w.heap.size + 1, 0, none⟩ = some (i64 n) := blk_cell HY3.out 0
  have y1 : V3.cell? ⟨w.heap.size + 1, 1, none⟩ = some (i64 rts) := blk_cell HY3.out 1
  go_wp2_with fail
  refine (brevoke_nil _ env n rts).mono ?_
  rintro e w4 ⟨rfl, hb⟩
  have HB4 : Hid (Below w.heap.size w w4) := bel_then HB3 hb
  have HX4 : Hid (w4.heap[w.heap.size]? = some (.cells #[i64 what, i64 env, i64 kind, i64 n, i64 tt, i64 rts, .bool by_, i64 q0, i64 q1, i64 q2] 33)) := blk_below HX3.out hb
  have HY4 : Hid (w4.heap[w.heap.size + 1]? = some (hO n rts)) := blk_below HY3.out hb
  clear hb HB3 HX3 HY3 x1 x2 x3 x4 x5 x7 x8 x9 y0 y1
  have x1 : w4.cell? ⟨w.heap.size, 1, none⟩ = some (i64 env) := blk_cell HX4.out 1
  have x2 : w4.cell? ⟨w.heap.size, 2, none⟩ = some (i64 kind) := blk_cell HX4.out 2
  have x3 : w4.cell? ⟨w.heap.size, 3, none⟩ = some (i64 n) := blk_cell HX4.out 3
  have x4 : w4.cell? ⟨w.heap.size, 4, none⟩ = some (i64 tt) := blk_cell HX4.out 4
  have x5 : w4.cell? ⟨w.heap.size, 5, none⟩ = some (i64 rts) := blk_cell HX4.out 5
  have x7 : w4.cell? ⟨w.heap.size, 7, none⟩ = some (i64 q0) := blk_cell HX4.out 7
  have x8 : w4.cell? ⟨w.heap.size, 8, none⟩ = some (i64 q1) := blk_cell HX4.out 8
  have x9 : w4.cell? ⟨w.heap.size, 9, none⟩ = some (i64 q2) := blk_cell HX4.out 9
  have y0 : w4.cell? ⟨w.heap.size + 1, 0, none⟩ = some (i64 n) := blk_cell HY4.out 0
  have y1 : w4.cell? ⟨w.heap.size + 1, 1, none⟩ = some (i64 rts) := blk_cell HY4.out 1
  go_wp2_with fail
  refine (number0 _ env n rts kind).mono ?_
  rintro e w5 ⟨rfl, hb⟩
  have HB5 : Hid (Below w.heap.size w w5) := bel_then HB4 hb
  have HX5 : Hid (w5.heap[w.heap.size]? = some (.cells #[i64 what, i64 env, i64 kind, i64 n, i64 tt, i64 rts, .bool by_, i64 q0, i64 q1, i64 q2] 33)) := blk_below HX4.out hb
  have HY5 : Hid (w5.heap[w.heap.size + 1]? = some (hO n rts)) := blk_below HY4.out hb
  clear hb HB4 HX4 HY4 x1 x2 x3 x4 x5 x7 x8 x9 y0 y1
  have x1 : w5.cell? ⟨w.heap.size, 1, none⟩ = some (i64 env) := blk_cell HX5.out 1
  have x2 : w5.cell? ⟨w.heap.size, 2, none⟩ = some (i64 kind) := blk_cell HX5.out 2
  have x3 : w5.cell? ⟨w.heap.size, 3, none⟩ = some (i64 n) := blk_cell HX5.out 3
  have x4 : w5.cell? ⟨w.heap.size, 4, none⟩ = some (i64 tt) := blk_cell HX5.out 4
  have x5 : w5.cell? ⟨w.heap.size, 5, none⟩ = some (i64 rts) := blk_cell HX5.out 5
  have x7 : w5.cell? ⟨w.heap.size, 7, none⟩ = some (i64 q0) := blk_cell HX5.out 7
  have x8 : w5.cell? ⟨w.heap.size, 8, none⟩ = some (i64 q1) := blk_cell HX5.out 8
  have x9 : w5.cell? ⟨w.heap.size, 9, none⟩ = some (i64 q2) := blk_cell HX5.out 9
  have y0 : w5.cell? ⟨w.heap.size + 1, 0, none⟩ = some (i64 n) := blk_cell HY5.out 0
  have y1 : w5.cell? ⟨w.heap.size + 1, 1, none⟩ = some (i64 rts) := blk_cell HY5.out 1
  go_wp2_with fail
  refine (left0 _ env).mono ?_
  rintro e w6 ⟨rfl, hb⟩
  have HB6 : Hid (Below w.heap.size w (w6.alloc (.cells #[i64 0, i64 0, i64 0] 22))) := bel_then (bel_then HB5 hb) (below_one w6 _)
  have HX6 : Hid ((w6.alloc (.cells #[i64 0, i64 0, i64 0] 22)).heap[w.heap.size]? = some (.cells #[i64 what, i64 env, i64 kind, i64 n, i64 tt, i64 rts, .bool by_, i64 q0, i64 q1, i64 q2] 33)) := blk_alloc (blk_below HX5.out hb) _
  have HY6 : Hid ((w6.alloc (.cells #[i64 0, i64 0, i64 0] 22)).heap[w.heap.size + 1]? = some (hO n rts)) := blk_alloc (blk_below HY5.out hb) _
  clear hb HB5 HX5 HY5 x1 x2 x3 x4 x5 x7 x8 x9 y0 y1
  go_upto_region 9 with fail
  generalize w6.alloc (.cells #[i64 0, i64 0, i64 0] 22) = V6 at *
  generalize w6.heap.size = A6 at *
  have x1 : V6.cell? ⟨w.heap.size, 1, none⟩ = some (i64 env) := blk_cell HX6.out 1
  have x2 : V6.cell? ⟨w.heap.size, 2, none⟩ = some (i64 kind) := blk_cell HX6.out 2
  have x3 : V6.cell? ⟨w.heap.size, 3, none⟩ = some (i64 n) := blk_cell HX6.out 3
  have x4 : V6.cell? ⟨w.heap.size, 4, none⟩ = some (i64 tt) := blk_cell HX6.out 4
  have x5 : V6.cell? ⟨w.heap.size, 5, none⟩ = some (i64 rts) := blk_cell HX6.out 5
  have x7 : V6.cell? ⟨w.heap.size, 7, none⟩ = some (i64 q0) := blk_cell HX6.out 7
  have x8 : V6.cell? ⟨w.heap.size, 8, none⟩ = some (i64 q1) := blk_cell HX6.out 8
  have x9 : V6.cell? ⟨w.heap.size, 9, none⟩ = some (i64 q2) := blk_cell HX6.out 9
  have y0 : V6.cell? ⟨w.heap.size + 1, 0, none⟩ = some (i64 n) := blk_cell HY6.out 0
  have y1 : V6.cell? ⟨w.heap.size + 1, 1, none⟩ = some (i64 rts) := blk_cell HY6.out 1
  go_wp2_with fail
  refine (bclose_nil _ env).mono ?_
  rintro e w7 ⟨rfl, hb⟩
  have HB7 : Hid (Below w.heap.size w w7) := bel_then HB6 hb
  have HX7 : Hid (w7.heap[w.heap.size]? = some (.cells #[i64 what, i64 env, i64 kind, i64 n, i64 tt, i64 rts, .bool by_, i64 q0, i64 q1, i64 q2] 33)) := blk_below HX6.out hb
  have HY7 : Hid (w7.heap[w.heap.size + 1]? = some (hO n rts)) := blk_below HY6.out hb
  clear hb HB6 HX6 HY6 x1 x2 x3 x4 x5 x7 x8 x9 y0 y1
  have x1 : w7.cell? ⟨w.heap.size, 1, none⟩ = some (i64 env) := blk_cell HX7.out 1
  have x2 : w7.cell? ⟨w.heap.size, 2, none⟩ = some (i64 kind) := blk_cell HX7.out 2
  have x3 : w7.cell? ⟨w.heap.size, 3, none⟩ = some (i64 n) := blk_cell HX7.out 3
  have x4 : w7.cell? ⟨w.heap.size, 4, none⟩ = some (i64 tt) := blk_cell HX7.out 4
  have x5 : w7.cell? ⟨w.heap.size, 5, none⟩ = some (i64 rts) := blk_cell HX7.out 5
  have x7 : w7.cell? ⟨w.heap.size, 7, none⟩ = some (i64 q0) := blk_cell HX7.out 7
  have x8 : w7.cell? ⟨w.heap.size, 8, none⟩ = some (i64 q1) := blk_cell HX7.out 8
  have x9 : w7.cell? ⟨w.heap.size, 9, none⟩ = some (i64 q2) := blk_cell HX7.out 9
  have y0 : w7.cell? ⟨w.heap.size + 1, 0, none⟩ = some (i64 n) := blk_cell HY7.out 0
  have y1 : w7.cell? ⟨w.heap.size + 1, 1, none⟩ = some (i64 rts) := blk_cell HY7.out 1
  go_wp2_with fail
  refine (free0 _ env n rts).mono ?_
  rintro e w8 ⟨rfl, hb⟩
  have HB8 : Hid (Below w.heap.size w w8) := bel_then HB7 hb
  have HX8 : Hid (w8.heap[w.heap.size]? = some (.cells #[i64 what, i64 env, i64 kind, i64 n, i64 tt, i64 rts, .bool by_, i64 q0, i64 q1, i64 q2] 33)) := blk_below HX7.out hb
  have HY8 : Hid (w8.heap[w.heap.size + 1]? = some (hO n rts)) := blk_below HY7.out hb
  clear hb HB7 HX7 HY7 x1 x2 x3 x4 x5 x7 x8 x9 y0 y1
  have x1 : w8.cell? ⟨w.heap.size, 1, none⟩ = some (i64 env) := blk_cell HX8.out 1
  have x2 : w8.cell? ⟨w.heap.size, 2, none⟩ = some (i64 kind) := blk_cell HX8.out 2
  have x3 : w8.cell? ⟨w.heap.size, 3, none⟩ = some (i64 n) := blk_cell HX8.out 3
  have x4 : w8.cell? ⟨w.heap.size, 4, none⟩ = some (i64 tt) := blk_cell HX8.out 4
  have x5 : w8.cell? ⟨w.heap.size, 5, none⟩ = some (i64 rts) := blk_cell HX8.out 5
  have x7 : w8.cell? ⟨w.heap.size, 7, none⟩ = some (i64 q0) := blk_cell HX8.out 7
  have x8 : w8.cell? ⟨w.heap.size, 8, none⟩ = some (i64 q1) := blk_cell HX8.out 8
  have x9 : w8.cell? ⟨w.heap.size, 9, none⟩ = some (i64 q2) := blk_cell HX8.out 9
  have y0 : w8.cell? ⟨w.heap.size + 1, 0, none⟩ = some (i64 n) := blk_cell HY8.out 0
  have y1 : w8.cell? ⟨w.heap.size + 1, 1, none⟩ = some (i64 rts) := blk_cell HY8.out 1
  go_wp2_with fail
  refine (owner_nil _ kind n).mono ?_
  rintro e w9 ⟨rfl, hb⟩
  have HB9 : Hid (Below w.heap.size w w9) := bel_then HB8 hb
  have HX9 : Hid (w9.heap[w.heap.size]? = some (.cells #[i64 what, i64 env, i64 kind, i64 n, i64 tt, i64 rts, .bool by_, i64 q0, i64 q1, i64 q2] 33)) := blk_below HX8.out hb
  have HY9 : Hid (w9.heap[w.heap.size + 1]? = some (hO n rts)) := blk_below HY8.out hb
  clear hb HB8 HX8 HY8 x1 x2 x3 x4 x5 x7 x8 x9 y0 y1
  have x1 : w9.cell? ⟨w.heap.size, 1, none⟩ = some (i64 env) := blk_cell HX9.out 1
  have x2 : w9.cell? ⟨w.heap.size, 2, none⟩ = some (i64 kind) := blk_cell HX9.out 2
  have x3 : w9.cell? ⟨w.heap.size, 3, none⟩ = some (i64 n) := blk_cell HX9.out 3
  have x4 : w9.cell? ⟨w.heap.size, 4, none⟩ = some (i64 tt) := blk_cell HX9.out 4
  have x5 : w9.cell? ⟨w.heap.size, 5, none⟩ = some (i64 rts) := blk_cell HX9.out 5
  have x7 : w9.cell? ⟨w.heap.size, 7, none⟩ = some (i64 q0) := blk_cell HX9.out 7
  have x8 : w9.cell? ⟨w.heap.size, 8, none⟩ = some (i64 q1) := blk_cell HX9.out 8
  have x9 : w9.cell? ⟨w.heap.size, 9, none⟩ = some (i64 q2) := blk_cell HX9.out 9
  have y0 : w9.cell? ⟨w.heap.size + 1, 0, none⟩ = some (i64 n) := blk_cell HY9.out 0
  have y1 : w9.cell? ⟨w.heap.size + 1, 1, none⟩ = some (i64 rts) := blk_cell HY9.out 1
  go_wp2_with fail
  refine (root0 _ kind n).mono ?_
  rintro e w10 ⟨rfl, hb⟩
  have HB10 : Hid (Below w.heap.size w w10) := bel_then HB9 hb
  have HX10 : Hid (w10.heap[w.heap.size]? = some (.cells #[i64 what, i64 env, i64 kind, i64 n, i64 tt, i64 rts, .bool by_, i64 q0, i64 q1, i64 q2] 33)) := blk_below HX9.out hb
  have HY10 : Hid (w10.heap[w.heap.size + 1]? = some (hO n rts)) := blk_below HY9.out hb
  clear hb HB9 HX9 HY9 x1 x2 x3 x4 x5 x7 x8 x9 y0 y1
  have x1 : w10.cell? ⟨w.heap.size, 1, none⟩ = some (i64 env) := blk_cell HX10.out 1
  have x2 : w10.cell? ⟨w.heap.size, 2, none⟩ = some (i64 kind) := blk_cell HX10.out 2
  have x3 : w10.cell? ⟨w.heap.size, 3, none⟩ = some (i64 n) := blk_cell HX10.out 3
  have x4 : w10.cell? ⟨w.heap.size, 4, none⟩ = some (i64 tt) := blk_cell HX10.out 4
  have x5 : w10.cell? ⟨w.heap.size, 5, none⟩ = some (i64 rts) := blk_cell HX10.out 5
  have x7 : w10.cell? ⟨w.heap.size, 7, none⟩ = some (i64 q0) := blk_cell HX10.out 7
  have x8 : w10.cell? ⟨w.heap.size, 8, none⟩ = some (i64 q1) := blk_cell HX10.out 8
  have x9 : w10.cell? ⟨w.heap.size, 9, none⟩ = some (i64 q2) := blk_cell HX10.out 9
  have y0 : w10.cell? ⟨w.heap.size + 1, 0, none⟩ = some (i64 n) := blk_cell HY10.out 0
  have y1 : w10.cell? ⟨w.heap.size + 1, 1, none⟩ = some (i64 rts) := blk_cell HY10.out 1
  have hq : (Op.equalIn 10000 43 (.agg #[i64 0, i64 0]) (.agg #[i64 0, i64 0])).run Try.prog w10 = .ok true w10 := eql (0, 0) (0, 0) w10
  go_wp2_with fail
  refine (list_nil _ env kind).mono ?_
  rintro e w11 ⟨rfl, hb⟩
  have HB11 : Hid (Below w.heap.size w w11) := bel_then HB10 hb
  have HX11 : Hid (w11.heap[w.heap.size]? = some (.cells #[i64 what, i64 env, i64 kind, i64 n, i64 tt, i64 rts, .bool by_, i64 q0, i64 q1, i64 q2] 33)) := blk_below HX10.out hb
  have HY11 : Hid (w11.heap[w.heap.size + 1]? = some (hO n rts)) := blk_below HY10.out hb
  clear hq hb HB10 HX10 HY10 x1 x2 x3 x4 x5 x7 x8 x9 y0 y1
  have x1 : w11.cell? ⟨w.heap.size, 1, none⟩ = some (i64 env) := blk_cell HX11.out 1
  have x2 : w11.cell? ⟨w.heap.size, 2, none⟩ = some (i64 kind) := blk_cell HX11.out 2
  have x3 : w11.cell? ⟨w.heap.size, 3, none⟩ = some (i64 n) := blk_cell HX11.out 3
  have x4 : w11.cell? ⟨w.heap.size, 4, none⟩ = some (i64 tt) := blk_cell HX11.out 4
  have x5 : w11.cell? ⟨w.heap.size, 5, none⟩ = some (i64 rts) := blk_cell HX11.out 5
  have x7 : w11.cell? ⟨w.heap.size, 7, none⟩ = some (i64 q0) := blk_cell HX11.out 7
  have x8 : w11.cell? ⟨w.heap.size, 8, none⟩ = some (i64 q1) := blk_cell HX11.out 8
  have x9 : w11.cell? ⟨w.heap.size, 9, none⟩ = some (i64 q2) := blk_cell HX11.out 9
  have y0 : w11.cell? ⟨w.heap.size + 1, 0, none⟩ = some (i64 n) := blk_cell HY11.out 0
  have y1 : w11.cell? ⟨w.heap.size + 1, 1, none⟩ = some (i64 rts) := blk_cell HY11.out 1
  go_wp2_with fail
  refine (spare0 _).mono ?_
  rintro e w12 ⟨rfl, hb⟩
  have HB12 : Hid (Below w.heap.size w w12) := bel_then HB11 hb
  have HX12 : Hid (w12.heap[w.heap.size]? = some (.cells #[i64 what, i64 env, i64 kind, i64 n, i64 tt, i64 rts, .bool by_, i64 q0, i64 q1, i64 q2] 33)) := blk_below HX11.out hb
  have HY12 : Hid (w12.heap[w.heap.size + 1]? = some (hO n rts)) := blk_below HY11.out hb
  clear hb HB11 HX11 HY11 x1 x2 x3 x4 x5 x7 x8 x9 y0 y1
  have x1 : w12.cell? ⟨w.heap.size, 1, none⟩ = some (i64 env) := blk_cell HX12.out 1
  have x2 : w12.cell? ⟨w.heap.size, 2, none⟩ = some (i64 kind) := blk_cell HX12.out 2
  have x3 : w12.cell? ⟨w.heap.size, 3, none⟩ = some (i64 n) := blk_cell HX12.out 3
  have x4 : w12.cell? ⟨w.heap.size, 4, none⟩ = some (i64 tt) := blk_cell HX12.out 4
  have x5 : w12.cell? ⟨w.heap.size, 5, none⟩ = some (i64 rts) := blk_cell HX12.out 5
  have x7 : w12.cell? ⟨w.heap.size, 7, none⟩ = some (i64 q0) := blk_cell HX12.out 7
  have x8 : w12.cell? ⟨w.heap.size, 8, none⟩ = some (i64 q1) := blk_cell HX12.out 8
  have x9 : w12.cell? ⟨w.heap.size, 9, none⟩ = some (i64 q2) := blk_cell HX12.out 9
  have y0 : w12.cell? ⟨w.heap.size + 1, 0, none⟩ = some (i64 n) := blk_cell HY12.out 0
  have y1 : w12.cell? ⟨w.heap.size + 1, 1, none⟩ = some (i64 rts) := blk_cell HY12.out 1
  have hq : (Op.equalIn 10000 22 (.agg #[i64 0, i64 0, i64 0]) (.agg #[i64 0, i64 0, i64 0])).run Try.prog w12 = .ok true w12 := Qt.eqIn22 9998 ⟨0, 0, 0⟩ ⟨0, 0, 0⟩ w12
  go_wp2_with fail
  refine (paid_nil _ env).mono ?_
  rintro e w13 ⟨rfl, hb⟩
  have HB13 : Hid (Below w.heap.size w w13) := bel_then HB12 hb
  have HX13 : Hid (w13.heap[w.heap.size]? = some (.cells #[i64 what, i64 env, i64 kind, i64 n, i64 tt, i64 rts, .bool by_, i64 q0, i64 q1, i64 q2] 33)) := blk_below HX12.out hb
  have HY13 : Hid (w13.heap[w.heap.size + 1]? = some (hO n rts)) := blk_below HY12.out hb
  clear hq hb HB12 HX12 HY12 x1 x2 x3 x4 x5 x7 x8 x9 y0 y1
  go_wp2_with fail
  refine (frame_ok _).mono ?_
  rintro e w14 ⟨rfl, hb⟩
  have HB14 : Hid (Below w.heap.size w w14) := bel_then HB13 hb
  clear hb
  go_wp2_with fail
  go_ret
  exact ⟨rfl, HB14.out⟩
set_option maxRecDepth 100000 in
set_option maxHeartbeats 6400000 in
theorem nil_d (w : World) (what env kind n tt rts q0 q1 q2 : Int) (by_ : Bool) (h1 : ¬ env < 1) (h2 : ¬ 3 < env) (h3 : ¬ q0 < 0) (h4 : q1 < 0) (hX : (if badB env ⟨q0, q1, q2⟩ = true then (1 : Int) else 7) = 1) : Calls Try.prog 7 #[.agg #[i64 what, i64 env, i64 kind, i64 n, i64 tt, i64 rts, .bool by_, i64 q0, i64 q1, i64 q2]] w fun e w' => e = .returned (.bool true) ∧ Below w.heap.size w w' := by
  have HO : Hid (∀ W, Calls Try.prog 18 #[.pointer none, i64 env, .agg #[i64 q0, i64 q1, i64 q2]] W fun e w' => e = .returned (i64 1) ∧ Below W.heap.size W w') := fun W => open0 W env q0 q1 q2 1 hX
  have HB0 := bel_two w (.cells #[i64 what, i64 env, i64 kind, i64 n, i64 tt, i64 rts, .bool by_, i64 q0, i64 q1, i64 q2] 33) (.cells #[i64 n, i64 rts] 43)
  have HX0 : Hid (((w.alloc (.cells #[i64 what, i64 env, i64 kind, i64 n, i64 tt, i64 rts, .bool by_, i64 q0, i64 q1, i64 q2] 33)).alloc (.cells #[i64 n, i64 rts] 43)).heap[w.heap.size]? = some (.cells #[i64 what, i64 env, i64 kind, i64 n, i64 tt, i64 rts, .bool by_, i64 q0, i64 q1, i64 q2] 33)) := blk_alloc (heap_last w _) _
  have HY0 : Hid (((w.alloc (.cells #[i64 what, i64 env, i64 kind, i64 n, i64 tt, i64 rts, .bool by_, i64 q0, i64 q1, i64 q2] 33)).alloc (.cells #[i64 n, i64 rts] 43)).heap[w.heap.size + 1]? = some (hO n rts)) := by
    have := heap_last (w.alloc (.cells #[i64 what, i64 env, i64 kind, i64 n, i64 tt, i64 rts, .bool by_, i64 q0, i64 q1, i64 q2] 33)) (hO n rts)
    rwa [show (w.alloc (.cells #[i64 what, i64 env, i64 kind, i64 n, i64 tt, i64 rts, .bool by_, i64 q0, i64 q1, i64 q2] 33)).heap.size = w.heap.size + 1 by simp] at this
  clear hX
  go_enter Try.func7, Try.ntmps7
  go_upto_region 3 with fail
  generalize (w.alloc (.cells #[i64 what, i64 env, i64 kind, i64 n, i64 tt, i64 rts, .bool by_, i64 q0, i64 q1, i64 q2] 33)).alloc (.cells #[i64 n, i64 rts] 43) = w0 at *
  have x1 : w0.cell? ⟨w.heap.size, 1, none⟩ = some (i64 env) := blk_cell HX0.out 1
  have x2 : w0.cell? ⟨w.heap.size, 2, none⟩ = some (i64 kind) := blk_cell HX0.out 2
  have x3 : w0.cell? ⟨w.heap.size, 3, none⟩ = some (i64 n) := blk_cell HX0.out 3
  have x4 : w0.cell? ⟨w.heap.size, 4, none⟩ = some (i64 tt) := blk_cell HX0.out 4
  have x5 : w0.cell? ⟨w.heap.size, 5, none⟩ = some (i64 rts) := blk_cell HX0.out 5
  have x7 : w0.cell? ⟨w.heap.size, 7, none⟩ = some (i64 q0) := blk_cell HX0.out 7
  have x8 : w0.cell? ⟨w.heap.size, 8, none⟩ = some (i64 q1) := blk_cell HX0.out 8
  have x9 : w0.cell? ⟨w.heap.size, 9, none⟩ = some (i64 q2) := blk_cell HX0.out 9
  have y0 : w0.cell? ⟨w.heap.size + 1, 0, none⟩ = some (i64 n) := blk_cell HY0.out 0
  have y1 : w0.cell? ⟨w.heap.size + 1, 1, none⟩ = some (i64 rts) := blk_cell HY0.out 1
  go_wp2_with fail
  refine (HO.out _).mono ?_
  rintro e w1 ⟨rfl, hb⟩
  have HB1 : Hid (Below w.heap.size w w1) := bel_then HB0 hb
  have HX1 : Hid (w1.heap[w.heap.size]? = some (.cells #[i64 what, i64 env, i64 kind, i64 n, i64 tt, i64 rts, .bool by_, i64 q0, i64 q1, i64 q2] 33)) := blk_below HX0.out hb
  have HY1 : Hid (w1.heap[w.heap.size + 1]? = some (hO n rts)) := blk_below HY0.out hb
  clear hb HB0 HX0 HY0 x1 x2 x3 x4 x5 x7 x8 x9 y0 y1
  have x1 : w1.cell? ⟨w.heap.size, 1, none⟩ = some (i64 env) := blk_cell HX1.out 1
  have x2 : w1.cell? ⟨w.heap.size, 2, none⟩ = some (i64 kind) := blk_cell HX1.out 2
  have x3 : w1.cell? ⟨w.heap.size, 3, none⟩ = some (i64 n) := blk_cell HX1.out 3
  have x4 : w1.cell? ⟨w.heap.size, 4, none⟩ = some (i64 tt) := blk_cell HX1.out 4
  have x5 : w1.cell? ⟨w.heap.size, 5, none⟩ = some (i64 rts) := blk_cell HX1.out 5
  have x7 : w1.cell? ⟨w.heap.size, 7, none⟩ = some (i64 q0) := blk_cell HX1.out 7
  have x8 : w1.cell? ⟨w.heap.size, 8, none⟩ = some (i64 q1) := blk_cell HX1.out 8
  have x9 : w1.cell? ⟨w.heap.size, 9, none⟩ = some (i64 q2) := blk_cell HX1.out 9
  have y0 : w1.cell? ⟨w.heap.size + 1, 0, none⟩ = some (i64 n) := blk_cell HY1.out 0
  have y1 : w1.cell? ⟨w.heap.size + 1, 1, none⟩ = some (i64 rts) := blk_cell HY1.out 1
  go_wp2_with fail
  refine (bind0 _ env kind).mono ?_
  rintro e w2 ⟨rfl, hb⟩
  have HB2 : Hid (Below w.heap.size w (w2.alloc (.cells #[i64 0, i64 0] 43))) := bel_then (bel_then HB1 hb) (below_one w2 _)
  have HX2 : Hid ((w2.alloc (.cells #[i64 0, i64 0] 43)).heap[w.heap.size]? = some (.cells #[i64 what, i64 env, i64 kind, i64 n, i64 tt, i64 rts, .bool by_, i64 q0, i64 q1, i64 q2] 33)) := blk_alloc (blk_below HX1.out hb) _
  have HY2 : Hid ((w2.alloc (.cells #[i64 0, i64 0] 43)).heap[w.heap.size + 1]? = some (hO n rts)) := blk_alloc (blk_below HY1.out hb) _
  clear hb HB1 HX1 HY1 x1 x2 x3 x4 x5 x7 x8 x9 y0 y1
  go_upto_region 5 with fail
  generalize w2.alloc (.cells #[i64 0, i64 0] 43) = V2 at *
  generalize w2.heap.size = A2 at *
  have x1 : V2.cell? ⟨w.heap.size, 1, none⟩ = some (i64 env) := blk_cell HX2.out 1
  have x2 : V2.cell? ⟨w.heap.size, 2, none⟩ = some (i64 kind) := blk_cell HX2.out 2
  have x3 : V2.cell? ⟨w.heap.size, 3, none⟩ = some (i64 n) := blk_cell HX2.out 3
  have x4 : V2.cell? ⟨w.heap.size, 4, none⟩ = some (i64 tt) := blk_cell HX2.out 4
  have x5 : V2.cell? ⟨w.heap.size, 5, none⟩ = some (i64 rts) := blk_cell HX2.out 5
  have x7 : V2.cell? ⟨w.heap.size, 7, none⟩ = some (i64 q0) := blk_cell HX2.out 7
  have x8 : V2.cell? ⟨w.heap.size, 8, none⟩ = some (i64 q1) := blk_cell HX2.out 8
  have x9 : V2.cell? ⟨w.heap.size, 9, none⟩ = some (i64 q2) := blk_cell HX2.out 9
  have y0 : V2.cell? ⟨w.heap.size + 1, 0, none⟩ = some (i64 n) := blk_cell HY2.out 0
  have y1 : V2.cell? ⟨w.heap.size + 1, 1, none⟩ = some (i64 rts) := blk_cell HY2.out 1
  go_wp2_with fail
  refine (share0 _ env n rts tt rts).mono ?_
  rintro e w3 ⟨rfl, hb⟩
  have HB3 : Hid (Below w.heap.size w (w3.alloc (.cells #[i64 0, i64 0] 43))) := bel_then (bel_then HB2 hb) (below_one w3 _)
  have HX3 : Hid ((w3.alloc (.cells #[i64 0, i64 0] 43)).heap[w.heap.size]? = some (.cells #[i64 what, i64 env, i64 kind, i64 n, i64 tt, i64 rts, .bool by_, i64 q0, i64 q1, i64 q2] 33)) := blk_alloc (blk_below HX2.out hb) _
  have HY3 : Hid ((w3.alloc (.cells #[i64 0, i64 0] 43)).heap[w.heap.size + 1]? = some (hO n rts)) := blk_alloc (blk_below HY2.out hb) _
  clear hb HB2 HX2 HY2 x1 x2 x3 x4 x5 x7 x8 x9 y0 y1
  go_upto_region 6 with fail
  generalize w3.alloc (.cells #[i64 0, i64 0] 43) = V3 at *
  generalize w3.heap.size = A3 at *
  have x1 : V3.cell? ⟨w.heap.size, 1, none⟩ = some (i64 env) := blk_cell HX3.out 1
  have x2 : V3.cell? ⟨w.heap.size, 2, none⟩ = some (i64 kind) := blk_cell HX3.out 2
  have x3 : V3.cell? ⟨w.heap.size, 3, none⟩ = some (i64 n) := blk_cell HX3.out 3
  have x4 : V3.cell? ⟨w.heap.size, 4, none⟩ = some (i64 tt) := blk_cell HX3.out 4
  have x5 : V3.cell? ⟨w.heap.size, 5, none⟩ = some (i64 rts) := blk_cell HX3.out 5
  have x7 : V3.cell? ⟨w.heap.size, 7, none⟩ = some (i64 q0) := blk_cell HX3.out 7
  have x8 : V3.cell? ⟨w.heap.size, 8, none⟩ = some (i64 q1) := blk_cell HX3.out 8
  have x9 : V3.cell? ⟨w.heap.size, 9, none⟩ = some (i64 q2) := blk_cell HX3.out 9
  have y0 : V3.cell? ⟨w.heap.size + 1, 0, none⟩ = some (i64 n) := blk_cell HY3.out 0
  have y1 : V3.cell? ⟨w.heap.size + 1, 1, none⟩ = some (i64 rts) := blk_cell HY3.out 1
  go_wp2_with fail
  refine (brevoke_nil _ env n rts).mono ?_
  rintro e w4 ⟨rfl, hb⟩
  have HB4 : Hid (Below w.heap.size w w4) := bel_then HB3 hb
  have HX4 : Hid (w4.heap[w.heap.size]? = some (.cells #[i64 what, i64 env, i64 kind, i64 n, i64 tt, i64 rts, .bool by_, i64 q0, i64 q1, i64 q2] 33)) := blk_below HX3.out hb
  have HY4 : Hid (w4.heap[w.heap.size + 1]? = some (hO n rts)) := blk_below HY3.out hb
  clear hb HB3 HX3 HY3 x1 x2 x3 x4 x5 x7 x8 x9 y0 y1
  have x1 : w4.cell? ⟨w.heap.size, 1, none⟩ = some (i64 env) := blk_cell HX4.out 1
  have x2 : w4.cell? ⟨w.heap.size, 2, none⟩ = some (i64 kind) := blk_cell HX4.out 2
  have x3 : w4.cell? ⟨w.heap.size, 3, none⟩ = some (i64 n) := blk_cell HX4.out 3
  have x4 : w4.cell? ⟨w.heap.size, 4, none⟩ = some (i64 tt) := blk_cell HX4.out 4
  have x5 : w4.cell? ⟨w.heap.size, 5, none⟩ = some (i64 rts) := blk_cell HX4.out 5
  have x7 : w4.cell? ⟨w.heap.size, 7, none⟩ = some (i64 q0) := blk_cell HX4.out 7
  have x8 : w4.cell? ⟨w.heap.size, 8, none⟩ = some (i64 q1) := blk_cell HX4.out 8
  have x9 : w4.cell? ⟨w.heap.size, 9, none⟩ = some (i64 q2) := blk_cell HX4.out 9
  have y0 : w4.cell? ⟨w.heap.size + 1, 0, none⟩ = some (i64 n) := blk_cell HY4.out 0
  have y1 : w4.cell? ⟨w.heap.size + 1, 1, none⟩ = some (i64 rts) := blk_cell HY4.out 1
  go_wp2_with fail
  refine (number0 _ env n rts kind).mono ?_
  rintro e w5 ⟨rfl, hb⟩
  have HB5 : Hid (Below w.heap.size w w5) := bel_then HB4 hb
  have HX5 : Hid (w5.heap[w.heap.size]? = some (.cells #[i64 what, i64 env, i64 kind, i64 n, i64 tt, i64 rts, .bool by_, i64 q0, i64 q1, i64 q2] 33)) := blk_below HX4.out hb
  have HY5 : Hid (w5.heap[w.heap.size + 1]? = some (hO n rts)) := blk_below HY4.out hb
  clear hb HB4 HX4 HY4 x1 x2 x3 x4 x5 x7 x8 x9 y0 y1
  have x1 : w5.cell? ⟨w.heap.size, 1, none⟩ = some (i64 env) := blk_cell HX5.out 1
  have x2 : w5.cell? ⟨w.heap.size, 2, none⟩ = some (i64 kind) := blk_cell HX5.out 2
  have x3 : w5.cell? ⟨w.heap.size, 3, none⟩ = some (i64 n) := blk_cell HX5.out 3
  have x4 : w5.cell? ⟨w.heap.size, 4, none⟩ = some (i64 tt) := blk_cell HX5.out 4
  have x5 : w5.cell? ⟨w.heap.size, 5, none⟩ = some (i64 rts) := blk_cell HX5.out 5
  have x7 : w5.cell? ⟨w.heap.size, 7, none⟩ = some (i64 q0) := blk_cell HX5.out 7
  have x8 : w5.cell? ⟨w.heap.size, 8, none⟩ = some (i64 q1) := blk_cell HX5.out 8
  have x9 : w5.cell? ⟨w.heap.size, 9, none⟩ = some (i64 q2) := blk_cell HX5.out 9
  have y0 : w5.cell? ⟨w.heap.size + 1, 0, none⟩ = some (i64 n) := blk_cell HY5.out 0
  have y1 : w5.cell? ⟨w.heap.size + 1, 1, none⟩ = some (i64 rts) := blk_cell HY5.out 1
  go_wp2_with fail
  refine (left0 _ env).mono ?_
  rintro e w6 ⟨rfl, hb⟩
  have HB6 : Hid (Below w.heap.size w (w6.alloc (.cells #[i64 0, i64 0, i64 0] 22))) := bel_then (bel_then HB5 hb) (below_one w6 _)
  have HX6 : Hid ((w6.alloc (.cells #[i64 0, i64 0, i64 0] 22)).heap[w.heap.size]? = some (.cells #[i64 what, i64 env, i64 kind, i64 n, i64 tt, i64 rts, .bool by_, i64 q0, i64 q1, i64 q2] 33)) := blk_alloc (blk_below HX5.out hb) _
  have HY6 : Hid ((w6.alloc (.cells #[i64 0, i64 0, i64 0] 22)).heap[w.heap.size + 1]? = some (hO n rts)) := blk_alloc (blk_below HY5.out hb) _
  clear hb HB5 HX5 HY5 x1 x2 x3 x4 x5 x7 x8 x9 y0 y1
  go_upto_region 9 with fail
  generalize w6.alloc (.cells #[i64 0, i64 0, i64 0] 22) = V6 at *
  generalize w6.heap.size = A6 at *
  have x1 : V6.cell? ⟨w.heap.size, 1, none⟩ = some (i64 env) := blk_cell HX6.out 1
  have x2 : V6.cell? ⟨w.heap.size, 2, none⟩ = some (i64 kind) := blk_cell HX6.out 2
  have x3 : V6.cell? ⟨w.heap.size, 3, none⟩ = some (i64 n) := blk_cell HX6.out 3
  have x4 : V6.cell? ⟨w.heap.size, 4, none⟩ = some (i64 tt) := blk_cell HX6.out 4
  have x5 : V6.cell? ⟨w.heap.size, 5, none⟩ = some (i64 rts) := blk_cell HX6.out 5
  have x7 : V6.cell? ⟨w.heap.size, 7, none⟩ = some (i64 q0) := blk_cell HX6.out 7
  have x8 : V6.cell? ⟨w.heap.size, 8, none⟩ = some (i64 q1) := blk_cell HX6.out 8
  have x9 : V6.cell? ⟨w.heap.size, 9, none⟩ = some (i64 q2) := blk_cell HX6.out 9
  have y0 : V6.cell? ⟨w.heap.size + 1, 0, none⟩ = some (i64 n) := blk_cell HY6.out 0
  have y1 : V6.cell? ⟨w.heap.size + 1, 1, none⟩ = some (i64 rts) := blk_cell HY6.out 1
  go_wp2_with fail
  refine (bclose_nil _ env).mono ?_
  rintro e w7 ⟨rfl, hb⟩
  have HB7 : Hid (Below w.heap.size w w7) := bel_then HB6 hb
  have HX7 : Hid (w7.heap[w.heap.size]? = some (.cells #[i64 what, i64 env, i64 kind, i64 n, i64 tt, i64 rts, .bool by_, i64 q0, i64 q1, i64 q2] 33)) := blk_below HX6.out hb
  have HY7 : Hid (w7.heap[w.heap.size + 1]? = some (hO n rts)) := blk_below HY6.out hb
  clear hb HB6 HX6 HY6 x1 x2 x3 x4 x5 x7 x8 x9 y0 y1
  have x1 : w7.cell? ⟨w.heap.size, 1, none⟩ = some (i64 env) := blk_cell HX7.out 1
  have x2 : w7.cell? ⟨w.heap.size, 2, none⟩ = some (i64 kind) := blk_cell HX7.out 2
  have x3 : w7.cell? ⟨w.heap.size, 3, none⟩ = some (i64 n) := blk_cell HX7.out 3
  have x4 : w7.cell? ⟨w.heap.size, 4, none⟩ = some (i64 tt) := blk_cell HX7.out 4
  have x5 : w7.cell? ⟨w.heap.size, 5, none⟩ = some (i64 rts) := blk_cell HX7.out 5
  have x7 : w7.cell? ⟨w.heap.size, 7, none⟩ = some (i64 q0) := blk_cell HX7.out 7
  have x8 : w7.cell? ⟨w.heap.size, 8, none⟩ = some (i64 q1) := blk_cell HX7.out 8
  have x9 : w7.cell? ⟨w.heap.size, 9, none⟩ = some (i64 q2) := blk_cell HX7.out 9
  have y0 : w7.cell? ⟨w.heap.size + 1, 0, none⟩ = some (i64 n) := blk_cell HY7.out 0
  have y1 : w7.cell? ⟨w.heap.size + 1, 1, none⟩ = some (i64 rts) := blk_cell HY7.out 1
  go_wp2_with fail
  refine (free0 _ env n rts).mono ?_
  rintro e w8 ⟨rfl, hb⟩
  have HB8 : Hid (Below w.heap.size w w8) := bel_then HB7 hb
  have HX8 : Hid (w8.heap[w.heap.size]? = some (.cells #[i64 what, i64 env, i64 kind, i64 n, i64 tt, i64 rts, .bool by_, i64 q0, i64 q1, i64 q2] 33)) := blk_below HX7.out hb
  have HY8 : Hid (w8.heap[w.heap.size + 1]? = some (hO n rts)) := blk_below HY7.out hb
  clear hb HB7 HX7 HY7 x1 x2 x3 x4 x5 x7 x8 x9 y0 y1
  have x1 : w8.cell? ⟨w.heap.size, 1, none⟩ = some (i64 env) := blk_cell HX8.out 1
  have x2 : w8.cell? ⟨w.heap.size, 2, none⟩ = some (i64 kind) := blk_cell HX8.out 2
  have x3 : w8.cell? ⟨w.heap.size, 3, none⟩ = some (i64 n) := blk_cell HX8.out 3
  have x4 : w8.cell? ⟨w.heap.size, 4, none⟩ = some (i64 tt) := blk_cell HX8.out 4
  have x5 : w8.cell? ⟨w.heap.size, 5, none⟩ = some (i64 rts) := blk_cell HX8.out 5
  have x7 : w8.cell? ⟨w.heap.size, 7, none⟩ = some (i64 q0) := blk_cell HX8.out 7
  have x8 : w8.cell? ⟨w.heap.size, 8, none⟩ = some (i64 q1) := blk_cell HX8.out 8
  have x9 : w8.cell? ⟨w.heap.size, 9, none⟩ = some (i64 q2) := blk_cell HX8.out 9
  have y0 : w8.cell? ⟨w.heap.size + 1, 0, none⟩ = some (i64 n) := blk_cell HY8.out 0
  have y1 : w8.cell? ⟨w.heap.size + 1, 1, none⟩ = some (i64 rts) := blk_cell HY8.out 1
  go_wp2_with fail
  refine (owner_nil _ kind n).mono ?_
  rintro e w9 ⟨rfl, hb⟩
  have HB9 : Hid (Below w.heap.size w w9) := bel_then HB8 hb
  have HX9 : Hid (w9.heap[w.heap.size]? = some (.cells #[i64 what, i64 env, i64 kind, i64 n, i64 tt, i64 rts, .bool by_, i64 q0, i64 q1, i64 q2] 33)) := blk_below HX8.out hb
  have HY9 : Hid (w9.heap[w.heap.size + 1]? = some (hO n rts)) := blk_below HY8.out hb
  clear hb HB8 HX8 HY8 x1 x2 x3 x4 x5 x7 x8 x9 y0 y1
  have x1 : w9.cell? ⟨w.heap.size, 1, none⟩ = some (i64 env) := blk_cell HX9.out 1
  have x2 : w9.cell? ⟨w.heap.size, 2, none⟩ = some (i64 kind) := blk_cell HX9.out 2
  have x3 : w9.cell? ⟨w.heap.size, 3, none⟩ = some (i64 n) := blk_cell HX9.out 3
  have x4 : w9.cell? ⟨w.heap.size, 4, none⟩ = some (i64 tt) := blk_cell HX9.out 4
  have x5 : w9.cell? ⟨w.heap.size, 5, none⟩ = some (i64 rts) := blk_cell HX9.out 5
  have x7 : w9.cell? ⟨w.heap.size, 7, none⟩ = some (i64 q0) := blk_cell HX9.out 7
  have x8 : w9.cell? ⟨w.heap.size, 8, none⟩ = some (i64 q1) := blk_cell HX9.out 8
  have x9 : w9.cell? ⟨w.heap.size, 9, none⟩ = some (i64 q2) := blk_cell HX9.out 9
  have y0 : w9.cell? ⟨w.heap.size + 1, 0, none⟩ = some (i64 n) := blk_cell HY9.out 0
  have y1 : w9.cell? ⟨w.heap.size + 1, 1, none⟩ = some (i64 rts) := blk_cell HY9.out 1
  go_wp2_with fail
  refine (root0 _ kind n).mono ?_
  rintro e w10 ⟨rfl, hb⟩
  have HB10 : Hid (Below w.heap.size w w10) := bel_then HB9 hb
  have HX10 : Hid (w10.heap[w.heap.size]? = some (.cells #[i64 what, i64 env, i64 kind, i64 n, i64 tt, i64 rts, .bool by_, i64 q0, i64 q1, i64 q2] 33)) := blk_below HX9.out hb
  have HY10 : Hid (w10.heap[w.heap.size + 1]? = some (hO n rts)) := blk_below HY9.out hb
  clear hb HB9 HX9 HY9 x1 x2 x3 x4 x5 x7 x8 x9 y0 y1
  have x1 : w10.cell? ⟨w.heap.size, 1, none⟩ = some (i64 env) := blk_cell HX10.out 1
  have x2 : w10.cell? ⟨w.heap.size, 2, none⟩ = some (i64 kind) := blk_cell HX10.out 2
  have x3 : w10.cell? ⟨w.heap.size, 3, none⟩ = some (i64 n) := blk_cell HX10.out 3
  have x4 : w10.cell? ⟨w.heap.size, 4, none⟩ = some (i64 tt) := blk_cell HX10.out 4
  have x5 : w10.cell? ⟨w.heap.size, 5, none⟩ = some (i64 rts) := blk_cell HX10.out 5
  have x7 : w10.cell? ⟨w.heap.size, 7, none⟩ = some (i64 q0) := blk_cell HX10.out 7
  have x8 : w10.cell? ⟨w.heap.size, 8, none⟩ = some (i64 q1) := blk_cell HX10.out 8
  have x9 : w10.cell? ⟨w.heap.size, 9, none⟩ = some (i64 q2) := blk_cell HX10.out 9
  have y0 : w10.cell? ⟨w.heap.size + 1, 0, none⟩ = some (i64 n) := blk_cell HY10.out 0
  have y1 : w10.cell? ⟨w.heap.size + 1, 1, none⟩ = some (i64 rts) := blk_cell HY10.out 1
  have hq : (Op.equalIn 10000 43 (.agg #[i64 0, i64 0]) (.agg #[i64 0, i64 0])).run Try.prog w10 = .ok true w10 := eql (0, 0) (0, 0) w10
  go_wp2_with fail
  refine (list_nil _ env kind).mono ?_
  rintro e w11 ⟨rfl, hb⟩
  have HB11 : Hid (Below w.heap.size w w11) := bel_then HB10 hb
  have HX11 : Hid (w11.heap[w.heap.size]? = some (.cells #[i64 what, i64 env, i64 kind, i64 n, i64 tt, i64 rts, .bool by_, i64 q0, i64 q1, i64 q2] 33)) := blk_below HX10.out hb
  have HY11 : Hid (w11.heap[w.heap.size + 1]? = some (hO n rts)) := blk_below HY10.out hb
  clear hq hb HB10 HX10 HY10 x1 x2 x3 x4 x5 x7 x8 x9 y0 y1
  have x1 : w11.cell? ⟨w.heap.size, 1, none⟩ = some (i64 env) := blk_cell HX11.out 1
  have x2 : w11.cell? ⟨w.heap.size, 2, none⟩ = some (i64 kind) := blk_cell HX11.out 2
  have x3 : w11.cell? ⟨w.heap.size, 3, none⟩ = some (i64 n) := blk_cell HX11.out 3
  have x4 : w11.cell? ⟨w.heap.size, 4, none⟩ = some (i64 tt) := blk_cell HX11.out 4
  have x5 : w11.cell? ⟨w.heap.size, 5, none⟩ = some (i64 rts) := blk_cell HX11.out 5
  have x7 : w11.cell? ⟨w.heap.size, 7, none⟩ = some (i64 q0) := blk_cell HX11.out 7
  have x8 : w11.cell? ⟨w.heap.size, 8, none⟩ = some (i64 q1) := blk_cell HX11.out 8
  have x9 : w11.cell? ⟨w.heap.size, 9, none⟩ = some (i64 q2) := blk_cell HX11.out 9
  have y0 : w11.cell? ⟨w.heap.size + 1, 0, none⟩ = some (i64 n) := blk_cell HY11.out 0
  have y1 : w11.cell? ⟨w.heap.size + 1, 1, none⟩ = some (i64 rts) := blk_cell HY11.out 1
  go_wp2_with fail
  refine (spare0 _).mono ?_
  rintro e w12 ⟨rfl, hb⟩
  have HB12 : Hid (Below w.heap.size w w12) := bel_then HB11 hb
  have HX12 : Hid (w12.heap[w.heap.size]? = some (.cells #[i64 what, i64 env, i64 kind, i64 n, i64 tt, i64 rts, .bool by_, i64 q0, i64 q1, i64 q2] 33)) := blk_below HX11.out hb
  have HY12 : Hid (w12.heap[w.heap.size + 1]? = some (hO n rts)) := blk_below HY11.out hb
  clear hb HB11 HX11 HY11 x1 x2 x3 x4 x5 x7 x8 x9 y0 y1
  have x1 : w12.cell? ⟨w.heap.size, 1, none⟩ = some (i64 env) := blk_cell HX12.out 1
  have x2 : w12.cell? ⟨w.heap.size, 2, none⟩ = some (i64 kind) := blk_cell HX12.out 2
  have x3 : w12.cell? ⟨w.heap.size, 3, none⟩ = some (i64 n) := blk_cell HX12.out 3
  have x4 : w12.cell? ⟨w.heap.size, 4, none⟩ = some (i64 tt) := blk_cell HX12.out 4
  have x5 : w12.cell? ⟨w.heap.size, 5, none⟩ = some (i64 rts) := blk_cell HX12.out 5
  have x7 : w12.cell? ⟨w.heap.size, 7, none⟩ = some (i64 q0) := blk_cell HX12.out 7
  have x8 : w12.cell? ⟨w.heap.size, 8, none⟩ = some (i64 q1) := blk_cell HX12.out 8
  have x9 : w12.cell? ⟨w.heap.size, 9, none⟩ = some (i64 q2) := blk_cell HX12.out 9
  have y0 : w12.cell? ⟨w.heap.size + 1, 0, none⟩ = some (i64 n) := blk_cell HY12.out 0
  have y1 : w12.cell? ⟨w.heap.size + 1, 1, none⟩ = some (i64 rts) := blk_cell HY12.out 1
  have hq : (Op.equalIn 10000 22 (.agg #[i64 0, i64 0, i64 0]) (.agg #[i64 0, i64 0, i64 0])).run Try.prog w12 = .ok true w12 := Qt.eqIn22 9998 ⟨0, 0, 0⟩ ⟨0, 0, 0⟩ w12
  go_wp2_with fail
  refine (paid_nil _ env).mono ?_
  rintro e w13 ⟨rfl, hb⟩
  have HB13 : Hid (Below w.heap.size w w13) := bel_then HB12 hb
  have HX13 : Hid (w13.heap[w.heap.size]? = some (.cells #[i64 what, i64 env, i64 kind, i64 n, i64 tt, i64 rts, .bool by_, i64 q0, i64 q1, i64 q2] 33)) := blk_below HX12.out hb
  have HY13 : Hid (w13.heap[w.heap.size + 1]? = some (hO n rts)) := blk_below HY12.out hb
  clear hq hb HB12 HX12 HY12 x1 x2 x3 x4 x5 x7 x8 x9 y0 y1
  go_wp2_with fail
  refine (frame_ok _).mono ?_
  rintro e w14 ⟨rfl, hb⟩
  have HB14 : Hid (Below w.heap.size w w14) := bel_then HB13 hb
  clear hb
  go_wp2_with fail
  go_ret
  exact ⟨rfl, HB14.out⟩
set_option maxRecDepth 100000 in
set_option maxHeartbeats 6400000 in
theorem nil_e (w : World) (what env kind n tt rts q0 q1 q2 : Int) (by_ : Bool) (h1 : ¬ env < 1) (h2 : ¬ 3 < env) (h3 : ¬ q0 < 0) (h4 : ¬ q1 < 0) (h5 : q2 < 0) (hX : (if badB env ⟨q0, q1, q2⟩ = true then (1 : Int) else 7) = 1) : Calls Try.prog 7 #[.agg #[i64 what, i64 env, i64 kind, i64 n, i64 tt, i64 rts, .bool by_, i64 q0, i64 q1, i64 q2]] w fun e w' => e = .returned (.bool true) ∧ Below w.heap.size w w' := by
  have HO : Hid (∀ W, Calls Try.prog 18 #[.pointer none, i64 env, .agg #[i64 q0, i64 q1, i64 q2]] W fun e w' => e = .returned (i64 1) ∧ Below W.heap.size W w') := fun W => open0 W env q0 q1 q2 1 hX
  have HB0 := bel_two w (.cells #[i64 what, i64 env, i64 kind, i64 n, i64 tt, i64 rts, .bool by_, i64 q0, i64 q1, i64 q2] 33) (.cells #[i64 n, i64 rts] 43)
  have HX0 : Hid (((w.alloc (.cells #[i64 what, i64 env, i64 kind, i64 n, i64 tt, i64 rts, .bool by_, i64 q0, i64 q1, i64 q2] 33)).alloc (.cells #[i64 n, i64 rts] 43)).heap[w.heap.size]? = some (.cells #[i64 what, i64 env, i64 kind, i64 n, i64 tt, i64 rts, .bool by_, i64 q0, i64 q1, i64 q2] 33)) := blk_alloc (heap_last w _) _
  have HY0 : Hid (((w.alloc (.cells #[i64 what, i64 env, i64 kind, i64 n, i64 tt, i64 rts, .bool by_, i64 q0, i64 q1, i64 q2] 33)).alloc (.cells #[i64 n, i64 rts] 43)).heap[w.heap.size + 1]? = some (hO n rts)) := by
    have := heap_last (w.alloc (.cells #[i64 what, i64 env, i64 kind, i64 n, i64 tt, i64 rts, .bool by_, i64 q0, i64 q1, i64 q2] 33)) (hO n rts)
    rwa [show (w.alloc (.cells #[i64 what, i64 env, i64 kind, i64 n, i64 tt, i64 rts, .bool by_, i64 q0, i64 q1, i64 q2] 33)).heap.size = w.heap.size + 1 by simp] at this
  clear hX
  go_enter Try.func7, Try.ntmps7
  go_upto_region 3 with fail
  generalize (w.alloc (.cells #[i64 what, i64 env, i64 kind, i64 n, i64 tt, i64 rts, .bool by_, i64 q0, i64 q1, i64 q2] 33)).alloc (.cells #[i64 n, i64 rts] 43) = w0 at *
  have x1 : w0.cell? ⟨w.heap.size, 1, none⟩ = some (i64 env) := blk_cell HX0.out 1
  have x2 : w0.cell? ⟨w.heap.size, 2, none⟩ = some (i64 kind) := blk_cell HX0.out 2
  have x3 : w0.cell? ⟨w.heap.size, 3, none⟩ = some (i64 n) := blk_cell HX0.out 3
  have x4 : w0.cell? ⟨w.heap.size, 4, none⟩ = some (i64 tt) := blk_cell HX0.out 4
  have x5 : w0.cell? ⟨w.heap.size, 5, none⟩ = some (i64 rts) := blk_cell HX0.out 5
  have x7 : w0.cell? ⟨w.heap.size, 7, none⟩ = some (i64 q0) := blk_cell HX0.out 7
  have x8 : w0.cell? ⟨w.heap.size, 8, none⟩ = some (i64 q1) := blk_cell HX0.out 8
  have x9 : w0.cell? ⟨w.heap.size, 9, none⟩ = some (i64 q2) := blk_cell HX0.out 9
  have y0 : w0.cell? ⟨w.heap.size + 1, 0, none⟩ = some (i64 n) := blk_cell HY0.out 0
  have y1 : w0.cell? ⟨w.heap.size + 1, 1, none⟩ = some (i64 rts) := blk_cell HY0.out 1
  go_wp2_with fail
  refine (HO.out _).mono ?_
  rintro e w1 ⟨rfl, hb⟩
  have HB1 : Hid (Below w.heap.size w w1) := bel_then HB0 hb
  have HX1 : Hid (w1.heap[w.heap.size]? = some (.cells #[i64 what, i64 env, i64 kind, i64 n, i64 tt, i64 rts, .bool by_, i64 q0, i64 q1, i64 q2] 33)) := blk_below HX0.out hb
  have HY1 : Hid (w1.heap[w.heap.size + 1]? = some (hO n rts)) := blk_below HY0.out hb
  clear hb HB0 HX0 HY0 x1 x2 x3 x4 x5 x7 x8 x9 y0 y1
  have x1 : w1.cell? ⟨w.heap.size, 1, none⟩ = some (i64 env) := blk_cell HX1.out 1
  have x2 : w1.cell? ⟨w.heap.size, 2, none⟩ = some (i64 kind) := blk_cell HX1.out 2
  have x3 : w1.cell? ⟨w.heap.size, 3, none⟩ = some (i64 n) := blk_cell HX1.out 3
  have x4 : w1.cell? ⟨w.heap.size, 4, none⟩ = some (i64 tt) := blk_cell HX1.out 4
  have x5 : w1.cell? ⟨w.heap.size, 5, none⟩ = some (i64 rts) := blk_cell HX1.out 5
  have x7 : w1.cell? ⟨w.heap.size, 7, none⟩ = some (i64 q0) := blk_cell HX1.out 7
  have x8 : w1.cell? ⟨w.heap.size, 8, none⟩ = some (i64 q1) := blk_cell HX1.out 8
  have x9 : w1.cell? ⟨w.heap.size, 9, none⟩ = some (i64 q2) := blk_cell HX1.out 9
  have y0 : w1.cell? ⟨w.heap.size + 1, 0, none⟩ = some (i64 n) := blk_cell HY1.out 0
  have y1 : w1.cell? ⟨w.heap.size + 1, 1, none⟩ = some (i64 rts) := blk_cell HY1.out 1
  go_wp2_with fail
  refine (bind0 _ env kind).mono ?_
  rintro e w2 ⟨rfl, hb⟩
  have HB2 : Hid (Below w.heap.size w (w2.alloc (.cells #[i64 0, i64 0] 43))) := bel_then (bel_then HB1 hb) (below_one w2 _)
  have HX2 : Hid ((w2.alloc (.cells #[i64 0, i64 0] 43)).heap[w.heap.size]? = some (.cells #[i64 what, i64 env, i64 kind, i64 n, i64 tt, i64 rts, .bool by_, i64 q0, i64 q1, i64 q2] 33)) := blk_alloc (blk_below HX1.out hb) _
  have HY2 : Hid ((w2.alloc (.cells #[i64 0, i64 0] 43)).heap[w.heap.size + 1]? = some (hO n rts)) := blk_alloc (blk_below HY1.out hb) _
  clear hb HB1 HX1 HY1 x1 x2 x3 x4 x5 x7 x8 x9 y0 y1
  go_upto_region 5 with fail
  generalize w2.alloc (.cells #[i64 0, i64 0] 43) = V2 at *
  generalize w2.heap.size = A2 at *
  have x1 : V2.cell? ⟨w.heap.size, 1, none⟩ = some (i64 env) := blk_cell HX2.out 1
  have x2 : V2.cell? ⟨w.heap.size, 2, none⟩ = some (i64 kind) := blk_cell HX2.out 2
  have x3 : V2.cell? ⟨w.heap.size, 3, none⟩ = some (i64 n) := blk_cell HX2.out 3
  have x4 : V2.cell? ⟨w.heap.size, 4, none⟩ = some (i64 tt) := blk_cell HX2.out 4
  have x5 : V2.cell? ⟨w.heap.size, 5, none⟩ = some (i64 rts) := blk_cell HX2.out 5
  have x7 : V2.cell? ⟨w.heap.size, 7, none⟩ = some (i64 q0) := blk_cell HX2.out 7
  have x8 : V2.cell? ⟨w.heap.size, 8, none⟩ = some (i64 q1) := blk_cell HX2.out 8
  have x9 : V2.cell? ⟨w.heap.size, 9, none⟩ = some (i64 q2) := blk_cell HX2.out 9
  have y0 : V2.cell? ⟨w.heap.size + 1, 0, none⟩ = some (i64 n) := blk_cell HY2.out 0
  have y1 : V2.cell? ⟨w.heap.size + 1, 1, none⟩ = some (i64 rts) := blk_cell HY2.out 1
  go_wp2_with fail
  refine (share0 _ env n rts tt rts).mono ?_
  rintro e w3 ⟨rfl, hb⟩
  have HB3 : Hid (Below w.heap.size w (w3.alloc (.cells #[i64 0, i64 0] 43))) := bel_then (bel_then HB2 hb) (below_one w3 _)
  have HX3 : Hid ((w3.alloc (.cells #[i64 0, i64 0] 43)).heap[w.heap.size]? = some (.cells #[i64 what, i64 env, i64 kind, i64 n, i64 tt, i64 rts, .bool by_, i64 q0, i64 q1, i64 q2] 33)) := blk_alloc (blk_below HX2.out hb) _
  have HY3 : Hid ((w3.alloc (.cells #[i64 0, i64 0] 43)).heap[w.heap.size + 1]? = some (hO n rts)) := blk_alloc (blk_below HY2.out hb) _
  clear hb HB2 HX2 HY2 x1 x2 x3 x4 x5 x7 x8 x9 y0 y1
  go_upto_region 6 with fail
  generalize w3.alloc (.cells #[i64 0, i64 0] 43) = V3 at *
  generalize w3.heap.size = A3 at *
  have x1 : V3.cell? ⟨w.heap.size, 1, none⟩ = some (i64 env) := blk_cell HX3.out 1
  have x2 : V3.cell? ⟨w.heap.size, 2, none⟩ = some (i64 kind) := blk_cell HX3.out 2
  have x3 : V3.cell? ⟨w.heap.size, 3, none⟩ = some (i64 n) := blk_cell HX3.out 3
  have x4 : V3.cell? ⟨w.heap.size, 4, none⟩ = some (i64 tt) := blk_cell HX3.out 4
  have x5 : V3.cell? ⟨w.heap.size, 5, none⟩ = some (i64 rts) := blk_cell HX3.out 5
  have x7 : V3.cell? ⟨w.heap.size, 7, none⟩ = some (i64 q0) := blk_cell HX3.out 7
  have x8 : V3.cell? ⟨w.heap.size, 8, none⟩ = some (i64 q1) := blk_cell HX3.out 8
  have x9 : V3.cell? ⟨w.heap.size, 9, none⟩ = some (i64 q2) := blk_cell HX3.out 9
  have y0 : V3.cell? ⟨w.heap.size + 1, 0, none⟩ = some (i64 n) := blk_cell HY3.out 0
  have y1 : V3.cell? ⟨w.heap.size + 1, 1, none⟩ = some (i64 rts) := blk_cell HY3.out 1
  go_wp2_with fail
  refine (brevoke_nil _ env n rts).mono ?_
  rintro e w4 ⟨rfl, hb⟩
  have HB4 : Hid (Below w.heap.size w w4) := bel_then HB3 hb
  have HX4 : Hid (w4.heap[w.heap.size]? = some (.cells #[i64 what, i64 env, i64 kind, i64 n, i64 tt, i64 rts, .bool by_, i64 q0, i64 q1, i64 q2] 33)) := blk_below HX3.out hb
  have HY4 : Hid (w4.heap[w.heap.size + 1]? = some (hO n rts)) := blk_below HY3.out hb
  clear hb HB3 HX3 HY3 x1 x2 x3 x4 x5 x7 x8 x9 y0 y1
  have x1 : w4.cell? ⟨w.heap.size, 1, none⟩ = some (i64 env) := blk_cell HX4.out 1
  have x2 : w4.cell? ⟨w.heap.size, 2, none⟩ = some (i64 kind) := blk_cell HX4.out 2
  have x3 : w4.cell? ⟨w.heap.size, 3, none⟩ = some (i64 n) := blk_cell HX4.out 3
  have x4 : w4.cell? ⟨w.heap.size, 4, none⟩ = some (i64 tt) := blk_cell HX4.out 4
  have x5 : w4.cell? ⟨w.heap.size, 5, none⟩ = some (i64 rts) := blk_cell HX4.out 5
  have x7 : w4.cell? ⟨w.heap.size, 7, none⟩ = some (i64 q0) := blk_cell HX4.out 7
  have x8 : w4.cell? ⟨w.heap.size, 8, none⟩ = some (i64 q1) := blk_cell HX4.out 8
  have x9 : w4.cell? ⟨w.heap.size, 9, none⟩ = some (i64 q2) := blk_cell HX4.out 9
  have y0 : w4.cell? ⟨w.heap.size + 1, 0, none⟩ = some (i64 n) := blk_cell HY4.out 0
  have y1 : w4.cell? ⟨w.heap.size + 1, 1, none⟩ = some (i64 rts) := blk_cell HY4.out 1
  go_wp2_with fail
  refine (number0 _ env n rts kind).mono ?_
  rintro e w5 ⟨rfl, hb⟩
  have HB5 : Hid (Below w.heap.size w w5) := bel_then HB4 hb
  have HX5 : Hid (w5.heap[w.heap.size]? = some (.cells #[i64 what, i64 env, i64 kind, i64 n, i64 tt, i64 rts, .bool by_, i64 q0, i64 q1, i64 q2] 33)) := blk_below HX4.out hb
  have HY5 : Hid (w5.heap[w.heap.size + 1]? = some (hO n rts)) := blk_below HY4.out hb
  clear hb HB4 HX4 HY4 x1 x2 x3 x4 x5 x7 x8 x9 y0 y1
  have x1 : w5.cell? ⟨w.heap.size, 1, none⟩ = some (i64 env) := blk_cell HX5.out 1
  have x2 : w5.cell? ⟨w.heap.size, 2, none⟩ = some (i64 kind) := blk_cell HX5.out 2
  have x3 : w5.cell? ⟨w.heap.size, 3, none⟩ = some (i64 n) := blk_cell HX5.out 3
  have x4 : w5.cell? ⟨w.heap.size, 4, none⟩ = some (i64 tt) := blk_cell HX5.out 4
  have x5 : w5.cell? ⟨w.heap.size, 5, none⟩ = some (i64 rts) := blk_cell HX5.out 5
  have x7 : w5.cell? ⟨w.heap.size, 7, none⟩ = some (i64 q0) := blk_cell HX5.out 7
  have x8 : w5.cell? ⟨w.heap.size, 8, none⟩ = some (i64 q1) := blk_cell HX5.out 8
  have x9 : w5.cell? ⟨w.heap.size, 9, none⟩ = some (i64 q2) := blk_cell HX5.out 9
  have y0 : w5.cell? ⟨w.heap.size + 1, 0, none⟩ = some (i64 n) := blk_cell HY5.out 0
  have y1 : w5.cell? ⟨w.heap.size + 1, 1, none⟩ = some (i64 rts) := blk_cell HY5.out 1
  go_wp2_with fail
  refine (left0 _ env).mono ?_
  rintro e w6 ⟨rfl, hb⟩
  have HB6 : Hid (Below w.heap.size w (w6.alloc (.cells #[i64 0, i64 0, i64 0] 22))) := bel_then (bel_then HB5 hb) (below_one w6 _)
  have HX6 : Hid ((w6.alloc (.cells #[i64 0, i64 0, i64 0] 22)).heap[w.heap.size]? = some (.cells #[i64 what, i64 env, i64 kind, i64 n, i64 tt, i64 rts, .bool by_, i64 q0, i64 q1, i64 q2] 33)) := blk_alloc (blk_below HX5.out hb) _
  have HY6 : Hid ((w6.alloc (.cells #[i64 0, i64 0, i64 0] 22)).heap[w.heap.size + 1]? = some (hO n rts)) := blk_alloc (blk_below HY5.out hb) _
  clear hb HB5 HX5 HY5 x1 x2 x3 x4 x5 x7 x8 x9 y0 y1
  go_upto_region 9 with fail
  generalize w6.alloc (.cells #[i64 0, i64 0, i64 0] 22) = V6 at *
  generalize w6.heap.size = A6 at *
  have x1 : V6.cell? ⟨w.heap.size, 1, none⟩ = some (i64 env) := blk_cell HX6.out 1
  have x2 : V6.cell? ⟨w.heap.size, 2, none⟩ = some (i64 kind) := blk_cell HX6.out 2
  have x3 : V6.cell? ⟨w.heap.size, 3, none⟩ = some (i64 n) := blk_cell HX6.out 3
  have x4 : V6.cell? ⟨w.heap.size, 4, none⟩ = some (i64 tt) := blk_cell HX6.out 4
  have x5 : V6.cell? ⟨w.heap.size, 5, none⟩ = some (i64 rts) := blk_cell HX6.out 5
  have x7 : V6.cell? ⟨w.heap.size, 7, none⟩ = some (i64 q0) := blk_cell HX6.out 7
  have x8 : V6.cell? ⟨w.heap.size, 8, none⟩ = some (i64 q1) := blk_cell HX6.out 8
  have x9 : V6.cell? ⟨w.heap.size, 9, none⟩ = some (i64 q2) := blk_cell HX6.out 9
  have y0 : V6.cell? ⟨w.heap.size + 1, 0, none⟩ = some (i64 n) := blk_cell HY6.out 0
  have y1 : V6.cell? ⟨w.heap.size + 1, 1, none⟩ = some (i64 rts) := blk_cell HY6.out 1
  go_wp2_with fail
  refine (bclose_nil _ env).mono ?_
  rintro e w7 ⟨rfl, hb⟩
  have HB7 : Hid (Below w.heap.size w w7) := bel_then HB6 hb
  have HX7 : Hid (w7.heap[w.heap.size]? = some (.cells #[i64 what, i64 env, i64 kind, i64 n, i64 tt, i64 rts, .bool by_, i64 q0, i64 q1, i64 q2] 33)) := blk_below HX6.out hb
  have HY7 : Hid (w7.heap[w.heap.size + 1]? = some (hO n rts)) := blk_below HY6.out hb
  clear hb HB6 HX6 HY6 x1 x2 x3 x4 x5 x7 x8 x9 y0 y1
  have x1 : w7.cell? ⟨w.heap.size, 1, none⟩ = some (i64 env) := blk_cell HX7.out 1
  have x2 : w7.cell? ⟨w.heap.size, 2, none⟩ = some (i64 kind) := blk_cell HX7.out 2
  have x3 : w7.cell? ⟨w.heap.size, 3, none⟩ = some (i64 n) := blk_cell HX7.out 3
  have x4 : w7.cell? ⟨w.heap.size, 4, none⟩ = some (i64 tt) := blk_cell HX7.out 4
  have x5 : w7.cell? ⟨w.heap.size, 5, none⟩ = some (i64 rts) := blk_cell HX7.out 5
  have x7 : w7.cell? ⟨w.heap.size, 7, none⟩ = some (i64 q0) := blk_cell HX7.out 7
  have x8 : w7.cell? ⟨w.heap.size, 8, none⟩ = some (i64 q1) := blk_cell HX7.out 8
  have x9 : w7.cell? ⟨w.heap.size, 9, none⟩ = some (i64 q2) := blk_cell HX7.out 9
  have y0 : w7.cell? ⟨w.heap.size + 1, 0, none⟩ = some (i64 n) := blk_cell HY7.out 0
  have y1 : w7.cell? ⟨w.heap.size + 1, 1, none⟩ = some (i64 rts) := blk_cell HY7.out 1
  go_wp2_with fail
  refine (free0 _ env n rts).mono ?_
  rintro e w8 ⟨rfl, hb⟩
  have HB8 : Hid (Below w.heap.size w w8) := bel_then HB7 hb
  have HX8 : Hid (w8.heap[w.heap.size]? = some (.cells #[i64 what, i64 env, i64 kind, i64 n, i64 tt, i64 rts, .bool by_, i64 q0, i64 q1, i64 q2] 33)) := blk_below HX7.out hb
  have HY8 : Hid (w8.heap[w.heap.size + 1]? = some (hO n rts)) := blk_below HY7.out hb
  clear hb HB7 HX7 HY7 x1 x2 x3 x4 x5 x7 x8 x9 y0 y1
  have x1 : w8.cell? ⟨w.heap.size, 1, none⟩ = some (i64 env) := blk_cell HX8.out 1
  have x2 : w8.cell? ⟨w.heap.size, 2, none⟩ = some (i64 kind) := blk_cell HX8.out 2
  have x3 : w8.cell? ⟨w.heap.size, 3, none⟩ = some (i64 n) := blk_cell HX8.out 3
  have x4 : w8.cell? ⟨w.heap.size, 4, none⟩ = some (i64 tt) := blk_cell HX8.out 4
  have x5 : w8.cell? ⟨w.heap.size, 5, none⟩ = some (i64 rts) := blk_cell HX8.out 5
  have x7 : w8.cell? ⟨w.heap.size, 7, none⟩ = some (i64 q0) := blk_cell HX8.out 7
  have x8 : w8.cell? ⟨w.heap.size, 8, none⟩ = some (i64 q1) := blk_cell HX8.out 8
  have x9 : w8.cell? ⟨w.heap.size, 9, none⟩ = some (i64 q2) := blk_cell HX8.out 9
  have y0 : w8.cell? ⟨w.heap.size + 1, 0, none⟩ = some (i64 n) := blk_cell HY8.out 0
  have y1 : w8.cell? ⟨w.heap.size + 1, 1, none⟩ = some (i64 rts) := blk_cell HY8.out 1
  go_wp2_with fail
  refine (owner_nil _ kind n).mono ?_
  rintro e w9 ⟨rfl, hb⟩
  have HB9 : Hid (Below w.heap.size w w9) := bel_then HB8 hb
  have HX9 : Hid (w9.heap[w.heap.size]? = some (.cells #[i64 what, i64 env, i64 kind, i64 n, i64 tt, i64 rts, .bool by_, i64 q0, i64 q1, i64 q2] 33)) := blk_below HX8.out hb
  have HY9 : Hid (w9.heap[w.heap.size + 1]? = some (hO n rts)) := blk_below HY8.out hb
  clear hb HB8 HX8 HY8 x1 x2 x3 x4 x5 x7 x8 x9 y0 y1
  have x1 : w9.cell? ⟨w.heap.size, 1, none⟩ = some (i64 env) := blk_cell HX9.out 1
  have x2 : w9.cell? ⟨w.heap.size, 2, none⟩ = some (i64 kind) := blk_cell HX9.out 2
  have x3 : w9.cell? ⟨w.heap.size, 3, none⟩ = some (i64 n) := blk_cell HX9.out 3
  have x4 : w9.cell? ⟨w.heap.size, 4, none⟩ = some (i64 tt) := blk_cell HX9.out 4
  have x5 : w9.cell? ⟨w.heap.size, 5, none⟩ = some (i64 rts) := blk_cell HX9.out 5
  have x7 : w9.cell? ⟨w.heap.size, 7, none⟩ = some (i64 q0) := blk_cell HX9.out 7
  have x8 : w9.cell? ⟨w.heap.size, 8, none⟩ = some (i64 q1) := blk_cell HX9.out 8
  have x9 : w9.cell? ⟨w.heap.size, 9, none⟩ = some (i64 q2) := blk_cell HX9.out 9
  have y0 : w9.cell? ⟨w.heap.size + 1, 0, none⟩ = some (i64 n) := blk_cell HY9.out 0
  have y1 : w9.cell? ⟨w.heap.size + 1, 1, none⟩ = some (i64 rts) := blk_cell HY9.out 1
  go_wp2_with fail
  refine (root0 _ kind n).mono ?_
  rintro e w10 ⟨rfl, hb⟩
  have HB10 : Hid (Below w.heap.size w w10) := bel_then HB9 hb
  have HX10 : Hid (w10.heap[w.heap.size]? = some (.cells #[i64 what, i64 env, i64 kind, i64 n, i64 tt, i64 rts, .bool by_, i64 q0, i64 q1, i64 q2] 33)) := blk_below HX9.out hb
  have HY10 : Hid (w10.heap[w.heap.size + 1]? = some (hO n rts)) := blk_below HY9.out hb
  clear hb HB9 HX9 HY9 x1 x2 x3 x4 x5 x7 x8 x9 y0 y1
  have x1 : w10.cell? ⟨w.heap.size, 1, none⟩ = some (i64 env) := blk_cell HX10.out 1
  have x2 : w10.cell? ⟨w.heap.size, 2, none⟩ = some (i64 kind) := blk_cell HX10.out 2
  have x3 : w10.cell? ⟨w.heap.size, 3, none⟩ = some (i64 n) := blk_cell HX10.out 3
  have x4 : w10.cell? ⟨w.heap.size, 4, none⟩ = some (i64 tt) := blk_cell HX10.out 4
  have x5 : w10.cell? ⟨w.heap.size, 5, none⟩ = some (i64 rts) := blk_cell HX10.out 5
  have x7 : w10.cell? ⟨w.heap.size, 7, none⟩ = some (i64 q0) := blk_cell HX10.out 7
  have x8 : w10.cell? ⟨w.heap.size, 8, none⟩ = some (i64 q1) := blk_cell HX10.out 8
  have x9 : w10.cell? ⟨w.heap.size, 9, none⟩ = some (i64 q2) := blk_cell HX10.out 9
  have y0 : w10.cell? ⟨w.heap.size + 1, 0, none⟩ = some (i64 n) := blk_cell HY10.out 0
  have y1 : w10.cell? ⟨w.heap.size + 1, 1, none⟩ = some (i64 rts) := blk_cell HY10.out 1
  have hq : (Op.equalIn 10000 43 (.agg #[i64 0, i64 0]) (.agg #[i64 0, i64 0])).run Try.prog w10 = .ok true w10 := eql (0, 0) (0, 0) w10
  go_wp2_with fail
  refine (list_nil _ env kind).mono ?_
  rintro e w11 ⟨rfl, hb⟩
  have HB11 : Hid (Below w.heap.size w w11) := bel_then HB10 hb
  have HX11 : Hid (w11.heap[w.heap.size]? = some (.cells #[i64 what, i64 env, i64 kind, i64 n, i64 tt, i64 rts, .bool by_, i64 q0, i64 q1, i64 q2] 33)) := blk_below HX10.out hb
  have HY11 : Hid (w11.heap[w.heap.size + 1]? = some (hO n rts)) := blk_below HY10.out hb
  clear hq hb HB10 HX10 HY10 x1 x2 x3 x4 x5 x7 x8 x9 y0 y1
  have x1 : w11.cell? ⟨w.heap.size, 1, none⟩ = some (i64 env) := blk_cell HX11.out 1
  have x2 : w11.cell? ⟨w.heap.size, 2, none⟩ = some (i64 kind) := blk_cell HX11.out 2
  have x3 : w11.cell? ⟨w.heap.size, 3, none⟩ = some (i64 n) := blk_cell HX11.out 3
  have x4 : w11.cell? ⟨w.heap.size, 4, none⟩ = some (i64 tt) := blk_cell HX11.out 4
  have x5 : w11.cell? ⟨w.heap.size, 5, none⟩ = some (i64 rts) := blk_cell HX11.out 5
  have x7 : w11.cell? ⟨w.heap.size, 7, none⟩ = some (i64 q0) := blk_cell HX11.out 7
  have x8 : w11.cell? ⟨w.heap.size, 8, none⟩ = some (i64 q1) := blk_cell HX11.out 8
  have x9 : w11.cell? ⟨w.heap.size, 9, none⟩ = some (i64 q2) := blk_cell HX11.out 9
  have y0 : w11.cell? ⟨w.heap.size + 1, 0, none⟩ = some (i64 n) := blk_cell HY11.out 0
  have y1 : w11.cell? ⟨w.heap.size + 1, 1, none⟩ = some (i64 rts) := blk_cell HY11.out 1
  go_wp2_with fail
  refine (spare0 _).mono ?_
  rintro e w12 ⟨rfl, hb⟩
  have HB12 : Hid (Below w.heap.size w w12) := bel_then HB11 hb
  have HX12 : Hid (w12.heap[w.heap.size]? = some (.cells #[i64 what, i64 env, i64 kind, i64 n, i64 tt, i64 rts, .bool by_, i64 q0, i64 q1, i64 q2] 33)) := blk_below HX11.out hb
  have HY12 : Hid (w12.heap[w.heap.size + 1]? = some (hO n rts)) := blk_below HY11.out hb
  clear hb HB11 HX11 HY11 x1 x2 x3 x4 x5 x7 x8 x9 y0 y1
  have x1 : w12.cell? ⟨w.heap.size, 1, none⟩ = some (i64 env) := blk_cell HX12.out 1
  have x2 : w12.cell? ⟨w.heap.size, 2, none⟩ = some (i64 kind) := blk_cell HX12.out 2
  have x3 : w12.cell? ⟨w.heap.size, 3, none⟩ = some (i64 n) := blk_cell HX12.out 3
  have x4 : w12.cell? ⟨w.heap.size, 4, none⟩ = some (i64 tt) := blk_cell HX12.out 4
  have x5 : w12.cell? ⟨w.heap.size, 5, none⟩ = some (i64 rts) := blk_cell HX12.out 5
  have x7 : w12.cell? ⟨w.heap.size, 7, none⟩ = some (i64 q0) := blk_cell HX12.out 7
  have x8 : w12.cell? ⟨w.heap.size, 8, none⟩ = some (i64 q1) := blk_cell HX12.out 8
  have x9 : w12.cell? ⟨w.heap.size, 9, none⟩ = some (i64 q2) := blk_cell HX12.out 9
  have y0 : w12.cell? ⟨w.heap.size + 1, 0, none⟩ = some (i64 n) := blk_cell HY12.out 0
  have y1 : w12.cell? ⟨w.heap.size + 1, 1, none⟩ = some (i64 rts) := blk_cell HY12.out 1
  have hq : (Op.equalIn 10000 22 (.agg #[i64 0, i64 0, i64 0]) (.agg #[i64 0, i64 0, i64 0])).run Try.prog w12 = .ok true w12 := Qt.eqIn22 9998 ⟨0, 0, 0⟩ ⟨0, 0, 0⟩ w12
  go_wp2_with fail
  refine (paid_nil _ env).mono ?_
  rintro e w13 ⟨rfl, hb⟩
  have HB13 : Hid (Below w.heap.size w w13) := bel_then HB12 hb
  have HX13 : Hid (w13.heap[w.heap.size]? = some (.cells #[i64 what, i64 env, i64 kind, i64 n, i64 tt, i64 rts, .bool by_, i64 q0, i64 q1, i64 q2] 33)) := blk_below HX12.out hb
  have HY13 : Hid (w13.heap[w.heap.size + 1]? = some (hO n rts)) := blk_below HY12.out hb
  clear hq hb HB12 HX12 HY12 x1 x2 x3 x4 x5 x7 x8 x9 y0 y1
  go_wp2_with fail
  refine (frame_ok _).mono ?_
  rintro e w14 ⟨rfl, hb⟩
  have HB14 : Hid (Below w.heap.size w w14) := bel_then HB13 hb
  clear hb
  go_wp2_with fail
  go_ret
  exact ⟨rfl, HB14.out⟩
set_option maxRecDepth 100000 in
set_option maxHeartbeats 6400000 in
theorem nil_f (w : World) (what env kind n tt rts q0 q1 q2 : Int) (by_ : Bool) (h1 : ¬ env < 1) (h2 : ¬ 3 < env) (h3 : ¬ q0 < 0) (h4 : ¬ q1 < 0) (h5 : ¬ q2 < 0) (hX : (if badB env ⟨q0, q1, q2⟩ = true then (1 : Int) else 7) = 7) : Calls Try.prog 7 #[.agg #[i64 what, i64 env, i64 kind, i64 n, i64 tt, i64 rts, .bool by_, i64 q0, i64 q1, i64 q2]] w fun e w' => e = .returned (.bool true) ∧ Below w.heap.size w w' := by
  have HO : Hid (∀ W, Calls Try.prog 18 #[.pointer none, i64 env, .agg #[i64 q0, i64 q1, i64 q2]] W fun e w' => e = .returned (i64 7) ∧ Below W.heap.size W w') := fun W => open0 W env q0 q1 q2 7 hX
  have HB0 := bel_two w (.cells #[i64 what, i64 env, i64 kind, i64 n, i64 tt, i64 rts, .bool by_, i64 q0, i64 q1, i64 q2] 33) (.cells #[i64 n, i64 rts] 43)
  have HX0 : Hid (((w.alloc (.cells #[i64 what, i64 env, i64 kind, i64 n, i64 tt, i64 rts, .bool by_, i64 q0, i64 q1, i64 q2] 33)).alloc (.cells #[i64 n, i64 rts] 43)).heap[w.heap.size]? = some (.cells #[i64 what, i64 env, i64 kind, i64 n, i64 tt, i64 rts, .bool by_, i64 q0, i64 q1, i64 q2] 33)) := blk_alloc (heap_last w _) _
  have HY0 : Hid (((w.alloc (.cells #[i64 what, i64 env, i64 kind, i64 n, i64 tt, i64 rts, .bool by_, i64 q0, i64 q1, i64 q2] 33)).alloc (.cells #[i64 n, i64 rts] 43)).heap[w.heap.size + 1]? = some (hO n rts)) := by
    have := heap_last (w.alloc (.cells #[i64 what, i64 env, i64 kind, i64 n, i64 tt, i64 rts, .bool by_, i64 q0, i64 q1, i64 q2] 33)) (hO n rts)
    rwa [show (w.alloc (.cells #[i64 what, i64 env, i64 kind, i64 n, i64 tt, i64 rts, .bool by_, i64 q0, i64 q1, i64 q2] 33)).heap.size = w.heap.size + 1 by simp] at this
  clear hX
  go_enter Try.func7, Try.ntmps7
  go_upto_region 3 with fail
  generalize (w.alloc (.cells #[i64 what, i64 env, i64 kind, i64 n, i64 tt, i64 rts, .bool by_, i64 q0, i64 q1, i64 q2] 33)).alloc (.cells #[i64 n, i64 rts] 43) = w0 at *
  have x1 : w0.cell? ⟨w.heap.size, 1, none⟩ = some (i64 env) := blk_cell HX0.out 1
  have x2 : w0.cell? ⟨w.heap.size, 2, none⟩ = some (i64 kind) := blk_cell HX0.out 2
  have x3 : w0.cell? ⟨w.heap.size, 3, none⟩ = some (i64 n) := blk_cell HX0.out 3
  have x4 : w0.cell? ⟨w.heap.size, 4, none⟩ = some (i64 tt) := blk_cell HX0.out 4
  have x5 : w0.cell? ⟨w.heap.size, 5, none⟩ = some (i64 rts) := blk_cell HX0.out 5
  have x7 : w0.cell? ⟨w.heap.size, 7, none⟩ = some (i64 q0) := blk_cell HX0.out 7
  have x8 : w0.cell? ⟨w.heap.size, 8, none⟩ = some (i64 q1) := blk_cell HX0.out 8
  have x9 : w0.cell? ⟨w.heap.size, 9, none⟩ = some (i64 q2) := blk_cell HX0.out 9
  have y0 : w0.cell? ⟨w.heap.size + 1, 0, none⟩ = some (i64 n) := blk_cell HY0.out 0
  have y1 : w0.cell? ⟨w.heap.size + 1, 1, none⟩ = some (i64 rts) := blk_cell HY0.out 1
  go_wp2_with fail
  refine (HO.out _).mono ?_
  rintro e w1 ⟨rfl, hb⟩
  have HB1 : Hid (Below w.heap.size w w1) := bel_then HB0 hb
  have HX1 : Hid (w1.heap[w.heap.size]? = some (.cells #[i64 what, i64 env, i64 kind, i64 n, i64 tt, i64 rts, .bool by_, i64 q0, i64 q1, i64 q2] 33)) := blk_below HX0.out hb
  have HY1 : Hid (w1.heap[w.heap.size + 1]? = some (hO n rts)) := blk_below HY0.out hb
  clear hb HB0 HX0 HY0 x1 x2 x3 x4 x5 x7 x8 x9 y0 y1
  have x1 : w1.cell? ⟨w.heap.size, 1, none⟩ = some (i64 env) := blk_cell HX1.out 1
  have x2 : w1.cell? ⟨w.heap.size, 2, none⟩ = some (i64 kind) := blk_cell HX1.out 2
  have x3 : w1.cell? ⟨w.heap.size, 3, none⟩ = some (i64 n) := blk_cell HX1.out 3
  have x4 : w1.cell? ⟨w.heap.size, 4, none⟩ = some (i64 tt) := blk_cell HX1.out 4
  have x5 : w1.cell? ⟨w.heap.size, 5, none⟩ = some (i64 rts) := blk_cell HX1.out 5
  have x7 : w1.cell? ⟨w.heap.size, 7, none⟩ = some (i64 q0) := blk_cell HX1.out 7
  have x8 : w1.cell? ⟨w.heap.size, 8, none⟩ = some (i64 q1) := blk_cell HX1.out 8
  have x9 : w1.cell? ⟨w.heap.size, 9, none⟩ = some (i64 q2) := blk_cell HX1.out 9
  have y0 : w1.cell? ⟨w.heap.size + 1, 0, none⟩ = some (i64 n) := blk_cell HY1.out 0
  have y1 : w1.cell? ⟨w.heap.size + 1, 1, none⟩ = some (i64 rts) := blk_cell HY1.out 1
  go_wp2_with fail
  refine (bind0 _ env kind).mono ?_
  rintro e w2 ⟨rfl, hb⟩
  have HB2 : Hid (Below w.heap.size w (w2.alloc (.cells #[i64 0, i64 0] 43))) := bel_then (bel_then HB1 hb) (below_one w2 _)
  have HX2 : Hid ((w2.alloc (.cells #[i64 0, i64 0] 43)).heap[w.heap.size]? = some (.cells #[i64 what, i64 env, i64 kind, i64 n, i64 tt, i64 rts, .bool by_, i64 q0, i64 q1, i64 q2] 33)) := blk_alloc (blk_below HX1.out hb) _
  have HY2 : Hid ((w2.alloc (.cells #[i64 0, i64 0] 43)).heap[w.heap.size + 1]? = some (hO n rts)) := blk_alloc (blk_below HY1.out hb) _
  clear hb HB1 HX1 HY1 x1 x2 x3 x4 x5 x7 x8 x9 y0 y1
  go_upto_region 5 with fail
  generalize w2.alloc (.cells #[i64 0, i64 0] 43) = V2 at *
  generalize w2.heap.size = A2 at *
  have x1 : V2.cell? ⟨w.heap.size, 1, none⟩ = some (i64 env) := blk_cell HX2.out 1
  have x2 : V2.cell? ⟨w.heap.size, 2, none⟩ = some (i64 kind) := blk_cell HX2.out 2
  have x3 : V2.cell? ⟨w.heap.size, 3, none⟩ = some (i64 n) := blk_cell HX2.out 3
  have x4 : V2.cell? ⟨w.heap.size, 4, none⟩ = some (i64 tt) := blk_cell HX2.out 4
  have x5 : V2.cell? ⟨w.heap.size, 5, none⟩ = some (i64 rts) := blk_cell HX2.out 5
  have x7 : V2.cell? ⟨w.heap.size, 7, none⟩ = some (i64 q0) := blk_cell HX2.out 7
  have x8 : V2.cell? ⟨w.heap.size, 8, none⟩ = some (i64 q1) := blk_cell HX2.out 8
  have x9 : V2.cell? ⟨w.heap.size, 9, none⟩ = some (i64 q2) := blk_cell HX2.out 9
  have y0 : V2.cell? ⟨w.heap.size + 1, 0, none⟩ = some (i64 n) := blk_cell HY2.out 0
  have y1 : V2.cell? ⟨w.heap.size + 1, 1, none⟩ = some (i64 rts) := blk_cell HY2.out 1
  go_wp2_with fail
  refine (share0 _ env n rts tt rts).mono ?_
  rintro e w3 ⟨rfl, hb⟩
  have HB3 : Hid (Below w.heap.size w (w3.alloc (.cells #[i64 0, i64 0] 43))) := bel_then (bel_then HB2 hb) (below_one w3 _)
  have HX3 : Hid ((w3.alloc (.cells #[i64 0, i64 0] 43)).heap[w.heap.size]? = some (.cells #[i64 what, i64 env, i64 kind, i64 n, i64 tt, i64 rts, .bool by_, i64 q0, i64 q1, i64 q2] 33)) := blk_alloc (blk_below HX2.out hb) _
  have HY3 : Hid ((w3.alloc (.cells #[i64 0, i64 0] 43)).heap[w.heap.size + 1]? = some (hO n rts)) := blk_alloc (blk_below HY2.out hb) _
  clear hb HB2 HX2 HY2 x1 x2 x3 x4 x5 x7 x8 x9 y0 y1
  go_upto_region 6 with fail
  generalize w3.alloc (.cells #[i64 0, i64 0] 43) = V3 at *
  generalize w3.heap.size = A3 at *
  have x1 : V3.cell? ⟨w.heap.size, 1, none⟩ = some (i64 env) := blk_cell HX3.out 1
  have x2 : V3.cell? ⟨w.heap.size, 2, none⟩ = some (i64 kind) := blk_cell HX3.out 2
  have x3 : V3.cell? ⟨w.heap.size, 3, none⟩ = some (i64 n) := blk_cell HX3.out 3
  have x4 : V3.cell? ⟨w.heap.size, 4, none⟩ = some (i64 tt) := blk_cell HX3.out 4
  have x5 : V3.cell? ⟨w.heap.size, 5, none⟩ = some (i64 rts) := blk_cell HX3.out 5
  have x7 : V3.cell? ⟨w.heap.size, 7, none⟩ = some (i64 q0) := blk_cell HX3.out 7
  have x8 : V3.cell? ⟨w.heap.size, 8, none⟩ = some (i64 q1) := blk_cell HX3.out 8
  have x9 : V3.cell? ⟨w.heap.size, 9, none⟩ = some (i64 q2) := blk_cell HX3.out 9
  have y0 : V3.cell? ⟨w.heap.size + 1, 0, none⟩ = some (i64 n) := blk_cell HY3.out 0
  have y1 : V3.cell? ⟨w.heap.size + 1, 1, none⟩ = some (i64 rts) := blk_cell HY3.out 1
  go_wp2_with fail
  refine (brevoke_nil _ env n rts).mono ?_
  rintro e w4 ⟨rfl, hb⟩
  have HB4 : Hid (Below w.heap.size w w4) := bel_then HB3 hb
  have HX4 : Hid (w4.heap[w.heap.size]? = some (.cells #[i64 what, i64 env, i64 kind, i64 n, i64 tt, i64 rts, .bool by_, i64 q0, i64 q1, i64 q2] 33)) := blk_below HX3.out hb
  have HY4 : Hid (w4.heap[w.heap.size + 1]? = some (hO n rts)) := blk_below HY3.out hb
  clear hb HB3 HX3 HY3 x1 x2 x3 x4 x5 x7 x8 x9 y0 y1
  have x1 : w4.cell? ⟨w.heap.size, 1, none⟩ = some (i64 env) := blk_cell HX4.out 1
  have x2 : w4.cell? ⟨w.heap.size, 2, none⟩ = some (i64 kind) := blk_cell HX4.out 2
  have x3 : w4.cell? ⟨w.heap.size, 3, none⟩ = some (i64 n) := blk_cell HX4.out 3
  have x4 : w4.cell? ⟨w.heap.size, 4, none⟩ = some (i64 tt) := blk_cell HX4.out 4
  have x5 : w4.cell? ⟨w.heap.size, 5, none⟩ = some (i64 rts) := blk_cell HX4.out 5
  have x7 : w4.cell? ⟨w.heap.size, 7, none⟩ = some (i64 q0) := blk_cell HX4.out 7
  have x8 : w4.cell? ⟨w.heap.size, 8, none⟩ = some (i64 q1) := blk_cell HX4.out 8
  have x9 : w4.cell? ⟨w.heap.size, 9, none⟩ = some (i64 q2) := blk_cell HX4.out 9
  have y0 : w4.cell? ⟨w.heap.size + 1, 0, none⟩ = some (i64 n) := blk_cell HY4.out 0
  have y1 : w4.cell? ⟨w.heap.size + 1, 1, none⟩ = some (i64 rts) := blk_cell HY4.out 1
  go_wp2_with fail
  refine (number0 _ env n rts kind).mono ?_
  rintro e w5 ⟨rfl, hb⟩
  have HB5 : Hid (Below w.heap.size w w5) := bel_then HB4 hb
  have HX5 : Hid (w5.heap[w.heap.size]? = some (.cells #[i64 what, i64 env, i64 kind, i64 n, i64 tt, i64 rts, .bool by_, i64 q0, i64 q1, i64 q2] 33)) := blk_below HX4.out hb
  have HY5 : Hid (w5.heap[w.heap.size + 1]? = some (hO n rts)) := blk_below HY4.out hb
  clear hb HB4 HX4 HY4 x1 x2 x3 x4 x5 x7 x8 x9 y0 y1
  have x1 : w5.cell? ⟨w.heap.size, 1, none⟩ = some (i64 env) := blk_cell HX5.out 1
  have x2 : w5.cell? ⟨w.heap.size, 2, none⟩ = some (i64 kind) := blk_cell HX5.out 2
  have x3 : w5.cell? ⟨w.heap.size, 3, none⟩ = some (i64 n) := blk_cell HX5.out 3
  have x4 : w5.cell? ⟨w.heap.size, 4, none⟩ = some (i64 tt) := blk_cell HX5.out 4
  have x5 : w5.cell? ⟨w.heap.size, 5, none⟩ = some (i64 rts) := blk_cell HX5.out 5
  have x7 : w5.cell? ⟨w.heap.size, 7, none⟩ = some (i64 q0) := blk_cell HX5.out 7
  have x8 : w5.cell? ⟨w.heap.size, 8, none⟩ = some (i64 q1) := blk_cell HX5.out 8
  have x9 : w5.cell? ⟨w.heap.size, 9, none⟩ = some (i64 q2) := blk_cell HX5.out 9
  have y0 : w5.cell? ⟨w.heap.size + 1, 0, none⟩ = some (i64 n) := blk_cell HY5.out 0
  have y1 : w5.cell? ⟨w.heap.size + 1, 1, none⟩ = some (i64 rts) := blk_cell HY5.out 1
  go_wp2_with fail
  refine (left0 _ env).mono ?_
  rintro e w6 ⟨rfl, hb⟩
  have HB6 : Hid (Below w.heap.size w (w6.alloc (.cells #[i64 0, i64 0, i64 0] 22))) := bel_then (bel_then HB5 hb) (below_one w6 _)
  have HX6 : Hid ((w6.alloc (.cells #[i64 0, i64 0, i64 0] 22)).heap[w.heap.size]? = some (.cells #[i64 what, i64 env, i64 kind, i64 n, i64 tt, i64 rts, .bool by_, i64 q0, i64 q1, i64 q2] 33)) := blk_alloc (blk_below HX5.out hb) _
  have HY6 : Hid ((w6.alloc (.cells #[i64 0, i64 0, i64 0] 22)).heap[w.heap.size + 1]? = some (hO n rts)) := blk_alloc (blk_below HY5.out hb) _
  clear hb HB5 HX5 HY5 x1 x2 x3 x4 x5 x7 x8 x9 y0 y1
  go_upto_region 9 with fail
  generalize w6.alloc (.cells #[i64 0, i64 0, i64 0] 22) = V6 at *
  generalize w6.heap.size = A6 at *
  have x1 : V6.cell? ⟨w.heap.size, 1, none⟩ = some (i64 env) := blk_cell HX6.out 1
  have x2 : V6.cell? ⟨w.heap.size, 2, none⟩ = some (i64 kind) := blk_cell HX6.out 2
  have x3 : V6.cell? ⟨w.heap.size, 3, none⟩ = some (i64 n) := blk_cell HX6.out 3
  have x4 : V6.cell? ⟨w.heap.size, 4, none⟩ = some (i64 tt) := blk_cell HX6.out 4
  have x5 : V6.cell? ⟨w.heap.size, 5, none⟩ = some (i64 rts) := blk_cell HX6.out 5
  have x7 : V6.cell? ⟨w.heap.size, 7, none⟩ = some (i64 q0) := blk_cell HX6.out 7
  have x8 : V6.cell? ⟨w.heap.size, 8, none⟩ = some (i64 q1) := blk_cell HX6.out 8
  have x9 : V6.cell? ⟨w.heap.size, 9, none⟩ = some (i64 q2) := blk_cell HX6.out 9
  have y0 : V6.cell? ⟨w.heap.size + 1, 0, none⟩ = some (i64 n) := blk_cell HY6.out 0
  have y1 : V6.cell? ⟨w.heap.size + 1, 1, none⟩ = some (i64 rts) := blk_cell HY6.out 1
  go_wp2_with fail
  refine (bclose_nil _ env).mono ?_
  rintro e w7 ⟨rfl, hb⟩
  have HB7 : Hid (Below w.heap.size w w7) := bel_then HB6 hb
  have HX7 : Hid (w7.heap[w.heap.size]? = some (.cells #[i64 what, i64 env, i64 kind, i64 n, i64 tt, i64 rts, .bool by_, i64 q0, i64 q1, i64 q2] 33)) := blk_below HX6.out hb
  have HY7 : Hid (w7.heap[w.heap.size + 1]? = some (hO n rts)) := blk_below HY6.out hb
  clear hb HB6 HX6 HY6 x1 x2 x3 x4 x5 x7 x8 x9 y0 y1
  have x1 : w7.cell? ⟨w.heap.size, 1, none⟩ = some (i64 env) := blk_cell HX7.out 1
  have x2 : w7.cell? ⟨w.heap.size, 2, none⟩ = some (i64 kind) := blk_cell HX7.out 2
  have x3 : w7.cell? ⟨w.heap.size, 3, none⟩ = some (i64 n) := blk_cell HX7.out 3
  have x4 : w7.cell? ⟨w.heap.size, 4, none⟩ = some (i64 tt) := blk_cell HX7.out 4
  have x5 : w7.cell? ⟨w.heap.size, 5, none⟩ = some (i64 rts) := blk_cell HX7.out 5
  have x7 : w7.cell? ⟨w.heap.size, 7, none⟩ = some (i64 q0) := blk_cell HX7.out 7
  have x8 : w7.cell? ⟨w.heap.size, 8, none⟩ = some (i64 q1) := blk_cell HX7.out 8
  have x9 : w7.cell? ⟨w.heap.size, 9, none⟩ = some (i64 q2) := blk_cell HX7.out 9
  have y0 : w7.cell? ⟨w.heap.size + 1, 0, none⟩ = some (i64 n) := blk_cell HY7.out 0
  have y1 : w7.cell? ⟨w.heap.size + 1, 1, none⟩ = some (i64 rts) := blk_cell HY7.out 1
  go_wp2_with fail
  refine (free0 _ env n rts).mono ?_
  rintro e w8 ⟨rfl, hb⟩
  have HB8 : Hid (Below w.heap.size w w8) := bel_then HB7 hb
  have HX8 : Hid (w8.heap[w.heap.size]? = some (.cells #[i64 what, i64 env, i64 kind, i64 n, i64 tt, i64 rts, .bool by_, i64 q0, i64 q1, i64 q2] 33)) := blk_below HX7.out hb
  have HY8 : Hid (w8.heap[w.heap.size + 1]? = some (hO n rts)) := blk_below HY7.out hb
  clear hb HB7 HX7 HY7 x1 x2 x3 x4 x5 x7 x8 x9 y0 y1
  have x1 : w8.cell? ⟨w.heap.size, 1, none⟩ = some (i64 env) := blk_cell HX8.out 1
  have x2 : w8.cell? ⟨w.heap.size, 2, none⟩ = some (i64 kind) := blk_cell HX8.out 2
  have x3 : w8.cell? ⟨w.heap.size, 3, none⟩ = some (i64 n) := blk_cell HX8.out 3
  have x4 : w8.cell? ⟨w.heap.size, 4, none⟩ = some (i64 tt) := blk_cell HX8.out 4
  have x5 : w8.cell? ⟨w.heap.size, 5, none⟩ = some (i64 rts) := blk_cell HX8.out 5
  have x7 : w8.cell? ⟨w.heap.size, 7, none⟩ = some (i64 q0) := blk_cell HX8.out 7
  have x8 : w8.cell? ⟨w.heap.size, 8, none⟩ = some (i64 q1) := blk_cell HX8.out 8
  have x9 : w8.cell? ⟨w.heap.size, 9, none⟩ = some (i64 q2) := blk_cell HX8.out 9
  have y0 : w8.cell? ⟨w.heap.size + 1, 0, none⟩ = some (i64 n) := blk_cell HY8.out 0
  have y1 : w8.cell? ⟨w.heap.size + 1, 1, none⟩ = some (i64 rts) := blk_cell HY8.out 1
  go_wp2_with fail
  refine (owner_nil _ kind n).mono ?_
  rintro e w9 ⟨rfl, hb⟩
  have HB9 : Hid (Below w.heap.size w w9) := bel_then HB8 hb
  have HX9 : Hid (w9.heap[w.heap.size]? = some (.cells #[i64 what, i64 env, i64 kind, i64 n, i64 tt, i64 rts, .bool by_, i64 q0, i64 q1, i64 q2] 33)) := blk_below HX8.out hb
  have HY9 : Hid (w9.heap[w.heap.size + 1]? = some (hO n rts)) := blk_below HY8.out hb
  clear hb HB8 HX8 HY8 x1 x2 x3 x4 x5 x7 x8 x9 y0 y1
  have x1 : w9.cell? ⟨w.heap.size, 1, none⟩ = some (i64 env) := blk_cell HX9.out 1
  have x2 : w9.cell? ⟨w.heap.size, 2, none⟩ = some (i64 kind) := blk_cell HX9.out 2
  have x3 : w9.cell? ⟨w.heap.size, 3, none⟩ = some (i64 n) := blk_cell HX9.out 3
  have x4 : w9.cell? ⟨w.heap.size, 4, none⟩ = some (i64 tt) := blk_cell HX9.out 4
  have x5 : w9.cell? ⟨w.heap.size, 5, none⟩ = some (i64 rts) := blk_cell HX9.out 5
  have x7 : w9.cell? ⟨w.heap.size, 7, none⟩ = some (i64 q0) := blk_cell HX9.out 7
  have x8 : w9.cell? ⟨w.heap.size, 8, none⟩ = some (i64 q1) := blk_cell HX9.out 8
  have x9 : w9.cell? ⟨w.heap.size, 9, none⟩ = some (i64 q2) := blk_cell HX9.out 9
  have y0 : w9.cell? ⟨w.heap.size + 1, 0, none⟩ = some (i64 n) := blk_cell HY9.out 0
  have y1 : w9.cell? ⟨w.heap.size + 1, 1, none⟩ = some (i64 rts) := blk_cell HY9.out 1
  go_wp2_with fail
  refine (root0 _ kind n).mono ?_
  rintro e w10 ⟨rfl, hb⟩
  have HB10 : Hid (Below w.heap.size w w10) := bel_then HB9 hb
  have HX10 : Hid (w10.heap[w.heap.size]? = some (.cells #[i64 what, i64 env, i64 kind, i64 n, i64 tt, i64 rts, .bool by_, i64 q0, i64 q1, i64 q2] 33)) := blk_below HX9.out hb
  have HY10 : Hid (w10.heap[w.heap.size + 1]? = some (hO n rts)) := blk_below HY9.out hb
  clear hb HB9 HX9 HY9 x1 x2 x3 x4 x5 x7 x8 x9 y0 y1
  have x1 : w10.cell? ⟨w.heap.size, 1, none⟩ = some (i64 env) := blk_cell HX10.out 1
  have x2 : w10.cell? ⟨w.heap.size, 2, none⟩ = some (i64 kind) := blk_cell HX10.out 2
  have x3 : w10.cell? ⟨w.heap.size, 3, none⟩ = some (i64 n) := blk_cell HX10.out 3
  have x4 : w10.cell? ⟨w.heap.size, 4, none⟩ = some (i64 tt) := blk_cell HX10.out 4
  have x5 : w10.cell? ⟨w.heap.size, 5, none⟩ = some (i64 rts) := blk_cell HX10.out 5
  have x7 : w10.cell? ⟨w.heap.size, 7, none⟩ = some (i64 q0) := blk_cell HX10.out 7
  have x8 : w10.cell? ⟨w.heap.size, 8, none⟩ = some (i64 q1) := blk_cell HX10.out 8
  have x9 : w10.cell? ⟨w.heap.size, 9, none⟩ = some (i64 q2) := blk_cell HX10.out 9
  have y0 : w10.cell? ⟨w.heap.size + 1, 0, none⟩ = some (i64 n) := blk_cell HY10.out 0
  have y1 : w10.cell? ⟨w.heap.size + 1, 1, none⟩ = some (i64 rts) := blk_cell HY10.out 1
  have hq : (Op.equalIn 10000 43 (.agg #[i64 0, i64 0]) (.agg #[i64 0, i64 0])).run Try.prog w10 = .ok true w10 := eql (0, 0) (0, 0) w10
  go_wp2_with fail
  refine (list_nil _ env kind).mono ?_
  rintro e w11 ⟨rfl, hb⟩
  have HB11 : Hid (Below w.heap.size w w11) := bel_then HB10 hb
  have HX11 : Hid (w11.heap[w.heap.size]? = some (.cells #[i64 what, i64 env, i64 kind, i64 n, i64 tt, i64 rts, .bool by_, i64 q0, i64 q1, i64 q2] 33)) := blk_below HX10.out hb
  have HY11 : Hid (w11.heap[w.heap.size + 1]? = some (hO n rts)) := blk_below HY10.out hb
  clear hq hb HB10 HX10 HY10 x1 x2 x3 x4 x5 x7 x8 x9 y0 y1
  have x1 : w11.cell? ⟨w.heap.size, 1, none⟩ = some (i64 env) := blk_cell HX11.out 1
  have x2 : w11.cell? ⟨w.heap.size, 2, none⟩ = some (i64 kind) := blk_cell HX11.out 2
  have x3 : w11.cell? ⟨w.heap.size, 3, none⟩ = some (i64 n) := blk_cell HX11.out 3
  have x4 : w11.cell? ⟨w.heap.size, 4, none⟩ = some (i64 tt) := blk_cell HX11.out 4
  have x5 : w11.cell? ⟨w.heap.size, 5, none⟩ = some (i64 rts) := blk_cell HX11.out 5
  have x7 : w11.cell? ⟨w.heap.size, 7, none⟩ = some (i64 q0) := blk_cell HX11.out 7
  have x8 : w11.cell? ⟨w.heap.size, 8, none⟩ = some (i64 q1) := blk_cell HX11.out 8
  have x9 : w11.cell? ⟨w.heap.size, 9, none⟩ = some (i64 q2) := blk_cell HX11.out 9
  have y0 : w11.cell? ⟨w.heap.size + 1, 0, none⟩ = some (i64 n) := blk_cell HY11.out 0
  have y1 : w11.cell? ⟨w.heap.size + 1, 1, none⟩ = some (i64 rts) := blk_cell HY11.out 1
  go_wp2_with fail
  refine (spare0 _).mono ?_
  rintro e w12 ⟨rfl, hb⟩
  have HB12 : Hid (Below w.heap.size w w12) := bel_then HB11 hb
  have HX12 : Hid (w12.heap[w.heap.size]? = some (.cells #[i64 what, i64 env, i64 kind, i64 n, i64 tt, i64 rts, .bool by_, i64 q0, i64 q1, i64 q2] 33)) := blk_below HX11.out hb
  have HY12 : Hid (w12.heap[w.heap.size + 1]? = some (hO n rts)) := blk_below HY11.out hb
  clear hb HB11 HX11 HY11 x1 x2 x3 x4 x5 x7 x8 x9 y0 y1
  have x1 : w12.cell? ⟨w.heap.size, 1, none⟩ = some (i64 env) := blk_cell HX12.out 1
  have x2 : w12.cell? ⟨w.heap.size, 2, none⟩ = some (i64 kind) := blk_cell HX12.out 2
  have x3 : w12.cell? ⟨w.heap.size, 3, none⟩ = some (i64 n) := blk_cell HX12.out 3
  have x4 : w12.cell? ⟨w.heap.size, 4, none⟩ = some (i64 tt) := blk_cell HX12.out 4
  have x5 : w12.cell? ⟨w.heap.size, 5, none⟩ = some (i64 rts) := blk_cell HX12.out 5
  have x7 : w12.cell? ⟨w.heap.size, 7, none⟩ = some (i64 q0) := blk_cell HX12.out 7
  have x8 : w12.cell? ⟨w.heap.size, 8, none⟩ = some (i64 q1) := blk_cell HX12.out 8
  have x9 : w12.cell? ⟨w.heap.size, 9, none⟩ = some (i64 q2) := blk_cell HX12.out 9
  have y0 : w12.cell? ⟨w.heap.size + 1, 0, none⟩ = some (i64 n) := blk_cell HY12.out 0
  have y1 : w12.cell? ⟨w.heap.size + 1, 1, none⟩ = some (i64 rts) := blk_cell HY12.out 1
  have hq : (Op.equalIn 10000 22 (.agg #[i64 0, i64 0, i64 0]) (.agg #[i64 0, i64 0, i64 0])).run Try.prog w12 = .ok true w12 := Qt.eqIn22 9998 ⟨0, 0, 0⟩ ⟨0, 0, 0⟩ w12
  go_wp2_with fail
  refine (paid_nil _ env).mono ?_
  rintro e w13 ⟨rfl, hb⟩
  have HB13 : Hid (Below w.heap.size w w13) := bel_then HB12 hb
  have HX13 : Hid (w13.heap[w.heap.size]? = some (.cells #[i64 what, i64 env, i64 kind, i64 n, i64 tt, i64 rts, .bool by_, i64 q0, i64 q1, i64 q2] 33)) := blk_below HX12.out hb
  have HY13 : Hid (w13.heap[w.heap.size + 1]? = some (hO n rts)) := blk_below HY12.out hb
  clear hq hb HB12 HX12 HY12 x1 x2 x3 x4 x5 x7 x8 x9 y0 y1
  go_wp2_with fail
  refine (frame_ok _).mono ?_
  rintro e w14 ⟨rfl, hb⟩
  have HB14 : Hid (Below w.heap.size w w14) := bel_then HB13 hb
  clear hb
  go_wp2_with fail
  go_ret
  exact ⟨rfl, HB14.out⟩
theorem nil_walk (w : World) (s : Sb) (h : s.rng) : Calls Try.prog 7 #[s.v] w fun e w' => e = .returned (.bool true) ∧ Below w.heap.size w w' := by
  have hb := Qt.badB_eq s.env s.q h.2.2.2.2.2.2.1.2 h.2.2.2.2.2.2.2.1.2 h.2.2.2.2.2.2.2.2.2
  obtain ⟨what, env, kind, n, tt, rts, by_, q0, q1, q2⟩ := s
  simp only at hb
  by_cases h1 : env < 1
  · exact nil_a w what env kind n tt rts q0 q1 q2 by_ h1 (by rw [hb, if_pos (by simp [h1])])
  by_cases h2 : 3 < env
  · exact nil_b w what env kind n tt rts q0 q1 q2 by_ h1 h2 (by rw [hb, if_pos (by simp [h2])])
  by_cases h3 : q0 < 0
  · exact nil_c w what env kind n tt rts q0 q1 q2 by_ h1 h2 h3 (by rw [hb, if_pos (by simp [h3])])
  by_cases h4 : q1 < 0
  · exact nil_d w what env kind n tt rts q0 q1 q2 by_ h1 h2 h3 h4 (by rw [hb, if_pos (by simp [h4])])
  by_cases h5 : q2 < 0
  · exact nil_e w what env kind n tt rts q0 q1 q2 by_ h1 h2 h3 h4 h5 (by rw [hb, if_pos (by simp [h5])])
  · exact nil_f w what env kind n tt rts q0 q1 q2 by_ h1 h2 h3 h4 h5 (by rw [hb, if_neg (by simp; omega)])
end Go.Proofs.Ytnknhencobhjdaa
