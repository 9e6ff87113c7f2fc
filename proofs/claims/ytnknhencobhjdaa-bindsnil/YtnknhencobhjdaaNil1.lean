/- A nil Binds: Left, Spare, Root, Owner, Paid, List; no statement is proved in this text. -/
import Derived.Test.YtnknhencobhjdaaNone
namespace Go.Proofs.Ytnknhencobhjdaa
open Go.ChangeShapes Go.WideShapes Go.ChangeAt Go.RowKit Go.Deep Go.ChangeMaps Go.MapKept
open Go.Proofs.Ytnknhencobhjdaa.Cp (pq hid below_one hO cO zC looks_nil)
open Go.Proofs.Ytnknhencobhjdaa.Qt (zT badB)

theorem load22 {W : World} {b : Nat} {x y z : Int} (h : W.heap[b]? = some (.cells #[i64 x, i64 y, i64 z] 22 (0, 0))) : (loadVar 22 ⟨b, 0, none⟩).run Try.prog W = .ok (.agg #[i64 x, i64 y, i64 z]) W := by
  have c0 : W.cell? ⟨b, 0, none⟩ = some (i64 x) := blk_cell h 0
  have c1 : W.cell? ⟨b, 1, none⟩ = some (i64 y) := blk_cell h 1
  have c2 : W.cell? ⟨b, 2, none⟩ = some (i64 z) := blk_cell h 2
  simp [go_sem, c0, c1, c2]
theorem set3 {V : World} {b : Nat} {x y z : Value} {t : TypeId} (h : V.heap[b]? = some (.cells #[x, y, z] t)) (p q r : Value) : (((V.setCell ⟨b, 0, none⟩ p).setCell ⟨b, 1, none⟩ q).setCell ⟨b, 2, none⟩ r).heap[b]? = some (.cells #[p, q, r] t) := by
  have h1 := heap_setCell_same V b 0 _ t p h
  have h2 := heap_setCell_same _ b 1 _ t q h1
  have h3 := heap_setCell_same _ b 2 _ t r h2
  exact h3
theorem bel3 {w V : World} {B b : Nat} (h : Below B w V) (hb : B ≤ b) (p q r : Value) : Below B w (((V.setCell ⟨b, 0, none⟩ p).setCell ⟨b, 1, none⟩ q).setCell ⟨b, 2, none⟩ r) := ((h.setCell hb _).setCell hb _).setCell hb _
abbrev triO (t : Qt.T) : Obj := .cells #[i64 t.a, i64 t.b, i64 t.c] 22
set_option maxRecDepth 100000 in
set_option maxHeartbeats 3200000 in
/-- Left: what the book answers. -/
theorem left_gen (w : World) (v0 vb vt vm s0 s1 s2 : Value) (env x : Int) (t : Qt.T) (hE : Ent w v0 (bdO vb vt vm s0 s1 s2)) (hL : ∀ W, Below w.heap.size w W → Calls Try.prog 61 #[vb, i64 env] W fun e w' => e = .returned (.tuple #[t.v, i64 x]) ∧ Below W.heap.size W w') : Calls Try.prog 26 #[v0, i64 env] w fun e w' => e = .returned (.tuple #[t.v, i64 x]) ∧ Below w.heap.size w w' := by
  obtain ⟨ta, tb, tc⟩ := t
  have HL := hid hL
  have HE := hid hE
  have HB0 : Hid (Below w.heap.size w (w.alloc (.cells #[i64 0, i64 0, i64 0] 22))) := below_one w _
  have HQ0 : Hid ((w.alloc (.cells #[i64 0, i64 0, i64 0] 22)).heap[w.heap.size]? = some (triO ⟨0, 0, 0⟩)) := heap_last w _
  clear hL hE
  go_enter Try.func26, Try.ntmps26
  go_wp2_with fail
  refine (HE.out _ HB0.out).mono ?_
  rintro e w1 ⟨B, rfl, hb1, hO1⟩
  have HB1 : Hid (Below w.heap.size w w1) := bel_then HB0 hb1
  have HQ1 : Hid (w1.heap[w.heap.size]? = some (triO ⟨0, 0, 0⟩)) := blk_below HQ0.out hb1
  have o0 : w1.cell? ⟨B, 0, none⟩ = some vb := blk_cell hO1 0
  clear hb1 hO1 HB0 HQ0 HE
  go_wp2_with fail
  refine (HL.out _ HB1.out).mono ?_
  rintro e w2 ⟨rfl, hb2⟩
  have HB2 : Hid (Below w.heap.size w w2) := bel_then HB1 hb2
  have HQ2 : Hid (w2.heap[w.heap.size]? = some (triO ⟨0, 0, 0⟩)) := blk_below HQ1.out hb2
  have z0 : w2.cell? ⟨w.heap.size, 0, none⟩ = some (i64 0) := blk_cell HQ2.out 0
  have z1 : w2.cell? ⟨w.heap.size, 1, none⟩ = some (i64 0) := blk_cell HQ2.out 1
  have z2 : w2.cell? ⟨w.heap.size, 2, none⟩ = some (i64 0) := blk_cell HQ2.out 2
  have zf : ∀ j, w2.frozen? ⟨w.heap.size, j, none⟩ = false := blk_frozen HQ2.out
  clear hb2 HB1 HQ1 o0 HL
  unfold Qt.T.v
  go_wp2_with fail
  exact bodyPost_ret (Cp.results_cell Try.results26 rfl rfl (load22 (set3 HQ2.out _ _ _))) rfl ⟨rfl, bel3 HB2.out (Nat.le_refl _) _ _ _⟩
theorem results_one {W : World} {t : Array Value} {a : Addr} {u : Value} {F : Func} {n : Nat} {ty : TypeId} (hr : F.results = #[.cell n ty]) (h6 : t.getD n undef = .pointer (some a)) (g : (loadVar ty a).run Try.prog W = .ok u W) :
    (results F t).run Try.prog W = .ok u W := by
  have h6' : t[n]?.getD undef = .pointer (some a) := by simpa using h6
  unfold loadVar at g
  simp [results, hr, h6', go_sem] at g ⊢
  exact g
set_option maxRecDepth 100000 in
set_option maxHeartbeats 3200000 in
/-- Spare. -/
theorem spare_gen (w : World) (v0 vb vt vm s0 s1 s2 : Value) (t : Qt.T) (hE : Ent w v0 (bdO vb vt vm s0 s1 s2)) (hL : ∀ W, Below w.heap.size w W → Calls Try.prog 52 #[vb] W fun e w' => e = .returned t.v ∧ Below W.heap.size W w') : Calls Try.prog 17 #[v0] w fun e w' => e = .returned t.v ∧ Below w.heap.size w w' := by
  obtain ⟨ta, tb, tc⟩ := t
  have HL := hid hL
  have HE := hid hE
  have HB0 : Hid (Below w.heap.size w (w.alloc (.cells #[i64 0, i64 0, i64 0] 22))) := below_one w _
  have HQ0 : Hid ((w.alloc (.cells #[i64 0, i64 0, i64 0] 22)).heap[w.heap.size]? = some (triO ⟨0, 0, 0⟩)) := heap_last w _
  clear hL hE
  go_enter Try.func17, Try.ntmps17
  go_wp2_with fail
  refine (HE.out _ HB0.out).mono ?_
  rintro e w1 ⟨B, rfl, hb1, hO1⟩
  have HB1 : Hid (Below w.heap.size w w1) := bel_then HB0 hb1
  have HQ1 : Hid (w1.heap[w.heap.size]? = some (triO ⟨0, 0, 0⟩)) := blk_below HQ0.out hb1
  have o0 : w1.cell? ⟨B, 0, none⟩ = some vb := blk_cell hO1 0
  clear hb1 hO1 HB0 HQ0 HE
  go_wp2_with fail
  refine (HL.out _ HB1.out).mono ?_
  rintro e w2 ⟨rfl, hb2⟩
  have HB2 : Hid (Below w.heap.size w w2) := bel_then HB1 hb2
  have HQ2 : Hid (w2.heap[w.heap.size]? = some (triO ⟨0, 0, 0⟩)) := blk_below HQ1.out hb2
  have z0 : w2.cell? ⟨w.heap.size, 0, none⟩ = some (i64 0) := blk_cell HQ2.out 0
  have z1 : w2.cell? ⟨w.heap.size, 1, none⟩ = some (i64 0) := blk_cell HQ2.out 1
  have z2 : w2.cell? ⟨w.heap.size, 2, none⟩ = some (i64 0) := blk_cell HQ2.out 2
  have zf : ∀ j, w2.frozen? ⟨w.heap.size, j, none⟩ = false := blk_frozen HQ2.out
  clear hb2 HB1 HQ1 o0 HL
  unfold Qt.T.v
  go_wp2_with fail
  exact bodyPost_ret (results_one Try.results17 rfl (load22 (set3 HQ2.out _ _ _))) rfl ⟨rfl, bel3 HB2.out (Nat.le_refl _) _ _ _⟩

/-- rootsOf a nil Binds, or of no kind. -/
theorem rootsOf_nil (w : World) (kind : Int) : Calls Try.prog 49 #[.pointer none, i64 kind] w fun e w' => e = .returned (.slice none 0 0) ∧ Below w.heap.size w w' := by
  go_enter Try.func49, Try.ntmps49
  go_wp2_with fail
  go_ret
  exact ⟨rfl, Below.refl _ _⟩
set_option maxRecDepth 100000 in
set_option maxHeartbeats 3200000 in
theorem root_nil (w : World) (kind n : Int) : Calls Try.prog 15 #[.pointer none, i64 kind, i64 n] w fun e w' => e = .returned (hV (0, 0)) ∧ Below w.heap.size w w' := by
  have HB0 : Hid (Below w.heap.size w (w.alloc (.cells #[i64 0, i64 0] 43))) := below_one w _
  have HQ0 : Hid ((w.alloc (.cells #[i64 0, i64 0] 43)).heap[w.heap.size]? = some (hO 0 0)) := heap_last w _
  go_enter Try.func15, Try.ntmps15
  go_wp2_with fail
  refine (rootsOf_nil _ kind).mono ?_
  rintro e w1 ⟨rfl, hb1⟩
  have HB1 : Hid (Below w.heap.size w w1) := bel_then HB0 hb1
  have HQ1 : Hid (w1.heap[w.heap.size]? = some (hO 0 0)) := blk_below HQ0.out hb1
  have z0 : w1.cell? ⟨w.heap.size, 0, none⟩ = some (i64 0) := blk_cell HQ1.out 0
  have z1 : w1.cell? ⟨w.heap.size, 1, none⟩ = some (i64 0) := blk_cell HQ1.out 1
  have zf : ∀ j, w1.frozen? ⟨w.heap.size, j, none⟩ = false := blk_frozen HQ1.out
  clear hb1
  by_cases hn : n < 0
  · go_wp2_with fail
    exact bodyPost_ret (results_one Try.results15 rfl (Cp.load42 (Cp.set2 HQ1.out _ _))) rfl ⟨rfl, Cp.bel2 HB1.out (Nat.le_refl _) _ _⟩
  · go_wp2_with fail
    exact bodyPost_ret (results_one Try.results15 rfl (Cp.load42 (Cp.set2 HQ1.out _ _))) rfl ⟨rfl, Cp.bel2 HB1.out (Nat.le_refl _) _ _⟩
set_option maxRecDepth 100000 in
theorem list_nil (w : World) (env kind : Int) : Calls Try.prog 23 #[.pointer none, i64 env, i64 kind] w fun e w' => e = .returned (.slice none 0 0) ∧ Below w.heap.size w w' := by
  go_enter Try.func23, Try.ntmps23
  go_wp2_with fail
  refine (rootsOf_nil _ kind).mono ?_
  rintro e w1 ⟨rfl, hb1⟩
  have HB1 : Hid (Below w.heap.size w w1) := hb1
  clear hb1
  go_wp2_with fail
  go_loopw [7, 16] (fun u7 u16 wr => u7 = .slice none 0 0 ∧ u16 = i64 0 ∧ Hid (Below w.heap.size w wr)) (fun _ _ _ => 0)
  case atStart => exact ⟨rfl, rfl, HB1⟩
  case round =>
    obtain ⟨rfl, rfl, HB⟩ := hrel
    go_wp2_with fail
    go_ret
    exact ⟨rfl, HB.out⟩
end Go.Proofs.Ytnknhencobhjdaa
