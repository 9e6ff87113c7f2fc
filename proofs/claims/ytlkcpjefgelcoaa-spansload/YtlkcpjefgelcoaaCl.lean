/- The closures that areas are looked for by, and those; no statement is proved in this text. -/
import Derived.Test.YtlkcpjefgelcoaaLi
namespace Go.Proofs.Ytlkcpjefgelcoaa
open Go.ChangeShapes Go.WideShapes Go.ChangeAt Go.RowKit Go.Deep
attribute [local go_sem ↓] Go.wp_at_zero Go.wp_at_succ

abbrev fn1 (n : Nat) (a : Value) : Value := .func (.func n) #[] #[a]
abbrev fn2 (n : Nat) (a b : Value) : Value := .func (.func n) #[] #[a, b]
abbrev iO (x : Int) : Obj := .cells #[i64 x] 3
set_option maxRecDepth 100000 in
set_option maxHeartbeats 3200000 in
theorem of_mk (w : World) (p : Int) : Calls Try.prog 47 #[i64 p] w fun e w' => e = .returned (fn1 63 (pq w.heap.size)) ∧ w' = w.alloc (iO p) := by
  go_enter Try.func47, Try.ntmps47
  go_wp2_with fail
  go_ret
  exact ⟨rfl, rfl⟩
set_option maxRecDepth 100000 in
set_option maxHeartbeats 3200000 in
theorem from_mk (w : World) (p g : Int) : Calls Try.prog 45 #[i64 p, i64 g] w fun e w' => e = .returned (fn2 62 (pq w.heap.size) (pq (w.heap.size + 1))) ∧ w' = (w.alloc (iO p)).alloc (iO g) := by
  go_enter Try.func45, Try.ntmps45
  go_wp2_with fail
  go_ret
  exact ⟨rfl, rfl⟩
set_option maxRecDepth 100000 in
set_option maxHeartbeats 3200000 in
theorem with_mk (w : World) (p g : Int) : Calls Try.prog 48 #[i64 p, i64 g] w fun e w' => e = .returned (fn2 64 (pq w.heap.size) (pq (w.heap.size + 1))) ∧ w' = (w.alloc (iO p)).alloc (iO g) := by
  go_enter Try.func48, Try.ntmps48
  go_wp2_with fail
  go_ret
  exact ⟨rfl, rfl⟩
set_option maxRecDepth 100000 in
set_option maxHeartbeats 3200000 in
theorem meet_mk (w : World) (a : Ar) : Calls Try.prog 60 #[av a] w fun e w' => e = .returned (fn1 68 (pq w.heap.size)) ∧ w' = w.alloc (arO a 79) := by
  go_enter Try.func60, Try.ntmps60
  go_wp2_with fail
  go_ret
  exact ⟨rfl, rfl⟩
set_option maxRecDepth 100000 in
set_option maxHeartbeats 3200000 in
theorem all_cl (w : World) (a : Ar) : Calls Try.prog 49 #[av a] w fun e w' => e = .returned (.bool true) ∧ Below w.heap.size w w' := by
  have HB := hid (below_one w (arO a 79))
  go_enter Try.func49, Try.ntmps49
  go_wp2_with fail
  go_ret
  exact ⟨rfl, HB.out⟩
set_option maxRecDepth 100000 in
set_option maxHeartbeats 3200000 in
theorem of_cl (w : World) (a : Ar) (c : Nat) (p : Int) (hc : w.cell? ⟨c, 0, none⟩ = some (i64 p)) : Calls Try.prog 63 #[av a, pq c] w fun e w' => e = .returned (.bool (ofF p a)) ∧ Below w.heap.size w w' := by
  have HB := hid (below_one w (arO a 79))
  have hlt : c < w.heap.size := World.block_lt_of_cell? w _ hc
  go_enter Try.func63, Try.ntmps63
  go_wp2_with fail
  go_ret
  exact ⟨rfl, HB.out⟩
set_option maxRecDepth 100000 in
set_option maxHeartbeats 3200000 in
theorem from_cl (w : World) (a : Ar) (c d : Nat) (p g : Int) (hc : w.cell? ⟨c, 0, none⟩ = some (i64 p)) (hd : w.cell? ⟨d, 0, none⟩ = some (i64 g)) : Calls Try.prog 62 #[av a, pq c, pq d] w fun e w' => e = .returned (.bool (fromF p g a)) ∧ Below w.heap.size w w' := by
  have HB := hid (below_one w (arO a 79))
  have hlt : c < w.heap.size := World.block_lt_of_cell? w _ hc
  have hlt2 : d < w.heap.size := World.block_lt_of_cell? w _ hd
  unfold fromF
  cases h1 : a.1 == p
  · go_enter Try.func62, Try.ntmps62
    go_wp2_with fail
    go_ret
    exact ⟨rfl, HB.out⟩
  · go_enter Try.func62, Try.ntmps62
    go_wp2_with fail
    go_ret
    exact ⟨rfl, HB.out⟩
set_option maxRecDepth 100000 in
set_option maxHeartbeats 3200000 in
theorem with_cl (w : World) (a : Ar) (c d : Nat) (p g : Int) (hc : w.cell? ⟨c, 0, none⟩ = some (i64 p)) (hd : w.cell? ⟨d, 0, none⟩ = some (i64 g)) (ha : isA a = true) : Calls Try.prog 64 #[av a, pq c, pq d] w fun e w' => e = .returned (.bool (withF p g a)) ∧ Below w.heap.size w w' := by
  have HB := hid (below_one w (arO a 79))
  have hlt : c < w.heap.size := World.block_lt_of_cell? w _ hc
  have hlt2 : d < w.heap.size := World.block_lt_of_cell? w _ hd
  obtain ⟨_, _, a1, a2, a3⟩ := isA_of ha
  clear ha
  unfold withF
  cases h1 : a.1 == p
  · go_enter Try.func64, Try.ntmps64
    go_wp2_with fail
    go_ret
    exact ⟨rfl, HB.out⟩
  · by_cases h2 : a.2.1 ≤ g
    · have q2 : decide (a.2.1 ≤ g) = true := decide_eq_true h2
      rw [q2]
      clear q2
      go_enter Try.func64, Try.ntmps64
      go_wp2_with fail
      go_ret
      exact ⟨rfl, HB.out⟩
    · have q2 : decide (a.2.1 ≤ g) = false := decide_eq_false h2
      rw [q2]
      clear q2
      have h2' : g < a.2.1 := by omega
      clear h2
      go_enter Try.func64, Try.ntmps64
      go_wp2_with fail
      go_ret
      exact ⟨rfl, HB.out⟩
set_option maxRecDepth 100000 in
set_option maxHeartbeats 3200000 in
theorem meet_cl (w : World) (a x : Ar) (c : Nat) (hc : w.heap[c]? = some (arO x 79)) (ha : isA a = true) (hx : isA x = true) : Calls Try.prog 68 #[av a, pq c] w fun e w' => e = .returned (.bool (meetF x a)) ∧ Below w.heap.size w w' := by
  have HB := hid (below_one w (arO a 79))
  have hlt : c < w.heap.size := blk_lt hc
  obtain ⟨x0, x1, x2⟩ := three_cells hc
  obtain ⟨_, _, a1, a2, a3⟩ := isA_of ha
  obtain ⟨_, _, b1, b2, b3⟩ := isA_of hx
  clear ha hx hc
  unfold meetF
  cases h1 : a.1 == x.1
  · go_enter Try.func68, Try.ntmps68
    go_wp2_with fail
    go_ret
    exact ⟨rfl, HB.out⟩
  · by_cases h2 : a.2.1 < x.2.1 + x.2.2
    · have q2 : decide (a.2.1 < x.2.1 + x.2.2) = true := decide_eq_true h2
      rw [q2]
      clear q2
      go_enter Try.func68, Try.ntmps68
      go_wp2_with fail
      go_ret
      exact ⟨rfl, HB.out⟩
    · have q2 : decide (a.2.1 < x.2.1 + x.2.2) = false := decide_eq_false h2
      rw [q2]
      clear q2
      have h2' : x.2.1 + x.2.2 ≤ a.2.1 := by omega
      clear h2
      go_enter Try.func68, Try.ntmps68
      go_wp2_with fail
      go_ret
      exact ⟨rfl, HB.out⟩
set_option maxRecDepth 100000 in
set_option maxHeartbeats 3200000 in
theorem cut42_cl (w : World) (a : Ar) (q : Nat) (c : Nat) (f : Ar → Bool) (hq : w.cell? ⟨q, 0, none⟩ = some (fn1 63 (pq c))) (hf : Calls Try.prog 63 #[av a, pq c] (w.alloc (arO a 79)) fun e w' => e = .returned (.bool (f a)) ∧ Below (w.alloc (arO a 79)).heap.size (w.alloc (arO a 79)) w') : Calls Try.prog 61 #[av a, pq q] w fun e w' => e = .returned (.bool (!f a)) ∧ Below w.heap.size w w' := by
  have HB := hid (below_one w (arO a 79))
  have HF := hid hf
  have hlt : q < w.heap.size := World.block_lt_of_cell? w _ hq
  clear hf
  generalize f a = B at *
  go_enter Try.func61, Try.ntmps61
  go_wp2_with fail
  refine HF.out.mono ?_
  rintro e w1 ⟨rfl, hb1⟩
  have HB1 : Hid (Below w.heap.size w w1) := HB.out.trans (hb1.mono HB.out.size)
  clear hb1
  go_wp2_with fail
  go_ret
  exact ⟨rfl, HB1.out⟩
set_option maxRecDepth 100000 in
set_option maxHeartbeats 3200000 in
theorem cut41_cl (w : World) (a : Ar) (q : Nat) (c d : Nat) (f : Ar → Bool) (hq : w.cell? ⟨q, 0, none⟩ = some (fn2 62 (pq c) (pq d))) (hf : Calls Try.prog 62 #[av a, pq c, pq d] (w.alloc (arO a 79)) fun e w' => e = .returned (.bool (f a)) ∧ Below (w.alloc (arO a 79)).heap.size (w.alloc (arO a 79)) w') : Calls Try.prog 61 #[av a, pq q] w fun e w' => e = .returned (.bool (!f a)) ∧ Below w.heap.size w w' := by
  have HB := hid (below_one w (arO a 79))
  have HF := hid hf
  have hlt : q < w.heap.size := World.block_lt_of_cell? w _ hq
  clear hf
  generalize f a = B at *
  go_enter Try.func61, Try.ntmps61
  go_wp2_with fail
  refine HF.out.mono ?_
  rintro e w1 ⟨rfl, hb1⟩
  have HB1 : Hid (Below w.heap.size w w1) := HB.out.trans (hb1.mono HB.out.size)
  clear hb1
  go_wp2_with fail
  go_ret
  exact ⟨rfl, HB1.out⟩
end Go.Proofs.Ytlkcpjefgelcoaa
