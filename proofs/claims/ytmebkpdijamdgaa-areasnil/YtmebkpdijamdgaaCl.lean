/- The closures that areas are looked for by, and those; no statement is proved in this text. -/
import Derived.Test.YtmebkpdijamdgaaLi
namespace Go.Proofs.Ytmebkpdijamdgaa
open Go.ChangeShapes Go.WideShapes Go.ChangeAt Go.RowKit Go.Deep
attribute [local go_sem ↓] Go.wp_at_zero Go.wp_at_succ

abbrev fn1 (n : Nat) (a : Value) : Value := .func (.func n) #[] #[a]
abbrev fn2 (n : Nat) (a b : Value) : Value := .func (.func n) #[] #[a, b]
abbrev iO (x : Int) : Obj := .cells #[i64 x] 3
set_option maxRecDepth 100000 in
set_option maxHeartbeats 3200000 in
theorem of_mk (w : World) (p : Int) : Calls Try.prog 36 #[i64 p] w fun e w' => e = .returned (fn1 42 (pq w.heap.size)) ∧ w' = w.alloc (iO p) := by
  go_enter Try.func36, Try.ntmps36
  go_wp2_with fail
  go_ret
  exact ⟨rfl, rfl⟩
set_option maxRecDepth 100000 in
set_option maxHeartbeats 3200000 in
theorem from_mk (w : World) (p g : Int) : Calls Try.prog 35 #[i64 p, i64 g] w fun e w' => e = .returned (fn2 41 (pq w.heap.size) (pq (w.heap.size + 1))) ∧ w' = (w.alloc (iO p)).alloc (iO g) := by
  go_enter Try.func35, Try.ntmps35
  go_wp2_with fail
  go_ret
  exact ⟨rfl, rfl⟩
set_option maxRecDepth 100000 in
set_option maxHeartbeats 3200000 in
theorem with_mk (w : World) (p g : Int) : Calls Try.prog 28 #[i64 p, i64 g] w fun e w' => e = .returned (fn2 37 (pq w.heap.size) (pq (w.heap.size + 1))) ∧ w' = (w.alloc (iO p)).alloc (iO g) := by
  go_enter Try.func28, Try.ntmps28
  go_wp2_with fail
  go_ret
  exact ⟨rfl, rfl⟩
set_option maxRecDepth 100000 in
set_option maxHeartbeats 3200000 in
theorem meet_mk (w : World) (a : Ar) : Calls Try.prog 39 #[av a] w fun e w' => e = .returned (fn1 43 (pq w.heap.size)) ∧ w' = w.alloc (arO a 42) := by
  go_enter Try.func39, Try.ntmps39
  go_wp2_with fail
  go_ret
  exact ⟨rfl, rfl⟩
set_option maxRecDepth 100000 in
set_option maxHeartbeats 3200000 in
theorem all_cl (w : World) (a : Ar) : Calls Try.prog 27 #[av a] w fun e w' => e = .returned (.bool true) ∧ Below w.heap.size w w' := by
  have HB := hid (below_one w (arO a 42))
  go_enter Try.func27, Try.ntmps27
  go_wp2_with fail
  go_ret
  exact ⟨rfl, HB.out⟩
set_option maxRecDepth 100000 in
set_option maxHeartbeats 3200000 in
theorem of_cl (w : World) (a : Ar) (c : Nat) (p : Int) (hc : w.cell? ⟨c, 0, none⟩ = some (i64 p)) : Calls Try.prog 42 #[av a, pq c] w fun e w' => e = .returned (.bool (ofF p a)) ∧ Below w.heap.size w w' := by
  have HB := hid (below_one w (arO a 42))
  have hlt : c < w.heap.size := World.block_lt_of_cell? w _ hc
  go_enter Try.func42, Try.ntmps42
  go_wp2_with fail
  go_ret
  exact ⟨rfl, HB.out⟩
set_option maxRecDepth 100000 in
set_option maxHeartbeats 3200000 in
theorem from_cl (w : World) (a : Ar) (c d : Nat) (p g : Int) (hc : w.cell? ⟨c, 0, none⟩ = some (i64 p)) (hd : w.cell? ⟨d, 0, none⟩ = some (i64 g)) : Calls Try.prog 41 #[av a, pq c, pq d] w fun e w' => e = .returned (.bool (fromF p g a)) ∧ Below w.heap.size w w' := by
  have HB := hid (below_one w (arO a 42))
  have hlt : c < w.heap.size := World.block_lt_of_cell? w _ hc
  have hlt2 : d < w.heap.size := World.block_lt_of_cell? w _ hd
  unfold fromF
  cases h1 : a.1 == p
  · go_enter Try.func41, Try.ntmps41
    go_wp2_with fail
    go_ret
    exact ⟨rfl, HB.out⟩
  · go_enter Try.func41, Try.ntmps41
    go_wp2_with fail
    go_ret
    exact ⟨rfl, HB.out⟩
set_option maxRecDepth 100000 in
set_option maxHeartbeats 3200000 in
theorem with_cl (w : World) (a : Ar) (c d : Nat) (p g : Int) (hc : w.cell? ⟨c, 0, none⟩ = some (i64 p)) (hd : w.cell? ⟨d, 0, none⟩ = some (i64 g)) (ha : isA a = true) : Calls Try.prog 37 #[av a, pq c, pq d] w fun e w' => e = .returned (.bool (withF p g a)) ∧ Below w.heap.size w w' := by
  have HB := hid (below_one w (arO a 42))
  have hlt : c < w.heap.size := World.block_lt_of_cell? w _ hc
  have hlt2 : d < w.heap.size := World.block_lt_of_cell? w _ hd
  obtain ⟨_, _, a1, a2, a3⟩ := isA_of ha
  clear ha
  unfold withF
  cases h1 : a.1 == p
  · go_enter Try.func37, Try.ntmps37
    go_wp2_with fail
    go_ret
    exact ⟨rfl, HB.out⟩
  · by_cases h2 : a.2.1 ≤ g
    · have q2 : decide (a.2.1 ≤ g) = true := decide_eq_true h2
      rw [q2]
      clear q2
      go_enter Try.func37, Try.ntmps37
      go_wp2_with fail
      go_ret
      exact ⟨rfl, HB.out⟩
    · have q2 : decide (a.2.1 ≤ g) = false := decide_eq_false h2
      rw [q2]
      clear q2
      have h2' : g < a.2.1 := by omega
      clear h2
      go_enter Try.func37, Try.ntmps37
      go_wp2_with fail
      go_ret
      exact ⟨rfl, HB.out⟩
set_option maxRecDepth 100000 in
set_option maxHeartbeats 3200000 in
theorem meet_cl (w : World) (a x : Ar) (c : Nat) (hc : w.heap[c]? = some (arO x 42)) (ha : isA a = true) (hx : isA x = true) : Calls Try.prog 43 #[av a, pq c] w fun e w' => e = .returned (.bool (meetF x a)) ∧ Below w.heap.size w w' := by
  have HB := hid (below_one w (arO a 42))
  have hlt : c < w.heap.size := blk_lt hc
  obtain ⟨x0, x1, x2⟩ := three_cells hc
  obtain ⟨_, _, a1, a2, a3⟩ := isA_of ha
  obtain ⟨_, _, b1, b2, b3⟩ := isA_of hx
  clear ha hx hc
  unfold meetF
  cases h1 : a.1 == x.1
  · go_enter Try.func43, Try.ntmps43
    go_wp2_with fail
    go_ret
    exact ⟨rfl, HB.out⟩
  · by_cases h2 : a.2.1 < x.2.1 + x.2.2
    · have q2 : decide (a.2.1 < x.2.1 + x.2.2) = true := decide_eq_true h2
      rw [q2]
      clear q2
      go_enter Try.func43, Try.ntmps43
      go_wp2_with fail
      go_ret
      exact ⟨rfl, HB.out⟩
    · have q2 : decide (a.2.1 < x.2.1 + x.2.2) = false := decide_eq_false h2
      rw [q2]
      clear q2
      have h2' : x.2.1 + x.2.2 ≤ a.2.1 := by omega
      clear h2
      go_enter Try.func43, Try.ntmps43
      go_wp2_with fail
      go_ret
      exact ⟨rfl, HB.out⟩
set_option maxRecDepth 100000 in
set_option maxHeartbeats 3200000 in
theorem cut42_cl (w : World) (a : Ar) (q : Nat) (c : Nat) (f : Ar → Bool) (hq : w.cell? ⟨q, 0, none⟩ = some (fn1 42 (pq c))) (hf : Calls Try.prog 42 #[av a, pq c] (w.alloc (arO a 42)) fun e w' => e = .returned (.bool (f a)) ∧ Below (w.alloc (arO a 42)).heap.size (w.alloc (arO a 42)) w') : Calls Try.prog 40 #[av a, pq q] w fun e w' => e = .returned (.bool (!f a)) ∧ Below w.heap.size w w' := by
  have HB := hid (below_one w (arO a 42))
  have HF := hid hf
  have hlt : q < w.heap.size := World.block_lt_of_cell? w _ hq
  clear hf
  generalize f a = B at *
  go_enter Try.func40, Try.ntmps40
  go_wp2_with fail
  refine HF.out.mono ?_
  rintro e w1 ⟨rfl, hb1⟩
  have HB1 : Hid (Below w.heap.size w w1) := HB.out.trans (hb1.mono HB.out.size)
  clear hb1
  go_wp2_with fail
  go_ret
  exact ⟨rfl, HB1.out⟩
set_option maxRecDepth 100000 in
set_option maxHeartbeats 3200000 in
theorem cut41_cl (w : World) (a : Ar) (q : Nat) (c d : Nat) (f : Ar → Bool) (hq : w.cell? ⟨q, 0, none⟩ = some (fn2 41 (pq c) (pq d))) (hf : Calls Try.prog 41 #[av a, pq c, pq d] (w.alloc (arO a 42)) fun e w' => e = .returned (.bool (f a)) ∧ Below (w.alloc (arO a 42)).heap.size (w.alloc (arO a 42)) w') : Calls Try.prog 40 #[av a, pq q] w fun e w' => e = .returned (.bool (!f a)) ∧ Below w.heap.size w w' := by
  have HB := hid (below_one w (arO a 42))
  have HF := hid hf
  have hlt : q < w.heap.size := World.block_lt_of_cell? w _ hq
  clear hf
  generalize f a = B at *
  go_enter Try.func40, Try.ntmps40
  go_wp2_with fail
  refine HF.out.mono ?_
  rintro e w1 ⟨rfl, hb1⟩
  have HB1 : Hid (Below w.heap.size w w1) := HB.out.trans (hb1.mono HB.out.size)
  clear hb1
  go_wp2_with fail
  go_ret
  exact ⟨rfl, HB1.out⟩
end Go.Proofs.Ytmebkpdijamdgaa
