/- The functions that are handed on to ipc.cut, what stays, cut's memory; no statement is proved in this text. -/
import Derived.Test.YtmijjgpelihhnaaSend
namespace Go.Proofs.Ytmijjgpelihhnaa
open Go.ChangeShapes Go.WideShapes Go.ChangeAt Go.RowKit Go.Deep
attribute [local go_sem ↓] Go.wp_at_zero Go.wp_at_succ

def g20 (env tt at' : Int) (_ : Ms) : Bool := decide (tt = env) && decide (at' = 0)
def g21 (env tt _at : Int) (m : Ms) : Bool := decide (tt = env) || decide (m.1 = env)
set_option maxRecDepth 100000 in
set_option maxHeartbeats 1600000 in
theorem cl20_ok (w : World) (q : Nat) (env tt at' f d : Int) (hq : w.heap[q]? = some (.cells #[i64 env] 3)) : Calls Try.prog 20 #[i64 tt, i64 at', .agg #[i64 f, u16v d], pq q] w fun e w' => e = .returned (.bool (g20 env tt at' (f, d))) ∧ Below w.heap.size w w' := by
  have q0 : (w.alloc (.cells #[i64 f, u16v d] 39)).cell? ⟨q, 0, none⟩ = some (i64 env) := blk_cell (blk_alloc hq _) 0
  have HB := hid (below_one w (.cells #[i64 f, u16v d] 39))
  clear hq
  unfold g20
  by_cases h1 : tt = env
  · have h1' : (tt == env) = true := by simpa using h1
    by_cases h2 : at' = 0
    · have h2' : (at' == 0) = true := by simpa using h2
      rw [decide_eq_true h1, decide_eq_true h2]
      clear h1 h2
      go_enter Try.func20, Try.ntmps20
      go_wp2_with fail
      go_ret
      exact ⟨rfl, HB.out⟩
    · have h2' : (at' == 0) = false := by simpa using h2
      rw [decide_eq_true h1, decide_eq_false h2]
      clear h1 h2
      go_enter Try.func20, Try.ntmps20
      go_wp2_with fail
      go_ret
      exact ⟨rfl, HB.out⟩
  · have h1' : (tt == env) = false := by simpa using h1
    rw [decide_eq_false h1]
    clear h1
    go_enter Try.func20, Try.ntmps20
    go_wp2_with fail
    go_ret
    exact ⟨rfl, HB.out⟩
set_option maxRecDepth 100000 in
set_option maxHeartbeats 1600000 in
theorem cl21_ok (w : World) (q : Nat) (env tt at' f d : Int) (hq : w.heap[q]? = some (.cells #[i64 env] 3)) : Calls Try.prog 21 #[i64 tt, i64 at', .agg #[i64 f, u16v d], pq q] w fun e w' => e = .returned (.bool (g21 env tt at' (f, d))) ∧ Below w.heap.size w w' := by
  have q0 : (w.alloc (.cells #[i64 f, u16v d] 39)).cell? ⟨q, 0, none⟩ = some (i64 env) := blk_cell (blk_alloc hq _) 0
  have HB := hid (below_one w (.cells #[i64 f, u16v d] 39))
  clear hq
  unfold g21
  by_cases h1 : tt = env
  · have h1' : (tt == env) = true := by simpa using h1
    rw [decide_eq_true h1]
    clear h1
    go_enter Try.func21, Try.ntmps21
    go_wp2_with fail
    go_ret
    exact ⟨rfl, HB.out⟩
  · have h1' : (tt == env) = false := by simpa using h1
    by_cases h2 : f = env
    · have h2' : (f == env) = true := by simpa using h2
      rw [decide_eq_false h1, decide_eq_true h2]
      clear h1 h2
      go_enter Try.func21, Try.ntmps21
      go_wp2_with fail
      go_ret
      exact ⟨rfl, HB.out⟩
    · have h2' : (f == env) = false := by simpa using h2
      rw [decide_eq_false h1, decide_eq_false h2]
      clear h1 h2
      go_enter Try.func21, Try.ntmps21
      go_wp2_with fail
      go_ret
      exact ⟨rfl, HB.out⟩
/-- What stays of the first k. -/
def stK (g : Int → Ms → Bool) (q : List Ms) : Nat → List Ms
  | 0 => []
  | k + 1 => stK g q k ++ (match q[k]? with | some m => if g (k : Nat) m = true then [] else [m] | none => [])
def stF (g : Int → Ms → Bool) (q : List Ms) : List Ms := stK g q q.length
theorem stK_le (g : Int → Ms → Bool) (q : List Ms) (k : Nat) : (stK g q k).length ≤ k := by
  induction k with
  | zero => simp [stK]
  | succ k ih =>
    rw [stK, List.length_append]
    cases q[k]? with
    | none => simp; omega
    | some m => by_cases h : g (k : Nat) m = true <;> simp [h] <;> omega
theorem stK_go {g : Int → Ms → Bool} {q : List Ms} {k : Nat} {m : Ms} (hm : q[k]? = some m) (hg : g (k : Nat) m = true) : stK g q (k + 1) = stK g q k := by
  rw [stK, hm]; simp [hg]
theorem stK_stay {g : Int → Ms → Bool} {q : List Ms} {k : Nat} {m : Ms} (hm : q[k]? = some m) (hg : g (k : Nat) m = false) : stK g q (k + 1) = stK g q k ++ [m] := by
  rw [stK, hm]; simp [hg]
def mix (k : Nat) (Q S : Nat → List Ms) : Nat → List Ms := fun j => if j < k then S j else Q j
def gc (Q S : Nat → List Ms) : Nat → Int
  | 0 => 0
  | k + 1 => gc Q S k + (((Q k).length : Int) - (S k).length)
abbrev boxed (W : World) (m : Ms) : World := W.alloc (.cells #[i64 m.1, u16v m.2] 39)
theorem boxed_below (W : World) (m : Ms) : Below W.heap.size W (boxed W m) := below_one W _
theorem boxed_at (W : World) (m : Ms) : (boxed W m).heap[W.heap.size]? = some (msO m) := heap_last W _
structure Inv (w : World) (base P : Nat) (Q S : Nat → List Ms) (a0 a1 a2 : Value) (k : Nat) (W : World) : Prop where
  blk : ∃ b0 b1 b2, W.heap[P]? = some (.cells #[b0, b1, b2] 54) ∧ Ow W base b0 b1 b2 (mix k Q S) ∧ (k ≤ 0 → b0 = a0) ∧ (k ≤ 1 → b1 = a1) ∧ (k ≤ 2 → b2 = a2) ∧ (0 < k → ∀ x, b0.ownBlock = some x → w.heap.size ≤ x) ∧ (1 < k → ∀ x, b1.ownBlock = some x → w.heap.size ≤ x) ∧ (2 < k → ∀ x, b2.ownBlock = some x → w.heap.size ≤ x)
  tq : Tq w.heap.size P w W
/-- A Post that is as it was, whatever else was written to what was there before. -/
def Far (w w' : World) (base P : Nat) (S : Nat → List Ms) : Prop := ∀ W, (∀ k, w.heap.size ≤ k → W.heap[k]? = w'.heap[k]?) → W.heap[P]? = w'.heap[P]? → Pt W base P S
theorem Inv.far {w W : World} {base P : Nat} {Q S : Nat → List Ms} {a0 a1 a2 : Value} (hi : Inv w base P Q S a0 a1 a2 3 W) (hlo : base ≤ P) (hle : ∀ i, (S i).length ≤ 4) : Far w W base P S := fun U h1 h2 => by
  obtain ⟨⟨b0, b1, b2, hP, hO, _, _, _, f0, f1, f2⟩, _⟩ := hi
  exact ⟨hlo, hle, b0, b1, b2, h2.trans hP, own_keep1 hO.o0 (fun k hk => h1 k (f0 (by omega) k hk)), own_keep1 hO.o1 (fun k hk => h1 k (f1 (by omega) k hk)), own_keep1 hO.o2 (fun k hk => h1 k (f2 (by omega) k hk)), hO.d01, hO.d02, hO.d12⟩
theorem inv_step0 {w V W : World} {base P : Nat} {Q S : Nat → List Ms} {a0 a1 a2 v : Value} (hi : Inv w base P Q S a0 a1 a2 0 V) (hlo : base ≤ w.heap.size) (hb : Below V.heap.size V W) (hr : W.ownsRow V.heap.size 39 2 v (S 0).length (mcn (S 0))) : Inv w base P Q S a0 a1 a2 1 (W.setCell ⟨P, 0, none⟩ v) := by
  obtain ⟨⟨b0, b1, b2, hP, hO, _, h1, h2, _, _, _⟩, htq⟩ := hi
  have hP3 : W.heap[P]? = some (.cells #[b0, b1, b2] 54) := blk_below hP hb
  have hsz : base ≤ V.heap.size := Nat.le_trans hlo htq.size
  have hk3 : ∀ (k : Nat) (C : Array Value), W.heap[k]? = some (.cells C 39) → (W.setCell ⟨P, 0, none⟩ v).heap[k]? = some (.cells C 39) := fun k C hC => by
    rw [Below.heap_setCell _ _ _ _ (fun e => by have hC' := hC; rw [show k = P from e, hP3] at hC'; simp at hC')]
    exact hC
  have rI : (W.setCell ⟨P, 0, none⟩ v).ownsRow base 39 2 v (mix 1 Q S 0).length (mcn (mix 1 Q S 0)) := by
    rw [show mix 1 Q S 0 = S 0 by simp [mix]]
    exact own_keep (own_low hr hsz) hk3
  have r1 : (W.setCell ⟨P, 0, none⟩ v).ownsRow base 39 2 b1 (mix 1 Q S 1).length (mcn (mix 1 Q S 1)) := by
    rw [show mix 1 Q S 1 = mix 0 Q S 1 by simp [mix]]
    exact own_keep (own_keep hO.o1 (fun k C hC => blk_below hC hb)) hk3
  have dN1 : ∀ k, v.ownBlock = some k → b1.ownBlock ≠ some k := fun k h1 h2 => by
    have e1 := (hO.o1.lt k h2).2
    have e2 := (hr.lt k h1).1
    omega
  have r2 : (W.setCell ⟨P, 0, none⟩ v).ownsRow base 39 2 b2 (mix 1 Q S 2).length (mcn (mix 1 Q S 2)) := by
    rw [show mix 1 Q S 2 = mix 0 Q S 2 by simp [mix]]
    exact own_keep (own_keep hO.o2 (fun k C hC => blk_below hC hb)) hk3
  have dN2 : ∀ k, v.ownBlock = some k → b2.ownBlock ≠ some k := fun k h1 h2 => by
    have e1 := (hO.o2.lt k h2).2
    have e2 := (hr.lt k h1).1
    omega
  refine ⟨⟨v, b1, b2, ?_, ⟨rI, r1, r2, dN1, dN2, hO.d12⟩, (fun h => absurd h (by omega)), (fun _ => h1 (by omega)), (fun _ => h2 (by omega)), (fun _ x hx => Nat.le_trans htq.size (hr.lt x hx).1), (fun h => absurd h (by omega)), (fun h => absurd h (by omega))⟩, ?_⟩
  · have := heap_setCell_same W P 0 _ 54 v hP3
    simpa using this
  · refine htq.trans ⟨hb.os, hb.tape, hb.output, by have := hb.size; simpa [World.setCell] using this, fun k hk hne => ?_⟩
    rw [Below.heap_setCell _ _ _ _ (by exact hne)]
    exact hb.block k (by have := htq.size; omega)
theorem inv_step1 {w V W : World} {base P : Nat} {Q S : Nat → List Ms} {a0 a1 a2 v : Value} (hi : Inv w base P Q S a0 a1 a2 1 V) (hlo : base ≤ w.heap.size) (hb : Below V.heap.size V W) (hr : W.ownsRow V.heap.size 39 2 v (S 1).length (mcn (S 1))) : Inv w base P Q S a0 a1 a2 2 (W.setCell ⟨P, 1, none⟩ v) := by
  obtain ⟨⟨b0, b1, b2, hP, hO, _, _, h2, f0, _, _⟩, htq⟩ := hi
  have hP3 : W.heap[P]? = some (.cells #[b0, b1, b2] 54) := blk_below hP hb
  have hsz : base ≤ V.heap.size := Nat.le_trans hlo htq.size
  have hk3 : ∀ (k : Nat) (C : Array Value), W.heap[k]? = some (.cells C 39) → (W.setCell ⟨P, 1, none⟩ v).heap[k]? = some (.cells C 39) := fun k C hC => by
    rw [Below.heap_setCell _ _ _ _ (fun e => by have hC' := hC; rw [show k = P from e, hP3] at hC'; simp at hC')]
    exact hC
  have rI : (W.setCell ⟨P, 1, none⟩ v).ownsRow base 39 2 v (mix 2 Q S 1).length (mcn (mix 2 Q S 1)) := by
    rw [show mix 2 Q S 1 = S 1 by simp [mix]]
    exact own_keep (own_low hr hsz) hk3
  have r0 : (W.setCell ⟨P, 1, none⟩ v).ownsRow base 39 2 b0 (mix 2 Q S 0).length (mcn (mix 2 Q S 0)) := by
    rw [show mix 2 Q S 0 = mix 1 Q S 0 by simp [mix]]
    exact own_keep (own_keep hO.o0 (fun k C hC => blk_below hC hb)) hk3
  have dN0 : ∀ k, v.ownBlock = some k → b0.ownBlock ≠ some k := fun k h1 h2 => by
    have e1 := (hO.o0.lt k h2).2
    have e2 := (hr.lt k h1).1
    omega
  have r2 : (W.setCell ⟨P, 1, none⟩ v).ownsRow base 39 2 b2 (mix 2 Q S 2).length (mcn (mix 2 Q S 2)) := by
    rw [show mix 2 Q S 2 = mix 1 Q S 2 by simp [mix]]
    exact own_keep (own_keep hO.o2 (fun k C hC => blk_below hC hb)) hk3
  have dN2 : ∀ k, v.ownBlock = some k → b2.ownBlock ≠ some k := fun k h1 h2 => by
    have e1 := (hO.o2.lt k h2).2
    have e2 := (hr.lt k h1).1
    omega
  refine ⟨⟨b0, v, b2, ?_, ⟨r0, rI, r2, (fun k h1 h2 => dN0 k h2 h1), hO.d02, dN2⟩, (fun h => absurd h (by omega)), (fun h => absurd h (by omega)), (fun _ => h2 (by omega)), (fun _ => f0 (by omega)), (fun _ x hx => Nat.le_trans htq.size (hr.lt x hx).1), (fun h => absurd h (by omega))⟩, ?_⟩
  · have := heap_setCell_same W P 1 _ 54 v hP3
    simpa using this
  · refine htq.trans ⟨hb.os, hb.tape, hb.output, by have := hb.size; simpa [World.setCell] using this, fun k hk hne => ?_⟩
    rw [Below.heap_setCell _ _ _ _ (by exact hne)]
    exact hb.block k (by have := htq.size; omega)
theorem inv_step2 {w V W : World} {base P : Nat} {Q S : Nat → List Ms} {a0 a1 a2 v : Value} (hi : Inv w base P Q S a0 a1 a2 2 V) (hlo : base ≤ w.heap.size) (hb : Below V.heap.size V W) (hr : W.ownsRow V.heap.size 39 2 v (S 2).length (mcn (S 2))) : Inv w base P Q S a0 a1 a2 3 (W.setCell ⟨P, 2, none⟩ v) := by
  obtain ⟨⟨b0, b1, b2, hP, hO, _, _, _, f0, f1, _⟩, htq⟩ := hi
  have hP3 : W.heap[P]? = some (.cells #[b0, b1, b2] 54) := blk_below hP hb
  have hsz : base ≤ V.heap.size := Nat.le_trans hlo htq.size
  have hk3 : ∀ (k : Nat) (C : Array Value), W.heap[k]? = some (.cells C 39) → (W.setCell ⟨P, 2, none⟩ v).heap[k]? = some (.cells C 39) := fun k C hC => by
    rw [Below.heap_setCell _ _ _ _ (fun e => by have hC' := hC; rw [show k = P from e, hP3] at hC'; simp at hC')]
    exact hC
  have rI : (W.setCell ⟨P, 2, none⟩ v).ownsRow base 39 2 v (mix 3 Q S 2).length (mcn (mix 3 Q S 2)) := by
    rw [show mix 3 Q S 2 = S 2 by simp [mix]]
    exact own_keep (own_low hr hsz) hk3
  have r0 : (W.setCell ⟨P, 2, none⟩ v).ownsRow base 39 2 b0 (mix 3 Q S 0).length (mcn (mix 3 Q S 0)) := by
    rw [show mix 3 Q S 0 = mix 2 Q S 0 by simp [mix]]
    exact own_keep (own_keep hO.o0 (fun k C hC => blk_below hC hb)) hk3
  have dN0 : ∀ k, v.ownBlock = some k → b0.ownBlock ≠ some k := fun k h1 h2 => by
    have e1 := (hO.o0.lt k h2).2
    have e2 := (hr.lt k h1).1
    omega
  have r1 : (W.setCell ⟨P, 2, none⟩ v).ownsRow base 39 2 b1 (mix 3 Q S 1).length (mcn (mix 3 Q S 1)) := by
    rw [show mix 3 Q S 1 = mix 2 Q S 1 by simp [mix]]
    exact own_keep (own_keep hO.o1 (fun k C hC => blk_below hC hb)) hk3
  have dN1 : ∀ k, v.ownBlock = some k → b1.ownBlock ≠ some k := fun k h1 h2 => by
    have e1 := (hO.o1.lt k h2).2
    have e2 := (hr.lt k h1).1
    omega
  refine ⟨⟨b0, b1, v, ?_, ⟨r0, r1, rI, hO.d01, (fun k h1 h2 => dN0 k h2 h1), (fun k h1 h2 => dN1 k h2 h1)⟩, (fun h => absurd h (by omega)), (fun h => absurd h (by omega)), (fun h => absurd h (by omega)), (fun _ => f0 (by omega)), (fun _ => f1 (by omega)), (fun _ x hx => Nat.le_trans htq.size (hr.lt x hx).1)⟩, ?_⟩
  · have := heap_setCell_same W P 2 _ 54 v hP3
    simpa using this
  · refine htq.trans ⟨hb.os, hb.tape, hb.output, by have := hb.size; simpa [World.setCell] using this, fun k hk hne => ?_⟩
    rw [Below.heap_setCell _ _ _ _ (by exact hne)]
    exact hb.block k (by have := htq.size; omega)
end Go.Proofs.Ytmijjgpelihhnaa
