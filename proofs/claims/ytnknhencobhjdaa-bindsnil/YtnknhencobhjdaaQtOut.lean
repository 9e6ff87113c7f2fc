/- quota.outside, New, pageOf, wrong: their contracts; no statement is proved in this text. -/
import Derived.Test.YtnknhencobhjdaaBase
namespace Go.Proofs.Ytnknhencobhjdaa.Qt
open Go.ChangeShapes Go.WideShapes Go.ChangeAt Go.RowKit Go.Deep

structure T where
  a : Int
  b : Int
  c : Int
deriving DecidableEq
abbrev T.v (t : T) : Value := .agg #[i64 t.a, i64 t.b, i64 t.c]
def T.l (t : T) : List Int := [t.a, t.b, t.c]
def outB (lo hi : Int) (xs : List Int) : Bool := xs.any fun x => decide (x < lo) || decide (hi < x)
theorem outB_true {lo hi : Int} {xs : List Int} {k : Nat} (hk : k < xs.length) (h : xs[k] < lo ∨ hi < xs[k]) : outB lo hi xs = true := by
  unfold outB
  rw [List.any_eq_true]
  exact ⟨xs[k], List.getElem_mem hk, by simpa using h⟩
theorem outB_next {lo hi : Int} {xs : List Int} {k : Nat} (hk : k < xs.length) (h0 : outB lo hi (xs.take k) = false) (h1 : ¬ xs[k] < lo) (h2 : ¬ hi < xs[k]) : outB lo hi (xs.take (k + 1)) = false := by
  unfold outB at h0 ⊢
  rw [List.take_succ_eq_append_getElem hk, List.any_append, h0]
  simp only [List.any_cons, List.any_nil, Bool.or_false, Bool.false_or, Bool.or_eq_false_iff, decide_eq_false_iff_not]
  exact ⟨h1, h2⟩

set_option maxHeartbeats 800000 in
theorem outside_ok (w : World) (lo hi : Int) (ao : Option Addr) (cap : Nat) (xs : List Int) (hI : ISl w ao xs) (hl : xs.length ≤ maxLen) :
    Calls Try.prog 64 #[i64 lo, i64 hi, .slice ao xs.length cap] w fun e w' => e = .returned (.bool (outB lo hi xs)) ∧ w' = w := by
  unfold maxLen at hl
  have HI : Hid (ISl w ao xs) := hI
  clear hI
  obtain ⟨N, hN⟩ : ∃ N, N = xs.length := ⟨_, rfl⟩
  have HN : Hid (N = xs.length) := hN
  rw [← hN] at hl ⊢
  clear hN
  go_enter Try.func64, Try.ntmps64
  go_wp2_with fail
  go_loop [11] (fun i => ∃ k : Nat, k ≤ N ∧ i = i64 k ∧ Hid (outB lo hi (xs.take k) = false)) (fun i => N - (intOf i).toNat)
  case atStart => exact ⟨0, by omega, rfl, rfl⟩
  case round =>
    obtain ⟨k, hk, rfl, HO⟩ := hrel
    by_cases hlt : k < N
    · have hlt2 : k < xs.length := by rw [← HN.out]; exact hlt
      obtain ⟨b, off, rfl, hb, hc⟩ := HI.out.at hlt2
      obtain ⟨x, hx⟩ : ∃ x, x = xs[k] := ⟨_, rfl⟩
      have HX : Hid (x = xs[k]) := hx
      rw [← hx] at hc
      clear hx
      by_cases h1 : x < lo
      · have HT : Hid (outB lo hi xs = true) := outB_true hlt2 (Or.inl (by rw [← HX.out]; exact h1))
        go_wp2_with fail
        go_ret
        exact ⟨by rw [HT.out]; rfl, rfl⟩
      · by_cases h2 : hi < x
        · have HT : Hid (outB lo hi xs = true) := outB_true hlt2 (Or.inr (by rw [← HX.out]; exact h2))
          go_wp2_with fail
          go_ret
          exact ⟨by rw [HT.out]; rfl, rfl⟩
        · have HT : Hid (outB lo hi (xs.take (k + 1)) = false) := outB_next hlt2 HO.out (by rw [← HX.out]; exact h1) (by rw [← HX.out]; exact h2)
          go_wp2_with fail
          go_round
          case rel => exact ⟨k + 1, by omega, by go_num, HT⟩
          case measure => simp [intOf]; omega
    · have HT : Hid (outB lo hi xs = false) := by
        have := HO.out
        rw [List.take_of_length_le (by have := HN.out; omega)] at this
        exact this
      go_wp2_with fail
      go_ret
      exact ⟨by rw [HT.out]; rfl, rfl⟩

theorem heap_last2 (w : World) (o p : Obj) : ((w.alloc o).alloc p).heap[w.heap.size + 1]? = some p := by
  have := heap_last (w.alloc o) p
  simpa using this
theorem isl_row {w : World} {b : Nat} {C : Array Value} {t : TypeId} (h : w.heap[b]? = some (.cells C t)) (xs : List Int) (hx : ∀ (i : Nat) (x : Int), xs[i]? = some x → C[i]? = some (i64 x)) : ISl w (some ⟨b, 0, none⟩) xs :=
  Or.inr ⟨b, 0, rfl, blk_lt h, fun i x hi => by rw [Nat.zero_add, blk_cell h]; exact hx i x hi⟩
theorem outside_one (w : World) (lo hi x : Int) (b : Nat) (h : w.heap[b]? = some (.cells #[i64 x] 3)) :
    Calls Try.prog 64 #[i64 lo, i64 hi, .slice (some ⟨b, 0, none⟩) 1 1] w fun e w' => e = .returned (.bool (outB lo hi [x])) ∧ w' = w :=
  outside_ok w lo hi _ 1 [x] (isl_row h [x] (fun i y hi => by
    rcases i with _ | i
    · simp at hi; subst hi; rfl
    · simp at hi)) (by simp [maxLen])
theorem outside_tri (w : World) (lo hi : Int) (t : T) (b : Nat) {ty : TypeId} (h : w.heap[b]? = some (.cells #[i64 t.a, i64 t.b, i64 t.c] ty)) :
    Calls Try.prog 64 #[i64 lo, i64 hi, .slice (some ⟨b, 0, none⟩) 3 3] w fun e w' => e = .returned (.bool (outB lo hi t.l)) ∧ w' = w :=
  outside_ok w lo hi _ 3 t.l (isl_row h t.l (fun i y hi => by
    rcases i with _ | _ | _ | i
    · simp [T.l] at hi; subst hi; rfl
    · simp [T.l] at hi; subst hi; rfl
    · simp [T.l] at hi; subst hi; rfl
    · simp [T.l] at hi)) (by simp [maxLen, T.l])

def wrongB (kind n : Int) : Bool := decide (kind < 1 ∨ 3 < kind ∨ n < 0)
set_option maxRecDepth 100000 in
theorem wrong_ok (w : World) (kind n : Int) (hn : n ≤ 9223372036854775807) :
    Calls Try.prog 82 #[i64 kind, i64 n] w fun e w' => e = .returned (.bool (wrongB kind n)) ∧ Below w.heap.size w w' := by
  have hb0 : ∀ o, Below w.heap.size w (w.alloc o) := fun o => (Below.refl _ _).alloc (Nat.le_refl _) o
  by_cases h : kind < 1 ∨ 3 < kind
  · have ho : outB 1 3 [kind] = true := by unfold outB; simpa using h
    have hw : wrongB kind n = true := by unfold wrongB; simp; omega
    rw [hw]
    have HB : Hid (∀ o, Below w.heap.size w (w.alloc o)) := hb0
    clear hb0 hw
    go_enter Try.func82, Try.ntmps82
    go_wp2_with fail
    refine (outside_one _ 1 3 kind _ (heap_last w _)).mono ?_
    rintro e w1 ⟨rfl, rfl⟩
    go_wp2_with fail
    go_ret
    exact ⟨rfl, HB.out _⟩
  · have ho : outB 1 3 [kind] = false := by unfold outB; simp; omega
    have hw : wrongB kind n = outB 0 9223372036854775807 [n] := by
      unfold wrongB outB
      rw [Bool.eq_iff_iff]
      simp
      omega
    rw [hw]
    have HB : Hid (∀ o, Below w.heap.size w (w.alloc o)) := hb0
    clear hb0 hw
    generalize hG : outB 0 9223372036854775807 [n] = G
    have HG : Hid (outB 0 9223372036854775807 [n] = G) := hG
    clear hG
    go_enter Try.func82, Try.ntmps82
    go_wp2_with fail
    refine (outside_one _ 1 3 kind _ (heap_last w _)).mono ?_
    rintro e w1 ⟨rfl, rfl⟩
    go_wp2_with fail
    refine (outside_one _ 0 9223372036854775807 n _ (heap_last2 w _ _)).mono ?_
    rintro e w1 ⟨rfl, rfl⟩
    rw [HG.out]
    go_wp2_with fail
    go_ret
    exact ⟨rfl, (HB.out _).alloc (by simp) _⟩
end Go.Proofs.Ytnknhencobhjdaa.Qt
