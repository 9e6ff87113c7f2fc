/- QuotaNil's walk; no statement is proved in this text. -/
import Derived.Test.YtfnhiefngbcnaaaFive
namespace Go.Proofs.Ytfnhiefngbcnaaa
open Go.ChangeShapes Go.WideShapes Go.ChangeAt Go.RowKit Go.Deep

set_option maxRecDepth 100000 in
theorem take_nil (w : World) (env kind n : Int) :
    Calls Try.prog 19 #[.pointer none, i64 env, i64 kind, i64 n] w fun e w' => e = .returned (i64 6) ∧ w' = w := by
  go_enter Try.func19, Try.ntmps19
  go_wp2_with (go_at_call 29; refine (pageOf_nil _ _).mono ?_; rintro e w1 ⟨rfl, rfl⟩)
  go_ret
  exact ⟨rfl, rfl⟩
set_option maxRecDepth 100000 in
theorem give_nil (w : World) (env kind n : Int) :
    Calls Try.prog 20 #[.pointer none, i64 env, i64 kind, i64 n] w fun e w' => e = .returned (i64 6) ∧ w' = w := by
  go_enter Try.func20, Try.ntmps20
  go_wp2_with (go_at_call 29; refine (pageOf_nil _ _).mono ?_; rintro e w1 ⟨rfl, rfl⟩)
  go_ret
  exact ⟨rfl, rfl⟩
structure Sp where
  what : Int
  env : Int
  kind : Int
  n : Int
  q : T
abbrev Sp.c (s : Sp) : List Value := [i64 s.what, i64 s.env, i64 s.kind, i64 s.n, i64 s.q.a, i64 s.q.b, i64 s.q.c]
abbrev Sp.v (s : Sp) : Value := .agg #[i64 s.what, i64 s.env, i64 s.kind, i64 s.n, i64 s.q.a, i64 s.q.b, i64 s.q.c]
abbrev spO (s : Sp) : Obj := .cells #[i64 s.what, i64 s.env, i64 s.kind, i64 s.n, i64 s.q.a, i64 s.q.b, i64 s.q.c] 35
theorem sp_cells {w : World} {b : Nat} {s : Sp} (h : w.heap[b]? = some (spO s)) : w.cell? ⟨b, 0, none⟩ = some (i64 s.what) ∧ w.cell? ⟨b, 1, none⟩ = some (i64 s.env) ∧ w.cell? ⟨b, 2, none⟩ = some (i64 s.kind) ∧ w.cell? ⟨b, 3, none⟩ = some (i64 s.n) ∧ w.cell? ⟨b, 4, none⟩ = some (i64 s.q.a) ∧ w.cell? ⟨b, 5, none⟩ = some (i64 s.q.b) ∧ w.cell? ⟨b, 6, none⟩ = some (i64 s.q.c) :=
  ⟨blk_cell h 0, blk_cell h 1, blk_cell h 2, blk_cell h 3, blk_cell h 4, blk_cell h 5, blk_cell h 6⟩
theorem open_nil_ok (w : World) (env : Int) (q : T) :
    Calls Try.prog 18 #[.pointer none, i64 env, q.v] w fun e w' => e = .returned (i64 (if badB env q = true then 1 else 7)) ∧ Below w.heap.size w w' := by
  by_cases h : badB env q = true
  · rw [if_pos h]; exact open_bad w _ env q h
  · rw [if_neg h]; exact open_nil w env q (by simpa using h)
theorem badB_eq (env : Int) (q : T) (ha : q.a ≤ 9223372036854775807) (hb : q.b ≤ 9223372036854775807) (hc : q.c ≤ 9223372036854775807) : badB env q = decide (env < 1 ∨ 3 < env ∨ q.a < 0 ∨ q.b < 0 ∨ q.c < 0) := by
  unfold badB outB T.l
  rw [Bool.eq_iff_iff]
  simp
  omega
set_option maxRecDepth 100000 in
set_option maxHeartbeats 4000000 in
theorem nil_walk (w : World) (s : Sp) (ha : s.q.a ≤ 9223372036854775807) (hb : s.q.b ≤ 9223372036854775807) (hc : s.q.c ≤ 9223372036854775807) :
    Calls Try.prog 7 #[s.v] w fun e w' => e = .returned (.bool true) ∧ Below w.heap.size w w' := by
  have hq : ∀ W, (binOp .eql 22 (T.v zT) (T.v ⟨0, 0, 0⟩)).run Try.prog W = .ok (.bool true) W := fun W => eql22 zT ⟨0, 0, 0⟩ W
  have hs0 := heap_last w (spO s)
  have HB0 : Hid (Below w.heap.size w (w.alloc (spO s))) := (Below.refl _ _).alloc (Nat.le_refl _) _
  have HBE := badB_eq s.env s.q ha hb hc
  have hcase : (∃ E : Int, (if badB s.env s.q = true then (1 : Int) else 7) = E ∧ ((E = 1 ∧ s.env < 1) ∨ (E = 1 ∧ ¬ s.env < 1 ∧ 3 < s.env) ∨ (E = 1 ∧ ¬ s.env < 1 ∧ ¬ 3 < s.env ∧ s.q.a < 0) ∨ (E = 1 ∧ ¬ s.env < 1 ∧ ¬ 3 < s.env ∧ ¬ s.q.a < 0 ∧ s.q.b < 0) ∨ (E = 1 ∧ ¬ s.env < 1 ∧ ¬ 3 < s.env ∧ ¬ s.q.a < 0 ∧ ¬ s.q.b < 0 ∧ s.q.c < 0) ∨ (E = 7 ∧ ¬ s.env < 1 ∧ ¬ 3 < s.env ∧ ¬ s.q.a < 0 ∧ ¬ s.q.b < 0 ∧ ¬ s.q.c < 0))) := by
    refine ⟨_, rfl, ?_⟩
    rw [HBE]
    by_cases h : s.env < 1 ∨ 3 < s.env ∨ s.q.a < 0 ∨ s.q.b < 0 ∨ s.q.c < 0
    · rw [if_pos (by simpa using h)]; omega
    · rw [if_neg (by simpa using h)]; omega
  obtain ⟨E, hE, hcs⟩ := hcase
  have HE : Hid ((if badB s.env s.q = true then (1 : Int) else 7) = E) := hE
  obtain ⟨k0, k1, k2, k3, k4, k5, k6⟩ := sp_cells hs0
  have HS0 : Hid ((w.alloc (spO s)).heap[w.heap.size]? = some (spO s)) := hs0
  have hz0 : w.heap.size < (w.alloc (spO s)).heap.size := by simp
  obtain ⟨V, hV⟩ : ∃ V, V = w.alloc (spO s) := ⟨_, rfl⟩
  have HV : Hid (V = w.alloc (spO s)) := hV
  rw [← hV] at HB0 HS0 k0 k1 k2 k3 k4 k5 k6 hz0
  clear hE HBE hV hs0
  rcases hcs with ⟨rfl, h1⟩ | ⟨rfl, h1, h2⟩ | ⟨rfl, h1, h2, h3⟩ | ⟨rfl, h1, h2, h3, h4⟩ | ⟨rfl, h1, h2, h3, h4, h5⟩ | ⟨rfl, h1, h2, h3, h4, h5⟩
  all_goals
    go_enter Try.func7, Try.ntmps7
    go_wp2_with fail
    rw [show w.alloc (Obj.cells #[i64 s.what, i64 s.env, i64 s.kind, i64 s.n, i64 s.q.a, i64 s.q.b, i64 s.q.c] 35) = V from HV.out.symm]
    refine (open_nil_ok V s.env s.q).mono ?_
    rintro e w1 ⟨rfl, hb1⟩
    rw [HE.out]
    have hs1 := blk_below HS0.out hb1
    have HB1 : Hid (Below w.heap.size w w1) := HB0.out.trans (hb1.mono HB0.out.size)
    have HS1 : Hid (w1.heap[w.heap.size]? = some (spO s)) := hs1
    obtain ⟨a0, a1, a2, a3, a4, a5, a6⟩ := sp_cells hs1
    clear hb1 hs1 k0 k1 k2 k3 k4 k5 k6
    go_wp2_with fail
    refine (has_nil w1 s.env).mono ?_
    rintro e w2 ⟨rfl, hb2⟩
    have hs2 := blk_below HS1.out hb2
    have HB2 : Hid (Below w.heap.size w w2) := HB1.out.trans (hb2.mono HB1.out.size)
    have HS2 : Hid (w2.heap[w.heap.size]? = some (spO s)) := hs2
    have hz2 := blk_lt hs2
    obtain ⟨a0, a1, a2, a3, a4, a5, a6⟩ := sp_cells hs2
    clear hb2 hs2
    go_wp2_with fail
    refine (left_nil _ s.env).mono ?_
    rintro e w3 ⟨rfl, hb3⟩
    have hs3 := blk_below (blk_alloc HS2.out _) hb3
    have HB3 : Hid (Below w.heap.size w w3) := (HB2.out.alloc HB2.out.size _).trans (hb3.mono (by have := HB2.out.size; simp; omega))
    have HS3 : Hid (w3.heap[w.heap.size]? = some (spO s)) := hs3
    have hz3 := blk_lt hs3
    obtain ⟨a0, a1, a2, a3, a4, a5, a6⟩ := sp_cells hs3
    clear hb3 hs3
    go_wp2_with (first | (go_at_call 21; refine (close_nil _ _).mono ?_; rintro e w' ⟨rfl, rfl⟩) | (go_at_call 19; refine (take_nil _ _ _ _).mono ?_; rintro e w' ⟨rfl, rfl⟩) | (go_at_call 20; refine (give_nil _ _ _ _).mono ?_; rintro e w' ⟨rfl, rfl⟩) | (go_at_call 12; refine (free_nil _).mono ?_; rintro e w5 ⟨rfl, hb5⟩; have HB5 : Hid (Below w.heap.size w w5) := (HB3.out.alloc HB3.out.size _).trans (hb5.mono (by have := HB3.out.size; simp; omega)); clear hb5) | (go_at_call 10; refine (five_ok _).mono ?_; rintro e w6 ⟨rfl, hb6⟩; have HB6 : Hid (Below w.heap.size w w6) := HB5.out.trans (hb6.mono HB5.out.size); clear hb6))
    go_ret
    refine ⟨?_, HB6.out⟩
    first | rfl | (simp; omega)
end Go.Proofs.Ytfnhiefngbcnaaa
