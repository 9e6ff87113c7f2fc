/- QuotaNil's walk; no statement is proved in this text. -/
import Derived.Test.YtnknhencobhjdaaQtFive
namespace Go.Proofs.Ytnknhencobhjdaa.Qt
open Go.ChangeShapes Go.WideShapes Go.ChangeAt Go.RowKit Go.Deep

set_option maxRecDepth 100000 in
theorem take_nil (w : World) (env kind n : Int) :
    Calls Try.prog 57 #[.pointer none, i64 env, i64 kind, i64 n] w fun e w' => e = .returned (i64 6) ∧ w' = w := by
  go_enter Try.func57, Try.ntmps57
  go_wp2_with (go_at_call 77; refine (pageOf_nil _ _).mono ?_; rintro e w1 ⟨rfl, rfl⟩)
  go_ret
  exact ⟨rfl, rfl⟩
set_option maxRecDepth 100000 in
theorem give_nil (w : World) (env kind n : Int) :
    Calls Try.prog 55 #[.pointer none, i64 env, i64 kind, i64 n] w fun e w' => e = .returned (i64 6) ∧ w' = w := by
  go_enter Try.func55, Try.ntmps55
  go_wp2_with (go_at_call 77; refine (pageOf_nil _ _).mono ?_; rintro e w1 ⟨rfl, rfl⟩)
  go_ret
  exact ⟨rfl, rfl⟩
structure Sp where
  what : Int
  env : Int
  kind : Int
  n : Int
  q : T
abbrev Sp.c (s : Sp) : List Value := [i64 s.what, i64 s.env, i64 s.kind, i64 s.n, i64 s.q.a, i64 s.q.b, i64 s.q.c]
abbrev Sp.v (s : Sp) : Value := .agg #[i64 s.what, i64 s.env, i64 s.kind, i64 s.n, i64 s.q.a, i64 s.q.b, i64 s.q.c]
abbrev spO (s : Sp) : Obj := .cells #[i64 s.what, i64 s.env, i64 s.kind, i64 s.n, i64 s.q.a, i64 s.q.b, i64 s.q.c] 35
theorem sp_cells {w : World} {b : Nat} {s : Sp} (h : w.heap[b]? = some (spO s)) : w.cell? ⟨b, 0, none⟩ = some (i64 s.what) ∧ w.cell? ⟨b, 1, none⟩ = some (i64 s.env) ∧ w.cell? ⟨b, 2, none⟩ = some (i64 s.kind) ∧ w.cell? ⟨b, 3, none⟩ = some (i64 s.n) ∧ w.cell? ⟨b, 4, none⟩ = some (i64 s.q.a) ∧ w.cell? ⟨b, 5, none⟩ = some (i64 s.q.b) ∧ w.cell? ⟨b, 6, none⟩ = some (i64 s.q.c) :=
  ⟨blk_cell h 0, blk_cell h 1, blk_cell h 2, blk_cell h 3, blk_cell h 4, blk_cell h 5, blk_cell h 6⟩
theorem open_nil_ok (w : World) (env : Int) (q : T) :
    Calls Try.prog 53 #[.pointer none, i64 env, q.v] w fun e w' => e = .returned (i64 (if badB env q = true then 1 else 7)) ∧ Below w.heap.size w w' := by
  by_cases h : badB env q = true
  · rw [if_pos h]; exact open_bad w _ env q h
  · rw [if_neg h]; exact open_nil w env q (by simpa using h)
theorem badB_eq (env : Int) (q : T) (ha : q.a ≤ 9223372036854775807) (hb : q.b ≤ 9223372036854775807) (hc : q.c ≤ 9223372036854775807) : badB env q = decide (env < 1 ∨ 3 < env ∨ q.a < 0 ∨ q.b < 0 ∨ q.c < 0) := by
  unfold badB outB T.l
  rw [Bool.eq_iff_iff]
  simp
  omega
end Go.Proofs.Ytnknhencobhjdaa.Qt
