/- Binds: slices.Index of handles; no statement is proved in this text. -/
import Derived.Test.YtnknhencobhjdaaRd
namespace Go.Proofs.Ytnknhencobhjdaa
open Go.ChangeShapes Go.WideShapes Go.ChangeAt Go.RowKit Go.Deep Go.ChangeMaps Go.MapKept
open Go.Proofs.Ytnknhencobhjdaa.Cp (pq hid below_one hO cO zC looks_nil)
open Go.Proofs.Ytnknhencobhjdaa.Qt (zT badB)

theorem eql43 (a c d e : Int) (w : World) : (binOp .eql 43 (.agg #[i64 a, i64 c]) (.agg #[i64 d, i64 e])).run Try.prog w = .ok (.bool (decide ((a, c) = (d, e)))) w := by
  have := eql (a, c) (d, e) w
  simp only [hV] at this
  simp [binOp, this, Result.andThen]
theorem neq43 (a c d e : Int) (w : World) : (binOp .neq 43 (.agg #[i64 a, i64 c]) (.agg #[i64 d, i64 e])).run Try.prog w = .ok (.bool (!decide ((a, c) = (d, e)))) w := by
  have := eql (a, c) (d, e) w
  simp only [hV] at this
  simp [binOp, this, Result.andThen]
set_option maxRecDepth 100000 in
set_option maxHeartbeats 1600000 in
theorem index_ok (w : World) (g : Nat) (R : List Hn) (hr : w.heap[g]? = some (rtO R)) (hl : R.length ≤ 64) (h0 h1 : Int) (i : Nat) (hi : R[i]? = some (h0, h1)) (hno : ∀ j, j < i → R[j]? ≠ some (h0, h1)) : Calls Try.prog 83 #[slV g R.length, .agg #[i64 h0, i64 h1]] w fun e w' => e = .returned (i64 i) ∧ Below w.heap.size w w' := by
  have HB0 : Hid (Below w.heap.size w (w.alloc (.cells #[i64 h0, i64 h1] 43))) := below_one w _
  have HQ0 : Hid ((w.alloc (.cells #[i64 h0, i64 h1] 43)).heap[w.heap.size]? = some (hO h0 h1)) := heap_last w _
  have HR0 : Hid ((w.alloc (.cells #[i64 h0, i64 h1] 43)).heap[g]? = some (rtO R)) := blk_alloc hr _
  have hil : i < R.length := (List.getElem?_eq_some_iff.1 hi).1
  have HI := hid hi
  have HN := hid hno
  clear hr hi hno
  go_enter Try.func83, Try.ntmps83
  go_wp2_with fail
  go_loopw [8] (fun u8 wr => ∃ k : Nat, k ≤ i ∧ u8 = i64 k ∧ Hid (Below w.heap.size w wr) ∧ Hid (wr.heap[w.heap.size]? = some (hO h0 h1)) ∧ Hid (wr.heap[g]? = some (rtO R))) (fun u _ => R.length - (intOf u).toNat)
  case atStart => exact ⟨0, by omega, rfl, HB0, HQ0, HR0⟩
  case round =>
    obtain ⟨k, hk, rfl, HB, HQ, HR⟩ := hrel
    have hkl : k < R.length := by omega
    have hkI : (k : Int) < (R.length : Int) := by omega
    obtain ⟨⟨r0, r1⟩, hrk⟩ : ∃ p, R[k]? = some p := ⟨R[k], List.getElem?_eq_getElem hkl⟩
    obtain ⟨c0, c1⟩ := rt_cells HR.out hrk
    simp only at c0 c1
    have q0 : wr.cell? ⟨w.heap.size, 0, none⟩ = some (i64 h0) := blk_cell HQ.out 0
    have q1 : wr.cell? ⟨w.heap.size, 1, none⟩ = some (i64 h1) := blk_cell HQ.out 1
    have HRk := hid hrk
    clear hrk
    go_upto_region 4 with fail
    have he : ∀ W, (binOp .eql 43 (.agg #[i64 h0, i64 h1]) (.agg #[i64 r0, i64 r1])).run Try.prog W = .ok (.bool (decide ((h0, h1) = (r0, r1)))) W := eql43 h0 h1 r0 r1
    go_quiet (fail)
    clear he c0 c1 q0 q1
    by_cases hki : k = i
    · subst hki
      obtain ⟨rfl, rfl⟩ : r0 = h0 ∧ r1 = h1 := by
        have := HRk.out.symm.trans HI.out
        simpa using this
      simp only [decide_true, Bool.and_self]
      go_wp2_with fail
      go_ret
      exact ⟨rfl, below_drewN HB.out nq⟩
    · have hb : (decide (h0 = r0) && decide (h1 = r1)) = false := by
        have := HN.out k (by omega)
        rw [HRk.out] at this
        simp only [ne_eq, Option.some.injEq, Prod.mk.injEq, not_and] at this
        simp only [Bool.and_eq_false_iff, decide_eq_false_iff_not]
        by_cases e : h0 = r0
        · exact Or.inr (fun e1 => this e.symm e1.symm)
        · exact Or.inl e
      rw [hb]
      clear hb
      go_wp2_with fail
      exact ⟨⟨k + 1, by omega, by go_num, below_drewN HB.out nq, HQ.out, HR.out⟩, by simp [intOf]; omega⟩
end Go.Proofs.Ytnknhencobhjdaa
