/- AsmJumps: every argument; no statement is proved in this text. -/
import Derived.Test.YtobkehlkopkaeaaDoorJumpWalk
import Derived.Test.YtobkehlkopkaeaaDoorJumpA
import Derived.Test.YtobkehlkopkaeaaDoorJumpB
import Derived.Test.YtobkehlkopkaeaaDoorJumpC
import Derived.Test.YtobkehlkopkaeaaDoorJumpD
namespace Go.Proofs.YtobkehlkopkaeaaDoor
open Go.ChangeShapes Go.WideShapes Go.ChangeAt Go.RowKit

theorem of_range {lo n a : Nat} (h : ((List.range n).all fun i => jAll (lo + i)) = true) (h1 : lo ≤ a) (h2 : a < lo + n) : jAll a = true := by
  have := List.all_eq_true.1 h (a - lo) (List.mem_range.2 (by omega))
  rw [show lo + (a - lo) = a by omega] at this
  exact this
theorem j_every {a : Nat} (h : a ≤ 200) : jAll a = true := by
  by_cases hA0 : a < 10
  · exact of_range jA0 (by omega) (by omega)
  by_cases hA1 : a < 20
  · exact of_range jA1 (by omega) (by omega)
  by_cases hA2 : a < 30
  · exact of_range jA2 (by omega) (by omega)
  by_cases hA3 : a < 40
  · exact of_range jA3 (by omega) (by omega)
  by_cases hA4 : a < 50
  · exact of_range jA4 (by omega) (by omega)
  by_cases hA5 : a < 55
  · exact of_range jA5 (by omega) (by omega)
  by_cases hB0 : a < 65
  · exact of_range jB0 (by omega) (by omega)
  by_cases hB1 : a < 75
  · exact of_range jB1 (by omega) (by omega)
  by_cases hB2 : a < 85
  · exact of_range jB2 (by omega) (by omega)
  by_cases hB3 : a < 95
  · exact of_range jB3 (by omega) (by omega)
  by_cases hB4 : a < 105
  · exact of_range jB4 (by omega) (by omega)
  by_cases hC0 : a < 115
  · exact of_range jC0 (by omega) (by omega)
  by_cases hC1 : a < 125
  · exact of_range jC1 (by omega) (by omega)
  by_cases hC2 : a < 135
  · exact of_range jC2 (by omega) (by omega)
  by_cases hC3 : a < 145
  · exact of_range jC3 (by omega) (by omega)
  by_cases hC4 : a < 155
  · exact of_range jC4 (by omega) (by omega)
  by_cases hD0 : a < 165
  · exact of_range jD0 (by omega) (by omega)
  by_cases hD1 : a < 175
  · exact of_range jD1 (by omega) (by omega)
  by_cases hD2 : a < 185
  · exact of_range jD2 (by omega) (by omega)
  by_cases hD3 : a < 195
  · exact of_range jD3 (by omega) (by omega)
  by_cases hD4 : a < 201
  · exact of_range jD4 (by omega) (by omega)
  omega
theorem jump_any (w : World) (he : Env w) (a : Int) : Calls Tryd.prog 6 #[i64 a] w fun e w' => e = .returned (.bool true) ∧ Below w.heap.size w w' := by
  by_cases h : a < 0 ∨ 200 < a
  · exact jump_out w he a h
  · obtain ⟨n, rfl⟩ := Int.eq_ofNat_of_zero_le (show 0 ≤ a by omega)
    exact jump_in w he n (by omega) (j_every (by omega))
end Go.Proofs.YtobkehlkopkaeaaDoor
