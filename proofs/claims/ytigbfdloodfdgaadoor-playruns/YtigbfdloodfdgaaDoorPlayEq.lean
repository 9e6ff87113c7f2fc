/- Three numbers held against themselves; no statement is proved in this text. -/
import Derived.Test.YtigbfdloodfdgaaDoorCpuEq
namespace Go.Proofs.YtigbfdloodfdgaaDoor
open Go.ChangeShapes Go.WideShapes Go.ChangeAt Go.RowKit

theorem eq3 (d : Nat) (a : Int) (w : World) : (Op.equalIn (d + 1) 3 (i64 a) (i64 a)).run Tryd.prog w = .ok true w := by
  simp [Op.equalIn, run_underlying Tryd.underlying3]
theorem cellsOf3 : Tryd.prog.cellsOf 3 = 1 := by kernel_rfl
theorem eq49 (a b c : Nat) (w : World) : (Op.equalIn 9999 49 (.agg #[i64 a, i64 b, i64 c]) (.agg #[i64 a, i64 b, i64 c])).run Tryd.prog w = .ok true w := by
  obtain ⟨i, hi⟩ := info_of_underlying Tryd.underlying3
  rw [run_equalIn_array w 9998 _ _ Tryd.underlying49 hi]
  simp [Op.eqItems, List.range_succ, part, cellsOf3, eq3]
end Go.Proofs.YtigbfdloodfdgaaDoor
