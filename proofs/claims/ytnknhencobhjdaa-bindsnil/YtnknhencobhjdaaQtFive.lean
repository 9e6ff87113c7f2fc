/- Arrays held against one another; imagolaw10.five; no statement is proved in this text. -/
import Derived.Test.YtnknhencobhjdaaQtOpen2
import Derived.ChangeKeysEq
namespace Go.Proofs.Ytnknhencobhjdaa.Qt
open Go.ChangeShapes Go.WideShapes Go.ChangeAt Go.RowKit Go.Deep

theorem plain3 : Try.prog.plainKey 3 = true := by kernel_rfl
theorem cells3 : Try.prog.cellsOf 3 = 1 := by kernel_rfl
theorem eqIn22 (d : Nat) (t u : T) (w : World) : (Op.equalIn (d + 2) 22 t.v u.v).run Try.prog w = .ok (decide (t = u)) w := by
  obtain ⟨i, hi⟩ := info_of_underlying Try.underlying3
  rw [run_equalIn_array w (d + 1) _ _ Try.underlying22 hi, cells3]
  have p0 : ∀ (x y z : Int) (w : World), (part 3 #[i64 x, i64 y, i64 z] 0).run Try.prog w = .ok (i64 x) w := fun x y z w => by kernel_rfl
  have p1 : ∀ (x y z : Int) (w : World), (part 3 #[i64 x, i64 y, i64 z] 1).run Try.prog w = .ok (i64 y) w := fun x y z w => by kernel_rfl
  have p2 : ∀ (x y z : Int) (w : World), (part 3 #[i64 x, i64 y, i64 z] 2).run Try.prog w = .ok (i64 z) w := fun x y z w => by kernel_rfl
  have hq : ∀ (x y : Int) (w : World), (Op.equalIn (d + 1) 3 (i64 x) (i64 y)).run Try.prog w = .ok (x == y) w := fun x y w => run_equalIn_int w d 3 .i64 .i64 x y Try.underlying3
  rcases t with ⟨a1, a2, a3⟩
  rcases u with ⟨b1, b2, b3⟩
  have hr : List.range 3 = [0, 1, 2] := rfl
  rw [hr]
  by_cases h1 : a1 = b1 <;> by_cases h2 : a2 = b2 <;> by_cases h3 : a3 = b3 <;> simp [Op.eqItems, p0, p1, p2, hq, h1, h2, h3, Result.andThen]
theorem eql22 (t u : T) (w : World) : (binOp .eql 22 t.v u.v).run Try.prog w = .ok (.bool (decide (t = u))) w := by
  rw [run_eql_struct, eqIn22 9998 t u w]
  rfl
theorem neq22 (t u : T) (w : World) : (binOp .neq 22 t.v u.v).run Try.prog w = .ok (.bool (!decide (t = u))) w := by
  rw [run_neq_struct, eqIn22 9998 t u w]
  rfl
end Go.Proofs.Ytnknhencobhjdaa.Qt
