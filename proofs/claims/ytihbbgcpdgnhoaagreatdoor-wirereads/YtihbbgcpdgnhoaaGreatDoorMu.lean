/- imagolaw16's large and much: their contracts; no statement is proved in this text. -/
import Derived.Test.YtihbbgcpdgnhoaaGreatDoorFi
import Derived.Test.YtihbbgcpdgnhoaaGreatDoorLg2
import Derived.Test.YtihbbgcpdgnhoaaGreatDoorTx0
namespace Go.Proofs.YtihbbgcpdgnhoaaGreatDoor
open Go.ChangeShapes Go.WideShapes Go.ChangeAt Go.RowKit Go.Deep
attribute [local go_sem ↓] Go.wp_at_zero Go.wp_at_succ

def LgVk (w : World) (q : Nat) (m : Int) (V : Vl) (e : Ending) (w' : World) : Prop :=
  ∃ (b : Bool) (m' : Int), e = .returned (.bool b) ∧ w'.heap[q]? = some (.cells #[i64 m'] 60) ∧ Touch q w w' ∧ (b = false → 0 ≤ m' ∧ m' = m - V.size)
end Go.Proofs.YtihbbgcpdgnhoaaGreatDoor
