/- large: what it lets through has short lists; no statement is proved in this text. -/
import Derived.Test.YtihbbgcpdgnhoaaGreatDoorLg
import Derived.Test.YtihbbgcpdgnhoaaGreatDoorFmd
namespace Go.Proofs.YtihbbgcpdgnhoaaGreatDoor
open Go.ChangeShapes Go.WideShapes Go.ChangeAt Go.RowKit Go.Deep
attribute [local go_sem ↓] Go.wp_at_zero Go.wp_at_succ

def LgOk2 (w : World) (q : Nat) (m : Int) (T : Ty) (e : Ending) (w' : World) : Prop :=
  ∃ (b : Bool) (m' : Int), e = .returned (.bool b) ∧ w'.heap[q]? = some (.cells #[i64 m'] 60) ∧ Touch q w w' ∧ (b = false → 0 ≤ m' ∧ m' = m - T.count ∧ T.small = true)
end Go.Proofs.YtihbbgcpdgnhoaaGreatDoor
