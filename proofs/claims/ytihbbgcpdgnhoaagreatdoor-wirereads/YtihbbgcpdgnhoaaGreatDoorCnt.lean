/- imagoref15's Count and Depth: their contracts; no statement is proved in this text. -/
import Derived.Test.YtihbbgcpdgnhoaaGreatDoorLg
namespace Go.Proofs.YtihbbgcpdgnhoaaGreatDoor
open Go.ChangeShapes Go.WideShapes Go.ChangeAt Go.RowKit Go.Deep
attribute [local go_sem ↓] Go.wp_at_zero Go.wp_at_succ

theorem ret_int {k : IntKind} {a b : Int} (h : a = b) : Ending.returned (.int k a) = .returned (.int k b) := by rw [h]
theorem take_depthL (l : List Ty) (k : Nat) (hk : k < l.length) : depthL (l.take (k + 1)) = max (depthL (l.take k)) l[k].depth := by
  induction l generalizing k with
  | nil => simp at hk
  | cons t r ih =>
    cases k with
    | zero => simp [depthL]
    | succ k =>
      have := ih k (by simpa using hk)
      simp only [List.take_succ_cons, depthL, List.getElem_cons_succ, this]
      omega
theorem countL_take (l : List Ty) (k : Nat) : countL (l.take k) ≤ countL l := by
  induction l generalizing k with
  | nil => simp [countL]
  | cons t r ih =>
    cases k with
    | zero => simp [countL]
    | succ k => have := ih k; simp only [List.take_succ_cons, countL]; omega
mutual
theorem depth_le : ∀ T : Ty, T.depth ≤ T.count
  | .mk _ _ _ l => by simp only [Ty.depth, Ty.count]; have := depthL_le l; omega
theorem depthL_le : ∀ l : List Ty, depthL l ≤ countL l
  | [] => by simp [depthL]
  | t :: r => by simp only [depthL, countL]; have := depth_le t; have := depthL_le r; omega
end
end Go.Proofs.YtihbbgcpdgnhoaaGreatDoor
