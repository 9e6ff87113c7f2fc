/- imagoref15.twice: its contract; no statement is proved in this text. -/
import Derived.Test.YtihbbgcpdgnhoaaGreatDoorNm
namespace Go.Proofs.YtihbbgcpdgnhoaaGreatDoor
open Go.ChangeShapes Go.WideShapes Go.ChangeAt Go.RowKit Go.Deep
attribute [local go_sem ↓] Go.wp_at_zero Go.wp_at_succ

/-- Does a name up to a place stand twice? -/
def twTo (l : List Bs) (k : Nat) : Bool := (List.range k).any fun i => (l.take i).contains (l.getD i [])
theorem ba_beq (a b : Bs) : ((⟨a.toArray⟩ : ByteArray) == ⟨b.toArray⟩) = decide (a = b) := by
  show (a.toArray == b.toArray) = _
  by_cases h : a = b
  · subst h; simp
  · simp [h]
theorem twTo_snoc (l : List Bs) (k : Nat) : twTo l (k + 1) = (twTo l k || (l.take k).contains (l.getD k [])) := by
  unfold twTo
  rw [List.range_succ, List.any_append]
  simp
theorem getD_at (l : List Bs) (k : Nat) (h : k < l.length) : l.getD k [] = l[k] := by simp [List.getD_eq_getElem?_getD, List.getElem?_eq_getElem h]
theorem contains_no {l : List Bs} {x : Bs} (h : ∀ i (hi : i < l.length), l[i] ≠ x) : l.contains x = false := by
  cases hc : l.contains x with
  | false => rfl
  | true =>
    rw [List.contains_iff_mem] at hc
    obtain ⟨i, hi, e⟩ := List.mem_iff_getElem.1 hc
    exact absurd e (h i hi)
theorem twTo_mono (l : List Bs) (k : Nat) : ∀ n, k ≤ n → twTo l k = true → twTo l n = true := by
  intro n hn h
  induction n with
  | zero => have : k = 0 := by omega
            subst this; exact h
  | succ n ih =>
    by_cases e : k = n + 1
    · subst e; exact h
    · rw [twTo_snoc, ih (by omega)]; rfl
end Go.Proofs.YtihbbgcpdgnhoaaGreatDoor
