/- imagoref15's Formed and Check: their contracts; no statement is proved in this text. -/
import Derived.Test.YtihbbgcpdgnhoaaGreatDoorCnt
import Derived.Test.YtihbbgcpdgnhoaaGreatDoorTw
namespace Go.Proofs.YtihbbgcpdgnhoaaGreatDoor
open Go.ChangeShapes Go.WideShapes Go.ChangeAt Go.RowKit Go.Deep
attribute [local go_sem ↓] Go.wp_at_zero Go.wp_at_succ

mutual
/-- No lists are longer than a million. -/
def Ty.small : Ty → Bool | .mk _ _ names l => decide (names.length + l.length ≤ 1000000) && smallL l
def smallL : List Ty → Bool | [] => true | t :: r => t.small && smallL r
end
theorem smallL_mem : ∀ {l : List Ty} {t : Ty}, smallL l = true → t ∈ l → t.small = true
  | x :: r, t, hf, h => by
    simp only [smallL, Bool.and_eq_true] at hf
    rcases List.mem_cons.1 h with rfl | h
    · exact hf.1
    · exact smallL_mem hf.2 h
theorem take_formedL (l : List Ty) (k : Nat) (hk : k < l.length) : formedL (l.take (k + 1)) = (formedL (l.take k) && l[k].formed) := by
  induction l generalizing k with
  | nil => simp at hk
  | cons t r ih =>
    cases k with
    | zero => simp [formedL]
    | succ k =>
      have := ih k (by simpa using hk)
      simp only [List.take_succ_cons, formedL, List.getElem_cons_succ, this, Bool.and_assoc]
theorem namesTo_no {l : List Bs} {a : Bs} (ha : a ∈ l) (h : nameB a = false) : namesTo l l.length = false := by
  cases hn : namesTo l l.length with
  | false => rfl
  | true => rw [namesTo_mem hn ha] at h; cases h
theorem namesTo_tw {l : List Bs} (h : ∀ a ∈ l, nameB a = true) : namesTo l l.length = !twTo l l.length := by
  unfold namesTo twTo
  have : ∀ k, k ≤ l.length → ((List.range k).all fun i => nameB (l.getD i []) && !(l.take i).contains (l.getD i [])) = !((List.range k).any fun i => (l.take i).contains (l.getD i [])) := by
    intro k hk
    induction k with
    | zero => rfl
    | succ k ih =>
      rw [List.range_succ, List.all_append, List.any_append, ih (by omega)]
      have hn : nameB (l.getD k []) = true := by rw [getD_at l k (by omega)]; exact h _ (List.getElem_mem _)
      simp only [List.all_cons, List.all_nil, List.any_cons, List.any_nil, hn, Bool.true_and, Bool.and_true, Bool.or_false, Bool.not_or]
  exact this _ (Nat.le_refl _)
/-- A node, as the document asks of it, its names being names. -/
def kindB (k n : Int) (names kids : Nat) (tw : Bool) : Bool :=
  if k = 1 then decide (names + kids = 0) && (decide (n = 8) || decide (n = 16) || decide (n = 32))
  else if k = 2 then decide (names + kids = 0) && decide (0 ≤ n) && decide (n < 256)
  else if k = 3 then decide (names = 0) && decide (kids = 1) && decide (0 ≤ n) && decide (n < 97)
  else if k = 4 then decide (n = 0) && decide (0 < kids) && decide (kids < 13) && decide (names = kids) && !tw
  else false
theorem nodeB_kind {k n : Int} {names : List Bs} {kn : Nat} (h : ∀ a ∈ names, nameB a = true) : nodeB k n names kn = kindB k n names.length kn (twTo names names.length) := by
  unfold nodeB kindB
  split
  · rw [Bool.eq_iff_iff]; simp only [Bool.and_eq_true, Bool.or_eq_true, decide_eq_true_eq]; omega
  split
  · rw [Bool.eq_iff_iff]; simp only [Bool.and_eq_true, decide_eq_true_eq]; omega
  split
  · rw [Bool.eq_iff_iff]; simp only [Bool.and_eq_true, decide_eq_true_eq]; omega
  split
  · rw [namesTo_tw h, Bool.eq_iff_iff]; simp only [Bool.and_eq_true, decide_eq_true_eq]
    constructor <;> (rintro ⟨⟨⟨⟨a, b⟩, c⟩, d⟩, e⟩; exact ⟨⟨⟨⟨a, by omega⟩, by omega⟩, d⟩, e⟩)
  · rfl
theorem nodeB_no {k n : Int} {names : List Bs} {kn : Nat} {a : Bs} (ha : a ∈ names) (h : nameB a = false) : nodeB k n names kn = false := by
  have hl : ¬ names.length = 0 := by have := List.length_pos_of_mem ha; omega
  unfold nodeB
  rw [decide_eq_false hl, namesTo_no ha h]
  simp
end Go.Proofs.YtihbbgcpdgnhoaaGreatDoor
