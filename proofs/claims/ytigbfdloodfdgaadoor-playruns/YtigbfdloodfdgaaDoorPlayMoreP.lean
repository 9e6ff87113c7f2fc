/- Runs with more fuel, and with more answers, as plain lists; no statement is proved in this text. -/
import Derived.Test.YtigbfdloodfdgaaDoorPlayIt
namespace Go.Proofs.YtigbfdloodfdgaaDoor

theorem doP_K (C : List Nat) (x : Ac) (s : Rn) : ∃ t, (doP C x s).2.K = s.K ++ t := by
  unfold doP
  repeat' split
  all_goals first
    | exact ⟨[], (List.append_nil _).symm⟩
    | exact ⟨_, rfl⟩
theorem itP_K (l : List UInt8) (s : Rn) (n : Nat) : ∀ d, ∃ t, (itP l (n + d) s).2.2.K = (itP l n s).2.2.K ++ t
  | 0 => ⟨[], by simp⟩
  | d + 1 => by
    obtain ⟨t, ht⟩ := itP_K l s n d
    show ∃ t, (if (itP l (n + d) s).1 = 0 then ((stepP l (itP l (n + d) s).2.2).1, (itP l (n + d) s).2.1 + 1, (stepP l (itP l (n + d) s).2.2).2) else itP l (n + d) s).2.2.K = _
    split
    · obtain ⟨u, hu⟩ := doP_K (stC (itP l (n + d) s).2.2.C l) (stA (itP l (n + d) s).2.2.C l) (itP l (n + d) s).2.2
      exact ⟨t ++ u, by simp only [stepP]; rw [hu, ht, List.append_assoc]⟩
    · exact ⟨t, ht⟩
theorem itP_up (l : List UInt8) (s : Rn) (n : Nat) : ∀ d, (itP l n s).2.1 ≤ (itP l (n + d) s).2.1
  | 0 => Nat.le_refl _
  | d + 1 => by
    have := itP_up l s n d
    show _ ≤ (if (itP l (n + d) s).1 = 0 then ((stepP l (itP l (n + d) s).2.2).1, (itP l (n + d) s).2.1 + 1, (stepP l (itP l (n + d) s).2.2).2) else itP l (n + d) s).2.1
    split
    · simp only; omega
    · exact this
/-- A run whose answers are others: the same but for these, as long as no call finds its answers at their end. -/
theorem doP_A (C : List Nat) (x : Ac) (s : Rn) (B : List Int) (h : (doP C x s).2.K.length = s.K.length ∨ s.A.headD 0 = B.headD 0) :
    doP C x { s with A := B } = ((doP C x s).1, { (doP C x s).2 with A := if x.k = 2 then B.tail else B }) := by
  unfold doP at h ⊢
  by_cases h0 : x.k = 0
  · simp [h0]
  · by_cases h1 : x.k = 1
    · simp [h1]
    · by_cases h2 : x.k = 2
      · simp only [h2] at h ⊢
        simp at h ⊢
        rw [h]
      · by_cases h3 : x.k = 3
        · simp only [h3]
          simp
          split <;> simp
        · by_cases h4 : x.k = 4
          · simp only [h4]
            simp
            split <;> simp
          · simp [h0, h1, h2, h3, h4]
end Go.Proofs.YtigbfdloodfdgaaDoor
