/- What is plain fits, and is small; no statement is proved in this text. -/
import Derived.Test.YtgiemijhndanjaaDoorDf
import Derived.Test.YtgiemijhndanjaaDoorPl
namespace Go.Proofs.YtgiemijhndanjaaDoor
open Go.ChangeShapes Go.WideShapes Go.ChangeAt Go.RowKit Go.Deep

theorem firstL_nil (T : Ty) : ∀ (l : List Vl) (k : Nat), (∀ i, (hi : i < l.length) → firstF l[i] (kidT T (k + i)) = []) → firstL l k T = []
  | [], _, _ => rfl
  | v :: r, k, h => by
    have h0 := h 0 (by simp)
    simp only [firstL]
    have e : firstF v (kidT T k) = [] := h0
    rw [if_pos (by rw [e]; rfl)]
    refine firstL_nil T r (k + 1) fun i hi => ?_
    have := h (i + 1) (by simpa using hi)
    rw [show k + 1 + i = k + (i + 1) by omega]
    exact this
theorem kinds {T : Ty} (h : T.formed = true) : T.kind = 1 ∨ T.kind = 2 ∨ T.kind = 3 ∨ T.kind = 4 := by
  have hn := (formed_node h).1
  unfold nodeB at hn
  split at hn
  · omega
  · split at hn
    · omega
    · split at hn
      · omega
      · split at hn
        · omega
        · cases hn
theorem dflt_alone {T : Ty} (h : T.formed = true) : aloneB T.dflt T = true := by
  have hk := kinds h
  have hn := (formed_node h).1
  rw [T.dflt_eq]
  unfold aloneB alB
  simp only [Vl.kind, Vl.num, Vl.s, Vl.kids]
  unfold nodeB at hn
  rw [if_neg (by simp)]
  rcases hk with hk | hk | hk | hk
  · rw [if_pos hk, if_neg (by omega)]
    have : (0 : Int) < 2 ^ T.num.toNat := Int.pow_pos (by omega)
    simp [this]
  · rw [if_neg (by omega), if_pos hk] at hn
    rw [if_neg (by omega), if_pos hk, if_neg (by omega)]
    simp only [Bool.and_eq_true, decide_eq_true_eq] at hn
    have h0 : 0 ≤ T.num := by omega
    simp [h0]
  · rw [if_neg (by omega), if_neg (by omega), if_pos hk] at hn
    rw [if_neg (by omega), if_neg (by omega), if_pos hk, if_neg (by omega)]
    simp only [Bool.and_eq_true, decide_eq_true_eq] at hn
    have h0 : 0 ≤ T.num := by omega
    simp [h0]
  · rw [if_neg (by omega), if_neg (by omega), if_neg (by omega), if_pos hk]
    simp [dfltL_len]
theorem dflt_first : ∀ (M : Nat) (T : Ty), T.count ≤ M → T.formed = true → firstF T.dflt T = []
  | 0, T, h, _ => by have := count_pos T; omega
  | M + 1, T, h, hf => by
    rw [firstF_eq, if_pos (dflt_alone hf)]
    refine firstL_nil T _ 0 fun i hi => ?_
    have e : T.dflt.kids = if T.kind = 4 then dfltL T.kids else [] := by rw [T.dflt_eq]; rfl
    by_cases h4 : T.kind = 4
    · rw [if_pos h4] at e
      have hi2 : i < (dfltL T.kids).length := by rw [← e]; exact hi
      have hi3 : i < T.kids.length := by rw [dfltL_len] at hi2; exact hi2
      have e2 : T.dflt.kids[i] = T.kids[i].dflt := by
        have : T.dflt.kids[i] = (dfltL T.kids)[i] := by simp only [e]
        rw [this, dfltL_get _ _ hi3]
      have e3 : kidT T (0 + i) = T.kids[i] := by
        unfold kidT
        rw [if_neg (by omega), Nat.zero_add, getD_lt _ _ _ hi3]
      rw [e2, e3]
      have hc : T.count = 1 + countL T.kids := by cases T; rfl
      have hm := countL_mem (List.getElem_mem hi3)
      exact dflt_first M _ (by omega) (formedL_mem (formed_node hf).2 (List.getElem_mem hi3))
    · rw [if_neg h4] at e
      rw [e] at hi
      simp at hi
theorem sizeL_le : ∀ (l m : List Vl), l.length = m.length → (∀ i, (h : i < l.length) → (h' : i < m.length) → l[i].size ≤ m[i].size) → sizeL l ≤ sizeL m
  | [], [], _, _ => Nat.le_refl _
  | a :: r, b :: s, hl, h => by
    have h0 := h 0 (by simp) (by simp)
    have := sizeL_le r s (by simpa using hl) (fun i h1 h2 => h (i + 1) (by simpa using h1) (by simpa using h2))
    simp only [sizeL]
    simp only [List.getElem_cons_zero] at h0
    omega
theorem dflt_le : ∀ (M : Nat) (T : Ty), T.count ≤ M → T.formed = true → ∀ V, firstF V T = [] → T.dflt.size ≤ V.size
  | 0, T, h, _, _, _ => by have := count_pos T; omega
  | M + 1, T, h, hf, V, hV => by
    obtain ⟨ha, hk⟩ := first_nil hV
    have e : T.dflt.kids = if T.kind = 4 then dfltL T.kids else [] := by rw [T.dflt_eq]; rfl
    rw [T.dflt.size_eq, V.size_eq, e]
    by_cases h4 : T.kind = 4
    · rw [if_pos h4]
      obtain ⟨g1, g2⟩ := alone_kids hf ha h4
      have hc : T.count = 1 + countL T.kids := by cases T; rfl
      have := sizeL_le (dfltL T.kids) V.kids (by rw [dfltL_len]; exact g1.symm) (fun i h1 h2 => by
        have hi3 : i < T.kids.length := by rw [dfltL_len] at h1; exact h1
        rw [dfltL_get _ _ hi3]
        have hm := countL_mem (List.getElem_mem hi3)
        refine dflt_le M _ (by omega) (formedL_mem (formed_node hf).2 (List.getElem_mem hi3)) _ ?_
        have := hk i h2
        have e3 : kidT T i = T.kids[i] := by
          unfold kidT
          rw [if_neg (by omega), getD_lt _ _ _ hi3]
        rw [e3] at this
        exact this)
      omega
    · rw [if_neg h4]
      simp only [sizeL]
      omega
end Go.Proofs.YtgiemijhndanjaaDoor
