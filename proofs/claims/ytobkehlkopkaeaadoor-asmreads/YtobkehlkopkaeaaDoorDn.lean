/- A line, read by both; no statement is proved in this text. -/
import Derived.Test.YtobkehlkopkaeaaDoorDm
namespace Go.Proofs.YtobkehlkopkaeaaDoor
set_option maxRecDepth 100000

theorem reg_both (x : Bs) : (regD x < 0 ∧ (regF x = none ∨ ∃ r : Nat, regF x = some r ∧ 7 < r)) ∨ ∃ r : Nat, r ≤ 7 ∧ regD x = r ∧ regF x = some r := by
  have hn : ∀ y : Bs, Lib.hasPrefix y [114] = false → regF y = none := fun y h => by unfold regF; rw [h]; rfl
  rcases x with _ | ⟨a, _ | ⟨b, _ | ⟨c, r⟩⟩⟩
  · exact Or.inl ⟨by decide, Or.inl (by decide)⟩
  · refine Or.inl ⟨by unfold regD; simp, Or.inl ?_⟩
    unfold regF Lib.trimPrefix Lib.hasPrefix
    by_cases h : (114 : UInt8) = a
    · subst h; decide
    · simp [List.isPrefixOf, h]
  · by_cases h : (114 : UInt8) = a
    · subst h
      have e : regF [114, b] = if 48 ≤ b.toNat ∧ b.toNat ≤ 57 then some (b.toNat - 48) else none := by
        unfold regF Lib.trimPrefix Lib.hasPrefix within
        by_cases hb : 48 ≤ b.toNat ∧ b.toNat ≤ 57 <;> simp [List.isPrefixOf, hb]
      have e2 : regD [114, b] = if 48 ≤ b.toNat ∧ b.toNat ≤ 55 then (b.toNat : Int) - 48 else -1 := by simp [regD]
      rw [e, e2]
      by_cases h1 : 48 ≤ b.toNat ∧ b.toNat ≤ 55
      · rw [if_pos h1, if_pos ⟨h1.1, by omega⟩]
        exact Or.inr ⟨b.toNat - 48, by omega, by omega, rfl⟩
      · rw [if_neg h1]
        refine Or.inl ⟨by omega, ?_⟩
        by_cases h2 : 48 ≤ b.toNat ∧ b.toNat ≤ 57
        · rw [if_pos h2]; exact Or.inr ⟨_, rfl, by omega⟩
        · rw [if_neg h2]; exact Or.inl rfl
    · refine Or.inl ⟨?_, Or.inl (hn _ (by simp [Lib.hasPrefix, List.isPrefixOf, h]))⟩
      have e2 : regD [a, b] = -1 := by
        unfold regD
        exact if_neg (fun h2 => h h2.1.symm)
      rw [e2]; omega
  · refine Or.inl ⟨by rw [regD_len (by simp)]; omega, Or.inl ?_⟩
    unfold regF Lib.trimPrefix
    by_cases h : Lib.hasPrefix (a :: b :: c :: r) [114] = true
    · rw [h]; simp [within]
    · simp [h]
theorem num_both (x : Bs) : (numD x < 0 ∧ numF x = none) ∨ ∃ n : Nat, numD x = n ∧ numF x = some n := by
  unfold numD
  cases h : numF x with
  | none => exact Or.inl ⟨by simp, rfl⟩
  | some n => exact Or.inr ⟨n, rfl, rfl⟩
theorem lab_num {x : Bs} (h : labB x = true) : numF x = none := by
  unfold labB within at h
  simp only [Bool.and_eq_true, decide_eq_true_eq] at h
  obtain ⟨⟨h1, _⟩, h2⟩ := h
  unfold numF within
  cases x with
  | nil => simp at h1
  | cons a r =>
    rw [List.all_cons, Bool.and_eq_true] at h2
    have h3 := of_decide_eq_true h2.1
    have h4 : ¬ (48 ≤ a.toNat ∧ a.toNat ≤ 57) := by omega
    rw [List.all_cons, decide_eq_false h4]
    simp
theorem shp_cases : ∀ k : Nat, k < 21 → (shpF k = [] ∧ rg k = 0 ∧ fNums k = 0) ∨ (shpF k = [114, 110] ∧ rg k = 1 ∧ fNums k = 1 ∧ fLab k = false) ∨ (shpF k = [108] ∧ rg k = 0 ∧ fNums k = 1 ∧ fLab k = true)
    ∨ (shpF k = [114, 108] ∧ rg k = 1 ∧ fNums k = 1 ∧ fLab k = true) ∨ (shpF k = [110] ∧ rg k = 0 ∧ fNums k = 1 ∧ fLab k = false) ∨ (shpF k = [114, 114] ∧ rg k = 2 ∧ fNums k = 0) := by decide +kernel
/-- What the program makes of a line that the document reads as s. -/
def fitI (M : Labs) (k a : Nat) (s : In × Bs) : Option In := if s.2 = [] then some s.1 else match lookL M s.2 with
  | some p => some ⟨s.1.op, s.1.a, s.1.b, (dist (a + sz k : Nat) (p.2 : Nat) : Nat)⟩
  | none => none
theorem isI_reg {i : In} (h : 7 < i.a ∨ 7 < i.b) : isI i = false := by
  unfold isI
  exact decide_eq_false fun hq => by
    rcases h with h | h
    · omega
    · omega
/-- The program's reading of a line's words against the document's. -/
def Same1 (M : Labs) (k a : Nat) (t : List Bs) : Prop :=
  match lpD ((shpF k).zip t) 0 (⟨k, 0, 0, 0⟩, []) with
  | none => ∀ i, encI k t a M = some i → isI i = false
  | some s => encI k t a M = fitI M k a s ∧ s.1.op = k ∧ (s.2 ≠ [] → s.1.n = 0 ∧ labB s.2 = true)
theorem num_lab {R : List (List Bs)} {M : Labs} (hM : LabsOk R M) {x : Bs} (h : ¬ labB x = true) : lookL M x = none := by
  rcases hM x with ⟨h1, _⟩ | ⟨h1, _⟩
  · exact h1
  · exact absurd h1 h
theorem numW_no {M : Labs} {k a : Nat} {x : Bs} (h : fLab k = false) : numW M k a x = numF x := by
  unfold numW
  cases lookL M x with
  | none => rfl
  | some s => simp [h]
theorem lp_one {c : UInt8} {x : Bs} {s : In × Bs} : lpD [(c, x)] 0 s = stD c 0 x s := by
  rw [lp_cons]; cases stD c 0 x s <;> rfl
theorem lp_two {c d : UInt8} {x y : Bs} {s : In × Bs} : lpD [(c, x), (d, y)] 0 s = match stD c 0 x s with | none => none | some u => stD d 1 y u := by
  rw [lp_cons]
  cases stD c 0 x s with
  | none => rfl
  | some u => simp only; rw [lp_cons]; cases stD d (0 + 1) y u <;> rfl
theorem same1 {R : List (List Bs)} {M : Labs} (hM : LabsOk R M) (k a : Nat) (hk : k < 21) (t : List Bs) (ht : t.length = (shpF k).length) : Same1 M k a t := by
  unfold Same1
  rcases shp_cases k hk with ⟨h1, h2, h3⟩ | ⟨h1, h2, h3, h4⟩ | ⟨h1, h2, h3, h4⟩ | ⟨h1, h2, h3, h4⟩ | ⟨h1, h2, h3, h4⟩ | ⟨h1, h2, h3⟩
  · rw [h1] at ht ⊢
    obtain rfl : t = [] := List.eq_nil_of_length_eq_zero ht
    simp [lpD, encI, h2, h3, fitI, regsF]
  · rw [h1] at ht ⊢
    obtain ⟨x, y, rfl⟩ : ∃ x y, t = [x, y] := by
      rcases t with _ | ⟨x, _ | ⟨y, _ | ⟨z, r⟩⟩⟩ <;> simp at ht
      exact ⟨x, y, rfl⟩
    have hz : ([114, 110] : Bs).zip [x, y] = [(114, x), (110, y)] := rfl
    rw [hz, lp_two]
    rcases reg_both x with ⟨r1, r2⟩ | ⟨r, r1, r2, r3⟩
    · have e1 : stD 114 0 x (⟨k, 0, 0, 0⟩, []) = none := by unfold stD; rw [if_pos rfl, if_pos r1]
      rw [e1]
      intro i hi
      unfold encI at hi
      rcases r2 with r2 | ⟨r, r2, r3⟩
      · simp [h2, h3, regsF, r2] at hi
      · simp [h2, h3, regsF, r2, numW_no h4] at hi
        rcases num_both y with ⟨_, n2⟩ | ⟨n, _, n2⟩
        · simp [n2] at hi
        · simp [n2] at hi
          rw [← hi]; exact isI_reg (Or.inl (by simp; omega))
    · have e1 : stD 114 0 x (⟨k, 0, 0, 0⟩, []) = some (⟨k, r, 0, 0⟩, []) := by unfold stD; rw [if_pos rfl, if_neg (by omega), if_pos rfl, r2]
      rw [e1]
      rcases num_both y with ⟨n1, n2⟩ | ⟨n, n1, n2⟩
      · have e2 : stD 110 1 y (⟨k, r, 0, 0⟩, []) = none := by unfold stD; rw [if_neg (by decide), if_neg (by simp), if_pos n1]
        simp only [e2]
        intro i hi
        simp [encI, h2, h3, regsF, r3, numW_no h4, n2] at hi
      · have e2 : stD 110 1 y (⟨k, r, 0, 0⟩, []) = some (⟨k, r, 0, n⟩, []) := by unfold stD; rw [if_neg (by decide), if_neg (by simp), if_neg (by omega), n1]
        simp only [e2]
        simp [encI, h2, h3, regsF, r3, numW_no h4, n2, fitI]
  · rw [h1] at ht ⊢
    obtain ⟨x, rfl⟩ : ∃ x, t = [x] := by
      rcases t with _ | ⟨x, _ | ⟨y, r⟩⟩ <;> simp at ht
      exact ⟨x, rfl⟩
    have hz : ([108] : Bs).zip [x] = [(108, x)] := rfl
    rw [hz, lp_one]
    by_cases hl : labB x = true
    · have e2 : stD 108 0 x (⟨k, 0, 0, 0⟩, []) = some (⟨k, 0, 0, 0⟩, x) := by unfold stD; rw [if_neg (by decide), if_pos ⟨rfl, hl⟩]
      have hx : x ≠ [] := fun e => by rw [e] at hl; revert hl; decide
      simp only [e2]
      refine ⟨?_, trivial, fun _ => ⟨trivial, hl⟩⟩
      cases hq : lookL M x with
      | none => simp [encI, h2, h3, regsF, numW, hq, lab_num hl, fitI, hx]
      | some p => simp [encI, h2, h3, regsF, numW, hq, h4, fitI, hx]
    · have hq := num_lab hM hl
      rcases num_both x with ⟨n1, n2⟩ | ⟨n, n1, n2⟩
      · have e2 : stD 108 0 x (⟨k, 0, 0, 0⟩, []) = none := by unfold stD; rw [if_neg (by decide), if_neg (fun h => hl h.2), if_pos n1]
        simp only [e2]
        intro i hi
        simp [encI, h2, h3, regsF, numW, hq, n2] at hi
      · have e2 : stD 108 0 x (⟨k, 0, 0, 0⟩, []) = some (⟨k, 0, 0, n⟩, []) := by unfold stD; rw [if_neg (by decide), if_neg (fun h => hl h.2), if_neg (by omega), n1]
        simp only [e2]
        simp [encI, h2, h3, regsF, numW, hq, n2, fitI]
  · rw [h1] at ht ⊢
    obtain ⟨x, y, rfl⟩ : ∃ x y, t = [x, y] := by
      rcases t with _ | ⟨x, _ | ⟨y, _ | ⟨z, r⟩⟩⟩ <;> simp at ht
      exact ⟨x, y, rfl⟩
    have hz : ([114, 108] : Bs).zip [x, y] = [(114, x), (108, y)] := rfl
    rw [hz, lp_two]
    rcases reg_both x with ⟨r1, r2⟩ | ⟨r, r1, r2, r3⟩
    · have e1 : stD 114 0 x (⟨k, 0, 0, 0⟩, []) = none := by unfold stD; rw [if_pos rfl, if_pos r1]
      rw [e1]
      intro i hi
      unfold encI at hi
      rcases r2 with r2 | ⟨r, r2, r3⟩
      · simp [h2, h3, regsF, r2] at hi
      · simp [h2, h3, regsF, r2] at hi
        cases hw : numW M k a y with
        | none => simp [hw] at hi
        | some n =>
          simp [hw] at hi
          rw [← hi]; exact isI_reg (Or.inl (by simp; omega))
    · have e1 : stD 114 0 x (⟨k, 0, 0, 0⟩, []) = some (⟨k, r, 0, 0⟩, []) := by unfold stD; rw [if_pos rfl, if_neg (by omega), if_pos rfl, r2]
      rw [e1]
      by_cases hl : labB y = true
      · have e2 : stD 108 1 y (⟨k, r, 0, 0⟩, []) = some (⟨k, r, 0, 0⟩, y) := by unfold stD; rw [if_neg (by decide), if_pos ⟨rfl, hl⟩]
        have hx : y ≠ [] := fun e => by rw [e] at hl; revert hl; decide
        simp only [e2]
        refine ⟨?_, trivial, fun _ => ⟨trivial, hl⟩⟩
        cases hq : lookL M y with
        | none => simp [encI, h2, h3, regsF, r3, numW, hq, lab_num hl, fitI, hx]
        | some p => simp [encI, h2, h3, regsF, r3, numW, hq, h4, fitI, hx]
      · have hq := num_lab hM hl
        rcases num_both y with ⟨n1, n2⟩ | ⟨n, n1, n2⟩
        · have e2 : stD 108 1 y (⟨k, r, 0, 0⟩, []) = none := by unfold stD; rw [if_neg (by decide), if_neg (fun h => hl h.2), if_pos n1]
          simp only [e2]
          intro i hi
          simp [encI, h2, h3, regsF, r3, numW, hq, n2] at hi
        · have e2 : stD 108 1 y (⟨k, r, 0, 0⟩, []) = some (⟨k, r, 0, n⟩, []) := by unfold stD; rw [if_neg (by decide), if_neg (fun h => hl h.2), if_neg (by omega), n1]
          simp only [e2]
          simp [encI, h2, h3, regsF, r3, numW, hq, n2, fitI]
  · rw [h1] at ht ⊢
    obtain ⟨x, rfl⟩ : ∃ x, t = [x] := by
      rcases t with _ | ⟨x, _ | ⟨y, r⟩⟩ <;> simp at ht
      exact ⟨x, rfl⟩
    have hz : ([110] : Bs).zip [x] = [(110, x)] := rfl
    rw [hz, lp_one]
    rcases num_both x with ⟨n1, n2⟩ | ⟨n, n1, n2⟩
    · have e2 : stD 110 0 x (⟨k, 0, 0, 0⟩, []) = none := by unfold stD; rw [if_neg (by decide), if_neg (by simp), if_pos n1]
      simp only [e2]
      intro i hi
      simp [encI, h2, h3, regsF, numW_no h4, n2] at hi
    · have e2 : stD 110 0 x (⟨k, 0, 0, 0⟩, []) = some (⟨k, 0, 0, n⟩, []) := by unfold stD; rw [if_neg (by decide), if_neg (by simp), if_neg (by omega), n1]
      simp only [e2]
      simp [encI, h2, h3, regsF, numW_no h4, n2, fitI]
  · rw [h1] at ht ⊢
    obtain ⟨x, y, rfl⟩ : ∃ x y, t = [x, y] := by
      rcases t with _ | ⟨x, _ | ⟨y, _ | ⟨z, r⟩⟩⟩ <;> simp at ht
      exact ⟨x, y, rfl⟩
    have hz : ([114, 114] : Bs).zip [x, y] = [(114, x), (114, y)] := rfl
    rw [hz, lp_two]
    rcases reg_both x with ⟨r1, r2⟩ | ⟨r, r1, r2, r3⟩
    · have e1 : stD 114 0 x (⟨k, 0, 0, 0⟩, []) = none := by unfold stD; rw [if_pos rfl, if_pos r1]
      rw [e1]
      intro i hi
      unfold encI at hi
      rcases r2 with r2 | ⟨r, r2, r3⟩
      · simp [h2, h3, regsF, r2] at hi
      · cases hy : regF y with
        | none => simp [h2, h3, regsF, r2, hy] at hi
        | some u =>
          simp [h2, h3, regsF, r2, hy] at hi
          rw [← hi]; exact isI_reg (Or.inl (by simp; omega))
    · have e1 : stD 114 0 x (⟨k, 0, 0, 0⟩, []) = some (⟨k, r, 0, 0⟩, []) := by unfold stD; rw [if_pos rfl, if_neg (by omega), if_pos rfl, r2]
      rw [e1]
      rcases reg_both y with ⟨u1, u2⟩ | ⟨u, u1, u2, u3⟩
      · have e2 : stD 114 1 y (⟨k, r, 0, 0⟩, []) = none := by unfold stD; rw [if_pos rfl, if_pos u1]
        simp only [e2]
        intro i hi
        unfold encI at hi
        rcases u2 with u2 | ⟨u, u2, u3⟩
        · simp [h2, h3, regsF, r3, u2] at hi
        · simp [h2, h3, regsF, r3, u2] at hi
          rw [← hi]; exact isI_reg (Or.inr (by simp; omega))
      · have e2 : stD 114 1 y (⟨k, r, 0, 0⟩, []) = some (⟨k, r, u, 0⟩, []) := by unfold stD; rw [if_pos rfl, if_neg (by omega), if_neg (by omega), u2]
        simp only [e2]
        simp [encI, h2, h3, regsF, r3, u3, fitI]
end Go.Proofs.YtobkehlkopkaeaaDoor
