/- What Read makes of an instruction's line, as plain lists; no statement is proved in this text. -/
import Derived.Test.YtobkehlkopkaeaaDoorLines
import Derived.Test.YtobkehlkopkaeaaDoorSurvey
namespace Go.Proofs.YtobkehlkopkaeaaDoor
set_option maxRecDepth 100000

/-- Words with a space between each two. -/
def joinW : List Bs → Bs
  | [] => []
  | [x] => x
  | x :: y :: r => x ++ 32 :: joinW (y :: r)
def isWord (x : Bs) : Prop := x ≠ [] ∧ ∀ b ∈ x, isSp b = false ∧ b ≠ 59 ∧ b ≠ 10 ∧ b.toNat < 128
def argsOf (i : In) : List Bs := (if 0 < rg i.op.toNat then [114 :: Lib.itoa i.a] else []) ++ (if 1 < rg i.op.toNat then [114 :: Lib.itoa i.b] else []) ++ (if 0 < fNums i.op.toNat then [Lib.itoa i.n] else [])
def wordsOf (i : In) : List Bs := nmOf i.op.toNat :: argsOf i
theorem dig_word (u : Nat) : (∀ b ∈ Lib.decDigits u, 48 ≤ b.toNat ∧ b.toNat ≤ 57) ∧ Lib.decDigits u ≠ [] ∧ dgs (Lib.decDigits u) = u := by
  induction u using Nat.strongRecOn with
  | _ u ih =>
    rw [Lib.decDigits]
    by_cases h : u < 10
    · rw [dif_pos h]
      refine ⟨fun b hb => ?_, by simp, ?_⟩
      · obtain rfl : b = UInt8.ofNat (48 + u) := by simpa using hb
        rw [UInt8.toNat_ofNat']
        omega
      · unfold dgs
        simp only [List.foldl_cons, List.foldl_nil, UInt8.toNat_ofNat']
        omega
    · rw [dif_neg h]
      obtain ⟨h1, h2, h3⟩ := ih (u / 10) (by omega)
      refine ⟨fun b hb => ?_, by simp, ?_⟩
      · rcases List.mem_append.1 hb with hb | hb
        · exact h1 b hb
        · obtain rfl : b = UInt8.ofNat (48 + u % 10) := by simpa using hb
          rw [UInt8.toNat_ofNat']
          omega
      · unfold dgs at h3 ⊢
        rw [List.foldl_append, h3]
        simp only [List.foldl_cons, List.foldl_nil, UInt8.toNat_ofNat']
        omega
theorem dig_isWord (u : Nat) : isWord (Lib.decDigits u) := by
  obtain ⟨h1, h2, _⟩ := dig_word u
  refine ⟨h2, fun b hb => ?_⟩
  have := h1 b hb
  refine ⟨?_, ?_, ?_, by omega⟩
  · cases h : isSp b with
    | false => rfl
    | true =>
      unfold isSp sp at h
      simp at h
      rcases h with rfl | rfl <;> simp at this
  · rintro rfl; simp at this
  · rintro rfl; simp at this
theorem itoa_word {n : Int} (h : 0 ≤ n) : isWord (Lib.itoa n) := by
  obtain ⟨u, rfl⟩ := Int.eq_ofNat_of_zero_le h
  rw [Lib.itoa_nonneg]
  exact dig_isWord u
theorem cons_word {x : Bs} (h : isWord x) : isWord (114 :: x) := by
  refine ⟨by simp, fun b hb => ?_⟩
  rcases List.mem_cons.1 hb with rfl | hb
  · decide
  · exact h.2 b hb
theorem nm_word : ∀ k : Nat, k < 21 → isWord (nmOf k) := by
  unfold isWord
  decide +kernel
theorem words_word {i : In} (h : isI i = true) : ∀ x ∈ wordsOf i, isWord x := by
  obtain ⟨h1, h2, h3, h4, _⟩ := isI_out h
  intro x hx
  unfold wordsOf argsOf at hx
  rcases List.mem_cons.1 hx with rfl | hx
  · exact nm_word _ (by omega)
  rcases List.mem_append.1 hx with hx | hx
  · rcases List.mem_append.1 hx with hx | hx
    · split at hx
      · obtain rfl : x = _ := by simpa using hx
        exact cons_word (itoa_word h2.1)
      · simp at hx
    · split at hx
      · obtain rfl : x = _ := by simpa using hx
        exact cons_word (itoa_word h3.1)
      · simp at hx
  · split at hx
    · obtain rfl : x = _ := by simpa using hx
      exact itoa_word h4
    · simp at hx
theorem lineF_join (i : In) : lineF i = joinW (wordsOf i) := by
  unfold lineF wordsOf argsOf
  have hr := rg_le i.op.toNat
  by_cases h0 : 0 < rg i.op.toNat <;> by_cases h1 : 1 < rg i.op.toNat <;> by_cases h2 : 0 < fNums i.op.toNat <;> simp [h0, h1, h2, joinW]
theorem words_len (i : In) : (wordsOf i).length ≤ 4 := by
  unfold wordsOf argsOf
  simp only [List.length_cons, List.length_append]
  repeat' split
  all_goals simp
theorem tw_word {x : Bs} (h : ∀ b ∈ x, isSp b = false) (r : Bs) : (x ++ 32 :: r).takeWhile (fun b => !isSp b) = x ∧ (x ++ 32 :: r).dropWhile (fun b => !isSp b) = 32 :: r := by
  induction x with
  | nil => exact ⟨rfl, rfl⟩
  | cons c x ih =>
    have hc := h c (by simp)
    obtain ⟨i1, i2⟩ := ih (fun b hb => h b (by simp [hb]))
    simp only [List.cons_append, List.takeWhile_cons, List.dropWhile_cons, hc, Bool.not_false, if_true, i1, i2]
    exact ⟨trivial, trivial⟩
theorem tw_word0 {x : Bs} (h : ∀ b ∈ x, isSp b = false) : x.takeWhile (fun b => !isSp b) = x ∧ x.dropWhile (fun b => !isSp b) = [] := by
  induction x with
  | nil => exact ⟨rfl, rfl⟩
  | cons c x ih =>
    have hc := h c (by simp)
    obtain ⟨i1, i2⟩ := ih (fun b hb => h b (by simp [hb]))
    simp only [List.takeWhile_cons, List.dropWhile_cons, hc, Bool.not_false, if_true, i1, i2]
    exact ⟨trivial, trivial⟩
theorem join_head {x : Bs} {r : List Bs} (h : ∀ y ∈ x :: r, isWord y) : ∃ c t, joinW (x :: r) = c :: t ∧ isSp c = false := by
  obtain ⟨hx, hb⟩ := h x (by simp)
  cases x with
  | nil => exact absurd rfl hx
  | cons c t =>
    cases r with
    | nil => exact ⟨c, t, rfl, (hb c (by simp)).1⟩
    | cons y r => exact ⟨c, _, rfl, (hb c (by simp)).1⟩
theorem words_join : ∀ (ws : List Bs) (n : Nat), ws.length ≤ n → (∀ y ∈ ws, isWord y) → ∀ tail : Bs, (tail = [] ∨ ∃ t, tail = 32 :: t ∧ t.dropWhile isSp = []) → wordsF n (joinW ws ++ (if ws = [] then [] else tail)) = ws
  | [], n, _, _, tail, _ => by simp [joinW, wf_nil]
  | [x], n + 1, _, h, tail, ht => by
    obtain ⟨hx, hb⟩ := h x (by simp)
    have hs : ∀ b ∈ x, isSp b = false := fun b hm => (hb b hm).1
    obtain ⟨c, t, hc, _⟩ := join_head h
    rw [if_neg (by simp)]
    have hw : ∀ l : Bs, l ≠ [] → wordsF (n + 1) l = l.takeWhile (fun b => !isSp b) :: wordsF n ((l.dropWhile (fun b => !isSp b)).dropWhile isSp) := fun l hl => by
      cases l with
      | nil => exact absurd rfl hl
      | cons c r => rfl
    rw [show joinW [x] = x from rfl, hw _ (by simp [hx])]
    rcases ht with rfl | ⟨t, rfl, ht⟩
    · rw [List.append_nil, (tw_word0 hs).1, (tw_word0 hs).2]
      simp [wf_nil]
    · rw [(tw_word hs t).1, (tw_word hs t).2]
      have : (32 :: t).dropWhile isSp = [] := by rw [List.dropWhile_cons]; simp [show isSp 32 = true by decide, ht]
      rw [this, wf_nil]
  | x :: y :: r, n + 1, hl, h, tail, ht => by
    obtain ⟨hx, hb⟩ := h x (by simp)
    have hs : ∀ b ∈ x, isSp b = false := fun b hm => (hb b hm).1
    have ih := words_join (y :: r) n (by simp at hl ⊢; omega) (fun z hz => h z (by simp at hz ⊢; exact Or.inr hz)) tail ht
    rw [if_neg (by simp)] at ih ⊢
    have hw : ∀ l : Bs, l ≠ [] → wordsF (n + 1) l = l.takeWhile (fun b => !isSp b) :: wordsF n ((l.dropWhile (fun b => !isSp b)).dropWhile isSp) := fun l hl => by
      cases l with
      | nil => exact absurd rfl hl
      | cons c r => rfl
    rw [show joinW (x :: y :: r) = x ++ 32 :: joinW (y :: r) from rfl, List.append_assoc, List.cons_append, hw _ (by simp [hx]), (tw_word hs _).1, (tw_word hs _).2]
    obtain ⟨c, t, hc, hcs⟩ := join_head (x := y) (r := r) (fun z hz => h z (by simp at hz ⊢; exact Or.inr hz))
    have : (32 :: (joinW (y :: r) ++ tail)).dropWhile isSp = joinW (y :: r) ++ tail := by
      rw [List.dropWhile_cons, if_pos (by decide), hc, List.cons_append, List.dropWhile_cons, hcs]
      simp
    rw [this, ih]
end Go.Proofs.YtobkehlkopkaeaaDoor
