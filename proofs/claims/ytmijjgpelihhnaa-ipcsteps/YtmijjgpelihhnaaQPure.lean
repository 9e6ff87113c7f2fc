/- Queues out of one list: plain; no statement is proved in this text. -/
import Derived.Test.YtmijjgpelihhnaaApart
namespace Go.Proofs.Ytmijjgpelihhnaa
open Go.ChangeShapes Go.WideShapes Go.ChangeAt Go.RowKit Go.Deep

/-- A message of the document's. -/
structure Mg where
  fr : Int
  tt : Int
  wd : Int
def Mg.p (m : Mg) : Ms := (m.fr, m.wd)
def toB (n : Int) (m : Mg) : Bool := decide (m.tt = n)
def qF (L : List Mg) (j : Nat) : List Ms := (L.filter (toB ((j : Int) + 1))).map Mg.p
def cntM (L : List Mg) (n : Int) : Nat := (L.filter (toB n)).length
def Mg.ok (m : Mg) : Prop := (1 ≤ m.fr ∧ m.fr ≤ 3) ∧ (1 ≤ m.tt ∧ m.tt ≤ 3) ∧ 0 ≤ m.wd ∧ m.wd ≤ 65535
def okM (L : List Mg) : Prop := ∀ m ∈ L, m.ok
theorem qF_len (L : List Mg) (j : Nat) : (qF L j).length = cntM L ((j : Int) + 1) := by simp [qF, cntM]
theorem qF_app (A B : List Mg) (j : Nat) : qF (A ++ B) j = qF A j ++ qF B j := by simp [qF]
theorem qF_send (L : List Mg) (i : Nat) (m : Mg) (h : m.tt = (i : Int) + 1) : qF (L ++ [m]) = upQ (qF L) i m.p := by
  funext j
  rw [qF_app]
  unfold upQ
  by_cases hj : j = i
  · subst hj
    simp [qF, toB, h]
  · rw [if_neg hj]
    have : ¬ m.tt = (j : Int) + 1 := by omega
    simp [qF, toB, this]
theorem cnt_no {L : List Mg} (h : okM L) {n : Int} (hn : envB n = false) : cntM L n = 0 := by
  have := envB_false hn
  unfold cntM
  rw [List.length_eq_zero_iff, List.filter_eq_nil_iff]
  intro m hm
  have := (h m hm).2.1
  simp [toB]
  omega
theorem wt_cnt {L : List Mg} (h : okM L) (n : Int) : wtF (qF L) n = (cntM L n : Nat) := by
  unfold wtF
  by_cases h1 : n = 1
  · subst h1; rw [if_pos rfl, qF_len]; rfl
  by_cases h2 : n = 2
  · subst h2; rw [if_neg (by omega), if_pos rfl, qF_len]; rfl
  by_cases h3 : n = 3
  · subst h3; rw [if_neg (by omega), if_neg (by omega), if_pos rfl, qF_len]; rfl
  rw [if_neg h1, if_neg h2, if_neg h3, cnt_no h (by unfold envB; simp; omega)]
  rfl
theorem stK_tail (g : Int → Ms → Bool) (q : List Ms) (h0 : ∀ m, g 0 m = true) (h1 : ∀ k : Nat, ∀ m, g ((k : Int) + 1) m = false) (k : Nat) : stK g q k = (q.take k).tail := by
  induction k with
  | zero => simp [stK]
  | succ k ih =>
    rw [stK, ih]
    cases k with
    | zero =>
      cases q with
      | nil => simp
      | cons m r => simp [h0 m]
    | succ k =>
      cases hq : q[k + 1]? with
      | none =>
        have hl := List.getElem?_eq_none_iff.1 hq
        rw [List.take_of_length_le (show q.length ≤ k + 1 by omega), List.take_of_length_le (by omega)]
        simp
      | some m =>
        have hg : g ((k + 1 : Nat) : Int) m = false := by have := h1 k m; simpa using this
        rw [List.take_add_one (i := k + 1), hq]
        simp only [hg, Bool.false_eq_true, if_false]
        cases q with
        | nil => simp at hq
        | cons a r => simp
theorem cut20_same (env : Int) (Q : Nat → List Ms) (j : Nat) (h : ((j : Nat) : Int) + 1 = env) : cutQ20 env Q j = (Q j).tail := by
  unfold cutQ20 stF
  rw [stK_tail _ _ (fun m => by simp [g20, h]) (fun k m => by simp [g20]; omega), List.take_of_length_le (Nat.le_refl _)]
theorem stK_filter (g : Ms → Bool) (q : List Ms) (k : Nat) : stK (fun _ m => g m) q k = (q.take k).filter (fun m => !g m) := by
  induction k with
  | zero => simp [stK]
  | succ k ih =>
    rw [stK, ih, List.take_add_one]
    cases q[k]? with
    | none => simp
    | some m => cases hg : g m <;> simp [hg]
theorem cut21_eq (env : Int) (Q : Nat → List Ms) (j : Nat) : cutQ21 env Q j = (Q j).filter (fun m => !(decide (((j : Nat) : Int) + 1 = env) || decide (m.1 = env))) := by
  unfold cutQ21 stF
  rw [show g21 env (((j : Nat) : Int) + 1) = fun _ m => decide (((j : Nat) : Int) + 1 = env) || decide (m.1 = env) from rfl, stK_filter, List.take_of_length_le (Nat.le_refl _)]
def stayB (n : Int) (m : Mg) : Bool := !(decide (m.tt = n)) && !(decide (m.fr = n))
theorem qF_clear (L : List Mg) (n : Int) : qF (L.filter (stayB n)) = cutQ21 n (qF L) := by
  funext j
  rw [cut21_eq]
  unfold qF
  induction L with
  | nil => rfl
  | cons m r ih =>
    by_cases ht : m.tt = (j : Int) + 1
    · by_cases hs : stayB n m = true
      · rw [List.filter_cons_of_pos hs, List.filter_cons_of_pos (by simp [toB, ht]), List.filter_cons_of_pos (by simp [toB, ht]), List.map_cons, List.map_cons, ih, List.filter_cons_of_pos]
        unfold stayB at hs
        simp [Mg.p] at hs ⊢
        rw [ht] at hs
        exact ⟨hs.1, decide_eq_false hs.2⟩
      · rw [List.filter_cons_of_neg hs, List.filter_cons_of_pos (by simp [toB, ht]), List.map_cons, ih, List.filter_cons_of_neg]
        unfold stayB at hs
        simp [Mg.p] at hs ⊢
        rw [ht] at hs
        exact fun h => decide_eq_true (hs h)
    · rw [List.filter_cons_of_neg (a := m) (l := r) (p := toB ((j : Int) + 1)) (by simp [toB, ht])]
      by_cases hs : stayB n m = true
      · rw [List.filter_cons_of_pos hs, List.filter_cons_of_neg (by simp [toB, ht])]
        exact ih
      · rw [List.filter_cons_of_neg hs]
        exact ih
theorem len3 {L : List Mg} (h : okM L) : (L.length : Int) = (qF L 0).length + (qF L 1).length + (qF L 2).length := by
  induction L with
  | nil => rfl
  | cons m r ih =>
    have ih := ih (fun x hx => h x (List.mem_cons_of_mem _ hx))
    have ht := (h m (List.mem_cons_self ..)).2.1
    rcases (show m.tt = 1 ∨ m.tt = 2 ∨ m.tt = 3 by omega) with h1 | h1 | h1 <;> simp [qF, toB, h1] at ih ⊢ <;> omega
theorem gc_clear {L : List Mg} (h : okM L) (n : Int) : gc (qF L) (cutQ21 n (qF L)) 3 = (L.length : Int) - (L.filter (stayB n)).length := by
  rw [← qF_clear, len3 h, len3 (L := L.filter (stayB n)) (fun m hm => h m (List.mem_filter.1 hm).1)]
  simp only [gc]
  omega
theorem qF_recv {L : List Mg} {k i : Nat} {m : Mg} (hp : L[k]? = some m) (hm : m.tt = (i : Int) + 1) (hno : ∀ (j : Nat) x, j < k → L[j]? = some x → x.tt ≠ (i : Int) + 1) : (∃ r, qF L i = m.p :: r) ∧ qF (L.take k ++ L.drop (k + 1)) = cutQ20 ((i : Int) + 1) (qF L) := by
  have hk : k < L.length := (List.getElem?_eq_some_iff.1 hp).1
  have hL : L = L.take k ++ (m :: L.drop (k + 1)) := by
    have hg : L[k] = m := (List.getElem?_eq_some_iff.1 hp).2
    rw [← hg, List.getElem_cons_drop, List.take_append_drop]
  have hz : qF (L.take k) i = [] := by
    unfold qF
    rw [List.map_eq_nil_iff, List.filter_eq_nil_iff]
    intro x hx
    obtain ⟨j, hj⟩ := List.getElem?_of_mem hx
    have hjk : j < k := by have := (List.getElem?_eq_some_iff.1 hj).1; simp at this; omega
    rw [List.getElem?_take] at hj
    simp [hjk] at hj
    have := hno j x hjk hj
    simpa [toB] using this
  have hone : qF (m :: L.drop (k + 1)) i = m.p :: qF (L.drop (k + 1)) i := by simp [qF, toB, hm]
  have hi : qF L i = m.p :: qF (L.drop (k + 1)) i := by
    rw [hL, qF_app, hz, List.nil_append]
    have : (L.take k ++ (m :: L.drop (k + 1))).drop (k + 1) = L.drop (k + 1) := by rw [← hL]
    rw [this]
    exact hone
  refine ⟨⟨_, hi⟩, ?_⟩
  funext j
  by_cases hj : j = i
  · subst hj
    rw [cut20_same _ _ _ rfl, hi, qF_app, hz]
    rfl
  · rw [cut20_ne _ _ _ (by omega), qF_app]
    have hne : ¬ m.tt = (j : Int) + 1 := by omega
    have hx : qF L j = qF (L.take k) j ++ qF (m :: L.drop (k + 1)) j := by rw [← qF_app, ← hL]
    rw [hx]
    congr 1
    simp [qF, toB, hne]
end Go.Proofs.Ytmijjgpelihhnaa
