/- Lists of spans that are right: sorted, as All tells them; no statement is proved in this text. -/
import Derived.Test.YtlkcpjefgelcoaaDo
namespace Go.Proofs.Ytlkcpjefgelcoaa
open Go.ChangeShapes Go.WideShapes Go.ChangeAt Go.RowKit Go.Deep

def ahP (a b : Sp) : Prop := a.1 < b.1 ∨ (a.1 = b.1 ∧ a.2.1 < b.2.1)
def ahB (a b : Sp) : Bool := decide (a.1 < b.1) || (a.1 == b.1 && decide (a.2.1 < b.2.1))
theorem ahB_iff {a b : Sp} : ahB a b = true ↔ ahP a b := by simp [ahB, ahP]
theorem ahP.irr {a : Sp} (h : ahP a a) : False := by rcases h with h | h <;> omega
theorem ahP.trans {a b c : Sp} (h : ahP a b) (k : ahP b c) : ahP a c := by
  rcases h with h | ⟨h1, h2⟩ <;> rcases k with k | ⟨k1, k2⟩
  · exact .inl (by omega)
  · exact .inl (by omega)
  · exact .inl (by omega)
  · exact .inr ⟨by omega, by omega⟩
theorem srt_ext : ∀ {A B : List Sp}, A.Pairwise ahP → B.Pairwise ahP → (∀ x, x ∈ A ↔ x ∈ B) → A = B
  | [], B, _, _, h => by
    cases B with
    | nil => rfl
    | cons b B => have := (h b).2 (by simp); cases this
  | a :: A, [], _, _, h => by have := (h a).1 (by simp); cases this
  | a :: A, b :: B, hA, hB, h => by
    rw [List.pairwise_cons] at hA hB
    have hab : a = b := by
      rcases List.mem_cons.1 ((h a).1 (by simp)) with e | e
      · exact e
      · rcases List.mem_cons.1 ((h b).2 (by simp)) with e2 | e2
        · exact e2.symm
        · exact ((hB.1 a e).trans (hA.1 b e2)).irr.elim
    subst hab
    rw [srt_ext hA.2 hB.2 fun x => ⟨fun hx => ?_, fun hx => ?_⟩]
    · rcases List.mem_cons.1 ((h x).1 (List.mem_cons_of_mem _ hx)) with e | e
      · exact ((hA.1 x hx) |> fun q => by rw [e] at q; exact q.irr.elim)
      · exact e
    · rcases List.mem_cons.1 ((h x).2 (List.mem_cons_of_mem _ hx)) with e | e
      · exact ((hB.1 x hx) |> fun q => by rw [e] at q; exact q.irr.elim)
      · exact e
/-- Such as Load takes. -/
def Lg (X : List Sp) : Prop := GS X ∧ X.Pairwise ahP
theorem first_srt {L : List Sp} : ∀ k, (firstA (ofL L) k).Pairwise ahP ∧ ∀ x ∈ firstA (ofL L) k, 1 ≤ x.1 ∧ x.1 ≤ k
  | 0 => ⟨.nil, fun x hx => by cases hx⟩
  | k + 1 => by
    obtain ⟨h1, h2⟩ := first_srt (L := L) k
    rw [firstA_succ]
    have hp : ∀ x ∈ ofL L ((k : Int) + 1), x.1 = (k : Int) + 1 := fun x hx => (upL_mem hx).2.1
    refine ⟨List.pairwise_append.2 ⟨h1, ?_, fun a ha b hb => .inl ?_⟩, fun x hx => ?_⟩
    · exact (up_lt L ((k : Int) + 1) 16).imp_of_mem fun {a b} ha hb hlt => .inr ⟨by rw [hp a ha, hp b hb], hlt⟩
    · have := (h2 a ha).2
      have := hp b hb
      omega
    · rcases List.mem_append.1 hx with h | h
      · have := h2 x h
        omega
      · have := hp x h
        omega
theorem all_srt (L : List Sp) : (allL L).Pairwise ahP := (first_srt (L := L) 6).1
theorem all_mem {L : List Sp} (h : GS L) (x : Sp) : x ∈ allL L ↔ x ∈ L := by
  constructor
  · intro hx
    obtain ⟨r, _, hr⟩ := List.mem_flatMap.1 hx
    exact (upL_mem hr).1
  · intro hx
    have hi := h.isA hx
    refine List.mem_flatMap.2 ⟨(x.1 - 1).toNat, List.mem_range.2 (by omega), ?_⟩
    have := h.mem_upL hx (k := 16) (by omega)
    rw [show (((x.1 - 1).toNat : Nat) : Int) + 1 = x.1 by omega]
    exact this
theorem good_of : ∀ (n : Nat) (M : List Ar), M.length = n → (∀ a ∈ M, isA a = true) → (∀ p, cntL M p ≤ 4) → M.Pairwise (fun a b => meetF b a = false) → Good M
  | 0, M, h, _, _, _ => by rw [List.eq_nil_of_length_eq_zero h]; exact .nil
  | n + 1, M, h, h1, h2, h3 => by
    obtain ⟨L, a, rfl⟩ : ∃ L a, M = L ++ [a] := ⟨M.dropLast, M.getLast (by intro e; rw [e] at h; simp at h), (List.dropLast_concat_getLast _).symm⟩
    rw [List.pairwise_append] at h3
    refine .snoc (good_of n L (by simpa using h) (fun b hb => h1 b (by simp [hb])) (fun p => ?_) h3.1) (h1 a (by simp)) (layB_iff.2 ⟨?_, fun b hb => h3.2.2 b hb a (by simp)⟩)
    · have := h2 p
      rw [cntL_app] at this
      omega
    · have := h2 a.1
      rw [cntL_app, cntL_one, if_pos rfl] at this
      omega
theorem first_cnt {L : List Sp} (h : GS L) (p : Int) : ∀ k : Nat, cntL ((firstA (ofL L) k).map ar) p ≤ (if p ≤ k then 4 else 0)
  | 0 => by simp [firstA, cntL]
  | k + 1 => by
    have ih := first_cnt h p k
    rw [firstA_succ, List.map_append, cntL_app]
    by_cases hp : p = (k : Int) + 1
    · rw [if_neg (by omega)] at ih
      rw [if_pos (by omega)]
      have h4 := h.four ((k : Int) + 1)
      have := filter_len ((ofL L ((k : Int) + 1)).map ar) (ofF p)
      rw [List.length_map] at this
      show _ + ((((ofL L ((k : Int) + 1)).map ar).filter (ofF p)).length) ≤ 4
      omega
    · have h0 : cntL ((ofL L ((k : Int) + 1)).map ar) p = 0 := by
        show (((ofL L ((k : Int) + 1)).map ar).filter (ofF p)).length = 0
        rw [List.length_eq_zero_iff, List.filter_eq_nil_iff]
        intro a ha
        obtain ⟨s, hs, rfl⟩ := List.mem_map.1 ha
        have := (upL_mem hs).2.1
        simp [ofF, ar]
        omega
      rw [h0]
      by_cases hpk : p ≤ k
      · rw [if_pos hpk] at ih
        rw [if_pos (by omega)]
        omega
      · rw [if_neg hpk] at ih
        omega
theorem all_gs {L : List Sp} (h : GS L) : GS (allL L) := by
  refine ⟨good_of _ _ rfl (fun a ha => ?_) (fun p => ?_) ?_, fun s hs => h.prot s ((all_mem h s).1 hs)⟩
  · obtain ⟨s, hs, rfl⟩ := List.mem_map.1 ha
    exact h.good.isA _ (List.mem_map_of_mem ((all_mem h s).1 hs))
  · have := first_cnt h p 6
    have e : allL L = firstA (ofL L) 6 := rfl
    rw [e]
    by_cases hp : p ≤ ((6 : Nat) : Int)
    · rw [if_pos hp] at this; exact this
    · rw [if_neg hp] at this; omega
  · rw [List.pairwise_map]
    refine (all_srt L).imp_of_mem fun {a b} ha hb hab => ?_
    rcases pw_two h.good.pw a ((all_mem h a).1 ha) b ((all_mem h b).1 hb) with e | e
    · subst e; exact hab.irr.elim
    · rw [meet_comm]; exact e
theorem all_lg {L : List Sp} (h : GS L) : Lg (allL L) := ⟨all_gs h, all_srt L⟩
theorem Lg.all {X : List Sp} (h : Lg X) : allL X = X := srt_ext (all_srt X) h.2 (all_mem h.1)
theorem all_all {L : List Sp} (h : GS L) : allL (allL L) = allL L := (all_lg h).all
/-- One more. -/
theorem srt_next {X : List Sp} {k : Nat} {s : Sp} (h : (X.take k).Pairwise ahP) (hs : X[k]? = some s) (hk : k = 0 ∨ ∃ j y, k = j + 1 ∧ X[j]? = some y ∧ ahP y s) : (X.take (k + 1)).Pairwise ahP := by
  rw [takeS_last hs, List.pairwise_append]
  refine ⟨h, by simp, fun a ha b hb => ?_⟩
  rw [List.mem_singleton.1 hb]
  rcases hk with rfl | ⟨j, y, rfl, hy, hys⟩
  · simp at ha
  · rw [takeS_last hy, List.pairwise_append] at h
    rw [takeS_last hy] at ha
    rcases List.mem_append.1 ha with ha | ha
    · exact (h.2.2 a ha y (by simp)).trans hys
    · rw [List.mem_singleton.1 ha]; exact hys
theorem srt_bad {X : List Sp} {j : Nat} {y s : Sp} (hy : X[j]? = some y) (hs : X[j + 1]? = some s) (h : ¬ ahP y s) : ¬ X.Pairwise ahP := fun hp => by
  obtain ⟨h1, e1⟩ := List.getElem?_eq_some_iff.1 hy
  obtain ⟨h2, e2⟩ := List.getElem?_eq_some_iff.1 hs
  rw [List.pairwise_iff_getElem] at hp
  have := hp j (j + 1) h1 h2 (by omega)
  rw [e1, e2] at this
  exact h this
theorem gs_next {X : List Sp} {k : Nat} {s : Sp} (h : GS (X.take k)) (hs : X[k]? = some s) (ha : isA (ar s) = true) (hl : layB ((X.take k).map ar) (ar s) = true) (hp : s.2.2.2 = 1 ∨ s.2.2.2 = 3) : GS (X.take (k + 1)) := by
  rw [takeS_last hs]
  exact h.snoc ha hl hp
theorem gs_bad {X : List Sp} {k : Nat} {s : Sp} (hs : X[k]? = some s) (h : ¬ (isA (ar s) = true ∧ (s.2.2.2 = 1 ∨ s.2.2.2 = 3) ∧ layB ((X.take k).map ar) (ar s) = true)) : ¬ GS X := fun hg => by
  have h1 := hg.good.at (k := k) (a := ar s) (by rw [List.getElem?_map, hs]; rfl)
  rw [← List.map_take] at h1
  exact h ⟨h1.1, hg.prot s (List.mem_of_getElem? hs), h1.2⟩
/-- What isSpan asks. -/
def spB (s : Sp) : Bool := isA (ar s) && decide (s.2.2.2 = 1 ∨ s.2.2.2 = 3)
theorem spB_iff {s : Sp} : spB s = true ↔ isA (ar s) = true ∧ (s.2.2.2 = 1 ∨ s.2.2.2 = 3) := by simp [spB]
end Go.Proofs.Ytlkcpjefgelcoaa
