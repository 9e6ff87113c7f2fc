/- No statement here. -/
import Derived.Test.YtnknhencobhjdaaMSh0
namespace Go.Proofs.Ytnknhencobhjdaa
open Go.ChangeShapes Go.WideShapes Go.ChangeAt Go.RowKit Go.Deep Go.ChangeMaps Go.MapKept
open Go.Proofs.Ytnknhencobhjdaa.Cp (pq hid bl1 hO cO zC looks_nil)
open Go.Proofs.Ytnknhencobhjdaa.Qt (zT badB)
def alv (T : List Cp.Pl) (p : Bl) : Bool := (Cp.lookF T p.2.1 p.1.1 p.1.2).isSome
def strL (T : List Cp.Pl) (L : Ls) : Ls := L.filter (alv T)
def strR (L : Ls) (h : Hn) : Hn := if (bil L h).isSome then h else (0, 0)
theorem It.sub {w : World} {b r : Nat} {L M : Ls} (h : It w b r L M) : M.Sublist L := by
  obtain ⟨es, clock, since, seen, c0, hb, g, hr, _, _, _, hl⟩ := h
  have h1 : (M.map kvB).Sublist (L.map kvB) := by
    rw [← hl, ← g.same]
    unfold leftOf
    rw [Array.toList_filter]
    exact List.filter_sublist.map _
  obtain ⟨l', h2, h3⟩ := List.sublist_map_iff.1 h1
  rw [(List.map_inj_right (fun _ _ e => kvB_inj e)).1 h3]
  exact h2
theorem nd_sub {L M : Ls} (h : ND L) (k : M.Sublist L) : ND M := by
  unfold ND at h ⊢
  exact h.sublist (k.map _)
theorem nd_eq {L : Ls} (h : ND L) {p q : Bl} (hp : p ∈ L) (hq : q ∈ L) (e : q.1 = p.1) : q = p := by
  have h1 := bil_some h hp
  have h2 := bil_some h hq
  rw [e, h1] at h2
  exact Prod.ext e (Option.some.inj h2).symm
structure Sk (T : List Cp.Pl) (L Lc M : Ls) : Prop where
  same : strL T Lc = strL T L
  rest : ∀ q ∈ Lc, q ∈ M ∨ alv T q = true
theorem Sk.start (T : List Cp.Pl) (L : Ls) : Sk T L L L := ⟨rfl, fun _ h => Or.inl h⟩
theorem Sk.done {T : List Cp.Pl} {L Lc : Ls} (h : Sk T L Lc []) : Lc = strL T L := by
  rw [← h.same]
  exact (List.filter_eq_self.2 (fun q hq => (h.rest q hq).resolve_left (by simp))).symm
theorem Sk.keep {T : List Cp.Pl} {L Lc M : Ls} (h : Sk T L Lc M) (hn : ND M) {j : Nat} {p : Bl} (hj : M[j]? = some p) (hp : alv T p = true) : Sk T L Lc (M.eraseIdx j) := ⟨h.same, fun q hq => by
  rcases h.rest q hq with h1 | h1
  · by_cases e : q.1 = p.1
    · rw [nd_eq hn (List.mem_of_getElem? hj) h1 e]
      exact Or.inr hp
    · rw [erase_dl hn hj]
      exact Or.inl (List.mem_filter.2 ⟨h1, by simpa using e⟩)
  · exact Or.inr h1⟩
theorem Sk.gone {T : List Cp.Pl} {L Lc M : Ls} (h : Sk T L Lc M) (hc : ND Lc) (hn : ND M) {j : Nat} {p : Bl} (hpL : p ∈ Lc) (hj : M[j]? = some p) (hp : alv T p = false) : Sk T L (dl Lc p.1) (M.eraseIdx j) := by
  refine ⟨?_, fun q hq => ?_⟩
  · rw [← h.same]
    unfold strL dl
    rw [List.filter_filter]
    refine List.filter_congr fun q hq => ?_
    by_cases e : q.1 = p.1
    · rw [nd_eq hc hpL hq e, hp]
      rfl
    · simp [e]
  · obtain ⟨h1, h2⟩ := List.mem_filter.1 hq
    have e : q.1 ≠ p.1 := by simpa using h2
    rcases h.rest q h1 with h3 | h3
    · rw [erase_dl hn hj]
      exact Or.inl (List.mem_filter.2 ⟨h3, by simpa using e⟩)
    · exact Or.inr h3
def mixR (R : Nat → List Hn) (L : Ls) (k : Nat) : Nat → List Hn := fun j => if j < k then (R j).map (strR L) else R j
def mixN (R : Nat → List Hn) (L : Ls) (k n : Nat) : Nat → List Hn := fun j => if j = k then ((R k).take n).map (strR L) ++ (R k).drop n else mixR R L k j
theorem mixN_zero (R : Nat → List Hn) (L : Ls) (k : Nat) : mixN R L k 0 = mixR R L k := by
  funext j
  unfold mixN mixR
  by_cases e : j = k
  · simp [e]
  · rw [if_neg e]
theorem mixN_all (R : Nat → List Hn) (L : Ls) (k : Nat) : mixN R L k (R k).length = mixR R L (k + 1) := by
  funext j
  unfold mixN mixR
  by_cases e : j = k
  · subst e
    simp
  · rw [if_neg e]
    by_cases h : j < k
    · rw [if_pos h, if_pos (by omega)]
    · rw [if_neg h, if_neg (by omega)]
theorem mixN_get (R : Nat → List Hn) (L : Ls) (k n : Nat) (h : Hn) (hn : (R k)[n]? = some h) : (mixN R L k n k)[n]? = some h := by
  have hl := (List.getElem?_eq_some_iff.1 hn).1
  unfold mixN
  rw [if_pos rfl, List.getElem?_append_right (by simp; omega)]
  simp [Nat.min_eq_left (Nat.le_of_lt hl), hn]
theorem mixN_len (R : Nat → List Hn) (L : Ls) (k n : Nat) : ∀ j, (mixN R L k n j).length = (R j).length := fun j => by
  unfold mixN mixR
  by_cases e : j = k
  · subst e
    simp
    omega
  · rw [if_neg e]
    by_cases h : j < k
    · rw [if_pos h]; simp
    · rw [if_neg h]
theorem mixR_len (R : Nat → List Hn) (L : Ls) (k : Nat) : ∀ j, (mixR R L k j).length = (R j).length := fun j => by rw [← mixN_zero]; exact mixN_len R L k 0 j
theorem mixN_set (R : Nat → List Hn) (L : Ls) (k n : Nat) (h : Hn) (hn : (R k)[n]? = some h) : ((mixN R L k n k).set n (strR L h)) = mixN R L k (n + 1) k := by
  have hl := (List.getElem?_eq_some_iff.1 hn).1
  have hg : (R k)[n] = h := by rw [List.getElem?_eq_getElem hl] at hn; exact Option.some.inj hn
  unfold mixN
  rw [if_pos rfl, if_pos rfl, List.set_append_right _ _ (by simp; omega), List.take_succ_eq_append_getElem hl, hg]
  simp [Nat.min_eq_left (Nat.le_of_lt hl)]
  rw [List.drop_eq_getElem_cons hl]
  rfl
theorem mixN_next (R : Nat → List Hn) (L : Ls) (k n : Nat) (h : Hn) (hn : (R k)[n]? = some h) : mixN R L k (n + 1) = fun j => if j = k then (mixN R L k n k).set n (strR L h) else mixN R L k n j := by
  funext j
  by_cases e : j = k
  · rw [if_pos e, mixN_set R L k n h hn, e]
  · rw [if_neg e]
    unfold mixN
    rw [if_neg e, if_neg e]
theorem set_same {α : Type} : ∀ (l : List α) (n : Nat) (h : α), l[n]? = some h → l.set n h = l
  | [], _, _, e => by simp at e
  | y :: l, 0, h, e => by simp at e; rw [e]; rfl
  | y :: l, n + 1, h, e => by rw [List.set_cons_succ, set_same l n h (by simpa using e)]
theorem mixN_stay (R : Nat → List Hn) (L : Ls) (k n : Nat) (h : Hn) (hn : (R k)[n]? = some h) (hs : strR L h = h) : mixN R L k (n + 1) = mixN R L k n := by
  rw [mixN_next R L k n h hn, hs, set_same _ _ _ (mixN_get R L k n h hn)]
  funext j
  by_cases e : j = k
  · rw [if_pos e, e]
  · rw [if_neg e]
end Go.Proofs.Ytnknhencobhjdaa
