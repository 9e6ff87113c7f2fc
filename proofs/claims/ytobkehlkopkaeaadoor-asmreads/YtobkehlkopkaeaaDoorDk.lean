/- The document's Read; no statement is proved in this text. -/
import Derived.Test.YtobkehlkopkaeaaDoorDj
import Derived.Test.YtobkehlkopkaeaaDoorPlain
namespace Go.Proofs.YtobkehlkopkaeaaDoor
open Go.ChangeShapes Go.WideShapes Go.ChangeAt Go.RowKit
set_option maxRecDepth 100000

theorem lp_inv : ∀ (l : List (UInt8 × Bs)) (k : Nat) (s s' : In × Bs), lpD l k s = some s' → s'.1.op = s.1.op ∧ (s'.2 = s.2 ∨ ∃ p ∈ l, p.1 = 108)
  | [], _, s, s', h => by cases h; exact ⟨rfl, Or.inl rfl⟩
  | (c, x) :: r, k, s, s', h => by
    rw [lp_cons] at h
    have hst : ∀ t, stD c k x s = some t → t.1.op = s.1.op ∧ (t.2 = s.2 ∨ c = 108) := fun t ht => by
      unfold stD at ht
      split at ht
      · split at ht
        · cases ht
        · cases ht
          refine ⟨?_, Or.inl rfl⟩
          split <;> rfl
      · split at ht
        · rename_i h2
          cases ht
          exact ⟨rfl, Or.inr h2.1⟩
        · split at ht
          · cases ht
          · cases ht; exact ⟨rfl, Or.inl rfl⟩
    cases hq : stD c k x s with
    | none => rw [hq] at h; cases h
    | some t =>
      rw [hq] at h
      obtain ⟨h1, h2⟩ := lp_inv r (k + 1) t s' h
      obtain ⟨h3, h4⟩ := hst t hq
      refine ⟨h1.trans h3, ?_⟩
      rcases h2 with h2 | ⟨p, hp, hp2⟩
      · rcases h4 with h4 | h4
        · exact Or.inl (h2.trans h4)
        · exact Or.inr ⟨(c, x), List.mem_cons_self, h4⟩
      · exact Or.inr ⟨p, List.mem_cons_of_mem _ hp, hp2⟩
theorem shp_lab {op : Int} (h : (108 : UInt8) ∈ shpF op) : op = 17 ∨ op = 18 ∨ op = 19 := by
  unfold shpF at h
  by_cases h0 : op = 0
  · rw [if_pos h0] at h; simp at h
  · rw [if_neg h0] at h
    by_cases h1 : op = 1
    · rw [if_pos h1] at h; simp at h
    · rw [if_neg h1] at h
      by_cases h2 : op = 17
      · exact Or.inl h2
      · by_cases h3 : op = 18
        · exact Or.inr (Or.inl h3)
        · by_cases h4 : op = 19
          · exact Or.inr (Or.inr h4)
          · rw [if_neg h2, if_neg h3, if_neg h4] at h
            split at h <;> simp at h
theorem isI_num {i : In} (h : isI i = true) (ho : i.op = 17 ∨ i.op = 18 ∨ i.op = 19) {v : Int} (h0 : 0 ≤ v) (h1 : v < 65536) : isI ⟨i.op, i.a, i.b, v⟩ = true := by
  obtain ⟨o, a, b, n⟩ := i
  unfold isI at h ⊢
  have h := of_decide_eq_true h
  apply decide_eq_true
  simp only at h ho ⊢
  obtain ⟨q1, q2, q3, q4, q5, q6, q7⟩ := h
  refine ⟨q1, q2, q3, h0, q5, q6, ?_⟩
  rcases ho with rfl | rfl | rfl <;> (simp [nb]; omega)
theorem ofD_ok {ws : List Bs} (h : (ofD ws).2.2 = true) : isI (ofD ws).1 = true ∧ ((ofD ws).2.1 ≠ [] → ∀ v : Int, 0 ≤ v → v < 65536 → isI ⟨(ofD ws).1.op, (ofD ws).1.a, (ofD ws).1.b, v⟩ = true) := by
  unfold ofD at h ⊢
  cases ho : opOf (ws.headD []) with
  | none => rw [ho] at h; cases h
  | some op =>
    rw [ho] at h
    simp only at h ⊢
    by_cases hl : (shpF op).length = ws.length - 1
    · rw [if_pos hl] at h ⊢
      cases hq : lpD ((shpF op).zip ws.tail) 0 (⟨op, 0, 0, 0⟩, []) with
      | none => rw [hq] at h; cases h
      | some s =>
        rw [hq] at h
        simp only at h ⊢
        by_cases hi : isI s.1 = true
        · rw [if_pos hi]
          refine ⟨hi, fun hlab v h0 h1 => ?_⟩
          obtain ⟨e1, e2⟩ := lp_inv _ _ _ _ hq
          rcases e2 with e2 | ⟨p, hp, hp2⟩
          · exact absurd e2 hlab
          · have hm : (108 : UInt8) ∈ shpF op := by rw [← hp2]; exact (List.of_mem_zip hp).1
            have := shp_lab hm
            exact isI_num hi (by rw [e1]; exact this) h0 h1
        · rw [if_neg hi] at h; cases h
    · rw [if_neg hl] at h; cases h
theorem atF_range : ∀ (R : List (List Bs)) (y : Bs) (i : Nat), atF R y i < 0 ∨ ∃ q : Nat, atF R y i = q ∧ i ≤ q ∧ q < i + R.length
  | [], _, _ => Or.inl (by unfold atF; omega)
  | ws :: r, y, i => by
    unfold atF
    split
    · exact Or.inr ⟨i, rfl, by omega, by simp⟩
    · rcases atF_range r y (i + 1) with h | ⟨q, h1, h2, h3⟩
      · exact Or.inl h
      · exact Or.inr ⟨q, h1, by omega, by simp; omega⟩
def fwF (R : List (List Bs)) : List (List Bs) → Nat → Option Nat
  | [], _ => none
  | ws :: r, i => if wrW R ws i = true then some i else fwF R r (i + 1)
def instD (R : List (List Bs)) (ws : List Bs) (i : Nat) : In :=
  if (ofD ws).2.1 = [] then (ofD ws).1 else ⟨(ofD ws).1.op, (ofD ws).1.a, (ofD ws).1.b, (plS (R.take (atD R (ofD ws).2.1).toNat) - plS (R.take (i + 1))) % 65536⟩
def outF (R : List (List Bs)) : List (List Bs) → Nat → Bs → Bs × Nat
  | [], _, o => (o, 0)
  | ws :: r, i, o => if ws = [] ∨ nmD ws ≠ [] then outF R r (i + 1) o
    else if 256 < (o ++ plain (instD R ws i)).length then ([], i + 1) else outF R r (i + 1) (o ++ plain (instD R ws i))
def readD (t : Bs) : Bs × Nat := match fwF (rowsD t) (rowsD t) 0 with
  | some i => ([], i + 1)
  | none => outF (rowsD t) (rowsD t) 0 []
theorem lnS_len : ∀ (l x : Bs), (lnS l x).length ≤ l.length + 1 ∧ lnS l x ≠ []
  | [], x => by simp [lnS]
  | c :: r, x => by
    rw [lnS_cons]
    split
    · have := (lnS_len r []).1
      simp; omega
    · have := lnS_len r (x ++ [c])
      exact ⟨by simp; omega, this.2⟩
theorem lnS_mem : ∀ (l x y : Bs), y ∈ lnS l x → y.length ≤ x.length + l.length
  | [], x, y, h => by
    unfold lnS at h
    rw [List.mem_singleton.1 h]; simp
  | c :: r, x, y, h => by
    rw [lnS_cons] at h
    split at h
    · rcases List.mem_cons.1 h with rfl | h
      · omega
      · have := lnS_mem r [] y h
        simp at this ⊢; omega
    · have := lnS_mem r (x ++ [c]) y h
      simp at this ⊢; omega
theorem wdS_mem : ∀ (l x : Bs), (wdS l x).length ≤ l.length + 1 ∧ ∀ y ∈ wdS l x, y ≠ [] ∧ y.length ≤ x.length + l.length
  | [], x => by
    rw [wdS_end]
    by_cases hx : x = []
    · rw [if_pos hx]; exact ⟨by simp, fun y hy => by cases hy⟩
    · rw [if_neg hx]; exact ⟨by simp, fun y hy => by rw [List.mem_singleton.1 hy]; exact ⟨hx, by omega⟩⟩
  | c :: r, x => by
    rw [wdS_cons]
    have h1 := wdS_mem r []
    have h2 := wdS_mem r (x ++ [c])
    by_cases hc : c = 59
    · rw [if_pos hc]
      by_cases hx : x = []
      · rw [if_pos hx]; exact ⟨by simp, fun y hy => by cases hy⟩
      · rw [if_neg hx]; exact ⟨by simp, fun y hy => by rw [List.mem_singleton.1 hy]; exact ⟨hx, by omega⟩⟩
    · rw [if_neg hc]
      by_cases hs : isSp c = true
      · rw [if_pos hs]
        by_cases hx : x = []
        · rw [if_pos hx]
          exact ⟨by simp; omega, fun y hy => ⟨(h1.2 y hy).1, by have := (h1.2 y hy).2; simp at this ⊢; omega⟩⟩
        · rw [if_neg hx]
          refine ⟨by simp; omega, fun y hy => ?_⟩
          rcases List.mem_cons.1 hy with rfl | hy
          · exact ⟨hx, by omega⟩
          · exact ⟨(h1.2 y hy).1, by have := (h1.2 y hy).2; simp at this ⊢; omega⟩
      · rw [if_neg hs]
        exact ⟨by simp; omega, fun y hy => ⟨(h2.2 y hy).1, by have := (h2.2 y hy).2; simp at this ⊢; omega⟩⟩
theorem rowsD_ok (t : Bs) (ht : t.length ≤ 900000) : Wok (rowsD t) ∧ rowsD t ≠ [] ∧ (rowsD t).length ≤ 1000000 := by
  have h1 := lnS_len t []
  refine ⟨fun ws hws => ?_, by unfold rowsD; simp [h1.2], by unfold rowsD; rw [List.length_map]; omega⟩
  unfold rowsD at hws
  obtain ⟨l, hl, rfl⟩ := List.mem_map.1 hws
  have h2 := lnS_mem t [] l hl
  have h3 := wdS_mem l []
  simp at h2
  exact ⟨by unfold wdL; omega, fun x hx => ⟨(h3.2 x hx).1, by have := (h3.2 x hx).2; simp at this; omega⟩⟩
theorem wr_no {R : List (List Bs)} {ws : List Bs} {i : Nat} (h : wrW R ws i = false) (h1 : ws ≠ []) (h2 : nmD ws = []) : (ofD ws).2.2 = true ∧ ((ofD ws).2.1 = [] ∨ ∃ q : Nat, atD R (ofD ws).2.1 = q ∧ q < R.length) := by
  unfold wrW at h
  rw [if_neg h1, if_neg (by simp [h2])] at h
  simp at h
  refine ⟨h.1, ?_⟩
  by_cases hl : (ofD ws).2.1 = []
  · exact Or.inl hl
  · rcases atF_range R (ofD ws).2.1 0 with hq | ⟨q, h3, _, h4⟩
    · have := h.2 hl
      unfold atD at this
      omega
    · exact Or.inr ⟨q, h3, by omega⟩
end Go.Proofs.YtobkehlkopkaeaaDoor
