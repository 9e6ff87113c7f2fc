/- The document's Drop, Unmap, Map, Fork, Right; no statement is proved in this text. -/
import Derived.Test.YtlkcpjefgelcoaaDa
namespace Go.Proofs.Ytlkcpjefgelcoaa
open Go.ChangeShapes Go.WideShapes Go.ChangeAt Go.RowKit Go.Deep
attribute [local go_sem ↓] Go.wp_at_zero Go.wp_at_succ

theorem set_rb {V : World} {base r : Nat} {x : Value} {ao : Option Addr} {cap : Nat} {M : List Ar} {n : Nat} (hlo : base ≤ r) (h : V.heap[r]? = some (.cells #[x] 91)) (hn : n = M.length) (ho : V.ownsRow base 98 3 (.slice ao n cap) n (acn M)) : Rb (V.setCell ⟨r, 0, none⟩ (.slice ao n cap)) base r M := by
  subst hn
  refine ⟨hlo, ao, cap, heap_set1 h _, own_keep ho fun k C hC => ?_⟩
  rw [Below.heap_setCell _ _ _ _ (fun e => by rw [show k = r from e, h] at hC; simp at hC)]
  exact hC
theorem set_fr {V w : World} {base r : Nat} {x v : Value} (hlo : base ≤ r) (h : V.heap[r]? = some (.cells #[x] 91)) (hb : Below w.heap.size w V) (hbw : base ≤ w.heap.size) : Fr base [91, 98] w (V.setCell ⟨r, 0, none⟩ v) :=
  (Fr.of_below _ hb hbw).trans (Fr.of_touch ((Touch.refl r V).setCell rfl _) h (by rfl) hlo)
theorem cnt_drp (L : List Ar) (p : Int) : L.length = cntL L p + (drpL L p).length := by
  induction L with
  | nil => rfl
  | cons a l ih =>
    have e1 : cntL (a :: l) p = (if a.1 = p then 1 else 0) + cntL l p := by rw [← cntL_one, ← cntL_app]; rfl
    by_cases h : a.1 = p
    · have e2 : drpL (a :: l) p = drpL l p := by simp [drpL, ofF, h]
      rw [e1, e2, if_pos h, List.length_cons, ih]
      omega
    · have e2 : drpL (a :: l) p = a :: drpL l p := by simp [drpL, ofF, h]
      rw [e1, e2, if_neg h, List.length_cons, List.length_cons, ih]
      omega
theorem unm_no {L : List Ar} {k : Nat} {e : Ar} {p g : Int} (h : L[k]? = some e) (hf : fromF p g e = false) : unmI (L.take (k + 1)) p g = unmI (L.take k) p g := by
  unfold unmI
  rw [flt_no h hf]
theorem unm_yes {L : List Ar} (hg : Good L) {k : Nat} {e : Ar} {p g : Int} (h : L[k]? = some e) (hf : fromF p g e = true) : unmI (L.take (k + 1)) p g = e.2.2 := by
  unfold unmI
  rcases (hg.take (k + 1)).one p g with h1 | ⟨a, h1, _⟩
  · rw [flt_yes h hf] at h1
    simp at h1
  · have h2 := h1
    rw [flt_yes h hf] at h2
    rw [h1]
    rcases h3 : (L.take k).filter (fromF p g) with _ | ⟨b, M⟩
    · rw [h3] at h2
      simp at h2
      simp [h2]
    · rw [h3] at h2
      simp at h2
theorem unm_zero {L : List Ar} (hg : Good L) (p g : Int) : (unmI L p g = 0 ∧ unmE L p g = 6 ∧ unmL L p g = L) ∨ (unmI L p g ≠ 0 ∧ unmE L p g = 0) := by
  rcases hg.one p g with h1 | ⟨a, h1, ha⟩
  · left
    refine ⟨by simp [unmI, h1], by simp [unmE, h1], flt_keep h1⟩
  · right
    have := isA_of ha
    refine ⟨?_, by simp [unmE, h1]⟩
    simp only [unmI, h1]
    omega
end Go.Proofs.Ytlkcpjefgelcoaa
