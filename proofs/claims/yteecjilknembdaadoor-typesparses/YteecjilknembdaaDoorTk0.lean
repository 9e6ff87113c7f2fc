/- what imagoref15's Take leaves is an end of what it was given; a Got in memory; no statement is proved in this text. -/
import Derived.Test.YteecjilknembdaaDoorNr
import Derived.Test.YteecjilknembdaaDoorRead
namespace Go.Proofs.YteecjilknembdaaDoor
open Go.ChangeShapes Go.WideShapes Go.ChangeAt Go.RowKit Go.Deep
attribute [local go_sem ↓] Go.wp_at_zero Go.wp_at_succ

theorem numD_suf {s r : Bs} {n : Nat} (h : numD s = some (n, r)) : r <:+ s := by
  unfold numD at h
  split at h
  · cases h; exact List.drop_suffix _ _
  · cases h
theorem recD_suf (read : Bs → Option (Ty × Bs)) (hread : ∀ l t r, read l = some (t, r) → r <:+ l) : ∀ (m : Nat) (s : Bs) (N : List Bs) (K : List Ty) (t : Ty) (r : Bs), recD read m s N K = some (t, r) → r <:+ s
  | 0, _, _, _, _, _, h => by cases h
  | m + 1, s, N, K, t, r, h => by
    unfold recD at h
    split at h
    · cases h
    · rename_i c l hd
      split at h
      · split at h
        · cases h
        · rename_i t1 r1 hr
          split at h
          · cases h
          · rename_i c2 r2
            have hs : r2 <:+ s := (List.suffix_cons _ _).trans ((hread _ _ _ hr).trans ((List.suffix_cons _ _).trans (hd ▸ List.dropWhile_suffix _)))
            split at h
            · cases h; exact hs
            · split at h
              · exact (recD_suf read hread m _ _ _ _ _ h).trans hs
              · cases h
      · cases h
theorem takeD_suf : ∀ (f : Nat) (s : Bs) (t : Ty) (r : Bs), takeD f s = some (t, r) → r <:+ s
  | 0, _, _, _, h => by cases h
  | f + 1, [], _, _, h => by cases h
  | f + 1, c :: l, t, r, h => by
    simp only [takeD] at h
    split at h
    · exact (recD_suf _ (takeD_suf f) _ _ _ _ _ _ h).trans ((List.tail_suffix _).trans (List.suffix_cons _ _))
    · split at h
      · cases h
      · rename_i n r2 hn
        have h2 := (numD_suf hn).trans (List.suffix_cons c l)
        split at h
        · cases h; exact h2
        · split at h
          · cases h; exact h2
          · split at h
            · split at h
              · rename_i r3
                split at h
                · rename_i t4 r4 h4
                  cases h
                  exact (List.suffix_cons _ _).trans ((takeD_suf f _ _ _ h4).trans ((List.suffix_cons _ _).trans h2))
                · cases h
              · cases h
            · cases h
theorem suf_drop {s : ByteArray} {r : Bs} {a : Nat} (h : r <:+ s.data.toList.drop a) : s.data.toList.drop (s.size - r.length) = r := by
  have h2 := h.trans (List.drop_suffix _ _)
  have := List.suffix_iff_eq_drop.1 h2
  rw [Array.length_toList] at this
  exact this.symm
theorem suf_le {s : ByteArray} {r : Bs} {a : Nat} (h : r <:+ s.data.toList.drop a) : r.length ≤ s.size - a := by
  have := h.length_le
  rw [List.length_drop, Array.length_toList] at this
  exact this
theorem set5 {V : World} {b : Nat} {x0 x1 x2 x3 x4 : Value} {t : TypeId} (h : V.heap[b]? = some (.cells #[x0, x1, x2, x3, x4] t)) (a0 a1 a2 a3 a4 : Value) : (((((V.setCell ⟨b, 0, none⟩ a0).setCell ⟨b, 1, none⟩ a1).setCell ⟨b, 2, none⟩ a2).setCell ⟨b, 3, none⟩ a3).setCell ⟨b, 4, none⟩ a4).heap[b]? = some (.cells #[a0, a1, a2, a3, a4] t) := by
  have h1 := heap_setCell_same V b 0 _ t a0 h
  have h2 := heap_setCell_same _ b 1 _ t a1 h1
  have h3 := heap_setCell_same _ b 2 _ t a2 h2
  have h4 := heap_setCell_same _ b 3 _ t a3 h3
  have h5 := heap_setCell_same _ b 4 _ t a4 h4
  simpa using h5
/-- A Got. -/
abbrev gotV (k n : Int) (nv kv : Value) (m : Int) : Value := .agg #[i64 k, i64 n, nv, kv, i64 m]
theorem load63 {W : World} {b : Nat} {k n m : Int} {nv kv : Value} (h : W.heap[b]? = some (.cells #[i64 k, i64 n, nv, kv, i64 m] 63)) : (loadVar 63 ⟨b, 0, none⟩).run Tryd.prog W = .ok (gotV k n nv kv m) W := by
  refine run_loadVar_mid _ _ 0 63 [i64 k, i64 n, nv, kv, i64 m] _ (fun j v hv => ?_) Tryd.underlying63 rfl (by kernel_rfl)
  rw [Nat.zero_add, cell_of_row _ _ _ _ 63 (0, 0) h]
  simpa using hv
theorem below5 {w W : World} {lo R : Nat} (h : Below lo w W) (hR : lo ≤ R) (a0 a1 a2 a3 a4 : Value) : Below lo w (((((W.setCell ⟨R, 0, none⟩ a0).setCell ⟨R, 1, none⟩ a1).setCell ⟨R, 2, none⟩ a2).setCell ⟨R, 3, none⟩ a3).setCell ⟨R, 4, none⟩ a4) :=
  ((((h.setCell (p := ⟨R, 0, none⟩) hR _).setCell (p := ⟨R, 1, none⟩) hR _).setCell (p := ⟨R, 2, none⟩) hR _).setCell (p := ⟨R, 3, none⟩) hR _).setCell (p := ⟨R, 4, none⟩) hR _
/-- What Take and fields answer: the type and where it ends; none: nothing, and -1. -/
def Gok (w : World) (size : Nat) (res : Option (Ty × Bs)) (e : Ending) (w' : World) : Prop :=
  Below w.heap.size w w' ∧ (res = none → e = .returned (gotV 0 0 (.slice none 0 0) (.slice none 0 0) (-1))) ∧
  ∀ T r, res = some (T, r) → ∃ a1 n1 c1 a2 n2 c2, e = .returned (gotV T.kind T.num (.slice a1 n1 c1) (.slice a2 n2 c2) ((size - r.length : Nat) : Int)) ∧ Rd w' (fun b => w.heap.size ≤ b) T (.slice a1 n1 c1) (.slice a2 n2 c2)
end Go.Proofs.YteecjilknembdaaDoor
