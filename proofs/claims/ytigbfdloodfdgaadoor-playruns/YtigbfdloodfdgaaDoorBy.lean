/- code.Bytes: its contract; no statement is proved in this text. -/
import Derived.Test.YtigbfdloodfdgaaDoorPlain
namespace Go.Proofs.YtigbfdloodfdgaaDoor
open Go.ChangeShapes Go.WideShapes Go.ChangeAt Go.RowKit

theorem or_nat : ∀ a : Nat, a < 8 → ∀ b : Nat, b < 8 → bits BinOp.or IntKind.i64 ((a : Int) * 16) (b : Int) = 16 * (a : Int) + (b : Int) := by decide +kernel
theorem own_below {w w' : World} {base : Nat} {e : TypeId} {size : Nat} {v : Value} {n : Nat} {xs : List Value} (h : w.ownsRow base e size v n xs) (hb : Below w.heap.size w w') : w'.ownsRow base e size v n xs := by
  refine ⟨h.1, ?_⟩
  rcases h.2 with h | ⟨g, cap, cur, h1, h2, h3, h4⟩
  · exact Or.inl h
  · exact Or.inr ⟨g, cap, cur, h1, h2, (hb.block _ (Array.getElem?_eq_some_iff.1 h3).1).trans h3, h4⟩
theorem two_at {w : World} {H : Nat} (hH : w.heap.size = H) (x0 x1 : Value) (t : TypeId) (w' : World) (hb : Below (H + 1) (w.alloc (.cells #[x0, x1] t)) w') :
    w'.cell? ⟨H, 0, none⟩ = some x0 ∧ w'.cell? ⟨H, 1, none⟩ = some x1 := by
  have hh := heap_at hH (.cells #[x0, x1] t)
  have e : ∀ j, w'.cell? ⟨H, j, none⟩ = (w.alloc (.cells #[x0, x1] t)).cell? ⟨H, j, none⟩ := fun j => hb.cell (p := ⟨H, j, none⟩) (by show H < H + 1; omega)
  rw [e, e, cell_of_row _ _ _ _ t (0, 0) hh, cell_of_row _ _ _ _ t (0, 0) hh]
  exact ⟨rfl, rfl⟩
theorem plain_cells {k a b n : Nat} (hk : k < 21) (ha : a ≤ 7) (hb : b ≤ 7) : cells (plain ⟨k, a, b, n⟩) = ([u8 k] ++ (if 0 < rg k then [u8 (16 * a + b)] else [])) ++ cells (tb n (nb k)) := by
  unfold plain
  simp only [Int.toNat_natCast]
  by_cases h : 0 < rg k
  · rw [if_pos h, if_pos h]
    simp only [cells, List.map_cons, List.cons_append, List.nil_append, byteV k (by omega), byteV (16 * a + b) (by omega)]
    rfl
  · rw [if_neg h, if_neg h]
    simp only [cells, List.map_cons, List.cons_append, List.nil_append, byteV k (by omega)]

end Go.Proofs.YtigbfdloodfdgaaDoor
