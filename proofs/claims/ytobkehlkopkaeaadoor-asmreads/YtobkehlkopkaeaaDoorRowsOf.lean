/- Rows of instructions that grow, and how they are read; no statement is proved in this text. -/
import Derived.Test.YtobkehlkopkaeaaDoorAt
namespace Go.Proofs.YtobkehlkopkaeaaDoor
open Go.ChangeShapes Go.WideShapes Go.ChangeAt Go.RowKit
set_option maxRecDepth 100000

def icells : List In → List Value
  | [] => []
  | i :: r => i64 i.op :: i64 i.a :: i64 i.b :: i64 i.n :: icells r
theorem icells_len : ∀ l : List In, (icells l).length = l.length * 4
  | [] => rfl
  | i :: r => by simp [icells, icells_len r]; omega
theorem icells_app : ∀ l m : List In, icells (l ++ m) = icells l ++ icells m
  | [], m => rfl
  | i :: r, m => by simp [icells, icells_app r m]
theorem icells_get : ∀ (l : List In) (j : Nat) (i : In), l[j]? = some i → (icells l)[j * 4]? = some (i64 i.op) ∧ (icells l)[j * 4 + 1]? = some (i64 i.a) ∧ (icells l)[j * 4 + 2]? = some (i64 i.b) ∧ (icells l)[j * 4 + 3]? = some (i64 i.n)
  | [], j, i, h => by simp at h
  | x :: r, 0, i, h => by
    simp at h
    subst h
    exact ⟨rfl, rfl, rfl, rfl⟩
  | x :: r, j + 1, i, h => by
    have := icells_get r j i (by simpa using h)
    rw [show (j + 1) * 4 = j * 4 + 1 + 1 + 1 + 1 by omega]
    simpa [icells] using this
theorem info23x : (Tryd.prog.info? 27).map (fun i => (i.zero, i.size, i.bytes)) = some (some (.agg #[.int .i64 0, .int .i64 0, .int .i64 0, .int .i64 0]), 4, 32) := by kernel_rfl
theorem info29x : (Tryd.prog.info? 37).map (fun i => (i.zero, i.size, i.bytes)) = some (some (.agg #[.int .i64 0, .int .i64 0, .int .i64 0, .int .i64 0]), 4, 32) := by kernel_rfl
theorem under39 : Tryd.prog.underlying 75 = some (.slice 27) := by kernel_rfl
theorem under42 : Tryd.prog.underlying 78 = some (.slice 37) := by kernel_rfl
theorem new_four {w : World} {H : Nat} (hH : w.heap.size = H) (i : In) (t : TypeId) : ∀ j u, (icells [i])[j]? = some u → (w.alloc (.cells #[i64 i.op, i64 i.a, i64 i.b, i64 i.n] t)).cell? ((⟨H, 0, none⟩ : Addr).add j) = some u := by
  intro j u hu
  have hadd : (⟨H, 0, none⟩ : Addr).add j = ⟨H, j, none⟩ := by unfold Addr.add; split <;> simp_all
  rw [hadd, cell_of_row _ _ _ _ t (0, 0) (heap_at hH _)]
  simpa [icells] using hu
theorem icells_one (i : In) : ∀ u ∈ icells [i], u.oneCell' = true := by simp [icells, Value.oneCell']

theorem app39 {w : World} {ops : Array Oper} {rest : List Oper} {o : Oper} {a : Act} {Q : Exit → Act → World → Prop} (hgd : o.guard = none) (s x : Operand)
    (ho : o.op = .call { callee := .builtin .append, args := #[s, x], argTypes := #[75, 75] }) (base : Nat) (v : Value) (n : Nat) (xs : List In) (hs : a.eval s = v) (hown : w.ownsRow base 27 4 v n (icells xs))
    (H c : Nat) (i : In) (hx : a.eval x = .slice (some ⟨H, 0, none⟩) 1 c) (hcell : ∀ j u, (icells [i])[j]? = some u → w.cell? ((⟨H, 0, none⟩ : Addr).add j) = some u) (hn : n ≤ 1000000) (hbase : base ≤ w.heap.size)
    (h : ∀ v' w', w'.ownsRow base 27 4 v' (n + 1) (icells (xs ++ [i])) → Below base w w' → wpList Tryd.prog ops Q rest (a.put o.dst v') w') : wpList Tryd.prog ops Q (o :: rest) a w := by
  obtain ⟨i5, hi, hz, hsz, hby⟩ := info_parts info23x
  refine wpList_append_own w hgd s x 75 ho base 27 i5 _ 4 32 under39 hi hz hsz hby rfl (by omega) v n (icells xs) hs hown ⟨H, 0, none⟩ 1 c (icells [i]) hx rfl hcell (icells_one i) (by unfold maxLen; omega) (by omega) hbase ?_
  intro v' w' h1 h2 _
  rw [← icells_app] at h1
  exact h v' w' h1 ((Below.refl _ _).grown h2 hbase (fun r hr => (hown.lt r hr).1))
theorem app42 {w : World} {ops : Array Oper} {rest : List Oper} {o : Oper} {a : Act} {Q : Exit → Act → World → Prop} (hgd : o.guard = none) (s x : Operand)
    (ho : o.op = .call { callee := .builtin .append, args := #[s, x], argTypes := #[78, 78] }) (base : Nat) (v : Value) (n : Nat) (xs : List In) (hs : a.eval s = v) (hown : w.ownsRow base 37 4 v n (icells xs))
    (H c : Nat) (i : In) (hx : a.eval x = .slice (some ⟨H, 0, none⟩) 1 c) (hcell : ∀ j u, (icells [i])[j]? = some u → w.cell? ((⟨H, 0, none⟩ : Addr).add j) = some u) (hn : n ≤ 1000000) (hbase : base ≤ w.heap.size)
    (h : ∀ v' w', w'.ownsRow base 37 4 v' (n + 1) (icells (xs ++ [i])) → Below base w w' → wpList Tryd.prog ops Q rest (a.put o.dst v') w') : wpList Tryd.prog ops Q (o :: rest) a w := by
  obtain ⟨i5, hi, hz, hsz, hby⟩ := info_parts info29x
  refine wpList_append_own w hgd s x 78 ho base 37 i5 _ 4 32 under42 hi hz hsz hby rfl (by omega) v n (icells xs) hs hown ⟨H, 0, none⟩ 1 c (icells [i]) hx rfl hcell (icells_one i) (by unfold maxLen; omega) (by omega) hbase ?_
  intro v' w' h1 h2 _
  rw [← icells_app] at h1
  exact h v' w' h1 ((Below.refl _ _).grown h2 hbase (fun r hr => (hown.lt r hr).1))

/-- A slice of instructions that reads as xs. -/
def ISl (w : World) (ao : Option Addr) (xs : List In) : Prop :=
  xs = [] ∨ ∃ b off, ao = some ⟨b, off, none⟩ ∧ b < w.heap.size ∧ ∀ j i, xs[j]? = some i → w.cell? ⟨b, off + j * 4, none⟩ = some (i64 i.op) ∧ w.cell? ⟨b, off + j * 4 + 1, none⟩ = some (i64 i.a) ∧ w.cell? ⟨b, off + j * 4 + 2, none⟩ = some (i64 i.b) ∧ w.cell? ⟨b, off + j * 4 + 3, none⟩ = some (i64 i.n)
theorem ISl.below {w w' : World} {ao : Option Addr} {xs : List In} (h : ISl w ao xs) (hb : Below w.heap.size w w') : ISl w' ao xs := by
  rcases h with h | ⟨b, off, rfl, hlt, hc⟩
  · exact Or.inl h
  · exact Or.inr ⟨b, off, rfl, Nat.lt_of_lt_of_le hlt hb.size, fun j i hi => by rw [hb.cell (by exact hlt), hb.cell (by exact hlt), hb.cell (by exact hlt), hb.cell (by exact hlt)]; exact hc j i hi⟩
theorem ISl.at {w : World} {ao : Option Addr} {xs : List In} (h : ISl w ao xs) {k : Nat} (hk : k < xs.length) : ∃ b off, ao = some ⟨b, off, none⟩ ∧ b < w.heap.size ∧ w.cell? ⟨b, off + k * 4, none⟩ = some (i64 xs[k].op) ∧ w.cell? ⟨b, off + k * 4 + 1, none⟩ = some (i64 xs[k].a) ∧ w.cell? ⟨b, off + k * 4 + 2, none⟩ = some (i64 xs[k].b) ∧ w.cell? ⟨b, off + k * 4 + 3, none⟩ = some (i64 xs[k].n) := by
  rcases h with rfl | ⟨b, off, rfl, hlt, hc⟩
  · simp at hk
  · exact ⟨b, off, rfl, hlt, hc k _ (List.getElem?_eq_getElem hk)⟩
theorem own_isl {w : World} {base : Nat} {e : TypeId} {v : Value} {n : Nat} {xs : List In} (h : w.ownsRow base e 4 v n (icells xs)) : ∃ ao cap, v = .slice ao n cap ∧ ISl w ao xs ∧ xs.length = n := by
  have hl : xs.length = n := by have := h.1; rw [icells_len] at this; omega
  rcases h.2 with ⟨rfl, rfl⟩ | ⟨g, cap, cur, rfl, hb, hg, _⟩
  · exact ⟨none, 0, rfl, Or.inl (List.eq_nil_of_length_eq_zero hl), hl⟩
  · refine ⟨_, cap, rfl, Or.inr ⟨g, 0, rfl, (Array.getElem?_eq_some_iff.1 hg).1, fun j i hi => ?_⟩, hl⟩
    have hj : j < n := by have := (List.getElem?_eq_some_iff.1 hi).1; omega
    have hget := icells_get xs j i hi
    rw [h.cellAt (0 + j * 4) (by omega), h.cellAt (0 + j * 4 + 1) (by omega), h.cellAt (0 + j * 4 + 2) (by omega), h.cellAt (0 + j * 4 + 3) (by omega), Nat.zero_add]
    exact hget
end Go.Proofs.YtobkehlkopkaeaaDoor
