/- types.reader's list: its contract; no statement is proved in this text. -/
import Derived.Test.YtgiemijhndanjaaDoorOrd2
import Derived.Test.YtgiemijhndanjaaDoorLg
import Derived.Test.YtgiemijhndanjaaDoorNm
import Derived.Test.YtgiemijhndanjaaDoorCnt
namespace Go.Proofs.YtgiemijhndanjaaDoor
open Go.ChangeShapes Go.WideShapes Go.ChangeAt Go.RowKit Go.Deep
attribute [local go_sem ↓] Go.wp_at_zero Go.wp_at_succ

abbrev zT : Obj := .cells #[i64 0, i64 0, .slice none 0 0, .slice none 0 0] 28
/-- What a reader's call leaves: whether a type was taken, the type, what is left. -/
def Rok (w : World) (q L : Nat) (res : Option (Ty × Bs)) (e : Ending) (w' : World) : Prop :=
  ∃ (k n : Int) (a1 : Option Addr) (n1 c1 : Nat) (a2 : Option Addr) (n2 c2 : Nat) (l' : Bs), e = .returned (.tuple #[tyV k n (.slice a1 n1 c1) (.slice a2 n2 c2), .bool res.isSome]) ∧ w'.heap[q]? = some (.cells #[str l'] 59) ∧ l'.length ≤ L ∧ Touch q w w' ∧
    (∀ T r, res = some (T, r) → l' = r ∧ k = T.kind ∧ n = T.num ∧ Rd w' (fun b => w.heap.size ≤ b) T (.slice a1 n1 c1) (.slice a2 n2 c2))
/-- What Cut asks of the world. -/
def Mx (w : World) (q : Nat) : Prop := q ≠ 1 ∧ ∃ m, w.cell? ⟨1, 0, none⟩ = some (i64 m)
theorem Mx.touch {w w' : World} {q : Nat} (h : Mx w q) (ht : Touch q w w') : Mx w' q := by
  obtain ⟨h1, m, h2⟩ := h
  refine ⟨h1, m, ?_⟩
  rw [ht.cell (p := ⟨1, 0, none⟩) (World.block_lt_of_cell? w _ h2) (fun e => h1 e.symm)]; exact h2
theorem load25 {W : World} {b : Nat} {k n : Int} {nv kv : Value} (h : W.heap[b]? = some (.cells #[i64 k, i64 n, nv, kv] 28)) : (loadVar 28 ⟨b, 0, none⟩).run Tryd.prog W = .ok (tyV k n nv kv) W := by
  refine run_loadVar_mid _ _ 0 28 [i64 k, i64 n, nv, kv] _ (fun j v hv => ?_) Tryd.underlying28 rfl (by kernel_rfl)
  rw [Nat.zero_add, cell_of_row _ _ _ _ 28 (0, 0) h]
  simpa using hv
theorem set4 {V : World} {b : Nat} {x0 x1 x2 x3 : Value} {t : TypeId} (h : V.heap[b]? = some (.cells #[x0, x1, x2, x3] t)) (a0 a1 a2 a3 : Value) : ((((V.setCell ⟨b, 0, none⟩ a0).setCell ⟨b, 1, none⟩ a1).setCell ⟨b, 2, none⟩ a2).setCell ⟨b, 3, none⟩ a3).heap[b]? = some (.cells #[a0, a1, a2, a3] t) := by
  have h1 := heap_setCell_same V b 0 _ t a0 h
  have h2 := heap_setCell_same _ b 1 _ t a1 h1
  have h3 := heap_setCell_same _ b 2 _ t a2 h2
  have h4 := heap_setCell_same _ b 3 _ t a3 h3
  simpa using h4
theorem set4_ne {V : World} {b k : Nat} {o : Obj} (h : V.heap[k]? = some o) (hk : k ≠ b) (a0 a1 a2 a3 : Value) : ((((V.setCell ⟨b, 0, none⟩ a0).setCell ⟨b, 1, none⟩ a1).setCell ⟨b, 2, none⟩ a2).setCell ⟨b, 3, none⟩ a3).heap[k]? = some o := by
  rw [Below.heap_setCell _ _ _ _ hk, Below.heap_setCell _ _ _ _ hk, Below.heap_setCell _ _ _ _ hk, Below.heap_setCell _ _ _ _ hk]; exact h
theorem Touch.set4 {q : Nat} {a w : World} (h : Touch q a w) {b : Nat} (hb : a.heap.size ≤ b) (a0 a1 a2 a3 : Value) : Touch q a ((((w.setCell ⟨b, 0, none⟩ a0).setCell ⟨b, 1, none⟩ a1).setCell ⟨b, 2, none⟩ a2).setCell ⟨b, 3, none⟩ a3) :=
  (((h.setNew (p := ⟨b, 0, none⟩) hb a0).setNew (p := ⟨b, 1, none⟩) hb a1).setNew (p := ⟨b, 2, none⟩) hb a2).setNew (p := ⟨b, 3, none⟩) hb a3
theorem set4_ne_hid {V : World} {b k : Nat} {o : Obj} (h : Hid (V.heap[k]? = some o)) (hk : k ≠ b) (a0 a1 a2 a3 : Value) : Hid (((((V.setCell ⟨b, 0, none⟩ a0).setCell ⟨b, 1, none⟩ a1).setCell ⟨b, 2, none⟩ a2).setCell ⟨b, 3, none⟩ a3).heap[k]? = some o) := set4_ne h.out hk a0 a1 a2 a3
theorem Touch.of_drew {q : Nat} {w w' : World} (h : Touch q w.drew w') : Touch q w w' := ⟨h.os, h.tape, h.output, h.size, h.block⟩
def listP (f : Nat) (l : Bs) : Option (Ty × Bs) := match numP l with
  | some (n, 40 :: r2) => match readP f r2 with
    | some (t, 41 :: r3) => some (.mk 3 n [] [t], r3)
    | _ => none
  | _ => none
theorem numP_none {l : Bs} (h : numOk (digs3 l) = false) : numP l = none := by unfold numP; rw [h]; rfl
theorem numP_some {l : Bs} (h : numOk (digs3 l) = true) : numP l = some (valD (digs3 l), l.drop (digs3 l).length) := by unfold numP; rw [h]; rfl
/-- The one kid of a list, in new memory. -/
theorem Rd.one {w : World} {S : Nat → Prop} {T : Ty} {nv kv : Value} {b : Nat} {n : Int} (h : Rd w S T nv kv) (hb : w.heap[b]? = some (.cells #[i64 T.kind, i64 T.num, nv, kv] 28)) (hS : S b) : Rd w S (.mk 3 n [] [T]) (.slice none 0 0) (.slice (some ⟨b, 0, none⟩) 1 1) := by
  refine .mk (kids := [T]) b 0 (fun _ => nv) (fun _ => kv) ⟨none, 0, rfl, Nat.zero_le _, ⟨Nat.le_refl _, fun x hx => by simp at hx⟩, Or.inl rfl⟩ (by unfold maxLen; simp) (Or.inr ⟨rfl, hS, blk_lt hb⟩) ?_ ?_
  · intro i T' hT
    have hi : i = 0 := by have := (List.getElem?_eq_some_iff.1 hT).1; simpa using this
    subst hi
    cases hT
    intro j v hv
    rw [blk_cell hb]
    simpa using hv
  · intro i T' hT
    have hi : i = 0 := by have := (List.getElem?_eq_some_iff.1 hT).1; simpa using this
    subst hi
    cases hT
    exact h
/-- The list that was taken, behind the store of the answer. -/
theorem list_fin {w6 : World} {lo q R B : Nat} {T : Ty} {k1 m1 n : Int} {nv kv : Value} (hR : Rd w6 (fun b => lo ≤ b ∧ b ≠ q ∧ b ≠ R) T nv kv) (hB : w6.heap[B]? = some (.cells #[i64 k1, i64 m1, nv, kv] 28)) (hS : lo ≤ B ∧ B ≠ q ∧ B ≠ R) (h1 : k1 = T.kind) (h2 : m1 = T.num) (a0 a1 a2 a3 : Value) :
    Rd ((((w6.setCell ⟨R, 0, none⟩ a0).setCell ⟨R, 1, none⟩ a1).setCell ⟨R, 2, none⟩ a2).setCell ⟨R, 3, none⟩ a3) (fun b => lo ≤ b) (.mk 3 n [] [T]) (.slice none 0 0) (.slice (some ⟨B, 0, none⟩) 1 1) := by
  subst h1 h2
  refine (hR.one (n := n) hB hS).move (by simp [World.setCell]) (fun b hb _ => ⟨hb.1, ?_⟩)
  rw [Below.heap_setCell _ _ _ _ (show b ≠ R from hb.2.2), Below.heap_setCell _ _ _ _ (show b ≠ R from hb.2.2), Below.heap_setCell _ _ _ _ (show b ≠ R from hb.2.2), Below.heap_setCell _ _ _ _ (show b ≠ R from hb.2.2)]
end Go.Proofs.YtgiemijhndanjaaDoor
