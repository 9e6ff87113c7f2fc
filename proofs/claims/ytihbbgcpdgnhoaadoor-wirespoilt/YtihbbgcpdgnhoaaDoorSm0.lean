/- Types that are the same, and the list of rows that waits in types.Same; no statement is proved in this text. -/
import Derived.Test.YtihbbgcpdgnhoaaDoorPar
import Derived.Deep.LoopGhost
namespace Go.Proofs.YtihbbgcpdgnhoaaDoor
open Go.ChangeShapes Go.WideShapes Go.ChangeAt Go.RowKit Go.Deep

def aloneS (a b : Ty) : Bool := decide (a.kind = b.kind) && decide (a.num = b.num) && decide (a.names = b.names) && decide (a.kids.length = b.kids.length)
mutual
def sameB : Ty → Ty → Bool
  | .mk k n l ks, .mk k' n' l' ks' => decide (k = k') && decide (n = n') && decide (l = l') && decide (ks.length = ks'.length) && sameL ks ks'
def sameL : List Ty → List Ty → Bool
  | [], [] => true
  | a :: r, b :: s => sameB a b && sameL r s
  | _, _ => false
end
theorem sameB_eq (a b : Ty) : sameB a b = (aloneS a b && sameL a.kids b.kids) := by
  cases a; cases b; rfl
mutual
theorem sameB_refl : ∀ a : Ty, sameB a a = true
  | .mk k n l ks => by simp [sameB, sameL_refl ks]
theorem sameL_refl : ∀ l : List Ty, sameL l l = true
  | [] => rfl
  | a :: r => by simp [sameL, sameB_refl a, sameL_refl r]
end
theorem sameL_step : ∀ (la lb : List Ty) (i : Nat) (h1 : i < la.length) (h2 : i < lb.length), sameL (la.drop i) (lb.drop i) = (sameB la[i] lb[i] && sameL (la.drop (i + 1)) (lb.drop (i + 1)))
  | _ :: _, _ :: _, 0, _, _ => rfl
  | _ :: r, _ :: s, i + 1, h1, h2 => sameL_step r s i (by simpa using h1) (by simpa using h2)
/-- Two rows, with their slices. -/
abbrev Rw : Type := List Ty × List Ty × Value × Value
def scs (Ss : List Rw) : List Value := Ss.flatMap fun x => [x.2.2.1, x.2.2.2]
theorem scs_app (a b : List Rw) : scs (a ++ b) = scs a ++ scs b := by simp [scs]
theorem scs_len : ∀ a : List Rw, (scs a).length = a.length * 2
  | [] => rfl
  | x :: r => by
    have := scs_len r
    simp only [scs, List.flatMap_cons, List.length_append, List.length_cons, List.length_nil] at this ⊢
    omega
def allS (Ss : List Rw) : Bool := Ss.all fun x => sameL x.1 x.2.1
def totS (Ss : List Rw) : Nat := (Ss.map fun x => 1 + countL x.1).sum
theorem allS_app (a b : List Rw) : allS (a ++ b) = (allS a && allS b) := by simp [allS, List.all_append]
theorem totS_app (a b : List Rw) : totS (a ++ b) = totS a + totS b := by simp [totS]
/-- A slice of kids. -/
def RowAt (V : World) (S : Nat → Prop) (l : List Ty) (v : Value) : Prop := Rd V S (.mk 0 0 [] l) (.slice none 0 0) v
theorem Rd.row {V : World} {S : Nat → Prop} {T : Ty} {nv kv : Value} (h : Rd V S T nv kv) : RowAt V S T.kids kv := by
  cases h with
  | mk b off nvs kvs hn hl ha hc hr => exact .mk b off nvs kvs ⟨none, 0, rfl, Nat.zero_le _, ⟨Nat.le_refl _, fun x hx => by cases hx⟩, Or.inl rfl⟩ hl ha hc hr
/-- Where a tree may stand: below lo, or in one of two blocks. -/
def Sx2 (lo A B b : Nat) : Prop := b < lo ∨ b = A ∨ b = B
structure Stk (V : World) (lo A B : Nat) (v : Value) (Ss : List Rw) : Prop where
  own : V.ownsRow lo 66 2 v Ss.length (scs Ss)
  row : ∀ x ∈ Ss, RowAt V (Sx2 lo A B) x.1 x.2.2.1 ∧ RowAt V (Sx2 lo A B) x.2.1 x.2.2.2 ∧ x.1.length = x.2.1.length
structure Ab (V : World) (A B : Nat) : Prop where
  a : ∃ c, V.heap[A]? = some (.cells c 25)
  b : ∃ c, V.heap[B]? = some (.cells c 25)
theorem RowAt.move {V V' : World} {S S' : Nat → Prop} {l : List Ty} {v : Value} (h : RowAt V S l v) (hz : V.heap.size ≤ V'.heap.size) (hk : ∀ b, S b → b < V.heap.size → S' b ∧ V'.heap[b]? = V.heap[b]?) : RowAt V' S' l v := Rd.move h hz hk
theorem Ab.below {V V' : World} {A B : Nat} (h : Ab V A B) (hb : Below V.heap.size V V') : Ab V' A B := by
  obtain ⟨⟨c, h1⟩, d, h2⟩ := h
  exact ⟨⟨c, blk_below h1 hb⟩, d, blk_below h2 hb⟩
theorem Stk.below {V V' : World} {lo A B : Nat} {v : Value} {Ss : List Rw} (h : Stk V lo A B v Ss) (hb : Below V.heap.size V V') : Stk V' lo A B v Ss :=
  ⟨own_keep1 h.own fun k hk => hb.block k (h.own.lt k hk).2, fun x hx => by
    obtain ⟨h1, h2, h3⟩ := h.row x hx
    exact ⟨h1.move hb.size fun b hS hlt => ⟨hS, hb.block b hlt⟩, h2.move hb.size fun b hS hlt => ⟨hS, hb.block b hlt⟩, h3⟩⟩
theorem own_pop {V : World} {lo : Nat} {e : TypeId} {s : Nat} {ao : Option Addr} {n cap : Nat} {xs ys : List Value} (h : V.ownsRow lo e s (.slice ao (n + 1) cap) (n + 1) (xs ++ ys)) (hy : ys.length = s) : V.ownsRow lo e s (.slice ao n cap) n xs ∧ ∃ g, ao = some ⟨g, 0, none⟩ ∧ g < V.heap.size ∧ n + 1 ≤ cap ∧ ∀ j v, ys[j]? = some v → V.cell? ⟨g, n * s + j, none⟩ = some v := by
  have hl := h.1
  rw [List.length_append, hy, Nat.add_mul, Nat.one_mul] at hl
  have hx : xs.length = n * s := by omega
  have h0 := h
  rcases h.2 with ⟨_, h1⟩ | ⟨g, cap', cur, hv, hb, hg, hc1, hc2, hc3, hc4⟩
  · omega
  · cases hv
    refine ⟨⟨hx, Or.inr ⟨g, cap, cur, rfl, hb, hg, by omega, hc2, hc3, ?_⟩⟩, g, rfl, blk_lt hg, hc1, fun j v hv => ?_⟩
    · have : cur.toList.take (n * s) = (cur.toList.take ((n + 1) * s)).take (n * s) := by
        rw [List.take_take]
        congr 1
        have : n * s ≤ (n + 1) * s := Nat.mul_le_mul_right s (by omega)
        omega
      rw [this, hc4, ← hx, List.take_left]
    · have hj := (List.getElem?_eq_some_iff.1 hv).1
      rw [h0.cellAt (n * s + j) (by rw [Nat.add_mul, Nat.one_mul]; omega), List.getElem?_append_right (by omega), hx, Nat.add_sub_cancel_left]
      exact hv
/-- What a row's kid is. -/
theorem RowAt.kid {V : World} {S : Nat → Prop} {l : List Ty} {v : Value} (h : RowAt V S l v) : l.length ≤ maxLen ∧ ∃ ao cap, v = .slice ao l.length cap ∧
    ∀ i (hi : i < l.length), ∃ b off nv' kv', ao = some ⟨b, off, none⟩ ∧ S b ∧ b < V.heap.size ∧ V.rangeAt b (off + i * 4) [i64 l[i].kind, i64 l[i].num, nv', kv'] ∧ Rd V S l[i] nv' kv' := (Rd.kid h).2
end Go.Proofs.YtihbbgcpdgnhoaaDoor
