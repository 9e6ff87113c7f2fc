/- Types that are the same, and the list of rows that waits in types.Same; no statement is proved in this text. -/
import Derived.Test.YteecjilknembdaaDoorPar
import Derived.Deep.LoopGhost
namespace Go.Proofs.YteecjilknembdaaDoor
open Go.ChangeShapes Go.WideShapes Go.ChangeAt Go.RowKit Go.Deep

def aloneS (a b : Ty) : Bool := decide (a.kind = b.kind) && decide (a.num = b.num) && decide (a.names = b.names) && decide (a.kids.length = b.kids.length)
mutual
def sameB : Ty → Ty → Bool
  | .mk k n l ks, .mk k' n' l' ks' => decide (k = k') && decide (n = n') && decide (l = l') && decide (ks.length = ks'.length) && sameL ks ks'
def sameL : List Ty → List Ty → Bool
  | [], [] => true
  | a :: r, b :: s => sameB a b && sameL r s
  | _, _ => false
end
theorem sameB_eq (a b : Ty) : sameB a b = (aloneS a b && sameL a.kids b.kids) := by
  cases a; cases b; rfl
mutual
theorem sameB_refl : ∀ a : Ty, sameB a a = true
  | .mk k n l ks => by simp [sameB, sameL_refl ks]
theorem sameL_refl : ∀ l : List Ty, sameL l l = true
  | [] => rfl
  | a :: r => by simp [sameL, sameB_refl a, sameL_refl r]
end
theorem sameL_step : ∀ (la lb : List Ty) (i : Nat) (h1 : i < la.length) (h2 : i < lb.length), sameL (la.drop i) (lb.drop i) = (sameB la[i] lb[i] && sameL (la.drop (i + 1)) (lb.drop (i + 1)))
  | _ :: _, _ :: _, 0, _, _ => rfl
  | _ :: r, _ :: s, i + 1, h1, h2 => sameL_step r s i (by simpa using h1) (by simpa using h2)
/-- Two rows, with their slices. -/
abbrev Rw : Type := List Ty × List Ty × Value × Value
def scs (Ss : List Rw) : List Value := Ss.flatMap fun x => [x.2.2.1, x.2.2.2]
theorem scs_app (a b : List Rw) : scs (a ++ b) = scs a ++ scs b := by simp [scs]
theorem scs_len : ∀ a : List Rw, (scs a).length = a.length * 2
  | [] => rfl
  | x :: r => by
    have := scs_len r
    simp only [scs, List.flatMap_cons, List.length_append, List.length_cons, List.length_nil] at this ⊢
    omega
def allS (Ss : List Rw) : Bool := Ss.all fun x => sameL x.1 x.2.1
def totS (Ss : List Rw) : Nat := (Ss.map fun x => 1 + countL x.1).sum
theorem allS_app (a b : List Rw) : allS (a ++ b) = (allS a && allS b) := by simp [allS, List.all_append]
theorem totS_app (a b : List Rw) : totS (a ++ b) = totS a + totS b := by simp [totS]
/-- A slice of kids. -/
def RowAt (V : World) (S : Nat → Prop) (l : List Ty) (v : Value) : Prop := Rd V S (.mk 0 0 [] l) (.slice none 0 0) v
theorem Rd.row {V : World} {S : Nat → Prop} {T : Ty} {nv kv : Value} (h : Rd V S T nv kv) : RowAt V S T.kids kv := by
  cases h with
  | mk b off nvs kvs hn hl ha hc hr => exact .mk b off nvs kvs ⟨none, 0, rfl, Nat.zero_le _, ⟨Nat.le_refl _, fun x hx => by cases hx⟩, Or.inl rfl⟩ hl ha hc hr
/-- Where a tree may stand: below lo, or in one of two blocks. -/
def Sx2 (lo A B b : Nat) : Prop := b < lo ∨ b = A ∨ b = B
structure Stk (V : World) (lo A B : Nat) (v : Value) (Ss : List Rw) : Prop where
  own : V.ownsRow lo 66 2 v Ss.length (scs Ss)
  row : ∀ x ∈ Ss, RowAt V (Sx2 lo A B) x.1 x.2.2.1 ∧ RowAt V (Sx2 lo A B) x.2.1 x.2.2.2 ∧ x.1.length = x.2.1.length
structure Ab (V : World) (A B : Nat) : Prop where
  a : ∃ c, V.heap[A]? = some (.cells c 25)
  b : ∃ c, V.heap[B]? = some (.cells c 25)
theorem RowAt.move {V V' : World} {S S' : Nat → Prop} {l : List Ty} {v : Value} (h : RowAt V S l v) (hz : V.heap.size ≤ V'.heap.size) (hk : ∀ b, S b → b < V.heap.size → S' b ∧ V'.heap[b]? = V.heap[b]?) : RowAt V' S' l v := Rd.move h hz hk
theorem Ab.below {V V' : World} {A B : Nat} (h : Ab V A B) (hb : Below V.heap.size V V') : Ab V' A B := by
  obtain ⟨⟨c, h1⟩, d, h2⟩ := h
  exact ⟨⟨c, blk_below h1 hb⟩, d, blk_below h2 hb⟩
theorem Stk.below {V V' : World} {lo A B : Nat} {v : Value} {Ss : List Rw} (h : Stk V lo A B v Ss) (hb : Below V.heap.size V V') : Stk V' lo A B v Ss :=
  ⟨own_keep1 h.own fun k hk => hb.block k (h.own.lt k hk).2, fun x hx => by
    obtain ⟨h1, h2, h3⟩ := h.row x hx
    exact ⟨h1.move hb.size fun b hS hlt => ⟨hS, hb.block b hlt⟩, h2.move hb.size fun b hS hlt => ⟨hS, hb.block b hlt⟩, h3⟩⟩
theorem own_pop {V : World} {lo : Nat} {e : TypeId} {s : Nat} {ao : Option Addr} {n cap : Nat} {xs ys : List Value} (h : V.ownsRow lo e s (.slice ao (n + 1) cap) (n + 1) (xs ++ ys)) (hy : ys.length = s) : V.ownsRow lo e s (.slice ao n cap) n xs ∧ ∃ g, ao = some ⟨g, 0, none⟩ ∧ g < V.heap.size ∧ n + 1 ≤ cap ∧ ∀ j v, ys[j]? = some v → V.cell? ⟨g, n * s + j, none⟩ = some v := by
  have hl := h.1
  rw [List.length_append, hy, Nat.add_mul, Nat.one_mul] at hl
  have hx : xs.length = n * s := by omega
  have h0 := h
  rcases h.2 with ⟨_, h1⟩ | ⟨g, cap', cur, hv, hb, hg, hc1, hc2, hc3, hc4⟩
  · omega
  · cases hv
    refine ⟨⟨hx, Or.inr ⟨g, cap, cur, rfl, hb, hg, by omega, hc2, hc3, ?_⟩⟩, g, rfl, blk_lt hg, hc1, fun j v hv => ?_⟩
    · have : cur.toList.take (n * s) = (cur.toList.take ((n + 1) * s)).take (n * s) := by
        rw [List.take_take]
        congr 1
        have : n * s ≤ (n + 1) * s := Nat.mul_le_mul_right s (by omega)
        omega
      rw [this, hc4, ← hx, List.take_left]
    · have hj := (List.getElem?_eq_some_iff.1 hv).1
      rw [h0.cellAt (n * s + j) (by rw [Nat.add_mul, Nat.one_mul]; omega), List.getElem?_append_right (by omega), hx, Nat.add_sub_cancel_left]
      exact hv
theorem under67 : Tryd.prog.underlying 67 = some (.slice 66) := Tryd.underlying67
theorem info66 : (Tryd.prog.info? 66).map (fun i => (i.zero, i.size, i.bytes)) = some (some (.agg #[.slice none 0 0, .slice none 0 0]), 2, 48) := by kernel_rfl
/-- A pair of rows more. -/
theorem stk_push {V : World} {lo A B : Nat} {v : Value} {Ss : List Rw} (h : Stk V lo A B v Ss) (hA : Ab V A B) (la lb : List Ty) (a1 : Option Addr) (n1 c1 : Nat) (a2 : Option Addr) (n2 c2 : Nat) (h1 : RowAt V (Sx2 lo A B) la (.slice a1 n1 c1)) (h2 : RowAt V (Sx2 lo A B) lb (.slice a2 n2 c2)) (h3 : la.length = lb.length) (hl : Ss.length ≤ 100000) (hlo : lo ≤ V.heap.size) :
    ∃ ao cap w', (Builtin.append_ #[67, 67] 67 #[v, .slice (some ⟨V.heap.size, 0, none⟩) 1 1]).run Tryd.prog (V.alloc (.cells #[.slice a1 n1 c1, .slice a2 n2 c2] 66)) = .ok (.slice ao (Ss.length + 1) cap) w' ∧ Stk w' lo A B (.slice ao (Ss.length + 1) cap) (Ss ++ [(la, lb, .slice a1 n1 c1, .slice a2 n2 c2)]) ∧ Ab w' A B ∧ Fr lo [66] V w' ∧ (∀ k, k < V.heap.size → some k ≠ v.ownBlock → w'.heap[k]? = V.heap[k]?) ∧ ((Value.slice ao (Ss.length + 1) cap).ownBlock = v.ownBlock ∨ (Value.slice ao (Ss.length + 1) cap).ownBlock = some (V.heap.size + 1)) := by
  obtain ⟨ao, cap, w', g1, g2, g3, g4, g5⟩ := app_far (te := 66) under67 info66 rfl (by omega) (by omega) h.own [.slice a1 n1 c1, .slice a2 n2 c2] rfl (fun u hu => by
    simp only [List.mem_cons, List.not_mem_nil, or_false] at hu
    rcases hu with rfl | rfl <;> rfl) hl hlo
  have hkeep : ∀ b, Sx2 lo A B b → b < V.heap.size → Sx2 lo A B b ∧ w'.heap[b]? = V.heap[b]? := by
    intro b hb _
    refine ⟨hb, ?_⟩
    obtain ⟨⟨c, e1⟩, d, e2⟩ := hA
    rcases hb with hb | rfl | rfl
    · exact g3.below.block b hb
    · rw [g3.kept _ _ e1 (by rfl), e1]
    · rw [g3.kept _ _ e2 (by rfl), e2]
  refine ⟨ao, cap, w', g1, ⟨?_, fun x hx => ?_⟩, ?_, g3, g4, g5⟩
  · rw [List.length_append, scs_app]
    exact g2
  · rcases List.mem_append.1 hx with hx | hx
    · obtain ⟨i1, i2, i3⟩ := h.row x hx
      exact ⟨i1.move g3.size hkeep, i2.move g3.size hkeep, i3⟩
    · rw [List.mem_singleton.1 hx]
      exact ⟨h1.move g3.size hkeep, h2.move g3.size hkeep, h3⟩
  · obtain ⟨⟨c, e1⟩, d, e2⟩ := hA
    exact ⟨⟨c, g3.kept _ _ e1 (by rfl)⟩, d, g3.kept _ _ e2 (by rfl)⟩
/-- What a row's kid is. -/
theorem RowAt.kid {V : World} {S : Nat → Prop} {l : List Ty} {v : Value} (h : RowAt V S l v) : l.length ≤ maxLen ∧ ∃ ao cap, v = .slice ao l.length cap ∧
    ∀ i (hi : i < l.length), ∃ b off nv' kv', ao = some ⟨b, off, none⟩ ∧ S b ∧ b < V.heap.size ∧ V.rangeAt b (off + i * 4) [i64 l[i].kind, i64 l[i].num, nv', kv'] ∧ Rd V S l[i] nv' kv' := (Rd.kid h).2
theorem eqS_ok {V : World} {S : Nat → Prop} {v1 v2 : Value} {l1 l2 : List Bs} (h1 : Strs V S v1 l1) (h2 : Strs V S v2 l2) : Calls Tryd.prog 47 #[v1, v2] V fun e w' => e = .returned (.bool (decide (l1 = l2))) ∧ ∃ n, w' = V.drewN n := by
  have m1 : l1.length ≤ maxLen := by obtain ⟨_, _, _, h, _, _⟩ := h1; exact h
  have m2 : l2.length ≤ maxLen := by obtain ⟨_, _, _, h, _, _⟩ := h2; exact h
  unfold maxLen at m1 m2
  obtain ⟨a1, c1, rfl, _, hc1⟩ := h1.cells
  obtain ⟨a2, c2, rfl, _, hc2⟩ := h2.cells
  by_cases hne : l1.length ≠ l2.length
  · have e : decide (l1 = l2) = false := decide_eq_false (fun e => hne (by rw [e]))
    rw [e]
    exact (Tryd.slices_Equal_string_lens a1 a2 l1.length c1 l2.length c2 V hne).mono fun e w' ⟨h3, h4⟩ => ⟨h3, 0, h4⟩
  · have hne : l1.length = l2.length := by omega
    rcases hc1 with rfl | ⟨b1, o1, rfl, _, hb1⟩
    · have : l2 = [] := List.eq_nil_of_length_eq_zero hne.symm
      subst this
      exact (Tryd.slices_Equal_string_empty a1 a2 c1 0 c2 V (by omega)).mono fun e w' ⟨h3, h4⟩ => ⟨h3, 0, h4⟩
    · rcases hc2 with rfl | ⟨b2, o2, rfl, _, hb2⟩
      · have : l1 = [] := List.eq_nil_of_length_eq_zero hne
        subst this
        exact (Tryd.slices_Equal_string_empty _ a2 c1 0 c2 V (by omega)).mono fun e w' ⟨h3, h4⟩ => ⟨h3, 0, h4⟩
      · have := Tryd.slices_Equal_string b1 o1 l1.length c1 b2 o2 l2.length c2 (l1.map ba) (l2.map ba) V (by simp) (by simp) (by omega) (by omega) (bas_cells hb1) (bas_cells hb2)
        rw [List.take_of_length_le (by simp), List.take_of_length_le (by simp)] at this
        have e : decide (l1.map ba = l2.map ba) = decide (l1 = l2) := by
          by_cases e : l1 = l2
          · rw [decide_eq_true e, decide_eq_true (by rw [e])]
          · rw [decide_eq_false e, decide_eq_false (fun h => e ?_)]
            exact List.map_inj_right (fun x y h => ba_inj h) |>.1 h
        rw [e] at this
        exact this
end Go.Proofs.YteecjilknembdaaDoor
