/- Rows of areas in memory; a list in memory; New, isProc, isArea, the closures, those; no statement is proved in this text. -/
import Derived.Test.YtlkcpjefgelcoaaPu
namespace Go.Proofs.Ytlkcpjefgelcoaa
open Go.ChangeShapes Go.WideShapes Go.ChangeAt Go.RowKit Go.Deep
attribute [local go_sem ↓] Go.wp_at_zero Go.wp_at_succ

abbrev av (a : Ar) : Value := .agg #[i64 a.1, i64 a.2.1, i64 a.2.2]
abbrev arO (a : Ar) (t : TypeId) : Obj := .cells #[i64 a.1, i64 a.2.1, i64 a.2.2] t
def aC (a : Ar) : List Value := [i64 a.1, i64 a.2.1, i64 a.2.2]
def acn (l : List Ar) : List Value := l.flatMap aC
theorem acn_app (a b : List Ar) : acn (a ++ b) = acn a ++ acn b := by simp [acn]
theorem acn_one (a : Ar) : acn [a] = aC a := by simp [acn]
theorem acn_len (l : List Ar) : (acn l).length = l.length * 3 := by
  induction l with
  | nil => rfl
  | cons x l ih =>
    have e : (acn (x :: l)).length = 3 + (acn l).length := by rw [show acn (x :: l) = aC x ++ acn l from rfl, List.length_append]; rfl
    rw [e, ih, List.length_cons]
    omega
theorem acn_get (l : List Ar) (i : Nat) (a : Ar) (h : l[i]? = some a) : (acn l)[i * 3]? = some (i64 a.1) ∧ (acn l)[i * 3 + 1]? = some (i64 a.2.1) ∧ (acn l)[i * 3 + 2]? = some (i64 a.2.2) := by
  induction l generalizing i with
  | nil => simp at h
  | cons x l ih =>
    cases i with
    | zero => simp at h; subst h; exact ⟨rfl, rfl, rfl⟩
    | succ i =>
      have := ih i (by simpa using h)
      rw [show (i + 1) * 3 = i * 3 + 3 by omega]
      exact this
theorem aC_one (a : Ar) : ∀ u ∈ aC a, u.oneCell' = true := by
  intro u hu
  simp only [aC, List.mem_cons, List.not_mem_nil, or_false] at hu
  rcases hu with rfl | rfl | rfl <;> rfl
theorem acn_one' (l : List Ar) : ∀ u ∈ acn l, u.oneCell' = true := by
  intro u hu
  obtain ⟨e, _, he⟩ := List.mem_flatMap.1 hu
  exact aC_one e u he
/-- A slice of areas that reads as a list. -/
def Rd3 (w : World) (ao : Option Addr) (X : List Ar) : Prop := ∀ (i : Nat) (a : Ar), X[i]? = some a → ∃ g o, ao = some ⟨g, o, none⟩ ∧ g < w.heap.size ∧ w.cell? ⟨g, o + i * 3, none⟩ = some (i64 a.1) ∧ w.cell? ⟨g, o + i * 3 + 1, none⟩ = some (i64 a.2.1) ∧ w.cell? ⟨g, o + i * 3 + 2, none⟩ = some (i64 a.2.2)
theorem Rd3.keep {w w' : World} {ao : Option Addr} {X : List Ar} (h : Rd3 w ao X) (hb : ∀ g o, ao = some ⟨g, o, none⟩ → g < w.heap.size → w'.heap[g]? = w.heap[g]?) (hs : w.heap.size ≤ w'.heap.size) : Rd3 w' ao X := fun i p hp => by
  obtain ⟨g, o, h1, h2, h3, h4, h5⟩ := h i p hp
  have hk := hb g o h1 h2
  refine ⟨g, o, h1, Nat.lt_of_lt_of_le h2 hs, ?_, ?_, ?_⟩
  all_goals (rw [World.cell?_of_block (w := w) hk]; assumption)
theorem Rd3.below {w w' : World} {ao : Option Addr} {X : List Ar} (h : Rd3 w ao X) (hb : Below w.heap.size w w') : Rd3 w' ao X := h.keep (fun g _ _ hg => hb.block g hg) hb.size
theorem own_zero {w : World} {base : Nat} {t : TypeId} {n cap : Nat} {ao : Option Addr} {xs : List Value} (h2 : w.ownsRow base t 3 (.slice ao n cap) n xs) (h0 : 0 < n) : ∃ g, ao = some ⟨g, 0, none⟩ ∧ base ≤ g ∧ ∃ cur, w.heap[g]? = some (.cells cur t) ∧ n ≤ cap := by
  rcases h2.2 with ⟨_, h⟩ | ⟨g, cap', cur, he, hbg, hgg, hc, _⟩
  · omega
  · simp only [Value.slice.injEq] at he
    obtain ⟨rfl, _, rfl⟩ := he
    exact ⟨g, rfl, hbg, cur, hgg, hc⟩
theorem own_cap {w : World} {base : Nat} {t : TypeId} {n cap : Nat} {ao : Option Addr} {xs : List Value} (h2 : w.ownsRow base t 3 (.slice ao n cap) n xs) : n ≤ cap := by
  by_cases h0 : 0 < n
  · obtain ⟨g, _, _, cur, _, hc⟩ := own_zero h2 h0
    exact hc
  · omega
theorem Rd3.own {w : World} {base : Nat} {t : TypeId} {ao : Option Addr} {cap : Nat} {X : List Ar} (h2 : w.ownsRow base t 3 (.slice ao X.length cap) X.length (acn X)) : Rd3 w ao X := fun i p hp => by
  have hi : i < X.length := (List.getElem?_eq_some_iff.1 hp).1
  obtain ⟨g, rfl, hbg, cur, hgg, _⟩ := own_zero h2 (by omega)
  obtain ⟨e0, e1, e2⟩ := acn_get X i p hp
  refine ⟨g, 0, rfl, blk_lt hgg, ?_, ?_, ?_⟩
  · rw [Nat.zero_add, h2.cellAt _ (by omega), e0]
  · rw [Nat.zero_add, h2.cellAt _ (by omega), e1]
  · rw [Nat.zero_add, h2.cellAt _ (by omega), e2]
theorem three_cells {W : World} {b : Nat} {p s a : Value} {t : TypeId} (h : W.heap[b]? = some (.cells #[p, s, a] t)) : W.cell? ⟨b, 0, none⟩ = some p ∧ W.cell? ⟨b, 1, none⟩ = some s ∧ W.cell? ⟨b, 2, none⟩ = some a := ⟨blk_cell h 0, blk_cell h 1, blk_cell h 2⟩
theorem under35 : Try.prog.underlying 48 = some (.slice 79) := by kernel_rfl
theorem info42x : (Try.prog.info? 79).map (fun i => (i.zero, i.size, i.bytes)) = some (some (av (0, 0, 0)), 3, 24) := by kernel_rfl
theorem under27 : Try.prog.underlying 89 = some (.slice 98) := by kernel_rfl
theorem info58x : (Try.prog.info? 98).map (fun i => (i.zero, i.size, i.bytes)) = some (some (av (0, 0, 0)), 3, 24) := by kernel_rfl
theorem zero54 (w : World) : (zeroValue 75).run Try.prog w = .ok (.agg #[.slice none 0 0]) w := by kernel_rfl
theorem zero29 (w : World) : (zeroValue 91).run Try.prog w = .ok (.agg #[.slice none 0 0]) w := by kernel_rfl
theorem zero42 (w : World) : (zeroValue 79).run Try.prog w = .ok (av (0, 0, 0)) w := by kernel_rfl
theorem zero58 (w : World) : (zeroValue 98).run Try.prog w = .ok (av (0, 0, 0)) w := by kernel_rfl
/-- A list in memory, with its slice. -/
def Lw (w : World) (base P : Nat) (v : Value) (L : List Ar) : Prop := base ≤ P ∧ w.heap[P]? = some (.cells #[v] 75) ∧ w.ownsRow base 79 3 v L.length (acn L)
def Lb (w : World) (base P : Nat) (L : List Ar) : Prop := ∃ v, Lw w base P v L
theorem Lw.lt {w : World} {base P : Nat} {v : Value} {L : List Ar} (h : Lw w base P v L) : P < w.heap.size := blk_lt h.2.1
theorem Lw.below {w w' : World} {base P : Nat} {v : Value} {L : List Ar} (h : Lw w base P v L) (hb : Below w.heap.size w w') : Lw w' base P v L :=
  ⟨h.1, blk_below h.2.1 hb, own_keep1 h.2.2 fun k hk => hb.block k (h.2.2.lt k hk).2⟩
theorem Lb.below {w w' : World} {base P : Nat} {L : List Ar} (h : Lb w base P L) (hb : Below w.heap.size w w') : Lb w' base P L := ⟨_, h.choose_spec.below hb⟩
theorem Lb.lt {w : World} {base P : Nat} {L : List Ar} (h : Lb w base P L) : P < w.heap.size := h.choose_spec.lt
theorem Lb.lo {w : World} {base P : Nat} {L : List Ar} (h : Lb w base P L) : base ≤ P := h.choose_spec.1
theorem Lb.lob {w : World} {base P : Nat} {L : List Ar} (h : Lb w base P L) : base ≤ w.heap.size := Nat.le_of_lt (Nat.lt_of_le_of_lt h.lo h.lt)
theorem Lb.fr {w w' : World} {base base' P : Nat} {L : List Ar} {ts : List TypeId} (h : Lb w base P L) (hf : Fr base' ts w w') (h54 : ts.contains 75 = false) (h42 : ts.contains 79 = false) : Lb w' base P L := by
  obtain ⟨v, h0, h1, h2⟩ := h
  exact ⟨v, h0, hf.kept _ _ h1 (by simp only [keeps, h54]; rfl), own_keep h2 fun k _ hk => hf.kept k _ hk (by simp only [keeps, h42]; rfl)⟩
def Lv (w : World) (base : Nat) (pv : Value) (L : List Ar) : Prop := (pv = .pointer none ∧ L = []) ∨ ∃ P, pv = pq P ∧ Lb w base P L
theorem Lb.lv {w : World} {base P : Nat} {L : List Ar} (h : Lb w base P L) : Lv w base (pq P) L := .inr ⟨P, rfl, h⟩
theorem Lv.below {w w' : World} {base : Nat} {pv : Value} {L : List Ar} (h : Lv w base pv L) (hb : Below w.heap.size w w') : Lv w' base pv L := by
  rcases h with h | ⟨P, rfl, h⟩
  · exact .inl h
  · exact .inr ⟨P, rfl, h.below hb⟩
set_option maxRecDepth 100000 in
set_option maxHeartbeats 3200000 in
theorem new_ok (w : World) : Calls Try.prog 17 #[] w fun e w' => e = .returned (pq w.heap.size) ∧ Lb w' w.heap.size w.heap.size [] ∧ Below w.heap.size w w' := by
  have HP : Hid (Lb (w.alloc (.cells #[.slice none 0 0] 75)) w.heap.size w.heap.size []) := ⟨.slice none 0 0, Nat.le_refl _, heap_last w _, World.ownsRow_nil _ _ _ _⟩
  have hz := zero54 w
  go_enter Try.func17, Try.ntmps17
  go_wp2_with fail
  go_ret
  exact ⟨rfl, HP.out, below_one w _⟩
set_option maxRecDepth 100000 in
set_option maxHeartbeats 3200000 in
theorem isProc_ok (w : World) (p : Int) : Calls Try.prog 40 #[i64 p] w fun e w' => e = .returned (.bool (decide (1 ≤ p ∧ p ≤ 6))) ∧ w' = w := by
  by_cases h1 : 1 ≤ p
  · by_cases h6 : p ≤ 6
    · have q : decide (1 ≤ p ∧ p ≤ 6) = true := decide_eq_true ⟨h1, h6⟩
      rw [q]
      clear q
      go_enter Try.func40, Try.ntmps40
      go_wp2_with fail
      go_ret
      exact ⟨rfl, rfl⟩
    · have q : decide (1 ≤ p ∧ p ≤ 6) = false := decide_eq_false fun h => h6 h.2
      rw [q]
      clear q
      go_enter Try.func40, Try.ntmps40
      go_wp2_with fail
      go_ret
      exact ⟨rfl, rfl⟩
  · have q : decide (1 ≤ p ∧ p ≤ 6) = false := decide_eq_false fun h => h1 h.1
    rw [q]
    clear q
    go_enter Try.func40, Try.ntmps40
    go_wp2_with fail
    go_ret
    exact ⟨rfl, rfl⟩
end Go.Proofs.Ytlkcpjefgelcoaa
