/- Rows of spans in memory; no statement is proved in this text. -/
import Derived.Test.YtlkcpjefgelcoaaTm
namespace Go.Proofs.Ytlkcpjefgelcoaa
open Go.ChangeShapes Go.WideShapes Go.ChangeAt Go.RowKit Go.Deep
attribute [local go_sem ↓] Go.wp_at_zero Go.wp_at_succ

abbrev sv (s : Sp) : Value := .agg #[i64 s.1, i64 s.2.1, i64 s.2.2.1, i64 s.2.2.2]
abbrev sO (s : Sp) (t : TypeId) : Obj := .cells #[i64 s.1, i64 s.2.1, i64 s.2.2.1, i64 s.2.2.2] t
def sC (a : Sp) : List Value := [i64 a.1, i64 a.2.1, i64 a.2.2.1, i64 a.2.2.2]
def scn (l : List Sp) : List Value := l.flatMap sC
theorem scn_app (a b : List Sp) : scn (a ++ b) = scn a ++ scn b := by simp [scn]
theorem scn_one (a : Sp) : scn [a] = sC a := by simp [scn]
theorem scn_len (l : List Sp) : (scn l).length = l.length * 4 := by
  induction l with
  | nil => rfl
  | cons x l ih =>
    have e : (scn (x :: l)).length = 4 + (scn l).length := by rw [show scn (x :: l) = sC x ++ scn l from rfl, List.length_append]; rfl
    rw [e, ih, List.length_cons]
    omega
theorem scn_get (l : List Sp) (i : Nat) (a : Sp) (h : l[i]? = some a) : (scn l)[i * 4]? = some (i64 a.1) ∧ (scn l)[i * 4 + 1]? = some (i64 a.2.1) ∧ (scn l)[i * 4 + 2]? = some (i64 a.2.2.1) ∧ (scn l)[i * 4 + 3]? = some (i64 a.2.2.2) := by
  induction l generalizing i with
  | nil => simp at h
  | cons x l ih =>
    cases i with
    | zero => simp at h; subst h; exact ⟨rfl, rfl, rfl, rfl⟩
    | succ i =>
      have := ih i (by simpa using h)
      rw [show (i + 1) * 4 = i * 4 + 4 by omega]
      exact this
theorem sC_one (a : Sp) : ∀ u ∈ sC a, u.oneCell' = true := by
  intro u hu
  simp only [sC, List.mem_cons, List.not_mem_nil, or_false] at hu
  rcases hu with rfl | rfl | rfl | rfl <;> rfl
theorem scn_one' (l : List Sp) : ∀ u ∈ scn l, u.oneCell' = true := by
  intro u hu
  obtain ⟨e, _, he⟩ := List.mem_flatMap.1 hu
  exact sC_one e u he
/-- A slice of areas that reads as a list. -/
def Rd4 (w : World) (ao : Option Addr) (X : List Sp) : Prop := ∀ (i : Nat) (a : Sp), X[i]? = some a → ∃ g o, ao = some ⟨g, o, none⟩ ∧ g < w.heap.size ∧ w.cell? ⟨g, o + i * 4, none⟩ = some (i64 a.1) ∧ w.cell? ⟨g, o + i * 4 + 1, none⟩ = some (i64 a.2.1) ∧ w.cell? ⟨g, o + i * 4 + 2, none⟩ = some (i64 a.2.2.1) ∧ w.cell? ⟨g, o + i * 4 + 3, none⟩ = some (i64 a.2.2.2)
theorem Rd4.keep {w w' : World} {ao : Option Addr} {X : List Sp} (h : Rd4 w ao X) (hb : ∀ g o, ao = some ⟨g, o, none⟩ → g < w.heap.size → w'.heap[g]? = w.heap[g]?) (hs : w.heap.size ≤ w'.heap.size) : Rd4 w' ao X := fun i p hp => by
  obtain ⟨g, o, h1, h2, h3, h4, h5, h6⟩ := h i p hp
  have hk := hb g o h1 h2
  refine ⟨g, o, h1, Nat.lt_of_lt_of_le h2 hs, ?_, ?_, ?_, ?_⟩
  all_goals (rw [World.cell?_of_block (w := w) hk]; assumption)
theorem Rd4.below {w w' : World} {ao : Option Addr} {X : List Sp} (h : Rd4 w ao X) (hb : Below w.heap.size w w') : Rd4 w' ao X := h.keep (fun g _ _ hg => hb.block g hg) hb.size
theorem own_zero4 {w : World} {base : Nat} {t : TypeId} {n cap : Nat} {ao : Option Addr} {xs : List Value} (h2 : w.ownsRow base t 4 (.slice ao n cap) n xs) (h0 : 0 < n) : ∃ g, ao = some ⟨g, 0, none⟩ ∧ base ≤ g ∧ ∃ cur, w.heap[g]? = some (.cells cur t) ∧ n ≤ cap := by
  rcases h2.2 with ⟨_, h⟩ | ⟨g, cap', cur, he, hbg, hgg, hc, _⟩
  · omega
  · simp only [Value.slice.injEq] at he
    obtain ⟨rfl, _, rfl⟩ := he
    exact ⟨g, rfl, hbg, cur, hgg, hc⟩
theorem own_cap4 {w : World} {base : Nat} {t : TypeId} {n cap : Nat} {ao : Option Addr} {xs : List Value} (h2 : w.ownsRow base t 4 (.slice ao n cap) n xs) : n ≤ cap := by
  by_cases h0 : 0 < n
  · obtain ⟨g, _, _, cur, _, hc⟩ := own_zero4 h2 h0
    exact hc
  · omega
theorem Rd4.own {w : World} {base : Nat} {t : TypeId} {ao : Option Addr} {cap : Nat} {X : List Sp} (h2 : w.ownsRow base t 4 (.slice ao X.length cap) X.length (scn X)) : Rd4 w ao X := fun i p hp => by
  have hi : i < X.length := (List.getElem?_eq_some_iff.1 hp).1
  obtain ⟨g, rfl, hbg, cur, hgg, _⟩ := own_zero4 h2 (by omega)
  obtain ⟨e0, e1, e2, e3⟩ := scn_get X i p hp
  refine ⟨g, 0, rfl, blk_lt hgg, ?_, ?_, ?_, ?_⟩
  · rw [Nat.zero_add, h2.cellAt _ (by omega), e0]
  · rw [Nat.zero_add, h2.cellAt _ (by omega), e1]
  · rw [Nat.zero_add, h2.cellAt _ (by omega), e2]
  · rw [Nat.zero_add, h2.cellAt _ (by omega), e3]
theorem own_setg {w : World} {base : Nat} {e : TypeId} {size n m cap g : Nat} {xs : List Value} (h : w.ownsRow base e size (.slice (some ⟨g, 0, none⟩) n cap) m xs) {i : Nat} (v : Value) : (w.setCell ⟨g, i, none⟩ v).ownsRow base e size (.slice (some ⟨g, 0, none⟩) n cap) m (xs.set i v) := by
  obtain ⟨hl, h3⟩ := h
  rcases h3 with ⟨hn, _⟩ | ⟨g', cap', cur, he, hbg, hgg, hc1, hc2, hc3, htk⟩
  · simp at hn
  · simp only [Value.slice.injEq, Option.some.injEq, Addr.mk.injEq] at he
    obtain ⟨⟨rfl, _⟩, hnm, rfl⟩ := he
    refine ⟨by rw [List.length_set]; exact hl, .inr ⟨g, cap, _, by rw [hnm], hbg, heap_setCell_same w g _ _ e _ hgg, hc1, hc2, by simpa using hc3, ?_⟩⟩
    rw [← htk, Array.toList_setIfInBounds, List.take_set]

theorem uS : Try.prog.underlying 35 = some (.slice 71) := by kernel_rfl
theorem iS : (Try.prog.info? 71).map (fun i => (i.zero, i.size, i.bytes)) = some (some (sv (0, 0, 0, 0)), 4, 32) := by kernel_rfl
theorem uD : Try.prog.underlying 27 = some (.slice 58) := by kernel_rfl
theorem iD : (Try.prog.info? 58).map (fun i => (i.zero, i.size, i.bytes)) = some (some (sv (0, 0, 0, 0)), 4, 32) := by kernel_rfl
theorem zero71 (w : World) : (zeroValue 71).run Try.prog w = .ok (sv (0, 0, 0, 0)) w := by kernel_rfl
theorem zero58s (w : World) : (zeroValue 58).run Try.prog w = .ok (sv (0, 0, 0, 0)) w := by kernel_rfl
theorem zero62 (w : World) : (zeroValue 62).run Try.prog w = .ok (.agg #[i64 0, i64 0]) w := by kernel_rfl
/-- Four cells of a block. -/
theorem four_cells {W : World} {b : Nat} {p s a c : Value} {t : TypeId} (h : W.heap[b]? = some (.cells #[p, s, a, c] t)) : W.cell? ⟨b, 0, none⟩ = some p ∧ W.cell? ⟨b, 1, none⟩ = some s ∧ W.cell? ⟨b, 2, none⟩ = some a ∧ W.cell? ⟨b, 3, none⟩ = some c := ⟨blk_cell h 0, blk_cell h 1, blk_cell h 2, blk_cell h 3⟩
theorem two_cells {W : World} {b : Nat} {p s : Value} {t : TypeId} (h : W.heap[b]? = some (.cells #[p, s] t)) : W.cell? ⟨b, 0, none⟩ = some p ∧ W.cell? ⟨b, 1, none⟩ = some s := ⟨blk_cell h 0, blk_cell h 1⟩
/-- A number of one is set. -/
theorem scn_set (X : List Sp) (s : Sp) (Y : List Sp) (j : Nat) (hj : j < 4) (v : Value) : (scn (X ++ s :: Y)).set (X.length * 4 + j) v = scn X ++ (sC s).set j v ++ scn Y := by
  have e : scn (X ++ s :: Y) = scn X ++ (sC s ++ scn Y) := by rw [scn_app]; rfl
  rw [e, List.set_append_right _ _ (by rw [scn_len]; omega), scn_len, show X.length * 4 + j - X.length * 4 = j by omega, List.set_append_left _ _ (by show j < 4; exact hj), List.append_assoc]
/-- What a call answers that makes a row of spans. -/
def GotS (w w' : World) (e : Ending) (M : List Sp) : Prop := ∃ ao cap, e = .returned (.slice ao M.length cap) ∧ w'.ownsRow w.heap.size 71 4 (.slice ao M.length cap) M.length (scn M)
def GotD (w w' : World) (e : Ending) (M : List Sp) : Prop := ∃ ao cap, e = .returned (.slice ao M.length cap) ∧ w'.ownsRow w.heap.size 58 4 (.slice ao M.length cap) M.length (scn M)
theorem eqC (d : Nat) (w : World) (a b a' b' : Int) : (Op.equalIn (d + 2) 62 (.agg #[i64 a, i64 b]) (.agg #[i64 a', i64 b'])).run Try.prog w = .ok (decide (a = a' ∧ b = b')) w := by
  rw [run_equalIn_struct w (d + 1) 62 _ _ (by kernel_rfl) (by kernel_rfl)]
  have p0 : ∀ (a b : Int) (w : World), (part 3 #[i64 a, i64 b] 0).run Try.prog w = .ok (i64 a) w := fun _ _ w => by kernel_rfl
  have p1 : ∀ (a b : Int) (w : World), (part 3 #[i64 a, i64 b] 1).run Try.prog w = .ok (i64 b) w := fun _ _ w => by kernel_rfl
  have hq := eqI d
  simp only [Program.fieldsOf, Try.underlying62]
  by_cases h1 : a = a' <;> by_cases h2 : b = b' <;> simp [Op.eqFields, p0, p1, hq, h1, h2, Result.andThen]
theorem eqS (d : Nat) (p s a b p' s' a' b' : Int) (w : World) : (Op.equalIn (d + 2) 58 (sv (p, s, a, b)) (sv (p', s', a', b'))).run Try.prog w = .ok (decide (p = p' ∧ s = s' ∧ a = a' ∧ b = b')) w := by
  rw [run_equalIn_struct w (d + 1) 58 _ _ (by kernel_rfl) (by kernel_rfl)]
  have p0 : ∀ (p s a b : Int) (w : World), (part 3 #[i64 p, i64 s, i64 a, i64 b] 0).run Try.prog w = .ok (i64 p) w := fun _ _ _ _ w => by kernel_rfl
  have p1 : ∀ (p s a b : Int) (w : World), (part 3 #[i64 p, i64 s, i64 a, i64 b] 1).run Try.prog w = .ok (i64 s) w := fun _ _ _ _ w => by kernel_rfl
  have p2 : ∀ (p s a b : Int) (w : World), (part 3 #[i64 p, i64 s, i64 a, i64 b] 2).run Try.prog w = .ok (i64 a) w := fun _ _ _ _ w => by kernel_rfl
  have p3 : ∀ (p s a b : Int) (w : World), (part 3 #[i64 p, i64 s, i64 a, i64 b] 3).run Try.prog w = .ok (i64 b) w := fun _ _ _ _ w => by kernel_rfl
  have hq := eqI d
  simp only [Program.fieldsOf, Try.underlying58]
  by_cases h1 : p = p' <;> by_cases h2 : s = s' <;> by_cases h3 : a = a' <;> by_cases h4 : b = b' <;> simp [Op.eqFields, p0, p1, p2, p3, hq, h1, h2, h3, h4, Result.andThen]
end Go.Proofs.Ytlkcpjefgelcoaa
