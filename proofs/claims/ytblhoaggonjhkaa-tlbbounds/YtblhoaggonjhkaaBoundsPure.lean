/- For TlbBounds: what no entry is behind a step, what is seen of a list, gets of what is there; no statement is proved in this text. -/
import Derived.Test.YtblhoaggonjhkaaLastWalk
namespace Go.Proofs.Ytblhoaggonjhkaa
open Go.ChangeShapes Go.WideShapes Go.ChangeAt Go.RowKit Go.Deep

theorem eql33g (a b : En) (w : World) : (binOp .eql 33 (entV a) (entV b)).run Try.prog w = .ok (.bool (decide (a = b))) w := by
  rw [run_eql_struct, run_equalIn_struct w 9999 33 _ _ (by kernel_rfl) (by kernel_rfl)]
  have p0 : ∀ (x : Int) (y : Bool) (w : World), (part 3 #[i64 x, .bool y] 0).run Try.prog w = .ok (i64 x) w := fun x y w => by kernel_rfl
  have p1 : ∀ (x : Int) (y : Bool) (w : World), (part 4 #[i64 x, .bool y] 1).run Try.prog w = .ok (.bool y) w := fun x y w => by kernel_rfl
  have hq := eqInt 9998
  have hb : ∀ (x y : Bool) (w : World), (Op.equalIn 9999 4 (.bool x) (.bool y)).run Try.prog w = .ok (x == y) w := fun x y w => run_equalIn_bool' w 9998 4 x y Try.underlying4
  simp only [Program.fieldsOf, Try.underlying33]
  rcases a with ⟨a1, a2⟩
  rcases b with ⟨b1, b2⟩
  by_cases h1 : a1 = b1 <;> cases a2 <;> cases b2 <;> simp [Op.eqFields, p0, p1, hq, hb, h1, Result.andThen]

/-- What no entry is behind a step. -/
def Gone (s : St) (q : K3 × En) : Prop :=
  (s.what = 5 ∧ ¬ q.1 = s.k) ∨ (s.what = 6 ∧ ¬ q.1.env = s.k.env) ∨ (s.what = 6 ∧ q.1.env = s.k.env ∧ ¬ q.1.proc = s.k.proc) ∨ (s.what = 7 ∧ ¬ q.1.env = s.k.env) ∨ (s.what = 8 ∧ ¬ q.2.frame = s.e.frame) ∨ (s.what ≠ 5 ∧ s.what ≠ 6 ∧ s.what ≠ 7 ∧ s.what ≠ 8)
theorem gone_next (s : St) (L : Ls) (q : K3 × En) (hq : q ∈ nextL s L) : Gone s q := by
  unfold Gone
  unfold nextL at hq
  by_cases h5 : s.what = 5
  · rw [if_neg (by omega), if_pos h5] at hq
    have := (List.mem_filter.1 hq).2
    exact Or.inl ⟨h5, by simpa [isKey] using this⟩
  by_cases h6 : s.what = 6
  · rw [if_neg (by omega), if_neg h5, if_pos h6] at hq
    have := (List.mem_filter.1 hq).2
    by_cases he : q.1.env = s.k.env
    · exact Or.inr (Or.inr (Or.inl ⟨h6, he, by simpa [isProc, he] using this⟩))
    · exact Or.inr (Or.inl ⟨h6, he⟩)
  by_cases h7 : s.what = 7
  · rw [if_neg (by omega), if_neg h5, if_neg h6, if_pos h7] at hq
    have := (List.mem_filter.1 hq).2
    exact Or.inr (Or.inr (Or.inr (Or.inl ⟨h7, by simpa [isEnv] using this⟩)))
  by_cases h8 : s.what = 8
  · rw [if_neg (by omega), if_neg h5, if_neg h6, if_neg h7, if_pos h8] at hq
    have := (List.mem_filter.1 hq).2
    exact Or.inr (Or.inr (Or.inr (Or.inr (Or.inl ⟨h8, by simpa [isFrame] using this⟩))))
  exact Or.inr (Or.inr (Or.inr (Or.inr (Or.inr ⟨h5, h6, h7, h8⟩))))
/-- There is told of the first j. -/
def Seen (L : Ls) (s : St) (j : Nat) (T : Bool) : Prop := ∀ i, i < j → L[i]? = some (s.k, s.e) → T = true
theorem Seen.next {L : Ls} {s : St} {j : Nat} {T : Bool} (h : Seen L s j T) (hj : j < L.length) : Seen L s (j + 1) (T || (decide (L[j].1 = s.k) && decide (L[j].2 = s.e))) := by
  intro i hi he
  by_cases hij : i < j
  · rw [h i hij he]; rfl
  · obtain rfl : i = j := by omega
    rw [List.getElem?_eq_getElem hj] at he
    have : L[i] = (s.k, s.e) := by simpa using he
    rw [this]
    simp
theorem Seen.end {L : Ls} {s : St} {T : Bool} (h : Seen (nextL s L) s (nextL s L).length T) (hp : isPut s) : T = true := by
  have hm : (s.k, s.e) ∈ nextL s L := by rw [next_put hp]; exact put_has _ _ _
  obtain ⟨i, hi, he⟩ := List.getElem_of_mem hm
  exact h i hi (by rw [List.getElem?_eq_getElem hi, he])
theorem get_has {w : World} {base p : Nat} {L : Ls} {ks : List K3} {h m : Nat} (b : Buf w base p L ks h m) (q : K3 × En) (hq : q ∈ L) (hh : h ≤ 100000) (hm : m ≤ 100000) :
    Calls Try.prog 12 #[.pointer (some ⟨p, 0, none⟩), keyV q.1] w fun e w' => e = .returned (.tuple #[entV q.2, .bool true]) ∧ Fr base [56] false w w' ∧ Buf w' base p L ks (h + 1) m := by
  refine (get_ok b q.1 hh hm).mono fun e w' hx => ?_
  rw [look_some b.nd hq] at hx
  exact hx
theorem rget_has {w : World} {base p : Nat} {L : Ls} {h m : Nat} (b : RBuf w base p L h m) (hl : L.length ≤ 100) (nd : ND L) (q : K3 × En) (hq : q ∈ L) (hh : h ≤ 100000) (hm : m ≤ 100000) :
    Calls Try.prog 13 #[.pointer (some ⟨p, 0, none⟩), oneV q] w fun e w' => Fr base [29] false w w' ∧ RBuf w' base p L (h + 1) m ∧ ∃ r, e = .returned (i64 r) := by
  refine (rget_ok b hl nd q hh hm).mono fun e w' hx => ?_
  rw [look_some nd hq] at hx
  obtain ⟨h1, h2, r, h3, _⟩ := hx
  exact ⟨h1, h2, r, h3⟩
theorem five_cells {w : World} {B : Nat} {s : St} (h : w.heap[B]? = some (.cells s.cells.toArray 35 (0, 0))) : w.cell? ⟨B, 0, none⟩ = some (i64 s.what) ∧ w.cell? ⟨B, 1, none⟩ = some (i64 s.k.env) ∧ w.cell? ⟨B, 2, none⟩ = some (i64 s.k.proc) ∧ w.cell? ⟨B, 3, none⟩ = some (i64 s.k.page) ∧ w.cell? ⟨B, 4, none⟩ = some (i64 s.e.frame) ∧ w.cell? ⟨B, 5, none⟩ = some (.bool s.e.wr) := by
  rw [cell_of_row w _ 0 _ 35 (0, 0) h, cell_of_row w _ 1 _ 35 (0, 0) h, cell_of_row w _ 2 _ 35 (0, 0) h, cell_of_row w _ 3 _ 35 (0, 0) h, cell_of_row w _ 4 _ 35 (0, 0) h, cell_of_row w _ 5 _ 35 (0, 0) h]
  exact ⟨rfl, rfl, rfl, rfl, rfl, rfl⟩
end Go.Proofs.Ytblhoaggonjhkaa
