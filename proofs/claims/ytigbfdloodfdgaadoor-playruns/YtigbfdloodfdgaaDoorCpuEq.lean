/- Registers and acts held against one another; no statement is proved in this text. -/
import Derived.Test.YtigbfdloodfdgaaDoorCpuR5
import Derived.ChangeKeysEq
namespace Go.Proofs.YtigbfdloodfdgaaDoor
open Go.ChangeShapes Go.WideShapes Go.ChangeAt Go.RowKit

theorem plain22 : Tryd.prog.plainKey 27 = true := by kernel_rfl
theorem plain3 : Tryd.prog.plainKey 3 = true := by kernel_rfl
theorem cells22 : Tryd.prog.cellsOf 27 = 1 := by kernel_rfl
theorem cpC_get {C : List Nat} {i : Nat} (h : i < C.length) : (cpC C).toArray[i]? = some (u16 (C.getD i 0 : Nat)) := by
  simp [cpC, List.getElem?_eq_getElem h]
theorem eqItems22 (d : Nat) (xs ys : List Nat) (w : World) : ∀ (is : List Nat), (∀ i ∈ is, i < xs.length ∧ i < ys.length) →
    (Op.eqItems (d + 1) 27 1 (cpC xs).toArray (cpC ys).toArray is).run Tryd.prog w = .ok (is.all fun i => decide (xs.getD i 0 = ys.getD i 0)) w
  | [], _ => by simp [Op.eqItems]
  | i :: is, h => by
    obtain ⟨hx, hy⟩ := h i (by simp)
    have ih := eqItems22 d xs ys w is (fun j hj => h j (by simp [hj]))
    have p1 := run_part_plain w plain22 (cpC_get hx)
    have p2 := run_part_plain w plain22 (cpC_get hy)
    have hq := eqInt22 d (xs.getD i 0 : Nat) (ys.getD i 0 : Nat) w
    simp only [Op.eqItems, Nat.mul_one, Sem.run_bind, p1, p2, Result.andThen_ok, hq, List.all_cons]
    by_cases he : xs.getD i 0 = ys.getD i 0
    · rw [he]
      simp only [beq_self_eq_true, Bool.not_true, Bool.false_eq_true, if_false, decide_true, Bool.true_and]
      exact ih
    · have hb : (((xs.getD i 0 : Nat) : Int) == ((ys.getD i 0 : Nat) : Int)) = false := by simp only [beq_eq_false_iff_ne, ne_eq]; omega
      rw [hb, if_pos (by rfl), decide_eq_false he, Bool.false_and]
      rfl
theorem all_eq {n : Nat} {xs ys : List Nat} (hx : xs.length = n) (hy : ys.length = n) : ((List.range n).all fun i => decide (xs.getD i 0 = ys.getD i 0)) = decide (xs = ys) := by
  rw [Bool.eq_iff_iff, List.all_eq_true, decide_eq_true_iff]
  constructor
  · intro h
    apply List.ext_getElem (by omega)
    intro i h1 h2
    have := h i (by simp; omega)
    simpa [h1, h2] using this
  · rintro rfl
    simp
theorem eql23 (d : Nat) {xs ys : List Nat} (hx : xs.length = 8) (hy : ys.length = 8) (w : World) : (Op.equalIn (d + 2) 28 (cpV xs) (cpV ys)).run Tryd.prog w = .ok (decide (xs = ys)) w := by
  obtain ⟨i, hi⟩ := info_of_underlying Tryd.underlying27
  rw [run_equalIn_array w (d + 1) _ _ Tryd.underlying28 hi, cells22, eqItems22 d xs ys w (List.range 8) (fun i hi => by simp at hi; omega), all_eq hx hy]
theorem eql25 {C D : List Nat} (hC : C.length = 9) (hD : D.length = 9) (w : World) : (binOp .eql 30 (cpV C) (cpV D)).run Tryd.prog w = .ok (.bool (decide (C = D))) w := by
  rw [run_eql_struct, run_equalIn_struct w 9999 30 _ _ (by kernel_rfl) (by kernel_rfl)]
  obtain ⟨c0, c1, c2, c3, c4, c5, c6, c7, c8, rfl⟩ := list9 hC
  obtain ⟨d0, d1, d2, d3, d4, d5, d6, d7, d8, rfl⟩ := list9 hD
  have p0 : ∀ (c0 c1 c2 c3 c4 c5 c6 c7 c8 : Nat) (w : World), (part 28 (cpC [c0, c1, c2, c3, c4, c5, c6, c7, c8]).toArray 0).run Tryd.prog w = .ok (cpV [c0, c1, c2, c3, c4, c5, c6, c7]) w := fun _ _ _ _ _ _ _ _ _ w => by kernel_rfl
  have p1 : ∀ (c0 c1 c2 c3 c4 c5 c6 c7 c8 : Nat) (w : World), (part 27 (cpC [c0, c1, c2, c3, c4, c5, c6, c7, c8]).toArray 8).run Tryd.prog w = .ok (u16 c8) w := fun _ _ _ _ _ _ _ _ _ w => by kernel_rfl
  have hq := eqInt22 9998
  have h8 := @eql23 9997 [c0, c1, c2, c3, c4, c5, c6, c7] [d0, d1, d2, d3, d4, d5, d6, d7] rfl rfl
  simp only [Program.fieldsOf, Tryd.underlying30]
  simp only [Op.eqFields, ne_eq]
  by_cases ha : [c0, c1, c2, c3, c4, c5, c6, c7] = [d0, d1, d2, d3, d4, d5, d6, d7]
  · by_cases hb : c8 = d8
    · simp_all [Sem.run_bind, Result.andThen]
    · have hbi : ¬ ((c8 : Int) = (d8 : Int)) := by omega
      simp_all [Sem.run_bind, Result.andThen]
  · simp_all [Sem.run_bind, Result.andThen]
theorem eqlAct (t : TypeId) (ht : t = 61 ∨ t = 86) (a b : Ac) (w : World) : (binOp .eql t (acV a) (acV b)).run Tryd.prog w = .ok (.bool (decide (a = b))) w := by
  have hh : ∀ t, (t = 61 ∨ t = 86) → Tryd.prog.underlying t = some (.struct (Tryd.prog.fieldsOf t)) ∧ Tryd.prog.stoodInHeld t = false ∧ Tryd.prog.fieldsOf t = Tryd.prog.fieldsOf 61 := fun t ht => by
    rcases ht with rfl | rfl
    · exact ⟨by kernel_rfl, by kernel_rfl, rfl⟩
    · exact ⟨by kernel_rfl, by kernel_rfl, by kernel_rfl⟩
  obtain ⟨h1, h2, h3⟩ := hh t ht
  rw [run_eql_struct, run_equalIn_struct w 9999 t _ _ h1 h2, h3]
  have p0 : ∀ (x y z u v s : Int) (w : World), (part 3 #[i64 x, i64 y, i64 z, i64 u, i64 v, i64 s] 0).run Tryd.prog w = .ok (i64 x) w := fun _ _ _ _ _ _ w => by kernel_rfl
  have p1 : ∀ (x y z u v s : Int) (w : World), (part 3 #[i64 x, i64 y, i64 z, i64 u, i64 v, i64 s] 1).run Tryd.prog w = .ok (i64 y) w := fun _ _ _ _ _ _ w => by kernel_rfl
  have p2 : ∀ (x y z u v s : Int) (w : World), (part 3 #[i64 x, i64 y, i64 z, i64 u, i64 v, i64 s] 2).run Tryd.prog w = .ok (i64 z) w := fun _ _ _ _ _ _ w => by kernel_rfl
  have p3 : ∀ (x y z u v s : Int) (w : World), (part 3 #[i64 x, i64 y, i64 z, i64 u, i64 v, i64 s] 3).run Tryd.prog w = .ok (i64 u) w := fun _ _ _ _ _ _ w => by kernel_rfl
  have p4 : ∀ (x y z u v s : Int) (w : World), (part 3 #[i64 x, i64 y, i64 z, i64 u, i64 v, i64 s] 4).run Tryd.prog w = .ok (i64 v) w := fun _ _ _ _ _ _ w => by kernel_rfl
  have p5 : ∀ (x y z u v s : Int) (w : World), (part 3 #[i64 x, i64 y, i64 z, i64 u, i64 v, i64 s] 5).run Tryd.prog w = .ok (i64 s) w := fun _ _ _ _ _ _ w => by kernel_rfl
  have hq := eqInt3 9998
  simp only [Program.fieldsOf, Tryd.underlying61]
  rcases a with ⟨a1, a2, a3, a4, a5, a6⟩
  rcases b with ⟨b1, b2, b3, b4, b5, b6⟩
  by_cases g1 : a1 = b1
  · by_cases g2 : a2 = b2
    · by_cases g3 : a3 = b3
      · by_cases g4 : a4 = b4
        · by_cases g5 : a5 = b5 <;> by_cases g6 : a6 = b6 <;> simp [Op.eqFields, p0, p1, p2, p3, p4, p5, hq, g1, g2, g3, g4, g5, g6, Result.andThen]
        · simp [Op.eqFields, p0, p1, p2, p3, hq, g1, g2, g3, g4, Result.andThen]
      · simp [Op.eqFields, p0, p1, p2, hq, g1, g2, g3, Result.andThen]
    · simp [Op.eqFields, p0, p1, hq, g1, g2, Result.andThen]
  · simp [Op.eqFields, p0, hq, g1, Result.andThen]
end Go.Proofs.YtigbfdloodfdgaaDoor
