/- A table's places in memory; a place that is free; no statement is proved in this text. -/
import Derived.Test.YtnknhencobhjdaaCpSmall
namespace Go.Proofs.Ytnknhencobhjdaa.Cp
open Go.ChangeShapes Go.WideShapes Go.ChangeAt Go.RowKit
attribute [local go_sem ↓] Go.wp_at_zero Go.wp_at_succ

structure Pl where
  c : Cp
  fr : Int
  gen : Int
deriving DecidableEq
def plC (p : Pl) : List Value := [i64 p.c.env, i64 p.c.kind, i64 p.c.num, i64 p.c.rts, i64 p.fr, i64 p.gen]
def tbC (T : List Pl) : List Value := T.flatMap plC
theorem tbC_len (T : List Pl) : (tbC T).length = 6 * T.length := by
  induction T with
  | nil => rfl
  | cons p T ih =>
    show (plC p ++ tbC T).length = _
    rw [List.length_append, ih]
    simp [plC]
    omega
theorem tbC_get : ∀ (T : List Pl) (i : Nat) (p : Pl), T[i]? = some p → ∀ r, r < 6 → (tbC T)[6 * i + r]? = (plC p)[r]?
  | [], i, p, h, r, _ => by simp at h
  | k :: T, 0, p, h, r, hr => by
    simp at h
    subst h
    show (plC k ++ tbC T)[6 * 0 + r]? = _
    rw [Nat.mul_zero, Nat.zero_add, List.getElem?_append_left (by simpa [plC] using hr)]
  | k :: T, i + 1, p, h, r, hr => by
    have ih := tbC_get T i p (by simpa using h) r hr
    show (plC k ++ tbC T)[6 * (i + 1) + r]? = _
    rw [List.getElem?_append_right (by simp [plC]; omega), ← ih]
    congr 1
    simp [plC]
    omega
theorem tbC_set (T : List Pl) (i : Nat) (p : Pl) (hi : i < T.length) : tbC (T.set i p) = ((tbC T).take (6 * i)) ++ plC p ++ (tbC T).drop (6 * i + 6) := by
  induction T generalizing i with
  | nil => simp at hi
  | cons k T ih =>
    cases i with
    | zero => simp [tbC, plC]
    | succ i =>
      have := ih i (by simpa using hi)
      show plC k ++ tbC (T.set i p) = ((plC k ++ tbC T).take (6 * (i + 1))) ++ plC p ++ (plC k ++ tbC T).drop (6 * (i + 1) + 6)
      rw [this, List.take_append, List.drop_append]
      have e1 : (plC k).take (6 * (i + 1)) = plC k := List.take_of_length_le (by simp [plC]; omega)
      have e2 : (plC k).drop (6 * (i + 1) + 6) = [] := List.drop_eq_nil_of_le (by simp [plC])
      have e3 : 6 * (i + 1) - (plC k).length = 6 * i := by simp [plC]; omega
      have e4 : 6 * (i + 1) + 6 - (plC k).length = 6 * i + 6 := by simp [plC]; omega
      rw [e1, e2, e3, e4]
      simp
/-- A table lies in block b. -/
structure Tb (w : World) (base b : Nat) (T : List Pl) : Prop where
  lo : base ≤ b
  len : T.length = 128
  row : w.heap[b]? = some (.cells (tbC T).toArray 123)
theorem Tb.cell {w : World} {base b : Nat} {T : List Pl} (h : Tb w base b T) {i : Nat} {p : Pl} (hi : T[i]? = some p) (r : Nat) (hr : r < 6) : w.cell? ⟨b, i * 6 + r, none⟩ = (plC p)[r]? := by
  rw [blk_cell h.row, List.getElem?_toArray, Nat.mul_comm]
  exact tbC_get T i p hi r hr
theorem Tb.below {w w' : World} {base b : Nat} {T : List Pl} (h : Tb w base b T) (hb : Below w.heap.size w w') : Tb w' base b T := ⟨h.lo, h.len, blk_below h.row hb⟩
def zC : Cp := ⟨0, 0, 0, 0⟩
theorem eqI (d : Nat) (a b : Int) (w : World) : (Op.equalIn (d + 1) 3 (i64 a) (i64 b)).run Try.prog w = .ok (a == b) w := by
  simp [Op.equalIn, run_underlying Try.underlying3]
theorem eqIn36 (c d : Cp) (w : World) : (Op.equalIn 10000 108 c.v d.v).run Try.prog w = .ok (decide (c = d)) w := by
  obtain ⟨a, k, n, r⟩ := c
  obtain ⟨a', k', n', r'⟩ := d
  rw [run_equalIn_struct w 9999 108 _ _ (by kernel_rfl) (by kernel_rfl)]
  have p0 : ∀ (a k n r : Int) (w : World), (part 3 #[i64 a, i64 k, i64 n, i64 r] 0).run Try.prog w = .ok (i64 a) w := fun _ _ _ _ w => by kernel_rfl
  have p1 : ∀ (a k n r : Int) (w : World), (part 3 #[i64 a, i64 k, i64 n, i64 r] 1).run Try.prog w = .ok (i64 k) w := fun _ _ _ _ w => by kernel_rfl
  have p2 : ∀ (a k n r : Int) (w : World), (part 3 #[i64 a, i64 k, i64 n, i64 r] 2).run Try.prog w = .ok (i64 n) w := fun _ _ _ _ w => by kernel_rfl
  have p3 : ∀ (a k n r : Int) (w : World), (part 3 #[i64 a, i64 k, i64 n, i64 r] 3).run Try.prog w = .ok (i64 r) w := fun _ _ _ _ w => by kernel_rfl
  have hq := eqI 9998
  simp only [Program.fieldsOf, Try.underlying108]
  simp only [Op.eqFields, ne_eq]
  by_cases h1 : a = a'
  · by_cases h2 : k = k'
    · by_cases h3 : n = n'
      · by_cases h4 : r = r'
        · simp_all [Sem.run_bind, Result.andThen]
        · simp_all [Sem.run_bind, Result.andThen]
      · simp_all [Sem.run_bind, Result.andThen]
    · simp_all [Sem.run_bind, Result.andThen]
  · simp_all [Sem.run_bind, Result.andThen]
set_option maxRecDepth 100000 in
theorem free_ok (w : World) (b off : Nat) (c : Cp) (h0 : w.cell? ⟨b, off, none⟩ = some (i64 c.env)) (h1 : w.cell? ⟨b, off + 1, none⟩ = some (i64 c.kind)) (h2 : w.cell? ⟨b, off + 2, none⟩ = some (i64 c.num)) (h3 : w.cell? ⟨b, off + 3, none⟩ = some (i64 c.rts)) :
    Calls Try.prog 73 #[.pointer (some ⟨b, off, none⟩)] w fun e w' => e = .returned (.bool (decide (c = zC))) ∧ w' = w := by
  have hq := eqIn36 c zC
  unfold Cp.v zC at hq
  obtain ⟨B, hB⟩ : ∃ B, decide (c = zC) = B := ⟨_, rfl⟩
  unfold zC at hB
  rw [hB] at hq
  show Calls Try.prog 73 _ w fun e w' => e = .returned (.bool (decide (c = ⟨0, 0, 0, 0⟩))) ∧ w' = w
  rw [hB]
  clear hB
  go_enter Try.func73, Try.ntmps73
  go_wp2_with fail
  go_ret
  exact ⟨rfl, rfl⟩
end Go.Proofs.Ytnknhencobhjdaa.Cp
