/- Open, List; no statement is proved in this text. -/
import Derived.Test.YtojhmiggocommaaOp
namespace Go.Proofs.Ytojhmiggocommaa
open Go.ChangeShapes Go.WideShapes Go.ChangeAt Go.RowKit Go.Deep
attribute [local go_sem ↓] Go.wp_at_zero Go.wp_at_succ

def free (S : St) : Nat := if S 0 = none then 0 else if S 1 = none then 1 else if S 2 = none then 2 else 3
def opnE (S : St) : Int := if free S = 3 then 5 else 0
def opnI (S : St) : Int := if free S = 3 then 0 else (free S : Int)
def opnS (S : St) : St := if free S = 3 then S else upd S (free S) (some [])
theorem pidx0 (x y z : Value) (w : World) : (Instr.index 55 (.agg #[x, y, z]) (.int .i64 0)).run Try.prog w = .ok x w := by kernel_rfl
theorem pidx1 (x y z : Value) (w : World) : (Instr.index 55 (.agg #[x, y, z]) (.int .i64 1)).run Try.prog w = .ok y w := by kernel_rfl
theorem pidx2 (x y z : Value) (w : World) : (Instr.index 55 (.agg #[x, y, z]) (.int .i64 2)).run Try.prog w = .ok z w := by kernel_rfl
theorem Ps.known {w : World} {base P : Nat} {A : Nat → Option Nat} {S : St} (h : Ps w base P A S) (i : Nat) (hi : i < 3) : (A i = none ∧ S i = none) ∨ (∃ b D, A i = some b ∧ S i = some D ∧ Pip w b D) := by
  cases hA : A i with
  | none => exact .inl ⟨rfl, h.non i hi hA⟩
  | some b =>
    obtain ⟨_, D, hS, hp⟩ := h.pip i b hi hA
    exact .inr ⟨b, D, rfl, hS, hp⟩
set_option maxRecDepth 100000 in
set_option maxHeartbeats 3200000 in
theorem open0 (w : World) (base P : Nat) (A : Nat → Option Nat) (S : St) (h : Ps w base P A S) (hk : A 0 = none) : Calls Try.prog 14 #[pq P] w fun e w' => e = .returned (.tuple #[i64 0, i64 0]) ∧ w' = (w.setCell ⟨P, 0, none⟩ (pq w.heap.size)).alloc (.cells (pc []) 68) := by
  have hz := zero68 w
  have hlt := h.lt
  obtain ⟨P0, hP0⟩ : ∃ v, v = pv (A 0) := ⟨_, rfl⟩
  obtain ⟨P1, hP1⟩ : ∃ v, v = pv (A 1) := ⟨_, rfl⟩
  obtain ⟨P2, hP2⟩ : ∃ v, v = pv (A 2) := ⟨_, rfl⟩
  have c0 : w.cell? ⟨P, 0, none⟩ = some P0 := by rw [hP0]; exact h.cell 0 (by omega)
  have c1 : w.cell? ⟨P, 1, none⟩ = some P1 := by rw [hP1]; exact h.cell 1 (by omega)
  have c2 : w.cell? ⟨P, 2, none⟩ = some P2 := by rw [hP2]; exact h.cell 2 (by omega)
  have HP0 : Hid (P0 = .pointer none) := by rw [hP0, hk]; rfl
  have fk : w.frozen? ⟨P, 0, none⟩ = false := blk_frozen h.blk 0
  clear h hP0 hP1 hP2 hk
  generalize pc [] = PC at *
  go_enter Try.func14, Try.ntmps14
  go_wp2_with fail
  go_loopw [4, 5, 12] (fun _ _ u wr => ∃ j : Nat, j ≤ 0 ∧ u = i64 j ∧ wr = w) (fun _ _ u _ => 3 - (intOf u).toNat)
  case atStart => exact ⟨0, by omega, rfl, rfl⟩
  case round =>
    obtain ⟨j, hj, rfl, hw⟩ := hrel
    subst hw
    obtain rfl : j = 0 := by omega
    · have ix : ∀ w, (Instr.index 55 (.agg #[P0, P1, P2]) (.int .i64 0)).run Try.prog w = .ok (.pointer none) w := fun w => (pidx0 P0 P1 P2 w).trans (by rw [HP0.out])
      go_wp2_with fail
      go_ret2
      exact ⟨rfl, rfl⟩
set_option maxRecDepth 100000 in
set_option maxHeartbeats 3200000 in
theorem open1 (w : World) (base P : Nat) (A : Nat → Option Nat) (S : St) (h : Ps w base P A S) (b0 : Nat) (h0 : A 0 = some b0) (hk : A 1 = none) : Calls Try.prog 14 #[pq P] w fun e w' => e = .returned (.tuple #[i64 1, i64 0]) ∧ w' = (w.setCell ⟨P, 1, none⟩ (pq w.heap.size)).alloc (.cells (pc []) 68) := by
  have hz := zero68 w
  have hlt := h.lt
  obtain ⟨P0, hP0⟩ : ∃ v, v = pv (A 0) := ⟨_, rfl⟩
  obtain ⟨P1, hP1⟩ : ∃ v, v = pv (A 1) := ⟨_, rfl⟩
  obtain ⟨P2, hP2⟩ : ∃ v, v = pv (A 2) := ⟨_, rfl⟩
  have c0 : w.cell? ⟨P, 0, none⟩ = some P0 := by rw [hP0]; exact h.cell 0 (by omega)
  have c1 : w.cell? ⟨P, 1, none⟩ = some P1 := by rw [hP1]; exact h.cell 1 (by omega)
  have c2 : w.cell? ⟨P, 2, none⟩ = some P2 := by rw [hP2]; exact h.cell 2 (by omega)
  have HP0 : Hid (P0 = pq b0) := by rw [hP0, h0]; rfl
  have HP1 : Hid (P1 = .pointer none) := by rw [hP1, hk]; rfl
  have fk : w.frozen? ⟨P, 1, none⟩ = false := blk_frozen h.blk 1
  clear h hP0 hP1 hP2 h0 hk
  generalize pc [] = PC at *
  go_enter Try.func14, Try.ntmps14
  go_wp2_with fail
  go_loopw [4, 5, 12] (fun _ _ u wr => ∃ j : Nat, j ≤ 1 ∧ u = i64 j ∧ wr = w) (fun _ _ u _ => 3 - (intOf u).toNat)
  case atStart => exact ⟨0, by omega, rfl, rfl⟩
  case round =>
    obtain ⟨j, hj, rfl, hw⟩ := hrel
    subst hw
    obtain rfl | rfl : j = 0 ∨ j = 1 := by omega
    · have ix : ∀ w, (Instr.index 55 (.agg #[P0, P1, P2]) (.int .i64 0)).run Try.prog w = .ok (pq b0) w := fun w => (pidx0 P0 P1 P2 w).trans (by rw [HP0.out])
      go_wp2_with fail
      exact ⟨⟨1, by omega, by go_num, by first | trivial | rfl⟩, by simp [intOf]⟩
    · have ix : ∀ w, (Instr.index 55 (.agg #[P0, P1, P2]) (.int .i64 1)).run Try.prog w = .ok (.pointer none) w := fun w => (pidx1 P0 P1 P2 w).trans (by rw [HP1.out])
      go_wp2_with fail
      go_ret2
      exact ⟨rfl, rfl⟩
set_option maxRecDepth 100000 in
set_option maxHeartbeats 3200000 in
theorem open2 (w : World) (base P : Nat) (A : Nat → Option Nat) (S : St) (h : Ps w base P A S) (b0 : Nat) (h0 : A 0 = some b0) (b1 : Nat) (h1 : A 1 = some b1) (hk : A 2 = none) : Calls Try.prog 14 #[pq P] w fun e w' => e = .returned (.tuple #[i64 2, i64 0]) ∧ w' = (w.setCell ⟨P, 2, none⟩ (pq w.heap.size)).alloc (.cells (pc []) 68) := by
  have hz := zero68 w
  have hlt := h.lt
  obtain ⟨P0, hP0⟩ : ∃ v, v = pv (A 0) := ⟨_, rfl⟩
  obtain ⟨P1, hP1⟩ : ∃ v, v = pv (A 1) := ⟨_, rfl⟩
  obtain ⟨P2, hP2⟩ : ∃ v, v = pv (A 2) := ⟨_, rfl⟩
  have c0 : w.cell? ⟨P, 0, none⟩ = some P0 := by rw [hP0]; exact h.cell 0 (by omega)
  have c1 : w.cell? ⟨P, 1, none⟩ = some P1 := by rw [hP1]; exact h.cell 1 (by omega)
  have c2 : w.cell? ⟨P, 2, none⟩ = some P2 := by rw [hP2]; exact h.cell 2 (by omega)
  have HP0 : Hid (P0 = pq b0) := by rw [hP0, h0]; rfl
  have HP1 : Hid (P1 = pq b1) := by rw [hP1, h1]; rfl
  have HP2 : Hid (P2 = .pointer none) := by rw [hP2, hk]; rfl
  have fk : w.frozen? ⟨P, 2, none⟩ = false := blk_frozen h.blk 2
  clear h hP0 hP1 hP2 h0 h1 hk
  generalize pc [] = PC at *
  go_enter Try.func14, Try.ntmps14
  go_wp2_with fail
  go_loopw [4, 5, 12] (fun _ _ u wr => ∃ j : Nat, j ≤ 2 ∧ u = i64 j ∧ wr = w) (fun _ _ u _ => 3 - (intOf u).toNat)
  case atStart => exact ⟨0, by omega, rfl, rfl⟩
  case round =>
    obtain ⟨j, hj, rfl, hw⟩ := hrel
    subst hw
    obtain rfl | rfl | rfl : j = 0 ∨ j = 1 ∨ j = 2 := by omega
    · have ix : ∀ w, (Instr.index 55 (.agg #[P0, P1, P2]) (.int .i64 0)).run Try.prog w = .ok (pq b0) w := fun w => (pidx0 P0 P1 P2 w).trans (by rw [HP0.out])
      go_wp2_with fail
      exact ⟨⟨1, by omega, by go_num, by first | trivial | rfl⟩, by simp [intOf]⟩
    · have ix : ∀ w, (Instr.index 55 (.agg #[P0, P1, P2]) (.int .i64 1)).run Try.prog w = .ok (pq b1) w := fun w => (pidx1 P0 P1 P2 w).trans (by rw [HP1.out])
      go_wp2_with fail
      exact ⟨⟨2, by omega, by go_num, by first | trivial | rfl⟩, by simp [intOf]⟩
    · have ix : ∀ w, (Instr.index 55 (.agg #[P0, P1, P2]) (.int .i64 2)).run Try.prog w = .ok (.pointer none) w := fun w => (pidx2 P0 P1 P2 w).trans (by rw [HP2.out])
      go_wp2_with fail
      go_ret2
      exact ⟨rfl, rfl⟩
set_option maxRecDepth 100000 in
set_option maxHeartbeats 3200000 in
theorem open3 (w : World) (base P : Nat) (A : Nat → Option Nat) (S : St) (h : Ps w base P A S) (b0 : Nat) (h0 : A 0 = some b0) (b1 : Nat) (h1 : A 1 = some b1) (b2 : Nat) (h2 : A 2 = some b2) : Calls Try.prog 14 #[pq P] w fun e w' => e = .returned (.tuple #[i64 0, i64 5]) ∧ w' = w := by
  have hz := zero68 w
  have hlt := h.lt
  obtain ⟨P0, hP0⟩ : ∃ v, v = pv (A 0) := ⟨_, rfl⟩
  obtain ⟨P1, hP1⟩ : ∃ v, v = pv (A 1) := ⟨_, rfl⟩
  obtain ⟨P2, hP2⟩ : ∃ v, v = pv (A 2) := ⟨_, rfl⟩
  have c0 : w.cell? ⟨P, 0, none⟩ = some P0 := by rw [hP0]; exact h.cell 0 (by omega)
  have c1 : w.cell? ⟨P, 1, none⟩ = some P1 := by rw [hP1]; exact h.cell 1 (by omega)
  have c2 : w.cell? ⟨P, 2, none⟩ = some P2 := by rw [hP2]; exact h.cell 2 (by omega)
  have HP0 : Hid (P0 = pq b0) := by rw [hP0, h0]; rfl
  have HP1 : Hid (P1 = pq b1) := by rw [hP1, h1]; rfl
  have HP2 : Hid (P2 = pq b2) := by rw [hP2, h2]; rfl
  clear h hP0 hP1 hP2 h0 h1 h2
  generalize pc [] = PC at *
  go_enter Try.func14, Try.ntmps14
  go_wp2_with fail
  go_loopw [4, 5, 12] (fun _ _ u wr => ∃ j : Nat, j ≤ 3 ∧ u = i64 j ∧ wr = w) (fun _ _ u _ => 3 - (intOf u).toNat)
  case atStart => exact ⟨0, by omega, rfl, rfl⟩
  case round =>
    obtain ⟨j, hj, rfl, hw⟩ := hrel
    subst hw
    obtain rfl | rfl | rfl | rfl : j = 0 ∨ j = 1 ∨ j = 2 ∨ j = 3 := by omega
    · have ix : ∀ w, (Instr.index 55 (.agg #[P0, P1, P2]) (.int .i64 0)).run Try.prog w = .ok (pq b0) w := fun w => (pidx0 P0 P1 P2 w).trans (by rw [HP0.out])
      go_wp2_with fail
      exact ⟨⟨1, by omega, by go_num, by first | trivial | rfl⟩, by simp [intOf]⟩
    · have ix : ∀ w, (Instr.index 55 (.agg #[P0, P1, P2]) (.int .i64 1)).run Try.prog w = .ok (pq b1) w := fun w => (pidx1 P0 P1 P2 w).trans (by rw [HP1.out])
      go_wp2_with fail
      exact ⟨⟨2, by omega, by go_num, by first | trivial | rfl⟩, by simp [intOf]⟩
    · have ix : ∀ w, (Instr.index 55 (.agg #[P0, P1, P2]) (.int .i64 2)).run Try.prog w = .ok (pq b2) w := fun w => (pidx2 P0 P1 P2 w).trans (by rw [HP2.out])
      go_wp2_with fail
      exact ⟨⟨3, by omega, by go_num, by first | trivial | rfl⟩, by simp [intOf]⟩
    · go_wp2_with fail
      go_ret2
      exact ⟨rfl, rfl⟩
theorem set_alloc (w : World) (p : Addr) (v : Value) (o : Obj) (h : p.block < w.heap.size) : (w.setCell p v).alloc o = (w.alloc o).setCell p v := by
  unfold World.setCell World.alloc
  congr 1
  apply Array.ext
  · simp
  · intro i h1 h2
    by_cases hi : i = w.heap.size
    · subst hi
      simp [Array.getElem_push, Array.getElem_modify]
      intro e
      omega
    · simp only [Array.size_push, Array.size_modify] at h1
      simp [Array.getElem_push, Array.getElem_modify, show i < w.heap.size by omega]
theorem open_ok (w : World) (base P : Nat) (S : St) (h : PS w base P S) : Calls Try.prog 14 #[pq P] w fun e w' => e = .returned (.tuple #[i64 (opnI S), i64 (opnE S)]) ∧ PS w' base P (opnS S) ∧ Fr base [57, 68] w w' := by
  obtain ⟨A, h⟩ := h
  have hl := h.lt
  unfold opnI opnE opnS
  rcases h.known 0 (by omega) with ⟨h0, s0⟩ | ⟨b0, D0, h0, s0, -⟩
  · have hf : free S = 0 := by unfold free; rw [if_pos s0]
    rw [hf, if_neg (by decide), if_neg (by decide), if_neg (by decide)]
    refine (open0 w base P A S h h0).mono ?_
    rintro e w' ⟨rfl, rfl⟩
    rw [set_alloc _ _ _ _ hl]
    exact ⟨rfl, h.add (by omega)⟩
  rcases h.known 1 (by omega) with ⟨h1, s1⟩ | ⟨b1, D1, h1, s1, -⟩
  · have hf : free S = 1 := by unfold free; rw [if_neg (by rw [s0]; simp), if_pos s1]
    rw [hf, if_neg (by decide), if_neg (by decide), if_neg (by decide)]
    refine (open1 w base P A S h b0 h0 h1).mono ?_
    rintro e w' ⟨rfl, rfl⟩
    rw [set_alloc _ _ _ _ hl]
    exact ⟨rfl, h.add (by omega)⟩
  rcases h.known 2 (by omega) with ⟨h2, s2⟩ | ⟨b2, D2, h2, s2, -⟩
  · have hf : free S = 2 := by unfold free; rw [if_neg (by rw [s0]; simp), if_neg (by rw [s1]; simp), if_pos s2]
    rw [hf, if_neg (by decide), if_neg (by decide), if_neg (by decide)]
    refine (open2 w base P A S h b0 h0 b1 h1 h2).mono ?_
    rintro e w' ⟨rfl, rfl⟩
    rw [set_alloc _ _ _ _ hl]
    exact ⟨rfl, h.add (by omega)⟩
  have hf : free S = 3 := by unfold free; rw [if_neg (by rw [s0]; simp), if_neg (by rw [s1]; simp), if_neg (by rw [s2]; simp)]
  rw [hf, if_pos rfl, if_pos rfl, if_pos rfl]
  refine (open3 w base P A S h b0 h0 b1 h1 b2 h2).mono ?_
  rintro e w' ⟨rfl, rfl⟩
  exact ⟨rfl, ⟨A, h⟩, Fr.refl _ _ _⟩
end Go.Proofs.Ytojhmiggocommaa
