/- Index of a row, stand, Dup, Fork; no statement is proved in this text. -/
import Derived.Test.YtaapiffglfppnaaEb
namespace Go.Proofs.Ytaapiffglfppnaa
open Go.ChangeShapes Go.WideShapes Go.ChangeAt Go.RowKit Go.Deep
attribute [local go_sem ↓] Go.wp_at_zero Go.wp_at_succ

/-- The first free slot of a row. -/
def Fst (A : Tab) (r g : Nat) : Prop := g < 6 ∧ A r g = none ∧ ∀ j, j < g → A r j ≠ none
theorem fst_dec (A : Tab) (r : Nat) : (∃ g, Fst A r g) ∨ ∀ j, j < 6 → A r j ≠ none := by
  have key : ∀ k, k ≤ 6 → (∃ g, Fst A r g) ∨ ∀ j, j < k → A r j ≠ none := by
    intro k
    induction k with
    | zero => intro _; exact .inr fun j hj => by omega
    | succ k ih =>
      intro hk
      rcases ih (by omega) with h | h
      · exact .inl h
      · cases ha : A r k with
        | none => exact .inl ⟨k, by omega, ha, h⟩
        | some a =>
          refine .inr fun j hj => ?_
          by_cases e : j = k
          · subst e; rw [ha]; simp
          · exact h j (by omega)
  exact key 6 (Nat.le_refl _)
theorem row_run (W : World) (t r : Nat) : (Instr.sliceAt 72 (.pointer (some ⟨t, r * 6, none⟩)) none none none).run Try.prog W = .ok (.slice (some ⟨t, r * 6, none⟩) 6 6) W := by
  have hs : ∀ w, (Go.sizeOf 70).run Try.prog w = .ok 1 w := fun w => by kernel_rfl
  simp only [Instr.sliceAt, run_underlying Try.underlying72, Instr.sureAddr, Instr.sliceBounds, Sem.run_bind, Sem.run_pure, Result.andThen_ok, hs]
  rfl
theorem eqnp (w : World) (a : Nat) : (binOp .eql 70 (.pointer none) (pq a)).run Try.prog w = .ok (.bool false) w := by kernel_rfl
set_option maxRecDepth 100000 in
set_option maxHeartbeats 1600000 in
theorem index_yes (w : World) (t : Nat) (A : Tab) (V : Nat → Op4) (r g : Nat) (h : Tg w t A V) (hr : r < 6) (hF : Fst A r g) : Calls Try.prog 70 #[.slice (some ⟨t, r * 6, none⟩) 6 6, .pointer none] w fun e w' => e = .returned (i64 g) ∧ w' = w := by
  have HC := hid fun k (hk : k < 6) => h.cell r k hr hk
  obtain ⟨hg, hn, hj⟩ := hF
  have HN := hid hn
  have HJ := hid hj
  have ht := h.lt
  clear h hn hj
  go_enter Try.func70, Try.ntmps70
  go_wp2_with fail
  go_loopw [8] (fun i wr => ∃ k : Nat, k ≤ g ∧ i = i64 k ∧ wr = w) (fun i _ => 6 - (intOf i).toNat)
  case atStart => exact ⟨0, by omega, rfl, rfl⟩
  case round =>
    obtain ⟨k, hk, rfl, hwr⟩ := hrel
    replace hwr := hwr.symm
    subst hwr
    have hkI : (k : Int) < 6 := by omega
    have c1 := HC.out k (by omega)
    by_cases hlt : k < g
    · obtain ⟨a, ha⟩ : ∃ a, A r k = some a := by
        cases hh : A r k with
        | none => exact absurd hh (HJ.out k hlt)
        | some a => exact ⟨a, rfl⟩
      rw [ha] at c1
      simp only [pv] at c1
      have hq : ∀ W, (binOp .eql 70 (.pointer none) (pq a)).run Try.prog W = .ok (.bool false) W := fun W => eqnp W a
      clear ha
      go_wp2_with fail
      exact ⟨⟨k + 1, by omega, by go_num, by first | rfl | trivial⟩, by simp [intOf]; omega⟩
    · obtain rfl : k = g := by omega
      rw [HN.out] at c1
      simp only [pv] at c1
      go_wp2_with fail
      go_ret
      exact ⟨rfl, rfl⟩
set_option maxRecDepth 100000 in
set_option maxHeartbeats 1600000 in
theorem index_no (w : World) (t : Nat) (A : Tab) (V : Nat → Op4) (r : Nat) (h : Tg w t A V) (hr : r < 6) (hj : ∀ j, j < 6 → A r j ≠ none) : Calls Try.prog 70 #[.slice (some ⟨t, r * 6, none⟩) 6 6, .pointer none] w fun e w' => e = .returned (i64 (-1)) ∧ w' = w := by
  have HC := hid fun k (hk : k < 6) => h.cell r k hr hk
  have HJ := hid hj
  have ht := h.lt
  clear h hj
  go_enter Try.func70, Try.ntmps70
  go_wp2_with fail
  go_loopw [8] (fun i wr => ∃ k : Nat, k ≤ 6 ∧ i = i64 k ∧ wr = w) (fun i _ => 6 - (intOf i).toNat)
  case atStart => exact ⟨0, by omega, rfl, rfl⟩
  case round =>
    obtain ⟨k, hk, rfl, hwr⟩ := hrel
    replace hwr := hwr.symm
    subst hwr
    by_cases hlt : k < 6
    · have hkI : (k : Int) < 6 := by omega
      have c1 := HC.out k (by omega)
      obtain ⟨a, ha⟩ : ∃ a, A r k = some a := by
        cases hh : A r k with
        | none => exact absurd hh (HJ.out k hlt)
        | some a => exact ⟨a, rfl⟩
      rw [ha] at c1
      simp only [pv] at c1
      have hq : ∀ W, (binOp .eql 70 (.pointer none) (pq a)).run Try.prog W = .ok (.bool false) W := fun W => eqnp W a
      clear ha
      go_wp2_with fail
      exact ⟨⟨k + 1, by omega, by go_num, by first | rfl | trivial⟩, by simp [intOf]; omega⟩
    · have hkI : ¬ (k : Int) < 6 := by omega
      go_wp2_with fail
      go_ret
      exact ⟨rfl, rfl⟩
set_option maxRecDepth 100000 in
set_option maxHeartbeats 1600000 in
theorem stand_yes (w : World) (t : Nat) (A : Tab) (V : Nat → Op4) (r g o : Nat) (h : Tg w t A V) (hr : r < 6) (hF : Fst A r g) (ho : t < o ∧ w.heap[o]? = some (oO (V o) 54)) : Calls Try.prog 55 #[pq t, i64 ((r : Int) + 1), pq o] w fun e w' => e = .returned (.tuple #[i64 g, i64 0]) ∧ Tg w' t (upd A r g (some o)) V ∧ Touch t w w' := by
  have HI := hid (index_yes w t A V r g h hr hF)
  have hg := hF.1
  have HT : Hid (Tg (w.setCell ⟨t, r * 6 + g, none⟩ (pq o)) t (upd A r g (some o)) V) := h.set r g hr hg (some o) (fun b hb => by cases hb; exact ho)
  have HO : Hid (Touch t w (w.setCell ⟨t, r * 6 + g, none⟩ (pq o))) := (Touch.refl t w).setCell rfl _
  have c1 := h.cell r g hr hg
  have cf := h.frz (r * 6 + g)
  generalize pv (A r g) = y at c1
  have ht := h.lt
  have hp : ∀ W, (Instr.sliceAt 72 (.pointer (some ⟨t, r * 6, none⟩)) none none none).run Try.prog W = .ok (.slice (some ⟨t, r * 6, none⟩) 6 6) W := fun W => row_run W t r
  have hg0 : (0 : Int) ≤ g := by omega
  clear h hF ho
  go_enter Try.func55, Try.ntmps55
  go_wp2_with fail
  refine HI.out.mono ?_
  rintro e w2 ⟨rfl, hv⟩
  replace hv := hv.symm
  subst hv
  clear HI
  go_wp2_with fail
  go_ret2
  exact ⟨rfl, HT.out, HO.out⟩
set_option maxRecDepth 100000 in
set_option maxHeartbeats 1600000 in
theorem stand_no (w : World) (t : Nat) (A : Tab) (V : Nat → Op4) (r o : Nat) (h : Tg w t A V) (hr : r < 6) (hj : ∀ j, j < 6 → A r j ≠ none) : Calls Try.prog 55 #[pq t, i64 ((r : Int) + 1), pq o] w fun e w' => e = .returned (.tuple #[i64 0, i64 5]) ∧ w' = w := by
  have HI := hid (index_no w t A V r h hr hj)
  have ht := h.lt
  have hp : ∀ W, (Instr.sliceAt 72 (.pointer (some ⟨t, r * 6, none⟩)) none none none).run Try.prog W = .ok (.slice (some ⟨t, r * 6, none⟩) 6 6) W := fun W => row_run W t r
  clear h hj
  go_enter Try.func55, Try.ntmps55
  go_wp2_with fail
  refine HI.out.mono ?_
  rintro e w2 ⟨rfl, hv⟩
  replace hv := hv.symm
  subst hv
  clear HI
  go_wp2_with fail
  go_ret2
  exact ⟨rfl, rfl⟩
set_option maxRecDepth 100000 in
set_option maxHeartbeats 800000 in
theorem dup_none (w : World) (v : Value) (A : Tab) (V : Nat → Op4) (p s : Int) (h : Tv w v A V) (ha : atA A p s = none) : Calls Try.prog 25 #[v, i64 p, i64 s] w fun e w' => e = .returned (.tuple #[i64 0, i64 6]) ∧ w' = w := by
  have HC := hid (at_ok w v A V p s h)
  rw [ha] at HC
  clear h ha
  go_enter Try.func25, Try.ntmps25
  go_wp2_with fail
  refine HC.out.mono ?_
  rintro e w2 ⟨rfl, hv⟩
  replace hv := hv.symm
  subst hv
  clear HC
  simp only [pv]
  go_wp2_with fail
  go_ret2
  exact ⟨rfl, rfl⟩
set_option maxRecDepth 100000 in
set_option maxHeartbeats 800000 in
theorem dup_some (w : World) (t : Nat) (A : Tab) (V : Nat → Op4) (r g a : Nat) (x y : Int) (Q : World → Prop) (h : Tg w t A V) (hr : r < 6) (hg : g < 6) (ha : A r g = some a) (hs : Calls Try.prog 55 #[pq t, i64 ((r : Int) + 1), pq a] w fun e w' => e = .returned (.tuple #[i64 x, i64 y]) ∧ Q w') : Calls Try.prog 25 #[pq t, i64 ((r : Int) + 1), i64 g] w fun e w' => e = .returned (.tuple #[i64 x, i64 y]) ∧ Q w' := by
  have HC := hid (at_ok w (pq t) A V ((r : Int) + 1) g h.tv)
  rw [atA_in A r g hr hg, ha] at HC
  have HS := hid hs
  clear h ha hs
  go_enter Try.func25, Try.ntmps25
  go_wp2_with fail
  refine HC.out.mono ?_
  rintro e w2 ⟨rfl, hv⟩
  replace hv := hv.symm
  subst hv
  clear HC
  simp only [pv]
  go_wp2_with fail
  refine HS.out.mono ?_
  rintro e w2 ⟨rfl, hq⟩
  have HQ := hid hq
  clear hq HS
  go_wp2_with fail
  go_ret2
  exact ⟨rfl, HQ.out⟩
end Go.Proofs.Ytaapiffglfppnaa
