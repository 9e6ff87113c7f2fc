/- A table in memory; New, isProc, isSlot, at; no statement is proved in this text. -/
import Derived.Test.YtaapiffglfppnaaApp
namespace Go.Proofs.Ytaapiffglfppnaa
open Go.ChangeShapes Go.WideShapes Go.ChangeAt Go.RowKit Go.Deep
attribute [local go_sem ↓] Go.wp_at_zero Go.wp_at_succ

abbrev Op4 := Int × Int × Int × Int
abbrev ov (x : Op4) : Value := .agg #[i64 x.1, i64 x.2.1, i64 x.2.2.1, i64 x.2.2.2]
abbrev oO (x : Op4) (t : TypeId) : Obj := .cells #[i64 x.1, i64 x.2.1, i64 x.2.2.1, i64 x.2.2.2] t
abbrev Sl3 := Int × Int × Int
abbrev lv (x : Sl3) : Value := .agg #[i64 x.1, i64 x.2.1, i64 x.2.2]
abbrev lO (x : Sl3) (t : TypeId) : Obj := .cells #[i64 x.1, i64 x.2.1, i64 x.2.2] t
def pv : Option Nat → Value
  | none => .pointer none
  | some a => pq a
abbrev Tab := Nat → Nat → Option Nat
def pcs (A : Tab) : List Value := (List.range 36).map fun i => pv (A (i / 6) (i % 6))
theorem pcs_len (A : Tab) : (pcs A).length = 36 := by simp [pcs]
theorem pcs_get (A : Tab) (i : Nat) (h : i < 36) : (pcs A)[i]? = some (pv (A (i / 6) (i % 6))) := by simp [pcs, h]
theorem pcs_of {l : List Value} {A : Tab} (hl : l.length = 36) (h : ∀ i, i < 36 → l[i]? = some (pv (A (i / 6) (i % 6)))) : l = pcs A := by
  apply List.ext_getElem?
  intro i
  by_cases hi : i < 36
  · rw [h i hi, pcs_get A i hi]
  · rw [List.getElem?_eq_none (by omega), List.getElem?_eq_none (by rw [pcs_len]; omega)]
/-- A table: which object each slot names, and what the objects hold. -/
structure Tg (w : World) (t : Nat) (A : Tab) (V : Nat → Op4) : Prop where
  blk : w.heap[t]? = some (.cells (pcs A).toArray 75)
  obj : ∀ r g a, r < 6 → g < 6 → A r g = some a → t < a ∧ w.heap[a]? = some (oO (V a) 54)
theorem Tg.lt {w : World} {t : Nat} {A : Tab} {V : Nat → Op4} (h : Tg w t A V) : t < w.heap.size := blk_lt h.blk
theorem Tg.below {w w' : World} {t : Nat} {A : Tab} {V : Nat → Op4} (h : Tg w t A V) (hb : Below w.heap.size w w') : Tg w' t A V := ⟨blk_below h.blk hb, fun r g a hr hg ha => ⟨(h.obj r g a hr hg ha).1, blk_below (h.obj r g a hr hg ha).2 hb⟩⟩
theorem Tg.alloc {w : World} {t : Nat} {A : Tab} {V : Nat → Op4} (h : Tg w t A V) (o : Obj) : Tg (w.alloc o) t A V := h.below (below_one w o)
theorem Tg.drew {w : World} {t : Nat} {A : Tab} {V : Nat → Op4} (h : Tg w t A V) : Tg w.drew t A V := ⟨h.blk, h.obj⟩
theorem Tg.cell {w : World} {t : Nat} {A : Tab} {V : Nat → Op4} (h : Tg w t A V) (r g : Nat) (hr : r < 6) (hg : g < 6) : w.cell? ⟨t, r * 6 + g, none⟩ = some (pv (A r g)) := by
  rw [blk_cell h.blk, List.getElem?_toArray, pcs_get A _ (by omega), show (r * 6 + g) / 6 = r by omega, show (r * 6 + g) % 6 = g by omega]
theorem Tg.frz {w : World} {t : Nat} {A : Tab} {V : Nat → Op4} (h : Tg w t A V) (j : Nat) : w.frozen? ⟨t, j, none⟩ = false := blk_frozen h.blk j
def upd (A : Tab) (r g : Nat) (x : Option Nat) : Tab := fun r' g' => if r' = r ∧ g' = g then x else A r' g'
theorem Tg.set {w : World} {t : Nat} {A : Tab} {V : Nat → Op4} (h : Tg w t A V) (r g : Nat) (_ : r < 6) (hg : g < 6) (x : Option Nat) (hx : ∀ a, x = some a → t < a ∧ w.heap[a]? = some (oO (V a) 54)) : Tg (w.setCell ⟨t, r * 6 + g, none⟩ (pv x)) t (upd A r g x) V := by
  have h1 := heap_setCell_same w t (r * 6 + g) _ 75 (pv x) h.blk
  constructor
  · rw [h1]
    congr 2
    apply Array.toList_inj.1
    refine pcs_of (by simp [pcs_len]) fun i hi => ?_
    simp only [Array.toList_setIfInBounds, List.getElem?_set, pcs_len]
    by_cases h0 : r * 6 + g = i
    · subst h0
      rw [if_pos rfl, if_pos (by omega), show (r * 6 + g) / 6 = r by omega, show (r * 6 + g) % 6 = g by omega]
      simp [upd]
    · rw [if_neg h0, pcs_get A i hi]
      have hne : ¬(i / 6 = r ∧ i % 6 = g) := by omega
      simp only [upd, hne, if_false]
  · intro r' g' a hr' hg' ha
    have key : t < a ∧ w.heap[a]? = some (oO (V a) 54) := by
      unfold upd at ha
      split at ha
      · exact hx a ha
      · exact h.obj r' g' a hr' hg' ha
    refine ⟨key.1, ?_⟩
    rw [Below.heap_setCell _ _ _ _ (by show a ≠ t; have := key.1; omega)]
    exact key.2
theorem zero75 (w : World) : (zeroValue 75).run Try.prog w = .ok (.agg (pcs fun _ _ => none).toArray) w := by kernel_rfl
theorem pcs_size (A : Tab) : (pcs A).toArray.size = 36 := by simp [pcs_len]
def A0 : Tab := fun _ _ => none
set_option maxRecDepth 100000 in
set_option maxHeartbeats 3200000 in
theorem new_ok (w : World) (V : Nat → Op4) : Calls Try.prog 8 #[] w fun e w' => e = .returned (pq w.heap.size) ∧ Tg w' w.heap.size A0 V ∧ Below w.heap.size w w' := by
  have hz := zero75 w
  have hs := pcs_size fun _ _ => none
  have HP : Hid (Tg (w.alloc (.cells (pcs fun _ _ => none).toArray 75)) w.heap.size A0 V) := ⟨heap_last w _, fun r g a _ _ ha => by cases ha⟩
  have HB := hid (below_one w (.cells (pcs fun _ _ => none).toArray 75))
  generalize (pcs fun _ _ => none).toArray = Z at hz hs HP HB
  go_enter Try.func8, Try.ntmps8
  go_wp2_with fail
  go_ret
  exact ⟨rfl, HP.out, HB.out⟩
set_option maxRecDepth 100000 in
theorem proc_ok (w : World) (p : Int) : Calls Try.prog 47 #[i64 p] w fun e w' => e = .returned (.bool (decide (1 ≤ p ∧ p ≤ 6))) ∧ w' = w := by
  by_cases h1 : 1 ≤ p
  · by_cases h2 : p ≤ 6
    · rw [decide_eq_true (show 1 ≤ p ∧ p ≤ 6 from ⟨h1, h2⟩)]
      go_enter Try.func47, Try.ntmps47
      go_wp2_with fail
      go_ret
      exact ⟨rfl, rfl⟩
    · rw [decide_eq_false (show ¬ (1 ≤ p ∧ p ≤ 6) by omega)]
      go_enter Try.func47, Try.ntmps47
      go_wp2_with fail
      go_ret
      exact ⟨rfl, rfl⟩
  · rw [decide_eq_false (show ¬ (1 ≤ p ∧ p ≤ 6) by omega)]
    go_enter Try.func47, Try.ntmps47
    go_wp2_with fail
    go_ret
    exact ⟨rfl, rfl⟩
set_option maxRecDepth 100000 in
theorem slot_ok (w : World) (p : Int) : Calls Try.prog 48 #[i64 p] w fun e w' => e = .returned (.bool (decide (0 ≤ p ∧ p < 6))) ∧ w' = w := by
  by_cases h1 : 0 ≤ p
  · by_cases h2 : p < 6
    · rw [decide_eq_true (show 0 ≤ p ∧ p < 6 from ⟨h1, h2⟩)]
      go_enter Try.func48, Try.ntmps48
      go_wp2_with fail
      go_ret
      exact ⟨rfl, rfl⟩
    · rw [decide_eq_false (show ¬ (0 ≤ p ∧ p < 6) by omega)]
      go_enter Try.func48, Try.ntmps48
      go_wp2_with fail
      go_ret
      exact ⟨rfl, rfl⟩
  · rw [decide_eq_false (show ¬ (0 ≤ p ∧ p < 6) by omega)]
    go_enter Try.func48, Try.ntmps48
    go_wp2_with fail
    go_ret
    exact ⟨rfl, rfl⟩
/-- The object that a slot names. -/
def atA (A : Tab) (p s : Int) : Option Nat := if (1 ≤ p ∧ p ≤ 6) ∧ 0 ≤ s ∧ s < 6 then A (p - 1).toNat s.toNat else none
theorem atA_in (A : Tab) (r g : Nat) (hr : r < 6) (hg : g < 6) : atA A ((r : Int) + 1) g = A r g := by
  unfold atA
  rw [if_pos (by omega), show ((r : Int) + 1 - 1).toNat = r by omega, show (g : Int).toNat = g by omega]
theorem atA_out (A : Tab) (p s : Int) (h : ¬((1 ≤ p ∧ p ≤ 6) ∧ 0 ≤ s ∧ s < 6)) : atA A p s = none := by
  unfold atA
  rw [if_neg h]
theorem atA_some {A : Tab} {p s : Int} {a : Nat} (h : atA A p s = some a) : ∃ r g : Nat, p = (r : Int) + 1 ∧ s = g ∧ r < 6 ∧ g < 6 ∧ A r g = some a := by
  unfold atA at h
  split at h
  · rename_i hh
    exact ⟨(p - 1).toNat, s.toNat, by omega, by omega, by omega, by omega, h⟩
  · cases h
/-- A table or none. -/
def Tv (w : World) (v : Value) (A : Tab) (V : Nat → Op4) : Prop := (v = .pointer none ∧ A = A0) ∨ ∃ t, v = pq t ∧ Tg w t A V
theorem Tv.below {w w' : World} {v : Value} {A : Tab} {V : Nat → Op4} (h : Tv w v A V) (hb : Below w.heap.size w w') : Tv w' v A V := by
  rcases h with h | ⟨t, h1, h2⟩
  · exact .inl h
  · exact .inr ⟨t, h1, h2.below hb⟩
theorem Tg.tv {w : World} {t : Nat} {A : Tab} {V : Nat → Op4} (h : Tg w t A V) : Tv w (pq t) A V := .inr ⟨t, rfl, h⟩
theorem tv_nil (w : World) (V : Nat → Op4) : Tv w (.pointer none) A0 V := .inl ⟨rfl, rfl⟩
theorem Tv.obj {w : World} {v : Value} {A : Tab} {V : Nat → Op4} (h : Tv w v A V) {p s : Int} {a : Nat} (ha : atA A p s = some a) : w.heap[a]? = some (oO (V a) 54) := by
  obtain ⟨r, g, _, _, hr, hg, hA⟩ := atA_some ha
  rcases h with ⟨_, rfl⟩ | ⟨t, _, h2⟩
  · cases hA
  · exact (h2.obj r g a hr hg hA).2
set_option maxRecDepth 100000 in
set_option maxHeartbeats 1600000 in
theorem at_ok (w : World) (v : Value) (A : Tab) (V : Nat → Op4) (p s : Int) (h : Tv w v A V) : Calls Try.prog 39 #[v, i64 p, i64 s] w fun e w' => e = .returned (pv (atA A p s)) ∧ w' = w := by
  have HP := hid (proc_ok w p)
  have HS := hid (slot_ok w s)
  rcases h with ⟨rfl, rfl⟩ | ⟨t, rfl, h⟩
  · have e : atA A0 p s = none := by unfold atA A0; split <;> rfl
    rw [e]
    clear HP HS e
    go_enter Try.func39, Try.ntmps39
    go_wp2_with fail
    go_ret
    exact ⟨rfl, rfl⟩
  · by_cases hp : 1 ≤ p ∧ p ≤ 6
    · rw [decide_eq_true hp] at HP
      by_cases hs : 0 ≤ s ∧ s < 6
      · rw [decide_eq_true hs] at HS
        obtain ⟨r, rfl⟩ : ∃ r : Nat, p = (r : Int) + 1 := ⟨(p - 1).toNat, by omega⟩
        obtain ⟨k, rfl⟩ : ∃ k : Nat, s = (k : Int) := ⟨s.toNat, by omega⟩
        have hr6 : r < 6 := by omega
        have hk6 : k < 6 := by omega
        rw [atA_in A r k hr6 hk6]
        have c1 := h.cell r k hr6 hk6
        have ht := h.lt
        generalize pv (A r k) = y at *
        clear h hp hs
        go_enter Try.func39, Try.ntmps39
        go_wp2_with fail
        refine HP.out.mono ?_
        rintro e2 w2 ⟨rfl, hv⟩
        replace hv := hv.symm
        subst hv
        go_wp2_with fail
        refine HS.out.mono ?_
        rintro e2 w2 ⟨rfl, hv⟩
        replace hv := hv.symm
        subst hv
        clear HP HS
        go_wp2_with fail
        go_ret
        exact ⟨rfl, rfl⟩
      · rw [decide_eq_false hs] at HS
        rw [atA_out A p s (fun h => hs h.2)]
        clear h hp hs
        go_enter Try.func39, Try.ntmps39
        go_wp2_with fail
        refine HP.out.mono ?_
        rintro e2 w2 ⟨rfl, hv⟩
        replace hv := hv.symm
        subst hv
        go_wp2_with fail
        refine HS.out.mono ?_
        rintro e2 w2 ⟨rfl, hv⟩
        replace hv := hv.symm
        subst hv
        clear HP HS
        go_wp2_with fail
        go_ret
        exact ⟨rfl, rfl⟩
    · rw [decide_eq_false hp] at HP
      rw [atA_out A p s (fun h => hp h.1)]
      clear h hp
      go_enter Try.func39, Try.ntmps39
      go_wp2_with fail
      refine HP.out.mono ?_
      rintro e2 w2 ⟨rfl, hv⟩
      replace hv := hv.symm
      subst hv
      clear HP HS
      go_wp2_with fail
      go_ret
      exact ⟨rfl, rfl⟩
end Go.Proofs.Ytaapiffglfppnaa
