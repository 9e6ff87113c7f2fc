/- Drop, Dup2, Seek, stand, Dup; no statement is proved in this text. -/
import Derived.Test.YtaapiffglfppnaaEa
namespace Go.Proofs.Ytaapiffglfppnaa
open Go.ChangeShapes Go.WideShapes Go.ChangeAt Go.RowKit Go.Deep
attribute [local go_sem ↓] Go.wp_at_zero Go.wp_at_succ

/-- A table whose process p has lost its first k slots. -/
def drK (A : Tab) (p : Int) (k : Nat) : Tab := fun r g => if (r : Int) + 1 = p ∧ g < k then none else A r g
def drN (A : Tab) (p : Int) : Nat → Nat
  | 0 => 0
  | k + 1 => drN A p k + if (atA A p k).isSome then 1 else 0
theorem drN_le (A : Tab) (p : Int) : ∀ k, drN A p k ≤ k
  | 0 => Nat.le_refl _
  | k + 1 => by
    have := drN_le A p k
    unfold drN
    split <;> omega
theorem drK_at (A : Tab) (p : Int) (k : Nat) : atA (drK A p k) p k = atA A p k := by
  unfold atA
  split
  · unfold drK
    rw [if_neg (by omega)]
  · rfl
set_option maxRecDepth 100000 in
set_option maxHeartbeats 1600000 in
theorem drop_nil (w : World) (p : Int) (V : Nat → Op4) : Calls Try.prog 22 #[.pointer none, i64 p] w fun e w' => e = .returned (i64 0) ∧ w' = w := by
  have HC := hid fun (s : Int) => close_none w (.pointer none) A0 V p s (tv_nil w V) (by unfold atA A0; split <;> rfl)
  go_enter Try.func22, Try.ntmps22
  go_wp2_with fail
  go_loopw [5, 7] (fun n i wr => ∃ k : Nat, k ≤ 6 ∧ i = i64 k ∧ n = i64 0 ∧ wr = w) (fun _ i _ => 6 - (intOf i).toNat)
  case atStart => exact ⟨0, by omega, rfl, rfl, rfl⟩
  case round =>
    obtain ⟨k, hk, rfl, rfl, hwr⟩ := hrel
    replace hwr := hwr.symm
    subst hwr
    by_cases hlt : k < 6
    · have hkI : (k : Int) < 6 := by omega
      go_wp2_with fail
      refine (HC.out k).mono ?_
      rintro e w2 ⟨rfl, hv⟩
      replace hv := hv.symm
      subst hv
      go_wp2_with fail
      exact ⟨⟨k + 1, by omega, by go_num, by first | rfl | trivial, by first | rfl | trivial⟩, by simp [intOf]; omega⟩
    · have hkI : ¬ (k : Int) < 6 := by omega
      go_wp2_with fail
      go_ret
      first | exact ⟨rfl, rfl⟩ | exact ⟨rfl, trivial⟩
set_option maxRecDepth 100000 in
set_option maxHeartbeats 1600000 in
theorem drop_ok (w : World) (t : Nat) (A : Tab) (V : Nat → Op4) (p : Int) (h : Tg w t A V) : Calls Try.prog 22 #[pq t, i64 p] w fun e w' => e = .returned (i64 (drN A p 6)) ∧ Tg w' t (drK A p 6) V ∧ Touch t w w' := by
  have HT0 : Hid (Tg w t (drK A p 0) V) := h.ext fun r g _ _ => by unfold drK; rw [if_neg (by omega)]
  obtain ⟨M, hM⟩ : ∃ M, M = drN A p 6 := ⟨_, rfl⟩
  have HMM := hid hM
  rw [← hM]
  clear h hM
  go_enter Try.func22, Try.ntmps22
  go_wp2_with fail
  go_loopw [5, 7] (fun n i wr => ∃ k : Nat, k ≤ 6 ∧ i = i64 k ∧ n = i64 (drN A p k) ∧ Hid (Tg wr t (drK A p k) V) ∧ Hid (Touch t w wr)) (fun _ i _ => 6 - (intOf i).toNat)
  case atStart => exact ⟨0, by omega, rfl, rfl, HT0, Touch.refl _ _⟩
  case round =>
    obtain ⟨k, hk, rfl, rfl, HT, HO⟩ := hrel
    have hn := drN_le A p k
    by_cases hlt : k < 6
    · have hkI : (k : Int) < 6 := by omega
      cases ha : atA A p k with
      | none =>
        have HC := hid (close_none wr (pq t) (drK A p k) V p k HT.out.tv (by rw [drK_at]; exact ha))
        have HN : Hid (drN A p (k + 1) = drN A p k) := by show drN A p k + _ = _; rw [ha]; rfl
        have HT2 : Hid (Tg wr t (drK A p (k + 1)) V) := HT.out.ext fun r g hr hg => by
          unfold drK
          by_cases hh : (r : Int) + 1 = p ∧ g = k
          · obtain ⟨rfl, rfl⟩ := hh
            rw [atA_in A r g hr hg] at ha
            rw [if_neg (by omega), if_pos (by omega), ha]
          · by_cases h2 : (r : Int) + 1 = p ∧ g < k
            · rw [if_pos h2, if_pos (by omega)]
            · rw [if_neg h2, if_neg (by omega)]
        clear ha
        generalize drN A p k = m at *
        go_wp2_with fail
        refine HC.out.mono ?_
        rintro e w2 ⟨rfl, hv⟩
        replace hv := hv.symm
        subst hv
        clear HC
        go_wp2_with fail
        exact ⟨⟨k + 1, by omega, by go_num, by rw [HN.out], HT2, HO⟩, by simp [intOf]; omega⟩
      | some a =>
        obtain ⟨r, g, hp, hg, hr6, hg6, hA⟩ := atA_some ha
        have hgk : g = k := by omega
        subst hgk
        subst hp
        have HC := hid (close_some wr t (drK A ((r : Int) + 1) g) V r g a HT.out hr6 hg6 (by unfold drK; rw [if_neg (by omega)]; exact hA))
        have HN : Hid (drN A ((r : Int) + 1) (g + 1) = drN A ((r : Int) + 1) g + 1) := by show drN A ((r : Int) + 1) g + _ = _; rw [ha]; rfl
        clear ha hg
        obtain ⟨m, hm⟩ : ∃ m, m = drN A ((r : Int) + 1) g := ⟨_, rfl⟩
        rw [← hm] at hn HN ⊢
        clear hm
        go_wp2_with fail
        refine HC.out.mono ?_
        rintro e w2 ⟨rfl, hT, hO⟩
        have HT2 : Hid (Tg w2 t (drK A ((r : Int) + 1) (g + 1)) V) := hT.ext fun r' g' hr' hg' => by
          unfold upd drK
          by_cases hh : r' = r ∧ g' = g
          · rw [if_pos hh, if_pos (by omega)]
          · rw [if_neg hh]
            by_cases h2 : (r' : Int) + 1 = (r : Int) + 1 ∧ g' < g
            · rw [if_pos h2, if_pos (by omega)]
            · rw [if_neg h2, if_neg (by omega)]
        have HO2 : Hid (Touch t w w2) := HO.out.trans hO
        clear hT hO HC
        go_wp2_with fail
        exact ⟨⟨g + 1, by omega, by go_num, by rw [HN.out]; go_num, HT2, HO2⟩, by simp [intOf]; omega⟩
    · have hkI : ¬ (k : Int) < 6 := by omega
      obtain rfl : k = 6 := by omega
      go_wp2_with fail
      go_ret
      exact ⟨by rw [HMM.out]; rfl, HT.out, HO.out⟩
set_option maxRecDepth 100000 in
set_option maxHeartbeats 800000 in
theorem dup2_none (w : World) (v : Value) (A : Tab) (V : Nat → Op4) (p s q : Int) (h : Tv w v A V) (ha : atA A p s = none) : Calls Try.prog 28 #[v, i64 p, i64 s, i64 q] w fun e w' => e = .returned (i64 6) ∧ w' = w := by
  have HC := hid (at_ok w v A V p s h)
  rw [ha] at HC
  clear h ha
  go_enter Try.func28, Try.ntmps28
  go_wp2_with fail
  refine HC.out.mono ?_
  rintro e w2 ⟨rfl, hv⟩
  replace hv := hv.symm
  subst hv
  clear HC
  simp only [pv]
  go_wp2_with fail
  go_ret
  exact ⟨rfl, rfl⟩
set_option maxRecDepth 100000 in
set_option maxHeartbeats 800000 in
theorem dup2_arg (w : World) (t : Nat) (A : Tab) (V : Nat → Op4) (p s q : Int) (a : Nat) (h : Tg w t A V) (ha : atA A p s = some a) (hq : ¬(0 ≤ q ∧ q < 6)) : Calls Try.prog 28 #[pq t, i64 p, i64 s, i64 q] w fun e w' => e = .returned (i64 1) ∧ w' = w := by
  have HC := hid (at_ok w (pq t) A V p s h.tv)
  rw [ha] at HC
  have HS := hid (slot_ok w q)
  rw [decide_eq_false hq] at HS
  clear h ha hq
  go_enter Try.func28, Try.ntmps28
  go_wp2_with fail
  refine HC.out.mono ?_
  rintro e w2 ⟨rfl, hv⟩
  replace hv := hv.symm
  subst hv
  clear HC
  simp only [pv]
  go_wp2_with fail
  refine HS.out.mono ?_
  rintro e w2 ⟨rfl, hv⟩
  replace hv := hv.symm
  subst hv
  clear HS
  go_wp2_with fail
  go_ret
  exact ⟨rfl, rfl⟩
set_option maxRecDepth 100000 in
set_option maxHeartbeats 800000 in
theorem dup2_yes (w : World) (t : Nat) (A : Tab) (V : Nat → Op4) (r g q a : Nat) (h : Tg w t A V) (hr : r < 6) (hg : g < 6) (ha : A r g = some a) (hq : q < 6) : Calls Try.prog 28 #[pq t, i64 ((r : Int) + 1), i64 g, i64 q] w fun e w' => e = .returned (i64 0) ∧ Tg w' t (upd A r q (some a)) V ∧ Touch t w w' := by
  have HC := hid (at_ok w (pq t) A V ((r : Int) + 1) g h.tv)
  rw [atA_in A r g hr hg, ha] at HC
  have HS := hid (slot_ok w q)
  rw [decide_eq_true (show (0 : Int) ≤ q ∧ (q : Int) < 6 by omega)] at HS
  have HT : Hid (Tg (w.setCell ⟨t, r * 6 + q, none⟩ (pq a)) t (upd A r q (some a)) V) := h.set r q hr hq (some a) (fun b hb => by cases hb; exact h.obj r g a hr hg ha)
  have HO : Hid (Touch t w (w.setCell ⟨t, r * 6 + q, none⟩ (pq a))) := (Touch.refl t w).setCell rfl _
  have c1 := h.cell r q hr hq
  have cf := h.frz (r * 6 + q)
  generalize pv (A r q) = y at c1
  have ht := h.lt
  clear h ha hg
  go_enter Try.func28, Try.ntmps28
  go_wp2_with fail
  refine HC.out.mono ?_
  rintro e w2 ⟨rfl, hv⟩
  replace hv := hv.symm
  subst hv
  clear HC
  simp only [pv]
  go_wp2_with fail
  refine HS.out.mono ?_
  rintro e w2 ⟨rfl, hv⟩
  replace hv := hv.symm
  subst hv
  clear HS
  go_wp2_with fail
  go_ret
  exact ⟨rfl, HT.out, HO.out⟩
/-- An object whose place is moved. -/
def mvV (V : Nat → Op4) (a : Nat) (o : Int) : Nat → Op4 := fun b => if b = a then ((V a).1, (V a).2.1, (V a).2.2.1, o) else V b
theorem set4 {V : World} {b : Nat} {x y z u : Value} {t : TypeId} (h : V.heap[b]? = some (.cells #[x, y, z, u] t)) (s g c d : Value) : ((((V.setCell ⟨b, 0, none⟩ s).setCell ⟨b, 1, none⟩ g).setCell ⟨b, 2, none⟩ c).setCell ⟨b, 3, none⟩ d).heap[b]? = some (.cells #[s, g, c, d] t) := by
  have h1 := heap_setCell_same V b 0 _ t s h
  have h2 := heap_setCell_same _ b 1 _ t g h1
  have h3 := heap_setCell_same _ b 2 _ t c h2
  have h4 := heap_setCell_same _ b 3 _ t d h3
  exact h4
theorem Tg.moved {w w' : World} {t a r g : Nat} {A : Tab} {V : Nat → Op4} {o : Int} (h : Tg w t A V) (hr : r < 6) (hg : g < 6) (ha : A r g = some a) (ho : Touch a w w') (hx : w'.heap[a]? = some (oO ((V a).1, (V a).2.1, (V a).2.2.1, o) 54)) : Tg w' t A (mvV V a o) := by
  have hta := (h.obj r g a hr hg ha).1
  refine ⟨(ho.block t h.lt (by omega)).trans h.blk, fun r' g' b hr' hg' hb => ?_⟩
  obtain ⟨h1, h2⟩ := h.obj r' g' b hr' hg' hb
  refine ⟨h1, ?_⟩
  unfold mvV
  by_cases e : b = a
  · subst e
    rw [if_pos rfl]
    exact hx
  · rw [if_neg e]
    exact (ho.block b (blk_lt h2) e).trans h2
set_option maxRecDepth 100000 in
set_option maxHeartbeats 800000 in
theorem seek_none (w : World) (v : Value) (A : Tab) (V : Nat → Op4) (p s o : Int) (h : Tv w v A V) (ha : atA A p s = none) : Calls Try.prog 17 #[v, i64 p, i64 s, i64 o] w fun e w' => e = .returned (i64 6) ∧ w' = w := by
  have HC := hid (at_ok w v A V p s h)
  rw [ha] at HC
  clear h ha
  go_enter Try.func17, Try.ntmps17
  go_wp2_with fail
  refine HC.out.mono ?_
  rintro e w2 ⟨rfl, hv⟩
  replace hv := hv.symm
  subst hv
  clear HC
  simp only [pv]
  go_wp2_with fail
  go_ret
  exact ⟨rfl, rfl⟩
set_option maxRecDepth 100000 in
set_option maxHeartbeats 800000 in
theorem seek_arg (w : World) (t : Nat) (A : Tab) (V : Nat → Op4) (p s o : Int) (a : Nat) (h : Tg w t A V) (ha : atA A p s = some a) (hq : openB ((V a).1, (V a).2.1, (V a).2.2.1, o) = false) : Calls Try.prog 17 #[pq t, i64 p, i64 s, i64 o] w fun e w' => e = .returned (i64 1) ∧ Below w.heap.size w w' := by
  have HC := hid (at_ok w (pq t) A V p s h.tv)
  rw [ha] at HC
  have HO := hid (h.tv.obj ha)
  have HI := hid (isOpen_ok (w.alloc (oO ((V a).1, (V a).2.1, (V a).2.2.1, o) 54)) ((V a).1, (V a).2.1, (V a).2.2.1, o))
  rw [hq] at HI
  have HB := hid (below_one w (oO ((V a).1, (V a).2.1, (V a).2.2.1, o) 54))
  generalize V a = x at *
  obtain ⟨o0, o1, o2, o3⟩ := four_cells HO.out
  have hol := blk_lt HO.out
  clear h ha hq
  go_enter Try.func17, Try.ntmps17
  go_wp2_with fail
  refine HC.out.mono ?_
  rintro e w2 ⟨rfl, hv⟩
  replace hv := hv.symm
  subst hv
  clear HC
  simp only [pv]
  go_wp2_with fail
  refine HI.out.mono ?_
  rintro e w2 ⟨rfl, hb2⟩
  have HB2 : Hid (Below w.heap.size w w2) := HB.out.trans (hb2.mono HB.out.size)
  clear hb2 HI
  go_wp2_with fail
  go_ret
  exact ⟨rfl, HB2.out⟩
set_option maxRecDepth 100000 in
set_option maxHeartbeats 800000 in
theorem seek_yes (w : World) (t : Nat) (A : Tab) (V : Nat → Op4) (r g : Nat) (o : Int) (a : Nat) (h : Tg w t A V) (hr : r < 6) (hg : g < 6) (ha : A r g = some a) (hq : openB ((V a).1, (V a).2.1, (V a).2.2.1, o) = true) : Calls Try.prog 17 #[pq t, i64 ((r : Int) + 1), i64 g, i64 o] w fun e w' => e = .returned (i64 0) ∧ Tg w' t A (mvV V a o) ∧ Touch a w w' := by
  have HC := hid (at_ok w (pq t) A V ((r : Int) + 1) g h.tv)
  rw [atA_in A r g hr hg, ha] at HC
  have HO := hid (h.obj r g a hr hg ha).2
  have HI := hid (isOpen_ok (w.alloc (oO ((V a).1, (V a).2.1, (V a).2.2.1, o) 54)) ((V a).1, (V a).2.1, (V a).2.2.1, o))
  rw [hq] at HI
  have HB := hid (below_one w (oO ((V a).1, (V a).2.1, (V a).2.2.1, o) 54))
  have HX := hid (heap_last w (oO ((V a).1, (V a).2.1, (V a).2.2.1, o) 54))
  have HM := hid fun w' => h.moved (w' := w') (o := o) hr hg ha
  generalize V a = x at *
  obtain ⟨o0, o1, o2, o3⟩ := four_cells HO.out
  have hol := blk_lt HO.out
  clear h ha hq
  go_enter Try.func17, Try.ntmps17
  go_wp2_with fail
  refine HC.out.mono ?_
  rintro e w2 ⟨rfl, hv⟩
  replace hv := hv.symm
  subst hv
  clear HC
  simp only [pv]
  go_wp2_with fail
  refine HI.out.mono ?_
  rintro e w2 ⟨rfl, hb2⟩
  have HB2 : Hid (Below w.heap.size w w2) := HB.out.trans (hb2.mono HB.out.size)
  have HX2 := hid (blk_below HX.out hb2)
  have HO2 := hid (blk_below HO.out HB2.out)
  obtain ⟨y0, y1, y2, y3⟩ := four_cells HX2.out
  obtain ⟨p0, p1, p2, p3⟩ := four_cells HO2.out
  have pf := blk_frozen HO2.out
  have hxl := blk_lt HX2.out
  have hal := blk_lt HO2.out
  have HS4 := hid (set4 HO2.out (i64 x.1) (i64 x.2.1) (i64 x.2.2.1) (i64 o))
  have HTo : Hid (Touch a w ((((w2.setCell ⟨a, 0, none⟩ (i64 x.1)).setCell ⟨a, 1, none⟩ (i64 x.2.1)).setCell ⟨a, 2, none⟩ (i64 x.2.2.1)).setCell ⟨a, 3, none⟩ (i64 o))) := by
    show Touch a w _
    exact ((((Touch.of_below (q := a) HB2.out).setCell (p := ⟨a, 0, none⟩) rfl _).setCell (p := ⟨a, 1, none⟩) rfl _).setCell (p := ⟨a, 2, none⟩) rfl _).setCell (p := ⟨a, 3, none⟩) rfl _
  clear hb2 HI
  go_wp2_with fail
  go_ret
  exact ⟨rfl, HM.out _ HTo.out HS4.out, HTo.out⟩
end Go.Proofs.Ytaapiffglfppnaa
