/- entry, isOpen, Get, Close, Drop, Dup2, Seek; no statement is proved in this text. -/
import Derived.Test.YtaapiffglfppnaaTa
import Derived.Test.YtaapiffglfppnaaRt
namespace Go.Proofs.Ytaapiffglfppnaa
open Go.ChangeShapes Go.WideShapes Go.ChangeAt Go.RowKit Go.Deep
attribute [local go_sem ↓] Go.wp_at_zero Go.wp_at_succ

theorem results_cell1 {W : World} {t : Array Value} {a : Addr} {u : Value} {F : Func} {n : Nat} {ty : TypeId} (hr : F.results = #[.cell n ty]) (h6 : t.getD n undef = .pointer (some a)) (g : (loadVar ty a).run Try.prog W = .ok u W) :
    (results F t).run Try.prog W = .ok u W := by
  simp only [results, hr]
  simp [asAddr, h6, g, -Array.getD_eq_getD_getElem?]
theorem four_cells {W : World} {b : Nat} {p s a c : Value} {t : TypeId} (h : W.heap[b]? = some (.cells #[p, s, a, c] t)) : W.cell? ⟨b, 0, none⟩ = some p ∧ W.cell? ⟨b, 1, none⟩ = some s ∧ W.cell? ⟨b, 2, none⟩ = some a ∧ W.cell? ⟨b, 3, none⟩ = some c := ⟨blk_cell h 0, blk_cell h 1, blk_cell h 2, blk_cell h 3⟩
theorem load37 {W : World} {b : Nat} {p s a c d : Int} (h : W.heap[b]? = some (.cells #[i64 p, i64 s, i64 a, i64 c, i64 d] 37 (0, 0))) : (loadVar 37 ⟨b, 0, none⟩).run Try.prog W = .ok (ev p s a c d) W := by
  obtain ⟨c0, c1, c2, c3, c4⟩ := five_cells h
  simp [go_sem, c0, c1, c2, c3, c4]
theorem set5 {V : World} {b : Nat} {x y z u v : Value} {t : TypeId} (h : V.heap[b]? = some (.cells #[x, y, z, u, v] t)) (p q r m n : Value) : (((((V.setCell ⟨b, 0, none⟩ p).setCell ⟨b, 1, none⟩ q).setCell ⟨b, 2, none⟩ r).setCell ⟨b, 3, none⟩ m).setCell ⟨b, 4, none⟩ n).heap[b]? = some (.cells #[p, q, r, m, n] t) := by
  have h1 := heap_setCell_same V b 0 _ t p h
  have h2 := heap_setCell_same _ b 1 _ t q h1
  have h3 := heap_setCell_same _ b 2 _ t r h2
  have h4 := heap_setCell_same _ b 3 _ t m h3
  have h5 := heap_setCell_same _ b 4 _ t n h4
  exact h5
theorem bel5 {w V : World} {B b : Nat} (h : Below B w V) (hb : B ≤ b) (p q r m n : Value) : Below B w (((((V.setCell ⟨b, 0, none⟩ p).setCell ⟨b, 1, none⟩ q).setCell ⟨b, 2, none⟩ r).setCell ⟨b, 3, none⟩ m).setCell ⟨b, 4, none⟩ n) := ((((h.setCell hb _).setCell hb _).setCell hb _).setCell hb _).setCell hb _
theorem zero37 (w : World) : (zeroValue 37).run Try.prog w = .ok (ev 0 0 0 0 0) w := by kernel_rfl
theorem zero54 (w : World) : (zeroValue 54).run Try.prog w = .ok (ov (0, 0, 0, 0)) w := by kernel_rfl
set_option maxRecDepth 100000 in
set_option maxHeartbeats 800000 in
theorem entry_ok (w : World) (p s : Int) (x : Op4) : Calls Try.prog 40 #[i64 p, i64 s, ov x] w fun e w' => e = .returned (ev p s x.2.1 x.2.2.1 x.2.2.2) ∧ Below w.heap.size w w' := by
  have HB := hid ((below_one w (oO x 54)).alloc (by simp) (enO p s x.2.1 x.2.2.1 x.2.2.2 37))
  have hsz : (w.alloc (oO x 54)).heap.size = w.heap.size + 1 := by simp
  have HL : Hid (((w.alloc (oO x 54)).alloc (enO p s x.2.1 x.2.2.1 x.2.2.2 37)).heap[w.heap.size + 1]? = some (enO p s x.2.1 x.2.2.1 x.2.2.2 37)) := by
    have := heap_last (w.alloc (oO x 54)) (enO p s x.2.1 x.2.2.1 x.2.2.2 37)
    rw [hsz] at this
    exact this
  clear hsz
  have hz := zero37
  go_enter Try.func40, Try.ntmps40
  go_wp2_with fail
  exact bodyPost_ret (results_cell1 Try.results40 rfl (load37 HL.out)) rfl ⟨rfl, HB.out⟩
/-- An open object that is right. -/
def openB (x : Op4) : Bool := decide (0 ≤ x.1 ∧ x.1 < 36) && rightF 1 0 x.2.1 x.2.2.1 x.2.2.2
set_option maxRecDepth 100000 in
set_option maxHeartbeats 800000 in
theorem isOpen_ok (w : World) (x : Op4) : Calls Try.prog 42 #[ov x] w fun e w' => e = .returned (.bool (openB x)) ∧ Below w.heap.size w w' := by
  have HX := hid (heap_last w (oO x 54))
  have HB := hid (below_one w (oO x 54))
  obtain ⟨x0, x1, x2, x3⟩ := four_cells HX.out
  have hxl := blk_lt HX.out
  have HS : Hid (openB x = (decide (0 ≤ x.1 ∧ x.1 < 36) && rightF 1 0 x.2.1 x.2.2.1 x.2.2.2)) := rfl
  rw [HS.out]
  by_cases h1 : 0 ≤ x.1
  · by_cases h2 : x.1 < 36
    · rw [decide_eq_true (show 0 ≤ x.1 ∧ x.1 < 36 from ⟨h1, h2⟩), Bool.true_and]
      have HE := hid (entry_ok (w.alloc (oO x 54)) 1 0 x)
      have HRi := hid fun W => right_ok W 1 0 x.2.1 x.2.2.1 x.2.2.2
      generalize rightF 1 0 x.2.1 x.2.2.1 x.2.2.2 = B at HRi ⊢
      clear HS
      go_enter Try.func42, Try.ntmps42
      go_wp2_with fail
      refine HE.out.mono ?_
      rintro e w2 ⟨rfl, hb2⟩
      have HB2 : Hid (Below w.heap.size w w2) := HB.out.trans (hb2.mono HB.out.size)
      have HR2 := hid (HRi.out w2)
      clear hb2 HE HRi
      go_wp2_with fail
      refine HR2.out.mono ?_
      rintro e w3 ⟨rfl, hb3⟩
      have HB3 : Hid (Below w.heap.size w w3) := HB2.out.trans (hb3.mono HB2.out.size)
      clear hb3 HR2
      go_wp2_with fail
      go_ret
      exact ⟨rfl, HB3.out⟩
    · rw [decide_eq_false (show ¬(0 ≤ x.1 ∧ x.1 < 36) by omega), Bool.false_and]
      clear HS
      go_enter Try.func42, Try.ntmps42
      go_wp2_with fail
      go_ret
      exact ⟨rfl, HB.out⟩
  · rw [decide_eq_false (show ¬(0 ≤ x.1 ∧ x.1 < 36) by omega), Bool.false_and]
    clear HS
    go_enter Try.func42, Try.ntmps42
    go_wp2_with fail
    go_ret
    exact ⟨rfl, HB.out⟩
set_option maxRecDepth 100000 in
set_option maxHeartbeats 800000 in
theorem get_none (w : World) (v : Value) (A : Tab) (V : Nat → Op4) (p s : Int) (h : Tv w v A V) (ha : atA A p s = none) : Calls Try.prog 14 #[v, i64 p, i64 s] w fun e w' => e = .returned (.tuple #[ev 0 0 0 0 0, i64 6]) ∧ Below w.heap.size w w' := by
  have hz := zero37
  have hb1 := below_one w (enO 0 0 0 0 0 37)
  have HC := hid (at_ok (w.alloc (enO 0 0 0 0 0 37)) v A V p s (h.below hb1))
  rw [ha] at HC
  have HB1 := hid hb1
  have HX := hid (heap_last w (enO 0 0 0 0 0 37))
  obtain ⟨x0, x1, x2, x3, x4⟩ := five_cells HX.out
  have xf := blk_frozen HX.out
  have hxl := blk_lt HX.out
  clear h ha hb1
  go_enter Try.func14, Try.ntmps14
  go_wp2_with fail
  refine HC.out.mono ?_
  rintro e w2 ⟨rfl, hv⟩
  replace hv := hv.symm
  subst hv
  clear HC
  simp only [pv]
  go_wp2_with fail
  exact bodyPost_ret (results_cell Try.results14 rfl rfl (load37 HX.out)) rfl ⟨rfl, HB1.out⟩
set_option maxRecDepth 100000 in
set_option maxHeartbeats 800000 in
theorem get_some (w : World) (v : Value) (A : Tab) (V : Nat → Op4) (p s : Int) (a : Nat) (h : Tv w v A V) (ha : atA A p s = some a) : Calls Try.prog 14 #[v, i64 p, i64 s] w fun e w' => e = .returned (.tuple #[ev p s (V a).2.1 (V a).2.2.1 (V a).2.2.2, i64 0]) ∧ Below w.heap.size w w' := by
  have hz := zero37
  have hb1 := below_one w (enO 0 0 0 0 0 37)
  have HC := hid (at_ok (w.alloc (enO 0 0 0 0 0 37)) v A V p s (h.below hb1))
  rw [ha] at HC
  have HO := hid ((h.below hb1).obj ha)
  have HB1 := hid hb1
  have HX := hid (heap_last w (enO 0 0 0 0 0 37))
  generalize V a = x at HO ⊢
  obtain ⟨o0, o1, o2, o3⟩ := four_cells HO.out
  have hol := blk_lt HO.out
  have HE := hid (entry_ok (w.alloc (enO 0 0 0 0 0 37)) p s x)
  clear h ha hb1
  go_enter Try.func14, Try.ntmps14
  go_wp2_with fail
  refine HC.out.mono ?_
  rintro e w2 ⟨rfl, hv⟩
  replace hv := hv.symm
  subst hv
  clear HC
  simp only [pv]
  go_wp2_with fail
  refine HE.out.mono ?_
  rintro e w2 ⟨rfl, hb2⟩
  have HX2 : Hid (w2.heap[w.heap.size]? = some (enO 0 0 0 0 0 37)) := blk_below HX.out hb2
  have HB2 : Hid (Below w.heap.size w w2) := HB1.out.trans (hb2.mono HB1.out.size)
  obtain ⟨x0, x1, x2, x3, x4⟩ := five_cells HX2.out
  have xf := blk_frozen HX2.out
  have hxl := blk_lt HX2.out
  clear hb2 HE
  go_wp2_with fail
  exact bodyPost_ret (results_cell Try.results14 rfl rfl (load37 (set5 HX2.out _ _ _ _ _))) rfl ⟨rfl, bel5 HB2.out (Nat.le_refl _) _ _ _ _ _⟩
theorem Tg.ext {w : World} {t : Nat} {A A' : Tab} {V : Nat → Op4} (h : Tg w t A V) (he : ∀ r g, r < 6 → g < 6 → A r g = A' r g) : Tg w t A' V := by
  refine ⟨?_, fun r g a hr hg ha => h.obj r g a hr hg (by rw [he r g hr hg]; exact ha)⟩
  rw [h.blk]
  congr 2
  apply Array.toList_inj.1
  refine pcs_of (by simp [pcs_len]) fun i hi => ?_
  have : (pcs A)[i]? = _ := pcs_get A i hi
  rw [← he _ _ (by omega) (by omega)]
  simpa using this
theorem fr_tab {w w' : World} {t : Nat} {A : Tab} {V : Nat → Op4} (h : Tg w t A V) (ho : Touch t w w') : Fr t [75, 54] w w' := Fr.of_touch ho h.blk rfl (Nat.le_refl _)
theorem Tv.none_at {w : World} {v : Value} {A : Tab} {V : Nat → Op4} (h : Tv w v A V) (p s : Int) : Calls Try.prog 39 #[v, i64 p, i64 s] w fun e w' => e = .returned (pv (atA A p s)) ∧ w' = w := at_ok w v A V p s h
set_option maxRecDepth 100000 in
set_option maxHeartbeats 800000 in
theorem close_none (w : World) (v : Value) (A : Tab) (V : Nat → Op4) (p s : Int) (h : Tv w v A V) (ha : atA A p s = none) : Calls Try.prog 29 #[v, i64 p, i64 s] w fun e w' => e = .returned (i64 6) ∧ w' = w := by
  have HC := hid (at_ok w v A V p s h)
  rw [ha] at HC
  clear h ha
  go_enter Try.func29, Try.ntmps29
  go_wp2_with fail
  refine HC.out.mono ?_
  rintro e w2 ⟨rfl, hv⟩
  replace hv := hv.symm
  subst hv
  clear HC
  simp only [pv]
  go_wp2_with fail
  go_ret
  exact ⟨rfl, rfl⟩
set_option maxRecDepth 100000 in
set_option maxHeartbeats 800000 in
theorem close_some (w : World) (t : Nat) (A : Tab) (V : Nat → Op4) (r g a : Nat) (h : Tg w t A V) (hr : r < 6) (hg : g < 6) (ha : A r g = some a) : Calls Try.prog 29 #[pq t, i64 ((r : Int) + 1), i64 g] w fun e w' => e = .returned (i64 0) ∧ Tg w' t (upd A r g none) V ∧ Touch t w w' := by
  have HC := hid (at_ok w (pq t) A V ((r : Int) + 1) g h.tv)
  rw [atA_in A r g hr hg, ha] at HC
  have HT : Hid (Tg (w.setCell ⟨t, r * 6 + g, none⟩ (.pointer none)) t (upd A r g none) V) := h.set r g hr hg none (fun a ha => by cases ha)
  have HO : Hid (Touch t w (w.setCell ⟨t, r * 6 + g, none⟩ (.pointer none))) := (Touch.refl t w).setCell rfl _
  have c1 := h.cell r g hr hg
  have cf := h.frz (r * 6 + g)
  rw [ha] at c1
  have ht := h.lt
  clear h ha
  go_enter Try.func29, Try.ntmps29
  go_wp2_with fail
  refine HC.out.mono ?_
  rintro e w2 ⟨rfl, hv⟩
  replace hv := hv.symm
  subst hv
  clear HC
  simp only [pv] at c1 ⊢
  go_wp2_with fail
  go_ret
  exact ⟨rfl, HT.out, HO.out⟩
end Go.Proofs.Ytaapiffglfppnaa
