/- value of leaves; no statement is proved in this text. -/
import Derived.Test.YtihbbgcpdgnhoaaDoorR1
import Derived.Test.YtihbbgcpdgnhoaaDoorGv
namespace Go.Proofs.YtihbbgcpdgnhoaaDoor
open Go.ChangeShapes Go.WideShapes Go.ChangeAt Go.RowKit Go.Deep
attribute [local go_sem ↓] Go.wp_at_zero Go.wp_at_succ
set_option maxRecDepth 100000

theorem zero28 (w : World) : (zeroValue 28).run Tryd.prog w = .ok (.agg #[i64 0, i64 0, str [], .slice none 0 0]) w := by kernel_rfl
abbrev z28 : Obj := .cells #[i64 0, i64 0, str [], .slice none 0 0] 28
theorem vload28 {W : World} {b : Nat} {k n : Int} {s kv : Value} (h : W.heap[b]? = some (.cells #[i64 k, i64 n, s, kv] 28)) : (loadVar 28 ⟨b, 0, none⟩).run Tryd.prog W = .ok (.agg #[i64 k, i64 n, s, kv]) W := by
  refine run_loadVar_mid _ _ 0 28 [i64 k, i64 n, s, kv] _ (fun j v hv => ?_) Tryd.underlying28 rfl (by kernel_rfl)
  rw [Nat.zero_add, cell_of_row _ _ _ _ 28 (0, 0) h]
  simpa using hv
theorem set4' {V : World} {b : Nat} {x y z u : Value} {t : TypeId} (h : V.heap[b]? = some (.cells #[x, y, z, u] t)) (p q r m : Value) : ((((V.setCell ⟨b, 0, none⟩ p).setCell ⟨b, 1, none⟩ q).setCell ⟨b, 2, none⟩ r).setCell ⟨b, 3, none⟩ m).heap[b]? = some (.cells #[p, q, r, m] t) := by
  have h1 := heap_setCell_same V b 0 _ t p h
  have h2 := heap_setCell_same _ b 1 _ t q h1
  have h3 := heap_setCell_same _ b 2 _ t r h2
  have h4 := heap_setCell_same _ b 3 _ t m h3
  exact h4
theorem touch4 {q R : Nat} {w V : World} (h : Touch q w V) (hR : w.heap.size ≤ R) (a b c d : Value) : Touch q w ((((V.setCell ⟨R, 0, none⟩ a).setCell ⟨R, 1, none⟩ b).setCell ⟨R, 2, none⟩ c).setCell ⟨R, 3, none⟩ d) :=
  Touch.setNew (p := ⟨R, 3, none⟩) (Touch.setNew (p := ⟨R, 2, none⟩) (Touch.setNew (p := ⟨R, 1, none⟩) (Touch.setNew (p := ⟨R, 0, none⟩) h hR a) hR b) hR c) hR d
theorem at4 {q R : Nat} {V : World} {l : Bs} (h : At V q l) (hR : q ≠ R) (a b c d : Value) : At ((((V.setCell ⟨R, 0, none⟩ a).setCell ⟨R, 1, none⟩ b).setCell ⟨R, 2, none⟩ c).setCell ⟨R, 3, none⟩ d) q l := by
  unfold At
  rw [Below.heap_setCell _ _ _ _ hR, Below.heap_setCell _ _ _ _ hR, Below.heap_setCell _ _ _ _ hR, Below.heap_setCell _ _ _ _ hR]
  exact h
/-- What value answers where there is none. -/
def NoV (q : Nat) (w : World) (e : Ending) (w' : World) : Prop := (∃ k n t a m c, e = .returned (.tuple #[.agg #[i64 k, i64 n, str t, .slice a m c], .bool false])) ∧ Touch q w w'
def YesV (q : Nat) (w : World) (V : Vl) (r : Bs) (e : Ending) (w' : World) : Prop := ∃ a c, e = .returned (.tuple #[vlV V (.slice a V.kids.length c), .bool true]) ∧ At w' q r ∧ Touch q w w' ∧ Vd w' (fun b => w.heap.size ≤ b) V (.slice a V.kids.length c)
theorem num_any1 (w : World) (q : Nat) (l : Bs) (h : At w q l) : (rdN 1 l = none ∧ l.length < 1) ∨ ∃ c r, l = c :: r ∧ rdN 1 l = some (c.toNat, r) := by
  cases l with
  | nil => exact .inl ⟨rfl, by simp⟩
  | cons c r => exact .inr ⟨c, r, rfl, rdN_one c r⟩
set_option maxHeartbeats 1600000 in
theorem val_short (w : World) (q : Nat) (l : Bs) (k tn : Int) (an at_ : Option Addr) (ln cn lt_ ct : Nat) (h : At w q l) (hl : l.length < 1) : Calls Tryd.prog 35 #[tk q, .agg #[i64 k, i64 tn, .slice an ln cn, .slice at_ lt_ ct]] w (NoV q w) := by
  obtain ⟨HZa, HRa, hb0⟩ := two_boxes w (.cells #[i64 k, i64 tn, .slice an ln cn, .slice at_ lt_ ct] 25) z28
  have HZ := hid HZa
  have HR := hid HRa
  have HB0 := hid hb0
  have hz := zero28
  have hq := h.lt
  have HA0 := hid (at_below h hb0)
  have HN := hid (num_no _ q 1 l HA0.out hl)
  clear HZa HRa hb0 h
  go_enter Tryd.func35, Tryd.ntmps35
  go_wp2_with fail
  refine HN.out.mono ?_
  rintro e w1 ⟨rfl, hw⟩
  subst hw
  go_wp2_with fail
  exact bodyPost_ret (results_cell Tryd.results35 rfl rfl (vload28 HR.out)) rfl ⟨⟨_, _, _, _, _, _, rfl⟩, Touch.of_below HB0.out⟩
set_option maxHeartbeats 1600000 in
theorem val_tag (w : World) (q : Nat) (c : UInt8) (r : Bs) (k tn : Int) (an at_ : Option Addr) (ln cn lt_ ct : Nat) (h : At w q (c :: r)) (hk : (c.toNat : Int) ≠ k) : Calls Tryd.prog 35 #[tk q, .agg #[i64 k, i64 tn, .slice an ln cn, .slice at_ lt_ ct]] w (NoV q w) := by
  obtain ⟨HZa, HRa, hb0⟩ := two_boxes w (.cells #[i64 k, i64 tn, .slice an ln cn, .slice at_ lt_ ct] 25) z28
  have HZ := hid HZa
  have HR := hid HRa
  have HB0 := hid hb0
  have hz := zero28
  have hq := h.lt
  have HA0 := hid (at_below h hb0)
  have HN := hid (num_yes _ q 1 c.toNat (c :: r) r HA0.out (rdN_one c r))
  have q1 : ((c.toNat : Int) != k) = true := by rw [bne, beq_false_of_ne hk]; rfl
  clear HZa HRa hb0 h hk
  go_enter Tryd.func35, Tryd.ntmps35
  go_wp2_with fail
  refine HN.out.mono ?_
  rintro e w1 ⟨rfl, hw⟩
  have ht := At.touch ((w.alloc (.cells #[i64 k, i64 tn, .slice an ln cn, .slice at_ lt_ ct] 25)).alloc z28) q r
  rw [← hw] at ht
  have HZ1 := hid ((ht.block _ (blk_lt HZ.out) (by omega)).trans HZ.out)
  have HR1 := hid ((ht.block _ (blk_lt HR.out) (by omega)).trans HR.out)
  have HT1 : Hid (Touch q w w1) := (Touch.of_below HB0.out).trans ht
  have x0 := blk_cell HZ1.out 0
  have r0 := blk_cell HR1.out 0
  have r1 := blk_cell HR1.out 1
  have r2 := blk_cell HR1.out 2
  have r3 := blk_cell HR1.out 3
  have rf := blk_frozen HR1.out
  clear hw ht HN
  go_wp2_with fail
  exact bodyPost_ret (results_cell Tryd.results35 rfl rfl (vload28 (set4' HR1.out _ _ _ _))) rfl ⟨⟨_, _, _, _, _, _, rfl⟩, touch4 HT1.out (by omega) _ _ _ _⟩
set_option maxHeartbeats 1600000 in
theorem val_1_8_no (w : World) (q : Nat) (c : UInt8) (r : Bs) (an at_ : Option Addr) (ln cn lt_ ct : Nat) (h : At w q (c :: r)) (hc : c.toNat = 1) (hl : r.length < 1) : Calls Tryd.prog 35 #[tk q, .agg #[i64 1, i64 8, .slice an ln cn, .slice at_ lt_ ct]] w (NoV q w) := by
  obtain ⟨HZa, HRa, hb0⟩ := two_boxes w (.cells #[i64 1, i64 8, .slice an ln cn, .slice at_ lt_ ct] 25) z28
  have HZ := hid HZa
  have HR := hid HRa
  have HB0 := hid hb0
  have hz := zero28
  have hq := h.lt
  have HA0 := hid (at_below h hb0)
  have HN := hid (num_yes _ q 1 1 (c :: r) r HA0.out (by rw [rdN_one, hc]))
  clear HZa HRa hb0 h hc
  go_enter Tryd.func35, Tryd.ntmps35
  go_wp2_with fail
  refine HN.out.mono ?_
  rintro e w1 ⟨rfl, hw⟩
  have ht := At.touch ((w.alloc (.cells #[i64 1, i64 8, .slice an ln cn, .slice at_ lt_ ct] 25)).alloc z28) q r
  have ha := HA0.out.set r
  rw [← hw] at ht ha
  have HZ1 := hid ((ht.block _ (blk_lt HZ.out) (by omega)).trans HZ.out)
  have HR1 := hid ((ht.block _ (blk_lt HR.out) (by omega)).trans HR.out)
  have HT1 : Hid (Touch q w w1) := (Touch.of_below HB0.out).trans ht
  have HO1 := hid (heap_last w1 (.cells #[i64 1, i64 0, str [], .slice none 0 0] 28))
  have HA1 := hid (at_below ha (below_one w1 (.cells #[i64 1, i64 0, str [], .slice none 0 0] 28)))
  have HZ1' := hid (blk_alloc HZ1.out (.cells #[i64 1, i64 0, str [], .slice none 0 0] 28))
  have HR1' := hid (blk_alloc HR1.out (.cells #[i64 1, i64 0, str [], .slice none 0 0] 28))
  have HT1' : Hid (Touch q w (w1.alloc (.cells #[i64 1, i64 0, str [], .slice none 0 0] 28))) := HT1.out.alloc _
  have hRl := blk_lt HR1.out
  have hZl := blk_lt HZ1.out
  have x0 := blk_cell HZ1.out 0
  have x1 := blk_cell HZ1.out 1
  clear hw ht ha HN
  have HN2 := hid (num_no _ q 1 r HA1.out hl)
  go_wp2_with fail
  refine HN2.out.mono ?_
  rintro e w3 ⟨rfl, hw⟩
  have HR3 : Hid (w3.heap[w.heap.size + 1]? = some z28) := by rw [hw]; exact HR1'.out
  have HO3 : Hid (w3.heap[w1.heap.size]? = some (.cells #[i64 1, i64 0, str [], .slice none 0 0] 28)) := by rw [hw]; exact HO1.out
  have HT3 : Hid (Touch q w w3) := by rw [hw]; exact HT1'.out
  clear hw HN2 x0 x1 HR1 HR1' HZ1 HZ1' HO1 HA1 HT1 HT1' HA0 HB0
  have o0 := blk_cell HO3.out 0
  have o1 := blk_cell HO3.out 1
  have o2 := blk_cell HO3.out 2
  have o3 := blk_cell HO3.out 3
  have ofz := blk_frozen HO3.out
  have r0 := blk_cell HR3.out 0
  have r1 := blk_cell HR3.out 1
  have r2 := blk_cell HR3.out 2
  have r3 := blk_cell HR3.out 3
  have rf := blk_frozen HR3.out
  have hne : w.heap.size + 1 ≠ w1.heap.size := by omega
  go_wp2_with fail
  exact bodyPost_ret (results_cell Tryd.results35 rfl rfl (vload28 (set4' ((Below.heap_setCell w3 ⟨w1.heap.size, 1, none⟩ _ _ hne).trans HR3.out) _ _ _ _))) rfl ⟨⟨_, _, _, _, _, _, rfl⟩, touch4 (Touch.setNew (p := ⟨w1.heap.size, 1, none⟩) HT3.out (by show w.heap.size ≤ w1.heap.size; omega) _) (by omega) _ _ _ _⟩
set_option maxHeartbeats 1600000 in
theorem val_1_8_yes (w : World) (q n : Nat) (c : UInt8) (r r2 : Bs) (an at_ : Option Addr) (ln cn lt_ ct : Nat) (h : At w q (c :: r)) (hc : c.toNat = 1) (hl : rdN 1 r = some (n, r2)) : Calls Tryd.prog 35 #[tk q, .agg #[i64 1, i64 8, .slice an ln cn, .slice at_ lt_ ct]] w (YesV q w (.mk 1 (n : Nat) [] []) r2) := by
  obtain ⟨HZa, HRa, hb0⟩ := two_boxes w (.cells #[i64 1, i64 8, .slice an ln cn, .slice at_ lt_ ct] 25) z28
  have HZ := hid HZa
  have HR := hid HRa
  have HB0 := hid hb0
  have hz := zero28
  have hq := h.lt
  have HA0 := hid (at_below h hb0)
  have HN := hid (num_yes _ q 1 1 (c :: r) r HA0.out (by rw [rdN_one, hc]))
  clear HZa HRa hb0 h hc
  go_enter Tryd.func35, Tryd.ntmps35
  go_wp2_with fail
  refine HN.out.mono ?_
  rintro e w1 ⟨rfl, hw⟩
  have ht := At.touch ((w.alloc (.cells #[i64 1, i64 8, .slice an ln cn, .slice at_ lt_ ct] 25)).alloc z28) q r
  have ha := HA0.out.set r
  rw [← hw] at ht ha
  have HZ1 := hid ((ht.block _ (blk_lt HZ.out) (by omega)).trans HZ.out)
  have HR1 := hid ((ht.block _ (blk_lt HR.out) (by omega)).trans HR.out)
  have HT1 : Hid (Touch q w w1) := (Touch.of_below HB0.out).trans ht
  have HO1 := hid (heap_last w1 (.cells #[i64 1, i64 0, str [], .slice none 0 0] 28))
  have HA1 := hid (at_below ha (below_one w1 (.cells #[i64 1, i64 0, str [], .slice none 0 0] 28)))
  have HZ1' := hid (blk_alloc HZ1.out (.cells #[i64 1, i64 0, str [], .slice none 0 0] 28))
  have HR1' := hid (blk_alloc HR1.out (.cells #[i64 1, i64 0, str [], .slice none 0 0] 28))
  have HT1' : Hid (Touch q w (w1.alloc (.cells #[i64 1, i64 0, str [], .slice none 0 0] 28))) := HT1.out.alloc _
  have hRl := blk_lt HR1.out
  have hZl := blk_lt HZ1.out
  have x0 := blk_cell HZ1.out 0
  have x1 := blk_cell HZ1.out 1
  clear hw ht ha HN
  have HN2 := hid (num_yes _ q 1 n r r2 HA1.out hl)
  have hqs : q < (w1.alloc (.cells #[i64 1, i64 0, str [], .slice none 0 0] 28)).heap.size := by simp; omega
  go_wp2_with fail
  refine HN2.out.mono ?_
  rintro e w3 ⟨rfl, hw⟩
  have ht := At.touch (w1.alloc (.cells #[i64 1, i64 0, str [], .slice none 0 0] 28)) q r2
  have ha := HA1.out.set r2
  rw [← hw] at ht ha
  have HR3 : Hid (w3.heap[w.heap.size + 1]? = some z28) := (ht.block _ (blk_lt HR1'.out) (by omega)).trans HR1'.out
  have HO3 : Hid (w3.heap[w1.heap.size]? = some (.cells #[i64 1, i64 0, str [], .slice none 0 0] 28)) := (ht.block _ (blk_lt HO1.out) (by omega)).trans HO1.out
  have HT3 : Hid (Touch q w w3) := HT1'.out.trans ht
  have HA3 := hid ha
  clear hw ht ha HN2 x0 x1 HR1 HR1' HZ1 HZ1' HO1 HA1 HT1 HT1' HA0 HB0
  have o0 := blk_cell HO3.out 0
  have o1 := blk_cell HO3.out 1
  have o2 := blk_cell HO3.out 2
  have o3 := blk_cell HO3.out 3
  have ofz := blk_frozen HO3.out
  have r0 := blk_cell HR3.out 0
  have r1 := blk_cell HR3.out 1
  have r2 := blk_cell HR3.out 2
  have r3 := blk_cell HR3.out 3
  have rf := blk_frozen HR3.out
  have hne : w.heap.size + 1 ≠ w1.heap.size := by omega
  go_wp2_with fail
  refine bodyPost_ret (results_cell Tryd.results35 rfl rfl (vload28 (set4' ((Below.heap_setCell w3 ⟨w1.heap.size, 1, none⟩ _ _ hne).trans HR3.out) _ _ _ _))) rfl ⟨none, 0, rfl, ?_, touch4 (Touch.setNew (p := ⟨w1.heap.size, 1, none⟩) HT3.out (by show w.heap.size ≤ w1.heap.size; omega) _) (by omega) _ _ _ _, Vd.leaf _ _ _ _ _ (by simp) _ _⟩
  exact at4 ((Below.heap_setCell w3 ⟨w1.heap.size, 1, none⟩ _ _ (by show q ≠ w1.heap.size; omega)).trans HA3.out) (by omega) _ _ _ _
set_option maxHeartbeats 1600000 in
theorem val_1_16_no (w : World) (q : Nat) (c : UInt8) (r : Bs) (an at_ : Option Addr) (ln cn lt_ ct : Nat) (h : At w q (c :: r)) (hc : c.toNat = 1) (hl : r.length < 2) : Calls Tryd.prog 35 #[tk q, .agg #[i64 1, i64 16, .slice an ln cn, .slice at_ lt_ ct]] w (NoV q w) := by
  obtain ⟨HZa, HRa, hb0⟩ := two_boxes w (.cells #[i64 1, i64 16, .slice an ln cn, .slice at_ lt_ ct] 25) z28
  have HZ := hid HZa
  have HR := hid HRa
  have HB0 := hid hb0
  have hz := zero28
  have hq := h.lt
  have HA0 := hid (at_below h hb0)
  have HN := hid (num_yes _ q 1 1 (c :: r) r HA0.out (by rw [rdN_one, hc]))
  clear HZa HRa hb0 h hc
  go_enter Tryd.func35, Tryd.ntmps35
  go_wp2_with fail
  refine HN.out.mono ?_
  rintro e w1 ⟨rfl, hw⟩
  have ht := At.touch ((w.alloc (.cells #[i64 1, i64 16, .slice an ln cn, .slice at_ lt_ ct] 25)).alloc z28) q r
  have ha := HA0.out.set r
  rw [← hw] at ht ha
  have HZ1 := hid ((ht.block _ (blk_lt HZ.out) (by omega)).trans HZ.out)
  have HR1 := hid ((ht.block _ (blk_lt HR.out) (by omega)).trans HR.out)
  have HT1 : Hid (Touch q w w1) := (Touch.of_below HB0.out).trans ht
  have HO1 := hid (heap_last w1 (.cells #[i64 1, i64 0, str [], .slice none 0 0] 28))
  have HA1 := hid (at_below ha (below_one w1 (.cells #[i64 1, i64 0, str [], .slice none 0 0] 28)))
  have HZ1' := hid (blk_alloc HZ1.out (.cells #[i64 1, i64 0, str [], .slice none 0 0] 28))
  have HR1' := hid (blk_alloc HR1.out (.cells #[i64 1, i64 0, str [], .slice none 0 0] 28))
  have HT1' : Hid (Touch q w (w1.alloc (.cells #[i64 1, i64 0, str [], .slice none 0 0] 28))) := HT1.out.alloc _
  have hRl := blk_lt HR1.out
  have hZl := blk_lt HZ1.out
  have x0 := blk_cell HZ1.out 0
  have x1 := blk_cell HZ1.out 1
  clear hw ht ha HN
  have HN2 := hid (num_no _ q 2 r HA1.out hl)
  go_wp2_with fail
  refine HN2.out.mono ?_
  rintro e w3 ⟨rfl, hw⟩
  have HR3 : Hid (w3.heap[w.heap.size + 1]? = some z28) := by rw [hw]; exact HR1'.out
  have HO3 : Hid (w3.heap[w1.heap.size]? = some (.cells #[i64 1, i64 0, str [], .slice none 0 0] 28)) := by rw [hw]; exact HO1.out
  have HT3 : Hid (Touch q w w3) := by rw [hw]; exact HT1'.out
  clear hw HN2 x0 x1 HR1 HR1' HZ1 HZ1' HO1 HA1 HT1 HT1' HA0 HB0
  have o0 := blk_cell HO3.out 0
  have o1 := blk_cell HO3.out 1
  have o2 := blk_cell HO3.out 2
  have o3 := blk_cell HO3.out 3
  have ofz := blk_frozen HO3.out
  have r0 := blk_cell HR3.out 0
  have r1 := blk_cell HR3.out 1
  have r2 := blk_cell HR3.out 2
  have r3 := blk_cell HR3.out 3
  have rf := blk_frozen HR3.out
  have hne : w.heap.size + 1 ≠ w1.heap.size := by omega
  go_wp2_with fail
  exact bodyPost_ret (results_cell Tryd.results35 rfl rfl (vload28 (set4' ((Below.heap_setCell w3 ⟨w1.heap.size, 1, none⟩ _ _ hne).trans HR3.out) _ _ _ _))) rfl ⟨⟨_, _, _, _, _, _, rfl⟩, touch4 (Touch.setNew (p := ⟨w1.heap.size, 1, none⟩) HT3.out (by show w.heap.size ≤ w1.heap.size; omega) _) (by omega) _ _ _ _⟩
set_option maxHeartbeats 1600000 in
theorem val_1_16_yes (w : World) (q n : Nat) (c : UInt8) (r r2 : Bs) (an at_ : Option Addr) (ln cn lt_ ct : Nat) (h : At w q (c :: r)) (hc : c.toNat = 1) (hl : rdN 2 r = some (n, r2)) : Calls Tryd.prog 35 #[tk q, .agg #[i64 1, i64 16, .slice an ln cn, .slice at_ lt_ ct]] w (YesV q w (.mk 1 (n : Nat) [] []) r2) := by
  obtain ⟨HZa, HRa, hb0⟩ := two_boxes w (.cells #[i64 1, i64 16, .slice an ln cn, .slice at_ lt_ ct] 25) z28
  have HZ := hid HZa
  have HR := hid HRa
  have HB0 := hid hb0
  have hz := zero28
  have hq := h.lt
  have HA0 := hid (at_below h hb0)
  have HN := hid (num_yes _ q 1 1 (c :: r) r HA0.out (by rw [rdN_one, hc]))
  clear HZa HRa hb0 h hc
  go_enter Tryd.func35, Tryd.ntmps35
  go_wp2_with fail
  refine HN.out.mono ?_
  rintro e w1 ⟨rfl, hw⟩
  have ht := At.touch ((w.alloc (.cells #[i64 1, i64 16, .slice an ln cn, .slice at_ lt_ ct] 25)).alloc z28) q r
  have ha := HA0.out.set r
  rw [← hw] at ht ha
  have HZ1 := hid ((ht.block _ (blk_lt HZ.out) (by omega)).trans HZ.out)
  have HR1 := hid ((ht.block _ (blk_lt HR.out) (by omega)).trans HR.out)
  have HT1 : Hid (Touch q w w1) := (Touch.of_below HB0.out).trans ht
  have HO1 := hid (heap_last w1 (.cells #[i64 1, i64 0, str [], .slice none 0 0] 28))
  have HA1 := hid (at_below ha (below_one w1 (.cells #[i64 1, i64 0, str [], .slice none 0 0] 28)))
  have HZ1' := hid (blk_alloc HZ1.out (.cells #[i64 1, i64 0, str [], .slice none 0 0] 28))
  have HR1' := hid (blk_alloc HR1.out (.cells #[i64 1, i64 0, str [], .slice none 0 0] 28))
  have HT1' : Hid (Touch q w (w1.alloc (.cells #[i64 1, i64 0, str [], .slice none 0 0] 28))) := HT1.out.alloc _
  have hRl := blk_lt HR1.out
  have hZl := blk_lt HZ1.out
  have x0 := blk_cell HZ1.out 0
  have x1 := blk_cell HZ1.out 1
  clear hw ht ha HN
  have HN2 := hid (num_yes _ q 2 n r r2 HA1.out hl)
  have hqs : q < (w1.alloc (.cells #[i64 1, i64 0, str [], .slice none 0 0] 28)).heap.size := by simp; omega
  go_wp2_with fail
  refine HN2.out.mono ?_
  rintro e w3 ⟨rfl, hw⟩
  have ht := At.touch (w1.alloc (.cells #[i64 1, i64 0, str [], .slice none 0 0] 28)) q r2
  have ha := HA1.out.set r2
  rw [← hw] at ht ha
  have HR3 : Hid (w3.heap[w.heap.size + 1]? = some z28) := (ht.block _ (blk_lt HR1'.out) (by omega)).trans HR1'.out
  have HO3 : Hid (w3.heap[w1.heap.size]? = some (.cells #[i64 1, i64 0, str [], .slice none 0 0] 28)) := (ht.block _ (blk_lt HO1.out) (by omega)).trans HO1.out
  have HT3 : Hid (Touch q w w3) := HT1'.out.trans ht
  have HA3 := hid ha
  clear hw ht ha HN2 x0 x1 HR1 HR1' HZ1 HZ1' HO1 HA1 HT1 HT1' HA0 HB0
  have o0 := blk_cell HO3.out 0
  have o1 := blk_cell HO3.out 1
  have o2 := blk_cell HO3.out 2
  have o3 := blk_cell HO3.out 3
  have ofz := blk_frozen HO3.out
  have r0 := blk_cell HR3.out 0
  have r1 := blk_cell HR3.out 1
  have r2 := blk_cell HR3.out 2
  have r3 := blk_cell HR3.out 3
  have rf := blk_frozen HR3.out
  have hne : w.heap.size + 1 ≠ w1.heap.size := by omega
  go_wp2_with fail
  refine bodyPost_ret (results_cell Tryd.results35 rfl rfl (vload28 (set4' ((Below.heap_setCell w3 ⟨w1.heap.size, 1, none⟩ _ _ hne).trans HR3.out) _ _ _ _))) rfl ⟨none, 0, rfl, ?_, touch4 (Touch.setNew (p := ⟨w1.heap.size, 1, none⟩) HT3.out (by show w.heap.size ≤ w1.heap.size; omega) _) (by omega) _ _ _ _, Vd.leaf _ _ _ _ _ (by simp) _ _⟩
  exact at4 ((Below.heap_setCell w3 ⟨w1.heap.size, 1, none⟩ _ _ (by show q ≠ w1.heap.size; omega)).trans HA3.out) (by omega) _ _ _ _
set_option maxHeartbeats 1600000 in
theorem val_1_32_no (w : World) (q : Nat) (c : UInt8) (r : Bs) (an at_ : Option Addr) (ln cn lt_ ct : Nat) (h : At w q (c :: r)) (hc : c.toNat = 1) (hl : r.length < 4) : Calls Tryd.prog 35 #[tk q, .agg #[i64 1, i64 32, .slice an ln cn, .slice at_ lt_ ct]] w (NoV q w) := by
  obtain ⟨HZa, HRa, hb0⟩ := two_boxes w (.cells #[i64 1, i64 32, .slice an ln cn, .slice at_ lt_ ct] 25) z28
  have HZ := hid HZa
  have HR := hid HRa
  have HB0 := hid hb0
  have hz := zero28
  have hq := h.lt
  have HA0 := hid (at_below h hb0)
  have HN := hid (num_yes _ q 1 1 (c :: r) r HA0.out (by rw [rdN_one, hc]))
  clear HZa HRa hb0 h hc
  go_enter Tryd.func35, Tryd.ntmps35
  go_wp2_with fail
  refine HN.out.mono ?_
  rintro e w1 ⟨rfl, hw⟩
  have ht := At.touch ((w.alloc (.cells #[i64 1, i64 32, .slice an ln cn, .slice at_ lt_ ct] 25)).alloc z28) q r
  have ha := HA0.out.set r
  rw [← hw] at ht ha
  have HZ1 := hid ((ht.block _ (blk_lt HZ.out) (by omega)).trans HZ.out)
  have HR1 := hid ((ht.block _ (blk_lt HR.out) (by omega)).trans HR.out)
  have HT1 : Hid (Touch q w w1) := (Touch.of_below HB0.out).trans ht
  have HO1 := hid (heap_last w1 (.cells #[i64 1, i64 0, str [], .slice none 0 0] 28))
  have HA1 := hid (at_below ha (below_one w1 (.cells #[i64 1, i64 0, str [], .slice none 0 0] 28)))
  have HZ1' := hid (blk_alloc HZ1.out (.cells #[i64 1, i64 0, str [], .slice none 0 0] 28))
  have HR1' := hid (blk_alloc HR1.out (.cells #[i64 1, i64 0, str [], .slice none 0 0] 28))
  have HT1' : Hid (Touch q w (w1.alloc (.cells #[i64 1, i64 0, str [], .slice none 0 0] 28))) := HT1.out.alloc _
  have hRl := blk_lt HR1.out
  have hZl := blk_lt HZ1.out
  have x0 := blk_cell HZ1.out 0
  have x1 := blk_cell HZ1.out 1
  clear hw ht ha HN
  have HN2 := hid (num_no _ q 4 r HA1.out hl)
  go_wp2_with fail
  refine HN2.out.mono ?_
  rintro e w3 ⟨rfl, hw⟩
  have HR3 : Hid (w3.heap[w.heap.size + 1]? = some z28) := by rw [hw]; exact HR1'.out
  have HO3 : Hid (w3.heap[w1.heap.size]? = some (.cells #[i64 1, i64 0, str [], .slice none 0 0] 28)) := by rw [hw]; exact HO1.out
  have HT3 : Hid (Touch q w w3) := by rw [hw]; exact HT1'.out
  clear hw HN2 x0 x1 HR1 HR1' HZ1 HZ1' HO1 HA1 HT1 HT1' HA0 HB0
  have o0 := blk_cell HO3.out 0
  have o1 := blk_cell HO3.out 1
  have o2 := blk_cell HO3.out 2
  have o3 := blk_cell HO3.out 3
  have ofz := blk_frozen HO3.out
  have r0 := blk_cell HR3.out 0
  have r1 := blk_cell HR3.out 1
  have r2 := blk_cell HR3.out 2
  have r3 := blk_cell HR3.out 3
  have rf := blk_frozen HR3.out
  have hne : w.heap.size + 1 ≠ w1.heap.size := by omega
  go_wp2_with fail
  exact bodyPost_ret (results_cell Tryd.results35 rfl rfl (vload28 (set4' ((Below.heap_setCell w3 ⟨w1.heap.size, 1, none⟩ _ _ hne).trans HR3.out) _ _ _ _))) rfl ⟨⟨_, _, _, _, _, _, rfl⟩, touch4 (Touch.setNew (p := ⟨w1.heap.size, 1, none⟩) HT3.out (by show w.heap.size ≤ w1.heap.size; omega) _) (by omega) _ _ _ _⟩
set_option maxHeartbeats 1600000 in
theorem val_1_32_yes (w : World) (q n : Nat) (c : UInt8) (r r2 : Bs) (an at_ : Option Addr) (ln cn lt_ ct : Nat) (h : At w q (c :: r)) (hc : c.toNat = 1) (hl : rdN 4 r = some (n, r2)) : Calls Tryd.prog 35 #[tk q, .agg #[i64 1, i64 32, .slice an ln cn, .slice at_ lt_ ct]] w (YesV q w (.mk 1 (n : Nat) [] []) r2) := by
  obtain ⟨HZa, HRa, hb0⟩ := two_boxes w (.cells #[i64 1, i64 32, .slice an ln cn, .slice at_ lt_ ct] 25) z28
  have HZ := hid HZa
  have HR := hid HRa
  have HB0 := hid hb0
  have hz := zero28
  have hq := h.lt
  have HA0 := hid (at_below h hb0)
  have HN := hid (num_yes _ q 1 1 (c :: r) r HA0.out (by rw [rdN_one, hc]))
  clear HZa HRa hb0 h hc
  go_enter Tryd.func35, Tryd.ntmps35
  go_wp2_with fail
  refine HN.out.mono ?_
  rintro e w1 ⟨rfl, hw⟩
  have ht := At.touch ((w.alloc (.cells #[i64 1, i64 32, .slice an ln cn, .slice at_ lt_ ct] 25)).alloc z28) q r
  have ha := HA0.out.set r
  rw [← hw] at ht ha
  have HZ1 := hid ((ht.block _ (blk_lt HZ.out) (by omega)).trans HZ.out)
  have HR1 := hid ((ht.block _ (blk_lt HR.out) (by omega)).trans HR.out)
  have HT1 : Hid (Touch q w w1) := (Touch.of_below HB0.out).trans ht
  have HO1 := hid (heap_last w1 (.cells #[i64 1, i64 0, str [], .slice none 0 0] 28))
  have HA1 := hid (at_below ha (below_one w1 (.cells #[i64 1, i64 0, str [], .slice none 0 0] 28)))
  have HZ1' := hid (blk_alloc HZ1.out (.cells #[i64 1, i64 0, str [], .slice none 0 0] 28))
  have HR1' := hid (blk_alloc HR1.out (.cells #[i64 1, i64 0, str [], .slice none 0 0] 28))
  have HT1' : Hid (Touch q w (w1.alloc (.cells #[i64 1, i64 0, str [], .slice none 0 0] 28))) := HT1.out.alloc _
  have hRl := blk_lt HR1.out
  have hZl := blk_lt HZ1.out
  have x0 := blk_cell HZ1.out 0
  have x1 := blk_cell HZ1.out 1
  clear hw ht ha HN
  have HN2 := hid (num_yes _ q 4 n r r2 HA1.out hl)
  have hqs : q < (w1.alloc (.cells #[i64 1, i64 0, str [], .slice none 0 0] 28)).heap.size := by simp; omega
  go_wp2_with fail
  refine HN2.out.mono ?_
  rintro e w3 ⟨rfl, hw⟩
  have ht := At.touch (w1.alloc (.cells #[i64 1, i64 0, str [], .slice none 0 0] 28)) q r2
  have ha := HA1.out.set r2
  rw [← hw] at ht ha
  have HR3 : Hid (w3.heap[w.heap.size + 1]? = some z28) := (ht.block _ (blk_lt HR1'.out) (by omega)).trans HR1'.out
  have HO3 : Hid (w3.heap[w1.heap.size]? = some (.cells #[i64 1, i64 0, str [], .slice none 0 0] 28)) := (ht.block _ (blk_lt HO1.out) (by omega)).trans HO1.out
  have HT3 : Hid (Touch q w w3) := HT1'.out.trans ht
  have HA3 := hid ha
  clear hw ht ha HN2 x0 x1 HR1 HR1' HZ1 HZ1' HO1 HA1 HT1 HT1' HA0 HB0
  have o0 := blk_cell HO3.out 0
  have o1 := blk_cell HO3.out 1
  have o2 := blk_cell HO3.out 2
  have o3 := blk_cell HO3.out 3
  have ofz := blk_frozen HO3.out
  have r0 := blk_cell HR3.out 0
  have r1 := blk_cell HR3.out 1
  have r2 := blk_cell HR3.out 2
  have r3 := blk_cell HR3.out 3
  have rf := blk_frozen HR3.out
  have hne : w.heap.size + 1 ≠ w1.heap.size := by omega
  go_wp2_with fail
  refine bodyPost_ret (results_cell Tryd.results35 rfl rfl (vload28 (set4' ((Below.heap_setCell w3 ⟨w1.heap.size, 1, none⟩ _ _ hne).trans HR3.out) _ _ _ _))) rfl ⟨none, 0, rfl, ?_, touch4 (Touch.setNew (p := ⟨w1.heap.size, 1, none⟩) HT3.out (by show w.heap.size ≤ w1.heap.size; omega) _) (by omega) _ _ _ _, Vd.leaf _ _ _ _ _ (by simp) _ _⟩
  exact at4 ((Below.heap_setCell w3 ⟨w1.heap.size, 1, none⟩ _ _ (by show q ≠ w1.heap.size; omega)).trans HA3.out) (by omega) _ _ _ _
set_option maxHeartbeats 1600000 in
theorem val_2_no (w : World) (q : Nat) (c : UInt8) (r : Bs) (tn : Int) (an at_ : Option Addr) (ln cn lt_ ct : Nat) (h : At w q (c :: r)) (hc : c.toNat = 2) (hl : rdC 1 r = none) : Calls Tryd.prog 35 #[tk q, .agg #[i64 2, i64 tn, .slice an ln cn, .slice at_ lt_ ct]] w (NoV q w) := by
  obtain ⟨HZa, HRa, hb0⟩ := two_boxes w (.cells #[i64 2, i64 tn, .slice an ln cn, .slice at_ lt_ ct] 25) z28
  have HZ := hid HZa
  have HR := hid HRa
  have HB0 := hid hb0
  have hz := zero28
  have hq := h.lt
  have HA0 := hid (at_below h hb0)
  have HN := hid (num_yes _ q 1 2 (c :: r) r HA0.out (by rw [rdN_one, hc]))
  clear HZa HRa hb0 h hc
  go_enter Tryd.func35, Tryd.ntmps35
  go_wp2_with fail
  refine HN.out.mono ?_
  rintro e w1 ⟨rfl, hw⟩
  have ht := At.touch ((w.alloc (.cells #[i64 2, i64 tn, .slice an ln cn, .slice at_ lt_ ct] 25)).alloc z28) q r
  have ha := HA0.out.set r
  rw [← hw] at ht ha
  have HZ1 := hid ((ht.block _ (blk_lt HZ.out) (by omega)).trans HZ.out)
  have HR1 := hid ((ht.block _ (blk_lt HR.out) (by omega)).trans HR.out)
  have HT1 : Hid (Touch q w w1) := (Touch.of_below HB0.out).trans ht
  have HO1 := hid (heap_last w1 (.cells #[i64 2, i64 0, str [], .slice none 0 0] 28))
  have HA1 := hid (at_below ha (below_one w1 (.cells #[i64 2, i64 0, str [], .slice none 0 0] 28)))
  have HZ1' := hid (blk_alloc HZ1.out (.cells #[i64 2, i64 0, str [], .slice none 0 0] 28))
  have HR1' := hid (blk_alloc HR1.out (.cells #[i64 2, i64 0, str [], .slice none 0 0] 28))
  have HT1' : Hid (Touch q w (w1.alloc (.cells #[i64 2, i64 0, str [], .slice none 0 0] 28))) := HT1.out.alloc _
  have hRl := blk_lt HR1.out
  have hZl := blk_lt HZ1.out
  have x0 := blk_cell HZ1.out 0
  have x1 := blk_cell HZ1.out 1
  clear hw ht ha HN
  have HN2 := hid (cnt_no _ q 1 r HA1.out (by omega) (by omega) hl)
  go_wp2_with fail
  refine HN2.out.mono ?_
  rintro e w3 ⟨rfl, ht⟩
  have HR3 : Hid (w3.heap[w.heap.size + 1]? = some z28) := (ht.block _ (blk_lt HR1'.out) (by omega)).trans HR1'.out
  have HO3 : Hid (w3.heap[w1.heap.size]? = some (.cells #[i64 2, i64 0, str [], .slice none 0 0] 28)) := (ht.block _ (blk_lt HO1.out) (by omega)).trans HO1.out
  have HT3 : Hid (Touch q w w3) := HT1'.out.trans ht
  clear ht HN2 x0 x1 HR1 HR1' HZ1 HZ1' HO1 HA1 HT1 HT1' HA0 HB0
  have o0 := blk_cell HO3.out 0
  have o1 := blk_cell HO3.out 1
  have o2 := blk_cell HO3.out 2
  have o3 := blk_cell HO3.out 3
  have ofz := blk_frozen HO3.out
  have r0 := blk_cell HR3.out 0
  have r1 := blk_cell HR3.out 1
  have r2 := blk_cell HR3.out 2
  have r3 := blk_cell HR3.out 3
  have rf := blk_frozen HR3.out
  have hne : w.heap.size + 1 ≠ w1.heap.size := by omega
  go_wp2_with fail
  exact bodyPost_ret (results_cell Tryd.results35 rfl rfl (vload28 (set4' ((Below.heap_setCell w3 ⟨w1.heap.size, 2, none⟩ _ _ hne).trans HR3.out) _ _ _ _))) rfl ⟨⟨_, _, _, _, _, _, rfl⟩, touch4 (Touch.setNew (p := ⟨w1.heap.size, 2, none⟩) HT3.out (by show w.heap.size ≤ w1.heap.size; omega) _) (by omega) _ _ _ _⟩
set_option maxHeartbeats 1600000 in
theorem val_2_yes (w : World) (q : Nat) (c : UInt8) (r t r2 : Bs) (tn : Int) (an at_ : Option Addr) (ln cn lt_ ct : Nat) (h : At w q (c :: r)) (hc : c.toNat = 2) (hl : rdC 1 r = some (t, r2)) (hm : t.length ≤ 100000) : Calls Tryd.prog 35 #[tk q, .agg #[i64 2, i64 tn, .slice an ln cn, .slice at_ lt_ ct]] w (YesV q w (.mk 2 0 t []) r2) := by
  obtain ⟨HZa, HRa, hb0⟩ := two_boxes w (.cells #[i64 2, i64 tn, .slice an ln cn, .slice at_ lt_ ct] 25) z28
  have HZ := hid HZa
  have HR := hid HRa
  have HB0 := hid hb0
  have hz := zero28
  have hq := h.lt
  have HA0 := hid (at_below h hb0)
  have HN := hid (num_yes _ q 1 2 (c :: r) r HA0.out (by rw [rdN_one, hc]))
  clear HZa HRa hb0 h hc
  go_enter Tryd.func35, Tryd.ntmps35
  go_wp2_with fail
  refine HN.out.mono ?_
  rintro e w1 ⟨rfl, hw⟩
  have ht := At.touch ((w.alloc (.cells #[i64 2, i64 tn, .slice an ln cn, .slice at_ lt_ ct] 25)).alloc z28) q r
  have ha := HA0.out.set r
  rw [← hw] at ht ha
  have HZ1 := hid ((ht.block _ (blk_lt HZ.out) (by omega)).trans HZ.out)
  have HR1 := hid ((ht.block _ (blk_lt HR.out) (by omega)).trans HR.out)
  have HT1 : Hid (Touch q w w1) := (Touch.of_below HB0.out).trans ht
  have HO1 := hid (heap_last w1 (.cells #[i64 2, i64 0, str [], .slice none 0 0] 28))
  have HA1 := hid (at_below ha (below_one w1 (.cells #[i64 2, i64 0, str [], .slice none 0 0] 28)))
  have HZ1' := hid (blk_alloc HZ1.out (.cells #[i64 2, i64 0, str [], .slice none 0 0] 28))
  have HR1' := hid (blk_alloc HR1.out (.cells #[i64 2, i64 0, str [], .slice none 0 0] 28))
  have HT1' : Hid (Touch q w (w1.alloc (.cells #[i64 2, i64 0, str [], .slice none 0 0] 28))) := HT1.out.alloc _
  have hRl := blk_lt HR1.out
  have hZl := blk_lt HZ1.out
  have x0 := blk_cell HZ1.out 0
  have x1 := blk_cell HZ1.out 1
  clear hw ht ha HN
  have HN2 := hid (cnt_yes _ q 1 r t r2 HA1.out hl)
  go_wp2_with fail
  refine HN2.out.mono ?_
  rintro e w3 ⟨rfl, ha, ht⟩
  have HR3 : Hid (w3.heap[w.heap.size + 1]? = some z28) := (ht.block _ (blk_lt HR1'.out) (by omega)).trans HR1'.out
  have HO3 : Hid (w3.heap[w1.heap.size]? = some (.cells #[i64 2, i64 0, str [], .slice none 0 0] 28)) := (ht.block _ (blk_lt HO1.out) (by omega)).trans HO1.out
  have HT3 : Hid (Touch q w w3) := HT1'.out.trans ht
  have HA3 := hid ha
  clear ht ha HN2 x0 x1 HR1 HR1' HZ1 HZ1' HO1 HA1 HT1 HT1' HA0 HB0
  have o0 := blk_cell HO3.out 0
  have o1 := blk_cell HO3.out 1
  have o2 := blk_cell HO3.out 2
  have o3 := blk_cell HO3.out 3
  have ofz := blk_frozen HO3.out
  have r0 := blk_cell HR3.out 0
  have r1 := blk_cell HR3.out 1
  have r2 := blk_cell HR3.out 2
  have r3 := blk_cell HR3.out 3
  have rf := blk_frozen HR3.out
  have hne : w.heap.size + 1 ≠ w1.heap.size := by omega
  go_wp2_with fail
  refine bodyPost_ret (results_cell Tryd.results35 rfl rfl (vload28 (set4' ((Below.heap_setCell w3 ⟨w1.heap.size, 2, none⟩ _ _ hne).trans HR3.out) _ _ _ _))) rfl ⟨none, 0, rfl, ?_, touch4 (Touch.setNew (p := ⟨w1.heap.size, 2, none⟩) HT3.out (by show w.heap.size ≤ w1.heap.size; omega) _) (by omega) _ _ _ _, Vd.leaf _ _ _ _ _ (by unfold maxLen; omega) _ _⟩
  exact at4 ((Below.heap_setCell w3 ⟨w1.heap.size, 2, none⟩ _ _ (by show q ≠ w1.heap.size; omega)).trans HA3.out) (by omega) _ _ _ _
end Go.Proofs.YtihbbgcpdgnhoaaDoor
