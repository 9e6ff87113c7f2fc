/- value of any type; no statement is proved in this text. -/
import Derived.Test.YtihbbgcpdgnhoaaDoorR3
namespace Go.Proofs.YtihbbgcpdgnhoaaDoor
open Go.ChangeShapes Go.WideShapes Go.ChangeAt Go.RowKit Go.Deep
attribute [local go_sem ↓] Go.wp_at_zero Go.wp_at_succ
set_option maxRecDepth 100000

set_option maxHeartbeats 1600000 in
theorem kids_short (w : World) (q : Nat) (l : Bs) (k tn : Int) (an at_ : Option Addr) (ln cn lt_ ct : Nat) (h : At w q l) (hl : l.length < 1) : Calls Tryd.prog 50 #[tk q, .agg #[i64 k, i64 tn, .slice an ln cn, .slice at_ lt_ ct]] w (KNo q w) := by
  have hb0 := below_one w (tyO k tn (.slice an ln cn) (.slice at_ lt_ ct))
  have HB0 := hid hb0
  have HN := hid (num_no _ q 1 l (at_below h hb0) hl)
  clear h hb0 hl
  go_enter Tryd.func50, Tryd.ntmps50
  go_wp2_with fail
  refine HN.out.mono ?_
  rintro e w1 ⟨rfl, hw⟩
  subst hw
  go_wp2_with fail
  go_ret2
  exact ⟨rfl, Touch.of_below HB0.out⟩
set_option maxHeartbeats 1600000 in
theorem kids_count (w : World) (q m : Nat) (c : UInt8) (r : Bs) (tn : Int) (an at_ : Option Addr) (ln cn lt_ ct : Nat) (h : At w q (c :: r)) (hc : c.toNat = m) (hm : m ≠ lt_) : Calls Tryd.prog 50 #[tk q, .agg #[i64 4, i64 tn, .slice an ln cn, .slice at_ lt_ ct]] w (KNo q w) := by
  have hb0 := below_one w (tyO 4 tn (.slice an ln cn) (.slice at_ lt_ ct))
  have HB0 := hid hb0
  have hq := h.lt
  have HA0 := hid (at_below h hb0)
  have HN := hid (num_yes _ q 1 m (c :: r) r HA0.out (by rw [rdN_one, hc]))
  have hmI : ¬ (m : Int) = (lt_ : Int) := by omega
  have hmb : ((m : Int) != (lt_ : Int)) = true := by rw [bne, beq_false_of_ne hmI]; rfl
  clear h hb0 hc hm
  go_enter Tryd.func50, Tryd.ntmps50
  go_wp2_with fail
  refine HN.out.mono ?_
  rintro e w1 ⟨rfl, hw⟩
  have ht := At.touch (w.alloc (tyO 4 tn (.slice an ln cn) (.slice at_ lt_ ct))) q r
  rw [← hw] at ht
  have HT : Hid (Touch q w w1) := (Touch.of_below HB0.out).trans ht
  have HO : Hid (w1.heap[w.heap.size]? = some (tyO 4 tn (.slice an ln cn) (.slice at_ lt_ ct))) := (ht.block _ (by simp) (by omega)).trans (heap_last w _)
  have x0 := blk_cell HO.out 0
  have x3 := blk_cell HO.out 3
  clear hw ht
  go_wp2_with fail
  go_ret2
  exact ⟨rfl, HT.out⟩
theorem rdN_none {k : Nat} {l : Bs} (h1 : 1 ≤ k) (h4 : k ≤ 4) (h : rdN k l = none) : l.length < k := by
  unfold rdN at h
  split at h
  · cases h
  · omega
def mapK (k : Int) : Option (List Vl × Bs) → Option (Vl × Bs)
  | none => none
  | some (L, p) => some (.mk k 0 [] L, p)
set_option maxHeartbeats 3200000 in
theorem val_3_any (w : World) (q : Nat) (c : UInt8) (r : Bs) (tn : Int) (an at_ : Option Addr) (ln cn lt_ ct : Nat) (X : Option (List Vl × Bs)) (h : At w q (c :: r)) (hc : c.toNat = 3) (hK : ∀ V, Touch q w V → At V q r → Calls Tryd.prog 50 #[tk q, .agg #[i64 3, i64 tn, .slice an ln cn, .slice at_ lt_ ct]] V (KOk q V 3 X)) : Calls Tryd.prog 35 #[tk q, .agg #[i64 3, i64 tn, .slice an ln cn, .slice at_ lt_ ct]] w (VOk q w (mapK 3 X)) := by
  obtain ⟨HZa, HRa, hb0⟩ := two_boxes w (.cells #[i64 3, i64 tn, .slice an ln cn, .slice at_ lt_ ct] 25) z28
  have HZ := hid HZa
  have HR := hid HRa
  have HB0 := hid hb0
  have hz := zero28
  have hq := h.lt
  have HA0 := hid (at_below h hb0)
  have HK := hid hK
  have HN := hid (num_yes _ q 1 3 (c :: r) r HA0.out (by rw [rdN_one, hc]))
  clear HZa HRa hb0 h hc hK
  go_enter Tryd.func35, Tryd.ntmps35
  go_wp2_with fail
  refine HN.out.mono ?_
  rintro e w1 ⟨rfl, hw⟩
  have ht := At.touch ((w.alloc (.cells #[i64 3, i64 tn, .slice an ln cn, .slice at_ lt_ ct] 25)).alloc z28) q r
  have ha := HA0.out.set r
  rw [← hw] at ht ha
  have HZ1 := hid ((ht.block _ (blk_lt HZ.out) (by omega)).trans HZ.out)
  have HR1 := hid ((ht.block _ (blk_lt HR.out) (by omega)).trans HR.out)
  have HT1 : Hid (Touch q w w1) := (Touch.of_below HB0.out).trans ht
  have HO1 := hid (heap_last w1 (.cells #[i64 3, i64 0, str [], .slice none 0 0] 28))
  have HA1 := hid (at_below ha (below_one w1 (.cells #[i64 3, i64 0, str [], .slice none 0 0] 28)))
  have HZ1' := hid (blk_alloc HZ1.out (.cells #[i64 3, i64 0, str [], .slice none 0 0] 28))
  have HR1' := hid (blk_alloc HR1.out (.cells #[i64 3, i64 0, str [], .slice none 0 0] 28))
  have HT1' : Hid (Touch q w (w1.alloc (.cells #[i64 3, i64 0, str [], .slice none 0 0] 28))) := HT1.out.alloc _
  have hsz1 : (w1.alloc (.cells #[i64 3, i64 0, str [], .slice none 0 0] 28)).heap.size = w1.heap.size + 1 := by simp
  have hRl := blk_lt HR1.out
  have hZl := blk_lt HZ1.out
  have x0 := blk_cell HZ1.out 0
  have x1 := blk_cell HZ1.out 1
  have x2 := blk_cell HZ1.out 2
  have x3 := blk_cell HZ1.out 3
  have HC := hid (HK.out _ HT1'.out HA1.out)
  clear hw ht ha HN HK
  go_wp2_with fail
  refine HC.out.mono ?_
  clear HC
  cases X with
  | none =>
    rintro e w3 ⟨rfl, ht⟩
    have HR3 : Hid (w3.heap[w.heap.size + 1]? = some z28) := (ht.block _ (blk_lt HR1'.out) (by omega)).trans HR1'.out
    have HO3 : Hid (w3.heap[w1.heap.size]? = some (.cells #[i64 3, i64 0, str [], .slice none 0 0] 28)) := (ht.block _ (blk_lt HO1.out) (by omega)).trans HO1.out
    have HT3 : Hid (Touch q w w3) := HT1'.out.trans ht
    clear ht x0 x1 x2 x3 HR1 HR1' HZ1 HZ1' HO1 HA1 HT1 HT1' HA0 HB0
    have o0 := blk_cell HO3.out 0
    have o1 := blk_cell HO3.out 1
    have o2 := blk_cell HO3.out 2
    have o3 := blk_cell HO3.out 3
    have ofz := blk_frozen HO3.out
    have r0 := blk_cell HR3.out 0
    have r1 := blk_cell HR3.out 1
    have r2 := blk_cell HR3.out 2
    have r3 := blk_cell HR3.out 3
    have rf := blk_frozen HR3.out
    have hne : w.heap.size + 1 ≠ w1.heap.size := by omega
    go_wp2_with fail
    exact bodyPost_ret (results_cell Tryd.results35 rfl rfl (vload28 (set4' ((Below.heap_setCell w3 ⟨w1.heap.size, 3, none⟩ _ _ hne).trans HR3.out) _ _ _ _))) rfl ⟨⟨_, _, _, _, _, _, rfl⟩, touch4 (Touch.setNew (p := ⟨w1.heap.size, 3, none⟩) HT3.out (by show w.heap.size ≤ w1.heap.size; omega) _) (by omega) _ _ _ _⟩
  | some y =>
    obtain ⟨L, p⟩ := y
    rintro e w3 ⟨a9, c9, rfl, ha, ht, hv⟩
    have HR3 : Hid (w3.heap[w.heap.size + 1]? = some z28) := (ht.block _ (blk_lt HR1'.out) (by omega)).trans HR1'.out
    have HO3 : Hid (w3.heap[w1.heap.size]? = some (.cells #[i64 3, i64 0, str [], .slice none 0 0] 28)) := (ht.block _ (blk_lt HO1.out) (by omega)).trans HO1.out
    have HT3 : Hid (Touch q w w3) := HT1'.out.trans ht
    have HA3 := hid ha
    have HV3 : Hid (Vd w3 (fun b => w1.heap.size + 1 ≤ b) (.mk 3 0 [] L) (.slice a9 L.length c9)) := by rw [hsz1] at hv; exact hv
    clear ht ha hv x0 x1 x2 x3 HR1 HR1' HZ1 HZ1' HO1 HA1 HT1 HT1' HA0 HB0
    have o0 := blk_cell HO3.out 0
    have o1 := blk_cell HO3.out 1
    have o2 := blk_cell HO3.out 2
    have o3 := blk_cell HO3.out 3
    have ofz := blk_frozen HO3.out
    have r0 := blk_cell HR3.out 0
    have r1 := blk_cell HR3.out 1
    have r2 := blk_cell HR3.out 2
    have r3 := blk_cell HR3.out 3
    have rf := blk_frozen HR3.out
    have hne : w.heap.size + 1 ≠ w1.heap.size := by omega
    go_wp2_with fail
    refine bodyPost_ret (results_cell Tryd.results35 rfl rfl (vload28 (set4' ((Below.heap_setCell w3 ⟨w1.heap.size, 3, none⟩ _ _ hne).trans HR3.out) _ _ _ _))) rfl ⟨a9, c9, rfl, ?_, touch4 (Touch.setNew (p := ⟨w1.heap.size, 3, none⟩) HT3.out (by show w.heap.size ≤ w1.heap.size; omega) _) (by omega) _ _ _ _, ?_⟩
    · exact at4 ((Below.heap_setCell w3 ⟨w1.heap.size, 3, none⟩ _ _ (by show q ≠ w1.heap.size; omega)).trans HA3.out) (by omega) _ _ _ _
    · refine HV3.out.move (by simp [World.setCell]) (fun b hb _ => ⟨by omega, ?_⟩)
      have e1 : b ≠ w.heap.size + 1 := by omega
      have e2 : b ≠ w1.heap.size := by omega
      rw [Below.heap_setCell _ _ _ _ (show b ≠ w.heap.size + 1 from e1), Below.heap_setCell _ _ _ _ (show b ≠ w.heap.size + 1 from e1), Below.heap_setCell _ _ _ _ (show b ≠ w.heap.size + 1 from e1), Below.heap_setCell _ _ _ _ (show b ≠ w.heap.size + 1 from e1), Below.heap_setCell _ _ _ _ (show b ≠ w1.heap.size from e2)]
set_option maxHeartbeats 3200000 in
theorem val_4_any (w : World) (q : Nat) (c : UInt8) (r : Bs) (tn : Int) (an at_ : Option Addr) (ln cn lt_ ct : Nat) (X : Option (List Vl × Bs)) (h : At w q (c :: r)) (hc : c.toNat = 4) (hK : ∀ V, Touch q w V → At V q r → Calls Tryd.prog 50 #[tk q, .agg #[i64 4, i64 tn, .slice an ln cn, .slice at_ lt_ ct]] V (KOk q V 4 X)) : Calls Tryd.prog 35 #[tk q, .agg #[i64 4, i64 tn, .slice an ln cn, .slice at_ lt_ ct]] w (VOk q w (mapK 4 X)) := by
  obtain ⟨HZa, HRa, hb0⟩ := two_boxes w (.cells #[i64 4, i64 tn, .slice an ln cn, .slice at_ lt_ ct] 25) z28
  have HZ := hid HZa
  have HR := hid HRa
  have HB0 := hid hb0
  have hz := zero28
  have hq := h.lt
  have HA0 := hid (at_below h hb0)
  have HK := hid hK
  have HN := hid (num_yes _ q 1 4 (c :: r) r HA0.out (by rw [rdN_one, hc]))
  clear HZa HRa hb0 h hc hK
  go_enter Tryd.func35, Tryd.ntmps35
  go_wp2_with fail
  refine HN.out.mono ?_
  rintro e w1 ⟨rfl, hw⟩
  have ht := At.touch ((w.alloc (.cells #[i64 4, i64 tn, .slice an ln cn, .slice at_ lt_ ct] 25)).alloc z28) q r
  have ha := HA0.out.set r
  rw [← hw] at ht ha
  have HZ1 := hid ((ht.block _ (blk_lt HZ.out) (by omega)).trans HZ.out)
  have HR1 := hid ((ht.block _ (blk_lt HR.out) (by omega)).trans HR.out)
  have HT1 : Hid (Touch q w w1) := (Touch.of_below HB0.out).trans ht
  have HO1 := hid (heap_last w1 (.cells #[i64 4, i64 0, str [], .slice none 0 0] 28))
  have HA1 := hid (at_below ha (below_one w1 (.cells #[i64 4, i64 0, str [], .slice none 0 0] 28)))
  have HZ1' := hid (blk_alloc HZ1.out (.cells #[i64 4, i64 0, str [], .slice none 0 0] 28))
  have HR1' := hid (blk_alloc HR1.out (.cells #[i64 4, i64 0, str [], .slice none 0 0] 28))
  have HT1' : Hid (Touch q w (w1.alloc (.cells #[i64 4, i64 0, str [], .slice none 0 0] 28))) := HT1.out.alloc _
  have hsz1 : (w1.alloc (.cells #[i64 4, i64 0, str [], .slice none 0 0] 28)).heap.size = w1.heap.size + 1 := by simp
  have hRl := blk_lt HR1.out
  have hZl := blk_lt HZ1.out
  have x0 := blk_cell HZ1.out 0
  have x1 := blk_cell HZ1.out 1
  have x2 := blk_cell HZ1.out 2
  have x3 := blk_cell HZ1.out 3
  have HC := hid (HK.out _ HT1'.out HA1.out)
  clear hw ht ha HN HK
  go_wp2_with fail
  refine HC.out.mono ?_
  clear HC
  cases X with
  | none =>
    rintro e w3 ⟨rfl, ht⟩
    have HR3 : Hid (w3.heap[w.heap.size + 1]? = some z28) := (ht.block _ (blk_lt HR1'.out) (by omega)).trans HR1'.out
    have HO3 : Hid (w3.heap[w1.heap.size]? = some (.cells #[i64 4, i64 0, str [], .slice none 0 0] 28)) := (ht.block _ (blk_lt HO1.out) (by omega)).trans HO1.out
    have HT3 : Hid (Touch q w w3) := HT1'.out.trans ht
    clear ht x0 x1 x2 x3 HR1 HR1' HZ1 HZ1' HO1 HA1 HT1 HT1' HA0 HB0
    have o0 := blk_cell HO3.out 0
    have o1 := blk_cell HO3.out 1
    have o2 := blk_cell HO3.out 2
    have o3 := blk_cell HO3.out 3
    have ofz := blk_frozen HO3.out
    have r0 := blk_cell HR3.out 0
    have r1 := blk_cell HR3.out 1
    have r2 := blk_cell HR3.out 2
    have r3 := blk_cell HR3.out 3
    have rf := blk_frozen HR3.out
    have hne : w.heap.size + 1 ≠ w1.heap.size := by omega
    go_wp2_with fail
    exact bodyPost_ret (results_cell Tryd.results35 rfl rfl (vload28 (set4' ((Below.heap_setCell w3 ⟨w1.heap.size, 3, none⟩ _ _ hne).trans HR3.out) _ _ _ _))) rfl ⟨⟨_, _, _, _, _, _, rfl⟩, touch4 (Touch.setNew (p := ⟨w1.heap.size, 3, none⟩) HT3.out (by show w.heap.size ≤ w1.heap.size; omega) _) (by omega) _ _ _ _⟩
  | some y =>
    obtain ⟨L, p⟩ := y
    rintro e w3 ⟨a9, c9, rfl, ha, ht, hv⟩
    have HR3 : Hid (w3.heap[w.heap.size + 1]? = some z28) := (ht.block _ (blk_lt HR1'.out) (by omega)).trans HR1'.out
    have HO3 : Hid (w3.heap[w1.heap.size]? = some (.cells #[i64 4, i64 0, str [], .slice none 0 0] 28)) := (ht.block _ (blk_lt HO1.out) (by omega)).trans HO1.out
    have HT3 : Hid (Touch q w w3) := HT1'.out.trans ht
    have HA3 := hid ha
    have HV3 : Hid (Vd w3 (fun b => w1.heap.size + 1 ≤ b) (.mk 4 0 [] L) (.slice a9 L.length c9)) := by rw [hsz1] at hv; exact hv
    clear ht ha hv x0 x1 x2 x3 HR1 HR1' HZ1 HZ1' HO1 HA1 HT1 HT1' HA0 HB0
    have o0 := blk_cell HO3.out 0
    have o1 := blk_cell HO3.out 1
    have o2 := blk_cell HO3.out 2
    have o3 := blk_cell HO3.out 3
    have ofz := blk_frozen HO3.out
    have r0 := blk_cell HR3.out 0
    have r1 := blk_cell HR3.out 1
    have r2 := blk_cell HR3.out 2
    have r3 := blk_cell HR3.out 3
    have rf := blk_frozen HR3.out
    have hne : w.heap.size + 1 ≠ w1.heap.size := by omega
    go_wp2_with fail
    refine bodyPost_ret (results_cell Tryd.results35 rfl rfl (vload28 (set4' ((Below.heap_setCell w3 ⟨w1.heap.size, 3, none⟩ _ _ hne).trans HR3.out) _ _ _ _))) rfl ⟨a9, c9, rfl, ?_, touch4 (Touch.setNew (p := ⟨w1.heap.size, 3, none⟩) HT3.out (by show w.heap.size ≤ w1.heap.size; omega) _) (by omega) _ _ _ _, ?_⟩
    · exact at4 ((Below.heap_setCell w3 ⟨w1.heap.size, 3, none⟩ _ _ (by show q ≠ w1.heap.size; omega)).trans HA3.out) (by omega) _ _ _ _
    · refine HV3.out.move (by simp [World.setCell]) (fun b hb _ => ⟨by omega, ?_⟩)
      have e1 : b ≠ w.heap.size + 1 := by omega
      have e2 : b ≠ w1.heap.size := by omega
      rw [Below.heap_setCell _ _ _ _ (show b ≠ w.heap.size + 1 from e1), Below.heap_setCell _ _ _ _ (show b ≠ w.heap.size + 1 from e1), Below.heap_setCell _ _ _ _ (show b ≠ w.heap.size + 1 from e1), Below.heap_setCell _ _ _ _ (show b ≠ w.heap.size + 1 from e1), Below.heap_setCell _ _ _ _ (show b ≠ w1.heap.size from e2)]
def kidsR (f : Nat) (T : Ty) (r : Bs) : Option (List Vl × Bs) := match rdN 1 r with
  | none => none
  | some (m, q) => if T.kind = 4 ∧ m ≠ T.kids.length then none else rdL (rdV f) T 0 m q
theorem rdV_kids (f : Nat) (T : Ty) (c : UInt8) (r : Bs) (hc : (c.toNat : Int) = T.kind) (h1 : T.kind ≠ 1) (h2 : T.kind ≠ 2) : rdV (f + 1) T (c :: r) = mapK T.kind (kidsR f T r) := by
  rw [rdV, rdN_one]
  simp only []
  rw [if_neg (by simp [hc]), if_neg h1, if_neg h2]
  unfold kidsR
  cases rdN 1 r with
  | none => rfl
  | some x =>
    obtain ⟨m, q⟩ := x
    simp only []
    by_cases h : T.kind = 4 ∧ m ≠ T.kids.length
    · rw [if_pos h, if_pos h]; rfl
    · rw [if_neg h, if_neg h]
      cases rdL (rdV f) T 0 m q <;> rfl
theorem kids_ok (f : Nat) (ih : ∀ (T : Ty), T.depth ≤ f → T.formed = true → ∀ (w : World) (q : Nat) (l : Bs) (nv kv : Value), At w q l → Rd w (fun b => b ≠ q) T nv kv → Calls Tryd.prog 35 #[tk q, tyV T.kind T.num nv kv] w (VOk q w (rdV f T l)))
    (w : World) (q : Nat) (l : Bs) (T : Ty) (an at_ : Option Addr) (ln cn ct : Nat) (h : At w q l) (hTk : T.kind = 3 ∨ T.kind = 4) (hTf : T.formed = true) (hd : T.depth ≤ f + 1) (hR : Rd w (fun b => b ≠ q) T (.slice an ln cn) (.slice at_ T.kids.length ct)) : Calls Tryd.prog 50 #[tk q, .agg #[i64 T.kind, i64 T.num, .slice an ln cn, .slice at_ T.kids.length ct]] w (KOk q w T.kind (kidsR f T l)) := by
  unfold kidsR
  cases l with
  | nil => exact kids_short w q [] _ _ _ _ _ _ _ _ h (by simp)
  | cons c r =>
    rw [rdN_one]
    simp only []
    rcases hTk with h3 | h4
    · have hn := node_3 hTf h3
      rw [if_neg (by omega)]
      have := kids_3 f ih w q c.toNat c r T.num T an at_ ln cn _ ct h rfl h3 rfl hTf hd (fun _ => by omega) (fun e => absurd h3 e) hR
      rw [h3]
      exact this
    · by_cases hm : c.toNat = T.kids.length
      · rw [if_neg (fun e => e.2 hm)]
        have := kids_4 f ih w q c.toNat c r T.num T an at_ ln cn ct h rfl h4 rfl hTf hd (fun e => by omega) (fun _ => hm) (by rw [hm]; exact hR)
        rw [h4]
        rw [hm] at this ⊢
        exact this
      · rw [if_pos ⟨h4, hm⟩]
        have := kids_count w q c.toNat c r T.num an at_ ln cn _ ct h rfl hm
        rw [h4]
        exact this
theorem value_ok : ∀ (f : Nat) (T : Ty), T.depth ≤ f → T.formed = true → ∀ (w : World) (q : Nat) (l : Bs) (nv kv : Value), At w q l → Rd w (fun b => b ≠ q) T nv kv → Calls Tryd.prog 35 #[tk q, tyV T.kind T.num nv kv] w (VOk q w (rdV f T l))
  | 0, T, hd, _ => by cases T; simp only [Ty.depth] at hd; omega
  | f + 1, T, hd, hf => by
    intro w q l nv kv h hR
    obtain ⟨an, cn, rfl, at_, ct, rfl⟩ := hR.form
    show Calls Tryd.prog 35 #[tk q, .agg #[i64 T.kind, i64 T.num, .slice an T.names.length cn, .slice at_ T.kids.length ct]] w _
    cases l with
    | nil => exact val_short w q [] _ _ _ _ _ _ _ _ h (by simp)
    | cons c r =>
      by_cases hc : (c.toNat : Int) = T.kind
      · rcases node_kind hf with h1 | h2 | h3 | h4
        · rw [rdV, rdN_one]
          simp only []
          rw [if_neg (by simp [hc]), if_pos h1]
          rw [h1] at hc ⊢
          have hc1 : c.toNat = 1 := by omega
          rcases node_1 hf h1 with hn | hn | hn
          · rw [hn]
            show Calls _ _ _ _ (VOk q w (match rdN 1 r with | none => none | some (n, q) => some (.mk 1 n [] [], q)))
            cases hr : rdN 1 r with
            | none => exact val_1_8_no w q c r _ _ _ _ _ _ h hc1 (rdN_none (by omega) (by omega) hr)
            | some x =>
              obtain ⟨n, r2⟩ := x
              exact val_1_8_yes w q n c r r2 _ _ _ _ _ _ h hc1 hr
          · rw [hn]
            show Calls _ _ _ _ (VOk q w (match rdN 2 r with | none => none | some (n, q) => some (.mk 1 n [] [], q)))
            cases hr : rdN 2 r with
            | none => exact val_1_16_no w q c r _ _ _ _ _ _ h hc1 (rdN_none (by omega) (by omega) hr)
            | some x =>
              obtain ⟨n, r2⟩ := x
              exact val_1_16_yes w q n c r r2 _ _ _ _ _ _ h hc1 hr
          · rw [hn]
            show Calls _ _ _ _ (VOk q w (match rdN 4 r with | none => none | some (n, q) => some (.mk 1 n [] [], q)))
            cases hr : rdN 4 r with
            | none => exact val_1_32_no w q c r _ _ _ _ _ _ h hc1 (rdN_none (by omega) (by omega) hr)
            | some x =>
              obtain ⟨n, r2⟩ := x
              exact val_1_32_yes w q n c r r2 _ _ _ _ _ _ h hc1 hr
        · rw [rdV, rdN_one]
          simp only []
          rw [if_neg (by simp [hc]), if_neg (by omega), if_pos h2]
          rw [h2] at hc ⊢
          have hc2 : c.toNat = 2 := by omega
          cases hr : rdC 1 r with
          | none => exact val_2_no w q c r _ _ _ _ _ _ _ h hc2 hr
          | some x =>
            obtain ⟨t, r2⟩ := x
            have ht : t.length ≤ 100000 := by
              cases r with
              | nil => simp [rdC, rdN] at hr
              | cons d r3 =>
                unfold rdC at hr
                rw [rdN_one] at hr
                simp only [] at hr
                split at hr
                · simp only [Option.some.injEq, Prod.mk.injEq] at hr
                  obtain ⟨rfl, rfl⟩ := hr
                  have := UInt8.toNat_lt d
                  rw [List.length_take]
                  omega
                · cases hr
            exact val_2_yes w q c r t r2 _ _ _ _ _ _ _ h hc2 hr ht
        · rw [rdV_kids f T c r hc (by omega) (by omega)]
          have hk := fun V ht ha => kids_ok f (value_ok f) V q r T an at_ _ cn ct ha (.inl h3) hf hd (hR.touch ht)
          rw [h3] at hc hk ⊢
          exact val_3_any w q c r _ _ _ _ _ _ _ _ h (by omega) hk
        · rw [rdV_kids f T c r hc (by omega) (by omega)]
          have hk := fun V ht ha => kids_ok f (value_ok f) V q r T an at_ _ cn ct ha (.inr h4) hf hd (hR.touch ht)
          rw [h4] at hc hk ⊢
          exact val_4_any w q c r _ _ _ _ _ _ _ _ h (by omega) hk
      · rw [rdV, rdN_one]
        simp only []
        rw [if_pos hc]
        exact val_tag w q c r _ _ _ _ _ _ _ _ h hc
end Go.Proofs.YtihbbgcpdgnhoaaDoor
