/- imagoref09.Table's got, Mint, Derive: contracts; no statement is proved in this text. -/
import Derived.Test.YtcffodkpflfeoaaRPut
namespace Go.Proofs.Ytcffodkpflfeoaa
open Go.ChangeShapes Go.WideShapes Go.ChangeAt Go.RowKit Go.Deep
attribute [local go_sem ↓] Go.wp_at_zero Go.wp_at_succ

theorem results_one {W : World} {t : Array Value} {a : Addr} {u : Value} {F : Func} {n : Nat} {ty : TypeId} (hr : F.results = #[.cell n ty]) (h6 : t.getD n undef = .pointer (some a)) (g : (loadVar ty a).run Try.prog W = .ok u W) :
    (results F t).run Try.prog W = .ok u W := by
  simp only [results, hr]
  simp [asAddr, h6, g, -Array.getD_eq_getD_getElem?]
abbrev gO (s g e : Int) : Obj := .cells #[i64 s, i64 g, i64 e] 75
theorem load75 {W : World} {b : Nat} {s g e : Int} (h : W.heap[b]? = some (gO s g e)) : (loadVar 75 ⟨b, 0, none⟩).run Try.prog W = .ok (.agg #[i64 s, i64 g, i64 e]) W := by
  refine run_loadVar_mid _ _ 0 75 [i64 s, i64 g, i64 e] _ (fun j v hv => ?_) Try.underlying75 rfl (by kernel_rfl)
  rw [Nat.zero_add, cell_of_row _ _ _ _ 75 (0, 0) h]
  simpa using hv
theorem set3 {V : World} {b : Nat} {x y z : Value} {t : TypeId} (h : V.heap[b]? = some (.cells #[x, y, z] t)) (s g e : Value) : (((V.setCell ⟨b, 0, none⟩ s).setCell ⟨b, 1, none⟩ g).setCell ⟨b, 2, none⟩ e).heap[b]? = some (.cells #[s, g, e] t) := by
  have h1 := heap_setCell_same V b 0 _ t s h
  have h2 := heap_setCell_same _ b 1 _ t g h1
  have h3 := heap_setCell_same _ b 2 _ t e h2
  simpa using h3
theorem bel3 {w V : World} {B b : Nat} (h : Below B w V) (hb : B ≤ b) (s g e : Value) : Below B w (((V.setCell ⟨b, 0, none⟩ s).setCell ⟨b, 1, none⟩ g).setCell ⟨b, 2, none⟩ e) := ((h.setCell hb _).setCell hb _).setCell hb _
structure SqG (r g k : Nat) (v : Value) (p : Rw) (W : World) : Prop where
  s0 : W.cell? ⟨r, 0, none⟩ = some v
  s4 : W.cell? ⟨g, k * 8 + 4, none⟩ = some (i64 p.sl)
  s5 : W.cell? ⟨g, k * 8 + 5, none⟩ = some (i64 p.gn)
set_option maxRecDepth 100000 in
set_option maxHeartbeats 3200000 in
theorem rgot_ok {w : World} {base r : Nat} {L : List Rw} (h : Rb w base r L) (hl : L.length ≤ 1000) (k : Nat) (p : Rw) (hp : L[k]? = some p) :
    Calls Try.prog 45 #[pq r, i64 (k : Nat)] w fun e w' => e = .returned (.agg #[i64 p.sl, i64 p.gn, i64 0]) ∧ Below w.heap.size w w' := by
  obtain ⟨V, hV⟩ : ∃ V, V = w.alloc (gO 0 0 0) := ⟨_, rfl⟩
  have HV : Hid (w.alloc (.cells #[i64 0, i64 0, i64 0] 75) = V) := hV.symm
  have hbV : Below w.heap.size w V := by rw [hV]; exact below_one w _
  have HQ : Hid (V.heap[w.heap.size]? = some (gO 0 0 0)) := by rw [hV]; exact heap_last w _
  have hkL : k < L.length := (List.getElem?_eq_some_iff.1 hp).1
  obtain ⟨ao, cap, hbk, _, hcap, hrow⟩ := (h.below hbV).row
  obtain ⟨g, rfl, _, hgl, _, _, hc⟩ := hrow k p hp
  obtain ⟨N, hN⟩ : ∃ N, N = L.length := ⟨_, rfl⟩
  rw [← hN] at hbk hcap hkL hl
  have hkI : (k : Int) < N := by omega
  have hcI : (N : Int) ≤ cap := by omega
  have hNI : (N : Int) ≤ 1000 := by omega
  have HS : Hid (SqG r g k (.slice (some ⟨g, 0, none⟩) N cap) p V.drew) := ⟨blk_cell hbk 0, hc 4 (by omega), hc 5 (by omega)⟩
  have HBV := hid hbV
  have HTH : Hid (V.drew.there w.heap.size 0 3) := fun j hj => ⟨by
    rw [show V.drew.cell? ⟨w.heap.size, 0 + j, none⟩ = _ from blk_cell HQ.out (0 + j), Nat.zero_add]
    match j, hj with
    | 0, _ => rfl
    | 1, _ => rfl
    | 2, _ => rfl, blk_frozen HQ.out _⟩
  clear h hV hbV hp hbk hrow hc hN
  go_enter Try.func45, Try.ntmps45
  go_upto_region 3 with fail
  rw [HV.out]
  refine wp_region_noPanic ?_
  refine wp_region_last (SqG r g k (.slice (some ⟨g, 0, none⟩) N cap) p) 18 (by kernel_rfl) ?_
  refine wpL_take 0 8 (pq r) [] rfl rfl (by kernel_rfl) (by decide) (by kernel_rfl) (by kernel_rfl) (by kernel_rfl) (fun _ _ _ h => h) HS.out (by rfl) (fun W hW => by obtain ⟨s0, s4, s5⟩ := hW; go_simp) ?_
  simp only [Act.put, List.setIfInBounds_toArray, List.set_cons_zero, List.set_cons_succ]
  refine wpL_take 1 9 (pq r) [] rfl rfl (by kernel_rfl) (by decide) (by kernel_rfl) (by kernel_rfl) (by kernel_rfl) (fun _ _ _ h => h) HS.out (by rfl) (fun W hW => by obtain ⟨s0, s4, s5⟩ := hW; go_simp) ?_
  simp only [Act.put, List.setIfInBounds_toArray, List.set_cons_zero, List.set_cons_succ]
  refine wpL_take 2 10 (pq r) [] rfl rfl (by kernel_rfl) (by decide) (by kernel_rfl) (by kernel_rfl) (by kernel_rfl) (fun _ _ _ h => h) HS.out (by rfl) (fun W hW => by obtain ⟨s0, s4, s5⟩ := hW; go_simp) ?_
  simp only [Act.put, List.setIfInBounds_toArray, List.set_cons_zero, List.set_cons_succ]
  refine wpL_take 3 11 (.slice (some ⟨g, 0, none⟩) N cap) [] rfl rfl (by kernel_rfl) (by decide) (by kernel_rfl) (by kernel_rfl) (by kernel_rfl) (fun _ _ _ h => h) HS.out (by rfl) (fun W hW => by obtain ⟨s0, s4, s5⟩ := hW; go_simp) ?_
  simp only [Act.put, List.setIfInBounds_toArray, List.set_cons_zero, List.set_cons_succ]
  refine wpL_take 4 12 (i64 (k : Nat)) [] rfl rfl (by kernel_rfl) (by decide) (by kernel_rfl) (by kernel_rfl) (by kernel_rfl) (fun _ _ _ h => h) HS.out (by rfl) (fun W hW => by obtain ⟨s0, s4, s5⟩ := hW; go_simp) ?_
  simp only [Act.put, List.setIfInBounds_toArray, List.set_cons_zero, List.set_cons_succ]
  refine wpL_take 5 13 (.pointer (some ⟨g, k * 8, none⟩)) [] rfl rfl (by kernel_rfl) (by decide) (by kernel_rfl) (by kernel_rfl) (by kernel_rfl) (fun _ _ _ h => h) HS.out (by rfl) (fun W hW => by obtain ⟨s0, s4, s5⟩ := hW; go_simp) ?_
  simp only [Act.put, List.setIfInBounds_toArray, List.set_cons_zero, List.set_cons_succ]
  refine wpL_take 6 14 (.pointer (some ⟨g, k * 8 + 4, none⟩)) [] rfl rfl (by kernel_rfl) (by decide) (by kernel_rfl) (by kernel_rfl) (by kernel_rfl) (fun _ _ _ h => h) HS.out (by rfl) (fun W hW => by obtain ⟨s0, s4, s5⟩ := hW; go_simp) ?_
  simp only [Act.put, List.setIfInBounds_toArray, List.set_cons_zero, List.set_cons_succ]
  refine wpL_take 7 15 (i64 p.sl) [] rfl rfl (by kernel_rfl) (by decide) (by kernel_rfl) (by kernel_rfl) (by kernel_rfl) (fun _ _ _ h => h) HS.out (by rfl) (fun W hW => by obtain ⟨s0, s4, s5⟩ := hW; go_simp) ?_
  simp only [Act.put, List.setIfInBounds_toArray, List.set_cons_zero, List.set_cons_succ]
  refine wpL_take 8 16 (pq r) [] rfl rfl (by kernel_rfl) (by decide) (by kernel_rfl) (by kernel_rfl) (by kernel_rfl) (fun _ _ _ h => h) HS.out (by rfl) (fun W hW => by obtain ⟨s0, s4, s5⟩ := hW; go_simp) ?_
  simp only [Act.put, List.setIfInBounds_toArray, List.set_cons_zero, List.set_cons_succ]
  refine wpL_take 9 17 (pq r) [] rfl rfl (by kernel_rfl) (by decide) (by kernel_rfl) (by kernel_rfl) (by kernel_rfl) (fun _ _ _ h => h) HS.out (by rfl) (fun W hW => by obtain ⟨s0, s4, s5⟩ := hW; go_simp) ?_
  simp only [Act.put, List.setIfInBounds_toArray, List.set_cons_zero, List.set_cons_succ]
  refine wpL_take 10 18 (pq r) [] rfl rfl (by kernel_rfl) (by decide) (by kernel_rfl) (by kernel_rfl) (by kernel_rfl) (fun _ _ _ h => h) HS.out (by rfl) (fun W hW => by obtain ⟨s0, s4, s5⟩ := hW; go_simp) ?_
  simp only [Act.put, List.setIfInBounds_toArray, List.set_cons_zero, List.set_cons_succ]
  refine wpL_take 11 19 (.slice (some ⟨g, 0, none⟩) N cap) [] rfl rfl (by kernel_rfl) (by decide) (by kernel_rfl) (by kernel_rfl) (by kernel_rfl) (fun _ _ _ h => h) HS.out (by rfl) (fun W hW => by obtain ⟨s0, s4, s5⟩ := hW; go_simp) ?_
  simp only [Act.put, List.setIfInBounds_toArray, List.set_cons_zero, List.set_cons_succ]
  refine wpL_take 12 20 (i64 (k : Nat)) [] rfl rfl (by kernel_rfl) (by decide) (by kernel_rfl) (by kernel_rfl) (by kernel_rfl) (fun _ _ _ h => h) HS.out (by rfl) (fun W hW => by obtain ⟨s0, s4, s5⟩ := hW; go_simp) ?_
  simp only [Act.put, List.setIfInBounds_toArray, List.set_cons_zero, List.set_cons_succ]
  refine wpL_take 13 21 (.pointer (some ⟨g, k * 8, none⟩)) [] rfl rfl (by kernel_rfl) (by decide) (by kernel_rfl) (by kernel_rfl) (by kernel_rfl) (fun _ _ _ h => h) HS.out (by rfl) (fun W hW => by obtain ⟨s0, s4, s5⟩ := hW; go_simp) ?_
  simp only [Act.put, List.setIfInBounds_toArray, List.set_cons_zero, List.set_cons_succ]
  refine wpL_take 14 22 (.pointer (some ⟨g, k * 8 + 5, none⟩)) [] rfl rfl (by kernel_rfl) (by decide) (by kernel_rfl) (by kernel_rfl) (by kernel_rfl) (fun _ _ _ h => h) HS.out (by rfl) (fun W hW => by obtain ⟨s0, s4, s5⟩ := hW; go_simp) ?_
  simp only [Act.put, List.setIfInBounds_toArray, List.set_cons_zero, List.set_cons_succ]
  refine wpL_take 15 23 (i64 p.gn) [] rfl rfl (by kernel_rfl) (by decide) (by kernel_rfl) (by kernel_rfl) (by kernel_rfl) (fun _ _ _ h => h) HS.out (by rfl) (fun W hW => by obtain ⟨s0, s4, s5⟩ := hW; go_simp) ?_
  simp only [Act.put, List.setIfInBounds_toArray, List.set_cons_zero, List.set_cons_succ]
  refine wpL_take 16 24 (.agg #[i64 p.sl, i64 p.gn]) [] rfl rfl (by kernel_rfl) (by decide) (by kernel_rfl) (by kernel_rfl) (by kernel_rfl) (fun _ _ _ h => h) HS.out (by rfl) (fun W hW => by obtain ⟨s0, s4, s5⟩ := hW; go_simp) ?_
  simp only [Act.put, List.setIfInBounds_toArray, List.set_cons_zero, List.set_cons_succ]
  refine wpL_take 17 25 (.agg #[i64 p.sl, i64 p.gn, i64 0]) [] rfl rfl (by kernel_rfl) (by decide) (by kernel_rfl) (by kernel_rfl) (by kernel_rfl) (fun _ _ _ h => h) HS.out (by rfl) (fun W hW => by obtain ⟨s0, s4, s5⟩ := hW; go_simp) ?_
  simp only [Act.put, List.setIfInBounds_toArray, List.set_cons_zero, List.set_cons_succ]
  refine wpL_one 18 rfl (by kernel_rfl) (by rfl) (fun K hK => ?_)
  refine wp_store_mid 75 (.tmp 4) (.tmp 25) rfl w.heap.size 0 #[i64 p.sl, i64 p.gn, i64 0] rfl rfl (by exact HTH.out) (by kernel_rfl) (all_oneCell_toArray (cs := [i64 p.sl, i64 p.gn, i64 0]) (by intro v hv; simp only [List.mem_cons, List.not_mem_nil, or_false] at hv; rcases hv with rfl | rfl | rfl <;> rfl)) ?_
  refine hK.out _ _ (fun h => absurd rfl h) ?_
  clear hK K
  refine wpL_done (by kernel_rfl) ?_
  refine NoPanic.normal ?_
  go_wp2_with fail
  exact bodyPost_ret (results_one Try.results45 rfl (load75 (set3 (V := V.drew) HQ.out _ _ _))) rfl ⟨rfl, bel3 (V := V.drew) HBV.out.drew (Nat.le_refl _) _ _ _⟩
theorem two_mr (w : World) (p : Rw) : Below w.heap.size w ((w.alloc (rO p)).alloc (gO 0 0 0)) ∧ ((w.alloc (rO p)).alloc (gO 0 0 0)).heap[w.heap.size]? = some (rO p) ∧ ((w.alloc (rO p)).alloc (gO 0 0 0)).heap[w.heap.size + 1]? = some (gO 0 0 0) := by
  refine ⟨(below_one w _).trans ((below_one _ _).mono (by simp)), blk_alloc (heap_last w _) _, ?_⟩
  have := heap_last (w.alloc (rO p)) (gO 0 0 0)
  rwa [show (w.alloc (rO p)).heap.size = w.heap.size + 1 by simp] at this
set_option maxRecDepth 100000 in
set_option maxHeartbeats 3200000 in
theorem rmint_arg (w : World) (r : Nat) (c : Cp) (hc : rightB c = false) : Calls Try.prog 27 #[pq r, rwV c 0 0 0 false] w fun e w' => e = .returned (.agg #[i64 0, i64 0, i64 1]) ∧ Below w.heap.size w w' := by
  obtain ⟨hBV, hK1, hK2⟩ := two_mr w ⟨c, 0, 0, 0, false⟩
  obtain ⟨V, hV⟩ : ∃ V, V = (w.alloc (rO ⟨c, 0, 0, 0, false⟩)).alloc (gO 0 0 0) := ⟨_, rfl⟩
  have HVe : Hid ((w.alloc (.cells #[i64 c.env, i64 c.kind, i64 c.num, i64 c.rts, i64 0, i64 0, i64 0, .bool false] 66)).alloc (.cells #[i64 0, i64 0, i64 0] 75) = V) := hV.symm
  rw [← hV] at hBV hK1 hK2
  have HB := hid hBV
  have HK1 := hid hK1
  have HK2 := hid hK2
  have HC := hid hc
  clear hV hBV hK1 hK2 hc
  unfold rwV
  go_enter Try.func27, Try.ntmps27
  go_wp2_with fail
  rw [HVe.out]
  refine (rright_ok _ c 0 0 0 false).mono ?_
  rintro e w1 ⟨rfl, hb1⟩
  rw [HC.out]
  have HK3 : Hid (w1.heap[w.heap.size + 1]? = some (gO 0 0 0)) := blk_below HK2.out hb1
  have HB1 : Hid (Below w.heap.size w w1) := HB.out.trans (hb1.mono HB.out.size)
  have k0 : w1.cell? ⟨w.heap.size + 1, 0, none⟩ = some (i64 0) := blk_cell HK3.out 0
  have k1 : w1.cell? ⟨w.heap.size + 1, 1, none⟩ = some (i64 0) := blk_cell HK3.out 1
  have k2 : w1.cell? ⟨w.heap.size + 1, 2, none⟩ = some (i64 0) := blk_cell HK3.out 2
  have kf : ∀ j, w1.frozen? ⟨w.heap.size + 1, j, none⟩ = false := blk_frozen HK3.out
  clear hb1
  go_wp2_with fail
  exact bodyPost_ret (results_one Try.results27 rfl (load75 (set3 HK3.out _ _ _))) rfl ⟨rfl, bel3 HB1.out (by omega) _ _ _⟩
theorem Rb.set_new {w : World} {base r : Nat} {L : List Rw} (h : Rb w base r L) {q : Nat} {o : Obj} (hq : w.heap[q]? = some o) (ho : ∀ C, o ≠ .cells C 30 ∧ o ≠ .cells C 66) (s g e : Value) : Rb (((w.setCell ⟨q, 0, none⟩ s).setCell ⟨q, 1, none⟩ g).setCell ⟨q, 2, none⟩ e) base r L :=
  h.same (fun k x hk hx => by
    have hne : k ≠ q := fun e => by
      rw [e, hq] at hk
      cases hk
      obtain ⟨C, h1 | h1⟩ := hx
      · exact (ho C).1 h1
      · exact (ho C).2 h1
    rw [Below.heap_setCell _ _ _ _ (by exact hne), Below.heap_setCell _ _ _ _ (by exact hne), Below.heap_setCell _ _ _ _ (by exact hne)]
    exact hk)
theorem Fr.set3n {base : Nat} {ts : List TypeId} {w0 w : World} (h : Fr base ts w0 w) {q : Nat} (hq : w0.heap.size ≤ q) (hb : base ≤ w0.heap.size) (s g e : Value) : Fr base ts w0 (((w.setCell ⟨q, 0, none⟩ s).setCell ⟨q, 1, none⟩ g).setCell ⟨q, 2, none⟩ e) :=
  ⟨bel3 h.below (by omega) _ _ _, fun k o hk ho => by
    have := blk_lt hk
    rw [Below.heap_setCell _ _ _ _ (by show k ≠ q; omega), Below.heap_setCell _ _ _ _ (by show k ≠ q; omega), Below.heap_setCell _ _ _ _ (by show k ≠ q; omega)]
    exact h.kept k o hk ho⟩
set_option maxRecDepth 100000 in
set_option maxHeartbeats 3200000 in
theorem rmint_ok {w : World} {base r : Nat} {L : List Rw} (h : Rb w base r L) (hl : L.length ≤ 900) (c : Cp) (hc : rightB c = true) (s : Nat) (hs : s < 128) (h0 : atI L (s : Nat) = -1) (hno : ∀ j : Nat, j < s → ∃ k : Nat, atI L (j : Nat) = k) : Calls Try.prog 27 #[pq r, rwV c 0 0 0 false] w fun e w' => e = .returned (.agg #[i64 (s : Nat), i64 ((cnS L (s : Nat) : Int) + 1), i64 0]) ∧ Rb w' base r (L ++ [⟨c, s, (cnS L (s : Nat) : Int) + 1, -1, true⟩]) ∧ Fr base [30, 66] w w' := by
  have hblo : base ≤ w.heap.size := by have := h.lt; have := h.lo; omega
  obtain ⟨hBV, hK1, hK2⟩ := two_mr w ⟨c, 0, 0, 0, false⟩
  obtain ⟨V, hV⟩ : ∃ V, V = (w.alloc (rO ⟨c, 0, 0, 0, false⟩)).alloc (gO 0 0 0) := ⟨_, rfl⟩
  have HVe : Hid ((w.alloc (.cells #[i64 c.env, i64 c.kind, i64 c.num, i64 c.rts, i64 0, i64 0, i64 0, .bool false] 66)).alloc (.cells #[i64 0, i64 0, i64 0] 75) = V) := hV.symm
  rw [← hV] at hBV hK1 hK2
  have HB := hid hBV
  have HK1 := hid hK1
  have HK2 := hid hK2
  have HC := hid hc
  have HPut : Hid (∀ W, Rb W base r L → Calls Try.prog 46 #[pq r, rwV c 0 0 (-1) false] W fun e w' => e = .returned (i64 (L.length : Nat)) ∧ Rb w' base r (L ++ [⟨c, s, (cnS L (s : Nat) : Int) + 1, (-1), true⟩]) ∧ Fr base [30, 66] W w') := fun W hW => rput_ok hW hl c 0 0 (-1) false s hs h0 hno
  have HGot : Hid (∀ W, Rb W base r (L ++ [⟨c, s, (cnS L (s : Nat) : Int) + 1, (-1), true⟩]) → Calls Try.prog 45 #[pq r, i64 (L.length : Nat)] W fun e w' => e = .returned (.agg #[i64 (s : Nat), i64 ((cnS L (s : Nat) : Int) + 1), i64 0]) ∧ Below W.heap.size W w') := fun W hW => rgot_ok hW (by simp; omega) L.length ⟨c, s, (cnS L (s : Nat) : Int) + 1, (-1), true⟩ (by simp)
  have HR0 := hid h
  clear hV hBV hK1 hK2 hc h hno h0
  unfold rwV
  go_enter Try.func27, Try.ntmps27
  go_wp2_with fail
  rw [HVe.out]
  refine (rright_ok _ c 0 0 0 false).mono ?_
  rintro e w1 ⟨rfl, hb1⟩
  rw [HC.out]
  have hK3 := blk_below HK2.out hb1
  have hQ3 := blk_below HK1.out hb1
  have HB1 : Hid (Below w.heap.size w w1) := HB.out.trans (hb1.mono HB.out.size)
  have HBx : Hid (Below w.heap.size w (w1.alloc (rO ⟨c, 0, 0, -1, false⟩))) := HB1.out.alloc HB1.out.size _
  have HKx : Hid ((w1.alloc (rO ⟨c, 0, 0, -1, false⟩)).heap[w.heap.size + 1]? = some (gO 0 0 0)) := blk_alloc hK3 _
  have y0 : w1.cell? ⟨w.heap.size, 0, none⟩ = some (i64 c.env) := blk_cell hQ3 0
  have y1 : w1.cell? ⟨w.heap.size, 1, none⟩ = some (i64 c.kind) := blk_cell hQ3 1
  have y2 : w1.cell? ⟨w.heap.size, 2, none⟩ = some (i64 c.num) := blk_cell hQ3 2
  have y3 : w1.cell? ⟨w.heap.size, 3, none⟩ = some (i64 c.rts) := blk_cell hQ3 3
  have y4 : w1.cell? ⟨w.heap.size, 4, none⟩ = some (i64 0) := blk_cell hQ3 4
  have y5 : w1.cell? ⟨w.heap.size, 5, none⟩ = some (i64 0) := blk_cell hQ3 5
  have y6 : w1.cell? ⟨w.heap.size, 6, none⟩ = some (i64 0) := blk_cell hQ3 6
  have y7 : w1.cell? ⟨w.heap.size, 7, none⟩ = some (.bool false) := blk_cell hQ3 7
  clear hb1 hK3 hQ3
  go_upto_region 5 with fail
  have HX : Hid ((w1.alloc (rO ⟨c, 0, 0, -1, false⟩)).heap[w1.heap.size]? = some (rO ⟨c, 0, 0, -1, false⟩)) := heap_last w1 _
  have z0 : (w1.alloc (rO ⟨c, 0, 0, -1, false⟩)).cell? ⟨w1.heap.size, 0, none⟩ = some (i64 c.env) := blk_cell HX.out 0
  have z1 : (w1.alloc (rO ⟨c, 0, 0, -1, false⟩)).cell? ⟨w1.heap.size, 1, none⟩ = some (i64 c.kind) := blk_cell HX.out 1
  have z2 : (w1.alloc (rO ⟨c, 0, 0, -1, false⟩)).cell? ⟨w1.heap.size, 2, none⟩ = some (i64 c.num) := blk_cell HX.out 2
  have z3 : (w1.alloc (rO ⟨c, 0, 0, -1, false⟩)).cell? ⟨w1.heap.size, 3, none⟩ = some (i64 c.rts) := blk_cell HX.out 3
  have z4 : (w1.alloc (rO ⟨c, 0, 0, -1, false⟩)).cell? ⟨w1.heap.size, 4, none⟩ = some (i64 0) := blk_cell HX.out 4
  have z5 : (w1.alloc (rO ⟨c, 0, 0, -1, false⟩)).cell? ⟨w1.heap.size, 5, none⟩ = some (i64 0) := blk_cell HX.out 5
  have z6 : (w1.alloc (rO ⟨c, 0, 0, -1, false⟩)).cell? ⟨w1.heap.size, 6, none⟩ = some (i64 (-1)) := blk_cell HX.out 6
  have z7 : (w1.alloc (rO ⟨c, 0, 0, -1, false⟩)).cell? ⟨w1.heap.size, 7, none⟩ = some (.bool false) := blk_cell HX.out 7
  clear y0 y1 y2 y3 y4 y5 y6 y7
  unfold rO at *
  generalize w1.alloc (.cells #[i64 c.env, i64 c.kind, i64 c.num, i64 c.rts, i64 0, i64 0, i64 (-1), .bool false] 66) = U at *
  generalize w1.heap.size = x at *
  go_wp2_with fail
  refine (HPut.out U (HR0.out.below HBx.out)).mono ?_
  rintro e w4 ⟨rfl, hr4, hf4⟩
  have HR4 := hid hr4
  have HF4 : Hid (Fr base [30, 66] w w4) := (Fr.of_below _ HBx.out hblo).trans hf4
  have HK4 : Hid (w4.heap[w.heap.size + 1]? = some (gO 0 0 0)) := hf4.kept _ _ HKx.out (by rfl)
  clear hr4 hf4 z0 z1 z2 z3 z4 z5 z6 z7
  go_wp2_with fail
  refine (HGot.out w4 HR4.out).mono ?_
  rintro e w5 ⟨rfl, hb5⟩
  have HR5 := hid (HR4.out.below hb5)
  have HK5 : Hid (w5.heap[w.heap.size + 1]? = some (gO 0 0 0)) := blk_below HK4.out hb5
  have HF5 : Hid (Fr base [30, 66] w w5) := HF4.out.trans (Fr.of_below _ hb5 (Nat.le_trans hblo HF4.out.size))
  have k0 : w5.cell? ⟨w.heap.size + 1, 0, none⟩ = some (i64 0) := blk_cell HK5.out 0
  have k1 : w5.cell? ⟨w.heap.size + 1, 1, none⟩ = some (i64 0) := blk_cell HK5.out 1
  have k2 : w5.cell? ⟨w.heap.size + 1, 2, none⟩ = some (i64 0) := blk_cell HK5.out 2
  have kf : ∀ j, w5.frozen? ⟨w.heap.size + 1, j, none⟩ = false := blk_frozen HK5.out
  clear hb5
  go_wp2_with fail
  exact bodyPost_ret (results_one Try.results27 rfl (load75 (set3 HK5.out _ _ _))) rfl ⟨rfl, HR5.out.set_new HK5.out (fun C => ⟨by simp, by simp⟩) _ _ _, HF5.out.set3n (by omega) hblo _ _ _⟩
end Go.Proofs.Ytcffodkpflfeoaa
