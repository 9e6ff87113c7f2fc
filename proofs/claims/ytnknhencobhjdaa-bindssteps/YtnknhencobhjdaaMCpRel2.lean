/- No statement here. -/
import Derived.Test.YtnknhencobhjdaaMCpRPut
import Derived.Test.YtnknhencobhjdaaMCpDrops
set_option maxRecDepth 100000
namespace Go.Proofs.Ytnknhencobhjdaa.Cp
open Go.ChangeShapes Go.WideShapes Go.ChangeAt Go.RowKit Go.Deep
attribute [local go_sem ↓] Go.wp_at_zero Go.wp_at_succ
theorem results_one {W : World} {t : Array Value} {a : Addr} {u : Value} {F : Func} {n : Nat} {ty : TypeId} (hr : F.results = #[.cell n ty]) (h6 : t.getD n undef = .pointer (some a)) (g : (loadVar ty a).run Try.prog W = .ok u W) :
    (results F t).run Try.prog W = .ok u W := by
  simp only [results, hr]
  simp [asAddr, h6, g, -Array.getD_eq_getD_getElem?]
abbrev gO (s g e : Int) : Obj := .cells #[i64 s, i64 g, i64 e] 130
theorem load75 {W : World} {b : Nat} {s g e : Int} (h : W.heap[b]? = some (gO s g e)) : (loadVar 130 ⟨b, 0, none⟩).run Try.prog W = .ok (.agg #[i64 s, i64 g, i64 e]) W := by
  refine run_loadVar_mid _ _ 0 130 [i64 s, i64 g, i64 e] _ (fun j v hv => ?_) Try.underlying130 rfl (by kernel_rfl)
  rw [Nat.zero_add, cell_of_row _ _ _ _ 130 (0, 0) h]
  simpa using hv
theorem set3 {V : World} {b : Nat} {x y z : Value} {t : TypeId} (h : V.heap[b]? = some (.cells #[x, y, z] t)) (s g e : Value) : (((V.setCell ⟨b, 0, none⟩ s).setCell ⟨b, 1, none⟩ g).setCell ⟨b, 2, none⟩ e).heap[b]? = some (.cells #[s, g, e] t) := by
  have h1 := heap_setCell_same V b 0 _ t s h
  have h2 := heap_setCell_same _ b 1 _ t g h1
  have h3 := heap_setCell_same _ b 2 _ t e h2
  simpa using h3
theorem bel3 {w V : World} {B b : Nat} (h : Below B w V) (hb : B ≤ b) (s g e : Value) : Below B w (((V.setCell ⟨b, 0, none⟩ s).setCell ⟨b, 1, none⟩ g).setCell ⟨b, 2, none⟩ e) := ((h.setCell hb _).setCell hb _).setCell hb _
structure SqG (r g k : Nat) (v : Value) (p : Rw) (W : World) : Prop where
  s0 : W.cell? ⟨r, 0, none⟩ = some v
  s4 : W.cell? ⟨g, k * 8 + 4, none⟩ = some (i64 p.sl)
  s5 : W.cell? ⟨g, k * 8 + 5, none⟩ = some (i64 p.gn)
set_option maxHeartbeats 3200000 in
theorem rgot_ok {w : World} {base r : Nat} {L : List Rw} (h : Rb w base r L) (hl : L.length ≤ 1000) (k : Nat) (p : Rw) (hp : L[k]? = some p) :
    Calls Try.prog 91 #[pq r, i64 (k : Nat)] w fun e w' => e = .returned (.agg #[i64 p.sl, i64 p.gn, i64 0]) ∧ Below w.heap.size w w' := by
  obtain ⟨V, hV⟩ : ∃ V, V = w.alloc (gO 0 0 0) := ⟨_, rfl⟩
  have HV : Hid (w.alloc (.cells #[i64 0, i64 0, i64 0] 130) = V) := hV.symm
  have hbV : Below w.heap.size w V := by rw [hV]; exact bl1 w _
  have HQ : Hid (V.heap[w.heap.size]? = some (gO 0 0 0)) := by rw [hV]; exact hlx w _
  have hkL : k < L.length := (List.getElem?_eq_some_iff.1 hp).1
  obtain ⟨ao, cap, hbk, _, hcap, hrow⟩ := (h.below hbV).row
  obtain ⟨g, rfl, _, hgl, _, _, hc⟩ := hrow k p hp
  obtain ⟨N, hN⟩ : ∃ N, N = L.length := ⟨_, rfl⟩
  rw [← hN] at hbk hcap hkL hl
  have hkI : (k : Int) < N := by omega
  have hcI : (N : Int) ≤ cap := by omega
  have hNI : (N : Int) ≤ 1000 := by omega
  have HS : Hid (SqG r g k (.slice (some ⟨g, 0, none⟩) N cap) p V.drew) := ⟨bkc hbk 0, hc 4 (by omega), hc 5 (by omega)⟩
  have HBV := hid hbV
  have HTH : Hid (V.drew.there w.heap.size 0 3) := fun j hj => ⟨by
    rw [show V.drew.cell? ⟨w.heap.size, 0 + j, none⟩ = _ from bkc HQ.out (0 + j), Nat.zero_add]
    match j, hj with
    | 0, _ => rfl
    | 1, _ => rfl
    | 2, _ => rfl, bkf HQ.out _⟩
  clear h hV hbV hp hbk hrow hc hN
  go_enter Try.func91, Try.ntmps91
  go_upto_region 3 with fail
  rw [HV.out]
  refine wp_region_noPanic ?_
  refine wrl (SqG r g k (.slice (some ⟨g, 0, none⟩) N cap) p) 18 (by kernel_rfl) ?_
  refine wk 0 8 (pq r) rfl HS.out (fun W hW => by obtain ⟨s0, s4, s5⟩ := hW; go_simp) ?_
  refine wk 1 9 (pq r) rfl HS.out (fun W hW => by obtain ⟨s0, s4, s5⟩ := hW; go_simp) ?_
  refine wk 2 10 (pq r) rfl HS.out (fun W hW => by obtain ⟨s0, s4, s5⟩ := hW; go_simp) ?_
  refine wk 3 11 (.slice (some ⟨g, 0, none⟩) N cap) rfl HS.out (fun W hW => by obtain ⟨s0, s4, s5⟩ := hW; go_simp) ?_
  refine wk 4 12 (i64 (k : Nat)) rfl HS.out (fun W hW => by obtain ⟨s0, s4, s5⟩ := hW; go_simp) ?_
  refine wk 5 13 (.pointer (some ⟨g, k * 8, none⟩)) rfl HS.out (fun W hW => by obtain ⟨s0, s4, s5⟩ := hW; go_simp) ?_
  refine wk 6 14 (.pointer (some ⟨g, k * 8 + 4, none⟩)) rfl HS.out (fun W hW => by obtain ⟨s0, s4, s5⟩ := hW; go_simp) ?_
  refine wk 7 15 (i64 p.sl) rfl HS.out (fun W hW => by obtain ⟨s0, s4, s5⟩ := hW; go_simp) ?_
  refine wk 8 16 (pq r) rfl HS.out (fun W hW => by obtain ⟨s0, s4, s5⟩ := hW; go_simp) ?_
  refine wk 9 17 (pq r) rfl HS.out (fun W hW => by obtain ⟨s0, s4, s5⟩ := hW; go_simp) ?_
  refine wk 10 18 (pq r) rfl HS.out (fun W hW => by obtain ⟨s0, s4, s5⟩ := hW; go_simp) ?_
  refine wk 11 19 (.slice (some ⟨g, 0, none⟩) N cap) rfl HS.out (fun W hW => by obtain ⟨s0, s4, s5⟩ := hW; go_simp) ?_
  refine wk 12 20 (i64 (k : Nat)) rfl HS.out (fun W hW => by obtain ⟨s0, s4, s5⟩ := hW; go_simp) ?_
  refine wk 13 21 (.pointer (some ⟨g, k * 8, none⟩)) rfl HS.out (fun W hW => by obtain ⟨s0, s4, s5⟩ := hW; go_simp) ?_
  refine wk 14 22 (.pointer (some ⟨g, k * 8 + 5, none⟩)) rfl HS.out (fun W hW => by obtain ⟨s0, s4, s5⟩ := hW; go_simp) ?_
  refine wk 15 23 (i64 p.gn) rfl HS.out (fun W hW => by obtain ⟨s0, s4, s5⟩ := hW; go_simp) ?_
  refine wk 16 24 (.agg #[i64 p.sl, i64 p.gn]) rfl HS.out (fun W hW => by obtain ⟨s0, s4, s5⟩ := hW; go_simp) ?_
  refine wk 17 25 (.agg #[i64 p.sl, i64 p.gn, i64 0]) rfl HS.out (fun W hW => by obtain ⟨s0, s4, s5⟩ := hW; go_simp) ?_
  simp only [Act.put, sA, sZ, sS]
  refine wo 18 rfl (fun K hK => ?_)
  refine wp_store_mid 130 (.tmp 4) (.tmp 25) rfl w.heap.size 0 #[i64 p.sl, i64 p.gn, i64 0] rfl rfl (by exact HTH.out) (by kernel_rfl) (all_oneCell_toArray (cs := [i64 p.sl, i64 p.gn, i64 0]) (by intro v hv; simp only [List.mem_cons, List.not_mem_nil, or_false] at hv; rcases hv with rfl | rfl | rfl <;> rfl)) ?_
  refine hK.out _ _ (fun h => absurd rfl h) ?_
  clear hK K
  refine wdd ?_
  refine NoPanic.normal ?_
  go_wp2_with fail
  exact bodyPost_ret (results_one Try.results91 rfl (load75 (set3 (V := V.drew) HQ.out _ _ _))) rfl ⟨rfl, bel3 (V := V.drew) HBV.out.drew (Nat.le_refl _) _ _ _⟩
theorem two_mr (w : World) (p : Rw) : Below w.heap.size w ((w.alloc (rO p)).alloc (gO 0 0 0)) ∧ ((w.alloc (rO p)).alloc (gO 0 0 0)).heap[w.heap.size]? = some (rO p) ∧ ((w.alloc (rO p)).alloc (gO 0 0 0)).heap[w.heap.size + 1]? = some (gO 0 0 0) := by
  refine ⟨(bl1 w _).trans ((bl1 _ _).mono (by simp)), bka (hlx w _) _, ?_⟩
  have := hlx (w.alloc (rO p)) (gO 0 0 0)
  rwa [show (w.alloc (rO p)).heap.size = w.heap.size + 1 by simp] at this
theorem Rb.set_new {w : World} {base r : Nat} {L : List Rw} (h : Rb w base r L) {q : Nat} {o : Obj} (hq : w.heap[q]? = some o) (ho : ∀ C, o ≠ .cells C 99 ∧ o ≠ .cells C 96) (s g e : Value) : Rb (((w.setCell ⟨q, 0, none⟩ s).setCell ⟨q, 1, none⟩ g).setCell ⟨q, 2, none⟩ e) base r L :=
  h.same (fun k x hk hx => by
    have hne : k ≠ q := fun e => by
      rw [e, hq] at hk
      cases hk
      obtain ⟨C, h1 | h1⟩ := hx
      · exact (ho C).1 h1
      · exact (ho C).2 h1
    rw [Below.heap_setCell _ _ _ _ (by exact hne), Below.heap_setCell _ _ _ _ (by exact hne), Below.heap_setCell _ _ _ _ (by exact hne)]
    exact hk)
theorem _root_.Go.Proofs.Ytnknhencobhjdaa.Fr.set3n {base : Nat} {ts : List TypeId} {w0 w : World} (h : Fr base ts w0 w) {q : Nat} (hq : w0.heap.size ≤ q) (hb : base ≤ w0.heap.size) (s g e : Value) : Fr base ts w0 (((w.setCell ⟨q, 0, none⟩ s).setCell ⟨q, 1, none⟩ g).setCell ⟨q, 2, none⟩ e) :=
  ⟨bel3 h.below (by omega) _ _ _, fun k o hk ho => by
    have := blk_lt hk
    rw [Below.heap_setCell _ _ _ _ (by show k ≠ q; omega), Below.heap_setCell _ _ _ _ (by show k ≠ q; omega), Below.heap_setCell _ _ _ _ (by show k ≠ q; omega)]
    exact h.kept k o hk ho⟩
set_option maxHeartbeats 3200000 in
theorem rmint_ok {w : World} {base r : Nat} {L : List Rw} (h : Rb w base r L) (hl : L.length ≤ 900) (c : Cp) (hc : rightB c = true) (s : Nat) (hs : s < 128) (h0 : atI L (s : Nat) = -1) (hno : ∀ j : Nat, j < s → ∃ k : Nat, atI L (j : Nat) = k) : Calls Try.prog 68 #[pq r, rwV c 0 0 0 false] w fun e w' => e = .returned (.agg #[i64 (s : Nat), i64 ((cnS L (s : Nat) : Int) + 1), i64 0]) ∧ Rb w' base r (L ++ [⟨c, s, (cnS L (s : Nat) : Int) + 1, -1, true⟩]) ∧ Fr base [99, 96] w w' := by
  have hblo : base ≤ w.heap.size := by have := h.lt; have := h.lo; omega
  obtain ⟨hBV, hK1, hK2⟩ := two_mr w ⟨c, 0, 0, 0, false⟩
  obtain ⟨V, hV⟩ : ∃ V, V = (w.alloc (rO ⟨c, 0, 0, 0, false⟩)).alloc (gO 0 0 0) := ⟨_, rfl⟩
  have HVe : Hid ((w.alloc (.cells #[i64 c.env, i64 c.kind, i64 c.num, i64 c.rts, i64 0, i64 0, i64 0, .bool false] 96)).alloc (.cells #[i64 0, i64 0, i64 0] 130) = V) := hV.symm
  rw [← hV] at hBV hK1 hK2
  have HB := hid hBV
  have HK1 := hid hK1
  have HK2 := hid hK2
  have HC := hid hc
  have HPut : Hid (∀ W, Rb W base r L → Calls Try.prog 92 #[pq r, rwV c 0 0 (-1) false] W fun e w' => e = .returned (i64 (L.length : Nat)) ∧ Rb w' base r (L ++ [⟨c, s, (cnS L (s : Nat) : Int) + 1, (-1), true⟩]) ∧ Fr base [99, 96] W w') := fun W hW => rput_ok hW hl c 0 0 (-1) false s hs h0 hno
  have HGot : Hid (∀ W, Rb W base r (L ++ [⟨c, s, (cnS L (s : Nat) : Int) + 1, (-1), true⟩]) → Calls Try.prog 91 #[pq r, i64 (L.length : Nat)] W fun e w' => e = .returned (.agg #[i64 (s : Nat), i64 ((cnS L (s : Nat) : Int) + 1), i64 0]) ∧ Below W.heap.size W w') := fun W hW => rgot_ok hW (by simp; omega) L.length ⟨c, s, (cnS L (s : Nat) : Int) + 1, (-1), true⟩ (by simp)
  have HR0 := hid h
  clear hV hBV hK1 hK2 hc h hno h0
  unfold rwV
  go_enter Try.func68, Try.ntmps68
  go_wp2_with fail
  rw [HVe.out]
  refine (rright_ok _ c 0 0 0 false).mono ?_
  rintro e w1 ⟨rfl, hb1⟩
  rw [HC.out]
  have hK3 := bkb HK2.out hb1
  have hQ3 := bkb HK1.out hb1
  have HB1 : Hid (Below w.heap.size w w1) := HB.out.trans (hb1.mono HB.out.size)
  have HBx : Hid (Below w.heap.size w (w1.alloc (rO ⟨c, 0, 0, -1, false⟩))) := HB1.out.alloc HB1.out.size _
  have HKx : Hid ((w1.alloc (rO ⟨c, 0, 0, -1, false⟩)).heap[w.heap.size + 1]? = some (gO 0 0 0)) := bka hK3 _
  have y0 : w1.cell? ⟨w.heap.size, 0, none⟩ = some (i64 c.env) := bkc hQ3 0
  have y1 : w1.cell? ⟨w.heap.size, 1, none⟩ = some (i64 c.kind) := bkc hQ3 1
  have y2 : w1.cell? ⟨w.heap.size, 2, none⟩ = some (i64 c.num) := bkc hQ3 2
  have y3 : w1.cell? ⟨w.heap.size, 3, none⟩ = some (i64 c.rts) := bkc hQ3 3
  have y4 : w1.cell? ⟨w.heap.size, 4, none⟩ = some (i64 0) := bkc hQ3 4
  have y5 : w1.cell? ⟨w.heap.size, 5, none⟩ = some (i64 0) := bkc hQ3 5
  have y6 : w1.cell? ⟨w.heap.size, 6, none⟩ = some (i64 0) := bkc hQ3 6
  have y7 : w1.cell? ⟨w.heap.size, 7, none⟩ = some (.bool false) := bkc hQ3 7
  clear hb1 hK3 hQ3
  go_upto_region 5 with fail
  have HX : Hid ((w1.alloc (rO ⟨c, 0, 0, -1, false⟩)).heap[w1.heap.size]? = some (rO ⟨c, 0, 0, -1, false⟩)) := hlx w1 _
  have z0 : (w1.alloc (rO ⟨c, 0, 0, -1, false⟩)).cell? ⟨w1.heap.size, 0, none⟩ = some (i64 c.env) := bkc HX.out 0
  have z1 : (w1.alloc (rO ⟨c, 0, 0, -1, false⟩)).cell? ⟨w1.heap.size, 1, none⟩ = some (i64 c.kind) := bkc HX.out 1
  have z2 : (w1.alloc (rO ⟨c, 0, 0, -1, false⟩)).cell? ⟨w1.heap.size, 2, none⟩ = some (i64 c.num) := bkc HX.out 2
  have z3 : (w1.alloc (rO ⟨c, 0, 0, -1, false⟩)).cell? ⟨w1.heap.size, 3, none⟩ = some (i64 c.rts) := bkc HX.out 3
  have z4 : (w1.alloc (rO ⟨c, 0, 0, -1, false⟩)).cell? ⟨w1.heap.size, 4, none⟩ = some (i64 0) := bkc HX.out 4
  have z5 : (w1.alloc (rO ⟨c, 0, 0, -1, false⟩)).cell? ⟨w1.heap.size, 5, none⟩ = some (i64 0) := bkc HX.out 5
  have z6 : (w1.alloc (rO ⟨c, 0, 0, -1, false⟩)).cell? ⟨w1.heap.size, 6, none⟩ = some (i64 (-1)) := bkc HX.out 6
  have z7 : (w1.alloc (rO ⟨c, 0, 0, -1, false⟩)).cell? ⟨w1.heap.size, 7, none⟩ = some (.bool false) := bkc HX.out 7
  clear y0 y1 y2 y3 y4 y5 y6 y7
  unfold rO at *
  generalize w1.alloc (.cells #[i64 c.env, i64 c.kind, i64 c.num, i64 c.rts, i64 0, i64 0, i64 (-1), .bool false] 96) = U at *
  generalize w1.heap.size = x at *
  go_wp2_with fail
  refine (HPut.out U (HR0.out.below HBx.out)).mono ?_
  rintro e w4 ⟨rfl, hr4, hf4⟩
  have HR4 := hid hr4
  have HF4 : Hid (Fr base [99, 96] w w4) := (Fr.of_below _ HBx.out hblo).trans hf4
  have HK4 : Hid (w4.heap[w.heap.size + 1]? = some (gO 0 0 0)) := hf4.kept _ _ HKx.out (by rfl)
  clear hr4 hf4 z0 z1 z2 z3 z4 z5 z6 z7
  go_wp2_with fail
  refine (HGot.out w4 HR4.out).mono ?_
  rintro e w5 ⟨rfl, hb5⟩
  have HR5 := hid (HR4.out.below hb5)
  have HK5 : Hid (w5.heap[w.heap.size + 1]? = some (gO 0 0 0)) := bkb HK4.out hb5
  have HF5 : Hid (Fr base [99, 96] w w5) := HF4.out.trans (Fr.of_below _ hb5 (Nat.le_trans hblo HF4.out.size))
  have k0 : w5.cell? ⟨w.heap.size + 1, 0, none⟩ = some (i64 0) := bkc HK5.out 0
  have k1 : w5.cell? ⟨w.heap.size + 1, 1, none⟩ = some (i64 0) := bkc HK5.out 1
  have k2 : w5.cell? ⟨w.heap.size + 1, 2, none⟩ = some (i64 0) := bkc HK5.out 2
  have kf : ∀ j, w5.frozen? ⟨w.heap.size + 1, j, none⟩ = false := bkf HK5.out
  clear hb5
  go_wp2_with fail
  exact bodyPost_ret (results_one Try.results68 rfl (load75 (set3 HK5.out _ _ _))) rfl ⟨rfl, HR5.out.set_new HK5.out (fun C => ⟨by simp, by simp⟩) _ _ _, HF5.out.set3n (by omega) hblo _ _ _⟩
end Go.Proofs.Ytnknhencobhjdaa.Cp
namespace Go.Proofs.Ytnknhencobhjdaa.Cp
open Go.ChangeShapes Go.WideShapes Go.ChangeAt Go.RowKit Go.Deep
attribute [local go_sem ↓] Go.wp_at_zero Go.wp_at_succ
abbrev dW (w : World) (sl gn tt rights : Int) : World := ((w.alloc (.cells #[i64 sl, i64 gn] 81)).alloc (.cells #[i64 tt, i64 rights] 90)).alloc (gO 0 0 0)
theorem three_dr (w : World) (sl gn tt rights : Int) : Below w.heap.size w (dW w sl gn tt rights) ∧ (dW w sl gn tt rights).heap[w.heap.size]? = some (.cells #[i64 sl, i64 gn] 81) ∧ (dW w sl gn tt rights).heap[w.heap.size + 1]? = some (.cells #[i64 tt, i64 rights] 90) ∧ (dW w sl gn tt rights).heap[w.heap.size + 2]? = some (gO 0 0 0) := by
  have h1 : (w.alloc (.cells #[i64 sl, i64 gn] 81)).heap.size = w.heap.size + 1 := by simp
  have h2 : ((w.alloc (.cells #[i64 sl, i64 gn] 81)).alloc (.cells #[i64 tt, i64 rights] 90)).heap.size = w.heap.size + 2 := by simp
  refine ⟨((bl1 w _).trans ((bl1 _ _).mono (by simp))).trans ((bl1 _ _).mono (by simp; omega)), bka (bka (hlx w _) _) _, bka ?_ _, ?_⟩
  · rw [← h1]; exact hlx _ _
  · rw [← h2]; exact hlx _ _
structure SqV (r g k q : Nat) (v : Value) (p : Rw) (tt rights : Int) (W : World) : Prop where
  s0 : W.cell? ⟨r, 0, none⟩ = some v
  s1 : W.cell? ⟨g, k * 8 + 1, none⟩ = some (i64 p.c.kind)
  s2 : W.cell? ⟨g, k * 8 + 2, none⟩ = some (i64 p.c.num)
  q0 : W.cell? ⟨q, 0, none⟩ = some (i64 tt)
  q1 : W.cell? ⟨q, 1, none⟩ = some (i64 rights)
set_option maxHeartbeats 3200000 in
theorem rderive_arg {w : World} {base r : Nat} {L : List Rw} (h : Rb w base r L) (hl : L.length ≤ 900) (env sl gn tt rights : Int) (k : Nat) (p : Rw) (hf : fdI L env sl gn = k) (hp : L[k]? = some p) (hrt : rightB ⟨tt, p.c.kind, p.c.num, rights⟩ = false) : Calls Try.prog 71 #[pq r, i64 env, .agg #[i64 sl, i64 gn], .agg #[i64 tt, i64 rights]] w fun e w' => e = .returned (.agg #[i64 0, i64 0, i64 1]) ∧ Below w.heap.size w w' := by
  have hblo : base ≤ w.heap.size := by have := h.lt; have := h.lo; omega
  obtain ⟨hBV, hK1, hK2, hK3⟩ := three_dr w sl gn tt rights
  obtain ⟨V, hV⟩ : ∃ V, V = dW w sl gn tt rights := ⟨_, rfl⟩
  have HVe : Hid (((w.alloc (.cells #[i64 sl, i64 gn] 81)).alloc (.cells #[i64 tt, i64 rights] 90)).alloc (.cells #[i64 0, i64 0, i64 0] 130) = V) := hV.symm
  rw [← hV] at hBV hK1 hK2 hK3
  have HB := hid hBV
  have HK2 := hid hK2
  have HK3 := hid hK3
  have HR0 := hid h
  have v0 : V.cell? ⟨w.heap.size, 0, none⟩ = some (i64 sl) := bkc hK1 0
  have v1 : V.cell? ⟨w.heap.size, 1, none⟩ = some (i64 gn) := bkc hK1 1
  have hA := rfind_ok (h.below hBV) (by omega) env sl gn
  rw [hf] at hA
  have HA := hid hA
  have hkL : k < L.length := (List.getElem?_eq_some_iff.1 hp).1
  obtain ⟨ao, cap, hbk, _, hcap, hrow⟩ := (h.below hBV).row
  obtain ⟨g, rfl, _, hgl, _, _, hc⟩ := hrow k p hp
  have HRt := hid hrt
  obtain ⟨N, hN⟩ : ∃ N, N = L.length := ⟨_, rfl⟩
  rw [← hN] at hbk hcap hkL
  have hkI : (k : Int) < N := by omega
  have hcI : (N : Int) ≤ cap := by omega
  have hNI : (N : Int) ≤ 1000 := by omega
  have HC : Hid (∀ W, Below V.heap.size V W → SqV r g k (w.heap.size + 1) (.slice (some ⟨g, 0, none⟩) N cap) p tt rights W ∧ W.cell? ⟨g, k * 8 + 3, none⟩ = some (i64 p.c.rts)) := fun W hW => ⟨⟨bkc (bkb hbk hW) 0, (hW.cell (p := ⟨g, _, none⟩) hgl).trans (hc 1 (by omega)), (hW.cell (p := ⟨g, _, none⟩) hgl).trans (hc 2 (by omega)), bkc (bkb HK2.out hW) 0, bkc (bkb HK2.out hW) 1⟩, (hW.cell (p := ⟨g, _, none⟩) hgl).trans (hc 3 (by omega))⟩
  clear hA hf h hV hBV hK1 hK2 hK3 hbk hrow hc hp hN hrt
  go_enter Try.func71, Try.ntmps71
  go_upto_region 1 with fail
  rw [HVe.out]
  go_wp2_with fail
  refine HA.out.mono ?_
  rintro e w1 ⟨rfl, hb1⟩
  have HB1 := hid hb1
  have HS : Hid (SqV r g k (w.heap.size + 1) (.slice (some ⟨g, 0, none⟩) N cap) p tt rights w1.drew) := (HC.out w1.drew hb1.drew).1
  clear hb1 v0 v1
  go_upto_region 4 with fail
  refine wp_region_noPanic ?_
  refine wrl (SqV r g k (w.heap.size + 1) (.slice (some ⟨g, 0, none⟩) N cap) p tt rights) 23 (by kernel_rfl) ?_
  refine wk 0 19 (.pointer (some ⟨w.heap.size + 1, 0, none⟩)) rfl HS.out (fun W hW => by obtain ⟨s0, s1, s2, q0, q1⟩ := hW; go_simp) ?_
  refine wk 1 20 (i64 tt) rfl HS.out (fun W hW => by obtain ⟨s0, s1, s2, q0, q1⟩ := hW; go_simp) ?_
  refine wk 2 21 (pq r) rfl HS.out (fun W hW => by obtain ⟨s0, s1, s2, q0, q1⟩ := hW; go_simp) ?_
  refine wk 3 22 (pq r) rfl HS.out (fun W hW => by obtain ⟨s0, s1, s2, q0, q1⟩ := hW; go_simp) ?_
  refine wk 4 23 (pq r) rfl HS.out (fun W hW => by obtain ⟨s0, s1, s2, q0, q1⟩ := hW; go_simp) ?_
  refine wk 5 24 (.slice (some ⟨g, 0, none⟩) N cap) rfl HS.out (fun W hW => by obtain ⟨s0, s1, s2, q0, q1⟩ := hW; go_simp) ?_
  refine wk 6 25 (i64 (k : Nat)) rfl HS.out (fun W hW => by obtain ⟨s0, s1, s2, q0, q1⟩ := hW; go_simp) ?_
  refine wk 7 26 (.pointer (some ⟨g, k * 8, none⟩)) rfl HS.out (fun W hW => by obtain ⟨s0, s1, s2, q0, q1⟩ := hW; go_simp) ?_
  refine wk 8 27 (.pointer (some ⟨g, k * 8 + 1, none⟩)) rfl HS.out (fun W hW => by obtain ⟨s0, s1, s2, q0, q1⟩ := hW; go_simp) ?_
  refine wk 9 28 (i64 p.c.kind) rfl HS.out (fun W hW => by obtain ⟨s0, s1, s2, q0, q1⟩ := hW; go_simp) ?_
  refine wk 10 29 (pq r) rfl HS.out (fun W hW => by obtain ⟨s0, s1, s2, q0, q1⟩ := hW; go_simp) ?_
  refine wk 11 30 (pq r) rfl HS.out (fun W hW => by obtain ⟨s0, s1, s2, q0, q1⟩ := hW; go_simp) ?_
  refine wk 12 31 (pq r) rfl HS.out (fun W hW => by obtain ⟨s0, s1, s2, q0, q1⟩ := hW; go_simp) ?_
  refine wk 13 32 (.slice (some ⟨g, 0, none⟩) N cap) rfl HS.out (fun W hW => by obtain ⟨s0, s1, s2, q0, q1⟩ := hW; go_simp) ?_
  refine wk 14 33 (i64 (k : Nat)) rfl HS.out (fun W hW => by obtain ⟨s0, s1, s2, q0, q1⟩ := hW; go_simp) ?_
  refine wk 15 34 (.pointer (some ⟨g, k * 8, none⟩)) rfl HS.out (fun W hW => by obtain ⟨s0, s1, s2, q0, q1⟩ := hW; go_simp) ?_
  refine wk 16 35 (.pointer (some ⟨g, k * 8 + 2, none⟩)) rfl HS.out (fun W hW => by obtain ⟨s0, s1, s2, q0, q1⟩ := hW; go_simp) ?_
  refine wk 17 36 (i64 p.c.num) rfl HS.out (fun W hW => by obtain ⟨s0, s1, s2, q0, q1⟩ := hW; go_simp) ?_
  refine wk 18 37 (.pointer (some ⟨w.heap.size + 1, 1, none⟩)) rfl HS.out (fun W hW => by obtain ⟨s0, s1, s2, q0, q1⟩ := hW; go_simp) ?_
  refine wk 19 38 (i64 rights) rfl HS.out (fun W hW => by obtain ⟨s0, s1, s2, q0, q1⟩ := hW; go_simp) ?_
  refine wk 20 39 (i64 (k : Nat)) rfl HS.out (fun W hW => by obtain ⟨s0, s1, s2, q0, q1⟩ := hW; go_simp) ?_
  refine wk 21 40 (.agg #[i64 tt, i64 p.c.kind, i64 p.c.num, i64 rights, i64 0, i64 0, i64 (k : Nat), .bool false]) rfl HS.out (fun W hW => by obtain ⟨s0, s1, s2, q0, q1⟩ := hW; go_simp) ?_
  simp only [Act.put, sA, sZ, sS]
  refine wo 22 rfl (fun K hK => ?_)
  go_simp
  refine hK.out _ _ (fun _ => (HC.out _ (HB1.out.drew.alloc HB1.out.size _)).1) ?_
  clear hK K
  refine wo 23 rfl (fun K hK => ?_)
  go_simp
  refine hK.out _ _ (fun h => absurd rfl h) ?_
  clear hK K
  refine wdd ?_
  refine NoPanic.normal ?_
  have HBd : Hid (Below w.heap.size w (w1.alloc (rO ⟨⟨tt, p.c.kind, p.c.num, rights⟩, 0, 0, (k : Nat), false⟩)).drew) := Below.drew ((HB.out.trans (HB1.out.mono HB.out.size)).alloc (HB.out.trans (HB1.out.mono HB.out.size)).size _)
  have HCd := hid (HC.out (w1.alloc (rO ⟨⟨tt, p.c.kind, p.c.num, rights⟩, 0, 0, (k : Nat), false⟩)).drew (Below.drew (HB1.out.alloc HB1.out.size _)))
  have HKd : Hid ((w1.alloc (rO ⟨⟨tt, p.c.kind, p.c.num, rights⟩, 0, 0, (k : Nat), false⟩)).drew.heap[w.heap.size + 2]? = some (gO 0 0 0)) := bka (bkb HK3.out HB1.out) _
  have HXd : Hid ((w1.alloc (rO ⟨⟨tt, p.c.kind, p.c.num, rights⟩, 0, 0, (k : Nat), false⟩)).drew.heap[w1.heap.size]? = some (rO ⟨⟨tt, p.c.kind, p.c.num, rights⟩, 0, 0, (k : Nat), false⟩)) := hlx w1 _
  clear HS HC HB1
  unfold rO at HBd HCd HKd HXd
  generalize (w1.alloc (.cells #[i64 tt, i64 p.c.kind, i64 p.c.num, i64 rights, i64 0, i64 0, i64 (k : Nat), .bool false] 96)).drew = U at *
  generalize w1.heap.size = x at *
  have z0 : U.cell? ⟨x, 0, none⟩ = some (i64 tt) := bkc HXd.out 0
  have z1 : U.cell? ⟨x, 1, none⟩ = some (i64 p.c.kind) := bkc HXd.out 1
  have z2 : U.cell? ⟨x, 2, none⟩ = some (i64 p.c.num) := bkc HXd.out 2
  have z3 : U.cell? ⟨x, 3, none⟩ = some (i64 rights) := bkc HXd.out 3
  have z4 : U.cell? ⟨x, 4, none⟩ = some (i64 0) := bkc HXd.out 4
  have z5 : U.cell? ⟨x, 5, none⟩ = some (i64 0) := bkc HXd.out 5
  have z6 : U.cell? ⟨x, 6, none⟩ = some (i64 (k : Nat)) := bkc HXd.out 6
  have z7 : U.cell? ⟨x, 7, none⟩ = some (.bool false) := bkc HXd.out 7
  go_wp2_with fail
  refine (rright_ok U ⟨tt, p.c.kind, p.c.num, rights⟩ 0 0 (k : Nat) false).mono ?_
  rintro e w3 ⟨rfl, hb3⟩
  rw [HRt.out]
  have HB3 : Hid (Below w.heap.size w w3) := HBd.out.trans (hb3.mono HBd.out.size)
  have HKx : Hid (w3.heap[w.heap.size + 2]? = some (gO 0 0 0)) := bkb HKd.out hb3
  have k0 : w3.cell? ⟨w.heap.size + 2, 0, none⟩ = some (i64 0) := bkc HKx.out 0
  have k1 : w3.cell? ⟨w.heap.size + 2, 1, none⟩ = some (i64 0) := bkc HKx.out 1
  have k2 : w3.cell? ⟨w.heap.size + 2, 2, none⟩ = some (i64 0) := bkc HKx.out 2
  have kf : ∀ j, w3.frozen? ⟨w.heap.size + 2, j, none⟩ = false := bkf HKx.out
  clear hb3 z0 z1 z2 z3 z4 z5 z6 z7
  go_wp2_with fail
  exact bodyPost_ret (results_one Try.results71 rfl (load75 (set3 HKx.out _ _ _))) rfl ⟨rfl, bel3 HB3.out (by omega) _ _ _⟩
set_option maxHeartbeats 3200000 in
theorem rderive_right {w : World} {base r : Nat} {L : List Rw} (h : Rb w base r L) (hl : L.length ≤ 900) (env sl gn tt rights : Int) (k : Nat) (p : Rw) (hf : fdI L env sl gn = k) (hp : L[k]? = some p) (hrt : rightB ⟨tt, p.c.kind, p.c.num, rights⟩ = true) (hcr : envB p.c.rts = true) (hrr : envB rights = true) (hgr : grB p.c.rts rights = false) : Calls Try.prog 71 #[pq r, i64 env, .agg #[i64 sl, i64 gn], .agg #[i64 tt, i64 rights]] w fun e w' => e = .returned (.agg #[i64 0, i64 0, i64 91]) ∧ Below w.heap.size w w' := by
  have hblo : base ≤ w.heap.size := by have := h.lt; have := h.lo; omega
  obtain ⟨hBV, hK1, hK2, hK3⟩ := three_dr w sl gn tt rights
  obtain ⟨V, hV⟩ : ∃ V, V = dW w sl gn tt rights := ⟨_, rfl⟩
  have HVe : Hid (((w.alloc (.cells #[i64 sl, i64 gn] 81)).alloc (.cells #[i64 tt, i64 rights] 90)).alloc (.cells #[i64 0, i64 0, i64 0] 130) = V) := hV.symm
  rw [← hV] at hBV hK1 hK2 hK3
  have HB := hid hBV
  have HK2 := hid hK2
  have HK3 := hid hK3
  have HR0 := hid h
  have v0 : V.cell? ⟨w.heap.size, 0, none⟩ = some (i64 sl) := bkc hK1 0
  have v1 : V.cell? ⟨w.heap.size, 1, none⟩ = some (i64 gn) := bkc hK1 1
  have hA := rfind_ok (h.below hBV) (by omega) env sl gn
  rw [hf] at hA
  have HA := hid hA
  have hkL : k < L.length := (List.getElem?_eq_some_iff.1 hp).1
  obtain ⟨ao, cap, hbk, _, hcap, hrow⟩ := (h.below hBV).row
  obtain ⟨g, rfl, _, hgl, _, _, hc⟩ := hrow k p hp
  have HRt := hid hrt
  obtain ⟨xr, hxr⟩ : ∃ xr, xr = p.c.rts := ⟨_, rfl⟩
  rw [← hxr] at hgr hcr
  have HXR : Hid (p.c.rts = xr) := hxr.symm
  obtain ⟨N, hN⟩ : ∃ N, N = L.length := ⟨_, rfl⟩
  rw [← hN] at hbk hcap hkL
  have hkI : (k : Int) < N := by omega
  have hcI : (N : Int) ≤ cap := by omega
  have hNI : (N : Int) ≤ 1000 := by omega
  have HC : Hid (∀ W, Below V.heap.size V W → SqV r g k (w.heap.size + 1) (.slice (some ⟨g, 0, none⟩) N cap) p tt rights W ∧ W.cell? ⟨g, k * 8 + 3, none⟩ = some (i64 p.c.rts)) := fun W hW => ⟨⟨bkc (bkb hbk hW) 0, (hW.cell (p := ⟨g, _, none⟩) hgl).trans (hc 1 (by omega)), (hW.cell (p := ⟨g, _, none⟩) hgl).trans (hc 2 (by omega)), bkc (bkb HK2.out hW) 0, bkc (bkb HK2.out hW) 1⟩, (hW.cell (p := ⟨g, _, none⟩) hgl).trans (hc 3 (by omega))⟩
  clear hA hf h hV hBV hK1 hK2 hK3 hbk hrow hc hp hN hrt
  go_enter Try.func71, Try.ntmps71
  go_upto_region 1 with fail
  rw [HVe.out]
  go_wp2_with fail
  refine HA.out.mono ?_
  rintro e w1 ⟨rfl, hb1⟩
  have HB1 := hid hb1
  have HS : Hid (SqV r g k (w.heap.size + 1) (.slice (some ⟨g, 0, none⟩) N cap) p tt rights w1.drew) := (HC.out w1.drew hb1.drew).1
  clear hb1 v0 v1
  go_upto_region 4 with fail
  refine wp_region_noPanic ?_
  refine wrl (SqV r g k (w.heap.size + 1) (.slice (some ⟨g, 0, none⟩) N cap) p tt rights) 23 (by kernel_rfl) ?_
  refine wk 0 19 (.pointer (some ⟨w.heap.size + 1, 0, none⟩)) rfl HS.out (fun W hW => by obtain ⟨s0, s1, s2, q0, q1⟩ := hW; go_simp) ?_
  refine wk 1 20 (i64 tt) rfl HS.out (fun W hW => by obtain ⟨s0, s1, s2, q0, q1⟩ := hW; go_simp) ?_
  refine wk 2 21 (pq r) rfl HS.out (fun W hW => by obtain ⟨s0, s1, s2, q0, q1⟩ := hW; go_simp) ?_
  refine wk 3 22 (pq r) rfl HS.out (fun W hW => by obtain ⟨s0, s1, s2, q0, q1⟩ := hW; go_simp) ?_
  refine wk 4 23 (pq r) rfl HS.out (fun W hW => by obtain ⟨s0, s1, s2, q0, q1⟩ := hW; go_simp) ?_
  refine wk 5 24 (.slice (some ⟨g, 0, none⟩) N cap) rfl HS.out (fun W hW => by obtain ⟨s0, s1, s2, q0, q1⟩ := hW; go_simp) ?_
  refine wk 6 25 (i64 (k : Nat)) rfl HS.out (fun W hW => by obtain ⟨s0, s1, s2, q0, q1⟩ := hW; go_simp) ?_
  refine wk 7 26 (.pointer (some ⟨g, k * 8, none⟩)) rfl HS.out (fun W hW => by obtain ⟨s0, s1, s2, q0, q1⟩ := hW; go_simp) ?_
  refine wk 8 27 (.pointer (some ⟨g, k * 8 + 1, none⟩)) rfl HS.out (fun W hW => by obtain ⟨s0, s1, s2, q0, q1⟩ := hW; go_simp) ?_
  refine wk 9 28 (i64 p.c.kind) rfl HS.out (fun W hW => by obtain ⟨s0, s1, s2, q0, q1⟩ := hW; go_simp) ?_
  refine wk 10 29 (pq r) rfl HS.out (fun W hW => by obtain ⟨s0, s1, s2, q0, q1⟩ := hW; go_simp) ?_
  refine wk 11 30 (pq r) rfl HS.out (fun W hW => by obtain ⟨s0, s1, s2, q0, q1⟩ := hW; go_simp) ?_
  refine wk 12 31 (pq r) rfl HS.out (fun W hW => by obtain ⟨s0, s1, s2, q0, q1⟩ := hW; go_simp) ?_
  refine wk 13 32 (.slice (some ⟨g, 0, none⟩) N cap) rfl HS.out (fun W hW => by obtain ⟨s0, s1, s2, q0, q1⟩ := hW; go_simp) ?_
  refine wk 14 33 (i64 (k : Nat)) rfl HS.out (fun W hW => by obtain ⟨s0, s1, s2, q0, q1⟩ := hW; go_simp) ?_
  refine wk 15 34 (.pointer (some ⟨g, k * 8, none⟩)) rfl HS.out (fun W hW => by obtain ⟨s0, s1, s2, q0, q1⟩ := hW; go_simp) ?_
  refine wk 16 35 (.pointer (some ⟨g, k * 8 + 2, none⟩)) rfl HS.out (fun W hW => by obtain ⟨s0, s1, s2, q0, q1⟩ := hW; go_simp) ?_
  refine wk 17 36 (i64 p.c.num) rfl HS.out (fun W hW => by obtain ⟨s0, s1, s2, q0, q1⟩ := hW; go_simp) ?_
  refine wk 18 37 (.pointer (some ⟨w.heap.size + 1, 1, none⟩)) rfl HS.out (fun W hW => by obtain ⟨s0, s1, s2, q0, q1⟩ := hW; go_simp) ?_
  refine wk 19 38 (i64 rights) rfl HS.out (fun W hW => by obtain ⟨s0, s1, s2, q0, q1⟩ := hW; go_simp) ?_
  refine wk 20 39 (i64 (k : Nat)) rfl HS.out (fun W hW => by obtain ⟨s0, s1, s2, q0, q1⟩ := hW; go_simp) ?_
  refine wk 21 40 (.agg #[i64 tt, i64 p.c.kind, i64 p.c.num, i64 rights, i64 0, i64 0, i64 (k : Nat), .bool false]) rfl HS.out (fun W hW => by obtain ⟨s0, s1, s2, q0, q1⟩ := hW; go_simp) ?_
  simp only [Act.put, sA, sZ, sS]
  refine wo 22 rfl (fun K hK => ?_)
  go_simp
  refine hK.out _ _ (fun _ => (HC.out _ (HB1.out.drew.alloc HB1.out.size _)).1) ?_
  clear hK K
  refine wo 23 rfl (fun K hK => ?_)
  go_simp
  refine hK.out _ _ (fun h => absurd rfl h) ?_
  clear hK K
  refine wdd ?_
  refine NoPanic.normal ?_
  have HBd : Hid (Below w.heap.size w (w1.alloc (rO ⟨⟨tt, p.c.kind, p.c.num, rights⟩, 0, 0, (k : Nat), false⟩)).drew) := Below.drew ((HB.out.trans (HB1.out.mono HB.out.size)).alloc (HB.out.trans (HB1.out.mono HB.out.size)).size _)
  have HCd := hid (HC.out (w1.alloc (rO ⟨⟨tt, p.c.kind, p.c.num, rights⟩, 0, 0, (k : Nat), false⟩)).drew (Below.drew (HB1.out.alloc HB1.out.size _)))
  have HKd : Hid ((w1.alloc (rO ⟨⟨tt, p.c.kind, p.c.num, rights⟩, 0, 0, (k : Nat), false⟩)).drew.heap[w.heap.size + 2]? = some (gO 0 0 0)) := bka (bkb HK3.out HB1.out) _
  have HXd : Hid ((w1.alloc (rO ⟨⟨tt, p.c.kind, p.c.num, rights⟩, 0, 0, (k : Nat), false⟩)).drew.heap[w1.heap.size]? = some (rO ⟨⟨tt, p.c.kind, p.c.num, rights⟩, 0, 0, (k : Nat), false⟩)) := hlx w1 _
  clear HS HC HB1
  unfold rO at HBd HCd HKd HXd
  generalize (w1.alloc (.cells #[i64 tt, i64 p.c.kind, i64 p.c.num, i64 rights, i64 0, i64 0, i64 (k : Nat), .bool false] 96)).drew = U at *
  generalize w1.heap.size = x at *
  have z0 : U.cell? ⟨x, 0, none⟩ = some (i64 tt) := bkc HXd.out 0
  have z1 : U.cell? ⟨x, 1, none⟩ = some (i64 p.c.kind) := bkc HXd.out 1
  have z2 : U.cell? ⟨x, 2, none⟩ = some (i64 p.c.num) := bkc HXd.out 2
  have z3 : U.cell? ⟨x, 3, none⟩ = some (i64 rights) := bkc HXd.out 3
  have z4 : U.cell? ⟨x, 4, none⟩ = some (i64 0) := bkc HXd.out 4
  have z5 : U.cell? ⟨x, 5, none⟩ = some (i64 0) := bkc HXd.out 5
  have z6 : U.cell? ⟨x, 6, none⟩ = some (i64 (k : Nat)) := bkc HXd.out 6
  have z7 : U.cell? ⟨x, 7, none⟩ = some (.bool false) := bkc HXd.out 7
  go_wp2_with fail
  refine (rright_ok U ⟨tt, p.c.kind, p.c.num, rights⟩ 0 0 (k : Nat) false).mono ?_
  rintro e w3 ⟨rfl, hb3⟩
  rw [HRt.out]
  have HB3 : Hid (Below w.heap.size w w3) := HBd.out.trans (hb3.mono HBd.out.size)
  have HKx : Hid (w3.heap[w.heap.size + 2]? = some (gO 0 0 0)) := bkb HKd.out hb3
  have k0 : w3.cell? ⟨w.heap.size + 2, 0, none⟩ = some (i64 0) := bkc HKx.out 0
  have k1 : w3.cell? ⟨w.heap.size + 2, 1, none⟩ = some (i64 0) := bkc HKx.out 1
  have k2 : w3.cell? ⟨w.heap.size + 2, 2, none⟩ = some (i64 0) := bkc HKx.out 2
  have kf : ∀ j, w3.frozen? ⟨w.heap.size + 2, j, none⟩ = false := bkf HKx.out
  have f0 : w3.cell? ⟨r, 0, none⟩ = some (.slice (some ⟨g, 0, none⟩) N cap) := (hb3.cell (p := ⟨r, 0, none⟩) (World.block_lt_of_cell? U _ HCd.out.1.s0)).trans HCd.out.1.s0
  have f3 : w3.cell? ⟨g, k * 8 + 3, none⟩ = some (i64 p.c.rts) := (hb3.cell (p := ⟨g, _, none⟩) (World.block_lt_of_cell? U _ HCd.out.2)).trans HCd.out.2
  have fq : w3.cell? ⟨w.heap.size + 1, 1, none⟩ = some (i64 rights) := (hb3.cell (p := ⟨w.heap.size + 1, 1, none⟩) (World.block_lt_of_cell? U _ HCd.out.1.q1)).trans HCd.out.1.q1
  rw [HXR.out] at f3
  clear hb3 z0 z1 z2 z3 z4 z5 z6 z7 HCd HXR hxr
  rcases envB_iff.1 hcr with rfl | rfl | rfl <;> rcases envB_iff.1 hrr with rfl | rfl | rfl
  all_goals first
    | (exact absurd hgr (by decide))
    | (clear hcr hrr hgr
       go_wp2_with fail
       exact bodyPost_ret (results_one Try.results71 rfl (load75 (set3 HKx.out _ _ _))) rfl ⟨rfl, bel3 HB3.out (by omega) _ _ _⟩)
set_option maxHeartbeats 3200000 in
theorem rderive_ok {w : World} {base r : Nat} {L : List Rw} (h : Rb w base r L) (hl : L.length ≤ 900) (env sl gn tt rights : Int) (k : Nat) (p : Rw) (hf : fdI L env sl gn = k) (hp : L[k]? = some p) (hrt : rightB ⟨tt, p.c.kind, p.c.num, rights⟩ = true) (hcr : envB p.c.rts = true) (hrr : envB rights = true) (hgr : grB p.c.rts rights = true) (s : Nat) (hs : s < 128) (h0 : atI L (s : Nat) = -1) (hno : ∀ j : Nat, j < s → ∃ k : Nat, atI L (j : Nat) = k) : Calls Try.prog 71 #[pq r, i64 env, .agg #[i64 sl, i64 gn], .agg #[i64 tt, i64 rights]] w fun e w' => e = .returned (.agg #[i64 (s : Nat), i64 ((cnS L (s : Nat) : Int) + 1), i64 0]) ∧ Rb w' base r (L ++ [⟨⟨tt, p.c.kind, p.c.num, rights⟩, s, (cnS L (s : Nat) : Int) + 1, k, true⟩]) ∧ Fr base [99, 96] w w' := by
  have hblo : base ≤ w.heap.size := by have := h.lt; have := h.lo; omega
  obtain ⟨hBV, hK1, hK2, hK3⟩ := three_dr w sl gn tt rights
  obtain ⟨V, hV⟩ : ∃ V, V = dW w sl gn tt rights := ⟨_, rfl⟩
  have HVe : Hid (((w.alloc (.cells #[i64 sl, i64 gn] 81)).alloc (.cells #[i64 tt, i64 rights] 90)).alloc (.cells #[i64 0, i64 0, i64 0] 130) = V) := hV.symm
  rw [← hV] at hBV hK1 hK2 hK3
  have HB := hid hBV
  have HK2 := hid hK2
  have HK3 := hid hK3
  have HR0 := hid h
  have v0 : V.cell? ⟨w.heap.size, 0, none⟩ = some (i64 sl) := bkc hK1 0
  have v1 : V.cell? ⟨w.heap.size, 1, none⟩ = some (i64 gn) := bkc hK1 1
  have hA := rfind_ok (h.below hBV) (by omega) env sl gn
  rw [hf] at hA
  have HA := hid hA
  have hkL : k < L.length := (List.getElem?_eq_some_iff.1 hp).1
  obtain ⟨ao, cap, hbk, _, hcap, hrow⟩ := (h.below hBV).row
  obtain ⟨g, rfl, _, hgl, _, _, hc⟩ := hrow k p hp
  have HRt := hid hrt
  obtain ⟨xr, hxr⟩ : ∃ xr, xr = p.c.rts := ⟨_, rfl⟩
  rw [← hxr] at hgr hcr
  have HXR : Hid (p.c.rts = xr) := hxr.symm
  have HPut : Hid (∀ W, Rb W base r L → Calls Try.prog 92 #[pq r, rwV ⟨tt, p.c.kind, p.c.num, rights⟩ 0 0 (k : Nat) false] W fun e w' => e = .returned (i64 (L.length : Nat)) ∧ Rb w' base r (L ++ [⟨⟨tt, p.c.kind, p.c.num, rights⟩, s, (cnS L (s : Nat) : Int) + 1, (k : Nat), true⟩]) ∧ Fr base [99, 96] W w') := fun W hW => rput_ok hW hl ⟨tt, p.c.kind, p.c.num, rights⟩ 0 0 (k : Nat) false s hs h0 hno
  have HGot : Hid (∀ W, Rb W base r (L ++ [⟨⟨tt, p.c.kind, p.c.num, rights⟩, s, (cnS L (s : Nat) : Int) + 1, (k : Nat), true⟩]) → Calls Try.prog 91 #[pq r, i64 (L.length : Nat)] W fun e w' => e = .returned (.agg #[i64 (s : Nat), i64 ((cnS L (s : Nat) : Int) + 1), i64 0]) ∧ Below W.heap.size W w') := fun W hW => rgot_ok hW (by simp; omega) L.length ⟨⟨tt, p.c.kind, p.c.num, rights⟩, s, (cnS L (s : Nat) : Int) + 1, (k : Nat), true⟩ (by simp)
  obtain ⟨N, hN⟩ : ∃ N, N = L.length := ⟨_, rfl⟩
  rw [← hN] at hbk hcap hkL
  have hkI : (k : Int) < N := by omega
  have hcI : (N : Int) ≤ cap := by omega
  have hNI : (N : Int) ≤ 1000 := by omega
  have HC : Hid (∀ W, Below V.heap.size V W → SqV r g k (w.heap.size + 1) (.slice (some ⟨g, 0, none⟩) N cap) p tt rights W ∧ W.cell? ⟨g, k * 8 + 3, none⟩ = some (i64 p.c.rts)) := fun W hW => ⟨⟨bkc (bkb hbk hW) 0, (hW.cell (p := ⟨g, _, none⟩) hgl).trans (hc 1 (by omega)), (hW.cell (p := ⟨g, _, none⟩) hgl).trans (hc 2 (by omega)), bkc (bkb HK2.out hW) 0, bkc (bkb HK2.out hW) 1⟩, (hW.cell (p := ⟨g, _, none⟩) hgl).trans (hc 3 (by omega))⟩
  clear hA hf h hV hBV hK1 hK2 hK3 hbk hrow hc hp hN hrt h0 hno
  go_enter Try.func71, Try.ntmps71
  go_upto_region 1 with fail
  rw [HVe.out]
  go_wp2_with fail
  refine HA.out.mono ?_
  rintro e w1 ⟨rfl, hb1⟩
  have HB1 := hid hb1
  have HS : Hid (SqV r g k (w.heap.size + 1) (.slice (some ⟨g, 0, none⟩) N cap) p tt rights w1.drew) := (HC.out w1.drew hb1.drew).1
  clear hb1 v0 v1
  go_upto_region 4 with fail
  refine wp_region_noPanic ?_
  refine wrl (SqV r g k (w.heap.size + 1) (.slice (some ⟨g, 0, none⟩) N cap) p tt rights) 23 (by kernel_rfl) ?_
  refine wk 0 19 (.pointer (some ⟨w.heap.size + 1, 0, none⟩)) rfl HS.out (fun W hW => by obtain ⟨s0, s1, s2, q0, q1⟩ := hW; go_simp) ?_
  refine wk 1 20 (i64 tt) rfl HS.out (fun W hW => by obtain ⟨s0, s1, s2, q0, q1⟩ := hW; go_simp) ?_
  refine wk 2 21 (pq r) rfl HS.out (fun W hW => by obtain ⟨s0, s1, s2, q0, q1⟩ := hW; go_simp) ?_
  refine wk 3 22 (pq r) rfl HS.out (fun W hW => by obtain ⟨s0, s1, s2, q0, q1⟩ := hW; go_simp) ?_
  refine wk 4 23 (pq r) rfl HS.out (fun W hW => by obtain ⟨s0, s1, s2, q0, q1⟩ := hW; go_simp) ?_
  refine wk 5 24 (.slice (some ⟨g, 0, none⟩) N cap) rfl HS.out (fun W hW => by obtain ⟨s0, s1, s2, q0, q1⟩ := hW; go_simp) ?_
  refine wk 6 25 (i64 (k : Nat)) rfl HS.out (fun W hW => by obtain ⟨s0, s1, s2, q0, q1⟩ := hW; go_simp) ?_
  refine wk 7 26 (.pointer (some ⟨g, k * 8, none⟩)) rfl HS.out (fun W hW => by obtain ⟨s0, s1, s2, q0, q1⟩ := hW; go_simp) ?_
  refine wk 8 27 (.pointer (some ⟨g, k * 8 + 1, none⟩)) rfl HS.out (fun W hW => by obtain ⟨s0, s1, s2, q0, q1⟩ := hW; go_simp) ?_
  refine wk 9 28 (i64 p.c.kind) rfl HS.out (fun W hW => by obtain ⟨s0, s1, s2, q0, q1⟩ := hW; go_simp) ?_
  refine wk 10 29 (pq r) rfl HS.out (fun W hW => by obtain ⟨s0, s1, s2, q0, q1⟩ := hW; go_simp) ?_
  refine wk 11 30 (pq r) rfl HS.out (fun W hW => by obtain ⟨s0, s1, s2, q0, q1⟩ := hW; go_simp) ?_
  refine wk 12 31 (pq r) rfl HS.out (fun W hW => by obtain ⟨s0, s1, s2, q0, q1⟩ := hW; go_simp) ?_
  refine wk 13 32 (.slice (some ⟨g, 0, none⟩) N cap) rfl HS.out (fun W hW => by obtain ⟨s0, s1, s2, q0, q1⟩ := hW; go_simp) ?_
  refine wk 14 33 (i64 (k : Nat)) rfl HS.out (fun W hW => by obtain ⟨s0, s1, s2, q0, q1⟩ := hW; go_simp) ?_
  refine wk 15 34 (.pointer (some ⟨g, k * 8, none⟩)) rfl HS.out (fun W hW => by obtain ⟨s0, s1, s2, q0, q1⟩ := hW; go_simp) ?_
  refine wk 16 35 (.pointer (some ⟨g, k * 8 + 2, none⟩)) rfl HS.out (fun W hW => by obtain ⟨s0, s1, s2, q0, q1⟩ := hW; go_simp) ?_
  refine wk 17 36 (i64 p.c.num) rfl HS.out (fun W hW => by obtain ⟨s0, s1, s2, q0, q1⟩ := hW; go_simp) ?_
  refine wk 18 37 (.pointer (some ⟨w.heap.size + 1, 1, none⟩)) rfl HS.out (fun W hW => by obtain ⟨s0, s1, s2, q0, q1⟩ := hW; go_simp) ?_
  refine wk 19 38 (i64 rights) rfl HS.out (fun W hW => by obtain ⟨s0, s1, s2, q0, q1⟩ := hW; go_simp) ?_
  refine wk 20 39 (i64 (k : Nat)) rfl HS.out (fun W hW => by obtain ⟨s0, s1, s2, q0, q1⟩ := hW; go_simp) ?_
  refine wk 21 40 (.agg #[i64 tt, i64 p.c.kind, i64 p.c.num, i64 rights, i64 0, i64 0, i64 (k : Nat), .bool false]) rfl HS.out (fun W hW => by obtain ⟨s0, s1, s2, q0, q1⟩ := hW; go_simp) ?_
  simp only [Act.put, sA, sZ, sS]
  refine wo 22 rfl (fun K hK => ?_)
  go_simp
  refine hK.out _ _ (fun _ => (HC.out _ (HB1.out.drew.alloc HB1.out.size _)).1) ?_
  clear hK K
  refine wo 23 rfl (fun K hK => ?_)
  go_simp
  refine hK.out _ _ (fun h => absurd rfl h) ?_
  clear hK K
  refine wdd ?_
  refine NoPanic.normal ?_
  have HBd : Hid (Below w.heap.size w (w1.alloc (rO ⟨⟨tt, p.c.kind, p.c.num, rights⟩, 0, 0, (k : Nat), false⟩)).drew) := Below.drew ((HB.out.trans (HB1.out.mono HB.out.size)).alloc (HB.out.trans (HB1.out.mono HB.out.size)).size _)
  have HCd := hid (HC.out (w1.alloc (rO ⟨⟨tt, p.c.kind, p.c.num, rights⟩, 0, 0, (k : Nat), false⟩)).drew (Below.drew (HB1.out.alloc HB1.out.size _)))
  have HKd : Hid ((w1.alloc (rO ⟨⟨tt, p.c.kind, p.c.num, rights⟩, 0, 0, (k : Nat), false⟩)).drew.heap[w.heap.size + 2]? = some (gO 0 0 0)) := bka (bkb HK3.out HB1.out) _
  have HXd : Hid ((w1.alloc (rO ⟨⟨tt, p.c.kind, p.c.num, rights⟩, 0, 0, (k : Nat), false⟩)).drew.heap[w1.heap.size]? = some (rO ⟨⟨tt, p.c.kind, p.c.num, rights⟩, 0, 0, (k : Nat), false⟩)) := hlx w1 _
  clear HS HC HB1
  unfold rO at HBd HCd HKd HXd
  generalize (w1.alloc (.cells #[i64 tt, i64 p.c.kind, i64 p.c.num, i64 rights, i64 0, i64 0, i64 (k : Nat), .bool false] 96)).drew = U at *
  generalize w1.heap.size = x at *
  have z0 : U.cell? ⟨x, 0, none⟩ = some (i64 tt) := bkc HXd.out 0
  have z1 : U.cell? ⟨x, 1, none⟩ = some (i64 p.c.kind) := bkc HXd.out 1
  have z2 : U.cell? ⟨x, 2, none⟩ = some (i64 p.c.num) := bkc HXd.out 2
  have z3 : U.cell? ⟨x, 3, none⟩ = some (i64 rights) := bkc HXd.out 3
  have z4 : U.cell? ⟨x, 4, none⟩ = some (i64 0) := bkc HXd.out 4
  have z5 : U.cell? ⟨x, 5, none⟩ = some (i64 0) := bkc HXd.out 5
  have z6 : U.cell? ⟨x, 6, none⟩ = some (i64 (k : Nat)) := bkc HXd.out 6
  have z7 : U.cell? ⟨x, 7, none⟩ = some (.bool false) := bkc HXd.out 7
  go_wp2_with fail
  refine (rright_ok U ⟨tt, p.c.kind, p.c.num, rights⟩ 0 0 (k : Nat) false).mono ?_
  rintro e w3 ⟨rfl, hb3⟩
  rw [HRt.out]
  have HB3 : Hid (Below w.heap.size w w3) := HBd.out.trans (hb3.mono HBd.out.size)
  have HKx : Hid (w3.heap[w.heap.size + 2]? = some (gO 0 0 0)) := bkb HKd.out hb3
  have f0 : w3.cell? ⟨r, 0, none⟩ = some (.slice (some ⟨g, 0, none⟩) N cap) := (hb3.cell (p := ⟨r, 0, none⟩) (World.block_lt_of_cell? U _ HCd.out.1.s0)).trans HCd.out.1.s0
  have f3 : w3.cell? ⟨g, k * 8 + 3, none⟩ = some (i64 p.c.rts) := (hb3.cell (p := ⟨g, _, none⟩) (World.block_lt_of_cell? U _ HCd.out.2)).trans HCd.out.2
  have fq : w3.cell? ⟨w.heap.size + 1, 1, none⟩ = some (i64 rights) := (hb3.cell (p := ⟨w.heap.size + 1, 1, none⟩) (World.block_lt_of_cell? U _ HCd.out.1.q1)).trans HCd.out.1.q1
  rw [HXR.out] at f3
  have HXe := hid (bkb HXd.out hb3)
  clear hb3 z0 z1 z2 z3 z4 z5 z6 z7 HCd HXR hxr
  rcases envB_iff.1 hcr with rfl | rfl | rfl <;> rcases envB_iff.1 hrr with rfl | rfl | rfl
  all_goals first
    | (exact absurd hgr (by decide))
    | (clear hcr hrr hgr
       go_upto_region 10 with fail
       have z0 : w3.cell? ⟨x, 0, none⟩ = some (i64 tt) := bkc HXe.out 0
       have z1 : w3.cell? ⟨x, 1, none⟩ = some (i64 p.c.kind) := bkc HXe.out 1
       have z2 : w3.cell? ⟨x, 2, none⟩ = some (i64 p.c.num) := bkc HXe.out 2
       have z3 : w3.cell? ⟨x, 3, none⟩ = some _ := bkc HXe.out 3
       have z4 : w3.cell? ⟨x, 4, none⟩ = some (i64 0) := bkc HXe.out 4
       have z5 : w3.cell? ⟨x, 5, none⟩ = some (i64 0) := bkc HXe.out 5
       have z6 : w3.cell? ⟨x, 6, none⟩ = some (i64 (k : Nat)) := bkc HXe.out 6
       have z7 : w3.cell? ⟨x, 7, none⟩ = some (.bool false) := bkc HXe.out 7
       go_wp2_with fail
       refine (HPut.out w3 (HR0.out.below HB3.out)).mono ?_
       clear z0 z1 z2 z3 z4 z5 z6 z7
       rintro e w4 ⟨rfl, hr4, hf4⟩
       have HR4 := hid hr4
       have HF4 : Hid (Fr base [99, 96] w w4) := (Fr.of_below _ HB3.out hblo).trans hf4
       have HK4 : Hid (w4.heap[w.heap.size + 2]? = some (gO 0 0 0)) := hf4.kept _ _ HKx.out (by rfl)
       clear hr4 hf4 f0 f3 fq
       go_wp2_with fail
       refine (HGot.out w4 HR4.out).mono ?_
       rintro e w5 ⟨rfl, hb5⟩
       have HR5 := hid (HR4.out.below hb5)
       have HK5 : Hid (w5.heap[w.heap.size + 2]? = some (gO 0 0 0)) := bkb HK4.out hb5
       have HF5 : Hid (Fr base [99, 96] w w5) := HF4.out.trans (Fr.of_below _ hb5 (Nat.le_trans hblo HF4.out.size))
       have k0 : w5.cell? ⟨w.heap.size + 2, 0, none⟩ = some (i64 0) := bkc HK5.out 0
       have k1 : w5.cell? ⟨w.heap.size + 2, 1, none⟩ = some (i64 0) := bkc HK5.out 1
       have k2 : w5.cell? ⟨w.heap.size + 2, 2, none⟩ = some (i64 0) := bkc HK5.out 2
       have kf : ∀ j, w5.frozen? ⟨w.heap.size + 2, j, none⟩ = false := bkf HK5.out
       clear hb5
       go_wp2_with fail
       exact bodyPost_ret (results_one Try.results71 rfl (load75 (set3 HK5.out _ _ _))) rfl ⟨rfl, HR5.out.set_new HK5.out (fun C => ⟨by simp, by simp⟩) _ _ _, HF5.out.set3n (by omega) hblo _ _ _⟩)
end Go.Proofs.Ytnknhencobhjdaa.Cp
namespace Go.Proofs.Ytnknhencobhjdaa.Cp
open Go.ChangeShapes Go.WideShapes Go.ChangeAt Go.RowKit Go.Deep
attribute [local go_sem ↓] Go.wp_at_zero Go.wp_at_succ
theorem two_one (a b : Int) : ∀ u ∈ [i64 a, i64 b], u.oneCell' = true := by
  intro u hu
  simp only [List.mem_cons, List.not_mem_nil, or_false] at hu
  rcases hu with rfl | rfl <;> rfl
inductive Up (L : List Rw) : Nat → Nat → Prop
  | refl (j : Nat) : Up L j j
  | step {j k i : Nat} {q : Rw} : L[j]? = some q → q.fr = (k : Nat) → Up L k i → Up L j i
theorem Up.trans {L : List Rw} {a b c : Nat} (h : Up L a b) (k : Up L b c) : Up L a c := by
  induction h with
  | refl => exact k
  | step h1 h2 _ ih => exact .step h1 h2 (ih k)
theorem Up.le {L : List Rw} (hf : Fw L) {a b : Nat} (h : Up L a b) : b ≤ a := by
  induction h with
  | refl => omega
  | step h1 h2 _ ih =>
    rcases hf _ _ h1 with h | ⟨j, h3, h4⟩
    · omega
    · omega
theorem upF_iff {L : List Rw} (hf : Fw L) (top : Nat) : ∀ (j n : Nat), j < L.length → j + 2 ≤ n → (upF L (top : Nat) n (j : Nat) = true ↔ Up L j top) := by
  intro j
  induction j using Nat.strongRecOn with
  | _ j ih =>
    intro n hj hn
    obtain ⟨n', rfl⟩ : ∃ n', n = n' + 1 := ⟨n - 1, by omega⟩
    obtain ⟨q, hq⟩ : ∃ q, L[j]? = some q := ⟨_, List.getElem?_eq_getElem hj⟩
    by_cases ht : j = top
    · subst ht
      rw [upF_yes]
      exact ⟨fun _ => .refl j, fun _ => rfl⟩
    · rw [upF_no L (top : Nat) n' j q hq (by omega)]
      rcases hf j q hq with h | ⟨k, h1, h2⟩
      · rw [h]
        obtain ⟨m, rfl⟩ : ∃ m, n' = m + 1 := ⟨n' - 1, by omega⟩
        rw [upF_end]
        refine ⟨fun h' => (by cases h'), fun h' => ?_⟩
        cases h' with
        | refl => exact absurd rfl ht
        | step h3 h4 _ => rw [hq] at h3; cases h3; omega
      · rw [h1, ih k h2 n' (by omega) (by omega)]
        refine ⟨fun h' => .step hq h1 h', fun h' => ?_⟩
        cases h' with
        | refl => exact absurd rfl ht
        | step h3 h4 h5 =>
          rw [hq] at h3
          cases h3
          rw [h1] at h4
          have hkk := Int.ofNat_inj.1 h4
          rw [hkk]
          exact h5
theorem bl_iff {L : List Rw} (hf : Fw L) {j : Nat} {q : Rw} (hq : L[j]? = some q) (top : Nat) : blR L j (top : Nat) = true ↔ ∃ k : Nat, q.fr = k ∧ Up L k top := by
  have hj : j < L.length := (List.getElem?_eq_some_iff.1 hq).1
  unfold blR frR
  rw [hq]
  simp only
  rcases hf j q hq with h | ⟨k, h1, h2⟩
  · rw [h, upF_end]
    refine ⟨fun h' => (by cases h'), fun ⟨k, h1, _⟩ => by omega⟩
  · rw [h1, upF_iff hf top k (j + 2) (by omega) (by omega)]
    refine ⟨fun h' => ⟨k, rfl, h'⟩, fun ⟨k', h3, h4⟩ => ?_⟩
    obtain rfl : k = k' := by omega
    exact h4
theorem upb_iff {L : List Rw} (hf : Fw L) {j : Nat} {q : Rw} (hq : L[j]? = some q) (i : Nat) : (decide (j = i) || blR L j (i : Nat)) = true ↔ Up L j i := by
  rw [Bool.or_eq_true, decide_eq_true_iff, bl_iff hf hq]
  constructor
  · rintro (rfl | ⟨k, h1, h2⟩)
    · exact .refl _
    · exact .step hq h1 h2
  · intro h
    cases h with
    | refl => exact Or.inl rfl
    | step h3 h4 h5 =>
      rw [hq] at h3
      cases h3
      exact Or.inr ⟨_, h4, h5⟩
def enR (L : List Rw) (i : Nat) : Int := match L[i]? with
  | some p => p.c.env
  | none => 0
def upB (L : List Rw) (j i : Nat) : Bool := decide (j = i) || blR L j (i : Nat)
def deB (L : List Rw) (env : Int) (k j : Nat) : Bool := lvA L j && (List.range k).any fun i => lvA L i && (decide (enR L i = env) && upB L j i)
theorem deB_succ (L : List Rw) (env : Int) (k j : Nat) : deB L env (k + 1) j = (deB L env k j || (lvA L j && (lvA L k && (decide (enR L k = env) && upB L j k)))) := by
  unfold deB
  rw [List.range_succ, List.any_append]
  simp [Bool.and_or_distrib_left]
theorem lvA_offs (S : Nat → Bool) (L : List Rw) (j : Nat) : lvA (offs S L) j = (lvA L j && !S j) := by
  unfold lvA
  rw [offs_get]
  cases L[j]? with
  | none => rfl
  | some p => cases h : S j <;> simp [offR]
theorem enR_offs (S : Nat → Bool) (L : List Rw) (j : Nat) : enR (offs S L) j = enR L j := by
  unfold enR
  rw [offs_get]
  cases L[j]? with
  | none => rfl
  | some p => cases h : S j <;> simp [offR]
theorem cnt_or (S S' : Nat → Bool) : ∀ n, (∀ i, i < n → (S i && S' i) = false) → cnt n (fun i => S i || S' i) = cnt n S + cnt n S'
  | 0, _ => rfl
  | n + 1, h => by
    rw [cnt_succ, cnt_succ, cnt_succ, cnt_or S S' n (fun i hi => h i (by omega))]
    have := h n (by omega)
    cases h1 : S n <;> cases h2 : S' n <;> simp [h1, h2] at this ⊢ <;> omega
theorem cnt_congr {S S' : Nat → Bool} : ∀ n, (∀ i, i < n → S i = S' i) → cnt n S = cnt n S'
  | 0, _ => rfl
  | n + 1, h => by rw [cnt_succ, cnt_succ, cnt_congr n (fun i hi => h i (by omega)), h n (by omega)]
theorem klB_offs (S : Nat → Bool) (L : List Rw) (k j : Nat) : klB (offs S L) k true j = (lvA L j && !S j && upB L j k) := by
  unfold klB upB
  rw [lvA_offs, offs_bl, Bool.true_and]
theorem de_kill {L : List Rw} {env : Int} {k : Nat} (h1 : lvA (offs (deB L env k) L) k = true) (h2 : enR L k = env) :
    offs (klB (offs (deB L env k) L) k true) (offs (deB L env k) L) = offs (deB L env (k + 1)) L ∧ cnt L.length (deB L env (k + 1)) = cnt L.length (deB L env k) + cnt L.length (klB (offs (deB L env k) L) k true) := by
  have hk : lvA L k = true := by rw [lvA_offs, Bool.and_eq_true] at h1; exact h1.1
  have e : ∀ j, deB L env (k + 1) j = (deB L env k j || klB (offs (deB L env k) L) k true j) := fun j => by
    rw [deB_succ, klB_offs, hk, decide_eq_true h2]
    cases deB L env k j <;> cases lvA L j <;> simp
  constructor
  · rw [offs_offs]
    exact offs_ext fun j _ => (e j).symm
  · rw [cnt_congr _ (fun j _ => e j)]
    apply cnt_or
    intro j _
    rw [klB_offs]
    cases deB L env k j <;> simp
theorem de_skip {L : List Rw} (hf : Fw L) {env : Int} {k : Nat} (hk : k < L.length) (h : ¬ (lvA (offs (deB L env k) L) k = true ∧ enR L k = env)) : ∀ j, j < L.length → deB L env (k + 1) j = deB L env k j := by
  intro j hj
  rw [deB_succ]
  cases hD : deB L env k j with
  | true => rfl
  | false =>
    rw [Bool.false_or]
    cases hX : (lvA L j && (lvA L k && (decide (enR L k = env) && upB L j k))) with
    | false => rfl
    | true =>
      exfalso
      simp only [Bool.and_eq_true, decide_eq_true_eq] at hX
      obtain ⟨hj1, hk1, he, hu⟩ := hX
      have hS : deB L env k k = true := by
        cases hS : deB L env k k with
        | true => rfl
        | false => exact absurd ⟨by rw [lvA_offs, hk1, hS]; rfl, he⟩ h
      unfold deB at hS
      rw [Bool.and_eq_true, List.any_eq_true] at hS
      obtain ⟨_, i, hi, h3⟩ := hS
      simp only [Bool.and_eq_true, decide_eq_true_eq] at h3
      obtain ⟨h4, h5, h6⟩ := h3
      obtain ⟨qj, hqj⟩ : ∃ q, L[j]? = some q := ⟨_, List.getElem?_eq_getElem hj⟩
      obtain ⟨qk, hqk⟩ : ∃ q, L[k]? = some q := ⟨_, List.getElem?_eq_getElem hk⟩
      have hjk := (upb_iff hf hqj k).1 hu
      have hki := (upb_iff hf hqk i).1 h6
      have hji : upB L j i = true := (upb_iff hf hqj i).2 (hjk.trans hki)
      have : deB L env k j = true := by
        unfold deB
        rw [Bool.and_eq_true, List.any_eq_true]
        exact ⟨hj1, i, hi, by rw [h4, decide_eq_true h5, hji]; rfl⟩
      rw [hD] at this
      cases this
set_option maxHeartbeats 3200000 in
theorem rdropEnv_ok {w : World} {base r : Nat} {L : List Rw} (h : Rb w base r L) (hl : L.length ≤ 1000) (hfw : Fw L) (env : Int) :
    Calls Try.prog 65 #[pq r, i64 env] w fun e w' => e = .returned (i64 (cnt L.length (deB L env L.length) : Nat)) ∧ Rb w' base r (offs (deB L env L.length) L) ∧ Fr base [99, 96] w w' := by
  obtain ⟨ao, cap, hbk, hown, hcap, _⟩ := h.row
  have b0 : w.cell? ⟨r, 0, none⟩ = some (.slice ao L.length cap) := bkc hbk 0
  obtain ⟨N, hN⟩ : ∃ N, N = L.length := ⟨_, rfl⟩
  rw [← hN] at b0 hl hcap hbk ⊢
  have HN : Hid (N = L.length) := hN
  have HFW : Hid (Fw L) := hfw
  have HR0 : Hid (Rb w base r (offs (deB L env 0) L)) := by rw [offs_none (fun i _ => by simp [deB])]; exact h
  have HC0 : Hid (cnt N (deB L env 0) = 0) := by rw [cnt_congr (S' := fun _ => false) N (fun i _ => by simp [deB])]; exact hid (by simp [cnt])
  have HK0 : Hid (w.heap[r]? = some (.cells #[.slice ao N cap] 99)) := hbk
  have hcI : (N : Int) ≤ cap := by omega
  have hNI : (N : Int) ≤ 1000 := by omega
  clear h hbk hown hN hfw
  go_enter Try.func65, Try.ntmps65
  go_wp2_with fail
  go_loopw [5, 12] (fun n i wr => ∃ k : Nat, k ≤ N ∧ i = i64 k ∧ n = i64 (cnt N (deB L env k) : Nat) ∧ Hid (Rb wr base r (offs (deB L env k) L)) ∧ Hid (Fr base [99, 96] w wr)) (fun _ i _ => N - (intOf i).toNat)
  case atStart => exact ⟨0, by omega, rfl, by rw [HC0.out]; rfl, HR0, Fr.refl _ _ _⟩
  case round =>
    obtain ⟨k, hk, rfl, rfl, HR, HF⟩ := hrel
    have hle : cnt N (deB L env k) ≤ 1000 := Nat.le_trans (cnt_le _ _) (by omega)
    by_cases hlt : k < N
    · have hlt2 : k < L.length := by rw [← HN.out]; exact hlt
      obtain ⟨p, hp⟩ : ∃ p, (offs (deB L env k) L)[k]? = some p := ⟨_, List.getElem?_eq_getElem (by rw [offs_len]; exact hlt2)⟩
      obtain ⟨ao', cap', hbk', _, hcap', hrow⟩ := HR.out.row
      rw [offs_len, ← HN.out] at hbk' hcap'
      obtain ⟨g, rfl, hbg, hgl, hgr, hfz, hc⟩ := hrow k p hp
      have b1 : wr.cell? ⟨r, 0, none⟩ = some (.slice (some ⟨g, 0, none⟩) N cap') := bkc hbk' 0
      have c7 : wr.cell? ⟨g, k * 8 + 7, none⟩ = some (.bool p.lv) := hc 7 (by omega)
      have c0 : wr.cell? ⟨g, k * 8, none⟩ = some (i64 p.c.env) := hc 0 (by omega)
      have hkN : (k : Int) < N := by omega
      have hcN : (N : Int) ≤ cap' := by omega
      have hlv : lvA (offs (deB L env k) L) k = p.lv := by unfold lvA; rw [hp]
      have hen : enR L k = p.c.env := by rw [← enR_offs (deB L env k)]; unfold enR; rw [hp]
      by_cases hck : p.lv = true ∧ p.c.env = env
      · obtain ⟨e1, e2⟩ := de_kill (k := k) (by rw [hlv]; exact hck.1) (by rw [hen]; exact hck.2)
        have hkill := rkill_ok HR.out (by rw [offs_len, ← HN.out]; exact hl) (offs_fw HFW.out) k true
        rw [e1, offs_len] at hkill
        rw [← HN.out] at hkill e2
        have HKl := hid hkill
        have HE2 := hid e2
        have hle2 := cnt_le N (klB (offs (deB L env k) L) k true)
        rw [hck.1] at c7
        have hbe : (p.c.env == env) = true := by simpa using hck.2
        clear hck hlv hen hp hbk' hrow hc e1 hkill e2
        generalize cnt N (klB (offs (deB L env k) L) k true) = M2 at *
        generalize cnt N (deB L env k) = M at *
        go_wp2_with fail
        refine HKl.out.mono ?_
        rintro e w2 ⟨rfl, hr2, hf2⟩
        have HR2 := hid hr2
        have HF2 : Hid (Fr base [99, 96] w w2) := HF.out.trans hf2
        clear hr2 hf2
        go_wp2_with fail
        exact ⟨⟨k + 1, by omega, by go_num, by rw [HE2.out]; go_num, HR2, HF2⟩, by simp [intOf]; omega⟩
      · have hsk := de_skip HFW.out (env := env) hlt2 (by rw [hlv, hen]; exact hck)
        have HR2 : Hid (Rb wr base r (offs (deB L env (k + 1)) L)) := by rw [offs_ext hsk]; exact HR
        have HE2 : Hid (cnt N (deB L env (k + 1)) = cnt N (deB L env k)) := cnt_congr N (fun i hi => hsk i (by rw [← HN.out]; exact hi))
        clear hlv hen hp hbk' hrow hc hsk
        generalize cnt N (deB L env k) = M at *
        cases hl7 : p.lv with
        | false =>
          rw [hl7] at c7
          clear hl7 hck
          go_wp2_with fail
          exact ⟨⟨k + 1, by omega, by go_num, by rw [HE2.out], HR2, HF⟩, by simp [intOf]; omega⟩
        | true =>
          rw [hl7] at c7
          have hbe : (p.c.env == env) = false := beq_eq_false_iff_ne.2 (fun e => hck ⟨hl7, e⟩)
          clear hl7 hck
          go_wp2_with fail
          exact ⟨⟨k + 1, by omega, by go_num, by rw [HE2.out], HR2, HF⟩, by simp [intOf]; omega⟩
    · obtain rfl : k = N := by omega
      go_wp2_with fail
      go_ret
      exact ⟨rfl, HR.out, HF.out⟩
end Go.Proofs.Ytnknhencobhjdaa.Cp
namespace Go.Proofs.Ytnknhencobhjdaa.Cp
theorem tkB_yes {T : List Pl} {s : Nat} {p : Pl} (h : T[s]? = some p) (hc : p.c ≠ zC) : tkB T s = true := by simp [tkB, h, hc]
end Go.Proofs.Ytnknhencobhjdaa.Cp
namespace Go.Proofs.Ytnknhencobhjdaa.Cp
def psl (L : List Rw) (f : Int) : Int := if f = -1 then -1 else match L[f.toNat]? with
  | some p => p.sl
  | none => -1
structure Rel (T : List Pl) (L : List Rw) : Prop where
  len : T.length = 128
  sl : ∀ (i : Nat) q, L[i]? = some q → ∃ s : Nat, s < 128 ∧ q.sl = s
  rt : ∀ (i : Nat) q, L[i]? = some q → q.lv = true → rightB q.c = true
  fw : Fw L
  par : ∀ (i : Nat) q (k : Nat) p, L[i]? = some q → q.lv = true → q.fr = k → L[k]? = some p → p.lv = true
  one : ∀ (i j : Nat) p q, L[i]? = some p → L[j]? = some q → p.lv = true → q.lv = true → p.sl = q.sl → i = j
  tk : ∀ (i : Nat) q (s : Nat) p, L[i]? = some q → q.lv = true → q.sl = s → T[s]? = some p → p.c = q.c ∧ p.gen = q.gn ∧ p.fr = psl L q.fr
  ex : ∀ (s : Nat) p, T[s]? = some p → p.c ≠ zC → ∃ (i : Nat) (q : Rw), L[i]? = some q ∧ q.lv = true ∧ q.sl = s
  gen : ∀ (s : Nat) p, T[s]? = some p → p.gen = (cnS L (s : Nat) : Int)
theorem right_ne {c : Cp} (h : rightB c = true) : c ≠ zC := fun e => by rw [e] at h; exact absurd h (by decide)
theorem rel_nil : Rel z128 [] where
  len := by simp [z128]
  sl := fun i q h => by simp at h
  rt := fun i q h => by simp at h
  fw := fun i q h => by simp at h
  par := fun i q k p h => by simp at h
  one := fun i j p q h => by simp at h
  tk := fun i q s p h => by simp at h
  ex := fun s p h hc => by
    unfold z128 at h
    rw [List.getElem?_replicate] at h
    split at h
    · cases h; exact absurd rfl hc
    · cases h
  gen := fun s p h => by
    unfold z128 at h
    rw [List.getElem?_replicate] at h
    split at h
    · cases h; rfl
    · cases h
theorem Rel.get {T : List Pl} {L : List Rw} (h : Rel T L) {s : Nat} (hs : s < 128) : ∃ p, T[s]? = some p := ⟨_, List.getElem?_eq_getElem (by rw [h.len]; exact hs)⟩
theorem Rel.atLive {T : List Pl} {L : List Rw} (h : Rel T L) {k : Nat} {q : Rw} (hq : L[k]? = some q) (hl : q.lv = true) : atI L q.sl = k := by
  rcases atI_cases L q.sl with ⟨_, h2⟩ | ⟨i, p, h1, h2, h3, h4⟩
  · have := h2 k q hq
    simp [atB, hl] at this
  · rw [h1, h.one i k p q h2 hq h3 hl h4]
theorem Rel.at {T : List Pl} {L : List Rw} (h : Rel T L) {s : Nat} {p : Pl} (hp : T[s]? = some p) : (p.c = zC ∧ atI L (s : Nat) = -1) ∨ ∃ (k : Nat) (q : Rw), p.c ≠ zC ∧ atI L (s : Nat) = k ∧ L[k]? = some q ∧ q.lv = true ∧ q.sl = s ∧ p.c = q.c ∧ p.gen = q.gn ∧ p.fr = psl L q.fr := by
  rcases atI_cases L (s : Nat) with ⟨h1, h2⟩ | ⟨k, q, h1, h2, h3, h4⟩
  · left
    refine ⟨Classical.byContradiction fun hc => ?_, h1⟩
    obtain ⟨i, q, hq, hl, hs⟩ := h.ex s p hp hc
    have := h2 i q hq
    simp [atB, hl, hs] at this
  · right
    obtain ⟨e1, e2, e3⟩ := h.tk k q s p h2 h3 h4 hp
    exact ⟨k, q, by rw [e1]; exact right_ne (h.rt k q h2 h3), h1, h2, h3, h4, e1, e2, e3⟩
theorem Rel.atOut {T : List Pl} {L : List Rw} (h : Rel T L) {sl : Int} (hs : sl < 0 ∨ 128 ≤ sl) : atI L sl = -1 := by
  rcases atI_cases L sl with ⟨h1, _⟩ | ⟨k, q, h1, h2, h3, h4⟩
  · exact h1
  · obtain ⟨s, hs1, hs2⟩ := h.sl k q h2
    omega
theorem lookF_out {T : List Pl} (hl : T.length = 128) {env sl gn : Int} (hs : sl < 0 ∨ 128 ≤ sl) : lookF T env sl gn = none := by
  unfold lookF
  by_cases h0 : 0 ≤ sl
  · rw [if_pos h0, List.getElem?_eq_none (by omega)]
  · rw [if_neg h0]
theorem Rel.look {T : List Pl} {L : List Rw} (h : Rel T L) (env sl gn : Int) : (lookF T env sl gn = none ∧ fdI L env sl gn = -1) ∨ ∃ (k : Nat) (q : Rw) (s : Nat), lookF T env sl gn = some q.c ∧ fdI L env sl gn = k ∧ L[k]? = some q ∧ q.lv = true ∧ sl = s ∧ s < 128 ∧ q.sl = sl ∧ q.gn = gn ∧ q.c.env = env := by
  by_cases hs : sl < 0 ∨ 128 ≤ sl
  · left
    refine ⟨lookF_out h.len hs, ?_⟩
    unfold fdI
    rw [h.atOut hs]
    rfl
  · obtain ⟨s, rfl⟩ : ∃ s : Nat, sl = s := ⟨sl.toNat, by omega⟩
    obtain ⟨p, hp⟩ := h.get (s := s) (by omega)
    rcases h.at hp with ⟨h1, h2⟩ | ⟨k, q, h0, h1, h2, h3, h4, e1, e2, _⟩
    · left
      constructor
      · unfold lookF
        rw [if_pos (by omega), Int.toNat_natCast, hp]
        simp [h1]
      · unfold fdI
        rw [h2]
        rfl
    · have e : fdI L env (s : Nat) gn = if q.gn = gn ∧ q.c.env = env then (k : Int) else -1 := by
        unfold fdI
        rw [h1, if_neg (by omega), Int.toNat_natCast, h2]
      by_cases hc : q.gn = gn ∧ q.c.env = env
      · right
        refine ⟨k, q, s, ?_, by rw [e, if_pos hc], h2, h3, rfl, by omega, h4, hc.1, hc.2⟩
        have := lookF_at (T := T) (env := env) (gn := gn) hp h0 (by rw [e2]; exact hc.1) (by rw [e1]; exact hc.2)
        rw [this, e1]
      · left
        refine ⟨?_, by rw [e, if_neg hc]⟩
        unfold lookF
        rw [if_pos (by omega), Int.toNat_natCast, hp]
        simp only
        rw [if_pos]
        by_cases hg : q.gn = gn
        · right; right; rw [e1]; exact fun he => hc ⟨hg, he⟩
        · right; left; rw [e2]; exact hg
theorem Rel.rts {T : List Pl} {L : List Rw} (h : Rel T L) : Rts T := fun i p hp hc => by
  obtain ⟨j, q, hq, hl, hs⟩ := h.ex i p hp hc
  rw [(h.tk j q i p hq hl hs hp).1]
  exact h.rt j q hq hl
def rkR (L : List Rw) (s : Nat) : Nat := (atI L (s : Nat)).toNat
theorem rkR_le (L : List Rw) (s : Nat) : rkR L s + 2 ≤ L.length + 2 := by
  unfold rkR
  rcases atI_cases L (s : Nat) with ⟨h1, _⟩ | ⟨k, q, h1, h2, _⟩
  · rw [h1]; simp
  · have := (List.getElem?_eq_some_iff.1 h2).1
    rw [h1, Int.toNat_natCast]; omega
theorem Rel.rk {T : List Pl} {L : List Rw} (h : Rel T L) : Rk T (rkR L) := ⟨fun s p hp hc => by
  rcases h.at hp with ⟨h1, _⟩ | ⟨k, q, _, h1, h2, h3, h4, e1, e2, e3⟩
  · exact absurd h1 hc
  · rcases h.fw k q h2 with hf | ⟨j, hf, hj⟩
    · left; rw [e3, hf]; rfl
    · right
      have hkL := (List.getElem?_eq_some_iff.1 h2).1
      obtain ⟨q', hq'⟩ : ∃ q', L[j]? = some q' := ⟨_, List.getElem?_eq_getElem (by omega)⟩
      have hl' := h.par k q j q' h2 h3 hf hq'
      obtain ⟨s', hs1, hs2⟩ := h.sl j q' hq'
      obtain ⟨p', hp'⟩ := h.get hs1
      have ht := h.tk j q' s' p' hq' hl' hs2 hp'
      refine ⟨s', p', ?_, hp', ?_, ?_⟩
      · rw [e3, hf]; unfold psl; rw [if_neg (by omega), Int.toNat_natCast, hq']; exact hs2
      · rw [ht.1]; exact right_ne (h.rt j q' hq' hl')
      · unfold rkR
        have := h.atLive hq' hl'
        rw [hs2] at this
        rw [this, h1, Int.toNat_natCast, Int.toNat_natCast]
        exact hj⟩
theorem Rel.hg {T : List Pl} {L : List Rw} (h : Rel T L) (m : Nat → Bool) : ∀ (j N : Nat) (q : Rw) (s : Nat), L[j]? = some q → q.lv = true → q.sl = s → j + 2 ≤ N → (hgF T m N (s : Nat) = true ↔ ∃ (i : Nat) (p : Rw), Up L j i ∧ L[i]? = some p ∧ m p.sl.toNat = true) := by
  intro j
  induction j using Nat.strongRecOn with
  | _ j ih =>
    intro N q s hq hl hs hN
    obtain ⟨N', rfl⟩ : ∃ N', N = N' + 1 := ⟨N - 1, by omega⟩
    obtain ⟨s2, hs1, hs2⟩ := h.sl j q hq
    obtain rfl : s = s2 := by omega
    obtain ⟨p, hp⟩ := h.get hs1
    obtain ⟨e1, e2, e3⟩ := h.tk j q s p hq hl hs hp
    cases hm : m s with
    | true =>
      rw [hgF_yes _ _ _ _ hm]
      exact ⟨fun _ => ⟨j, q, .refl j, hq, by rw [hs, Int.toNat_natCast]; exact hm⟩, fun _ => rfl⟩
    | false =>
      rw [hgF_no _ _ _ _ p hp hm, e3]
      rcases h.fw j q hq with hf | ⟨k, hf, hk⟩
      · rw [hf, show psl L (-1) = -1 from rfl]
        obtain ⟨N2, rfl⟩ : ∃ N2, N' = N2 + 1 := ⟨N' - 1, by omega⟩
        rw [hgF_end]
        refine ⟨fun h' => (by cases h'), fun ⟨i, p', hu, hp', hm'⟩ => ?_⟩
        cases hu with
        | refl =>
          rw [hq] at hp'
          cases hp'
          rw [hs, Int.toNat_natCast, hm] at hm'
          exact hm'
        | step h3 h4 _ => rw [hq] at h3; cases h3; omega
      · have hjL := (List.getElem?_eq_some_iff.1 hq).1
        obtain ⟨q', hq'⟩ : ∃ q', L[k]? = some q' := ⟨_, List.getElem?_eq_getElem (by omega)⟩
        have hl' := h.par j q k q' hq hl hf hq'
        obtain ⟨s', hs1', hs2'⟩ := h.sl k q' hq'
        have e4 : psl L q.fr = (s' : Nat) := by rw [hf]; unfold psl; rw [if_neg (by omega), Int.toNat_natCast, hq']; exact hs2'
        rw [e4, ih k hk N' q' s' hq' hl' hs2' (by omega)]
        constructor
        · rintro ⟨i, p', hu, hp', hm'⟩
          exact ⟨i, p', .step hq hf hu, hp', hm'⟩
        · rintro ⟨i, p', hu, hp', hm'⟩
          cases hu with
          | refl =>
            rw [hq] at hp'
            cases hp'
            rw [hs, Int.toNat_natCast, hm] at hm'
            cases hm'
          | step h3 h4 h5 =>
            rw [hq] at h3
            cases h3
            rw [hf] at h4
            have hkk := Int.ofNat_inj.1 h4
            rw [hkk]
            exact ⟨i, p', h5, hp', hm'⟩
theorem Up.live {T : List Pl} {L : List Rw} (h : Rel T L) {j i : Nat} (hu : Up L j i) : ∀ {q p : Rw}, L[j]? = some q → q.lv = true → L[i]? = some p → p.lv = true := by
  induction hu with
  | refl => intro q p hq hl hp; rw [hq] at hp; cases hp; exact hl
  | step h1 h2 _ ih =>
    intro q p hq hl hp
    rw [hq] at h1
    cases h1
    rename_i j' k' i' _ _
    rcases h.fw _ _ hq with hf | ⟨k, hf, hk⟩
    · omega
    · have hjL := (List.getElem?_eq_some_iff.1 hq).1
      obtain ⟨q', hq'⟩ : ∃ q', L[k']? = some q' := ⟨_, List.getElem?_eq_getElem (by omega)⟩
      exact ih hq' (h.par _ _ k' q' hq hl h2 hq') hp
theorem Up.has {L : List Rw} (hf : Fw L) {j i : Nat} (hu : Up L j i) {q : Rw} (hq : L[j]? = some q) : ∃ p, L[i]? = some p := by
  have := hu.le hf
  have := (List.getElem?_eq_some_iff.1 hq).1
  exact ⟨_, List.getElem?_eq_getElem (by omega)⟩
theorem count_eq {n : Nat} {G : List Nat} {K : Nat → Bool} {f : Nat → Nat} (hG : G.Nodup) (h1 : ∀ j, j < n → K j = true → f j ∈ G) (h2 : ∀ s, s ∈ G → ∃ j, j < n ∧ K j = true ∧ f j = s) (h3 : ∀ i j, i < n → j < n → K i = true → K j = true → f i = f j → i = j) : G.length = cnt n K := by
  unfold cnt
  have hn : ((List.range n).filter K).Nodup := List.Pairwise.filter _ List.nodup_range
  have hm : (((List.range n).filter K).map f).Nodup := by
    unfold List.Nodup at hn ⊢
    rw [List.pairwise_map]
    refine List.Pairwise.imp_of_mem ?_ hn
    intro a b ha hb hab e
    rw [List.mem_filter, List.mem_range] at ha hb
    exact hab (h3 a b ha.1 hb.1 ha.2 hb.2 e)
  have hp : G.Perm (((List.range n).filter K).map f) := by
    rw [List.perm_ext_iff_of_nodup hG hm]
    intro s
    constructor
    · intro hs
      obtain ⟨j, hj, hk, e⟩ := h2 s hs
      rw [List.mem_map]
      exact ⟨j, by rw [List.mem_filter, List.mem_range]; exact ⟨hj, hk⟩, e⟩
    · intro hs
      rw [List.mem_map] at hs
      obtain ⟨j, hj, rfl⟩ := hs
      rw [List.mem_filter, List.mem_range] at hj
      exact h1 j hj.1 hj.2
  rw [hp.length_eq, List.length_map]
theorem lvA_get {L : List Rw} {j : Nat} (h : lvA L j = true) : ∃ q, L[j]? = some q ∧ q.lv = true := by
  unfold lvA at h
  cases hq : L[j]? with
  | none => rw [hq] at h; cases h
  | some q => rw [hq] at h; exact ⟨q, rfl, h⟩
def slN (L : List Rw) (j : Nat) : Nat := match L[j]? with
  | some q => q.sl.toNat
  | none => 0
theorem slN_of {T : List Pl} {L : List Rw} (h : Rel T L) {j : Nat} {q : Rw} (hq : L[j]? = some q) : q.sl = (slN L j : Nat) ∧ slN L j < 128 := by
  obtain ⟨s, hs1, hs2⟩ := h.sl j q hq
  have : slN L j = s := by unfold slN; rw [hq]; simp [hs2]
  rw [this]
  exact ⟨hs2, hs1⟩
theorem Rel.off {T : List Pl} {L : List Rw} (h : Rel T L) {G : List Nat} {K : Nat → Bool} (hG : G.Nodup) (hGt : ∀ s, s ∈ G → tkB T s = true) (hK : ∀ j, K j = true → lvA L j = true) (hGK : ∀ (j : Nat) q, L[j]? = some q → q.lv = true → (slN L j ∈ G ↔ K j = true)) (hd : ∀ (j : Nat) q (k : Nat), L[j]? = some q → q.lv = true → q.fr = k → K k = true → K j = true) : Rel (clr T G) (offs K L) ∧ G.length = cnt L.length K := by
  have hoff : ∀ (i : Nat) q, (offs K L)[i]? = some q → ∃ p, L[i]? = some p ∧ q.c = p.c ∧ q.sl = p.sl ∧ q.gn = p.gn ∧ q.fr = p.fr ∧ (q.lv = true → p.lv = true ∧ K i = false ∧ q = p) := fun i q hq => by
    rw [offs_get] at hq
    cases hp : L[i]? with
    | none => rw [hp] at hq; cases hq
    | some p =>
      rw [hp] at hq
      simp only [Option.map_some, Option.some.injEq] at hq
      cases hk : K i with
      | true => rw [hk, if_pos rfl] at hq; subst hq; exact ⟨p, rfl, rfl, rfl, rfl, rfl, fun h' => by cases h'⟩
      | false => rw [hk, if_neg (by simp)] at hq; subst hq; exact ⟨p, rfl, rfl, rfl, rfl, rfl, fun h' => ⟨h', rfl, rfl⟩⟩
  have hpsl : ∀ f, psl (offs K L) f = psl L f := fun f => by
    unfold psl
    by_cases hf : f = -1
    · rw [if_pos hf, if_pos hf]
    · rw [if_neg hf, if_neg hf, offs_get]
      cases L[f.toNat]? with
      | none => rfl
      | some p => by_cases hk : K f.toNat = true <;> simp [hk, offR]
  have hcn : ∀ s : Int, cnS (offs K L) s = cnS L s := fun s => by
    unfold cnS offs
    have e : ∀ (M : List Rw) (o : Nat), ((M.mapIdx fun i p => if K (i + o) = true then offR p else p).filter fun r => decide (r.sl = s)).length = (M.filter fun r => decide (r.sl = s)).length := by
      intro M
      induction M with
      | nil => intro o; rfl
      | cons p M ih =>
        intro o
        rw [List.mapIdx_cons]
        have e2 : (fun (i : Nat) (p : Rw) => if K (i + 1 + o) = true then offR p else p) = fun i p => if K (i + (o + 1)) = true then offR p else p := by
          funext i p
          rw [show i + 1 + o = i + (o + 1) by omega]
        have e3 : (if K (0 + o) = true then offR p else p).sl = p.sl := by split <;> rfl
        rw [e2]
        have := ih (o + 1)
        by_cases hs : p.sl = s
        · rw [List.filter_cons_of_pos (by rw [e3]; simpa using hs), List.filter_cons_of_pos (by simpa using hs), List.length_cons, List.length_cons, this]
        · rw [List.filter_cons_of_neg (by rw [e3]; simpa using hs), List.filter_cons_of_neg (by simpa using hs), this]
    exact e L 0
  refine ⟨⟨by rw [clr_len]; exact h.len, fun i q hq => ?_, fun i q hq hl => ?_, offs_fw h.fw, fun i q k p hq hl hf hp => ?_, fun i j p q hp hq hpl hql hs => ?_, fun i q s p hq hl hs hp => ?_, fun s p hp hc => ?_, fun s p hp => ?_⟩, ?_⟩
  · obtain ⟨p, hp, _, e2, _⟩ := hoff i q hq
    rw [e2]; exact h.sl i p hp
  · obtain ⟨p, hp, _, _, _, _, e5⟩ := hoff i q hq
    obtain ⟨h1, _, rfl⟩ := e5 hl
    exact h.rt i q hp h1
  · obtain ⟨q0, hq0, _, _, _, _, e5⟩ := hoff i q hq
    obtain ⟨h1, h2, rfl⟩ := e5 hl
    obtain ⟨p0, hp0, _, _, _, _, _⟩ := hoff k p hp
    have hpl := h.par i q k p0 hq0 h1 hf hp0
    rw [offs_get, hp0] at hp
    simp only [Option.map_some, Option.some.injEq] at hp
    cases hk : K k with
    | true => have := hd i q k hq0 h1 hf hk; rw [h2] at this; cases this
    | false => rw [hk, if_neg (by simp)] at hp; subst hp; exact hpl
  · obtain ⟨p0, hp0, _, _, _, _, e5⟩ := hoff i p hp
    obtain ⟨h1, _, rfl⟩ := e5 hpl
    obtain ⟨q0, hq0, _, _, _, _, e6⟩ := hoff j q hq
    obtain ⟨h2, _, rfl⟩ := e6 hql
    exact h.one i j p q hp0 hq0 h1 h2 hs
  · obtain ⟨q0, hq0, _, _, _, _, e5⟩ := hoff i q hq
    obtain ⟨h1, h2, rfl⟩ := e5 hl
    rw [clr_get] at hp
    obtain ⟨hsl, hsl2⟩ := slN_of h hq0
    obtain rfl : s = slN L i := by omega
    have hnG : slN L i ∉ G := fun hg => by have := (hGK i q hq0 h1).1 hg; rw [h2] at this; cases this
    cases hT : T[slN L i]? with
    | none => rw [hT] at hp; cases hp
    | some p0 =>
      rw [hT] at hp
      simp only [Option.map_some, Option.some.injEq, if_neg hnG] at hp
      subst hp
      rw [hpsl]
      exact h.tk i q _ p0 hq0 h1 hs hT
  · rw [clr_get] at hp
    cases hT : T[s]? with
    | none => rw [hT] at hp; cases hp
    | some p0 =>
      rw [hT] at hp
      simp only [Option.map_some, Option.some.injEq] at hp
      by_cases hg : s ∈ G
      · rw [if_pos hg] at hp; subst hp; exact absurd rfl hc
      · rw [if_neg hg] at hp
        subst hp
        obtain ⟨i, q, hq, hl, hs⟩ := h.ex s p0 hT hc
        have hsl := slN_of h hq
        have hss : slN L i = s := by omega
        have hk : K i = false := by
          cases hk : K i with
          | false => rfl
          | true => exact absurd (by rw [← hss]; exact (hGK i q hq hl).2 hk) hg
        exact ⟨i, q, by rw [offs_get, hq]; simp [hk], hl, hs⟩
  · rw [hcn]
    rw [clr_get] at hp
    cases hT : T[s]? with
    | none => rw [hT] at hp; cases hp
    | some p0 =>
      rw [hT] at hp
      simp only [Option.map_some, Option.some.injEq] at hp
      rw [← h.gen s p0 hT, ← hp]
      by_cases hg : s ∈ G <;> simp [hg, clP]
  · refine count_eq (f := slN L) hG (fun j hj hk => ?_) (fun s hs => ?_) (fun i j hi hj hki hkj e => ?_)
    · obtain ⟨q, hq, hl⟩ := lvA_get (hK j hk)
      exact (hGK j q hq hl).2 hk
    · have htk := hGt s hs
      unfold tkB at htk
      cases hT : T[s]? with
      | none => rw [hT] at htk; cases htk
      | some p0 =>
        rw [hT] at htk
        obtain ⟨i, q, hq, hl, hsq⟩ := h.ex s p0 hT (by simpa using htk)
        have hsl := slN_of h hq
        have hss : slN L i = s := by omega
        exact ⟨i, (List.getElem?_eq_some_iff.1 hq).1, (hGK i q hq hl).1 (by rw [hss]; exact hs), hss⟩
    · obtain ⟨p, hp, hpl⟩ := lvA_get (hK i hki)
      obtain ⟨q, hq, hql⟩ := lvA_get (hK j hkj)
      have h1 := slN_of h hp
      have h2 := slN_of h hq
      exact h.one i j p q hp hq hpl hql (by omega)
theorem gnL_nodup (T : List Pl) (m : Nat → Bool) (N k : Nat) : (gnL T m N k).Nodup := List.Pairwise.filter _ List.nodup_range
theorem gnB_tk {T : List Pl} {m : Nat → Bool} {N s : Nat} (h : gnB T m N s = true) : tkB T s = true := by
  unfold gnB at h
  rw [Bool.and_eq_true] at h
  exact h.1
theorem Rel.gn {T : List Pl} {L : List Rw} (h : Rel T L) (m : Nat → Bool) {j : Nat} {q : Rw} (hq : L[j]? = some q) (hl : q.lv = true) : slN L j ∈ gnL T m (L.length + 2) 128 ↔ ∃ (i : Nat) (p : Rw), Up L j i ∧ L[i]? = some p ∧ m p.sl.toNat = true := by
  have hs := slN_of h hq
  have hj := (List.getElem?_eq_some_iff.1 hq).1
  rw [← h.hg m j (L.length + 2) q (slN L j) hq hl hs.1 (by omega)]
  unfold gnL
  rw [List.mem_filter, List.mem_range]
  unfold gnB
  obtain ⟨p, hp⟩ := h.get hs.2
  have := h.tk j q (slN L j) p hq hl hs.1 hp
  rw [tkB_yes hp (by rw [this.1]; exact right_ne (h.rt j q hq hl)), Bool.true_and]
  exact ⟨fun h' => h'.2, fun h' => ⟨hs.2, h'⟩⟩
theorem Rel.drop {T : List Pl} {L : List Rw} (h : Rel T L) {k : Nat} {q : Rw} (hq : L[k]? = some q) (hl : q.lv = true) : Rel (clr T (gnL T (mDrop q.sl) (L.length + 2) 128)) (offs (klB L k true) L) ∧ (gnL T (mDrop q.sl) (L.length + 2) 128).length = cnt L.length (klB L k true) := by
  have hkb : ∀ (j : Nat) p, L[j]? = some p → p.lv = true → (klB L k true j = true ↔ Up L j k) := fun j p hp hpl => by
    unfold klB lvA
    rw [hp]
    simp only [hpl, Bool.true_and]
    exact upb_iff h.fw hp k
  refine h.off (gnL_nodup _ _ _ _) (fun s hs => gnB_tk (gnL_lt hs).2) (fun j hk => by unfold klB at hk; rw [Bool.and_eq_true] at hk; exact hk.1) (fun j p hp hpl => ?_) (fun j p i hp hpl hf hk => ?_)
  · rw [h.gn _ hp hpl, hkb j p hp hpl]
    constructor
    · rintro ⟨i, r, hu, hr, hm⟩
      unfold mDrop at hm
      rw [decide_eq_true_iff] at hm
      have hs := slN_of h hr
      have := h.one i k r q hr hq (hu.live h hp hpl hr) hl (by omega)
      rw [← this]
      exact hu
    · intro hu
      refine ⟨k, q, hu, hq, ?_⟩
      have hs := slN_of h hq
      unfold mDrop
      rw [decide_eq_true_iff]
      omega
  · have hjL := (List.getElem?_eq_some_iff.1 hp).1
    have hlt : i < L.length := by rcases h.fw j p hp with h' | ⟨j', h1, h2⟩ <;> omega
    obtain ⟨r, hr⟩ : ∃ r, L[i]? = some r := ⟨_, List.getElem?_eq_getElem hlt⟩
    have hrl := h.par j p i r hp hpl hf hr
    exact (hkb j p hp hpl).2 (.step hp hf ((hkb i r hr hrl).1 hk))
theorem Rel.revoke {T : List Pl} {L : List Rw} (h : Rel T L) {k : Nat} {q : Rw} (hq : L[k]? = some q) (hl : q.lv = true) : Rel (clr T (gnL T (mRev T q.sl) (L.length + 2) 128)) (offs (klB L k false) L) ∧ (gnL T (mRev T q.sl) (L.length + 2) 128).length = cnt L.length (klB L k false) := by
  have hkb : ∀ (j : Nat) p, L[j]? = some p → p.lv = true → (klB L k false j = true ↔ ∃ i : Nat, p.fr = i ∧ Up L i k) := fun j p hp hpl => by
    unfold klB lvA
    rw [hp]
    simp only [hpl, Bool.true_and, Bool.false_and, Bool.false_or]
    exact bl_iff h.fw hp k
  have hfrA : ∀ (i : Nat) r, L[i]? = some r → r.lv = true → frA T r.sl.toNat = psl L r.fr := fun i r hr hrl => by
    have hs := slN_of h hr
    obtain ⟨p, hp⟩ := h.get hs.2
    have := (h.tk i r (slN L i) p hr hrl hs.1 hp).2.2
    unfold frA
    rw [hs.1, Int.toNat_natCast, hp]
    exact this
  refine h.off (gnL_nodup _ _ _ _) (fun s hs => gnB_tk (gnL_lt hs).2) (fun j hk => by unfold klB at hk; rw [Bool.and_eq_true] at hk; exact hk.1) (fun j p hp hpl => ?_) (fun j p i hp hpl hf hk => ?_)
  · rw [h.gn _ hp hpl, hkb j p hp hpl]
    constructor
    · rintro ⟨i, r, hu, hr, hm⟩
      unfold mRev at hm
      rw [decide_eq_true_iff, hfrA i r hr (hu.live h hp hpl hr)] at hm
      have hrl := hu.live h hp hpl hr
      have hqs := slN_of h hq
      rcases h.fw i r hr with hf | ⟨i', hf, hi'⟩
      · rw [hf] at hm
        have : psl L (-1) = -1 := rfl
        omega
      · have hiL := (List.getElem?_eq_some_iff.1 hr).1
        obtain ⟨r', hr'⟩ : ∃ r', L[i']? = some r' := ⟨_, List.getElem?_eq_getElem (by omega)⟩
        have hrl' := h.par i r i' r' hr hrl hf hr'
        have hps : psl L r.fr = r'.sl := by rw [hf]; unfold psl; rw [if_neg (by omega), Int.toNat_natCast, hr']
        have hik := h.one i' k r' q hr' hq hrl' hl (by omega)
        subst hik
        have hui : Up L i i' := .step hr hf (.refl _)
        cases hu with
        | refl => rw [hp] at hr; cases hr; exact ⟨i', hf, .refl _⟩
        | step h3 h4 h5 =>
          rw [hp] at h3
          cases h3
          exact ⟨_, h4, h5.trans hui⟩
    · rintro ⟨i, hf, hu⟩
      have key : ∀ {a b : Nat}, Up L a b → ∀ {c : Nat} {rc : Rw}, L[c]? = some rc → rc.lv = true → rc.fr = (a : Nat) → b = k → ∃ (x : Nat) (rx : Rw), Up L c x ∧ L[x]? = some rx ∧ rx.fr = (k : Nat) := by
        intro a b hab
        induction hab with
        | refl => intro c rc hc _ hfc hb; subst hb; exact ⟨c, rc, .refl c, hc, hfc⟩
        | step g1 g2 _ ih =>
          intro c rc hc hcl hfc hb
          have hal := h.par c rc _ _ hc hcl hfc g1
          obtain ⟨x, rx, hux, hx1, hx2⟩ := ih g1 hal g2 hb
          exact ⟨x, rx, .step hc hfc hux, hx1, hx2⟩
      obtain ⟨x, rx, hux, hx1, hx2⟩ := key hu hp hpl hf rfl
      refine ⟨x, rx, hux, hx1, ?_⟩
      unfold mRev
      rw [decide_eq_true_iff, hfrA x rx hx1 (hux.live h hp hpl hx1), hx2]
      unfold psl
      rw [if_neg (by omega), Int.toNat_natCast, hq]
  · have hjL := (List.getElem?_eq_some_iff.1 hp).1
    have hlt : i < L.length := by rcases h.fw j p hp with h' | ⟨j', h1, h2⟩ <;> omega
    obtain ⟨r, hr⟩ : ∃ r, L[i]? = some r := ⟨_, List.getElem?_eq_getElem hlt⟩
    have hrl := h.par j p i r hp hpl hf hr
    obtain ⟨i', hf', hu'⟩ := (hkb i r hr hrl).1 hk
    exact (hkb j p hp hpl).2 ⟨i, hf, .step hr hf' hu'⟩
theorem Rel.dropEnv {T : List Pl} {L : List Rw} (h : Rel T L) (env : Int) : Rel (clr T (gnL T (mEnv T env) (L.length + 2) 128)) (offs (deB L env L.length) L) ∧ (gnL T (mEnv T env) (L.length + 2) 128).length = cnt L.length (deB L env L.length) := by
  have hde : ∀ (j : Nat) p, L[j]? = some p → p.lv = true → (deB L env L.length j = true ↔ ∃ (i : Nat) (r : Rw), Up L j i ∧ L[i]? = some r ∧ r.c.env = env) := fun j p hp hpl => by
    have hj := (List.getElem?_eq_some_iff.1 hp).1
    unfold deB
    rw [Bool.and_eq_true, List.any_eq_true]
    constructor
    · rintro ⟨_, i, _, h3⟩
      simp only [Bool.and_eq_true, decide_eq_true_eq] at h3
      obtain ⟨r, hr, _⟩ := lvA_get h3.1
      refine ⟨i, r, (upb_iff h.fw hp i).1 h3.2.2, hr, ?_⟩
      have := h3.2.1
      unfold enR at this
      rw [hr] at this
      exact this
    · rintro ⟨i, r, hu, hr, he⟩
      refine ⟨by unfold lvA; rw [hp]; exact hpl, i, ?_, ?_⟩
      · have := (List.getElem?_eq_some_iff.1 hr).1
        simpa using this
      · simp only [Bool.and_eq_true, decide_eq_true_eq]
        refine ⟨by unfold lvA; rw [hr]; exact hu.live h hp hpl hr, by unfold enR; rw [hr]; exact he, (upb_iff h.fw hp i).2 hu⟩
  refine h.off (gnL_nodup _ _ _ _) (fun s hs => gnB_tk (gnL_lt hs).2) (fun j hk => by unfold deB at hk; rw [Bool.and_eq_true] at hk; exact hk.1) (fun j p hp hpl => ?_) (fun j p i hp hpl hf hk => ?_)
  · rw [h.gn _ hp hpl, hde j p hp hpl]
    constructor
    · rintro ⟨i, r, hu, hr, hm⟩
      have hs := slN_of h hr
      obtain ⟨t, ht⟩ := h.get hs.2
      have := (h.tk i r (slN L i) t hr (hu.live h hp hpl hr) hs.1 ht).1
      unfold mEnv enA at hm
      rw [decide_eq_true_iff, hs.1, Int.toNat_natCast, ht] at hm
      exact ⟨i, r, hu, hr, by rw [← this]; exact hm⟩
    · rintro ⟨i, r, hu, hr, he⟩
      have hs := slN_of h hr
      obtain ⟨t, ht⟩ := h.get hs.2
      have := (h.tk i r (slN L i) t hr (hu.live h hp hpl hr) hs.1 ht).1
      refine ⟨i, r, hu, hr, ?_⟩
      unfold mEnv enA
      rw [decide_eq_true_iff, hs.1, Int.toNat_natCast, ht]
      simp only
      rw [this]
      exact he
  · have hjL := (List.getElem?_eq_some_iff.1 hp).1
    have hlt : i < L.length := by rcases h.fw j p hp with h' | ⟨j', h1, h2⟩ <;> omega
    obtain ⟨r, hr⟩ : ∃ r, L[i]? = some r := ⟨_, List.getElem?_eq_getElem hlt⟩
    have hrl := h.par j p i r hp hpl hf hr
    obtain ⟨a, ra, hua, hra, hea⟩ := (hde i r hr hrl).1 hk
    exact (hde j p hp hpl).2 ⟨a, ra, .step hp hf hua, hra, hea⟩
end Go.Proofs.Ytnknhencobhjdaa.Cp
namespace Go.Proofs.Ytnknhencobhjdaa.Cp
theorem snoc_get {α : Type} {L : List α} {x q : α} {i : Nat} (h : (L ++ [x])[i]? = some q) : L[i]? = some q ∧ i < L.length ∨ i = L.length ∧ q = x := by
  by_cases hi : i < L.length
  · rw [List.getElem?_append_left hi] at h
    exact Or.inl ⟨h, hi⟩
  · rw [List.getElem?_append_right (by omega)] at h
    right
    by_cases h0 : i = L.length
    · rw [h0, Nat.sub_self] at h
      simp at h
      exact ⟨h0, h.symm⟩
    · rw [List.getElem?_eq_none (by simp; omega)] at h
      cases h
theorem cnS_snoc (L : List Rw) (x : Rw) (s : Int) : cnS (L ++ [x]) s = cnS L s + if x.sl = s then 1 else 0 := by
  unfold cnS
  rw [List.filter_append, List.length_append]
  by_cases h : x.sl = s <;> simp [h]
theorem psl_snoc {L : List Rw} (x : Rw) {f : Int} (h : f = -1 ∨ ∃ k : Nat, f = k ∧ k < L.length) : psl (L ++ [x]) f = psl L f := by
  unfold psl
  rcases h with h | ⟨k, h1, h2⟩
  · rw [if_pos h, if_pos h]
  · rw [h1, if_neg (by omega), if_neg (by omega), Int.toNat_natCast, List.getElem?_append_left h2]
theorem Rel.frok {T : List Pl} {L : List Rw} (h : Rel T L) {i : Nat} {q : Rw} (hq : L[i]? = some q) : q.fr = -1 ∨ ∃ k : Nat, q.fr = k ∧ k < L.length := by
  have := (List.getElem?_eq_some_iff.1 hq).1
  rcases h.fw i q hq with h1 | ⟨k, h1, h2⟩
  · exact Or.inl h1
  · exact Or.inr ⟨k, h1, by omega⟩
theorem Rel.put {T : List Pl} {L : List Rw} (h : Rel T L) {s : Nat} {p : Pl} (hs : s < 128) (hp : T[s]? = some p) (hz : p.c = zC) {c : Cp} (hc : rightB c = true) {fr : Int} (hf : fr = -1 ∨ ∃ (k : Nat) (q : Rw), fr = k ∧ L[k]? = some q ∧ q.lv = true) :
    Rel (T.set s ⟨c, psl L fr, p.gen + 1⟩) (L ++ [⟨c, (s : Nat), (cnS L (s : Nat) : Int) + 1, fr, true⟩]) := by
  have hfok : fr = -1 ∨ ∃ k : Nat, fr = k ∧ k < L.length := by
    rcases hf with hf | ⟨k, q, h1, h2, _⟩
    · exact Or.inl hf
    · exact Or.inr ⟨k, h1, (List.getElem?_eq_some_iff.1 h2).1⟩
  have hno : ∀ (i : Nat) q, L[i]? = some q → q.lv = true → q.sl ≠ (s : Nat) := fun i q hq hl e => by
    have := (h.tk i q s p hq hl e hp).1
    rw [hz] at this
    exact right_ne (h.rt i q hq hl) this.symm
  refine ⟨by rw [List.length_set]; exact h.len, fun i q hq => ?_, fun i q hq hl => ?_, fun i q hq => ?_, fun i q k r hq hl hfq hr => ?_, fun i j r q hr hq hrl hql hsl => ?_, fun i q s' t hq hl hsl ht => ?_, fun s' t ht htc => ?_, fun s' t ht => ?_⟩
  · rcases snoc_get hq with ⟨h1, _⟩ | ⟨_, rfl⟩
    · exact h.sl i q h1
    · exact ⟨s, hs, rfl⟩
  · rcases snoc_get hq with ⟨h1, _⟩ | ⟨_, rfl⟩
    · exact h.rt i q h1 hl
    · exact hc
  · rcases snoc_get hq with ⟨h1, _⟩ | ⟨rfl, rfl⟩
    · exact h.fw i q h1
    · exact hfok
  · rcases snoc_get hq with ⟨h1, h1l⟩ | ⟨rfl, rfl⟩
    · rcases h.frok h1 with h2 | ⟨k', h2, h3⟩
      · omega
      · have hkk : k = k' := by omega
        subst hkk
        rw [List.getElem?_append_left h3] at hr
        exact h.par i q k r h1 hl hfq hr
    · rcases hf with hf | ⟨k', q', h1, h2, h3⟩
      · simp only at hfq; omega
      · have hkk : k = k' := by simp only at hfq; omega
        subst hkk
        rw [List.getElem?_append_left (List.getElem?_eq_some_iff.1 h2).1, h2] at hr
        cases hr
        exact h3
  · rcases snoc_get hr with ⟨h1, _⟩ | ⟨rfl, rfl⟩ <;> rcases snoc_get hq with ⟨h2, _⟩ | ⟨rfl, rfl⟩
    · exact h.one i j r q h1 h2 hrl hql hsl
    · exact absurd hsl (hno i r h1 hrl)
    · exact absurd hsl.symm (hno j q h2 hql)
    · rfl
  · rcases snoc_get hq with ⟨h1, _⟩ | ⟨rfl, rfl⟩
    · have hne : s ≠ s' := fun e => by subst e; exact hno i q h1 hl hsl
      rw [List.getElem?_set_ne hne] at ht
      rw [psl_snoc _ (h.frok h1)]
      exact h.tk i q s' t h1 hl hsl ht
    · have hss : s = s' := by simp only at hsl; omega
      subst hss
      rw [List.getElem?_set_self (by rw [h.len]; exact hs)] at ht
      cases ht
      exact ⟨rfl, by rw [h.gen s p hp], by rw [psl_snoc _ hfok]⟩
  · by_cases hne : s = s'
    · subst hne
      exact ⟨L.length, ⟨c, (s : Nat), (cnS L (s : Nat) : Int) + 1, fr, true⟩, by rw [List.getElem?_append_right (Nat.le_refl _)]; simp, rfl, rfl⟩
    · rw [List.getElem?_set_ne hne] at ht
      obtain ⟨i, q, hq, hl, hsq⟩ := h.ex s' t ht htc
      exact ⟨i, q, by rw [List.getElem?_append_left (List.getElem?_eq_some_iff.1 hq).1]; exact hq, hl, hsq⟩
  · rw [cnS_snoc]
    by_cases hne : s = s'
    · subst hne
      rw [List.getElem?_set_self (by rw [h.len]; exact hs)] at ht
      cases ht
      rw [if_pos rfl, h.gen s p hp]
      simp
    · rw [List.getElem?_set_ne hne] at ht
      rw [if_neg (by simp only; omega), h.gen s' t ht]
      simp
theorem lvR_cnt (L : List Rw) : ∀ k, k ≤ L.length → lvR (L.take k) = cnt k (lvA L)
  | 0, _ => rfl
  | k + 1, hk => by
    have hp : L[k]? = some L[k] := List.getElem?_eq_getElem (by omega)
    rw [lvR_succ hp, cnt_succ, lvR_cnt L k (by omega)]
    unfold lvA
    rw [hp]
def lvL (T : List Pl) (k : Nat) : List Nat := (List.range k).filter (tkB T)
theorem Rel.live {T : List Pl} {L : List Rw} (h : Rel T L) : (lvL T 128).length = lvR L := by
  have e := lvR_cnt L L.length (Nat.le_refl _)
  rw [List.take_length] at e
  rw [e]
  refine count_eq (f := slN L) (List.Pairwise.filter _ List.nodup_range) (fun j hj hk => ?_) (fun s hs => ?_) (fun i j hi hj hki hkj e => ?_)
  · obtain ⟨q, hq, hl⟩ := lvA_get hk
    have hs := slN_of h hq
    obtain ⟨p, hp⟩ := h.get hs.2
    have := h.tk j q (slN L j) p hq hl hs.1 hp
    unfold lvL
    rw [List.mem_filter, List.mem_range]
    exact ⟨hs.2, tkB_yes hp (by rw [this.1]; exact right_ne (h.rt j q hq hl))⟩
  · unfold lvL at hs
    rw [List.mem_filter, List.mem_range] at hs
    obtain ⟨p, hp⟩ := h.get hs.1
    have htk := hs.2
    unfold tkB at htk
    rw [hp] at htk
    obtain ⟨i, q, hq, hl, hsq⟩ := h.ex s p hp (by simpa using htk)
    have hsl := slN_of h hq
    exact ⟨i, (List.getElem?_eq_some_iff.1 hq).1, by unfold lvA; rw [hq]; exact hl, by omega⟩
  · obtain ⟨p, hp, hpl⟩ := lvA_get hki
    obtain ⟨q, hq, hql⟩ := lvA_get hkj
    have h1 := slN_of h hp
    have h2 := slN_of h hq
    exact h.one i j p q hp hq hpl hql (by omega)
theorem Rel.first {T : List Pl} {L : List Rw} (h : Rel T L) (hl : L.length < 128) : ∃ (s : Nat) (p : Pl), s < 128 ∧ T[s]? = some p ∧ p.c = zC ∧ (∀ j q, j < s → T[j]? = some q → q.c ≠ zC) ∧ atI L (s : Nat) = -1 ∧ ∀ j : Nat, j < s → ∃ k : Nat, atI L (j : Nat) = k := by
  have hA : ∀ n, n ≤ 128 → (∀ j, j < n → tkB T j = true) ∨ ∃ s, s < n ∧ tkB T s = false ∧ ∀ j, j < s → tkB T j = true := by
    intro n
    induction n with
    | zero => intro _; exact Or.inl (fun j hj => by omega)
    | succ n ih =>
      intro hn
      rcases ih (by omega) with h1 | ⟨s, hs, h2, h3⟩
      · cases ht : tkB T n with
        | true => exact Or.inl (fun j hj => by by_cases hjn : j = n; rw [hjn]; exact ht; exact h1 j (by omega))
        | false => exact Or.inr ⟨n, by omega, ht, h1⟩
      · exact Or.inr ⟨s, by omega, h2, h3⟩
  rcases hA 128 (Nat.le_refl _) with hall | ⟨s, hs, h2, h3⟩
  · exfalso
    have e : lvL T 128 = List.range 128 := by
      unfold lvL
      exact List.filter_eq_self.2 (fun a ha => hall a (by simpa using ha))
    have := h.live
    rw [e, List.length_range] at this
    have := lvR_le L
    omega
  · obtain ⟨p, hp⟩ := h.get hs
    have hz : p.c = zC := by unfold tkB at h2; rw [hp] at h2; simpa using h2
    have hjs : ∀ j q, j < s → T[j]? = some q → q.c ≠ zC := fun j q hj hq => by have := h3 j hj; unfold tkB at this; rw [hq] at this; simpa using this
    refine ⟨s, p, hs, hp, hz, hjs, ?_, fun j hj => ?_⟩
    · rcases h.at hp with ⟨_, h'⟩ | ⟨k, q, h0, _⟩
      · exact h'
      · exact absurd hz h0
    · obtain ⟨q, hq⟩ := h.get (s := j) (by omega)
      rcases h.at hq with ⟨h', _⟩ | ⟨k, r, _, h1, _⟩
      · exact absurd h' (hjs j q hj hq)
      · exact ⟨k, h1⟩
theorem Rel.gen_le {T : List Pl} {L : List Rw} (h : Rel T L) {s : Nat} {p : Pl} (hp : T[s]? = some p) : 0 ≤ p.gen ∧ p.gen ≤ L.length := by
  rw [h.gen s p hp]
  have := cnS_le L (s : Nat)
  omega
end Go.Proofs.Ytnknhencobhjdaa.Cp
