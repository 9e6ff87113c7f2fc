/- imagoref13.Table's Take: its contract; no statement is proved in this text. -/
import Derived.Test.YtopbgeoledocaaaRPost
namespace Go.Proofs.Ytopbgeoledocaaa
open Go.ChangeShapes Go.WideShapes Go.ChangeAt Go.RowKit Go.Deep
attribute [local go_sem ↓] Go.wp_at_zero Go.wp_at_succ

theorem load60 {W : World} {b : Nat} {x y : Int} (h : W.heap[b]? = some (.cells #[i64 x, i64 y] 60 (0, 0))) : (loadVar 60 ⟨b, 0, none⟩).run Try.prog W = .ok (.agg #[i64 x, i64 y]) W := by
  refine run_loadVar_mid _ _ 0 60 [i64 x, i64 y] _ (fun j v hv => ?_) Try.underlying60 rfl (by kernel_rfl)
  rw [Nat.zero_add, cell_of_row _ _ _ _ 60 (0, 0) h]
  simpa using hv
theorem rtake_none {w : World} {base r : Nat} {L : List Rn} (h : Rb w base r L) (hl : L.length ≤ 3) (n : Int) (hi : atI L n = -1) :
    Calls Try.prog 26 #[pq r, i64 n] w fun e w' => e = .returned (.tuple #[.agg #[i64 0, i64 0], i64 6]) ∧ Below w.heap.size w w' := by
  have HA := rat_ok (h.below (below_one w (ruO 0 0))) hl n
  rw [hi] at HA
  have HA := hid HA
  have HB : Hid (Below w.heap.size w (w.alloc (ruO 0 0))) := below_one w _
  have HX : Hid ((w.alloc (ruO 0 0)).heap[w.heap.size]? = some (ruO 0 0)) := heap_last w _
  clear h hi hl
  go_enter Try.func26, Try.ntmps26
  go_wp2_with fail
  refine HA.out.mono ?_
  rintro e w1 ⟨rfl, hb1⟩
  have HX1 := hid (blk_below HX.out hb1)
  have z0 : w1.cell? ⟨w.heap.size, 0, none⟩ = some (i64 0) := blk_cell HX1.out 0
  have z1 : w1.cell? ⟨w.heap.size, 1, none⟩ = some (i64 0) := blk_cell HX1.out 1
  have zf : ∀ j, w1.frozen? ⟨w.heap.size, j, none⟩ = false := blk_frozen HX1.out
  have HB1 : Hid (Below w.heap.size w ((w1.setCell ⟨w.heap.size, 0, none⟩ (i64 0)).setCell ⟨w.heap.size, 1, none⟩ (i64 0))) := ((HB.out.trans (hb1.mono HB.out.size)).setCell (p := ⟨w.heap.size, 0, none⟩) (Nat.le_refl _) _).setCell (p := ⟨w.heap.size, 1, none⟩) (Nat.le_refl _) _
  clear hb1
  go_wp2_with fail
  have g := load60 (set2 HX1.out (i64 0) (i64 0))
  exact bodyPost_ret (v := .tuple #[.agg #[i64 0, i64 0], i64 6]) (results_cell rfl rfl rfl g) rfl ⟨rfl, HB1.out⟩
theorem Rb.far {w w' : World} {base r H : Nat} {L : List Rn} {x y : Int} (h : Rb w base r L) (hH : w.heap[H]? = some (ruO x y)) (hob : ∀ (i : Nat) (q : Rn), L[i]? = some q → q.v.ownBlock ≠ some H) (hk : ∀ j, j ≠ H → w'.heap[j]? = w.heap[j]?) : Rb w' base r L := by
  obtain ⟨v, h1, h2⟩ := h.own
  refine ⟨h.lo, ⟨v, ?_, own_keep h2 (fun j C hC => ?_)⟩, fun i p hp => own_keep1 (h.all i p hp) (fun j hj => hk j (fun e => hob i p hp (by rw [← e]; exact hj))), h.dis⟩
  · rw [hk r (fun e => by rw [e, hH] at h1; simp at h1)]; exact h1
  · rw [hk j (fun e => by rw [e, hH] at hC; simp at hC)]; exact hC
set_option maxRecDepth 100000 in
set_option maxHeartbeats 3200000 in
theorem rtake_empty {w : World} {base r : Nat} {L : List Rn} (h : Rb w base r L) (hl : L.length ≤ 3) (n : Int) (k : Nat) (p : Rn) (hp : L[k]? = some p) (hi : atI L n = k) (he : p.fr = (p.all.length : Int)) :
    Calls Try.prog 26 #[pq r, i64 n] w fun e w' => e = .returned (.tuple #[.agg #[i64 0, i64 0], i64 7]) ∧ Below w.heap.size w w' := by
  have HA := rat_ok (h.below (below_one w (ruO 0 0))) hl n
  rw [hi] at HA
  have HA := hid HA
  have HB : Hid (Below w.heap.size w (w.alloc (ruO 0 0))) := below_one w _
  have HX : Hid ((w.alloc (ruO 0 0)).heap[w.heap.size]? = some (ruO 0 0)) := heap_last w _
  have HR : Hid (Rb (w.alloc (ruO 0 0)) base r L) := h.below (below_one w _)
  have HP := hid hp
  have hkL : k < L.length := (List.getElem?_eq_some_iff.1 hp).1
  have HE := hid he
  clear h hi hp he
  go_enter Try.func26, Try.ntmps26
  go_wp2_with fail
  refine HA.out.mono ?_
  rintro e w1 ⟨rfl, hb1⟩
  have hX1 := blk_below HX.out hb1
  have hR1 := HR.out.below hb1
  obtain ⟨ao, cap, hbk, _, hcap, hrow⟩ := hR1.row
  obtain ⟨g, rfl, hbg, hgl, hgr, hfz, hc⟩ := hrow k p HP.out
  obtain ⟨aoA, capA, hpv, _⟩ := own_slice (hR1.all k p HP.out)
  have b0 : w1.cell? ⟨r, 0, none⟩ = some (.slice (some ⟨g, 0, none⟩) L.length cap) := blk_cell hbk 0
  have c0 : w1.cell? ⟨g, k * 5, none⟩ = some (i64 p.n) := hc 0 (by omega)
  have c1 : w1.cell? ⟨g, k * 5 + 1, none⟩ = some (i64 p.ver) := hc 1 (by omega)
  have c2 : w1.cell? ⟨g, k * 5 + 2, none⟩ = some p.v := hc 2 (by omega)
  have c3 : w1.cell? ⟨g, k * 5 + 3, none⟩ = some (i64 p.fr) := hc 3 (by omega)
  have c4 : w1.cell? ⟨g, k * 5 + 4, none⟩ = some (i64 p.tk) := hc 4 (by omega)
  rw [hpv] at c2
  rw [HE.out] at c3
  have HX2 : Hid ((w1.alloc (.cells #[i64 p.n, i64 p.ver, .slice aoA p.all.length capA, i64 p.all.length, i64 p.tk] 41)).heap[w.heap.size]? = some (ruO 0 0)) := blk_alloc hX1 _
  have HX3 : Hid ((w1.alloc (.cells #[i64 p.n, i64 p.ver, .slice aoA p.all.length capA, i64 p.all.length, i64 p.tk] 41)).heap[w1.heap.size]? = some (.cells #[i64 p.n, i64 p.ver, .slice aoA p.all.length capA, i64 p.all.length, i64 p.tk] 41)) := heap_last w1 _
  have hb0 : Below w.heap.size w w1 := HB.out.trans (hb1.mono HB.out.size)
  have HB2 : Hid (Below w.heap.size w (w1.alloc (.cells #[i64 p.n, i64 p.ver, .slice aoA p.all.length capA, i64 p.all.length, i64 p.tk] 41))) := hb0.alloc hb0.size _
  have hkI : (k : Int) < L.length := by omega
  have hNI : (L.length : Int) ≤ 3 := by omega
  clear hb1 hrow hc hbk hR1 hX1 hpv hb0 HE
  generalize p.all.length = M at *
  generalize L.length = NN at *
  go_upto_region 5 with fail
  generalize w1.alloc (.cells #[i64 p.n, i64 p.ver, .slice aoA M capA, i64 M, i64 p.tk] 41) = U at *
  have z0 : U.cell? ⟨w.heap.size, 0, none⟩ = some (i64 0) := blk_cell HX2.out 0
  have z1 : U.cell? ⟨w.heap.size, 1, none⟩ = some (i64 0) := blk_cell HX2.out 1
  have zf : ∀ j, U.frozen? ⟨w.heap.size, j, none⟩ = false := blk_frozen HX2.out
  have y2 : U.cell? ⟨w1.heap.size, 2, none⟩ = some (.slice aoA M capA) := blk_cell HX3.out 2
  have y3 : U.cell? ⟨w1.heap.size, 3, none⟩ = some (i64 M) := blk_cell HX3.out 3
  have HB1 : Hid (Below w.heap.size w ((U.setCell ⟨w.heap.size, 0, none⟩ (i64 0)).setCell ⟨w.heap.size, 1, none⟩ (i64 0))) := (HB2.out.setCell (p := ⟨w.heap.size, 0, none⟩) (Nat.le_refl _) _).setCell (p := ⟨w.heap.size, 1, none⟩) (Nat.le_refl _) _
  go_wp2_with fail
  have g := load60 (set2 HX2.out (i64 0) (i64 0))
  exact bodyPost_ret (v := .tuple #[.agg #[i64 0, i64 0], i64 7]) (results_cell rfl rfl rfl g) rfl ⟨rfl, HB1.out⟩
structure Sp7 (r X j : Nat) (lv a : Value) (W : World) : Prop where
  l : W.cell? ⟨r, 0, none⟩ = some lv
  x : W.cell? ⟨X, j, none⟩ = some a
set_option maxRecDepth 100000 in
set_option maxHeartbeats 3200000 in
theorem rtake_in {w : World} {base r : Nat} {L : List Rn} (h : Rb w base r L) (hl : L.length ≤ 3) (n : Int) (k : Nat) (p : Rn) (hp : L[k]? = some p) (hi : atI L n = k) (F : Nat) (hF : p.fr = (F : Int)) (a b : Int) (hab : p.all[F]? = some (a, b)) (hal : p.all.length ≤ 1000) (htk : 0 ≤ p.tk ∧ p.tk ≤ 1000) :
    Calls Try.prog 26 #[pq r, i64 n] w fun e w' => e = .returned (.tuple #[.agg #[i64 a, i64 b], i64 0]) ∧ Rb w' base r (L.set k { p with fr := (F : Int) + 1, tk := p.tk + 1 }) ∧ Fr base [29, 41, 60] w w' := by
  have HA := rat_ok (h.below (below_one w (ruO 0 0))) hl n
  rw [hi] at HA
  have HA := hid HA
  have HB : Hid (Below w.heap.size w (w.alloc (ruO 0 0))) := below_one w _
  have HX : Hid ((w.alloc (ruO 0 0)).heap[w.heap.size]? = some (ruO 0 0)) := heap_last w _
  have HR : Hid (Rb (w.alloc (ruO 0 0)) base r L) := h.below (below_one w _)
  have HP := hid hp
  have hkL : k < L.length := (List.getElem?_eq_some_iff.1 hp).1
  have hFl : F < p.all.length := (List.getElem?_eq_some_iff.1 hab).1
  have hlo : base ≤ w.heap.size := by have := h.lt; have := h.lo; omega
  have hrw : r < w.heap.size := h.lt
  have HE := hid hF
  have HAB := hid hab
  have HOB : Hid (∀ (i : Nat) (q : Rn), L[i]? = some q → ∀ j, q.v.ownBlock = some j → j < w.heap.size) := fun i q hq j hj => by have := ((h.all i q hq).lt j hj).2; omega
  obtain ⟨t0, t1⟩ := htk
  clear h hi hp hF hab
  go_enter Try.func26, Try.ntmps26
  go_wp2_with fail
  refine HA.out.mono ?_
  rintro e w1 ⟨rfl, hb1⟩
  have hX1 := blk_below HX.out hb1
  have hw1 : w.heap.size < w1.heap.size := blk_lt hX1
  have hB1 : Below w.heap.size w w1 := HB.out.trans (hb1.mono HB.out.size)
  have hR1 := HR.out.below hb1
  obtain ⟨ao, cap, hbk, _, hcap, hrow⟩ := hR1.row
  obtain ⟨g, rfl, hbg, hgl, hgr, hfz, hc⟩ := hrow k p HP.out
  have hpo := hR1.all k p HP.out
  obtain ⟨aoA, capA, hpv, _⟩ := own_slice hpo
  obtain ⟨gA, hgA, hgA0, hA0, hA1, hAt⟩ : ∃ gA, aoA = some ⟨gA, 0, none⟩ ∧ gA < w1.heap.size ∧ w1.cell? ⟨gA, F * 2, none⟩ = some (i64 a) ∧ w1.cell? ⟨gA, F * 2 + 1, none⟩ = some (i64 b) ∧ gA ≠ g := by
    have hg := ucn_get p.all F (a, b) HAB.out
    rw [hpv] at hpo
    rcases hpo.2 with ⟨_, h0⟩ | ⟨g', cap', cur, he, _, hgg, _⟩
    · omega
    · simp only [Value.slice.injEq] at he
      obtain ⟨rfl, _, _⟩ := he
      refine ⟨g', rfl, blk_lt hgg, ?_, ?_, fun e => ?_⟩
      · rw [hpo.cellAt _ (by omega)]; exact hg.1
      · rw [hpo.cellAt _ (by omega)]; exact hg.2
      · obtain ⟨v0, q1, q2⟩ := hR1.own
        rw [hbk] at q1
        cases q1
        rcases q2.2 with ⟨hn, _⟩ | ⟨g2, cap2, cur2, he2, _, hg2, _⟩
        · simp at hn
        · simp only [Value.slice.injEq, Option.some.injEq, Addr.mk.injEq] at he2
          obtain ⟨⟨rfl, _⟩, _, _⟩ := he2
          rw [e, hg2] at hgg
          simp at hgg
  subst hgA
  have b0 : w1.cell? ⟨r, 0, none⟩ = some (.slice (some ⟨g, 0, none⟩) L.length cap) := blk_cell hbk 0
  have c0 : w1.cell? ⟨g, k * 5, none⟩ = some (i64 p.n) := hc 0 (by omega)
  have c1 : w1.cell? ⟨g, k * 5 + 1, none⟩ = some (i64 p.ver) := hc 1 (by omega)
  have c2 : w1.cell? ⟨g, k * 5 + 2, none⟩ = some p.v := hc 2 (by omega)
  have c3 : w1.cell? ⟨g, k * 5 + 3, none⟩ = some (i64 p.fr) := hc 3 (by omega)
  have c4 : w1.cell? ⟨g, k * 5 + 4, none⟩ = some (i64 p.tk) := hc 4 (by omega)
  rw [hpv] at c2
  rw [HE.out] at c3
  obtain ⟨XO, hXO⟩ : ∃ XO, XO = Obj.cells #[i64 p.n, i64 p.ver, .slice (some ⟨gA, 0, none⟩) p.all.length capA, i64 F, i64 p.tk] 41 := ⟨_, rfl⟩
  have hVX : (w1.alloc XO).heap[w1.heap.size]? = some XO := heap_last w1 _
  have hVr := blk_alloc hbk XO
  have hVR := hR1.below (below_one w1 XO)
  have hVz := blk_alloc hX1 XO
  have hsz : (w1.alloc XO).heap.size = w1.heap.size + 1 := by simp
  have hV0 : (w1.alloc XO).cell? ⟨gA, F * 2, none⟩ = some (i64 a) := cell_keep hA0 _
  have hV1 : (w1.alloc XO).cell? ⟨gA, F * 2 + 1, none⟩ = some (i64 b) := cell_keep hA1 _
  have hVB : Below w.heap.size w (w1.alloc XO) := hB1.alloc hB1.size _
  have hg3 : (w1.alloc XO).cell? ⟨g, k * 5 + 3, none⟩ = some (i64 F) := cell_keep c3 _
  have hg4 : (w1.alloc XO).cell? ⟨g, k * 5 + 4, none⟩ = some (i64 p.tk) := cell_keep c4 _
  obtain ⟨V, hV⟩ : ∃ V, V = w1.alloc XO := ⟨_, rfl⟩
  rw [← hV] at hVX hVr hVR hVz hV0 hV1 hVB hg3 hg4
  -- the two stores
  have hput := hVR.put (x := i64 ((F : Int) + 1)) (p' := { p with fr := (F : Int) + 1 }) (j := 3) hVr HP.out (by omega) rfl rfl rfl
  obtain ⟨S1, hS1⟩ : ∃ S1, S1 = V.setCell ⟨g, k * 5 + 3, none⟩ (i64 ((F : Int) + 1)) := ⟨_, rfl⟩
  rw [← hS1] at hput
  have hne : ∀ j, j ≠ g → S1.heap[j]? = V.heap[j]? := fun j hj => by rw [hS1]; exact Below.heap_setCell _ _ _ _ hj
  have hS1r : S1.heap[r]? = some (.cells #[.slice (some ⟨g, 0, none⟩) L.length cap] 29) := by rw [hne r (Ne.symm hgr)]; exact hVr
  have hput2 := hput.1.put (x := i64 (p.tk + 1)) (p' := { p with fr := (F : Int) + 1, tk := p.tk + 1 }) (j := 4) hS1r (List.getElem?_set_self hkL) (by omega) rfl rfl rfl
  rw [List.set_set] at hput2
  obtain ⟨S2, hS2⟩ : ∃ S2, S2 = S1.setCell ⟨g, k * 5 + 4, none⟩ (i64 (p.tk + 1)) := ⟨_, rfl⟩
  rw [← hS2] at hput2
  have hne2 : ∀ j, j ≠ g → S2.heap[j]? = V.heap[j]? := fun j hj => by rw [hS2, Below.heap_setCell _ _ _ _ hj]; exact hne j hj
  have gz : w.heap.size ≠ g := fun e => by
    have hq : w1.cell? ⟨w.heap.size, 0, none⟩ = some (i64 0) := blk_cell hX1 0
    obtain ⟨v0, q1, q2⟩ := hR1.own
    rw [hbk] at q1
    cases q1
    rcases q2.2 with ⟨hn, _⟩ | ⟨g2, cap2, cur2, he2, _, hg2, _⟩
    · simp at hn
    · simp only [Value.slice.injEq, Option.some.injEq, Addr.mk.injEq] at he2
      obtain ⟨⟨rfl, _⟩, _, _⟩ := he2
      rw [← e, hX1] at hg2
      simp at hg2
  have gx : w1.heap.size ≠ g := by omega
  have HS1e := hid hS1
  have HS2e := hid hS2
  have HVe := hid hV
  have HXe := hid hXO
  have HVX : Hid (V.heap[w1.heap.size]? = some (.cells #[i64 p.n, i64 p.ver, .slice (some ⟨gA, 0, none⟩) p.all.length capA, i64 F, i64 p.tk] 41)) := hid (by rw [hVX, hXO])
  have HVr := hid hVr
  have HS1X : Hid (S1.heap[w1.heap.size]? = some (.cells #[i64 p.n, i64 p.ver, .slice (some ⟨gA, 0, none⟩) p.all.length capA, i64 F, i64 p.tk] 41)) := by rw [hne _ gx]; exact HVX.out
  have HS1r := hid hS1r
  have HS2X : Hid (S2.heap[w1.heap.size]? = some (.cells #[i64 p.n, i64 p.ver, .slice (some ⟨gA, 0, none⟩) p.all.length capA, i64 F, i64 p.tk] 41)) := by rw [hne2 _ gx]; exact HVX.out
  have HS2z : Hid (S2.heap[w.heap.size]? = some (ruO 0 0)) := by rw [hne2 _ gz]; exact hVz
  have HS2a : Hid (S2.cell? ⟨gA, F * 2, none⟩ = some (i64 a)) := by rw [World.cell?_of_block (w := V) (hne2 gA hAt)]; exact hV0
  have HS2b : Hid (S2.cell? ⟨gA, F * 2 + 1, none⟩ = some (i64 b)) := by rw [World.cell?_of_block (w := V) (hne2 gA hAt)]; exact hV1
  have HVf : Hid (∀ j, V.frozen? ⟨g, j, none⟩ = false) := fun j => by rw [hV, show (w1.alloc XO).frozen? ⟨g, j, none⟩ = w1.frozen? ⟨g, j, none⟩ from World.frozen?_of_block (w := w1) (Below.heap_alloc _ _ _ hgl)]; exact hfz j
  have HS1f : Hid (∀ j, S1.frozen? ⟨g, j, none⟩ = false) := fun j => by rw [hS1, World.frozen?_setCell]; exact HVf.out j
  have HVg3 := hid hg3
  have HS1g4 : Hid (S1.cell? ⟨g, k * 5 + 4, none⟩ = some (i64 p.tk)) := by rw [hS1, World.cell?_setCell_other _ _ _ _ (fun e => by have := congrArg Addr.off e; simp at this)]; exact hg4
  have hkI : (k : Int) < L.length := by omega
  have hNI : (L.length : Int) ≤ 3 := by omega
  have hFI : (F : Int) < p.all.length := by omega
  have hMI : (p.all.length : Int) ≤ 1000 := by omega
  have hFM : ((F : Int) == (p.all.length : Int)) = false := by simp; omega
  have HFin : Hid (Rb S2 base r (L.set k { p with fr := (F : Int) + 1, tk := p.tk + 1 }) ∧ Fr base [29, 41, 60] w S2) := ⟨hput2.1, ((Fr.of_below _ hVB hlo).trans ((hput.2.trans hput2.2).mono (fun o ho => by
    cases o with
    | cells C t fr => simp [keeps] at ho ⊢; exact ⟨ho.1, ho.2.1⟩
    | _ => rfl)))⟩
  clear hb1 hrow hc hbk hR1 hX1 hpv hpo hput hput2 hne hne2 hS1 hS2 hS1r hV hXO hVX hVr hVR hVz hsz hV0 hV1 hVB hg3 hg4 hA0 hA1 hB1
  generalize p.all.length = M at *
  generalize L.length = NN at *
  go_upto_region 5 with fail
  rw [show w1.alloc (.cells #[i64 p.n, i64 p.ver, .slice (some ⟨gA, 0, none⟩) M capA, i64 F, i64 p.tk] 41) = V by rw [HVe.out, HXe.out]]
  have y2 : V.cell? ⟨w1.heap.size, 2, none⟩ = some (.slice (some ⟨gA, 0, none⟩) M capA) := blk_cell HVX.out 2
  have y3 : V.cell? ⟨w1.heap.size, 3, none⟩ = some (i64 F) := blk_cell HVX.out 3
  go_upto_region 7 with fail
  have HS : Hid (Sp7 r w1.heap.size 3 (.slice (some ⟨g, 0, none⟩) NN cap) (i64 F) V.drew) := ⟨blk_cell HVr.out 0, blk_cell HVX.out 3⟩
  refine wp_region_noPanic ?_
  refine wp_region_last (Sp7 r w1.heap.size 3 (.slice (some ⟨g, 0, none⟩) NN cap) (i64 F)) 10 (by kernel_rfl) ?_
  refine wpL_take 0 28 (pq r) [] rfl rfl (by kernel_rfl) (by decide) (by kernel_rfl) (by kernel_rfl) (by kernel_rfl) (fun _ _ _ h => h) HS.out (by rfl) (fun W hW => by obtain ⟨a0, a1⟩ := hW; go_simp) ?_
  simp only [Act.put, List.setIfInBounds_toArray, List.set_cons_zero, List.set_cons_succ]
  refine wpL_take 1 29 (pq r) [] rfl rfl (by kernel_rfl) (by decide) (by kernel_rfl) (by kernel_rfl) (by kernel_rfl) (fun _ _ _ h => h) HS.out (by rfl) (fun W hW => by obtain ⟨a0, a1⟩ := hW; go_simp) ?_
  simp only [Act.put, List.setIfInBounds_toArray, List.set_cons_zero, List.set_cons_succ]
  refine wpL_take 2 30 (pq r) [] rfl rfl (by kernel_rfl) (by decide) (by kernel_rfl) (by kernel_rfl) (by kernel_rfl) (fun _ _ _ h => h) HS.out (by rfl) (fun W hW => by obtain ⟨a0, a1⟩ := hW; go_simp) ?_
  simp only [Act.put, List.setIfInBounds_toArray, List.set_cons_zero, List.set_cons_succ]
  refine wpL_take 3 31 (.slice (some ⟨g, 0, none⟩) NN cap) [] rfl rfl (by kernel_rfl) (by decide) (by kernel_rfl) (by kernel_rfl) (by kernel_rfl) (fun _ _ _ h => h) HS.out (by rfl) (fun W hW => by obtain ⟨a0, a1⟩ := hW; go_simp) ?_
  simp only [Act.put, List.setIfInBounds_toArray, List.set_cons_zero, List.set_cons_succ]
  refine wpL_take 4 32 (i64 k) [] rfl rfl (by kernel_rfl) (by decide) (by kernel_rfl) (by kernel_rfl) (by kernel_rfl) (fun _ _ _ h => h) HS.out (by rfl) (fun W hW => by obtain ⟨a0, a1⟩ := hW; go_simp) ?_
  simp only [Act.put, List.setIfInBounds_toArray, List.set_cons_zero, List.set_cons_succ]
  refine wpL_take 5 33 (.pointer (some ⟨w1.heap.size, 3, none⟩)) [] rfl rfl (by kernel_rfl) (by decide) (by kernel_rfl) (by kernel_rfl) (by kernel_rfl) (fun _ _ _ h => h) HS.out (by rfl) (fun W hW => by obtain ⟨a0, a1⟩ := hW; go_simp) ?_
  simp only [Act.put, List.setIfInBounds_toArray, List.set_cons_zero, List.set_cons_succ]
  refine wpL_take 6 34 (i64 F) [] rfl rfl (by kernel_rfl) (by decide) (by kernel_rfl) (by kernel_rfl) (by kernel_rfl) (fun _ _ _ h => h) HS.out (by rfl) (fun W hW => by obtain ⟨a0, a1⟩ := hW; go_simp) ?_
  simp only [Act.put, List.setIfInBounds_toArray, List.set_cons_zero, List.set_cons_succ]
  refine wpL_take 7 35 (i64 ((F : Int) + 1)) [] rfl rfl (by kernel_rfl) (by decide) (by kernel_rfl) (by kernel_rfl) (by kernel_rfl) (fun _ _ _ h => h) HS.out (by rfl) (fun W hW => by obtain ⟨a0, a1⟩ := hW; go_simp; rw [wrap_id (by omega) (by omega)]) ?_
  simp only [Act.put, List.setIfInBounds_toArray, List.set_cons_zero, List.set_cons_succ]
  refine wpL_take 8 36 (.pointer (some ⟨g, k * 5, none⟩)) [9] rfl rfl (by kernel_rfl) (by decide) (by kernel_rfl) (by kernel_rfl) (by kernel_rfl) (fun _ _ _ h => h) HS.out (by rfl) (fun W hW => by obtain ⟨a0, a1⟩ := hW; go_simp) ?_
  simp only [Act.put, List.setIfInBounds_toArray, List.set_cons_zero, List.set_cons_succ]
  refine wpL_take 9 37 (.pointer (some ⟨g, k * 5 + 3, none⟩)) [] rfl rfl (by kernel_rfl) (by decide) (by kernel_rfl) (by kernel_rfl) (by kernel_rfl) (fun _ _ _ h => h) HS.out (by rfl) (fun W hW => by obtain ⟨a0, a1⟩ := hW; go_simp) ?_
  simp only [Act.put, List.setIfInBounds_toArray, List.set_cons_zero, List.set_cons_succ]
  have y5 := HVg3.out
  have yf := HVf.out
  refine wpL_one 10 rfl (by kernel_rfl) (by rfl) (fun K hK => ?_)
  go_simp
  refine hK.out _ _ (fun h => absurd rfl h) ?_
  clear hK K
  refine wpL_done (by kernel_rfl) ?_
  refine NoPanic.normal ?_
  clear y2 y3 y5 yf HS
  rw [show V.setCell ⟨g, k * 5 + 3, none⟩ (i64 ((F : Int) + 1)) = S1 from HS1e.out.symm]
  go_upto_region 8 with fail
  have HS : Hid (Sp7 r w1.heap.size 4 (.slice (some ⟨g, 0, none⟩) NN cap) (i64 p.tk) S1.drew.drew) := ⟨blk_cell HS1r.out 0, blk_cell HS1X.out 4⟩
  refine wp_region_noPanic ?_
  refine wp_region_last (Sp7 r w1.heap.size 4 (.slice (some ⟨g, 0, none⟩) NN cap) (i64 p.tk)) 10 (by kernel_rfl) ?_
  refine wpL_take 0 38 (pq r) [] rfl rfl (by kernel_rfl) (by decide) (by kernel_rfl) (by kernel_rfl) (by kernel_rfl) (fun _ _ _ h => h) HS.out (by rfl) (fun W hW => by obtain ⟨a0, a1⟩ := hW; go_simp) ?_
  simp only [Act.put, List.setIfInBounds_toArray, List.set_cons_zero, List.set_cons_succ]
  refine wpL_take 1 39 (pq r) [] rfl rfl (by kernel_rfl) (by decide) (by kernel_rfl) (by kernel_rfl) (by kernel_rfl) (fun _ _ _ h => h) HS.out (by rfl) (fun W hW => by obtain ⟨a0, a1⟩ := hW; go_simp) ?_
  simp only [Act.put, List.setIfInBounds_toArray, List.set_cons_zero, List.set_cons_succ]
  refine wpL_take 2 40 (pq r) [] rfl rfl (by kernel_rfl) (by decide) (by kernel_rfl) (by kernel_rfl) (by kernel_rfl) (fun _ _ _ h => h) HS.out (by rfl) (fun W hW => by obtain ⟨a0, a1⟩ := hW; go_simp) ?_
  simp only [Act.put, List.setIfInBounds_toArray, List.set_cons_zero, List.set_cons_succ]
  refine wpL_take 3 41 (.slice (some ⟨g, 0, none⟩) NN cap) [] rfl rfl (by kernel_rfl) (by decide) (by kernel_rfl) (by kernel_rfl) (by kernel_rfl) (fun _ _ _ h => h) HS.out (by rfl) (fun W hW => by obtain ⟨a0, a1⟩ := hW; go_simp) ?_
  simp only [Act.put, List.setIfInBounds_toArray, List.set_cons_zero, List.set_cons_succ]
  refine wpL_take 4 42 (i64 k) [] rfl rfl (by kernel_rfl) (by decide) (by kernel_rfl) (by kernel_rfl) (by kernel_rfl) (fun _ _ _ h => h) HS.out (by rfl) (fun W hW => by obtain ⟨a0, a1⟩ := hW; go_simp) ?_
  simp only [Act.put, List.setIfInBounds_toArray, List.set_cons_zero, List.set_cons_succ]
  refine wpL_take 5 43 (.pointer (some ⟨w1.heap.size, 4, none⟩)) [] rfl rfl (by kernel_rfl) (by decide) (by kernel_rfl) (by kernel_rfl) (by kernel_rfl) (fun _ _ _ h => h) HS.out (by rfl) (fun W hW => by obtain ⟨a0, a1⟩ := hW; go_simp) ?_
  simp only [Act.put, List.setIfInBounds_toArray, List.set_cons_zero, List.set_cons_succ]
  refine wpL_take 6 44 (i64 p.tk) [] rfl rfl (by kernel_rfl) (by decide) (by kernel_rfl) (by kernel_rfl) (by kernel_rfl) (fun _ _ _ h => h) HS.out (by rfl) (fun W hW => by obtain ⟨a0, a1⟩ := hW; go_simp) ?_
  simp only [Act.put, List.setIfInBounds_toArray, List.set_cons_zero, List.set_cons_succ]
  refine wpL_take 7 45 (i64 (p.tk + 1)) [] rfl rfl (by kernel_rfl) (by decide) (by kernel_rfl) (by kernel_rfl) (by kernel_rfl) (fun _ _ _ h => h) HS.out (by rfl) (fun W hW => by obtain ⟨a0, a1⟩ := hW; go_simp; rw [wrap_id (by omega) (by omega)]) ?_
  simp only [Act.put, List.setIfInBounds_toArray, List.set_cons_zero, List.set_cons_succ]
  refine wpL_take 8 46 (.pointer (some ⟨g, k * 5, none⟩)) [9] rfl rfl (by kernel_rfl) (by decide) (by kernel_rfl) (by kernel_rfl) (by kernel_rfl) (fun _ _ _ h => h) HS.out (by rfl) (fun W hW => by obtain ⟨a0, a1⟩ := hW; go_simp) ?_
  simp only [Act.put, List.setIfInBounds_toArray, List.set_cons_zero, List.set_cons_succ]
  refine wpL_take 9 47 (.pointer (some ⟨g, k * 5 + 4, none⟩)) [] rfl rfl (by kernel_rfl) (by decide) (by kernel_rfl) (by kernel_rfl) (by kernel_rfl) (fun _ _ _ h => h) HS.out (by rfl) (fun W hW => by obtain ⟨a0, a1⟩ := hW; go_simp) ?_
  simp only [Act.put, List.setIfInBounds_toArray, List.set_cons_zero, List.set_cons_succ]
  have y5 := HS1g4.out
  have yf := HS1f.out
  refine wpL_one 10 rfl (by kernel_rfl) (by rfl) (fun K hK => ?_)
  go_simp
  refine hK.out _ _ (fun h => absurd rfl h) ?_
  clear hK K
  refine wpL_done (by kernel_rfl) ?_
  refine NoPanic.normal ?_
  clear y5 yf HS
  rw [show S1.setCell ⟨g, k * 5 + 4, none⟩ (i64 (p.tk + 1)) = S2 from HS2e.out.symm]
  have z0 : S2.cell? ⟨w.heap.size, 0, none⟩ = some (i64 0) := blk_cell HS2z.out 0
  have z1 : S2.cell? ⟨w.heap.size, 1, none⟩ = some (i64 0) := blk_cell HS2z.out 1
  have zf : ∀ j, S2.frozen? ⟨w.heap.size, j, none⟩ = false := blk_frozen HS2z.out
  have y2 : S2.cell? ⟨w1.heap.size, 2, none⟩ = some (.slice (some ⟨gA, 0, none⟩) M capA) := blk_cell HS2X.out 2
  have y3 : S2.cell? ⟨w1.heap.size, 3, none⟩ = some (i64 F) := blk_cell HS2X.out 3
  have q0 := HS2a.out
  have q1 := HS2b.out
  go_wp2_with fail
  have hset := set2 (V := S2) HS2z.out (i64 a) (i64 b)
  have hgo : (loadVar 60 ⟨w.heap.size, 0, none⟩).run Try.prog ((S2.setCell ⟨w.heap.size, 0, none⟩ (i64 a)).setCell ⟨w.heap.size, 1, none⟩ (i64 b)).drew.drew = .ok (.agg #[i64 a, i64 b]) ((S2.setCell ⟨w.heap.size, 0, none⟩ (i64 a)).setCell ⟨w.heap.size, 1, none⟩ (i64 b)).drew.drew := load60 (W := ((S2.setCell ⟨w.heap.size, 0, none⟩ (i64 a)).setCell ⟨w.heap.size, 1, none⟩ (i64 b)).drew.drew) hset
  have hkp : ∀ j, j ≠ w.heap.size → ((S2.setCell ⟨w.heap.size, 0, none⟩ (i64 a)).setCell ⟨w.heap.size, 1, none⟩ (i64 b)).heap[j]? = S2.heap[j]? := fun j hj => by rw [Below.heap_setCell _ _ _ _ hj, Below.heap_setCell _ _ _ _ hj]
  have hRf := HFin.out.1.far (w' := ((S2.setCell ⟨w.heap.size, 0, none⟩ (i64 a)).setCell ⟨w.heap.size, 1, none⟩ (i64 b)).drew.drew) HS2z.out (fun i q hq => by
    by_cases hik : k = i
    · subst hik
      rw [List.getElem?_set_self (List.getElem?_eq_some_iff.1 HP.out).1] at hq
      cases hq
      exact fun e => by have := HOB.out k p HP.out _ e; omega
    · rw [List.getElem?_set_ne hik] at hq
      exact fun e => by have := HOB.out i q hq _ e; omega) hkp
  have hff : Fr base [29, 41, 60] w ((S2.setCell ⟨w.heap.size, 0, none⟩ (i64 a)).setCell ⟨w.heap.size, 1, none⟩ (i64 b)).drew.drew := (HFin.out.2.trans (Fr.of_touch (((Touch.refl w.heap.size S2).setCell rfl (i64 a)).setCell rfl (i64 b)) HS2z.out (by rfl) hlo)).drewN 2
  exact bodyPost_ret (v := .tuple #[.agg #[i64 a, i64 b], i64 0]) (results_cell rfl rfl rfl hgo) rfl ⟨rfl, hRf, hff⟩
end Go.Proofs.Ytopbgeoledocaaa
