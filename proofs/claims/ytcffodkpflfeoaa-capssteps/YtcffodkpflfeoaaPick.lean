/- imagolaw09.Pair in memory; pick: its contract; no statement is proved in this text. -/
import Derived.Test.YtcffodkpflfeoaaRel2
namespace Go.Proofs.Ytcffodkpflfeoaa
open Go.ChangeShapes Go.WideShapes Go.ChangeAt Go.RowKit Go.Deep
attribute [local go_sem ↓] Go.wp_at_zero Go.wp_at_succ

def hdR (q : Rw) : Hd := (q.sl.toNat, q.gn)
/-- No two of one slot have one generation. -/
def Gu (L : List Rw) : Prop := ∀ (i : Nat) q, L[i]? = some q → q.gn = (cnS (L.take i) q.sl : Int) + 1
structure Pw (w : World) (base P b r : Nat) (T : List Pl) (L : List Rw) : Prop where
  lo : base ≤ P
  tb : Tb w base b T
  rb : Rb w base r L
  rel : Rel T L
  gu : Gu L
  blk : ∃ vH vE, w.heap[P]? = some (.cells #[pq b, pq r, vH, vE] 34) ∧ w.ownsRow base 42 2 vH L.length (hcn (L.map hdR)) ∧ w.ownsRow base 3 1 vE L.length (icells (L.map fun q => q.c.env))
theorem Pw.below {w w' : World} {base P b r : Nat} {T : List Pl} {L : List Rw} (h : Pw w base P b r T L) (hb : Below w.heap.size w w') : Pw w' base P b r T L := by
  obtain ⟨vH, vE, h1, h2, h3⟩ := h.blk
  exact ⟨h.lo, h.tb.below hb, h.rb.below hb, h.rel, h.gu, vH, vE, blk_below h1 hb, own_keep h2 (fun k C hC => blk_below hC hb), own_keep h3 (fun k C hC => blk_below hC hb)⟩
theorem Pw.lt {w : World} {base P b r : Nat} {T : List Pl} {L : List Rw} (h : Pw w base P b r T L) : P < w.heap.size := by
  obtain ⟨vH, vE, h1, _⟩ := h.blk
  exact blk_lt h1
theorem Pw.p01 {w : World} {base P b r : Nat} {T : List Pl} {L : List Rw} (h : Pw w base P b r T L) : w.cell? ⟨P, 0, none⟩ = some (pq b) ∧ w.cell? ⟨P, 1, none⟩ = some (pq r) := by
  obtain ⟨vH, vE, h1, _⟩ := h.blk
  exact ⟨blk_cell h1 0, blk_cell h1 1⟩
theorem gn_le {L : List Rw} (h : Gu L) {i : Nat} {q : Rw} (hq : L[i]? = some q) : 1 ≤ q.gn ∧ q.gn ≤ L.length := by
  have h1 := h i q hq
  have h2 := cnS_le (L.take i) q.sl
  have h3 := (List.getElem?_eq_some_iff.1 hq).1
  rw [List.length_take] at h2
  omega
def inB (L : List Rw) (x : Sp) : Bool := decide (0 ≤ x.n ∧ x.n < L.length)
def wrg (x : Sp) : Int := if 0 < x.wrong ∧ x.wrong < 3 then x.wrong else 0
def qAt (L : List Rw) (x : Sp) : Rw := (L[x.n.toNat]?).getD ⟨zC, 0, 0, 0, false⟩
def pkS (L : List Rw) (x : Sp) : Int := if inB L x = true then (qAt L x).sl else x.n
def pkG (L : List Rw) (x : Sp) : Int := if inB L x = true then (qAt L x).gn + wrg x else x.rights
def pkE (L : List Rw) (x : Sp) : Int := if inB L x = true then (if x.by_ = true then x.env else (qAt L x).c.env) else x.env
theorem two_sh (w : World) (x : Sp) : Below w.heap.size w ((w.alloc (spO x)).alloc (hO 0 0)) ∧ ((w.alloc (spO x)).alloc (hO 0 0)).heap[w.heap.size]? = some (spO x) ∧ ((w.alloc (spO x)).alloc (hO 0 0)).heap[w.heap.size + 1]? = some (hO 0 0) := by
  refine ⟨(below_one w _).trans ((below_one _ _).mono (by simp)), blk_alloc (heap_last w _) _, ?_⟩
  have := heap_last (w.alloc (spO x)) (hO 0 0)
  rwa [show (w.alloc (spO x)).heap.size = w.heap.size + 1 by simp] at this
structure SqK (X : Nat) (x : Sp) (W : World) : Prop where
  x : W.heap[X]? = some (spO x)
structure SqL (X P g : Nat) (x : Sp) (k : Nat) (v : Value) (a b : Int) (W : World) : Prop where
  x : W.heap[X]? = some (spO x)
  p : W.cell? ⟨P, 2, none⟩ = some v
  g0 : W.cell? ⟨g, k * 2, none⟩ = some (i64 a)
  g1 : W.cell? ⟨g, k * 2 + 1, none⟩ = some (i64 b)
structure SqM (X Y : Nat) (x : Sp) (a b : Int) (W : World) : Prop where
  x : W.heap[X]? = some (spO x)
  y : W.heap[Y]? = some (hO a b)
structure SqN (X Y P g : Nat) (x : Sp) (k : Nat) (v : Value) (a b e : Int) (W : World) : Prop where
  x : W.heap[X]? = some (spO x)
  y : W.heap[Y]? = some (hO a b)
  p : W.cell? ⟨P, 3, none⟩ = some v
  g : W.cell? ⟨g, k, none⟩ = some (i64 e)
theorem cell_keep {w : World} {a : Addr} {v : Value} (h : w.cell? a = some v) (o : Obj) : (w.alloc o).cell? a = some v := by
  rw [World.cell?_of_block (w := w) (Below.heap_alloc _ _ _ (World.block_lt_of_cell? w _ h))]; exact h
theorem cell_set {w : World} {a : Addr} {v : Value} (h : w.cell? a = some v) (p : Addr) (u : Value) (hne : a.block ≠ p.block) : (w.setCell p u).cell? a = some v := by
  rw [World.cell?_of_block (w := w) (Below.heap_setCell _ _ _ _ hne)]; exact h
theorem there2 {V : World} {b : Nat} {x y : Int} (h : V.heap[b]? = some (hO x y)) : V.there b 0 2 := fun j hj => ⟨by
    rw [show V.cell? ⟨b, 0 + j, none⟩ = _ from blk_cell h (0 + j), Nat.zero_add]
    match j, hj with
    | 0, _ => rfl
    | 1, _ => rfl, blk_frozen h _⟩
theorem two_one' (a b : Int) : (#[i64 a, i64 b] : Array Value).all (·.oneCell') = true := all_oneCell_toArray (cs := [i64 a, i64 b]) (two_one a b)
set_option maxRecDepth 100000 in
set_option maxHeartbeats 3200000 in
theorem pick_neg {w : World} {base P b r : Nat} {T : List Pl} {L : List Rw} (h : Pw w base P b r T L) (hl : L.length ≤ 1000) (x : Sp) (hn : x.n < 0) : Calls Try.prog 13 #[pq P, x.v] w fun e w' => e = .returned (.tuple #[.agg #[i64 x.n, i64 x.rights], i64 x.env]) ∧ Below w.heap.size w w' := by
  obtain ⟨hBV, hK1, hK2⟩ := two_sh w x
  obtain ⟨V, hV⟩ : ∃ V, V = (w.alloc (spO x)).alloc (hO 0 0) := ⟨_, rfl⟩
  have HVe : Hid ((w.alloc (.cells #[i64 x.what, i64 x.n, i64 x.env, i64 x.tt, i64 x.rights, .bool x.by_, i64 x.c.env, i64 x.c.kind, i64 x.c.num, i64 x.c.rts, i64 x.wrong] 38)).alloc (.cells #[i64 0, i64 0] 42) = V) := hV.symm
  rw [← hV] at hBV hK1 hK2
  obtain ⟨vH, vE, hP, hH, hE⟩ := (h.below hBV).blk
  obtain ⟨aoH, capH, rfl, _⟩ := own_slice hH
  obtain ⟨aoE, capE, rfl, _⟩ := own_slice hE
  have HB := hid hBV
  have HK1 := hid hK1
  have HK2 := hid hK2
  have HPb := hid hP
  have p2 : V.cell? ⟨P, 2, none⟩ = some (.slice aoH L.length capH) := blk_cell hP 2
  have p3 : V.cell? ⟨P, 3, none⟩ = some (.slice aoE L.length capE) := blk_cell hP 3
  have x1 : V.cell? ⟨w.heap.size, 1, none⟩ = some (i64 x.n) := blk_cell hK1 1
  have hNI : (L.length : Int) ≤ 1000 := by omega
  have hPl := h.lt
  clear hV hBV hK1 hK2 hP hH hE h
  have hd : decide (x.n < 0) = true := decide_eq_true hn
  unfold Sp.v
  go_enter Try.func13, Try.ntmps13
  go_upto_region 1 with fail
  rw [HVe.out]
  go_quiet (fail)
  go_upto_region 2 with fail
  have HS : Hid (SqK w.heap.size x (V.drewN nq).drew) := ⟨HK1.out⟩
  have HTH : Hid ((V.drewN nq).drew.there (w.heap.size + 1) 0 2) := there2 (V := (V.drewN nq).drew) HK2.out
  refine wp_region_noPanic ?_
  refine wp_region_last (SqK w.heap.size x) 8 (by kernel_rfl) ?_
  refine wpL_take 0 30 (.pointer (some ⟨w.heap.size, 1, none⟩)) [] rfl rfl (by kernel_rfl) (by decide) (by kernel_rfl) (by kernel_rfl) (by kernel_rfl) (fun _ _ _ h => h) HS.out (by rfl) (fun W hW => by have y1 := blk_cell hW.x 1; have y4 := blk_cell hW.x 4; have y2 := blk_cell hW.x 2; go_simp) ?_
  simp only [Act.put, List.setIfInBounds_toArray, List.set_cons_zero, List.set_cons_succ]
  refine wpL_take 1 31 (i64 x.n) [] rfl rfl (by kernel_rfl) (by decide) (by kernel_rfl) (by kernel_rfl) (by kernel_rfl) (fun _ _ _ h => h) HS.out (by rfl) (fun W hW => by have y1 := blk_cell hW.x 1; have y4 := blk_cell hW.x 4; have y2 := blk_cell hW.x 2; go_simp) ?_
  simp only [Act.put, List.setIfInBounds_toArray, List.set_cons_zero, List.set_cons_succ]
  refine wpL_take 2 32 (.pointer (some ⟨w.heap.size, 4, none⟩)) [] rfl rfl (by kernel_rfl) (by decide) (by kernel_rfl) (by kernel_rfl) (by kernel_rfl) (fun _ _ _ h => h) HS.out (by rfl) (fun W hW => by have y1 := blk_cell hW.x 1; have y4 := blk_cell hW.x 4; have y2 := blk_cell hW.x 2; go_simp) ?_
  simp only [Act.put, List.setIfInBounds_toArray, List.set_cons_zero, List.set_cons_succ]
  refine wpL_take 3 33 (i64 x.rights) [] rfl rfl (by kernel_rfl) (by decide) (by kernel_rfl) (by kernel_rfl) (by kernel_rfl) (fun _ _ _ h => h) HS.out (by rfl) (fun W hW => by have y1 := blk_cell hW.x 1; have y4 := blk_cell hW.x 4; have y2 := blk_cell hW.x 2; go_simp) ?_
  simp only [Act.put, List.setIfInBounds_toArray, List.set_cons_zero, List.set_cons_succ]
  refine wpL_take 4 34 (.agg #[i64 x.n, i64 x.rights]) [] rfl rfl (by kernel_rfl) (by decide) (by kernel_rfl) (by kernel_rfl) (by kernel_rfl) (fun _ _ _ h => h) HS.out (by rfl) (fun W hW => by have y1 := blk_cell hW.x 1; have y4 := blk_cell hW.x 4; have y2 := blk_cell hW.x 2; go_simp) ?_
  simp only [Act.put, List.setIfInBounds_toArray, List.set_cons_zero, List.set_cons_succ]
  refine wpL_take 5 35 (.pointer (some ⟨w.heap.size, 2, none⟩)) [] rfl rfl (by kernel_rfl) (by decide) (by kernel_rfl) (by kernel_rfl) (by kernel_rfl) (fun _ _ _ h => h) HS.out (by rfl) (fun W hW => by have y1 := blk_cell hW.x 1; have y4 := blk_cell hW.x 4; have y2 := blk_cell hW.x 2; go_simp) ?_
  simp only [Act.put, List.setIfInBounds_toArray, List.set_cons_zero, List.set_cons_succ]
  refine wpL_take 6 36 (i64 x.env) [] rfl rfl (by kernel_rfl) (by decide) (by kernel_rfl) (by kernel_rfl) (by kernel_rfl) (fun _ _ _ h => h) HS.out (by rfl) (fun W hW => by have y1 := blk_cell hW.x 1; have y4 := blk_cell hW.x 4; have y2 := blk_cell hW.x 2; go_simp) ?_
  simp only [Act.put, List.setIfInBounds_toArray, List.set_cons_zero, List.set_cons_succ]
  refine wpL_one 7 rfl (by kernel_rfl) (by rfl) (fun K hK => ?_)
  refine wp_store_mid 42 (.tmp 4) (.tmp 34) rfl (w.heap.size + 1) 0 #[i64 x.n, i64 x.rights] rfl rfl (by exact HTH.out) (by kernel_rfl) (two_one' _ _) ?_
  refine hK.out _ _ (fun _ => ⟨by rw [heap_sc_ne _ _ _ (by omega)]; exact HK1.out⟩) ?_
  clear hK K
  refine wpL_one 8 rfl (by kernel_rfl) (by rfl) (fun K hK => ?_)
  go_simp
  refine hK.out _ _ (fun h => absurd rfl h) ?_
  clear hK K
  refine wpL_done (by kernel_rfl) ?_
  refine NoPanic.normal ?_
  go_wp2_with fail
  exact bodyPost_ret (results_cell Try.results13 rfl rfl (load42 (set2 (V := (V.drewN nq).drew) HK2.out _ _))) rfl ⟨rfl, bel2 (V := (V.drewN nq).drew) (below_drewN HB.out nq).drew (by omega) _ _⟩
set_option maxRecDepth 100000 in
set_option maxHeartbeats 3200000 in
theorem pick_out {w : World} {base P b r : Nat} {T : List Pl} {L : List Rw} (h : Pw w base P b r T L) (hl : L.length ≤ 1000) (x : Sp) (hn0 : 0 ≤ x.n) (hn : (L.length : Int) ≤ x.n) : Calls Try.prog 13 #[pq P, x.v] w fun e w' => e = .returned (.tuple #[.agg #[i64 x.n, i64 x.rights], i64 x.env]) ∧ Below w.heap.size w w' := by
  obtain ⟨hBV, hK1, hK2⟩ := two_sh w x
  obtain ⟨V, hV⟩ : ∃ V, V = (w.alloc (spO x)).alloc (hO 0 0) := ⟨_, rfl⟩
  have HVe : Hid ((w.alloc (.cells #[i64 x.what, i64 x.n, i64 x.env, i64 x.tt, i64 x.rights, .bool x.by_, i64 x.c.env, i64 x.c.kind, i64 x.c.num, i64 x.c.rts, i64 x.wrong] 38)).alloc (.cells #[i64 0, i64 0] 42) = V) := hV.symm
  rw [← hV] at hBV hK1 hK2
  obtain ⟨vH, vE, hP, hH, hE⟩ := (h.below hBV).blk
  obtain ⟨aoH, capH, rfl, _⟩ := own_slice hH
  obtain ⟨aoE, capE, rfl, _⟩ := own_slice hE
  have HB := hid hBV
  have HK1 := hid hK1
  have HK2 := hid hK2
  have HPb := hid hP
  have p2 : V.cell? ⟨P, 2, none⟩ = some (.slice aoH L.length capH) := blk_cell hP 2
  have p3 : V.cell? ⟨P, 3, none⟩ = some (.slice aoE L.length capE) := blk_cell hP 3
  have x1 : V.cell? ⟨w.heap.size, 1, none⟩ = some (i64 x.n) := blk_cell hK1 1
  have hNI : (L.length : Int) ≤ 1000 := by omega
  have hPl := h.lt
  clear hV hBV hK1 hK2 hP hH hE h
  have hd : decide (x.n < 0) = false := decide_eq_false (by omega)
  have hd2 : decide ((L.length : Int) ≤ x.n) = true := decide_eq_true hn
  unfold Sp.v
  go_enter Try.func13, Try.ntmps13
  go_upto_region 1 with fail
  rw [HVe.out]
  go_quiet (fail)
  go_upto_region 2 with fail
  have HS : Hid (SqK w.heap.size x (V.drewN nq).drew) := ⟨HK1.out⟩
  have HTH : Hid ((V.drewN nq).drew.there (w.heap.size + 1) 0 2) := there2 (V := (V.drewN nq).drew) HK2.out
  refine wp_region_noPanic ?_
  refine wp_region_last (SqK w.heap.size x) 8 (by kernel_rfl) ?_
  refine wpL_take 0 30 (.pointer (some ⟨w.heap.size, 1, none⟩)) [] rfl rfl (by kernel_rfl) (by decide) (by kernel_rfl) (by kernel_rfl) (by kernel_rfl) (fun _ _ _ h => h) HS.out (by rfl) (fun W hW => by have y1 := blk_cell hW.x 1; have y4 := blk_cell hW.x 4; have y2 := blk_cell hW.x 2; go_simp) ?_
  simp only [Act.put, List.setIfInBounds_toArray, List.set_cons_zero, List.set_cons_succ]
  refine wpL_take 1 31 (i64 x.n) [] rfl rfl (by kernel_rfl) (by decide) (by kernel_rfl) (by kernel_rfl) (by kernel_rfl) (fun _ _ _ h => h) HS.out (by rfl) (fun W hW => by have y1 := blk_cell hW.x 1; have y4 := blk_cell hW.x 4; have y2 := blk_cell hW.x 2; go_simp) ?_
  simp only [Act.put, List.setIfInBounds_toArray, List.set_cons_zero, List.set_cons_succ]
  refine wpL_take 2 32 (.pointer (some ⟨w.heap.size, 4, none⟩)) [] rfl rfl (by kernel_rfl) (by decide) (by kernel_rfl) (by kernel_rfl) (by kernel_rfl) (fun _ _ _ h => h) HS.out (by rfl) (fun W hW => by have y1 := blk_cell hW.x 1; have y4 := blk_cell hW.x 4; have y2 := blk_cell hW.x 2; go_simp) ?_
  simp only [Act.put, List.setIfInBounds_toArray, List.set_cons_zero, List.set_cons_succ]
  refine wpL_take 3 33 (i64 x.rights) [] rfl rfl (by kernel_rfl) (by decide) (by kernel_rfl) (by kernel_rfl) (by kernel_rfl) (fun _ _ _ h => h) HS.out (by rfl) (fun W hW => by have y1 := blk_cell hW.x 1; have y4 := blk_cell hW.x 4; have y2 := blk_cell hW.x 2; go_simp) ?_
  simp only [Act.put, List.setIfInBounds_toArray, List.set_cons_zero, List.set_cons_succ]
  refine wpL_take 4 34 (.agg #[i64 x.n, i64 x.rights]) [] rfl rfl (by kernel_rfl) (by decide) (by kernel_rfl) (by kernel_rfl) (by kernel_rfl) (fun _ _ _ h => h) HS.out (by rfl) (fun W hW => by have y1 := blk_cell hW.x 1; have y4 := blk_cell hW.x 4; have y2 := blk_cell hW.x 2; go_simp) ?_
  simp only [Act.put, List.setIfInBounds_toArray, List.set_cons_zero, List.set_cons_succ]
  refine wpL_take 5 35 (.pointer (some ⟨w.heap.size, 2, none⟩)) [] rfl rfl (by kernel_rfl) (by decide) (by kernel_rfl) (by kernel_rfl) (by kernel_rfl) (fun _ _ _ h => h) HS.out (by rfl) (fun W hW => by have y1 := blk_cell hW.x 1; have y4 := blk_cell hW.x 4; have y2 := blk_cell hW.x 2; go_simp) ?_
  simp only [Act.put, List.setIfInBounds_toArray, List.set_cons_zero, List.set_cons_succ]
  refine wpL_take 6 36 (i64 x.env) [] rfl rfl (by kernel_rfl) (by decide) (by kernel_rfl) (by kernel_rfl) (by kernel_rfl) (fun _ _ _ h => h) HS.out (by rfl) (fun W hW => by have y1 := blk_cell hW.x 1; have y4 := blk_cell hW.x 4; have y2 := blk_cell hW.x 2; go_simp) ?_
  simp only [Act.put, List.setIfInBounds_toArray, List.set_cons_zero, List.set_cons_succ]
  refine wpL_one 7 rfl (by kernel_rfl) (by rfl) (fun K hK => ?_)
  refine wp_store_mid 42 (.tmp 4) (.tmp 34) rfl (w.heap.size + 1) 0 #[i64 x.n, i64 x.rights] rfl rfl (by exact HTH.out) (by kernel_rfl) (two_one' _ _) ?_
  refine hK.out _ _ (fun _ => ⟨by rw [heap_sc_ne _ _ _ (by omega)]; exact HK1.out⟩) ?_
  clear hK K
  refine wpL_one 8 rfl (by kernel_rfl) (by rfl) (fun K hK => ?_)
  go_simp
  refine hK.out _ _ (fun h => absurd rfl h) ?_
  clear hK K
  refine wpL_done (by kernel_rfl) ?_
  refine NoPanic.normal ?_
  go_wp2_with fail
  exact bodyPost_ret (results_cell Try.results13 rfl rfl (load42 (set2 (V := (V.drewN nq).drew) HK2.out _ _))) rfl ⟨rfl, bel2 (V := (V.drewN nq).drew) (below_drewN HB.out nq).drew (by omega) _ _⟩
set_option maxRecDepth 100000 in
set_option maxHeartbeats 3200000 in
theorem pick_in {w : World} {base P b r : Nat} {T : List Pl} {L : List Rw} (h : Pw w base P b r T L) (hl : L.length ≤ 1000) (x : Sp) (k sn : Nat) (q : Rw) (hq : L[k]? = some q) (hsn : q.sl = (sn : Nat)) (hn : x.n = (k : Nat)) (G Ev : Int) (hwr : G = q.gn + wrg x) (hev : Ev = if x.by_ = true then x.env else q.c.env) : Calls Try.prog 13 #[pq P, x.v] w fun e w' => e = .returned (.tuple #[.agg #[i64 (sn : Nat), i64 G], i64 Ev]) ∧ Below w.heap.size w w' := by
  obtain ⟨hBV, hK1, hK2⟩ := two_sh w x
  obtain ⟨V, hV⟩ : ∃ V, V = (w.alloc (spO x)).alloc (hO 0 0) := ⟨_, rfl⟩
  have HVe : Hid ((w.alloc (.cells #[i64 x.what, i64 x.n, i64 x.env, i64 x.tt, i64 x.rights, .bool x.by_, i64 x.c.env, i64 x.c.kind, i64 x.c.num, i64 x.c.rts, i64 x.wrong] 38)).alloc (.cells #[i64 0, i64 0] 42) = V) := hV.symm
  rw [← hV] at hBV hK1 hK2
  obtain ⟨vH, vE, hP, hH, hE⟩ := (h.below hBV).blk
  obtain ⟨aoH, capH, rfl, _⟩ := own_slice hH
  obtain ⟨aoE, capE, rfl, _⟩ := own_slice hE
  have HB := hid hBV
  have HK1 := hid hK1
  have HK2 := hid hK2
  have HPb := hid hP
  have p2 : V.cell? ⟨P, 2, none⟩ = some (.slice aoH L.length capH) := blk_cell hP 2
  have p3 : V.cell? ⟨P, 3, none⟩ = some (.slice aoE L.length capE) := blk_cell hP 3
  have x1 : V.cell? ⟨w.heap.size, 1, none⟩ = some (i64 x.n) := blk_cell hK1 1
  have hNI : (L.length : Int) ≤ 1000 := by omega
  have hPl := h.lt
  have hkL : k < L.length := (List.getElem?_eq_some_iff.1 hq).1
  obtain ⟨N, hN⟩ : ∃ N, N = L.length := ⟨_, rfl⟩
  have hHg : N ≤ capH ∧ ∃ g, aoH = some ⟨g, 0, none⟩ ∧ V.cell? ⟨g, k * 2, none⟩ = some (i64 (sn : Nat)) ∧ V.cell? ⟨g, k * 2 + 1, none⟩ = some (i64 q.gn) := by
    have hc := hcn_get (L.map hdR) k (hdR q) (by simp [hq])
    have hh1 : (hdR q).1 = sn := by simp [hdR, hsn]
    rw [hh1] at hc
    have h0 := hH
    rcases hH.2 with ⟨_, h'⟩ | ⟨g, cp, cur, hv, _, hgg, hcc, _⟩
    · omega
    · simp only [Value.slice.injEq] at hv
      obtain ⟨rfl, _, rfl⟩ := hv
      refine ⟨by omega, g, rfl, ?_, ?_⟩
      · rw [h0.cellAt _ (by omega)]; exact hc.1
      · rw [h0.cellAt _ (by omega)]; exact hc.2
  have hEg : N ≤ capE ∧ ∃ g, aoE = some ⟨g, 0, none⟩ ∧ V.cell? ⟨g, k, none⟩ = some (i64 q.c.env) := by
    have h0 := hE
    rcases hE.2 with ⟨_, h'⟩ | ⟨g, cp, cur, hv, _, hgg, hcc, _⟩
    · omega
    · simp only [Value.slice.injEq] at hv
      obtain ⟨rfl, _, rfl⟩ := hv
      refine ⟨by omega, g, rfl, ?_⟩
      rw [h0.cellAt _ (by omega)]
      simp [icells, hq]
  obtain ⟨hcH, gH, rfl, gh0, gh1⟩ := hHg
  obtain ⟨hcE, gE, rfl, ge0⟩ := hEg
  have hgE : w.heap.size + 1 ≠ gE := by
    intro e
    rcases hE.2 with ⟨hv, _⟩ | ⟨g, cp, cur, hv, _, hgg, _⟩
    · simp at hv
    · simp only [Value.slice.injEq, Option.some.injEq, Addr.mk.injEq] at hv
      obtain ⟨⟨rfl, _⟩, _⟩ := hv
      rw [← e, hK2] at hgg
      simp at hgg
  have hgHl := World.block_lt_of_cell? V _ gh0
  have hgEl := World.block_lt_of_cell? V _ ge0
  simp only at hgHl hgEl
  have hg9 := gn_le h.gu hq
  rw [← hN] at p2 p3 HPb hNI hkL hg9
  have hkI : (k : Int) < N := by omega
  have hcHI : (N : Int) ≤ capH := by omega
  have hcEI : (N : Int) ≤ capE := by omega
  have hd : decide ((k : Int) < 0) = false := decide_eq_false (by omega)
  have hd2 : decide ((N : Int) ≤ (k : Int)) = false := decide_eq_false (by omega)
  rw [hn] at x1
  have HXN : Hid (x.n = (k : Nat)) := hn
  have HW0 := hid hwr
  have HEv := hid hev
  clear hV hBV hK1 hK2 hP hH hE h hq hN hn hwr hev
  unfold Sp.v
  go_enter Try.func13, Try.ntmps13
  go_upto_region 1 with fail
  rw [HVe.out]
  go_quiet (fail)
  have HK1q : Hid ((V.drewN nq).heap[w.heap.size]? = some (spO x)) := HK1.out
  have HK2q : Hid ((V.drewN nq).heap[w.heap.size + 1]? = some (hO 0 0)) := HK2.out
  have HPq : Hid ((V.drewN nq).heap[P]? = some (.cells #[pq b, pq r, .slice (some ⟨gH, 0, none⟩) N capH, .slice (some ⟨gE, 0, none⟩) N capE] 34)) := HPb.out
  have HG0 : Hid ((V.drewN nq).cell? ⟨gH, k * 2, none⟩ = some (i64 (sn : Nat))) := gh0
  have HG1 : Hid ((V.drewN nq).cell? ⟨gH, k * 2 + 1, none⟩ = some (i64 q.gn)) := gh1
  have HE0 : Hid ((V.drewN nq).cell? ⟨gE, k, none⟩ = some (i64 q.c.env)) := ge0
  have HBQ : Hid (Below w.heap.size w (V.drewN nq)) := below_drewN HB.out nq
  have hsV : w.heap.size + 1 < (V.drewN nq).heap.size := blk_lt HK2q.out
  clear HK1 HK2 HPb gh0 gh1 ge0 x1 p2 p3 hgHl hgEl hd hd2 HVe HB
  generalize V.drewN nq = V1 at *
  have HKS : Hid (∀ W : World, W.heap[w.heap.size]? = some (spO x) → W.cell? ⟨w.heap.size, 1, none⟩ = some (i64 (k : Nat))) := fun W hW => by rw [← HXN.out]; exact blk_cell hW 1
  go_upto_region 3 with fail
  have HS : Hid (SqL w.heap.size P gH x k (.slice (some ⟨gH, 0, none⟩) N capH) (sn : Nat) q.gn V1.drew) := ⟨HK1q.out, blk_cell HPq.out 2, HG0.out, HG1.out⟩
  refine wp_region_noPanic ?_
  refine wp_region_last (SqL w.heap.size P gH x k (.slice (some ⟨gH, 0, none⟩) N capH) (sn : Nat) q.gn) 9 (by kernel_rfl) ?_
  refine wpL_take 0 37 (pq P) [] rfl rfl (by kernel_rfl) (by decide) (by kernel_rfl) (by kernel_rfl) (by kernel_rfl) (fun _ _ _ h => h) HS.out (by rfl) (fun W hW => by have y1 := HKS.out W hW.x; have p2 := hW.p; have g0 := hW.g0; have g1 := hW.g1; go_simp) ?_
  simp only [Act.put, List.setIfInBounds_toArray, List.set_cons_zero, List.set_cons_succ]
  refine wpL_take 1 38 (pq P) [] rfl rfl (by kernel_rfl) (by decide) (by kernel_rfl) (by kernel_rfl) (by kernel_rfl) (fun _ _ _ h => h) HS.out (by rfl) (fun W hW => by have y1 := HKS.out W hW.x; have p2 := hW.p; have g0 := hW.g0; have g1 := hW.g1; go_simp) ?_
  simp only [Act.put, List.setIfInBounds_toArray, List.set_cons_zero, List.set_cons_succ]
  refine wpL_take 2 39 (.pointer (some ⟨P, 2, none⟩)) [] rfl rfl (by kernel_rfl) (by decide) (by kernel_rfl) (by kernel_rfl) (by kernel_rfl) (fun _ _ _ h => h) HS.out (by rfl) (fun W hW => by have y1 := HKS.out W hW.x; have p2 := hW.p; have g0 := hW.g0; have g1 := hW.g1; go_simp) ?_
  simp only [Act.put, List.setIfInBounds_toArray, List.set_cons_zero, List.set_cons_succ]
  refine wpL_take 3 40 (.slice (some ⟨gH, 0, none⟩) N capH) [] rfl rfl (by kernel_rfl) (by decide) (by kernel_rfl) (by kernel_rfl) (by kernel_rfl) (fun _ _ _ h => h) HS.out (by rfl) (fun W hW => by have y1 := HKS.out W hW.x; have p2 := hW.p; have g0 := hW.g0; have g1 := hW.g1; go_simp) ?_
  simp only [Act.put, List.setIfInBounds_toArray, List.set_cons_zero, List.set_cons_succ]
  refine wpL_take 4 41 (.pointer (some ⟨w.heap.size, 1, none⟩)) [] rfl rfl (by kernel_rfl) (by decide) (by kernel_rfl) (by kernel_rfl) (by kernel_rfl) (fun _ _ _ h => h) HS.out (by rfl) (fun W hW => by have y1 := HKS.out W hW.x; have p2 := hW.p; have g0 := hW.g0; have g1 := hW.g1; go_simp) ?_
  simp only [Act.put, List.setIfInBounds_toArray, List.set_cons_zero, List.set_cons_succ]
  refine wpL_take 5 42 (i64 (k : Nat)) [] rfl rfl (by kernel_rfl) (by decide) (by kernel_rfl) (by kernel_rfl) (by kernel_rfl) (fun _ _ _ h => h) HS.out (by rfl) (fun W hW => by have y1 := HKS.out W hW.x; have p2 := hW.p; have g0 := hW.g0; have g1 := hW.g1; go_simp) ?_
  simp only [Act.put, List.setIfInBounds_toArray, List.set_cons_zero, List.set_cons_succ]
  refine wpL_take 6 43 (.pointer (some ⟨gH, k * 2, none⟩)) [] rfl rfl (by kernel_rfl) (by decide) (by kernel_rfl) (by kernel_rfl) (by kernel_rfl) (fun _ _ _ h => h) HS.out (by rfl) (fun W hW => by have y1 := HKS.out W hW.x; have p2 := hW.p; have g0 := hW.g0; have g1 := hW.g1; go_simp) ?_
  simp only [Act.put, List.setIfInBounds_toArray, List.set_cons_zero, List.set_cons_succ]
  refine wpL_take 7 44 (.agg #[i64 (sn : Nat), i64 q.gn]) [] rfl rfl (by kernel_rfl) (by decide) (by kernel_rfl) (by kernel_rfl) (by kernel_rfl) (fun _ _ _ h => h) HS.out (by rfl) (fun W hW => by have y1 := HKS.out W hW.x; have p2 := hW.p; have g0 := hW.g0; have g1 := hW.g1; go_simp) ?_
  simp only [Act.put, List.setIfInBounds_toArray, List.set_cons_zero, List.set_cons_succ]
  refine wpL_one 8 rfl (by kernel_rfl) (by rfl) (fun K hK => ?_)
  go_simp
  refine hK.out _ _ (fun _ => ⟨blk_alloc (w := V1.drew) HK1q.out _, blk_cell (blk_alloc (w := V1.drew) HPq.out _) 2, cell_keep (w := V1) HG0.out _, cell_keep (w := V1) HG1.out _⟩) ?_
  clear hK K
  refine wpL_one 9 rfl (by kernel_rfl) (by rfl) (fun K hK => ?_)
  go_simp
  refine hK.out _ _ (fun h => absurd rfl h) ?_
  clear hK K
  refine wpL_done (by kernel_rfl) ?_
  refine NoPanic.normal ?_
  have HU1 : Hid ((V1.alloc (hO (sn : Nat) q.gn)).drew.heap[w.heap.size]? = some (spO x)) := blk_alloc HK1q.out _
  have HU2 : Hid ((V1.alloc (hO (sn : Nat) q.gn)).drew.heap[w.heap.size + 1]? = some (hO 0 0)) := blk_alloc HK2q.out _
  have HU3 : Hid ((V1.alloc (hO (sn : Nat) q.gn)).drew.heap[P]? = some (.cells #[pq b, pq r, .slice (some ⟨gH, 0, none⟩) N capH, .slice (some ⟨gE, 0, none⟩) N capE] 34)) := blk_alloc HPq.out _
  have HU4 : Hid ((V1.alloc (hO (sn : Nat) q.gn)).drew.cell? ⟨gE, k, none⟩ = some (i64 q.c.env)) := cell_keep (w := V1) HE0.out _
  have hgEl : gE < V1.heap.size := World.block_lt_of_cell? V1 _ HE0.out
  have HU5 : Hid ((V1.alloc (hO (sn : Nat) q.gn)).drew.heap[V1.heap.size]? = some (hO (sn : Nat) q.gn)) := heap_last V1 _
  have HU6 : Hid (Below w.heap.size w (V1.alloc (hO (sn : Nat) q.gn)).drew) := (HBQ.out.alloc HBQ.out.size _).drew
  have hP1 : P < V1.heap.size := blk_lt HPq.out
  clear HS HK1q HK2q HPq HG0 HG1 HE0 HBQ
  unfold hO at HU1 HU2 HU3 HU4 HU5 HU6
  generalize (V1.alloc (.cells #[i64 (sn : Nat), i64 q.gn] 42)).drew = U at *
  generalize V1.heap.size = Y at *
  have w10 : U.cell? ⟨w.heap.size, 10, none⟩ = some (i64 x.wrong) := blk_cell HU1.out 10
  have y1 : U.cell? ⟨Y, 1, none⟩ = some (i64 q.gn) := blk_cell HU5.out 1
  have yf : U.frozen? ⟨Y, 1, none⟩ = false := blk_frozen HU5.out 1
  have hwc : (x.wrong ≤ 0 ∧ G = q.gn) ∨ (3 ≤ x.wrong ∧ G = q.gn) ∨ ((0 < x.wrong ∧ x.wrong < 3) ∧ G = q.gn + x.wrong) := by
    have := HW0.out
    unfold wrg at this
    by_cases h1 : 0 < x.wrong ∧ x.wrong < 3
    · rw [if_pos h1] at this; exact Or.inr (Or.inr ⟨h1, this⟩)
    · rw [if_neg h1] at this; omega
  clear HW0
  rcases hwc with ⟨hw0, hG⟩ | ⟨hw0, hG⟩ | ⟨⟨hw0, hw1⟩, hG⟩
  · have HY : Hid (U.heap[Y]? = some (hO (sn : Nat) G)) := by rw [hG]; exact HU5
    clear hG HU5
    go_upto_region 6 with fail
    clear w10 y1 yf hw0
    have w5 : U.cell? ⟨w.heap.size, 5, none⟩ = some (.bool x.by_) := blk_cell HU1.out 5
    have HTH : Hid (U.drew.there (w.heap.size + 1) 0 2) := there2 (V := U.drew) HU2.out
    cases hby : x.by_ with
    | true =>
      rw [hby] at w5
      have HE1 : Hid (Ev = x.env) := by rw [HEv.out, hby]; exact hid rfl
      go_upto_region 7 with fail
      have HS : Hid (SqM w.heap.size Y x (sn : Nat) G U.drew) := ⟨HU1.out, HY.out⟩
      refine wp_region_noPanic ?_
      refine wp_region_last (SqM w.heap.size Y x (sn : Nat) G) 4 (by kernel_rfl) ?_
      refine wpL_take 0 61 (.agg #[i64 (sn : Nat), i64 G]) [] rfl rfl (by kernel_rfl) (by decide) (by kernel_rfl) (by kernel_rfl) (by kernel_rfl) (fun _ _ _ h => h) HS.out (by rfl) (fun W hW => by have y0 := blk_cell hW.y 0; have y1 := blk_cell hW.y 1; have z2 := blk_cell hW.x 2; go_simp) ?_
      simp only [Act.put, List.setIfInBounds_toArray, List.set_cons_zero, List.set_cons_succ]
      refine wpL_take 1 62 (.pointer (some ⟨w.heap.size, 2, none⟩)) [] rfl rfl (by kernel_rfl) (by decide) (by kernel_rfl) (by kernel_rfl) (by kernel_rfl) (fun _ _ _ h => h) HS.out (by rfl) (fun W hW => by have y0 := blk_cell hW.y 0; have y1 := blk_cell hW.y 1; have z2 := blk_cell hW.x 2; go_simp) ?_
      simp only [Act.put, List.setIfInBounds_toArray, List.set_cons_zero, List.set_cons_succ]
      refine wpL_take 2 63 (i64 x.env) [] rfl rfl (by kernel_rfl) (by decide) (by kernel_rfl) (by kernel_rfl) (by kernel_rfl) (fun _ _ _ h => h) HS.out (by rfl) (fun W hW => by have y0 := blk_cell hW.y 0; have y1 := blk_cell hW.y 1; have z2 := blk_cell hW.x 2; go_simp) ?_
      simp only [Act.put, List.setIfInBounds_toArray, List.set_cons_zero, List.set_cons_succ]
      refine wpL_one 3 rfl (by kernel_rfl) (by rfl) (fun K hK => ?_)
      refine wp_store_mid 42 (.tmp 4) (.tmp 61) rfl (w.heap.size + 1) 0 #[i64 (sn : Nat), i64 G] rfl rfl (by exact HTH.out) (by kernel_rfl) (two_one' _ _) ?_
      refine hK.out _ _ (fun _ => ⟨by rw [heap_sc_ne _ _ _ (by omega)]; exact HU1.out, by rw [heap_sc_ne _ _ _ (by omega)]; exact HY.out⟩) ?_
      clear hK K
      refine wpL_one 4 rfl (by kernel_rfl) (by rfl) (fun K hK => ?_)
      go_simp
      refine hK.out _ _ (fun h => absurd rfl h) ?_
      clear hK K
      refine wpL_done (by kernel_rfl) ?_
      refine NoPanic.normal ?_
      go_wp2_with fail
      exact bodyPost_ret (results_cell Try.results13 rfl rfl (load42 (set2 (V := U.drew) HU2.out _ _))) rfl ⟨by rw [HE1.out]; rfl, bel2 (V := U.drew) HU6.out.drew (by omega) _ _⟩
    | false =>
      rw [hby] at w5
      have HE1 : Hid (Ev = q.c.env) := by rw [HEv.out, hby]; exact hid rfl
      go_upto_region 8 with fail
      have HS : Hid (SqN w.heap.size Y P gE x k (.slice (some ⟨gE, 0, none⟩) N capE) (sn : Nat) G q.c.env U.drew) := ⟨HU1.out, HY.out, blk_cell HU3.out 3, HU4.out⟩
      refine wp_region_noPanic ?_
      refine wp_region_last (SqN w.heap.size Y P gE x k (.slice (some ⟨gE, 0, none⟩) N capE) (sn : Nat) G q.c.env) 10 (by kernel_rfl) ?_
      refine wpL_take 0 64 (.agg #[i64 (sn : Nat), i64 G]) [] rfl rfl (by kernel_rfl) (by decide) (by kernel_rfl) (by kernel_rfl) (by kernel_rfl) (fun _ _ _ h => h) HS.out (by rfl) (fun W hW => by have y0 := blk_cell hW.y 0; have y1 := blk_cell hW.y 1; have z1 := HKS.out W hW.x; have p3 := hW.p; have g0 := hW.g; go_simp) ?_
      simp only [Act.put, List.setIfInBounds_toArray, List.set_cons_zero, List.set_cons_succ]
      refine wpL_take 1 65 (pq P) [] rfl rfl (by kernel_rfl) (by decide) (by kernel_rfl) (by kernel_rfl) (by kernel_rfl) (fun _ _ _ h => h) HS.out (by rfl) (fun W hW => by have y0 := blk_cell hW.y 0; have y1 := blk_cell hW.y 1; have z1 := HKS.out W hW.x; have p3 := hW.p; have g0 := hW.g; go_simp) ?_
      simp only [Act.put, List.setIfInBounds_toArray, List.set_cons_zero, List.set_cons_succ]
      refine wpL_take 2 66 (pq P) [] rfl rfl (by kernel_rfl) (by decide) (by kernel_rfl) (by kernel_rfl) (by kernel_rfl) (fun _ _ _ h => h) HS.out (by rfl) (fun W hW => by have y0 := blk_cell hW.y 0; have y1 := blk_cell hW.y 1; have z1 := HKS.out W hW.x; have p3 := hW.p; have g0 := hW.g; go_simp) ?_
      simp only [Act.put, List.setIfInBounds_toArray, List.set_cons_zero, List.set_cons_succ]
      refine wpL_take 3 67 (.pointer (some ⟨P, 3, none⟩)) [] rfl rfl (by kernel_rfl) (by decide) (by kernel_rfl) (by kernel_rfl) (by kernel_rfl) (fun _ _ _ h => h) HS.out (by rfl) (fun W hW => by have y0 := blk_cell hW.y 0; have y1 := blk_cell hW.y 1; have z1 := HKS.out W hW.x; have p3 := hW.p; have g0 := hW.g; go_simp) ?_
      simp only [Act.put, List.setIfInBounds_toArray, List.set_cons_zero, List.set_cons_succ]
      refine wpL_take 4 68 (.slice (some ⟨gE, 0, none⟩) N capE) [] rfl rfl (by kernel_rfl) (by decide) (by kernel_rfl) (by kernel_rfl) (by kernel_rfl) (fun _ _ _ h => h) HS.out (by rfl) (fun W hW => by have y0 := blk_cell hW.y 0; have y1 := blk_cell hW.y 1; have z1 := HKS.out W hW.x; have p3 := hW.p; have g0 := hW.g; go_simp) ?_
      simp only [Act.put, List.setIfInBounds_toArray, List.set_cons_zero, List.set_cons_succ]
      refine wpL_take 5 69 (.pointer (some ⟨w.heap.size, 1, none⟩)) [] rfl rfl (by kernel_rfl) (by decide) (by kernel_rfl) (by kernel_rfl) (by kernel_rfl) (fun _ _ _ h => h) HS.out (by rfl) (fun W hW => by have y0 := blk_cell hW.y 0; have y1 := blk_cell hW.y 1; have z1 := HKS.out W hW.x; have p3 := hW.p; have g0 := hW.g; go_simp) ?_
      simp only [Act.put, List.setIfInBounds_toArray, List.set_cons_zero, List.set_cons_succ]
      refine wpL_take 6 70 (i64 (k : Nat)) [] rfl rfl (by kernel_rfl) (by decide) (by kernel_rfl) (by kernel_rfl) (by kernel_rfl) (fun _ _ _ h => h) HS.out (by rfl) (fun W hW => by have y0 := blk_cell hW.y 0; have y1 := blk_cell hW.y 1; have z1 := HKS.out W hW.x; have p3 := hW.p; have g0 := hW.g; go_simp) ?_
      simp only [Act.put, List.setIfInBounds_toArray, List.set_cons_zero, List.set_cons_succ]
      refine wpL_take 7 71 (.pointer (some ⟨gE, k, none⟩)) [] rfl rfl (by kernel_rfl) (by decide) (by kernel_rfl) (by kernel_rfl) (by kernel_rfl) (fun _ _ _ h => h) HS.out (by rfl) (fun W hW => by have y0 := blk_cell hW.y 0; have y1 := blk_cell hW.y 1; have z1 := HKS.out W hW.x; have p3 := hW.p; have g0 := hW.g; go_simp) ?_
      simp only [Act.put, List.setIfInBounds_toArray, List.set_cons_zero, List.set_cons_succ]
      refine wpL_take 8 72 (i64 q.c.env) [] rfl rfl (by kernel_rfl) (by decide) (by kernel_rfl) (by kernel_rfl) (by kernel_rfl) (fun _ _ _ h => h) HS.out (by rfl) (fun W hW => by have y0 := blk_cell hW.y 0; have y1 := blk_cell hW.y 1; have z1 := HKS.out W hW.x; have p3 := hW.p; have g0 := hW.g; go_simp) ?_
      simp only [Act.put, List.setIfInBounds_toArray, List.set_cons_zero, List.set_cons_succ]
      refine wpL_one 9 rfl (by kernel_rfl) (by rfl) (fun K hK => ?_)
      refine wp_store_mid 42 (.tmp 4) (.tmp 64) rfl (w.heap.size + 1) 0 #[i64 (sn : Nat), i64 G] rfl rfl (by exact HTH.out) (by kernel_rfl) (two_one' _ _) ?_
      refine hK.out _ _ (fun _ => ⟨by rw [heap_sc_ne _ _ _ (by omega)]; exact HU1.out, by rw [heap_sc_ne _ _ _ (by omega)]; exact HY.out, by rw [World.cell?_of_block (w := U.drew) (heap_sc_ne _ _ _ (by show w.heap.size + 1 ≠ P; omega))]; exact blk_cell HU3.out 3, by rw [World.cell?_of_block (w := U.drew) (heap_sc_ne _ _ _ (by show w.heap.size + 1 ≠ gE; exact hgE))]; exact HU4.out⟩) ?_
      clear hK K
      refine wpL_one 10 rfl (by kernel_rfl) (by rfl) (fun K hK => ?_)
      go_simp
      refine hK.out _ _ (fun h => absurd rfl h) ?_
      clear hK K
      refine wpL_done (by kernel_rfl) ?_
      refine NoPanic.normal ?_
      go_wp2_with fail
      exact bodyPost_ret (results_cell Try.results13 rfl rfl (load42 (set2 (V := U.drew) HU2.out _ _))) rfl ⟨by rw [HE1.out]; rfl, bel2 (V := U.drew) HU6.out.drew (by omega) _ _⟩
  · have HY : Hid (U.heap[Y]? = some (hO (sn : Nat) G)) := by rw [hG]; exact HU5
    have hw1 : ¬ x.wrong ≤ 0 := by omega
    clear hG HU5
    go_upto_region 6 with fail
    clear w10 y1 yf hw0 hw1
    have w5 : U.cell? ⟨w.heap.size, 5, none⟩ = some (.bool x.by_) := blk_cell HU1.out 5
    have HTH : Hid (U.drew.there (w.heap.size + 1) 0 2) := there2 (V := U.drew) HU2.out
    cases hby : x.by_ with
    | true =>
      rw [hby] at w5
      have HE1 : Hid (Ev = x.env) := by rw [HEv.out, hby]; exact hid rfl
      go_upto_region 7 with fail
      have HS : Hid (SqM w.heap.size Y x (sn : Nat) G U.drew) := ⟨HU1.out, HY.out⟩
      refine wp_region_noPanic ?_
      refine wp_region_last (SqM w.heap.size Y x (sn : Nat) G) 4 (by kernel_rfl) ?_
      refine wpL_take 0 61 (.agg #[i64 (sn : Nat), i64 G]) [] rfl rfl (by kernel_rfl) (by decide) (by kernel_rfl) (by kernel_rfl) (by kernel_rfl) (fun _ _ _ h => h) HS.out (by rfl) (fun W hW => by have y0 := blk_cell hW.y 0; have y1 := blk_cell hW.y 1; have z2 := blk_cell hW.x 2; go_simp) ?_
      simp only [Act.put, List.setIfInBounds_toArray, List.set_cons_zero, List.set_cons_succ]
      refine wpL_take 1 62 (.pointer (some ⟨w.heap.size, 2, none⟩)) [] rfl rfl (by kernel_rfl) (by decide) (by kernel_rfl) (by kernel_rfl) (by kernel_rfl) (fun _ _ _ h => h) HS.out (by rfl) (fun W hW => by have y0 := blk_cell hW.y 0; have y1 := blk_cell hW.y 1; have z2 := blk_cell hW.x 2; go_simp) ?_
      simp only [Act.put, List.setIfInBounds_toArray, List.set_cons_zero, List.set_cons_succ]
      refine wpL_take 2 63 (i64 x.env) [] rfl rfl (by kernel_rfl) (by decide) (by kernel_rfl) (by kernel_rfl) (by kernel_rfl) (fun _ _ _ h => h) HS.out (by rfl) (fun W hW => by have y0 := blk_cell hW.y 0; have y1 := blk_cell hW.y 1; have z2 := blk_cell hW.x 2; go_simp) ?_
      simp only [Act.put, List.setIfInBounds_toArray, List.set_cons_zero, List.set_cons_succ]
      refine wpL_one 3 rfl (by kernel_rfl) (by rfl) (fun K hK => ?_)
      refine wp_store_mid 42 (.tmp 4) (.tmp 61) rfl (w.heap.size + 1) 0 #[i64 (sn : Nat), i64 G] rfl rfl (by exact HTH.out) (by kernel_rfl) (two_one' _ _) ?_
      refine hK.out _ _ (fun _ => ⟨by rw [heap_sc_ne _ _ _ (by omega)]; exact HU1.out, by rw [heap_sc_ne _ _ _ (by omega)]; exact HY.out⟩) ?_
      clear hK K
      refine wpL_one 4 rfl (by kernel_rfl) (by rfl) (fun K hK => ?_)
      go_simp
      refine hK.out _ _ (fun h => absurd rfl h) ?_
      clear hK K
      refine wpL_done (by kernel_rfl) ?_
      refine NoPanic.normal ?_
      go_wp2_with fail
      exact bodyPost_ret (results_cell Try.results13 rfl rfl (load42 (set2 (V := U.drew) HU2.out _ _))) rfl ⟨by rw [HE1.out]; rfl, bel2 (V := U.drew) HU6.out.drew (by omega) _ _⟩
    | false =>
      rw [hby] at w5
      have HE1 : Hid (Ev = q.c.env) := by rw [HEv.out, hby]; exact hid rfl
      go_upto_region 8 with fail
      have HS : Hid (SqN w.heap.size Y P gE x k (.slice (some ⟨gE, 0, none⟩) N capE) (sn : Nat) G q.c.env U.drew) := ⟨HU1.out, HY.out, blk_cell HU3.out 3, HU4.out⟩
      refine wp_region_noPanic ?_
      refine wp_region_last (SqN w.heap.size Y P gE x k (.slice (some ⟨gE, 0, none⟩) N capE) (sn : Nat) G q.c.env) 10 (by kernel_rfl) ?_
      refine wpL_take 0 64 (.agg #[i64 (sn : Nat), i64 G]) [] rfl rfl (by kernel_rfl) (by decide) (by kernel_rfl) (by kernel_rfl) (by kernel_rfl) (fun _ _ _ h => h) HS.out (by rfl) (fun W hW => by have y0 := blk_cell hW.y 0; have y1 := blk_cell hW.y 1; have z1 := HKS.out W hW.x; have p3 := hW.p; have g0 := hW.g; go_simp) ?_
      simp only [Act.put, List.setIfInBounds_toArray, List.set_cons_zero, List.set_cons_succ]
      refine wpL_take 1 65 (pq P) [] rfl rfl (by kernel_rfl) (by decide) (by kernel_rfl) (by kernel_rfl) (by kernel_rfl) (fun _ _ _ h => h) HS.out (by rfl) (fun W hW => by have y0 := blk_cell hW.y 0; have y1 := blk_cell hW.y 1; have z1 := HKS.out W hW.x; have p3 := hW.p; have g0 := hW.g; go_simp) ?_
      simp only [Act.put, List.setIfInBounds_toArray, List.set_cons_zero, List.set_cons_succ]
      refine wpL_take 2 66 (pq P) [] rfl rfl (by kernel_rfl) (by decide) (by kernel_rfl) (by kernel_rfl) (by kernel_rfl) (fun _ _ _ h => h) HS.out (by rfl) (fun W hW => by have y0 := blk_cell hW.y 0; have y1 := blk_cell hW.y 1; have z1 := HKS.out W hW.x; have p3 := hW.p; have g0 := hW.g; go_simp) ?_
      simp only [Act.put, List.setIfInBounds_toArray, List.set_cons_zero, List.set_cons_succ]
      refine wpL_take 3 67 (.pointer (some ⟨P, 3, none⟩)) [] rfl rfl (by kernel_rfl) (by decide) (by kernel_rfl) (by kernel_rfl) (by kernel_rfl) (fun _ _ _ h => h) HS.out (by rfl) (fun W hW => by have y0 := blk_cell hW.y 0; have y1 := blk_cell hW.y 1; have z1 := HKS.out W hW.x; have p3 := hW.p; have g0 := hW.g; go_simp) ?_
      simp only [Act.put, List.setIfInBounds_toArray, List.set_cons_zero, List.set_cons_succ]
      refine wpL_take 4 68 (.slice (some ⟨gE, 0, none⟩) N capE) [] rfl rfl (by kernel_rfl) (by decide) (by kernel_rfl) (by kernel_rfl) (by kernel_rfl) (fun _ _ _ h => h) HS.out (by rfl) (fun W hW => by have y0 := blk_cell hW.y 0; have y1 := blk_cell hW.y 1; have z1 := HKS.out W hW.x; have p3 := hW.p; have g0 := hW.g; go_simp) ?_
      simp only [Act.put, List.setIfInBounds_toArray, List.set_cons_zero, List.set_cons_succ]
      refine wpL_take 5 69 (.pointer (some ⟨w.heap.size, 1, none⟩)) [] rfl rfl (by kernel_rfl) (by decide) (by kernel_rfl) (by kernel_rfl) (by kernel_rfl) (fun _ _ _ h => h) HS.out (by rfl) (fun W hW => by have y0 := blk_cell hW.y 0; have y1 := blk_cell hW.y 1; have z1 := HKS.out W hW.x; have p3 := hW.p; have g0 := hW.g; go_simp) ?_
      simp only [Act.put, List.setIfInBounds_toArray, List.set_cons_zero, List.set_cons_succ]
      refine wpL_take 6 70 (i64 (k : Nat)) [] rfl rfl (by kernel_rfl) (by decide) (by kernel_rfl) (by kernel_rfl) (by kernel_rfl) (fun _ _ _ h => h) HS.out (by rfl) (fun W hW => by have y0 := blk_cell hW.y 0; have y1 := blk_cell hW.y 1; have z1 := HKS.out W hW.x; have p3 := hW.p; have g0 := hW.g; go_simp) ?_
      simp only [Act.put, List.setIfInBounds_toArray, List.set_cons_zero, List.set_cons_succ]
      refine wpL_take 7 71 (.pointer (some ⟨gE, k, none⟩)) [] rfl rfl (by kernel_rfl) (by decide) (by kernel_rfl) (by kernel_rfl) (by kernel_rfl) (fun _ _ _ h => h) HS.out (by rfl) (fun W hW => by have y0 := blk_cell hW.y 0; have y1 := blk_cell hW.y 1; have z1 := HKS.out W hW.x; have p3 := hW.p; have g0 := hW.g; go_simp) ?_
      simp only [Act.put, List.setIfInBounds_toArray, List.set_cons_zero, List.set_cons_succ]
      refine wpL_take 8 72 (i64 q.c.env) [] rfl rfl (by kernel_rfl) (by decide) (by kernel_rfl) (by kernel_rfl) (by kernel_rfl) (fun _ _ _ h => h) HS.out (by rfl) (fun W hW => by have y0 := blk_cell hW.y 0; have y1 := blk_cell hW.y 1; have z1 := HKS.out W hW.x; have p3 := hW.p; have g0 := hW.g; go_simp) ?_
      simp only [Act.put, List.setIfInBounds_toArray, List.set_cons_zero, List.set_cons_succ]
      refine wpL_one 9 rfl (by kernel_rfl) (by rfl) (fun K hK => ?_)
      refine wp_store_mid 42 (.tmp 4) (.tmp 64) rfl (w.heap.size + 1) 0 #[i64 (sn : Nat), i64 G] rfl rfl (by exact HTH.out) (by kernel_rfl) (two_one' _ _) ?_
      refine hK.out _ _ (fun _ => ⟨by rw [heap_sc_ne _ _ _ (by omega)]; exact HU1.out, by rw [heap_sc_ne _ _ _ (by omega)]; exact HY.out, by rw [World.cell?_of_block (w := U.drew) (heap_sc_ne _ _ _ (by show w.heap.size + 1 ≠ P; omega))]; exact blk_cell HU3.out 3, by rw [World.cell?_of_block (w := U.drew) (heap_sc_ne _ _ _ (by show w.heap.size + 1 ≠ gE; exact hgE))]; exact HU4.out⟩) ?_
      clear hK K
      refine wpL_one 10 rfl (by kernel_rfl) (by rfl) (fun K hK => ?_)
      go_simp
      refine hK.out _ _ (fun h => absurd rfl h) ?_
      clear hK K
      refine wpL_done (by kernel_rfl) ?_
      refine NoPanic.normal ?_
      go_wp2_with fail
      exact bodyPost_ret (results_cell Try.results13 rfl rfl (load42 (set2 (V := U.drew) HU2.out _ _))) rfl ⟨by rw [HE1.out]; rfl, bel2 (V := U.drew) HU6.out.drew (by omega) _ _⟩
  · have HY0 : Hid ((U.setCell ⟨Y, 1, none⟩ (i64 (q.gn + x.wrong))).heap[Y]? = some (hO (sn : Nat) G)) := by
      have := heap_setCell_same U Y 1 _ 42 (i64 (q.gn + x.wrong)) HU5.out
      rw [hG]
      exact hid (by simpa using this)
    clear hG
    go_upto_region 6 with fail
    have HV1 : Hid ((U.setCell ⟨Y, 1, none⟩ (i64 (q.gn + x.wrong))).heap[w.heap.size]? = some (spO x)) := by rw [Below.heap_setCell _ _ _ _ (by show w.heap.size ≠ Y; omega)]; exact HU1.out
    have HV2 : Hid ((U.setCell ⟨Y, 1, none⟩ (i64 (q.gn + x.wrong))).heap[w.heap.size + 1]? = some (hO 0 0)) := by rw [Below.heap_setCell _ _ _ _ (by show w.heap.size + 1 ≠ Y; omega)]; exact HU2.out
    have HV3 : Hid ((U.setCell ⟨Y, 1, none⟩ (i64 (q.gn + x.wrong))).heap[P]? = some (.cells #[pq b, pq r, .slice (some ⟨gH, 0, none⟩) N capH, .slice (some ⟨gE, 0, none⟩) N capE] 34)) := by rw [Below.heap_setCell _ _ _ _ (by show P ≠ Y; omega)]; exact HU3.out
    have HV4 : Hid ((U.setCell ⟨Y, 1, none⟩ (i64 (q.gn + x.wrong))).cell? ⟨gE, k, none⟩ = some (i64 q.c.env)) := cell_set HU4.out _ _ (by show gE ≠ Y; omega)
    have HV6 : Hid (Below w.heap.size w (U.setCell ⟨Y, 1, none⟩ (i64 (q.gn + x.wrong)))) := HU6.out.setCell (by show w.heap.size ≤ Y; omega) _
    clear w10 y1 yf hw0 hw1 HU1 HU2 HU3 HU4 HU5 HU6
    generalize U.setCell ⟨Y, 1, none⟩ (i64 (q.gn + x.wrong)) = U2 at *
    clear U
    have HU1 := HV1
    have HU2 := HV2
    have HU3 := HV3
    have HU4 := HV4
    have HU6 := HV6
    have HY := HY0
    clear HV1 HV2 HV3 HV4 HV6 HY0
    have w5 : U2.cell? ⟨w.heap.size, 5, none⟩ = some (.bool x.by_) := blk_cell HU1.out 5
    have HTH : Hid (U2.drew.there (w.heap.size + 1) 0 2) := there2 (V := U2.drew) HU2.out
    cases hby : x.by_ with
    | true =>
      rw [hby] at w5
      have HE1 : Hid (Ev = x.env) := by rw [HEv.out, hby]; exact hid rfl
      go_upto_region 7 with fail
      have HS : Hid (SqM w.heap.size Y x (sn : Nat) G U2.drew) := ⟨HU1.out, HY.out⟩
      refine wp_region_noPanic ?_
      refine wp_region_last (SqM w.heap.size Y x (sn : Nat) G) 4 (by kernel_rfl) ?_
      refine wpL_take 0 61 (.agg #[i64 (sn : Nat), i64 G]) [] rfl rfl (by kernel_rfl) (by decide) (by kernel_rfl) (by kernel_rfl) (by kernel_rfl) (fun _ _ _ h => h) HS.out (by rfl) (fun W hW => by have y0 := blk_cell hW.y 0; have y1 := blk_cell hW.y 1; have z2 := blk_cell hW.x 2; go_simp) ?_
      simp only [Act.put, List.setIfInBounds_toArray, List.set_cons_zero, List.set_cons_succ]
      refine wpL_take 1 62 (.pointer (some ⟨w.heap.size, 2, none⟩)) [] rfl rfl (by kernel_rfl) (by decide) (by kernel_rfl) (by kernel_rfl) (by kernel_rfl) (fun _ _ _ h => h) HS.out (by rfl) (fun W hW => by have y0 := blk_cell hW.y 0; have y1 := blk_cell hW.y 1; have z2 := blk_cell hW.x 2; go_simp) ?_
      simp only [Act.put, List.setIfInBounds_toArray, List.set_cons_zero, List.set_cons_succ]
      refine wpL_take 2 63 (i64 x.env) [] rfl rfl (by kernel_rfl) (by decide) (by kernel_rfl) (by kernel_rfl) (by kernel_rfl) (fun _ _ _ h => h) HS.out (by rfl) (fun W hW => by have y0 := blk_cell hW.y 0; have y1 := blk_cell hW.y 1; have z2 := blk_cell hW.x 2; go_simp) ?_
      simp only [Act.put, List.setIfInBounds_toArray, List.set_cons_zero, List.set_cons_succ]
      refine wpL_one 3 rfl (by kernel_rfl) (by rfl) (fun K hK => ?_)
      refine wp_store_mid 42 (.tmp 4) (.tmp 61) rfl (w.heap.size + 1) 0 #[i64 (sn : Nat), i64 G] rfl rfl (by exact HTH.out) (by kernel_rfl) (two_one' _ _) ?_
      refine hK.out _ _ (fun _ => ⟨by rw [heap_sc_ne _ _ _ (by omega)]; exact HU1.out, by rw [heap_sc_ne _ _ _ (by omega)]; exact HY.out⟩) ?_
      clear hK K
      refine wpL_one 4 rfl (by kernel_rfl) (by rfl) (fun K hK => ?_)
      go_simp
      refine hK.out _ _ (fun h => absurd rfl h) ?_
      clear hK K
      refine wpL_done (by kernel_rfl) ?_
      refine NoPanic.normal ?_
      go_wp2_with fail
      exact bodyPost_ret (results_cell Try.results13 rfl rfl (load42 (set2 (V := U2.drew) HU2.out _ _))) rfl ⟨by rw [HE1.out]; rfl, bel2 (V := U2.drew) HU6.out.drew (by omega) _ _⟩
    | false =>
      rw [hby] at w5
      have HE1 : Hid (Ev = q.c.env) := by rw [HEv.out, hby]; exact hid rfl
      go_upto_region 8 with fail
      have HS : Hid (SqN w.heap.size Y P gE x k (.slice (some ⟨gE, 0, none⟩) N capE) (sn : Nat) G q.c.env U2.drew) := ⟨HU1.out, HY.out, blk_cell HU3.out 3, HU4.out⟩
      refine wp_region_noPanic ?_
      refine wp_region_last (SqN w.heap.size Y P gE x k (.slice (some ⟨gE, 0, none⟩) N capE) (sn : Nat) G q.c.env) 10 (by kernel_rfl) ?_
      refine wpL_take 0 64 (.agg #[i64 (sn : Nat), i64 G]) [] rfl rfl (by kernel_rfl) (by decide) (by kernel_rfl) (by kernel_rfl) (by kernel_rfl) (fun _ _ _ h => h) HS.out (by rfl) (fun W hW => by have y0 := blk_cell hW.y 0; have y1 := blk_cell hW.y 1; have z1 := HKS.out W hW.x; have p3 := hW.p; have g0 := hW.g; go_simp) ?_
      simp only [Act.put, List.setIfInBounds_toArray, List.set_cons_zero, List.set_cons_succ]
      refine wpL_take 1 65 (pq P) [] rfl rfl (by kernel_rfl) (by decide) (by kernel_rfl) (by kernel_rfl) (by kernel_rfl) (fun _ _ _ h => h) HS.out (by rfl) (fun W hW => by have y0 := blk_cell hW.y 0; have y1 := blk_cell hW.y 1; have z1 := HKS.out W hW.x; have p3 := hW.p; have g0 := hW.g; go_simp) ?_
      simp only [Act.put, List.setIfInBounds_toArray, List.set_cons_zero, List.set_cons_succ]
      refine wpL_take 2 66 (pq P) [] rfl rfl (by kernel_rfl) (by decide) (by kernel_rfl) (by kernel_rfl) (by kernel_rfl) (fun _ _ _ h => h) HS.out (by rfl) (fun W hW => by have y0 := blk_cell hW.y 0; have y1 := blk_cell hW.y 1; have z1 := HKS.out W hW.x; have p3 := hW.p; have g0 := hW.g; go_simp) ?_
      simp only [Act.put, List.setIfInBounds_toArray, List.set_cons_zero, List.set_cons_succ]
      refine wpL_take 3 67 (.pointer (some ⟨P, 3, none⟩)) [] rfl rfl (by kernel_rfl) (by decide) (by kernel_rfl) (by kernel_rfl) (by kernel_rfl) (fun _ _ _ h => h) HS.out (by rfl) (fun W hW => by have y0 := blk_cell hW.y 0; have y1 := blk_cell hW.y 1; have z1 := HKS.out W hW.x; have p3 := hW.p; have g0 := hW.g; go_simp) ?_
      simp only [Act.put, List.setIfInBounds_toArray, List.set_cons_zero, List.set_cons_succ]
      refine wpL_take 4 68 (.slice (some ⟨gE, 0, none⟩) N capE) [] rfl rfl (by kernel_rfl) (by decide) (by kernel_rfl) (by kernel_rfl) (by kernel_rfl) (fun _ _ _ h => h) HS.out (by rfl) (fun W hW => by have y0 := blk_cell hW.y 0; have y1 := blk_cell hW.y 1; have z1 := HKS.out W hW.x; have p3 := hW.p; have g0 := hW.g; go_simp) ?_
      simp only [Act.put, List.setIfInBounds_toArray, List.set_cons_zero, List.set_cons_succ]
      refine wpL_take 5 69 (.pointer (some ⟨w.heap.size, 1, none⟩)) [] rfl rfl (by kernel_rfl) (by decide) (by kernel_rfl) (by kernel_rfl) (by kernel_rfl) (fun _ _ _ h => h) HS.out (by rfl) (fun W hW => by have y0 := blk_cell hW.y 0; have y1 := blk_cell hW.y 1; have z1 := HKS.out W hW.x; have p3 := hW.p; have g0 := hW.g; go_simp) ?_
      simp only [Act.put, List.setIfInBounds_toArray, List.set_cons_zero, List.set_cons_succ]
      refine wpL_take 6 70 (i64 (k : Nat)) [] rfl rfl (by kernel_rfl) (by decide) (by kernel_rfl) (by kernel_rfl) (by kernel_rfl) (fun _ _ _ h => h) HS.out (by rfl) (fun W hW => by have y0 := blk_cell hW.y 0; have y1 := blk_cell hW.y 1; have z1 := HKS.out W hW.x; have p3 := hW.p; have g0 := hW.g; go_simp) ?_
      simp only [Act.put, List.setIfInBounds_toArray, List.set_cons_zero, List.set_cons_succ]
      refine wpL_take 7 71 (.pointer (some ⟨gE, k, none⟩)) [] rfl rfl (by kernel_rfl) (by decide) (by kernel_rfl) (by kernel_rfl) (by kernel_rfl) (fun _ _ _ h => h) HS.out (by rfl) (fun W hW => by have y0 := blk_cell hW.y 0; have y1 := blk_cell hW.y 1; have z1 := HKS.out W hW.x; have p3 := hW.p; have g0 := hW.g; go_simp) ?_
      simp only [Act.put, List.setIfInBounds_toArray, List.set_cons_zero, List.set_cons_succ]
      refine wpL_take 8 72 (i64 q.c.env) [] rfl rfl (by kernel_rfl) (by decide) (by kernel_rfl) (by kernel_rfl) (by kernel_rfl) (fun _ _ _ h => h) HS.out (by rfl) (fun W hW => by have y0 := blk_cell hW.y 0; have y1 := blk_cell hW.y 1; have z1 := HKS.out W hW.x; have p3 := hW.p; have g0 := hW.g; go_simp) ?_
      simp only [Act.put, List.setIfInBounds_toArray, List.set_cons_zero, List.set_cons_succ]
      refine wpL_one 9 rfl (by kernel_rfl) (by rfl) (fun K hK => ?_)
      refine wp_store_mid 42 (.tmp 4) (.tmp 64) rfl (w.heap.size + 1) 0 #[i64 (sn : Nat), i64 G] rfl rfl (by exact HTH.out) (by kernel_rfl) (two_one' _ _) ?_
      refine hK.out _ _ (fun _ => ⟨by rw [heap_sc_ne _ _ _ (by omega)]; exact HU1.out, by rw [heap_sc_ne _ _ _ (by omega)]; exact HY.out, by rw [World.cell?_of_block (w := U2.drew) (heap_sc_ne _ _ _ (by show w.heap.size + 1 ≠ P; omega))]; exact blk_cell HU3.out 3, by rw [World.cell?_of_block (w := U2.drew) (heap_sc_ne _ _ _ (by show w.heap.size + 1 ≠ gE; exact hgE))]; exact HU4.out⟩) ?_
      clear hK K
      refine wpL_one 10 rfl (by kernel_rfl) (by rfl) (fun K hK => ?_)
      go_simp
      refine hK.out _ _ (fun h => absurd rfl h) ?_
      clear hK K
      refine wpL_done (by kernel_rfl) ?_
      refine NoPanic.normal ?_
      go_wp2_with fail
      exact bodyPost_ret (results_cell Try.results13 rfl rfl (load42 (set2 (V := U2.drew) HU2.out _ _))) rfl ⟨by rw [HE1.out]; rfl, bel2 (V := U2.drew) HU6.out.drew (by omega) _ _⟩
theorem pick_any {w : World} {base P b r : Nat} {T : List Pl} {L : List Rw} (h : Pw w base P b r T L) (hl : L.length ≤ 1000) (x : Sp) : Calls Try.prog 13 #[pq P, x.v] w fun e w' => e = .returned (.tuple #[.agg #[i64 (pkS L x), i64 (pkG L x)], i64 (pkE L x)]) ∧ Below w.heap.size w w' := by
  by_cases h0 : x.n < 0
  · have hb : inB L x = false := decide_eq_false (by omega)
    unfold pkS pkG pkE
    rw [hb]
    exact pick_neg h hl x h0
  · by_cases h1 : (L.length : Int) ≤ x.n
    · have hb : inB L x = false := decide_eq_false (by omega)
      unfold pkS pkG pkE
      rw [hb]
      exact pick_out h hl x (by omega) h1
    · have hb : inB L x = true := decide_eq_true (by omega)
      obtain ⟨k, hk⟩ : ∃ k : Nat, x.n = k := ⟨x.n.toNat, by omega⟩
      obtain ⟨q, hq⟩ : ∃ q, L[k]? = some q := ⟨_, List.getElem?_eq_getElem (by omega)⟩
      obtain ⟨sn, _, hsn⟩ := h.rel.sl k q hq
      have hqa : qAt L x = q := by unfold qAt; rw [hk, Int.toNat_natCast, hq]; rfl
      unfold pkS pkG pkE
      rw [hb, if_pos rfl, if_pos rfl, if_pos rfl, hqa, hsn]
      exact pick_in h hl x k sn q hq hsn hk _ _ rfl rfl
end Go.Proofs.Ytcffodkpflfeoaa
