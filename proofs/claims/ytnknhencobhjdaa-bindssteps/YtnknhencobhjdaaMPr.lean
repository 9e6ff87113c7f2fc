/- No statement here. -/
import Derived.Test.YtnknhencobhjdaaMLs
import Derived.Test.YtnknhencobhjdaaMArgs
set_option maxRecDepth 100000
namespace Go.Proofs.Ytnknhencobhjdaa
open Go.ChangeShapes Go.WideShapes Go.ChangeAt Go.RowKit Go.Deep
open Go.Proofs.Ytnknhencobhjdaa.Cp (pq hid bl1 hO)
attribute [local go_sem ↓] Go.wp_at_zero Go.wp_at_succ
structure Pk (w : World) (base p b d : Nat) (hb eb : Option Nat) (H : List Hn) (E : List Int) : Prop where
  lo : base ≤ p
  blk : ∃ cH cE, w.heap[p]? = some (.cells #[pq b, pq d, .slice (sla hb) H.length cH, .slice (sla eb) E.length cE] 40) ∧ w.ownsRow base 43 2 (.slice (sla hb) H.length cH) H.length (hC H) ∧ w.ownsRow base 3 1 (.slice (sla eb) E.length cE) E.length (icells E)
theorem own_at {w w' : World} {base : Nat} {e : TypeId} {size : Nat} {hb : Option Nat} {n cap : Nat} {xs : List Value} (h : w.ownsRow base e size (.slice (sla hb) n cap) n xs) (hk : ∀ (g : Nat) (C : Array Value), hb = some g → w.heap[g]? = some (.cells C e) → w'.heap[g]? = some (.cells C e)) : w'.ownsRow base e size (.slice (sla hb) n cap) n xs := by
  refine ⟨h.1, ?_⟩
  rcases h.2 with h1 | ⟨g, cp, cur, he, h2, h3, h4⟩
  · exact Or.inl h1
  · right
    have hg : hb = some g := by
      simp only [Value.slice.injEq] at he
      have := he.1
      cases hb with
      | none => cases this
      | some z => simp [sla] at this; rw [this]
    exact ⟨g, cp, cur, he, h2, hk g cur hg h3, h4⟩
theorem own_row {w : World} {base : Nat} {e : TypeId} {size : Nat} {hb : Option Nat} {n cap : Nat} {xs : List Value} (h : w.ownsRow base e size (.slice (sla hb) n cap) n xs) : ∀ (k : Nat), k < n → ∃ g C, hb = some g ∧ base ≤ g ∧ w.heap[g]? = some (.cells C e) ∧ ∀ j, j < n * size → w.cell? ⟨g, j, none⟩ = xs[j]? := fun k hk => by
  rcases h.2 with ⟨_, h0⟩ | ⟨g, cp, cur, he, h2, h3, _⟩
  · omega
  · have hg : hb = some g := by
      simp only [Value.slice.injEq] at he
      have := he.1
      cases hb with
      | none => cases this
      | some z => simp [sla] at this; rw [this]
    subst hg
    exact ⟨g, cur, rfl, h2, h3, fun j hj => h.cellAt j hj⟩
section
variable {w w' : World} {base p b d : Nat} {hb eb : Option Nat} {H : List Hn} {E : List Int}
theorem Pk.same (h : Pk w base p b d hb eb H E) (h1 : ∀ A, w.heap[p]? = some (.cells A 40) → w'.heap[p]? = some (.cells A 40)) (h2 : ∀ (g : Nat) (A : Array Value), hb = some g → w.heap[g]? = some (.cells A 43) → w'.heap[g]? = some (.cells A 43)) (h3 : ∀ (g : Nat) (A : Array Value), eb = some g → w.heap[g]? = some (.cells A 3) → w'.heap[g]? = some (.cells A 3)) : Pk w' base p b d hb eb H E := by
  obtain ⟨cH, cE, hP, hH, hE⟩ := h.blk
  exact ⟨h.lo, cH, cE, h1 _ hP, own_at hH h2, own_at hE h3⟩
theorem Pk.below (h : Pk w base p b d hb eb H E) (hb' : Below w.heap.size w w') : Pk w' base p b d hb eb H E := h.same (fun _ h => bkb h hb') (fun _ _ _ h => bkb h hb') (fun _ _ _ h => bkb h hb')
theorem Pk.lt (h : Pk w base p b d hb eb H E) : p < w.heap.size := by
  obtain ⟨_, _, h1, _⟩ := h.blk
  exact blk_lt h1
theorem Pk.lo' (h : Pk w base p b d hb eb H E) : base ≤ w.heap.size := by have := h.lt; have := h.lo; omega
end
def inH (H : List Hn) (x : Sb) : Bool := decide (0 ≤ x.n ∧ x.n < H.length)
def pkH (H : List Hn) (x : Sb) : Hn := if inH H x = true then (H[x.n.toNat]?).getD (0, 0) else (x.n, x.rts)
def pkE (H : List Hn) (E : List Int) (x : Sb) : Int := if inH H x = true then (if x.by_ = true then x.env else (E[x.n.toNat]?).getD 0) else x.env
theorem two_sb (w : World) (x : Sb) : Below w.heap.size w ((w.alloc (sbO x)).alloc (hO 0 0)) ∧ ((w.alloc (sbO x)).alloc (hO 0 0)).heap[w.heap.size]? = some (sbO x) ∧ ((w.alloc (sbO x)).alloc (hO 0 0)).heap[w.heap.size + 1]? = some (hO 0 0) := by
  refine ⟨(bl1 w _).trans ((bl1 _ _).mono (by simp)), bka (hlx w _) _, ?_⟩
  have := hlx (w.alloc (sbO x)) (hO 0 0)
  rwa [show (w.alloc (sbO x)).heap.size = w.heap.size + 1 by simp] at this
theorem there2 {V : World} {b : Nat} {x y : Int} (h : V.heap[b]? = some (hO x y)) : V.there b 0 2 := fun j hj => ⟨by
    rw [show V.cell? ⟨b, 0 + j, none⟩ = _ from bkc h (0 + j), Nat.zero_add]
    match j, hj with
    | 0, _ => rfl
    | 1, _ => rfl, bkf h _⟩
theorem two_one' (a b : Int) : (#[i64 a, i64 b] : Array Value).all (·.oneCell') = true := all_oneCell_toArray (cs := [i64 a, i64 b]) (Cp.two_one a b)
structure SqK (X : Nat) (x : Sb) (W : World) : Prop where
  x : W.heap[X]? = some (sbO x)
theorem SqK.set2 {X : Nat} {x : Sb} {W : World} (h : SqK X x W) {Z : Nat} (hz : X ≠ Z) (u v : Value) : SqK X x ((W.setCell ⟨Z, 0, none⟩ u).setCell ⟨Z, 1, none⟩ v) :=
  ⟨by rw [Below.heap_setCell _ _ _ _ hz, Below.heap_setCell _ _ _ _ hz]; exact h.x⟩
structure SqI (X p gh ge : Nat) (x : Sb) (k N cH cE : Nat) (c0 c1 c2 : Int) (W : World) : Prop where
  x : W.heap[X]? = some (sbO x)
  n : W.cell? ⟨X, 3, none⟩ = some (i64 (k : Nat))
  p2 : W.cell? ⟨p, 2, none⟩ = some (.slice (some ⟨gh, 0, none⟩) N cH)
  p3 : W.cell? ⟨p, 3, none⟩ = some (.slice (some ⟨ge, 0, none⟩) N cE)
  h0 : W.cell? ⟨gh, k * 2, none⟩ = some (i64 c0)
  h1 : W.cell? ⟨gh, k * 2 + 1, none⟩ = some (i64 c1)
  e0 : W.cell? ⟨ge, k, none⟩ = some (i64 c2)
theorem cell_sc {w : World} {a : Addr} {v : Value} (h : w.cell? a = some v) (q : Addr) (u : Value) (hne : a.block ≠ q.block) : (w.setCell q u).cell? a = some v := by
  rw [World.cell?_of_block (w := w) (Below.heap_setCell _ _ _ _ hne)]; exact h
theorem SqI.set2 {X p gh ge : Nat} {x : Sb} {k N cH cE : Nat} {c0 c1 c2 : Int} {W : World} (h : SqI X p gh ge x k N cH cE c0 c1 c2 W) {Z : Nat} (h1 : X ≠ Z) (h2 : p ≠ Z) (h3 : gh ≠ Z) (h4 : ge ≠ Z) (u v : Value) : SqI X p gh ge x k N cH cE c0 c1 c2 ((W.setCell ⟨Z, 0, none⟩ u).setCell ⟨Z, 1, none⟩ v) :=
  ⟨by rw [Below.heap_setCell _ _ _ _ h1, Below.heap_setCell _ _ _ _ h1]; exact h.x, cell_sc (cell_sc h.n _ _ h1) _ _ h1, cell_sc (cell_sc h.p2 _ _ h2) _ _ h2, cell_sc (cell_sc h.p3 _ _ h2) _ _ h2, cell_sc (cell_sc h.h0 _ _ h3) _ _ h3, cell_sc (cell_sc h.h1 _ _ h3) _ _ h3, cell_sc (cell_sc h.e0 _ _ h4) _ _ h4⟩
set_option maxHeartbeats 3200000 in
theorem pick_neg {w : World} {base p b d : Nat} {hb eb : Option Nat} {H : List Hn} {E : List Int} (h : Pk w base p b d hb eb H E) (hl : H.length ≤ 1000) (hel : E.length = H.length) (x : Sb) (hn : x.n < 0) : Calls Try.prog 31 #[pq p, x.v] w fun e w' => e = .returned (.tuple #[.agg #[i64 x.n, i64 x.rts], i64 x.env]) ∧ Below w.heap.size w w' := by
  obtain ⟨hBV, hK1, hK2⟩ := two_sb w x
  obtain ⟨V, hV⟩ : ∃ V, V = (w.alloc (sbO x)).alloc (hO 0 0) := ⟨_, rfl⟩
  have HVe : Hid ((w.alloc (.cells #[i64 x.what, i64 x.env, i64 x.kind, i64 x.n, i64 x.tt, i64 x.rts, .bool x.by_, i64 x.q.a, i64 x.q.b, i64 x.q.c] 33)).alloc (.cells #[i64 0, i64 0] 43) = V) := hV.symm
  rw [← hV] at hBV hK1 hK2
  obtain ⟨cH, cE, hP, hH, hE⟩ := (h.below hBV).blk
  have hcH := own_cap hH
  have hcE := own_cap hE
  have hhg := own_row hH
  have heg := own_row hE
  have HB := hid hBV
  have HK1 := hid hK1
  have HK2 := hid hK2
  have hPl := h.lt
  obtain ⟨N, hN⟩ : ∃ N, N = H.length := ⟨_, rfl⟩
  rw [hel, ← hN] at hP
  rw [← hN] at hcH hl
  rw [hel, ← hN] at hcE
  have hNI : (N : Int) ≤ 1000 := by omega
  have hcHI : (N : Int) ≤ cH := by omega
  have hcEI : (N : Int) ≤ cE := by omega
  have HN := hid hN
  have HPb := hid hP
  obtain ⟨ah, hah⟩ : ∃ ah, ah = sla hb := ⟨_, rfl⟩
  obtain ⟨ae, hae⟩ : ∃ ae, ae = sla eb := ⟨_, rfl⟩
  rw [← hah, ← hae] at HPb
  have p2 : V.cell? ⟨p, 2, none⟩ = some (.slice ah N cH) := bkc HPb.out 2
  have p3 : V.cell? ⟨p, 3, none⟩ = some (.slice ae N cE) := bkc HPb.out 3
  have x3 : V.cell? ⟨w.heap.size, 3, none⟩ = some (i64 x.n) := bkc HK1.out 3
  have hd : decide (x.n < 0) = true := decide_eq_true hn
  clear hV hBV hK1 hK2 hP hH hE h hhg heg hN hah hae
  unfold Sb.v
  go_enter Try.func31, Try.ntmps31
  go_upto_region 1 with fail
  rw [HVe.out]
  go_quiet (fail)
  have HA1 : Hid ((V.drewN nq).heap[w.heap.size]? = some (sbO x)) := HK1.out
  have HA2 : Hid ((V.drewN nq).heap[w.heap.size + 1]? = some (hO 0 0)) := HK2.out
  have HA3 : Hid (Below w.heap.size w (V.drewN nq)) := below_drewN HB.out nq
  clear p2 p3 x3 hd HK1 HK2 HB HPb HVe
  generalize V.drewN nq = V1 at *
  go_upto_region 2 with fail
  have HS : Hid (SqK w.heap.size x V1.drew) := ⟨HA1.out⟩
  have HTH : Hid (V1.drew.there (w.heap.size + 1) 0 2) := there2 (V := V1.drew) HA2.out
  refine wp_region_noPanic ?_
  refine wrl (SqK w.heap.size x) 8 (by kernel_rfl) ?_
  refine wk 0 29 (.pointer (some ⟨w.heap.size, 3, none⟩)) rfl HS.out (fun W hW => by have y1 := bkc hW.x 1; have y3 := bkc hW.x 3; have y5 := bkc hW.x 5; go_simp) ?_
  refine wk 1 30 (i64 x.n) rfl HS.out (fun W hW => by have y1 := bkc hW.x 1; have y3 := bkc hW.x 3; have y5 := bkc hW.x 5; go_simp) ?_
  refine wk 2 31 (.pointer (some ⟨w.heap.size, 5, none⟩)) rfl HS.out (fun W hW => by have y1 := bkc hW.x 1; have y3 := bkc hW.x 3; have y5 := bkc hW.x 5; go_simp) ?_
  refine wk 3 32 (i64 x.rts) rfl HS.out (fun W hW => by have y1 := bkc hW.x 1; have y3 := bkc hW.x 3; have y5 := bkc hW.x 5; go_simp) ?_
  refine wk 4 33 (.agg #[i64 x.n, i64 x.rts]) rfl HS.out (fun W hW => by have y1 := bkc hW.x 1; have y3 := bkc hW.x 3; have y5 := bkc hW.x 5; go_simp) ?_
  refine wk 5 34 (.pointer (some ⟨w.heap.size, 1, none⟩)) rfl HS.out (fun W hW => by have y1 := bkc hW.x 1; have y3 := bkc hW.x 3; have y5 := bkc hW.x 5; go_simp) ?_
  refine wk 6 35 (i64 x.env) rfl HS.out (fun W hW => by have y1 := bkc hW.x 1; have y3 := bkc hW.x 3; have y5 := bkc hW.x 5; go_simp) ?_
  simp only [Act.put, sA, sZ, sS]
  refine wo 7 rfl (fun K hK => ?_)
  refine wp_store_mid 43 (.tmp 4) (.tmp 33) rfl (w.heap.size + 1) 0 #[i64 x.n, i64 x.rts] rfl rfl (by exact HTH.out) (by kernel_rfl) (two_one' _ _) ?_
  refine hK.out _ _ (fun _ => HS.out.set2 (Z := w.heap.size + 1) (by omega) _ _) ?_
  clear hK K
  refine wo 8 rfl (fun K hK => ?_)
  go_simp
  refine hK.out _ _ (fun h => absurd rfl h) ?_
  clear hK K
  refine wdd ?_
  refine NoPanic.normal ?_
  go_wp2_with fail
  exact bodyPost_ret (Cp.results_cell Try.results31 rfl rfl (Cp.load42 (Cp.set2 (V := V1.drew) HA2.out _ _))) rfl ⟨rfl, Cp.bel2 (V := V1.drew) HA3.out.drew (by omega) _ _⟩
set_option maxHeartbeats 3200000 in
theorem pick_out {w : World} {base p b d : Nat} {hb eb : Option Nat} {H : List Hn} {E : List Int} (h : Pk w base p b d hb eb H E) (hl : H.length ≤ 1000) (hel : E.length = H.length) (x : Sb) (hn0 : 0 ≤ x.n) (hn : (H.length : Int) ≤ x.n) : Calls Try.prog 31 #[pq p, x.v] w fun e w' => e = .returned (.tuple #[.agg #[i64 x.n, i64 x.rts], i64 x.env]) ∧ Below w.heap.size w w' := by
  obtain ⟨hBV, hK1, hK2⟩ := two_sb w x
  obtain ⟨V, hV⟩ : ∃ V, V = (w.alloc (sbO x)).alloc (hO 0 0) := ⟨_, rfl⟩
  have HVe : Hid ((w.alloc (.cells #[i64 x.what, i64 x.env, i64 x.kind, i64 x.n, i64 x.tt, i64 x.rts, .bool x.by_, i64 x.q.a, i64 x.q.b, i64 x.q.c] 33)).alloc (.cells #[i64 0, i64 0] 43) = V) := hV.symm
  rw [← hV] at hBV hK1 hK2
  obtain ⟨cH, cE, hP, hH, hE⟩ := (h.below hBV).blk
  have hcH := own_cap hH
  have hcE := own_cap hE
  have hhg := own_row hH
  have heg := own_row hE
  have HB := hid hBV
  have HK1 := hid hK1
  have HK2 := hid hK2
  have hPl := h.lt
  obtain ⟨N, hN⟩ : ∃ N, N = H.length := ⟨_, rfl⟩
  rw [hel, ← hN] at hP
  rw [← hN] at hcH hl
  rw [hel, ← hN] at hcE
  have hNI : (N : Int) ≤ 1000 := by omega
  have hcHI : (N : Int) ≤ cH := by omega
  have hcEI : (N : Int) ≤ cE := by omega
  have HN := hid hN
  have HPb := hid hP
  obtain ⟨ah, hah⟩ : ∃ ah, ah = sla hb := ⟨_, rfl⟩
  obtain ⟨ae, hae⟩ : ∃ ae, ae = sla eb := ⟨_, rfl⟩
  rw [← hah, ← hae] at HPb
  rw [← hN] at hn
  have p2 : V.cell? ⟨p, 2, none⟩ = some (.slice ah N cH) := bkc HPb.out 2
  have p3 : V.cell? ⟨p, 3, none⟩ = some (.slice ae N cE) := bkc HPb.out 3
  have x3 : V.cell? ⟨w.heap.size, 3, none⟩ = some (i64 x.n) := bkc HK1.out 3
  have hd : decide (x.n < 0) = false := decide_eq_false (by omega)
  have hd2 : decide ((N : Int) ≤ x.n) = true := decide_eq_true hn
  clear hV hBV hK1 hK2 hP hH hE h hhg heg hN hah hae
  unfold Sb.v
  go_enter Try.func31, Try.ntmps31
  go_upto_region 1 with fail
  rw [HVe.out]
  go_quiet (fail)
  have HA1 : Hid ((V.drewN nq).heap[w.heap.size]? = some (sbO x)) := HK1.out
  have HA2 : Hid ((V.drewN nq).heap[w.heap.size + 1]? = some (hO 0 0)) := HK2.out
  have HA3 : Hid (Below w.heap.size w (V.drewN nq)) := below_drewN HB.out nq
  clear p2 p3 x3 hd hd2 HK1 HK2 HB HPb HVe
  generalize V.drewN nq = V1 at *
  go_upto_region 2 with fail
  have HS : Hid (SqK w.heap.size x V1.drew) := ⟨HA1.out⟩
  have HTH : Hid (V1.drew.there (w.heap.size + 1) 0 2) := there2 (V := V1.drew) HA2.out
  refine wp_region_noPanic ?_
  refine wrl (SqK w.heap.size x) 8 (by kernel_rfl) ?_
  refine wk 0 29 (.pointer (some ⟨w.heap.size, 3, none⟩)) rfl HS.out (fun W hW => by have y1 := bkc hW.x 1; have y3 := bkc hW.x 3; have y5 := bkc hW.x 5; go_simp) ?_
  refine wk 1 30 (i64 x.n) rfl HS.out (fun W hW => by have y1 := bkc hW.x 1; have y3 := bkc hW.x 3; have y5 := bkc hW.x 5; go_simp) ?_
  refine wk 2 31 (.pointer (some ⟨w.heap.size, 5, none⟩)) rfl HS.out (fun W hW => by have y1 := bkc hW.x 1; have y3 := bkc hW.x 3; have y5 := bkc hW.x 5; go_simp) ?_
  refine wk 3 32 (i64 x.rts) rfl HS.out (fun W hW => by have y1 := bkc hW.x 1; have y3 := bkc hW.x 3; have y5 := bkc hW.x 5; go_simp) ?_
  refine wk 4 33 (.agg #[i64 x.n, i64 x.rts]) rfl HS.out (fun W hW => by have y1 := bkc hW.x 1; have y3 := bkc hW.x 3; have y5 := bkc hW.x 5; go_simp) ?_
  refine wk 5 34 (.pointer (some ⟨w.heap.size, 1, none⟩)) rfl HS.out (fun W hW => by have y1 := bkc hW.x 1; have y3 := bkc hW.x 3; have y5 := bkc hW.x 5; go_simp) ?_
  refine wk 6 35 (i64 x.env) rfl HS.out (fun W hW => by have y1 := bkc hW.x 1; have y3 := bkc hW.x 3; have y5 := bkc hW.x 5; go_simp) ?_
  simp only [Act.put, sA, sZ, sS]
  refine wo 7 rfl (fun K hK => ?_)
  refine wp_store_mid 43 (.tmp 4) (.tmp 33) rfl (w.heap.size + 1) 0 #[i64 x.n, i64 x.rts] rfl rfl (by exact HTH.out) (by kernel_rfl) (two_one' _ _) ?_
  refine hK.out _ _ (fun _ => HS.out.set2 (Z := w.heap.size + 1) (by omega) _ _) ?_
  clear hK K
  refine wo 8 rfl (fun K hK => ?_)
  go_simp
  refine hK.out _ _ (fun h => absurd rfl h) ?_
  clear hK K
  refine wdd ?_
  refine NoPanic.normal ?_
  go_wp2_with fail
  exact bodyPost_ret (Cp.results_cell Try.results31 rfl rfl (Cp.load42 (Cp.set2 (V := V1.drew) HA2.out _ _))) rfl ⟨rfl, Cp.bel2 (V := V1.drew) HA3.out.drew (by omega) _ _⟩
set_option maxHeartbeats 3200000 in
theorem pick_in {w : World} {base p b d : Nat} {hb eb : Option Nat} {H : List Hn} {E : List Int} (h : Pk w base p b d hb eb H E) (hl : H.length ≤ 1000) (hel : E.length = H.length) (x : Sb) (k : Nat) (hk : k < H.length) (hn : x.n = (k : Nat)) (c0 c1 c2 : Int) (hc : H[k]? = some (c0, c1)) (he : E[k]? = some c2) (ev : Int) (hev : ev = if x.by_ = true then x.env else c2) : Calls Try.prog 31 #[pq p, x.v] w fun e w' => e = .returned (.tuple #[.agg #[i64 c0, i64 c1], i64 ev]) ∧ Below w.heap.size w w' := by
  obtain ⟨hBV, hK1, hK2⟩ := two_sb w x
  obtain ⟨V, hV⟩ : ∃ V, V = (w.alloc (sbO x)).alloc (hO 0 0) := ⟨_, rfl⟩
  have HVe : Hid ((w.alloc (.cells #[i64 x.what, i64 x.env, i64 x.kind, i64 x.n, i64 x.tt, i64 x.rts, .bool x.by_, i64 x.q.a, i64 x.q.b, i64 x.q.c] 33)).alloc (.cells #[i64 0, i64 0] 43) = V) := hV.symm
  rw [← hV] at hBV hK1 hK2
  obtain ⟨cH, cE, hP, hH, hE⟩ := (h.below hBV).blk
  have hcH := own_cap hH
  have hcE := own_cap hE
  have hhg := own_row hH
  have heg := own_row hE
  have HB := hid hBV
  have HK1 := hid hK1
  have HK2 := hid hK2
  have hPl := h.lt
  obtain ⟨N, hN⟩ : ∃ N, N = H.length := ⟨_, rfl⟩
  rw [hel, ← hN] at hP
  rw [← hN] at hcH hl
  rw [hel, ← hN] at hcE
  have hNI : (N : Int) ≤ 1000 := by omega
  have hcHI : (N : Int) ≤ cH := by omega
  have hcEI : (N : Int) ≤ cE := by omega
  have HN := hid hN
  have HPb := hid hP
  rw [← hN] at hk
  obtain ⟨gh, CH, rfl, _, hgh, hgc⟩ := hhg k (by omega)
  obtain ⟨ge, CE, rfl, _, hge, hec⟩ := heg k (by omega)
  obtain ⟨q0, q1⟩ := hC_get H k (c0, c1) hc
  have h0 : V.cell? ⟨gh, k * 2, none⟩ = some (i64 c0) := by rw [hgc _ (by omega)]; exact q0
  have h1 : V.cell? ⟨gh, k * 2 + 1, none⟩ = some (i64 c1) := by rw [hgc _ (by omega)]; exact q1
  have e0 : V.cell? ⟨ge, k, none⟩ = some (i64 c2) := by rw [hec _ (by omega)]; simp [icells, he]
  have hgw : gh < w.heap.size := by
    obtain ⟨cH', cE', hP', hH', hE'⟩ := h.blk
    obtain ⟨g', C', e', _, hg', _⟩ := own_row hH' k (by omega)
    cases e'
    exact blk_lt hg'
  have hgew : ge < w.heap.size := by
    obtain ⟨cH', cE', hP', hH', hE'⟩ := h.blk
    obtain ⟨g', C', e', _, hg', _⟩ := own_row hE' k (by omega)
    cases e'
    exact blk_lt hg'
  have hkI : (k : Int) < N := by omega
  have HXN := hid hn
  have HEV := hid hev
  clear hev
  have p2 : V.cell? ⟨p, 2, none⟩ = some (.slice (some ⟨gh, 0, none⟩) N cH) := bkc HPb.out 2
  have p3 : V.cell? ⟨p, 3, none⟩ = some (.slice (some ⟨ge, 0, none⟩) N cE) := bkc HPb.out 3
  have x3 : V.cell? ⟨w.heap.size, 3, none⟩ = some (i64 (k : Nat)) := by rw [← HXN.out]; exact bkc HK1.out 3
  have hd : decide ((k : Int) < 0) = false := decide_eq_false (by omega)
  have hd2 : decide ((N : Int) ≤ (k : Int)) = false := decide_eq_false (by omega)
  have HSV : Hid (SqI w.heap.size p gh ge x k N cH cE c0 c1 c2 V) := ⟨HK1.out, x3, p2, p3, h0, h1, e0⟩
  clear hV hBV hK1 hK2 hP hH hE h hhg heg hN hgc hec hge hgh q0 q1 hc he hn
  unfold Sb.v
  go_enter Try.func31, Try.ntmps31
  go_upto_region 1 with fail
  rw [HVe.out]
  go_quiet (fail)
  have HA1 : Hid ((V.drewN nq).heap[w.heap.size]? = some (sbO x)) := HK1.out
  have HA2 : Hid ((V.drewN nq).heap[w.heap.size + 1]? = some (hO 0 0)) := HK2.out
  have HA3 : Hid (Below w.heap.size w (V.drewN nq)) := below_drewN HB.out nq
  have HSq : Hid (SqI w.heap.size p gh ge x k N cH cE c0 c1 c2 (V.drewN nq)) := ⟨HSV.out.x, HSV.out.n, HSV.out.p2, HSV.out.p3, HSV.out.h0, HSV.out.h1, HSV.out.e0⟩
  clear p2 p3 x3 hd hd2 h0 h1 e0 HK1 HK2 HB HPb HVe HSV
  generalize V.drewN nq = V1 at *
  have x6 : V1.cell? ⟨w.heap.size, 6, none⟩ = some (.bool x.by_) := bkc HA1.out 6
  have HS : Hid (SqI w.heap.size p gh ge x k N cH cE c0 c1 c2 V1.drew) := ⟨HSq.out.x, HSq.out.n, HSq.out.p2, HSq.out.p3, HSq.out.h0, HSq.out.h1, HSq.out.e0⟩
  have HTH : Hid (V1.drew.there (w.heap.size + 1) 0 2) := there2 (V := V1.drew) HA2.out
  cases hby : x.by_ with
  | true =>
    rw [hby] at x6
    have HEV1 : Hid (ev = x.env) := by have := HEV.out; rw [hby, if_pos rfl] at this; exact hid this
    go_upto_region 4 with fail
    clear x6 hby
    have hh := HEV1.out.symm
    subst hh
    clear HEV HEV1
    refine wp_region_noPanic ?_
    refine wrl (SqI w.heap.size p gh ge x k N cH cE c0 c1 c2) 11 (by kernel_rfl) ?_
    refine wk 0 38 (.pointer (some ⟨p, 0, none⟩)) rfl HS.out (fun W hW => by have y1 := bkc hW.x 1; have y3 := hW.n; have y6 := bkc hW.x 6; have p2 := hW.p2; have p3 := hW.p3; have h0 := hW.h0; have h1 := hW.h1; have e0 := hW.e0; go_simp) ?_
    refine wk 1 39 (.pointer (some ⟨p, 0, none⟩)) rfl HS.out (fun W hW => by have y1 := bkc hW.x 1; have y3 := hW.n; have y6 := bkc hW.x 6; have p2 := hW.p2; have p3 := hW.p3; have h0 := hW.h0; have h1 := hW.h1; have e0 := hW.e0; go_simp) ?_
    refine wk 2 40 (.pointer (some ⟨p, 2, none⟩)) rfl HS.out (fun W hW => by have y1 := bkc hW.x 1; have y3 := hW.n; have y6 := bkc hW.x 6; have p2 := hW.p2; have p3 := hW.p3; have h0 := hW.h0; have h1 := hW.h1; have e0 := hW.e0; go_simp) ?_
    refine wk 3 41 (.slice (some ⟨gh, 0, none⟩) N cH) rfl HS.out (fun W hW => by have y1 := bkc hW.x 1; have y3 := hW.n; have y6 := bkc hW.x 6; have p2 := hW.p2; have p3 := hW.p3; have h0 := hW.h0; have h1 := hW.h1; have e0 := hW.e0; go_simp) ?_
    refine wk 4 42 (.pointer (some ⟨w.heap.size, 3, none⟩)) rfl HS.out (fun W hW => by have y1 := bkc hW.x 1; have y3 := hW.n; have y6 := bkc hW.x 6; have p2 := hW.p2; have p3 := hW.p3; have h0 := hW.h0; have h1 := hW.h1; have e0 := hW.e0; go_simp) ?_
    refine wk 5 43 (i64 (k : Nat)) rfl HS.out (fun W hW => by have y1 := bkc hW.x 1; have y3 := hW.n; have y6 := bkc hW.x 6; have p2 := hW.p2; have p3 := hW.p3; have h0 := hW.h0; have h1 := hW.h1; have e0 := hW.e0; go_simp) ?_
    refine wk 6 44 (.pointer (some ⟨gh, k * 2, none⟩)) rfl HS.out (fun W hW => by have y1 := bkc hW.x 1; have y3 := hW.n; have y6 := bkc hW.x 6; have p2 := hW.p2; have p3 := hW.p3; have h0 := hW.h0; have h1 := hW.h1; have e0 := hW.e0; go_simp) ?_
    refine wk 7 45 (.agg #[i64 c0, i64 c1]) rfl HS.out (fun W hW => by have y1 := bkc hW.x 1; have y3 := hW.n; have y6 := bkc hW.x 6; have p2 := hW.p2; have p3 := hW.p3; have h0 := hW.h0; have h1 := hW.h1; have e0 := hW.e0; go_simp) ?_
    refine wk 8 46 (.pointer (some ⟨w.heap.size, 1, none⟩)) rfl HS.out (fun W hW => by have y1 := bkc hW.x 1; have y3 := hW.n; have y6 := bkc hW.x 6; have p2 := hW.p2; have p3 := hW.p3; have h0 := hW.h0; have h1 := hW.h1; have e0 := hW.e0; go_simp) ?_
    refine wk 9 47 (i64 x.env) rfl HS.out (fun W hW => by have y1 := bkc hW.x 1; have y3 := hW.n; have y6 := bkc hW.x 6; have p2 := hW.p2; have p3 := hW.p3; have h0 := hW.h0; have h1 := hW.h1; have e0 := hW.e0; go_simp) ?_
    simp only [Act.put, sA, sZ, sS]
    refine wo 10 rfl (fun K hK => ?_)
    refine wp_store_mid 43 (.tmp 4) (.tmp 45) rfl (w.heap.size + 1) 0 #[i64 c0, i64 c1] rfl rfl (by exact HTH.out) (by kernel_rfl) (two_one' _ _) ?_
    refine hK.out _ _ (fun _ => HS.out.set2 (Z := w.heap.size + 1) (by omega) (by omega) (by omega) (by omega) _ _) ?_
    clear hK K
    refine wo 11 rfl (fun K hK => ?_)
    go_simp
    refine hK.out _ _ (fun h => absurd rfl h) ?_
    clear hK K
    refine wdd ?_
    refine NoPanic.normal ?_
    go_wp2_with fail
    exact bodyPost_ret (Cp.results_cell Try.results31 rfl rfl (Cp.load42 (Cp.set2 (V := V1.drew) HA2.out _ _))) rfl ⟨rfl, Cp.bel2 (V := V1.drew) HA3.out.drew (by omega) _ _⟩
  | false =>
    rw [hby] at x6
    have HEV1 : Hid (ev = c2) := by have := HEV.out; rw [hby, if_neg (by simp)] at this; exact hid this
    go_upto_region 5 with fail
    clear x6 hby
    have hh := HEV1.out.symm
    subst hh
    clear HEV HEV1
    refine wp_region_noPanic ?_
    refine wrl (SqI w.heap.size p gh ge x k N cH cE c0 c1 c2) 17 (by kernel_rfl) ?_
    refine wk 0 48 (.pointer (some ⟨p, 0, none⟩)) rfl HS.out (fun W hW => by have y1 := bkc hW.x 1; have y3 := hW.n; have y6 := bkc hW.x 6; have p2 := hW.p2; have p3 := hW.p3; have h0 := hW.h0; have h1 := hW.h1; have e0 := hW.e0; go_simp) ?_
    refine wk 1 49 (.pointer (some ⟨p, 0, none⟩)) rfl HS.out (fun W hW => by have y1 := bkc hW.x 1; have y3 := hW.n; have y6 := bkc hW.x 6; have p2 := hW.p2; have p3 := hW.p3; have h0 := hW.h0; have h1 := hW.h1; have e0 := hW.e0; go_simp) ?_
    refine wk 2 50 (.pointer (some ⟨p, 2, none⟩)) rfl HS.out (fun W hW => by have y1 := bkc hW.x 1; have y3 := hW.n; have y6 := bkc hW.x 6; have p2 := hW.p2; have p3 := hW.p3; have h0 := hW.h0; have h1 := hW.h1; have e0 := hW.e0; go_simp) ?_
    refine wk 3 51 (.slice (some ⟨gh, 0, none⟩) N cH) rfl HS.out (fun W hW => by have y1 := bkc hW.x 1; have y3 := hW.n; have y6 := bkc hW.x 6; have p2 := hW.p2; have p3 := hW.p3; have h0 := hW.h0; have h1 := hW.h1; have e0 := hW.e0; go_simp) ?_
    refine wk 4 52 (.pointer (some ⟨w.heap.size, 3, none⟩)) rfl HS.out (fun W hW => by have y1 := bkc hW.x 1; have y3 := hW.n; have y6 := bkc hW.x 6; have p2 := hW.p2; have p3 := hW.p3; have h0 := hW.h0; have h1 := hW.h1; have e0 := hW.e0; go_simp) ?_
    refine wk 5 53 (i64 (k : Nat)) rfl HS.out (fun W hW => by have y1 := bkc hW.x 1; have y3 := hW.n; have y6 := bkc hW.x 6; have p2 := hW.p2; have p3 := hW.p3; have h0 := hW.h0; have h1 := hW.h1; have e0 := hW.e0; go_simp) ?_
    refine wk 6 54 (.pointer (some ⟨gh, k * 2, none⟩)) rfl HS.out (fun W hW => by have y1 := bkc hW.x 1; have y3 := hW.n; have y6 := bkc hW.x 6; have p2 := hW.p2; have p3 := hW.p3; have h0 := hW.h0; have h1 := hW.h1; have e0 := hW.e0; go_simp) ?_
    refine wk 7 55 (.agg #[i64 c0, i64 c1]) rfl HS.out (fun W hW => by have y1 := bkc hW.x 1; have y3 := hW.n; have y6 := bkc hW.x 6; have p2 := hW.p2; have p3 := hW.p3; have h0 := hW.h0; have h1 := hW.h1; have e0 := hW.e0; go_simp) ?_
    refine wk 8 56 (.pointer (some ⟨p, 0, none⟩)) rfl HS.out (fun W hW => by have y1 := bkc hW.x 1; have y3 := hW.n; have y6 := bkc hW.x 6; have p2 := hW.p2; have p3 := hW.p3; have h0 := hW.h0; have h1 := hW.h1; have e0 := hW.e0; go_simp) ?_
    refine wk 9 57 (.pointer (some ⟨p, 0, none⟩)) rfl HS.out (fun W hW => by have y1 := bkc hW.x 1; have y3 := hW.n; have y6 := bkc hW.x 6; have p2 := hW.p2; have p3 := hW.p3; have h0 := hW.h0; have h1 := hW.h1; have e0 := hW.e0; go_simp) ?_
    refine wk 10 58 (.pointer (some ⟨p, 3, none⟩)) rfl HS.out (fun W hW => by have y1 := bkc hW.x 1; have y3 := hW.n; have y6 := bkc hW.x 6; have p2 := hW.p2; have p3 := hW.p3; have h0 := hW.h0; have h1 := hW.h1; have e0 := hW.e0; go_simp) ?_
    refine wk 11 59 (.slice (some ⟨ge, 0, none⟩) N cE) rfl HS.out (fun W hW => by have y1 := bkc hW.x 1; have y3 := hW.n; have y6 := bkc hW.x 6; have p2 := hW.p2; have p3 := hW.p3; have h0 := hW.h0; have h1 := hW.h1; have e0 := hW.e0; go_simp) ?_
    refine wk 12 60 (.pointer (some ⟨w.heap.size, 3, none⟩)) rfl HS.out (fun W hW => by have y1 := bkc hW.x 1; have y3 := hW.n; have y6 := bkc hW.x 6; have p2 := hW.p2; have p3 := hW.p3; have h0 := hW.h0; have h1 := hW.h1; have e0 := hW.e0; go_simp) ?_
    refine wk 13 61 (i64 (k : Nat)) rfl HS.out (fun W hW => by have y1 := bkc hW.x 1; have y3 := hW.n; have y6 := bkc hW.x 6; have p2 := hW.p2; have p3 := hW.p3; have h0 := hW.h0; have h1 := hW.h1; have e0 := hW.e0; go_simp) ?_
    refine wk 14 62 (.pointer (some ⟨ge, k, none⟩)) rfl HS.out (fun W hW => by have y1 := bkc hW.x 1; have y3 := hW.n; have y6 := bkc hW.x 6; have p2 := hW.p2; have p3 := hW.p3; have h0 := hW.h0; have h1 := hW.h1; have e0 := hW.e0; go_simp) ?_
    refine wk 15 63 (i64 c2) rfl HS.out (fun W hW => by have y1 := bkc hW.x 1; have y3 := hW.n; have y6 := bkc hW.x 6; have p2 := hW.p2; have p3 := hW.p3; have h0 := hW.h0; have h1 := hW.h1; have e0 := hW.e0; go_simp) ?_
    simp only [Act.put, sA, sZ, sS]
    refine wo 16 rfl (fun K hK => ?_)
    refine wp_store_mid 43 (.tmp 4) (.tmp 55) rfl (w.heap.size + 1) 0 #[i64 c0, i64 c1] rfl rfl (by exact HTH.out) (by kernel_rfl) (two_one' _ _) ?_
    refine hK.out _ _ (fun _ => HS.out.set2 (Z := w.heap.size + 1) (by omega) (by omega) (by omega) (by omega) _ _) ?_
    clear hK K
    refine wo 17 rfl (fun K hK => ?_)
    go_simp
    refine hK.out _ _ (fun h => absurd rfl h) ?_
    clear hK K
    refine wdd ?_
    refine NoPanic.normal ?_
    go_wp2_with fail
    exact bodyPost_ret (Cp.results_cell Try.results31 rfl rfl (Cp.load42 (Cp.set2 (V := V1.drew) HA2.out _ _))) rfl ⟨rfl, Cp.bel2 (V := V1.drew) HA3.out.drew (by omega) _ _⟩
theorem pick_any {w : World} {base p b d : Nat} {hb eb : Option Nat} {H : List Hn} {E : List Int} (h : Pk w base p b d hb eb H E) (hl : H.length ≤ 1000) (hel : E.length = H.length) (x : Sb) (hs hg ev : Int) (h1 : pkH H x = (hs, hg)) (h2 : pkE H E x = ev) : Calls Try.prog 31 #[pq p, x.v] w fun e w' => e = .returned (.tuple #[.agg #[i64 hs, i64 hg], i64 ev]) ∧ Below w.heap.size w w' := by
  by_cases hn : x.n < 0
  · have hin : inH H x = false := by unfold inH; simp; omega
    unfold pkH at h1
    unfold pkE at h2
    rw [hin, if_neg (by simp)] at h1 h2
    simp at h1
    rw [← h1.1, ← h1.2, ← h2]
    exact pick_neg h hl hel x hn
  · by_cases hn2 : (H.length : Int) ≤ x.n
    · have hin : inH H x = false := by unfold inH; simp; omega
      unfold pkH at h1
      unfold pkE at h2
      rw [hin, if_neg (by simp)] at h1 h2
      simp at h1
      rw [← h1.1, ← h1.2, ← h2]
      exact pick_out h hl hel x (by omega) hn2
    · have hin : inH H x = true := by unfold inH; simp; omega
      have hk : x.n.toNat < H.length := by omega
      have hke : x.n.toNat < E.length := by omega
      unfold pkH at h1
      unfold pkE at h2
      rw [hin, if_pos rfl, List.getElem?_eq_getElem hk, Option.getD_some] at h1
      rw [hin, if_pos rfl, List.getElem?_eq_getElem hke, Option.getD_some] at h2
      exact pick_in h hl hel x x.n.toNat hk (by omega) hs hg _ (by rw [List.getElem?_eq_getElem hk, h1]) (List.getElem?_eq_getElem hke) ev h2.symm
end Go.Proofs.Ytnknhencobhjdaa
