/- imagoref16's Same: its contract; no statement is proved in this text. -/
import Derived.BigQuiet
import Derived.Test.YtihbbgcpdgnhoaaDoorVa
namespace Go.Proofs.YtihbbgcpdgnhoaaDoor
open Go.ChangeShapes Go.WideShapes Go.ChangeAt Go.RowKit Go.Deep
attribute [local go_sem ↓] Go.wp_at_zero Go.wp_at_succ

structure S5 (Z Y b1 o1 b2 o2 : Nat) (oZ oY : Obj) (l1 l2 : List Value) (W : World) : Prop where
  z : W.heap[Z]? = some oZ
  y : W.heap[Y]? = some oY
  r1 : W.rangeAt b1 o1 l1
  r2 : W.rangeAt b2 o2 l2
  l1 : b1 < W.heap.size
  l2 : b2 < W.heap.size
theorem S5.below {Z Y b1 o1 b2 o2 : Nat} {oZ oY : Obj} {l1 l2 : List Value} {W W' : World} (h : S5 Z Y b1 o1 b2 o2 oZ oY l1 l2 W) (hb : Below W.heap.size W W') : S5 Z Y b1 o1 b2 o2 oZ oY l1 l2 W' :=
  ⟨blk_below h.z hb, blk_below h.y hb, range_keep h.r1 (hb.block b1 h.l1), range_keep h.r2 (hb.block b2 h.l2), Nat.lt_of_lt_of_le h.l1 hb.size, Nat.lt_of_lt_of_le h.l2 hb.size⟩
mutual
def sameV : Vl → Vl → Bool
  | .mk k n s l, .mk k' n' s' l' => decide (k = k') && decide (n = n') && decide (s = s') && decide (l.length = l'.length) && sameW l l'
def sameW : List Vl → List Vl → Bool
  | [], [] => true
  | a :: r, b :: s => sameV a b && sameW r s
  | _, _ => false
end
theorem sameV_eq (a b : Vl) : sameV a b = (decide (a.kind = b.kind) && decide (a.num = b.num) && decide (a.s = b.s) && decide (a.kids.length = b.kids.length) && sameW a.kids b.kids) := by
  cases a; cases b; rfl
theorem sameW_take : ∀ (la lb : List Vl) (i : Nat) (h1 : i < la.length) (h2 : i < lb.length), sameW (la.take (i + 1)) (lb.take (i + 1)) = (sameW (la.take i) (lb.take i) && sameV la[i] lb[i])
  | _ :: _, _ :: _, 0, _, _ => by simp [sameW]
  | a :: r, b :: s, i + 1, h1, h2 => by
    have := sameW_take r s i (by simpa using h1) (by simpa using h2)
    simp only [List.take_succ_cons, sameW, List.getElem_cons_succ, this, Bool.and_assoc]
theorem sameW_no : ∀ (la lb : List Vl) (i : Nat) (h1 : i < la.length) (h2 : i < lb.length), sameV la[i] lb[i] = false → sameW la lb = false
  | a :: r, b :: s, 0, _, _, h => by have h' : sameV a b = false := h; simp [sameW, h']
  | a :: r, b :: s, i + 1, h1, h2, h => by simp [sameW, sameW_no r s i (by simpa using h1) (by simpa using h2) h]
set_option maxRecDepth 100000 in
set_option maxHeartbeats 12800000 in
theorem vrsame_in (V U : Vl) (w : World) (S : Nat → Prop) (kv lv : Value) (hR : Vd w S V kv) (hQ : Vd w S U lv)
    (hih : ∀ x ∈ V.kids, ∀ (y : Vl) (w : World) (kv lv : Value), Vd w S x kv → Vd w S y lv → Calls Tryd.prog 23 #[vlV x kv, vlV y lv] w fun e w' => e = .returned (.bool (sameV x y)) ∧ Below w.heap.size w w') :
    Calls Tryd.prog 23 #[vlV V kv, vlV U lv] w fun e w' => e = .returned (.bool (sameV V U)) ∧ Below w.heap.size w w' := by
  obtain ⟨Rr, hRe⟩ : ∃ Rr, Rr = sameV V U := ⟨_, rfl⟩
  have HRe : Hid (Rr = (decide (V.kind = U.kind) && decide (V.num = U.num) && decide (V.s = U.s) && decide (V.kids.length = U.kids.length) && sameW V.kids U.kids)) := by show _ = _; rw [hRe, sameV_eq]
  rw [← hRe]
  clear hRe
  have HIH := hid hih
  have HRd := hid hR
  have HQd := hid hQ
  have hkl := hR.lens.2
  have hll := hQ.lens.2
  unfold maxLen at hkl hll
  obtain ⟨ak, ck, rfl⟩ := hR.form
  obtain ⟨al, cl, rfl⟩ := hQ.form
  have HX : Hid (((w.alloc (.cells #[i64 V.kind, i64 V.num, str V.s, .slice ak V.kids.length ck] 44)).alloc (.cells #[i64 U.kind, i64 U.num, str U.s, .slice al U.kids.length cl] 44)).heap[w.heap.size]? = some (.cells #[i64 V.kind, i64 V.num, str V.s, .slice ak V.kids.length ck] 44)) := blk_alloc (heap_last w _) _
  have HY : Hid (((w.alloc (.cells #[i64 V.kind, i64 V.num, str V.s, .slice ak V.kids.length ck] 44)).alloc (.cells #[i64 U.kind, i64 U.num, str U.s, .slice al U.kids.length cl] 44)).heap[w.heap.size + 1]? = some (.cells #[i64 U.kind, i64 U.num, str U.s, .slice al U.kids.length cl] 44)) := heap_at3 _ _ _ (by simp)
  have HBV : Hid (Below w.heap.size w ((w.alloc (.cells #[i64 V.kind, i64 V.num, str V.s, .slice ak V.kids.length ck] 44)).alloc (.cells #[i64 U.kind, i64 U.num, str U.s, .slice al U.kids.length cl] 44))) := (below_one w _).trans ((below_one _ _).mono (by simp))
  clear hR hQ hih
  go_enter Tryd.func23, Tryd.ntmps23
  go_upto_region 1 with fail
  generalize (w.alloc (.cells #[i64 V.kind, i64 V.num, str V.s, .slice ak V.kids.length ck] 44)).alloc (.cells #[i64 U.kind, i64 U.num, str U.s, .slice al U.kids.length cl] 44) = V0 at *
  obtain ⟨Z, hZ⟩ : ∃ Z, Z = w.heap.size := ⟨_, rfl⟩
  obtain ⟨Y, hY⟩ : ∃ Y, Y = w.heap.size + 1 := ⟨_, rfl⟩
  rw [← hZ] at HX
  rw [← hY] at HY
  rw [← hY, ← hZ]
  clear hZ hY
  have zc3 : V0.cell? ⟨Z, 3, none⟩ = some (.slice ak V.kids.length ck) := blk_cell HX.out 3
  go_wp2_with fail
  go_loopw [9] (fun u wr => ∃ (i : Nat), i ≤ V.kids.length ∧ u = i64 i ∧ Hid (i ≤ U.kids.length) ∧ Hid (sameW (V.kids.take i) (U.kids.take i) = true) ∧ Hid (wr.heap[Z]? = some (.cells #[i64 V.kind, i64 V.num, str V.s, .slice ak V.kids.length ck] 44)) ∧ Hid (wr.heap[Y]? = some (.cells #[i64 U.kind, i64 U.num, str U.s, .slice al U.kids.length cl] 44)) ∧ Hid (Below w.heap.size w wr)) (fun u _ => V.kids.length - (intOf u).toNat)
  case atStart => exact ⟨0, by omega, rfl, Nat.zero_le _, by show _ = _; simp [sameW], HX, HY, HBV⟩
  case round =>
    obtain ⟨i, hi, rfl, HiU, HMs, HXs, HYs, HB⟩ := hrel
    clear zc3
    by_cases hlt : i < V.kids.length
    · by_cases hlt2 : i < U.kids.length
      · obtain ⟨b1, o1, kvx, rfl, _, hb1, hr1, hrx⟩ := (HRd.out.under HB.out).kid i hlt
        obtain ⟨b2, o2, kvy, rfl, _, hb2, hr2, hry⟩ := (HQd.out.under HB.out).kid i hlt2
        obtain ⟨x, hx⟩ : ∃ x, x = V.kids[i] := ⟨_, rfl⟩
        obtain ⟨y, hy⟩ : ∃ y, y = U.kids[i] := ⟨_, rfl⟩
        rw [← hx] at hr1 hrx
        rw [← hy] at hr2 hry
        obtain ⟨ak2, ck2, rfl⟩ := hrx.form
        obtain ⟨al2, cl2, rfl⟩ := hry.form
        have HSX : Hid (S5 Z Y b1 (o1 + i * 4) b2 (o2 + i * 4) (.cells #[i64 V.kind, i64 V.num, str V.s, .slice (some ⟨b1, o1, none⟩) V.kids.length ck] 44) (.cells #[i64 U.kind, i64 U.num, str U.s, .slice (some ⟨b2, o2, none⟩) U.kids.length cl] 44) [i64 x.kind, i64 x.num, str x.s, .slice ak2 x.kids.length ck2] [i64 y.kind, i64 y.num, str y.s, .slice al2 y.kids.length cl2] wr.drew) := ⟨HXs.out, HYs.out, hr1, hr2, hb1, hb2⟩
        have hmx : x ∈ V.kids := by rw [hx]; exact List.getElem_mem hlt
        have HCA := hid (HIH.out x hmx y wr.drew _ _ (hrx.under ⟨rfl, rfl, rfl, Nat.le_refl _, fun _ _ => rfl⟩) (hry.under ⟨rfl, rfl, rfl, Nat.le_refl _, fun _ _ => rfl⟩))
        have HTk : Hid (sameW (V.kids.take (i + 1)) (U.kids.take (i + 1)) = sameV x y) := by show _ = _; rw [sameW_take V.kids U.kids i hlt hlt2, HMs.out, ← hx, ← hy]; rfl
        have HNo : Hid (sameV x y = false → Rr = false) := fun h => by rw [HRe.out, sameW_no V.kids U.kids i hlt hlt2 (by rw [← hx, ← hy]; exact h)]; simp
        have hl2I : (i : Int) < U.kids.length := by omega
        have HiU2 : Hid (i + 1 ≤ U.kids.length) := hlt2
        generalize sameV x y = SB at *
        clear hx hy hr1 hr2 hrx hry hmx
        go_upto_region 4 with fail
        refine wp_region_noPanic ?_
        refine wp_region_last (S5 Z Y b1 (o1 + i * 4) b2 (o2 + i * 4) (.cells #[i64 V.kind, i64 V.num, str V.s, .slice (some ⟨b1, o1, none⟩) V.kids.length ck] 44) (.cells #[i64 U.kind, i64 U.num, str U.s, .slice (some ⟨b2, o2, none⟩) U.kids.length cl] 44) [i64 x.kind, i64 x.num, str x.s, .slice ak2 x.kids.length ck2] [i64 y.kind, i64 y.num, str y.s, .slice al2 y.kids.length cl2]) 18 (by kernel_rfl) ?_
        refine wpL_take 0 12 (i64 i) [4, 5] rfl rfl (by kernel_rfl) (by decide) (by kernel_rfl) (by kernel_rfl) (by kernel_rfl) (fun _ _ _ h => h) HSX.out (by rfl) (fun W hW => by go_simp) ?_
        simp only [Act.put, List.setIfInBounds_toArray, List.set_cons_zero, List.set_cons_succ]
        refine wpL_take 1 13 (.pointer (some ⟨Y, 3, none⟩)) [2, 3, 4, 5] rfl rfl (by kernel_rfl) (by decide) (by kernel_rfl) (by kernel_rfl) (by kernel_rfl) (fun _ _ _ h => h) HSX.out (by rfl) (fun W hW => by go_simp) ?_
        simp only [Act.put, List.setIfInBounds_toArray, List.set_cons_zero, List.set_cons_succ]
        refine wpL_take 2 14 (.slice (some ⟨b2, o2, none⟩) U.kids.length cl) [3, 4, 5] rfl rfl (by kernel_rfl) (by decide) (by kernel_rfl) (by kernel_rfl) (by kernel_rfl) (fun _ _ _ h => h) HSX.out (by rfl) (fun W hW => by have d0 : W.cell? ⟨Y, 3, none⟩ = some (.slice (some ⟨b2, o2, none⟩) U.kids.length cl) := blk_cell hW.y 3; go_simp) ?_
        simp only [Act.put, List.setIfInBounds_toArray, List.set_cons_zero, List.set_cons_succ]
        refine wpL_one 3 rfl (by kernel_rfl) (by rfl) (fun K hK => ?_)
        go_simp
        refine hK.out _ _ (fun _ => HSX.out) ?_
        clear hK K
        refine wpL_take 4 16 (.bool false) [5] rfl rfl (by kernel_rfl) (by decide) (by kernel_rfl) (by kernel_rfl) (by kernel_rfl) (fun _ _ _ h => h) HSX.out (by rfl) (fun W hW => by go_simp) ?_
        simp only [Act.put, List.setIfInBounds_toArray, List.set_cons_zero, List.set_cons_succ]
        refine wpL_take 5 17 (.bool false) [] rfl rfl (by kernel_rfl) (by decide) (by kernel_rfl) (by kernel_rfl) (by kernel_rfl) (fun _ _ _ h => h) HSX.out (by rfl) (fun W hW => by go_simp) ?_
        simp only [Act.put, List.setIfInBounds_toArray, List.set_cons_zero, List.set_cons_succ]
        refine wpL_take 6 18 (.pointer (some ⟨Z, 3, none⟩)) [7, 9, 10, 16, 17] rfl rfl (by kernel_rfl) (by decide) (by kernel_rfl) (by kernel_rfl) (by kernel_rfl) (fun _ _ _ h => h) HSX.out (by rfl) (fun W hW => by go_simp) ?_
        simp only [Act.put, List.setIfInBounds_toArray, List.set_cons_zero, List.set_cons_succ]
        refine wpL_take 7 19 (.slice (some ⟨b1, o1, none⟩) V.kids.length ck) [9, 10, 16, 17] rfl rfl (by kernel_rfl) (by decide) (by kernel_rfl) (by kernel_rfl) (by kernel_rfl) (fun _ _ _ h => h) HSX.out (by rfl) (fun W hW => by have d0 : W.cell? ⟨Z, 3, none⟩ = some (.slice (some ⟨b1, o1, none⟩) V.kids.length ck) := blk_cell hW.z 3; go_simp) ?_
        simp only [Act.put, List.setIfInBounds_toArray, List.set_cons_zero, List.set_cons_succ]
        refine wpL_take 8 20 (i64 i) [9, 10, 16, 17] rfl rfl (by kernel_rfl) (by decide) (by kernel_rfl) (by kernel_rfl) (by kernel_rfl) (fun _ _ _ h => h) HSX.out (by rfl) (fun W hW => by go_simp) ?_
        simp only [Act.put, List.setIfInBounds_toArray, List.set_cons_zero, List.set_cons_succ]
        refine wpL_take 9 21 (.pointer (some ⟨b1, o1 + i * 4, none⟩)) [10, 16, 17] rfl rfl (by kernel_rfl) (by decide) (by kernel_rfl) (by kernel_rfl) (by kernel_rfl) (fun _ _ _ h => h) HSX.out (by rfl) (fun W hW => by go_simp) ?_
        simp only [Act.put, List.setIfInBounds_toArray, List.set_cons_zero, List.set_cons_succ]
        refine wpL_take 10 22 (.agg #[i64 x.kind, i64 x.num, str x.s, .slice ak2 x.kids.length ck2]) [16, 17] rfl rfl (by kernel_rfl) (by decide) (by kernel_rfl) (by kernel_rfl) (by kernel_rfl) (fun _ _ _ h => h) HSX.out (by rfl) (fun W hW => by have d0 : W.cell? ⟨b1, o1 + i * 4, none⟩ = some (i64 x.kind) := hW.r1 0 _ rfl; have d1 : W.cell? ⟨b1, o1 + i * 4 + 1, none⟩ = some (i64 x.num) := hW.r1 1 _ rfl; have d2 : W.cell? ⟨b1, o1 + i * 4 + 2, none⟩ = some (str x.s) := hW.r1 2 _ rfl; have d3 : W.cell? ⟨b1, o1 + i * 4 + 3, none⟩ = some (.slice ak2 x.kids.length ck2) := hW.r1 3 _ rfl; go_simp) ?_
        simp only [Act.put, List.setIfInBounds_toArray, List.set_cons_zero, List.set_cons_succ]
        refine wpL_take 11 23 (.pointer (some ⟨Y, 3, none⟩)) [12, 14, 15, 16, 17] rfl rfl (by kernel_rfl) (by decide) (by kernel_rfl) (by kernel_rfl) (by kernel_rfl) (fun _ _ _ h => h) HSX.out (by rfl) (fun W hW => by go_simp) ?_
        simp only [Act.put, List.setIfInBounds_toArray, List.set_cons_zero, List.set_cons_succ]
        refine wpL_take 12 24 (.slice (some ⟨b2, o2, none⟩) U.kids.length cl) [14, 15, 16, 17] rfl rfl (by kernel_rfl) (by decide) (by kernel_rfl) (by kernel_rfl) (by kernel_rfl) (fun _ _ _ h => h) HSX.out (by rfl) (fun W hW => by have d0 : W.cell? ⟨Y, 3, none⟩ = some (.slice (some ⟨b2, o2, none⟩) U.kids.length cl) := blk_cell hW.y 3; go_simp) ?_
        simp only [Act.put, List.setIfInBounds_toArray, List.set_cons_zero, List.set_cons_succ]
        refine wpL_take 13 25 (i64 i) [14, 15, 16, 17] rfl rfl (by kernel_rfl) (by decide) (by kernel_rfl) (by kernel_rfl) (by kernel_rfl) (fun _ _ _ h => h) HSX.out (by rfl) (fun W hW => by go_simp) ?_
        simp only [Act.put, List.setIfInBounds_toArray, List.set_cons_zero, List.set_cons_succ]
        refine wpL_take 14 26 (.pointer (some ⟨b2, o2 + i * 4, none⟩)) [15, 16, 17] rfl rfl (by kernel_rfl) (by decide) (by kernel_rfl) (by kernel_rfl) (by kernel_rfl) (fun _ _ _ h => h) HSX.out (by rfl) (fun W hW => by go_simp) ?_
        simp only [Act.put, List.setIfInBounds_toArray, List.set_cons_zero, List.set_cons_succ]
        refine wpL_take 15 27 (.agg #[i64 y.kind, i64 y.num, str y.s, .slice al2 y.kids.length cl2]) [16, 17] rfl rfl (by kernel_rfl) (by decide) (by kernel_rfl) (by kernel_rfl) (by kernel_rfl) (fun _ _ _ h => h) HSX.out (by rfl) (fun W hW => by have d0 : W.cell? ⟨b2, o2 + i * 4, none⟩ = some (i64 y.kind) := hW.r2 0 _ rfl; have d1 : W.cell? ⟨b2, o2 + i * 4 + 1, none⟩ = some (i64 y.num) := hW.r2 1 _ rfl; have d2 : W.cell? ⟨b2, o2 + i * 4 + 2, none⟩ = some (str y.s) := hW.r2 2 _ rfl; have d3 : W.cell? ⟨b2, o2 + i * 4 + 3, none⟩ = some (.slice al2 y.kids.length cl2) := hW.r2 3 _ rfl; go_simp) ?_
        simp only [Act.put, List.setIfInBounds_toArray, List.set_cons_zero, List.set_cons_succ]
        refine wpL_one 16 rfl (by kernel_rfl) (by rfl) (fun K hK => ?_)
        go_simp
        refine HCA.out.mono ?_
        rintro e w4 ⟨rfl, hb4⟩
        have hb4' : Below wr.heap.size wr w4 := ⟨hb4.os, hb4.tape, hb4.output, hb4.size, hb4.block⟩
        have HS4 : Hid (S5 Z Y b1 (o1 + i * 4) b2 (o2 + i * 4) (.cells #[i64 V.kind, i64 V.num, str V.s, .slice (some ⟨b1, o1, none⟩) V.kids.length ck] 44) (.cells #[i64 U.kind, i64 U.num, str U.s, .slice (some ⟨b2, o2, none⟩) U.kids.length cl] 44) [i64 x.kind, i64 x.num, str x.s, .slice ak2 x.kids.length ck2] [i64 y.kind, i64 y.num, str y.s, .slice al2 y.kids.length cl2] w4) := HSX.out.below hb4
        have HB4 : Hid (Below w.heap.size w w4) := HB.out.trans (hb4'.mono HB.out.size)
        clear hb4 hb4'
        go_simp
        refine hK.out _ _ (fun _ => HS4.out) ?_
        clear hK K
        cases SB with
        | true =>
          have HM2 : Hid (sameW (V.kids.take (i + 1)) (U.kids.take (i + 1)) = true) := HTk.out
          refine wpL_take 17 29 (.bool false) [] rfl rfl (by kernel_rfl) (by decide) (by kernel_rfl) (by kernel_rfl) (by kernel_rfl) (fun _ _ _ h => h) HS4.out (by rfl) (fun W hW => by go_simp) ?_
          simp only [Act.put, List.setIfInBounds_toArray, List.set_cons_zero, List.set_cons_succ]
          refine wpL_one 18 rfl (by kernel_rfl) (by rfl) (fun K hK => ?_)
          go_simp
          refine hK.out _ _ (fun h => absurd rfl h) ?_
          clear hK K
          refine wpL_done (by kernel_rfl) ?_
          refine NoPanic.normal ?_
          go_wp2_with fail
          exact ⟨⟨i + 1, by omega, by go_num, HiU2, HM2, HS4.out.z, HS4.out.y, HB4⟩, by simp [intOf]; omega⟩
        | false =>
          have HF : Hid (Rr = false) := HNo.out rfl
          refine wpL_take 17 29 (.bool true) [] rfl rfl (by kernel_rfl) (by decide) (by kernel_rfl) (by kernel_rfl) (by kernel_rfl) (fun _ _ _ h => h) HS4.out (by rfl) (fun W hW => by go_simp) ?_
          simp only [Act.put, List.setIfInBounds_toArray, List.set_cons_zero, List.set_cons_succ]
          refine wpL_one 18 rfl (by kernel_rfl) (by rfl) (fun K hK => ?_)
          go_simp
          refine hK.out _ _ (fun h => absurd rfl h) ?_
          clear hK K
          refine wpL_done (by kernel_rfl) ?_
          refine NoPanic.normal ?_
          go_wp2_with fail
          go_ret
          exact ⟨by rw [HF.out]; rfl, HB4.out⟩
      · have HF : Hid (Rr = false) := by
          show _ = _
          rw [HRe.out, decide_eq_false (show ¬ (V.kids.length = U.kids.length) by omega)]
          simp
        have y3 : wr.cell? ⟨Y, 3, none⟩ = some (.slice al U.kids.length cl) := blk_cell HYs.out 3
        have z3 : wr.cell? ⟨Z, 3, none⟩ = some (.slice ak V.kids.length ck) := blk_cell HXs.out 3
        have hgI : (U.kids.length : Int) ≤ i := by omega
        have hgd : decide ((U.kids.length : Int) ≤ i) = true := by simpa using hgI
        go_upto_region 4 with fail
        go_quiet (fail)
        go_wp2_with fail
        go_ret
        exact ⟨by rw [HF.out]; rfl, below_drewN HB.out _⟩
    · have he : i = V.kids.length := by omega
      have HR5 : Hid (Rr = (decide (V.kind = U.kind) && decide (V.num = U.num) && decide (V.s = U.s) && decide (V.kids.length = U.kids.length))) := by
        show _ = _
        rw [HRe.out]
        by_cases hm : V.kids.length = U.kids.length
        · have h1 := HMs.out
          rw [List.take_of_length_le (by omega), List.take_of_length_le (by omega)] at h1
          rw [h1, Bool.and_true]
        · rw [decide_eq_false hm]
          simp
      clear he
      have z0 : wr.cell? ⟨Z, 0, none⟩ = some (i64 V.kind) := blk_cell HXs.out 0
      have z1 : wr.cell? ⟨Z, 1, none⟩ = some (i64 V.num) := blk_cell HXs.out 1
      have z2 : wr.cell? ⟨Z, 2, none⟩ = some (str V.s) := blk_cell HXs.out 2
      have z3 : wr.cell? ⟨Z, 3, none⟩ = some (.slice ak V.kids.length ck) := blk_cell HXs.out 3
      have y0 : wr.cell? ⟨Y, 0, none⟩ = some (i64 U.kind) := blk_cell HYs.out 0
      have y1 : wr.cell? ⟨Y, 1, none⟩ = some (i64 U.num) := blk_cell HYs.out 1
      have y2 : wr.cell? ⟨Y, 2, none⟩ = some (str U.s) := blk_cell HYs.out 2
      have y3 : wr.cell? ⟨Y, 3, none⟩ = some (.slice al U.kids.length cl) := blk_cell HYs.out 3
      by_cases hk : V.kind = U.kind
      · have e_hk0 : (V.kind == U.kind) = true := by simpa using hk
        by_cases hn : V.num = U.num
        · have e_hn0 : (V.num == U.num) = true := by simpa using hn
          by_cases hs : V.s = U.s
          · have e_hs0 : (V.s == U.s) = true := by simpa using hs
            by_cases hm : V.kids.length = U.kids.length
            · have e_hm0 : ((V.kids.length : Int) == U.kids.length) = true := by simp [hm]
              have e_hm1 : (V.kids.length == U.kids.length) = true := by simp [hm]
              have HF : Hid (Rr = true) := by show _ = _; rw [HR5.out, decide_eq_true hk, decide_eq_true hn, decide_eq_true hs, decide_eq_true hm]; rfl
              clear hk hn hs hm
              go_wp2_with fail
              go_ret
              exact ⟨by rw [HF.out]; rfl, HB.out⟩
            · have e_hm0 : ((V.kids.length : Int) == U.kids.length) = false := by simp; omega
              have e_hm1 : (V.kids.length == U.kids.length) = false := by simp; omega
              have HF : Hid (Rr = false) := by show _ = _; rw [HR5.out, decide_eq_false hm]; simp
              clear hk hn hs hm
              go_wp2_with fail
              go_ret
              exact ⟨by rw [HF.out]; rfl, HB.out⟩
          · have e_hs0 : (V.s == U.s) = false := by simpa using hs
            have HF : Hid (Rr = false) := by show _ = _; rw [HR5.out, decide_eq_false hs]; simp
            clear hk hn hs
            go_wp2_with fail
            go_ret
            exact ⟨by rw [HF.out]; rfl, HB.out⟩
        · have e_hn0 : (V.num == U.num) = false := by simpa using hn
          have HF : Hid (Rr = false) := by show _ = _; rw [HR5.out, decide_eq_false hn]; simp
          clear hk hn
          go_wp2_with fail
          go_ret
          exact ⟨by rw [HF.out]; rfl, HB.out⟩
      · have e_hk0 : (V.kind == U.kind) = false := by simpa using hk
        have HF : Hid (Rr = false) := by show _ = _; rw [HR5.out, decide_eq_false hk]; simp
        clear hk
        go_wp2_with fail
        go_ret
        exact ⟨by rw [HF.out]; rfl, HB.out⟩
theorem vrsame_ok : ∀ (M : Nat) (x : Vl), x.size ≤ M → ∀ (y : Vl) (w : World) (S : Nat → Prop) (kv lv : Value), Vd w S x kv → Vd w S y lv → Calls Tryd.prog 23 #[vlV x kv, vlV y lv] w fun e w' => e = .returned (.bool (sameV x y)) ∧ Below w.heap.size w w'
  | 0, T, hM, _, _, _, _, _, _, _ => by have := T.size_eq; omega
  | M + 1, V, hM, U, w, S, kv, lv, hR, hQ => vrsame_in V U w S kv lv hR hQ (fun x hx y w kv lv hR hQ => vrsame_ok M x (by have := sizeL_mem hx; have := V.size_eq; omega) y w S kv lv hR hQ)
end Go.Proofs.YtihbbgcpdgnhoaaDoor
