/- imagoref15's Same and Field: their contracts; no statement is proved in this text. -/
import Derived.Test.YtihbbgcpdgnhoaaDoorSm0
import Derived.Test.YtihbbgcpdgnhoaaDoorCnt
import Derived.Test.YtihbbgcpdgnhoaaDoorRf
namespace Go.Proofs.YtihbbgcpdgnhoaaDoor
open Go.ChangeShapes Go.WideShapes Go.ChangeAt Go.RowKit Go.Deep
attribute [local go_sem ↓] Go.wp_at_zero Go.wp_at_succ

structure S4 (Z Y b1 o1 b2 o2 : Nat) (oZ oY : Obj) (l1 l2 : List Value) (W : World) : Prop where
  z : W.heap[Z]? = some oZ
  y : W.heap[Y]? = some oY
  r1 : W.rangeAt b1 o1 l1
  r2 : W.rangeAt b2 o2 l2
  l1 : b1 < W.heap.size
  l2 : b2 < W.heap.size
theorem S4.below {Z Y b1 o1 b2 o2 : Nat} {oZ oY : Obj} {l1 l2 : List Value} {W W' : World} (h : S4 Z Y b1 o1 b2 o2 oZ oY l1 l2 W) (hb : Below W.heap.size W W') : S4 Z Y b1 o1 b2 o2 oZ oY l1 l2 W' :=
  ⟨blk_below h.z hb, blk_below h.y hb, range_keep h.r1 (hb.block b1 h.l1), range_keep h.r2 (hb.block b2 h.l2), Nat.lt_of_lt_of_le h.l1 hb.size, Nat.lt_of_lt_of_le h.l2 hb.size⟩
theorem eq_of_get {l1 l2 : List Bs} (hl : l1.length = l2.length) (h : ∀ m (h1 : m < l1.length) (h2 : m < l2.length), l1[m] = l2[m]) : l1 = l2 := List.ext_getElem hl h
theorem sameL_take : ∀ (la lb : List Ty) (i : Nat) (h1 : i < la.length) (h2 : i < lb.length), sameL (la.take (i + 1)) (lb.take (i + 1)) = (sameL (la.take i) (lb.take i) && sameB la[i] lb[i])
  | _ :: _, _ :: _, 0, _, _ => by simp [sameL]
  | a :: r, b :: s, i + 1, h1, h2 => by
    have := sameL_take r s i (by simpa using h1) (by simpa using h2)
    simp only [List.take_succ_cons, sameL, List.getElem_cons_succ, this, Bool.and_assoc]
theorem sameL_no : ∀ (la lb : List Ty) (i : Nat) (h1 : i < la.length) (h2 : i < lb.length), sameB la[i] lb[i] = false → sameL la lb = false
  | a :: r, b :: s, 0, _, _, h => by have h' : sameB a b = false := h; simp [sameL, h']
  | a :: r, b :: s, i + 1, h1, h2, h => by simp [sameL, sameL_no r s i (by simpa using h1) (by simpa using h2) h]
set_option maxRecDepth 100000 in
set_option maxHeartbeats 12800000 in
theorem rsame_in (k n : Int) (names : List Bs) (kids : List Ty) (k2 n2 : Int) (names2 : List Bs) (kids2 : List Ty) (w : World) (S : Nat → Prop) (nv kv mv lv : Value) (hR : Rd w S (.mk k n names kids) nv kv) (hQ : Rd w S (.mk k2 n2 names2 kids2) mv lv)
    (hih : ∀ x ∈ kids, ∀ (y : Ty) (w : World) (nv kv mv lv : Value), Rd w S x nv kv → Rd w S y mv lv → Calls Tryd.prog 22 #[tyV x.kind x.num nv kv, tyV y.kind y.num mv lv] w fun e w' => e = .returned (.bool (sameB x y)) ∧ Below w.heap.size w w') :
    Calls Tryd.prog 22 #[tyV k n nv kv, tyV k2 n2 mv lv] w fun e w' => e = .returned (.bool (sameB (.mk k n names kids) (.mk k2 n2 names2 kids2))) ∧ Below w.heap.size w w' := by
  obtain ⟨Rr, hRe⟩ : ∃ Rr, Rr = sameB (.mk k n names kids) (.mk k2 n2 names2 kids2) := ⟨_, rfl⟩
  have HRe : Hid (Rr = (decide (k = k2) && decide (n = n2) && decide (names = names2) && decide (kids.length = kids2.length) && sameL kids kids2)) := by show _ = _; rw [hRe, sameB]
  rw [← hRe]
  clear hRe
  have HIH := hid hih
  have HRd := hid hR
  have HQd := hid hQ
  obtain ⟨⟨an, cn, rfl, hnl, hz1, hz2⟩, hkl, ak, ck, rfl, hz3⟩ := hR.kid
  clear hz1 hz2 hz3
  obtain ⟨⟨am, cm, rfl, hml, hz1, hz2⟩, hll, al, cl, rfl, hz3⟩ := hQ.kid
  clear hz1 hz2 hz3
  unfold maxLen at hnl hkl hml hll
  have HX : Hid (((w.alloc (.cells #[i64 k, i64 n, .slice an names.length cn, .slice ak kids.length ck] 41)).alloc (.cells #[i64 k2, i64 n2, .slice am names2.length cm, .slice al kids2.length cl] 41)).heap[w.heap.size]? = some (.cells #[i64 k, i64 n, .slice an names.length cn, .slice ak kids.length ck] 41)) := blk_alloc (heap_last w _) _
  have HY : Hid (((w.alloc (.cells #[i64 k, i64 n, .slice an names.length cn, .slice ak kids.length ck] 41)).alloc (.cells #[i64 k2, i64 n2, .slice am names2.length cm, .slice al kids2.length cl] 41)).heap[w.heap.size + 1]? = some (.cells #[i64 k2, i64 n2, .slice am names2.length cm, .slice al kids2.length cl] 41)) := heap_at3 _ _ _ (by simp)
  have HBV : Hid (Below w.heap.size w ((w.alloc (.cells #[i64 k, i64 n, .slice an names.length cn, .slice ak kids.length ck] 41)).alloc (.cells #[i64 k2, i64 n2, .slice am names2.length cm, .slice al kids2.length cl] 41))) := (below_one w _).trans ((below_one _ _).mono (by simp))
  clear hR hQ hih
  go_enter Tryd.func22, Tryd.ntmps22
  go_upto_region 1 with fail
  generalize (w.alloc (.cells #[i64 k, i64 n, .slice an names.length cn, .slice ak kids.length ck] 41)).alloc (.cells #[i64 k2, i64 n2, .slice am names2.length cm, .slice al kids2.length cl] 41) = V at *
  obtain ⟨Z, hZ⟩ : ∃ Z, Z = w.heap.size := ⟨_, rfl⟩
  obtain ⟨Y, hY⟩ : ∃ Y, Y = w.heap.size + 1 := ⟨_, rfl⟩
  rw [← hZ] at HX
  rw [← hY] at HY
  rw [← hY, ← hZ]
  clear hZ hY
  have zc0 : V.cell? ⟨Z, 0, none⟩ = some (i64 k) := blk_cell HX.out 0
  have zc1 : V.cell? ⟨Z, 1, none⟩ = some (i64 n) := blk_cell HX.out 1
  have zc2 : V.cell? ⟨Z, 2, none⟩ = some (.slice an names.length cn) := blk_cell HX.out 2
  have zc3 : V.cell? ⟨Z, 3, none⟩ = some (.slice ak kids.length ck) := blk_cell HX.out 3
  have yc0 : V.cell? ⟨Y, 0, none⟩ = some (i64 k2) := blk_cell HY.out 0
  have yc1 : V.cell? ⟨Y, 1, none⟩ = some (i64 n2) := blk_cell HY.out 1
  have yc2 : V.cell? ⟨Y, 2, none⟩ = some (.slice am names2.length cm) := blk_cell HY.out 2
  have yc3 : V.cell? ⟨Y, 3, none⟩ = some (.slice al kids2.length cl) := blk_cell HY.out 3
  by_cases hk : k = k2
  · by_cases hn : n = n2
    · by_cases hl : names.length = names2.length
      · by_cases hm : kids.length = kids2.length
        · have HR2 : Hid (Rr = (decide (names = names2) && sameL kids kids2)) := by show _ = _; rw [HRe.out, decide_eq_true hk, decide_eq_true hn, decide_eq_true hm]; simp
          have e1 : (k != k2) = false := by simpa using hk
          have e2 : (n != n2) = false := by simpa using hn
          have e3 : ((names.length : Int) != names2.length) = false := by simp [hl]
          have e4 : ((kids.length : Int) != kids2.length) = false := by simp [hm]
          have e3' : (names.length != names2.length) = false := by simp [hl]
          have e4' : (kids.length != kids2.length) = false := by simp [hm]
          have HK := hid hk
          have HNn := hid hn
          have HL := hid hl
          have HMm := hid hm
          clear hk hn hl hm HRe
          go_wp2_with fail
          go_loopw [40] (fun u wr => ∃ (i : Nat), i ≤ names.length ∧ u = i64 i ∧ Hid (∀ m (h1 : m < i) (h2 : m < names.length) (h3 : m < names2.length), names[m] = names2[m]) ∧ Hid (wr.heap[Z]? = some (.cells #[i64 k, i64 n, .slice an names.length cn, .slice ak kids.length ck] 41)) ∧ Hid (wr.heap[Y]? = some (.cells #[i64 k2, i64 n2, .slice am names2.length cm, .slice al kids2.length cl] 41)) ∧ Hid (Below w.heap.size w wr)) (fun u _ => names.length - (intOf u).toNat)
          case atStart => exact ⟨0, by omega, rfl, by intro m h1; omega, HX, HY, HBV⟩
          case round =>
            obtain ⟨i, hi, rfl, HNs, HXr, HYr, HB⟩ := hrel
            clear zc0 zc1 zc2 zc3 yc0 yc1 yc2 yc3
            by_cases hlt : i < names.length
            · have hlt2 : i < names2.length := by have := HL.out; omega
              obtain ⟨ao1, cp1, he1, hat1⟩ := (HRd.out.under HB.out).kid.1.at
              cases he1
              obtain ⟨b1, o1, rfl, hb1, cA⟩ := hat1 i hlt
              obtain ⟨ao2, cp2, he2, hat2⟩ := (HQd.out.under HB.out).kid.1.at
              cases he2
              obtain ⟨b2, o2, rfl, hb2, cB⟩ := hat2 i hlt2
              obtain ⟨x, hx⟩ : ∃ x, x = names[i] := ⟨_, rfl⟩
              obtain ⟨y, hy⟩ : ∃ y, y = names2[i] := ⟨_, rfl⟩
              rw [← hx] at cA
              rw [← hy] at cB
              have z2 : wr.cell? ⟨Z, 2, none⟩ = some (.slice (some ⟨b1, o1, none⟩) names.length cn) := blk_cell HXr.out 2
              have y2 : wr.cell? ⟨Y, 2, none⟩ = some (.slice (some ⟨b2, o2, none⟩) names2.length cm) := blk_cell HYr.out 2
              have hl2I : (i : Int) < names2.length := by omega
              have HXe := hid hx
              have HYe := hid hy
              clear hx hy hat1 hat2
              by_cases hxy : x = y
              · have q1 : (x != y) = false := by simpa using hxy
                have q2 : (x == y) = true := by simpa using hxy
                have HN2 : Hid (∀ m (h1 : m < i + 1) (h2 : m < names.length) (h3 : m < names2.length), names[m] = names2[m]) := by
                  intro m h1 h2 h3
                  by_cases e : m = i
                  · subst e; rw [← HXe.out, ← HYe.out]; exact hxy
                  · exact HNs.out m (by omega) h2 h3
                clear hxy
                go_upto_region 6 with fail
                go_quiet (fail)
                go_wp2_with fail
                exact ⟨⟨i + 1, by omega, by go_num, HN2, HXr, HYr, below_drewN HB.out _⟩, by simp [intOf]; omega⟩
              · have q1 : (x != y) = true := by simpa using hxy
                have q2 : (x == y) = false := by simpa using hxy
                have HF : Hid (Rr = false) := by
                  show _ = _
                  rw [HR2.out, decide_eq_false (fun e => hxy ?_)]
                  · rfl
                  · rw [HXe.out, HYe.out]; simp only [e]
                clear hxy
                go_upto_region 6 with fail
                go_quiet (fail)
                go_wp2_with fail
                go_ret
                exact ⟨by rw [HF.out]; rfl, below_drewN HB.out _⟩
            · have HR3 : Hid (Rr = sameL kids kids2) := by
                show _ = _
                rw [HR2.out, decide_eq_true (eq_of_get HL.out (fun m h1 h2 => HNs.out m (by omega) h1 h2))]
                rfl
              have z3 : wr.cell? ⟨Z, 3, none⟩ = some (.slice ak kids.length ck) := blk_cell HXr.out 3
              clear HR2 HNs
              go_wp2_with fail
              generalize hW : wr = W0 at *
              clear hW
              go_loopw [58] (fun u wr => ∃ (i : Nat), i ≤ kids.length ∧ u = i64 i ∧ Hid (sameL (kids.take i) (kids2.take i) = true) ∧ Hid (wr.heap[Z]? = some (.cells #[i64 k, i64 n, .slice an names.length cn, .slice ak kids.length ck] 41)) ∧ Hid (wr.heap[Y]? = some (.cells #[i64 k2, i64 n2, .slice am names2.length cm, .slice al kids2.length cl] 41)) ∧ Hid (Below w.heap.size w wr)) (fun u _ => kids.length - (intOf u).toNat)
              case atStart => exact ⟨0, by omega, rfl, by show _ = _; simp [sameL], HXr, HYr, HB⟩
              case round =>
                obtain ⟨i, hi, rfl, HMs, HXs, HYs, HB⟩ := hrel
                clear z3
                by_cases hlt : i < kids.length
                · have hlt2 : i < kids2.length := by have := HMm.out; omega
                  obtain ⟨_, _, ak1, ck1, he1, hk1⟩ := (HRd.out.under HB.out).kid
                  cases he1
                  obtain ⟨b1, o1, nvx, kvx, rfl, _, hb1, hr1, hrx⟩ := hk1 i hlt
                  obtain ⟨_, _, ak2', ck2', he2, hk2⟩ := (HQd.out.under HB.out).kid
                  cases he2
                  obtain ⟨b2, o2, nvy, kvy, rfl, _, hb2, hr2, hry⟩ := hk2 i hlt2
                  obtain ⟨x, hx⟩ : ∃ x, x = kids[i] := ⟨_, rfl⟩
                  obtain ⟨y, hy⟩ : ∃ y, y = kids2[i] := ⟨_, rfl⟩
                  rw [← hx] at hr1 hrx
                  rw [← hy] at hr2 hry
                  obtain ⟨an2, cn2, rfl, ak2, ck2, rfl⟩ := hrx.form
                  obtain ⟨am2, cm2, rfl, al2, cl2, rfl⟩ := hry.form
                  have HSX : Hid (S4 Z Y b1 (o1 + i * 4) b2 (o2 + i * 4) (.cells #[i64 k, i64 n, .slice an names.length cn, .slice (some ⟨b1, o1, none⟩) kids.length ck] 41) (.cells #[i64 k2, i64 n2, .slice am names2.length cm, .slice (some ⟨b2, o2, none⟩) kids2.length cl] 41) [i64 x.kind, i64 x.num, .slice an2 x.names.length cn2, .slice ak2 x.kids.length ck2] [i64 y.kind, i64 y.num, .slice am2 y.names.length cm2, .slice al2 y.kids.length cl2] wr.drew) := ⟨HXs.out, HYs.out, hr1, hr2, hb1, hb2⟩
                  have hmx : x ∈ kids := by rw [hx]; exact List.getElem_mem hlt
                  have HCA := hid (HIH.out x hmx y wr.drew _ _ _ _ (hrx.under ⟨rfl, rfl, rfl, Nat.le_refl _, fun _ _ => rfl⟩) (hry.under ⟨rfl, rfl, rfl, Nat.le_refl _, fun _ _ => rfl⟩))
                  have HTk : Hid (sameL (kids.take (i + 1)) (kids2.take (i + 1)) = sameB x y) := by show _ = _; rw [sameL_take kids kids2 i hlt hlt2, HMs.out, ← hx, ← hy]; rfl
                  have HNo : Hid (sameB x y = false → Rr = false) := fun h => by rw [HR3.out]; exact sameL_no kids kids2 i hlt hlt2 (by rw [← hx, ← hy]; exact h)
                  have hl2I : (i : Int) < kids2.length := by omega
                  generalize sameB x y = SB at *
                  clear hx hy hr1 hr2 hrx hry hk1 hk2 hmx
                  go_upto_region 12 with fail
                  refine wp_region_noPanic ?_
                  refine wp_region_last (S4 Z Y b1 (o1 + i * 4) b2 (o2 + i * 4) (.cells #[i64 k, i64 n, .slice an names.length cn, .slice (some ⟨b1, o1, none⟩) kids.length ck] 41) (.cells #[i64 k2, i64 n2, .slice am names2.length cm, .slice (some ⟨b2, o2, none⟩) kids2.length cl] 41) [i64 x.kind, i64 x.num, .slice an2 x.names.length cn2, .slice ak2 x.kids.length ck2] [i64 y.kind, i64 y.num, .slice am2 y.names.length cm2, .slice al2 y.kids.length cl2]) 11 (by kernel_rfl) ?_
                  refine wpL_take 0 61 (.pointer (some ⟨Z, 3, none⟩)) [1, 3, 4, 10] rfl rfl (by kernel_rfl) (by decide) (by kernel_rfl) (by kernel_rfl) (by kernel_rfl) (fun _ _ _ h => h) HSX.out (by rfl) (fun W hW => by go_simp) ?_
                  simp only [Act.put, List.setIfInBounds_toArray, List.set_cons_zero, List.set_cons_succ]
                  refine wpL_take 1 62 (.slice (some ⟨b1, o1, none⟩) kids.length ck) [3, 4, 10] rfl rfl (by kernel_rfl) (by decide) (by kernel_rfl) (by kernel_rfl) (by kernel_rfl) (fun _ _ _ h => h) HSX.out (by rfl) (fun W hW => by have d0 : W.cell? ⟨Z, 3, none⟩ = some (.slice (some ⟨b1, o1, none⟩) kids.length ck) := blk_cell hW.z 3; go_simp) ?_
                  simp only [Act.put, List.setIfInBounds_toArray, List.set_cons_zero, List.set_cons_succ]
                  refine wpL_take 2 63 (i64 i) [3, 4, 10] rfl rfl (by kernel_rfl) (by decide) (by kernel_rfl) (by kernel_rfl) (by kernel_rfl) (fun _ _ _ h => h) HSX.out (by rfl) (fun W hW => by go_simp) ?_
                  simp only [Act.put, List.setIfInBounds_toArray, List.set_cons_zero, List.set_cons_succ]
                  refine wpL_take 3 64 (.pointer (some ⟨b1, o1 + i * 4, none⟩)) [4, 10] rfl rfl (by kernel_rfl) (by decide) (by kernel_rfl) (by kernel_rfl) (by kernel_rfl) (fun _ _ _ h => h) HSX.out (by rfl) (fun W hW => by go_simp) ?_
                  simp only [Act.put, List.setIfInBounds_toArray, List.set_cons_zero, List.set_cons_succ]
                  refine wpL_take 4 65 (.agg #[i64 x.kind, i64 x.num, .slice an2 x.names.length cn2, .slice ak2 x.kids.length ck2]) [10] rfl rfl (by kernel_rfl) (by decide) (by kernel_rfl) (by kernel_rfl) (by kernel_rfl) (fun _ _ _ h => h) HSX.out (by rfl) (fun W hW => by have d0 : W.cell? ⟨b1, o1 + i * 4, none⟩ = some (i64 x.kind) := hW.r1 0 _ rfl; have d1 : W.cell? ⟨b1, o1 + i * 4 + 1, none⟩ = some (i64 x.num) := hW.r1 1 _ rfl; have d2 : W.cell? ⟨b1, o1 + i * 4 + 2, none⟩ = some (.slice an2 x.names.length cn2) := hW.r1 2 _ rfl; have d3 : W.cell? ⟨b1, o1 + i * 4 + 3, none⟩ = some (.slice ak2 x.kids.length ck2) := hW.r1 3 _ rfl; go_simp) ?_
                  simp only [Act.put, List.setIfInBounds_toArray, List.set_cons_zero, List.set_cons_succ]
                  refine wpL_take 5 66 (.pointer (some ⟨Y, 3, none⟩)) [6, 8, 9, 10] rfl rfl (by kernel_rfl) (by decide) (by kernel_rfl) (by kernel_rfl) (by kernel_rfl) (fun _ _ _ h => h) HSX.out (by rfl) (fun W hW => by go_simp) ?_
                  simp only [Act.put, List.setIfInBounds_toArray, List.set_cons_zero, List.set_cons_succ]
                  refine wpL_take 6 67 (.slice (some ⟨b2, o2, none⟩) kids2.length cl) [8, 9, 10] rfl rfl (by kernel_rfl) (by decide) (by kernel_rfl) (by kernel_rfl) (by kernel_rfl) (fun _ _ _ h => h) HSX.out (by rfl) (fun W hW => by have d0 : W.cell? ⟨Y, 3, none⟩ = some (.slice (some ⟨b2, o2, none⟩) kids2.length cl) := blk_cell hW.y 3; go_simp) ?_
                  simp only [Act.put, List.setIfInBounds_toArray, List.set_cons_zero, List.set_cons_succ]
                  refine wpL_take 7 68 (i64 i) [8, 9, 10] rfl rfl (by kernel_rfl) (by decide) (by kernel_rfl) (by kernel_rfl) (by kernel_rfl) (fun _ _ _ h => h) HSX.out (by rfl) (fun W hW => by go_simp) ?_
                  simp only [Act.put, List.setIfInBounds_toArray, List.set_cons_zero, List.set_cons_succ]
                  refine wpL_take 8 69 (.pointer (some ⟨b2, o2 + i * 4, none⟩)) [9, 10] rfl rfl (by kernel_rfl) (by decide) (by kernel_rfl) (by kernel_rfl) (by kernel_rfl) (fun _ _ _ h => h) HSX.out (by rfl) (fun W hW => by go_simp) ?_
                  simp only [Act.put, List.setIfInBounds_toArray, List.set_cons_zero, List.set_cons_succ]
                  refine wpL_take 9 70 (.agg #[i64 y.kind, i64 y.num, .slice am2 y.names.length cm2, .slice al2 y.kids.length cl2]) [10] rfl rfl (by kernel_rfl) (by decide) (by kernel_rfl) (by kernel_rfl) (by kernel_rfl) (fun _ _ _ h => h) HSX.out (by rfl) (fun W hW => by have d0 : W.cell? ⟨b2, o2 + i * 4, none⟩ = some (i64 y.kind) := hW.r2 0 _ rfl; have d1 : W.cell? ⟨b2, o2 + i * 4 + 1, none⟩ = some (i64 y.num) := hW.r2 1 _ rfl; have d2 : W.cell? ⟨b2, o2 + i * 4 + 2, none⟩ = some (.slice am2 y.names.length cm2) := hW.r2 2 _ rfl; have d3 : W.cell? ⟨b2, o2 + i * 4 + 3, none⟩ = some (.slice al2 y.kids.length cl2) := hW.r2 3 _ rfl; go_simp) ?_
                  simp only [Act.put, List.setIfInBounds_toArray, List.set_cons_zero, List.set_cons_succ]
                  refine wpL_one 10 rfl (by kernel_rfl) (by rfl) (fun K hK => ?_)
                  go_simp
                  refine HCA.out.mono ?_
                  rintro e w4 ⟨rfl, hb4⟩
                  have hb4' : Below wr.heap.size wr w4 := ⟨hb4.os, hb4.tape, hb4.output, hb4.size, hb4.block⟩
                  have HS4 : Hid (S4 Z Y b1 (o1 + i * 4) b2 (o2 + i * 4) (.cells #[i64 k, i64 n, .slice an names.length cn, .slice (some ⟨b1, o1, none⟩) kids.length ck] 41) (.cells #[i64 k2, i64 n2, .slice am names2.length cm, .slice (some ⟨b2, o2, none⟩) kids2.length cl] 41) [i64 x.kind, i64 x.num, .slice an2 x.names.length cn2, .slice ak2 x.kids.length ck2] [i64 y.kind, i64 y.num, .slice am2 y.names.length cm2, .slice al2 y.kids.length cl2] w4) := HSX.out.below hb4
                  have HB4 : Hid (Below w.heap.size w w4) := HB.out.trans (hb4'.mono HB.out.size)
                  clear hb4 hb4'
                  go_simp
                  refine hK.out _ _ (fun _ => HS4.out) ?_
                  clear hK K
                  cases SB with
                  | true =>
                    have HM2 : Hid (sameL (kids.take (i + 1)) (kids2.take (i + 1)) = true) := HTk.out
                    refine wpL_one 11 rfl (by kernel_rfl) (by rfl) (fun K hK => ?_)
                    go_simp
                    refine hK.out _ _ (fun h => absurd rfl h) ?_
                    clear hK K
                    refine wpL_done (by kernel_rfl) ?_
                    refine NoPanic.normal ?_
                    go_wp2_with fail
                    exact ⟨⟨i + 1, by omega, by go_num, HM2, HS4.out.z, HS4.out.y, HB4⟩, by simp [intOf]; omega⟩
                  | false =>
                    have HF : Hid (Rr = false) := HNo.out rfl
                    refine wpL_one 11 rfl (by kernel_rfl) (by rfl) (fun K hK => ?_)
                    go_simp
                    refine hK.out _ _ (fun h => absurd rfl h) ?_
                    clear hK K
                    refine wpL_done (by kernel_rfl) ?_
                    refine NoPanic.normal ?_
                    go_wp2_with fail
                    go_ret
                    exact ⟨by rw [HF.out]; rfl, HB4.out⟩
                · have HF : Hid (Rr = true) := by
                    show _ = _
                    have h1 := HMs.out
                    rw [List.take_of_length_le (by omega), List.take_of_length_le (by have := HMm.out; omega)] at h1
                    rw [HR3.out, h1]
                  go_wp2_with fail
                  go_ret
                  exact ⟨by rw [HF.out]; rfl, HB.out⟩
        · skip
          have e1 : (k != k2) = false := by simpa using hk
          have e2 : (n != n2) = false := by simpa using hn
          have e3 : ((names.length : Int) != names2.length) = false := by simp [hl]
          have e3' : (names.length != names2.length) = false := by simp [hl]
          have e4 : ((kids.length : Int) != kids2.length) = true := by simp; omega
          have e4' : (kids.length != kids2.length) = true := by simp; omega
          have HMm := hid hm
          have HF0 : Hid (decide (kids.length = kids2.length) = false) := decide_eq_false hm
          have HKk := hid hk
          have HNn := hid hn
          have HLl := hid hl
          clear hk hn hl hm
          have HF : Hid (Rr = false) := by show _ = _; rw [HRe.out, HF0.out]; simp
          clear HRe
          go_wp2_with fail
          go_ret
          exact ⟨by rw [HF.out]; rfl, HBV.out⟩
      · skip
        have e1 : (k != k2) = false := by simpa using hk
        have e2 : (n != n2) = false := by simpa using hn
        have e3 : ((names.length : Int) != names2.length) = true := by simp; omega
        have e3' : (names.length != names2.length) = true := by simp; omega
        have HF0 : Hid (decide (names = names2) = false) := decide_eq_false (fun e => hl (by rw [e]))
        have HKk := hid hk
        have HNn := hid hn
        clear hk hn hl
        have HF : Hid (Rr = false) := by show _ = _; rw [HRe.out, HF0.out]; simp
        clear HRe
        go_wp2_with fail
        go_ret
        exact ⟨by rw [HF.out]; rfl, HBV.out⟩
    · skip
      have e1 : (k != k2) = false := by simpa using hk
      have e2 : (n != n2) = true := by simpa using hn
      have HF0 : Hid (decide (n = n2) = false) := decide_eq_false hn
      have HKk := hid hk
      clear hk hn
      have HF : Hid (Rr = false) := by show _ = _; rw [HRe.out, HF0.out]; simp
      clear HRe
      go_wp2_with fail
      go_ret
      exact ⟨by rw [HF.out]; rfl, HBV.out⟩
  · skip
    have e1 : (k != k2) = true := by simpa using hk
    have HF0 : Hid (decide (k = k2) = false) := decide_eq_false hk
    clear hk
    have HF : Hid (Rr = false) := by show _ = _; rw [HRe.out, HF0.out]; simp
    clear HRe
    go_wp2_with fail
    go_ret
    exact ⟨by rw [HF.out]; rfl, HBV.out⟩
theorem rsame_ok : ∀ (M : Nat) (x : Ty), x.count ≤ M → ∀ (y : Ty) (w : World) (S : Nat → Prop) (nv kv mv lv : Value), Rd w S x nv kv → Rd w S y mv lv → Calls Tryd.prog 22 #[tyV x.kind x.num nv kv, tyV y.kind y.num mv lv] w fun e w' => e = .returned (.bool (sameB x y)) ∧ Below w.heap.size w w'
  | 0, T, hM, _, _, _, _, _, _, _, _, _ => by have := count_pos T; omega
  | M + 1, .mk k n names kids, hM, .mk k2 n2 names2 kids2, w, S, nv, kv, mv, lv, hR, hQ => by
    simp only [Ty.count] at hM
    exact rsame_in k n names kids k2 n2 names2 kids2 w S nv kv mv lv hR hQ (fun x hx y w nv kv mv lv hR hQ => rsame_ok M x (by have := countL_mem hx; omega) y w S nv kv mv lv hR hQ)
end Go.Proofs.YtihbbgcpdgnhoaaDoor
