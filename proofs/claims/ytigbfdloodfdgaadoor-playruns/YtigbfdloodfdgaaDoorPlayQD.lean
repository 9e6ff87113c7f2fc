/- imagolaw08's calls, and PlayRuns' walk; no statement is proved in this text. -/
import Derived.Test.YtigbfdloodfdgaaDoorPlayQB
namespace Go.Proofs.YtigbfdloodfdgaaDoor
open Go.ChangeShapes Go.WideShapes Go.ChangeAt Go.RowKit
attribute [local go_sem ↓] Go.wp_at_zero Go.wp_at_succ

structure SqCl (x gg i : Nat) (cn : Int) (ca cb cc : Nat) (W : World) : Prop where
  s0 : W.cell? ⟨x, 0, none⟩ = some (i64 cn)
  s1 : W.cell? ⟨x, 1, none⟩ = some (i64 ca)
  s2 : W.cell? ⟨x, 2, none⟩ = some (i64 cb)
  s3 : W.cell? ⟨x, 3, none⟩ = some (i64 cc)
  s4 : W.cell? ⟨gg, i * 4, none⟩ = some (i64 cn)
  s5 : W.cell? ⟨gg, i * 4 + 1, none⟩ = some (i64 ca)
  s6 : W.cell? ⟨gg, i * 4 + 2, none⟩ = some (i64 cb)
  s7 : W.cell? ⟨gg, i * 4 + 3, none⟩ = some (i64 cc)
theorem eqT49 (a b c : Nat) (w : World) : (Op.equalIn 10000 49 (.agg #[i64 a, i64 b, i64 c]) (.agg #[i64 a, i64 b, i64 c])).run Tryd.prog w = .ok true w := by
  obtain ⟨i, hi⟩ := info_of_underlying Tryd.underlying3
  rw [run_equalIn_array w 9999 _ _ Tryd.underlying49 hi]
  simp [Op.eqItems, List.range_succ, part, cellsOf3, eq3]
set_option maxRecDepth 100000 in
set_option maxHeartbeats 3200000 in
theorem calls_ok (V : World) (o1 o2 : Option Addr) (c1 c2 : Nat) (K : List Cl) (h1 : OR V o1 K) (h2 : OR V o2 K) (hk : K.length ≤ 5000) : Calls Tryd.prog 12 #[.slice o1 K.length c1, .slice o2 K.length c2] V fun e w' => e = .returned (.bool true) ∧ Below V.heap.size V w' := by
  have HO1 := hid h1
  have HO2 := hid h2
  have hkI : (K.length : Int) ≤ 5000 := by omega
  clear h1 h2
  go_enter Tryd.func12, Tryd.ntmps12
  go_wp2_with fail
  go_loopw [9] (fun k wr => ∃ i : Nat, i ≤ K.length ∧ k = .int .i64 (i : Nat) ∧ Below V.heap.size V wr) (fun k _ => K.length - (intOf k).toNat)
  case atStart => exact ⟨0, Nat.zero_le _, rfl, Below.refl _ _⟩
  case round =>
    obtain ⟨i, hi, rfl, hb⟩ := hrel
    have HB := hid hb
    by_cases hlt : i < K.length
    · have hltI : (i : Int) < K.length := by omega
      obtain ⟨⟨cn, ca, cb, cc⟩, hc⟩ : ∃ c, K[i]? = some c := ⟨_, List.getElem?_eq_getElem hlt⟩
      obtain ⟨g, e1, x0, x1, x2, x3⟩ := (HO1.out.below hb).get hc
      simp only at x0 x1 x2 x3
      obtain ⟨gg, e2, _, _, _, _⟩ := (HO2.out.below hb).get hc
      have hiN : ((i : Int) * 4).toNat = i * 4 := by omega
      have HLT := hid hlt
      have HCC := hid hc
      have HE2 := hid e2
      subst e1
      clear hc e2
      go_upto_region 4 with fail
      have hBx := below_one wr (.cells #[i64 cn, i64 (ca : Nat), i64 (cb : Nat), i64 (cc : Nat)] 51)
      have HX : Hid ((wr.alloc (.cells #[i64 cn, i64 (ca : Nat), i64 (cb : Nat), i64 (cc : Nat)] 51)).heap[wr.heap.size]? = some (.cells #[i64 cn, i64 (ca : Nat), i64 (cb : Nat), i64 (cc : Nat)] 51 (0, 0))) := heap_at rfl _
      have HB2 := hid (HB.out.trans (hBx.mono HB.out.size))
      clear hBx
      generalize wr.alloc (.cells #[i64 cn, i64 (ca : Nat), i64 (cb : Nat), i64 (cc : Nat)] 51) = U at *
      generalize wr.heap.size = x at *
      obtain ⟨gh, e3, y0, y1, y2, y3⟩ := (HO2.out.below HB2.out).get HCC.out
      simp only at y0 y1 y2 y3
      obtain rfl : gh = gg := by have := e3.symm.trans HE2.out; simpa using this
      subst e3
      have HS : Hid (SqCl x gh i cn ca cb cc U.drew) := ⟨cell_of_row _ _ _ _ 51 (0, 0) HX.out, cell_of_row _ _ _ _ 51 (0, 0) HX.out, cell_of_row _ _ _ _ 51 (0, 0) HX.out, cell_of_row _ _ _ _ 51 (0, 0) HX.out, y0, y1, y2, y3⟩
      clear x0 x1 x2 x3 y0 y1 y2 y3
      have hd1 : decide ((K.length : Int) ≤ (i : Int)) = false := decide_eq_false (by omega)
      refine wp_region_noPanic ?_
      refine wp_region_last (SqCl x gh i cn ca cb cc) 23 (by kernel_rfl) ?_
      refine wpL_take 0 14 (i64 (i : Nat)) [3, 4, 13, 14] rfl rfl (by kernel_rfl) (by decide) (by kernel_rfl) (by kernel_rfl) (by kernel_rfl) (fun _ _ _ h => h) HS.out (by rfl) (fun W hW => by obtain ⟨z0, z1, z2, z3, z4, z5, z6, z7⟩ := hW; go_simp) ?_
      simp only [Act.put, List.setIfInBounds_toArray, List.set_cons_zero, List.set_cons_succ]
      refine wpL_take 1 15 (.slice (some ⟨gh, 0, none⟩) K.length c2) [2, 3, 4, 13, 14] rfl rfl (by kernel_rfl) (by decide) (by kernel_rfl) (by kernel_rfl) (by kernel_rfl) (fun _ _ _ h => h) HS.out (by rfl) (fun W hW => by obtain ⟨z0, z1, z2, z3, z4, z5, z6, z7⟩ := hW; go_simp) ?_
      simp only [Act.put, List.setIfInBounds_toArray, List.set_cons_zero, List.set_cons_succ]
      refine wpL_take 2 16 (i64 (K.length : Nat)) [3, 4, 13, 14] rfl rfl (by kernel_rfl) (by decide) (by kernel_rfl) (by kernel_rfl) (by kernel_rfl) (fun _ _ _ h => h) HS.out (by rfl) (fun W hW => by obtain ⟨z0, z1, z2, z3, z4, z5, z6, z7⟩ := hW; go_simp) ?_
      simp only [Act.put, List.setIfInBounds_toArray, List.set_cons_zero, List.set_cons_succ]
      refine wpL_take 3 17 (.bool false) [4, 13, 14] rfl rfl (by kernel_rfl) (by decide) (by kernel_rfl) (by kernel_rfl) (by kernel_rfl) (fun _ _ _ h => h) HS.out (by rfl) (fun W hW => by go_simp) ?_
      simp only [Act.put, List.setIfInBounds_toArray, List.set_cons_zero, List.set_cons_succ]
      refine wpL_take 4 18 (.bool false) [13, 14] rfl rfl (by kernel_rfl) (by decide) (by kernel_rfl) (by kernel_rfl) (by kernel_rfl) (fun _ _ _ h => h) HS.out (by rfl) (fun W hW => by obtain ⟨z0, z1, z2, z3, z4, z5, z6, z7⟩ := hW; go_simp) ?_
      simp only [Act.put, List.setIfInBounds_toArray, List.set_cons_zero, List.set_cons_succ]
      refine wpL_take 5 19 (.pointer (some ⟨x, 0, none⟩)) [6, 12, 13, 14] rfl rfl (by kernel_rfl) (by decide) (by kernel_rfl) (by kernel_rfl) (by kernel_rfl) (fun _ _ _ h => h) HS.out (by rfl) (fun W hW => by obtain ⟨z0, z1, z2, z3, z4, z5, z6, z7⟩ := hW; go_simp) ?_
      simp only [Act.put, List.setIfInBounds_toArray, List.set_cons_zero, List.set_cons_succ]
      refine wpL_take 6 20 (i64 cn) [12, 13, 14] rfl rfl (by kernel_rfl) (by decide) (by kernel_rfl) (by kernel_rfl) (by kernel_rfl) (fun _ _ _ h => h) HS.out (by rfl) (fun W hW => by obtain ⟨z0, z1, z2, z3, z4, z5, z6, z7⟩ := hW; go_simp) ?_
      simp only [Act.put, List.setIfInBounds_toArray, List.set_cons_zero, List.set_cons_succ]
      refine wpL_take 7 21 (.slice (some ⟨gh, 0, none⟩) K.length c2) [9, 10, 11, 12, 13, 14] rfl rfl (by kernel_rfl) (by decide) (by kernel_rfl) (by kernel_rfl) (by kernel_rfl) (fun _ _ _ h => h) HS.out (by rfl) (fun W hW => by obtain ⟨z0, z1, z2, z3, z4, z5, z6, z7⟩ := hW; go_simp) ?_
      simp only [Act.put, List.setIfInBounds_toArray, List.set_cons_zero, List.set_cons_succ]
      refine wpL_take 8 22 (i64 (i : Nat)) [9, 10, 11, 12, 13, 14] rfl rfl (by kernel_rfl) (by decide) (by kernel_rfl) (by kernel_rfl) (by kernel_rfl) (fun _ _ _ h => h) HS.out (by rfl) (fun W hW => by obtain ⟨z0, z1, z2, z3, z4, z5, z6, z7⟩ := hW; go_simp) ?_
      simp only [Act.put, List.setIfInBounds_toArray, List.set_cons_zero, List.set_cons_succ]
      refine wpL_take 9 23 (.pointer (some ⟨gh, i * 4, none⟩)) [10, 11, 12, 13, 14] rfl rfl (by kernel_rfl) (by decide) (by kernel_rfl) (by kernel_rfl) (by kernel_rfl) (fun _ _ _ h => h) HS.out (by rfl) (fun W hW => by obtain ⟨z0, z1, z2, z3, z4, z5, z6, z7⟩ := hW; go_simp) ?_
      simp only [Act.put, List.setIfInBounds_toArray, List.set_cons_zero, List.set_cons_succ]
      refine wpL_take 10 24 (.pointer (some ⟨gh, i * 4, none⟩)) [11, 12, 13, 14] rfl rfl (by kernel_rfl) (by decide) (by kernel_rfl) (by kernel_rfl) (by kernel_rfl) (fun _ _ _ h => h) HS.out (by rfl) (fun W hW => by obtain ⟨z0, z1, z2, z3, z4, z5, z6, z7⟩ := hW; go_simp) ?_
      simp only [Act.put, List.setIfInBounds_toArray, List.set_cons_zero, List.set_cons_succ]
      refine wpL_take 11 25 (i64 cn) [12, 13, 14] rfl rfl (by kernel_rfl) (by decide) (by kernel_rfl) (by kernel_rfl) (by kernel_rfl) (fun _ _ _ h => h) HS.out (by rfl) (fun W hW => by obtain ⟨z0, z1, z2, z3, z4, z5, z6, z7⟩ := hW; go_simp) ?_
      simp only [Act.put, List.setIfInBounds_toArray, List.set_cons_zero, List.set_cons_succ]
      refine wpL_take 12 26 (.bool false) [13, 14] rfl rfl (by kernel_rfl) (by decide) (by kernel_rfl) (by kernel_rfl) (by kernel_rfl) (fun _ _ _ h => h) HS.out (by rfl) (fun W hW => by obtain ⟨z0, z1, z2, z3, z4, z5, z6, z7⟩ := hW; go_simp) ?_
      simp only [Act.put, List.setIfInBounds_toArray, List.set_cons_zero, List.set_cons_succ]
      refine wpL_take 13 27 (.bool false) [14] rfl rfl (by kernel_rfl) (by decide) (by kernel_rfl) (by kernel_rfl) (by kernel_rfl) (fun _ _ _ h => h) HS.out (by rfl) (fun W hW => by obtain ⟨z0, z1, z2, z3, z4, z5, z6, z7⟩ := hW; go_simp) ?_
      simp only [Act.put, List.setIfInBounds_toArray, List.set_cons_zero, List.set_cons_succ]
      refine wpL_take 14 28 (.bool false) [] rfl rfl (by kernel_rfl) (by decide) (by kernel_rfl) (by kernel_rfl) (by kernel_rfl) (fun _ _ _ h => h) HS.out (by rfl) (fun W hW => by obtain ⟨z0, z1, z2, z3, z4, z5, z6, z7⟩ := hW; go_simp) ?_
      simp only [Act.put, List.setIfInBounds_toArray, List.set_cons_zero, List.set_cons_succ]
      refine wpL_take 15 29 (.pointer (some ⟨x, 1, none⟩)) [16, 22] rfl rfl (by kernel_rfl) (by decide) (by kernel_rfl) (by kernel_rfl) (by kernel_rfl) (fun _ _ _ h => h) HS.out (by rfl) (fun W hW => by obtain ⟨z0, z1, z2, z3, z4, z5, z6, z7⟩ := hW; go_simp) ?_
      simp only [Act.put, List.setIfInBounds_toArray, List.set_cons_zero, List.set_cons_succ]
      refine wpL_take 16 30 (.agg #[i64 ca, i64 cb, i64 cc]) [22] rfl rfl (by kernel_rfl) (by decide) (by kernel_rfl) (by kernel_rfl) (by kernel_rfl) (fun _ _ _ h => h) HS.out (by rfl) (fun W hW => by obtain ⟨z0, z1, z2, z3, z4, z5, z6, z7⟩ := hW; go_simp) ?_
      simp only [Act.put, List.setIfInBounds_toArray, List.set_cons_zero, List.set_cons_succ]
      refine wpL_take 17 31 (.slice (some ⟨gh, 0, none⟩) K.length c2) [19, 20, 21, 22] rfl rfl (by kernel_rfl) (by decide) (by kernel_rfl) (by kernel_rfl) (by kernel_rfl) (fun _ _ _ h => h) HS.out (by rfl) (fun W hW => by obtain ⟨z0, z1, z2, z3, z4, z5, z6, z7⟩ := hW; go_simp) ?_
      simp only [Act.put, List.setIfInBounds_toArray, List.set_cons_zero, List.set_cons_succ]
      refine wpL_take 18 32 (i64 (i : Nat)) [19, 20, 21, 22] rfl rfl (by kernel_rfl) (by decide) (by kernel_rfl) (by kernel_rfl) (by kernel_rfl) (fun _ _ _ h => h) HS.out (by rfl) (fun W hW => by obtain ⟨z0, z1, z2, z3, z4, z5, z6, z7⟩ := hW; go_simp) ?_
      simp only [Act.put, List.setIfInBounds_toArray, List.set_cons_zero, List.set_cons_succ]
      refine wpL_take 19 33 (.pointer (some ⟨gh, i * 4, none⟩)) [20, 21, 22] rfl rfl (by kernel_rfl) (by decide) (by kernel_rfl) (by kernel_rfl) (by kernel_rfl) (fun _ _ _ h => h) HS.out (by rfl) (fun W hW => by obtain ⟨z0, z1, z2, z3, z4, z5, z6, z7⟩ := hW; go_simp) ?_
      simp only [Act.put, List.setIfInBounds_toArray, List.set_cons_zero, List.set_cons_succ]
      refine wpL_take 20 34 (.pointer (some ⟨gh, i * 4 + 1, none⟩)) [21, 22] rfl rfl (by kernel_rfl) (by decide) (by kernel_rfl) (by kernel_rfl) (by kernel_rfl) (fun _ _ _ h => h) HS.out (by rfl) (fun W hW => by obtain ⟨z0, z1, z2, z3, z4, z5, z6, z7⟩ := hW; go_simp) ?_
      simp only [Act.put, List.setIfInBounds_toArray, List.set_cons_zero, List.set_cons_succ]
      refine wpL_take 21 35 (.agg #[i64 ca, i64 cb, i64 cc]) [22] rfl rfl (by kernel_rfl) (by decide) (by kernel_rfl) (by kernel_rfl) (by kernel_rfl) (fun _ _ _ h => h) HS.out (by rfl) (fun W hW => by obtain ⟨z0, z1, z2, z3, z4, z5, z6, z7⟩ := hW; go_simp) ?_
      simp only [Act.put, List.setIfInBounds_toArray, List.set_cons_zero, List.set_cons_succ]
      refine wpL_take 22 36 (.bool false) [] rfl rfl (by kernel_rfl) (by decide) (by kernel_rfl) (by kernel_rfl) (by kernel_rfl) (fun _ _ _ h => h) HS.out (by rfl) (fun W hW => by have z0 := eqT49 ca cb cc W; go_simp) ?_
      simp only [Act.put, List.setIfInBounds_toArray, List.set_cons_zero, List.set_cons_succ]
      refine wpL_one 23 rfl (by kernel_rfl) (by rfl) (fun K hK => ?_)
      go_simp
      refine hK.out _ _ (fun h => absurd rfl h) ?_
      clear hK K
      refine wpL_done (by kernel_rfl) ?_
      refine NoPanic.normal ?_
      go_wp2_with fail
      exact ⟨⟨i + 1, by have := HLT.out; omega, by go_num, Below.drew HB2.out⟩, by have := HLT.out; simp [intOf]; omega⟩
    · have hEI : (i : Int) = K.length := by omega
      go_wp2_with fail
      go_ret
      exact ⟨by simp, HB.out⟩
set_option maxRecDepth 100000 in
set_option maxHeartbeats 3200000 in
theorem runs_out (w : World) (ht : Tab w) (l m : List UInt8) (ao : Option Addr) (n cap : Nat) (fuel : Int) (b : Bool) (hlb : decide (600 < l.length ∨ 600 < m.length ∨ 100 < n) = b) (h : b = true ∨ 600 < fuel ∧ fuel ≤ 5000) :
    Calls Tryd.prog 3 #[jobV l m ao n cap, i64 fuel] w fun e w' => e = .returned (.bool true) ∧ Below w.heap.size w w' := by
  have HTB := hid ht
  have HL := hid (fun v => long_b v l m ao n cap b hlb)
  have HC := hid (fun v (hv : Tab v) => call8_ok v hv)
  obtain ⟨b0, hb0⟩ : ∃ b, w.heap.size = b := ⟨_, rfl⟩
  have HJ := hid (fun v h => job_cells (w := w) (v := v) (l := l) (m := m) (ao := ao) (n := n) (cap := cap) hb0.symm h)
  clear ht hlb
  have h3 : b = true ∨ (b = false ∧ 600 < fuel ∧ fuel ≤ 5000) := by
    cases b
    · simp at h ⊢; omega
    · exact Or.inl rfl
  clear h
  rcases h3 with rfl | ⟨rfl, h1, h2⟩
  · go_enter Tryd.func3, Tryd.ntmps3
    go_wp2_with (first
      | (go_at_call 7; refine (HL.out _).mono ?_; rintro e v1 ⟨rfl, h1⟩; rw [World.size_alloc, hb0] at h1; have HBa := hid h1; clear h1; obtain ⟨a0, a1, a2⟩ := HJ.out _ HBa.out)
      | (go_at_call 8; refine (HC.out _ (HTB.out.below (jw hb0 HBa.out))).mono ?_; rintro e v2 ⟨rfl, h1⟩; have HBz := hid h1; clear h1))
    go_ret
    exact ⟨rfl, jw hb0 (jb hb0 HBa.out HBz.out)⟩
  · go_enter Tryd.func3, Tryd.ntmps3
    go_wp2_with (first
      | (go_at_call 7; refine (HL.out _).mono ?_; rintro e v1 ⟨rfl, h1⟩; rw [World.size_alloc, hb0] at h1; have HBa := hid h1; clear h1; obtain ⟨a0, a1, a2⟩ := HJ.out _ HBa.out)
      | (go_at_call 8; refine (HC.out _ (HTB.out.below (jw hb0 HBa.out))).mono ?_; rintro e v2 ⟨rfl, h1⟩; have HBz := hid h1; clear h1))
    go_ret
    exact ⟨rfl, jw hb0 (jb hb0 HBa.out HBz.out)⟩
set_option maxRecDepth 100000 in
set_option maxHeartbeats 3200000 in
theorem runs_long (w : World) (ht : Tab w) (l m : List UInt8) (ao : Option Addr) (n cap : Nat) (fuel : Int) (hlb : decide (600 < l.length ∨ 600 < m.length ∨ 100 < n) = false) (hf : fuel ≤ 600 ∨ 5000 < fuel) (h : 256 < l.length ∨ 256 < m.length) :
    Calls Tryd.prog 3 #[jobV l m ao n cap, i64 fuel] w fun e w' => e = .returned (.bool true) ∧ Below w.heap.size w w' := by
  have HTB := hid ht
  have HL := hid (fun v => long_b v l m ao n cap false hlb)
  have HC := hid (fun v (hv : Tab v) => call8_ok v hv)
  obtain ⟨b0, hb0⟩ : ∃ b, w.heap.size = b := ⟨_, rfl⟩
  have HJ := hid (fun v h => job_cells (w := w) (v := v) (l := l) (m := m) (ao := ao) (n := n) (cap := cap) hb0.symm h)
  have HR := hid (fun v f => run_long v l m (.slice ao n cap) f h)
  have hg : (256 : Int) < l.length ∨ (¬ (256 : Int) < l.length ∧ (256 : Int) < m.length) := by omega
  clear ht hlb h
  rcases hf with hf | hf <;> rcases hg with hg | ⟨hg, hg2⟩
  · go_enter Tryd.func3, Tryd.ntmps3
    go_upto_region 3 with (first
      | (go_at_call 7; refine (HL.out _).mono ?_; rintro e v1 ⟨rfl, h1⟩; rw [World.size_alloc, hb0] at h1; have HBa := hid h1; clear h1; obtain ⟨a0, a1, a2⟩ := HJ.out _ HBa.out))
    go_upto_region 4 with (go_at_call 9; refine (HR.out _ _).mono ?_; rintro e v2 ⟨rfl, h1⟩; have HB2 := hid h1; clear h1)
    have HB3 := hid (jb hb0 (jb hb0 HBa.out HB2.out) (below_one v2 Z33))
    obtain ⟨i0, i1, i2⟩ := HJ.out _ HB3.out
    clear a0 a1 a2
    have z0 : (v2.alloc Z33).cell? ⟨v2.heap.size, 0, none⟩ = some (i64 0) := by rw [cell_of_row _ _ _ _ 33 (0, 0) (heap_at rfl Z33)]; rfl
    generalize v2.alloc Z33 = V3 at *
    generalize v2.heap.size = p at *
    go_wp2_with (first
      | (go_at_call 8; refine (HC.out _ (HTB.out.below (jw hb0 HB3.out))).mono ?_; rintro e v4 ⟨rfl, h1⟩; have HBz := hid h1; clear h1))
    go_ret
    exact ⟨rfl, jw hb0 (jb hb0 HB3.out HBz.out)⟩
  · go_enter Tryd.func3, Tryd.ntmps3
    go_upto_region 3 with (first
      | (go_at_call 7; refine (HL.out _).mono ?_; rintro e v1 ⟨rfl, h1⟩; rw [World.size_alloc, hb0] at h1; have HBa := hid h1; clear h1; obtain ⟨a0, a1, a2⟩ := HJ.out _ HBa.out))
    go_upto_region 4 with (go_at_call 9; refine (HR.out _ _).mono ?_; rintro e v2 ⟨rfl, h1⟩; have HB2 := hid h1; clear h1)
    have HB3 := hid (jb hb0 (jb hb0 HBa.out HB2.out) (below_one v2 Z33))
    obtain ⟨i0, i1, i2⟩ := HJ.out _ HB3.out
    clear a0 a1 a2
    have z0 : (v2.alloc Z33).cell? ⟨v2.heap.size, 0, none⟩ = some (i64 0) := by rw [cell_of_row _ _ _ _ 33 (0, 0) (heap_at rfl Z33)]; rfl
    generalize v2.alloc Z33 = V3 at *
    generalize v2.heap.size = p at *
    go_wp2_with (first
      | (go_at_call 8; refine (HC.out _ (HTB.out.below (jw hb0 HB3.out))).mono ?_; rintro e v4 ⟨rfl, h1⟩; have HBz := hid h1; clear h1))
    go_ret
    exact ⟨rfl, jw hb0 (jb hb0 HB3.out HBz.out)⟩
  · go_enter Tryd.func3, Tryd.ntmps3
    go_upto_region 3 with (first
      | (go_at_call 7; refine (HL.out _).mono ?_; rintro e v1 ⟨rfl, h1⟩; rw [World.size_alloc, hb0] at h1; have HBa := hid h1; clear h1; obtain ⟨a0, a1, a2⟩ := HJ.out _ HBa.out))
    go_upto_region 4 with (go_at_call 9; refine (HR.out _ _).mono ?_; rintro e v2 ⟨rfl, h1⟩; have HB2 := hid h1; clear h1)
    have HB3 := hid (jb hb0 (jb hb0 HBa.out HB2.out) (below_one v2 Z33))
    obtain ⟨i0, i1, i2⟩ := HJ.out _ HB3.out
    clear a0 a1 a2
    have z0 : (v2.alloc Z33).cell? ⟨v2.heap.size, 0, none⟩ = some (i64 0) := by rw [cell_of_row _ _ _ _ 33 (0, 0) (heap_at rfl Z33)]; rfl
    generalize v2.alloc Z33 = V3 at *
    generalize v2.heap.size = p at *
    go_wp2_with (first
      | (go_at_call 8; refine (HC.out _ (HTB.out.below (jw hb0 HB3.out))).mono ?_; rintro e v4 ⟨rfl, h1⟩; have HBz := hid h1; clear h1))
    go_ret
    exact ⟨rfl, jw hb0 (jb hb0 HB3.out HBz.out)⟩
  · go_enter Tryd.func3, Tryd.ntmps3
    go_upto_region 3 with (first
      | (go_at_call 7; refine (HL.out _).mono ?_; rintro e v1 ⟨rfl, h1⟩; rw [World.size_alloc, hb0] at h1; have HBa := hid h1; clear h1; obtain ⟨a0, a1, a2⟩ := HJ.out _ HBa.out))
    go_upto_region 4 with (go_at_call 9; refine (HR.out _ _).mono ?_; rintro e v2 ⟨rfl, h1⟩; have HB2 := hid h1; clear h1)
    have HB3 := hid (jb hb0 (jb hb0 HBa.out HB2.out) (below_one v2 Z33))
    obtain ⟨i0, i1, i2⟩ := HJ.out _ HB3.out
    clear a0 a1 a2
    have z0 : (v2.alloc Z33).cell? ⟨v2.heap.size, 0, none⟩ = some (i64 0) := by rw [cell_of_row _ _ _ _ 33 (0, 0) (heap_at rfl Z33)]; rfl
    generalize v2.alloc Z33 = V3 at *
    generalize v2.heap.size = p at *
    go_wp2_with (first
      | (go_at_call 8; refine (HC.out _ (HTB.out.below (jw hb0 HB3.out))).mono ?_; rintro e v4 ⟨rfl, h1⟩; have HBz := hid h1; clear h1))
    go_ret
    exact ⟨rfl, jw hb0 (jb hb0 HB3.out HBz.out)⟩
set_option maxRecDepth 100000 in
set_option maxHeartbeats 3200000 in
theorem runs_arg (w : World) (ht : Tab w) (l m : List UInt8) (ao : Option Addr) (n cap : Nat) (fuel : Int) (hlb : decide (600 < l.length ∨ 600 < m.length ∨ 100 < n) = false) (hl : l.length ≤ 256) (hm : m.length ≤ 256) (hf : fuel < 0 ∨ 5000 < fuel) :
    Calls Tryd.prog 3 #[jobV l m ao n cap, i64 fuel] w fun e w' => e = .returned (.bool true) ∧ Below w.heap.size w w' := by
  have HTB := hid ht
  have HL := hid (fun v => long_b v l m ao n cap false hlb)
  have HC := hid (fun v (hv : Tab v) => call8_ok v hv)
  obtain ⟨b0, hb0⟩ : ∃ b, w.heap.size = b := ⟨_, rfl⟩
  have HJ := hid (fun v h => job_cells (w := w) (v := v) (l := l) (m := m) (ao := ao) (n := n) (cap := cap) hb0.symm h)
  have HR := hid (fun v => run_arg v l m (.slice ao n cap) fuel hl hm hf)
  have hg : ¬ (256 : Int) < l.length := by omega
  have hg2 : ¬ (256 : Int) < m.length := by omega
  clear ht hlb
  rcases hf with hf | hf
  · go_enter Tryd.func3, Tryd.ntmps3
    go_upto_region 3 with (first
      | (go_at_call 7; refine (HL.out _).mono ?_; rintro e v1 ⟨rfl, h1⟩; rw [World.size_alloc, hb0] at h1; have HBa := hid h1; clear h1; obtain ⟨a0, a1, a2⟩ := HJ.out _ HBa.out))
    go_upto_region 4 with (go_at_call 9; refine (HR.out _).mono ?_; rintro e v2 ⟨rfl, h1⟩; have HB2 := hid h1; clear h1)
    have HB3 := hid (jb hb0 (jb hb0 HBa.out HB2.out) (below_one v2 Z33))
    obtain ⟨i0, i1, i2⟩ := HJ.out _ HB3.out
    clear a0 a1 a2
    have z0 : (v2.alloc Z33).cell? ⟨v2.heap.size, 0, none⟩ = some (i64 0) := by rw [cell_of_row _ _ _ _ 33 (0, 0) (heap_at rfl Z33)]; rfl
    generalize v2.alloc Z33 = V3 at *
    generalize v2.heap.size = p at *
    go_wp2_with (first
      | (go_at_call 8; refine (HC.out _ (HTB.out.below (jw hb0 HB3.out))).mono ?_; rintro e v4 ⟨rfl, h1⟩; have HBz := hid h1; clear h1))
    go_ret
    exact ⟨rfl, jw hb0 (jb hb0 HB3.out HBz.out)⟩
  · go_enter Tryd.func3, Tryd.ntmps3
    go_upto_region 3 with (first
      | (go_at_call 7; refine (HL.out _).mono ?_; rintro e v1 ⟨rfl, h1⟩; rw [World.size_alloc, hb0] at h1; have HBa := hid h1; clear h1; obtain ⟨a0, a1, a2⟩ := HJ.out _ HBa.out))
    go_upto_region 4 with (go_at_call 9; refine (HR.out _).mono ?_; rintro e v2 ⟨rfl, h1⟩; have HB2 := hid h1; clear h1)
    have HB3 := hid (jb hb0 (jb hb0 HBa.out HB2.out) (below_one v2 Z33))
    obtain ⟨i0, i1, i2⟩ := HJ.out _ HB3.out
    clear a0 a1 a2
    have z0 : (v2.alloc Z33).cell? ⟨v2.heap.size, 0, none⟩ = some (i64 0) := by rw [cell_of_row _ _ _ _ 33 (0, 0) (heap_at rfl Z33)]; rfl
    generalize v2.alloc Z33 = V3 at *
    generalize v2.heap.size = p at *
    go_wp2_with (first
      | (go_at_call 8; refine (HC.out _ (HTB.out.below (jw hb0 HB3.out))).mono ?_; rintro e v4 ⟨rfl, h1⟩; have HBz := hid h1; clear h1))
    go_ret
    exact ⟨rfl, jw hb0 (jb hb0 HB3.out HBz.out)⟩
theorem guard30 (x y : Operand) (C D : List Nat) (W : World) : (eqGuard .eql 30 x y (cpV C) (cpV D)).run Tryd.prog W = .ok () W := by
  have h : Tryd.prog.eqGuardType Tryd.prog.depth 30 = false := by kernel_rfl
  unfold eqGuard
  simp [h]
theorem exec_eql {P : Program} {op : Oper} {a : Act} {w : World} {u v r : Value} (b : BinOp) (ty ty2 : TypeId) (x y : Operand) (ho : op.op = .binOp b ty x y ty2) (hx : a.eval x = u) (hy : a.eval y = v) (hg : (eqGuard b ty x y u v).run P w = .ok () w) (h : (binOp b ty u v).run P w = .ok r w) : (execOp a.eval op).run P w = .ok (.value r) w := by
  unfold execOp
  simp only [ho, hx, hy, hg, h, Sem.run_bind, Sem.run_pure, Result.andThen_ok]
structure SqU (p R : Nat) (h j : Nat) (C : List Nat) (M : List UInt8) (o1 o2 : Option Addr) (k c1 c2 gm cm : Nat) (W : World) : Prop where
  s0 : W.cell? ⟨p, 0, none⟩ = some (i64 (h : Nat))
  s1 : W.cell? ⟨p, 1, none⟩ = some (i64 (j : Nat))
  s2 : (loadVar 30 ⟨p, 2, none⟩).run Tryd.prog W = .ok (cpV C) W
  s3 : W.cell? ⟨p, 11, none⟩ = some (.string ⟨M.toArray⟩)
  s4 : W.cell? ⟨p, 12, none⟩ = some (.slice o1 k c1)
  t0 : W.cell? ⟨R, 0, none⟩ = some (i64 (h : Nat))
  t1 : W.cell? ⟨R, 1, none⟩ = some (i64 (j : Nat))
  t2 : (loadVar 30 ⟨R, 2, none⟩).run Tryd.prog W = .ok (cpV C) W
  t3 : W.cell? ⟨R, 11, none⟩ = some (.slice (some ⟨gm, 0, none⟩) 256 cm)
  t4 : W.cell? ⟨R, 12, none⟩ = some (.slice o2 k c2)
  t5 : (convert 41 9 (.slice (some ⟨gm, 0, none⟩) 256 cm)).run Tryd.prog W = .ok (.string ⟨M.toArray⟩) W
theorem SqU.of {W : World} {p base R h j : Nat} {C : List Nat} {M : List UInt8} {K : List Cl} {o1 o2 : Option Addr} {c1 c2 gm cm : Nat} (hp : Res W p h j C M o1 K.length c1) (hr : Rr W base R h j C M K gm cm (.slice o2 K.length c2)) : SqU p R h j C M o1 o2 K.length c1 c2 gm cm W := by
  obtain ⟨p0, p1, p11, p12, pr⟩ := hp.cells
  obtain ⟨c0, c1', c11, c12, cp, rg, fz⟩ := hr.cells
  refine ⟨p0, p1, run_loadVar_mid _ _ 2 30 _ _ pr Tryd.underlying30 rfl (cpC_info hp.rg), p11, p12, c0, c1', run_loadVar_mid _ _ 2 30 _ _ cp Tryd.underlying30 rfl (cpC_info hr.rg), c11, c12, ?_⟩
  have := run_convert_bytes_back (P := Tryd.prog) W 41 9 5 ⟨gm, 0, none⟩ cm M Tryd.underlying41 (by kernel_rfl) (by kernel_rfl) (fun i hi => by
    rw [Addr.add_mid, Nat.zero_add, (hr.byte i (by rw [← hr.mem]; exact hi)).1]
    simp [List.getD_eq_getElem?_getD, hi])
  rw [hr.mem] at this
  exact this
theorem Rr.OR {W : World} {base R h j : Nat} {C : List Nat} {M : List UInt8} {K : List Cl} {gm cm c2 : Nat} {o2 : Option Addr} (hr : Rr W base R h j C M K gm cm (.slice o2 K.length c2)) : OR W o2 K := by
  have hl := hr.ko.1
  rcases hr.ko.2 with ⟨_, h0⟩ | ⟨g, cap, cur, hv, hb, hg, h1, h2, h3, ht⟩
  · exact Or.inl h0
  · simp only [Value.slice.injEq, true_and] at hv
    obtain ⟨rfl, rfl⟩ := hv
    exact Or.inr ⟨g, rfl, blt hg, fun j hj => by
      rw [cell_of_row _ _ _ _ 69 (0, 0) hg, ← ht, List.getElem?_take, if_pos hj]
      simp⟩
set_option maxRecDepth 100000 in
set_option maxHeartbeats 3200000 in
theorem runs_in (w : World) (ht : Tab w) (l m : List UInt8) (ao : Option Addr) (cap : Nat) (A : List Int) (F : Nat) (hlb : decide (600 < l.length ∨ 600 < m.length ∨ 100 < A.length) = false) (hF : F ≤ 600) (hl : l.length ≤ 256) (hm : m.length ≤ 256) (ha : ASl w w.heap.size w.heap.size (.slice ao A.length cap) A) :
    Calls Tryd.prog 3 #[jobV l m ao A.length cap, i64 F] w fun e w' => e = .returned (.bool true) ∧ Below w.heap.size w w' := by
  have HTB := hid ht
  have HL := hid (fun v => long_b v l m ao A.length cap false hlb)
  have HC := hid (fun v (hv : Tab v) => call8_ok v hv)
  obtain ⟨b0, hb0⟩ : ∃ b, w.heap.size = b := ⟨_, rfl⟩
  have HJ := hid (fun v h => job_cells (w := w) (v := v) (l := l) (m := m) (ao := ao) (n := A.length) (cap := cap) hb0.symm h)
  have HR1 := hid (fun v (hv : Below w.heap.size w v) => run_in v (ht.below hv) l m ao cap A F _ rfl hl hm (by omega) (ha.at hv))
  have HO := hid (fun v (hv : Below w.heap.size w v) => rof_ok v l m ao cap A F hl hm (by omega) (asl_at ha hv hv.size))
  have HRF := hid (fun v => ref_ok v l m ao A.length cap)
  have hkb : (itP l F (s0P m A)).2.2.K.length ≤ 600 := by have := itP_Kn l (s0P m A) F; have h0 : (s0P m A).K.length = 0 := rfl; omega
  have hc1 := (itP_rg l (s0P_ok hm A) F).rg
  generalize itP l F (s0P m A) = r1 at *
  obtain ⟨h1, j, s⟩ := r1
  simp only at hkb
  have HC1 := hid hc1
  have hFI : (F : Int) ≤ 600 := by omega
  have hlI : ¬ (256 : Int) < l.length := by omega
  have hmI : ¬ (256 : Int) < m.length := by omega
  clear ht ha hlb hc1
  go_enter Tryd.func3, Tryd.ntmps3
  go_upto_region 3 with (first
    | (go_at_call 7; refine (HL.out _).mono ?_; rintro e v1 ⟨rfl, h1⟩; rw [World.size_alloc, hb0] at h1; have HBa := hid h1; clear h1; obtain ⟨a0, a1, a2⟩ := HJ.out _ HBa.out))
  go_upto_region 4 with (first
    | (go_at_call 9; refine (HR1.out _ (jw hb0 HBa.out)).mono ?_; rintro e v2 ⟨vc, rfl, q2, q3⟩; obtain ⟨o1, c1, rfl, hcc1, hg1⟩ := own_cells q2; have HB2 := hid q3; have HG1 := hid hg1; have HST1 := hid (res_stored v2 (h := hwP h1) (j := j) HC1.out s.M (.slice o1 s.K.length c1)); clear q2 q3 hg1)
    | (refine wpList_store_mid rfl 33 (.tmp 5) (.tmp 28) rfl v2.heap.size 0 (resC (hwP h1) j s.C s.M (.slice o1 s.K.length c1)).toArray rfl rfl (by exact HST1.out.2.2.1) (by rw [List.size_toArray, resC_len HC1.out]; exact infoR33) (by exact res_one _ _ _ _ _ _ _) ?_))
  have HB3 := hid (jb hb0 (jb hb0 HBa.out HB2.out) HST1.out.2.1)
  have HP3 : Hid (Res ((v2.alloc Z33).setCells v2.heap.size 0 (resC (hwP h1) j s.C s.M (.slice o1 s.K.length c1))) v2.heap.size (hwP h1) j s.C s.M o1 s.K.length c1) := ⟨HST1.out.1, HC1.out⟩
  have HG3 := hid (HST1.out.2.1)
  clear a0 a1 a2 HST1 HB2 HBa
  obtain ⟨a0, a1, a2⟩ := HJ.out _ HB3.out
  generalize (v2.alloc Z33).setCells v2.heap.size 0 (resC (hwP h1) j s.C s.M (.slice o1 s.K.length c1)) = V3 at *
  have HO3 : Hid (OR V3 o1 s.K) := OR.below (show OR v2 o1 s.K from HG1.out) HG3.out
  clear HG1 HG3
  generalize v2.heap.size = p at *
  go_upto_region 9 with (first
    | (go_at_call 11; refine (HRF.out _).mono ?_; rintro e v4 ⟨rfl, q1⟩; have HB4 := hid (jb hb0 HB3.out q1); have HP4 := hid (HP3.out.below q1); have HO4 := hid (HO3.out.below q1); clear q1)
    | (go_at_call 10; refine (HO.out _ (jw hb0 HB4.out)).mono ?_; rintro e v5 ⟨rfl, ⟨gm, cm, vk, hr⟩, q1⟩; have HBd := hid (jb hb0 HB4.out q1); have HP5 := hid (HP4.out.below q1); have HO5 := hid (HO4.out.below q1); have HR5 := hid hr; clear q1 hr))
  obtain ⟨o2, c2, rfl, _⟩ := own_slice HR5.out.ko
  clear a0 a1 a2 HB4 HP4 HO4 HP3 HO3
  try simp only at HR5
  generalize v4.heap.size + 1 = R at *
  generalize hwP h1 = h at *
  have HEQ := hid (fun W => by have := eql25 HC1.out.len HC1.out.len W; rw [decide_eq_true rfl] at this; exact this)
  have HSQ := hid (SqU.of HP5.out HR5.out)
  have HORR := hid HR5.out.OR
  generalize hKK : s.K = L at *
  generalize s.C = C at *
  generalize s.M = M at *
  have HS : Hid (SqU p R h j C M o1 o2 L.length c1 c2 gm cm v5.drew) := SqU.of (W := v5.drew) (base := v4.heap.size) ((HP5.out.below ⟨rfl, rfl, rfl, Nat.le_refl _, fun _ _ => rfl⟩)) ((HR5.out.below ⟨rfl, rfl, rfl, Nat.le_refl _, fun _ _ => rfl⟩))
  have HCL := hid (calls_ok v5.drew o1 o2 c1 c2 L (HO5.out.below ⟨rfl, rfl, rfl, Nat.le_refl _, fun _ _ => rfl⟩) (HORR.out.below ⟨rfl, rfl, rfl, Nat.le_refl _, fun _ _ => rfl⟩) (by omega))
  refine wp_region_noPanic ?_
  refine wp_region_last (SqU p R h j C M o1 o2 L.length c1 c2 gm cm) 51 (by kernel_rfl) ?_
  refine wpL_take 0 70 (i64 0) [1, 2, 10, 11, 19, 20, 28, 29, 38, 39, 47, 48, 50] rfl rfl (by kernel_rfl) (by decide) (by kernel_rfl) (by kernel_rfl) (by kernel_rfl) (fun _ _ _ h => h) HS.out (by rfl) (fun W hW => by obtain ⟨z0, z1, z2, z3, z4, y0, y1, y2, y3, y4, y5⟩ := hW; go_simp) ?_
  simp only [Act.put, List.setIfInBounds_toArray, List.set_cons_zero, List.set_cons_succ]
  refine wpL_take 1 71 (.bool true) [2, 10, 11, 19, 20, 28, 29, 38, 39, 47, 48, 50] rfl rfl (by kernel_rfl) (by decide) (by kernel_rfl) (by kernel_rfl) (by kernel_rfl) (fun _ _ _ h => h) HS.out (by rfl) (fun W hW => by obtain ⟨z0, z1, z2, z3, z4, y0, y1, y2, y3, y4, y5⟩ := hW; go_simp) ?_
  simp only [Act.put, List.setIfInBounds_toArray, List.set_cons_zero, List.set_cons_succ]
  refine wpL_take 2 72 (.bool true) [10, 11, 19, 20, 28, 29, 38, 39, 47, 48, 50] rfl rfl (by kernel_rfl) (by decide) (by kernel_rfl) (by kernel_rfl) (by kernel_rfl) (fun _ _ _ h => h) HS.out (by rfl) (fun W hW => by obtain ⟨z0, z1, z2, z3, z4, y0, y1, y2, y3, y4, y5⟩ := hW; go_simp) ?_
  simp only [Act.put, List.setIfInBounds_toArray, List.set_cons_zero, List.set_cons_succ]
  refine wpL_take 3 73 (.pointer (some ⟨p, 0, none⟩)) [4, 9, 10, 11, 19, 20, 28, 29, 38, 39, 47, 48, 50] rfl rfl (by kernel_rfl) (by decide) (by kernel_rfl) (by kernel_rfl) (by kernel_rfl) (fun _ _ _ h => h) HS.out (by rfl) (fun W hW => by obtain ⟨z0, z1, z2, z3, z4, y0, y1, y2, y3, y4, y5⟩ := hW; go_simp) ?_
  simp only [Act.put, List.setIfInBounds_toArray, List.set_cons_zero, List.set_cons_succ]
  refine wpL_take 4 74 (i64 (h : Nat)) [9, 10, 11, 19, 20, 28, 29, 38, 39, 47, 48, 50] rfl rfl (by kernel_rfl) (by decide) (by kernel_rfl) (by kernel_rfl) (by kernel_rfl) (fun _ _ _ h => h) HS.out (by rfl) (fun W hW => by obtain ⟨z0, z1, z2, z3, z4, y0, y1, y2, y3, y4, y5⟩ := hW; go_simp) ?_
  simp only [Act.put, List.setIfInBounds_toArray, List.set_cons_zero, List.set_cons_succ]
  refine wpL_take 5 75 (.pointer (some ⟨R, 0, none⟩)) [6, 7, 8, 9, 10, 11, 19, 20, 28, 29, 38, 39, 47, 48, 50] rfl rfl (by kernel_rfl) (by decide) (by kernel_rfl) (by kernel_rfl) (by kernel_rfl) (fun _ _ _ h => h) HS.out (by rfl) (fun W hW => by obtain ⟨z0, z1, z2, z3, z4, y0, y1, y2, y3, y4, y5⟩ := hW; go_simp) ?_
  simp only [Act.put, List.setIfInBounds_toArray, List.set_cons_zero, List.set_cons_succ]
  refine wpL_take 6 76 (.pointer (some ⟨R, 0, none⟩)) [7, 8, 9, 10, 11, 19, 20, 28, 29, 38, 39, 47, 48, 50] rfl rfl (by kernel_rfl) (by decide) (by kernel_rfl) (by kernel_rfl) (by kernel_rfl) (fun _ _ _ h => h) HS.out (by rfl) (fun W hW => by obtain ⟨z0, z1, z2, z3, z4, y0, y1, y2, y3, y4, y5⟩ := hW; go_simp) ?_
  simp only [Act.put, List.setIfInBounds_toArray, List.set_cons_zero, List.set_cons_succ]
  refine wpL_take 7 77 (.pointer (some ⟨R, 0, none⟩)) [8, 9, 10, 11, 19, 20, 28, 29, 38, 39, 47, 48, 50] rfl rfl (by kernel_rfl) (by decide) (by kernel_rfl) (by kernel_rfl) (by kernel_rfl) (fun _ _ _ h => h) HS.out (by rfl) (fun W hW => by obtain ⟨z0, z1, z2, z3, z4, y0, y1, y2, y3, y4, y5⟩ := hW; go_simp) ?_
  simp only [Act.put, List.setIfInBounds_toArray, List.set_cons_zero, List.set_cons_succ]
  refine wpL_take 8 78 (i64 (h : Nat)) [9, 10, 11, 19, 20, 28, 29, 38, 39, 47, 48, 50] rfl rfl (by kernel_rfl) (by decide) (by kernel_rfl) (by kernel_rfl) (by kernel_rfl) (fun _ _ _ h => h) HS.out (by rfl) (fun W hW => by obtain ⟨z0, z1, z2, z3, z4, y0, y1, y2, y3, y4, y5⟩ := hW; go_simp) ?_
  simp only [Act.put, List.setIfInBounds_toArray, List.set_cons_zero, List.set_cons_succ]
  refine wpL_take 9 79 (.bool true) [10, 11, 19, 20, 28, 29, 38, 39, 47, 48, 50] rfl rfl (by kernel_rfl) (by decide) (by kernel_rfl) (by kernel_rfl) (by kernel_rfl) (fun _ _ _ h => h) HS.out (by rfl) (fun W hW => by obtain ⟨z0, z1, z2, z3, z4, y0, y1, y2, y3, y4, y5⟩ := hW; go_simp) ?_
  simp only [Act.put, List.setIfInBounds_toArray, List.set_cons_zero, List.set_cons_succ]
  refine wpL_take 10 80 (.bool true) [11, 19, 20, 28, 29, 38, 39, 47, 48, 50] rfl rfl (by kernel_rfl) (by decide) (by kernel_rfl) (by kernel_rfl) (by kernel_rfl) (fun _ _ _ h => h) HS.out (by rfl) (fun W hW => by obtain ⟨z0, z1, z2, z3, z4, y0, y1, y2, y3, y4, y5⟩ := hW; go_simp) ?_
  simp only [Act.put, List.setIfInBounds_toArray, List.set_cons_zero, List.set_cons_succ]
  refine wpL_take 11 81 (.bool true) [19, 20, 28, 29, 38, 39, 47, 48, 50] rfl rfl (by kernel_rfl) (by decide) (by kernel_rfl) (by kernel_rfl) (by kernel_rfl) (fun _ _ _ h => h) HS.out (by rfl) (fun W hW => by obtain ⟨z0, z1, z2, z3, z4, y0, y1, y2, y3, y4, y5⟩ := hW; go_simp) ?_
  simp only [Act.put, List.setIfInBounds_toArray, List.set_cons_zero, List.set_cons_succ]
  refine wpL_take 12 82 (.pointer (some ⟨p, 1, none⟩)) [13, 18, 19, 20, 28, 29, 38, 39, 47, 48, 50] rfl rfl (by kernel_rfl) (by decide) (by kernel_rfl) (by kernel_rfl) (by kernel_rfl) (fun _ _ _ h => h) HS.out (by rfl) (fun W hW => by obtain ⟨z0, z1, z2, z3, z4, y0, y1, y2, y3, y4, y5⟩ := hW; go_simp) ?_
  simp only [Act.put, List.setIfInBounds_toArray, List.set_cons_zero, List.set_cons_succ]
  refine wpL_take 13 83 (i64 (j : Nat)) [18, 19, 20, 28, 29, 38, 39, 47, 48, 50] rfl rfl (by kernel_rfl) (by decide) (by kernel_rfl) (by kernel_rfl) (by kernel_rfl) (fun _ _ _ h => h) HS.out (by rfl) (fun W hW => by obtain ⟨z0, z1, z2, z3, z4, y0, y1, y2, y3, y4, y5⟩ := hW; go_simp) ?_
  simp only [Act.put, List.setIfInBounds_toArray, List.set_cons_zero, List.set_cons_succ]
  refine wpL_take 14 84 (.pointer (some ⟨R, 0, none⟩)) [15, 16, 17, 18, 19, 20, 28, 29, 38, 39, 47, 48, 50] rfl rfl (by kernel_rfl) (by decide) (by kernel_rfl) (by kernel_rfl) (by kernel_rfl) (fun _ _ _ h => h) HS.out (by rfl) (fun W hW => by obtain ⟨z0, z1, z2, z3, z4, y0, y1, y2, y3, y4, y5⟩ := hW; go_simp) ?_
  simp only [Act.put, List.setIfInBounds_toArray, List.set_cons_zero, List.set_cons_succ]
  refine wpL_take 15 85 (.pointer (some ⟨R, 0, none⟩)) [16, 17, 18, 19, 20, 28, 29, 38, 39, 47, 48, 50] rfl rfl (by kernel_rfl) (by decide) (by kernel_rfl) (by kernel_rfl) (by kernel_rfl) (fun _ _ _ h => h) HS.out (by rfl) (fun W hW => by obtain ⟨z0, z1, z2, z3, z4, y0, y1, y2, y3, y4, y5⟩ := hW; go_simp) ?_
  simp only [Act.put, List.setIfInBounds_toArray, List.set_cons_zero, List.set_cons_succ]
  refine wpL_take 16 86 (.pointer (some ⟨R, 1, none⟩)) [17, 18, 19, 20, 28, 29, 38, 39, 47, 48, 50] rfl rfl (by kernel_rfl) (by decide) (by kernel_rfl) (by kernel_rfl) (by kernel_rfl) (fun _ _ _ h => h) HS.out (by rfl) (fun W hW => by obtain ⟨z0, z1, z2, z3, z4, y0, y1, y2, y3, y4, y5⟩ := hW; go_simp) ?_
  simp only [Act.put, List.setIfInBounds_toArray, List.set_cons_zero, List.set_cons_succ]
  refine wpL_take 17 87 (i64 (j : Nat)) [18, 19, 20, 28, 29, 38, 39, 47, 48, 50] rfl rfl (by kernel_rfl) (by decide) (by kernel_rfl) (by kernel_rfl) (by kernel_rfl) (fun _ _ _ h => h) HS.out (by rfl) (fun W hW => by obtain ⟨z0, z1, z2, z3, z4, y0, y1, y2, y3, y4, y5⟩ := hW; go_simp) ?_
  simp only [Act.put, List.setIfInBounds_toArray, List.set_cons_zero, List.set_cons_succ]
  refine wpL_take 18 88 (.bool true) [19, 20, 28, 29, 38, 39, 47, 48, 50] rfl rfl (by kernel_rfl) (by decide) (by kernel_rfl) (by kernel_rfl) (by kernel_rfl) (fun _ _ _ h => h) HS.out (by rfl) (fun W hW => by obtain ⟨z0, z1, z2, z3, z4, y0, y1, y2, y3, y4, y5⟩ := hW; go_simp) ?_
  simp only [Act.put, List.setIfInBounds_toArray, List.set_cons_zero, List.set_cons_succ]
  refine wpL_take 19 89 (.bool true) [20, 28, 29, 38, 39, 47, 48, 50] rfl rfl (by kernel_rfl) (by decide) (by kernel_rfl) (by kernel_rfl) (by kernel_rfl) (fun _ _ _ h => h) HS.out (by rfl) (fun W hW => by obtain ⟨z0, z1, z2, z3, z4, y0, y1, y2, y3, y4, y5⟩ := hW; go_simp) ?_
  simp only [Act.put, List.setIfInBounds_toArray, List.set_cons_zero, List.set_cons_succ]
  refine wpL_take 20 90 (.bool true) [28, 29, 38, 39, 47, 48, 50] rfl rfl (by kernel_rfl) (by decide) (by kernel_rfl) (by kernel_rfl) (by kernel_rfl) (fun _ _ _ h => h) HS.out (by rfl) (fun W hW => by obtain ⟨z0, z1, z2, z3, z4, y0, y1, y2, y3, y4, y5⟩ := hW; go_simp) ?_
  simp only [Act.put, List.setIfInBounds_toArray, List.set_cons_zero, List.set_cons_succ]
  refine wpL_take 21 91 (.pointer (some ⟨p, 2, none⟩)) [22, 27, 28, 29, 38, 39, 47, 48, 50] rfl rfl (by kernel_rfl) (by decide) (by kernel_rfl) (by kernel_rfl) (by kernel_rfl) (fun _ _ _ h => h) HS.out (by rfl) (fun W hW => by obtain ⟨z0, z1, z2, z3, z4, y0, y1, y2, y3, y4, y5⟩ := hW; go_simp) ?_
  simp only [Act.put, List.setIfInBounds_toArray, List.set_cons_zero, List.set_cons_succ]
  refine wpL_take 22 92 (cpV C) [27, 28, 29, 38, 39, 47, 48, 50] rfl rfl (by kernel_rfl) (by decide) (by kernel_rfl) (by kernel_rfl) (by kernel_rfl) (fun _ _ _ h => h) HS.out (by rfl) (fun W hW => by exact exec_load 30 (.tmp 91) rfl rfl hW.s2) ?_
  simp only [Act.put, List.setIfInBounds_toArray, List.set_cons_zero, List.set_cons_succ]
  refine wpL_take 23 93 (.pointer (some ⟨R, 0, none⟩)) [24, 25, 26, 27, 28, 29, 38, 39, 47, 48, 50] rfl rfl (by kernel_rfl) (by decide) (by kernel_rfl) (by kernel_rfl) (by kernel_rfl) (fun _ _ _ h => h) HS.out (by rfl) (fun W hW => by obtain ⟨z0, z1, z2, z3, z4, y0, y1, y2, y3, y4, y5⟩ := hW; go_simp) ?_
  simp only [Act.put, List.setIfInBounds_toArray, List.set_cons_zero, List.set_cons_succ]
  refine wpL_take 24 94 (.pointer (some ⟨R, 0, none⟩)) [25, 26, 27, 28, 29, 38, 39, 47, 48, 50] rfl rfl (by kernel_rfl) (by decide) (by kernel_rfl) (by kernel_rfl) (by kernel_rfl) (fun _ _ _ h => h) HS.out (by rfl) (fun W hW => by obtain ⟨z0, z1, z2, z3, z4, y0, y1, y2, y3, y4, y5⟩ := hW; go_simp) ?_
  simp only [Act.put, List.setIfInBounds_toArray, List.set_cons_zero, List.set_cons_succ]
  refine wpL_take 25 95 (.pointer (some ⟨R, 2, none⟩)) [26, 27, 28, 29, 38, 39, 47, 48, 50] rfl rfl (by kernel_rfl) (by decide) (by kernel_rfl) (by kernel_rfl) (by kernel_rfl) (fun _ _ _ h => h) HS.out (by rfl) (fun W hW => by obtain ⟨z0, z1, z2, z3, z4, y0, y1, y2, y3, y4, y5⟩ := hW; go_simp) ?_
  simp only [Act.put, List.setIfInBounds_toArray, List.set_cons_zero, List.set_cons_succ]
  refine wpL_take 26 96 (cpV C) [27, 28, 29, 38, 39, 47, 48, 50] rfl rfl (by kernel_rfl) (by decide) (by kernel_rfl) (by kernel_rfl) (by kernel_rfl) (fun _ _ _ h => h) HS.out (by rfl) (fun W hW => by exact exec_load 30 (.tmp 95) rfl rfl hW.t2) ?_
  simp only [Act.put, List.setIfInBounds_toArray, List.set_cons_zero, List.set_cons_succ]
  refine wpL_take 27 97 (.bool true) [28, 29, 38, 39, 47, 48, 50] rfl rfl (by kernel_rfl) (by decide) (by kernel_rfl) (by kernel_rfl) (by kernel_rfl) (fun _ _ _ h => h) HS.out (by rfl) (fun W hW => by exact exec_eql .eql 30 30 (.tmp 92) (.tmp 96) rfl rfl rfl (guard30 _ _ _ _ W) (HEQ.out W)) ?_
  simp only [Act.put, List.setIfInBounds_toArray, List.set_cons_zero, List.set_cons_succ]
  refine wpL_take 28 98 (.bool true) [29, 38, 39, 47, 48, 50] rfl rfl (by kernel_rfl) (by decide) (by kernel_rfl) (by kernel_rfl) (by kernel_rfl) (fun _ _ _ h => h) HS.out (by rfl) (fun W hW => by obtain ⟨z0, z1, z2, z3, z4, y0, y1, y2, y3, y4, y5⟩ := hW; go_simp) ?_
  simp only [Act.put, List.setIfInBounds_toArray, List.set_cons_zero, List.set_cons_succ]
  refine wpL_take 29 99 (.bool true) [38, 39, 47, 48, 50] rfl rfl (by kernel_rfl) (by decide) (by kernel_rfl) (by kernel_rfl) (by kernel_rfl) (fun _ _ _ h => h) HS.out (by rfl) (fun W hW => by obtain ⟨z0, z1, z2, z3, z4, y0, y1, y2, y3, y4, y5⟩ := hW; go_simp) ?_
  simp only [Act.put, List.setIfInBounds_toArray, List.set_cons_zero, List.set_cons_succ]
  refine wpL_take 30 100 (.pointer (some ⟨p, 11, none⟩)) [31, 37, 38, 39, 47, 48, 50] rfl rfl (by kernel_rfl) (by decide) (by kernel_rfl) (by kernel_rfl) (by kernel_rfl) (fun _ _ _ h => h) HS.out (by rfl) (fun W hW => by obtain ⟨z0, z1, z2, z3, z4, y0, y1, y2, y3, y4, y5⟩ := hW; go_simp) ?_
  simp only [Act.put, List.setIfInBounds_toArray, List.set_cons_zero, List.set_cons_succ]
  refine wpL_take 31 101 (.string ⟨M.toArray⟩) [37, 38, 39, 47, 48, 50] rfl rfl (by kernel_rfl) (by decide) (by kernel_rfl) (by kernel_rfl) (by kernel_rfl) (fun _ _ _ h => h) HS.out (by rfl) (fun W hW => by obtain ⟨z0, z1, z2, z3, z4, y0, y1, y2, y3, y4, y5⟩ := hW; go_simp) ?_
  simp only [Act.put, List.setIfInBounds_toArray, List.set_cons_zero, List.set_cons_succ]
  refine wpL_take 32 102 (.pointer (some ⟨R, 0, none⟩)) [33, 34, 35, 36, 37, 38, 39, 47, 48, 50] rfl rfl (by kernel_rfl) (by decide) (by kernel_rfl) (by kernel_rfl) (by kernel_rfl) (fun _ _ _ h => h) HS.out (by rfl) (fun W hW => by obtain ⟨z0, z1, z2, z3, z4, y0, y1, y2, y3, y4, y5⟩ := hW; go_simp) ?_
  simp only [Act.put, List.setIfInBounds_toArray, List.set_cons_zero, List.set_cons_succ]
  refine wpL_take 33 103 (.pointer (some ⟨R, 0, none⟩)) [34, 35, 36, 37, 38, 39, 47, 48, 50] rfl rfl (by kernel_rfl) (by decide) (by kernel_rfl) (by kernel_rfl) (by kernel_rfl) (fun _ _ _ h => h) HS.out (by rfl) (fun W hW => by obtain ⟨z0, z1, z2, z3, z4, y0, y1, y2, y3, y4, y5⟩ := hW; go_simp) ?_
  simp only [Act.put, List.setIfInBounds_toArray, List.set_cons_zero, List.set_cons_succ]
  refine wpL_take 34 104 (.pointer (some ⟨R, 11, none⟩)) [35, 36, 37, 38, 39, 47, 48, 50] rfl rfl (by kernel_rfl) (by decide) (by kernel_rfl) (by kernel_rfl) (by kernel_rfl) (fun _ _ _ h => h) HS.out (by rfl) (fun W hW => by obtain ⟨z0, z1, z2, z3, z4, y0, y1, y2, y3, y4, y5⟩ := hW; go_simp) ?_
  simp only [Act.put, List.setIfInBounds_toArray, List.set_cons_zero, List.set_cons_succ]
  refine wpL_take 35 105 (.slice (some ⟨gm, 0, none⟩) 256 cm) [36, 37, 38, 39, 47, 48, 50] rfl rfl (by kernel_rfl) (by decide) (by kernel_rfl) (by kernel_rfl) (by kernel_rfl) (fun _ _ _ h => h) HS.out (by rfl) (fun W hW => by obtain ⟨z0, z1, z2, z3, z4, y0, y1, y2, y3, y4, y5⟩ := hW; go_simp) ?_
  simp only [Act.put, List.setIfInBounds_toArray, List.set_cons_zero, List.set_cons_succ]
  refine wpL_take 36 106 (.string ⟨M.toArray⟩) [37, 38, 39, 47, 48, 50] rfl rfl (by kernel_rfl) (by decide) (by kernel_rfl) (by kernel_rfl) (by kernel_rfl) (fun _ _ _ h => h) HS.out (by rfl) (fun W hW => by have z0 := hW.t5; go_simp) ?_
  simp only [Act.put, List.setIfInBounds_toArray, List.set_cons_zero, List.set_cons_succ]
  refine wpL_take 37 107 (.bool true) [38, 39, 47, 48, 50] rfl rfl (by kernel_rfl) (by decide) (by kernel_rfl) (by kernel_rfl) (by kernel_rfl) (fun _ _ _ h => h) HS.out (by rfl) (fun W hW => by obtain ⟨z0, z1, z2, z3, z4, y0, y1, y2, y3, y4, y5⟩ := hW; go_simp) ?_
  simp only [Act.put, List.setIfInBounds_toArray, List.set_cons_zero, List.set_cons_succ]
  refine wpL_take 38 108 (.bool true) [39, 47, 48, 50] rfl rfl (by kernel_rfl) (by decide) (by kernel_rfl) (by kernel_rfl) (by kernel_rfl) (fun _ _ _ h => h) HS.out (by rfl) (fun W hW => by obtain ⟨z0, z1, z2, z3, z4, y0, y1, y2, y3, y4, y5⟩ := hW; go_simp) ?_
  simp only [Act.put, List.setIfInBounds_toArray, List.set_cons_zero, List.set_cons_succ]
  refine wpL_take 39 109 (.bool true) [47, 48, 50] rfl rfl (by kernel_rfl) (by decide) (by kernel_rfl) (by kernel_rfl) (by kernel_rfl) (fun _ _ _ h => h) HS.out (by rfl) (fun W hW => by obtain ⟨z0, z1, z2, z3, z4, y0, y1, y2, y3, y4, y5⟩ := hW; go_simp) ?_
  simp only [Act.put, List.setIfInBounds_toArray, List.set_cons_zero, List.set_cons_succ]
  refine wpL_take 40 110 (.pointer (some ⟨p, 12, none⟩)) [41, 46, 47, 48, 50] rfl rfl (by kernel_rfl) (by decide) (by kernel_rfl) (by kernel_rfl) (by kernel_rfl) (fun _ _ _ h => h) HS.out (by rfl) (fun W hW => by obtain ⟨z0, z1, z2, z3, z4, y0, y1, y2, y3, y4, y5⟩ := hW; go_simp) ?_
  simp only [Act.put, List.setIfInBounds_toArray, List.set_cons_zero, List.set_cons_succ]
  refine wpL_take 41 111 (.slice o1 L.length c1) [46, 47, 48, 50] rfl rfl (by kernel_rfl) (by decide) (by kernel_rfl) (by kernel_rfl) (by kernel_rfl) (fun _ _ _ h => h) HS.out (by rfl) (fun W hW => by obtain ⟨z0, z1, z2, z3, z4, y0, y1, y2, y3, y4, y5⟩ := hW; go_simp) ?_
  simp only [Act.put, List.setIfInBounds_toArray, List.set_cons_zero, List.set_cons_succ]
  refine wpL_take 42 112 (.pointer (some ⟨R, 0, none⟩)) [43, 44, 45, 46, 47, 48, 50] rfl rfl (by kernel_rfl) (by decide) (by kernel_rfl) (by kernel_rfl) (by kernel_rfl) (fun _ _ _ h => h) HS.out (by rfl) (fun W hW => by obtain ⟨z0, z1, z2, z3, z4, y0, y1, y2, y3, y4, y5⟩ := hW; go_simp) ?_
  simp only [Act.put, List.setIfInBounds_toArray, List.set_cons_zero, List.set_cons_succ]
  refine wpL_take 43 113 (.pointer (some ⟨R, 0, none⟩)) [44, 45, 46, 47, 48, 50] rfl rfl (by kernel_rfl) (by decide) (by kernel_rfl) (by kernel_rfl) (by kernel_rfl) (fun _ _ _ h => h) HS.out (by rfl) (fun W hW => by obtain ⟨z0, z1, z2, z3, z4, y0, y1, y2, y3, y4, y5⟩ := hW; go_simp) ?_
  simp only [Act.put, List.setIfInBounds_toArray, List.set_cons_zero, List.set_cons_succ]
  refine wpL_take 44 114 (.pointer (some ⟨R, 12, none⟩)) [45, 46, 47, 48, 50] rfl rfl (by kernel_rfl) (by decide) (by kernel_rfl) (by kernel_rfl) (by kernel_rfl) (fun _ _ _ h => h) HS.out (by rfl) (fun W hW => by obtain ⟨z0, z1, z2, z3, z4, y0, y1, y2, y3, y4, y5⟩ := hW; go_simp) ?_
  simp only [Act.put, List.setIfInBounds_toArray, List.set_cons_zero, List.set_cons_succ]
  refine wpL_take 45 115 (.slice o2 L.length c2) [46, 47, 48, 50] rfl rfl (by kernel_rfl) (by decide) (by kernel_rfl) (by kernel_rfl) (by kernel_rfl) (fun _ _ _ h => h) HS.out (by rfl) (fun W hW => by obtain ⟨z0, z1, z2, z3, z4, y0, y1, y2, y3, y4, y5⟩ := hW; go_simp) ?_
  simp only [Act.put, List.setIfInBounds_toArray, List.set_cons_zero, List.set_cons_succ]
  refine wpL_one 46 rfl (by kernel_rfl) (by rfl) (fun K hK => ?_)
  go_simp
  refine HCL.out.mono ?_
  rintro e v6 ⟨rfl, q0⟩
  have hdd : Below v5.heap.size v5 v5.drew := ⟨rfl, rfl, rfl, Nat.le_refl _, fun _ _ => rfl⟩
  have q1 := hdd.trans q0
  clear q0 hdd
  have HS6 : Hid (SqU p R h j C M o1 o2 L.length c1 c2 gm cm v6) := SqU.of (base := v4.heap.size) (HP5.out.below q1) (HR5.out.below q1)
  have HB6 := hid (jb hb0 HBd.out q1)
  have HP6 := hid (HP5.out.below q1)
  have HR6 := hid (HR5.out.below q1)
  clear q1
  go_simp
  refine hK.out _ _ (fun _ => HS6.out) ?_
  clear hK
  refine wpL_take 47 117 (.bool true) [48, 50] rfl rfl (by kernel_rfl) (by decide) (by kernel_rfl) (by kernel_rfl) (by kernel_rfl) (fun _ _ _ h => h) HS6.out (by rfl) (fun W hW => by go_simp) ?_
  simp only [Act.put, List.setIfInBounds_toArray, List.set_cons_zero, List.set_cons_succ]
  refine wpL_take 48 118 (.bool true) [50] rfl rfl (by kernel_rfl) (by decide) (by kernel_rfl) (by kernel_rfl) (by kernel_rfl) (fun _ _ _ h => h) HS6.out (by rfl) (fun W hW => by go_simp) ?_
  simp only [Act.put, List.setIfInBounds_toArray, List.set_cons_zero, List.set_cons_succ]
  refine wpL_one 49 rfl (by kernel_rfl) (by rfl) (fun K hK => ?_)
  go_simp
  refine (HC.out _ (HTB.out.below (jw hb0 HB6.out))).mono ?_
  rintro e v7 ⟨rfl, q1⟩
  have HS7 : Hid (SqU p R h j C M o1 o2 L.length c1 c2 gm cm v7) := SqU.of (base := v4.heap.size) (HP6.out.below q1) (HR6.out.below q1)
  have HB7 := hid (jb hb0 HB6.out q1)
  clear q1
  go_simp
  refine hK.out _ _ (fun _ => HS7.out) ?_
  clear hK
  refine wpL_take 50 120 (.bool true) [] rfl rfl (by kernel_rfl) (by decide) (by kernel_rfl) (by kernel_rfl) (by kernel_rfl) (fun _ _ _ h => h) HS7.out (by rfl) (fun W hW => by go_simp) ?_
  simp only [Act.put, List.setIfInBounds_toArray, List.set_cons_zero, List.set_cons_succ]
  refine wpL_one 51 rfl (by kernel_rfl) (by rfl) (fun K hK => ?_)
  go_simp
  refine hK.out _ _ (fun h => absurd rfl h) ?_
  clear hK
  refine wpL_done (by kernel_rfl) ?_
  refine NoPanic.normal ?_
  go_wp2_with fail
  go_ret
  exact ⟨rfl, jw hb0 HB7.out⟩
theorem runs_any (w : World) (ht : Tab w) (l m : List UInt8) (ao : Option Addr) (cap : Nat) (A : List Int) (ha : ASl w w.heap.size w.heap.size (.slice ao A.length cap) A) (fuel : Int) :
    Calls Tryd.prog 3 #[jobV l m ao A.length cap, i64 fuel] w fun e w' => e = .returned (.bool true) ∧ Below w.heap.size w w' := by
  by_cases ho : decide (600 < l.length ∨ 600 < m.length ∨ 100 < A.length) = true ∨ 600 < fuel ∧ fuel ≤ 5000
  · exact runs_out w ht l m ao A.length cap fuel _ rfl ho
  · have hd : decide (600 < l.length ∨ 600 < m.length ∨ 100 < A.length) = false := by
      cases hb : decide (600 < l.length ∨ 600 < m.length ∨ 100 < A.length) with
      | true => exact absurd (Or.inl hb) ho
      | false => rfl
    have hf : ¬ (600 < fuel ∧ fuel ≤ 5000) := fun h => ho (Or.inr h)
    by_cases h256 : 256 < l.length ∨ 256 < m.length
    · exact runs_long w ht l m ao A.length cap fuel hd (by omega) h256
    · by_cases hfa : fuel < 0 ∨ 5000 < fuel
      · exact runs_arg w ht l m ao A.length cap fuel hd (by omega) (by omega) hfa
      · obtain ⟨F, rfl⟩ := Int.eq_ofNat_of_zero_le (show 0 ≤ fuel by omega)
        exact runs_in w ht l m ao cap A F hd (by omega) (by omega) (by omega) ha
end Go.Proofs.YtigbfdloodfdgaaDoor
