/- types' every, with Check's two closures, and Check: their contracts; no statement is proved in this text. -/
import Derived.Test.YtihbbgcpdgnhoaaGreatDoorRa
namespace Go.Proofs.YtihbbgcpdgnhoaaGreatDoor
open Go.ChangeShapes Go.WideShapes Go.ChangeAt Go.RowKit Go.Deep
attribute [local go_sem ↓] Go.wp_at_zero Go.wp_at_succ

abbrev f1 (c : Nat) : Value := .func (.func 56) #[] #[pq c]
set_option maxRecDepth 100000 in
set_option maxHeartbeats 3200000 in
theorem ask1_ok (T : Ty) (w : World) (S : Nat → Prop) (nv kv : Value) (hR : Rd w S T nv kv) (c : Nat) (m d : Int) (hc : w.heap[c]? = some (.cells #[i64 m] 3)) (hm : 0 ≤ m) (hm2 : m ≤ 1000) : Calls Tryz.prog 56 #[tyV T.kind T.num nv kv, i64 d, pq c] w fun e w' => e = .returned (.bool (decide (d ≤ 6) && decide (m + 1 ≤ 100))) ∧ w'.heap[c]? = some (.cells #[i64 (m + 1)] 3) ∧ Touch c w w' := by
  obtain ⟨an, cn, rfl, ak, ck, rfl⟩ := hR.form
  clear hR
  have hclt := blk_lt hc
  have HC : Hid ((w.alloc (.cells #[i64 T.kind, i64 T.num, .slice an T.names.length cn, .slice ak T.kids.length ck] 25)).heap[c]? = some (.cells #[i64 m] 3)) := blk_alloc hc _
  have HT : Hid (Touch c w (w.alloc (.cells #[i64 T.kind, i64 T.num, .slice an T.names.length cn, .slice ak T.kids.length ck] 25))) := (Touch.refl _ _).alloc _
  clear hc
  go_enter Tryz.func56, Tryz.ntmps56
  go_upto_region 1 with fail
  generalize w.alloc (.cells #[i64 T.kind, i64 T.num, .slice an T.names.length cn, .slice ak T.kids.length ck] 25) = V at *
  have yq : V.cell? ⟨c, 0, none⟩ = some (i64 m) := blk_cell HC.out 0
  have fq : V.frozen? ⟨c, 0, none⟩ = false := blk_frozen HC.out 0
  have HC1 : Hid ((V.setCell ⟨c, 0, none⟩ (i64 (m + 1))).heap[c]? = some (.cells #[i64 (m + 1)] 3)) := set1 HC.out _
  have HT1 : Hid (Touch c w (V.setCell ⟨c, 0, none⟩ (i64 (m + 1)))) := HT.out.setCell rfl _
  go_upto_region 2 with fail
  generalize V.setCell ⟨c, 0, none⟩ (i64 (m + 1)) = U at *
  have y0 : U.cell? ⟨c, 0, none⟩ = some (i64 (m + 1)) := blk_cell HC1.out 0
  by_cases h1 : d ≤ 6
  · go_wp2_with fail
    go_ret
    exact ⟨by simp [h1], HC1.out, HT1.out⟩
  · have h1' : decide (d ≤ 6) = false := by simpa using h1
    go_wp2_with fail
    go_ret
    exact ⟨by simp, HC1.out, HT1.out⟩
set_option maxRecDepth 100000 in
set_option maxHeartbeats 3200000 in
theorem ask2_ok (T : Ty) (w : World) (S : Nat → Prop) (nv kv : Value) (hR : Rd w S T nv kv) (d : Int) : Calls Tryz.prog 57 #[tyV T.kind T.num nv kv, i64 d] w fun e w' => e = .returned (.bool (nodeB T.kind T.num T.names T.kids.length)) ∧ Below w.heap.size w w' := by
  obtain ⟨k, n, names, kids⟩ := T
  simp only [Ty.kind, Ty.num, Ty.names, Ty.kids]
  have HRd : Hid (Rd w S (.mk k n names kids) nv kv) := hR
  obtain ⟨⟨an, cn, rfl, hnl, hz1, hz2⟩, hkl, ak, ck, rfl, hz3⟩ := hR.kid
  clear hz1 hz2 hz3
  unfold maxLen at hnl hkl
  have HX : Hid ((w.alloc (.cells #[i64 k, i64 n, .slice an names.length cn, .slice ak kids.length ck] 25)).heap[w.heap.size]? = some (.cells #[i64 k, i64 n, .slice an names.length cn, .slice ak kids.length ck] 25)) := heap_last w _
  have HBV : Hid (Below w.heap.size w (w.alloc (.cells #[i64 k, i64 n, .slice an names.length cn, .slice ak kids.length ck] 25))) := below_one w _
  clear hR 
  go_enter Tryz.func57, Tryz.ntmps57
  go_upto_region 1 with fail
  obtain ⟨Z, hZ⟩ : ∃ Z, Z = w.heap.size := ⟨_, rfl⟩
  rw [← hZ] at HX ⊢
  generalize w.alloc (.cells #[i64 k, i64 n, .slice an names.length cn, .slice ak kids.length ck] 25) = V at *
  have y0 : V.cell? ⟨Z, 0, none⟩ = some (i64 k) := blk_cell HX.out 0
  have y1 : V.cell? ⟨Z, 1, none⟩ = some (i64 n) := blk_cell HX.out 1
  have y2 : V.cell? ⟨Z, 2, none⟩ = some (.slice an names.length cn) := blk_cell HX.out 2
  have y3 : V.cell? ⟨Z, 3, none⟩ = some (.slice ak kids.length ck) := blk_cell HX.out 3
  have hZV : Z < V.heap.size := blk_lt HX.out
  have HZ := hid hZ
  clear hZ
  have HRA : Hid (Calls Tryz.prog 58 #[tyV k n (.slice an names.length cn) (.slice ak kids.length ck)] V fun e w' => e = .returned (.bool (nodeB k n names kids.length)) ∧ Below V.heap.size V w') := rightAlone_ok k n names kids V S _ _ (HRd.out.under (HZ.out ▸ HBV.out))
  go_wp2_with fail
  refine HRA.out.mono ?_
  rintro e w3 ⟨rfl, hb3⟩
  have HB3 : Hid (Below w.heap.size w w3) := HBV.out.trans (hb3.mono HBV.out.size)
  clear hb3
  go_wp2_with fail
  go_ret
  exact ⟨rfl, HB3.out⟩
def shB (c d : Int) (T : Ty) : Bool := decide (c + T.count ≤ 100 ∧ d + T.depth ≤ 7)
def EvOk (w : World) (c : Nat) (m d : Int) (T : Ty) (e : Ending) (w' : World) : Prop :=
  ∃ m' : Int, e = .returned (.bool (shB m d T)) ∧ w'.heap[c]? = some (.cells #[i64 m'] 3) ∧ Touch c w w' ∧ (shB m d T = true → m' = m + T.count)
set_option maxRecDepth 100000 in
set_option maxHeartbeats 6400000 in
theorem ev1_in (k n : Int) (names : List Bs) (kids : List Ty) (w : World) (nv kv : Value) (c : Nat) (m d : Int) (hR : Rd w (fun b => b ≠ c) (.mk k n names kids) nv kv) (hc : w.heap[c]? = some (.cells #[i64 m] 3)) (hm : 0 ≤ m) (hm2 : m ≤ 100) (hd : 0 ≤ d) (hd2 : d ≤ 7)
    (hih : ∀ T ∈ kids, ∀ (w : World) (nv kv : Value) (m d : Int), Rd w (fun b => b ≠ c) T nv kv → w.heap[c]? = some (.cells #[i64 m] 3) → 0 ≤ m → m ≤ 100 → 0 ≤ d → d ≤ 7 → Calls Tryz.prog 55 #[tyV T.kind T.num nv kv, i64 d, f1 c] w (EvOk w c m d T)) :
    Calls Tryz.prog 55 #[tyV k n nv kv, i64 d, f1 c] w (EvOk w c m d (.mk k n names kids)) := by
  have HIH := hid hih
  have hclt := blk_lt hc
  have HC : Hid ((w.alloc (.cells #[i64 k, i64 n, nv, kv] 25)).heap[c]? = some (.cells #[i64 m] 3)) := blk_alloc hc _
  obtain ⟨R, hRe⟩ : ∃ R, R = shB m d (.mk k n names kids) := ⟨_, rfl⟩
  have HRe := hid hRe
  unfold EvOk
  rw [← hRe]
  clear hRe
  have HRd : Hid (Rd w (fun b => b ≠ c) (.mk k n names kids) nv kv) := hR
  obtain ⟨⟨an, cn, rfl, hnl, hz1, hz2⟩, hkl, ak, ck, rfl, hz3⟩ := hR.kid
  clear hz1 hz2 hz3
  unfold maxLen at hnl hkl
  have HX : Hid ((w.alloc (.cells #[i64 k, i64 n, .slice an names.length cn, .slice ak kids.length ck] 25)).heap[w.heap.size]? = some (.cells #[i64 k, i64 n, .slice an names.length cn, .slice ak kids.length ck] 25)) := heap_last w _
  have HBV : Hid (Below w.heap.size w (w.alloc (.cells #[i64 k, i64 n, .slice an names.length cn, .slice ak kids.length ck] 25))) := below_one w _
  clear hR hih hc
  go_enter Tryz.func55, Tryz.ntmps55
  go_upto_region 1 with fail
  obtain ⟨Z, hZ⟩ : ∃ Z, Z = w.heap.size := ⟨_, rfl⟩
  rw [← hZ] at HX ⊢
  generalize w.alloc (.cells #[i64 k, i64 n, .slice an names.length cn, .slice ak kids.length ck] 25) = V at *
  have y0 : V.cell? ⟨Z, 0, none⟩ = some (i64 k) := blk_cell HX.out 0
  have y1 : V.cell? ⟨Z, 1, none⟩ = some (i64 n) := blk_cell HX.out 1
  have y2 : V.cell? ⟨Z, 2, none⟩ = some (.slice an names.length cn) := blk_cell HX.out 2
  have y3 : V.cell? ⟨Z, 3, none⟩ = some (.slice ak kids.length ck) := blk_cell HX.out 3
  have hZV : Z < V.heap.size := blk_lt HX.out
  have HZ := hid hZ
  clear hZ
  have HTV : Hid (Touch c w V) := by
    show Touch c w V
    exact Touch.of_below HBV.out
  have HA1 : Hid (Calls Tryz.prog 56 #[tyV k n (.slice an names.length cn) (.slice ak kids.length ck), i64 d, pq c] V fun e w' => e = .returned (.bool (decide (d ≤ 6) && decide (m + 1 ≤ 100))) ∧ w'.heap[c]? = some (.cells #[i64 (m + 1)] 3) ∧ Touch c V w') :=
    ask1_ok (.mk k n names kids) V _ _ _ (HRd.out.under (HZ.out ▸ HBV.out)) c m d HC.out hm (by omega)
  generalize hQ : (decide (d ≤ 6) && decide (m + 1 ≤ 100)) = Q0 at *
  have HQ := hid hQ
  clear hQ
  go_wp2_with fail
  refine HA1.out.mono ?_
  rintro e w1 ⟨rfl, hc1, ht1⟩
  have HC1 := hid hc1
  have HT1 : Hid (Touch c w w1) := HTV.out.trans ht1
  have HX1 : Hid (w1.heap[Z]? = some (.cells #[i64 k, i64 n, .slice an names.length cn, .slice ak kids.length ck] 25)) := by
    show _ = _
    rw [ht1.block Z hZV (by have := HZ.out; omega)]; exact HX.out
  clear hc1 ht1 y0 y1 y2 y3 HA1
  have y3 : w1.cell? ⟨Z, 3, none⟩ = some (.slice ak kids.length ck) := blk_cell HX1.out 3
  cases Q0 with
  | false =>
    have HF : Hid (R = false) := by
      show _ = _
      rw [HRe.out]
      unfold shB
      refine decide_eq_false (fun h => ?_)
      simp only [Ty.count, Ty.depth] at h
      have hq := HQ.out
      rw [decide_eq_true (show d ≤ 6 by omega), decide_eq_true (show m + 1 ≤ 100 by omega)] at hq
      cases hq
    go_wp2_with fail
    go_ret
    exact ⟨m + 1, by rw [HF.out]; rfl, HC1.out, HT1.out, fun h => by rw [HF.out] at h; cases h⟩
  | true =>
    have hq := HQ.out
    simp only [Bool.and_eq_true, decide_eq_true_eq] at hq
    obtain ⟨hd6, hm100⟩ := hq
    go_wp2_with fail
    go_loopw [17] (fun u wr => ∃ (i : Nat) (m1 : Int), i ≤ kids.length ∧ u = i64 i ∧ 0 ≤ m1 ∧ m1 ≤ 100 ∧ Hid (m1 = m + 1 + countL (kids.take i)) ∧ Hid (d + 1 + depthL (kids.take i) ≤ 7) ∧ Hid (wr.heap[c]? = some (.cells #[i64 m1] 3)) ∧ Hid (Touch c w wr)) (fun u _ => kids.length - (intOf u).toNat)
    case atStart => exact ⟨0, m + 1, by omega, rfl, by omega, by omega, by show _ = _; simp [countL], by show _ ≤ _; simp [depthL]; omega, HC1, HT1⟩
    case round =>
      obtain ⟨i, m1, hi, rfl, hm1, hm12, HM, HD, HCr, HTr⟩ := hrel
      by_cases hlt : i < kids.length
      · clear y3
        obtain ⟨_, _, ak1, ck1, he, hkid⟩ := (HRd.out.touch HTr.out).kid
        cases he
        obtain ⟨b, off, nv2, kv2, rfl, hbS, hblt, hr, hrd⟩ := hkid i hlt
        obtain ⟨T, hT⟩ : ∃ T, T = kids[i] := ⟨_, rfl⟩
        rw [← hT] at hr hrd
        have HTm : Hid (T ∈ kids) := by show _; rw [hT]; exact List.getElem_mem hlt
        have HTe : Hid (T = kids[i]) := hT
        have c0 : wr.cell? ⟨b, off + i * 4, none⟩ = some (i64 T.kind) := hr 0 _ rfl
        have c1 : wr.cell? ⟨b, off + i * 4 + 1, none⟩ = some (i64 T.num) := hr 1 _ rfl
        have c2 : wr.cell? ⟨b, off + i * 4 + 2, none⟩ = some nv2 := hr 2 _ rfl
        have c3 : wr.cell? ⟨b, off + i * 4 + 3, none⟩ = some kv2 := hr 3 _ rfl
        obtain ⟨an2, cn2, rfl, ak2, ck2, rfl⟩ := hrd.form
        have HX2 : Hid ((wr.alloc (.cells #[i64 T.kind, i64 T.num, .slice an2 T.names.length cn2, .slice ak2 T.kids.length ck2] 25)).heap[wr.heap.size]? = some (.cells #[i64 T.kind, i64 T.num, .slice an2 T.names.length cn2, .slice ak2 T.kids.length ck2] 25)) := heap_last wr _
        have HBX : Hid (Below wr.heap.size wr (wr.alloc (.cells #[i64 T.kind, i64 T.num, .slice an2 T.names.length cn2, .slice ak2 T.kids.length ck2] 25))) := below_one wr _
        have HRT : Hid (Rd (wr.alloc (.cells #[i64 T.kind, i64 T.num, .slice an2 T.names.length cn2, .slice ak2 T.kids.length ck2] 25)) _ T (.slice an2 T.names.length cn2) (.slice ak2 T.kids.length ck2)) := hrd.under HBX.out
        clear hT hr hrd hkid hbS
        go_upto_region 6 with fail
        obtain ⟨Y, hY⟩ : ∃ Y, Y = wr.heap.size := ⟨_, rfl⟩
        rw [← hY] at HX2 ⊢
        generalize wr.alloc (.cells #[i64 T.kind, i64 T.num, .slice an2 T.names.length cn2, .slice ak2 T.kids.length ck2] 25) = X at *
        have z0 : X.cell? ⟨Y, 0, none⟩ = some (i64 T.kind) := blk_cell HX2.out 0
        have z1 : X.cell? ⟨Y, 1, none⟩ = some (i64 T.num) := blk_cell HX2.out 1
        have z2 : X.cell? ⟨Y, 2, none⟩ = some (.slice an2 T.names.length cn2) := blk_cell HX2.out 2
        have z3 : X.cell? ⟨Y, 3, none⟩ = some (.slice ak2 T.kids.length ck2) := blk_cell HX2.out 3
        have hYX : Y < X.heap.size := blk_lt HX2.out
        have HY := hid hY
        clear c0 c1 c2 c3 hY
        have HCX : Hid (X.heap[c]? = some (.cells #[i64 m1] 3)) := blk_below HCr.out HBX.out
        have HTX : Hid (Touch c w X) := HTr.out.trans (Touch.of_below HBX.out)
        have HCT : Hid (countL (kids.take (i + 1)) = countL (kids.take i) + T.count) := by show _ = _; rw [HTe.out]; exact take_countL kids i hlt
        have HDT : Hid (depthL (kids.take (i + 1)) = max (depthL (kids.take i)) T.depth) := by show _ = _; rw [HTe.out]; exact take_depthL kids i hlt
        have HCA : Hid (Calls Tryz.prog 55 #[tyV T.kind T.num (.slice an2 T.names.length cn2) (.slice ak2 T.kids.length ck2), i64 (d + 1), f1 c] X (EvOk X c m1 (d + 1) T)) := HIH.out T HTm.out X _ _ m1 (d + 1) HRT.out HCX.out hm1 hm12 (by omega) (by omega)
        go_wp2_with fail
        refine HCA.out.mono ?_
        rintro e w3 ⟨m2, rfl, hc3, ht3, hf3⟩
        have HC3 := hid hc3
        have HT3 : Hid (Touch c w w3) := HTX.out.trans ht3
        have HF3 := hid hf3
        clear hc3 ht3 hf3
        generalize hE : shB m1 (d + 1) T = E at *
        have HE := hid hE
        clear hE
        cases E with
        | false =>
          have HF : Hid (R = false) := by
            show _ = _
            rw [HRe.out]
            unfold shB
            refine decide_eq_false (fun h => ?_)
            simp only [Ty.count, Ty.depth] at h
            have he := HE.out
            have h1 := countL_take kids (i + 1)
            have h2 := depthL_mem HTm.out
            have h3 := HCT.out
            have h4 := HM.out
            unfold shB at he
            rw [decide_eq_true (show m1 + T.count ≤ 100 ∧ d + 1 + T.depth ≤ 7 by omega)] at he
            cases he
          go_wp2_with fail
          go_ret
          exact ⟨m2, by rw [HF.out]; rfl, HC3.out, HT3.out, fun h => by rw [HF.out] at h; cases h⟩
        | true =>
          have he := HE.out
          unfold shB at he
          simp only [decide_eq_true_eq] at he
          have hm2e := HF3.out rfl
          have HM2 : Hid (m2 = m + 1 + countL (kids.take (i + 1))) := by show _ = _; rw [hm2e, HCT.out, HM.out]; omega
          have HD2 : Hid (d + 1 + depthL (kids.take (i + 1)) ≤ 7) := by show _ ≤ _; rw [HDT.out]; have := HD.out; omega
          have hm20 : 0 ≤ m2 := by omega
          have hm21 : m2 ≤ 100 := by omega
          clear he hm2e
          go_wp2_with fail
          exact ⟨⟨i + 1, m2, by omega, by go_num, hm20, hm21, HM2, HD2, HC3, HT3⟩, by simp [intOf]; omega⟩
      · have he : i = kids.length := by omega
        have hM := HM.out
        have hD := HD.out
        rw [he, List.take_of_length_le (Nat.le_refl _)] at hM hD
        have HF : Hid (R = true) := by
          show _ = _
          rw [HRe.out]
          unfold shB
          refine decide_eq_true ?_
          simp only [Ty.count, Ty.depth]
          omega
        have HM3 : Hid (m1 = m + (Ty.mk k n names kids).count) := by show _ = _; simp only [Ty.count]; omega
        clear he hM hD
        go_wp2_with fail
        go_ret
        exact ⟨m1, by rw [HF.out]; rfl, HCr.out, HTr.out, fun _ => HM3.out⟩
theorem ev1_ok : ∀ (M : Nat) (T : Ty), T.count ≤ M → ∀ (w : World) (nv kv : Value) (c : Nat) (m d : Int), Rd w (fun b => b ≠ c) T nv kv → w.heap[c]? = some (.cells #[i64 m] 3) → 0 ≤ m → m ≤ 100 → 0 ≤ d → d ≤ 7 → Calls Tryz.prog 55 #[tyV T.kind T.num nv kv, i64 d, f1 c] w (EvOk w c m d T)
  | 0, T, hM, _, _, _, _, _, _, _, _, _, _, _, _ => by have := count_pos T; omega
  | M + 1, .mk k n names kids, hM, w, nv, kv, c, m, d, hR, hc, hm, hm2, hd, hd2 => by
    simp only [Ty.count] at hM
    exact ev1_in k n names kids w nv kv c m d hR hc hm hm2 hd hd2 (fun T hT w nv kv m d hR hc hm hm2 hd hd2 => ev1_ok M T (by have := countL_mem hT; omega) w nv kv c m d hR hc hm hm2 hd hd2)
set_option maxRecDepth 100000 in
set_option maxHeartbeats 3200000 in
theorem ev2_in (k n : Int) (names : List Bs) (kids : List Ty) (w : World) (S : Nat → Prop) (nv kv : Value) (d : Int) (hR : Rd w S (.mk k n names kids) nv kv) (hd : 0 ≤ d) (hd2 : d ≤ 1000000)
    (hih : ∀ T ∈ kids, ∀ (w : World) (nv kv : Value), Rd w S T nv kv → Calls Tryz.prog 55 #[tyV T.kind T.num nv kv, i64 (d + 1), .func (.func 57) #[] #[]] w fun e w' => e = .returned (.bool T.formed) ∧ Below w.heap.size w w') :
    Calls Tryz.prog 55 #[tyV k n nv kv, i64 d, .func (.func 57) #[] #[]] w fun e w' => e = .returned (.bool (Ty.mk k n names kids).formed) ∧ Below w.heap.size w w' := by
  have HIH := hid hih
  obtain ⟨R, hRe⟩ : ∃ R, R = (Ty.mk k n names kids).formed := ⟨_, rfl⟩
  have HRe : Hid (R = (nodeB k n names kids.length && formedL kids)) := by show _ = _; rw [hRe, Ty.formed]
  rw [← hRe]
  clear hRe
  have HRd : Hid (Rd w S (.mk k n names kids) nv kv) := hR
  obtain ⟨⟨an, cn, rfl, hnl, hz1, hz2⟩, hkl, ak, ck, rfl, hz3⟩ := hR.kid
  clear hz1 hz2 hz3
  unfold maxLen at hnl hkl
  have HX : Hid ((w.alloc (.cells #[i64 k, i64 n, .slice an names.length cn, .slice ak kids.length ck] 25)).heap[w.heap.size]? = some (.cells #[i64 k, i64 n, .slice an names.length cn, .slice ak kids.length ck] 25)) := heap_last w _
  have HBV : Hid (Below w.heap.size w (w.alloc (.cells #[i64 k, i64 n, .slice an names.length cn, .slice ak kids.length ck] 25))) := below_one w _
  clear hR hih
  go_enter Tryz.func55, Tryz.ntmps55
  go_upto_region 1 with fail
  obtain ⟨Z, hZ⟩ : ∃ Z, Z = w.heap.size := ⟨_, rfl⟩
  rw [← hZ] at HX ⊢
  generalize w.alloc (.cells #[i64 k, i64 n, .slice an names.length cn, .slice ak kids.length ck] 25) = V at *
  have y0 : V.cell? ⟨Z, 0, none⟩ = some (i64 k) := blk_cell HX.out 0
  have y1 : V.cell? ⟨Z, 1, none⟩ = some (i64 n) := blk_cell HX.out 1
  have y2 : V.cell? ⟨Z, 2, none⟩ = some (.slice an names.length cn) := blk_cell HX.out 2
  have y3 : V.cell? ⟨Z, 3, none⟩ = some (.slice ak kids.length ck) := blk_cell HX.out 3
  have hZV : Z < V.heap.size := blk_lt HX.out
  have HZ := hid hZ
  clear hZ
  have HA2 : Hid (Calls Tryz.prog 57 #[tyV k n (.slice an names.length cn) (.slice ak kids.length ck), i64 d] V fun e w' => e = .returned (.bool (nodeB k n names kids.length)) ∧ Below V.heap.size V w') := ask2_ok (.mk k n names kids) V S _ _ (HRd.out.under (HZ.out ▸ HBV.out)) d
  generalize hQ : nodeB k n names kids.length = Q0 at *
  clear hQ
  go_wp2_with fail
  refine HA2.out.mono ?_
  rintro e w1 ⟨rfl, hb1⟩
  have HB1 : Hid (Below w.heap.size w w1) := HBV.out.trans (hb1.mono HBV.out.size)
  have HX1 : Hid (w1.heap[Z]? = some (.cells #[i64 k, i64 n, .slice an names.length cn, .slice ak kids.length ck] 25)) := blk_below HX.out hb1
  clear hb1 y0 y1 y2 y3 HA2
  have y3 : w1.cell? ⟨Z, 3, none⟩ = some (.slice ak kids.length ck) := blk_cell HX1.out 3
  cases Q0 with
  | false =>
    have HF : Hid (R = false) := by show _ = _; rw [HRe.out]; rfl
    go_wp2_with fail
    go_ret
    exact ⟨by rw [HF.out]; rfl, HB1.out⟩
  | true =>
    go_wp2_with fail
    go_loopw [17] (fun u wr => ∃ (i : Nat), i ≤ kids.length ∧ u = i64 i ∧ Hid (formedL (kids.take i) = true) ∧ Hid (Below w.heap.size w wr)) (fun u _ => kids.length - (intOf u).toNat)
    case atStart => exact ⟨0, by omega, rfl, by show _ = _; simp [formedL], HB1⟩
    case round =>
      obtain ⟨i, hi, rfl, HM, HB⟩ := hrel
      by_cases hlt : i < kids.length
      · clear y3
        obtain ⟨_, _, ak1, ck1, he, hkid⟩ := (HRd.out.under HB.out).kid
        cases he
        obtain ⟨b, off, nv2, kv2, rfl, hbS, hblt, hr, hrd⟩ := hkid i hlt
        obtain ⟨T, hT⟩ : ∃ T, T = kids[i] := ⟨_, rfl⟩
        rw [← hT] at hr hrd
        have HTm : Hid (T ∈ kids) := by show _; rw [hT]; exact List.getElem_mem hlt
        have HTe : Hid (T = kids[i]) := hT
        have c0 : wr.cell? ⟨b, off + i * 4, none⟩ = some (i64 T.kind) := hr 0 _ rfl
        have c1 : wr.cell? ⟨b, off + i * 4 + 1, none⟩ = some (i64 T.num) := hr 1 _ rfl
        have c2 : wr.cell? ⟨b, off + i * 4 + 2, none⟩ = some nv2 := hr 2 _ rfl
        have c3 : wr.cell? ⟨b, off + i * 4 + 3, none⟩ = some kv2 := hr 3 _ rfl
        obtain ⟨an2, cn2, rfl, ak2, ck2, rfl⟩ := hrd.form
        have HX2 : Hid ((wr.alloc (.cells #[i64 T.kind, i64 T.num, .slice an2 T.names.length cn2, .slice ak2 T.kids.length ck2] 25)).heap[wr.heap.size]? = some (.cells #[i64 T.kind, i64 T.num, .slice an2 T.names.length cn2, .slice ak2 T.kids.length ck2] 25)) := heap_last wr _
        have HBX : Hid (Below wr.heap.size wr (wr.alloc (.cells #[i64 T.kind, i64 T.num, .slice an2 T.names.length cn2, .slice ak2 T.kids.length ck2] 25))) := below_one wr _
        have HRT : Hid (Rd (wr.alloc (.cells #[i64 T.kind, i64 T.num, .slice an2 T.names.length cn2, .slice ak2 T.kids.length ck2] 25)) _ T (.slice an2 T.names.length cn2) (.slice ak2 T.kids.length ck2)) := hrd.under HBX.out
        clear hT hr hrd hkid hbS
        go_upto_region 6 with fail
        obtain ⟨Y, hY⟩ : ∃ Y, Y = wr.heap.size := ⟨_, rfl⟩
        rw [← hY] at HX2 ⊢
        generalize wr.alloc (.cells #[i64 T.kind, i64 T.num, .slice an2 T.names.length cn2, .slice ak2 T.kids.length ck2] 25) = X at *
        have z0 : X.cell? ⟨Y, 0, none⟩ = some (i64 T.kind) := blk_cell HX2.out 0
        have z1 : X.cell? ⟨Y, 1, none⟩ = some (i64 T.num) := blk_cell HX2.out 1
        have z2 : X.cell? ⟨Y, 2, none⟩ = some (.slice an2 T.names.length cn2) := blk_cell HX2.out 2
        have z3 : X.cell? ⟨Y, 3, none⟩ = some (.slice ak2 T.kids.length ck2) := blk_cell HX2.out 3
        have hYX : Y < X.heap.size := blk_lt HX2.out
        have HY := hid hY
        clear c0 c1 c2 c3 hY
        go_wp2_with fail
        refine (HIH.out T HTm.out X _ _ HRT.out).mono ?_
        rintro e w3 ⟨rfl, hb3⟩
        have hbb := HBX.out.trans (hb3.mono HBX.out.size)
        have HB3 : Hid (Below w.heap.size w w3) := HB.out.trans (hbb.mono HB.out.size)
        have htc : formedL (kids.take (i + 1)) = (formedL (kids.take i) && T.formed) := by rw [HTe.out]; exact take_formedL kids i hlt
        have HTc := hid htc
        generalize hE : T.formed = E at *
        have HE := hid hE
        clear htc hb3 hbb hE
        cases E with
        | false =>
          have HF : Hid (R = false) := by
            show _ = _
            rw [HRe.out]
            cases hf : formedL kids with
            | false => rfl
            | true => have := formedL_mem hf HTm.out; rw [HE.out] at this; cases this
          go_wp2_with fail
          go_ret
          exact ⟨by rw [HF.out]; rfl, HB3.out⟩
        | true =>
          have HM2 : Hid (formedL (kids.take (i + 1)) = true) := by show _ = _; rw [HTc.out, HM.out]; rfl
          go_wp2_with fail
          exact ⟨⟨i + 1, by omega, by go_num, HM2, HB3⟩, by simp [intOf]; omega⟩
      · have HF : Hid (R = true) := by
          show _ = _
          have := HM.out
          rw [List.take_of_length_le (by omega)] at this
          rw [HRe.out, this]; rfl
        go_wp2_with fail
        go_ret
        exact ⟨by rw [HF.out]; rfl, HB.out⟩
theorem ev2_ok : ∀ (M : Nat) (T : Ty), T.count ≤ M → ∀ (w : World) (S : Nat → Prop) (nv kv : Value) (d : Int), Rd w S T nv kv → 0 ≤ d → d + T.depth ≤ 1000000 → Calls Tryz.prog 55 #[tyV T.kind T.num nv kv, i64 d, .func (.func 57) #[] #[]] w fun e w' => e = .returned (.bool T.formed) ∧ Below w.heap.size w w'
  | 0, T, hM, _, _, _, _, _, _, _, _ => by have := count_pos T; omega
  | M + 1, .mk k n names kids, hM, w, S, nv, kv, d, hR, hd, hd2 => by
    simp only [Ty.count] at hM
    simp only [Ty.depth] at hd2
    exact ev2_in k n names kids w S nv kv d hR hd (by omega) (fun T hT w nv kv hR => ev2_ok M T (by have := countL_mem hT; omega) w S nv kv (d + 1) hR (by omega) (by have := depthL_mem hT; omega))
set_option maxRecDepth 100000 in
set_option maxHeartbeats 3200000 in
theorem check_ok (T : Ty) (w : World) (S : Nat → Prop) (nv kv : Value) (hR : Rd w S T nv kv) : Calls Tryz.prog 35 #[tyV T.kind T.num nv kv] w fun e w' => e = .returned (i64 T.err) ∧ Below w.heap.size w w' := by
  obtain ⟨E0, hE0⟩ : ∃ E0, E0 = T.err := ⟨_, rfl⟩
  have HE0 := hid hE0
  rw [← hE0]
  clear hE0
  have HS1 : Hid (∀ W, Below w.heap.size w W → ∀ c, w.heap.size ≤ c → W.heap[c]? = some (.cells #[i64 0] 3) → Calls Tryz.prog 55 #[tyV T.kind T.num nv kv, i64 1, f1 c] W (EvOk W c 0 1 T)) := fun W hW c hc hcc => ev1_ok T.count T (Nat.le_refl _) W nv kv c 0 1 ((hR.mono (S' := fun b => b ≠ c) (fun b _ hb => by omega)).move hW.size (fun b hb hlt => ⟨hb, hW.block b hlt⟩)) hcc (by omega) (by omega) (by omega) (by omega)
  have HS2 : Hid (∀ W, Below w.heap.size w W → T.depth ≤ 6 → Calls Tryz.prog 55 #[tyV T.kind T.num nv kv, i64 1, .func (.func 57) #[] #[]] W fun e w' => e = .returned (.bool T.formed) ∧ Below W.heap.size W w') := fun W hW hd => ev2_ok T.count T (Nat.le_refl _) W S nv kv 1 (hR.under hW) (by omega) (by omega)
  obtain ⟨an, cn, rfl, ak, ck, rfl⟩ := hR.form
  have HX : Hid ((w.alloc (.cells #[i64 T.kind, i64 T.num, .slice an T.names.length cn, .slice ak T.kids.length ck] 25)).heap[w.heap.size]? = some (.cells #[i64 T.kind, i64 T.num, .slice an T.names.length cn, .slice ak T.kids.length ck] 25)) := heap_last w _
  have HBV : Hid (Below w.heap.size w (w.alloc (.cells #[i64 T.kind, i64 T.num, .slice an T.names.length cn, .slice ak T.kids.length ck] 25))) := below_one w _
  clear hR
  go_enter Tryz.func35, Tryz.ntmps35
  go_upto_region 1 with fail
  obtain ⟨Z, hZ⟩ : ∃ Z, Z = w.heap.size := ⟨_, rfl⟩
  rw [← hZ] at HX ⊢
  generalize w.alloc (.cells #[i64 T.kind, i64 T.num, .slice an T.names.length cn, .slice ak T.kids.length ck] 25) = V at *
  have hZV : Z < V.heap.size := blk_lt HX.out
  have HC : Hid ((V.alloc (.cells #[i64 0] 3)).heap[V.heap.size]? = some (.cells #[i64 0] 3)) := heap_last V _
  have HX1 : Hid ((V.alloc (.cells #[i64 0] 3)).heap[Z]? = some (.cells #[i64 T.kind, i64 T.num, .slice an T.names.length cn, .slice ak T.kids.length ck] 25)) := blk_alloc HX.out _
  have HB1 : Hid (Below w.heap.size w (V.alloc (.cells #[i64 0] 3))) := HBV.out.trans ((below_one V _).mono HBV.out.size)
  have HZ := hid hZ
  clear hZ
  go_upto_region 2 with fail
  obtain ⟨c, hc⟩ : ∃ c, c = V.heap.size := ⟨_, rfl⟩
  rw [← hc] at HC hZV ⊢
  have hcl : w.heap.size ≤ c := by have := HZ.out; omega
  generalize V.alloc (.cells #[i64 0] 3) = U at *
  have y0 : U.cell? ⟨Z, 0, none⟩ = some (i64 T.kind) := blk_cell HX1.out 0
  have y1 : U.cell? ⟨Z, 1, none⟩ = some (i64 T.num) := blk_cell HX1.out 1
  have y2 : U.cell? ⟨Z, 2, none⟩ = some (.slice an T.names.length cn) := blk_cell HX1.out 2
  have y3 : U.cell? ⟨Z, 3, none⟩ = some (.slice ak T.kids.length ck) := blk_cell HX1.out 3
  have HCA : Hid (Calls Tryz.prog 55 #[tyV T.kind T.num (.slice an T.names.length cn) (.slice ak T.kids.length ck), i64 1, f1 c] U (EvOk U c 0 1 T)) := HS1.out U HB1.out c hcl HC.out
  have hZU : Z < U.heap.size := blk_lt HX1.out
  have HZc : Hid (Z ≠ c) := by show Z ≠ c; omega
  clear hc HS1
  go_wp2_with fail
  refine HCA.out.mono ?_
  rintro e w3 ⟨m2, rfl, hc3, ht3, hf3⟩
  have HX3 : Hid (w3.heap[Z]? = some (.cells #[i64 T.kind, i64 T.num, .slice an T.names.length cn, .slice ak T.kids.length ck] 25)) := by show _ = _; rw [ht3.block Z hZU HZc.out]; exact HX1.out
  have HB3 : Hid (Below w.heap.size w w3) := HB1.out.trans (ht3.below hcl HB1.out.size)
  clear hc3 ht3 hf3 y0 y1 y2 y3
  have y0 : w3.cell? ⟨Z, 0, none⟩ = some (i64 T.kind) := blk_cell HX3.out 0
  have y1 : w3.cell? ⟨Z, 1, none⟩ = some (i64 T.num) := blk_cell HX3.out 1
  have y2 : w3.cell? ⟨Z, 2, none⟩ = some (.slice an T.names.length cn) := blk_cell HX3.out 2
  have y3 : w3.cell? ⟨Z, 3, none⟩ = some (.slice ak T.kids.length ck) := blk_cell HX3.out 3
  generalize hE : shB 0 1 T = E at *
  have HE := hid hE
  clear hE
  cases E with
  | false =>
    have HF : Hid (E0 = 2) := by
      show _ = _
      rw [HE0.out]
      unfold Ty.err
      refine if_neg (fun h => ?_)
      have he := HE.out
      unfold shB at he
      rw [decide_eq_true (by omega)] at he
      cases he
    go_wp2_with fail
    go_ret
    exact ⟨by rw [HF.out]; rfl, HB3.out⟩
  | true =>
    have he := HE.out
    unfold shB at he
    simp only [decide_eq_true_eq] at he
    have HCB : Hid (Calls Tryz.prog 55 #[tyV T.kind T.num (.slice an T.names.length cn) (.slice ak T.kids.length ck), i64 1, .func (.func 57) #[] #[]] w3 fun e w' => e = .returned (.bool T.formed) ∧ Below w3.heap.size w3 w') := HS2.out w3 HB3.out (by omega)
    have HF : Hid (E0 = if T.formed = true then 0 else 4) := by
      show _ = _
      rw [HE0.out]
      unfold Ty.err
      exact if_pos (by omega)
    generalize T.formed = F at *
    clear he HS2
    go_wp2_with fail
    refine HCB.out.mono ?_
    rintro e w4 ⟨rfl, hb4⟩
    have HB4 : Hid (Below w.heap.size w w4) := HB3.out.trans (hb4.mono HB3.out.size)
    clear hb4
    cases F with
    | false =>
      go_wp2_with fail
      go_ret
      exact ⟨by rw [HF.out]; rfl, HB4.out⟩
    | true =>
      go_wp2_with fail
      go_ret
      exact ⟨by rw [HF.out]; rfl, HB4.out⟩
end Go.Proofs.YtihbbgcpdgnhoaaGreatDoor
