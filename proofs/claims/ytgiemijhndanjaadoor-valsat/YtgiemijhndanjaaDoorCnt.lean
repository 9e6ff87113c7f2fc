/- imagoref15's Count and Depth: their contracts; no statement is proved in this text. -/
import Derived.Test.YtgiemijhndanjaaDoorLg
namespace Go.Proofs.YtgiemijhndanjaaDoor
open Go.ChangeShapes Go.WideShapes Go.ChangeAt Go.RowKit Go.Deep
attribute [local go_sem ↓] Go.wp_at_zero Go.wp_at_succ

theorem ret_int {k : IntKind} {a b : Int} (h : a = b) : Ending.returned (.int k a) = .returned (.int k b) := by rw [h]
theorem take_depthL (l : List Ty) (k : Nat) (hk : k < l.length) : depthL (l.take (k + 1)) = max (depthL (l.take k)) l[k].depth := by
  induction l generalizing k with
  | nil => simp at hk
  | cons t r ih =>
    cases k with
    | zero => simp [depthL]
    | succ k =>
      have := ih k (by simpa using hk)
      simp only [List.take_succ_cons, depthL, List.getElem_cons_succ, this]
      omega
theorem countL_take (l : List Ty) (k : Nat) : countL (l.take k) ≤ countL l := by
  induction l generalizing k with
  | nil => simp [countL]
  | cons t r ih =>
    cases k with
    | zero => simp [countL]
    | succ k => have := ih k; simp only [List.take_succ_cons, countL]; omega
mutual
theorem depth_le : ∀ T : Ty, T.depth ≤ T.count
  | .mk _ _ _ l => by simp only [Ty.depth, Ty.count]; have := depthL_le l; omega
theorem depthL_le : ∀ l : List Ty, depthL l ≤ countL l
  | [] => by simp [depthL]
  | t :: r => by simp only [depthL, countL]; have := depth_le t; have := depthL_le r; omega
end
set_option maxRecDepth 100000 in
set_option maxHeartbeats 3200000 in
theorem count_in (k n : Int) (names : List Bs) (kids : List Ty) (w : World) (S : Nat → Prop) (nv kv : Value) (hR : Rd w S (.mk k n names kids) nv kv) (hcnt : countL kids ≤ 1000000)
    (hih : ∀ T ∈ kids, ∀ (w : World) (nv kv : Value), Rd w S T nv kv → Calls Tryd.prog 33 #[tyV T.kind T.num nv kv] w fun e w' => e = .returned (i64 (T.count : Nat)) ∧ Below w.heap.size w w') :
    Calls Tryd.prog 33 #[tyV k n nv kv] w fun e w' => e = .returned (i64 ((Ty.mk k n names kids).count : Nat)) ∧ Below w.heap.size w w' := by
  have HIH := hid hih
  have HCN := hid hcnt
  have HRd : Hid (Rd w S (.mk k n names kids) nv kv) := hR
  obtain ⟨⟨an, cn, rfl, hnl, _, _⟩, hkl, ak, ck, rfl, _⟩ := hR.kid
  unfold maxLen at hnl hkl
  have HX : Hid ((w.alloc (.cells #[i64 k, i64 n, .slice an names.length cn, .slice ak kids.length ck] 37)).heap[w.heap.size]? = some (.cells #[i64 k, i64 n, .slice an names.length cn, .slice ak kids.length ck] 37)) := heap_last w _
  have HBV : Hid (Below w.heap.size w (w.alloc (.cells #[i64 k, i64 n, .slice an names.length cn, .slice ak kids.length ck] 37))) := below_one w _
  clear hR hih hcnt
  go_enter Tryd.func33, Tryd.ntmps33
  go_upto_region 1 with fail
  obtain ⟨Z, hZ⟩ : ∃ Z, Z = w.heap.size := ⟨_, rfl⟩
  rw [← hZ] at HX ⊢
  generalize w.alloc (.cells #[i64 k, i64 n, .slice an names.length cn, .slice ak kids.length ck] 37) = V at *
  have y0 : V.cell? ⟨Z, 0, none⟩ = some (i64 k) := blk_cell HX.out 0
  have y1 : V.cell? ⟨Z, 1, none⟩ = some (i64 n) := blk_cell HX.out 1
  have y2 : V.cell? ⟨Z, 2, none⟩ = some (.slice an names.length cn) := blk_cell HX.out 2
  have y3 : V.cell? ⟨Z, 3, none⟩ = some (.slice ak kids.length ck) := blk_cell HX.out 3
  have hZV : Z < V.heap.size := blk_lt HX.out
  have HZ := hid hZ
  clear hZ
  go_wp2_with fail
  go_loopw [3, 9] (fun a u wr => ∃ (i : Nat) (c : Nat), i ≤ kids.length ∧ u = i64 i ∧ a = i64 c ∧ c ≤ 1000001 ∧ Hid (c = 1 + countL (kids.take i)) ∧ Hid (Below w.heap.size w wr)) (fun a u _ => kids.length - (intOf u).toNat)
  case atStart => exact ⟨0, 1, by omega, rfl, rfl, by omega, by show _ = _; simp [countL], HBV⟩
  case round =>
    obtain ⟨i, c, hi, rfl, rfl, hc, HM, HB⟩ := hrel
    by_cases hlt : i < kids.length
    · have HCT := countL_take kids (i + 1)
      have HCT := hid HCT
      obtain ⟨_, _, ak1, ck1, he, hkid⟩ := (HRd.out.under HB.out).kid
      cases he
      obtain ⟨b, off, nv2, kv2, rfl, hbS, hblt, hr, hrd⟩ := hkid i hlt
      obtain ⟨T, hT⟩ : ∃ T, T = kids[i] := ⟨_, rfl⟩
      rw [← hT] at hr hrd
      have HTm : Hid (T ∈ kids) := by show _; rw [hT]; exact List.getElem_mem hlt
      have HTe : Hid (T = kids[i]) := hT
      have c0 : wr.cell? ⟨b, off + i * 4, none⟩ = some (i64 T.kind) := hr 0 _ rfl
      have c1 : wr.cell? ⟨b, off + i * 4 + 1, none⟩ = some (i64 T.num) := hr 1 _ rfl
      have c2 : wr.cell? ⟨b, off + i * 4 + 2, none⟩ = some nv2 := hr 2 _ rfl
      have c3 : wr.cell? ⟨b, off + i * 4 + 3, none⟩ = some kv2 := hr 3 _ rfl
      obtain ⟨an2, cn2, rfl, ak2, ck2, rfl⟩ := hrd.form
      have HX2 : Hid ((wr.alloc (.cells #[i64 T.kind, i64 T.num, .slice an2 T.names.length cn2, .slice ak2 T.kids.length ck2] 37)).heap[wr.heap.size]? = some (.cells #[i64 T.kind, i64 T.num, .slice an2 T.names.length cn2, .slice ak2 T.kids.length ck2] 37)) := heap_last wr _
      have HBX : Hid (Below wr.heap.size wr (wr.alloc (.cells #[i64 T.kind, i64 T.num, .slice an2 T.names.length cn2, .slice ak2 T.kids.length ck2] 37))) := below_one wr _
      have HRT : Hid (Rd (wr.alloc (.cells #[i64 T.kind, i64 T.num, .slice an2 T.names.length cn2, .slice ak2 T.kids.length ck2] 37)) _ T (.slice an2 T.names.length cn2) (.slice ak2 T.kids.length ck2)) := hrd.under HBX.out
      clear hT hr hrd hkid hbS
      go_upto_region 5 with fail
      obtain ⟨Y, hY⟩ : ∃ Y, Y = wr.heap.size := ⟨_, rfl⟩
      rw [← hY] at HX2 ⊢
      generalize wr.alloc (.cells #[i64 T.kind, i64 T.num, .slice an2 T.names.length cn2, .slice ak2 T.kids.length ck2] 37) = X at *
      have z0 : X.cell? ⟨Y, 0, none⟩ = some (i64 T.kind) := blk_cell HX2.out 0
      have z1 : X.cell? ⟨Y, 1, none⟩ = some (i64 T.num) := blk_cell HX2.out 1
      have z2 : X.cell? ⟨Y, 2, none⟩ = some (.slice an2 T.names.length cn2) := blk_cell HX2.out 2
      have z3 : X.cell? ⟨Y, 3, none⟩ = some (.slice ak2 T.kids.length ck2) := blk_cell HX2.out 3
      have hYX : Y < X.heap.size := blk_lt HX2.out
      have HY := hid hY
      clear c0 c1 c2 c3 hY
      go_wp2_with fail
      refine (HIH.out T HTm.out X _ _ HRT.out).mono ?_
      rintro e w3 ⟨rfl, hb3⟩
      have HB3 : Hid (Below w.heap.size w w3) := HB.out.trans ((HBX.out.trans (hb3.mono HBX.out.size)).mono HB.out.size)
      have htc : countL (kids.take (i + 1)) = countL (kids.take i) + T.count := by rw [HTe.out]; exact take_countL kids i hlt
      have hc2 : c + T.count ≤ 1000001 := by have := HM.out; have := HCT.out; have := HCN.out; omega
      have HM2 : Hid (c + T.count = 1 + countL (kids.take (i + 1))) := by show _ = _; rw [htc, HM.out]; omega
      clear htc hb3
      go_wp2_with fail
      exact ⟨⟨i + 1, c + T.count, by omega, by go_num, by go_num, hc2, HM2, HB3⟩, by simp [intOf]; omega⟩
    · have he : i = kids.length := by omega
      have HM3 : Hid (c = (Ty.mk k n names kids).count) := by
        show _ = _
        have := HM.out
        rw [he, List.take_of_length_le (Nat.le_refl _)] at this
        simp only [Ty.count]
        omega
      clear he
      go_wp2_with fail
      go_ret
      exact ⟨ret_int (by have := HM3.out; omega), HB.out⟩
set_option maxRecDepth 100000 in
set_option maxHeartbeats 3200000 in
theorem depth_in (k n : Int) (names : List Bs) (kids : List Ty) (w : World) (S : Nat → Prop) (nv kv : Value) (hR : Rd w S (.mk k n names kids) nv kv) (hcnt : countL kids ≤ 1000000)
    (hih : ∀ T ∈ kids, ∀ (w : World) (nv kv : Value), Rd w S T nv kv → Calls Tryd.prog 32 #[tyV T.kind T.num nv kv] w fun e w' => e = .returned (i64 (T.depth : Nat)) ∧ Below w.heap.size w w') :
    Calls Tryd.prog 32 #[tyV k n nv kv] w fun e w' => e = .returned (i64 ((Ty.mk k n names kids).depth : Nat)) ∧ Below w.heap.size w w' := by
  have HIH := hid hih
  have HCN := hid hcnt
  have HRd : Hid (Rd w S (.mk k n names kids) nv kv) := hR
  obtain ⟨⟨an, cn, rfl, hnl, _, _⟩, hkl, ak, ck, rfl, _⟩ := hR.kid
  unfold maxLen at hnl hkl
  have HX : Hid ((w.alloc (.cells #[i64 k, i64 n, .slice an names.length cn, .slice ak kids.length ck] 37)).heap[w.heap.size]? = some (.cells #[i64 k, i64 n, .slice an names.length cn, .slice ak kids.length ck] 37)) := heap_last w _
  have HBV : Hid (Below w.heap.size w (w.alloc (.cells #[i64 k, i64 n, .slice an names.length cn, .slice ak kids.length ck] 37))) := below_one w _
  clear hR hih hcnt
  go_enter Tryd.func32, Tryd.ntmps32
  go_upto_region 1 with fail
  obtain ⟨Z, hZ⟩ : ∃ Z, Z = w.heap.size := ⟨_, rfl⟩
  rw [← hZ] at HX ⊢
  generalize w.alloc (.cells #[i64 k, i64 n, .slice an names.length cn, .slice ak kids.length ck] 37) = V at *
  have y0 : V.cell? ⟨Z, 0, none⟩ = some (i64 k) := blk_cell HX.out 0
  have y1 : V.cell? ⟨Z, 1, none⟩ = some (i64 n) := blk_cell HX.out 1
  have y2 : V.cell? ⟨Z, 2, none⟩ = some (.slice an names.length cn) := blk_cell HX.out 2
  have y3 : V.cell? ⟨Z, 3, none⟩ = some (.slice ak kids.length ck) := blk_cell HX.out 3
  have hZV : Z < V.heap.size := blk_lt HX.out
  have HZ := hid hZ
  clear hZ
  go_wp2_with fail
  go_loopw [3, 10] (fun a u wr => ∃ (i : Nat) (c : Nat), i ≤ kids.length ∧ u = i64 i ∧ a = i64 c ∧ c ≤ 1000001 ∧ Hid (c = depthL (kids.take i)) ∧ Hid (Below w.heap.size w wr)) (fun a u _ => kids.length - (intOf u).toNat)
  case atStart => exact ⟨0, 0, by omega, rfl, rfl, by omega, by show _ = _; simp [depthL], HBV⟩
  case round =>
    obtain ⟨i, c, hi, rfl, rfl, hc, HM, HB⟩ := hrel
    by_cases hlt : i < kids.length
    · have HCT := countL_take kids (i + 1)
      have HCT := hid HCT
      obtain ⟨_, _, ak1, ck1, he, hkid⟩ := (HRd.out.under HB.out).kid
      cases he
      obtain ⟨b, off, nv2, kv2, rfl, hbS, hblt, hr, hrd⟩ := hkid i hlt
      obtain ⟨T, hT⟩ : ∃ T, T = kids[i] := ⟨_, rfl⟩
      rw [← hT] at hr hrd
      have HTm : Hid (T ∈ kids) := by show _; rw [hT]; exact List.getElem_mem hlt
      have HTe : Hid (T = kids[i]) := hT
      have c0 : wr.cell? ⟨b, off + i * 4, none⟩ = some (i64 T.kind) := hr 0 _ rfl
      have c1 : wr.cell? ⟨b, off + i * 4 + 1, none⟩ = some (i64 T.num) := hr 1 _ rfl
      have c2 : wr.cell? ⟨b, off + i * 4 + 2, none⟩ = some nv2 := hr 2 _ rfl
      have c3 : wr.cell? ⟨b, off + i * 4 + 3, none⟩ = some kv2 := hr 3 _ rfl
      obtain ⟨an2, cn2, rfl, ak2, ck2, rfl⟩ := hrd.form
      have HX2 : Hid ((wr.alloc (.cells #[i64 T.kind, i64 T.num, .slice an2 T.names.length cn2, .slice ak2 T.kids.length ck2] 37)).heap[wr.heap.size]? = some (.cells #[i64 T.kind, i64 T.num, .slice an2 T.names.length cn2, .slice ak2 T.kids.length ck2] 37)) := heap_last wr _
      have HBX : Hid (Below wr.heap.size wr (wr.alloc (.cells #[i64 T.kind, i64 T.num, .slice an2 T.names.length cn2, .slice ak2 T.kids.length ck2] 37))) := below_one wr _
      have HRT : Hid (Rd (wr.alloc (.cells #[i64 T.kind, i64 T.num, .slice an2 T.names.length cn2, .slice ak2 T.kids.length ck2] 37)) _ T (.slice an2 T.names.length cn2) (.slice ak2 T.kids.length ck2)) := hrd.under HBX.out
      clear hT hr hrd hkid hbS
      go_upto_region 5 with fail
      obtain ⟨Y, hY⟩ : ∃ Y, Y = wr.heap.size := ⟨_, rfl⟩
      rw [← hY] at HX2 ⊢
      generalize wr.alloc (.cells #[i64 T.kind, i64 T.num, .slice an2 T.names.length cn2, .slice ak2 T.kids.length ck2] 37) = X at *
      have z0 : X.cell? ⟨Y, 0, none⟩ = some (i64 T.kind) := blk_cell HX2.out 0
      have z1 : X.cell? ⟨Y, 1, none⟩ = some (i64 T.num) := blk_cell HX2.out 1
      have z2 : X.cell? ⟨Y, 2, none⟩ = some (.slice an2 T.names.length cn2) := blk_cell HX2.out 2
      have z3 : X.cell? ⟨Y, 3, none⟩ = some (.slice ak2 T.kids.length ck2) := blk_cell HX2.out 3
      have hYX : Y < X.heap.size := blk_lt HX2.out
      have HY := hid hY
      clear c0 c1 c2 c3 hY
      go_wp2_with fail
      refine (HIH.out T HTm.out X _ _ HRT.out).mono ?_
      rintro e w3 ⟨rfl, hb3⟩
      have HB3 : Hid (Below w.heap.size w w3) := HB.out.trans ((HBX.out.trans (hb3.mono HBX.out.size)).mono HB.out.size)
      have htc : depthL (kids.take (i + 1)) = max (depthL (kids.take i)) T.depth := by rw [HTe.out]; exact take_depthL kids i hlt
      have hd2 : T.depth ≤ 1000000 := by have h1 := depth_le T; have h2 := countL_mem HTm.out; have h3 := HCN.out; omega
      have HM2 : Hid (max c T.depth = depthL (kids.take (i + 1))) := by show _ = _; rw [htc, HM.out]
      generalize hE : T.depth = E at *
      clear htc hb3 hE
      by_cases hg : c < E
      · have HM4 : Hid (E = depthL (kids.take (i + 1))) := by show _ = _; rw [← HM2.out]; omega
        clear HM2
        go_wp2_with fail
        exact ⟨⟨i + 1, E, by omega, by go_num, by go_num, by omega, HM4, HB3⟩, by simp [intOf]; omega⟩
      · have HM4 : Hid (c = depthL (kids.take (i + 1))) := by show _ = _; rw [← HM2.out]; omega
        clear HM2
        go_wp2_with fail
        exact ⟨⟨i + 1, c, by omega, by go_num, by go_num, by omega, HM4, HB3⟩, by simp [intOf]; omega⟩
    · have he : i = kids.length := by omega
      have HM3 : Hid (1 + c = (Ty.mk k n names kids).depth) := by
        show _ = _
        have := HM.out
        rw [he, List.take_of_length_le (Nat.le_refl _)] at this
        simp only [Ty.depth]
        omega
      clear he
      go_wp2_with fail
      go_ret
      exact ⟨ret_int (by have := HM3.out; omega), HB.out⟩
theorem count_ok : ∀ (M : Nat) (T : Ty), T.count ≤ M → T.count ≤ 1000000 → ∀ (w : World) (S : Nat → Prop) (nv kv : Value), Rd w S T nv kv → Calls Tryd.prog 33 #[tyV T.kind T.num nv kv] w fun e w' => e = .returned (i64 (T.count : Nat)) ∧ Below w.heap.size w w'
  | 0, T, hM, _, _, _, _, _, _ => by have := count_pos T; omega
  | M + 1, .mk k n names kids, hM, hC, w, S, nv, kv, hR => by
    simp only [Ty.count] at hM hC
    exact count_in k n names kids w S nv kv hR (by omega) (fun T hT w nv kv hR => count_ok M T (by have := countL_mem hT; omega) (by have := countL_mem hT; omega) w S nv kv hR)
theorem depth_ok : ∀ (M : Nat) (T : Ty), T.count ≤ M → T.count ≤ 1000000 → ∀ (w : World) (S : Nat → Prop) (nv kv : Value), Rd w S T nv kv → Calls Tryd.prog 32 #[tyV T.kind T.num nv kv] w fun e w' => e = .returned (i64 (T.depth : Nat)) ∧ Below w.heap.size w w'
  | 0, T, hM, _, _, _, _, _, _ => by have := count_pos T; omega
  | M + 1, .mk k n names kids, hM, hC, w, S, nv, kv, hR => by
    simp only [Ty.count] at hM hC
    exact depth_in k n names kids w S nv kv hR (by omega) (fun T hT w nv kv hR => depth_ok M T (by have := countL_mem hT; omega) (by have := countL_mem hT; omega) w S nv kv hR)
end Go.Proofs.YtgiemijhndanjaaDoor
