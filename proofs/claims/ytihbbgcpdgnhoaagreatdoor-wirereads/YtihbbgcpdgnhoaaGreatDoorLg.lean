/- large: its contract; no statement is proved in this text. -/
import Derived.Test.YtihbbgcpdgnhoaaGreatDoorApp
namespace Go.Proofs.YtihbbgcpdgnhoaaGreatDoor
open Go.ChangeShapes Go.WideShapes Go.ChangeAt Go.RowKit Go.Deep
attribute [local go_sem ↓] Go.wp_at_zero Go.wp_at_succ

theorem set1 {V : World} {b : Nat} {x : Value} {t : TypeId} (h : V.heap[b]? = some (.cells #[x] t)) (s : Value) : (V.setCell ⟨b, 0, none⟩ s).heap[b]? = some (.cells #[s] t) := by
  have h1 := heap_setCell_same V b 0 _ t s h
  simpa using h1
theorem take_countL (l : List Ty) (k : Nat) (hk : k < l.length) : countL (l.take (k + 1)) = countL (l.take k) + l[k].count := by
  induction l generalizing k with
  | nil => simp at hk
  | cons t r ih =>
    cases k with
    | zero => simp [countL]
    | succ k =>
      have := ih k (by simpa using hk)
      simp only [List.take_succ_cons, countL, List.getElem_cons_succ, this]
      omega
theorem Rd.form {w : World} {S : Nat → Prop} {T : Ty} {nv kv : Value} (h : Rd w S T nv kv) : ∃ an cn, nv = .slice an T.names.length cn ∧ ∃ ak ck, kv = .slice ak T.kids.length ck := by
  cases T
  obtain ⟨⟨an, cn, rfl, _, _, _⟩, _, ak, ck, rfl, _⟩ := h.kid
  exact ⟨an, cn, rfl, ak, ck, rfl⟩
def LgOk (w : World) (q : Nat) (m : Int) (T : Ty) (e : Ending) (w' : World) : Prop :=
  ∃ (b : Bool) (m' : Int), e = .returned (.bool b) ∧ w'.heap[q]? = some (.cells #[i64 m'] 60) ∧ Touch q w w' ∧ (b = false → 0 ≤ m' ∧ m' = m - T.count)
set_option maxRecDepth 100000 in
set_option maxHeartbeats 3200000 in
theorem large_big (k n : Int) (names : List Bs) (kids : List Ty) (w : World) (nv kv : Value) (q : Nat) (m d : Int) (hR : Rd w (fun b => b ≠ q) (.mk k n names kids) nv kv) (hq : w.heap[q]? = some (.cells #[i64 m] 60)) (hm : 0 ≤ m) (hm2 : m ≤ 400) (hd : 0 ≤ d) (hd2 : d ≤ 30)
    (hbig : m < 1 ∨ 20 < d ∨ 100 < kids.length ∨ 100 < names.length) : Calls Tryz.prog 16 #[tyV k n nv kv, pq q, i64 d] w (LgOk w q m (.mk k n names kids)) := by
  obtain ⟨⟨an, cn, rfl, hnl, _, _⟩, hkl, ak, ck, rfl, _⟩ := hR.kid
  have hqlt := blk_lt hq
  have HX : Hid ((w.alloc (.cells #[i64 k, i64 n, .slice an names.length cn, .slice ak kids.length ck] 25)).heap[w.heap.size]? = some (.cells #[i64 k, i64 n, .slice an names.length cn, .slice ak kids.length ck] 25)) := heap_last w _
  have HQ : Hid ((w.alloc (.cells #[i64 k, i64 n, .slice an names.length cn, .slice ak kids.length ck] 25)).heap[q]? = some (.cells #[i64 m] 60)) := blk_alloc hq _
  have HT : Hid (Touch q w (w.alloc (.cells #[i64 k, i64 n, .slice an names.length cn, .slice ak kids.length ck] 25))) := (Touch.refl _ _).alloc _
  clear hR hq
  go_enter Tryz.func16, Tryz.ntmps16
  go_upto_region 1 with fail
  obtain ⟨Z, hZ⟩ : ∃ Z, Z = w.heap.size := ⟨_, rfl⟩
  rw [← hZ] at HX hqlt ⊢
  generalize w.alloc (.cells #[i64 k, i64 n, .slice an names.length cn, .slice ak kids.length ck] 25) = V at *
  have yq : V.cell? ⟨q, 0, none⟩ = some (i64 m) := blk_cell HQ.out 0
  have fq : V.frozen? ⟨q, 0, none⟩ = false := blk_frozen HQ.out 0
  have HQ1 : Hid ((V.setCell ⟨q, 0, none⟩ (i64 (m - 1))).heap[q]? = some (.cells #[i64 (m - 1)] 60)) := set1 HQ.out _
  have HX1 : Hid ((V.setCell ⟨q, 0, none⟩ (i64 (m - 1))).heap[Z]? = some (.cells #[i64 k, i64 n, .slice an names.length cn, .slice ak kids.length ck] 25)) := by
    show _ = _
    rw [Below.heap_setCell _ _ _ _ (by show Z ≠ q; omega)]; exact HX.out
  have HT1 : Hid (Touch q w (V.setCell ⟨q, 0, none⟩ (i64 (m - 1)))) := HT.out.setCell rfl _
  have HZ := hid hZ
  clear hZ
  go_upto_region 2 with fail
  generalize V.setCell ⟨q, 0, none⟩ (i64 (m - 1)) = U at *
  have y0 : U.cell? ⟨q, 0, none⟩ = some (i64 (m - 1)) := blk_cell HQ1.out 0
  have y2 : U.cell? ⟨Z, 2, none⟩ = some (.slice an names.length cn) := blk_cell HX1.out 2
  have y3 : U.cell? ⟨Z, 3, none⟩ = some (.slice ak kids.length ck) := blk_cell HX1.out 3
  unfold maxLen at hkl hnl
  by_cases h1 : m < 1
  · go_wp2_with fail
    go_ret
    exact ⟨true, m - 1, rfl, HQ1.out, HT1.out, fun h => by cases h⟩
  · by_cases h2 : 20 < d
    · go_wp2_with fail
      go_ret
      exact ⟨true, m - 1, rfl, HQ1.out, HT1.out, fun h => by cases h⟩
    · by_cases h3 : 100 < kids.length
      · go_wp2_with fail
        go_ret
        exact ⟨true, m - 1, rfl, HQ1.out, HT1.out, fun h => by cases h⟩
      · have h4 : 100 < names.length := by omega
        go_wp2_with fail
        go_ret
        exact ⟨true, m - 1, rfl, HQ1.out, HT1.out, fun h => by cases h⟩
set_option maxRecDepth 100000 in
set_option maxHeartbeats 3200000 in
theorem large_in (k n : Int) (names : List Bs) (kids : List Ty) (w : World) (nv kv : Value) (q : Nat) (m d : Int) (hR : Rd w (fun b => b ≠ q) (.mk k n names kids) nv kv) (hq : w.heap[q]? = some (.cells #[i64 m] 60)) (hm : 1 ≤ m) (hm2 : m ≤ 400) (hd : 0 ≤ d) (hd2 : d ≤ 20) (hk1 : kids.length ≤ 100) (hn1 : names.length ≤ 100)
    (hih : ∀ T ∈ kids, ∀ (w : World) (nv kv : Value) (m : Int), Rd w (fun b => b ≠ q) T nv kv → w.heap[q]? = some (.cells #[i64 m] 60) → 0 ≤ m → m ≤ 400 → Calls Tryz.prog 16 #[tyV T.kind T.num nv kv, pq q, i64 (d + 1)] w (LgOk w q m T)) : Calls Tryz.prog 16 #[tyV k n nv kv, pq q, i64 d] w (LgOk w q m (.mk k n names kids)) := by
  have HRd : Hid (Rd w (fun b => b ≠ q) (.mk k n names kids) nv kv) := hR
  obtain ⟨⟨an, cn, rfl, _, _, _⟩, _, ak, ck, rfl, _⟩ := hR.kid
  have hqlt := blk_lt hq
  have HIH := hid hih
  have HX : Hid ((w.alloc (.cells #[i64 k, i64 n, .slice an names.length cn, .slice ak kids.length ck] 25)).heap[w.heap.size]? = some (.cells #[i64 k, i64 n, .slice an names.length cn, .slice ak kids.length ck] 25)) := heap_last w _
  have HQ : Hid ((w.alloc (.cells #[i64 k, i64 n, .slice an names.length cn, .slice ak kids.length ck] 25)).heap[q]? = some (.cells #[i64 m] 60)) := blk_alloc hq _
  have HT : Hid (Touch q w (w.alloc (.cells #[i64 k, i64 n, .slice an names.length cn, .slice ak kids.length ck] 25))) := (Touch.refl _ _).alloc _
  clear hR hq hih
  go_enter Tryz.func16, Tryz.ntmps16
  go_upto_region 1 with fail
  obtain ⟨Z, hZ⟩ : ∃ Z, Z = w.heap.size := ⟨_, rfl⟩
  rw [← hZ] at HX hqlt ⊢
  generalize w.alloc (.cells #[i64 k, i64 n, .slice an names.length cn, .slice ak kids.length ck] 25) = V at *
  have yq : V.cell? ⟨q, 0, none⟩ = some (i64 m) := blk_cell HQ.out 0
  have fq : V.frozen? ⟨q, 0, none⟩ = false := blk_frozen HQ.out 0
  have HQ1 : Hid ((V.setCell ⟨q, 0, none⟩ (i64 (m - 1))).heap[q]? = some (.cells #[i64 (m - 1)] 60)) := set1 HQ.out _
  have HX1 : Hid ((V.setCell ⟨q, 0, none⟩ (i64 (m - 1))).heap[Z]? = some (.cells #[i64 k, i64 n, .slice an names.length cn, .slice ak kids.length ck] 25)) := by
    show _ = _
    rw [Below.heap_setCell _ _ _ _ (by show Z ≠ q; omega)]; exact HX.out
  have HT1 : Hid (Touch q w (V.setCell ⟨q, 0, none⟩ (i64 (m - 1)))) := HT.out.setCell rfl _
  have HZ := hid hZ
  clear hZ
  go_upto_region 2 with fail
  generalize V.setCell ⟨q, 0, none⟩ (i64 (m - 1)) = U at *
  have y0 : U.cell? ⟨q, 0, none⟩ = some (i64 (m - 1)) := blk_cell HQ1.out 0
  have y2 : U.cell? ⟨Z, 2, none⟩ = some (.slice an names.length cn) := blk_cell HX1.out 2
  have y3 : U.cell? ⟨Z, 3, none⟩ = some (.slice ak kids.length ck) := blk_cell HX1.out 3
  go_wp2_with fail
  go_loopw [41] (fun u wr => ∃ (i : Nat) (m1 : Int), i ≤ kids.length ∧ u = i64 i ∧ 0 ≤ m1 ∧ Hid (m1 = m - 1 - countL (kids.take i)) ∧ Hid (wr.heap[q]? = some (.cells #[i64 m1] 60)) ∧ Hid (Touch q w wr)) (fun u _ => kids.length - (intOf u).toNat)
  case atStart => exact ⟨0, m - 1, by omega, rfl, by omega, by show _ = _; simp [countL], HQ1, HT1⟩
  case round =>
    obtain ⟨i, m1, hi, rfl, hm1, HM, HQr, HTr⟩ := hrel
    by_cases hlt : i < kids.length
    · have hm3 : m1 ≤ 400 := by have := HM.out; omega
      obtain ⟨_, _, ak', ck', he, hkid⟩ := (HRd.out.touch HTr.out).kid
      cases he
      obtain ⟨b, off, nv', kv', rfl, hbq, hblt, hr, hrd⟩ := hkid i hlt
      obtain ⟨T, hT⟩ : ∃ T, T = kids[i] := ⟨_, rfl⟩
      rw [← hT] at hr hrd
      have HTm : Hid (T ∈ kids) := by show _; rw [hT]; exact List.getElem_mem hlt
      have HTc : Hid (countL (kids.take (i + 1)) = countL (kids.take i) + T.count) := by show _ = _; rw [hT]; exact take_countL kids i hlt
      have c0 : wr.cell? ⟨b, off + i * 4, none⟩ = some (i64 T.kind) := hr 0 _ rfl
      have c1 : wr.cell? ⟨b, off + i * 4 + 1, none⟩ = some (i64 T.num) := hr 1 _ rfl
      have c2 : wr.cell? ⟨b, off + i * 4 + 2, none⟩ = some nv' := hr 2 _ rfl
      have c3 : wr.cell? ⟨b, off + i * 4 + 3, none⟩ = some kv' := hr 3 _ rfl
      have hqr := blk_lt HQr.out
      have hqr' := hqr
      obtain ⟨⟨an', cn', rfl, _, _, _⟩, _, ak', ck', rfl, _⟩ := (show Rd wr (fun b => b ≠ q) (.mk T.kind T.num T.names T.kids) nv' kv' by cases T; exact hrd).kid
      have HX2 : Hid ((wr.alloc (.cells #[i64 T.kind, i64 T.num, .slice an' T.names.length cn', .slice ak' T.kids.length ck'] 25)).heap[wr.heap.size]? = some (.cells #[i64 T.kind, i64 T.num, .slice an' T.names.length cn', .slice ak' T.kids.length ck'] 25)) := heap_last wr _
      have HT2 : Hid (Touch q w (wr.alloc (.cells #[i64 T.kind, i64 T.num, .slice an' T.names.length cn', .slice ak' T.kids.length ck'] 25))) := HTr.out.alloc _
      have HC : Hid (Calls Tryz.prog 16 #[tyV T.kind T.num (.slice an' T.names.length cn') (.slice ak' T.kids.length ck'), pq q, i64 (d + 1)] (wr.alloc (.cells #[i64 T.kind, i64 T.num, .slice an' T.names.length cn', .slice ak' T.kids.length ck'] 25)) (LgOk (wr.alloc (.cells #[i64 T.kind, i64 T.num, .slice an' T.names.length cn', .slice ak' T.kids.length ck'] 25)) q m1 T)) :=
        HIH.out T HTm.out _ _ _ m1 (hrd.move (by simp) fun b hS hlt => ⟨hS, Below.heap_alloc _ _ _ hlt⟩) (blk_alloc HQr.out _) hm1 hm3
      clear hT hr hrd hkid hqr
      go_upto_region 7 with fail
      obtain ⟨Y, hY⟩ : ∃ Y, Y = wr.heap.size := ⟨_, rfl⟩
      rw [← hY] at HX2 ⊢
      generalize wr.alloc (.cells #[i64 T.kind, i64 T.num, .slice an' T.names.length cn', .slice ak' T.kids.length ck'] 25) = X at *
      have z0 : X.cell? ⟨Y, 0, none⟩ = some (i64 T.kind) := blk_cell HX2.out 0
      have z1 : X.cell? ⟨Y, 1, none⟩ = some (i64 T.num) := blk_cell HX2.out 1
      have z2 : X.cell? ⟨Y, 2, none⟩ = some (.slice an' T.names.length cn') := blk_cell HX2.out 2
      have z3 : X.cell? ⟨Y, 3, none⟩ = some (.slice ak' T.kids.length ck') := blk_cell HX2.out 3
      clear c0 c1 c2 c3 hY
      go_wp2_with fail
      refine HC.out.mono ?_
      rintro e w3 ⟨bb, m2, rfl, hq3, ht3, hf3⟩
      have HQ3 := hid hq3
      have HT3 : Hid (Touch q w w3) := HT2.out.trans ht3
      have HF3 := hid hf3
      clear hq3 ht3 hf3
      cases bb with
      | true =>
        go_wp2_with fail
        go_ret
        exact ⟨true, m2, rfl, HQ3.out, HT3.out, fun h => by cases h⟩
      | false =>
        obtain ⟨g1, g2⟩ := HF3.out rfl
        have HM2 : Hid (m2 = m - 1 - countL (kids.take (i + 1))) := by show _ = _; rw [g2, HM.out, HTc.out]; omega
        clear g2
        go_wp2_with fail
        exact ⟨⟨i + 1, m2, by omega, by go_num, g1, HM2, HQ3, HT3⟩, by simp [intOf]; omega⟩
    · have he : i = kids.length := by omega
      have HM3 : Hid (m1 = m - (Ty.mk k n names kids).count) := by
        show _ = _
        have := HM.out
        rw [he, List.take_of_length_le (Nat.le_refl _)] at this
        simp only [Ty.count]
        omega
      clear he
      go_wp2_with fail
      go_ret
      exact ⟨false, m1, rfl, HQr.out, HTr.out, fun _ => ⟨hm1, HM3.out⟩⟩
theorem large_ok : ∀ (N : Nat) (T : Ty), T.count ≤ N → ∀ (w : World) (nv kv : Value) (q : Nat) (m d : Int), Rd w (fun b => b ≠ q) T nv kv → w.heap[q]? = some (.cells #[i64 m] 60) → 0 ≤ m → m ≤ 400 → 0 ≤ d → d ≤ 30 → Calls Tryz.prog 16 #[tyV T.kind T.num nv kv, pq q, i64 d] w (LgOk w q m T)
  | 0, T, hN, _, _, _, _, _, _, _, _, _, _, _, _ => by have := count_pos T; omega
  | N + 1, .mk k n names kids, hN, w, nv, kv, q, m, d, hR, hq, hm, hm2, hd, hd2 => by
    by_cases hbig : m < 1 ∨ 20 < d ∨ 100 < kids.length ∨ 100 < names.length
    · exact large_big k n names kids w nv kv q m d hR hq hm hm2 hd hd2 hbig
    · refine large_in k n names kids w nv kv q m d hR hq (by omega) hm2 hd (by omega) (by omega) (by omega) (fun T hT w nv kv m hR hq hm hm2 => ?_)
      have := countL_mem hT
      simp only [Ty.count] at hN
      exact large_ok N T (by omega) w nv kv q m (d + 1) hR hq hm hm2 (by omega) (by omega)
end Go.Proofs.YtihbbgcpdgnhoaaGreatDoor
