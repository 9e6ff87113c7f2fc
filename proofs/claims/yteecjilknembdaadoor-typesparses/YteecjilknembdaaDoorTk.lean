/- imagoref15's Take where it reads no list and no record: its contract; no statement is proved in this text. -/
import Derived.Test.YteecjilknembdaaDoorTk0
namespace Go.Proofs.YteecjilknembdaaDoor
open Go.ChangeShapes Go.WideShapes Go.ChangeAt Go.RowKit Go.Deep
attribute [local go_sem ↓] Go.wp_at_zero Go.wp_at_succ

set_option maxRecDepth 100000 in
set_option maxHeartbeats 3200000 in
theorem tk_zero (s : ByteArray) (a0 : Int) (l : Bs) (w : World) : Calls Tryd.prog 33 #[.string s, i64 a0, i64 0] w (Gok w s.size (takeD 0 l)) := by
  obtain ⟨res, hres⟩ : ∃ res, res = takeD 0 l := ⟨_, rfl⟩
  rw [← hres]
  have HRes : Hid (res = none) := by show _ = _; rw [hres]; rfl
  clear hres
  have HX : Hid ((w.alloc (.cells #[i64 0, i64 0, .slice none 0 0, .slice none 0 0, i64 0] 63)).heap[w.heap.size]? = some (.cells #[i64 0, i64 0, .slice none 0 0, .slice none 0 0, i64 0] 63)) := heap_last w _
  have HBV : Hid (Below w.heap.size w (w.alloc (.cells #[i64 0, i64 0, .slice none 0 0, .slice none 0 0, i64 0] 63))) := below_one w _
  go_enter Tryd.func33, Tryd.ntmps33
  go_upto_region 1 with fail
  obtain ⟨R, hR⟩ : ∃ R, R = w.heap.size := ⟨_, rfl⟩
  have HRe : Hid (w.heap.size ≤ R) := by show _ ≤ _; omega
  rw [← hR] at HX ⊢
  clear hR
  generalize w.alloc (.cells #[i64 0, i64 0, .slice none 0 0, .slice none 0 0, i64 0] 63) = V at *
  have rc0 : V.cell? ⟨R, 0, none⟩ = some (i64 0) := blk_cell HX.out 0
  have rf0 : V.frozen? ⟨R, 0, none⟩ = false := blk_frozen HX.out 0
  have rc1 : V.cell? ⟨R, 1, none⟩ = some (i64 0) := blk_cell HX.out 1
  have rf1 : V.frozen? ⟨R, 1, none⟩ = false := blk_frozen HX.out 1
  have rc2 : V.cell? ⟨R, 2, none⟩ = some (.slice none 0 0) := blk_cell HX.out 2
  have rf2 : V.frozen? ⟨R, 2, none⟩ = false := blk_frozen HX.out 2
  have rc3 : V.cell? ⟨R, 3, none⟩ = some (.slice none 0 0) := blk_cell HX.out 3
  have rf3 : V.frozen? ⟨R, 3, none⟩ = false := blk_frozen HX.out 3
  have rc4 : V.cell? ⟨R, 4, none⟩ = some (i64 0) := blk_cell HX.out 4
  have rf4 : V.frozen? ⟨R, 4, none⟩ = false := blk_frozen HX.out 4
  go_wp2_with fail
  refine bodyPost_ret (v := gotV 0 0 (.slice none 0 0) (.slice none 0 0) (-1)) (results_one Tryd.results33 rfl (load63 (set5 HX.out _ _ _ _ _))) rfl ?_
  exact ⟨below5 HBV.out HRe.out _ _ _ _ _, fun _ => rfl, fun T r h => by rw [HRes.out] at h; cases h⟩
set_option maxRecDepth 100000 in
set_option maxHeartbeats 3200000 in
theorem tk_end (s : ByteArray) (a0 : Nat) (f : Nat) (w : World) (hf : f ≤ 5) (ha : s.size ≤ a0) : Calls Tryd.prog 33 #[.string s, i64 a0, i64 (f + 1 : Nat)] w (Gok w s.size (takeD (f + 1) (s.data.toList.drop a0))) := by
  obtain ⟨res, hres⟩ : ∃ res, res = takeD (f + 1) (s.data.toList.drop a0) := ⟨_, rfl⟩
  rw [← hres]
  have HRes : Hid (res = none) := by show _ = _; rw [hres, drop_end s a0 ha]; rfl
  clear hres
  obtain ⟨D, hD⟩ : ∃ D : Int, D = ((f + 1 : Nat) : Int) := ⟨_, rfl⟩
  have hD1 : 1 ≤ D := by omega
  have hD6 : D ≤ 6 := by omega
  have HDe := hid hD
  have qD : (D == 0) = false := by simp; omega
  rw [← hD]
  clear hD
  have HX : Hid ((w.alloc (.cells #[i64 0, i64 0, .slice none 0 0, .slice none 0 0, i64 0] 63)).heap[w.heap.size]? = some (.cells #[i64 0, i64 0, .slice none 0 0, .slice none 0 0, i64 0] 63)) := heap_last w _
  have HBV : Hid (Below w.heap.size w (w.alloc (.cells #[i64 0, i64 0, .slice none 0 0, .slice none 0 0, i64 0] 63))) := below_one w _
  go_enter Tryd.func33, Tryd.ntmps33
  go_upto_region 1 with fail
  obtain ⟨R, hR⟩ : ∃ R, R = w.heap.size := ⟨_, rfl⟩
  have HRe : Hid (w.heap.size ≤ R) := by show _ ≤ _; omega
  rw [← hR] at HX ⊢
  clear hR
  generalize w.alloc (.cells #[i64 0, i64 0, .slice none 0 0, .slice none 0 0, i64 0] 63) = V at *
  have rc0 : V.cell? ⟨R, 0, none⟩ = some (i64 0) := blk_cell HX.out 0
  have rf0 : V.frozen? ⟨R, 0, none⟩ = false := blk_frozen HX.out 0
  have rc1 : V.cell? ⟨R, 1, none⟩ = some (i64 0) := blk_cell HX.out 1
  have rf1 : V.frozen? ⟨R, 1, none⟩ = false := blk_frozen HX.out 1
  have rc2 : V.cell? ⟨R, 2, none⟩ = some (.slice none 0 0) := blk_cell HX.out 2
  have rf2 : V.frozen? ⟨R, 2, none⟩ = false := blk_frozen HX.out 2
  have rc3 : V.cell? ⟨R, 3, none⟩ = some (.slice none 0 0) := blk_cell HX.out 3
  have rf3 : V.frozen? ⟨R, 3, none⟩ = false := blk_frozen HX.out 3
  have rc4 : V.cell? ⟨R, 4, none⟩ = some (i64 0) := blk_cell HX.out 4
  have rf4 : V.frozen? ⟨R, 4, none⟩ = false := blk_frozen HX.out 4
  go_wp2_with fail
  refine bodyPost_ret (v := gotV 0 0 (.slice none 0 0) (.slice none 0 0) (-1)) (results_one Tryd.results33 rfl (load63 (set5 HX.out _ _ _ _ _))) rfl ?_
  exact ⟨below5 HBV.out HRe.out _ _ _ _ _, fun _ => rfl, fun T r h => by rw [HRes.out] at h; cases h⟩
set_option maxRecDepth 100000 in
set_option maxHeartbeats 3200000 in
theorem tk_n (s : ByteArray) (a0 : Nat) (f : Nat) (w : World) (hs : s.size ≤ 1000000) (hf : f ≤ 5) (ha : a0 < s.size) (h114 : s[a0].toNat ≠ 114) (hn : numD (s.data.toList.drop (a0 + 1)) = none) : Calls Tryd.prog 33 #[.string s, i64 a0, i64 (f + 1 : Nat)] w (Gok w s.size (takeD (f + 1) (s.data.toList.drop a0))) := by
  obtain ⟨res, hres⟩ : ∃ res, res = takeD (f + 1) (s.data.toList.drop a0) := ⟨_, rfl⟩
  rw [← hres]
  have k114 : s[a0] ≠ 114 := fun e => h114 (by rw [e]; rfl)
  have HRes : Hid (res = none) := by show _ = _; rw [hres, drop_at s a0 ha]; simp [takeD, k114, hn]
  have HNV : Hid (numV (s.data.toList.drop (a0 + 1)) s.size = (0, -1)) := by show _ = _; unfold numV; rw [hn]
  clear hres hn k114
  obtain ⟨D, hD⟩ : ∃ D : Int, D = ((f + 1 : Nat) : Int) := ⟨_, rfl⟩
  have hD1 : 1 ≤ D := by omega
  have hD6 : D ≤ 6 := by omega
  have HDe := hid hD
  have qD : (D == 0) = false := by simp; omega
  rw [← hD]
  clear hD
  have q114 : ((s[a0].toNat : Int) == 114) = false := by simp; omega
  have HX : Hid ((w.alloc (.cells #[i64 0, i64 0, .slice none 0 0, .slice none 0 0, i64 0] 63)).heap[w.heap.size]? = some (.cells #[i64 0, i64 0, .slice none 0 0, .slice none 0 0, i64 0] 63)) := heap_last w _
  have HBV : Hid (Below w.heap.size w (w.alloc (.cells #[i64 0, i64 0, .slice none 0 0, .slice none 0 0, i64 0] 63))) := below_one w _
  go_enter Tryd.func33, Tryd.ntmps33
  go_upto_region 1 with fail
  obtain ⟨R, hR⟩ : ∃ R, R = w.heap.size := ⟨_, rfl⟩
  have HRe : Hid (w.heap.size ≤ R) := by show _ ≤ _; omega
  rw [← hR] at HX ⊢
  clear hR
  generalize w.alloc (.cells #[i64 0, i64 0, .slice none 0 0, .slice none 0 0, i64 0] 63) = V at *
  have HNU : Hid (Calls Tryd.prog 46 #[.string s, i64 ((a0 : Int) + 1)] V fun e w' => e = .returned (.agg #[i64 0, i64 (-1)]) ∧ Below V.heap.size V w') := by
    have := rnum_s s (a0 + 1) V hs (by omega)
    rw [HNV.out] at this
    exact this
  go_wp2_with fail
  refine HNU.out.mono ?_
  rintro e w1 ⟨rfl, hb1⟩
  have HB1 : Hid (Below w.heap.size w (w1.alloc (.cells #[i64 0, i64 (-1)] 76))) := (HBV.out.trans (hb1.mono HBV.out.size)).trans ((below_one w1 _).mono (by have h1 := HBV.out.size; have h2 := hb1.size; omega))
  have HX1 : Hid ((w1.alloc (.cells #[i64 0, i64 (-1)] 76)).heap[R]? = some (.cells #[i64 0, i64 0, .slice none 0 0, .slice none 0 0, i64 0] 63)) := blk_alloc (blk_below HX.out hb1) _
  have HQ1 : Hid ((w1.alloc (.cells #[i64 0, i64 (-1)] 76)).heap[w1.heap.size]? = some (.cells #[i64 0, i64 (-1)] 76)) := heap_last w1 _
  clear hb1 HNU
  go_upto_region 6 with fail
  obtain ⟨Q, hQ⟩ : ∃ Q, Q = w1.heap.size := ⟨_, rfl⟩
  rw [← hQ] at HQ1 ⊢
  clear hQ
  generalize w1.alloc (.cells #[i64 0, i64 (-1)] 76) = W at *
  have rc0 : W.cell? ⟨R, 0, none⟩ = some (i64 0) := blk_cell HX1.out 0
  have rf0 : W.frozen? ⟨R, 0, none⟩ = false := blk_frozen HX1.out 0
  have rc1 : W.cell? ⟨R, 1, none⟩ = some (i64 0) := blk_cell HX1.out 1
  have rf1 : W.frozen? ⟨R, 1, none⟩ = false := blk_frozen HX1.out 1
  have rc2 : W.cell? ⟨R, 2, none⟩ = some (.slice none 0 0) := blk_cell HX1.out 2
  have rf2 : W.frozen? ⟨R, 2, none⟩ = false := blk_frozen HX1.out 2
  have rc3 : W.cell? ⟨R, 3, none⟩ = some (.slice none 0 0) := blk_cell HX1.out 3
  have rf3 : W.frozen? ⟨R, 3, none⟩ = false := blk_frozen HX1.out 3
  have rc4 : W.cell? ⟨R, 4, none⟩ = some (i64 0) := blk_cell HX1.out 4
  have rf4 : W.frozen? ⟨R, 4, none⟩ = false := blk_frozen HX1.out 4
  have nc0 : W.cell? ⟨Q, 0, none⟩ = some (i64 0) := blk_cell HQ1.out 0
  have nc1 : W.cell? ⟨Q, 1, none⟩ = some (i64 (-1)) := blk_cell HQ1.out 1
  go_wp2_with fail
  refine bodyPost_ret (v := gotV 0 0 (.slice none 0 0) (.slice none 0 0) (-1)) (results_one Tryd.results33 rfl (load63 (set5 HX1.out _ _ _ _ _))) rfl ?_
  exact ⟨below5 HB1.out HRe.out _ _ _ _ _, fun _ => rfl, fun T r h => by rw [HRes.out] at h; cases h⟩
set_option maxRecDepth 100000 in
set_option maxHeartbeats 3200000 in
theorem tk_i (s : ByteArray) (a0 : Nat) (f : Nat) (w : World) (hs : s.size ≤ 1000000) (hf : f ≤ 5) (ha : a0 < s.size) (hc : s[a0].toNat = 105) (n : Nat) (r : Bs) (hn : numD (s.data.toList.drop (a0 + 1)) = some (n, r)) : Calls Tryd.prog 33 #[.string s, i64 a0, i64 (f + 1 : Nat)] w (Gok w s.size (takeD (f + 1) (s.data.toList.drop a0))) := by
  obtain ⟨res, hres⟩ : ∃ res, res = takeD (f + 1) (s.data.toList.drop a0) := ⟨_, rfl⟩
  rw [← hres]
  have kc : s[a0] = 105 := UInt8.toNat_inj.1 hc
  have HRes : Hid (res = some (.mk 1 n [] [], r)) := by show _ = _; rw [hres, drop_at s a0 ha, kc]; simp [takeD, hn]
  have HNV : Hid (numV (s.data.toList.drop (a0 + 1)) s.size = ((n : Int), ((s.size - r.length : Nat) : Int))) := by show _ = _; unfold numV; rw [hn]
  have HHC := hid hc
  clear hres hn kc
  obtain ⟨D, hD⟩ : ∃ D : Int, D = ((f + 1 : Nat) : Int) := ⟨_, rfl⟩
  have hD1 : 1 ≤ D := by omega
  have hD6 : D ≤ 6 := by omega
  have HDe := hid hD
  have qD : (D == 0) = false := by simp; omega
  rw [← hD]
  clear hD
  have q114 : ((s[a0].toNat : Int) == 114) = false := by simp; omega
  have q105 : ((s[a0].toNat : Int) == 105) = true := by simp; omega
  clear hc
  obtain ⟨E, hE⟩ : ∃ E, E = s.size - r.length := ⟨_, rfl⟩
  have hE2 : E ≤ 1000000 := by omega
  have HEe := hid hE
  rw [← hE] at HNV
  clear hE
  have HX : Hid ((w.alloc (.cells #[i64 0, i64 0, .slice none 0 0, .slice none 0 0, i64 0] 63)).heap[w.heap.size]? = some (.cells #[i64 0, i64 0, .slice none 0 0, .slice none 0 0, i64 0] 63)) := heap_last w _
  have HBV : Hid (Below w.heap.size w (w.alloc (.cells #[i64 0, i64 0, .slice none 0 0, .slice none 0 0, i64 0] 63))) := below_one w _
  go_enter Tryd.func33, Tryd.ntmps33
  go_upto_region 1 with fail
  obtain ⟨R, hR⟩ : ∃ R, R = w.heap.size := ⟨_, rfl⟩
  have HRe : Hid (w.heap.size ≤ R) := by show _ ≤ _; omega
  rw [← hR] at HX ⊢
  clear hR
  generalize w.alloc (.cells #[i64 0, i64 0, .slice none 0 0, .slice none 0 0, i64 0] 63) = V at *
  have HNU : Hid (Calls Tryd.prog 46 #[.string s, i64 ((a0 : Int) + 1)] V fun e w' => e = .returned (.agg #[i64 n, i64 E]) ∧ Below V.heap.size V w') := by
    have := rnum_s s (a0 + 1) V hs (by omega)
    rw [HNV.out] at this
    exact this
  go_wp2_with fail
  refine HNU.out.mono ?_
  rintro e w1 ⟨rfl, hb1⟩
  have HB1 : Hid (Below w.heap.size w (w1.alloc (.cells #[i64 n, i64 E] 76))) := (HBV.out.trans (hb1.mono HBV.out.size)).trans ((below_one w1 _).mono (by have h1 := HBV.out.size; have h2 := hb1.size; omega))
  have HX1 : Hid ((w1.alloc (.cells #[i64 n, i64 E] 76)).heap[R]? = some (.cells #[i64 0, i64 0, .slice none 0 0, .slice none 0 0, i64 0] 63)) := blk_alloc (blk_below HX.out hb1) _
  have HQ1 : Hid ((w1.alloc (.cells #[i64 n, i64 E] 76)).heap[w1.heap.size]? = some (.cells #[i64 n, i64 E] 76)) := heap_last w1 _
  clear hb1 HNU
  go_upto_region 6 with fail
  obtain ⟨Q, hQ⟩ : ∃ Q, Q = w1.heap.size := ⟨_, rfl⟩
  rw [← hQ] at HQ1 ⊢
  clear hQ
  generalize w1.alloc (.cells #[i64 n, i64 E] 76) = W at *
  have rc0 : W.cell? ⟨R, 0, none⟩ = some (i64 0) := blk_cell HX1.out 0
  have rf0 : W.frozen? ⟨R, 0, none⟩ = false := blk_frozen HX1.out 0
  have rc1 : W.cell? ⟨R, 1, none⟩ = some (i64 0) := blk_cell HX1.out 1
  have rf1 : W.frozen? ⟨R, 1, none⟩ = false := blk_frozen HX1.out 1
  have rc2 : W.cell? ⟨R, 2, none⟩ = some (.slice none 0 0) := blk_cell HX1.out 2
  have rf2 : W.frozen? ⟨R, 2, none⟩ = false := blk_frozen HX1.out 2
  have rc3 : W.cell? ⟨R, 3, none⟩ = some (.slice none 0 0) := blk_cell HX1.out 3
  have rf3 : W.frozen? ⟨R, 3, none⟩ = false := blk_frozen HX1.out 3
  have rc4 : W.cell? ⟨R, 4, none⟩ = some (i64 0) := blk_cell HX1.out 4
  have rf4 : W.frozen? ⟨R, 4, none⟩ = false := blk_frozen HX1.out 4
  have nc0 : W.cell? ⟨Q, 0, none⟩ = some (i64 n) := blk_cell HQ1.out 0
  have nc1 : W.cell? ⟨Q, 1, none⟩ = some (i64 E) := blk_cell HQ1.out 1
  go_wp2_with fail
  refine bodyPost_ret (v := gotV 1 n (.slice none 0 0) (.slice none 0 0) E) (results_one Tryd.results33 rfl (load63 (set5 HX1.out _ _ _ _ _))) rfl ?_
  refine ⟨below5 HB1.out HRe.out _ _ _ _ _, fun h => (by rw [HRes.out] at h; cases h), fun T r h => ?_⟩
  rw [HRes.out] at h
  cases h
  exact ⟨none, 0, 0, none, 0, 0, by rw [HEe.out]; rfl, Rd.leaf _ _ _ _⟩
set_option maxRecDepth 100000 in
set_option maxHeartbeats 3200000 in
theorem tk_t (s : ByteArray) (a0 : Nat) (f : Nat) (w : World) (hs : s.size ≤ 1000000) (hf : f ≤ 5) (ha : a0 < s.size) (hc : s[a0].toNat = 116) (n : Nat) (r : Bs) (hn : numD (s.data.toList.drop (a0 + 1)) = some (n, r)) : Calls Tryd.prog 33 #[.string s, i64 a0, i64 (f + 1 : Nat)] w (Gok w s.size (takeD (f + 1) (s.data.toList.drop a0))) := by
  obtain ⟨res, hres⟩ : ∃ res, res = takeD (f + 1) (s.data.toList.drop a0) := ⟨_, rfl⟩
  rw [← hres]
  have kc : s[a0] = 116 := UInt8.toNat_inj.1 hc
  have HRes : Hid (res = some (.mk 2 n [] [], r)) := by show _ = _; rw [hres, drop_at s a0 ha, kc]; simp [takeD, hn]
  have HNV : Hid (numV (s.data.toList.drop (a0 + 1)) s.size = ((n : Int), ((s.size - r.length : Nat) : Int))) := by show _ = _; unfold numV; rw [hn]
  have HHC := hid hc
  clear hres hn kc
  obtain ⟨D, hD⟩ : ∃ D : Int, D = ((f + 1 : Nat) : Int) := ⟨_, rfl⟩
  have hD1 : 1 ≤ D := by omega
  have hD6 : D ≤ 6 := by omega
  have HDe := hid hD
  have qD : (D == 0) = false := by simp; omega
  rw [← hD]
  clear hD
  have q114 : ((s[a0].toNat : Int) == 114) = false := by simp; omega
  have q105 : ((s[a0].toNat : Int) == 105) = false := by simp; omega
  have q116 : ((s[a0].toNat : Int) == 116) = true := by simp; omega
  clear hc
  obtain ⟨E, hE⟩ : ∃ E, E = s.size - r.length := ⟨_, rfl⟩
  have hE2 : E ≤ 1000000 := by omega
  have HEe := hid hE
  rw [← hE] at HNV
  clear hE
  have HX : Hid ((w.alloc (.cells #[i64 0, i64 0, .slice none 0 0, .slice none 0 0, i64 0] 63)).heap[w.heap.size]? = some (.cells #[i64 0, i64 0, .slice none 0 0, .slice none 0 0, i64 0] 63)) := heap_last w _
  have HBV : Hid (Below w.heap.size w (w.alloc (.cells #[i64 0, i64 0, .slice none 0 0, .slice none 0 0, i64 0] 63))) := below_one w _
  go_enter Tryd.func33, Tryd.ntmps33
  go_upto_region 1 with fail
  obtain ⟨R, hR⟩ : ∃ R, R = w.heap.size := ⟨_, rfl⟩
  have HRe : Hid (w.heap.size ≤ R) := by show _ ≤ _; omega
  rw [← hR] at HX ⊢
  clear hR
  generalize w.alloc (.cells #[i64 0, i64 0, .slice none 0 0, .slice none 0 0, i64 0] 63) = V at *
  have HNU : Hid (Calls Tryd.prog 46 #[.string s, i64 ((a0 : Int) + 1)] V fun e w' => e = .returned (.agg #[i64 n, i64 E]) ∧ Below V.heap.size V w') := by
    have := rnum_s s (a0 + 1) V hs (by omega)
    rw [HNV.out] at this
    exact this
  go_wp2_with fail
  refine HNU.out.mono ?_
  rintro e w1 ⟨rfl, hb1⟩
  have HB1 : Hid (Below w.heap.size w (w1.alloc (.cells #[i64 n, i64 E] 76))) := (HBV.out.trans (hb1.mono HBV.out.size)).trans ((below_one w1 _).mono (by have h1 := HBV.out.size; have h2 := hb1.size; omega))
  have HX1 : Hid ((w1.alloc (.cells #[i64 n, i64 E] 76)).heap[R]? = some (.cells #[i64 0, i64 0, .slice none 0 0, .slice none 0 0, i64 0] 63)) := blk_alloc (blk_below HX.out hb1) _
  have HQ1 : Hid ((w1.alloc (.cells #[i64 n, i64 E] 76)).heap[w1.heap.size]? = some (.cells #[i64 n, i64 E] 76)) := heap_last w1 _
  clear hb1 HNU
  go_upto_region 6 with fail
  obtain ⟨Q, hQ⟩ : ∃ Q, Q = w1.heap.size := ⟨_, rfl⟩
  rw [← hQ] at HQ1 ⊢
  clear hQ
  generalize w1.alloc (.cells #[i64 n, i64 E] 76) = W at *
  have rc0 : W.cell? ⟨R, 0, none⟩ = some (i64 0) := blk_cell HX1.out 0
  have rf0 : W.frozen? ⟨R, 0, none⟩ = false := blk_frozen HX1.out 0
  have rc1 : W.cell? ⟨R, 1, none⟩ = some (i64 0) := blk_cell HX1.out 1
  have rf1 : W.frozen? ⟨R, 1, none⟩ = false := blk_frozen HX1.out 1
  have rc2 : W.cell? ⟨R, 2, none⟩ = some (.slice none 0 0) := blk_cell HX1.out 2
  have rf2 : W.frozen? ⟨R, 2, none⟩ = false := blk_frozen HX1.out 2
  have rc3 : W.cell? ⟨R, 3, none⟩ = some (.slice none 0 0) := blk_cell HX1.out 3
  have rf3 : W.frozen? ⟨R, 3, none⟩ = false := blk_frozen HX1.out 3
  have rc4 : W.cell? ⟨R, 4, none⟩ = some (i64 0) := blk_cell HX1.out 4
  have rf4 : W.frozen? ⟨R, 4, none⟩ = false := blk_frozen HX1.out 4
  have nc0 : W.cell? ⟨Q, 0, none⟩ = some (i64 n) := blk_cell HQ1.out 0
  have nc1 : W.cell? ⟨Q, 1, none⟩ = some (i64 E) := blk_cell HQ1.out 1
  go_wp2_with fail
  refine bodyPost_ret (v := gotV 2 n (.slice none 0 0) (.slice none 0 0) E) (results_one Tryd.results33 rfl (load63 (set5 HX1.out _ _ _ _ _))) rfl ?_
  refine ⟨below5 HB1.out HRe.out _ _ _ _ _, fun h => (by rw [HRes.out] at h; cases h), fun T r h => ?_⟩
  rw [HRes.out] at h
  cases h
  exact ⟨none, 0, 0, none, 0, 0, by rw [HEe.out]; rfl, Rd.leaf _ _ _ _⟩
set_option maxRecDepth 100000 in
set_option maxHeartbeats 3200000 in
theorem tk_x (s : ByteArray) (a0 : Nat) (f : Nat) (w : World) (hs : s.size ≤ 1000000) (hf : f ≤ 5) (ha : a0 < s.size) (h114 : s[a0].toNat ≠ 114) (h105 : s[a0].toNat ≠ 105) (h116 : s[a0].toNat ≠ 116) (h108 : s[a0].toNat ≠ 108) (n : Nat) (r : Bs) (hn : numD (s.data.toList.drop (a0 + 1)) = some (n, r)) : Calls Tryd.prog 33 #[.string s, i64 a0, i64 (f + 1 : Nat)] w (Gok w s.size (takeD (f + 1) (s.data.toList.drop a0))) := by
  obtain ⟨res, hres⟩ : ∃ res, res = takeD (f + 1) (s.data.toList.drop a0) := ⟨_, rfl⟩
  rw [← hres]
  have k114 : s[a0] ≠ 114 := fun e => h114 (by rw [e]; rfl)
  have k105 : s[a0] ≠ 105 := fun e => h105 (by rw [e]; rfl)
  have k116 : s[a0] ≠ 116 := fun e => h116 (by rw [e]; rfl)
  have k108 : s[a0] ≠ 108 := fun e => h108 (by rw [e]; rfl)
  have HRes : Hid (res = none) := by show _ = _; rw [hres, drop_at s a0 ha]; simp [takeD, k114, k105, k116, k108, hn]
  have HNV : Hid (numV (s.data.toList.drop (a0 + 1)) s.size = ((n : Int), ((s.size - r.length : Nat) : Int))) := by show _ = _; unfold numV; rw [hn]
  clear hres hn k114 k105 k116 k108
  obtain ⟨D, hD⟩ : ∃ D : Int, D = ((f + 1 : Nat) : Int) := ⟨_, rfl⟩
  have hD1 : 1 ≤ D := by omega
  have hD6 : D ≤ 6 := by omega
  have HDe := hid hD
  have qD : (D == 0) = false := by simp; omega
  rw [← hD]
  clear hD
  have q114 : ((s[a0].toNat : Int) == 114) = false := by simp; omega
  have q105 : ((s[a0].toNat : Int) == 105) = false := by simp; omega
  have q116 : ((s[a0].toNat : Int) == 116) = false := by simp; omega
  have q108 : ((s[a0].toNat : Int) == 108) = false := by simp; omega
  obtain ⟨E, hE⟩ : ∃ E, E = s.size - r.length := ⟨_, rfl⟩
  have hE2 : E ≤ 1000000 := by omega
  have HEe := hid hE
  rw [← hE] at HNV
  clear hE
  have HX : Hid ((w.alloc (.cells #[i64 0, i64 0, .slice none 0 0, .slice none 0 0, i64 0] 63)).heap[w.heap.size]? = some (.cells #[i64 0, i64 0, .slice none 0 0, .slice none 0 0, i64 0] 63)) := heap_last w _
  have HBV : Hid (Below w.heap.size w (w.alloc (.cells #[i64 0, i64 0, .slice none 0 0, .slice none 0 0, i64 0] 63))) := below_one w _
  go_enter Tryd.func33, Tryd.ntmps33
  go_upto_region 1 with fail
  obtain ⟨R, hR⟩ : ∃ R, R = w.heap.size := ⟨_, rfl⟩
  have HRe : Hid (w.heap.size ≤ R) := by show _ ≤ _; omega
  rw [← hR] at HX ⊢
  clear hR
  generalize w.alloc (.cells #[i64 0, i64 0, .slice none 0 0, .slice none 0 0, i64 0] 63) = V at *
  have HNU : Hid (Calls Tryd.prog 46 #[.string s, i64 ((a0 : Int) + 1)] V fun e w' => e = .returned (.agg #[i64 n, i64 E]) ∧ Below V.heap.size V w') := by
    have := rnum_s s (a0 + 1) V hs (by omega)
    rw [HNV.out] at this
    exact this
  go_wp2_with fail
  refine HNU.out.mono ?_
  rintro e w1 ⟨rfl, hb1⟩
  have HB1 : Hid (Below w.heap.size w (w1.alloc (.cells #[i64 n, i64 E] 76))) := (HBV.out.trans (hb1.mono HBV.out.size)).trans ((below_one w1 _).mono (by have h1 := HBV.out.size; have h2 := hb1.size; omega))
  have HX1 : Hid ((w1.alloc (.cells #[i64 n, i64 E] 76)).heap[R]? = some (.cells #[i64 0, i64 0, .slice none 0 0, .slice none 0 0, i64 0] 63)) := blk_alloc (blk_below HX.out hb1) _
  have HQ1 : Hid ((w1.alloc (.cells #[i64 n, i64 E] 76)).heap[w1.heap.size]? = some (.cells #[i64 n, i64 E] 76)) := heap_last w1 _
  clear hb1 HNU
  go_upto_region 6 with fail
  obtain ⟨Q, hQ⟩ : ∃ Q, Q = w1.heap.size := ⟨_, rfl⟩
  rw [← hQ] at HQ1 ⊢
  clear hQ
  generalize w1.alloc (.cells #[i64 n, i64 E] 76) = W at *
  have rc0 : W.cell? ⟨R, 0, none⟩ = some (i64 0) := blk_cell HX1.out 0
  have rf0 : W.frozen? ⟨R, 0, none⟩ = false := blk_frozen HX1.out 0
  have rc1 : W.cell? ⟨R, 1, none⟩ = some (i64 0) := blk_cell HX1.out 1
  have rf1 : W.frozen? ⟨R, 1, none⟩ = false := blk_frozen HX1.out 1
  have rc2 : W.cell? ⟨R, 2, none⟩ = some (.slice none 0 0) := blk_cell HX1.out 2
  have rf2 : W.frozen? ⟨R, 2, none⟩ = false := blk_frozen HX1.out 2
  have rc3 : W.cell? ⟨R, 3, none⟩ = some (.slice none 0 0) := blk_cell HX1.out 3
  have rf3 : W.frozen? ⟨R, 3, none⟩ = false := blk_frozen HX1.out 3
  have rc4 : W.cell? ⟨R, 4, none⟩ = some (i64 0) := blk_cell HX1.out 4
  have rf4 : W.frozen? ⟨R, 4, none⟩ = false := blk_frozen HX1.out 4
  have nc0 : W.cell? ⟨Q, 0, none⟩ = some (i64 n) := blk_cell HQ1.out 0
  have nc1 : W.cell? ⟨Q, 1, none⟩ = some (i64 E) := blk_cell HQ1.out 1
  go_wp2_with fail
  refine bodyPost_ret (v := gotV 0 0 (.slice none 0 0) (.slice none 0 0) (-1)) (results_one Tryd.results33 rfl (load63 (set5 HX1.out _ _ _ _ _))) rfl ?_
  exact ⟨below5 HB1.out HRe.out _ _ _ _ _, fun _ => rfl, fun T r h => by rw [HRes.out] at h; cases h⟩
end Go.Proofs.YteecjilknembdaaDoor
