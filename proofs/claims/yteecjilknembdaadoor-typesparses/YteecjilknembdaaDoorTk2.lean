/- imagoref15's Take at an r: its contract; no statement is proved in this text. -/
import Derived.Test.YteecjilknembdaaDoorTk
namespace Go.Proofs.YteecjilknembdaaDoor
open Go.ChangeShapes Go.WideShapes Go.ChangeAt Go.RowKit Go.Deep
attribute [local go_sem ↓] Go.wp_at_zero Go.wp_at_succ

theorem hdB_head (l : Bs) (c : UInt8) : hdB l c = decide (l.head? = some c) := by
  cases l with
  | nil => rfl
  | cons b r => simp [hdB]
theorem Rd.set5 {w : World} {lo lo' R : Nat} {T : Ty} {nv kv : Value} (h : Rd w (fun b => lo' ≤ b) T nv kv) (h1 : R < lo') (h2 : lo ≤ lo') (a0 a1 a2 a3 a4 : Value) : Rd (((((w.setCell ⟨R, 0, none⟩ a0).setCell ⟨R, 1, none⟩ a1).setCell ⟨R, 2, none⟩ a2).setCell ⟨R, 3, none⟩ a3).setCell ⟨R, 4, none⟩ a4) (fun b => lo ≤ b) T nv kv := by
  refine h.move (by simp [World.setCell]) (fun b hb _ => ⟨by omega, ?_⟩)
  have hne : b ≠ R := by omega
  rw [Below.heap_setCell _ _ _ _ hne, Below.heap_setCell _ _ _ _ hne, Below.heap_setCell _ _ _ _ hne, Below.heap_setCell _ _ _ _ hne, Below.heap_setCell _ _ _ _ hne]
set_option maxRecDepth 100000 in
set_option maxHeartbeats 3200000 in
theorem tk_r0 (s : ByteArray) (a0 : Nat) (f : Nat) (w : World) (hs : s.size ≤ 1000000) (hf : f ≤ 5) (ha : a0 < s.size) (hc : s[a0].toNat = 114) (h40 : hdB (s.data.toList.drop (a0 + 1)) 40 = false) (hn : numD (s.data.toList.drop (a0 + 1)) = none) : Calls Tryd.prog 33 #[.string s, i64 a0, i64 (f + 1 : Nat)] w (Gok w s.size (takeD (f + 1) (s.data.toList.drop a0))) := by
  obtain ⟨res, hres⟩ : ∃ res, res = takeD (f + 1) (s.data.toList.drop a0) := ⟨_, rfl⟩
  rw [← hres]
  have kc : s[a0] = 114 := UInt8.toNat_inj.1 hc
  have k40 : ¬ (s.data.toList.drop (a0 + 1)).head? = some 40 := by rw [hdB_head] at h40; simpa using h40
  have HRes : Hid (res = none) := by
    show _ = _
    rw [hres, drop_at s a0 ha, kc]
    simp only [takeD]
    rw [if_neg (fun e => k40 e.2), hn]
    try rfl
  have HNV : Hid (numV (s.data.toList.drop (a0 + 1)) s.size = (0, -1)) := by show _ = _; unfold numV; rw [hn]
  have HH := hid h40
  have HHC := hid hc
  clear hres hn kc k40 h40
  obtain ⟨D, hD⟩ : ∃ D : Int, D = ((f + 1 : Nat) : Int) := ⟨_, rfl⟩
  have hD1 : 1 ≤ D := by omega
  have hD6 : D ≤ 6 := by omega
  have HDe := hid hD
  have qD : (D == 0) = false := by simp; omega
  rw [← hD]
  clear hD
  have q105 : ((s[a0].toNat : Int) == 105) = false := by simp; omega
  have q116 : ((s[a0].toNat : Int) == 116) = false := by simp; omega
  have q108 : ((s[a0].toNat : Int) == 108) = false := by simp; omega
  have q114 : ((s[a0].toNat : Int) == 114) = true := by simp; omega
  clear hc
  have HX : Hid ((w.alloc (.cells #[i64 0, i64 0, .slice none 0 0, .slice none 0 0, i64 0] 63)).heap[w.heap.size]? = some (.cells #[i64 0, i64 0, .slice none 0 0, .slice none 0 0, i64 0] 63)) := heap_last w _
  have HBV : Hid (Below w.heap.size w (w.alloc (.cells #[i64 0, i64 0, .slice none 0 0, .slice none 0 0, i64 0] 63))) := below_one w _
  go_enter Tryd.func33, Tryd.ntmps33
  go_upto_region 1 with fail
  obtain ⟨R, hR⟩ : ∃ R, R = w.heap.size := ⟨_, rfl⟩
  have HRe : Hid (w.heap.size ≤ R) := by show _ ≤ _; omega
  rw [← hR] at HX ⊢
  clear hR
  generalize w.alloc (.cells #[i64 0, i64 0, .slice none 0 0, .slice none 0 0, i64 0] 63) = V at *
  have HIS : Hid (Calls Tryd.prog 44 #[.string s, i64 ((a0 : Int) + 1), .int .u8 40] V fun e w' => e = .returned (.bool false) ∧ w' = V) := by
    have := is_s s (a0 + 1) 40 V
    rw [HH.out] at this
    exact this
  have HNU : Hid (Calls Tryd.prog 46 #[.string s, i64 ((a0 : Int) + 1)] V fun e w' => e = .returned (.agg #[i64 0, i64 (-1)]) ∧ Below V.heap.size V w') := by
    have := rnum_s s (a0 + 1) V hs (by omega)
    rw [HNV.out] at this
    exact this
  go_wp2_with fail
  refine HIS.out.mono ?_
  rintro e v9 ⟨rfl, hv9⟩
  subst hv9
  go_wp2_with fail
  refine HNU.out.mono ?_
  rintro e w1 ⟨rfl, hb1⟩
  have HB1 : Hid (Below w.heap.size w (w1.alloc (.cells #[i64 0, i64 (-1)] 76))) := (HBV.out.trans (hb1.mono HBV.out.size)).trans ((below_one w1 _).mono (by have h1 := HBV.out.size; have h2 := hb1.size; omega))
  have HX1 : Hid ((w1.alloc (.cells #[i64 0, i64 (-1)] 76)).heap[R]? = some (.cells #[i64 0, i64 0, .slice none 0 0, .slice none 0 0, i64 0] 63)) := blk_alloc (blk_below HX.out hb1) _
  have HQ1 : Hid ((w1.alloc (.cells #[i64 0, i64 (-1)] 76)).heap[w1.heap.size]? = some (.cells #[i64 0, i64 (-1)] 76)) := heap_last w1 _
  clear hb1 HNU
  go_upto_region 6 with fail
  obtain ⟨Q, hQ⟩ : ∃ Q, Q = w1.heap.size := ⟨_, rfl⟩
  rw [← hQ] at HQ1 ⊢
  clear hQ
  generalize w1.alloc (.cells #[i64 0, i64 (-1)] 76) = W at *
  have rc0 : W.cell? ⟨R, 0, none⟩ = some (i64 0) := blk_cell HX1.out 0
  have rf0 : W.frozen? ⟨R, 0, none⟩ = false := blk_frozen HX1.out 0
  have rc1 : W.cell? ⟨R, 1, none⟩ = some (i64 0) := blk_cell HX1.out 1
  have rf1 : W.frozen? ⟨R, 1, none⟩ = false := blk_frozen HX1.out 1
  have rc2 : W.cell? ⟨R, 2, none⟩ = some (.slice none 0 0) := blk_cell HX1.out 2
  have rf2 : W.frozen? ⟨R, 2, none⟩ = false := blk_frozen HX1.out 2
  have rc3 : W.cell? ⟨R, 3, none⟩ = some (.slice none 0 0) := blk_cell HX1.out 3
  have rf3 : W.frozen? ⟨R, 3, none⟩ = false := blk_frozen HX1.out 3
  have rc4 : W.cell? ⟨R, 4, none⟩ = some (i64 0) := blk_cell HX1.out 4
  have rf4 : W.frozen? ⟨R, 4, none⟩ = false := blk_frozen HX1.out 4
  have nc0 : W.cell? ⟨Q, 0, none⟩ = some (i64 0) := blk_cell HQ1.out 0
  have nc1 : W.cell? ⟨Q, 1, none⟩ = some (i64 (-1)) := blk_cell HQ1.out 1
  go_wp2_with fail
  refine bodyPost_ret (v := gotV 0 0 (.slice none 0 0) (.slice none 0 0) (-1)) (results_one Tryd.results33 rfl (load63 (set5 HX1.out _ _ _ _ _))) rfl ?_
  exact ⟨below5 HB1.out HRe.out _ _ _ _ _, fun _ => rfl, fun T r h => by rw [HRes.out] at h; cases h⟩
set_option maxRecDepth 100000 in
set_option maxHeartbeats 3200000 in
theorem tk_r1 (s : ByteArray) (a0 : Nat) (f : Nat) (w : World) (hs : s.size ≤ 1000000) (hf : f ≤ 5) (ha : a0 < s.size) (hc : s[a0].toNat = 114) (h40 : hdB (s.data.toList.drop (a0 + 1)) 40 = false) (n : Nat) (r : Bs) (hn : numD (s.data.toList.drop (a0 + 1)) = some (n, r)) : Calls Tryd.prog 33 #[.string s, i64 a0, i64 (f + 1 : Nat)] w (Gok w s.size (takeD (f + 1) (s.data.toList.drop a0))) := by
  obtain ⟨res, hres⟩ : ∃ res, res = takeD (f + 1) (s.data.toList.drop a0) := ⟨_, rfl⟩
  rw [← hres]
  have kc : s[a0] = 114 := UInt8.toNat_inj.1 hc
  have k40 : ¬ (s.data.toList.drop (a0 + 1)).head? = some 40 := by rw [hdB_head] at h40; simpa using h40
  have HRes : Hid (res = none) := by
    show _ = _
    rw [hres, drop_at s a0 ha, kc]
    simp only [takeD]
    rw [if_neg (fun e => k40 e.2), hn]
    simp
  have HNV : Hid (numV (s.data.toList.drop (a0 + 1)) s.size = ((n : Int), ((s.size - r.length : Nat) : Int))) := by show _ = _; unfold numV; rw [hn]
  have HH := hid h40
  have HHC := hid hc
  clear hres hn kc k40 h40
  obtain ⟨D, hD⟩ : ∃ D : Int, D = ((f + 1 : Nat) : Int) := ⟨_, rfl⟩
  have hD1 : 1 ≤ D := by omega
  have hD6 : D ≤ 6 := by omega
  have HDe := hid hD
  have qD : (D == 0) = false := by simp; omega
  rw [← hD]
  clear hD
  have q105 : ((s[a0].toNat : Int) == 105) = false := by simp; omega
  have q116 : ((s[a0].toNat : Int) == 116) = false := by simp; omega
  have q108 : ((s[a0].toNat : Int) == 108) = false := by simp; omega
  have q114 : ((s[a0].toNat : Int) == 114) = true := by simp; omega
  clear hc
  obtain ⟨E, hE⟩ : ∃ E, E = s.size - r.length := ⟨_, rfl⟩
  have hE2 : E ≤ 1000000 := by omega
  have HEe := hid hE
  rw [← hE] at HNV
  clear hE
  have HX : Hid ((w.alloc (.cells #[i64 0, i64 0, .slice none 0 0, .slice none 0 0, i64 0] 63)).heap[w.heap.size]? = some (.cells #[i64 0, i64 0, .slice none 0 0, .slice none 0 0, i64 0] 63)) := heap_last w _
  have HBV : Hid (Below w.heap.size w (w.alloc (.cells #[i64 0, i64 0, .slice none 0 0, .slice none 0 0, i64 0] 63))) := below_one w _
  go_enter Tryd.func33, Tryd.ntmps33
  go_upto_region 1 with fail
  obtain ⟨R, hR⟩ : ∃ R, R = w.heap.size := ⟨_, rfl⟩
  have HRe : Hid (w.heap.size ≤ R) := by show _ ≤ _; omega
  rw [← hR] at HX ⊢
  clear hR
  generalize w.alloc (.cells #[i64 0, i64 0, .slice none 0 0, .slice none 0 0, i64 0] 63) = V at *
  have HIS : Hid (Calls Tryd.prog 44 #[.string s, i64 ((a0 : Int) + 1), .int .u8 40] V fun e w' => e = .returned (.bool false) ∧ w' = V) := by
    have := is_s s (a0 + 1) 40 V
    rw [HH.out] at this
    exact this
  have HNU : Hid (Calls Tryd.prog 46 #[.string s, i64 ((a0 : Int) + 1)] V fun e w' => e = .returned (.agg #[i64 n, i64 E]) ∧ Below V.heap.size V w') := by
    have := rnum_s s (a0 + 1) V hs (by omega)
    rw [HNV.out] at this
    exact this
  go_wp2_with fail
  refine HIS.out.mono ?_
  rintro e v9 ⟨rfl, hv9⟩
  subst hv9
  go_wp2_with fail
  refine HNU.out.mono ?_
  rintro e w1 ⟨rfl, hb1⟩
  have HB1 : Hid (Below w.heap.size w (w1.alloc (.cells #[i64 n, i64 E] 76))) := (HBV.out.trans (hb1.mono HBV.out.size)).trans ((below_one w1 _).mono (by have h1 := HBV.out.size; have h2 := hb1.size; omega))
  have HX1 : Hid ((w1.alloc (.cells #[i64 n, i64 E] 76)).heap[R]? = some (.cells #[i64 0, i64 0, .slice none 0 0, .slice none 0 0, i64 0] 63)) := blk_alloc (blk_below HX.out hb1) _
  have HQ1 : Hid ((w1.alloc (.cells #[i64 n, i64 E] 76)).heap[w1.heap.size]? = some (.cells #[i64 n, i64 E] 76)) := heap_last w1 _
  clear hb1 HNU
  go_upto_region 6 with fail
  obtain ⟨Q, hQ⟩ : ∃ Q, Q = w1.heap.size := ⟨_, rfl⟩
  rw [← hQ] at HQ1 ⊢
  clear hQ
  generalize w1.alloc (.cells #[i64 n, i64 E] 76) = W at *
  have rc0 : W.cell? ⟨R, 0, none⟩ = some (i64 0) := blk_cell HX1.out 0
  have rf0 : W.frozen? ⟨R, 0, none⟩ = false := blk_frozen HX1.out 0
  have rc1 : W.cell? ⟨R, 1, none⟩ = some (i64 0) := blk_cell HX1.out 1
  have rf1 : W.frozen? ⟨R, 1, none⟩ = false := blk_frozen HX1.out 1
  have rc2 : W.cell? ⟨R, 2, none⟩ = some (.slice none 0 0) := blk_cell HX1.out 2
  have rf2 : W.frozen? ⟨R, 2, none⟩ = false := blk_frozen HX1.out 2
  have rc3 : W.cell? ⟨R, 3, none⟩ = some (.slice none 0 0) := blk_cell HX1.out 3
  have rf3 : W.frozen? ⟨R, 3, none⟩ = false := blk_frozen HX1.out 3
  have rc4 : W.cell? ⟨R, 4, none⟩ = some (i64 0) := blk_cell HX1.out 4
  have rf4 : W.frozen? ⟨R, 4, none⟩ = false := blk_frozen HX1.out 4
  have nc0 : W.cell? ⟨Q, 0, none⟩ = some (i64 n) := blk_cell HQ1.out 0
  have nc1 : W.cell? ⟨Q, 1, none⟩ = some (i64 E) := blk_cell HQ1.out 1
  go_wp2_with fail
  refine bodyPost_ret (v := gotV 0 0 (.slice none 0 0) (.slice none 0 0) (-1)) (results_one Tryd.results33 rfl (load63 (set5 HX1.out _ _ _ _ _))) rfl ?_
  exact ⟨below5 HB1.out HRe.out _ _ _ _ _, fun _ => rfl, fun T r h => by rw [HRes.out] at h; cases h⟩
end Go.Proofs.YteecjilknembdaaDoor
