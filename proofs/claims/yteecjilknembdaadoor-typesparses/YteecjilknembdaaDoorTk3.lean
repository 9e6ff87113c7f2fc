/- imagoref15's Take at a record: its contract; no statement is proved in this text. -/
import Derived.Test.YteecjilknembdaaDoorTk2
namespace Go.Proofs.YteecjilknembdaaDoor
open Go.ChangeShapes Go.WideShapes Go.ChangeAt Go.RowKit Go.Deep
attribute [local go_sem ↓] Go.wp_at_zero Go.wp_at_succ

set_option maxRecDepth 100000 in
set_option maxHeartbeats 3200000 in
theorem tk_rec (s : ByteArray) (a0 : Nat) (f : Nat) (w : World) (hs : s.size ≤ 1000000) (hf : f ≤ 5) (ha : a0 < s.size) (hc : s[a0].toNat = 114) (h40 : hdB (s.data.toList.drop (a0 + 1)) 40 = true)
    (hfl : ∀ w, Calls Tryd.prog 45 #[.string s, i64 (a0 + 2 : Nat), i64 (f + 1 : Nat)] w (Gok w s.size (recD (takeD f) 13 (s.data.toList.drop (a0 + 2)) [] []))) : Calls Tryd.prog 33 #[.string s, i64 a0, i64 (f + 1 : Nat)] w (Gok w s.size (takeD (f + 1) (s.data.toList.drop a0))) := by
  obtain ⟨res, hres⟩ : ∃ res, res = takeD (f + 1) (s.data.toList.drop a0) := ⟨_, rfl⟩
  rw [← hres]
  have kc : s[a0] = 114 := UInt8.toNat_inj.1 hc
  have k40 : (s.data.toList.drop (a0 + 1)).head? = some 40 := by rw [hdB_head] at h40; simpa using h40
  have HRs : Hid (res = recD (takeD f) 13 (s.data.toList.drop (a0 + 2)) [] []) := by
    show _ = _
    rw [hres, drop_at s a0 ha, kc]
    unfold takeD
    show (if (114 : UInt8) = 114 ∧ _ then _ else _) = _
    rw [if_pos ⟨rfl, k40⟩, List.tail_drop]
  have HH := hid h40
  have HHC := hid hc
  have HFL0 := hid hfl
  clear hres kc k40 h40 hfl
  obtain ⟨D, hD⟩ : ∃ D : Int, D = ((f + 1 : Nat) : Int) := ⟨_, rfl⟩
  have hD1 : 1 ≤ D := by omega
  have hD6 : D ≤ 6 := by omega
  have HDe := hid hD
  have qD : (D == 0) = false := by simp; omega
  rw [← hD]
  clear hD
  have q114 : ((s[a0].toNat : Int) == 114) = true := by simp; omega
  clear hc
  have HX : Hid ((w.alloc (.cells #[i64 0, i64 0, .slice none 0 0, .slice none 0 0, i64 0] 63)).heap[w.heap.size]? = some (.cells #[i64 0, i64 0, .slice none 0 0, .slice none 0 0, i64 0] 63)) := heap_last w _
  have HBV : Hid (Below w.heap.size w (w.alloc (.cells #[i64 0, i64 0, .slice none 0 0, .slice none 0 0, i64 0] 63))) := below_one w _
  go_enter Tryd.func33, Tryd.ntmps33
  go_upto_region 1 with fail
  obtain ⟨R, hR⟩ : ∃ R, R = w.heap.size := ⟨_, rfl⟩
  have HRe : Hid (w.heap.size ≤ R) := by show _ ≤ _; omega
  rw [← hR] at HX ⊢
  clear hR
  generalize w.alloc (.cells #[i64 0, i64 0, .slice none 0 0, .slice none 0 0, i64 0] 63) = V at *
  have HIS : Hid (Calls Tryd.prog 44 #[.string s, i64 ((a0 : Int) + 1), .int .u8 40] V fun e w' => e = .returned (.bool true) ∧ w' = V) := by
    have := is_s s (a0 + 1) 40 V
    rw [HH.out] at this
    exact this
  have HFL : Hid (Calls Tryd.prog 45 #[.string s, i64 ((a0 : Int) + 2), i64 D] V (Gok V s.size res)) := by
    have := HFL0.out V
    rw [← HRs.out, ← HDe.out, show ((a0 + 2 : Nat) : Int) = (a0 : Int) + 2 by omega] at this
    exact this
  have HRlt : Hid (R < V.heap.size) := blk_lt HX.out
  go_wp2_with fail
  refine HIS.out.mono ?_
  rintro e v9 ⟨rfl, hv9⟩
  subst hv9
  go_wp2_with fail
  refine HFL.out.mono ?_
  rintro e w1 ⟨hb1, hno, hyes⟩
  have HB1 : Hid (Below w.heap.size w w1) := HBV.out.trans (hb1.mono HBV.out.size)
  have HX1 : Hid (w1.heap[R]? = some (.cells #[i64 0, i64 0, .slice none 0 0, .slice none 0 0, i64 0] 63)) := blk_below HX.out hb1
  clear hb1 HFL HFL0
  have rc0 : w1.cell? ⟨R, 0, none⟩ = some (i64 0) := blk_cell HX1.out 0
  have rf0 : w1.frozen? ⟨R, 0, none⟩ = false := blk_frozen HX1.out 0
  have rc1 : w1.cell? ⟨R, 1, none⟩ = some (i64 0) := blk_cell HX1.out 1
  have rf1 : w1.frozen? ⟨R, 1, none⟩ = false := blk_frozen HX1.out 1
  have rc2 : w1.cell? ⟨R, 2, none⟩ = some (.slice none 0 0) := blk_cell HX1.out 2
  have rf2 : w1.frozen? ⟨R, 2, none⟩ = false := blk_frozen HX1.out 2
  have rc3 : w1.cell? ⟨R, 3, none⟩ = some (.slice none 0 0) := blk_cell HX1.out 3
  have rf3 : w1.frozen? ⟨R, 3, none⟩ = false := blk_frozen HX1.out 3
  have rc4 : w1.cell? ⟨R, 4, none⟩ = some (i64 0) := blk_cell HX1.out 4
  have rf4 : w1.frozen? ⟨R, 4, none⟩ = false := blk_frozen HX1.out 4
  rcases hre : res with _ | ⟨T, r⟩
  · obtain rfl := hno hre
    have HRes := hid hre
    clear hre hno hyes
    go_wp2_with fail
    refine bodyPost_ret (v := gotV 0 0 (.slice none 0 0) (.slice none 0 0) (-1)) (results_one Tryd.results33 rfl (load63 (set5 HX1.out _ _ _ _ _))) rfl ?_
    exact ⟨below5 HB1.out HRe.out _ _ _ _ _, fun _ => rfl, fun T r h => by rw [HRes.out] at h; cases h⟩
  · obtain ⟨b1, n1, c1, b2, n2, c2, rfl, hrd⟩ := hyes T r hre
    have HRD := hid hrd
    have HRes := hid hre
    clear hre hno hyes hrd
    obtain ⟨E, hE⟩ : ∃ E, E = s.size - r.length := ⟨_, rfl⟩
    have HEe := hid hE
    rw [← hE]
    clear hE
    go_wp2_with fail
    refine bodyPost_ret (v := gotV T.kind T.num (.slice b1 n1 c1) (.slice b2 n2 c2) E) (results_one Tryd.results33 rfl (load63 (set5 HX1.out _ _ _ _ _))) rfl ?_
    refine ⟨below5 HB1.out HRe.out _ _ _ _ _, fun h => (by rw [HRes.out] at h; cases h), fun T' r' h => ?_⟩
    rw [HRes.out] at h
    cases h
    exact ⟨b1, n1, c1, b2, n2, c2, by rw [HEe.out], HRD.out.set5 HRlt.out HBV.out.size _ _ _ _ _⟩
end Go.Proofs.YteecjilknembdaaDoor
