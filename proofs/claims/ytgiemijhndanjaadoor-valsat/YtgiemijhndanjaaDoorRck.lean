/- imagoref15's Check: its contract; no statement is proved in this text. -/
import Derived.Test.YtgiemijhndanjaaDoorFmd
import Derived.Test.YtgiemijhndanjaaDoorCnt
namespace Go.Proofs.YtgiemijhndanjaaDoor
open Go.ChangeShapes Go.WideShapes Go.ChangeAt Go.RowKit Go.Deep
attribute [local go_sem ↓] Go.wp_at_zero Go.wp_at_succ

set_option maxRecDepth 100000 in
set_option maxHeartbeats 3200000 in
theorem rcheck_ok (T : Ty) (w : World) (S : Nat → Prop) (nv kv : Value) (hR : Rd w S T nv kv) (hC : T.count ≤ 100000) (hS : T.small = true) : Calls Tryd.prog 13 #[tyV T.kind T.num nv kv] w fun e w' => e = .returned (i64 T.err) ∧ Below w.heap.size w w' := by
  obtain ⟨E0, hE0⟩ : ∃ E0, E0 = T.err := ⟨_, rfl⟩
  have HE0 : Hid (E0 = if T.depth ≤ 6 ∧ T.count ≤ 100 then (if T.formed = true then 0 else 4) else 2) := hE0
  rw [← hE0]
  clear hE0
  have HDp : Hid (∀ W, Below w.heap.size w W → Calls Tryd.prog 32 #[tyV T.kind T.num nv kv] W fun e w' => e = .returned (i64 (T.depth : Nat)) ∧ Below W.heap.size W w') := fun W hW => depth_ok T.count T (Nat.le_refl _) (by omega) W S nv kv (hR.under hW)
  have HCt : Hid (∀ W, Below w.heap.size w W → Calls Tryd.prog 33 #[tyV T.kind T.num nv kv] W fun e w' => e = .returned (i64 (T.count : Nat)) ∧ Below W.heap.size W w') := fun W hW => count_ok T.count T (Nat.le_refl _) (by omega) W S nv kv (hR.under hW)
  have HFm : Hid (∀ W, Below w.heap.size w W → Calls Tryd.prog 34 #[tyV T.kind T.num nv kv] W fun e w' => e = .returned (.bool T.formed) ∧ Below W.heap.size W w') := fun W hW => formed_ok T.count T (Nat.le_refl _) hS W S nv kv (hR.under hW)
  have hdl := depth_le T
  obtain ⟨an, cn, rfl, ak, ck, rfl⟩ := hR.form
  have HX : Hid ((w.alloc (.cells #[i64 T.kind, i64 T.num, .slice an T.names.length cn, .slice ak T.kids.length ck] 37)).heap[w.heap.size]? = some (.cells #[i64 T.kind, i64 T.num, .slice an T.names.length cn, .slice ak T.kids.length ck] 37)) := heap_last w _
  have HBV : Hid (Below w.heap.size w (w.alloc (.cells #[i64 T.kind, i64 T.num, .slice an T.names.length cn, .slice ak T.kids.length ck] 37))) := below_one w _
  clear hR hS
  generalize T.depth = DP at *
  generalize T.count = CT at *
  generalize T.formed = FM at *
  go_enter Tryd.func13, Tryd.ntmps13
  go_upto_region 1 with fail
  obtain ⟨Z, hZ⟩ : ∃ Z, Z = w.heap.size := ⟨_, rfl⟩
  rw [← hZ] at HX ⊢
  clear hZ
  generalize w.alloc (.cells #[i64 T.kind, i64 T.num, .slice an T.names.length cn, .slice ak T.kids.length ck] 37) = V at *
  have yc0 : V.cell? ⟨Z, 0, none⟩ = some (i64 T.kind) := blk_cell HX.out 0
  have yc1 : V.cell? ⟨Z, 1, none⟩ = some (i64 T.num) := blk_cell HX.out 1
  have yc2 : V.cell? ⟨Z, 2, none⟩ = some (.slice an T.names.length cn) := blk_cell HX.out 2
  have yc3 : V.cell? ⟨Z, 3, none⟩ = some (.slice ak T.kids.length ck) := blk_cell HX.out 3
  have HC1 := hid (HDp.out V HBV.out)
  go_wp2_with fail
  refine HC1.out.mono ?_
  rintro e w1 ⟨rfl, hb1⟩
  have HB1 : Hid (Below w.heap.size w w1) := HBV.out.trans (hb1.mono HBV.out.size)
  have HX1 := hid (blk_below HX.out hb1)
  clear hb1 yc0 yc1 yc2 yc3
  have yc0 : w1.cell? ⟨Z, 0, none⟩ = some (i64 T.kind) := blk_cell HX1.out 0
  have yc1 : w1.cell? ⟨Z, 1, none⟩ = some (i64 T.num) := blk_cell HX1.out 1
  have yc2 : w1.cell? ⟨Z, 2, none⟩ = some (.slice an T.names.length cn) := blk_cell HX1.out 2
  have yc3 : w1.cell? ⟨Z, 3, none⟩ = some (.slice ak T.kids.length ck) := blk_cell HX1.out 3
  by_cases h6 : 6 < DP
  · have HF : Hid (E0 = 2) := by show _ = _; rw [HE0.out, if_neg (by omega)]
    have h6I : (6 : Int) < DP := by omega
    go_wp2_with fail
    go_ret
    exact ⟨by rw [HF.out]; rfl, HB1.out⟩
  · have h6I : decide ((6 : Int) < DP) = false := by simp; omega
    have HC2 := hid (HCt.out w1 HB1.out)
    go_wp2_with fail
    refine HC2.out.mono ?_
    rintro e w2 ⟨rfl, hb2⟩
    have HB2 : Hid (Below w.heap.size w w2) := HB1.out.trans (hb2.mono HB1.out.size)
    have HX2 := hid (blk_below HX1.out hb2)
    clear hb2 yc0 yc1 yc2 yc3
    have yc0 : w2.cell? ⟨Z, 0, none⟩ = some (i64 T.kind) := blk_cell HX2.out 0
    have yc1 : w2.cell? ⟨Z, 1, none⟩ = some (i64 T.num) := blk_cell HX2.out 1
    have yc2 : w2.cell? ⟨Z, 2, none⟩ = some (.slice an T.names.length cn) := blk_cell HX2.out 2
    have yc3 : w2.cell? ⟨Z, 3, none⟩ = some (.slice ak T.kids.length ck) := blk_cell HX2.out 3
    by_cases h7 : 100 < CT
    · have HF : Hid (E0 = 2) := by show _ = _; rw [HE0.out, if_neg (by omega)]
      have h7I : (100 : Int) < CT := by omega
      go_wp2_with fail
      go_ret
      exact ⟨by rw [HF.out]; rfl, HB2.out⟩
    · have HF : Hid (E0 = if FM = true then 0 else 4) := by show _ = _; rw [HE0.out, if_pos (by omega)]
      have h7I : decide ((100 : Int) < CT) = false := by simp; omega
      have HC3 := hid (HFm.out w2 HB2.out)
      clear HE0
      go_wp2_with fail
      refine HC3.out.mono ?_
      rintro e w3 ⟨rfl, hb3⟩
      have HB3 : Hid (Below w.heap.size w w3) := HB2.out.trans (hb3.mono HB2.out.size)
      clear hb3 yc0 yc1 yc2 yc3
      cases FM with
      | true =>
        go_wp2_with fail
        go_ret
        exact ⟨by rw [HF.out]; rfl, HB3.out⟩
      | false =>
        go_wp2_with fail
        go_ret
        exact ⟨by rw [HF.out]; rfl, HB3.out⟩

end Go.Proofs.YtgiemijhndanjaaDoor
