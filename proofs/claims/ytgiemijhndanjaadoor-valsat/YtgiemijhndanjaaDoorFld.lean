/- types.Field: its contract; no statement is proved in this text. -/
import Derived.Test.YtgiemijhndanjaaDoorEv
namespace Go.Proofs.YtgiemijhndanjaaDoor
open Go.ChangeShapes Go.WideShapes Go.ChangeAt Go.RowKit Go.Deep
attribute [local go_sem ↓] Go.wp_at_zero Go.wp_at_succ

/-- Where a field stands. -/
def fieldF (T : Ty) (x : Bs) : Int := if T.kind = 4 then Lib.idxOfS (T.names.map ba) (ba x) else -1
theorem index_ok (l : List Bs) (x : Bs) (w : World) (S : Nat → Prop) (v : Value) (h : Strs w S v l) : Calls Tryd.prog 57 #[v, str x] w fun e w' => e = .returned (i64 (Lib.idxOfS (l.map ba) (ba x))) ∧ w' = w := by
  have hl : l.length ≤ maxLen := by obtain ⟨_, _, _, h, _, _⟩ := h; exact h
  unfold maxLen at hl
  obtain ⟨ao, cap, rfl, _, hc⟩ := h.cells
  rcases hc with rfl | ⟨b, off, rfl, _, hcs⟩
  · exact Tryd.slices_Index_string_empty ao cap (ba x) w
  · have := Tryd.slices_Index_string b off l.length cap (l.map ba) (ba x) w (by simp) (by omega) (bas_cells hcs)
    rw [List.take_of_length_le (by simp)] at this
    exact this
set_option maxRecDepth 100000 in
set_option maxHeartbeats 3200000 in
theorem field_ok (T : Ty) (x : Bs) (w : World) (S : Nat → Prop) (nv kv : Value) (hR : Rd w S T nv kv) : Calls Tryd.prog 54 #[tyV T.kind T.num nv kv, str x] w fun e w' => e = .returned (i64 (fieldF T x)) ∧ Below w.heap.size w w' := by
  obtain ⟨ANS, hA⟩ : ∃ ANS, ANS = fieldF T x := ⟨_, rfl⟩
  have HA : Hid (ANS = if T.kind = 4 then Lib.idxOfS (T.names.map ba) (ba x) else -1) := hA
  rw [← hA]
  clear hA
  have HRd := hid hR
  obtain ⟨an, cn, rfl, ak, ck, rfl⟩ := hR.form
  have HX : Hid ((w.alloc (.cells #[i64 T.kind, i64 T.num, .slice an T.names.length cn, .slice ak T.kids.length ck] 28)).heap[w.heap.size]? = some (.cells #[i64 T.kind, i64 T.num, .slice an T.names.length cn, .slice ak T.kids.length ck] 28)) := heap_last w _
  have HBV : Hid (Below w.heap.size w (w.alloc (.cells #[i64 T.kind, i64 T.num, .slice an T.names.length cn, .slice ak T.kids.length ck] 28))) := below_one w _
  clear hR
  go_enter Tryd.func54, Tryd.ntmps54
  go_upto_region 1 with fail
  obtain ⟨Z, hZ⟩ : ∃ Z, Z = w.heap.size := ⟨_, rfl⟩
  rw [← hZ] at HX ⊢
  generalize w.alloc (.cells #[i64 T.kind, i64 T.num, .slice an T.names.length cn, .slice ak T.kids.length ck] 28) = V at *
  have HZ := hid hZ
  clear hZ
  have yc0 : V.cell? ⟨Z, 0, none⟩ = some (i64 T.kind) := blk_cell HX.out 0
  have yc1 : V.cell? ⟨Z, 1, none⟩ = some (i64 T.num) := blk_cell HX.out 1
  have yc2 : V.cell? ⟨Z, 2, none⟩ = some (.slice an T.names.length cn) := blk_cell HX.out 2
  have yc3 : V.cell? ⟨Z, 3, none⟩ = some (.slice ak T.kids.length ck) := blk_cell HX.out 3
  have HIX : Hid (Calls Tryd.prog 57 #[.slice an T.names.length cn, str x] V fun e w' => e = .returned (i64 (Lib.idxOfS (T.names.map ba) (ba x))) ∧ w' = V) := by
    have h1 := HRd.out.under HBV.out
    obtain ⟨k, n, names, kids⟩ := T
    exact index_ok names x V S _ h1.kid.1
  generalize Lib.idxOfS (T.names.map ba) (ba x) = IX at *
  by_cases hk : T.kind = 4
  · have HA2 : Hid (ANS = IX) := by show _ = _; rw [HA.out, if_pos hk]
    clear HA
    have hne : (T.kind != 4) = false := by simpa using hk
    have HK := hid hk
    clear hk
    go_wp2_with fail
    refine HIX.out.mono ?_
    rintro e v1 ⟨rfl, hv⟩
    replace hv := hv.symm
    subst hv
    go_wp2_with fail
    go_ret
    exact ⟨by rw [HA2.out]; rfl, HBV.out⟩
  · have HA2 : Hid (ANS = -1) := by show _ = _; rw [HA.out, if_neg hk]
    clear HA
    have hne : (T.kind != 4) = true := by simpa using hk
    have HK := hid hk
    clear hk
    go_wp2_with fail
    go_ret
    exact ⟨by rw [HA2.out]; rfl, HBV.out⟩
end Go.Proofs.YtgiemijhndanjaaDoor
