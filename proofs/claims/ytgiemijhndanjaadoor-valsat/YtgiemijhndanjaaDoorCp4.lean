/- Copy of any value: its contract; no statement is proved in this text. -/
import Derived.Test.YtgiemijhndanjaaDoorCp3
import Derived.Test.YtgiemijhndanjaaDoorSz
namespace Go.Proofs.YtgiemijhndanjaaDoor
open Go.ChangeShapes Go.WideShapes Go.ChangeAt Go.RowKit Go.Deep
attribute [local go_sem ↓] Go.wp_at_zero Go.wp_at_succ

theorem copy_start {W : World} {V : Vl} {kv : Value} (h : Vd W (fun b => b < W.heap.size) V kv) : CpI W (W.alloc (.cells #[i64 V.kind, i64 V.num, str V.s, kv] 24)) W.heap.size [] [(W.heap.size, 1, [V])] := by
  refine ⟨below_one W _, (below_one W _).size, fun x hx => (by cases hx), fun x hx => ?_, fun x hx => ?_, by simp, fun x hx => ?_⟩
  · rw [List.mem_singleton.1 hx]
    intro i U hU
    have hi : i = 0 := by have := (List.getElem?_eq_some_iff.1 hU).1; simpa using this
    subst hi
    cases hU
    refine ⟨kv, fun j v hv => ?_, h⟩
    rw [blk_cell (heap_last W _)]
    simpa using hv
  · have hx' : x = (W.heap.size, 1, [V]) := by simpa using hx
    rw [hx']
    exact ⟨Nat.le_refl _, Nat.le_refl _, by unfold maxLen; simp, _, heap_last W _⟩
  · have hx' : x = (W.heap.size, 1, [V]) := by simpa using hx
    rw [hx']
    intro U hU
    rw [List.mem_singleton.1 hU]
    exact h.lens.1
theorem copy_end {W W2 : World} {V : Vl} {A : Nat} {D : List Er} (h : CpI W W2 A D []) (hx : ((A, 1, [V]) : Er) ∈ D) : ∃ a c, W2.rangeAt A 0 [i64 V.kind, i64 V.num, str V.s, .slice a V.kids.length c] ∧ Vd W2 (fun b => A ≤ b) V (.slice a V.kids.length c) := by
  have hrow := CpI.rd h _ (A, 1, [V]) hx (Nat.le_refl _)
  obtain ⟨b, off, kv2, hab, _, _, hr, hvd⟩ := Vd.kid hrow 0 (by simp [Vl.kids])
  cases hab
  have hvd2 : Vd W2 (fun b => A ≤ b) V kv2 := hvd
  obtain ⟨a, c, rfl⟩ := hvd2.form
  have hr2 : W2.rangeAt A (0 + 0 * 4) [i64 V.kind, i64 V.num, str V.s, .slice a V.kids.length c] := hr
  exact ⟨a, c, hr2, hvd2⟩
set_option maxRecDepth 100000 in
set_option maxHeartbeats 12800000 in
theorem copy_ok (V : Vl) (w : World) (S : Nat → Prop) (kv : Value) (hV : Vd w S V kv) (hsz : V.size ≤ 100000) : Calls Tryd.prog 25 #[vlV V kv] w (MkOk w V) := by
  have HVd := hid hV
  obtain ⟨ak, ck, rfl⟩ := hV.form
  have HSz := hid hsz
  clear hV hsz
  show Calls Tryd.prog 25 #[.agg #[i64 V.kind, i64 V.num, str V.s, .slice ak V.kids.length ck]] w _
  have HX : Hid (((w.alloc (.cells #[i64 V.kind, i64 V.num, str V.s, .slice ak V.kids.length ck] 24)).alloc (zO 24)).heap[w.heap.size]? = some (.cells #[i64 V.kind, i64 V.num, str V.s, .slice ak V.kids.length ck] 24)) := blk_alloc (heap_last w _) _
  have HR0 : Hid (((w.alloc (.cells #[i64 V.kind, i64 V.num, str V.s, .slice ak V.kids.length ck] 24)).alloc (zO 24)).heap[w.heap.size + 1]? = some (zO 24)) := heap_at3 _ _ _ (by simp)
  have HBV : Hid (Below w.heap.size w ((w.alloc (.cells #[i64 V.kind, i64 V.num, str V.s, .slice ak V.kids.length ck] 24)).alloc (zO 24))) := (below_one w _).trans ((below_one _ _).mono (by simp))
  go_enter Tryd.func25, Tryd.ntmps25
  go_upto_region 1 with fail
  generalize (w.alloc (.cells #[i64 V.kind, i64 V.num, str V.s, .slice ak V.kids.length ck] 24)).alloc (zO 24) = V0 at *
  obtain ⟨Z, hZ⟩ : ∃ Z, Z = w.heap.size := ⟨_, rfl⟩
  obtain ⟨R, hR⟩ : ∃ R, R = w.heap.size + 1 := ⟨_, rfl⟩
  have HRw : Hid (w.heap.size ≤ R) := by show _ ≤ _; omega
  rw [← hZ] at HX
  rw [← hR] at HR0
  rw [← hR, ← hZ]
  clear hZ hR
  have zc0 : V0.cell? ⟨Z, 0, none⟩ = some (i64 V.kind) := blk_cell HX.out 0
  have zc1 : V0.cell? ⟨Z, 1, none⟩ = some (i64 V.num) := blk_cell HX.out 1
  have zc2 : V0.cell? ⟨Z, 2, none⟩ = some (str V.s) := blk_cell HX.out 2
  have zc3 : V0.cell? ⟨Z, 3, none⟩ = some (.slice ak V.kids.length ck) := blk_cell HX.out 3
  have HV0 : Hid (Vd V0 (fun b => b < V0.heap.size) V (.slice ak V.kids.length ck)) := HVd.out.move HBV.out.size fun b _ hlt => ⟨Nat.lt_of_lt_of_le hlt HBV.out.size, HBV.out.block b hlt⟩
  have HAw : Hid (w.heap.size ≤ V0.heap.size) := HBV.out.size
  have HRA : Hid (R < V0.heap.size) := blk_lt HR0.out
  have HC1 : Hid (Calls Tryd.prog 40 #[.slice (some ⟨V0.heap.size, 0, none⟩) 1 1, .func (.func 42) #[] #[]] (V0.alloc (.cells #[i64 V.kind, i64 V.num, str V.s, .slice ak V.kids.length ck] 24)) fun e w' => e = .returned (.tuple #[]) ∧ ∃ D, ((V0.heap.size, 1, [V]) : Er) ∈ D ∧ CpI V0 w' V0.heap.size D []) := eachc_ok V0 _ V0.heap.size (V0.heap.size, 1, [V]) (copy_start HV0.out) (by show sizeL [V] ≤ _; have := HSz.out; simp only [sizeL]; omega)
  go_wp2_with fail
  refine HC1.out.mono ?_
  rintro e w2 ⟨rfl, D, hD, hI⟩
  obtain ⟨a9, c9, hr9, hd9⟩ := copy_end hI hD
  have HD9 := hid hd9
  have HB2 : Hid (Below w.heap.size w w2) := HBV.out.trans (hI.b.mono HAw.out)
  have HR2 : Hid (w2.heap[R]? = some (zO 24)) := by show _ = _; rw [hI.b.block R HRA.out]; exact HR0.out
  clear hI hD HC1 hd9 zc0 zc1 zc2 zc3
  obtain ⟨A, hA⟩ : ∃ A, A = V0.heap.size := ⟨_, rfl⟩
  rw [← hA] at hr9 HD9 HRA HAw ⊢
  clear hA
  have ac0 : w2.cell? ⟨A, 0, none⟩ = some (i64 V.kind) := by have := hr9 0 _ rfl; simpa using this
  have ac1 : w2.cell? ⟨A, 1, none⟩ = some (i64 V.num) := by have := hr9 1 _ rfl; simpa using this
  have ac2 : w2.cell? ⟨A, 2, none⟩ = some (str V.s) := by have := hr9 2 _ rfl; simpa using this
  have ac3 : w2.cell? ⟨A, 3, none⟩ = some (.slice a9 V.kids.length c9) := by have := hr9 3 _ rfl; simpa using this
  have rc0 : w2.cell? ⟨R, 0, none⟩ = some (i64 0) := blk_cell HR2.out 0
  have rf0 : w2.frozen? ⟨R, 0, none⟩ = false := blk_frozen HR2.out 0
  have rc1 : w2.cell? ⟨R, 1, none⟩ = some (i64 0) := blk_cell HR2.out 1
  have rf1 : w2.frozen? ⟨R, 1, none⟩ = false := blk_frozen HR2.out 1
  have rc2 : w2.cell? ⟨R, 2, none⟩ = some (.string ⟨#[]⟩) := blk_cell HR2.out 2
  have rf2 : w2.frozen? ⟨R, 2, none⟩ = false := blk_frozen HR2.out 2
  have rc3 : w2.cell? ⟨R, 3, none⟩ = some (.slice none 0 0) := blk_cell HR2.out 3
  have rf3 : w2.frozen? ⟨R, 3, none⟩ = false := blk_frozen HR2.out 3
  clear hr9
  go_wp2_with fail
  refine bodyPost_ret (v := .agg #[i64 V.kind, i64 V.num, str V.s, .slice a9 V.kids.length c9]) (results_one Tryd.results25 rfl (load24 (set4 HR2.out _ _ _ _))) rfl ?_
  refine ⟨a9, c9, rfl, bset4 HB2.out HRw.out _ _ _ _, HD9.out.move (by simp [World.setCell]) (fun b hb _ => ⟨Nat.le_trans HAw.out hb, ?_⟩)⟩
  have hbR : b ≠ R := by have := HRA.out; omega
  rw [Below.heap_setCell _ _ _ _ hbR, Below.heap_setCell _ _ _ _ hbR, Below.heap_setCell _ _ _ _ hbR, Below.heap_setCell _ _ _ _ hbR]
end Go.Proofs.YtgiemijhndanjaaDoor
