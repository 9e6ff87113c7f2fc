/- Copy of any value: its Kids' block is its own; no statement is proved in this text. -/
import Derived.Test.YtgiemijhndanjaaDoorSvv
namespace Go.Proofs.YtgiemijhndanjaaDoor
open Go.ChangeShapes Go.WideShapes Go.ChangeAt Go.RowKit Go.Deep
attribute [local go_sem ↓] Go.wp_at_zero Go.wp_at_succ

def MkOk2 (w : World) (D : Vl) (e : Ending) (w' : World) : Prop := ∃ a c, e = .returned (vlV D (.slice a D.kids.length c)) ∧ Below w.heap.size w w' ∧ Vd w' (fun b => w.heap.size ≤ b) D (.slice a D.kids.length c) ∧ (D.kids = [] ∨ ∃ g C, a = some ⟨g, 0, none⟩ ∧ w.heap.size ≤ g ∧ w'.heap[g]? = some (.cells C 24))
theorem copy_end2 {W W2 : World} {V : Vl} {A : Nat} {D : List Er} (h : CpI W W2 A D []) (hx : ((A, 1, [V]) : Er) ∈ D) : ∃ a c, W2.rangeAt A 0 [i64 V.kind, i64 V.num, str V.s, .slice a V.kids.length c] ∧ Vd W2 (fun b => A ≤ b) V (.slice a V.kids.length c) ∧ (V.kids = [] ∨ ∃ g C, a = some ⟨g, 0, none⟩ ∧ A ≤ g ∧ W2.heap[g]? = some (.cells C 24)) := by
  obtain ⟨a, c, hr, hd⟩ := copy_end h hx
  refine ⟨a, c, hr, hd, ?_⟩
  obtain ⟨kv, hr2, hk⟩ := h.done _ hx 0 V rfl
  have e1 : W2.cell? ⟨A, 3, none⟩ = some (.slice a V.kids.length c) := by have := hr 3 _ rfl; simpa using this
  have e2 : W2.cell? ⟨A, 3, none⟩ = some kv := by have := hr2 3 _ rfl; simpa using this
  rw [e1] at e2
  cases e2
  rcases hk with ⟨h0, _⟩ | ⟨x, hxD, hxk, hxe⟩
  · exact .inl h0
  · obtain ⟨h1, _, _, C, h2⟩ := h.blk x hxD
    simp only [slE, Value.slice.injEq] at hxe
    exact .inr ⟨x.1, C, hxe.1, h1, h2⟩
set_option maxRecDepth 100000 in
set_option maxHeartbeats 12800000 in
theorem copy_ok2 (V : Vl) (w : World) (S : Nat → Prop) (kv : Value) (hV : Vd w S V kv) (hsz : V.size ≤ 100000) : Calls Tryd.prog 25 #[vlV V kv] w (MkOk2 w V) := by
  have HVd := hid hV
  obtain ⟨ak, ck, rfl⟩ := hV.form
  have HSz := hid hsz
  clear hV hsz
  show Calls Tryd.prog 25 #[.agg #[i64 V.kind, i64 V.num, str V.s, .slice ak V.kids.length ck]] w _
  have HX : Hid (((w.alloc (.cells #[i64 V.kind, i64 V.num, str V.s, .slice ak V.kids.length ck] 24)).alloc (zO 24)).heap[w.heap.size]? = some (.cells #[i64 V.kind, i64 V.num, str V.s, .slice ak V.kids.length ck] 24)) := blk_alloc (heap_last w _) _
  have HR0 : Hid (((w.alloc (.cells #[i64 V.kind, i64 V.num, str V.s, .slice ak V.kids.length ck] 24)).alloc (zO 24)).heap[w.heap.size + 1]? = some (zO 24)) := heap_at3 _ _ _ (by simp)
  have HBV : Hid (Below w.heap.size w ((w.alloc (.cells #[i64 V.kind, i64 V.num, str V.s, .slice ak V.kids.length ck] 24)).alloc (zO 24))) := (below_one w _).trans ((below_one _ _).mono (by simp))
  go_enter Tryd.func25, Tryd.ntmps25
  go_upto_region 1 with fail
  generalize (w.alloc (.cells #[i64 V.kind, i64 V.num, str V.s, .slice ak V.kids.length ck] 24)).alloc (zO 24) = V0 at *
  obtain ⟨Z, hZ⟩ : ∃ Z, Z = w.heap.size := ⟨_, rfl⟩
  obtain ⟨R, hR⟩ : ∃ R, R = w.heap.size + 1 := ⟨_, rfl⟩
  have HRw : Hid (w.heap.size ≤ R) := by show _ ≤ _; omega
  rw [← hZ] at HX
  rw [← hR] at HR0
  rw [← hR, ← hZ]
  clear hZ hR
  have zc0 : V0.cell? ⟨Z, 0, none⟩ = some (i64 V.kind) := blk_cell HX.out 0
  have zc1 : V0.cell? ⟨Z, 1, none⟩ = some (i64 V.num) := blk_cell HX.out 1
  have zc2 : V0.cell? ⟨Z, 2, none⟩ = some (str V.s) := blk_cell HX.out 2
  have zc3 : V0.cell? ⟨Z, 3, none⟩ = some (.slice ak V.kids.length ck) := blk_cell HX.out 3
  have HV0 : Hid (Vd V0 (fun b => b < V0.heap.size) V (.slice ak V.kids.length ck)) := HVd.out.move HBV.out.size fun b _ hlt => ⟨Nat.lt_of_lt_of_le hlt HBV.out.size, HBV.out.block b hlt⟩
  have HAw : Hid (w.heap.size ≤ V0.heap.size) := HBV.out.size
  have HRA : Hid (R < V0.heap.size) := blk_lt HR0.out
  have HC1 : Hid (Calls Tryd.prog 40 #[.slice (some ⟨V0.heap.size, 0, none⟩) 1 1, .func (.func 42) #[] #[]] (V0.alloc (.cells #[i64 V.kind, i64 V.num, str V.s, .slice ak V.kids.length ck] 24)) fun e w' => e = .returned (.tuple #[]) ∧ ∃ D, ((V0.heap.size, 1, [V]) : Er) ∈ D ∧ CpI V0 w' V0.heap.size D []) := eachc_ok V0 _ V0.heap.size (V0.heap.size, 1, [V]) (copy_start HV0.out) (by show sizeL [V] ≤ _; have := HSz.out; simp only [sizeL]; omega)
  go_wp2_with fail
  refine HC1.out.mono ?_
  rintro e w2 ⟨rfl, D, hD, hI⟩
  obtain ⟨a9, c9, hr9, hd9, hk9⟩ := copy_end2 hI hD
  have HK9 := hid hk9
  have HD9 := hid hd9
  have HB2 : Hid (Below w.heap.size w w2) := HBV.out.trans (hI.b.mono HAw.out)
  have HR2 : Hid (w2.heap[R]? = some (zO 24)) := by show _ = _; rw [hI.b.block R HRA.out]; exact HR0.out
  clear hI hD HC1 hd9 hk9 zc0 zc1 zc2 zc3
  obtain ⟨A, hA⟩ : ∃ A, A = V0.heap.size := ⟨_, rfl⟩
  rw [← hA] at hr9 HD9 HK9 HRA HAw ⊢
  clear hA
  have ac0 : w2.cell? ⟨A, 0, none⟩ = some (i64 V.kind) := by have := hr9 0 _ rfl; simpa using this
  have ac1 : w2.cell? ⟨A, 1, none⟩ = some (i64 V.num) := by have := hr9 1 _ rfl; simpa using this
  have ac2 : w2.cell? ⟨A, 2, none⟩ = some (str V.s) := by have := hr9 2 _ rfl; simpa using this
  have ac3 : w2.cell? ⟨A, 3, none⟩ = some (.slice a9 V.kids.length c9) := by have := hr9 3 _ rfl; simpa using this
  have rc0 : w2.cell? ⟨R, 0, none⟩ = some (i64 0) := blk_cell HR2.out 0
  have rf0 : w2.frozen? ⟨R, 0, none⟩ = false := blk_frozen HR2.out 0
  have rc1 : w2.cell? ⟨R, 1, none⟩ = some (i64 0) := blk_cell HR2.out 1
  have rf1 : w2.frozen? ⟨R, 1, none⟩ = false := blk_frozen HR2.out 1
  have rc2 : w2.cell? ⟨R, 2, none⟩ = some (.string ⟨#[]⟩) := blk_cell HR2.out 2
  have rf2 : w2.frozen? ⟨R, 2, none⟩ = false := blk_frozen HR2.out 2
  have rc3 : w2.cell? ⟨R, 3, none⟩ = some (.slice none 0 0) := blk_cell HR2.out 3
  have rf3 : w2.frozen? ⟨R, 3, none⟩ = false := blk_frozen HR2.out 3
  clear hr9
  go_wp2_with fail
  refine bodyPost_ret (v := .agg #[i64 V.kind, i64 V.num, str V.s, .slice a9 V.kids.length c9]) (results_one Tryd.results25 rfl (load24 (set4 HR2.out _ _ _ _))) rfl ?_
  have hoth : ∀ b, A ≤ b → ((((w2.setCell ⟨R, 0, none⟩ (i64 V.kind)).setCell ⟨R, 1, none⟩ (i64 V.num)).setCell ⟨R, 2, none⟩ (str V.s)).setCell ⟨R, 3, none⟩ (.slice a9 V.kids.length c9)).heap[b]? = w2.heap[b]? := fun b hb => by
    have hbR : b ≠ R := by have := HRA.out; omega
    rw [Below.heap_setCell _ _ _ _ hbR, Below.heap_setCell _ _ _ _ hbR, Below.heap_setCell _ _ _ _ hbR, Below.heap_setCell _ _ _ _ hbR]
  refine ⟨a9, c9, rfl, bset4 HB2.out HRw.out _ _ _ _, HD9.out.move (by simp [World.setCell]) (fun b hb _ => ⟨Nat.le_trans HAw.out hb, hoth b hb⟩), ?_⟩
  rcases HK9.out with h | ⟨g, C, h1, h2, h3⟩
  · exact .inl h
  · exact .inr ⟨g, C, h1, Nat.le_trans HAw.out h2, (hoth g h2).trans h3⟩
end Go.Proofs.YtgiemijhndanjaaDoor
