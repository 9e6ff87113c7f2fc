/- play's settle, number, put, nextAnswer: their contracts; no statement is proved in this text. -/
import Derived.Test.YtigbfdloodfdgaaDoorPlayBase
import Derived.Deep.DeepCutAuto
import Derived.RegionTactic
namespace Go.Proofs.YtigbfdloodfdgaaDoor
open Go.ChangeShapes Go.WideShapes Go.ChangeAt Go.RowKit

theorem hid {p : Prop} (h : p) : Hid p := h
/-- Registers and an act, in blocks of their own. -/
theorem two_boxes (w : World) (D : List Nat) (x : Ac) : Row ((w.alloc (.cells (cpC D).toArray 30)).alloc (.cells #[i64 x.k, i64 x.n, i64 x.r, i64 x.ad, i64 x.s, i64 x.v] 61)) w.heap.size D ∧ ((w.alloc (.cells (cpC D).toArray 30)).alloc (.cells #[i64 x.k, i64 x.n, i64 x.r, i64 x.ad, i64 x.s, i64 x.v] 61)).heap[w.heap.size + 1]? = some (.cells #[i64 x.k, i64 x.n, i64 x.r, i64 x.ad, i64 x.s, i64 x.v] 61 (0, 0)) ∧ Below w.heap.size w ((w.alloc (.cells (cpC D).toArray 30)).alloc (.cells #[i64 x.k, i64 x.n, i64 x.r, i64 x.ad, i64 x.s, i64 x.v] 61)) :=
  ⟨⟨by rw [Below.heap_alloc _ _ _ (by simp)]; exact heap_at rfl _⟩, heap_at (by simp) _, (below_one w _).alloc (by simp) _⟩
theorem lt_of_cell {w : World} {b o : Nat} {v : Value} (h : w.cell? ⟨b, o, none⟩ = some v) : b < w.heap.size := World.block_lt_of_cell? w ⟨b, o, none⟩ h
theorem there9 {V : World} {b : Nat} (h : V.there b 0 9) {C : List Nat} (hC : Rg C) : V.there b 0 (cpC C).toArray.size := by rw [List.size_toArray, cpC_len, hC.len]; exact h

set_option maxRecDepth 100000 in
set_option maxHeartbeats 1600000 in
theorem set_ok (w : World) (R q h : Nat) (how : Int) (C D : List Nat) (M : List UInt8) (va vc : Value) (x : Ac) (hD : Rg D) (hr : RunAt w R C M va vc) (hq : w.cell? ⟨q, 0, none⟩ = some (.pointer (some ⟨R, 0, none⟩))) (hh : w.cell? ⟨h, 0, none⟩ = some (i64 how)) (hRh : h ≠ R) :
    Calls Tryd.prog 20 #[cpV D, acV x, .pointer (some ⟨q, 0, none⟩), .pointer (some ⟨h, 0, none⟩)] w fun e w' => e = .returned (i64 how) ∧ RunAt w' R D M va vc ∧ Fr w.heap.size R w w' := by
  obtain ⟨k, n, r, ad, s, v⟩ := x
  obtain ⟨b1, b2, b3⟩ := two_boxes w D ⟨k, n, r, ad, s, v⟩
  have hlq := lt_of_cell hq
  have hlh := lt_of_cell hh
  have hq2 := (b3.cell (p := ⟨q, 0, none⟩) hlq).trans hq
  have hh2 := (b3.cell (p := ⟨h, 0, none⟩) hlh).trans hh
  have hr2 := hr.below b3
  have HW := hid (hr2.cpu hD)
  have HF := hid (Fr.setCells (cpC D) 0 _ (Fr.of_below (R := R) b3))
  have hh3 := hh2
  rw [← World.cell?_setCells_out R (cpC D) 0 _ ⟨h, 0, none⟩ (fun hb => absurd hb hRh)] at hh3
  simp only at b1 b2 b3 hq2 hh2 hr2 HW HF hh3
  have HB1 := hid b1
  have HR2 := hid hr2
  have HTH := hid (there9 hr2.there hD)
  clear hq hh hr b2 b3 hr2 b1 hh2
  go_enter Tryd.func20, Tryd.ntmps20
  go_upto_region 1 with fail
  generalize (w.alloc (.cells (cpC D).toArray 30)).alloc (.cells #[i64 k, i64 n, i64 r, i64 ad, i64 s, i64 v] 61) = V at *
  go_wp2_with (first
    | (refine wpList_load_mid rfl 30 (.tmp 4) rfl w.heap.size 0 rfl (cpC D) _ (by exact HB1.out.range) Tryd.underlying30 rfl (cpC_info hD) ?_)
    | (refine wpList_store_mid rfl 30 (.tmp 10) (.tmp 8) rfl R 0 (cpC D).toArray rfl rfl (by exact HTH.out) (cpC_infoA hD) (cpC_one _) ?_))
  go_ret
  exact ⟨rfl, HW.out, HF.out⟩
end Go.Proofs.YtigbfdloodfdgaaDoor
