/- play's deeds: their contracts; no statement is proved in this text. -/
import Derived.Test.YtigbfdloodfdgaaDoorPlayD2
namespace Go.Proofs.YtigbfdloodfdgaaDoor
open Go.ChangeShapes Go.WideShapes Go.ChangeAt Go.RowKit

theorem heap_sc_ne (b k : Nat) (hk : k ≠ b) : ∀ (vs : List Value) (o : Nat) (w : World), (w.setCells b o vs).heap[k]? = w.heap[k]?
  | [], _, _ => rfl
  | v :: r, o, w => by rw [World.setCells, heap_sc_ne b k hk r (o + 1), Below.heap_setCell _ _ _ _ hk]
set_option maxRecDepth 100000 in
set_option maxHeartbeats 1600000 in
theorem write_ok (w : World) (R q : Nat) (C D : List Nat) (M : List UInt8) (va vc : Value) (n r : Int) (ad sz v : Nat) (k : Int) (hs : sz = 1 ∨ sz = 2) (ha : ad + sz ≤ 256) (hv : v < 65536) (hD : Rg D) (hr : RunAt w R C M va vc) (hq : w.cell? ⟨q, 0, none⟩ = some (.pointer (some ⟨R, 0, none⟩))) (hqR : q ≠ R) :
    Calls Tryd.prog 26 #[cpV D, acV ⟨k, n, r, ad, sz, v⟩, .pointer (some ⟨q, 0, none⟩)] w fun e w' => e = .returned (i64 0) ∧ RunAt w' R D (memP M ad sz v) va vc ∧ Fr w.heap.size R w w' := by
  obtain ⟨b1, b2, b3⟩ := two_boxes w D ⟨k, n, r, ad, sz, v⟩
  have hlq := lt_of_cell hq
  have hq2 := (b3.cell (p := ⟨q, 0, none⟩) hlq).trans hq
  have hr2 := hr.below b3
  have hlR := hr.lt
  have HW := hid (hr2.cpu hD)
  have HF := hid (Fr.setCells (cpC D) 0 _ (Fr.of_below (R := R) b3))
  have HB1 := hid b1
  have HR2 := hid hr2
  have HTH := hid (there9 hr2.there hD)
  have hb1 : w.heap.size + 1 ≠ R := by omega
  have HA := hid b2
  clear hq hr b2 b3 hr2 b1
  go_enter Tryd.func26, Tryd.ntmps26
  go_upto_region 1 with fail
  generalize (w.alloc (.cells (cpC D).toArray 30)).alloc (.cells #[i64 k, i64 n, i64 r, i64 ad, i64 sz, i64 v] 61) = V at *
  go_upto_region 2 with (first
    | (refine wpList_load_mid rfl 30 (.tmp 3) rfl w.heap.size 0 rfl (cpC D) _ (by exact HB1.out.range) Tryd.underlying30 rfl (cpC_info hD) ?_)
    | (refine wpList_store_mid rfl 30 (.tmp 9) (.tmp 7) rfl R 0 (cpC D).toArray rfl rfl (by exact HTH.out) (cpC_infoA hD) (cpC_one _) ?_))
  have hw := HW.out
  have hf := HF.out
  have hq3 : (V.setCells R 0 (cpC D)).cell? ⟨q, 0, none⟩ = some (.pointer (some ⟨R, 0, none⟩)) := by rw [World.cell?_setCells_out R (cpC D) 0 _ ⟨q, 0, none⟩ (fun hb => absurd hb hqR)]; exact hq2
  have ha2 : (V.setCells R 0 (cpC D)).heap[w.heap.size + 1]? = some (.cells #[i64 k, i64 n, i64 r, i64 ad, i64 sz, i64 v] 61 (0, 0)) := by rw [heap_sc_ne _ _ hb1]; exact HA.out
  clear hq2 HB1 HR2 HTH HW HF HA
  generalize V.setCells R 0 (cpC D) = V2 at *
  have a3 : V2.cell? ⟨w.heap.size + 1, 3, none⟩ = some (i64 ad) := by rw [cell_of_row _ _ _ _ 61 (0, 0) ha2]; rfl
  have a4 : V2.cell? ⟨w.heap.size + 1, 4, none⟩ = some (i64 sz) := by rw [cell_of_row _ _ _ _ 61 (0, 0) ha2]; rfl
  have a5 : V2.cell? ⟨w.heap.size + 1, 5, none⟩ = some (i64 v) := by rw [cell_of_row _ _ _ _ 61 (0, 0) ha2]; rfl
  have HW := hid hw
  have HF := hid hf
  clear hw hf ha2
  go_wp2_with fail
  refine (put_ok _ R D M va vc HW.out ad sz v hs ha hv).mono ?_
  rintro e w3 ⟨rfl, h1, h2⟩
  have H1 := hid h1
  have H2 := hid h2
  clear h1 h2
  go_wp2_with fail
  go_ret
  exact ⟨rfl, H1.out, HF.out.trans (H2.out.mono HF.out.size)⟩
/-- What a deed in the memory does, where it is outside, and where not. -/
abbrev fnV (f q : Nat) : Value := .func (.func f) #[] #[.pointer (some ⟨q, 0, none⟩)]
set_option maxRecDepth 100000 in
set_option maxHeartbeats 1600000 in
theorem inMem_out (w : World) (d : Nat) (D : List Nat) (x : Ac) (hx : outB x = true) (hs : x.s = 1 ∨ x.s = 2) :
    Calls Tryd.prog 22 #[cpV D, acV x, .pointer (some ⟨d, 0, none⟩)] w fun e w' => e = .returned (i64 3) ∧ Below w.heap.size w w' := by
  obtain ⟨k, n, r, ad, s, v⟩ := x
  have ho : 256 - s < ad := of_decide_eq_true hx
  simp only at hs
  obtain ⟨b1, b2, b3⟩ := two_boxes w D ⟨k, n, r, ad, s, v⟩
  have HB := hid b3
  have a3 : ((w.alloc (.cells (cpC D).toArray 30)).alloc (.cells #[i64 k, i64 n, i64 r, i64 ad, i64 s, i64 v] 61)).cell? ⟨w.heap.size + 1, 3, none⟩ = some (i64 ad) := by rw [cell_of_row _ _ _ _ 61 (0, 0) b2]; rfl
  have a4 : ((w.alloc (.cells (cpC D).toArray 30)).alloc (.cells #[i64 k, i64 n, i64 r, i64 ad, i64 s, i64 v] 61)).cell? ⟨w.heap.size + 1, 4, none⟩ = some (i64 s) := by rw [cell_of_row _ _ _ _ 61 (0, 0) b2]; rfl
  have hs1 : 1 ≤ s := by omega
  have hs2 : s ≤ 2 := by omega
  clear b1 b2 b3 hx hs
  go_enter Tryd.func22, Tryd.ntmps22
  go_upto_region 1 with fail
  generalize (w.alloc (.cells (cpC D).toArray 30)).alloc (.cells #[i64 k, i64 n, i64 r, i64 ad, i64 s, i64 v] 61) = V at *
  go_wp2_with fail
  go_ret
  exact ⟨rfl, HB.out⟩
set_option maxRecDepth 100000 in
set_option maxHeartbeats 1600000 in
theorem inMem_23 (w : World) (d q : Nat) (D : List Nat) (hD : Rg D) (x : Ac) (hx : outB x = false) (hs : x.s = 1 ∨ x.s = 2) (hd : w.cell? ⟨d, 0, none⟩ = some (fnV 23 q)) (how : Int) (P : World → Prop)
    (h : ∀ V, Below w.heap.size w V → Calls Tryd.prog 23 #[cpV D, acV x, .pointer (some ⟨q, 0, none⟩)] V fun e w' => e = .returned (i64 how) ∧ P w') :
    Calls Tryd.prog 22 #[cpV D, acV x, .pointer (some ⟨d, 0, none⟩)] w fun e w' => e = .returned (i64 how) ∧ P w' := by
  obtain ⟨k, n, r, ad, s, v⟩ := x
  have ho : ¬ 256 - s < ad := of_decide_eq_false hx
  have ho2 : ad ≤ 256 - s := by omega
  simp only at hs
  obtain ⟨b1, b2, b3⟩ := two_boxes w D ⟨k, n, r, ad, s, v⟩
  have HB := hid b3
  have HB1 := hid b1
  have hd2 := (b3.cell (p := ⟨d, 0, none⟩) (lt_of_cell hd)).trans hd
  have a0 : ((w.alloc (.cells (cpC D).toArray 30)).alloc (.cells #[i64 k, i64 n, i64 r, i64 ad, i64 s, i64 v] 61)).cell? ⟨w.heap.size + 1, 0, none⟩ = some (i64 k) := by rw [cell_of_row _ _ _ _ 61 (0, 0) b2]; rfl
  have a1 : ((w.alloc (.cells (cpC D).toArray 30)).alloc (.cells #[i64 k, i64 n, i64 r, i64 ad, i64 s, i64 v] 61)).cell? ⟨w.heap.size + 1, 1, none⟩ = some (i64 n) := by rw [cell_of_row _ _ _ _ 61 (0, 0) b2]; rfl
  have a2 : ((w.alloc (.cells (cpC D).toArray 30)).alloc (.cells #[i64 k, i64 n, i64 r, i64 ad, i64 s, i64 v] 61)).cell? ⟨w.heap.size + 1, 2, none⟩ = some (i64 r) := by rw [cell_of_row _ _ _ _ 61 (0, 0) b2]; rfl
  have a3 : ((w.alloc (.cells (cpC D).toArray 30)).alloc (.cells #[i64 k, i64 n, i64 r, i64 ad, i64 s, i64 v] 61)).cell? ⟨w.heap.size + 1, 3, none⟩ = some (i64 ad) := by rw [cell_of_row _ _ _ _ 61 (0, 0) b2]; rfl
  have a4 : ((w.alloc (.cells (cpC D).toArray 30)).alloc (.cells #[i64 k, i64 n, i64 r, i64 ad, i64 s, i64 v] 61)).cell? ⟨w.heap.size + 1, 4, none⟩ = some (i64 s) := by rw [cell_of_row _ _ _ _ 61 (0, 0) b2]; rfl
  have a5 : ((w.alloc (.cells (cpC D).toArray 30)).alloc (.cells #[i64 k, i64 n, i64 r, i64 ad, i64 s, i64 v] 61)).cell? ⟨w.heap.size + 1, 5, none⟩ = some (i64 v) := by rw [cell_of_row _ _ _ _ 61 (0, 0) b2]; rfl
  have hs1 : 1 ≤ s := by omega
  have hs2 : s ≤ 2 := by omega
  have H := hid h
  clear b1 b2 b3 hx hs hd h ho
  go_enter Tryd.func22, Tryd.ntmps22
  go_upto_region 1 with fail
  generalize (w.alloc (.cells (cpC D).toArray 30)).alloc (.cells #[i64 k, i64 n, i64 r, i64 ad, i64 s, i64 v] 61) = V at *
  go_wp2_with (refine wpList_load_mid rfl 30 (.tmp 3) rfl w.heap.size 0 rfl (cpC D) _ (by exact HB1.out.range) Tryd.underlying30 rfl (cpC_info hD) ?_)
  refine (H.out _ HB.out).mono ?_
  rintro e w3 ⟨rfl, h1⟩
  have H1 := hid h1
  clear h1
  go_wp2_with fail
  go_ret
  exact ⟨rfl, H1.out⟩
set_option maxRecDepth 100000 in
set_option maxHeartbeats 1600000 in
theorem inMem_26 (w : World) (d q : Nat) (D : List Nat) (hD : Rg D) (x : Ac) (hx : outB x = false) (hs : x.s = 1 ∨ x.s = 2) (hd : w.cell? ⟨d, 0, none⟩ = some (fnV 26 q)) (how : Int) (P : World → Prop)
    (h : ∀ V, Below w.heap.size w V → Calls Tryd.prog 26 #[cpV D, acV x, .pointer (some ⟨q, 0, none⟩)] V fun e w' => e = .returned (i64 how) ∧ P w') :
    Calls Tryd.prog 22 #[cpV D, acV x, .pointer (some ⟨d, 0, none⟩)] w fun e w' => e = .returned (i64 how) ∧ P w' := by
  obtain ⟨k, n, r, ad, s, v⟩ := x
  have ho : ¬ 256 - s < ad := of_decide_eq_false hx
  have ho2 : ad ≤ 256 - s := by omega
  simp only at hs
  obtain ⟨b1, b2, b3⟩ := two_boxes w D ⟨k, n, r, ad, s, v⟩
  have HB := hid b3
  have HB1 := hid b1
  have hd2 := (b3.cell (p := ⟨d, 0, none⟩) (lt_of_cell hd)).trans hd
  have a0 : ((w.alloc (.cells (cpC D).toArray 30)).alloc (.cells #[i64 k, i64 n, i64 r, i64 ad, i64 s, i64 v] 61)).cell? ⟨w.heap.size + 1, 0, none⟩ = some (i64 k) := by rw [cell_of_row _ _ _ _ 61 (0, 0) b2]; rfl
  have a1 : ((w.alloc (.cells (cpC D).toArray 30)).alloc (.cells #[i64 k, i64 n, i64 r, i64 ad, i64 s, i64 v] 61)).cell? ⟨w.heap.size + 1, 1, none⟩ = some (i64 n) := by rw [cell_of_row _ _ _ _ 61 (0, 0) b2]; rfl
  have a2 : ((w.alloc (.cells (cpC D).toArray 30)).alloc (.cells #[i64 k, i64 n, i64 r, i64 ad, i64 s, i64 v] 61)).cell? ⟨w.heap.size + 1, 2, none⟩ = some (i64 r) := by rw [cell_of_row _ _ _ _ 61 (0, 0) b2]; rfl
  have a3 : ((w.alloc (.cells (cpC D).toArray 30)).alloc (.cells #[i64 k, i64 n, i64 r, i64 ad, i64 s, i64 v] 61)).cell? ⟨w.heap.size + 1, 3, none⟩ = some (i64 ad) := by rw [cell_of_row _ _ _ _ 61 (0, 0) b2]; rfl
  have a4 : ((w.alloc (.cells (cpC D).toArray 30)).alloc (.cells #[i64 k, i64 n, i64 r, i64 ad, i64 s, i64 v] 61)).cell? ⟨w.heap.size + 1, 4, none⟩ = some (i64 s) := by rw [cell_of_row _ _ _ _ 61 (0, 0) b2]; rfl
  have a5 : ((w.alloc (.cells (cpC D).toArray 30)).alloc (.cells #[i64 k, i64 n, i64 r, i64 ad, i64 s, i64 v] 61)).cell? ⟨w.heap.size + 1, 5, none⟩ = some (i64 v) := by rw [cell_of_row _ _ _ _ 61 (0, 0) b2]; rfl
  have hs1 : 1 ≤ s := by omega
  have hs2 : s ≤ 2 := by omega
  have H := hid h
  clear b1 b2 b3 hx hs hd h ho
  go_enter Tryd.func22, Tryd.ntmps22
  go_upto_region 1 with fail
  generalize (w.alloc (.cells (cpC D).toArray 30)).alloc (.cells #[i64 k, i64 n, i64 r, i64 ad, i64 s, i64 v] 61) = V at *
  go_wp2_with (refine wpList_load_mid rfl 30 (.tmp 3) rfl w.heap.size 0 rfl (cpC D) _ (by exact HB1.out.range) Tryd.underlying30 rfl (cpC_info hD) ?_)
  refine (H.out _ HB.out).mono ?_
  rintro e w3 ⟨rfl, h1⟩
  have H1 := hid h1
  clear h1
  go_wp2_with fail
  go_ret
  exact ⟨rfl, H1.out⟩
end Go.Proofs.YtigbfdloodfdgaaDoor
