/- play's call: its contract; no statement is proved in this text. -/
import Derived.Test.YtigbfdloodfdgaaDoorPlayD4
import Derived.Deep.AppendLies
namespace Go.Proofs.YtigbfdloodfdgaaDoor
open Go.ChangeShapes Go.WideShapes Go.ChangeAt Go.RowKit

def clC (K : List Cl) : List Value := K.flatMap fun c => [i64 c.n, i64 c.a, i64 c.b, i64 c.c]
theorem clC_app (K : List Cl) (c : Cl) : clC (K ++ [c]) = clC K ++ [i64 c.n, i64 c.a, i64 c.b, i64 c.c] := by simp [clC]
theorem own_fr {w w' : World} {base R : Nat} {e : TypeId} {size n : Nat} {v : Value} {xs : List Value} (h : w.ownsRow base e size v n xs) (hf : Fr w.heap.size R w w') (hR : R < base) : w'.ownsRow base e size v n xs := by
  refine ⟨h.1, ?_⟩
  rcases h.2 with h0 | ⟨g, cap, cur, hv, hb, hg, rest⟩
  · exact Or.inl h0
  · exact Or.inr ⟨g, cap, cur, hv, hb, (hf.block g (Array.getElem?_eq_some_iff.1 hg).1 (by omega)).trans hg, rest⟩
/-- All but a row and block R is as it was. -/
def FrO (row : Option Nat) (R : Nat) (w w' : World) : Prop := ∀ k, k < w.heap.size → k ≠ R → some k ≠ row → w'.heap[k]? = w.heap[k]?
/-- What call finds. -/
structure SqC (b q R : Nat) (D : List Nat) (n : Int) (vc : Value) (W : World) : Prop where
  s0 : W.cell? ⟨q, 0, none⟩ = some (.pointer (some ⟨R, 0, none⟩))
  s1 : W.cell? ⟨R, 266, none⟩ = some vc
  s2 : W.cell? ⟨b + 1, 1, none⟩ = some (i64 n)
  row : Row W b D
structure SqD (b q R : Nat) (D : List Nat) (W : World) : Prop where
  s0 : W.cell? ⟨q, 0, none⟩ = some (.pointer (some ⟨R, 0, none⟩))
  row : Row W b D
theorem SqC.to {b q R : Nat} {D : List Nat} {n : Int} {vc : Value} {w w' : World} (h : SqC b q R D n vc w) (hb : ∀ k, k = q ∨ k = R ∨ k = b ∨ k = b + 1 → w'.heap[k]? = w.heap[k]?) : SqC b q R D n vc w' :=
  ⟨by rw [World.cell?_of_block (hb _ (by simp))]; exact h.s0, by rw [World.cell?_of_block (hb _ (by simp))]; exact h.s1, by rw [World.cell?_of_block (hb _ (by simp))]; exact h.s2, ⟨(hb _ (by simp)).trans h.row.row⟩⟩
theorem SqD.to {b q R : Nat} {D : List Nat} {w w' : World} (h : SqD b q R D w) (hb : ∀ k, k = q ∨ k = b → w'.heap[k]? = w.heap[k]?) : SqD b q R D w' :=
  ⟨by rw [World.cell?_of_block (hb _ (by simp))]; exact h.s0, ⟨(hb _ (by simp)).trans h.row.row⟩⟩
theorem SqC.toD {b q R : Nat} {D : List Nat} {n : Int} {vc : Value} {w : World} (h : SqC b q R D n vc w) : SqD b q R D w := ⟨h.s0, h.row⟩
set_option maxRecDepth 100000 in
theorem info51 : ∃ i, Tryd.prog.info? 51 = some i ∧ i.zero = some (.agg #[i64 0, i64 0, i64 0, i64 0]) ∧ i.size = 4 ∧ i.bytes = 32 := ⟨_, rfl, rfl, rfl, rfl⟩
set_option maxRecDepth 100000 in
set_option maxHeartbeats 3200000 in
theorem call_ok (w : World) (R q base : Nat) (C D : List Nat) (M : List UInt8) (va vc : Value) (A : List Int) (K : List Cl) (n r v : Int) (ad sz : Int) (k : Int) (c1 c2 c3 x0 : Nat) (e1 : D.getD 1 0 = c1) (e2 : D.getD 2 0 = c2) (e3 : D.getD 3 0 = c3) (ex : wd (A.headD 0) = x0) (hD : Rg D) (hr : RunAt w R C M va vc) (hq : w.cell? ⟨q, 0, none⟩ = some (.pointer (some ⟨R, 0, none⟩))) (hqR : q ≠ R) (hqb : q < base) (hRb : R < base) (hb : base ≤ w.heap.size) (hA : ASl w base R va A) (hK : w.ownsRow base 51 4 vc K.length (clC K)) (hl : K.length < 5000) :
    Calls Tryd.prog 28 #[cpV D, acV ⟨k, n, r, ad, sz, v⟩, .pointer (some ⟨q, 0, none⟩)] w fun e w' => e = .returned (i64 0) ∧ ∃ va' vc', RunAt w' R (D.set 0 x0) M va' vc' ∧ ASl w' base R va' A.tail ∧ w'.ownsRow base 51 4 vc' (K.length + 1) (clC (K ++ [⟨n, c1, c2, c3⟩])) ∧ Fr base R w w' ∧ FrO vc.ownBlock R w w' := by
  obtain ⟨b1, b2, b3⟩ := two_boxes w D ⟨k, n, r, ad, sz, v⟩
  have hlq := lt_of_cell hq
  have hq2 := (b3.cell (p := ⟨q, 0, none⟩) hlq).trans hq
  have hr2 := hr.below b3
  have hlR := hr.lt
  have hD2 : Rg (D.set 0 x0) := hD.set _ _ (by rw [← ex]; exact wd_lt _)
  have hlt := hK.lt
  have hlen : (clC K).length = K.length * 4 := hK.1
  have HB1 := hid b1
  have HB2 := hid b2
  have HB3 := hid b3
  have HR2 := hid hr2
  have HQ2 := hid hq2
  have HA2 := hid (hA.fr (Fr.of_below (b3.mono hb)))
  have HK2 := hid (own_fr hK (Fr.of_below b3) hRb)
  have HLT := hid hlt
  obtain ⟨i51, hi51, hz51, hs51, hby51⟩ := info51
  have HI := hid hi51
  clear hq hr b2 b3 hr2 b1 hq2 hA hK hlt hi51
  go_enter Tryd.func28, Tryd.ntmps28
  go_upto_region 1 with fail
  generalize (w.alloc (.cells (cpC D).toArray 30)).alloc (.cells #[i64 k, i64 n, i64 r, i64 ad, i64 sz, i64 v] 61) = V at *
  have HS : Hid (SqC w.heap.size q R D n vc V.drew) := ⟨HQ2.out, HR2.out.ans.2, by rw [World.cell?_drew, cell_of_row _ _ _ _ 61 (0, 0) HB2.out]; rfl, ⟨HB1.out.row⟩⟩
  refine wp_region_noPanic ?_
  refine wp_region_last (SqC w.heap.size q R D n vc) 14 (by kernel_rfl) ?_
  refine wpL_take 0 6 (.pointer (some ⟨R, 0, none⟩)) [12, 13] rfl rfl (by kernel_rfl) (by decide) (by kernel_rfl) (by kernel_rfl) (by kernel_rfl) (fun _ _ _ h => h) HS.out (by rfl) (fun W hW => by obtain ⟨s0, s1, s2, sl⟩ := hW; go_simp) ?_
  simp only [Act.put, List.setIfInBounds_toArray, List.set_cons_zero, List.set_cons_succ]
  refine wpL_take 1 7 (.pointer (some ⟨R, 0, none⟩)) [2, 3, 4, 11] rfl rfl (by kernel_rfl) (by decide) (by kernel_rfl) (by kernel_rfl) (by kernel_rfl) (fun _ _ _ h => h) HS.out (by rfl) (fun W hW => by obtain ⟨s0, s1, s2, sl⟩ := hW; go_simp) ?_
  simp only [Act.put, List.setIfInBounds_toArray, List.set_cons_zero, List.set_cons_succ]
  refine wpL_take 2 8 (.pointer (some ⟨R, 0, none⟩)) [3, 4, 11] rfl rfl (by kernel_rfl) (by decide) (by kernel_rfl) (by kernel_rfl) (by kernel_rfl) (fun _ _ _ h => h) HS.out (by rfl) (fun W hW => by obtain ⟨s0, s1, s2, sl⟩ := hW; go_simp) ?_
  simp only [Act.put, List.setIfInBounds_toArray, List.set_cons_zero, List.set_cons_succ]
  refine wpL_take 3 9 (.pointer (some ⟨R, 266, none⟩)) [4, 11] rfl rfl (by kernel_rfl) (by decide) (by kernel_rfl) (by kernel_rfl) (by kernel_rfl) (fun _ _ _ h => h) HS.out (by rfl) (fun W hW => by obtain ⟨s0, s1, s2, sl⟩ := hW; go_simp) ?_
  simp only [Act.put, List.setIfInBounds_toArray, List.set_cons_zero, List.set_cons_succ]
  refine wpL_take 4 10 vc [11] rfl rfl (by kernel_rfl) (by decide) (by kernel_rfl) (by kernel_rfl) (by kernel_rfl) (fun _ _ _ h => h) HS.out (by rfl) (fun W hW => by obtain ⟨s0, s1, s2, sl⟩ := hW; go_simp) ?_
  simp only [Act.put, List.setIfInBounds_toArray, List.set_cons_zero, List.set_cons_succ]
  refine wpL_take 5 11 (.pointer (some ⟨w.heap.size + 1, 1, none⟩)) [6, 9] rfl rfl (by kernel_rfl) (by decide) (by kernel_rfl) (by kernel_rfl) (by kernel_rfl) (fun _ _ _ h => h) HS.out (by rfl) (fun W hW => by obtain ⟨s0, s1, s2, sl⟩ := hW; go_simp) ?_
  simp only [Act.put, List.setIfInBounds_toArray, List.set_cons_zero, List.set_cons_succ]
  refine wpL_take 6 12 (i64 n) [9] rfl rfl (by kernel_rfl) (by decide) (by kernel_rfl) (by kernel_rfl) (by kernel_rfl) (fun _ _ _ h => h) HS.out (by rfl) (fun W hW => by obtain ⟨s0, s1, s2, sl⟩ := hW; go_simp) ?_
  simp only [Act.put, List.setIfInBounds_toArray, List.set_cons_zero, List.set_cons_succ]
  refine wpL_take 7 13 (cpV D) [8] rfl rfl (by kernel_rfl) (by decide) (by kernel_rfl) (by kernel_rfl) (by kernel_rfl) (fun _ _ _ h => h) HS.out (by rfl) (fun W hW => by exact exec_load 30 (.tmp 3) rfl rfl (run_loadVar_mid _ _ 0 30 _ _ hW.row.range Tryd.underlying30 rfl (cpC_info hD))) ?_
  simp only [Act.put, List.setIfInBounds_toArray, List.set_cons_zero, List.set_cons_succ]
  refine wpL_one 8 rfl (by kernel_rfl) (by rfl) (fun K' hK => ?_)
  go_simp
  refine (args_ok _ D hD c1 c2 c3 e1 e2 e3).mono ?_
  rintro e w3 ⟨rfl, hb3⟩
  have hbq : ∀ k, k = q ∨ k = R ∨ k = w.heap.size ∨ k = w.heap.size + 1 → k < V.heap.size := by
    have h1 := lt_of_cell HS.out.s2
    have h2 : w.heap.size + 1 < V.heap.size := h1
    intro k hk
    omega
  have HBQ := hid hbq
  have HS3 : Hid (SqC w.heap.size q R D n vc w3) := HS.out.to fun k hk => hb3.block k (hbq k hk)
  have HR3 := hid (HR2.out.drew.below hb3)
  have HF3 : Hid (Below w.heap.size w w3) := HB3.out.trans (Below.trans (show Below w.heap.size V V.drew from ⟨rfl, rfl, rfl, Nat.le_refl _, fun _ _ => rfl⟩) (hb3.mono HB3.out.size))
  have HK3 := hid (own_fr HK2.out.drew (Fr.of_below hb3) hRb)
  have HA3 := hid (HA2.out.fr (w' := w3) (Fr.of_below ⟨hb3.os, hb3.tape, hb3.output, hb3.size, fun k hk => hb3.block k (Nat.lt_of_lt_of_le hk (Nat.le_trans hb HB3.out.size))⟩))
  have hb4 : w.heap.size + 1 < w3.heap.size := lt_of_cell HS3.out.s2
  clear hbq hb3
  go_simp
  refine hK.out _ _ (fun _ => HS3.out) ?_
  clear hK K'
  refine wpL_one 9 rfl (by kernel_rfl) (by rfl) (fun K' hK => ?_)
  go_simp
  refine hK.out _ _ (fun _ => HS3.out) ?_
  clear hK K'
  refine wpL_one 10 rfl (by kernel_rfl) (by rfl) (fun K' hK => ?_)
  go_simp
  have HS4 : Hid (SqC w.heap.size q R D n vc (w3.alloc (.cells #[i64 n, i64 c1, i64 c2, i64 c3] 51))) := HS3.out.to fun k hk => Below.heap_alloc _ _ _ (by omega)
  have HR4 := hid (HR3.out.below (below_one w3 (.cells #[i64 n, i64 c1, i64 c2, i64 c3] 51)))
  have HF4 : Hid (Below w.heap.size w (w3.alloc (.cells #[i64 n, i64 c1, i64 c2, i64 c3] 51))) := HF3.out.trans ((below_one w3 _).mono HF3.out.size)
  have HK4 := hid (HK3.out.alloc (.cells #[i64 n, i64 c1, i64 c2, i64 c3] 51))
  have HA4 := hid (HA3.out.fr (w' := w3.alloc (.cells #[i64 n, i64 c1, i64 c2, i64 c3] 51)) (Fr.of_below ((below_one w3 _).mono (Nat.le_trans hb HF3.out.size))))
  have HN4 : Hid (∀ j u, [i64 n, i64 c1, i64 c2, i64 c3][j]? = some u → (w3.alloc (.cells #[i64 n, i64 c1, i64 c2, i64 c3] 51)).cell? ((⟨w3.heap.size, 0, none⟩ : Addr).add j) = some u) := World.news_of_block (heap_at rfl _)
  have hz4 : (w3.alloc (.cells #[i64 n, i64 c1, i64 c2, i64 c3] 51)).heap.size = w3.heap.size + 1 := by simp
  have h34 : base ≤ w3.heap.size + 1 := Nat.le_trans hb (Nat.le_trans HF3.out.size (Nat.le_succ _))
  refine hK.out _ _ (fun _ => HS4.out) ?_
  clear hK K'
  generalize w3.alloc (.cells #[i64 n, i64 c1, i64 c2, i64 c3] 51) = W4 at *
  have hb6 : base ≤ W4.heap.size := by omega
  refine wpL_one 11 rfl (by kernel_rfl) (by rfl) (fun K' hK => ?_)
  refine wp_append_lies W4 (.tmp 10) (.tmp 16) 31 rfl base 51 i51 (.agg #[i64 0, i64 0, i64 0, i64 0]) 4 32 Tryd.underlying31 HI.out hz51 hs51 hby51 rfl (by omega) vc K.length (clC K) rfl HK4.out ⟨w3.heap.size, 0, none⟩ 1 1 [i64 n, i64 c1, i64 c2, i64 c3] rfl rfl HN4.out (fun u hu => by simp at hu; rcases hu with rfl | rfl | rfl | rfl <;> rfl) (by omega) (by unfold maxLen; omega) (by omega) hb6 _ rfl ?_
  intro g cap W5 hown hgrow hat hlt5
  have hne : ∀ k, k = q ∨ k = R ∨ k = w.heap.size ∨ k = w.heap.size + 1 → some k ≠ vc.ownBlock := fun k hk he => by
    have := HLT.out k he.symm
    omega
  have HS5 : Hid (SqC w.heap.size q R D n vc W5) := HS4.out.to fun k hk => hgrow.block k (by omega) (hne k hk)
  have hr5 : RunAt W5 R C M va vc := ⟨(hgrow.block R (by omega) (hne R (by simp))).trans HR4.out.row, HR4.out.rg, HR4.out.mem⟩
  have hf5 : Fr base R W4 W5 := ⟨hgrow.os, hgrow.tape, hgrow.output, hgrow.size, fun k hk _ => hgrow.block k (by omega) (fun he => by have := HLT.out k he.symm; omega)⟩
  rw [← clC_app K ⟨n, c1, c2, c3⟩] at hown
  have HA5 := hid (HA4.out.fr hf5)
  have HF5 := hid ((Fr.of_below (R := R) (HF4.out.mono hb)).trans hf5)
  have hs5 : W4.heap.size ≤ W5.heap.size := hgrow.size
  have HP5 : Hid (FrO vc.ownBlock R w W5) := fun k hk _ hn => (hgrow.block k (by have := HF4.out.size; omega) hn).trans (HF4.out.block k hk)
  have HR5 := hid hr5
  have HO5 := hid hown
  have HX5 := hid (hr5.free 266)
  have HC5 := hid hr5.ans.2
  clear hne hr5 hf5 hown hgrow hat
  refine hK.out _ _ (fun _ => HS5.out) ?_
  clear hK K'
  refine wpL_one 12 rfl (by kernel_rfl) (by rfl) (fun K' hK => ?_)
  go_simp
  refine hK.out _ _ (fun _ => HS5.out) ?_
  clear hK K'
  refine wpL_one 13 rfl (by kernel_rfl) (by rfl) (fun K' hK => ?_)
  go_simp
  refine hK.out _ _ (fun _ => HS5.out) ?_
  clear hK K'
  refine wpL_one 14 rfl (by kernel_rfl) (by rfl) (fun K' hK => ?_)
  have hc5 := HC5.out
  have hx5 := HX5.out
  go_simp
  refine hK.out _ _ (fun h => absurd rfl h) ?_
  clear hK K' hc5 hx5
  refine wpL_done (by kernel_rfl) ?_
  refine NoPanic.normal ?_
  have HW6 := hid (HR5.out.setK (.slice (some ⟨g, 0, none⟩) (K.length + 1) cap))
  have HF6 := hid (HF5.out.setCell 266 (.slice (some ⟨g, 0, none⟩) (K.length + 1) cap))
  have HA6 := hid (HA5.out.fr ((Fr.refl base R W5).setCell 266 (.slice (some ⟨g, 0, none⟩) (K.length + 1) cap)))
  have HO6 := hid (ownsRow_setCell_below HO5.out (a := ⟨R, 266, none⟩) hRb (.slice (some ⟨g, 0, none⟩) (K.length + 1) cap))
  have HS6 : Hid (SqD w.heap.size q R D (W5.setCell ⟨R, 266, none⟩ (.slice (some ⟨g, 0, none⟩) (K.length + 1) cap))) := HS5.out.toD.to fun k hk => Below.heap_setCell _ _ _ _ (by show k ≠ R; omega)
  have hz6 : (W5.setCell ⟨R, 266, none⟩ (.slice (some ⟨g, 0, none⟩) (K.length + 1) cap)).heap.size = W5.heap.size := by simp [World.setCell]
  have HP6 : Hid (FrO vc.ownBlock R w (W5.setCell ⟨R, 266, none⟩ (.slice (some ⟨g, 0, none⟩) (K.length + 1) cap))) := fun k hk hne hn => (Below.heap_setCell _ _ _ _ hne).trans (HP5.out k hk hne hn)
  generalize W5.setCell ⟨R, 266, none⟩ (.slice (some ⟨g, 0, none⟩) (K.length + 1) cap) = W6 at *
  generalize (Value.slice (some ⟨g, 0, none⟩) (K.length + 1) cap) = vc6 at *
  clear HA5 HR5 HO5 HX5 HC5 HF5 HS5
  go_upto_region 2 with fail
  have HT : Hid (SqD w.heap.size q R D W6.drew) := ⟨HS6.out.s0, ⟨HS6.out.row.row⟩⟩
  refine wp_region_noPanic ?_
  refine wp_region_last (SqD w.heap.size q R D) 7 (by kernel_rfl) ?_
  refine wpL_take 0 20 (.pointer (some ⟨R, 0, none⟩)) [5, 6] rfl rfl (by kernel_rfl) (by decide) (by kernel_rfl) (by kernel_rfl) (by kernel_rfl) (fun _ _ _ h => h) HT.out (by rfl) (fun W hW => by obtain ⟨s0, sl⟩ := hW; go_simp) ?_
  simp only [Act.put, List.setIfInBounds_toArray, List.set_cons_zero, List.set_cons_succ]
  refine wpL_take 1 21 (cpV D) [4] rfl rfl (by kernel_rfl) (by decide) (by kernel_rfl) (by kernel_rfl) (by kernel_rfl) (fun _ _ _ h => h) HT.out (by rfl) (fun W hW => by exact exec_load 30 (.tmp 3) rfl rfl (run_loadVar_mid _ _ 0 30 _ _ hW.row.range Tryd.underlying30 rfl (cpC_info hD))) ?_
  simp only [Act.put, List.setIfInBounds_toArray, List.set_cons_zero, List.set_cons_succ]
  refine wpL_take 2 22 (.pointer (some ⟨R, 0, none⟩)) [3] rfl rfl (by kernel_rfl) (by decide) (by kernel_rfl) (by kernel_rfl) (by kernel_rfl) (fun _ _ _ h => h) HT.out (by rfl) (fun W hW => by obtain ⟨s0, sl⟩ := hW; go_simp) ?_
  simp only [Act.put, List.setIfInBounds_toArray, List.set_cons_zero, List.set_cons_succ]
  refine wpL_one 3 rfl (by kernel_rfl) (by rfl) (fun K' hK => ?_)
  go_simp
  refine (next_ok _ base R C M va vc6 A HW6.out.drew (HA6.out.fr ((Fr.refl base R W6).drew))).mono ?_
  rintro e w7 ⟨rfl, va7, h1, h2, h3⟩
  generalize A.headD 0 = y at *
  have HT7 : Hid (SqD w.heap.size q R D w7) := HT.out.to fun k hk => h3.block k (by have : W6.drew.heap.size = W6.heap.size := rfl; omega) (by omega)
  have HR7 := hid h1
  have HA7 := hid h2
  have HF7 := hid (HF6.out.drew.trans (h3.mono (by have : W6.drew.heap.size = W6.heap.size := rfl; omega)))
  have HO7 := hid (own_fr HO6.out.drew h3 hRb)
  have HP7 : Hid (FrO vc.ownBlock R w w7) := fun k hk hne hn => (h3.block k (by have : W6.drew.heap.size = W6.heap.size := rfl; omega) hne).trans (HP6.out k hk hne hn)
  have hz7 : W6.heap.size ≤ w7.heap.size := h3.size
  clear h1 h2 h3
  go_simp
  refine hK.out _ _ (fun _ => HT7.out) ?_
  clear hK K'
  refine wpL_one 4 rfl (by kernel_rfl) (by rfl) (fun K' hK => ?_)
  go_simp
  refine (answer_ok _ D hD _ x0 ex).mono ?_
  rintro e w8 ⟨rfl, h1⟩
  have HT8 : Hid (SqD w.heap.size q R D w8) := HT7.out.to fun k hk => h1.block k (by omega)
  have HR8 := hid (HR7.out.below h1)
  have HA8 := hid (HA7.out.fr (Fr.of_below (h1.mono (by omega))))
  have HF8 := hid (HF7.out.trans (Fr.of_below (h1.mono (by omega))))
  have HP8 : Hid (FrO vc.ownBlock R w w8) := fun k hk hne hn => (h1.block k (by omega)).trans (HP7.out k hk hne hn)
  have HO8 := hid (own_fr HO7.out (Fr.of_below h1) hRb)
  clear h1
  go_simp
  refine hK.out _ _ (fun _ => HT8.out) ?_
  clear hK K'
  refine wpL_one 5 rfl (by kernel_rfl) (by rfl) (fun K' hK => ?_)
  go_simp
  refine hK.out _ _ (fun _ => HT8.out) ?_
  clear hK K'
  refine wpL_one 6 rfl (by kernel_rfl) (by rfl) (fun K' hK => ?_)
  go_simp
  refine hK.out _ _ (fun _ => HT8.out) ?_
  clear hK K'
  have HTH := hid (there9 HR8.out.there hD2)
  refine wpL_one 7 rfl (by kernel_rfl) (by rfl) (fun K' hK => ?_)
  refine wp_store_mid 30 (.tmp 26) (.tmp 24) rfl R 0 (cpC (D.set 0 x0)).toArray rfl rfl (by exact HTH.out) (cpC_infoA hD2) (cpC_one _) ?_
  refine hK.out _ _ (fun h => absurd rfl h) ?_
  clear hK K'
  refine wpL_done (by kernel_rfl) ?_
  refine NoPanic.normal ?_
  have HS9 : Hid (Fr w8.heap.size R w8 (w8.setCells R 0 (cpC (D.set 0 x0)))) := Fr.setCells _ 0 _ (Fr.refl _ _ _)
  go_wp2_with fail
  go_ret
  exact ⟨rfl, va7, vc6, HR8.out.cpu hD2, HA8.out.fr (Fr.setCells _ 0 _ (Fr.refl _ _ _)), own_fr HO8.out HS9.out hRb, Fr.setCells _ 0 _ HF8.out, fun k hk hne hn => (heap_sc_ne _ _ hne _ _ _).trans (HP8.out k hk hne hn)⟩
end Go.Proofs.YtigbfdloodfdgaaDoor
