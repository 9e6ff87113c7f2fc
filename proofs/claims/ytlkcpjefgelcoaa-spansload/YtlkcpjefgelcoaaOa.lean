/- All, Has, isArea, lay; no statement is proved in this text. -/
import Derived.Test.YtlkcpjefgelcoaaTh
namespace Go.Proofs.Ytlkcpjefgelcoaa
open Go.ChangeShapes Go.WideShapes Go.ChangeAt Go.RowKit Go.Deep
attribute [local go_sem ↓] Go.wp_at_zero Go.wp_at_succ

theorem of_mk2 (w : World) (p : Int) : Calls Try.prog 47 #[i64 p] w fun e w' => ∃ c, e = .returned (fn1 63 (pq c)) ∧ w'.cell? ⟨c, 0, none⟩ = some (i64 p) ∧ Below w.heap.size w w' := (of_mk w p).mono (by
  rintro e w1 ⟨rfl, rfl⟩
  exact ⟨_, rfl, blk_cell (heap_last w _) 0, below_one w _⟩)
theorem pair_new (w : World) (p g : Int) : ((w.alloc (iO p)).alloc (iO g)).cell? ⟨w.heap.size, 0, none⟩ = some (i64 p) ∧ ((w.alloc (iO p)).alloc (iO g)).cell? ⟨w.heap.size + 1, 0, none⟩ = some (i64 g) ∧ Below w.heap.size w ((w.alloc (iO p)).alloc (iO g)) := by
  refine ⟨cell_keep (blk_cell (heap_last w _) 0) _, ?_, (below_one w _).alloc (by simp) _⟩
  have := blk_cell (heap_last (w.alloc (iO p)) (iO g)) 0
  rw [show (w.alloc (iO p)).heap.size = w.heap.size + 1 by simp] at this
  exact this
theorem from_mk2 (w : World) (p g : Int) : Calls Try.prog 45 #[i64 p, i64 g] w fun e w' => ∃ c d, e = .returned (fn2 62 (pq c) (pq d)) ∧ w'.cell? ⟨c, 0, none⟩ = some (i64 p) ∧ w'.cell? ⟨d, 0, none⟩ = some (i64 g) ∧ Below w.heap.size w w' := (from_mk w p g).mono (by
  rintro e w1 ⟨rfl, rfl⟩
  exact ⟨_, _, rfl, pair_new w p g⟩)
theorem with_mk2 (w : World) (p g : Int) : Calls Try.prog 48 #[i64 p, i64 g] w fun e w' => ∃ c d, e = .returned (fn2 64 (pq c) (pq d)) ∧ w'.cell? ⟨c, 0, none⟩ = some (i64 p) ∧ w'.cell? ⟨d, 0, none⟩ = some (i64 g) ∧ Below w.heap.size w w' := (with_mk w p g).mono (by
  rintro e w1 ⟨rfl, rfl⟩
  exact ⟨_, _, rfl, pair_new w p g⟩)
theorem meet_mk2 (w : World) (a : Ar) : Calls Try.prog 60 #[av a] w fun e w' => ∃ c, e = .returned (fn1 68 (pq c)) ∧ w'.heap[c]? = some (arO a 79) ∧ Below w.heap.size w w' := (meet_mk w a).mono (by
  rintro e w1 ⟨rfl, rfl⟩
  exact ⟨_, rfl, heap_last w _, below_one w _⟩)
theorem gt_len {L : List Ar} {f : Ar → Bool} {n : Nat} (hn : n = (L.filter f).length) : decide (0 < n) = L.any f := by
  rw [← any_len, hn]
set_option maxRecDepth 100000 in
set_option maxHeartbeats 3200000 in
theorem all_ok (w : World) (base : Nat) (pv : Value) (L : List Ar) (h : Lv w base pv L) (hl : L.length ≤ 1000) : Calls Try.prog 27 #[pv] w fun e w' => Got w w' e L ∧ Below w.heap.size w w' := by
  have HC := hid (those27 w base pv L h hl (fun _ => true) (fun W a _ _ => all_cl W a))
  have e : L.filter (fun _ => true) = L := List.filter_eq_self.2 (fun _ _ => rfl)
  rw [e] at HC
  clear e
  go_enter Try.func27, Try.ntmps27
  go_wp2_with fail
  refine HC.out.mono ?_
  rintro e w1 ⟨⟨ao, cap, rfl, ho⟩, hb⟩
  have HG : Hid (Got w w1 (.returned (.slice ao L.length cap)) L) := ⟨ao, cap, rfl, ho⟩
  have HB := hid hb
  clear ho hb HC
  generalize L.length = n at *
  go_wp2_with fail
  go_ret
  exact ⟨HG.out, HB.out⟩
set_option maxRecDepth 100000 in
set_option maxHeartbeats 3200000 in
theorem has_ok (w : World) (base : Nat) (pv : Value) (L : List Ar) (p g : Int) (h : Lv w base pv L) (hl : L.length ≤ 1000) (hA : ∀ a ∈ L, isA a = true) : Calls Try.prog 26 #[pv, i64 p, i64 g] w fun e w' => e = .returned (.bool (hasL L p g)) ∧ Below w.heap.size w w' := by
  have HLv := hid h
  have HAA := hid hA
  have HB0 : Hid (Below w.heap.size w w) := Below.refl _ _
  clear h hA
  go_enter Try.func26, Try.ntmps26
  go_wp2_with fail
  refine (with_mk2 _ p g).mono ?_
  rintro e w1 ⟨c, cd, rfl, hcc, hdc, hbw1⟩
  have HBw1 : Hid (Below w.heap.size w w1) := HB0.out.trans (hbw1.mono HB0.out.size)
  have HCw1 := hid (those37 w1 base (pv) L (HLv.out.below HBw1.out) hl c cd (withF p g) (fun W z ha hW => with_cl W z c cd p g ((hW.cell (World.block_lt_of_cell? _ _ hcc)).trans hcc) ((hW.cell (World.block_lt_of_cell? _ _ hdc)).trans hdc) (HAA.out z ha)))
  clear hbw1 hcc hdc
  go_wp2_with fail
  refine HCw1.out.mono ?_
  rintro e w2 ⟨⟨aow2, capw2, rfl, hownw2⟩, hbw2⟩
  have HBw2 : Hid (Below w.heap.size w w2) := HBw1.out.trans (hbw2.mono HBw1.out.size)
  have HOw2 := hid hownw2
  obtain ⟨n, hnn⟩ : ∃ n, n = (L.filter (withF p g)).length := ⟨_, rfl⟩
  have HNn := hid hnn
  rw [← hnn] at HOw2 ⊢
  clear hbw2 hownw2 HCw1 hnn
  have HE : Hid (decide (0 < n) = hasL L p g) := gt_len HNn.out
  go_wp2_with fail
  go_ret
  exact ⟨by rw [← HE.out]; rfl, HBw2.out⟩
structure SqL (P X : Nat) (T U : TypeId) (v : Value) (a : Ar) (W : World) : Prop where
  blk : W.heap[P]? = some (.cells #[v] T)
  box : W.heap[X]? = some (arO a U)
theorem heap_set1 {V : World} {b : Nat} {x : Value} {t : TypeId} (h : V.heap[b]? = some (.cells #[x] t)) (s : Value) : (V.setCell ⟨b, 0, none⟩ s).heap[b]? = some (.cells #[s] t) := by
  have h1 := heap_setCell_same V b 0 _ t s h
  simpa using h1
/-- What an area more has changed. -/
def Laid (w w' : World) (base P : Nat) (v : Value) (L : List Ar) : Prop := ∃ v', Lw w' base P v' L ∧ (v'.ownBlock = v.ownBlock ∨ ∃ g, v'.ownBlock = some g ∧ w.heap.size ≤ g) ∧ Fr base [75, 79] w w' ∧ ∀ k, k < w.heap.size → k ≠ P → some k ≠ v.ownBlock → w'.heap[k]? = w.heap[k]?
set_option maxRecDepth 100000 in
set_option maxHeartbeats 3200000 in
theorem lay_no (w : World) (base P : Nat) (v : Value) (L : List Ar) (a : Ar) (h : Lw w base P v L) (hg : Good L) (ha : isA a = true) (hb : layB L a = false) : Calls Try.prog 41 #[pq P, av a] w fun e w' => e = .returned (.bool false) ∧ Below w.heap.size w w' := by
  obtain ⟨hlo, hbk, hown⟩ := id h
  have HLv : Hid (Lv w base (pq P) L) := .inr ⟨P, rfl, v, h⟩
  have hl : L.length ≤ 1000 := Nat.le_trans hg.len (by omega)
  have HAA : Hid (∀ x ∈ L, isA x = true) := hg.isA
  have HiA : Hid (isA a = true) := ha
  have HB0 : Hid (Below w.heap.size w (w.alloc (arO a 79))) := below_one w _
  have HX := hid (heap_last w (arO a 79))
  have hc4 : cntL L a.1 ≤ 4 := hg.cnt a.1
  clear h hbk hown hg
  by_cases hc : cntL L a.1 = 4
  · have HC4 := hid hc
    clear hc hb hc4 ha
    go_enter Try.func41, Try.ntmps41
    go_wp2_with fail
    refine (of_mk2 _ a.1).mono ?_
    rintro e w1 ⟨c, rfl, hcc, hbw1⟩
    have HBw1 : Hid (Below w.heap.size w w1) := HB0.out.trans (hbw1.mono HB0.out.size)
    have HCw1 := hid (those42 w1 base (pq P) L (HLv.out.below HBw1.out) hl c (ofF a.1) (fun W z ha hW => of_cl W z c a.1 ((hW.cell (World.block_lt_of_cell? _ _ hcc)).trans hcc)))
    clear hbw1 hcc
    go_wp2_with fail
    refine HCw1.out.mono ?_
    rintro e w2 ⟨⟨aow2, capw2, rfl, hownw2⟩, hbw2⟩
    have HBw2 : Hid (Below w.heap.size w w2) := HBw1.out.trans (hbw2.mono HBw1.out.size)
    have HOw2 := hid hownw2
    obtain ⟨n, hnn⟩ : ∃ n, n = (L.filter (ofF a.1)).length := ⟨_, rfl⟩
    have HNn := hid hnn
    rw [← hnn] at HOw2 ⊢
    clear hbw2 hownw2 HCw1 hnn
    obtain rfl : n = 4 := HNn.out.trans HC4.out
    go_wp2_with fail
    go_ret
    exact ⟨rfl, HBw2.out⟩
  · have HC4 : Hid (cntL L a.1 < 4) := by show cntL L a.1 < 4; omega
    have HM : Hid (L.any (meetF a) = true) := by
      have h1 : cntL L a.1 < 4 := HC4.out
      cases hm : L.any (meetF a)
      · simp [layB, h1, hm] at hb
      · rfl
    clear hc hb hc4 ha
    go_enter Try.func41, Try.ntmps41
    go_wp2_with fail
    refine (of_mk2 _ a.1).mono ?_
    rintro e w1 ⟨c, rfl, hcc, hbw1⟩
    have HX1 := hid (blk_below HX.out hbw1)
    have HBw1 : Hid (Below w.heap.size w w1) := HB0.out.trans (hbw1.mono HB0.out.size)
    have HCw1 := hid (those42 w1 base (pq P) L (HLv.out.below HBw1.out) hl c (ofF a.1) (fun W z ha hW => of_cl W z c a.1 ((hW.cell (World.block_lt_of_cell? _ _ hcc)).trans hcc)))
    clear hbw1 hcc
    go_wp2_with fail
    refine HCw1.out.mono ?_
    rintro e w2 ⟨⟨aow2, capw2, rfl, hownw2⟩, hbw2⟩
    have HX2 := hid (blk_below HX1.out hbw2)
    have HBw2 : Hid (Below w.heap.size w w2) := HBw1.out.trans (hbw2.mono HBw1.out.size)
    have HOw2 := hid hownw2
    obtain ⟨n, hnn⟩ : ∃ n, n = (L.filter (ofF a.1)).length := ⟨_, rfl⟩
    have HNn := hid hnn
    rw [← hnn] at HOw2 ⊢
    clear hbw2 hownw2 HCw1 hnn
    have hn4 : n < 4 := by rw [HNn.out]; exact HC4.out
    have hq4 : ((n : Int) == 4) = false := beq_false_of_ne (by omega)
    obtain ⟨y0, y1, y2⟩ := three_cells HX2.out
    have hx2 : w.heap.size < w2.heap.size := blk_lt HX2.out
    go_wp2_with fail
    refine (meet_mk2 _ a).mono ?_
    rintro e w3 ⟨d, rfl, hcd, hbw3⟩
    have HBw3 : Hid (Below w.heap.size w w3) := HBw2.out.trans (hbw3.mono HBw2.out.size)
    have HCw3 := hid (those43 w3 base (pq P) L (HLv.out.below HBw3.out) hl d (meetF a) (fun W z ha hW => meet_cl W z a d (blk_below hcd hW) (HAA.out z ha) HiA.out))
    clear hbw3 hcd
    go_wp2_with fail
    refine HCw3.out.mono ?_
    rintro e w4 ⟨⟨aow4, capw4, rfl, hownw4⟩, hbw4⟩
    have HBw4 : Hid (Below w.heap.size w w4) := HBw3.out.trans (hbw4.mono HBw3.out.size)
    have HOw4 := hid hownw4
    obtain ⟨m, hnm⟩ : ∃ m, m = (L.filter (meetF a)).length := ⟨_, rfl⟩
    have HNm := hid hnm
    rw [← hnm] at HOw4 ⊢
    clear hbw4 hownw4 HCw3 hnm
    have hm : decide (0 < m) = true := (gt_len HNm.out).trans HM.out
    have hm0 : 0 < m := of_decide_eq_true hm
    clear hm
    go_wp2_with fail
    go_ret
    exact ⟨rfl, HBw4.out⟩
set_option maxRecDepth 100000 in
set_option maxHeartbeats 3200000 in
theorem lay_yes (w : World) (base P : Nat) (v : Value) (L : List Ar) (a : Ar) (h : Lw w base P v L) (hg : Good L) (ha : isA a = true) (hb : layB L a = true) : Calls Try.prog 41 #[pq P, av a] w fun e w' => e = .returned (.bool true) ∧ Laid w w' base P v (L ++ [a]) := by
  obtain ⟨hlo, hbk, hown⟩ := id h
  have HLv : Hid (Lv w base (pq P) L) := .inr ⟨P, rfl, v, h⟩
  have hl : L.length ≤ 1000 := Nat.le_trans hg.len (by omega)
  have HAA : Hid (∀ x ∈ L, isA x = true) := hg.isA
  have HiA : Hid (isA a = true) := ha
  have HB0 : Hid (Below w.heap.size w (w.alloc (arO a 79))) := below_one w _
  have HX := hid (heap_last w (arO a 79))
  have hc4 : cntL L a.1 ≤ 4 := hg.cnt a.1
  obtain ⟨ao, cap, rfl, _⟩ := own_slice hown
  have HL := hid h
  have hbw : base ≤ w.heap.size := Nat.le_of_lt (Nat.lt_of_le_of_lt hlo (blk_lt hbk))
  have HC4 : Hid (cntL L a.1 < 4) := (layB_iff.1 hb).1
  have HM : Hid (L.any (meetF a) = false) := by
    cases hm : L.any (meetF a)
    · rfl
    · simp [layB, hm] at hb
  clear h hbk hown hg hb hc4 ha
  go_enter Try.func41, Try.ntmps41
  go_wp2_with fail
  refine (of_mk2 _ a.1).mono ?_
  rintro e w1 ⟨c, rfl, hcc, hbw1⟩
  have HX1 := hid (blk_below HX.out hbw1)
  have HBw1 : Hid (Below w.heap.size w w1) := HB0.out.trans (hbw1.mono HB0.out.size)
  have HCw1 := hid (those42 w1 base (pq P) L (HLv.out.below HBw1.out) hl c (ofF a.1) (fun W z ha hW => of_cl W z c a.1 ((hW.cell (World.block_lt_of_cell? _ _ hcc)).trans hcc)))
  clear hbw1 hcc
  go_wp2_with fail
  refine HCw1.out.mono ?_
  rintro e w2 ⟨⟨aow2, capw2, rfl, hownw2⟩, hbw2⟩
  have HX2 := hid (blk_below HX1.out hbw2)
  have HBw2 : Hid (Below w.heap.size w w2) := HBw1.out.trans (hbw2.mono HBw1.out.size)
  have HOw2 := hid hownw2
  obtain ⟨n, hnn⟩ : ∃ n, n = (L.filter (ofF a.1)).length := ⟨_, rfl⟩
  have HNn := hid hnn
  rw [← hnn] at HOw2 ⊢
  clear hbw2 hownw2 HCw1 hnn
  have hn4 : n < 4 := by rw [HNn.out]; exact HC4.out
  have hq4 : ((n : Int) == 4) = false := beq_false_of_ne (by omega)
  obtain ⟨y0, y1, y2⟩ := three_cells HX2.out
  have hx2 : w.heap.size < w2.heap.size := blk_lt HX2.out
  go_wp2_with fail
  refine (meet_mk2 _ a).mono ?_
  rintro e w3 ⟨d, rfl, hcd, hbw3⟩
  have HX3 := hid (blk_below HX2.out hbw3)
  have HBw3 : Hid (Below w.heap.size w w3) := HBw2.out.trans (hbw3.mono HBw2.out.size)
  have HCw3 := hid (those43 w3 base (pq P) L (HLv.out.below HBw3.out) hl d (meetF a) (fun W z ha hW => meet_cl W z a d (blk_below hcd hW) (HAA.out z ha) HiA.out))
  clear hbw3 hcd
  go_wp2_with fail
  refine HCw3.out.mono ?_
  rintro e w4 ⟨⟨aow4, capw4, rfl, hownw4⟩, hbw4⟩
  have HX4 := hid (blk_below HX3.out hbw4)
  have HBw4 : Hid (Below w.heap.size w w4) := HBw3.out.trans (hbw4.mono HBw3.out.size)
  have HOw4 := hid hownw4
  obtain ⟨m, hnm⟩ : ∃ m, m = (L.filter (meetF a)).length := ⟨_, rfl⟩
  have HNm := hid hnm
  rw [← hnm] at HOw4 ⊢
  clear hbw4 hownw4 HCw3 hnm
  have hm : decide (0 < m) = false := (gt_len HNm.out).trans HM.out
  have hm0 : m = 0 := by have := of_decide_eq_false hm; omega
  clear hm y0 y1 y2 hx2
  subst hm0
  have HL4 := hid (HL.out.below HBw4.out)
  have HP4 : Hid (w4.heap[P]? = some (.cells #[.slice ao L.length cap] 75)) := HL4.out.2.1
  obtain ⟨ao6, cap6, w6, hrun, hown6, hfr6, hfar6, hob6⟩ := app_far (te := 79) under35 info42x rfl (by omega) (by omega) (V := w4.drew) (own_keep HL4.out.2.2 (fun _ _ h => h)) (aC a) rfl (aC_one _) (by omega) (Nat.le_trans hbw HBw4.out.size)
  have HX6 : Hid (w6.heap[w.heap.size]? = some (arO a 79)) := (hfar6 w.heap.size (blk_lt HX4.out) (fun e => by have := (HL.out.2.2.lt _ e.symm).2; omega)).trans HX4.out
  have HP6 : Hid (w6.heap[P]? = some (.cells #[.slice ao L.length cap] 75)) := hfr6.kept _ _ HP4.out (by rfl)
  have HRUN := hid hrun
  have HOWN := hid hown6
  have HFR := hid hfr6
  have HFAR := hid hfar6
  have HOB := hid hob6
  have HS : Hid (SqL P w.heap.size 75 79 (.slice ao L.length cap) a w4.drew) := ⟨HP4.out, HX4.out⟩
  clear hrun hown6 hfr6 hfar6 hob6
  obtain ⟨N, hN⟩ : ∃ N, N = L.length := ⟨_, rfl⟩
  have HN := hid hN
  rw [← hN] at HS HRUN HP6 HOWN HOB HP4 hl
  clear hN
  go_upto_region 3 with fail
  refine wp_region_noPanic ?_
  refine wp_region_last (SqL P w.heap.size 75 79 (.slice ao N cap) a) 10 (by kernel_rfl) ?_
  refine wpL_take 0 20 (pq P) [] rfl rfl (by kernel_rfl) (by decide) (by kernel_rfl) (by kernel_rfl) (by kernel_rfl) (fun _ _ _ h => h) HS.out (by rfl) (fun W hW => by have s0 := blk_cell hW.1 0; obtain ⟨x0, x1, x2⟩ := three_cells hW.2; simp only [List.getElem?_toArray, List.getElem?_cons_zero] at s0; go_simp) ?_
  simp only [Act.put, List.setIfInBounds_toArray, List.set_cons_zero, List.set_cons_succ]
  refine wpL_take 1 21 (pq P) [] rfl rfl (by kernel_rfl) (by decide) (by kernel_rfl) (by kernel_rfl) (by kernel_rfl) (fun _ _ _ h => h) HS.out (by rfl) (fun W hW => by have s0 := blk_cell hW.1 0; obtain ⟨x0, x1, x2⟩ := three_cells hW.2; simp only [List.getElem?_toArray, List.getElem?_cons_zero] at s0; go_simp) ?_
  simp only [Act.put, List.setIfInBounds_toArray, List.set_cons_zero, List.set_cons_succ]
  refine wpL_take 2 22 (pq P) [] rfl rfl (by kernel_rfl) (by decide) (by kernel_rfl) (by kernel_rfl) (by kernel_rfl) (fun _ _ _ h => h) HS.out (by rfl) (fun W hW => by have s0 := blk_cell hW.1 0; obtain ⟨x0, x1, x2⟩ := three_cells hW.2; simp only [List.getElem?_toArray, List.getElem?_cons_zero] at s0; go_simp) ?_
  simp only [Act.put, List.setIfInBounds_toArray, List.set_cons_zero, List.set_cons_succ]
  refine wpL_take 3 23 (pq P) [] rfl rfl (by kernel_rfl) (by decide) (by kernel_rfl) (by kernel_rfl) (by kernel_rfl) (fun _ _ _ h => h) HS.out (by rfl) (fun W hW => by have s0 := blk_cell hW.1 0; obtain ⟨x0, x1, x2⟩ := three_cells hW.2; simp only [List.getElem?_toArray, List.getElem?_cons_zero] at s0; go_simp) ?_
  simp only [Act.put, List.setIfInBounds_toArray, List.set_cons_zero, List.set_cons_succ]
  refine wpL_take 4 24 (.slice ao N cap) [] rfl rfl (by kernel_rfl) (by decide) (by kernel_rfl) (by kernel_rfl) (by kernel_rfl) (fun _ _ _ h => h) HS.out (by rfl) (fun W hW => by have s0 := blk_cell hW.1 0; obtain ⟨x0, x1, x2⟩ := three_cells hW.2; simp only [List.getElem?_toArray, List.getElem?_cons_zero] at s0; go_simp) ?_
  simp only [Act.put, List.setIfInBounds_toArray, List.set_cons_zero, List.set_cons_succ]
  refine wpL_take 5 25 (av a) [] rfl rfl (by kernel_rfl) (by decide) (by kernel_rfl) (by kernel_rfl) (by kernel_rfl) (fun _ _ _ h => h) HS.out (by rfl) (fun W hW => by have s0 := blk_cell hW.1 0; obtain ⟨x0, x1, x2⟩ := three_cells hW.2; simp only [List.getElem?_toArray, List.getElem?_cons_zero] at s0; go_simp) ?_
  simp only [Act.put, List.setIfInBounds_toArray, List.set_cons_zero, List.set_cons_succ]
  refine wpL_one 6 rfl (by kernel_rfl) (by rfl) (fun K hK => ?_)
  go_simp
  refine hK.out _ _ (fun _ => ⟨blk_alloc (w := w4.drew) HP4.out _, blk_alloc (w := w4.drew) HX4.out _⟩) ?_
  clear hK K
  refine wpL_one 7 rfl (by kernel_rfl) (by rfl) (fun K hK => ?_)
  refine wp_app_run (.tmp 24) (.tmp 26) 48 rfl _ _ rfl rfl 48 rfl _ _ HRUN.out ?_
  refine hK.out _ _ (fun _ => ⟨HP6.out, HX6.out⟩) ?_
  clear hK K
  refine wpL_one 8 rfl (by kernel_rfl) (by rfl) (fun K hK => ?_)
  go_simp
  refine hK.out _ _ (fun _ => ⟨HP6.out, HX6.out⟩) ?_
  clear hK K
  refine wpL_one 9 rfl (by kernel_rfl) (by rfl) (fun K hK => ?_)
  go_simp
  refine hK.out _ _ (fun _ => ⟨HP6.out, HX6.out⟩) ?_
  clear hK K
  refine wpL_one 10 rfl (by kernel_rfl) (by rfl) (fun K hK => ?_)
  have r0 : w6.cell? ⟨P, 0, none⟩ = some (.slice ao N cap) := blk_cell HP6.out 0
  have rf : w6.frozen? ⟨P, 0, none⟩ = false := blk_frozen HP6.out 0
  go_simp
  refine hK.out _ _ (fun h => absurd rfl h) ?_
  clear hK K r0 rf
  refine wpL_done (by kernel_rfl) ?_
  refine NoPanic.normal ?_
  have HPf : Hid ((w6.setCell ⟨P, 0, none⟩ (.slice ao6 (N + 1) cap6)).heap[P]? = some (.cells #[.slice ao6 (N + 1) cap6] 75)) := heap_set1 HP6.out _
  have HLf : Hid (Laid w (w6.setCell ⟨P, 0, none⟩ (.slice ao6 (N + 1) cap6)) base P (.slice ao L.length cap) (L ++ [a])) := by
    have hPw : P < w.heap.size := HL.out.lt
    refine ⟨_, ⟨hlo, HPf.out, ?_⟩, ?_, ?_, fun k hk hkP hko => ?_⟩
    · rw [List.length_append, acn_app, acn_one, ← HN.out]
      exact own_keep HOWN.out (fun q C hC => by rw [Below.heap_setCell _ _ _ _ (fun e => by have hC' := hC; rw [show q = P from e, HP6.out] at hC'; simp at hC')]; exact hC)
    · rcases HOB.out with h | h
      · left
        rw [h, HN.out]
      · right
        exact ⟨_, h, by have := HBw4.out.size; show w.heap.size ≤ w4.heap.size + 1; omega⟩
    · refine (Fr.of_below _ HBw4.out hbw).trans (Fr.trans ?_ (Fr.of_touch ((Touch.refl P w6).setCell rfl _) HP6.out (by rfl) hlo))
      exact (show Fr base [79] w4 w6 from ⟨⟨HFR.out.below.os, HFR.out.below.tape, HFR.out.below.output, HFR.out.below.size, HFR.out.below.block⟩, HFR.out.kept⟩).mono (fun o ho => by
        cases o with
        | cells C t fr => simp only [keeps, Bool.not_eq_true', List.contains_eq_mem, decide_eq_false_iff_not, List.mem_cons, List.not_mem_nil, or_false, not_or] at ho ⊢; exact ho.2
        | map es c => simp only [keeps]; rfl
        | _ => rfl)
    · rw [Below.heap_setCell _ _ _ _ (fun e => hkP e)]
      have := HBw4.out.size
      exact (HFAR.out k (show k < w4.heap.size by omega) hko).trans (HBw4.out.block k hk)
  generalize w6.setCell ⟨P, 0, none⟩ (.slice ao6 (N + 1) cap6) = U7 at *
  rw [HN.out]
  go_wp2_with fail
  go_ret
  exact ⟨rfl, HLf.out⟩
end Go.Proofs.Ytlkcpjefgelcoaa
