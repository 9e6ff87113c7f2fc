/- The document: list, Map, Protect; no statement is proved in this text. -/
import Derived.Test.YtlkcpjefgelcoaaRa
namespace Go.Proofs.Ytlkcpjefgelcoaa
open Go.ChangeShapes Go.WideShapes Go.ChangeAt Go.RowKit Go.Deep
attribute [local go_sem ↓] Go.wp_at_zero Go.wp_at_succ

theorem set_rt {V : World} {base r : Nat} {x : Value} {ao : Option Addr} {cap : Nat} {M : List Sp} {n : Nat} (hlo : base ≤ r) (h : V.heap[r]? = some (.cells #[x] 29)) (hn : n = M.length) (ho : V.ownsRow base 58 4 (.slice ao n cap) n (scn M)) : Rt (V.setCell ⟨r, 0, none⟩ (.slice ao n cap)) base r M := by
  subst hn
  have h1 := heap_setCell_same V r 0 _ 29 (.slice ao M.length cap) h
  refine ⟨hlo, ao, cap, by simpa using h1, own_keep1 ho fun k hk => ?_⟩
  refine Below.heap_setCell _ _ _ _ fun e => ?_
  have e : k = r := e
  rcases ho.2 with ⟨hn, _⟩ | ⟨g, cap', cur, he, _, hg, _⟩
  · rw [hn] at hk; simp [Value.ownBlock] at hk
  · rw [he] at hk
    simp [Value.ownBlock] at hk
    subst hk
    rw [e, h] at hg
    cases hg
theorem set_frt {V : World} {base r : Nat} {x : Value} (hlo : base ≤ r) (h : V.heap[r]? = some (.cells #[x] 29)) (v : Value) : Fr base [29, 58] V (V.setCell ⟨r, 0, none⟩ v) := Fr.of_touch ((Touch.refl r V).setCell rfl v) h rfl hlo
theorem fr_58 {base : Nat} {w w' : World} (h : Fr base [58] w w') : Fr base [29, 58] w w' := h.mono fun o ho => by
  cases o <;> simp_all [keeps]
theorem aC_ar (s : Sp) : aC (ar s) = [i64 s.1, i64 s.2.1, i64 s.2.2.1] := rfl
set_option maxRecDepth 100000 in
set_option maxHeartbeats 400000 in
theorem rlist_ok {w : World} {base r : Nat} {L : List Sp} (h : Rt w base r L) (hl : L.length ≤ 1000) : Calls Try.prog 53 #[pq r] w fun e w' => e = .returned (pq w.heap.size) ∧ Rb w' w.heap.size w.heap.size (L.map ar) ∧ Below w.heap.size w w' := by
  obtain ⟨hlo, ao, cap, hbk, hown⟩ := h
  have hcap := own_cap4 hown
  have HRd : Hid (Rd4 w ao L) := Rd4.own hown
  have d0 : w.cell? ⟨r, 0, none⟩ = some (.slice ao L.length cap) := blk_cell hbk 0
  have hrl := blk_lt hbk
  obtain ⟨N, hN⟩ : ∃ N, N = L.length := ⟨_, rfl⟩
  have HN : Hid (N = L.length) := hN
  rw [← hN] at d0 hl hcap
  have hz : ∀ W, (zeroValue 91).run Try.prog W = .ok (.agg #[.slice none 0 0]) W := fun W => by kernel_rfl
  have HR0 : Hid (Rb (w.alloc (.cells #[.slice none 0 0] 91)) w.heap.size w.heap.size []) := rb_new w w.heap.size (Nat.le_refl _)
  have HB0 := hid (below_one w (.cells #[.slice none 0 0] 91))
  clear hbk hown hN
  go_enter Try.func53, Try.ntmps53
  go_wp2_with fail
  clear hz
  go_loopw [13] (fun i wr => ∃ k : Nat, k ≤ N ∧ i = i64 k ∧ Hid (Rb wr w.heap.size w.heap.size ((L.take k).map ar)) ∧ Hid (Below w.heap.size w wr)) (fun i _ => N - (intOf i).toNat)
  case atStart => exact ⟨0, by omega, rfl, HR0.out, HB0.out⟩
  case round =>
    obtain ⟨k, hk, rfl, HR, HB⟩ := hrel
    by_cases hlt : k < N
    · have hkI : (k : Int) < N := by omega
      have hkL : k < L.length := by rw [← HN.out]; exact hlt
      obtain ⟨s, hs⟩ : ∃ s, L[k]? = some s := ⟨_, List.getElem?_eq_getElem hkL⟩
      obtain ⟨g, o, rfl, hgl, c0, c1, c2, c3⟩ := HRd.out.below HB.out k s hs
      have htk : (L.take (k + 1)).map ar = (L.take k).map ar ++ [ar s] := by
        have := List.getElem?_eq_some_iff.1 hs
        rw [← this.2, ← List.take_append_getElem hkL, List.map_append]
        rfl
      obtain ⟨hqlo, ao2, cap2, hbk2, hown2⟩ := HR.out
      obtain ⟨n, hn⟩ : ∃ n, n = ((L.take k).map ar).length := ⟨_, rfl⟩
      have hnk : n ≤ 1000 := by rw [hn, List.length_map, List.length_take]; omega
      rw [← hn] at hbk2 hown2
      have hqw : w.heap.size ≤ wr.heap.size := Nat.le_of_lt HR.out.lt
      have HK := hid (blk_alloc hbk2 (sO s 58))
      have HX := hid (heap_last wr (sO s 58))
      obtain ⟨ao6, cap6, w6, hrun, hown6, hfr6, hfar6, hob6⟩ := app_far (te := 98) under27 info58x rfl (by omega) (by omega) (V := (wr.alloc (sO s 58)).drew) (own_keep (hown2.alloc (sO s 58)) (fun _ _ h => h)) (aC (ar s)) rfl (aC_one _) (by omega) (by show w.heap.size ≤ (wr.alloc (sO s 58)).heap.size; simp; omega)
      have HP6 : Hid (w6.heap[w.heap.size]? = some (.cells #[.slice ao2 n cap2] 91)) := hfr6.kept _ _ HK.out (by rfl)
      have HX6 : Hid (w6.heap[wr.heap.size]? = some (sO s 58)) := hfr6.kept _ _ HX.out (by rfl)
      have HRUN := hid hrun
      have HE : Hid (Rb (w6.setCell ⟨w.heap.size, 0, none⟩ (.slice ao6 (n + 1) cap6)) w.heap.size w.heap.size ((L.take (k + 1)).map ar)) := by
        rw [htk]
        exact set_rb (Nat.le_refl _) HP6.out (by rw [List.length_append, ← hn]; rfl) (by rw [acn_app, acn_one]; exact hown6)
      have HBE : Hid (Below w.heap.size w (w6.setCell ⟨w.heap.size, 0, none⟩ (.slice ao6 (n + 1) cap6))) := ((HB.out.alloc hqw _).drew.trans hfr6.below).setCell (by simp) _
      have HS : Hid ((fun W : World => W.heap[w.heap.size]? = some (.cells #[.slice ao2 n cap2] 91) ∧ W.heap[wr.heap.size]? = some (sO s 58)) (wr.alloc (sO s 58)).drew) := ⟨HK.out, HX.out⟩
      clear hs htk hbk2 hown2 hrun hown6 hfr6 hfar6 hob6 HR hn
      go_upto_region 5 with fail
      generalize wr.alloc (sO s 58) = V at *
      refine wp_region_noPanic ?_
      refine wp_region_last (fun W : World => W.heap[w.heap.size]? = some (.cells #[.slice ao2 n cap2] 91) ∧ W.heap[wr.heap.size]? = some (sO s 58)) 16 (by kernel_rfl) ?_
      refine wpL_take 0 17 (pq w.heap.size) [] rfl rfl (by kernel_rfl) (by decide) (by kernel_rfl) (by kernel_rfl) (by kernel_rfl) (fun _ _ _ h => h) HS.out (by rfl) (fun W hW => by have s0 := blk_cell hW.1 0; obtain ⟨x0, x1, x2, x3⟩ := four_cells hW.2; simp only [List.getElem?_toArray, List.getElem?_cons_zero] at s0; go_simp) ?_
      simp only [Act.put, List.setIfInBounds_toArray, List.set_cons_zero, List.set_cons_succ]
      refine wpL_take 1 18 (pq w.heap.size) [] rfl rfl (by kernel_rfl) (by decide) (by kernel_rfl) (by kernel_rfl) (by kernel_rfl) (fun _ _ _ h => h) HS.out (by rfl) (fun W hW => by have s0 := blk_cell hW.1 0; obtain ⟨x0, x1, x2, x3⟩ := four_cells hW.2; simp only [List.getElem?_toArray, List.getElem?_cons_zero] at s0; go_simp) ?_
      simp only [Act.put, List.setIfInBounds_toArray, List.set_cons_zero, List.set_cons_succ]
      refine wpL_take 2 19 (pq w.heap.size) [] rfl rfl (by kernel_rfl) (by decide) (by kernel_rfl) (by kernel_rfl) (by kernel_rfl) (fun _ _ _ h => h) HS.out (by rfl) (fun W hW => by have s0 := blk_cell hW.1 0; obtain ⟨x0, x1, x2, x3⟩ := four_cells hW.2; simp only [List.getElem?_toArray, List.getElem?_cons_zero] at s0; go_simp) ?_
      simp only [Act.put, List.setIfInBounds_toArray, List.set_cons_zero, List.set_cons_succ]
      refine wpL_take 3 20 (pq w.heap.size) [] rfl rfl (by kernel_rfl) (by decide) (by kernel_rfl) (by kernel_rfl) (by kernel_rfl) (fun _ _ _ h => h) HS.out (by rfl) (fun W hW => by have s0 := blk_cell hW.1 0; obtain ⟨x0, x1, x2, x3⟩ := four_cells hW.2; simp only [List.getElem?_toArray, List.getElem?_cons_zero] at s0; go_simp) ?_
      simp only [Act.put, List.setIfInBounds_toArray, List.set_cons_zero, List.set_cons_succ]
      refine wpL_take 4 21 (.slice ao2 n cap2) [] rfl rfl (by kernel_rfl) (by decide) (by kernel_rfl) (by kernel_rfl) (by kernel_rfl) (fun _ _ _ h => h) HS.out (by rfl) (fun W hW => by have s0 := blk_cell hW.1 0; obtain ⟨x0, x1, x2, x3⟩ := four_cells hW.2; simp only [List.getElem?_toArray, List.getElem?_cons_zero] at s0; go_simp) ?_
      simp only [Act.put, List.setIfInBounds_toArray, List.set_cons_zero, List.set_cons_succ]
      refine wpL_take 5 22 (.pointer (some ⟨wr.heap.size, 0, none⟩)) [] rfl rfl (by kernel_rfl) (by decide) (by kernel_rfl) (by kernel_rfl) (by kernel_rfl) (fun _ _ _ h => h) HS.out (by rfl) (fun W hW => by have s0 := blk_cell hW.1 0; obtain ⟨x0, x1, x2, x3⟩ := four_cells hW.2; simp only [List.getElem?_toArray, List.getElem?_cons_zero] at s0; go_simp) ?_
      simp only [Act.put, List.setIfInBounds_toArray, List.set_cons_zero, List.set_cons_succ]
      refine wpL_take 6 23 (i64 s.1) [] rfl rfl (by kernel_rfl) (by decide) (by kernel_rfl) (by kernel_rfl) (by kernel_rfl) (fun _ _ _ h => h) HS.out (by rfl) (fun W hW => by have s0 := blk_cell hW.1 0; obtain ⟨x0, x1, x2, x3⟩ := four_cells hW.2; simp only [List.getElem?_toArray, List.getElem?_cons_zero] at s0; go_simp) ?_
      simp only [Act.put, List.setIfInBounds_toArray, List.set_cons_zero, List.set_cons_succ]
      refine wpL_take 7 24 (.pointer (some ⟨wr.heap.size, 1, none⟩)) [] rfl rfl (by kernel_rfl) (by decide) (by kernel_rfl) (by kernel_rfl) (by kernel_rfl) (fun _ _ _ h => h) HS.out (by rfl) (fun W hW => by have s0 := blk_cell hW.1 0; obtain ⟨x0, x1, x2, x3⟩ := four_cells hW.2; simp only [List.getElem?_toArray, List.getElem?_cons_zero] at s0; go_simp) ?_
      simp only [Act.put, List.setIfInBounds_toArray, List.set_cons_zero, List.set_cons_succ]
      refine wpL_take 8 25 (i64 s.2.1) [] rfl rfl (by kernel_rfl) (by decide) (by kernel_rfl) (by kernel_rfl) (by kernel_rfl) (fun _ _ _ h => h) HS.out (by rfl) (fun W hW => by have s0 := blk_cell hW.1 0; obtain ⟨x0, x1, x2, x3⟩ := four_cells hW.2; simp only [List.getElem?_toArray, List.getElem?_cons_zero] at s0; go_simp) ?_
      simp only [Act.put, List.setIfInBounds_toArray, List.set_cons_zero, List.set_cons_succ]
      refine wpL_take 9 26 (.pointer (some ⟨wr.heap.size, 2, none⟩)) [] rfl rfl (by kernel_rfl) (by decide) (by kernel_rfl) (by kernel_rfl) (by kernel_rfl) (fun _ _ _ h => h) HS.out (by rfl) (fun W hW => by have s0 := blk_cell hW.1 0; obtain ⟨x0, x1, x2, x3⟩ := four_cells hW.2; simp only [List.getElem?_toArray, List.getElem?_cons_zero] at s0; go_simp) ?_
      simp only [Act.put, List.setIfInBounds_toArray, List.set_cons_zero, List.set_cons_succ]
      refine wpL_take 10 27 (i64 s.2.2.1) [] rfl rfl (by kernel_rfl) (by decide) (by kernel_rfl) (by kernel_rfl) (by kernel_rfl) (fun _ _ _ h => h) HS.out (by rfl) (fun W hW => by have s0 := blk_cell hW.1 0; obtain ⟨x0, x1, x2, x3⟩ := four_cells hW.2; simp only [List.getElem?_toArray, List.getElem?_cons_zero] at s0; go_simp) ?_
      simp only [Act.put, List.setIfInBounds_toArray, List.set_cons_zero, List.set_cons_succ]
      refine wpL_take 11 28 (.agg #[i64 s.1, i64 s.2.1, i64 s.2.2.1]) [] rfl rfl (by kernel_rfl) (by decide) (by kernel_rfl) (by kernel_rfl) (by kernel_rfl) (fun _ _ _ h => h) HS.out (by rfl) (fun W hW => by have s0 := blk_cell hW.1 0; obtain ⟨x0, x1, x2, x3⟩ := four_cells hW.2; simp only [List.getElem?_toArray, List.getElem?_cons_zero] at s0; go_simp) ?_
      simp only [Act.put, List.setIfInBounds_toArray, List.set_cons_zero, List.set_cons_succ]
      refine wpL_one 12 rfl (by kernel_rfl) (by rfl) (fun K hK => ?_)
      go_simp
      refine hK.out _ _ (fun _ => ⟨blk_alloc (w := V.drew) HK.out _, blk_alloc (w := V.drew) HX.out _⟩) ?_
      clear hK K
      refine wpL_one 13 rfl (by kernel_rfl) (by rfl) (fun K hK => ?_)
      refine wp_app_run (.tmp 21) (.tmp 29) 89 rfl _ _ rfl rfl 89 rfl _ _ HRUN.out ?_
      refine hK.out _ _ (fun _ => ⟨HP6.out, HX6.out⟩) ?_
      clear hK K
      refine wpL_one 14 rfl (by kernel_rfl) (by rfl) (fun K hK => ?_)
      go_simp
      refine hK.out _ _ (fun _ => ⟨HP6.out, HX6.out⟩) ?_
      clear hK K
      refine wpL_one 15 rfl (by kernel_rfl) (by rfl) (fun K hK => ?_)
      go_simp
      refine hK.out _ _ (fun _ => ⟨HP6.out, HX6.out⟩) ?_
      clear hK K
      refine wpL_one 16 rfl (by kernel_rfl) (by rfl) (fun K hK => ?_)
      have r0 : w6.cell? ⟨w.heap.size, 0, none⟩ = some (.slice ao2 n cap2) := blk_cell HP6.out 0
      have rf : w6.frozen? ⟨w.heap.size, 0, none⟩ = false := blk_frozen HP6.out 0
      go_simp
      refine hK.out _ _ (fun h => absurd rfl h) ?_
      clear hK K r0 rf
      refine wpL_done (by kernel_rfl) ?_
      refine NoPanic.normal ?_
      go_wp2_with fail
      exact ⟨⟨k + 1, by omega, by go_num, HE, HBE⟩, by simp [intOf]; omega⟩
    · have HE : Hid (Rb wr w.heap.size w.heap.size (L.map ar)) := by
        have := HR.out
        rw [List.take_of_length_le (by rw [← HN.out]; omega)] at this
        exact this
      go_wp2_with fail
      go_ret
      exact ⟨rfl, HE.out, HB.out⟩
set_option maxRecDepth 100000 in
set_option maxHeartbeats 400000 in
theorem rsmap_no {w : World} {base r : Nat} {L : List Sp} (p n a e : Int) (h : Rt w base r L) (hl : L.length ≤ 1000) (he : (e == 0) = false) (hc : ∀ W q, Rb W q q (L.map ar) → Calls Try.prog 56 #[pq q, i64 p, i64 n] W fun e' w' => e' = .returned (.tuple #[i64 a, i64 e]) ∧ Below W.heap.size W w') : Calls Try.prog 32 #[pq r, i64 p, i64 n] w fun e' w' => e' = .returned (.tuple #[i64 a, i64 e]) ∧ Below w.heap.size w w' := by
  have HL := hid (rlist_ok h hl)
  have HC := hid hc
  clear hc h
  go_enter Try.func32, Try.ntmps32
  go_wp2_with fail
  refine HL.out.mono ?_
  rintro e1 w1 ⟨rfl, hR1, hb1⟩
  have HB1 := hid hb1
  have HC1 := hid (HC.out w1 w.heap.size hR1)
  clear HL hR1 hb1 HC
  go_wp2_with fail
  refine HC1.out.mono ?_
  rintro e2 w2 ⟨rfl, hb2⟩
  have HB2 : Hid (Below w.heap.size w w2) := HB1.out.trans (hb2.mono HB1.out.size)
  clear HC1 hb2
  go_wp2_with fail
  go_ret2
  exact ⟨rfl, HB2.out⟩
set_option maxRecDepth 100000 in
set_option maxHeartbeats 400000 in
theorem rsmap_at {w : World} {base r : Nat} {L : List Sp} (p n : Int) (K : Nat) (h : Rt w base r L) (hG : GS L) (hb : (1 ≤ p ∧ p ≤ 6) ∧ 1 ≤ n ∧ n ≤ 16) (hm : MapAt (L.map ar) p n K) : Calls Try.prog 32 #[pq r, i64 p, i64 n] w fun e' w' => e' = .returned (.tuple #[i64 K, i64 0]) ∧ Rt w' base r (L ++ [(p, (K : Int), n, 3)]) ∧ Fr base [29, 58] w w' := by
  have hl : L.length ≤ 1000 := by have := hG.len; omega
  have HL := hid (rlist_ok h hl)
  have HC := hid fun W q (hR : Rb W q q (L.map ar)) => rmap_at (w := W) p n K hb hR hG.good hm
  have HR := hid h
  have hlob := h.lob
  clear h hm
  go_enter Try.func32, Try.ntmps32
  go_wp2_with fail
  refine HL.out.mono ?_
  rintro e1 w1 ⟨rfl, hR1, hb1⟩
  have HB1 := hid hb1
  have HC1 := hid (HC.out w1 w.heap.size hR1)
  clear HL hR1 hb1 HC
  go_wp2_with fail
  refine HC1.out.mono ?_
  rintro e2 w2 ⟨rfl, _, hf2⟩
  have HB2 : Hid (Below w.heap.size w w2) := HB1.out.trans hf2.below
  obtain ⟨hlo, ao, cap, hbk, hown⟩ := HR.out.below HB2.out
  have r0 : w2.cell? ⟨r, 0, none⟩ = some (.slice ao L.length cap) := blk_cell hbk 0
  have hrl := blk_lt hbk
  obtain ⟨ao6, cap6, w6, hrun, hown6, hfr6, hfar6, hob6⟩ := app_far (te := 58) uD iD rfl (by omega) (by omega) (V := w2) hown (sC (p, (K : Int), n, 3)) rfl (sC_one _) (by omega) (Nat.le_trans hlob HB2.out.size)
  have HP6 : Hid (w6.heap[r]? = some (.cells #[.slice ao L.length cap] 29)) := hfr6.kept _ _ hbk (by rfl)
  have HE : Hid (Rt (w6.setCell ⟨r, 0, none⟩ (.slice ao6 (L.length + 1) cap6)) base r (L ++ [(p, (K : Int), n, 3)])) := set_rt hlo HP6.out (by simp) (by rw [scn_app, scn_one]; exact hown6)
  have HF : Hid (Fr base [29, 58] w (w6.setCell ⟨r, 0, none⟩ (.slice ao6 (L.length + 1) cap6))) := ((Fr.of_below _ HB2.out hlob).trans (fr_58 hfr6)).trans (set_frt hlo HP6.out _)
  have HRUN := hid hrun
  have s0 : w6.cell? ⟨r, 0, none⟩ = some (.slice ao L.length cap) := blk_cell HP6.out 0
  have sf : w6.frozen? ⟨r, 0, none⟩ = false := blk_frozen HP6.out 0
  have hr6 := blk_lt HP6.out
  clear HC1 hf2 hbk hown hrun hown6 hfr6 hfar6 hob6 hlo
  generalize L.length = N at *
  go_wp2_with (at_builtin; refine wpList_app_run rfl (.tmp 24) (.tmp 29) 27 rfl _ _ rfl rfl 27 rfl _ _ HRUN.out ?_)
  go_ret2
  exact ⟨rfl, HE.out, HF.out⟩
end Go.Proofs.Ytlkcpjefgelcoaa
