/- The document's Right; no statement is proved in this text. -/
import Derived.Test.YtaapiffglfppnaaDf
namespace Go.Proofs.Ytaapiffglfppnaa
open Go.ChangeShapes Go.WideShapes Go.ChangeAt Go.RowKit Go.Deep
attribute [local go_sem ↓] Go.wp_at_zero Go.wp_at_succ

/-- What the document asks of an object behind others, of a slot behind others, of both lists. -/
def stO (D : List Op4) (x : Op4) : Prop := (0 ≤ x.1 ∧ x.1 ≤ 35) ∧ D.find? (ko x.1) = none ∧ rightF 1 0 x.2.1 x.2.2.1 x.2.2.2 = true
def stS (O : List Op4) (D : List Sl3) (s : Sl3) : Prop := (1 ≤ s.1 ∧ s.1 ≤ 6) ∧ (0 ≤ s.2.1 ∧ s.2.1 ≤ 5) ∧ D.find? (kp s.1 s.2.1) = none ∧ O.find? (ko s.2.2) ≠ none
def RightD (O : List Op4) (S : List Sl3) : Prop := (∀ k x, O[k]? = some x → stO (O.take k) x) ∧ (∀ k s, S[k]? = some s → stS O (S.take k) s) ∧ (swO O S).length = O.length
def RightE (O : List Op4) (S : List Sl3) (e : Ending) : Prop := ∃ v, e = .returned (.bool v) ∧ (v = true ↔ RightD O S)
theorem ng {p : Prop} (h : ¬ p) : (false = true ↔ p) := ⟨fun e => (by cases e), fun e => absurd e h⟩
theorem ngO {O : List Op4} {S : List Sl3} {k : Nat} {x : Op4} (hx : O[k]? = some x) (h : ¬ stO (O.take k) x) : ¬ RightD O S := fun hr => h (hr.1 k x hx)
theorem ngS {O : List Op4} {S : List Sl3} {k : Nat} {s : Sl3} (hx : S[k]? = some s) (h : ¬ stS O (S.take k) s) : ¬ RightD O S := fun hr => h (hr.2.1 k s hx)
def SqO (b xb : Nat) (v1 v2 : Value) (x : Op4) (W : World) : Prop := W.heap[b]? = some (.cells #[v1, v2] 30) ∧ W.heap[xb]? = some (oO x 55)
def SqS (b xb : Nat) (v1 v2 : Value) (x : Sl3) (W : World) : Prop := W.heap[b]? = some (.cells #[v1, v2] 30) ∧ W.heap[xb]? = some (lO x 57)
theorem Rt.setO2 {V : World} {base r n cap : Nat} {ao : Option Addr} {O : List Op4} {L : List Sl3} {a2 : Option Addr} {c2 : Nat} {v : Value} (h0 : base ≤ r) (hV : V.heap[r]? = some (.cells #[v, .slice a2 L.length c2] 30)) (hS : V.ownsRow base 57 3 (.slice a2 L.length c2) L.length (lcn L)) (hn : n = O.length) (ho : V.ownsRow base 55 4 (.slice ao n cap) n (ocn O)) : Rt (V.setCell ⟨r, 0, none⟩ (.slice ao n cap)) base r O L := by
  subst hn
  have hk : ∀ (t : TypeId) (ht : t ≠ 30) (k : Nat) (C : Array Value), V.heap[k]? = some (.cells C t) → (V.setCell ⟨r, 0, none⟩ (.slice ao O.length cap)).heap[k]? = some (.cells C t) := fun t ht k C hC => by
    rw [Below.heap_setCell _ _ _ _ (fun e => by rw [show k = r from e, hV] at hC; simp at hC; exact ht hC.2.symm)]
    exact hC
  exact ⟨h0, ao, cap, a2, c2, heap_setCell_same V r 0 #[v, .slice a2 L.length c2] 30 _ hV, own_keep ho fun k C hC => hk 55 (by decide) k C hC, own_keep hS fun k C hC => hk 57 (by decide) k C hC⟩
theorem Rt.setS2 {V : World} {base r n cap : Nat} {ao : Option Addr} {O : List Op4} {L : List Sl3} {a1 : Option Addr} {c1 : Nat} {v : Value} (h0 : base ≤ r) (hV : V.heap[r]? = some (.cells #[.slice a1 O.length c1, v] 30)) (hO : V.ownsRow base 55 4 (.slice a1 O.length c1) O.length (ocn O)) (hn : n = L.length) (ho : V.ownsRow base 57 3 (.slice ao n cap) n (lcn L)) : Rt (V.setCell ⟨r, 1, none⟩ (.slice ao n cap)) base r O L := by
  subst hn
  have hk : ∀ (t : TypeId) (ht : t ≠ 30) (k : Nat) (C : Array Value), V.heap[k]? = some (.cells C t) → (V.setCell ⟨r, 1, none⟩ (.slice ao L.length cap)).heap[k]? = some (.cells C t) := fun t ht k C hC => by
    rw [Below.heap_setCell _ _ _ _ (fun e => by rw [show k = r from e, hV] at hC; simp at hC; exact ht hC.2.symm)]
    exact hC
  exact ⟨h0, a1, c1, ao, cap, heap_setCell_same V r 1 #[.slice a1 O.length c1, v] 30 _ hV, own_keep hO fun k C hC => hk 55 (by decide) k C hC, own_keep ho fun k C hC => hk 57 (by decide) k C hC⟩
set_option maxRecDepth 100000 in
set_option maxHeartbeats 12800000 in
theorem dright_ok (w : World) (a1 a2 : Option Addr) (cap1 cap2 : Nat) (O : List Op4) (S : List Sl3) (hlO : O.length ≤ 100) (hlS : S.length ≤ 100) (hc1 : O.length ≤ cap1) (hO : Rd4 w a1 O) (hS : Rd3 w a2 S) : Calls Try.prog 21 #[.slice a1 O.length cap1, .slice a2 S.length cap2] w fun e w' => RightE O S e ∧ Below w.heap.size w w' := by
  have HdO := hid hO
  have HdS := hid hS
  obtain ⟨N, hN⟩ : ∃ N, N = O.length := ⟨_, rfl⟩
  have HN := hid hN
  have HNO := hid hN
  obtain ⟨M, hM⟩ : ∃ M, M = S.length := ⟨_, rfl⟩
  have HM := hid hM
  rw [← hN] at hlO hc1 ⊢
  rw [← hM] at hlS ⊢
  obtain ⟨b, hb⟩ : ∃ b, b = w.heap.size := ⟨_, rfl⟩
  have HW0 := hid hb
  have HL0 : Hid (Rt (w.alloc (.cells #[.slice none 0 0, .slice none 0 0] 30)) b b [] []) := by rw [Hid, hb]; exact rt_new w _ (Nat.le_refl _)
  have HB0 : Hid (Below b w (w.alloc (.cells #[.slice none 0 0, .slice none 0 0] 30))) := by rw [Hid, hb]; exact below_one w _
  have HW1 : Hid (b ≤ w.heap.size) := Nat.le_of_eq hb
  have hz30 : ∀ W : World, (zeroValue 30).run Try.prog W = .ok (.agg #[.slice none 0 0, .slice none 0 0]) W := fun W => by kernel_rfl
  rw [← hb]
  clear hN hM hO hS
  go_enter Try.func21, Try.ntmps21
  go_wp2_with fail
  rw [← hb]
  clear hb hz30
  generalize w.alloc (.cells #[.slice none 0 0, .slice none 0 0] 30) = w1 at *
  go_loopw [14] (fun u wr => ∃ (k : Nat), k ≤ N ∧ u = i64 k ∧ Hid (Rt wr b b (O.take k) []) ∧ Hid (∀ j y, j < k → O[j]? = some y → stO (O.take j) y) ∧ Hid (Below b w wr)) (fun u _ => N - (intOf u).toNat)
  case atStart => exact ⟨0, by omega, rfl, HL0, fun j y hj _ => by omega, HB0⟩
  case round =>
    obtain ⟨k, hk, rfl, HLr, HSr, HBr⟩ := hrel
    clear HL0 HB0
    by_cases hlt : k < N
    · have hkI : (k : Int) < N := by omega
      obtain ⟨x, hx⟩ : ∃ x, O[k]? = some x := ⟨_, List.getElem?_eq_getElem (by rw [← HN.out]; exact hlt)⟩
      have HXX := hid hx
      obtain ⟨g, o, hgo, hgl, d0, d1, d2, d3⟩ := (HdO.out.below (HW0.out ▸ HBr.out)) k x hx
      subst hgo
      have HXb := hid (heap_last wr (oO x 55))
      have HBV : Hid (Below b w (wr.alloc (oO x 55))) := HBr.out.alloc HLr.out.lob _
      have HLV := hid (HLr.out.below (below_one wr (oO x 55)))
      have hkl : (O.take k).length ≤ 100 := by rw [List.length_take, ← HN.out]; omega
      clear hx
      by_cases h1 : x.1 < 0
      · have HNG : Hid (¬ RightD O S) := ngO HXX.out fun h => by have := h.1; omega
        go_wp2_with fail
        go_ret
        exact ⟨⟨false, rfl, ng HNG.out⟩, HBV.out⟩
      by_cases h2 : 35 < x.1
      · have HNG : Hid (¬ RightD O S) := ngO HXX.out fun h => by have := h.1; omega
        go_wp2_with fail
        go_ret
        exact ⟨⟨false, rfl, ng HNG.out⟩, HBV.out⟩
      cases hf : (O.take k).find? (ko x.1) with
      | some y =>
        have HNG : Hid (¬ RightD O S) := ngO HXX.out fun h => by rw [h.2.1] at hf; cases hf
        obtain ⟨J, hJ1, hJ2, hJ3⟩ := find_at hf
        have HFi := hid (rfind_some x.1 J y HLV.out (by omega) hJ1 hJ2 hJ3)
        have hJ0 : (0 : Int) ≤ J := by omega
        clear hf hJ1 hJ2 hJ3
        go_wp2_with fail
        refine HFi.out.mono ?_
        rintro e w2 ⟨rfl, hb2⟩
        have HB2 : Hid (Below b w w2) := HBV.out.trans (hb2.mono HLV.out.lob)
        have HL2 := hid (HLV.out.below hb2)
        clear hb2 HFi
        go_wp2_with fail
        go_ret
        exact ⟨⟨false, rfl, ng HNG.out⟩, HB2.out⟩
      | none =>
        have HFi := hid (rfind_none x.1 HLV.out (by omega) hf)
        have HRi := hid fun W => rright_ok W 1 0 x.2.1 x.2.2.1 x.2.2.2
        cases hr : rightF 1 0 x.2.1 x.2.2.1 x.2.2.2 with
        | false =>
          have HNG : Hid (¬ RightD O S) := ngO HXX.out fun h => by rw [h.2.2] at hr; cases hr
          rw [hr] at HRi
          clear hf hr
          go_wp2_with fail
          refine HFi.out.mono ?_
          rintro e w2 ⟨rfl, hb2⟩
          have HB2 : Hid (Below b w w2) := HBV.out.trans (hb2.mono HLV.out.lob)
          have HL2 := hid (HLV.out.below hb2)
          obtain ⟨y0, y1, y2, y3⟩ := four_cells (blk_below HXb.out hb2)
          have hx2 : wr.heap.size < w2.heap.size := blk_lt (blk_below HXb.out hb2)
          have HR2 := hid (HRi.out w2)
          clear hb2 HFi HRi
          go_wp2_with fail
          refine HR2.out.mono ?_
          rintro e w3 ⟨rfl, hb3⟩
          have HB3 : Hid (Below b w w3) := HB2.out.trans (hb3.mono HL2.out.lob)
          have HL3 := hid (HL2.out.below hb3)
          clear hb3 HR2
          go_wp2_with fail
          go_ret
          exact ⟨⟨false, rfl, ng HNG.out⟩, HB3.out⟩
        | true =>
          have HST : Hid (∀ j y, j < k + 1 → O[j]? = some y → stO (O.take j) y) := fun j y hj hy => by
            rcases Nat.lt_succ_iff_lt_or_eq.1 hj with h | h
            · exact HSr.out j y h hy
            · subst h
              rw [HXX.out] at hy
              cases hy
              exact ⟨by omega, hf, hr⟩
          have HTL : Hid (O.take (k + 1) = O.take k ++ [x]) := takeL HXX.out
          rw [hr] at HRi
          clear hf hr
          go_wp2_with fail
          refine HFi.out.mono ?_
          rintro e w2 ⟨rfl, hb2⟩
          have HB2 : Hid (Below b w w2) := HBV.out.trans (hb2.mono HLV.out.lob)
          have HL2 := hid (HLV.out.below hb2)
          obtain ⟨y0, y1, y2, y3⟩ := four_cells (blk_below HXb.out hb2)
          have hx2 : wr.heap.size < w2.heap.size := blk_lt (blk_below HXb.out hb2)
          have HX2 := hid (blk_below HXb.out hb2)
          have HBd : Hid (Below wr.heap.size wr w2) := (below_one wr _).trans (hb2.mono (by simp))
          have HR2 := hid (HRi.out w2)
          clear hb2 HFi HRi
          go_wp2_with fail
          refine HR2.out.mono ?_
          rintro e w3 ⟨rfl, hb3⟩
          have HB3 : Hid (Below b w w3) := HB2.out.trans (hb3.mono HL2.out.lob)
          have HL3 := hid (HL2.out.below hb3)
          have HX3 := hid (blk_below HX2.out hb3)
          have HBe : Hid (Below wr.heap.size wr w3) := HBd.out.trans (hb3.mono HBd.out.size)
          clear hb3 HR2 y0 y1 y2 y3 HX2 HXb HLV HBV HSr HBr HL2 HB2 HBd
          obtain ⟨hlb, ao5, cap5, av, cs, hbk0, hownO0, hownS0⟩ := HLr.out
          have hob0 := hownO0
          have hbk := (HBe.out.block b (blk_lt hbk0)).trans hbk0
          have hownO := own_keep1 hownO0 fun q hq => HBe.out.block q (hownO0.lt q hq).2
          have hownS := own_keep1 hownS0 fun q hq => HBe.out.block q (hownS0.lt q hq).2
          have hmine := hownO
          have hob : ∀ q, (Value.slice ao5 (O.take k).length cap5).ownBlock = some q → q ≠ wr.heap.size := fun q hq => Nat.ne_of_lt (hob0.lt q hq).2
          obtain ⟨ao6, cap6, w6, hrun, hown6, hfr6, hfar6, hob6⟩ := app_far (te := 55) uDo iDo rfl (by omega) (by omega) (V := w3.drew) (own_keep hmine (fun _ _ h => h)) (oC x) rfl (oC_one _) (by omega) (show b ≤ w3.heap.size from HL3.out.lob)
          have HX6 : Hid (w6.heap[wr.heap.size]? = some (oO x 55)) := (hfar6 wr.heap.size (blk_lt HX3.out) (fun e => hob _ e.symm rfl)).trans HX3.out
          have HK3 : Hid (w3.heap[b]? = some (.cells #[.slice ao5 (O.take k).length cap5, .slice av ([] : List Sl3).length cs] 30)) := hbk
          have HP6 : Hid (w6.heap[b]? = some (.cells #[.slice ao5 (O.take k).length cap5, .slice av ([] : List Sl3).length cs] 30)) := hfr6.kept _ _ hbk (by rfl)
          have HOTH := hid (own_keep hownS fun q C hq => hfr6.kept q _ hq (by rfl))
          have HRUN := hid hrun
          have HOWN := hid hown6
          have HFR := hid hfr6
          have HS : Hid (SqO b wr.heap.size (.slice ao5 (O.take k).length cap5) (.slice av ([] : List Sl3).length cs) x w3.drew) := ⟨HK3.out, HX3.out⟩
          clear hrun hown6 hfr6 hfar6 hob6 hob hmine hownO hownS hbk hownO0 hownS0 hbk0 hob0
          obtain ⟨n, hn⟩ : ∃ n, n = (O.take k).length := ⟨_, rfl⟩
          have HNn := hid hn
          rw [← hn] at HS HRUN HP6 HOWN HK3
          have he0 : ([] : List Sl3).length = 0 := rfl
          rw [he0] at HS HP6 HK3
          clear hn
          go_upto_region 7 with fail
          refine wp_region_noPanic ?_
          refine wp_region_last (SqO b wr.heap.size (.slice ao5 n cap5) (.slice av 0 cs) x) 10 (by kernel_rfl) ?_
          refine wpL_take 0 44 (pq b) [] rfl rfl (by kernel_rfl) (by decide) (by kernel_rfl) (by kernel_rfl) (by kernel_rfl) (fun _ _ _ h => h) HS.out (by rfl) (fun W hW => by have s0 : W.cell? ⟨b, 0, none⟩ = some (.slice ao5 n cap5) := blk_cell hW.1 0; have s1 : W.cell? ⟨b, 1, none⟩ = some (.slice av 0 cs) := blk_cell hW.1 1; obtain ⟨x0, x1, x2, x3⟩ := four_cells hW.2; go_simp) ?_
          simp only [Act.put, List.setIfInBounds_toArray, List.set_cons_zero, List.set_cons_succ]
          refine wpL_take 1 45 (pq b) [] rfl rfl (by kernel_rfl) (by decide) (by kernel_rfl) (by kernel_rfl) (by kernel_rfl) (fun _ _ _ h => h) HS.out (by rfl) (fun W hW => by have s0 : W.cell? ⟨b, 0, none⟩ = some (.slice ao5 n cap5) := blk_cell hW.1 0; have s1 : W.cell? ⟨b, 1, none⟩ = some (.slice av 0 cs) := blk_cell hW.1 1; obtain ⟨x0, x1, x2, x3⟩ := four_cells hW.2; go_simp) ?_
          simp only [Act.put, List.setIfInBounds_toArray, List.set_cons_zero, List.set_cons_succ]
          refine wpL_take 2 46 (pq b) [] rfl rfl (by kernel_rfl) (by decide) (by kernel_rfl) (by kernel_rfl) (by kernel_rfl) (fun _ _ _ h => h) HS.out (by rfl) (fun W hW => by have s0 : W.cell? ⟨b, 0, none⟩ = some (.slice ao5 n cap5) := blk_cell hW.1 0; have s1 : W.cell? ⟨b, 1, none⟩ = some (.slice av 0 cs) := blk_cell hW.1 1; obtain ⟨x0, x1, x2, x3⟩ := four_cells hW.2; go_simp) ?_
          simp only [Act.put, List.setIfInBounds_toArray, List.set_cons_zero, List.set_cons_succ]
          refine wpL_take 3 47 (pq b) [] rfl rfl (by kernel_rfl) (by decide) (by kernel_rfl) (by kernel_rfl) (by kernel_rfl) (fun _ _ _ h => h) HS.out (by rfl) (fun W hW => by have s0 : W.cell? ⟨b, 0, none⟩ = some (.slice ao5 n cap5) := blk_cell hW.1 0; have s1 : W.cell? ⟨b, 1, none⟩ = some (.slice av 0 cs) := blk_cell hW.1 1; obtain ⟨x0, x1, x2, x3⟩ := four_cells hW.2; go_simp) ?_
          simp only [Act.put, List.setIfInBounds_toArray, List.set_cons_zero, List.set_cons_succ]
          refine wpL_take 4 48 (.slice ao5 n cap5) [] rfl rfl (by kernel_rfl) (by decide) (by kernel_rfl) (by kernel_rfl) (by kernel_rfl) (fun _ _ _ h => h) HS.out (by rfl) (fun W hW => by have s0 : W.cell? ⟨b, 0, none⟩ = some (.slice ao5 n cap5) := blk_cell hW.1 0; have s1 : W.cell? ⟨b, 1, none⟩ = some (.slice av 0 cs) := blk_cell hW.1 1; obtain ⟨x0, x1, x2, x3⟩ := four_cells hW.2; go_simp) ?_
          simp only [Act.put, List.setIfInBounds_toArray, List.set_cons_zero, List.set_cons_succ]
          refine wpL_take 5 49 (ov x) [] rfl rfl (by kernel_rfl) (by decide) (by kernel_rfl) (by kernel_rfl) (by kernel_rfl) (fun _ _ _ h => h) HS.out (by rfl) (fun W hW => by have s0 : W.cell? ⟨b, 0, none⟩ = some (.slice ao5 n cap5) := blk_cell hW.1 0; have s1 : W.cell? ⟨b, 1, none⟩ = some (.slice av 0 cs) := blk_cell hW.1 1; obtain ⟨x0, x1, x2, x3⟩ := four_cells hW.2; go_simp) ?_
          simp only [Act.put, List.setIfInBounds_toArray, List.set_cons_zero, List.set_cons_succ]
          refine wpL_one 6 rfl (by kernel_rfl) (by rfl) (fun K hK => ?_)
          go_simp
          refine hK.out _ _ (fun _ => ⟨blk_alloc (w := w3.drew) HK3.out _, blk_alloc (w := w3.drew) HX3.out _⟩) ?_
          clear hK K
          refine wpL_one 7 rfl (by kernel_rfl) (by rfl) (fun K hK => ?_)
          refine wp_app_run (.tmp 48) (.tmp 50) 27 rfl _ _ rfl rfl 27 rfl _ _ HRUN.out ?_
          refine hK.out _ _ (fun _ => ⟨HP6.out, HX6.out⟩) ?_
          clear hK K
          refine wpL_one 8 rfl (by kernel_rfl) (by rfl) (fun K hK => ?_)
          go_simp
          refine hK.out _ _ (fun _ => ⟨HP6.out, HX6.out⟩) ?_
          clear hK K
          refine wpL_one 9 rfl (by kernel_rfl) (by rfl) (fun K hK => ?_)
          go_simp
          refine hK.out _ _ (fun _ => ⟨HP6.out, HX6.out⟩) ?_
          clear hK K
          refine wpL_one 10 rfl (by kernel_rfl) (by rfl) (fun K hK => ?_)
          have r0 : w6.cell? ⟨b, 0, none⟩ = some (.slice ao5 n cap5) := blk_cell HP6.out 0
          have rf : w6.frozen? ⟨b, 0, none⟩ = false := blk_frozen HP6.out 0
          go_simp
          refine hK.out _ _ (fun h => absurd rfl h) ?_
          clear hK K r0 rf
          refine wpL_done (by kernel_rfl) ?_
          refine NoPanic.normal ?_
          have HRf : Hid (Rt (w6.setCell ⟨b, 0, none⟩ (.slice ao6 (n + 1) cap6)) b b (O.take (k + 1)) []) := by
            rw [Hid, HTL.out]
            exact Rt.setO2 (Nat.le_refl _) HP6.out HOTH.out (by rw [List.length_append, ← HNn.out]; rfl) (by rw [ocn_app, ocn_one]; exact HOWN.out)
          have HBf : Hid (Below b w (w6.setCell ⟨b, 0, none⟩ (.slice ao6 (n + 1) cap6))) := by
            have h6 : Below b w3 w6 := ⟨HFR.out.below.os, HFR.out.below.tape, HFR.out.below.output, HFR.out.below.size, HFR.out.below.block⟩
            exact (HB3.out.trans h6).setCell (Nat.le_refl _) _
          generalize w6.setCell ⟨b, 0, none⟩ (.slice ao6 (n + 1) cap6) = U7 at *
          clear HS HRUN HP6 HOWN HK3 HOTH HFR HX6 HX3
          go_wp2_with fail
          exact ⟨⟨k + 1, by omega, by go_num, HRf, HST, HBf⟩, by simp [intOf]; omega⟩
    · have hE : O.take k = O := List.take_of_length_le (by rw [← HN.out]; omega)
      rw [hE] at HLr
      have HR1 : Hid (∀ j y, O[j]? = some y → stO (O.take j) y) := fun j y hy => HSr.out j y (by have := (List.getElem?_eq_some_iff.1 hy).1; rw [← HN.out] at this; omega) hy
      have HL0 := HLr
      have HB0 := HBr
      clear hE HSr HLr HBr
      go_wp2_with fail
      go_loopw [57] (fun u wr => ∃ (k : Nat), k ≤ M ∧ u = i64 k ∧ Hid (Rt wr b b O (S.take k)) ∧ Hid (∀ j y, j < k → S[j]? = some y → stS O (S.take j) y) ∧ Hid (Below b w wr)) (fun u _ => M - (intOf u).toNat)
      case atStart => exact ⟨0, by omega, rfl, HL0, fun j y hj _ => by omega, HB0⟩
      case round =>
        obtain ⟨k, hk, rfl, HLr, HSr, HBr⟩ := hrel
        clear HL0 HB0
        by_cases hlt : k < M
        · have hkI : (k : Int) < M := by omega
          obtain ⟨x, hx⟩ : ∃ x, S[k]? = some x := ⟨_, List.getElem?_eq_getElem (by rw [← HM.out]; exact hlt)⟩
          have HXX := hid hx
          obtain ⟨g, o, hgo, hgl, d0, d1, d2⟩ := (HdS.out.below (HW0.out ▸ HBr.out)) k x hx
          subst hgo
          have HXb := hid (heap_last wr (lO x 57))
          have HBV : Hid (Below b w (wr.alloc (lO x 57))) := HBr.out.alloc HLr.out.lob _
          have HLV := hid (HLr.out.below (below_one wr (lO x 57)))
          have hkl : (S.take k).length ≤ 100 := by rw [List.length_take, ← HM.out]; omega
          clear hx
          by_cases h1 : x.1 < 1
          · have HNG : Hid (¬ RightD O S) := ngS HXX.out fun h => by have := h.1; omega
            go_wp2_with fail
            go_ret
            exact ⟨⟨false, rfl, ng HNG.out⟩, HBV.out⟩
          by_cases h2 : 6 < x.1
          · have HNG : Hid (¬ RightD O S) := ngS HXX.out fun h => by have := h.1; omega
            go_wp2_with fail
            go_ret
            exact ⟨⟨false, rfl, ng HNG.out⟩, HBV.out⟩
          by_cases h3 : x.2.1 < 0
          · have HNG : Hid (¬ RightD O S) := ngS HXX.out fun h => by have := h.2.1; omega
            go_wp2_with fail
            go_ret
            exact ⟨⟨false, rfl, ng HNG.out⟩, HBV.out⟩
          by_cases h4 : 5 < x.2.1
          · have HNG : Hid (¬ RightD O S) := ngS HXX.out fun h => by have := h.2.1; omega
            go_wp2_with fail
            go_ret
            exact ⟨⟨false, rfl, ng HNG.out⟩, HBV.out⟩
          cases hf : (S.take k).find? (kp x.1 x.2.1) with
          | some y =>
            have HNG : Hid (¬ RightD O S) := ngS HXX.out fun h => by rw [h.2.2.1] at hf; cases hf
            obtain ⟨J, hJ1, hJ2, hJ3⟩ := find_at hf
            have HFi := hid (rat_some x.1 x.2.1 J y HLV.out (by omega) hJ1 hJ2 hJ3)
            have hJ0 : (0 : Int) ≤ J := by omega
            clear hf hJ1 hJ2 hJ3
            go_wp2_with fail
            refine HFi.out.mono ?_
            rintro e w2 ⟨rfl, hb2⟩
            have HB2 : Hid (Below b w w2) := HBV.out.trans (hb2.mono HLV.out.lob)
            have HL2 := hid (HLV.out.below hb2)
            clear hb2 HFi
            go_wp2_with fail
            go_ret
            exact ⟨⟨false, rfl, ng HNG.out⟩, HB2.out⟩
          | none =>
            have HFi := hid (rat_none x.1 x.2.1 HLV.out (by omega) hf)
            cases hr : O.find? (ko x.2.2) with
            | none =>
              have HNG : Hid (¬ RightD O S) := ngS HXX.out fun h => h.2.2.2 hr
              have HRi : Hid (∀ W, Rt W b b O (S.take k) → _) := fun W hW => rfind_none x.2.2 hW (by rw [← HN.out]; omega) hr
              clear hf hr
              go_wp2_with fail
              refine HFi.out.mono ?_
              rintro e w2 ⟨rfl, hb2⟩
              have HB2 : Hid (Below b w w2) := HBV.out.trans (hb2.mono HLV.out.lob)
              have HL2 := hid (HLV.out.below hb2)
              obtain ⟨y0, y1, y2⟩ := three_cells (blk_below HXb.out hb2)
              have hx2 : wr.heap.size < w2.heap.size := blk_lt (blk_below HXb.out hb2)
              have HR2 := hid (HRi.out w2 HL2.out)
              clear hb2 HFi HRi
              go_wp2_with fail
              refine HR2.out.mono ?_
              rintro e w3 ⟨rfl, hb3⟩
              have HB3 : Hid (Below b w w3) := HB2.out.trans (hb3.mono HL2.out.lob)
              have HL3 := hid (HL2.out.below hb3)
              clear hb3 HR2
              go_wp2_with fail
              go_ret
              exact ⟨⟨false, rfl, ng HNG.out⟩, HB3.out⟩
            | some y =>
              have HST : Hid (∀ j y, j < k + 1 → S[j]? = some y → stS O (S.take j) y) := fun j y hj hy => by
                rcases Nat.lt_succ_iff_lt_or_eq.1 hj with h | h
                · exact HSr.out j y h hy
                · subst h
                  rw [HXX.out] at hy
                  cases hy
                  exact ⟨by omega, by omega, hf, fun e => by rw [e] at hr; cases hr⟩
              have HTL : Hid (S.take (k + 1) = S.take k ++ [x]) := takeL HXX.out
              obtain ⟨J, hJ1, hJ2, hJ3⟩ := find_at hr
              have hJ0 : (0 : Int) ≤ J := by omega
              have HRi : Hid (∀ W, Rt W b b O (S.take k) → _) := fun W hW => rfind_some x.2.2 J y hW (by rw [← HN.out]; omega) hJ1 hJ2 hJ3
              clear hf hr hJ1 hJ2 hJ3
              go_wp2_with fail
              refine HFi.out.mono ?_
              rintro e w2 ⟨rfl, hb2⟩
              have HB2 : Hid (Below b w w2) := HBV.out.trans (hb2.mono HLV.out.lob)
              have HL2 := hid (HLV.out.below hb2)
              obtain ⟨y0, y1, y2⟩ := three_cells (blk_below HXb.out hb2)
              have hx2 : wr.heap.size < w2.heap.size := blk_lt (blk_below HXb.out hb2)
              have HX2 := hid (blk_below HXb.out hb2)
              have HBd : Hid (Below wr.heap.size wr w2) := (below_one wr _).trans (hb2.mono (by simp))
              have HR2 := hid (HRi.out w2 HL2.out)
              clear hb2 HFi HRi
              go_wp2_with fail
              refine HR2.out.mono ?_
              rintro e w3 ⟨rfl, hb3⟩
              have HB3 : Hid (Below b w w3) := HB2.out.trans (hb3.mono HL2.out.lob)
              have HL3 := hid (HL2.out.below hb3)
              have HX3 := hid (blk_below HX2.out hb3)
              have HBe : Hid (Below wr.heap.size wr w3) := HBd.out.trans (hb3.mono HBd.out.size)
              clear hb3 HR2 y0 y1 y2 HX2 HXb HLV HBV HSr HBr HL2 HB2 HBd
              obtain ⟨hlb, av, cs, ao5, cap5, hbk0, hownO0, hownS0⟩ := HLr.out
              have hob0 := hownS0
              have hbk := (HBe.out.block b (blk_lt hbk0)).trans hbk0
              have hownO := own_keep1 hownO0 fun q hq => HBe.out.block q (hownO0.lt q hq).2
              have hownS := own_keep1 hownS0 fun q hq => HBe.out.block q (hownS0.lt q hq).2
              have hmine := hownS
              have hob : ∀ q, (Value.slice ao5 (S.take k).length cap5).ownBlock = some q → q ≠ wr.heap.size := fun q hq => Nat.ne_of_lt (hob0.lt q hq).2
              obtain ⟨ao6, cap6, w6, hrun, hown6, hfr6, hfar6, hob6⟩ := app_far (te := 57) uDl iDl rfl (by omega) (by omega) (V := w3.drew) (own_keep hmine (fun _ _ h => h)) (lC x) rfl (lC_one _) (by omega) (show b ≤ w3.heap.size from HL3.out.lob)
              have HX6 : Hid (w6.heap[wr.heap.size]? = some (lO x 57)) := (hfar6 wr.heap.size (blk_lt HX3.out) (fun e => hob _ e.symm rfl)).trans HX3.out
              have HK3 : Hid (w3.heap[b]? = some (.cells #[.slice av O.length cs, .slice ao5 (S.take k).length cap5] 30)) := hbk
              have HP6 : Hid (w6.heap[b]? = some (.cells #[.slice av O.length cs, .slice ao5 (S.take k).length cap5] 30)) := hfr6.kept _ _ hbk (by rfl)
              have HOTH := hid (own_keep hownO fun q C hq => hfr6.kept q _ hq (by rfl))
              have HRUN := hid hrun
              have HOWN := hid hown6
              have HFR := hid hfr6
              have HS : Hid (SqS b wr.heap.size (.slice av O.length cs) (.slice ao5 (S.take k).length cap5) x w3.drew) := ⟨HK3.out, HX3.out⟩
              clear hrun hown6 hfr6 hfar6 hob6 hob hmine hownO hownS hbk hownO0 hownS0 hbk0 hob0
              obtain ⟨n, hn⟩ : ∃ n, n = (S.take k).length := ⟨_, rfl⟩
              have HNn := hid hn
              rw [← hn] at HS HRUN HP6 HOWN HK3
              rw [← HNO.out] at HS HP6 HK3
              clear hn
              go_upto_region 14 with fail
              refine wp_region_noPanic ?_
              refine wp_region_last (SqS b wr.heap.size (.slice av N cs) (.slice ao5 n cap5) x) 10 (by kernel_rfl) ?_
              refine wpL_take 0 95 (pq b) [] rfl rfl (by kernel_rfl) (by decide) (by kernel_rfl) (by kernel_rfl) (by kernel_rfl) (fun _ _ _ h => h) HS.out (by rfl) (fun W hW => by have s0 : W.cell? ⟨b, 0, none⟩ = some (.slice av N cs) := blk_cell hW.1 0; have s1 : W.cell? ⟨b, 1, none⟩ = some (.slice ao5 n cap5) := blk_cell hW.1 1; obtain ⟨x0, x1, x2⟩ := three_cells hW.2; go_simp) ?_
              simp only [Act.put, List.setIfInBounds_toArray, List.set_cons_zero, List.set_cons_succ]
              refine wpL_take 1 96 (pq b) [] rfl rfl (by kernel_rfl) (by decide) (by kernel_rfl) (by kernel_rfl) (by kernel_rfl) (fun _ _ _ h => h) HS.out (by rfl) (fun W hW => by have s0 : W.cell? ⟨b, 0, none⟩ = some (.slice av N cs) := blk_cell hW.1 0; have s1 : W.cell? ⟨b, 1, none⟩ = some (.slice ao5 n cap5) := blk_cell hW.1 1; obtain ⟨x0, x1, x2⟩ := three_cells hW.2; go_simp) ?_
              simp only [Act.put, List.setIfInBounds_toArray, List.set_cons_zero, List.set_cons_succ]
              refine wpL_take 2 97 (pq b) [] rfl rfl (by kernel_rfl) (by decide) (by kernel_rfl) (by kernel_rfl) (by kernel_rfl) (fun _ _ _ h => h) HS.out (by rfl) (fun W hW => by have s0 : W.cell? ⟨b, 0, none⟩ = some (.slice av N cs) := blk_cell hW.1 0; have s1 : W.cell? ⟨b, 1, none⟩ = some (.slice ao5 n cap5) := blk_cell hW.1 1; obtain ⟨x0, x1, x2⟩ := three_cells hW.2; go_simp) ?_
              simp only [Act.put, List.setIfInBounds_toArray, List.set_cons_zero, List.set_cons_succ]
              refine wpL_take 3 98 (.pointer (some ⟨b, 1, none⟩)) [] rfl rfl (by kernel_rfl) (by decide) (by kernel_rfl) (by kernel_rfl) (by kernel_rfl) (fun _ _ _ h => h) HS.out (by rfl) (fun W hW => by have s0 : W.cell? ⟨b, 0, none⟩ = some (.slice av N cs) := blk_cell hW.1 0; have s1 : W.cell? ⟨b, 1, none⟩ = some (.slice ao5 n cap5) := blk_cell hW.1 1; obtain ⟨x0, x1, x2⟩ := three_cells hW.2; go_simp) ?_
              simp only [Act.put, List.setIfInBounds_toArray, List.set_cons_zero, List.set_cons_succ]
              refine wpL_take 4 99 (.slice ao5 n cap5) [] rfl rfl (by kernel_rfl) (by decide) (by kernel_rfl) (by kernel_rfl) (by kernel_rfl) (fun _ _ _ h => h) HS.out (by rfl) (fun W hW => by have s0 : W.cell? ⟨b, 0, none⟩ = some (.slice av N cs) := blk_cell hW.1 0; have s1 : W.cell? ⟨b, 1, none⟩ = some (.slice ao5 n cap5) := blk_cell hW.1 1; obtain ⟨x0, x1, x2⟩ := three_cells hW.2; go_simp) ?_
              simp only [Act.put, List.setIfInBounds_toArray, List.set_cons_zero, List.set_cons_succ]
              refine wpL_take 5 100 (lv x) [] rfl rfl (by kernel_rfl) (by decide) (by kernel_rfl) (by kernel_rfl) (by kernel_rfl) (fun _ _ _ h => h) HS.out (by rfl) (fun W hW => by have s0 : W.cell? ⟨b, 0, none⟩ = some (.slice av N cs) := blk_cell hW.1 0; have s1 : W.cell? ⟨b, 1, none⟩ = some (.slice ao5 n cap5) := blk_cell hW.1 1; obtain ⟨x0, x1, x2⟩ := three_cells hW.2; go_simp) ?_
              simp only [Act.put, List.setIfInBounds_toArray, List.set_cons_zero, List.set_cons_succ]
              refine wpL_one 6 rfl (by kernel_rfl) (by rfl) (fun K hK => ?_)
              go_simp
              refine hK.out _ _ (fun _ => ⟨blk_alloc (w := w3.drew) HK3.out _, blk_alloc (w := w3.drew) HX3.out _⟩) ?_
              clear hK K
              refine wpL_one 7 rfl (by kernel_rfl) (by rfl) (fun K hK => ?_)
              refine wp_app_run (.tmp 99) (.tmp 101) 28 rfl _ _ rfl rfl 28 rfl _ _ HRUN.out ?_
              refine hK.out _ _ (fun _ => ⟨HP6.out, HX6.out⟩) ?_
              clear hK K
              refine wpL_one 8 rfl (by kernel_rfl) (by rfl) (fun K hK => ?_)
              go_simp
              refine hK.out _ _ (fun _ => ⟨HP6.out, HX6.out⟩) ?_
              clear hK K
              refine wpL_one 9 rfl (by kernel_rfl) (by rfl) (fun K hK => ?_)
              go_simp
              refine hK.out _ _ (fun _ => ⟨HP6.out, HX6.out⟩) ?_
              clear hK K
              refine wpL_one 10 rfl (by kernel_rfl) (by rfl) (fun K hK => ?_)
              have r0 : w6.cell? ⟨b, 1, none⟩ = some (.slice ao5 n cap5) := blk_cell HP6.out 1
              have rf : w6.frozen? ⟨b, 1, none⟩ = false := blk_frozen HP6.out 1
              go_simp
              refine hK.out _ _ (fun h => absurd rfl h) ?_
              clear hK K r0 rf
              refine wpL_done (by kernel_rfl) ?_
              refine NoPanic.normal ?_
              have HRf : Hid (Rt (w6.setCell ⟨b, 1, none⟩ (.slice ao6 (n + 1) cap6)) b b O (S.take (k + 1))) := by
                have h6 := HP6.out
                rw [HNO.out] at h6
                rw [Hid, HTL.out]
                exact Rt.setS2 (Nat.le_refl _) h6 HOTH.out (by rw [List.length_append, ← HNn.out]; rfl) (by rw [lcn_app, lcn_one]; exact HOWN.out)
              have HBf : Hid (Below b w (w6.setCell ⟨b, 1, none⟩ (.slice ao6 (n + 1) cap6))) := by
                have h6 : Below b w3 w6 := ⟨HFR.out.below.os, HFR.out.below.tape, HFR.out.below.output, HFR.out.below.size, HFR.out.below.block⟩
                exact (HB3.out.trans h6).setCell (Nat.le_refl _) _
              generalize w6.setCell ⟨b, 1, none⟩ (.slice ao6 (n + 1) cap6) = U7 at *
              clear HS HRUN HP6 HOWN HK3 HOTH HFR HX6 HX3
              go_wp2_with fail
              exact ⟨⟨k + 1, by omega, by go_num, HRf, HST, HBf⟩, by simp [intOf]; omega⟩
        · have hE2 : S.take k = S := List.take_of_length_le (by rw [← HM.out]; omega)
          have hk2 : k = M := by omega
          rw [hE2] at HLr
          have HR2 : Hid (∀ j y, S[j]? = some y → stS O (S.take j) y) := fun j y hy => HSr.out j y (by have := (List.getElem?_eq_some_iff.1 hy).1; rw [← HM.out] at this; omega) hy
          have HSw := hid (rsweep_ok HLr.out (by rw [← HN.out]; omega) (by rw [← HM.out]; omega))
          have HLQ : Hid ((swO O S).length ≤ 100) := by
            have := List.length_filter_le (swF S) O
            rw [← HN.out] at this
            exact Nat.le_trans this (by omega)
          clear hE2 HSr HLr
          go_wp2_with fail
          refine HSw.out.mono ?_
          rintro e w2 ⟨rfl, hR, hT⟩
          have HB2 : Hid (Below b w w2) := HBr.out.trans (hT.below (Nat.le_refl _) (Nat.le_trans HW1.out HBr.out.size))
          obtain ⟨_, a3, c3, a4, c4, hbk, _, _⟩ := hR
          obtain ⟨q, hq⟩ : ∃ q, q = (swO O S).length := ⟨_, rfl⟩
          have HQ := hid hq
          have hq1 : q ≤ 100 := by rw [hq]; exact HLQ.out
          rw [← hq] at hbk
          have r0 : w2.cell? ⟨b, 0, none⟩ = some (.slice a3 q c3) := blk_cell hbk 0
          have hbl := blk_lt hbk
          clear hbk hT HSw hq
          by_cases hqn : q = N
          · have HY : Hid (RightD O S) := ⟨HR1.out, HR2.out, by rw [← HQ.out, ← HN.out, hqn]⟩
            subst hqn
            go_wp2_with fail
            go_ret
            exact ⟨⟨true, rfl, ⟨fun _ => HY.out, fun _ => rfl⟩⟩, HB2.out⟩
          · have HNG : Hid (¬ RightD O S) := fun h => hqn (by rw [HQ.out, HN.out]; exact h.2.2)
            have hqI : ((q : Int) == N) = false := beq_false_of_ne fun e => hqn (by omega)
            clear hqn
            go_wp2_with fail
            go_ret
            exact ⟨⟨false, rfl, ng HNG.out⟩, HB2.out⟩
end Go.Proofs.Ytaapiffglfppnaa
