/- The document's Seek; no statement is proved in this text. -/
import Derived.Test.YtaapiffglfppnaaDh
namespace Go.Proofs.Ytaapiffglfppnaa
open Go.ChangeShapes Go.WideShapes Go.ChangeAt Go.RowKit Go.Deep
attribute [local go_sem ↓] Go.wp_at_zero Go.wp_at_succ

theorem own_setg {w : World} {base : Nat} {e : TypeId} {size n m cap g : Nat} {xs : List Value} (h : w.ownsRow base e size (.slice (some ⟨g, 0, none⟩) n cap) m xs) {i : Nat} (v : Value) : (w.setCell ⟨g, i, none⟩ v).ownsRow base e size (.slice (some ⟨g, 0, none⟩) n cap) m (xs.set i v) := by
  obtain ⟨hl, h3⟩ := h
  rcases h3 with ⟨hn, _⟩ | ⟨g', cap', cur, he, hbg, hgg, hc1, hc2, hc3, htk⟩
  · simp at hn
  · simp only [Value.slice.injEq, Option.some.injEq, Addr.mk.injEq] at he
    obtain ⟨⟨rfl, _⟩, hnm, rfl⟩ := he
    refine ⟨by rw [List.length_set]; exact hl, .inr ⟨g, cap, _, by rw [hnm], hbg, heap_setCell_same w g _ _ e _ hgg, hc1, hc2, by simpa using hc3, ?_⟩⟩
    rw [← htk, Array.toList_setIfInBounds, List.take_set]
def offO (o : Op4) (off : Int) : Op4 := (o.1, o.2.1, o.2.2.1, off)
theorem ocn_off (L : List Op4) (i : Nat) (o : Op4) (off : Int) (hi : L[i]? = some o) : (ocn L).set (i * 4 + 3) (i64 off) = ocn (L.set i (offO o off)) := by
  induction L generalizing i with
  | nil => simp at hi
  | cons y L ih =>
    cases i with
    | zero => simp at hi; subst hi; rfl
    | succ i =>
      have := ih i (by simpa using hi)
      rw [show (i + 1) * 4 + 3 = i * 4 + 3 + 4 by omega]
      show i64 y.1 :: i64 y.2.1 :: i64 y.2.2.1 :: i64 y.2.2.2 :: (ocn L).set (i * 4 + 3) (i64 off) = _
      rw [this]
      rfl
/-- An object's place is moved. -/
theorem rt_off {w : World} {base r g1 c1 J : Nat} {t2 : Value} {O : List Op4} {S : List Sl3} {o : Op4} (h : Rt w base r O S) (hb : w.heap[r]? = some (.cells #[.slice (some ⟨g1, 0, none⟩) O.length c1, t2] 30)) (hJ : O[J]? = some o) (off : Int) : Rt (w.setCell ⟨g1, J * 4 + 3, none⟩ (i64 off)) base r (O.set J (offO o off)) S ∧ w.frozen? ⟨g1, J * 4 + 3, none⟩ = false ∧ Fr base [55] w (w.setCell ⟨g1, J * 4 + 3, none⟩ (i64 off)) := by
  obtain ⟨hlo, ao, c1', a2, c2, hbk, hown, hownS⟩ := h
  have he := hb.symm.trans hbk
  simp only [Option.some.injEq, Obj.cells.injEq, List.cons.injEq, Array.mk.injEq, Value.slice.injEq, true_and, and_true] at he
  obtain ⟨⟨rfl, rfl⟩, rfl⟩ := he
  have hi : J < O.length := (List.getElem?_eq_some_iff.1 hJ).1
  obtain ⟨g, hg, hbg, cur, hgg, _⟩ := own_zeroK hown (by omega)
  simp only [Option.some.injEq, Addr.mk.injEq, and_true] at hg
  subst hg
  have hner : r ≠ g1 := fun e => by rw [e, hgg] at hbk; simp at hbk
  refine ⟨⟨hlo, some ⟨g1, 0, none⟩, c1, a2, c2, ?_, ?_, own_keep hownS fun k C hk => ?_⟩, blk_frozen hgg _, ?_⟩
  · rw [List.length_set]
    exact (Below.heap_setCell _ _ _ _ (show r ≠ g1 from hner)).trans hbk
  · rw [List.length_set, ← ocn_off O J o off hJ]
    exact own_setg hown _
  · have hne : k ≠ g1 := fun e => by rw [e, hgg] at hk; simp at hk
    exact (Below.heap_setCell _ _ _ _ (show k ≠ g1 from hne)).trans hk
  · exact Fr.of_touch (Touch.setCell (p := ⟨g1, J * 4 + 3, none⟩) (Touch.refl g1 w) rfl _) hgg rfl hbg
set_option maxRecDepth 100000 in
set_option maxHeartbeats 1600000 in
theorem rseek_none {w : World} {base r : Nat} {O : List Op4} {S : List Sl3} (p q off : Int) (h : Rt w base r O S) (hl : S.length ≤ 900) (hs : S.find? (kp p q) = none) : Calls Try.prog 31 #[pq r, i64 p, i64 q, i64 off] w fun e w' => e = .returned (i64 6) ∧ Below w.heap.size w w' := by
  have HC := hid (rget_none p q h hl hs)
  clear h hl hs
  go_enter Try.func31, Try.ntmps31
  go_wp2_with fail
  refine HC.out.mono ?_
  rintro e w2 ⟨rfl, hb⟩
  have HB : Hid (Below w.heap.size w (w2.alloc (enO 0 0 0 0 0 41))) := hb.alloc hb.size _
  clear hb HC
  go_wp2_with fail
  go_ret
  exact ⟨rfl, HB.out⟩
set_option maxRecDepth 100000 in
set_option maxHeartbeats 1600000 in
theorem rseek_arg {w : World} {base r : Nat} {O : List Op4} {S : List Sl3} (p q off : Int) (s : Sl3) (o : Op4) (h : Rt w base r O S) (hlO : O.length ≤ 900) (hl : S.length ≤ 900) (hs : S.find? (kp p q) = some s) (ho : O.find? (ko s.2.2) = some o) (hr : rightF p q o.2.1 o.2.2.1 off = false) : Calls Try.prog 31 #[pq r, i64 p, i64 q, i64 off] w fun e w' => e = .returned (i64 1) ∧ Below w.heap.size w w' := by
  have HC := hid (rget_some p q s o h hlO hl hs ho)
  have HRr : Hid (∀ W, Calls Try.prog 27 #[ev p q o.2.1 o.2.2.1 off] W fun e w' => e = .returned (.bool false) ∧ Below W.heap.size W w') := fun W => by
    have := rright_ok W p q o.2.1 o.2.2.1 off
    rw [hr] at this
    exact this
  clear h hlO hl hs ho hr
  go_enter Try.func31, Try.ntmps31
  go_wp2_with fail
  refine HC.out.mono ?_
  rintro e w2 ⟨rfl, hb⟩
  have HB : Hid (Below w.heap.size w (w2.alloc (enO p q o.2.1 o.2.2.1 off 41))) := hb.alloc hb.size _
  have HR := hid (HRr.out (w2.alloc (enO p q o.2.1 o.2.2.1 off 41)))
  clear hb HC HRr
  go_wp2_with fail
  refine HR.out.mono ?_
  rintro e w3 ⟨rfl, hb⟩
  have HB3 : Hid (Below w.heap.size w w3) := HB.out.trans (hb.mono HB.out.size)
  clear hb HR
  go_wp2_with fail
  go_ret
  exact ⟨rfl, HB3.out⟩
set_option maxRecDepth 100000 in
set_option maxHeartbeats 3200000 in
theorem rseek_yes {w : World} {base r : Nat} {O : List Op4} {S : List Sl3} (p q off : Int) (s : Sl3) (o : Op4) (h : Rt w base r O S) (hlO : O.length ≤ 900) (hl : S.length ≤ 900) (hs : S.find? (kp p q) = some s) (ho : O.find? (ko s.2.2) = some o) (hr : rightF p q o.2.1 o.2.2.1 off = true) : Calls Try.prog 31 #[pq r, i64 p, i64 q, i64 off] w fun e w' => e = .returned (i64 0) ∧ (∃ J, O[J]? = some o ∧ Rt w' base r (O.set J (offO o off)) S) ∧ Fr base [55] w w' := by
  have HC := hid (rget_some p q s o h hlO hl hs ho)
  have HRr : Hid (∀ W, Calls Try.prog 27 #[ev p q o.2.1 o.2.2.1 off] W fun e w' => e = .returned (.bool true) ∧ Below W.heap.size W w') := fun W => by
    have := rright_ok W p q o.2.1 o.2.2.1 off
    rw [hr] at this
    exact this
  have HRw := hid h
  have hlob := h.lob
  obtain ⟨K, k1, k2, k3⟩ := find_at hs
  obtain ⟨J, j1, j2, j3⟩ := find_at ho
  have HCa : Hid (∀ W, Rt W base r O S → Calls Try.prog 41 #[pq r, i64 p, i64 q] W fun e w' => e = .returned (i64 K) ∧ Below W.heap.size W w') := fun W hW => rat_some p q K s hW (by omega) k1 k2 k3
  have HCf : Hid (∀ W, Rt W base r O S → Calls Try.prog 38 #[pq r, i64 s.2.2] W fun e w' => e = .returned (i64 J) ∧ Below W.heap.size W w') := fun W hW => rfind_some s.2.2 J o hW (by omega) j1 j2 j3
  have hJN : J < O.length := (List.getElem?_eq_some_iff.1 j1).1
  have hKM : K < S.length := (List.getElem?_eq_some_iff.1 k1).1
  have HG := hid fun W (hW : Rt W base r O S) => gq_of hW j1 k1
  have HJ := hid j1
  obtain ⟨N, hN⟩ : ∃ N, N = O.length := ⟨_, rfl⟩
  obtain ⟨M, hM⟩ : ∃ M, M = S.length := ⟨_, rfl⟩
  have HN := hid hN
  rw [← hN] at hlO hJN HG
  rw [← hM] at hl hKM HG
  have hJI : (J : Int) < N := by omega
  have hJ0 : ¬ ((J : Int) < 0) := by omega
  have hKI : (K : Int) < M := by omega
  have hK0 : ¬ ((K : Int) < 0) := by omega
  clear h hs ho hr k1 k2 k3 j1 j2 j3 hN hM
  go_enter Try.func31, Try.ntmps31
  go_wp2_with fail
  refine HC.out.mono ?_
  rintro e w2 ⟨rfl, hb⟩
  have HB : Hid (Below w.heap.size w (w2.alloc (enO p q o.2.1 o.2.2.1 off 41))) := hb.alloc hb.size _
  have HR := hid (HRr.out (w2.alloc (enO p q o.2.1 o.2.2.1 off 41)))
  clear hb HC HRr
  go_wp2_with fail
  refine HR.out.mono ?_
  rintro e w3 ⟨rfl, hb⟩
  have HB3 : Hid (Below w.heap.size w w3) := HB.out.trans (hb.mono HB.out.size)
  have HR3 := hid (HRw.out.below HB3.out)
  obtain ⟨g1, c1, g2, c2, hG, hc1, hc2⟩ := HG.out w3 HR3.out
  have HG3 := hid hG
  clear hb HR hG HG
  go_upto_region 7 with fail
  have HS0 := hid HG3.out.drew
  have HR0 := hid HR3.out.drew
  have HB0 : Hid (Below w.heap.size w w3.drew) := HB3.out.drew
  refine wp_region_noPanic ?_
  refine wp_region_last (GqR r g1 N c1 J g2 M c2 K s o) 20 (by kernel_rfl) ?_
  refine wpL_take 0 26 (pq r) [] rfl rfl (by kernel_rfl) (by decide) (by kernel_rfl) (by kernel_rfl) (by kernel_rfl) (fun _ _ _ h => h) HS0.out (by rfl) (fun W hW => by have e0 := blk_cell hW.blk 0; have e1 := blk_cell hW.blk 1; simp only [List.getElem?_toArray, List.getElem?_cons_zero, List.getElem?_cons_succ] at e0 e1; have s2 := hW.s2; go_simp) ?_
  simp only [Act.put, List.setIfInBounds_toArray, List.set_cons_zero, List.set_cons_succ]
  refine wpL_take 1 27 (pq r) [] rfl rfl (by kernel_rfl) (by decide) (by kernel_rfl) (by kernel_rfl) (by kernel_rfl) (fun _ _ _ h => h) HS0.out (by rfl) (fun W hW => by have e0 := blk_cell hW.blk 0; have e1 := blk_cell hW.blk 1; simp only [List.getElem?_toArray, List.getElem?_cons_zero, List.getElem?_cons_succ] at e0 e1; have s2 := hW.s2; go_simp) ?_
  simp only [Act.put, List.setIfInBounds_toArray, List.set_cons_zero, List.set_cons_succ]
  refine wpL_take 2 28 (.pointer (some ⟨r, 0, none⟩)) [] rfl rfl (by kernel_rfl) (by decide) (by kernel_rfl) (by kernel_rfl) (by kernel_rfl) (fun _ _ _ h => h) HS0.out (by rfl) (fun W hW => by have e0 := blk_cell hW.blk 0; have e1 := blk_cell hW.blk 1; simp only [List.getElem?_toArray, List.getElem?_cons_zero, List.getElem?_cons_succ] at e0 e1; have s2 := hW.s2; go_simp) ?_
  simp only [Act.put, List.setIfInBounds_toArray, List.set_cons_zero, List.set_cons_succ]
  refine wpL_take 3 29 (.slice (some ⟨g1, 0, none⟩) N c1) [] rfl rfl (by kernel_rfl) (by decide) (by kernel_rfl) (by kernel_rfl) (by kernel_rfl) (fun _ _ _ h => h) HS0.out (by rfl) (fun W hW => by have e0 := blk_cell hW.blk 0; have e1 := blk_cell hW.blk 1; simp only [List.getElem?_toArray, List.getElem?_cons_zero, List.getElem?_cons_succ] at e0 e1; have s2 := hW.s2; go_simp) ?_
  simp only [Act.put, List.setIfInBounds_toArray, List.set_cons_zero, List.set_cons_succ]
  refine wpL_take 4 30 (pq r) [] rfl rfl (by kernel_rfl) (by decide) (by kernel_rfl) (by kernel_rfl) (by kernel_rfl) (fun _ _ _ h => h) HS0.out (by rfl) (fun W hW => by have e0 := blk_cell hW.blk 0; have e1 := blk_cell hW.blk 1; simp only [List.getElem?_toArray, List.getElem?_cons_zero, List.getElem?_cons_succ] at e0 e1; have s2 := hW.s2; go_simp) ?_
  simp only [Act.put, List.setIfInBounds_toArray, List.set_cons_zero, List.set_cons_succ]
  refine wpL_take 5 31 (pq r) [] rfl rfl (by kernel_rfl) (by decide) (by kernel_rfl) (by kernel_rfl) (by kernel_rfl) (fun _ _ _ h => h) HS0.out (by rfl) (fun W hW => by have e0 := blk_cell hW.blk 0; have e1 := blk_cell hW.blk 1; simp only [List.getElem?_toArray, List.getElem?_cons_zero, List.getElem?_cons_succ] at e0 e1; have s2 := hW.s2; go_simp) ?_
  simp only [Act.put, List.setIfInBounds_toArray, List.set_cons_zero, List.set_cons_succ]
  refine wpL_take 6 32 (pq r) [] rfl rfl (by kernel_rfl) (by decide) (by kernel_rfl) (by kernel_rfl) (by kernel_rfl) (fun _ _ _ h => h) HS0.out (by rfl) (fun W hW => by have e0 := blk_cell hW.blk 0; have e1 := blk_cell hW.blk 1; simp only [List.getElem?_toArray, List.getElem?_cons_zero, List.getElem?_cons_succ] at e0 e1; have s2 := hW.s2; go_simp) ?_
  simp only [Act.put, List.setIfInBounds_toArray, List.set_cons_zero, List.set_cons_succ]
  refine wpL_take 7 33 (.pointer (some ⟨r, 1, none⟩)) [] rfl rfl (by kernel_rfl) (by decide) (by kernel_rfl) (by kernel_rfl) (by kernel_rfl) (fun _ _ _ h => h) HS0.out (by rfl) (fun W hW => by have e0 := blk_cell hW.blk 0; have e1 := blk_cell hW.blk 1; simp only [List.getElem?_toArray, List.getElem?_cons_zero, List.getElem?_cons_succ] at e0 e1; have s2 := hW.s2; go_simp) ?_
  simp only [Act.put, List.setIfInBounds_toArray, List.set_cons_zero, List.set_cons_succ]
  refine wpL_take 8 34 (.slice (some ⟨g2, 0, none⟩) M c2) [] rfl rfl (by kernel_rfl) (by decide) (by kernel_rfl) (by kernel_rfl) (by kernel_rfl) (fun _ _ _ h => h) HS0.out (by rfl) (fun W hW => by have e0 := blk_cell hW.blk 0; have e1 := blk_cell hW.blk 1; simp only [List.getElem?_toArray, List.getElem?_cons_zero, List.getElem?_cons_succ] at e0 e1; have s2 := hW.s2; go_simp) ?_
  simp only [Act.put, List.setIfInBounds_toArray, List.set_cons_zero, List.set_cons_succ]
  refine wpL_take 9 35 (pq r) [] rfl rfl (by kernel_rfl) (by decide) (by kernel_rfl) (by kernel_rfl) (by kernel_rfl) (fun _ _ _ h => h) HS0.out (by rfl) (fun W hW => by have e0 := blk_cell hW.blk 0; have e1 := blk_cell hW.blk 1; simp only [List.getElem?_toArray, List.getElem?_cons_zero, List.getElem?_cons_succ] at e0 e1; have s2 := hW.s2; go_simp) ?_
  simp only [Act.put, List.setIfInBounds_toArray, List.set_cons_zero, List.set_cons_succ]
  refine wpL_take 10 36 (i64 p) [] rfl rfl (by kernel_rfl) (by decide) (by kernel_rfl) (by kernel_rfl) (by kernel_rfl) (fun _ _ _ h => h) HS0.out (by rfl) (fun W hW => by have e0 := blk_cell hW.blk 0; have e1 := blk_cell hW.blk 1; simp only [List.getElem?_toArray, List.getElem?_cons_zero, List.getElem?_cons_succ] at e0 e1; have s2 := hW.s2; go_simp) ?_
  simp only [Act.put, List.setIfInBounds_toArray, List.set_cons_zero, List.set_cons_succ]
  refine wpL_take 11 37 (i64 q) [] rfl rfl (by kernel_rfl) (by decide) (by kernel_rfl) (by kernel_rfl) (by kernel_rfl) (fun _ _ _ h => h) HS0.out (by rfl) (fun W hW => by have e0 := blk_cell hW.blk 0; have e1 := blk_cell hW.blk 1; simp only [List.getElem?_toArray, List.getElem?_cons_zero, List.getElem?_cons_succ] at e0 e1; have s2 := hW.s2; go_simp) ?_
  simp only [Act.put, List.setIfInBounds_toArray, List.set_cons_zero, List.set_cons_succ]
  refine wpL_take 17 43 (i64 off) [] rfl rfl (by kernel_rfl) (by decide) (by kernel_rfl) (by kernel_rfl) (by kernel_rfl) (fun _ _ _ h => h) HS0.out (by rfl) (fun W hW => by have e0 := blk_cell hW.blk 0; have e1 := blk_cell hW.blk 1; simp only [List.getElem?_toArray, List.getElem?_cons_zero, List.getElem?_cons_succ] at e0 e1; have s2 := hW.s2; go_simp) ?_
  simp only [Act.put, List.setIfInBounds_toArray, List.set_cons_zero, List.set_cons_succ]
  refine wpL_one 12 rfl (by kernel_rfl) (by rfl) (fun K' hK => ?_)
  go_simp
  refine (HCa.out _ HR0.out).mono ?_
  rintro e w4 ⟨rfl, hb⟩
  have HS1 := hid (HS0.out.below hb)
  have HR4 := hid (HR0.out.below hb)
  have HB4 : Hid (Below w.heap.size w w4) := HB0.out.trans (hb.mono HB0.out.size)
  clear hb
  go_simp
  refine hK.out _ _ (fun _ => HS1.out) ?_
  clear hK K'
  refine wpL_take 13 39 (.pointer (some ⟨g2, K * 3, none⟩)) [] rfl rfl (by kernel_rfl) (by decide) (by kernel_rfl) (by kernel_rfl) (by kernel_rfl) (fun _ _ _ h => h) HS1.out (by rfl) (fun W hW => by have e0 := blk_cell hW.blk 0; have e1 := blk_cell hW.blk 1; simp only [List.getElem?_toArray, List.getElem?_cons_zero, List.getElem?_cons_succ] at e0 e1; have s2 := hW.s2; go_simp) ?_
  simp only [Act.put, List.setIfInBounds_toArray, List.set_cons_zero, List.set_cons_succ]
  refine wpL_take 14 40 (.pointer (some ⟨g2, K * 3 + 2, none⟩)) [] rfl rfl (by kernel_rfl) (by decide) (by kernel_rfl) (by kernel_rfl) (by kernel_rfl) (fun _ _ _ h => h) HS1.out (by rfl) (fun W hW => by have e0 := blk_cell hW.blk 0; have e1 := blk_cell hW.blk 1; simp only [List.getElem?_toArray, List.getElem?_cons_zero, List.getElem?_cons_succ] at e0 e1; have s2 := hW.s2; go_simp) ?_
  simp only [Act.put, List.setIfInBounds_toArray, List.set_cons_zero, List.set_cons_succ]
  refine wpL_take 15 41 (i64 s.2.2) [] rfl rfl (by kernel_rfl) (by decide) (by kernel_rfl) (by kernel_rfl) (by kernel_rfl) (fun _ _ _ h => h) HS1.out (by rfl) (fun W hW => by have e0 := blk_cell hW.blk 0; have e1 := blk_cell hW.blk 1; simp only [List.getElem?_toArray, List.getElem?_cons_zero, List.getElem?_cons_succ] at e0 e1; have s2 := hW.s2; go_simp) ?_
  simp only [Act.put, List.setIfInBounds_toArray, List.set_cons_zero, List.set_cons_succ]
  refine wpL_one 16 rfl (by kernel_rfl) (by rfl) (fun K' hK => ?_)
  go_simp
  refine (HCf.out _ HR4.out).mono ?_
  rintro e w5 ⟨rfl, hb⟩
  have HS2 := hid (HS1.out.below hb)
  have HR5 := hid (HR4.out.below hb)
  have HB5 : Hid (Below w.heap.size w w5) := HB4.out.trans (hb.mono HB4.out.size)
  clear hb
  obtain ⟨hFin, xf, hFr⟩ := rt_off HR5.out (by rw [← HN.out]; exact HS2.out.blk) HJ.out off
  have HFin := hid hFin
  have HFr := hid hFr
  have xc := HS2.out.o3
  clear hFin hFr
  go_simp
  refine hK.out _ _ (fun _ => HS2.out) ?_
  clear hK K'
  refine wpL_take 18 44 (.pointer (some ⟨g1, J * 4, none⟩)) [19] rfl rfl (by kernel_rfl) (by decide) (by kernel_rfl) (by kernel_rfl) (by kernel_rfl) (fun _ _ _ h => h) HS2.out (by rfl) (fun W hW => by have e0 := blk_cell hW.blk 0; have e1 := blk_cell hW.blk 1; simp only [List.getElem?_toArray, List.getElem?_cons_zero, List.getElem?_cons_succ] at e0 e1; have s2 := hW.s2; go_simp) ?_
  simp only [Act.put, List.setIfInBounds_toArray, List.set_cons_zero, List.set_cons_succ]
  refine wpL_take 19 45 (.pointer (some ⟨g1, J * 4 + 3, none⟩)) [] rfl rfl (by kernel_rfl) (by decide) (by kernel_rfl) (by kernel_rfl) (by kernel_rfl) (fun _ _ _ h => h) HS2.out (by rfl) (fun W hW => by have e0 := blk_cell hW.blk 0; have e1 := blk_cell hW.blk 1; simp only [List.getElem?_toArray, List.getElem?_cons_zero, List.getElem?_cons_succ] at e0 e1; have s2 := hW.s2; go_simp) ?_
  simp only [Act.put, List.setIfInBounds_toArray, List.set_cons_zero, List.set_cons_succ]
  refine wpL_one 20 rfl (by kernel_rfl) (by rfl) (fun K' hK => ?_)
  go_simp
  refine hK.out _ _ (fun h => absurd rfl h) ?_
  clear hK K'
  refine wpL_done (by kernel_rfl) ?_
  refine NoPanic.normal ?_
  go_wp2_with fail
  go_ret
  exact ⟨rfl, ⟨J, HJ.out, HFin.out⟩, (Fr.of_below _ HB5.out hlob).trans HFr.out⟩
end Go.Proofs.Ytaapiffglfppnaa
