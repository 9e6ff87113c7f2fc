/- imagoref15's Parse: its contract; no statement is proved in this text. -/
import Derived.Test.YteecjilknembdaaDoorFs
import Derived.Test.YteecjilknembdaaDoorPar
import Derived.Test.YteecjilknembdaaDoorPl4
import Derived.Test.YteecjilknembdaaDoorLg2
namespace Go.Proofs.YteecjilknembdaaDoor
open Go.ChangeShapes Go.WideShapes Go.ChangeAt Go.RowKit Go.Deep
attribute [local go_sem ↓] Go.wp_at_zero Go.wp_at_succ

theorem smallL_app : ∀ (a b : List Ty), smallL (a ++ b) = (smallL a && smallL b)
  | [], b => by simp [smallL]
  | t :: r, b => by simp [smallL, smallL_app r b, Bool.and_assoc]
theorem countL_app : ∀ (a b : List Ty), countL (a ++ b) = countL a + countL b
  | [], b => by simp [countL]
  | t :: r, b => by simp [countL, countL_app r b]; omega
theorem recD_cnt (read : Bs → Option (Ty × Bs)) (hread : ∀ l t r, read l = some (t, r) → t.count + r.length ≤ l.length ∧ t.small = true) : ∀ (m : Nat) (s : Bs) (N : List Bs) (K : List Ty) (t : Ty) (r : Bs), N.length = K.length → N.length + m ≤ 13 → smallL K = true → recD read m s N K = some (t, r) → t.count + r.length ≤ 1 + countL K + s.length ∧ t.small = true
  | 0, _, _, _, _, _, _, _, _, h => by cases h
  | m + 1, s, N, K, t, r, hl, hm, hK, h => by
    rw [recD_step read m s _ _ N K rfl rfl] at h
    have hd : (s.dropWhile isLow).length ≤ s.length := (List.dropWhile_suffix _).length_le
    cases hdw : s.dropWhile isLow with
    | nil => rw [hdw] at h; cases h
    | cons c l =>
      rw [hdw] at h hd
      rw [List.length_cons] at hd
      split at h
      · rw [List.tail_cons] at h
        rcases hr : read l with _ | ⟨t1, r1⟩
        · rw [hr] at h; cases h
        · rw [hr] at h
          obtain ⟨g1, g2⟩ := hread l t1 r1 hr
          simp only [recDm, recDe] at h
          have hK1 : smallL (K ++ [t1]) = true := by rw [smallL_app, hK]; simp [smallL, g2]
          have hc1 : countL (K ++ [t1]) = countL K + t1.count := by rw [countL_app]; simp [countL]
          split at h
          · cases h
            rename_i h41
            cases r1 with
            | nil => cases h41
            | cons c2 r2 =>
              rw [List.length_cons] at g1
              simp only [Ty.count, Ty.small, List.tail_cons, hc1, hK1, List.length_append, List.length_cons, List.length_nil, Bool.and_true, decide_eq_true_eq]
              omega
          · split at h
            · rename_i h44
              cases r1 with
              | nil => cases h44
              | cons c2 r2 =>
                rw [List.length_cons] at g1
                rw [List.tail_cons] at h
                obtain ⟨i1, i2⟩ := recD_cnt read hread m r2 _ _ t r (by simp [hl]) (by simp; omega) hK1 h
                exact ⟨by omega, i2⟩
            · cases h
      · cases h
theorem takeD_cnt : ∀ (f : Nat) (s : Bs) (t : Ty) (r : Bs), takeD f s = some (t, r) → t.count + r.length ≤ s.length ∧ t.small = true
  | 0, _, _, _, h => by cases h
  | f + 1, [], _, _, h => by cases h
  | f + 1, c :: l, t, r, h => by
    simp only [takeD] at h
    split at h
    · rename_i h0
      obtain ⟨i1, i2⟩ := recD_cnt _ (takeD_cnt f) 13 _ _ _ _ _ rfl (by simp) rfl h
      cases l with
      | nil => simp at h0
      | cons c2 l2 =>
        simp only [List.tail_cons, countL] at i1
        simp only [List.length_cons]
        exact ⟨by omega, i2⟩
    · split at h
      · cases h
      · rename_i n r2 hn
        have h2 := (numD_suf hn).length_le
        split at h
        · cases h; simp [Ty.count, countL, Ty.small, smallL]; omega
        · split at h
          · cases h; simp [Ty.count, countL, Ty.small, smallL]; omega
          · split at h
            · split at h
              · rename_i r3
                split at h
                · rename_i t4 r4 h4
                  cases h
                  obtain ⟨i1, i2⟩ := takeD_cnt f _ _ _ h4
                  simp only [List.length_cons] at i1 h2 ⊢
                  simp [Ty.count, countL, Ty.small, smallL, i2]
                  omega
                · cases h
              · cases h
            · cases h
theorem pd_no {l : Bs} (h : takeD 6 l = none) : parseF l = none := by rw [← parse_same]; unfold parseD; rw [h]
theorem pd_more {l : Bs} {T : Ty} {r : Bs} (h : takeD 6 l = some (T, r)) (hr : r ≠ []) : parseF l = none := by
  rw [← parse_same]
  unfold parseD
  rw [h]
  cases r with
  | nil => exact absurd rfl hr
  | cons => rfl
theorem pd_bad {l : Bs} {T : Ty} (h : takeD 6 l = some (T, [])) (hr : T.err ≠ 0) : parseF l = none := by
  rw [← parse_same]
  unfold parseD
  rw [h]
  exact if_neg (fun e => hr ((right_err T).1 e))
theorem pd_good {l : Bs} {T : Ty} (h : takeD 6 l = some (T, [])) (hr : T.err = 0) : parseF l = some T := by
  rw [← parse_same]
  unfold parseD
  rw [h]
  exact if_pos ((right_err T).2 hr)
theorem parT_cnt (l : Bs) : (parT l).count ≤ 100 := by
  cases h : parseF l with
  | none => rw [(parse_4 h).1]; decide
  | some t =>
    rw [(parse_0 h).1]
    obtain ⟨h1, _⟩ := parseF_back h
    unfold Ty.right at h1
    simp only [Bool.and_eq_true, decide_eq_true_eq] at h1
    exact h1.1.2
theorem below4 {w W : World} {lo R : Nat} (h : Below lo w W) (hR : lo ≤ R) (a0 a1 a2 a3 : Value) : Below lo w ((((W.setCell ⟨R, 0, none⟩ a0).setCell ⟨R, 1, none⟩ a1).setCell ⟨R, 2, none⟩ a2).setCell ⟨R, 3, none⟩ a3) :=
  (((h.setCell (p := ⟨R, 0, none⟩) hR _).setCell (p := ⟨R, 1, none⟩) hR _).setCell (p := ⟨R, 2, none⟩) hR _).setCell (p := ⟨R, 3, none⟩) hR _
theorem Rd.set4lo {w : World} {lo lo' R : Nat} {T : Ty} {nv kv : Value} (h : Rd w (fun b => lo' ≤ b) T nv kv) (h1 : R < lo') (h2 : lo ≤ lo') (a0 a1 a2 a3 : Value) : Rd ((((w.setCell ⟨R, 0, none⟩ a0).setCell ⟨R, 1, none⟩ a1).setCell ⟨R, 2, none⟩ a2).setCell ⟨R, 3, none⟩ a3) (fun b => lo ≤ b) T nv kv := by
  refine h.move (by simp [World.setCell]) (fun b hb _ => ⟨by omega, ?_⟩)
  have hne : b ≠ R := by omega
  rw [Below.heap_setCell _ _ _ _ hne, Below.heap_setCell _ _ _ _ hne, Below.heap_setCell _ _ _ _ hne, Below.heap_setCell _ _ _ _ hne]
set_option maxRecDepth 100000 in
set_option maxHeartbeats 3200000 in
theorem rparse_ok (s : ByteArray) (w : World) (hs : s.size ≤ 90000) : Calls Tryd.prog 16 #[.string s] w (ParOk w s.data.toList) := by
  obtain ⟨ro, hro⟩ : ∃ ro, ro = takeD 6 s.data.toList := ⟨_, rfl⟩
  have HRo := hid hro
  have HTK0 : Hid (∀ W, Calls Tryd.prog 33 #[.string s, i64 0, i64 6] W (Gok W s.size ro)) := by
    show ∀ W, _
    intro W
    have := tkd_any s (by omega) 6 (Nat.le_refl _) W 0 (Nat.zero_le _)
    rw [List.drop_zero, ← hro] at this
    exact this
  have hlen : s.data.toList.length = s.size := by rw [Array.length_toList]; rfl
  generalize s.data.toList = l at *
  have HLe := hid hlen
  clear hro hlen
  have HX : Hid ((w.alloc (.cells #[i64 0, i64 0, .slice none 0 0, .slice none 0 0] 37)).heap[w.heap.size]? = some (.cells #[i64 0, i64 0, .slice none 0 0, .slice none 0 0] 37)) := heap_last w _
  have HBV : Hid (Below w.heap.size w (w.alloc (.cells #[i64 0, i64 0, .slice none 0 0, .slice none 0 0] 37))) := below_one w _
  go_enter Tryd.func16, Tryd.ntmps16
  go_upto_region 1 with fail
  obtain ⟨R, hR⟩ : ∃ R, R = w.heap.size := ⟨_, rfl⟩
  have HRe : Hid (w.heap.size ≤ R) := by show _ ≤ _; omega
  rw [← hR] at HX ⊢
  clear hR
  generalize w.alloc (.cells #[i64 0, i64 0, .slice none 0 0, .slice none 0 0] 37) = V at *
  go_wp2_with fail
  refine (HTK0.out V).mono ?_
  rintro e w2 ⟨hb2, hno, hyes⟩
  have HBw : Hid (Below w.heap.size w w2) := HBV.out.trans (hb2.mono HBV.out.size)
  have HX2 : Hid (w2.heap[R]? = some (.cells #[i64 0, i64 0, .slice none 0 0, .slice none 0 0] 37)) := blk_below HX.out hb2
  have HNO := hid hno
  have HYES := hid hyes
  have HRV : Hid (R < V.heap.size) := blk_lt HX.out
  have HwV : Hid (w.heap.size ≤ V.heap.size) := HBV.out.size
  clear hb2 hno hyes HTK0
  rcases hre : ro with _ | ⟨T, rr⟩
  · obtain rfl := HNO.out hre
    have HPF : Hid (parseF l = none) := pd_no (HRo.out.symm.trans hre)
    have qn : ((-1 : Int) != (s.size : Int)) = true := by simp <;> omega
    clear hre
    have HB3 : Hid (Below w.heap.size w (w2.alloc (.cells #[i64 0, i64 0, .slice none 0 0, .slice none 0 0, i64 (-1)] 63))) := HBw.out.trans ((below_one w2 _).mono HBw.out.size)
    have HX3 : Hid ((w2.alloc (.cells #[i64 0, i64 0, .slice none 0 0, .slice none 0 0, i64 (-1)] 63)).heap[R]? = some (.cells #[i64 0, i64 0, .slice none 0 0, .slice none 0 0] 37)) := blk_alloc HX2.out _
    have HG3 : Hid ((w2.alloc (.cells #[i64 0, i64 0, .slice none 0 0, .slice none 0 0, i64 (-1)] 63)).heap[w2.heap.size]? = some (.cells #[i64 0, i64 0, .slice none 0 0, .slice none 0 0, i64 (-1)] 63)) := heap_last w2 _
    have HGR : Hid (w.heap.size ≤ w2.heap.size) := HBw.out.size

    go_upto_region 2 with fail
    obtain ⟨G, hG⟩ : ∃ G, G = w2.heap.size := ⟨_, rfl⟩
    rw [← hG] at HG3 HGR ⊢
    clear hG
    generalize w2.alloc (.cells #[i64 0, i64 0, .slice none 0 0, .slice none 0 0, i64 (-1)] 63) = X at *
    have gc0 : X.cell? ⟨G, 0, none⟩ = some (i64 0) := blk_cell HG3.out 0
    have gc1 : X.cell? ⟨G, 1, none⟩ = some (i64 0) := blk_cell HG3.out 1
    have gc2 : X.cell? ⟨G, 2, none⟩ = some (.slice none 0 0) := blk_cell HG3.out 2
    have gc3 : X.cell? ⟨G, 3, none⟩ = some (.slice none 0 0) := blk_cell HG3.out 3
    have gc4 : X.cell? ⟨G, 4, none⟩ = some (i64 (-1)) := blk_cell HG3.out 4
    have rc0 : X.cell? ⟨R, 0, none⟩ = some (i64 0) := blk_cell HX3.out 0
    have rf0 : X.frozen? ⟨R, 0, none⟩ = false := blk_frozen HX3.out 0
    have rc1 : X.cell? ⟨R, 1, none⟩ = some (i64 0) := blk_cell HX3.out 1
    have rf1 : X.frozen? ⟨R, 1, none⟩ = false := blk_frozen HX3.out 1
    have rc2 : X.cell? ⟨R, 2, none⟩ = some (.slice none 0 0) := blk_cell HX3.out 2
    have rf2 : X.frozen? ⟨R, 2, none⟩ = false := blk_frozen HX3.out 2
    have rc3 : X.cell? ⟨R, 3, none⟩ = some (.slice none 0 0) := blk_cell HX3.out 3
    have rf3 : X.frozen? ⟨R, 3, none⟩ = false := blk_frozen HX3.out 3
    go_wp2_with fail
    refine bodyPost_ret (v := .tuple #[tyV 0 0 (.slice none 0 0) (.slice none 0 0), i64 4]) (results_cell Tryd.results16 rfl rfl (load37 (set4 HX3.out _ _ _ _))) rfl ?_
    obtain ⟨p1, p2⟩ := parse_4 HPF.out
    refine ⟨none, 0, 0, none, 0, 0, by rw [p1, p2]; rfl, below4 HB3.out HRe.out _ _ _ _, ?_⟩
    rw [p1]
    exact Rd.leaf _ _ _ _
  · obtain ⟨b1, n1, c1, b2, n2, c2, rfl, hrd⟩ := HYES.out T rr hre
    obtain ⟨hc1, hc2⟩ := takeD_cnt 6 _ T rr (HRo.out.symm.trans hre)
    have hll := HLe.out
    obtain ⟨F, hF⟩ : ∃ F, F = s.size - rr.length := ⟨_, rfl⟩
    rw [← hF]
    have hF1 : F ≤ 1000000 := by omega
    have HTD : Hid (takeD 6 l = some (T, rr)) := HRo.out.symm.trans hre
    have HRD0 := hid hrd
    have HC1 : Hid (T.count ≤ 100000) := by show _ ≤ _; omega
    have HC2 := hid hc2
    have HFe := hid hF
    clear hre hrd hc2 hll hF
    have HB3 : Hid (Below w.heap.size w (w2.alloc (.cells #[i64 T.kind, i64 T.num, .slice b1 n1 c1, .slice b2 n2 c2, i64 F] 63))) := HBw.out.trans ((below_one w2 _).mono HBw.out.size)
    have HX3 : Hid ((w2.alloc (.cells #[i64 T.kind, i64 T.num, .slice b1 n1 c1, .slice b2 n2 c2, i64 F] 63)).heap[R]? = some (.cells #[i64 0, i64 0, .slice none 0 0, .slice none 0 0] 37)) := blk_alloc HX2.out _
    have HG3 : Hid ((w2.alloc (.cells #[i64 T.kind, i64 T.num, .slice b1 n1 c1, .slice b2 n2 c2, i64 F] 63)).heap[w2.heap.size]? = some (.cells #[i64 T.kind, i64 T.num, .slice b1 n1 c1, .slice b2 n2 c2, i64 F] 63)) := heap_last w2 _
    have HGR : Hid (w.heap.size ≤ w2.heap.size) := HBw.out.size
    have HRD : Hid (Rd (w2.alloc (.cells #[i64 T.kind, i64 T.num, .slice b1 n1 c1, .slice b2 n2 c2, i64 F] 63)) (fun b => V.heap.size ≤ b) T (.slice b1 n1 c1) (.slice b2 n2 c2)) := HRD0.out.under (below_one w2 _)
    clear HRD0
    go_upto_region 2 with fail
    obtain ⟨G, hG⟩ : ∃ G, G = w2.heap.size := ⟨_, rfl⟩
    rw [← hG] at HG3 HGR ⊢
    clear hG
    generalize w2.alloc (.cells #[i64 T.kind, i64 T.num, .slice b1 n1 c1, .slice b2 n2 c2, i64 F] 63) = X at *
    have gc0 : X.cell? ⟨G, 0, none⟩ = some (i64 T.kind) := blk_cell HG3.out 0
    have gc1 : X.cell? ⟨G, 1, none⟩ = some (i64 T.num) := blk_cell HG3.out 1
    have gc2 : X.cell? ⟨G, 2, none⟩ = some (.slice b1 n1 c1) := blk_cell HG3.out 2
    have gc3 : X.cell? ⟨G, 3, none⟩ = some (.slice b2 n2 c2) := blk_cell HG3.out 3
    have gc4 : X.cell? ⟨G, 4, none⟩ = some (i64 F) := blk_cell HG3.out 4
    by_cases hrr : rr = []
    · subst hrr
      have hFe : (F : Int) = s.size := by have hF := HFe.out; simp at hF; omega
      have qn : ((F : Int) != (s.size : Int)) = false := by simp [hFe]
      have HCK := hid (rcheck_ok T X (fun b => V.heap.size ≤ b) _ _ HRD.out HC1.out HC2.out)
      obtain ⟨Er, hEr⟩ : ∃ Er, Er = T.err := ⟨_, rfl⟩
      rw [← hEr] at HCK
      have HEr := hid hEr
      clear hFe hEr hc1
      by_cases hE0 : Er = 0
      · have HPF : Hid (parseF l = some T) := pd_good HTD.out (HEr.out.symm.trans hE0)
        subst hE0
        go_wp2_with fail
        refine HCK.out.mono ?_
        rintro e w4 ⟨rfl, hb4⟩
        have HB4 : Hid (Below w.heap.size w w4) := HB3.out.trans (hb4.mono HB3.out.size)
        have HX4 : Hid (w4.heap[R]? = some (.cells #[i64 0, i64 0, .slice none 0 0, .slice none 0 0] 37)) := blk_below HX3.out hb4
        have HG4 : Hid (w4.heap[G]? = some (.cells #[i64 T.kind, i64 T.num, .slice b1 n1 c1, .slice b2 n2 c2, i64 F] 63)) := blk_below HG3.out hb4
        have HRD4 : Hid (Rd w4 (fun b => V.heap.size ≤ b) T (.slice b1 n1 c1) (.slice b2 n2 c2)) := HRD.out.under hb4
        clear hb4 gc0 gc1 gc2 gc3 gc4
        have rc0 : w4.cell? ⟨R, 0, none⟩ = some (i64 0) := blk_cell HX4.out 0
        have rf0 : w4.frozen? ⟨R, 0, none⟩ = false := blk_frozen HX4.out 0
        have rc1 : w4.cell? ⟨R, 1, none⟩ = some (i64 0) := blk_cell HX4.out 1
        have rf1 : w4.frozen? ⟨R, 1, none⟩ = false := blk_frozen HX4.out 1
        have rc2 : w4.cell? ⟨R, 2, none⟩ = some (.slice none 0 0) := blk_cell HX4.out 2
        have rf2 : w4.frozen? ⟨R, 2, none⟩ = false := blk_frozen HX4.out 2
        have rc3 : w4.cell? ⟨R, 3, none⟩ = some (.slice none 0 0) := blk_cell HX4.out 3
        have rf3 : w4.frozen? ⟨R, 3, none⟩ = false := blk_frozen HX4.out 3
        have gc0 : w4.cell? ⟨G, 0, none⟩ = some (i64 T.kind) := blk_cell HG4.out 0
        have gc1 : w4.cell? ⟨G, 1, none⟩ = some (i64 T.num) := blk_cell HG4.out 1
        have gc2 : w4.cell? ⟨G, 2, none⟩ = some (.slice b1 n1 c1) := blk_cell HG4.out 2
        have gc3 : w4.cell? ⟨G, 3, none⟩ = some (.slice b2 n2 c2) := blk_cell HG4.out 3
        have gc4 : w4.cell? ⟨G, 4, none⟩ = some (i64 F) := blk_cell HG4.out 4
        go_wp2_with fail
        refine bodyPost_ret (v := .tuple #[tyV T.kind T.num (.slice b1 n1 c1) (.slice b2 n2 c2), i64 0]) (results_cell Tryd.results16 rfl rfl (load37 (set4 HX4.out _ _ _ _))) rfl ?_
        obtain ⟨p1, p2⟩ := parse_0 HPF.out
        refine ⟨b1, n1, c1, b2, n2, c2, by rw [p1, p2], below4 HB4.out HRe.out _ _ _ _, ?_⟩
        rw [p1]
        exact HRD4.out.set4lo HRV.out HwV.out _ _ _ _
      · have HPF : Hid (parseF l = none) := pd_bad HTD.out (fun e => hE0 (HEr.out.trans e))
        have qe : (Er != 0) = true := by simpa using hE0
        have HE0 := hid hE0
        clear hE0
        go_wp2_with fail
        refine HCK.out.mono ?_
        rintro e w4 ⟨rfl, hb4⟩
        have HB4 : Hid (Below w.heap.size w w4) := HB3.out.trans (hb4.mono HB3.out.size)
        have HX4 : Hid (w4.heap[R]? = some (.cells #[i64 0, i64 0, .slice none 0 0, .slice none 0 0] 37)) := blk_below HX3.out hb4
        clear hb4 gc0 gc1 gc2 gc3 gc4
        have rc0 : w4.cell? ⟨R, 0, none⟩ = some (i64 0) := blk_cell HX4.out 0
        have rf0 : w4.frozen? ⟨R, 0, none⟩ = false := blk_frozen HX4.out 0
        have rc1 : w4.cell? ⟨R, 1, none⟩ = some (i64 0) := blk_cell HX4.out 1
        have rf1 : w4.frozen? ⟨R, 1, none⟩ = false := blk_frozen HX4.out 1
        have rc2 : w4.cell? ⟨R, 2, none⟩ = some (.slice none 0 0) := blk_cell HX4.out 2
        have rf2 : w4.frozen? ⟨R, 2, none⟩ = false := blk_frozen HX4.out 2
        have rc3 : w4.cell? ⟨R, 3, none⟩ = some (.slice none 0 0) := blk_cell HX4.out 3
        have rf3 : w4.frozen? ⟨R, 3, none⟩ = false := blk_frozen HX4.out 3
        go_wp2_with fail
        refine bodyPost_ret (v := .tuple #[tyV 0 0 (.slice none 0 0) (.slice none 0 0), i64 4]) (results_cell Tryd.results16 rfl rfl (load37 (set4 HX4.out _ _ _ _))) rfl ?_
        obtain ⟨p1, p2⟩ := parse_4 HPF.out
        refine ⟨none, 0, 0, none, 0, 0, by rw [p1, p2]; rfl, below4 HB4.out HRe.out _ _ _ _, ?_⟩
        rw [p1]
        exact Rd.leaf _ _ _ _
    · have HPF : Hid (parseF l = none) := pd_more HTD.out hrr
      have hpos : 0 < rr.length := List.length_pos_iff.2 hrr
      have qn : ((F : Int) != (s.size : Int)) = true := by have := HLe.out; have hF := HFe.out; simp; omega
      clear hpos hc1 hrr
      have rc0 : X.cell? ⟨R, 0, none⟩ = some (i64 0) := blk_cell HX3.out 0
      have rf0 : X.frozen? ⟨R, 0, none⟩ = false := blk_frozen HX3.out 0
      have rc1 : X.cell? ⟨R, 1, none⟩ = some (i64 0) := blk_cell HX3.out 1
      have rf1 : X.frozen? ⟨R, 1, none⟩ = false := blk_frozen HX3.out 1
      have rc2 : X.cell? ⟨R, 2, none⟩ = some (.slice none 0 0) := blk_cell HX3.out 2
      have rf2 : X.frozen? ⟨R, 2, none⟩ = false := blk_frozen HX3.out 2
      have rc3 : X.cell? ⟨R, 3, none⟩ = some (.slice none 0 0) := blk_cell HX3.out 3
      have rf3 : X.frozen? ⟨R, 3, none⟩ = false := blk_frozen HX3.out 3
      go_wp2_with fail
      refine bodyPost_ret (v := .tuple #[tyV 0 0 (.slice none 0 0) (.slice none 0 0), i64 4]) (results_cell Tryd.results16 rfl rfl (load37 (set4 HX3.out _ _ _ _))) rfl ?_
      obtain ⟨p1, p2⟩ := parse_4 HPF.out
      refine ⟨none, 0, 0, none, 0, 0, by rw [p1, p2]; rfl, below4 HB3.out HRe.out _ _ _ _, ?_⟩
      rw [p1]
      exact Rd.leaf _ _ _ _
end Go.Proofs.YteecjilknembdaaDoor
