/- ValsMisfit's walk; no statement is proved in this text. -/
import Derived.Test.YtgiemijhndanjaaDoorDfP
import Derived.Test.YtgiemijhndanjaaDoorFv
import Derived.Test.YtgiemijhndanjaaDoorMu
import Derived.Test.YtgiemijhndanjaaDoorRck
import Derived.Test.YtgiemijhndanjaaDoorAl
import Derived.Test.YtgiemijhndanjaaDoorKd
import Derived.Test.YtgiemijhndanjaaDoorVa
namespace Go.Proofs.YtgiemijhndanjaaDoor
open Go.ChangeShapes Go.WideShapes Go.ChangeAt Go.RowKit Go.Deep
attribute [local go_sem ↓] Go.wp_at_zero Go.wp_at_succ

theorem first_head {V : Vl} {T : Ty} {x : Nat} {r : List Nat} (h : firstF V T = x :: r) : x = 0 := by
  rw [firstF_eq] at h
  split at h
  · have hl : ∀ (l : List Vl) (k : Nat), firstL l k T = x :: r → x = 0 := by
      intro l
      induction l with
      | nil => intro k h; cases h
      | cons v r' ih =>
        intro k h
        simp only [firstL] at h
        split at h
        · exact ih _ h
        · cases h; rfl
    exact hl _ _ h
  · cases h; rfl
theorem firstL_cons {T : Ty} {j : Nat} {r : List Nat} : ∀ (l : List Vl) (k : Nat), firstL l k T = 0 :: j :: r → ∃ i, j = k + i ∧ ∃ h : i < l.length, firstF l[i] (kidT T (k + i)) = 0 :: r
  | [], _, h => by cases h
  | v :: l, k, h => by
    simp only [firstL] at h
    split at h
    · obtain ⟨i, h1, h2, h3⟩ := firstL_cons l (k + 1) h
      refine ⟨i + 1, by omega, by simpa using h2, ?_⟩
      rw [show k + (i + 1) = k + 1 + i by omega]
      exact h3
    · rename_i h0
      cases hf : firstF v (kidT T k) with
      | nil => rw [hf] at h0; exact absurd rfl h0
      | cons x s =>
        rw [hf] at h
        have hx := first_head hf
        simp only [List.tail_cons, List.cons.injEq, true_and] at h
        obtain ⟨rfl, rfl⟩ := h
        subst hx
        exact ⟨0, rfl, by simp, hf⟩
theorem firstL_two {T : Ty} : ∀ (l : List Vl) (k : Nat), firstL l k T ≠ [0]
  | [], _, h => by cases h
  | v :: l, k, h => by
    simp only [firstL] at h
    split at h
    · exact firstL_two l _ h
    · cases h
theorem first_cons {V : Vl} {T : Ty} {j : Nat} {r : List Nat} (h : firstF V T = 0 :: j :: r) : aloneB V T = true ∧ ∃ hj : j < V.kids.length, firstF V.kids[j] (kidT T j) = 0 :: r := by
  rw [firstF_eq] at h
  split at h
  · rename_i ha
    obtain ⟨i, h1, h2, h3⟩ := firstL_cons _ _ h
    rw [Nat.zero_add] at h1 h3
    subst h1
    exact ⟨ha, h2, h3⟩
  · cases h
theorem first_one {V : Vl} {T : Ty} (h : firstF V T = [0]) : aloneB V T = false := by
  rw [firstF_eq] at h
  split at h
  · exact absurd h (firstL_two _ _)
  · rename_i ha
    simpa using ha
theorem alone28 (V : Vl) (T : Ty) (w : World) (S S' : Nat → Prop) (kv nv tv : Value) (hV : Vd w S V kv) (hR : Rd w S' T nv tv) (hf : T.formed = true) : Calls Tryd.prog 28 #[vlV V kv, tyV T.kind T.num nv tv] w fun e w' => e = .returned (.bool (aloneB V T)) ∧ Below w.heap.size w w' := by
  have h1 := hV.lens
  have h2 := hR.lens
  obtain ⟨ak, ck, rfl⟩ := hV.form
  obtain ⟨an, cn, rfl, at_, ct, rfl⟩ := hR.form
  exact al_in _ _ _ _ _ _ _ _ _ _ _ _ _ _ w h1.1 h1.2 h2.2 (formed_int hf) (kinds hf)
theorem vset4 {w : World} {S : Nat → Prop} {R : Nat} {V : Vl} {kv : Value} (h : Vd w S V kv) (hS : ∀ b, S b → b ≠ R) (a0 a1 a2 a3 : Value) : Vd ((((w.setCell ⟨R, 0, none⟩ a0).setCell ⟨R, 1, none⟩ a1).setCell ⟨R, 2, none⟩ a2).setCell ⟨R, 3, none⟩ a3) S V kv := by
  refine h.move (by simp [World.setCell]) (fun b hb _ => ⟨hb, ?_⟩)
  have hne := hS b hb
  rw [Below.heap_setCell _ _ _ _ hne, Below.heap_setCell _ _ _ _ hne, Below.heap_setCell _ _ _ _ hne, Below.heap_setCell _ _ _ _ hne]
theorem rset4 {w : World} {S : Nat → Prop} {R : Nat} {T : Ty} {nv kv : Value} (h : Rd w S T nv kv) (hS : ∀ b, S b → b ≠ R) (a0 a1 a2 a3 : Value) : Rd ((((w.setCell ⟨R, 0, none⟩ a0).setCell ⟨R, 1, none⟩ a1).setCell ⟨R, 2, none⟩ a2).setCell ⟨R, 3, none⟩ a3) S T nv kv := by
  refine h.move (by simp [World.setCell]) (fun b hb _ => ⟨hb, ?_⟩)
  have hne := hS b hb
  rw [Below.heap_setCell _ _ _ _ hne, Below.heap_setCell _ _ _ _ hne, Below.heap_setCell _ _ _ _ hne, Below.heap_setCell _ _ _ _ hne]
set_option maxRecDepth 100000 in
set_option maxHeartbeats 12800000 in
theorem misfit_walk (w : World) (hE : Env w) (V : Vl) (kv : Value) (hV : Vd w (fun _ => True) V kv) (T : Ty) (nv tv : Value) (hR : Rd w (fun _ => True) T nv tv) : Calls Tryd.prog 7 #[vlV V kv, tyV T.kind T.num nv tv] w fun e w' => e = .returned (.bool true) ∧ Below w.heap.size w w' := by
  have HFV : Hid (∀ W, Below w.heap.size w W → Calls Tryd.prog 10 #[] W fun e w' => e = .returned (.bool true) ∧ Below W.heap.size W w') := fun W hW => five_ok W (hE.below hW)
  have HVd := hid hV
  have HRd := hid hR
  obtain ⟨ak, ck, rfl⟩ := hV.form
  obtain ⟨an, cn, rfl, at_, ct, rfl⟩ := hR.form
  have HX : Hid (((w.alloc (.cells #[i64 V.kind, i64 V.num, str V.s, .slice ak V.kids.length ck] 24)).alloc (.cells #[i64 T.kind, i64 T.num, .slice an T.names.length cn, .slice at_ T.kids.length ct] 28)).heap[w.heap.size]? = some (.cells #[i64 V.kind, i64 V.num, str V.s, .slice ak V.kids.length ck] 24)) := blk_alloc (heap_last w _) _
  have HY : Hid (((w.alloc (.cells #[i64 V.kind, i64 V.num, str V.s, .slice ak V.kids.length ck] 24)).alloc (.cells #[i64 T.kind, i64 T.num, .slice an T.names.length cn, .slice at_ T.kids.length ct] 28)).heap[w.heap.size + 1]? = some (.cells #[i64 T.kind, i64 T.num, .slice an T.names.length cn, .slice at_ T.kids.length ct] 28)) := heap_at3 _ _ _ (by simp)
  have HBV : Hid (Below w.heap.size w ((w.alloc (.cells #[i64 V.kind, i64 V.num, str V.s, .slice ak V.kids.length ck] 24)).alloc (.cells #[i64 T.kind, i64 T.num, .slice an T.names.length cn, .slice at_ T.kids.length ct] 28))) := (below_one w _).trans ((below_one _ _).mono (by simp))
  clear hV hR hE
  go_enter Tryd.func7, Tryd.ntmps7
  go_upto_region 1 with fail
  generalize (w.alloc (.cells #[i64 V.kind, i64 V.num, str V.s, .slice ak V.kids.length ck] 24)).alloc (.cells #[i64 T.kind, i64 T.num, .slice an T.names.length cn, .slice at_ T.kids.length ct] 28) = V0 at *
  obtain ⟨Z, hZ⟩ : ∃ Z, Z = w.heap.size := ⟨_, rfl⟩
  obtain ⟨Y, hY⟩ : ∃ Y, Y = w.heap.size + 1 := ⟨_, rfl⟩
  rw [← hZ] at HX
  rw [← hY] at HY
  rw [← hY, ← hZ]
  clear hZ hY
  have zc0 : V0.cell? ⟨Z, 0, none⟩ = some (i64 V.kind) := blk_cell HX.out 0
  have zc1 : V0.cell? ⟨Z, 1, none⟩ = some (i64 V.num) := blk_cell HX.out 1
  have zc2 : V0.cell? ⟨Z, 2, none⟩ = some (str V.s) := blk_cell HX.out 2
  have zc3 : V0.cell? ⟨Z, 3, none⟩ = some (.slice ak V.kids.length ck) := blk_cell HX.out 3
  have yc0 : V0.cell? ⟨Y, 0, none⟩ = some (i64 T.kind) := blk_cell HY.out 0
  have yc1 : V0.cell? ⟨Y, 1, none⟩ = some (i64 T.num) := blk_cell HY.out 1
  have yc2 : V0.cell? ⟨Y, 2, none⟩ = some (.slice an T.names.length cn) := blk_cell HY.out 2
  have yc3 : V0.cell? ⟨Y, 3, none⟩ = some (.slice at_ T.kids.length ct) := blk_cell HY.out 3
  have HMU := hid (much_ok V T V0 _ _ _ (HVd.out.under HBV.out) (HRd.out.under HBV.out))
  go_wp2_with fail
  refine HMU.out.mono ?_
  rintro e w1 ⟨b0, rfl, hb1, hf1⟩
  have HB1 : Hid (Below w.heap.size w w1) := HBV.out.trans (hb1.mono HBV.out.size)
  have HX1 : Hid (w1.heap[Z]? = some (.cells #[i64 V.kind, i64 V.num, str V.s, .slice ak V.kids.length ck] 24)) := blk_below HX.out hb1
  have HY1 : Hid (w1.heap[Y]? = some (.cells #[i64 T.kind, i64 T.num, .slice an T.names.length cn, .slice at_ T.kids.length ct] 28)) := blk_below HY.out hb1
  have HF1 := hid hf1
  clear hb1 hf1 HMU zc0 zc1 zc2 zc3 yc0 yc1 yc2 yc3
  cases b0 with
  | true =>
    go_wp2_with fail
    refine (HFV.out w1 HB1.out).mono ?_
    rintro e w9 ⟨rfl, hb9⟩
    have HB9 : Hid (Below w.heap.size w w9) := HB1.out.trans (hb9.mono HB1.out.size)
    clear hb9
    go_wp2_with fail
    go_ret
    exact ⟨rfl, HB9.out⟩
  | false =>
    obtain ⟨hs1, hs2, hs3⟩ := HF1.out rfl
    have HS3 := hid hs3
    have yc0 : w1.cell? ⟨Y, 0, none⟩ = some (i64 T.kind) := blk_cell HY1.out 0
    have yc1 : w1.cell? ⟨Y, 1, none⟩ = some (i64 T.num) := blk_cell HY1.out 1
    have yc2 : w1.cell? ⟨Y, 2, none⟩ = some (.slice an T.names.length cn) := blk_cell HY1.out 2
    have yc3 : w1.cell? ⟨Y, 3, none⟩ = some (.slice at_ T.kids.length ct) := blk_cell HY1.out 3
    have HTY : Hid (Calls Tryd.prog 12 #[tyV T.kind T.num (.slice an T.names.length cn) (.slice at_ T.kids.length ct)] w1 fun e w' => ∃ a n c, e = .returned (tyV T.kind T.num (.slice an T.names.length cn) (.slice a n c)) ∧ Below w1.heap.size w1 w' ∧ Rd w' (fun b => b < w1.heap.size ∨ w1.heap.size ≤ b) T (.slice an T.names.length cn) (.slice a n c)) := ref_ok T.count T (Nat.le_refl _) (by omega) w1.heap.size w1 _ _ (Nat.le_refl _) ((HRd.out.under HB1.out).mono (fun b _ hb => hb))
    go_wp2_with fail
    refine HTY.out.mono ?_
    rintro e w2 ⟨a2, n2, c2, rfl, hb2, hr2⟩
    have HB2 : Hid (Below w.heap.size w w2) := HB1.out.trans (hb2.mono HB1.out.size)
    have HX2 : Hid (w2.heap[Z]? = some (.cells #[i64 V.kind, i64 V.num, str V.s, .slice ak V.kids.length ck] 24)) := blk_below HX1.out hb2
    have HY2 : Hid (w2.heap[Y]? = some (.cells #[i64 T.kind, i64 T.num, .slice an T.names.length cn, .slice at_ T.kids.length ct] 28)) := blk_below HY1.out hb2
    have HCK := hid (rcheck_ok T w2 _ _ _ hr2 (by omega) hs3)
    clear hb2 hr2 HTY hs3 yc0 yc1 yc2 yc3
    obtain ⟨Er, hEr⟩ : ∃ Er, Er = T.err := ⟨_, rfl⟩
    rw [← hEr] at HCK
    have HEr := hid hEr
    clear hEr
    go_wp2_with fail
    refine HCK.out.mono ?_
    rintro e w3 ⟨rfl, hb3⟩
    have HB3 : Hid (Below w.heap.size w w3) := HB2.out.trans (hb3.mono HB2.out.size)
    have HX3 : Hid (w3.heap[Z]? = some (.cells #[i64 V.kind, i64 V.num, str V.s, .slice ak V.kids.length ck] 24)) := blk_below HX2.out hb3
    have HY3 : Hid (w3.heap[Y]? = some (.cells #[i64 T.kind, i64 T.num, .slice an T.names.length cn, .slice at_ T.kids.length ct] 28)) := blk_below HY2.out hb3
    clear hb3 HCK
    by_cases hE0 : Er = 0
    · have HT0 : Hid (T.err = 0) := by show _ = _; rw [← HEr.out]; exact hE0
      subst hE0
      have HMF : Hid (Calls Tryd.prog 15 #[.agg #[i64 V.kind, i64 V.num, str V.s, .slice ak V.kids.length ck], .agg #[i64 T.kind, i64 T.num, .slice an T.names.length cn, .slice at_ T.kids.length ct]] w3 (FirstOk w3 (firstF V T))) := by
        have := misfit_ok V T w3 _ _ _ _ _ (HVd.out.under HB3.out) (HRd.out.under HB3.out) (by omega)
        have e : misF V T = firstF V T := by unfold misF; rw [if_pos HT0.out]
        rw [e] at this
        exact this
      have HFW : Hid (∀ W, Below w.heap.size w W → Calls Tryd.prog 14 #[.agg #[i64 V.kind, i64 V.num, str V.s, .slice ak V.kids.length ck], .agg #[i64 T.kind, i64 T.num, .slice an T.names.length cn, .slice at_ T.kids.length ct]] W fun e w' => e = .returned (.bool (decide ((firstF V T).length = 0))) ∧ Below W.heap.size W w') := fun W hW => by
        have := fits_ok V T W _ _ _ _ _ (HVd.out.under hW) (HRd.out.under hW) (by omega)
        have e : fitsB V T = decide ((firstF V T).length = 0) := by unfold fitsB; rw [decide_eq_true HT0.out]; rfl
        rw [e] at this
        exact this
      obtain ⟨L, hL⟩ : ∃ L, L = firstF V T := ⟨_, rfl⟩
      have hLl : L.length ≤ 400 := by rw [hL]; exact Nat.le_trans (firstF_len _ V (Nat.le_refl _) T) (by omega)
      rw [← hL] at HMF HFW
      have HLe := hid hL
      clear hL
      have zc0 : w3.cell? ⟨Z, 0, none⟩ = some (i64 V.kind) := blk_cell HX3.out 0
      have zc1 : w3.cell? ⟨Z, 1, none⟩ = some (i64 V.num) := blk_cell HX3.out 1
      have zc2 : w3.cell? ⟨Z, 2, none⟩ = some (str V.s) := blk_cell HX3.out 2
      have zc3 : w3.cell? ⟨Z, 3, none⟩ = some (.slice ak V.kids.length ck) := blk_cell HX3.out 3
      have yc0 : w3.cell? ⟨Y, 0, none⟩ = some (i64 T.kind) := blk_cell HY3.out 0
      have yc1 : w3.cell? ⟨Y, 1, none⟩ = some (i64 T.num) := blk_cell HY3.out 1
      have yc2 : w3.cell? ⟨Y, 2, none⟩ = some (.slice an T.names.length cn) := blk_cell HY3.out 2
      have yc3 : w3.cell? ⟨Y, 3, none⟩ = some (.slice at_ T.kids.length ct) := blk_cell HY3.out 3
      go_wp2_with fail
      refine HMF.out.mono ?_
      rintro e wL ⟨ao, cap, rfl, hb4, hcp, hn4⟩
      have HB4 : Hid (Below w.heap.size w wL) := HB3.out.trans (hb4.mono HB3.out.size)
      have HX4 : Hid (wL.heap[Z]? = some (.cells #[i64 V.kind, i64 V.num, str V.s, .slice ak V.kids.length ck] 24)) := blk_below HX3.out hb4
      have HY4 : Hid (wL.heap[Y]? = some (.cells #[i64 T.kind, i64 T.num, .slice an T.names.length cn, .slice at_ T.kids.length ct] 28)) := blk_below HY3.out hb4
      have HN4 := hid hn4
      have HCP := hid hcp
      clear hb4 hcp hn4 HMF zc0 zc1 zc2 zc3 yc0 yc1 yc2 yc3
      have zc0 : wL.cell? ⟨Z, 0, none⟩ = some (i64 V.kind) := blk_cell HX4.out 0
      have zc1 : wL.cell? ⟨Z, 1, none⟩ = some (i64 V.num) := blk_cell HX4.out 1
      have zc2 : wL.cell? ⟨Z, 2, none⟩ = some (str V.s) := blk_cell HX4.out 2
      have zc3 : wL.cell? ⟨Z, 3, none⟩ = some (.slice ak V.kids.length ck) := blk_cell HX4.out 3
      have yc0 : wL.cell? ⟨Y, 0, none⟩ = some (i64 T.kind) := blk_cell HY4.out 0
      have yc1 : wL.cell? ⟨Y, 1, none⟩ = some (i64 T.num) := blk_cell HY4.out 1
      have yc2 : wL.cell? ⟨Y, 2, none⟩ = some (.slice an T.names.length cn) := blk_cell HY4.out 2
      have yc3 : wL.cell? ⟨Y, 3, none⟩ = some (.slice at_ T.kids.length ct) := blk_cell HY4.out 3
      have HFC := hid (HFW.out wL HB4.out)
      by_cases h0 : L.length = 0
      · have qd : decide (L.length = 0) = true := by simpa using h0
        rw [qd] at HFC
        rw [h0]
        clear h0 qd HFW
        go_wp2_with fail
        refine HFC.out.mono ?_
        rintro e w5 ⟨rfl, hb5⟩
        have HB5 : Hid (Below w.heap.size w w5) := HB4.out.trans (hb5.mono HB4.out.size)
        clear hb5 HFC
        go_wp2_with fail
        refine (HFV.out w5 HB5.out).mono ?_
        rintro e w9 ⟨rfl, hb9⟩
        have HB9 : Hid (Below w.heap.size w w9) := HB5.out.trans (hb9.mono HB5.out.size)
        clear hb9
        go_wp2_with fail
        go_ret
        exact ⟨rfl, HB9.out⟩
      · have qd : decide (L.length = 0) = false := by simpa using h0
        rw [qd] at HFC
        have hpos : 0 < L.length := by omega
        have q0 : ((L.length : Int) == 0) = false := by
          have h : ¬ ((L.length : Int) = 0) := by omega
          simpa using h
        obtain ⟨r, hr⟩ : ∃ r, L = 0 :: r := by
          cases hL2 : L with
          | nil => rw [hL2] at hpos; simp at hpos
          | cons x r => exact ⟨r, by rw [first_head (HLe.out.symm.trans hL2)]⟩
        obtain ⟨wb, wof, rfl, hwb, hw0⟩ : ∃ wb wof, ao = some ⟨wb, wof, none⟩ ∧ wb < wL.heap.size ∧ ∀ (i x : Nat), L[i]? = some x → wL.cell? ⟨wb, wof + i, none⟩ = some (i64 x) := by
          obtain ⟨ao', cp, he, _, h3⟩ := HN4.out
          cases he
          rcases h3 with h3 | ⟨b', off', he, _, hlt', hc'⟩
          · subst h3; simp at hpos
          · exact ⟨b', off', he, hlt', hc'⟩
        have hcap : L.length ≤ cap := by
          obtain ⟨ao', cp, he, h2, _⟩ := HN4.out
          cases he
          exact h2
        have HW0 := hid hw0
        have HLr := hid hr
        have HWB := hid hwb
        have hwc := HCP.out
        unfold maxLen at hwc
        have w0c : wL.cell? ⟨wb, wof, none⟩ = some (i64 0) := by have := hw0 0 0 (by rw [hr]; rfl); simpa using this
        clear h0 qd HFW hr hw0 hwb HN4
        go_wp2_with fail
        refine HFC.out.mono ?_
        rintro e w5 ⟨rfl, hb5⟩
        have HC5 : Hid (Below wL.heap.size wL w5) := hb5
        have HX5 : Hid (w5.heap[Z]? = some (.cells #[i64 V.kind, i64 V.num, str V.s, .slice ak V.kids.length ck] 24)) := blk_below HX4.out hb5
        have HY5 : Hid (w5.heap[Y]? = some (.cells #[i64 T.kind, i64 T.num, .slice an T.names.length cn, .slice at_ T.kids.length ct] 28)) := blk_below HY4.out hb5
        have HB5 : Hid (Below w.heap.size w w5) := HB4.out.trans (hb5.mono HB4.out.size)
        have w5c : w5.cell? ⟨wb, wof, none⟩ = some (i64 0) := (hb5.cell (p := ⟨wb, wof, none⟩) HWB.out).trans w0c
        clear hb5 HFC zc0 zc1 zc2 zc3 yc0 yc1 yc2 yc3 w0c
        have zc0 : w5.cell? ⟨Z, 0, none⟩ = some (i64 V.kind) := blk_cell HX5.out 0
        have zc1 : w5.cell? ⟨Z, 1, none⟩ = some (i64 V.num) := blk_cell HX5.out 1
        have zc2 : w5.cell? ⟨Z, 2, none⟩ = some (str V.s) := blk_cell HX5.out 2
        have zc3 : w5.cell? ⟨Z, 3, none⟩ = some (.slice ak V.kids.length ck) := blk_cell HX5.out 3
        have yc0 : w5.cell? ⟨Y, 0, none⟩ = some (i64 T.kind) := blk_cell HY5.out 0
        have yc1 : w5.cell? ⟨Y, 1, none⟩ = some (i64 T.num) := blk_cell HY5.out 1
        have yc2 : w5.cell? ⟨Y, 2, none⟩ = some (.slice an T.names.length cn) := blk_cell HY5.out 2
        have yc3 : w5.cell? ⟨Y, 3, none⟩ = some (.slice at_ T.kids.length ct) := blk_cell HY5.out 3
        have HVA := hid (val_ok _ V (Nat.le_refl _) (by omega) w5 _ _ (HVd.out.under HB5.out))
        go_wp2_with fail
        refine HVA.out.mono ?_
        rintro e w6 ⟨a9, c9, rfl, hb6, hr6⟩
        have HC6 : Hid (Below wL.heap.size wL w6) := HC5.out.trans (hb6.mono HC5.out.size)
        have HC7 : Hid (Below wL.heap.size wL (w6.alloc (.cells #[i64 V.kind, i64 V.num, str V.s, .slice a9 V.kids.length c9] 33))) := HC6.out.trans ((below_one w6 _).mono HC6.out.size)
        have HY7 : Hid ((w6.alloc (.cells #[i64 V.kind, i64 V.num, str V.s, .slice a9 V.kids.length c9] 33)).heap[Y]? = some (.cells #[i64 T.kind, i64 T.num, .slice an T.names.length cn, .slice at_ T.kids.length ct] 28)) := blk_alloc (blk_below HY5.out hb6) _
        have HQ7 : Hid ((w6.alloc (.cells #[i64 V.kind, i64 V.num, str V.s, .slice a9 V.kids.length c9] 33)).heap[w6.heap.size]? = some (.cells #[i64 V.kind, i64 V.num, str V.s, .slice a9 V.kids.length c9] 33)) := heap_last w6 _
        have HV7 : Hid (Vd (w6.alloc (.cells #[i64 V.kind, i64 V.num, str V.s, .slice a9 V.kids.length c9] 33)) (fun b => b ≠ w6.heap.size ∧ b < w6.heap.size) V (.slice a9 V.kids.length c9)) := (hr6.mono (S' := fun b => b ≠ w6.heap.size ∧ b < w6.heap.size) (fun b _ hb => ⟨by omega, hb⟩)).under (below_one w6 _)
        have HQw : Hid (wL.heap.size ≤ w6.heap.size) := HC6.out.size
        have HB7 : Hid (Below w.heap.size w (w6.alloc (.cells #[i64 V.kind, i64 V.num, str V.s, .slice a9 V.kids.length c9] 33))) := HB4.out.trans (HC7.out.mono HB4.out.size)
        clear hb6 hr6 HVA zc0 zc1 zc2 zc3 yc0 yc1 yc2 yc3 w5c HX5 HY5
        go_upto_region 11 with fail
        obtain ⟨Q, hQ⟩ : ∃ Q, Q = w6.heap.size := ⟨_, rfl⟩
        rw [← hQ] at HQ7 HQw HV7 ⊢
        have HQX : Hid (Q < (w6.alloc (.cells #[i64 V.kind, i64 V.num, str V.s, .slice a9 V.kids.length c9] 33)).heap.size) := by show _ < _; rw [hQ]; simp
        clear hQ
        generalize w6.alloc (.cells #[i64 V.kind, i64 V.num, str V.s, .slice a9 V.kids.length c9] 33) = X at *
        have yc0 : X.cell? ⟨Y, 0, none⟩ = some (i64 T.kind) := blk_cell HY7.out 0
        have yc1 : X.cell? ⟨Y, 1, none⟩ = some (i64 T.num) := blk_cell HY7.out 1
        have yc2 : X.cell? ⟨Y, 2, none⟩ = some (.slice an T.names.length cn) := blk_cell HY7.out 2
        have yc3 : X.cell? ⟨Y, 3, none⟩ = some (.slice at_ T.kids.length ct) := blk_cell HY7.out 3
        have HTY2 : Hid (Calls Tryd.prog 12 #[tyV T.kind T.num (.slice an T.names.length cn) (.slice at_ T.kids.length ct)] X fun e w' => ∃ a n c, e = .returned (tyV T.kind T.num (.slice an T.names.length cn) (.slice a n c)) ∧ Below X.heap.size X w' ∧ Rd w' (fun b => b < w.heap.size ∨ X.heap.size ≤ b) T (.slice an T.names.length cn) (.slice a n c)) := ref_ok T.count T (Nat.le_refl _) (by omega) w.heap.size X _ _ HB7.out.size ((HRd.out.mono (S' := fun b => b < w.heap.size) (fun b _ hb => hb)).under HB7.out)
        go_wp2_with fail
        refine HTY2.out.mono ?_
        rintro e w8 ⟨a2, n2', c2, rfl, hb8, hr8⟩
        obtain ⟨_, _, he1, a2', c2', he2⟩ := hr8.form
        cases he1
        cases he2
        have HC8 : Hid (Below wL.heap.size wL w8) := HC7.out.trans (hb8.mono HC7.out.size)
        have HC9 : Hid (Below wL.heap.size wL (w8.alloc (.cells #[i64 T.kind, i64 T.num, .slice an T.names.length cn, .slice a2 T.kids.length c2] 37))) := HC8.out.trans ((below_one w8 _).mono HC8.out.size)
        have HQ9 : Hid ((w8.alloc (.cells #[i64 T.kind, i64 T.num, .slice an T.names.length cn, .slice a2 T.kids.length c2] 37)).heap[Q]? = some (.cells #[i64 V.kind, i64 V.num, str V.s, .slice a9 V.kids.length c9] 33)) := blk_alloc (blk_below HQ7.out hb8) _
        have HP9 : Hid ((w8.alloc (.cells #[i64 T.kind, i64 T.num, .slice an T.names.length cn, .slice a2 T.kids.length c2] 37)).heap[w8.heap.size]? = some (.cells #[i64 T.kind, i64 T.num, .slice an T.names.length cn, .slice a2 T.kids.length c2] 37)) := heap_last w8 _
        have HQ8 : Hid (Q < w8.heap.size) := Nat.lt_of_lt_of_le HQX.out hb8.size
        have HwQ : Hid (w.heap.size ≤ Q) := Nat.le_trans HB4.out.size HQw.out
        have HR9 : Hid (Rd (w8.alloc (.cells #[i64 T.kind, i64 T.num, .slice an T.names.length cn, .slice a2 T.kids.length c2] 37)) (fun b => b ≠ Q ∧ b ≠ w8.heap.size) T (.slice an T.names.length cn) (.slice a2 T.kids.length c2)) := (hr8.mono (S' := fun b => b ≠ Q ∧ b ≠ w8.heap.size) (fun b hb hlt => ⟨by have h1 := HwQ.out; have h2 := HQX.out; omega, by omega⟩)).under (below_one w8 _)
        have HV9 : Hid (Vd (w8.alloc (.cells #[i64 T.kind, i64 T.num, .slice an T.names.length cn, .slice a2 T.kids.length c2] 37)) (fun b => b ≠ Q ∧ b ≠ w8.heap.size) V (.slice a9 V.kids.length c9)) := ((HV7.out.under hb8).mono (S' := fun b => b ≠ Q ∧ b ≠ w8.heap.size) (fun b hb hlt => ⟨hb.1, by have h1 := HQ8.out; have := hb.2; omega⟩)).under (below_one w8 _)
        have HPw : Hid (wL.heap.size ≤ w8.heap.size) := HC8.out.size
        clear hb8 hr8 HTY2 yc0 yc1 yc2 yc3
        go_upto_region 12 with fail
        obtain ⟨J, hJ⟩ : ∃ J, J = w8.heap.size := ⟨_, rfl⟩
        rw [← hJ] at HP9 HPw HR9 HV9 HQ8 ⊢
        have HQJ : Hid (Q ≠ J) := by show _ ≠ _; have := HQ8.out; omega
        clear hJ
        generalize w8.alloc (.cells #[i64 T.kind, i64 T.num, .slice an T.names.length cn, .slice a2 T.kids.length c2] 37) = X2 at *
        obtain ⟨a', hsl, ha'⟩ := sl_from1 X2 wb wof L.length cap (by omega) hcap hwc
        have HA := hid ha'
        obtain ⟨M, hM⟩ : ∃ M, M = L.length - 1 := ⟨_, rfl⟩
        rw [← hM] at hsl
        have hM4 : M ≤ 400 := by omega
        have HMe := hid hM
        clear ha' hM hpos q0
        have HF0 : Hid (T.formed = true ∧ firstF V T = 0 :: L.tail.drop 0) := ⟨err_formed HT0.out, by rw [← HLe.out, HLr.out]; rfl⟩
        go_wp2_with fail
        clear hsl
        go_loopw [45] (fun u wr => ∃ (i : Nat) (U : Vl) (P : Ty) (au : Option Addr) (cu : Nat) (an2 : Option Addr) (cn2 : Nat) (at2 : Option Addr) (ct2 : Nat), i ≤ M ∧ u = i64 i ∧ Hid (Below wL.heap.size wL wr) ∧ Hid (wr.heap[Q]? = some (.cells #[i64 U.kind, i64 U.num, str U.s, .slice au U.kids.length cu] 33)) ∧ Hid (wr.heap[J]? = some (.cells #[i64 P.kind, i64 P.num, .slice an2 P.names.length cn2, .slice at2 P.kids.length ct2] 37)) ∧ Hid (Vd wr (fun b => b ≠ Q ∧ b ≠ J) U (.slice au U.kids.length cu)) ∧ Hid (Rd wr (fun b => b ≠ Q ∧ b ≠ J) P (.slice an2 P.names.length cn2) (.slice at2 P.kids.length ct2)) ∧ Hid (P.formed = true ∧ firstF U P = 0 :: L.tail.drop i)) (fun u _ => M - (intOf u).toNat)
        case atStart => exact ⟨0, V, T, _, _, _, _, _, _, Nat.zero_le _, rfl, HC9, HQ9, HP9, HV9, HR9, HF0⟩
        case round =>
          obtain ⟨i, U, P, au, cu, an2, cn2, at2, ct2, hi, rfl, HC, HQr, HPr, HUd, HPd, HFF⟩ := hrel
          have HAL := hid (alone28 U P wr _ _ _ _ _ HUd.out HPd.out HFF.out.1)
          have hUl := HUd.out.lens.2
          unfold maxLen at hUl
          by_cases hlt : i < M
          · have hlt2 : i < L.tail.length := by rw [List.length_tail]; have := HMe.out; omega
            obtain ⟨j, hj⟩ : ∃ j, j = L.tail[i] := ⟨_, rfl⟩
            have hfc : firstF U P = 0 :: j :: L.tail.drop (i + 1) := by rw [HFF.out.2, List.drop_eq_getElem_cons hlt2, ← hj]
            obtain ⟨hal, hjl, hfk⟩ := first_cons hfc
            rw [hal] at HAL
            obtain ⟨g3, g4⟩ := kid_room HFF.out.1 hal j hjl
            have HKD := hid (fun (W : World) nv kv (h : Rd W (fun b => b ≠ Q ∧ b ≠ J) P nv kv) => kid_ok P j W (fun b => b ≠ Q ∧ b ≠ J) nv kv h g3 g4)
            have HFK : Hid ((kidT P j).formed = true ∧ firstF U.kids[j] (kidT P j) = 0 :: L.tail.drop (i + 1)) := ⟨kidT_formed HFF.out.1 j g3 g4, hfk⟩
            have hja : a' = ⟨wb, wof + 1, none⟩ := HA.out (by have := HMe.out; omega)
            subst hja
            have hc0 : wr.cell? ⟨wb, wof + 1 + i, none⟩ = some (i64 j) := by
              have h1 := HW0.out (i + 1) j (by rw [← List.getElem?_tail, List.getElem?_eq_getElem hlt2, hj])
              rw [show wof + 1 + i = wof + (i + 1) by omega]
              exact (HC.out.cell (p := ⟨wb, wof + (i + 1), none⟩) HWB.out).trans h1
            have hjI : (j : Int) < U.kids.length := by omega
            clear hj hfc hal hfk g3 g4 HFF
            generalize kidT P j = P2 at *
            have zc0 : wr.cell? ⟨Q, 0, none⟩ = some (i64 U.kind) := blk_cell HQr.out 0
            have zc1 : wr.cell? ⟨Q, 1, none⟩ = some (i64 U.num) := blk_cell HQr.out 1
            have zc2 : wr.cell? ⟨Q, 2, none⟩ = some (str U.s) := blk_cell HQr.out 2
            have zc3 : wr.cell? ⟨Q, 3, none⟩ = some (.slice au U.kids.length cu) := blk_cell HQr.out 3
            have yc0 : wr.cell? ⟨J, 0, none⟩ = some (i64 P.kind) := blk_cell HPr.out 0
            have yc1 : wr.cell? ⟨J, 1, none⟩ = some (i64 P.num) := blk_cell HPr.out 1
            have yc2 : wr.cell? ⟨J, 2, none⟩ = some (.slice an2 P.names.length cn2) := blk_cell HPr.out 2
            have yc3 : wr.cell? ⟨J, 3, none⟩ = some (.slice at2 P.kids.length ct2) := blk_cell HPr.out 3
            go_wp2_with fail
            refine HAL.out.mono ?_
            rintro e wa ⟨rfl, hb⟩
            have HCa : Hid (Below wL.heap.size wL wa) := HC.out.trans (hb.mono HC.out.size)
            have HQa : Hid (wa.heap[Q]? = some (.cells #[i64 U.kind, i64 U.num, str U.s, .slice au U.kids.length cu] 33)) := blk_below HQr.out hb
            have HPa : Hid (wa.heap[J]? = some (.cells #[i64 P.kind, i64 P.num, .slice an2 P.names.length cn2, .slice at2 P.kids.length ct2] 37)) := blk_below HPr.out hb
            have HUa := hid (HUd.out.under hb)
            have HKc := hid (HKD.out wa _ _ (HPd.out.under hb))
            clear hb HAL HKD HQr HPr HUd HPd zc0 zc1 zc2 zc3 yc0 yc1 yc2 yc3 hc0
            have zc0 : wa.cell? ⟨Q, 0, none⟩ = some (i64 U.kind) := blk_cell HQa.out 0
            have zc1 : wa.cell? ⟨Q, 1, none⟩ = some (i64 U.num) := blk_cell HQa.out 1
            have zc2 : wa.cell? ⟨Q, 2, none⟩ = some (str U.s) := blk_cell HQa.out 2
            have zc3 : wa.cell? ⟨Q, 3, none⟩ = some (.slice au U.kids.length cu) := blk_cell HQa.out 3
            have yc0 : wa.cell? ⟨J, 0, none⟩ = some (i64 P.kind) := blk_cell HPa.out 0
            have yc1 : wa.cell? ⟨J, 1, none⟩ = some (i64 P.num) := blk_cell HPa.out 1
            have yc2 : wa.cell? ⟨J, 2, none⟩ = some (.slice an2 P.names.length cn2) := blk_cell HPa.out 2
            have yc3 : wa.cell? ⟨J, 3, none⟩ = some (.slice at2 P.kids.length ct2) := blk_cell HPa.out 3
            go_wp2_with fail
            refine HKc.out.mono ?_
            rintro e wb2 ⟨p1, q1, p2, q2, rfl, hb, hrk⟩
            have HCb : Hid (Below wL.heap.size wL wb2) := HCa.out.trans (hb.mono HCa.out.size)
            have HQb : Hid (wb2.heap[Q]? = some (.cells #[i64 U.kind, i64 U.num, str U.s, .slice au U.kids.length cu] 33)) := blk_below HQa.out hb
            have HPb : Hid (wb2.heap[J]? = some (.cells #[i64 P.kind, i64 P.num, .slice an2 P.names.length cn2, .slice at2 P.kids.length ct2] 37)) := blk_below HPa.out hb
            have HUb := hid (HUa.out.under hb)
            have HRk := hid hrk
            clear hb hrk HKc HQa HPa HUa zc0 zc1 zc2 zc3 yc0 yc1 yc2 yc3
            have yc0 : wb2.cell? ⟨J, 0, none⟩ = some (i64 P.kind) := blk_cell HPb.out 0
            have yf0 : wb2.frozen? ⟨J, 0, none⟩ = false := blk_frozen HPb.out 0
            have yc1 : wb2.cell? ⟨J, 1, none⟩ = some (i64 P.num) := blk_cell HPb.out 1
            have yf1 : wb2.frozen? ⟨J, 1, none⟩ = false := blk_frozen HPb.out 1
            have yc2 : wb2.cell? ⟨J, 2, none⟩ = some (.slice an2 P.names.length cn2) := blk_cell HPb.out 2
            have yf2 : wb2.frozen? ⟨J, 2, none⟩ = false := blk_frozen HPb.out 2
            have yc3 : wb2.cell? ⟨J, 3, none⟩ = some (.slice at2 P.kids.length ct2) := blk_cell HPb.out 3
            have yf3 : wb2.frozen? ⟨J, 3, none⟩ = false := blk_frozen HPb.out 3
            have HP5 := hid (set4 HPb.out (i64 P2.kind) (i64 P2.num) (.slice p1 P2.names.length q1) (.slice p2 P2.kids.length q2))
            have HQ5 := hid (set4_ne HQb.out HQJ.out (i64 P2.kind) (i64 P2.num) (.slice p1 P2.names.length q1) (.slice p2 P2.kids.length q2))
            have HC5' := hid (bset4 HCb.out HPw.out (i64 P2.kind) (i64 P2.num) (.slice p1 P2.names.length q1) (.slice p2 P2.kids.length q2))
            have HU5 := hid (vset4 HUb.out (R := J) (fun b h => h.2) (i64 P2.kind) (i64 P2.num) (.slice p1 P2.names.length q1) (.slice p2 P2.kids.length q2))
            have HR5 := hid (rset4 HRk.out (R := J) (fun b h => h.2) (i64 P2.kind) (i64 P2.num) (.slice p1 P2.names.length q1) (.slice p2 P2.kids.length q2))
            go_upto_region 18 with fail
            generalize (((wb2.setCell ⟨J, 0, none⟩ (i64 P2.kind)).setCell ⟨J, 1, none⟩ (i64 P2.num)).setCell ⟨J, 2, none⟩ (.slice p1 P2.names.length q1)).setCell ⟨J, 3, none⟩ (.slice p2 P2.kids.length q2) = W5 at *
            clear yc0 yc1 yc2 yc3 yf0 yf1 yf2 yf3
            obtain ⟨kb, ko, kv2, rfl, hkS, hkl, hr2, hrd2⟩ := HU5.out.kid j hjl
            obtain ⟨K2, hK2⟩ : ∃ K2, K2 = U.kids[j] := ⟨_, rfl⟩
            rw [← hK2] at hr2 hrd2 HFK
            obtain ⟨ak2, ck2, rfl⟩ := hrd2.form
            have k0 : W5.cell? ⟨kb, ko + j * 4, none⟩ = some (i64 K2.kind) := hr2 0 _ rfl
            have k1 : W5.cell? ⟨kb, ko + j * 4 + 1, none⟩ = some (i64 K2.num) := hr2 1 _ rfl
            have k2 : W5.cell? ⟨kb, ko + j * 4 + 2, none⟩ = some (str K2.s) := hr2 2 _ rfl
            have k3 : W5.cell? ⟨kb, ko + j * 4 + 3, none⟩ = some (.slice ak2 K2.kids.length ck2) := hr2 3 _ rfl
            have HQ6 := hid (set4 HQ5.out (i64 K2.kind) (i64 K2.num) (str K2.s) (.slice ak2 K2.kids.length ck2))
            have HP6 := hid (set4_ne HP5.out (show J ≠ Q from fun e => HQJ.out e.symm) (i64 K2.kind) (i64 K2.num) (str K2.s) (.slice ak2 K2.kids.length ck2))
            have HC6' := hid (bset4 HC5'.out HQw.out (i64 K2.kind) (i64 K2.num) (str K2.s) (.slice ak2 K2.kids.length ck2))
            have HU6 := hid (vset4 hrd2 (R := Q) (fun b h => h.1) (i64 K2.kind) (i64 K2.num) (str K2.s) (.slice ak2 K2.kids.length ck2))
            have HR6 := hid (rset4 HR5.out (R := Q) (fun b h => h.1) (i64 K2.kind) (i64 K2.num) (str K2.s) (.slice ak2 K2.kids.length ck2))
            clear hr2 hrd2 hK2 hkS hkl
            have zc0 : W5.cell? ⟨Q, 0, none⟩ = some (i64 U.kind) := blk_cell HQ5.out 0
            have zf0 : W5.frozen? ⟨Q, 0, none⟩ = false := blk_frozen HQ5.out 0
            have zc1 : W5.cell? ⟨Q, 1, none⟩ = some (i64 U.num) := blk_cell HQ5.out 1
            have zf1 : W5.frozen? ⟨Q, 1, none⟩ = false := blk_frozen HQ5.out 1
            have zc2 : W5.cell? ⟨Q, 2, none⟩ = some (str U.s) := blk_cell HQ5.out 2
            have zf2 : W5.frozen? ⟨Q, 2, none⟩ = false := blk_frozen HQ5.out 2
            have zc3 : W5.cell? ⟨Q, 3, none⟩ = some (.slice (some ⟨kb, ko, none⟩) U.kids.length cu) := blk_cell HQ5.out 3
            have zf3 : W5.frozen? ⟨Q, 3, none⟩ = false := blk_frozen HQ5.out 3
            go_upto_region 19 with fail
            generalize (((W5.setCell ⟨Q, 0, none⟩ (i64 K2.kind)).setCell ⟨Q, 1, none⟩ (i64 K2.num)).setCell ⟨Q, 2, none⟩ (str K2.s)).setCell ⟨Q, 3, none⟩ (.slice ak2 K2.kids.length ck2) = W6 at *
            go_wp2_with fail
            exact ⟨⟨i + 1, K2, P2, _, _, _, _, _, _, by omega, by go_num, HC6', HQ6, HP6, HU6, HR6, HFK⟩, by simp [intOf]; omega⟩
          · have hf1 : firstF U P = [0] := by
              rw [HFF.out.2, List.drop_eq_nil_of_le (by rw [List.length_tail]; have := HMe.out; omega)]
            rw [first_one hf1] at HAL
            clear hf1 HFF
            have zc0 : wr.cell? ⟨Q, 0, none⟩ = some (i64 U.kind) := blk_cell HQr.out 0
            have zc1 : wr.cell? ⟨Q, 1, none⟩ = some (i64 U.num) := blk_cell HQr.out 1
            have zc2 : wr.cell? ⟨Q, 2, none⟩ = some (str U.s) := blk_cell HQr.out 2
            have zc3 : wr.cell? ⟨Q, 3, none⟩ = some (.slice au U.kids.length cu) := blk_cell HQr.out 3
            have yc0 : wr.cell? ⟨J, 0, none⟩ = some (i64 P.kind) := blk_cell HPr.out 0
            have yc1 : wr.cell? ⟨J, 1, none⟩ = some (i64 P.num) := blk_cell HPr.out 1
            have yc2 : wr.cell? ⟨J, 2, none⟩ = some (.slice an2 P.names.length cn2) := blk_cell HPr.out 2
            have yc3 : wr.cell? ⟨J, 3, none⟩ = some (.slice at2 P.kids.length ct2) := blk_cell HPr.out 3
            go_wp2_with fail
            refine HAL.out.mono ?_
            rintro e wa ⟨rfl, hb⟩
            have HBa : Hid (Below w.heap.size w wa) := (HB4.out.trans (HC.out.mono HB4.out.size)).trans (hb.mono (HB4.out.trans (HC.out.mono HB4.out.size)).size)
            clear hb HAL
            go_wp2_with fail
            refine (HFV.out wa HBa.out).mono ?_
            rintro e w9 ⟨rfl, hb9⟩
            have HB9 : Hid (Below w.heap.size w w9) := HBa.out.trans (hb9.mono HBa.out.size)
            clear hb9
            go_wp2_with fail
            go_ret
            exact ⟨rfl, HB9.out⟩
    · have qE : (Er != 0) = true := by simpa using hE0
      have HE0 := hid hE0
      clear hE0
      go_wp2_with fail
      refine (HFV.out w3 HB3.out).mono ?_
      rintro e w9 ⟨rfl, hb9⟩
      have HB9 : Hid (Below w.heap.size w w9) := HB3.out.trans (hb9.mono HB3.out.size)
      clear hb9
      go_wp2_with fail
      go_ret
      exact ⟨rfl, HB9.out⟩
end Go.Proofs.YtgiemijhndanjaaDoor
