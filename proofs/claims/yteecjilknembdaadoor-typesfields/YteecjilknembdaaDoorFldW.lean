/- TypesFields' walk; no statement is proved in this text. -/
import Derived.Test.YteecjilknembdaaDoorRfd
namespace Go.Proofs.YteecjilknembdaaDoor
open Go.ChangeShapes Go.WideShapes Go.ChangeAt Go.RowKit Go.Deep
attribute [local go_sem ↓] Go.wp_at_zero Go.wp_at_succ

set_option maxRecDepth 100000 in
set_option maxHeartbeats 12800000 in
theorem fields_walk (w : World) (hE : Env w) (T : Ty) (nv kv : Value) (hR : Rd w (fun _ => True) T nv kv) (U : Ty) (mv lv : Value) (hQ : Rd w (fun _ => True) U mv lv) (l : Bs) (hl : l.length ≤ maxLen) : Calls Tryd.prog 5 #[tyV T.kind T.num nv kv, tyV U.kind U.num mv lv, str l] w fun e w' => e = .returned (.bool true) ∧ Below w.heap.size w w' := by
  have hbl := bz l
  have HNM0 := hid (fun W => name_ok l W hl)
  have HRN0 := hid (fun W => rname_ok l W hl)
  unfold maxLen at hl
  have HPID : Hid (∀ W, Below w.heap.size w W → Calls Tryd.prog 9 #[] W fun e w' => e = .returned (.bool true) ∧ Below W.heap.size W w') := fun W hW => pid_ok W (hE.below hW)
  have HRd := hid hR
  have HQd := hid hQ
  obtain ⟨an, cn, rfl, ak, ck, rfl⟩ := hR.form
  obtain ⟨am, cm, rfl, al, cl, rfl⟩ := hQ.form
  have HX : Hid (((w.alloc (.cells #[i64 T.kind, i64 T.num, .slice an T.names.length cn, .slice ak T.kids.length ck] 25)).alloc (.cells #[i64 U.kind, i64 U.num, .slice am U.names.length cm, .slice al U.kids.length cl] 25)).heap[w.heap.size]? = some (.cells #[i64 T.kind, i64 T.num, .slice an T.names.length cn, .slice ak T.kids.length ck] 25)) := blk_alloc (heap_last w _) _
  have HY : Hid (((w.alloc (.cells #[i64 T.kind, i64 T.num, .slice an T.names.length cn, .slice ak T.kids.length ck] 25)).alloc (.cells #[i64 U.kind, i64 U.num, .slice am U.names.length cm, .slice al U.kids.length cl] 25)).heap[w.heap.size + 1]? = some (.cells #[i64 U.kind, i64 U.num, .slice am U.names.length cm, .slice al U.kids.length cl] 25)) := heap_at3 _ _ _ (by simp)
  have HBV : Hid (Below w.heap.size w ((w.alloc (.cells #[i64 T.kind, i64 T.num, .slice an T.names.length cn, .slice ak T.kids.length ck] 25)).alloc (.cells #[i64 U.kind, i64 U.num, .slice am U.names.length cm, .slice al U.kids.length cl] 25))) := (below_one w _).trans ((below_one _ _).mono (by simp))
  clear hR hQ hE
  go_enter Tryd.func5, Tryd.ntmps5
  go_upto_region 1 with fail
  generalize (w.alloc (.cells #[i64 T.kind, i64 T.num, .slice an T.names.length cn, .slice ak T.kids.length ck] 25)).alloc (.cells #[i64 U.kind, i64 U.num, .slice am U.names.length cm, .slice al U.kids.length cl] 25) = V at *
  obtain ⟨Z, hZ⟩ : ∃ Z, Z = w.heap.size := ⟨_, rfl⟩
  obtain ⟨Y, hY⟩ : ∃ Y, Y = w.heap.size + 1 := ⟨_, rfl⟩
  rw [← hZ] at HX
  rw [← hY] at HY
  rw [← hY, ← hZ]
  clear hZ hY
  have zc0 : V.cell? ⟨Z, 0, none⟩ = some (i64 T.kind) := blk_cell HX.out 0
  have zc1 : V.cell? ⟨Z, 1, none⟩ = some (i64 T.num) := blk_cell HX.out 1
  have zc2 : V.cell? ⟨Z, 2, none⟩ = some (.slice an T.names.length cn) := blk_cell HX.out 2
  have zc3 : V.cell? ⟨Z, 3, none⟩ = some (.slice ak T.kids.length ck) := blk_cell HX.out 3
  have yc0 : V.cell? ⟨Y, 0, none⟩ = some (i64 U.kind) := blk_cell HY.out 0
  have yc1 : V.cell? ⟨Y, 1, none⟩ = some (i64 U.num) := blk_cell HY.out 1
  have yc2 : V.cell? ⟨Y, 2, none⟩ = some (.slice am U.names.length cm) := blk_cell HY.out 2
  have yc3 : V.cell? ⟨Y, 3, none⟩ = some (.slice al U.kids.length cl) := blk_cell HY.out 3
  have HQ : Hid ((V.alloc (.cells #[i64 200] 29)).heap[V.heap.size]? = some (.cells #[i64 200] 29)) := heap_last V _
  have HBU : Hid (Below w.heap.size w (V.alloc (.cells #[i64 200] 29))) := HBV.out.trans ((below_one V _).mono HBV.out.size)
  have HLG : Hid (Calls Tryd.prog 8 #[tyV T.kind T.num (.slice an T.names.length cn) (.slice ak T.kids.length ck), pq V.heap.size, i64 1] (V.alloc (.cells #[i64 200] 29)) (LgOk (V.alloc (.cells #[i64 200] 29)) V.heap.size 200 T)) :=
    large_ok T.count T (Nat.le_refl _) _ _ _ _ 200 1 ((HRd.out.mono (S' := fun b => b ≠ V.heap.size) (fun b _ hb => by have := HBV.out.size; omega)).move HBU.out.size (fun b hb hlt => ⟨hb, HBU.out.block b hlt⟩)) HQ.out (by omega) (by omega) (by omega) (by omega)
  have hZV : Z < V.heap.size := blk_lt HX.out
  have hYV : Y < V.heap.size := blk_lt HY.out
  have hVw : w.heap.size ≤ V.heap.size := HBV.out.size
  go_wp2_with fail
  refine HLG.out.mono ?_
  rintro e w2 ⟨b0, m', rfl, _, ht2, hf2⟩
  have HB2 : Hid (Below w.heap.size w w2) := HBU.out.trans (ht2.below hVw HBU.out.size)
  have HX2 : Hid (w2.heap[Z]? = some (.cells #[i64 T.kind, i64 T.num, .slice an T.names.length cn, .slice ak T.kids.length ck] 25)) := by show _ = _; rw [ht2.block Z (by simp; omega) (by omega)]; exact blk_alloc HX.out _
  have HY2 : Hid (w2.heap[Y]? = some (.cells #[i64 U.kind, i64 U.num, .slice am U.names.length cm, .slice al U.kids.length cl] 25)) := by show _ = _; rw [ht2.block Y (by simp; omega) (by omega)]; exact blk_alloc HY.out _
  have HF2 : Hid (b0 = false → T.count ≤ 200) := fun h => by have := hf2 h; omega
  clear ht2 hf2 HLG zc0 zc1 zc2 zc3 yc0 yc1 yc2 yc3 hZV hYV hVw HBV HBU HQ
  have zc0 : w2.cell? ⟨Z, 0, none⟩ = some (i64 T.kind) := blk_cell HX2.out 0
  have zc1 : w2.cell? ⟨Z, 1, none⟩ = some (i64 T.num) := blk_cell HX2.out 1
  have zc2 : w2.cell? ⟨Z, 2, none⟩ = some (.slice an T.names.length cn) := blk_cell HX2.out 2
  have zc3 : w2.cell? ⟨Z, 3, none⟩ = some (.slice ak T.kids.length ck) := blk_cell HX2.out 3
  have yc0 : w2.cell? ⟨Y, 0, none⟩ = some (i64 U.kind) := blk_cell HY2.out 0
  have yc1 : w2.cell? ⟨Y, 1, none⟩ = some (i64 U.num) := blk_cell HY2.out 1
  have yc2 : w2.cell? ⟨Y, 2, none⟩ = some (.slice am U.names.length cm) := blk_cell HY2.out 2
  have yc3 : w2.cell? ⟨Y, 3, none⟩ = some (.slice al U.kids.length cl) := blk_cell HY2.out 3
  cases b0 with
  | true =>
    go_wp2_with fail
    refine (HPID.out w2 HB2.out).mono ?_
    rintro e w9 ⟨rfl, hb9⟩
    have HB9 : Hid (Below w.heap.size w w9) := HB2.out.trans (hb9.mono HB2.out.size)
    clear hb9
    go_wp2_with fail
    go_ret
    exact ⟨rfl, HB9.out⟩
  | false =>
    have hcnt := HF2.out rfl
    have HQ3 : Hid ((w2.alloc (.cells #[i64 200] 29)).heap[w2.heap.size]? = some (.cells #[i64 200] 29)) := heap_last w2 _
    have HBU3 : Hid (Below w.heap.size w (w2.alloc (.cells #[i64 200] 29))) := HB2.out.trans ((below_one w2 _).mono HB2.out.size)
    have HLG3 : Hid (Calls Tryd.prog 8 #[tyV U.kind U.num (.slice am U.names.length cm) (.slice al U.kids.length cl), pq w2.heap.size, i64 1] (w2.alloc (.cells #[i64 200] 29)) (LgOk (w2.alloc (.cells #[i64 200] 29)) w2.heap.size 200 U)) :=
      large_ok U.count U (Nat.le_refl _) _ _ _ _ 200 1 ((HQd.out.mono (S' := fun b => b ≠ w2.heap.size) (fun b _ hb => by have := HB2.out.size; omega)).move HBU3.out.size (fun b hb hlt => ⟨hb, HBU3.out.block b hlt⟩)) HQ3.out (by omega) (by omega) (by omega) (by omega)
    have hZ2 : Z < w2.heap.size := blk_lt HX2.out
    have hY2 : Y < w2.heap.size := blk_lt HY2.out
    have hw2 : w.heap.size ≤ w2.heap.size := HB2.out.size
    go_wp2_with fail
    refine HLG3.out.mono ?_
    rintro e w5 ⟨b1, m2, rfl, _, ht5, hf5⟩
    have HB5 : Hid (Below w.heap.size w w5) := HBU3.out.trans (ht5.below hw2 HBU3.out.size)
    have HX5 : Hid (w5.heap[Z]? = some (.cells #[i64 T.kind, i64 T.num, .slice an T.names.length cn, .slice ak T.kids.length ck] 25)) := by show _ = _; rw [ht5.block Z (by simp; omega) (by omega)]; exact blk_alloc HX2.out _
    have HY5 : Hid (w5.heap[Y]? = some (.cells #[i64 U.kind, i64 U.num, .slice am U.names.length cm, .slice al U.kids.length cl] 25)) := by show _ = _; rw [ht5.block Y (by simp; omega) (by omega)]; exact blk_alloc HY2.out _
    have HF5 : Hid (b1 = false → U.count ≤ 200) := fun h => by have := hf5 h; omega
    clear ht5 hf5 HLG3 zc0 zc1 zc2 zc3 yc0 yc1 yc2 yc3 hZ2 hY2 hw2
    cases b1 with
    | true =>
      go_wp2_with fail
      refine (HPID.out w5 HB5.out).mono ?_
      rintro e w9 ⟨rfl, hb9⟩
      have HB9 : Hid (Below w.heap.size w w9) := HB5.out.trans (hb9.mono HB5.out.size)
      clear hb9
      go_wp2_with fail
      go_ret
      exact ⟨rfl, HB9.out⟩
    | false =>
      have hcnu := HF5.out rfl
      by_cases h1 : 100 < l.length
      · have h1I : (100 : Int) < l.length := by omega
        go_wp2_with fail
        refine (HPID.out w5 HB5.out).mono ?_
        rintro e w9 ⟨rfl, hb9⟩
        have HB9 : Hid (Below w.heap.size w w9) := HB5.out.trans (hb9.mono HB5.out.size)
        clear hb9
        go_wp2_with fail
        go_ret
        exact ⟨rfl, HB9.out⟩
      · obtain ⟨SB, hSB⟩ : ∃ SB, SB = sameB T U := ⟨_, rfl⟩
        obtain ⟨FX, hFX⟩ : ∃ FX, FX = fieldF T l := ⟨_, rfl⟩
        obtain ⟨NB, hNB⟩ : ∃ NB, NB = nameB l := ⟨_, rfl⟩
        have HSBe := hid hSB
        have HFXe := hid hFX
        have HSM : Hid (∀ W, Below w.heap.size w W → Calls Tryd.prog 18 #[tyV T.kind T.num (.slice an T.names.length cn) (.slice ak T.kids.length ck), tyV U.kind U.num (.slice am U.names.length cm) (.slice al U.kids.length cl)] W fun e w' => e = .returned (.bool SB) ∧ Below W.heap.size W w') := fun W hW => by rw [hSB]; exact same_ok T U W _ _ _ _ (HRd.out.under hW) (HQd.out.under hW) (by omega)
        have HFD : Hid (∀ W, Below w.heap.size w W → Calls Tryd.prog 19 #[tyV T.kind T.num (.slice an T.names.length cn) (.slice ak T.kids.length ck), str l] W fun e w' => e = .returned (i64 FX) ∧ Below W.heap.size W w') := fun W hW => by rw [hFX]; exact field_ok T l W _ _ _ (HRd.out.under hW)
        have HNM : Hid (∀ W, Calls Tryd.prog 21 #[str l] W fun e w' => e = .returned (.bool NB) ∧ w' = W) := fun W => by rw [hNB]; exact HNM0.out W
        have HRN : Hid (∀ W, Calls Tryd.prog 22 #[str l] W fun e w' => e = .returned (.bool NB) ∧ w' = W) := fun W => by rw [hNB]; exact HRN0.out W
        have HRFT : Hid (∀ W, Below w.heap.size w W → Calls Tryd.prog 12 #[tyV T.kind T.num (.slice an T.names.length cn) (.slice ak T.kids.length ck)] W fun e w' => ∃ a n c, e = .returned (tyV T.kind T.num (.slice an T.names.length cn) (.slice a n c)) ∧ Below W.heap.size W w' ∧ Rd w' (fun b => b < w.heap.size ∨ W.heap.size ≤ b) T (.slice an T.names.length cn) (.slice a n c)) := fun W hW => ref_ok T.count T (Nat.le_refl _) (by omega) w.heap.size W _ _ hW.size ((HRd.out.mono (S' := fun b => b < w.heap.size) (fun b _ hb => hb)).under hW)
        have HRFU : Hid (∀ W, Below w.heap.size w W → Calls Tryd.prog 12 #[tyV U.kind U.num (.slice am U.names.length cm) (.slice al U.kids.length cl)] W fun e w' => ∃ a n c, e = .returned (tyV U.kind U.num (.slice am U.names.length cm) (.slice a n c)) ∧ Below W.heap.size W w' ∧ Rd w' (fun b => b < w.heap.size ∨ W.heap.size ≤ b) U (.slice am U.names.length cm) (.slice a n c)) := fun W hW => ref_ok U.count U (Nat.le_refl _) (by omega) w.heap.size W _ _ hW.size ((HQd.out.mono (S' := fun b => b < w.heap.size) (fun b _ hb => hb)).under hW)
        have qSB : (SB == SB) = true := by simp
        have qFX : (FX == FX) = true := by simp
        have qNB : (NB == NB) = true := by simp
        clear hSB hFX hNB HNM0 HRN0
        go_upto_region 3 with fail
        have HSd : Hid (So Z Y (.cells #[i64 T.kind, i64 T.num, .slice an T.names.length cn, .slice ak T.kids.length ck] 25) (.cells #[i64 U.kind, i64 U.num, .slice am U.names.length cm, .slice al U.kids.length cl] 25) w5.drew) := ⟨HX5.out, HY5.out⟩
        have HBd : Hid (Below w.heap.size w w5.drew) := below_drewN HB5.out 1
        refine wp_region_noPanic ?_
        refine wp_region_last (So Z Y (.cells #[i64 T.kind, i64 T.num, .slice an T.names.length cn, .slice ak T.kids.length ck] 25) (.cells #[i64 U.kind, i64 U.num, .slice am U.names.length cm, .slice al U.kids.length cl] 25)) 29 (by kernel_rfl) ?_
        refine wpL_take 0 23 (.agg #[i64 T.kind, i64 T.num, .slice an T.names.length cn, .slice ak T.kids.length ck]) [] rfl rfl (by kernel_rfl) (by decide) (by kernel_rfl) (by kernel_rfl) (by kernel_rfl) (fun _ _ _ h => h) HSd.out (by rfl) (fun W hW => by have d0 : W.cell? ⟨Z, 0, none⟩ = some (i64 T.kind) := blk_cell hW.o 0; have d1 : W.cell? ⟨Z, 1, none⟩ = some (i64 T.num) := blk_cell hW.o 1; have d2 : W.cell? ⟨Z, 2, none⟩ = some (.slice an T.names.length cn) := blk_cell hW.o 2; have d3 : W.cell? ⟨Z, 3, none⟩ = some (.slice ak T.kids.length ck) := blk_cell hW.o 3; go_simp) ?_
        simp only [Act.put, List.setIfInBounds_toArray, List.set_cons_zero, List.set_cons_succ]
        refine wpL_take 1 24 (.agg #[i64 U.kind, i64 U.num, .slice am U.names.length cm, .slice al U.kids.length cl]) [] rfl rfl (by kernel_rfl) (by decide) (by kernel_rfl) (by kernel_rfl) (by kernel_rfl) (fun _ _ _ h => h) HSd.out (by rfl) (fun W hW => by have d0 : W.cell? ⟨Y, 0, none⟩ = some (i64 U.kind) := blk_cell hW.k 0; have d1 : W.cell? ⟨Y, 1, none⟩ = some (i64 U.num) := blk_cell hW.k 1; have d2 : W.cell? ⟨Y, 2, none⟩ = some (.slice am U.names.length cm) := blk_cell hW.k 2; have d3 : W.cell? ⟨Y, 3, none⟩ = some (.slice al U.kids.length cl) := blk_cell hW.k 3; go_simp) ?_
        simp only [Act.put, List.setIfInBounds_toArray, List.set_cons_zero, List.set_cons_succ]
        refine wpL_take 3 26 (.agg #[i64 T.kind, i64 T.num, .slice an T.names.length cn, .slice ak T.kids.length ck]) [] rfl rfl (by kernel_rfl) (by decide) (by kernel_rfl) (by kernel_rfl) (by kernel_rfl) (fun _ _ _ h => h) HSd.out (by rfl) (fun W hW => by have d0 : W.cell? ⟨Z, 0, none⟩ = some (i64 T.kind) := blk_cell hW.o 0; have d1 : W.cell? ⟨Z, 1, none⟩ = some (i64 T.num) := blk_cell hW.o 1; have d2 : W.cell? ⟨Z, 2, none⟩ = some (.slice an T.names.length cn) := blk_cell hW.o 2; have d3 : W.cell? ⟨Z, 3, none⟩ = some (.slice ak T.kids.length ck) := blk_cell hW.o 3; go_simp) ?_
        simp only [Act.put, List.setIfInBounds_toArray, List.set_cons_zero, List.set_cons_succ]
        refine wpL_take 5 28 (.agg #[i64 U.kind, i64 U.num, .slice am U.names.length cm, .slice al U.kids.length cl]) [] rfl rfl (by kernel_rfl) (by decide) (by kernel_rfl) (by kernel_rfl) (by kernel_rfl) (fun _ _ _ h => h) HSd.out (by rfl) (fun W hW => by have d0 : W.cell? ⟨Y, 0, none⟩ = some (i64 U.kind) := blk_cell hW.k 0; have d1 : W.cell? ⟨Y, 1, none⟩ = some (i64 U.num) := blk_cell hW.k 1; have d2 : W.cell? ⟨Y, 2, none⟩ = some (.slice am U.names.length cm) := blk_cell hW.k 2; have d3 : W.cell? ⟨Y, 3, none⟩ = some (.slice al U.kids.length cl) := blk_cell hW.k 3; go_simp) ?_
        simp only [Act.put, List.setIfInBounds_toArray, List.set_cons_zero, List.set_cons_succ]
        refine wpL_one 2 rfl (by kernel_rfl) (by rfl) (fun K hK => ?_)
        go_simp
        refine (HSM.out w5.drew HBd.out).mono ?_
        rintro e a ⟨rfl, hb⟩
        have HBa : Hid (Below w.heap.size w a) := HBd.out.trans (hb.mono HBd.out.size)
        have HSa : Hid (So Z Y (.cells #[i64 T.kind, i64 T.num, .slice an T.names.length cn, .slice ak T.kids.length ck] 25) (.cells #[i64 U.kind, i64 U.num, .slice am U.names.length cm, .slice al U.kids.length cl] 25) a) := ⟨blk_below HSd.out.o hb, blk_below HSd.out.k hb⟩
        clear hb
        go_simp
        refine hK.out _ _ (fun _ => HSa.out) ?_
        clear hK K
        refine wpL_one 4 rfl (by kernel_rfl) (by rfl) (fun K hK => ?_)
        go_simp
        refine (HRFT.out a HBa.out).mono ?_
        rintro e b ⟨p1, p2, p3, rfl, hb, hr⟩
        have HBb : Hid (Below w.heap.size w b) := HBa.out.trans (hb.mono HBa.out.size)
        have HSb : Hid (So Z Y (.cells #[i64 T.kind, i64 T.num, .slice an T.names.length cn, .slice ak T.kids.length ck] 25) (.cells #[i64 U.kind, i64 U.num, .slice am U.names.length cm, .slice al U.kids.length cl] 25) b) := ⟨blk_below HSa.out.o hb, blk_below HSa.out.k hb⟩
        have HRb := hid (hr.mono (S' := fun _ => True) (fun _ _ _ => trivial))
        clear hr
        clear hb
        go_simp
        refine hK.out _ _ (fun _ => HSb.out) ?_
        clear hK K
        refine wpL_one 6 rfl (by kernel_rfl) (by rfl) (fun K hK => ?_)
        go_simp
        refine (HRFU.out b HBb.out).mono ?_
        rintro e c ⟨q1, q2, q3, rfl, hb, hr⟩
        have HBc : Hid (Below w.heap.size w c) := HBb.out.trans (hb.mono HBb.out.size)
        have HSc : Hid (So Z Y (.cells #[i64 T.kind, i64 T.num, .slice an T.names.length cn, .slice ak T.kids.length ck] 25) (.cells #[i64 U.kind, i64 U.num, .slice am U.names.length cm, .slice al U.kids.length cl] 25) c) := ⟨blk_below HSb.out.o hb, blk_below HSb.out.k hb⟩
        have HRc := hid (hr.mono (S' := fun _ => True) (fun _ _ _ => trivial))
        have HRbc := hid (HRb.out.under hb)
        clear hr
        clear hb
        go_simp
        refine hK.out _ _ (fun _ => HSc.out) ?_
        clear hK K
        have HC7 : Hid (Calls Tryd.prog 17 #[tyV T.kind T.num (.slice an T.names.length cn) (.slice p1 p2 p3), tyV U.kind U.num (.slice am U.names.length cm) (.slice q1 q2 q3)] c fun e w' => e = .returned (.bool SB) ∧ Below c.heap.size c w') := by show Calls _ _ _ _ _; rw [HSBe.out]; exact rsame_ok T.count T (Nat.le_refl _) U c _ _ _ _ _ HRbc.out HRc.out
        refine wpL_one 7 rfl (by kernel_rfl) (by rfl) (fun K hK => ?_)
        go_simp
        refine (HC7.out).mono ?_
        rintro e d7 ⟨rfl, hb⟩
        have HBd7 : Hid (Below w.heap.size w d7) := HBc.out.trans (hb.mono HBc.out.size)
        have HSd7 : Hid (So Z Y (.cells #[i64 T.kind, i64 T.num, .slice an T.names.length cn, .slice ak T.kids.length ck] 25) (.cells #[i64 U.kind, i64 U.num, .slice am U.names.length cm, .slice al U.kids.length cl] 25) d7) := ⟨blk_below HSc.out.o hb, blk_below HSc.out.k hb⟩
        clear hb
        go_simp
        refine hK.out _ _ (fun _ => HSd7.out) ?_
        clear hK K
        refine wpL_take 8 31 (.bool true) [] rfl rfl (by kernel_rfl) (by decide) (by kernel_rfl) (by kernel_rfl) (by kernel_rfl) (fun _ _ _ h => h) HSd7.out (by rfl) (fun W hW => by go_simp) ?_
        simp only [Act.put, List.setIfInBounds_toArray, List.set_cons_zero, List.set_cons_succ]
        refine wpL_take 9 32 (.bool true) [] rfl rfl (by kernel_rfl) (by decide) (by kernel_rfl) (by kernel_rfl) (by kernel_rfl) (fun _ _ _ h => h) HSd7.out (by rfl) (fun W hW => by go_simp) ?_
        simp only [Act.put, List.setIfInBounds_toArray, List.set_cons_zero, List.set_cons_succ]
        refine wpL_take 10 33 (.agg #[i64 T.kind, i64 T.num, .slice an T.names.length cn, .slice ak T.kids.length ck]) [] rfl rfl (by kernel_rfl) (by decide) (by kernel_rfl) (by kernel_rfl) (by kernel_rfl) (fun _ _ _ h => h) HSd7.out (by rfl) (fun W hW => by have d0 : W.cell? ⟨Z, 0, none⟩ = some (i64 T.kind) := blk_cell hW.o 0; have d1 : W.cell? ⟨Z, 1, none⟩ = some (i64 T.num) := blk_cell hW.o 1; have d2 : W.cell? ⟨Z, 2, none⟩ = some (.slice an T.names.length cn) := blk_cell hW.o 2; have d3 : W.cell? ⟨Z, 3, none⟩ = some (.slice ak T.kids.length ck) := blk_cell hW.o 3; go_simp) ?_
        simp only [Act.put, List.setIfInBounds_toArray, List.set_cons_zero, List.set_cons_succ]
        refine wpL_take 11 34 (str l) [] rfl rfl (by kernel_rfl) (by decide) (by kernel_rfl) (by kernel_rfl) (by kernel_rfl) (fun _ _ _ h => h) HSd7.out (by rfl) (fun W hW => by go_simp) ?_
        simp only [Act.put, List.setIfInBounds_toArray, List.set_cons_zero, List.set_cons_succ]
        refine wpL_take 13 36 (.agg #[i64 T.kind, i64 T.num, .slice an T.names.length cn, .slice ak T.kids.length ck]) [] rfl rfl (by kernel_rfl) (by decide) (by kernel_rfl) (by kernel_rfl) (by kernel_rfl) (fun _ _ _ h => h) HSd7.out (by rfl) (fun W hW => by have d0 : W.cell? ⟨Z, 0, none⟩ = some (i64 T.kind) := blk_cell hW.o 0; have d1 : W.cell? ⟨Z, 1, none⟩ = some (i64 T.num) := blk_cell hW.o 1; have d2 : W.cell? ⟨Z, 2, none⟩ = some (.slice an T.names.length cn) := blk_cell hW.o 2; have d3 : W.cell? ⟨Z, 3, none⟩ = some (.slice ak T.kids.length ck) := blk_cell hW.o 3; go_simp) ?_
        simp only [Act.put, List.setIfInBounds_toArray, List.set_cons_zero, List.set_cons_succ]
        refine wpL_take 15 38 (str l) [] rfl rfl (by kernel_rfl) (by decide) (by kernel_rfl) (by kernel_rfl) (by kernel_rfl) (fun _ _ _ h => h) HSd7.out (by rfl) (fun W hW => by go_simp) ?_
        simp only [Act.put, List.setIfInBounds_toArray, List.set_cons_zero, List.set_cons_succ]
        refine wpL_one 12 rfl (by kernel_rfl) (by rfl) (fun K hK => ?_)
        go_simp
        refine (HFD.out d7 HBd7.out).mono ?_
        rintro e e12 ⟨rfl, hb⟩
        have HBe12 : Hid (Below w.heap.size w e12) := HBd7.out.trans (hb.mono HBd7.out.size)
        have HSe12 : Hid (So Z Y (.cells #[i64 T.kind, i64 T.num, .slice an T.names.length cn, .slice ak T.kids.length ck] 25) (.cells #[i64 U.kind, i64 U.num, .slice am U.names.length cm, .slice al U.kids.length cl] 25) e12) := ⟨blk_below HSd7.out.o hb, blk_below HSd7.out.k hb⟩
        clear hb
        go_simp
        refine hK.out _ _ (fun _ => HSe12.out) ?_
        clear hK K
        refine wpL_one 14 rfl (by kernel_rfl) (by rfl) (fun K hK => ?_)
        go_simp
        refine (HRFT.out e12 HBe12.out).mono ?_
        rintro e f14 ⟨s1, s2, s3, rfl, hb, hr⟩
        have HBf14 : Hid (Below w.heap.size w f14) := HBe12.out.trans (hb.mono HBe12.out.size)
        have HSf14 : Hid (So Z Y (.cells #[i64 T.kind, i64 T.num, .slice an T.names.length cn, .slice ak T.kids.length ck] 25) (.cells #[i64 U.kind, i64 U.num, .slice am U.names.length cm, .slice al U.kids.length cl] 25) f14) := ⟨blk_below HSe12.out.o hb, blk_below HSe12.out.k hb⟩
        have HRf := hid hr
        clear hr
        clear hb
        go_simp
        refine hK.out _ _ (fun _ => HSf14.out) ?_
        clear hK K
        have HC16 : Hid (Calls Tryd.prog 20 #[tyV T.kind T.num (.slice an T.names.length cn) (.slice s1 s2 s3), str l] f14 fun e w' => e = .returned (i64 FX) ∧ Below f14.heap.size f14 w') := by show Calls _ _ _ _ _; rw [HFXe.out]; exact rfield_ok T l f14 _ _ _ HRf.out
        refine wpL_one 16 rfl (by kernel_rfl) (by rfl) (fun K hK => ?_)
        go_simp
        refine (HC16.out).mono ?_
        rintro e g16 ⟨rfl, hb⟩
        have HBg16 : Hid (Below w.heap.size w g16) := HBf14.out.trans (hb.mono HBf14.out.size)
        have HSg16 : Hid (So Z Y (.cells #[i64 T.kind, i64 T.num, .slice an T.names.length cn, .slice ak T.kids.length ck] 25) (.cells #[i64 U.kind, i64 U.num, .slice am U.names.length cm, .slice al U.kids.length cl] 25) g16) := ⟨blk_below HSf14.out.o hb, blk_below HSf14.out.k hb⟩
        clear hb
        go_simp
        refine hK.out _ _ (fun _ => HSg16.out) ?_
        clear hK K
        refine wpL_take 17 40 (.bool true) [] rfl rfl (by kernel_rfl) (by decide) (by kernel_rfl) (by kernel_rfl) (by kernel_rfl) (fun _ _ _ h => h) HSg16.out (by rfl) (fun W hW => by go_simp) ?_
        simp only [Act.put, List.setIfInBounds_toArray, List.set_cons_zero, List.set_cons_succ]
        refine wpL_take 18 41 (.bool true) [] rfl rfl (by kernel_rfl) (by decide) (by kernel_rfl) (by kernel_rfl) (by kernel_rfl) (fun _ _ _ h => h) HSg16.out (by rfl) (fun W hW => by go_simp) ?_
        simp only [Act.put, List.setIfInBounds_toArray, List.set_cons_zero, List.set_cons_succ]
        refine wpL_take 19 42 (.bool true) [] rfl rfl (by kernel_rfl) (by decide) (by kernel_rfl) (by kernel_rfl) (by kernel_rfl) (fun _ _ _ h => h) HSg16.out (by rfl) (fun W hW => by go_simp) ?_
        simp only [Act.put, List.setIfInBounds_toArray, List.set_cons_zero, List.set_cons_succ]
        refine wpL_take 20 43 (str l) [] rfl rfl (by kernel_rfl) (by decide) (by kernel_rfl) (by kernel_rfl) (by kernel_rfl) (fun _ _ _ h => h) HSg16.out (by rfl) (fun W hW => by go_simp) ?_
        simp only [Act.put, List.setIfInBounds_toArray, List.set_cons_zero, List.set_cons_succ]
        refine wpL_take 22 45 (str l) [] rfl rfl (by kernel_rfl) (by decide) (by kernel_rfl) (by kernel_rfl) (by kernel_rfl) (fun _ _ _ h => h) HSg16.out (by rfl) (fun W hW => by go_simp) ?_
        simp only [Act.put, List.setIfInBounds_toArray, List.set_cons_zero, List.set_cons_succ]
        refine wpL_one 21 rfl (by kernel_rfl) (by rfl) (fun K hK => ?_)
        go_simp
        refine (HNM.out g16).mono ?_
        rintro e v1 ⟨rfl, hv⟩
        replace hv := hv.symm
        subst hv
        go_simp
        refine hK.out _ _ (fun _ => HSg16.out) ?_
        clear hK K
        refine wpL_one 23 rfl (by kernel_rfl) (by rfl) (fun K hK => ?_)
        go_simp
        refine (HRN.out g16).mono ?_
        rintro e v1 ⟨rfl, hv⟩
        replace hv := hv.symm
        subst hv
        go_simp
        refine hK.out _ _ (fun _ => HSg16.out) ?_
        clear hK K
        refine wpL_take 24 47 (.bool true) [] rfl rfl (by kernel_rfl) (by decide) (by kernel_rfl) (by kernel_rfl) (by kernel_rfl) (fun _ _ _ h => h) HSg16.out (by rfl) (fun W hW => by go_simp) ?_
        simp only [Act.put, List.setIfInBounds_toArray, List.set_cons_zero, List.set_cons_succ]
        refine wpL_take 25 48 (.bool true) [] rfl rfl (by kernel_rfl) (by decide) (by kernel_rfl) (by kernel_rfl) (by kernel_rfl) (fun _ _ _ h => h) HSg16.out (by rfl) (fun W hW => by go_simp) ?_
        simp only [Act.put, List.setIfInBounds_toArray, List.set_cons_zero, List.set_cons_succ]
        refine wpL_take 26 49 (.bool true) [] rfl rfl (by kernel_rfl) (by decide) (by kernel_rfl) (by kernel_rfl) (by kernel_rfl) (fun _ _ _ h => h) HSg16.out (by rfl) (fun W hW => by go_simp) ?_
        simp only [Act.put, List.setIfInBounds_toArray, List.set_cons_zero, List.set_cons_succ]
        refine wpL_one 27 rfl (by kernel_rfl) (by rfl) (fun K hK => ?_)
        go_simp
        refine (HPID.out g16 HBg16.out).mono ?_
        rintro e h27 ⟨rfl, hb⟩
        have HBh27 : Hid (Below w.heap.size w h27) := HBg16.out.trans (hb.mono HBg16.out.size)
        have HSh27 : Hid (So Z Y (.cells #[i64 T.kind, i64 T.num, .slice an T.names.length cn, .slice ak T.kids.length ck] 25) (.cells #[i64 U.kind, i64 U.num, .slice am U.names.length cm, .slice al U.kids.length cl] 25) h27) := ⟨blk_below HSg16.out.o hb, blk_below HSg16.out.k hb⟩
        clear hb
        go_simp
        refine hK.out _ _ (fun _ => HSh27.out) ?_
        clear hK K
        refine wpL_take 28 51 (.bool true) [] rfl rfl (by kernel_rfl) (by decide) (by kernel_rfl) (by kernel_rfl) (by kernel_rfl) (fun _ _ _ h => h) HSh27.out (by rfl) (fun W hW => by go_simp) ?_
        simp only [Act.put, List.setIfInBounds_toArray, List.set_cons_zero, List.set_cons_succ]
        refine wpL_one 29 rfl (by kernel_rfl) (by rfl) (fun K hK => ?_)
        go_simp
        refine hK.out _ _ (fun h => absurd rfl h) ?_
        clear hK K
        refine wpL_done (by kernel_rfl) ?_
        refine NoPanic.normal ?_
        go_wp2_with fail
        go_ret
        exact ⟨rfl, HBh27.out⟩
end Go.Proofs.YteecjilknembdaaDoor
