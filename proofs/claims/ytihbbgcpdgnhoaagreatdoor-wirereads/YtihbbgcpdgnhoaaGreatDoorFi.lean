/- vals.first with Misfit's closure: its contract; no statement is proved in this text. -/
import Derived.Test.YtihbbgcpdgnhoaaGreatDoorFi0
namespace Go.Proofs.YtihbbgcpdgnhoaaGreatDoor
open Go.ChangeShapes Go.WideShapes Go.ChangeAt Go.RowKit Go.Deep
attribute [local go_sem ↓] Go.wp_at_zero Go.wp_at_succ

structure So2 (Z Y : Nat) (a b : Obj) (W : World) : Prop where
  z : W.heap[Z]? = some a
  y : W.heap[Y]? = some b
def FirstOk (w : World) (L : List Nat) (e : Ending) (w' : World) : Prop := ∃ ao cap, e = .returned (.slice ao L.length cap) ∧ Below w.heap.size w w' ∧ cap ≤ maxLen ∧ Nls w' (fun b => w.heap.size ≤ b) (.slice ao L.length cap) L
set_option maxRecDepth 100000 in
set_option maxHeartbeats 12800000 in
theorem first_in (V : Vl) (T : Ty) (w : World) (S S' : Nat → Prop) (kv nv tv : Value) (hV : Vd w S V kv) (hR : Rd w S' T nv tv) (hf : T.formed = true) (hsz : V.size ≤ 100000)
    (hih : ∀ U ∈ V.kids, ∀ (P : Ty), P.formed = true → ∀ (w : World) (kv nv tv : Value), Vd w S U kv → Rd w S' P nv tv → Calls Tryz.prog 62 #[vlV U kv, tyV P.kind P.num nv tv, .func (.func 63) #[] #[]] w (FirstOk w (firstF U P))) :
    Calls Tryz.prog 62 #[vlV V kv, tyV T.kind T.num nv tv, .func (.func 63) #[] #[]] w (FirstOk w (firstF V T)) := by
  obtain ⟨L, hL⟩ : ∃ L, L = firstF V T := ⟨_, rfl⟩
  have HLe := hid hL
  have hLl : L.length ≤ 100000 := by rw [hL]; exact Nat.le_trans (firstF_len _ V (Nat.le_refl _) T) hsz
  rw [← hL]
  clear hL
  have hln := hV.lens
  have hlt := hR.lens
  unfold maxLen at hln hlt
  obtain ⟨hln1, hln2⟩ := hln
  obtain ⟨hlt1, hlt2⟩ := hlt
  have HIH := hid hih
  have HF := hid hf
  have HM1 : Hid (∀ (W : World) kv nv tv, Vd W S V kv → Rd W S' T nv tv → Calls Tryz.prog 63 #[vlV V kv, tyV T.kind T.num nv tv] W fun e w' => e = .returned (.bool (!aloneB V T)) ∧ Below W.heap.size W w') := fun W kv nv tv h1 h2 => mis1_ok V T W S S' kv nv tv h1 h2 hf
  obtain ⟨A, hA⟩ : ∃ A, A = aloneB V T := ⟨_, rfl⟩
  have HAe := hid hA
  rw [← hA] at HM1
  clear hA
  have HVd := hid hV
  have HRd := hid hR
  obtain ⟨ak, ck, rfl⟩ := hV.form
  obtain ⟨an, cn, rfl, at_, ct, rfl⟩ := hR.form
  have HX : Hid (((w.alloc (.cells #[i64 V.kind, i64 V.num, str V.s, .slice ak V.kids.length ck] 28)).alloc (.cells #[i64 T.kind, i64 T.num, .slice an T.names.length cn, .slice at_ T.kids.length ct] 25)).heap[w.heap.size]? = some (.cells #[i64 V.kind, i64 V.num, str V.s, .slice ak V.kids.length ck] 28)) := blk_alloc (heap_last w _) _
  have HY : Hid (((w.alloc (.cells #[i64 V.kind, i64 V.num, str V.s, .slice ak V.kids.length ck] 28)).alloc (.cells #[i64 T.kind, i64 T.num, .slice an T.names.length cn, .slice at_ T.kids.length ct] 25)).heap[w.heap.size + 1]? = some (.cells #[i64 T.kind, i64 T.num, .slice an T.names.length cn, .slice at_ T.kids.length ct] 25)) := heap_at3 _ _ _ (by simp)
  have HBV : Hid (Below w.heap.size w ((w.alloc (.cells #[i64 V.kind, i64 V.num, str V.s, .slice ak V.kids.length ck] 28)).alloc (.cells #[i64 T.kind, i64 T.num, .slice an T.names.length cn, .slice at_ T.kids.length ct] 25))) := (below_one w _).trans ((below_one _ _).mono (by simp))
  clear hV hR hih hf
  go_enter Tryz.func62, Tryz.ntmps62
  go_upto_region 1 with fail
  generalize (w.alloc (.cells #[i64 V.kind, i64 V.num, str V.s, .slice ak V.kids.length ck] 28)).alloc (.cells #[i64 T.kind, i64 T.num, .slice an T.names.length cn, .slice at_ T.kids.length ct] 25) = V0 at *
  obtain ⟨Z, hZ⟩ : ∃ Z, Z = w.heap.size := ⟨_, rfl⟩
  obtain ⟨Y, hY⟩ : ∃ Y, Y = w.heap.size + 1 := ⟨_, rfl⟩
  rw [← hZ] at HX
  rw [← hY] at HY
  rw [← hY, ← hZ]
  clear hZ hY
  have zc0 : V0.cell? ⟨Z, 0, none⟩ = some (i64 V.kind) := blk_cell HX.out 0
  have zc1 : V0.cell? ⟨Z, 1, none⟩ = some (i64 V.num) := blk_cell HX.out 1
  have zc2 : V0.cell? ⟨Z, 2, none⟩ = some (str V.s) := blk_cell HX.out 2
  have zc3 : V0.cell? ⟨Z, 3, none⟩ = some (.slice ak V.kids.length ck) := blk_cell HX.out 3
  have yc0 : V0.cell? ⟨Y, 0, none⟩ = some (i64 T.kind) := blk_cell HY.out 0
  have yc1 : V0.cell? ⟨Y, 1, none⟩ = some (i64 T.num) := blk_cell HY.out 1
  have yc2 : V0.cell? ⟨Y, 2, none⟩ = some (.slice an T.names.length cn) := blk_cell HY.out 2
  have yc3 : V0.cell? ⟨Y, 3, none⟩ = some (.slice at_ T.kids.length ct) := blk_cell HY.out 3
  have HC1 := hid (HM1.out V0 _ _ _ (HVd.out.under HBV.out) (HRd.out.under HBV.out))
  clear HM1
  go_wp2_with fail
  refine HC1.out.mono ?_
  rintro e w1 ⟨rfl, hb1⟩
  have HB1 : Hid (Below w.heap.size w w1) := HBV.out.trans (hb1.mono HBV.out.size)
  have HX1 : Hid (w1.heap[Z]? = some (.cells #[i64 V.kind, i64 V.num, str V.s, .slice ak V.kids.length ck] 28)) := blk_below HX.out hb1
  have HY1 : Hid (w1.heap[Y]? = some (.cells #[i64 T.kind, i64 T.num, .slice an T.names.length cn, .slice at_ T.kids.length ct] 25)) := blk_below HY.out hb1
  clear hb1 HC1 zc0 zc1 zc2 zc3 yc0 yc1 yc2 yc3
  cases A with
  | false =>
    have HL0 : Hid (L = [0]) := by show _ = _; rw [HLe.out, firstF_eq, ← HAe.out]; rfl
    have HB2 : Hid (Below w.heap.size w (w1.alloc (.cells #[i64 0] 3))) := HB1.out.trans ((below_one w1 _).mono HB1.out.size)
    have HX2 : Hid ((w1.alloc (.cells #[i64 0] 3)).heap[w1.heap.size]? = some (.cells #[i64 0] 3)) := heap_last w1 _
    have HZ1 : Hid (w.heap.size ≤ w1.heap.size) := HB1.out.size
    go_wp2_with fail
    refine bodyPost_ret (v := .slice (some ⟨w1.heap.size, 0, none⟩) 1 1) (by simp [results, Tryz.results62, go_sem]) rfl ?_
    refine ⟨some ⟨w1.heap.size, 0, none⟩, 1, by rw [HL0.out]; rfl, HB2.out, by unfold maxLen; omega, ?_⟩
    rw [HL0.out]
    refine ⟨_, 1, rfl, Nat.le_refl _, Or.inr ⟨w1.heap.size, 0, rfl, HZ1.out, blk_lt HX2.out, fun j x hx => ?_⟩⟩
    have hj : j = 0 := by have := (List.getElem?_eq_some_iff.1 hx).1; simpa using this
    subst hj
    cases hx
    exact blk_cell HX2.out 0
  | true =>
    have HL0 : Hid (L = firstL (V.kids.drop 0) 0 T) := by show _ = _; rw [HLe.out, firstF_eq, ← HAe.out]; rfl
    have HRM : Hid (∀ i, i < V.kids.length → (T.kind = 3 → 0 < T.kids.length) ∧ (T.kind ≠ 3 → i < T.kids.length)) := fun i hi => kid_room HF.out HAe.out.symm i hi
    have zc3 : w1.cell? ⟨Z, 3, none⟩ = some (.slice ak V.kids.length ck) := blk_cell HX1.out 3
    go_wp2_with fail
    go_loopw [18] (fun u wr => ∃ i : Nat, i ≤ V.kids.length ∧ u = i64 i ∧ Hid (Below w.heap.size w wr) ∧ Hid (wr.heap[Z]? = some (.cells #[i64 V.kind, i64 V.num, str V.s, .slice ak V.kids.length ck] 28)) ∧ Hid (wr.heap[Y]? = some (.cells #[i64 T.kind, i64 T.num, .slice an T.names.length cn, .slice at_ T.kids.length ct] 25)) ∧ Hid (L = firstL (V.kids.drop i) i T)) (fun u _ => V.kids.length - (intOf u).toNat)
    case atStart => exact ⟨0, Nat.zero_le _, rfl, HB1, HX1, HY1, HL0⟩
    case round =>
      obtain ⟨i, hi, rfl, HB, HXr, HYr, HLr⟩ := hrel
      by_cases hlt : i < V.kids.length
      · obtain ⟨b, off, kv2, rfl, _, hblt, hr, hrd⟩ := (HVd.out.under HB.out).kid i hlt
        obtain ⟨U, hU⟩ : ∃ U, U = V.kids[i] := ⟨_, rfl⟩
        rw [← hU] at hr hrd
        have HUm : Hid (U ∈ V.kids) := by show U ∈ _; rw [hU]; exact List.getElem_mem hlt
        have HLs : Hid (L = if (firstF U (kidT T i)).length = 0 then firstL (V.kids.drop (i + 1)) (i + 1) T else 0 :: i :: (firstF U (kidT T i)).tail) := by show _ = _; rw [HLr.out, firstL_step _ _ _ hlt, ← hU]
        obtain ⟨ak2, ck2, rfl⟩ := hrd.form
        have c0 : wr.cell? ⟨b, off + i * 4, none⟩ = some (i64 U.kind) := hr 0 _ rfl
        have c1 : wr.cell? ⟨b, off + i * 4 + 1, none⟩ = some (i64 U.num) := hr 1 _ rfl
        have c2 : wr.cell? ⟨b, off + i * 4 + 2, none⟩ = some (str U.s) := hr 2 _ rfl
        have c3 : wr.cell? ⟨b, off + i * 4 + 3, none⟩ = some (.slice ak2 U.kids.length ck2) := hr 3 _ rfl
        have HBX : Hid (Below w.heap.size w (wr.alloc (.cells #[i64 U.kind, i64 U.num, str U.s, .slice ak2 U.kids.length ck2] 28))) := HB.out.trans ((below_one wr _).mono HB.out.size)
        have HX2 : Hid ((wr.alloc (.cells #[i64 U.kind, i64 U.num, str U.s, .slice ak2 U.kids.length ck2] 28)).heap[wr.heap.size]? = some (.cells #[i64 U.kind, i64 U.num, str U.s, .slice ak2 U.kids.length ck2] 28)) := heap_last wr _
        have HZ2 : Hid ((wr.alloc (.cells #[i64 U.kind, i64 U.num, str U.s, .slice ak2 U.kids.length ck2] 28)).heap[Z]? = some (.cells #[i64 V.kind, i64 V.num, str V.s, .slice (some ⟨b, off, none⟩) V.kids.length ck] 28)) := blk_alloc HXr.out _
        have HY2 : Hid ((wr.alloc (.cells #[i64 U.kind, i64 U.num, str U.s, .slice ak2 U.kids.length ck2] 28)).heap[Y]? = some (.cells #[i64 T.kind, i64 T.num, .slice an T.names.length cn, .slice at_ T.kids.length ct] 25)) := blk_alloc HYr.out _
        have HUd : Hid (Vd (wr.alloc (.cells #[i64 U.kind, i64 U.num, str U.s, .slice ak2 U.kids.length ck2] 28)) S U (.slice ak2 U.kids.length ck2)) := hrd.under (below_one wr _)
        obtain ⟨hr3, hr4⟩ := HRM.out i hlt
        have HFK : Hid ((kidT T i).formed = true) := kidT_formed HF.out i hr3 hr4
        have HR3 := hid hr3
        have HR4 := hid hr4
        clear hU hr hrd hr3 hr4 HLr
        go_upto_region 6 with fail
        obtain ⟨Q, hQ⟩ : ∃ Q, Q = wr.heap.size := ⟨_, rfl⟩
        rw [← hQ] at HX2 ⊢
        clear hQ c0 c1 c2 c3
        generalize wr.alloc (.cells #[i64 U.kind, i64 U.num, str U.s, .slice ak2 U.kids.length ck2] 28) = X at *
        have HSd : Hid (So2 Q Y (.cells #[i64 U.kind, i64 U.num, str U.s, .slice ak2 U.kids.length ck2] 28) (.cells #[i64 T.kind, i64 T.num, .slice an T.names.length cn, .slice at_ T.kids.length ct] 25) X.drew) := ⟨HX2.out, HY2.out⟩
        have HBd : Hid (Below w.heap.size w X.drew) := below_drewN HBX.out 1
        have HCB : Hid (Calls Tryz.prog 80 #[.agg #[i64 T.kind, i64 T.num, .slice an T.names.length cn, .slice at_ T.kids.length ct], i64 i] X.drew fun e w' => ∃ a1 c1 a2 c2, e = .returned (tyV (kidT T i).kind (kidT T i).num (.slice a1 (kidT T i).names.length c1) (.slice a2 (kidT T i).kids.length c2)) ∧ Below X.drew.heap.size X.drew w' ∧ Rd w' S' (kidT T i) (.slice a1 (kidT T i).names.length c1) (.slice a2 (kidT T i).kids.length c2)) := below_ok T i X.drew S' _ _ (HRd.out.under HBd.out) HR3.out HR4.out
        have HUd2 : Hid (Vd X.drew S U (.slice ak2 U.kids.length ck2)) := HUd.out.under (below_drewN (Below.refl _ X) 1)
        generalize kidT T i = P at *
        refine wp_region_noPanic ?_
        refine wp_region_last (So2 Q Y (.cells #[i64 U.kind, i64 U.num, str U.s, .slice ak2 U.kids.length ck2] 28) (.cells #[i64 T.kind, i64 T.num, .slice an T.names.length cn, .slice at_ T.kids.length ct] 25)) 6 (by kernel_rfl) ?_
        refine wpL_take 0 23 (.agg #[i64 U.kind, i64 U.num, str U.s, .slice ak2 U.kids.length ck2]) [] rfl rfl (by kernel_rfl) (by decide) (by kernel_rfl) (by kernel_rfl) (by kernel_rfl) (fun _ _ _ h => h) HSd.out (by rfl) (fun W hW => by have e0 : W.cell? ⟨Q, 0, none⟩ = some (i64 U.kind) := blk_cell hW.z 0; have e1 : W.cell? ⟨Q, 1, none⟩ = some (i64 U.num) := blk_cell hW.z 1; have e2 : W.cell? ⟨Q, 2, none⟩ = some (str U.s) := blk_cell hW.z 2; have e3 : W.cell? ⟨Q, 3, none⟩ = some (.slice ak2 U.kids.length ck2) := blk_cell hW.z 3; go_simp) ?_
        simp only [Act.put, List.setIfInBounds_toArray, List.set_cons_zero, List.set_cons_succ]
        refine wpL_take 1 24 (.agg #[i64 T.kind, i64 T.num, .slice an T.names.length cn, .slice at_ T.kids.length ct]) [] rfl rfl (by kernel_rfl) (by decide) (by kernel_rfl) (by kernel_rfl) (by kernel_rfl) (fun _ _ _ h => h) HSd.out (by rfl) (fun W hW => by have e0 : W.cell? ⟨Y, 0, none⟩ = some (i64 T.kind) := blk_cell hW.y 0; have e1 : W.cell? ⟨Y, 1, none⟩ = some (i64 T.num) := blk_cell hW.y 1; have e2 : W.cell? ⟨Y, 2, none⟩ = some (.slice an T.names.length cn) := blk_cell hW.y 2; have e3 : W.cell? ⟨Y, 3, none⟩ = some (.slice at_ T.kids.length ct) := blk_cell hW.y 3; go_simp) ?_
        simp only [Act.put, List.setIfInBounds_toArray, List.set_cons_zero, List.set_cons_succ]
        refine wpL_take 2 25 (i64 i) [] rfl rfl (by kernel_rfl) (by decide) (by kernel_rfl) (by kernel_rfl) (by kernel_rfl) (fun _ _ _ h => h) HSd.out (by rfl) (fun W hW => by go_simp) ?_
        simp only [Act.put, List.setIfInBounds_toArray, List.set_cons_zero, List.set_cons_succ]
        refine wpL_take 4 27 (.func (.func 63) #[] #[]) [] rfl rfl (by kernel_rfl) (by decide) (by kernel_rfl) (by kernel_rfl) (by kernel_rfl) (fun _ _ _ h => h) HSd.out (by rfl) (fun W hW => by go_simp) ?_
        simp only [Act.put, List.setIfInBounds_toArray, List.set_cons_zero, List.set_cons_succ]
        refine wpL_one 3 rfl (by kernel_rfl) (by rfl) (fun K hK => ?_)
        go_simp
        refine HCB.out.mono ?_
        rintro e w4 ⟨p1, q1, p2, q2, rfl, hb4, hr4⟩
        have HB4 : Hid (Below w.heap.size w w4) := HBd.out.trans (hb4.mono HBd.out.size)
        have HS4 : Hid (So2 Q Y (.cells #[i64 U.kind, i64 U.num, str U.s, .slice ak2 U.kids.length ck2] 28) (.cells #[i64 T.kind, i64 T.num, .slice an T.names.length cn, .slice at_ T.kids.length ct] 25) w4) := ⟨blk_below HSd.out.z hb4, blk_below HSd.out.y hb4⟩
        have HZ4 : Hid (w4.heap[Z]? = some (.cells #[i64 V.kind, i64 V.num, str V.s, .slice (some ⟨b, off, none⟩) V.kids.length ck] 28)) := blk_below (show X.drew.heap[Z]? = some (.cells #[i64 V.kind, i64 V.num, str V.s, .slice (some ⟨b, off, none⟩) V.kids.length ck] 28) from HZ2.out) hb4
        have HCF : Hid (Calls Tryz.prog 62 #[.agg #[i64 U.kind, i64 U.num, str U.s, .slice ak2 U.kids.length ck2], tyV P.kind P.num (.slice p1 P.names.length q1) (.slice p2 P.kids.length q2), .func (.func 63) #[] #[]] w4 (FirstOk w4 (firstF U P))) := HIH.out U HUm.out P HFK.out w4 _ _ _ (HUd2.out.under hb4) hr4
        have hUl : (firstF U P).length ≤ 100000 := Nat.le_trans (firstF_len _ U (Nat.le_refl _) P) (by have := sizeL_mem HUm.out; have := V.size_eq; omega)
        generalize firstF U P = L2 at *
        clear hb4 hr4 HCB
        go_simp
        refine hK.out _ _ (fun _ => HS4.out) ?_
        clear hK K
        refine wpL_one 5 rfl (by kernel_rfl) (by rfl) (fun K hK => ?_)
        go_simp
        refine HCF.out.mono ?_
        rintro e w5 ⟨wo, wc, rfl, hb5, hcp, hn5⟩
        have HB5 : Hid (Below w.heap.size w w5) := HB4.out.trans (hb5.mono HB4.out.size)
        have HS5 : Hid (So2 Q Y (.cells #[i64 U.kind, i64 U.num, str U.s, .slice ak2 U.kids.length ck2] 28) (.cells #[i64 T.kind, i64 T.num, .slice an T.names.length cn, .slice at_ T.kids.length ct] 25) w5) := ⟨blk_below HS4.out.z hb5, blk_below HS4.out.y hb5⟩
        have HZ5 : Hid (w5.heap[Z]? = some (.cells #[i64 V.kind, i64 V.num, str V.s, .slice (some ⟨b, off, none⟩) V.kids.length ck] 28)) := blk_below HZ4.out hb5
        have HN5 : Hid (Nls w5 (fun b => w.heap.size ≤ b) (.slice wo L2.length wc) L2) := hn5.mono (fun b hb _ => Nat.le_trans HB4.out.size hb)
        have HCP := hid hcp
        clear hb5 hn5 HCF
        go_simp
        refine hK.out _ _ (fun _ => HS5.out) ?_
        clear hK K hcp
        refine wpL_one 6 rfl (by kernel_rfl) (by rfl) (fun K hK => ?_)
        go_simp
        refine hK.out _ _ (fun h => absurd rfl h) ?_
        clear hK K
        refine wpL_done (by kernel_rfl) ?_
        refine NoPanic.normal ?_
        by_cases h0 : L2.length = 0
        · have HLn : Hid (L = firstL (V.kids.drop (i + 1)) (i + 1) T) := by show _ = _; rw [HLs.out, if_pos h0]
          have HYy := hid HS5.out.y
          clear HLs
          rw [h0]
          go_wp2_with fail
          exact ⟨⟨i + 1, by omega, by go_num, HB5, HZ5, HYy, HLn⟩, by simp [intOf]; omega⟩
        · have HLn : Hid (L = 0 :: i :: L2.tail) := by show _ = _; rw [HLs.out, if_neg h0]
          have hpos : 0 < L2.length := by omega
          have hposI : (0 : Int) < L2.length := by omega
          obtain ⟨wb, wof, rfl⟩ : ∃ wb wof, wo = some ⟨wb, wof, none⟩ := by
            obtain ⟨ao, cp, he, _, h3⟩ := HN5.out
            cases he
            rcases h3 with h3 | ⟨b', off', he, _⟩
            · subst h3; simp at hpos
            · exact ⟨b', off', he⟩
          have hcap : L2.length ≤ wc := by
            obtain ⟨ao, cp, he, h2, _⟩ := HN5.out
            cases he
            exact h2
          have hwc := HCP.out
          unfold maxLen at hwc
          obtain ⟨a', hsl, ha'⟩ := sl_from1 (w5.alloc (.cells #[i64 0, i64 i] 3)) wb wof L2.length wc (by omega) hcap hwc
          obtain ⟨ao9, cap9, Y9, hrun, hb9, hc9, hn9⟩ := way_app (i := i) HN5.out HB5.out.size (by omega) hUl a' ha' (wc - 1)
          have HRUN := hid hrun
          have HB9 : Hid (Below w.heap.size w Y9) := HB5.out.trans (hb9.mono HB5.out.size)
          have HLl : Hid (L.length = L2.length + 1) := by show _ = _; rw [HLn.out]; simp only [List.length_cons, List.length_tail]; omega
          have HN9 : Hid (Nls Y9 (fun b => w.heap.size ≤ b) (.slice ao9 (L2.length + 1) cap9) L) := by show Nls _ _ _ _; rw [HLn.out]; exact hn9
          have HC9 := hid hc9
          clear hrun hb9 hn9 hc9 ha' HLs HLn h0 hcap
          generalize L2.length = M at *
          go_wp2_with (at_builtin; refine wpList_app_run rfl (.tmp 33) (.tmp 35) 94 rfl _ _ rfl rfl 94 rfl _ _ HRUN.out ?_)
          refine bodyPost_ret (v := .slice ao9 (M + 1) cap9) (by simp [results, Tryz.results62, go_sem]) rfl ?_
          exact ⟨ao9, cap9, by rw [HLl.out], HB9.out, HC9.out, by rw [HLl.out]; exact HN9.out⟩
      · have he : i = V.kids.length := by omega
        have HL9 : Hid (L = []) := by show _ = _; rw [HLr.out, he, List.drop_length]; rfl
        clear he
        go_wp2_with fail
        refine bodyPost_ret (v := .slice none 0 0) (by simp [results, Tryz.results62, go_sem]) rfl ?_
        refine ⟨none, 0, by rw [HL9.out]; rfl, HB.out, Nat.zero_le _, ?_⟩
        rw [HL9.out]
        exact ⟨none, 0, rfl, Nat.le_refl _, Or.inl rfl⟩
theorem first_ok : ∀ (M : Nat) (V : Vl), V.size ≤ M → M ≤ 100000 → ∀ (T : Ty), T.formed = true → ∀ (w : World) (S S' : Nat → Prop) (kv nv tv : Value), Vd w S V kv → Rd w S' T nv tv → Calls Tryz.prog 62 #[vlV V kv, tyV T.kind T.num nv tv, .func (.func 63) #[] #[]] w (FirstOk w (firstF V T))
  | 0, V, h, _, _, _, _, _, _, _, _, _, _, _ => by have := size_pos V; omega
  | M + 1, V, h, hM, T, hf, w, S, S', kv, nv, tv, hV, hR => first_in V T w S S' kv nv tv hV hR hf (by omega) (fun U hU P hP w kv nv tv hV hR => first_ok M U (by have := sizeL_mem hU; have := V.size_eq; omega) (by omega) P hP w S S' kv nv tv hV hR)
end Go.Proofs.YtihbbgcpdgnhoaaGreatDoor
