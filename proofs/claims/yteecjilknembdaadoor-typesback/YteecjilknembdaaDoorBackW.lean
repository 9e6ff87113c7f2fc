/- TypesBack's walk; no statement is proved in this text. -/
import Derived.Test.YteecjilknembdaaDoorLaid
import Derived.Test.YteecjilknembdaaDoorSm
namespace Go.Proofs.YteecjilknembdaaDoor
open Go.ChangeShapes Go.WideShapes Go.ChangeAt Go.RowKit Go.Deep
attribute [local go_sem ↓] Go.wp_at_zero Go.wp_at_succ

set_option maxRecDepth 100000 in
set_option maxHeartbeats 12800000 in
theorem back_walk (w : World) (hE : Env w) (T : Ty) (nv kv : Value) (hR : Rd w (fun _ => True) T nv kv) (l : Bs) (hl : l.length ≤ maxLen) : Calls Tryd.prog 6 #[tyV T.kind T.num nv kv, str l] w fun e w' => e = .returned (.bool true) ∧ Below w.heap.size w w' := by
  have hbl := bz l
  unfold maxLen at hl
  have HE := hid hE
  have HPID : Hid (∀ W, Below w.heap.size w W → Calls Tryd.prog 9 #[] W fun e w' => e = .returned (.bool true) ∧ Below W.heap.size W w') := fun W hW => pid_ok W (hE.below hW)
  have HRd := hid hR
  obtain ⟨an, cn, rfl, ak, ck, rfl⟩ := hR.form
  have HX : Hid ((w.alloc (.cells #[i64 T.kind, i64 T.num, .slice an T.names.length cn, .slice ak T.kids.length ck] 25)).heap[w.heap.size]? = some (.cells #[i64 T.kind, i64 T.num, .slice an T.names.length cn, .slice ak T.kids.length ck] 25)) := heap_last w _
  have HBV : Hid (Below w.heap.size w (w.alloc (.cells #[i64 T.kind, i64 T.num, .slice an T.names.length cn, .slice ak T.kids.length ck] 25))) := below_one w _
  clear hR hE
  go_enter Tryd.func6, Tryd.ntmps6
  go_upto_region 1 with fail
  obtain ⟨Z, hZ⟩ : ∃ Z, Z = w.heap.size := ⟨_, rfl⟩
  have HZw : Hid (w.heap.size ≤ Z) := by show _ ≤ _; omega
  rw [← hZ] at HX ⊢
  clear hZ
  generalize w.alloc (.cells #[i64 T.kind, i64 T.num, .slice an T.names.length cn, .slice ak T.kids.length ck] 25) = V at *
  have yc0 : V.cell? ⟨Z, 0, none⟩ = some (i64 T.kind) := blk_cell HX.out 0
  have yc1 : V.cell? ⟨Z, 1, none⟩ = some (i64 T.num) := blk_cell HX.out 1
  have yc2 : V.cell? ⟨Z, 2, none⟩ = some (.slice an T.names.length cn) := blk_cell HX.out 2
  have yc3 : V.cell? ⟨Z, 3, none⟩ = some (.slice ak T.kids.length ck) := blk_cell HX.out 3
  have HQ : Hid ((V.alloc (.cells #[i64 200] 29)).heap[V.heap.size]? = some (.cells #[i64 200] 29)) := heap_last V _
  have HBU : Hid (Below w.heap.size w (V.alloc (.cells #[i64 200] 29))) := HBV.out.trans ((below_one V _).mono HBV.out.size)
  have HXU : Hid ((V.alloc (.cells #[i64 200] 29)).heap[Z]? = some (.cells #[i64 T.kind, i64 T.num, .slice an T.names.length cn, .slice ak T.kids.length ck] 25)) := blk_alloc HX.out _
  have HLG : Hid (Calls Tryd.prog 8 #[tyV T.kind T.num (.slice an T.names.length cn) (.slice ak T.kids.length ck), pq V.heap.size, i64 1] (V.alloc (.cells #[i64 200] 29)) (LgOk (V.alloc (.cells #[i64 200] 29)) V.heap.size 200 T)) :=
    large_ok T.count T (Nat.le_refl _) _ _ _ _ 200 1 ((HRd.out.mono (S' := fun b => b ≠ V.heap.size) (fun b _ hb => by have := HBV.out.size; omega)).move HBU.out.size (fun b hb hlt => ⟨hb, HBU.out.block b hlt⟩)) HQ.out (by omega) (by omega) (by omega) (by omega)
  have hZV : Z < V.heap.size := blk_lt HX.out
  have hVw : w.heap.size ≤ V.heap.size := HBV.out.size
  go_wp2_with fail
  refine HLG.out.mono ?_
  rintro e w2 ⟨b0, m', rfl, _, ht2, hf2⟩
  have HB2 : Hid (Below w.heap.size w w2) := HBU.out.trans (ht2.below hVw HBU.out.size)
  have HX2 : Hid (w2.heap[Z]? = some (.cells #[i64 T.kind, i64 T.num, .slice an T.names.length cn, .slice ak T.kids.length ck] 25)) := by show _ = _; rw [ht2.block Z (blk_lt HXU.out) (by omega)]; exact HXU.out
  have HF2 : Hid (b0 = false → T.count ≤ 200) := fun h => by have := hf2 h; omega
  clear ht2 hf2 HLG yc0 yc1 yc2 yc3 hZV hVw HBV HBU HXU HQ
  have yc0 : w2.cell? ⟨Z, 0, none⟩ = some (i64 T.kind) := blk_cell HX2.out 0
  have yc1 : w2.cell? ⟨Z, 1, none⟩ = some (i64 T.num) := blk_cell HX2.out 1
  have yc2 : w2.cell? ⟨Z, 2, none⟩ = some (.slice an T.names.length cn) := blk_cell HX2.out 2
  have yc3 : w2.cell? ⟨Z, 3, none⟩ = some (.slice ak T.kids.length ck) := blk_cell HX2.out 3
  cases b0 with
  | true =>
    go_wp2_with fail
    refine (HPID.out w2 HB2.out).mono ?_
    rintro e w9 ⟨rfl, hb9⟩
    have HB9 : Hid (Below w.heap.size w w9) := HB2.out.trans (hb9.mono HB2.out.size)
    clear hb9
    go_wp2_with fail
    go_ret
    exact ⟨rfl, HB9.out⟩
  | false =>
    have hcnt := HF2.out rfl
    by_cases h1 : 1500 < l.length
    · have h1I : (1500 : Int) < l.length := by omega
      go_wp2_with fail
      refine (HPID.out w2 HB2.out).mono ?_
      rintro e w9 ⟨rfl, hb9⟩
      have HB9 : Hid (Below w.heap.size w w9) := HB2.out.trans (hb9.mono HB2.out.size)
      clear hb9
      go_wp2_with fail
      go_ret
      exact ⟨rfl, HB9.out⟩
    · have HPR : Hid (Calls Tryd.prog 10 #[tyV T.kind T.num (.slice an T.names.length cn) (.slice ak T.kids.length ck)] w2 fun e w' => e = .returned (.tuple #[str (if T.err = 0 then T.txt else []), i64 T.err]) ∧ Below w2.heap.size w2 w') := print_ok T w2 _ _ _ (HE.out.below HB2.out).pw (HRd.out.under HB2.out)
      go_wp2_with fail
      refine HPR.out.mono ?_
      rintro e w3 ⟨rfl, hb3⟩
      have HB3 : Hid (Below w.heap.size w w3) := HB2.out.trans (hb3.mono HB2.out.size)
      have HX3 := hid (blk_below HX2.out hb3)
      clear hb3 yc0 yc1 yc2 yc3 HPR
      have yc0 : w3.cell? ⟨Z, 0, none⟩ = some (i64 T.kind) := blk_cell HX3.out 0
      have yc1 : w3.cell? ⟨Z, 1, none⟩ = some (i64 T.num) := blk_cell HX3.out 1
      have yc2 : w3.cell? ⟨Z, 2, none⟩ = some (.slice an T.names.length cn) := blk_cell HX3.out 2
      have yc3 : w3.cell? ⟨Z, 3, none⟩ = some (.slice ak T.kids.length ck) := blk_cell HX3.out 3
      by_cases h0 : T.err = 0
      · have hr := (right_err T).2 h0
        have htl := txt_le T.count T (Nat.le_refl _) (right_formed hr).1
        have HPF := hid (parseF_txt hr)
        have HP4 := hid (parse_ok T.txt w3 (by omega) (HE.out.below HB3.out).ml)
        rw [h0, if_pos rfl]
        clear h0 hr htl
        go_wp2_with fail
        refine HP4.out.mono ?_
        rintro e w4 ⟨p1, q1, d1, p2, q2, d2, he4, hb4, hr4⟩
        obtain ⟨g1, g2⟩ := parse_0 HPF.out
        rw [g1, g2] at he4
        rw [g1] at hr4
        subst he4
        have HB4 : Hid (Below w.heap.size w w4) := HB3.out.trans (hb4.mono HB3.out.size)
        have HX4 := hid (blk_below HX3.out hb4)
        have HBK : Hid (Below w4.heap.size w4 (w4.alloc (.cells #[i64 T.kind, i64 T.num, .slice p1 q1 d1, .slice p2 q2 d2] 25))) := below_one w4 _
        have HKK : Hid ((w4.alloc (.cells #[i64 T.kind, i64 T.num, .slice p1 q1 d1, .slice p2 q2 d2] 25)).heap[w4.heap.size]? = some (.cells #[i64 T.kind, i64 T.num, .slice p1 q1 d1, .slice p2 q2 d2] 25)) := heap_last w4 _
        have HXK := hid (blk_below HX4.out HBK.out)
        have HWK : Hid (Below w.heap.size w (w4.alloc (.cells #[i64 T.kind, i64 T.num, .slice p1 q1 d1, .slice p2 q2 d2] 25))) := HB4.out.trans (HBK.out.mono HB4.out.size)
        have HSM : Hid (Calls Tryd.prog 18 #[tyV T.kind T.num (.slice an T.names.length cn) (.slice ak T.kids.length ck), tyV T.kind T.num (.slice p1 q1 d1) (.slice p2 q2 d2)] (w4.alloc (.cells #[i64 T.kind, i64 T.num, .slice p1 q1 d1, .slice p2 q2 d2] 25)) fun e w' => e = .returned (.bool true) ∧ Below (w4.alloc (.cells #[i64 T.kind, i64 T.num, .slice p1 q1 d1, .slice p2 q2 d2] 25)).heap.size (w4.alloc (.cells #[i64 T.kind, i64 T.num, .slice p1 q1 d1, .slice p2 q2 d2] 25)) w') := by
          have := same_ok T T (w4.alloc (.cells #[i64 T.kind, i64 T.num, .slice p1 q1 d1, .slice p2 q2 d2] 25)) _ _ _ _ (HRd.out.under HWK.out) ((hr4.mono (S' := fun _ => True) (fun _ _ _ => trivial)).under HBK.out) (by omega)
          rw [sameB_refl] at this
          exact this
        clear hb4 hr4 g1 g2 yc0 yc1 yc2 yc3 HP4 HBK
        go_upto_region 6 with fail
        obtain ⟨Kb, hKb⟩ : ∃ Kb, Kb = w4.heap.size := ⟨_, rfl⟩
        rw [← hKb] at HKK ⊢
        clear hKb
        generalize w4.alloc (.cells #[i64 T.kind, i64 T.num, .slice p1 q1 d1, .slice p2 q2 d2] 25) = XK at *
        have yc0 : XK.cell? ⟨Z, 0, none⟩ = some (i64 T.kind) := blk_cell HXK.out 0
        have yc1 : XK.cell? ⟨Z, 1, none⟩ = some (i64 T.num) := blk_cell HXK.out 1
        have yc2 : XK.cell? ⟨Z, 2, none⟩ = some (.slice an T.names.length cn) := blk_cell HXK.out 2
        have yc3 : XK.cell? ⟨Z, 3, none⟩ = some (.slice ak T.kids.length ck) := blk_cell HXK.out 3
        have kc0 : XK.cell? ⟨Kb, 0, none⟩ = some (i64 T.kind) := blk_cell HKK.out 0
        have kc1 : XK.cell? ⟨Kb, 1, none⟩ = some (i64 T.num) := blk_cell HKK.out 1
        have kc2 : XK.cell? ⟨Kb, 2, none⟩ = some (.slice p1 q1 d1) := blk_cell HKK.out 2
        have kc3 : XK.cell? ⟨Kb, 3, none⟩ = some (.slice p2 q2 d2) := blk_cell HKK.out 3
        go_wp2_with fail
        refine HSM.out.mono ?_
        rintro e w8 ⟨rfl, hb8⟩
        have HB8 : Hid (Below w.heap.size w w8) := HWK.out.trans (hb8.mono HWK.out.size)
        clear hb8 yc0 yc1 yc2 yc3 kc0 kc1 kc2 kc3
        have HP8 := hid (parse_ok l w8 (by omega) (HE.out.below HB8.out).ml)
        go_wp2_with fail
        refine HP8.out.mono ?_
        rintro e w5 ⟨u1, v1, c1, u2, v2, c2, he5, hb5, hr5⟩
        have HB5 : Hid (Below w.heap.size w w5) := HB8.out.trans (hb5.mono HB8.out.size)
        clear hb5 HP8
        cases hpl : parseF l with
        | none =>
          obtain ⟨g1, g2⟩ := parse_4 hpl
          rw [g1, g2] at he5
          subst he5
          have HB6 : Hid (Below w.heap.size w (w5.alloc (.cells #[i64 0, i64 0, .slice u1 v1 c1, .slice u2 v2 c2] 25))) := HB5.out.trans ((below_one w5 _).mono HB5.out.size)
          clear hr5 g1 g2
          go_wp2_with fail
          refine (HPID.out _ HB6.out).mono ?_
          rintro e w9 ⟨rfl, hb9⟩
          have HB9 : Hid (Below w.heap.size w w9) := HB6.out.trans (hb9.mono HB6.out.size)
          clear hb9
          go_wp2_with fail
          go_ret
          exact ⟨rfl, HB9.out⟩
        | some U =>
          obtain ⟨g1, g2⟩ := parse_0 hpl
          rw [g1, g2] at he5
          rw [g1] at hr5
          subst he5
          obtain ⟨k1, k2⟩ := parseF_back hpl
          have HB6 : Hid (Below w5.heap.size w5 (w5.alloc (.cells #[i64 U.kind, i64 U.num, .slice u1 v1 c1, .slice u2 v2 c2] 25))) := below_one w5 _
          have HX6 : Hid ((w5.alloc (.cells #[i64 U.kind, i64 U.num, .slice u1 v1 c1, .slice u2 v2 c2] 25)).heap[w5.heap.size]? = some (.cells #[i64 U.kind, i64 U.num, .slice u1 v1 c1, .slice u2 v2 c2] 25)) := heap_last w5 _
          have HW6 : Hid (Below w.heap.size w (w5.alloc (.cells #[i64 U.kind, i64 U.num, .slice u1 v1 c1, .slice u2 v2 c2] 25))) := HB5.out.trans (HB6.out.mono HB5.out.size)
          have HPR6 : Hid (Calls Tryd.prog 10 #[tyV U.kind U.num (.slice u1 v1 c1) (.slice u2 v2 c2)] (w5.alloc (.cells #[i64 U.kind, i64 U.num, .slice u1 v1 c1, .slice u2 v2 c2] 25)) fun e w' => e = .returned (.tuple #[str l, i64 0]) ∧ Below (w5.alloc (.cells #[i64 U.kind, i64 U.num, .slice u1 v1 c1, .slice u2 v2 c2] 25)).heap.size (w5.alloc (.cells #[i64 U.kind, i64 U.num, .slice u1 v1 c1, .slice u2 v2 c2] 25)) w') := by
            have := print_ok U _ _ _ _ (HE.out.below HW6.out).pw (hr5.under HB6.out)
            rw [(right_err U).1 k1, if_pos rfl, ← k2] at this
            exact this
          clear hr5 g1 g2 k1 k2 HB6
          go_upto_region 9 with fail
          obtain ⟨Ub, hUb⟩ : ∃ Ub, Ub = w5.heap.size := ⟨_, rfl⟩
          rw [← hUb] at HX6 ⊢
          clear hUb
          generalize w5.alloc (.cells #[i64 U.kind, i64 U.num, .slice u1 v1 c1, .slice u2 v2 c2] 25) = X6 at *
          have u0 : X6.cell? ⟨Ub, 0, none⟩ = some (i64 U.kind) := blk_cell HX6.out 0
          have u1' : X6.cell? ⟨Ub, 1, none⟩ = some (i64 U.num) := blk_cell HX6.out 1
          have u2' : X6.cell? ⟨Ub, 2, none⟩ = some (.slice u1 v1 c1) := blk_cell HX6.out 2
          have u3 : X6.cell? ⟨Ub, 3, none⟩ = some (.slice u2 v2 c2) := blk_cell HX6.out 3
          go_wp2_with fail
          refine HPR6.out.mono ?_
          rintro e w7 ⟨rfl, hb7⟩
          have HB7 : Hid (Below w.heap.size w w7) := HW6.out.trans (hb7.mono HW6.out.size)
          clear hb7
          go_wp2_with fail
          refine (HPID.out _ HB7.out).mono ?_
          rintro e w9 ⟨rfl, hb9⟩
          have HB9 : Hid (Below w.heap.size w w9) := HB7.out.trans (hb9.mono HB7.out.size)
          clear hb9
          go_wp2_with fail
          go_ret
          exact ⟨rfl, HB9.out⟩
      · have hne0 : (T.err == 0) = false := by simpa using h0
        rw [if_neg h0]
        have H0 := hid h0
        clear h0 yc0 yc1 yc2 yc3
        have HP8 := hid (parse_ok l w3 (by omega) (HE.out.below HB3.out).ml)
        go_wp2_with fail
        refine HP8.out.mono ?_
        rintro e w5 ⟨u1, v1, c1, u2, v2, c2, he5, hb5, hr5⟩
        have HB5 : Hid (Below w.heap.size w w5) := HB3.out.trans (hb5.mono HB3.out.size)
        clear hb5 HP8
        cases hpl : parseF l with
        | none =>
          obtain ⟨g1, g2⟩ := parse_4 hpl
          rw [g1, g2] at he5
          subst he5
          have HB6 : Hid (Below w.heap.size w (w5.alloc (.cells #[i64 0, i64 0, .slice u1 v1 c1, .slice u2 v2 c2] 25))) := HB5.out.trans ((below_one w5 _).mono HB5.out.size)
          clear hr5 g1 g2
          go_wp2_with fail
          refine (HPID.out _ HB6.out).mono ?_
          rintro e w9 ⟨rfl, hb9⟩
          have HB9 : Hid (Below w.heap.size w w9) := HB6.out.trans (hb9.mono HB6.out.size)
          clear hb9
          go_wp2_with fail
          go_ret
          exact ⟨rfl, HB9.out⟩
        | some U =>
          obtain ⟨g1, g2⟩ := parse_0 hpl
          rw [g1, g2] at he5
          rw [g1] at hr5
          subst he5
          obtain ⟨k1, k2⟩ := parseF_back hpl
          have HB6 : Hid (Below w5.heap.size w5 (w5.alloc (.cells #[i64 U.kind, i64 U.num, .slice u1 v1 c1, .slice u2 v2 c2] 25))) := below_one w5 _
          have HX6 : Hid ((w5.alloc (.cells #[i64 U.kind, i64 U.num, .slice u1 v1 c1, .slice u2 v2 c2] 25)).heap[w5.heap.size]? = some (.cells #[i64 U.kind, i64 U.num, .slice u1 v1 c1, .slice u2 v2 c2] 25)) := heap_last w5 _
          have HW6 : Hid (Below w.heap.size w (w5.alloc (.cells #[i64 U.kind, i64 U.num, .slice u1 v1 c1, .slice u2 v2 c2] 25))) := HB5.out.trans (HB6.out.mono HB5.out.size)
          have HPR6 : Hid (Calls Tryd.prog 10 #[tyV U.kind U.num (.slice u1 v1 c1) (.slice u2 v2 c2)] (w5.alloc (.cells #[i64 U.kind, i64 U.num, .slice u1 v1 c1, .slice u2 v2 c2] 25)) fun e w' => e = .returned (.tuple #[str l, i64 0]) ∧ Below (w5.alloc (.cells #[i64 U.kind, i64 U.num, .slice u1 v1 c1, .slice u2 v2 c2] 25)).heap.size (w5.alloc (.cells #[i64 U.kind, i64 U.num, .slice u1 v1 c1, .slice u2 v2 c2] 25)) w') := by
            have := print_ok U _ _ _ _ (HE.out.below HW6.out).pw (hr5.under HB6.out)
            rw [(right_err U).1 k1, if_pos rfl, ← k2] at this
            exact this
          clear hr5 g1 g2 k1 k2 HB6
          go_upto_region 9 with fail
          obtain ⟨Ub, hUb⟩ : ∃ Ub, Ub = w5.heap.size := ⟨_, rfl⟩
          rw [← hUb] at HX6 ⊢
          clear hUb
          generalize w5.alloc (.cells #[i64 U.kind, i64 U.num, .slice u1 v1 c1, .slice u2 v2 c2] 25) = X6 at *
          have u0 : X6.cell? ⟨Ub, 0, none⟩ = some (i64 U.kind) := blk_cell HX6.out 0
          have u1' : X6.cell? ⟨Ub, 1, none⟩ = some (i64 U.num) := blk_cell HX6.out 1
          have u2' : X6.cell? ⟨Ub, 2, none⟩ = some (.slice u1 v1 c1) := blk_cell HX6.out 2
          have u3 : X6.cell? ⟨Ub, 3, none⟩ = some (.slice u2 v2 c2) := blk_cell HX6.out 3
          go_wp2_with fail
          refine HPR6.out.mono ?_
          rintro e w7 ⟨rfl, hb7⟩
          have HB7 : Hid (Below w.heap.size w w7) := HW6.out.trans (hb7.mono HW6.out.size)
          clear hb7
          go_wp2_with fail
          refine (HPID.out _ HB7.out).mono ?_
          rintro e w9 ⟨rfl, hb9⟩
          have HB9 : Hid (Below w.heap.size w w9) := HB7.out.trans (hb9.mono HB7.out.size)
          clear hb9
          go_wp2_with fail
          go_ret
          exact ⟨rfl, HB9.out⟩
end Go.Proofs.YteecjilknembdaaDoor
