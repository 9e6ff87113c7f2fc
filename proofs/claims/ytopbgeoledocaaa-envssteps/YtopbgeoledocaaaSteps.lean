/- EnvsSteps' walk; no statement is proved in this text. -/
import Derived.Test.YtopbgeoledocaaaDoes
namespace Go.Proofs.Ytopbgeoledocaaa
open Go.ChangeShapes Go.WideShapes Go.ChangeAt Go.RowKit Go.Deep
attribute [local go_sem ↓] Go.wp_at_zero Go.wp_at_succ

set_option maxRecDepth 100000 in
set_option maxHeartbeats 3200000 in
theorem steps_long (w : World) (ao : Option Addr) (len cap : Nat) (hlen : len ≤ maxLen) (h : 100 < len) : Calls Try.prog 3 #[.slice ao len cap] w fun e w' => e = .returned (.bool true) ∧ Below w.heap.size w w' := by
  have hI : (100 : Int) < len := by omega
  have hm : (len : Int) ≤ 9223372036854775807 := by unfold maxLen at hlen; omega
  clear h hlen
  go_enter Try.func3, Try.ntmps3
  go_wp2_with fail
  refine (new_ok w).mono ?_
  rintro e w1 ⟨rfl, ht1, hb1⟩
  have HB1 := hid hb1
  clear ht1 hb1
  go_wp2_with fail
  refine (five_ok _).mono ?_
  rintro e w2 ⟨rfl, hb2⟩
  have HB2 : Hid (Below w.heap.size w w2) := HB1.out.trans (hb2.mono HB1.out.size)
  clear hb2
  go_wp2_with fail
  go_ret
  exact ⟨rfl, HB2.out⟩
structure SqX (Z : Nat) (x : Sp) (W : World) : Prop where
  x : W.heap[Z]? = some (spO x)
set_option maxRecDepth 100000 in
set_option maxHeartbeats 6400000 in
theorem steps_in (w : World) (ao : Option Addr) (len cap : Nat) (f : Nat → Sp) (hl : len ≤ 100) (hS : SSl w ao len f) : Calls Try.prog 3 #[.slice ao len cap] w fun e w' => e = .returned (.bool true) ∧ Below w.heap.size w w' := by
  obtain ⟨b, hb⟩ : ∃ b, b = w.heap.size := ⟨_, rfl⟩
  have hI : (len : Int) ≤ 100 := by omega
  have HN : Hid (Calls Try.prog 8 #[] w fun e w' => e = .returned (pq b) ∧ Tb w' b b zE ∧ Below b w w') := by rw [hb]; exact new_ok w
  have HSb : Hid (∀ W, Below b w W → ∀ k, k < len → ∃ B off, ao = some ⟨B, off, none⟩ ∧ W.rangeAt B (off + k * 5) (f k).c') := fun W hW k hk => by
    rw [hb] at hW
    obtain ⟨B, off, h1, _, h2⟩ := (hS.below hW).at hk
    exact ⟨B, off, h1, h2⟩
  rw [← hb]
  clear hS hb
  go_enter Try.func3, Try.ntmps3
  go_wp2_with fail
  refine HN.out.mono ?_
  rintro e w1 ⟨rfl, ht1, hb1⟩
  have hl1 := ht1.lt
  have HT1 : Hid (Tw (w1.alloc (.cells #[.slice none 0 0] 29)) b b w1.heap.size 0 zE []) := ⟨ht1.below (below_one w1 _), ⟨by omega, ⟨_, heap_last w1 _, World.ownsRow_nil _ _ 41 5⟩, fun i p hp => by simp at hp, fun i j p q hp => by simp at hp⟩, rl_zero⟩
  have HB1 : Hid (Below b w (w1.alloc (.cells #[.slice none 0 0] 29))) := hb1.trans ((below_one w1 _).mono (by omega))
  obtain ⟨R, hR⟩ : ∃ R, R = w1.heap.size := ⟨_, rfl⟩
  clear ht1 hb1 hl1
  go_wp2_with fail
  rw [← hR] at HT1 ⊢
  generalize w1.alloc (.cells #[.slice none 0 0] 29) = w2 at *
  clear hR
  go_loopw [27] (fun u wr => ∃ (k : Nat) (E : Nat → Option En) (L : List Rn), k ≤ len ∧ u = i64 k ∧ Hid (Tw wr b b R k E L) ∧ Hid (Below b w wr)) (fun u _ => len - (intOf u).toNat)
  case atStart => exact ⟨0, _, _, by omega, rfl, HT1, HB1⟩
  case round =>
    obtain ⟨k, E, L, hk, rfl, HT, HB⟩ := hrel
    by_cases hlt : k < len
    · have hkI : (k : Int) < len := by omega
      obtain ⟨B, off, hao, hr⟩ := HSb.out wr HB.out k hlt
      subst hao
      obtain ⟨x, hx⟩ : ∃ x, x = f k := ⟨_, rfl⟩
      rw [← hx] at hr
      have c0 : wr.cell? ⟨B, off + k * 5, none⟩ = some (i64 x.what) := hr 0 _ rfl
      have c1 : wr.cell? ⟨B, off + k * 5 + 1, none⟩ = some (i64 x.env) := hr 1 _ rfl
      have c2 : wr.cell? ⟨B, off + k * 5 + 2, none⟩ = some (i64 x.ver) := hr 2 _ rfl
      have c3 : wr.cell? ⟨B, off + k * 5 + 3, none⟩ = some (i64 x.k) := hr 3 _ rfl
      have c4 : wr.cell? ⟨B, off + k * 5 + 4, none⟩ = some (i64 x.x) := hr 4 _ rfl
      have HX : Hid ((wr.alloc (spO x)).heap[wr.heap.size]? = some (spO x)) := heap_last wr _
      have HTV : Hid (Tw (wr.alloc (spO x)) b b R k E L) := HT.out.below (below_one wr _)
      have hbl := HT.out.r.los
      have HBV : Hid (Below b w (wr.alloc (spO x))) := HB.out.trans ((below_one wr _).mono hbl)
      clear hx hr
      go_upto_region 8 with fail
      obtain ⟨Z, hZ⟩ : ∃ Z, Z = wr.heap.size := ⟨_, rfl⟩
      rw [← hZ] at HX ⊢
      generalize wr.alloc (spO x) = V at *
      clear c0 c1 c2 c3 c4 hZ hbl
      have HS : Hid (SqX Z x V.drew) := ⟨HX.out⟩
      refine wp_region_noPanic ?_
      refine wp_region_last (SqX Z x) 15 (by kernel_rfl) ?_
      refine wpL_take 0 31 (pq b) [3, 5] rfl rfl (by kernel_rfl) (by decide) (by kernel_rfl) (by kernel_rfl) (by kernel_rfl) (fun _ _ _ h => h) HS.out (by rfl) (fun W hW => by obtain ⟨s0⟩ := hW; have s1 := blk_cell s0 1; go_simp) ?_
      simp only [Act.put, List.setIfInBounds_toArray, List.set_cons_zero, List.set_cons_succ]
      refine wpL_take 1 32 (pq R) [3, 5] rfl rfl (by kernel_rfl) (by decide) (by kernel_rfl) (by kernel_rfl) (by kernel_rfl) (fun _ _ _ h => h) HS.out (by rfl) (fun W hW => by obtain ⟨s0⟩ := hW; have s1 := blk_cell s0 1; go_simp) ?_
      simp only [Act.put, List.setIfInBounds_toArray, List.set_cons_zero, List.set_cons_succ]
      refine wpL_take 2 33 (.agg #[i64 x.what, i64 x.env, i64 x.ver, i64 x.k, i64 x.x]) [3, 5] rfl rfl (by kernel_rfl) (by decide) (by kernel_rfl) (by kernel_rfl) (by kernel_rfl) (fun _ _ _ h => h) HS.out (by rfl) (fun W hW => by obtain ⟨s0⟩ := hW; have s0' := blk_cell s0 0; have s1 := blk_cell s0 1; have s2 := blk_cell s0 2; have s3 := blk_cell s0 3; have s4 := blk_cell s0 4; go_simp) ?_
      simp only [Act.put, List.setIfInBounds_toArray, List.set_cons_zero, List.set_cons_succ]
      have hDo := does_ok (w := V.drew) (base := b) (T := b) (R := R) (c := k) (E := E) (L := L) ⟨HTV.out.t.keep (fun _ _ _ h _ => h), HTV.out.r.same (fun _ _ _ h _ => h), HTV.out.e⟩ (by omega) x
      unfold DoesTo at hDo
      have HD := hid hDo
      clear hDo
      refine wpL_one 3 rfl (by kernel_rfl) (by rfl) (fun K hK => ?_)
      go_simp
      refine HD.out.mono ?_
      rintro e w5 ⟨rfl, E5, L5, ht5, _, hf5⟩
      have HB5 : Hid (Below b w w5) := HBV.out.drew.trans hf5.below
      have HX5 : Hid (w5.heap[Z]? = some (spO x)) := hf5.kept _ _ HX.out (by rfl)
      have HS5 : Hid (SqX Z x w5) := ⟨HX5.out⟩
      have HT5 := hid ht5
      obtain ⟨lo, hlo⟩ : ∃ lo, lo = ((stE E5 x.env).map En.lost).getD 0 := ⟨_, rfl⟩
      have HL1 : Hid (Calls Try.prog 11 #[pq b, i64 x.env] w5 fun e w' => e = .returned (i64 lo) ∧ w' = w5) := hid (by rw [hlo]; exact lost_ok ht5.t x.env)
      have HL2 : Hid (Calls Try.prog 12 #[pq R, i64 x.env] w5 fun e w' => e = .returned (i64 lo) ∧ Below w5.heap.size w5 w') := hid (by rw [hlo]; exact rlost_rel ht5.r ht5.e (by omega) x.env)
      clear ht5 hf5 hlo
      go_simp
      refine hK.out _ _ (fun _ => HS5.out) ?_
      clear hK K
      refine wpL_take 4 35 (.bool false) [5] rfl rfl (by kernel_rfl) (by decide) (by kernel_rfl) (by kernel_rfl) (by kernel_rfl) (fun _ _ _ h => h) HS5.out (by rfl) (fun W hW => by obtain ⟨s0⟩ := hW; have s1 := blk_cell s0 1; go_simp) ?_
      simp only [Act.put, List.setIfInBounds_toArray, List.set_cons_zero, List.set_cons_succ]
      refine wpL_take 5 36 (.bool false) [] rfl rfl (by kernel_rfl) (by decide) (by kernel_rfl) (by kernel_rfl) (by kernel_rfl) (fun _ _ _ h => h) HS5.out (by rfl) (fun W hW => by obtain ⟨s0⟩ := hW; have s1 := blk_cell s0 1; go_simp) ?_
      simp only [Act.put, List.setIfInBounds_toArray, List.set_cons_zero, List.set_cons_succ]
      refine wpL_take 6 37 (pq b) [9, 13, 14] rfl rfl (by kernel_rfl) (by decide) (by kernel_rfl) (by kernel_rfl) (by kernel_rfl) (fun _ _ _ h => h) HS5.out (by rfl) (fun W hW => by obtain ⟨s0⟩ := hW; have s1 := blk_cell s0 1; go_simp) ?_
      simp only [Act.put, List.setIfInBounds_toArray, List.set_cons_zero, List.set_cons_succ]
      refine wpL_take 7 38 (.pointer (some ⟨Z, 1, none⟩)) [8, 9, 13, 14] rfl rfl (by kernel_rfl) (by decide) (by kernel_rfl) (by kernel_rfl) (by kernel_rfl) (fun _ _ _ h => h) HS5.out (by rfl) (fun W hW => by obtain ⟨s0⟩ := hW; have s1 := blk_cell s0 1; go_simp) ?_
      simp only [Act.put, List.setIfInBounds_toArray, List.set_cons_zero, List.set_cons_succ]
      refine wpL_take 8 39 (i64 x.env) [9, 13, 14] rfl rfl (by kernel_rfl) (by decide) (by kernel_rfl) (by kernel_rfl) (by kernel_rfl) (fun _ _ _ h => h) HS5.out (by rfl) (fun W hW => by obtain ⟨s0⟩ := hW; have s1 := blk_cell s0 1; go_simp) ?_
      simp only [Act.put, List.setIfInBounds_toArray, List.set_cons_zero, List.set_cons_succ]
      refine wpL_take 10 41 (pq R) [13, 14] rfl rfl (by kernel_rfl) (by decide) (by kernel_rfl) (by kernel_rfl) (by kernel_rfl) (fun _ _ _ h => h) HS5.out (by rfl) (fun W hW => by obtain ⟨s0⟩ := hW; have s1 := blk_cell s0 1; go_simp) ?_
      simp only [Act.put, List.setIfInBounds_toArray, List.set_cons_zero, List.set_cons_succ]
      refine wpL_take 11 42 (.pointer (some ⟨Z, 1, none⟩)) [12, 13, 14] rfl rfl (by kernel_rfl) (by decide) (by kernel_rfl) (by kernel_rfl) (by kernel_rfl) (fun _ _ _ h => h) HS5.out (by rfl) (fun W hW => by obtain ⟨s0⟩ := hW; have s1 := blk_cell s0 1; go_simp) ?_
      simp only [Act.put, List.setIfInBounds_toArray, List.set_cons_zero, List.set_cons_succ]
      refine wpL_take 12 43 (i64 x.env) [13, 14] rfl rfl (by kernel_rfl) (by decide) (by kernel_rfl) (by kernel_rfl) (by kernel_rfl) (fun _ _ _ h => h) HS5.out (by rfl) (fun W hW => by obtain ⟨s0⟩ := hW; have s1 := blk_cell s0 1; go_simp) ?_
      simp only [Act.put, List.setIfInBounds_toArray, List.set_cons_zero, List.set_cons_succ]
      refine wpL_one 9 rfl (by kernel_rfl) (by rfl) (fun K hK => ?_)
      go_simp
      refine HL1.out.mono ?_
      rintro e w6 ⟨rfl, hv⟩
      replace hv := hv.symm
      subst hv
      go_simp
      refine hK.out _ _ (fun _ => HS5.out) ?_
      clear hK K
      refine wpL_one 13 rfl (by kernel_rfl) (by rfl) (fun K hK => ?_)
      go_simp
      refine HL2.out.mono ?_
      rintro e w7 ⟨rfl, hb7⟩
      have HB7 : Hid (Below b w w7) := HB5.out.trans (hb7.mono HT5.out.r.los)
      have HX7 := hid (blk_below HX5.out hb7)
      have HT7 := hid (HT5.out.below hb7)
      have HS7 : Hid (SqX Z x w7) := ⟨HX7.out⟩
      clear hb7
      go_simp
      refine hK.out _ _ (fun _ => HS7.out) ?_
      clear hK K
      refine wpL_take 14 45 (.bool false) [] rfl rfl (by kernel_rfl) (by decide) (by kernel_rfl) (by kernel_rfl) (by kernel_rfl) (fun _ _ _ h => h) HS7.out (by rfl) (fun W hW => by obtain ⟨s0⟩ := hW; have s1 := blk_cell s0 1; go_simp) ?_
      simp only [Act.put, List.setIfInBounds_toArray, List.set_cons_zero, List.set_cons_succ]
      refine wpL_one 15 rfl (by kernel_rfl) (by rfl) (fun K hK => ?_)
      go_simp
      refine hK.out _ _ (fun h => absurd rfl h) ?_
      clear hK K
      refine wpL_done (by kernel_rfl) ?_
      refine NoPanic.normal ?_
      clear HS HS5 HS7 HB5 HX5 HT5 HL1 HL2 HD HX HTV HBV
      have z1 : w7.cell? ⟨Z, 1, none⟩ = some (i64 x.env) := blk_cell HX7.out 1
      have hZ7 := hid (blk_lt HX7.out)
      have HV := ver_ok HT7.out.t x.env
      have HA := rat_ok HT7.out.r HT7.out.e.len x.env
      rcases HT7.out.e.at' x.env with ⟨q1, q2, q3⟩ | ⟨j, p, e, q1, q2, q3, q4, q5⟩
      · rw [q2] at HV
        rw [q1] at HA
        have HV : Hid (Calls Try.prog 13 #[pq b, i64 x.env] w7 fun e w' => e = .returned (.tuple #[i64 0, i64 6]) ∧ w' = w7) := HV
        have HA := hid HA
        clear q1 q2 q3
        go_wp2_with fail
        refine HV.out.mono ?_
        rintro e v8 ⟨rfl, hv⟩
        replace hv := hv.symm
        subst hv
        go_wp2_with fail
        refine HA.out.mono ?_
        rintro e w8 ⟨rfl, hb8⟩
        have HT8 : Hid (Tw w8 b b R (k + 1) E5 L5) := HT7.out.below hb8
        have HB8 : Hid (Below b w w8) := HB7.out.trans (hb8.mono HT7.out.r.los)
        clear hb8
        go_wp2_with fail
        exact ⟨⟨k + 1, _, _, by omega, by go_num, HT8, HB8⟩, by simp [intOf]; omega⟩
      · rw [q4] at HV
        rw [q1] at HA
        have HV : Hid (Calls Try.prog 13 #[pq b, i64 x.env] w7 fun e' w' => e' = .returned (.tuple #[i64 e.ver, i64 0]) ∧ w' = w7) := HV
        have HA := hid HA
        have HP := hid q2
        have HVe := hid q5.ver
        have hjL : j < L5.length := (List.getElem?_eq_some_iff.1 q2).1
        clear q1 q2 q3 q4 q5
        go_wp2_with fail
        refine HV.out.mono ?_
        rintro e v8 ⟨rfl, hv⟩
        replace hv := hv.symm
        subst hv
        go_wp2_with fail
        refine HA.out.mono ?_
        rintro e w8 ⟨rfl, hb8⟩
        have HT8 : Hid (Tw w8 b b R (k + 1) E5 L5) := HT7.out.below hb8
        have HB8 : Hid (Below b w w8) := HB7.out.trans (hb8.mono HT7.out.r.los)
        obtain ⟨ao8, cap8, hbk, _, hcap, hrow⟩ := HT8.out.r.row
        obtain ⟨g, rfl, _, _, _, _, hc⟩ := hrow j p HP.out
        have b0 : w8.cell? ⟨R, 0, none⟩ = some (.slice (some ⟨g, 0, none⟩) L5.length cap8) := blk_cell hbk 0
        have c1 : w8.cell? ⟨g, j * 5 + 1, none⟩ = some (i64 p.ver) := hc 1 (by omega)
        rw [← HVe.out] at c1
        have hjI : (j : Int) < L5.length := by omega
        clear hb8 hbk hrow hc hcap
        generalize L5.length = NN at *
        go_wp2_with fail
        exact ⟨⟨k + 1, _, _, by omega, by go_num, HT8, HB8⟩, by simp [intOf]; omega⟩
    · obtain rfl : k = len := by omega
      go_wp2_with fail
      refine (five_ok _).mono ?_
      rintro e w2 ⟨rfl, hb2⟩
      have hbl := HT.out.r.los
      have HB2 : Hid (Below b w w2) := HB.out.trans (hb2.mono hbl)
      clear hb2 hbl
      go_wp2_with fail
      go_ret
      exact ⟨rfl, HB2.out⟩
theorem steps_any (w : World) (ao : Option Addr) (len cap : Nat) (f : Nat → Sp) (hlen : len ≤ maxLen) (hS : SSl w ao len f) : Calls Try.prog 3 #[.slice ao len cap] w fun e w' => e = .returned (.bool true) ∧ Below w.heap.size w w' := by
  by_cases h : 100 < len
  · exact steps_long w ao len cap hlen h
  · exact steps_in w ao len cap f (by omega) hS
end Go.Proofs.Ytopbgeoledocaaa
