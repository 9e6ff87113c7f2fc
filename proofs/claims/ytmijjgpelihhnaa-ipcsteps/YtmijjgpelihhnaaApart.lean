/- IpcApart's walk; no statement is proved in this text. -/
import Derived.Test.YtmijjgpelihhnaaArgs
import Derived.Test.YtmijjgpelihhnaaMore
namespace Go.Proofs.Ytmijjgpelihhnaa
open Go.ChangeShapes Go.WideShapes Go.ChangeAt Go.RowKit Go.Deep
attribute [local go_sem ↓] Go.wp_at_zero Go.wp_at_succ

theorem stK_all (g : Int → Ms → Bool) (q : List Ms) (hg : ∀ k m, g k m = false) (k : Nat) : stK g q k = q.take k := by
  induction k with
  | zero => simp [stK]
  | succ k ih =>
    rw [stK, ih, List.take_add_one]
    cases q[k]? with
    | none => simp
    | some m => simp [hg]
theorem cut20_ne (env : Int) (Q : Nat → List Ms) (j : Nat) (h : ((j : Nat) : Int) + 1 ≠ env) : cutQ20 env Q j = Q j := by
  unfold cutQ20 stF
  rw [stK_all _ _ (fun k m => by simp [g20, h]), List.take_of_length_le (Nat.le_refl _)]
theorem wt_eq {Q Q' : Nat → List Ms} {n : Int} (h : ∀ j : Nat, (j : Int) + 1 = n → Q' j = Q j) : wtF Q' n = wtF Q n := by
  unfold wtF
  by_cases h1 : n = 1
  · rw [if_pos h1, if_pos h1, h 0 (by omega)]
  · rw [if_neg h1, if_neg h1]
    by_cases h2 : n = 2
    · rw [if_pos h2, if_pos h2, h 1 (by omega)]
    · rw [if_neg h2, if_neg h2]
      by_cases h3 : n = 3
      · rw [if_pos h3, if_pos h3, h 2 (by omega)]
      · rw [if_neg h3, if_neg h3]
theorem up_ne {Q : Nat → List Ms} {i j : Nat} (m : Ms) (h : j ≠ i) : upQ Q i m j = Q j := by simp [upQ, h]
theorem send_any {w : World} {base P : Nat} {Q : Nat → List Ms} (h : Pt w base P Q) (f t d : Int) : Calls Try.prog 9 #[pq P, i64 f, i64 t, i64 d] w fun e w' => ∃ E Q', e = .returned (i64 E) ∧ Pt w' base P Q' ∧ (∀ n, n ≠ t → wtF Q' n = wtF Q n) ∧ Fr base [54, 39] w w' := by
  cases hs : sdB f t d with
  | false => exact (send_arg w _ f t d hs).mono fun _ _ ⟨h1, h2⟩ => by subst h2; exact ⟨1, Q, h1, h, fun _ _ => rfl, Fr.refl _ _ _⟩
  | true =>
    have ht : envB t = true := by unfold sdB at hs; simp only [Bool.and_eq_true] at hs; exact hs.1.1.2
    rcases envB_true ht with rfl | rfl | rfl
    · have hl := h.le 0
      by_cases h4 : (Q 0).length = 4
      · exact (send0full h f d hs h4).mono fun _ _ ⟨h1, h2⟩ => by subst h2; exact ⟨5, Q, h1, h, fun _ _ => rfl, Fr.refl _ _ _⟩
      · exact (sendF0 h f d hs (by omega)).mono fun _ _ ⟨h1, h2, h3⟩ => ⟨0, _, h1, h2, fun n hn => wt_eq (fun j hj => up_ne _ (by omega)), h3⟩
    · have hl := h.le 1
      by_cases h4 : (Q 1).length = 4
      · exact (send1full h f d hs h4).mono fun _ _ ⟨h1, h2⟩ => by subst h2; exact ⟨5, Q, h1, h, fun _ _ => rfl, Fr.refl _ _ _⟩
      · exact (sendF1 h f d hs (by omega)).mono fun _ _ ⟨h1, h2, h3⟩ => ⟨0, _, h1, h2, fun n hn => wt_eq (fun j hj => up_ne _ (by omega)), h3⟩
    · have hl := h.le 2
      by_cases h4 : (Q 2).length = 4
      · exact (send2full h f d hs h4).mono fun _ _ ⟨h1, h2⟩ => by subst h2; exact ⟨5, Q, h1, h, fun _ _ => rfl, Fr.refl _ _ _⟩
      · exact (sendF2 h f d hs (by omega)).mono fun _ _ ⟨h1, h2, h3⟩ => ⟨0, _, h1, h2, fun n hn => wt_eq (fun j hj => up_ne _ (by omega)), h3⟩
theorem recv_any {w : World} {base P : Nat} {Q : Nat → List Ms} (h : Pt w base P Q) (n : Int) : Calls Try.prog 11 #[pq P, i64 n] w fun e w' => ∃ (f d E : Int) (Q' : Nat → List Ms), e = .returned (.tuple #[.agg #[i64 f, u16v d], i64 E]) ∧ Pt w' base P Q' ∧ (∀ k, k ≠ n → wtF Q' k = wtF Q k) ∧ Fr base [54, 39] w w' := by
  have hlo : base ≤ w.heap.size := by have := h.lo; have := h.lt; omega
  cases hn : envB n with
  | false => exact (recv_arg w _ n hn).mono fun _ _ ⟨h1, h2⟩ => ⟨0, 0, 1, Q, h1, h.below h2, fun _ _ => rfl, Fr.of_below _ h2 hlo⟩
  | true =>
    rcases envB_true hn with rfl | rfl | rfl
    · cases hq : Q 0 with
      | nil => exact (recv_none w _ 1 hn (fun W hW => by have := waits0 (h.below hW); rw [hq] at this; exact this)).mono fun _ _ ⟨h1, h2⟩ => ⟨0, 0, 6, Q, h1, h.below h2, fun _ _ => rfl, Fr.of_below _ h2 hlo⟩
      | cons m r => exact (recvF0 h m.1 m.2 r hq).mono fun _ _ ⟨h1, h2, h3⟩ => ⟨m.1, m.2, 0, _, h1, h2, fun k hk => wt_eq (fun j hj => cut20_ne _ _ _ (by omega)), by obtain ⟨_, _, _, hP, _⟩ := h.blk; exact Fr.of_tq h3 hP h.lo⟩
    · cases hq : Q 1 with
      | nil => exact (recv_none w _ 2 hn (fun W hW => by have := waits1 (h.below hW); rw [hq] at this; exact this)).mono fun _ _ ⟨h1, h2⟩ => ⟨0, 0, 6, Q, h1, h.below h2, fun _ _ => rfl, Fr.of_below _ h2 hlo⟩
      | cons m r => exact (recvF1 h m.1 m.2 r hq).mono fun _ _ ⟨h1, h2, h3⟩ => ⟨m.1, m.2, 0, _, h1, h2, fun k hk => wt_eq (fun j hj => cut20_ne _ _ _ (by omega)), by obtain ⟨_, _, _, hP, _⟩ := h.blk; exact Fr.of_tq h3 hP h.lo⟩
    · cases hq : Q 2 with
      | nil => exact (recv_none w _ 3 hn (fun W hW => by have := waits2 (h.below hW); rw [hq] at this; exact this)).mono fun _ _ ⟨h1, h2⟩ => ⟨0, 0, 6, Q, h1, h.below h2, fun _ _ => rfl, Fr.of_below _ h2 hlo⟩
      | cons m r => exact (recvF2 h m.1 m.2 r hq).mono fun _ _ ⟨h1, h2, h3⟩ => ⟨m.1, m.2, 0, _, h1, h2, fun k hk => wt_eq (fun j hj => cut20_ne _ _ _ (by omega)), by obtain ⟨_, _, _, hP, _⟩ := h.blk; exact Fr.of_tq h3 hP h.lo⟩
set_option maxRecDepth 100000 in
set_option maxHeartbeats 3200000 in
theorem apart_long (w : World) (ao : Option Addr) (len cap : Nat) (n : Int) (hlen : len ≤ maxLen) (h : 100 < len) : Calls Try.prog 5 #[.slice ao len cap, i64 n] w fun e w' => e = .returned (.bool true) ∧ Below w.heap.size w w' := by
  have hI : (100 : Int) < len := by omega
  have hm : (len : Int) ≤ 9223372036854775807 := by unfold maxLen at hlen; omega
  clear h hlen
  go_enter Try.func5, Try.ntmps5
  go_wp2_with fail
  refine (new_ok w).mono ?_
  rintro e w1 ⟨rfl, ht1, hb1⟩
  have HB1 := hid hb1
  clear ht1 hb1
  go_wp2_with fail
  refine (seven_ok _).mono ?_
  rintro e w2 ⟨rfl, hb2⟩
  have HB2 : Hid (Below w.heap.size w w2) := HB1.out.trans (hb2.mono HB1.out.size)
  clear hb2
  go_wp2_with fail
  go_ret
  exact ⟨rfl, HB2.out⟩
set_option maxRecDepth 100000 in
set_option maxHeartbeats 6400000 in
theorem apart_in (w : World) (ao : Option Addr) (len cap : Nat) (n : Int) (f : Nat → Sp) (hl : len ≤ 100) (hS : SSl w ao len f) : Calls Try.prog 5 #[.slice ao len cap, i64 n] w fun e w' => e = .returned (.bool true) ∧ Below w.heap.size w w' := by
  obtain ⟨b, hb⟩ : ∃ b, b = w.heap.size := ⟨_, rfl⟩
  have hI : (len : Int) ≤ 100 := by omega
  have HSs := hid hS
  have HN : Hid (Calls Try.prog 7 #[] w fun e w' => e = .returned (pq b) ∧ Pt w' b b zQ ∧ Below b w w') := by rw [hb]; exact new_ok w
  have HSd : Hid (∀ W Q, Pt W b b Q → ∀ f t d, Calls Try.prog 9 #[pq b, i64 f, i64 t, i64 d] W fun e w' => ∃ E Q', e = .returned (i64 E) ∧ Pt w' b b Q' ∧ (∀ n, n ≠ t → wtF Q' n = wtF Q n) ∧ Fr b [54, 39] W w') := fun W Q hW f t d => send_any hW f t d
  have HRv : Hid (∀ W Q, Pt W b b Q → ∀ n, Calls Try.prog 11 #[pq b, i64 n] W fun e w' => ∃ (f d E : Int) (Q' : Nat → List Ms), e = .returned (.tuple #[.agg #[i64 f, u16v d], i64 E]) ∧ Pt w' b b Q' ∧ (∀ k, k ≠ n → wtF Q' k = wtF Q k) ∧ Fr b [54, 39] W w') := fun W Q hW n => recv_any hW n
  have HW : Hid (∀ W Q, Pt W b b Q → Calls Try.prog 15 #[pq b, i64 n] W fun e w' => e = .returned (i64 (wtF Q n)) ∧ w' = W) := fun W Q hW => waits_ok hW n
  have HBe : Hid (b = w.heap.size) := hb
  have HSb : Hid (∀ W, Below b w W → ∀ k, k < len → ∃ B off, ao = some ⟨B, off, none⟩ ∧ W.rangeAt B (off + k * 4) (f k).c') := fun W hW k hk => by
    rw [hb] at hW
    obtain ⟨B, off, h1, _, h2⟩ := (hS.below hW).at hk
    exact ⟨B, off, h1, h2⟩
  rw [← hb]
  clear hS hb
  go_enter Try.func5, Try.ntmps5
  go_wp2_with fail
  refine HN.out.mono ?_
  rintro e w1 ⟨rfl, ht1, hb1⟩
  have HT1 := hid ht1
  have HB1 := hid hb1
  clear ht1 hb1
  go_wp2_with fail
  go_loopw [24] (fun u wr => ∃ (k : Nat) (Q : Nat → List Ms), k ≤ len ∧ u = i64 k ∧ Hid (Pt wr b b Q) ∧ Hid (Below b w wr)) (fun u _ => len - (intOf u).toNat)
  case atStart => exact ⟨0, _, by omega, rfl, HT1, HB1⟩
  case round =>
    obtain ⟨k, Q, hk, rfl, HT, HB⟩ := hrel
    by_cases hlt : k < len
    · have hkI : (k : Int) < len := by omega
      obtain ⟨B, off, hao, hr⟩ := HSb.out wr HB.out k hlt
      subst hao
      obtain ⟨x, hx⟩ : ∃ x, x = f k := ⟨_, rfl⟩
      rw [← hx] at hr
      have c0 : wr.cell? ⟨B, off + k * 4, none⟩ = some (i64 x.what) := hr 0 _ rfl
      have c1 : wr.cell? ⟨B, off + k * 4 + 1, none⟩ = some (i64 x.a) := hr 1 _ rfl
      have c2 : wr.cell? ⟨B, off + k * 4 + 2, none⟩ = some (i64 x.b) := hr 2 _ rfl
      have c3 : wr.cell? ⟨B, off + k * 4 + 3, none⟩ = some (i64 x.wd) := hr 3 _ rfl
      have HX : Hid ((wr.alloc (.cells #[i64 x.what, i64 x.a, i64 x.b, i64 x.wd] 31)).heap[wr.heap.size]? = some (spO x)) := heap_last wr _
      have HTV : Hid (Pt (wr.alloc (.cells #[i64 x.what, i64 x.a, i64 x.b, i64 x.wd] 31)) b b Q) := HT.out.below (below_one wr _)
      have hbl := HT.out.lt
      have HBV : Hid (Below b w (wr.alloc (.cells #[i64 x.what, i64 x.a, i64 x.b, i64 x.wd] 31))) := HB.out.trans ((below_one wr _).mono (by omega))
      have HZ := hid hbl
      clear hx hr hbl
      go_upto_region 7 with fail
      obtain ⟨Z, hZ⟩ : ∃ Z, Z = wr.heap.size := ⟨_, rfl⟩
      rw [← hZ] at HX ⊢
      generalize wr.alloc (.cells #[i64 x.what, i64 x.a, i64 x.b, i64 x.wd] 31) = V at *
      have hZV : Z < V.heap.size := blk_lt HX.out
      have y0 : V.cell? ⟨Z, 0, none⟩ = some (i64 x.what) := blk_cell HX.out 0
      have y1 : V.cell? ⟨Z, 1, none⟩ = some (i64 x.a) := blk_cell HX.out 1
      have y2 : V.cell? ⟨Z, 2, none⟩ = some (i64 x.b) := blk_cell HX.out 2
      have y3 : V.cell? ⟨Z, 3, none⟩ = some (i64 x.wd) := blk_cell HX.out 3
      clear c0 c1 c2 c3 hZ
      go_wp2_with fail
      refine (HW.out V Q HTV.out).mono ?_
      rintro e v2 ⟨rfl, hv⟩
      replace hv := hv.symm
      subst hv
      obtain ⟨W0, hW0⟩ : ∃ W0, W0 = wtF Q n := ⟨_, rfl⟩
      rw [← hW0]
      have HW0 := hid hW0
      clear hW0
      by_cases h0 : x.what = 0
      · have e0 : (x.what == 0) = true := by simp [h0]
        clear h0
        by_cases hs : x.b = n
        · replace hs := hid hs
          go_wp2_with fail
          refine (HSd.out _ Q HTV.out x.a x.b x.wd).mono ?_
          rintro e w3 ⟨E, Q2, rfl, ht3, hn3, hf3⟩
          have HT3 := hid ht3
          have HB3 : Hid (Below b w w3) := HBV.out.trans hf3.below
          have HX3 : Hid (w3.heap[Z]? = some (spO x)) := hf3.kept _ _ HX.out (by rfl)
          have z1 : w3.cell? ⟨Z, 2, none⟩ = some (i64 x.b) := blk_cell HX3.out 2
          have hne : (x.b != n) = false := by simp [hs.out]
          clear ht3 hn3 hf3
          go_wp2_with fail
          exact ⟨⟨k + 1, Q2, by omega, by go_num, HT3, HB3⟩, by simp [intOf]; omega⟩
        · replace hs := hid hs
          go_wp2_with fail
          refine (HSd.out _ Q HTV.out x.a x.b x.wd).mono ?_
          rintro e w3 ⟨E, Q2, rfl, ht3, hn3, hf3⟩
          have HT3 := hid ht3
          have HB3 : Hid (Below b w w3) := HBV.out.trans hf3.below
          have HX3 : Hid (w3.heap[Z]? = some (spO x)) := hf3.kept _ _ HX.out (by rfl)
          have z1 : w3.cell? ⟨Z, 2, none⟩ = some (i64 x.b) := blk_cell HX3.out 2
          have hne : (x.b != n) = true := by simp [hs.out]
          have HW3 : Hid (Calls Try.prog 15 #[pq b, i64 n] w3 fun e w' => e = .returned (i64 W0) ∧ w' = w3) := by have := HW.out w3 Q2 ht3; rw [hn3 n (fun e => hs.out e.symm), ← HW0.out] at this; exact this
          clear ht3 hn3 hf3
          go_wp2_with fail
          refine HW3.out.mono ?_
          rintro e v4 ⟨rfl, hv⟩
          replace hv := hv.symm
          subst hv
          go_wp2_with fail
          exact ⟨⟨k + 1, Q2, by omega, by go_num, HT3, HB3⟩, by simp [intOf]; omega⟩
      by_cases h1 : x.what = 1
      · have e0 : (x.what == 0) = false := by simp [h0]
        have e1 : (x.what == 1) = true := by simp [h1]
        clear h0 h1
        by_cases hs : x.b = n
        · replace hs := hid hs
          go_wp2_with fail
          refine (HSd.out _ Q HTV.out x.a x.b x.wd).mono ?_
          rintro e w3 ⟨E, Q2, rfl, ht3, hn3, hf3⟩
          have HT3 := hid ht3
          have HB3 : Hid (Below b w w3) := HBV.out.trans hf3.below
          have HX3 : Hid (w3.heap[Z]? = some (spO x)) := hf3.kept _ _ HX.out (by rfl)
          have z1 : w3.cell? ⟨Z, 2, none⟩ = some (i64 x.b) := blk_cell HX3.out 2
          have hne : (x.b != n) = false := by simp [hs.out]
          clear ht3 hn3 hf3
          go_wp2_with fail
          exact ⟨⟨k + 1, Q2, by omega, by go_num, HT3, HB3⟩, by simp [intOf]; omega⟩
        · replace hs := hid hs
          go_wp2_with fail
          refine (HSd.out _ Q HTV.out x.a x.b x.wd).mono ?_
          rintro e w3 ⟨E, Q2, rfl, ht3, hn3, hf3⟩
          have HT3 := hid ht3
          have HB3 : Hid (Below b w w3) := HBV.out.trans hf3.below
          have HX3 : Hid (w3.heap[Z]? = some (spO x)) := hf3.kept _ _ HX.out (by rfl)
          have z1 : w3.cell? ⟨Z, 2, none⟩ = some (i64 x.b) := blk_cell HX3.out 2
          have hne : (x.b != n) = true := by simp [hs.out]
          have HW3 : Hid (Calls Try.prog 15 #[pq b, i64 n] w3 fun e w' => e = .returned (i64 W0) ∧ w' = w3) := by have := HW.out w3 Q2 ht3; rw [hn3 n (fun e => hs.out e.symm), ← HW0.out] at this; exact this
          clear ht3 hn3 hf3
          go_wp2_with fail
          refine HW3.out.mono ?_
          rintro e v4 ⟨rfl, hv⟩
          replace hv := hv.symm
          subst hv
          go_wp2_with fail
          exact ⟨⟨k + 1, Q2, by omega, by go_num, HT3, HB3⟩, by simp [intOf]; omega⟩
      by_cases h2 : x.what = 2
      · have e0 : (x.what == 0) = false := by simp [h0]
        have e1 : (x.what == 1) = false := by simp [h1]
        have e2 : (x.what == 2) = true := by simp [h2]
        clear h0 h1 h2
        by_cases hs : x.b = n
        · replace hs := hid hs
          go_wp2_with fail
          refine (HSd.out _ Q HTV.out x.a x.b x.wd).mono ?_
          rintro e w3 ⟨E, Q2, rfl, ht3, hn3, hf3⟩
          have HT3 := hid ht3
          have HB3 : Hid (Below b w w3) := HBV.out.trans hf3.below
          have HX3 : Hid (w3.heap[Z]? = some (spO x)) := hf3.kept _ _ HX.out (by rfl)
          have z1 : w3.cell? ⟨Z, 2, none⟩ = some (i64 x.b) := blk_cell HX3.out 2
          have hne : (x.b != n) = false := by simp [hs.out]
          clear ht3 hn3 hf3
          go_wp2_with fail
          exact ⟨⟨k + 1, Q2, by omega, by go_num, HT3, HB3⟩, by simp [intOf]; omega⟩
        · replace hs := hid hs
          go_wp2_with fail
          refine (HSd.out _ Q HTV.out x.a x.b x.wd).mono ?_
          rintro e w3 ⟨E, Q2, rfl, ht3, hn3, hf3⟩
          have HT3 := hid ht3
          have HB3 : Hid (Below b w w3) := HBV.out.trans hf3.below
          have HX3 : Hid (w3.heap[Z]? = some (spO x)) := hf3.kept _ _ HX.out (by rfl)
          have z1 : w3.cell? ⟨Z, 2, none⟩ = some (i64 x.b) := blk_cell HX3.out 2
          have hne : (x.b != n) = true := by simp [hs.out]
          have HW3 : Hid (Calls Try.prog 15 #[pq b, i64 n] w3 fun e w' => e = .returned (i64 W0) ∧ w' = w3) := by have := HW.out w3 Q2 ht3; rw [hn3 n (fun e => hs.out e.symm), ← HW0.out] at this; exact this
          clear ht3 hn3 hf3
          go_wp2_with fail
          refine HW3.out.mono ?_
          rintro e v4 ⟨rfl, hv⟩
          replace hv := hv.symm
          subst hv
          go_wp2_with fail
          exact ⟨⟨k + 1, Q2, by omega, by go_num, HT3, HB3⟩, by simp [intOf]; omega⟩
      by_cases h3 : x.what = 3
      · have e0 : (x.what == 0) = false := by simp [h0]
        have e1 : (x.what == 1) = false := by simp [h1]
        have e2 : (x.what == 2) = false := by simp [h2]
        have e3 : (x.what == 3) = true := by simp [h3]
        clear h0 h1 h2 h3
        by_cases hs : x.a = n
        · replace hs := hid hs
          go_wp2_with fail
          refine (HRv.out _ Q HTV.out x.a).mono ?_
          rintro e w3 ⟨mf, md, E, Q2, rfl, ht3, hn3, hf3⟩
          have HT3 := hid ht3
          have HB3 : Hid (Below b w w3) := HBV.out.trans hf3.below
          have HX3 : Hid (w3.heap[Z]? = some (spO x)) := hf3.kept _ _ HX.out (by rfl)
          have z1 : w3.cell? ⟨Z, 1, none⟩ = some (i64 x.a) := blk_cell HX3.out 1
          have hne : (x.a != n) = false := by simp [hs.out]
          clear ht3 hn3 hf3
          go_wp2_with fail
          exact ⟨⟨k + 1, Q2, by omega, by go_num, HT3, HB3⟩, by simp [intOf]; omega⟩
        · replace hs := hid hs
          go_wp2_with fail
          refine (HRv.out _ Q HTV.out x.a).mono ?_
          rintro e w3 ⟨mf, md, E, Q2, rfl, ht3, hn3, hf3⟩
          have HT3 := hid ht3
          have HB3 : Hid (Below b w w3) := HBV.out.trans hf3.below
          have HX3 : Hid (w3.heap[Z]? = some (spO x)) := hf3.kept _ _ HX.out (by rfl)
          have z1 : w3.cell? ⟨Z, 1, none⟩ = some (i64 x.a) := blk_cell HX3.out 1
          have hne : (x.a != n) = true := by simp [hs.out]
          have HW3 : Hid (Calls Try.prog 15 #[pq b, i64 n] w3 fun e w' => e = .returned (i64 W0) ∧ w' = w3) := by have := HW.out w3 Q2 ht3; rw [hn3 n (fun e => hs.out e.symm), ← HW0.out] at this; exact this
          clear ht3 hn3 hf3
          go_wp2_with fail
          refine HW3.out.mono ?_
          rintro e v4 ⟨rfl, hv⟩
          replace hv := hv.symm
          subst hv
          go_wp2_with fail
          exact ⟨⟨k + 1, Q2, by omega, by go_num, HT3, HB3⟩, by simp [intOf]; omega⟩
      have e0 : (x.what == 0) = false := by simp [h0]
      have e1 : (x.what == 1) = false := by simp [h1]
      have e2 : (x.what == 2) = false := by simp [h2]
      have e3 : (x.what == 3) = false := by simp [h3]
      clear h0 h1 h2 h3
      go_wp2_with fail
      exact ⟨⟨k + 1, Q, by omega, by go_num, HTV, HBV⟩, by simp [intOf]; omega⟩
    · obtain rfl : k = len := by omega
      go_wp2_with fail
      refine (seven_ok _).mono ?_
      rintro e w2 ⟨rfl, hb2⟩
      have hbl := HT.out.lt
      have HB2 : Hid (Below b w w2) := HB.out.trans (hb2.mono (by omega))
      clear hb2 hbl
      go_wp2_with fail
      go_ret
      exact ⟨rfl, HB2.out⟩
theorem apart_any (w : World) (ao : Option Addr) (len cap : Nat) (n : Int) (f : Nat → Sp) (hlen : len ≤ maxLen) (hS : SSl w ao len f) : Calls Try.prog 5 #[.slice ao len cap, i64 n] w fun e w' => e = .returned (.bool true) ∧ Below w.heap.size w w' := by
  by_cases h : 100 < len
  · exact apart_long w ao len cap n hlen h
  · exact apart_in w ao len cap n f (by omega) hS
end Go.Proofs.Ytmijjgpelihhnaa
