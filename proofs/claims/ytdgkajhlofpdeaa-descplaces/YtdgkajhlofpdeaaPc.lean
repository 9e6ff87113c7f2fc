/- DescPlaces' walk; no statement is proved in this text. -/
import Derived.Test.YtdgkajhlofpdeaaLb
namespace Go.Proofs.Ytdgkajhlofpdeaa
open Go.ChangeShapes Go.WideShapes Go.ChangeAt Go.RowKit Go.Deep
attribute [local go_sem ↓] Go.wp_at_zero Go.wp_at_succ

set_option maxRecDepth 100000 in
set_option maxHeartbeats 3200000 in
theorem places_any (w : World) (ao : Option Addr) (len cap : Nat) (p s : Int) (f : Nat → Sp) (hlen : len ≤ maxLen) (hS : SSl w ao len f) : Calls Try.prog 5 #[.slice ao len cap, i64 p, i64 s] w fun e w' => e = .returned (.bool true) ∧ Below w.heap.size w w' := by
  have hm : (len : Int) ≤ 9223372036854775807 := by unfold maxLen at hlen; omega
  have HSb := hid hS
  have HNw := hid (new_ok w)
  obtain ⟨b, hb⟩ : ∃ b, b = w.heap.size := ⟨_, rfl⟩
  have HB := hid hb
  rw [← hb] at HNw ⊢
  clear hS hlen hb
  by_cases h60 : 60 < len
  · have h60' : (60 : Int) < len := by omega
    go_enter Try.func5, Try.ntmps5
    go_wp2_with fail
    refine HNw.out.mono ?_
    rintro e w1 ⟨rfl, ht1, hb1⟩
    have HB1 : Hid (Below b w w1) := hb1
    have hlo1 : b ≤ w1.heap.size := Nat.le_of_lt ht1.lt
    clear ht1 hb1 HNw
    go_wp2_with fail
    refine (five_ok w1).mono ?_
    rintro e w2 ⟨rfl, hb2⟩
    have HB2 : Hid (Below b w w2) := HB1.out.trans (hb2.mono hlo1)
    clear hb2
    go_wp2_with fail
    go_ret
    exact ⟨rfl, HB2.out⟩
  have h60' : ¬ (60 : Int) < len := by omega
  go_enter Try.func5, Try.ntmps5
  go_wp2_with fail
  refine HNw.out.mono ?_
  rintro e w1 ⟨rfl, ht1, hb1⟩
  have HT1 := hid ht1
  have HB1 : Hid (Below b w w1) := hb1
  clear ht1 hb1 HNw
  have hz29 := zero29
  go_wp2_with fail
  have hlo1 : b ≤ w1.heap.size := Nat.le_of_lt HT1.out.lt
  have HW3 : Hid (Bo (w1.alloc (.cells #[.slice none 0 0] 29)) b b w1.heap.size noSt) := ⟨HT1.out.below (below_one w1 _), rb_new w1 b hlo1, ins_no⟩
  have HB3 : Hid (Below b w (w1.alloc (.cells #[.slice none 0 0] 29))) := HB1.out.trans ((below_one w1 _).mono hlo1)
  clear hz29
  obtain ⟨r, hr⟩ : ∃ r, r = w1.heap.size := ⟨_, rfl⟩
  rw [← hr] at HW3 ⊢
  generalize w1.alloc (.cells #[.slice none 0 0] 29) = w3 at *
  clear hr hlo1 HT1 HB1
  go_loopw [32] (fun u wr => ∃ (k : Nat) (S : St), k ≤ len ∧ u = i64 k ∧ Hid (Bo wr b b r S) ∧ Hid (Rgt S) ∧ Hid (Below b w wr)) (fun u _ => len - (intOf u).toNat)
  case atStart => exact ⟨0, noSt, by omega, rfl, HW3, rgt_no, HB3⟩
  case round =>
    obtain ⟨k, S, hk, rfl, HBo, HRt, HBw⟩ := hrel
    by_cases hlt : k < len
    · have hkI : (k : Int) < len := by omega
      obtain ⟨B, off, hao, hb, hr⟩ := (HSb.out.below (by rw [← HB.out]; exact HBw.out)).at hlt
      subst hao
      obtain ⟨x, hx⟩ : ∃ x, x = f k := ⟨_, rfl⟩
      rw [← hx] at hr
      have c0 : wr.cell? ⟨B, off + k * 6, none⟩ = some (i64 x.what) := hr 0 _ rfl
      have c1 : wr.cell? ⟨B, off + k * 6 + 1, none⟩ = some (i64 x.pid) := hr 1 _ rfl
      have c2 : wr.cell? ⟨B, off + k * 6 + 2, none⟩ = some (i64 x.slot) := hr 2 _ rfl
      have c3 : wr.cell? ⟨B, off + k * 6 + 3, none⟩ = some (i64 x.kind) := hr 3 _ rfl
      have c4 : wr.cell? ⟨B, off + k * 6 + 4, none⟩ = some (i64 x.obj) := hr 4 _ rfl
      have c5 : wr.cell? ⟨B, off + k * 6 + 5, none⟩ = some (i64 x.n) := hr 5 _ rfl
      have HBV : Hid (Below b w (wr.alloc (spO x))) := HBw.out.trans ((below_one wr _).mono HBo.out.lob)
      have HBoV : Hid (Bo (wr.alloc (spO x)) b b r S) := HBo.out.below (below_one wr _)
      have HX : Hid ((wr.alloc (spO x)).heap[wr.heap.size]? = some (spO x)) := heap_last wr _
      clear hx hr hb
      have HD0 := hid fun W hW => does_ok W b b r S x hW
      have HRt2 := hid (HRt.out.stp x)
      have C1 := hid (get_ok (wr.alloc (spO x)) b (pq b) S p s HBoV.out.tb.tv)
      have C2 := hid fun W (hW : Tb W b b (stp S x)) => get_ok W b (pq b) (stp S x) p s hW.tv
      unfold getE at C1 C2
      have hP := fun u h => stp_places HBo.out.ins x (p, s) u h
      generalize stp S x = S2 at *
      rcases h1 : S (p, s) with _ | ⟨ta, tb, tc⟩
      · rw [h1] at C1
        clear hP h1
        rcases h2 : S2 (p, s) with _ | ⟨ua, ub, uc⟩
        · rw [h2] at C2
          clear h2
          replace C1 : Hid (Calls Try.prog 16 #[pq b, i64 p, i64 s] (wr.alloc (spO x)) fun e w' => e = .returned (.tuple #[ev 0 0 0 0 0, i64 6]) ∧ Below (wr.alloc (spO x)).heap.size (wr.alloc (spO x)) w') := C1
          replace C2 : Hid (∀ W, Tb W b b S2 → Calls Try.prog 16 #[pq b, i64 p, i64 s] W fun e w' => e = .returned (.tuple #[ev 0 0 0 0 0, i64 6]) ∧ Below W.heap.size W w') := C2
          go_wp2_with fail
          refine C1.out.mono ?_
          rintro e w5 ⟨rfl, hb5⟩
          have hloV := HBoV.out.lob
          have HBo5 : Hid (Bo (w5.alloc (enO 0 0 0 0 0 38)) b b r S) := (HBoV.out.below hb5).below (below_one w5 _)
          have HB5 : Hid (Below b w (w5.alloc (enO 0 0 0 0 0 38))) := (HBV.out.trans (hb5.mono hloV)).alloc (Nat.le_trans hloV hb5.size) _
          have HX5 := hid (blk_alloc (blk_below HX.out hb5) (enO 0 0 0 0 0 38))
          have HE5 := hid (heap_last w5 (enO 0 0 0 0 0 38))
          have hx5 : wr.heap.size < w5.heap.size := blk_lt (blk_below HX.out hb5)
          have HD := hid (HD0.out (w5.alloc (enO 0 0 0 0 0 38)) HBo5.out)
          obtain ⟨y0, y1, y2, y3, y4, y5⟩ := six_cells (blk_below HX.out hb5)
          clear hb5 C1
          go_wp2_with fail
          refine HD.out.mono ?_
          rintro e w6 ⟨rfl, hbo6, hf6⟩
          have HBo6 := hid hbo6
          have HB6 : Hid (Below b w w6) := HB5.out.trans hf6.below
          have HX6 := hid (hf6.kept _ _ HX5.out rfl)
          have HE6 := hid (hf6.kept _ _ HE5.out rfl)
          have C3 := hid (C2.out w6 hbo6.tb)
          clear hbo6 hf6 HD y0 y1 y2 y3 y4 y5
          go_wp2_with fail
          refine C3.out.mono ?_
          rintro e w7 ⟨rfl, hb7⟩
          have hlo6 := HBo6.out.lob
          have HBo7 : Hid (Bo (w7.alloc (enO 0 0 0 0 0 38)) b b r S2) := (HBo6.out.below hb7).below (below_one w7 _)
          have HB7 : Hid (Below b w (w7.alloc (enO 0 0 0 0 0 38))) := (HB6.out.trans (hb7.mono hlo6)).alloc (Nat.le_trans hlo6 hb7.size) _
          obtain ⟨y0, y1, y2, y3, y4, y5⟩ := six_cells (blk_below HX6.out hb7)
          obtain ⟨z0, z1, z2, z3, z4⟩ := five_cells (blk_below HE6.out hb7)
          have hn1 : wr.heap.size < w7.heap.size := blk_lt (blk_below HX6.out hb7)
          have hn2 : w5.heap.size < w7.heap.size := blk_lt (blk_below HE6.out hb7)
          have qe := eqE38
          clear hb7 C2 C3 hlo6 hloV
          go_wp2_with fail
          exact ⟨⟨k + 1, S2, by omega, by go_num, HBo7, HRt2, HB7⟩, by simp [intOf]; omega⟩
        · rw [h2] at C2
          clear h2
          replace C1 : Hid (Calls Try.prog 16 #[pq b, i64 p, i64 s] (wr.alloc (spO x)) fun e w' => e = .returned (.tuple #[ev 0 0 0 0 0, i64 6]) ∧ Below (wr.alloc (spO x)).heap.size (wr.alloc (spO x)) w') := C1
          replace C2 : Hid (∀ W, Tb W b b S2 → Calls Try.prog 16 #[pq b, i64 p, i64 s] W fun e w' => e = .returned (.tuple #[ev p s ua ub uc, i64 0]) ∧ Below W.heap.size W w') := C2
          go_wp2_with fail
          refine C1.out.mono ?_
          rintro e w5 ⟨rfl, hb5⟩
          have hloV := HBoV.out.lob
          have HBo5 : Hid (Bo (w5.alloc (enO 0 0 0 0 0 38)) b b r S) := (HBoV.out.below hb5).below (below_one w5 _)
          have HB5 : Hid (Below b w (w5.alloc (enO 0 0 0 0 0 38))) := (HBV.out.trans (hb5.mono hloV)).alloc (Nat.le_trans hloV hb5.size) _
          have HX5 := hid (blk_alloc (blk_below HX.out hb5) (enO 0 0 0 0 0 38))
          have HE5 := hid (heap_last w5 (enO 0 0 0 0 0 38))
          have hx5 : wr.heap.size < w5.heap.size := blk_lt (blk_below HX.out hb5)
          have HD := hid (HD0.out (w5.alloc (enO 0 0 0 0 0 38)) HBo5.out)
          obtain ⟨y0, y1, y2, y3, y4, y5⟩ := six_cells (blk_below HX.out hb5)
          clear hb5 C1
          go_wp2_with fail
          refine HD.out.mono ?_
          rintro e w6 ⟨rfl, hbo6, hf6⟩
          have HBo6 := hid hbo6
          have HB6 : Hid (Below b w w6) := HB5.out.trans hf6.below
          have HX6 := hid (hf6.kept _ _ HX5.out rfl)
          have HE6 := hid (hf6.kept _ _ HE5.out rfl)
          have C3 := hid (C2.out w6 hbo6.tb)
          clear hbo6 hf6 HD y0 y1 y2 y3 y4 y5
          go_wp2_with fail
          refine C3.out.mono ?_
          rintro e w7 ⟨rfl, hb7⟩
          have hlo6 := HBo6.out.lob
          have HBo7 : Hid (Bo (w7.alloc (enO p s ua ub uc 38)) b b r S2) := (HBo6.out.below hb7).below (below_one w7 _)
          have HB7 : Hid (Below b w (w7.alloc (enO p s ua ub uc 38))) := (HB6.out.trans (hb7.mono hlo6)).alloc (Nat.le_trans hlo6 hb7.size) _
          obtain ⟨y0, y1, y2, y3, y4, y5⟩ := six_cells (blk_below HX6.out hb7)
          obtain ⟨z0, z1, z2, z3, z4⟩ := five_cells (blk_below HE6.out hb7)
          have hn1 : wr.heap.size < w7.heap.size := blk_lt (blk_below HX6.out hb7)
          have hn2 : w5.heap.size < w7.heap.size := blk_lt (blk_below HE6.out hb7)
          have qe := eqE38
          clear hb7 C2 C3 hlo6 hloV
          go_wp2_with fail
          exact ⟨⟨k + 1, S2, by omega, by go_num, HBo7, HRt2, HB7⟩, by simp [intOf]; omega⟩
      · rw [h1] at C1
        rcases hP (ta, tb, tc) h1 with h2 | ⟨q3, q1, q2, h2⟩ | ⟨h2, q5, q1, q2⟩ | ⟨h2, q7, q1⟩
        · rw [h2] at C2
          clear hP h1 h2
          replace C1 : Hid (Calls Try.prog 16 #[pq b, i64 p, i64 s] (wr.alloc (spO x)) fun e w' => e = .returned (.tuple #[ev p s ta tb tc, i64 0]) ∧ Below (wr.alloc (spO x)).heap.size (wr.alloc (spO x)) w') := C1
          replace C2 : Hid (∀ W, Tb W b b S2 → Calls Try.prog 16 #[pq b, i64 p, i64 s] W fun e w' => e = .returned (.tuple #[ev p s ta tb tc, i64 0]) ∧ Below W.heap.size W w') := C2
          go_wp2_with fail
          refine C1.out.mono ?_
          rintro e w5 ⟨rfl, hb5⟩
          have hloV := HBoV.out.lob
          have HBo5 : Hid (Bo (w5.alloc (enO p s ta tb tc 38)) b b r S) := (HBoV.out.below hb5).below (below_one w5 _)
          have HB5 : Hid (Below b w (w5.alloc (enO p s ta tb tc 38))) := (HBV.out.trans (hb5.mono hloV)).alloc (Nat.le_trans hloV hb5.size) _
          have HX5 := hid (blk_alloc (blk_below HX.out hb5) (enO p s ta tb tc 38))
          have HE5 := hid (heap_last w5 (enO p s ta tb tc 38))
          have hx5 : wr.heap.size < w5.heap.size := blk_lt (blk_below HX.out hb5)
          have HD := hid (HD0.out (w5.alloc (enO p s ta tb tc 38)) HBo5.out)
          obtain ⟨y0, y1, y2, y3, y4, y5⟩ := six_cells (blk_below HX.out hb5)
          clear hb5 C1
          go_wp2_with fail
          refine HD.out.mono ?_
          rintro e w6 ⟨rfl, hbo6, hf6⟩
          have HBo6 := hid hbo6
          have HB6 : Hid (Below b w w6) := HB5.out.trans hf6.below
          have HX6 := hid (hf6.kept _ _ HX5.out rfl)
          have HE6 := hid (hf6.kept _ _ HE5.out rfl)
          have C3 := hid (C2.out w6 hbo6.tb)
          clear hbo6 hf6 HD y0 y1 y2 y3 y4 y5
          go_wp2_with fail
          refine C3.out.mono ?_
          rintro e w7 ⟨rfl, hb7⟩
          have hlo6 := HBo6.out.lob
          have HBo7 : Hid (Bo (w7.alloc (enO p s ta tb tc 38)) b b r S2) := (HBo6.out.below hb7).below (below_one w7 _)
          have HB7 : Hid (Below b w (w7.alloc (enO p s ta tb tc 38))) := (HB6.out.trans (hb7.mono hlo6)).alloc (Nat.le_trans hlo6 hb7.size) _
          obtain ⟨y0, y1, y2, y3, y4, y5⟩ := six_cells (blk_below HX6.out hb7)
          obtain ⟨z0, z1, z2, z3, z4⟩ := five_cells (blk_below HE6.out hb7)
          have hn1 : wr.heap.size < w7.heap.size := blk_lt (blk_below HX6.out hb7)
          have hn2 : w5.heap.size < w7.heap.size := blk_lt (blk_below HE6.out hb7)
          have qe := eqE38
          clear hb7 C2 C3 hlo6 hloV
          go_wp2_with fail
          exact ⟨⟨k + 1, S2, by omega, by go_num, HBo7, HRt2, HB7⟩, by simp [intOf]; omega⟩
        · obtain ⟨⟨ua, ub, uc⟩, h2⟩ := Option.isSome_iff_exists.1 h2
          rw [h2] at C2
          have r3 : (x.what == 3) = true := beq_iff_eq.2 q3
          have r1 : (x.pid == p) = true := beq_iff_eq.2 q1
          have r2 : (x.slot == s) = true := beq_iff_eq.2 q2
          clear hP h1 h2 q1 q2 q3
          by_cases hT : ta = ua ∧ tb = ub ∧ tc = uc
          · obtain ⟨rfl, rfl, rfl⟩ := hT
            replace C1 : Hid (Calls Try.prog 16 #[pq b, i64 p, i64 s] (wr.alloc (spO x)) fun e w' => e = .returned (.tuple #[ev p s ta tb tc, i64 0]) ∧ Below (wr.alloc (spO x)).heap.size (wr.alloc (spO x)) w') := C1
            replace C2 : Hid (∀ W, Tb W b b S2 → Calls Try.prog 16 #[pq b, i64 p, i64 s] W fun e w' => e = .returned (.tuple #[ev p s ta tb tc, i64 0]) ∧ Below W.heap.size W w') := C2
            go_wp2_with fail
            refine C1.out.mono ?_
            rintro e w5 ⟨rfl, hb5⟩
            have hloV := HBoV.out.lob
            have HBo5 : Hid (Bo (w5.alloc (enO p s ta tb tc 38)) b b r S) := (HBoV.out.below hb5).below (below_one w5 _)
            have HB5 : Hid (Below b w (w5.alloc (enO p s ta tb tc 38))) := (HBV.out.trans (hb5.mono hloV)).alloc (Nat.le_trans hloV hb5.size) _
            have HX5 := hid (blk_alloc (blk_below HX.out hb5) (enO p s ta tb tc 38))
            have HE5 := hid (heap_last w5 (enO p s ta tb tc 38))
            have hx5 : wr.heap.size < w5.heap.size := blk_lt (blk_below HX.out hb5)
            have HD := hid (HD0.out (w5.alloc (enO p s ta tb tc 38)) HBo5.out)
            obtain ⟨y0, y1, y2, y3, y4, y5⟩ := six_cells (blk_below HX.out hb5)
            clear hb5 C1
            go_wp2_with fail
            refine HD.out.mono ?_
            rintro e w6 ⟨rfl, hbo6, hf6⟩
            have HBo6 := hid hbo6
            have HB6 : Hid (Below b w w6) := HB5.out.trans hf6.below
            have HX6 := hid (hf6.kept _ _ HX5.out rfl)
            have HE6 := hid (hf6.kept _ _ HE5.out rfl)
            have C3 := hid (C2.out w6 hbo6.tb)
            clear hbo6 hf6 HD y0 y1 y2 y3 y4 y5
            go_wp2_with fail
            refine C3.out.mono ?_
            rintro e w7 ⟨rfl, hb7⟩
            have hlo6 := HBo6.out.lob
            have HBo7 : Hid (Bo (w7.alloc (enO p s ta tb tc 38)) b b r S2) := (HBo6.out.below hb7).below (below_one w7 _)
            have HB7 : Hid (Below b w (w7.alloc (enO p s ta tb tc 38))) := (HB6.out.trans (hb7.mono hlo6)).alloc (Nat.le_trans hlo6 hb7.size) _
            obtain ⟨y0, y1, y2, y3, y4, y5⟩ := six_cells (blk_below HX6.out hb7)
            obtain ⟨z0, z1, z2, z3, z4⟩ := five_cells (blk_below HE6.out hb7)
            have hn1 : wr.heap.size < w7.heap.size := blk_lt (blk_below HX6.out hb7)
            have hn2 : w5.heap.size < w7.heap.size := blk_lt (blk_below HE6.out hb7)
            have qe := eqE38
            clear hb7 C2 C3 hlo6 hloV
            go_wp2_with fail
            exact ⟨⟨k + 1, S2, by omega, by go_num, HBo7, HRt2, HB7⟩, by simp [intOf]; omega⟩
          · have hD : decide (p = p ∧ s = s ∧ ta = ua ∧ tb = ub ∧ tc = uc) = false := decide_eq_false (fun h => hT h.2.2)
            have qn : ∀ W, (Op.equalIn 10000 38 (ev p s ta tb tc) (ev p s ua ub uc)).run Try.prog W = .ok false W := fun W => by rw [eqE38, hD]
            clear hT hD
            replace C1 : Hid (Calls Try.prog 16 #[pq b, i64 p, i64 s] (wr.alloc (spO x)) fun e w' => e = .returned (.tuple #[ev p s ta tb tc, i64 0]) ∧ Below (wr.alloc (spO x)).heap.size (wr.alloc (spO x)) w') := C1
            replace C2 : Hid (∀ W, Tb W b b S2 → Calls Try.prog 16 #[pq b, i64 p, i64 s] W fun e w' => e = .returned (.tuple #[ev p s ua ub uc, i64 0]) ∧ Below W.heap.size W w') := C2
            go_wp2_with fail
            refine C1.out.mono ?_
            rintro e w5 ⟨rfl, hb5⟩
            have hloV := HBoV.out.lob
            have HBo5 : Hid (Bo (w5.alloc (enO p s ta tb tc 38)) b b r S) := (HBoV.out.below hb5).below (below_one w5 _)
            have HB5 : Hid (Below b w (w5.alloc (enO p s ta tb tc 38))) := (HBV.out.trans (hb5.mono hloV)).alloc (Nat.le_trans hloV hb5.size) _
            have HX5 := hid (blk_alloc (blk_below HX.out hb5) (enO p s ta tb tc 38))
            have HE5 := hid (heap_last w5 (enO p s ta tb tc 38))
            have hx5 : wr.heap.size < w5.heap.size := blk_lt (blk_below HX.out hb5)
            have HD := hid (HD0.out (w5.alloc (enO p s ta tb tc 38)) HBo5.out)
            obtain ⟨y0, y1, y2, y3, y4, y5⟩ := six_cells (blk_below HX.out hb5)
            clear hb5 C1
            go_wp2_with fail
            refine HD.out.mono ?_
            rintro e w6 ⟨rfl, hbo6, hf6⟩
            have HBo6 := hid hbo6
            have HB6 : Hid (Below b w w6) := HB5.out.trans hf6.below
            have HX6 := hid (hf6.kept _ _ HX5.out rfl)
            have HE6 := hid (hf6.kept _ _ HE5.out rfl)
            have C3 := hid (C2.out w6 hbo6.tb)
            clear hbo6 hf6 HD y0 y1 y2 y3 y4 y5
            go_wp2_with fail
            refine C3.out.mono ?_
            rintro e w7 ⟨rfl, hb7⟩
            have hlo6 := HBo6.out.lob
            have HBo7 : Hid (Bo (w7.alloc (enO p s ua ub uc 38)) b b r S2) := (HBo6.out.below hb7).below (below_one w7 _)
            have HB7 : Hid (Below b w (w7.alloc (enO p s ua ub uc 38))) := (HB6.out.trans (hb7.mono hlo6)).alloc (Nat.le_trans hlo6 hb7.size) _
            obtain ⟨y0, y1, y2, y3, y4, y5⟩ := six_cells (blk_below HX6.out hb7)
            obtain ⟨z0, z1, z2, z3, z4⟩ := five_cells (blk_below HE6.out hb7)
            have hn1 : wr.heap.size < w7.heap.size := blk_lt (blk_below HX6.out hb7)
            have hn2 : w5.heap.size < w7.heap.size := blk_lt (blk_below HE6.out hb7)
            have qe := eqE38
            clear hb7 C2 C3 hlo6 hloV
            clear qe
            go_wp2_with fail
            exact ⟨⟨k + 1, S2, by omega, by go_num, HBo7, HRt2, HB7⟩, by simp [intOf]; omega⟩
        · rw [h2] at C2
          have r5 : (x.what == 5) = true := beq_iff_eq.2 q5
          have r1 : (x.pid == p) = true := beq_iff_eq.2 q1
          have r2 : (x.slot == s) = true := beq_iff_eq.2 q2
          clear hP h1 h2 q1 q2 q5
          replace C1 : Hid (Calls Try.prog 16 #[pq b, i64 p, i64 s] (wr.alloc (spO x)) fun e w' => e = .returned (.tuple #[ev p s ta tb tc, i64 0]) ∧ Below (wr.alloc (spO x)).heap.size (wr.alloc (spO x)) w') := C1
          replace C2 : Hid (∀ W, Tb W b b S2 → Calls Try.prog 16 #[pq b, i64 p, i64 s] W fun e w' => e = .returned (.tuple #[ev 0 0 0 0 0, i64 6]) ∧ Below W.heap.size W w') := C2
          go_wp2_with fail
          refine C1.out.mono ?_
          rintro e w5 ⟨rfl, hb5⟩
          have hloV := HBoV.out.lob
          have HBo5 : Hid (Bo (w5.alloc (enO p s ta tb tc 38)) b b r S) := (HBoV.out.below hb5).below (below_one w5 _)
          have HB5 : Hid (Below b w (w5.alloc (enO p s ta tb tc 38))) := (HBV.out.trans (hb5.mono hloV)).alloc (Nat.le_trans hloV hb5.size) _
          have HX5 := hid (blk_alloc (blk_below HX.out hb5) (enO p s ta tb tc 38))
          have HE5 := hid (heap_last w5 (enO p s ta tb tc 38))
          have hx5 : wr.heap.size < w5.heap.size := blk_lt (blk_below HX.out hb5)
          have HD := hid (HD0.out (w5.alloc (enO p s ta tb tc 38)) HBo5.out)
          obtain ⟨y0, y1, y2, y3, y4, y5⟩ := six_cells (blk_below HX.out hb5)
          clear hb5 C1
          go_wp2_with fail
          refine HD.out.mono ?_
          rintro e w6 ⟨rfl, hbo6, hf6⟩
          have HBo6 := hid hbo6
          have HB6 : Hid (Below b w w6) := HB5.out.trans hf6.below
          have HX6 := hid (hf6.kept _ _ HX5.out rfl)
          have HE6 := hid (hf6.kept _ _ HE5.out rfl)
          have C3 := hid (C2.out w6 hbo6.tb)
          clear hbo6 hf6 HD y0 y1 y2 y3 y4 y5
          go_wp2_with fail
          refine C3.out.mono ?_
          rintro e w7 ⟨rfl, hb7⟩
          have hlo6 := HBo6.out.lob
          have HBo7 : Hid (Bo (w7.alloc (enO 0 0 0 0 0 38)) b b r S2) := (HBo6.out.below hb7).below (below_one w7 _)
          have HB7 : Hid (Below b w (w7.alloc (enO 0 0 0 0 0 38))) := (HB6.out.trans (hb7.mono hlo6)).alloc (Nat.le_trans hlo6 hb7.size) _
          obtain ⟨y0, y1, y2, y3, y4, y5⟩ := six_cells (blk_below HX6.out hb7)
          obtain ⟨z0, z1, z2, z3, z4⟩ := five_cells (blk_below HE6.out hb7)
          have hn1 : wr.heap.size < w7.heap.size := blk_lt (blk_below HX6.out hb7)
          have hn2 : w5.heap.size < w7.heap.size := blk_lt (blk_below HE6.out hb7)
          have qe := eqE38
          clear hb7 C2 C3 hlo6 hloV
          go_wp2_with fail
          exact ⟨⟨k + 1, S2, by omega, by go_num, HBo7, HRt2, HB7⟩, by simp [intOf]; omega⟩
        · rw [h2] at C2
          have r5 : (x.what == 5) = false := beq_false_of_ne (by omega)
          have r7 : (x.what == 7) = true := beq_iff_eq.2 q7
          have r1 : (x.pid == p) = true := beq_iff_eq.2 q1
          clear hP h1 h2 q1 q7
          replace C1 : Hid (Calls Try.prog 16 #[pq b, i64 p, i64 s] (wr.alloc (spO x)) fun e w' => e = .returned (.tuple #[ev p s ta tb tc, i64 0]) ∧ Below (wr.alloc (spO x)).heap.size (wr.alloc (spO x)) w') := C1
          replace C2 : Hid (∀ W, Tb W b b S2 → Calls Try.prog 16 #[pq b, i64 p, i64 s] W fun e w' => e = .returned (.tuple #[ev 0 0 0 0 0, i64 6]) ∧ Below W.heap.size W w') := C2
          go_wp2_with fail
          refine C1.out.mono ?_
          rintro e w5 ⟨rfl, hb5⟩
          have hloV := HBoV.out.lob
          have HBo5 : Hid (Bo (w5.alloc (enO p s ta tb tc 38)) b b r S) := (HBoV.out.below hb5).below (below_one w5 _)
          have HB5 : Hid (Below b w (w5.alloc (enO p s ta tb tc 38))) := (HBV.out.trans (hb5.mono hloV)).alloc (Nat.le_trans hloV hb5.size) _
          have HX5 := hid (blk_alloc (blk_below HX.out hb5) (enO p s ta tb tc 38))
          have HE5 := hid (heap_last w5 (enO p s ta tb tc 38))
          have hx5 : wr.heap.size < w5.heap.size := blk_lt (blk_below HX.out hb5)
          have HD := hid (HD0.out (w5.alloc (enO p s ta tb tc 38)) HBo5.out)
          obtain ⟨y0, y1, y2, y3, y4, y5⟩ := six_cells (blk_below HX.out hb5)
          clear hb5 C1
          go_wp2_with fail
          refine HD.out.mono ?_
          rintro e w6 ⟨rfl, hbo6, hf6⟩
          have HBo6 := hid hbo6
          have HB6 : Hid (Below b w w6) := HB5.out.trans hf6.below
          have HX6 := hid (hf6.kept _ _ HX5.out rfl)
          have HE6 := hid (hf6.kept _ _ HE5.out rfl)
          have C3 := hid (C2.out w6 hbo6.tb)
          clear hbo6 hf6 HD y0 y1 y2 y3 y4 y5
          go_wp2_with fail
          refine C3.out.mono ?_
          rintro e w7 ⟨rfl, hb7⟩
          have hlo6 := HBo6.out.lob
          have HBo7 : Hid (Bo (w7.alloc (enO 0 0 0 0 0 38)) b b r S2) := (HBo6.out.below hb7).below (below_one w7 _)
          have HB7 : Hid (Below b w (w7.alloc (enO 0 0 0 0 0 38))) := (HB6.out.trans (hb7.mono hlo6)).alloc (Nat.le_trans hlo6 hb7.size) _
          obtain ⟨y0, y1, y2, y3, y4, y5⟩ := six_cells (blk_below HX6.out hb7)
          obtain ⟨z0, z1, z2, z3, z4⟩ := five_cells (blk_below HE6.out hb7)
          have hn1 : wr.heap.size < w7.heap.size := blk_lt (blk_below HX6.out hb7)
          have hn2 : w5.heap.size < w7.heap.size := blk_lt (blk_below HE6.out hb7)
          have qe := eqE38
          clear hb7 C2 C3 hlo6 hloV
          go_wp2_with fail
          exact ⟨⟨k + 1, S2, by omega, by go_num, HBo7, HRt2, HB7⟩, by simp [intOf]; omega⟩
    · clear HW3 HB3
      have hlo := HBo.out.lob
      go_wp2_with fail
      refine (five_ok wr).mono ?_
      rintro e w6 ⟨rfl, hb6⟩
      have HB6 : Hid (Below b w w6) := HBw.out.trans (hb6.mono hlo)
      clear hb6
      go_wp2_with fail
      go_ret
      exact ⟨rfl, HB6.out⟩
end Go.Proofs.Ytdgkajhlofpdeaa
