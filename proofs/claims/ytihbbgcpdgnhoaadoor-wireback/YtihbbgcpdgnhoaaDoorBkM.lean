/- Read, Bytes and what WireBack calls; no statement is proved in this text. -/
import Derived.Test.YtihbbgcpdgnhoaaDoorR4
import Derived.Test.YtihbbgcpdgnhoaaDoorPar
import Derived.Test.YtihbbgcpdgnhoaaDoorMu
import Derived.Test.YtihbbgcpdgnhoaaDoorRsv
import Derived.Test.YtihbbgcpdgnhoaaDoorRs
import Derived.Test.YtihbbgcpdgnhoaaDoorRf
namespace Go.Proofs.YtihbbgcpdgnhoaaDoor
open Go.ChangeShapes Go.WideShapes Go.ChangeAt Go.RowKit Go.Deep
attribute [local go_sem ↓] Go.wp_at_zero Go.wp_at_succ
set_option maxRecDepth 100000

theorem zero30 (w : World) : (zeroValue 30).run Tryd.prog w = .ok (.agg #[i64 0, i64 0, i64 0, .slice none 0 0, .slice none 0 0, i64 0, i64 0, str [], .slice none 0 0]) w := by kernel_rfl
abbrev z30 : Obj := .cells #[i64 0, i64 0, i64 0, .slice none 0 0, .slice none 0 0, i64 0, i64 0, str [], .slice none 0 0] 30
theorem vload30 {W : World} {b : Nat} {v : Int} {T : Ty} {V : Vl} {nv tv kv : Value} (h : W.heap[b]? = some (stC v T V nv tv kv)) : (loadVar 30 ⟨b, 0, none⟩).run Tryd.prog W = .ok (stV v T V nv tv kv) W := by
  refine run_loadVar_mid _ _ 0 30 [i64 v, i64 T.kind, i64 T.num, nv, tv, i64 V.kind, i64 V.num, str V.s, kv] _ (fun j u hu => ?_) Tryd.underlying30 rfl (by kernel_rfl)
  rw [Nat.zero_add, cell_of_row _ _ _ _ 30 (0, 0) h]
  simpa using hu
theorem set9 {V : World} {b : Nat} {x0 x1 x2 x3 x4 x5 x6 x7 x8 : Value} {t : TypeId} (h : V.heap[b]? = some (.cells #[x0, x1, x2, x3, x4, x5, x6, x7, x8] t)) (p0 p1 p2 p3 p4 p5 p6 p7 p8 : Value) : (((((((((V.setCell ⟨b, 0, none⟩ p0).setCell ⟨b, 1, none⟩ p1).setCell ⟨b, 2, none⟩ p2).setCell ⟨b, 3, none⟩ p3).setCell ⟨b, 4, none⟩ p4).setCell ⟨b, 5, none⟩ p5).setCell ⟨b, 6, none⟩ p6).setCell ⟨b, 7, none⟩ p7).setCell ⟨b, 8, none⟩ p8).heap[b]? = some (.cells #[p0, p1, p2, p3, p4, p5, p6, p7, p8] t) := by
  have h0 : (V.setCell ⟨b, 0, none⟩ p0).heap[b]? = some (.cells #[p0, x1, x2, x3, x4, x5, x6, x7, x8] t) := heap_setCell_same _ b 0 _ t p0 h
  have h1 : ((V.setCell ⟨b, 0, none⟩ p0).setCell ⟨b, 1, none⟩ p1).heap[b]? = some (.cells #[p0, p1, x2, x3, x4, x5, x6, x7, x8] t) := heap_setCell_same _ b 1 _ t p1 h0
  have h2 : (((V.setCell ⟨b, 0, none⟩ p0).setCell ⟨b, 1, none⟩ p1).setCell ⟨b, 2, none⟩ p2).heap[b]? = some (.cells #[p0, p1, p2, x3, x4, x5, x6, x7, x8] t) := heap_setCell_same _ b 2 _ t p2 h1
  have h3 : ((((V.setCell ⟨b, 0, none⟩ p0).setCell ⟨b, 1, none⟩ p1).setCell ⟨b, 2, none⟩ p2).setCell ⟨b, 3, none⟩ p3).heap[b]? = some (.cells #[p0, p1, p2, p3, x4, x5, x6, x7, x8] t) := heap_setCell_same _ b 3 _ t p3 h2
  have h4 : (((((V.setCell ⟨b, 0, none⟩ p0).setCell ⟨b, 1, none⟩ p1).setCell ⟨b, 2, none⟩ p2).setCell ⟨b, 3, none⟩ p3).setCell ⟨b, 4, none⟩ p4).heap[b]? = some (.cells #[p0, p1, p2, p3, p4, x5, x6, x7, x8] t) := heap_setCell_same _ b 4 _ t p4 h3
  have h5 : ((((((V.setCell ⟨b, 0, none⟩ p0).setCell ⟨b, 1, none⟩ p1).setCell ⟨b, 2, none⟩ p2).setCell ⟨b, 3, none⟩ p3).setCell ⟨b, 4, none⟩ p4).setCell ⟨b, 5, none⟩ p5).heap[b]? = some (.cells #[p0, p1, p2, p3, p4, p5, x6, x7, x8] t) := heap_setCell_same _ b 5 _ t p5 h4
  have h6 : (((((((V.setCell ⟨b, 0, none⟩ p0).setCell ⟨b, 1, none⟩ p1).setCell ⟨b, 2, none⟩ p2).setCell ⟨b, 3, none⟩ p3).setCell ⟨b, 4, none⟩ p4).setCell ⟨b, 5, none⟩ p5).setCell ⟨b, 6, none⟩ p6).heap[b]? = some (.cells #[p0, p1, p2, p3, p4, p5, p6, x7, x8] t) := heap_setCell_same _ b 6 _ t p6 h5
  have h7 : ((((((((V.setCell ⟨b, 0, none⟩ p0).setCell ⟨b, 1, none⟩ p1).setCell ⟨b, 2, none⟩ p2).setCell ⟨b, 3, none⟩ p3).setCell ⟨b, 4, none⟩ p4).setCell ⟨b, 5, none⟩ p5).setCell ⟨b, 6, none⟩ p6).setCell ⟨b, 7, none⟩ p7).heap[b]? = some (.cells #[p0, p1, p2, p3, p4, p5, p6, p7, x8] t) := heap_setCell_same _ b 7 _ t p7 h6
  have h8 : (((((((((V.setCell ⟨b, 0, none⟩ p0).setCell ⟨b, 1, none⟩ p1).setCell ⟨b, 2, none⟩ p2).setCell ⟨b, 3, none⟩ p3).setCell ⟨b, 4, none⟩ p4).setCell ⟨b, 5, none⟩ p5).setCell ⟨b, 6, none⟩ p6).setCell ⟨b, 7, none⟩ p7).setCell ⟨b, 8, none⟩ p8).heap[b]? = some (.cells #[p0, p1, p2, p3, p4, p5, p6, p7, p8] t) := heap_setCell_same _ b 8 _ t p8 h7
  exact h8
theorem touch9 {q R : Nat} {w V : World} (h : Touch q w V) (hR : w.heap.size ≤ R) (p0 p1 p2 p3 p4 p5 p6 p7 p8 : Value) : Touch q w (((((((((V.setCell ⟨R, 0, none⟩ p0).setCell ⟨R, 1, none⟩ p1).setCell ⟨R, 2, none⟩ p2).setCell ⟨R, 3, none⟩ p3).setCell ⟨R, 4, none⟩ p4).setCell ⟨R, 5, none⟩ p5).setCell ⟨R, 6, none⟩ p6).setCell ⟨R, 7, none⟩ p7).setCell ⟨R, 8, none⟩ p8) :=
  (Touch.setNew (p := ⟨R, 8, none⟩) (Touch.setNew (p := ⟨R, 7, none⟩) (Touch.setNew (p := ⟨R, 6, none⟩) (Touch.setNew (p := ⟨R, 5, none⟩) (Touch.setNew (p := ⟨R, 4, none⟩) (Touch.setNew (p := ⟨R, 3, none⟩) (Touch.setNew (p := ⟨R, 2, none⟩) (Touch.setNew (p := ⟨R, 1, none⟩) (Touch.setNew (p := ⟨R, 0, none⟩) h hR p0) hR p1) hR p2) hR p3) hR p4) hR p5) hR p6) hR p7) hR p8)
theorem at9 {q R : Nat} {V : World} (hR : q ≠ R) (p0 p1 p2 p3 p4 p5 p6 p7 p8 : Value) : (((((((((V.setCell ⟨R, 0, none⟩ p0).setCell ⟨R, 1, none⟩ p1).setCell ⟨R, 2, none⟩ p2).setCell ⟨R, 3, none⟩ p3).setCell ⟨R, 4, none⟩ p4).setCell ⟨R, 5, none⟩ p5).setCell ⟨R, 6, none⟩ p6).setCell ⟨R, 7, none⟩ p7).setCell ⟨R, 8, none⟩ p8).heap[q]? = V.heap[q]? := by
  rw [Below.heap_setCell _ _ _ _ hR, Below.heap_setCell _ _ _ _ hR, Below.heap_setCell _ _ _ _ hR, Below.heap_setCell _ _ _ _ hR, Below.heap_setCell _ _ _ _ hR, Below.heap_setCell _ _ _ _ hR, Below.heap_setCell _ _ _ _ hR, Below.heap_setCell _ _ _ _ hR, Below.heap_setCell _ _ _ _ hR]
def SNo (q : Nat) (w : World) (e : Ending) (w' : World) : Prop := (∃ v T V a1 n1 c1 a2 n2 c2 a3 n3 c3, e = .returned (.tuple #[stV v T V (.slice a1 n1 c1) (.slice a2 n2 c2) (.slice a3 n3 c3), .bool false])) ∧ Touch q w w'
def SYes (q : Nat) (w : World) (v : Nat) (T : Ty) (V : Vl) (r : Bs) (e : Ending) (w' : World) : Prop := ∃ a1 c1 a2 c2 a3 c3, e = .returned (.tuple #[stV v T V (.slice a1 T.names.length c1) (.slice a2 T.kids.length c2) (.slice a3 V.kids.length c3), .bool true]) ∧ At w' q r ∧ Touch q w w' ∧ Rd w' (fun b => w.heap.size ≤ b) T (.slice a1 T.names.length c1) (.slice a2 T.kids.length c2) ∧ Vd w' (fun b => w.heap.size ≤ b) V (.slice a3 V.kids.length c3)
def SOk (q : Nat) (w : World) : Option ((Nat × Ty × Vl) × Bs) → Ending → World → Prop
  | none => SNo q w
  | some ((v, T, V), r) => SYes q w v T V r
def mapS (v : Nat) (T : Ty) : Option (Vl × Bs) → Option ((Nat × Ty × Vl) × Bs)
  | none => none
  | some (V, r) => some ((v, T, V), r)
theorem ml_touch {w w' : World} {q : Nat} (h : Ml w) (hq : q ≠ 1) (ht : Touch q w w') : Ml w' := by
  obtain ⟨m, h2⟩ := h
  exact ⟨m, by rw [ht.cell (p := ⟨1, 0, none⟩) (World.block_lt_of_cell? w _ h2) (fun e => hq e.symm)]; exact h2⟩
theorem rdC2_len {b t r : Bs} (h : rdC 2 b = some (t, r)) : t.length ≤ 65535 := by
  unfold rdC at h
  split at h
  · cases h
  · rename_i n r1 hn
    split at h
    · simp only [Option.some.injEq, Prod.mk.injEq] at h
      obtain ⟨rfl, rfl⟩ := h
      unfold rdN at hn
      split at hn
      · simp only [Option.some.injEq, Prod.mk.injEq] at hn
        obtain ⟨hn, rfl⟩ := hn
        have hlt := nm_lt (b.take 2)
        have hle : (256 : Nat) ^ (b.take 2).length ≤ 256 ^ 2 := Nat.pow_le_pow_right (by omega) (by rw [List.length_take]; omega)
        have e2 : (256 : Nat) ^ 2 = 65536 := rfl
        rw [List.length_take]
        omega
      · cases hn
    · cases h
set_option maxHeartbeats 6400000 in
theorem state_ok (w : World) (q : Nat) (l : Bs) (h : At w q l) (hq1 : q ≠ 1) (hM : Ml w) : Calls Tryd.prog 20 #[tk q] w (SOk q w (rdS l)) := by
  have hb0 := below_one w z30
  have hq := h.lt
  have hz := zero30
  have hz25 := zero28
  have HR0 := hid (heap_last w z30)
  have HA0 := hid (at_below h hb0)
  have HT0 : Hid (Touch q w (w.alloc z30)) := Touch.of_below hb0
  have HM := hid hM
  have HQ1 := hid hq1
  obtain ⟨X0, hX0⟩ : ∃ x, x = rdS l := ⟨_, rfl⟩
  have HX0 := hid hX0
  rw [← hX0]
  clear h hb0 hM hq1 hX0
  by_cases hl : l.length < 2
  · have HN := hid (take_no _ q 2 l HA0.out hl)
    have hx : X0 = none := by
      rw [HX0.out]
      match l, hl with
      | [], _ => rfl
      | [_], _ => rfl
    have HX := hid hx
    clear hx hl HX0
    go_enter Tryd.func20, Tryd.ntmps20
    go_wp2_with fail
    refine HN.out.mono ?_
    rintro e w1 ⟨rfl, hw⟩
    subst hw
    have r0 := blk_cell HR0.out 0
    have r1 := blk_cell HR0.out 1
    have r2 := blk_cell HR0.out 2
    have r3 := blk_cell HR0.out 3
    have r4 := blk_cell HR0.out 4
    have r5 := blk_cell HR0.out 5
    have r6 := blk_cell HR0.out 6
    have r7 := blk_cell HR0.out 7
    have r8 := blk_cell HR0.out 8
    have rf := blk_frozen HR0.out
    go_wp2_with fail
    rw [HX.out]
    exact bodyPost_ret (results_cell Tryd.results20 rfl rfl (vload30 (v := 0) (T := .mk 0 0 [] []) (V := .mk 0 0 [] []) HR0.out)) rfl ⟨⟨0, .mk 0 0 [] [], .mk 0 0 [] [], _, _, _, _, _, _, _, _, _, rfl⟩, HT0.out⟩
  · obtain ⟨a, c, b1, rfl⟩ : ∃ a c b1, l = a :: c :: b1 := by
      match l, hl with
      | [], h => simp at h
      | [_], h => simp at h
      | a :: c :: b1, _ => exact ⟨a, c, b1, rfl⟩
    have HN := hid (take_yes _ q 2 (a :: c :: b1) HA0.out (by simp))
    have et : (a :: c :: b1).take 2 = [a, c] := by simp
    have ed : (a :: c :: b1).drop 2 = b1 := by simp
    rw [et, ed] at HN
    clear hl et ed
    go_enter Tryd.func20, Tryd.ntmps20
    go_wp2_with fail
    refine HN.out.mono ?_
    rintro e w1 ⟨rfl, hw⟩
    have ht := At.touch (w.alloc z30) q b1
    have ha := HA0.out.set b1
    rw [← hw] at ht ha
    have HR1 : Hid (w1.heap[w.heap.size]? = some z30) := (ht.block _ (blk_lt HR0.out) (by omega)).trans HR0.out
    have HT1 : Hid (Touch q w w1) := HT0.out.trans ht
    have HA1 := hid ha
    clear hw ht ha HN
    by_cases hac : a = 105 ∧ c = 109
    · obtain ⟨rfl, rfl⟩ := hac
      cases hN : rdN 1 b1 with
      | none =>
        have hx : X0 = none := by rw [HX0.out, rdS, if_pos ⟨rfl, rfl⟩, hN]
        have HX := hid hx
        have HN := hid (num_no w1 q 1 b1 HA1.out (rdN_none (by omega) (by omega) hN))
        clear hx hN HX0
        go_wp2_with fail
        refine HN.out.mono ?_
        rintro e w2 ⟨rfl, hw⟩
        replace hw := hw.symm
        subst hw
        have r0 := blk_cell HR1.out 0
        have r1 := blk_cell HR1.out 1
        have r2 := blk_cell HR1.out 2
        have r3 := blk_cell HR1.out 3
        have r4 := blk_cell HR1.out 4
        have r5 := blk_cell HR1.out 5
        have r6 := blk_cell HR1.out 6
        have r7 := blk_cell HR1.out 7
        have r8 := blk_cell HR1.out 8
        have rf := blk_frozen HR1.out
        go_wp2_with fail
        rw [HX.out]
        exact bodyPost_ret (results_cell Tryd.results20 rfl rfl (vload30 (v := 0) (T := .mk 0 0 [] []) (V := .mk 0 0 [] []) (set9 HR1.out _ _ _ _ _ _ _ _ _))) rfl ⟨⟨0, .mk 0 0 [] [], .mk 0 0 [] [], _, _, _, _, _, _, _, _, _, rfl⟩, touch9 HT1.out (Nat.le_refl _) _ _ _ _ _ _ _ _ _⟩
      | some x =>
        obtain ⟨v, b2⟩ := x
        have HN := hid (num_yes w1 q 1 v b1 b2 HA1.out hN)
        go_wp2_with fail
        refine HN.out.mono ?_
        rintro e w2 ⟨rfl, hw⟩
        have ht := At.touch w1 q b2
        have ha := HA1.out.set b2
        rw [← hw] at ht ha
        have HR2 : Hid (w2.heap[w.heap.size]? = some z30) := (ht.block _ (blk_lt HR1.out) (by omega)).trans HR1.out
        have HT2 : Hid (Touch q w w2) := HT1.out.trans ht
        have HA2 := hid ha
        clear hw ht ha HN
        cases hC : rdC 2 b2 with
        | none =>
          have hx : X0 = none := by rw [HX0.out, rdS, if_pos ⟨rfl, rfl⟩, hN]; simp only [hC]
          have HX := hid hx
          have HN := hid (cnt_no w2 q 2 b2 HA2.out (by omega) (by omega) hC)
          clear hx hN hC HX0
          go_wp2_with fail
          refine HN.out.mono ?_
          rintro e w3 ⟨rfl, ht⟩
          have HR3 : Hid (w3.heap[w.heap.size]? = some z30) := (ht.block _ (blk_lt HR2.out) (by omega)).trans HR2.out
          have HT3 : Hid (Touch q w w3) := HT2.out.trans ht
          clear ht
          have r0 := blk_cell HR3.out 0
          have r1 := blk_cell HR3.out 1
          have r2 := blk_cell HR3.out 2
          have r3 := blk_cell HR3.out 3
          have r4 := blk_cell HR3.out 4
          have r5 := blk_cell HR3.out 5
          have r6 := blk_cell HR3.out 6
          have r7 := blk_cell HR3.out 7
          have r8 := blk_cell HR3.out 8
          have rf := blk_frozen HR3.out
          go_wp2_with fail
          rw [HX.out]
          exact bodyPost_ret (results_cell Tryd.results20 rfl rfl (vload30 (v := 0) (T := .mk 0 0 [] []) (V := .mk 0 0 [] []) (set9 HR3.out _ _ _ _ _ _ _ _ _))) rfl ⟨⟨0, .mk 0 0 [] [], .mk 0 0 [] [], _, _, _, _, _, _, _, _, _, rfl⟩, touch9 HT3.out (Nat.le_refl _) _ _ _ _ _ _ _ _ _⟩
        | some x =>
          obtain ⟨t, b3⟩ := x
          have htl := rdC2_len hC
          have HN := hid (cnt_yes w2 q 2 b2 t b3 HA2.out hC)
          go_wp2_with fail
          refine HN.out.mono ?_
          rintro e w3 ⟨rfl, ha, ht⟩
          have HR3 : Hid (w3.heap[w.heap.size]? = some z30) := (ht.block _ (blk_lt HR2.out) (by omega)).trans HR2.out
          have HT3 : Hid (Touch q w w3) := HT2.out.trans ht
          have HA3 := hid ha
          have HP := hid (parse_ok t w3 (by omega) (ml_touch HM.out HQ1.out HT3.out))
          clear ht ha HN
          go_wp2_with fail
          refine HP.out.mono ?_
          rintro e w4 ⟨a1, n1, c1, a2, n2, c2, rfl, hb4, hrd4⟩
          have HR4 := hid (blk_below HR3.out hb4)
          have HT4 : Hid (Touch q w w4) := HT3.out.trans (Touch.of_below hb4)
          have HA4 := hid (at_below HA3.out hb4)
          have HRd4 := hid hrd4
          have HS3 := hid HT3.out.size
          clear hb4 hrd4 HP
          have HR5 := hid (blk_alloc HR4.out (.cells #[i64 (parT t).kind, i64 (parT t).num, .slice a1 n1 c1, .slice a2 n2 c2] 25))
          have HT5 : Hid (Touch q w (w4.alloc (.cells #[i64 (parT t).kind, i64 (parT t).num, .slice a1 n1 c1, .slice a2 n2 c2] 25))) := HT4.out.alloc _
          have HB5 := hid (heap_last w4 (.cells #[i64 (parT t).kind, i64 (parT t).num, .slice a1 n1 c1, .slice a2 n2 c2] 25))
          have HA5 := hid (at_below HA4.out (below_one w4 (.cells #[i64 (parT t).kind, i64 (parT t).num, .slice a1 n1 c1, .slice a2 n2 c2] 25)))
          have HRd5 := hid (HRd4.out.under (below_one w4 (.cells #[i64 (parT t).kind, i64 (parT t).num, .slice a1 n1 c1, .slice a2 n2 c2] 25)))
          have HTB : Hid (w.heap.size < w4.heap.size ∧ q < w4.heap.size) := ⟨blk_lt HR4.out, HA4.out.lt⟩
          have HQ3 : Hid (q < w3.heap.size) := HA3.out.lt
          have HL3 : Hid (w.heap.size < w3.heap.size) := blk_lt HR3.out
          clear HR4 HT4 HA4 HRd4 HR3 HT3 HA3
          go_upto_region 11 with fail
          generalize w4.alloc (.cells #[i64 (parT t).kind, i64 (parT t).num, .slice a1 n1 c1, .slice a2 n2 c2] 25) = w5 at *
          obtain ⟨TB, hTB⟩ : ∃ TB, TB = w4.heap.size := ⟨_, rfl⟩
          rw [← hTB] at HB5 HTB ⊢
          clear hTB
          cases hP : parseF t with
          | none =>
            obtain ⟨e1, e2⟩ := parse_4 hP
            have hx : X0 = none := by rw [HX0.out, rdS, if_pos ⟨rfl, rfl⟩, hN]; simp only [hC]; rw [hP]
            have HX := hid hx
            rw [e2]
            clear hx hN hC hP HX0 e1 e2
            have r0 := blk_cell HR5.out 0
            have r1 := blk_cell HR5.out 1
            have r2 := blk_cell HR5.out 2
            have r3 := blk_cell HR5.out 3
            have r4 := blk_cell HR5.out 4
            have r5 := blk_cell HR5.out 5
            have r6 := blk_cell HR5.out 6
            have r7 := blk_cell HR5.out 7
            have r8 := blk_cell HR5.out 8
            have rf := blk_frozen HR5.out
            go_wp2_with fail
            rw [HX.out]
            exact bodyPost_ret (results_cell Tryd.results20 rfl rfl (vload30 (v := 0) (T := .mk 0 0 [] []) (V := .mk 0 0 [] []) (set9 HR5.out _ _ _ _ _ _ _ _ _))) rfl ⟨⟨0, .mk 0 0 [] [], .mk 0 0 [] [], _, _, _, _, _, _, _, _, _, rfl⟩, touch9 HT5.out (Nat.le_refl _) _ _ _ _ _ _ _ _ _⟩
          | some T =>
            obtain ⟨e1, e2⟩ := parse_0 hP
            rw [e1] at HRd5 HB5
            rw [e1, e2]
            have ⟨hfm, hd⟩ := right_formed (parseF_back hP).1
            have hfo := HRd5.out.form
            obtain ⟨an', cn', ee1, at', ct', ee2⟩ := hfo
            cases ee1
            cases ee2
            have HRq : Hid (Rd w5 (fun b => b ≠ q) T (.slice a1 T.names.length c1) (.slice a2 T.kids.length c2)) := HRd5.out.mono (fun b hb _ => by have := HQ3.out; omega)
            have HC := hid (value_ok 6 T hd hfm w5 q b3 _ _ HA5.out HRq.out)
            have HXe : Hid (X0 = mapS v T (rdV 6 T b3)) := by show _ = _; rw [HX0.out, rdS, if_pos ⟨rfl, rfl⟩, hN]; simp only [hC]; rw [hP]; simp only []; cases rdV 6 T b3 <;> rfl
            obtain ⟨res, hres⟩ : ∃ res, res = rdV 6 T b3 := ⟨_, rfl⟩
            rw [← hres] at HC HXe
            clear hres hN hC hP HX0 e1 e2 hfm hd
            have y0 := blk_cell HB5.out 0
            have y1 := blk_cell HB5.out 1
            have y2 := blk_cell HB5.out 2
            have y3 := blk_cell HB5.out 3
            go_wp2_with fail
            refine HC.out.mono ?_
            clear HC y0 y1 y2 y3
            cases res with
            | none =>
              rintro e w6 ⟨⟨k9, n9, t9, a9, m9, c9, rfl⟩, ht⟩
              have HX : Hid (X0 = none) := HXe.out
              have HR6 : Hid (w6.heap[w.heap.size]? = some z30) := (ht.block _ (blk_lt HR5.out) (by omega)).trans HR5.out
              have HB6 := hid ((ht.block _ (blk_lt HB5.out) (by have := HTB.out; omega)).trans HB5.out)
              have HT6 : Hid (Touch q w w6) := HT5.out.trans ht
              have HR7 := hid (blk_alloc HR6.out (.cells #[i64 k9, i64 n9, str t9, .slice a9 m9 c9] 28))
              have HB7 := hid (blk_alloc HB6.out (.cells #[i64 k9, i64 n9, str t9, .slice a9 m9 c9] 28))
              have HV7 := hid (heap_last w6 (.cells #[i64 k9, i64 n9, str t9, .slice a9 m9 c9] 28))
              have HT7 : Hid (Touch q w (w6.alloc (.cells #[i64 k9, i64 n9, str t9, .slice a9 m9 c9] 28))) := HT6.out.alloc _
              clear ht HRd5 HRq HXe
              clear HR6 HB6 HT6 HR5 HB5 HT5 HA5
              go_upto_region 14 with fail
              generalize w6.alloc (.cells #[i64 k9, i64 n9, str t9, .slice a9 m9 c9] 28) = w7 at *
              obtain ⟨VB, hVB⟩ : ∃ VB, VB = w6.heap.size := ⟨_, rfl⟩
              rw [← hVB] at HV7 ⊢
              clear hVB
              have r0 := blk_cell HR7.out 0
              have r1 := blk_cell HR7.out 1
              have r2 := blk_cell HR7.out 2
              have r3 := blk_cell HR7.out 3
              have r4 := blk_cell HR7.out 4
              have r5 := blk_cell HR7.out 5
              have r6 := blk_cell HR7.out 6
              have r7 := blk_cell HR7.out 7
              have r8 := blk_cell HR7.out 8
              have rf := blk_frozen HR7.out
              have y0 := blk_cell HB7.out 0
              have y1 := blk_cell HB7.out 1
              have y2 := blk_cell HB7.out 2
              have y3 := blk_cell HB7.out 3
              have v0 := blk_cell HV7.out 0
              have v1 := blk_cell HV7.out 1
              have v2 := blk_cell HV7.out 2
              have v3 := blk_cell HV7.out 3
              go_wp2_with fail
              rw [HX.out]
              exact bodyPost_ret (results_cell Tryd.results20 rfl rfl (vload30 (v := (v : Nat)) (T := T) (V := .mk k9 n9 t9 []) (set9 HR7.out _ _ _ _ _ _ _ _ _))) rfl ⟨⟨(v : Nat), T, .mk k9 n9 t9 [], _, _, _, _, _, _, _, _, _, rfl⟩, touch9 HT7.out (Nat.le_refl _) _ _ _ _ _ _ _ _ _⟩
            | some x =>
              obtain ⟨V, r⟩ := x
              rintro e w6 ⟨a9, c9, rfl, ha, ht, hv⟩
              have HX : Hid (X0 = some ((v, T, V), r)) := HXe.out
              have HR6 : Hid (w6.heap[w.heap.size]? = some z30) := (ht.block _ (blk_lt HR5.out) (by omega)).trans HR5.out
              have HB6 := hid ((ht.block _ (blk_lt HB5.out) (by have := HTB.out; omega)).trans HB5.out)
              have HT6 : Hid (Touch q w w6) := HT5.out.trans ht
              have HR7 := hid (blk_alloc HR6.out (vO V (.slice a9 V.kids.length c9)))
              have HB7 := hid (blk_alloc HB6.out (vO V (.slice a9 V.kids.length c9)))
              have HV7 := hid (heap_last w6 (vO V (.slice a9 V.kids.length c9)))
              have HT7 : Hid (Touch q w (w6.alloc (vO V (.slice a9 V.kids.length c9)))) := HT6.out.alloc _
              have HA7 := hid (at_below ha (below_one w6 (vO V (.slice a9 V.kids.length c9))))
              have HVd7 : Hid (Vd (w6.alloc (vO V (.slice a9 V.kids.length c9))) (fun b => w.heap.size < b) V (.slice a9 V.kids.length c9)) := (hv.under (below_one w6 (vO V (.slice a9 V.kids.length c9)))).mono (fun b hb _ => by have := blk_lt HR5.out; omega)
              have HRd7 : Hid (Rd (w6.alloc (vO V (.slice a9 V.kids.length c9))) (fun b => w.heap.size < b) T (.slice a1 T.names.length c1) (.slice a2 T.kids.length c2)) := by
                have h6 : Rd w6 (fun b => w3.heap.size ≤ b) T (.slice a1 T.names.length c1) (.slice a2 T.kids.length c2) := HRd5.out.move ht.size (fun b hb hlt => ⟨hb, ht.block b hlt (by have := HQ3.out; omega)⟩)
                exact (h6.under (below_one w6 (vO V (.slice a9 V.kids.length c9)))).mono (fun b hb _ => by have := HL3.out; omega)
              clear ha ht hv HRd5 HRq HXe
              clear HR6 HB6 HT6 HR5 HB5 HT5 HA5
              go_upto_region 14 with fail
              generalize w6.alloc (vO V (.slice a9 V.kids.length c9)) = w7 at *
              obtain ⟨VB, hVB⟩ : ∃ VB, VB = w6.heap.size := ⟨_, rfl⟩
              rw [← hVB] at HV7 ⊢
              clear hVB
              have r0 := blk_cell HR7.out 0
              have r1 := blk_cell HR7.out 1
              have r2 := blk_cell HR7.out 2
              have r3 := blk_cell HR7.out 3
              have r4 := blk_cell HR7.out 4
              have r5 := blk_cell HR7.out 5
              have r6 := blk_cell HR7.out 6
              have r7 := blk_cell HR7.out 7
              have r8 := blk_cell HR7.out 8
              have rf := blk_frozen HR7.out
              have y0 := blk_cell HB7.out 0
              have y1 := blk_cell HB7.out 1
              have y2 := blk_cell HB7.out 2
              have y3 := blk_cell HB7.out 3
              have v0 := blk_cell HV7.out 0
              have v1 := blk_cell HV7.out 1
              have v2 := blk_cell HV7.out 2
              have v3 := blk_cell HV7.out 3
              go_wp2_with fail
              rw [HX.out]
              refine bodyPost_ret (results_cell Tryd.results20 rfl rfl (vload30 (v := (v : Nat)) (T := T) (V := V) (set9 HR7.out _ _ _ _ _ _ _ _ _))) rfl ⟨a1, c1, a2, c2, a9, c9, rfl, ?_, touch9 HT7.out (Nat.le_refl _) _ _ _ _ _ _ _ _ _, ?_, ?_⟩
              · exact (at9 (by omega) _ _ _ _ _ _ _ _ _).trans HA7.out
              · exact HRd7.out.move (by simp [World.setCell]) (fun b hb _ => ⟨by omega, at9 (by omega) _ _ _ _ _ _ _ _ _⟩)
              · exact HVd7.out.move (by simp [World.setCell]) (fun b hb _ => ⟨by omega, at9 (by omega) _ _ _ _ _ _ _ _ _⟩)
    · have hx : X0 = none := by rw [HX0.out, rdS, if_neg hac]
      have HX := hid hx
      have hne : (!a == 105 || !c == 109) = true := by
        rw [Bool.or_eq_true]
        by_cases h1 : a = 105
        · exact .inr (by simpa using fun h => hac ⟨h1, h⟩)
        · exact .inl (by simpa using h1)
      clear hx hac HX0
      have r0 := blk_cell HR1.out 0
      have r1 := blk_cell HR1.out 1
      have r2 := blk_cell HR1.out 2
      have r3 := blk_cell HR1.out 3
      have r4 := blk_cell HR1.out 4
      have r5 := blk_cell HR1.out 5
      have r6 := blk_cell HR1.out 6
      have r7 := blk_cell HR1.out 7
      have r8 := blk_cell HR1.out 8
      have rf := blk_frozen HR1.out
      go_wp2_with fail
      rw [HX.out]
      exact bodyPost_ret (results_cell Tryd.results20 rfl rfl (vload30 (v := 0) (T := .mk 0 0 [] []) (V := .mk 0 0 [] []) (set9 HR1.out _ _ _ _ _ _ _ _ _))) rfl ⟨⟨0, .mk 0 0 [] [], .mk 0 0 [] [], _, _, _, _, _, _, _, _, _, rfl⟩, touch9 HT1.out (Nat.le_refl _) _ _ _ _ _ _ _ _ _⟩
end Go.Proofs.YtihbbgcpdgnhoaaDoor
namespace Go.Proofs.YtihbbgcpdgnhoaaDoor
open Go.ChangeShapes Go.WideShapes Go.ChangeAt Go.RowKit Go.Deep
attribute [local go_sem ↓] Go.wp_at_zero Go.wp_at_succ
set_option maxRecDepth 100000

theorem rdN_len {k n : Nat} {b r : Bs} (h : rdN k b = some (n, r)) : r.length + 1 ≤ b.length := by
  unfold rdN at h
  split at h
  · simp only [Option.some.injEq, Prod.mk.injEq] at h
    obtain ⟨_, rfl⟩ := h
    rw [List.length_drop]
    omega
  · cases h
theorem rdC_len {k : Nat} {b t r : Bs} (h : rdC k b = some (t, r)) : r.length + 1 ≤ b.length := by
  unfold rdC at h
  split at h
  · cases h
  · rename_i n r1 hn
    have := rdN_len hn
    split at h
    · simp only [Option.some.injEq, Prod.mk.injEq] at h
      obtain ⟨_, rfl⟩ := h
      rw [List.length_drop]
      omega
    · cases h
theorem rdL_size {f : Nat} (ih : ∀ (V : Vl) (T : Ty) (b r : Bs), rdV f T b = some (V, r) → V.size + r.length ≤ b.length) (T : Ty) :
    ∀ (m i : Nat) (b r : Bs) (l : List Vl), rdL (rdV f) T i m b = some (l, r) → sizeL l + r.length ≤ b.length
  | 0, i, b, r, l, h => by
    simp only [rdL, Option.some.injEq, Prod.mk.injEq] at h
    obtain ⟨rfl, rfl⟩ := h
    simp [sizeL]
  | m + 1, i, b, r, l, h => by
    rw [rdL] at h
    split at h
    · cases h
    · rename_i v r1 hv
      split at h
      · cases h
      · rename_i l1 r2 hl
        simp only [Option.some.injEq, Prod.mk.injEq] at h
        obtain ⟨rfl, rfl⟩ := h
        have h1 := ih _ _ _ _ hv
        have h2 := rdL_size ih T m (i + 1) _ _ _ hl
        show v.size + sizeL l1 + r2.length ≤ b.length
        omega
theorem rdV_size : ∀ (f : Nat) (V : Vl) (T : Ty) (b r : Bs), rdV f T b = some (V, r) → V.size + r.length ≤ b.length
  | 0, V, T, b, r, h => by simp [rdV] at h
  | f + 1, V, T, b, r, h => by
    rw [rdV] at h
    split at h
    · cases h
    · rename_i tag r1 h1
      have e1 := rdN_len h1
      split at h
      · cases h
      · split at h
        · split at h
          · cases h
          · rename_i n q h2
            have e2 := rdN_len h2
            simp only [Option.some.injEq, Prod.mk.injEq] at h
            obtain ⟨rfl, rfl⟩ := h
            simp only [Vl.size, sizeL]
            omega
        · split at h
          · split at h
            · cases h
            · rename_i t q h2
              have e2 := rdC_len h2
              simp only [Option.some.injEq, Prod.mk.injEq] at h
              obtain ⟨rfl, rfl⟩ := h
              simp only [Vl.size, sizeL]
              omega
          · split at h
            · cases h
            · rename_i m q h2
              have e2 := rdN_len h2
              split at h
              · cases h
              · split at h
                · cases h
                · rename_i l p h3
                  have e3 := rdL_size (rdV_size f) T _ _ _ _ _ h3
                  simp only [Option.some.injEq, Prod.mk.injEq] at h
                  obtain ⟨rfl, rfl⟩ := h
                  simp only [Vl.size]
                  omega
theorem rdS_size {b r : Bs} {v : Nat} {T : Ty} {V : Vl} (h : rdS b = some ((v, T, V), r)) : V.size ≤ b.length := by
  unfold rdS at h
  split at h
  · split at h
    · split at h
      · cases h
      · rename_i hv
        split at h
        · cases h
        · rename_i ht
          split at h
          · cases h
          · split at h
            · cases h
            · rename_i hV
              simp only [Option.some.injEq, Prod.mk.injEq] at h
              obtain ⟨⟨rfl, rfl, rfl⟩, rfl⟩ := h
              have e1 := rdN_len hv
              have e2 := rdC_len ht
              have e3 := rdV_size 6 _ _ _ _ hV
              simp only [List.length_cons]
              omega
    · cases h
  · cases h
/-- What Read reads. -/
def rdR (b : Bs) : Option (Nat × Ty × Vl) := match rdS b with
  | some ((v, T, V), []) => if fitsB V T = true then some (v, T, V) else none
  | _ => none
abbrev zS : Value := .agg #[i64 0, i64 0, i64 0, .slice none 0 0, .slice none 0 0, i64 0, i64 0, str [], .slice none 0 0]
def RNo (E : Int) (w : World) (e : Ending) (w' : World) : Prop := e = .returned (.tuple #[zS, i64 E]) ∧ Below w.heap.size w w'
def RYes (w : World) (v : Nat) (T : Ty) (V : Vl) (e : Ending) (w' : World) : Prop := ∃ a1 c1 a2 c2 a3 c3, e = .returned (.tuple #[stV v T V (.slice a1 T.names.length c1) (.slice a2 T.kids.length c2) (.slice a3 V.kids.length c3), i64 0]) ∧ Below w.heap.size w w' ∧ Rd w' (fun b => w.heap.size ≤ b) T (.slice a1 T.names.length c1) (.slice a2 T.kids.length c2) ∧ Vd w' (fun b => w.heap.size ≤ b) V (.slice a3 V.kids.length c3)
def ROk (w : World) : Option (Nat × Ty × Vl) → Ending → World → Prop
  | none => RNo 4 w
  | some (v, T, V) => RYes w v T V
set_option maxHeartbeats 800000 in
theorem wread_long (w : World) (l : Bs) (hl : 6000 < l.length) : Calls Tryd.prog 9 #[str l] w (RNo 2 w) := by
  have hz := zero30
  have HR0 := hid (heap_last w z30)
  have HB0 := hid (below_one w z30)
  have hs := bsize l
  have hI : (6000 : Int) < l.length := by omega
  clear hl
  go_enter Tryd.func9, Tryd.ntmps9
  go_wp2_with fail
  exact bodyPost_ret (results_cell Tryd.results9 rfl rfl (vload30 (v := 0) (T := .mk 0 0 [] []) (V := .mk 0 0 [] []) HR0.out)) rfl ⟨rfl, HB0.out⟩
set_option maxHeartbeats 6400000 in
theorem wread_ok (w : World) (l : Bs) (hl : l.length ≤ 6000) (hM : Ml w) : Calls Tryd.prog 9 #[str l] w (ROk w (rdR l)) := by
  have hz := zero30
  have h1lt : 1 < w.heap.size := by obtain ⟨m, hm⟩ := hM; exact World.block_lt_of_cell? w _ hm
  obtain ⟨HRa, HQa, hb0⟩ := two_boxes w z30 (.cells #[str l] 65)
  have HR0 := hid HRa
  have HQ0 := hid HQa
  have HB0 := hid hb0
  have HC := hid (state_ok _ (w.heap.size + 1) l HQ0.out (by omega) (hM.below hb0))
  have hs := bsize l
  have hI : ¬ (6000 : Int) < l.length := by omega
  obtain ⟨X0, hX0⟩ : ∃ x, x = rdR l := ⟨_, rfl⟩
  rw [← hX0]
  have HX0 := hid hX0
  have HL := hid hl
  clear HRa HQa hb0 hM h1lt hX0 hl
  go_enter Tryd.func9, Tryd.ntmps9
  go_wp2_with fail
  refine HC.out.mono ?_
  clear HC
  obtain ⟨res, hres⟩ : ∃ res, res = rdS l := ⟨_, rfl⟩
  rw [← hres]
  cases res with
  | none =>
    rintro e w1 ⟨⟨v, T, V, a1, n1, c1, a2, n2, c2, a3, n3, c3, rfl⟩, ht⟩
    have hx : X0 = none := by rw [HX0.out]; unfold rdR; rw [← hres]
    have HX := hid hx
    have HR1 : Hid (w1.heap[w.heap.size]? = some z30) := (ht.block _ (blk_lt HR0.out) (by omega)).trans HR0.out
    have HT1 : Hid (Touch (w.heap.size + 1) w w1) := (Touch.of_below HB0.out).trans ht
    have HR3 := hid (blk_alloc HR1.out (stC v T V (.slice a1 n1 c1) (.slice a2 n2 c2) (.slice a3 n3 c3)))
    have HT3 : Hid (Touch (w.heap.size + 1) w (w1.alloc (stC v T V (.slice a1 n1 c1) (.slice a2 n2 c2) (.slice a3 n3 c3)))) := HT1.out.alloc _
    clear ht hx hres HX0 HR1 HT1 HR0 HQ0 HB0
    go_upto_region 5 with fail
    generalize w1.alloc (stC v T V (.slice a1 n1 c1) (.slice a2 n2 c2) (.slice a3 n3 c3)) = w3 at *
    have r0 := blk_cell HR3.out 0
    have r1 := blk_cell HR3.out 1
    have r2 := blk_cell HR3.out 2
    have r3 := blk_cell HR3.out 3
    have r4 := blk_cell HR3.out 4
    have r5 := blk_cell HR3.out 5
    have r6 := blk_cell HR3.out 6
    have r7 := blk_cell HR3.out 7
    have r8 := blk_cell HR3.out 8
    have rf := blk_frozen HR3.out
    go_wp2_with fail
    rw [HX.out]
    exact bodyPost_ret (results_cell Tryd.results9 rfl rfl (vload30 (v := 0) (T := .mk 0 0 [] []) (V := .mk 0 0 [] []) (set9 HR3.out _ _ _ _ _ _ _ _ _))) rfl ⟨rfl, (touch9 HT3.out (Nat.le_refl _) _ _ _ _ _ _ _ _ _).below (Nat.le_succ _) (Nat.le_refl _)⟩
  | some x =>
    obtain ⟨⟨v, T, V⟩, r⟩ := x
    rintro e w1 ⟨a1, c1, a2, c2, a3, c3, rfl, ha, ht, hrd, hvd⟩
    have hsz : V.size ≤ 100000 := by have := rdS_size hres.symm; have := HL.out; omega
    have HR1 : Hid (w1.heap[w.heap.size]? = some z30) := (ht.block _ (blk_lt HR0.out) (by omega)).trans HR0.out
    have HT1 : Hid (Touch (w.heap.size + 1) w w1) := (Touch.of_below HB0.out).trans ht
    have hlo : w.heap.size < ((w.alloc z30).alloc (.cells #[str l] 65)).heap.size := blk_lt HR0.out
    have HR2 := hid (blk_alloc HR1.out (stC v T V (.slice a1 T.names.length c1) (.slice a2 T.kids.length c2) (.slice a3 V.kids.length c3)))
    have HT2 : Hid (Touch (w.heap.size + 1) w (w1.alloc (stC v T V (.slice a1 T.names.length c1) (.slice a2 T.kids.length c2) (.slice a3 V.kids.length c3)))) := HT1.out.alloc _
    have HA2 := hid (at_below ha (below_one w1 (stC v T V (.slice a1 T.names.length c1) (.slice a2 T.kids.length c2) (.slice a3 V.kids.length c3))))
    have HS2 := hid (heap_last w1 (stC v T V (.slice a1 T.names.length c1) (.slice a2 T.kids.length c2) (.slice a3 V.kids.length c3)))
    have HRd2 := hid ((hrd.under (below_one w1 (stC v T V (.slice a1 T.names.length c1) (.slice a2 T.kids.length c2) (.slice a3 V.kids.length c3)))).mono (S' := fun b => w.heap.size < b) (fun b hb _ => by omega))
    have HVd2 := hid ((hvd.under (below_one w1 (stC v T V (.slice a1 T.names.length c1) (.slice a2 T.kids.length c2) (.slice a3 V.kids.length c3)))).mono (S' := fun b => w.heap.size < b) (fun b hb _ => by omega))
    clear ha ht hrd hvd HR1 HT1 HR0 HQ0 HB0 hlo
    go_upto_region 5 with fail
    generalize w1.alloc (stC v T V (.slice a1 T.names.length c1) (.slice a2 T.kids.length c2) (.slice a3 V.kids.length c3)) = w2 at *
    obtain ⟨SB, hSB⟩ : ∃ SB, SB = w1.heap.size := ⟨_, rfl⟩
    rw [← hSB] at HS2 ⊢
    clear hSB
    have q0 := blk_cell HA2.out 0
    have s0 := blk_cell HS2.out 0
    have s1 := blk_cell HS2.out 1
    have s2 := blk_cell HS2.out 2
    have s3 := blk_cell HS2.out 3
    have s4 := blk_cell HS2.out 4
    have s5 := blk_cell HS2.out 5
    have s6 := blk_cell HS2.out 6
    have s7 := blk_cell HS2.out 7
    have s8 := blk_cell HS2.out 8
    by_cases hr : r = []
    · subst hr
      have HF := hid (fits_ok V T w2 _ _ _ _ _ HVd2.out HRd2.out hsz)
      have hx : X0 = if fitsB V T = true then some (v, T, V) else none := by rw [HX0.out]; unfold rdR; rw [← hres]
      have HX := hid hx
      clear hx hres HX0 hsz
      go_wp2_with fail
      refine HF.out.mono ?_
      rintro e w4 ⟨rfl, hb4⟩
      have HR3 := hid (blk_below HR2.out hb4)
      have HT3 : Hid (Touch (w.heap.size + 1) w w4) := HT2.out.trans (Touch.of_below hb4)
      have HS4 := hid (blk_below HS2.out hb4)
      have HRd4 := hid (HRd2.out.under hb4)
      have HVd4 := hid (HVd2.out.under hb4)
      clear hb4 HF q0 s0 s1 s2 s3 s4 s5 s6 s7 s8 HR2 HT2 HS2 HRd2 HVd2 HA2
      have r0 := blk_cell HR3.out 0
      have r1 := blk_cell HR3.out 1
      have r2 := blk_cell HR3.out 2
      have r3 := blk_cell HR3.out 3
      have r4 := blk_cell HR3.out 4
      have r5 := blk_cell HR3.out 5
      have r6 := blk_cell HR3.out 6
      have r7 := blk_cell HR3.out 7
      have r8 := blk_cell HR3.out 8
      have rf := blk_frozen HR3.out
      cases hf : fitsB V T
      · have HX2 : Hid (X0 = none) := by show _ = _; rw [HX.out, hf]; rfl
        clear hf
        go_wp2_with fail
        rw [HX2.out]
        exact bodyPost_ret (results_cell Tryd.results9 rfl rfl (vload30 (v := 0) (T := .mk 0 0 [] []) (V := .mk 0 0 [] []) (set9 HR3.out _ _ _ _ _ _ _ _ _))) rfl ⟨rfl, (touch9 HT3.out (Nat.le_refl _) _ _ _ _ _ _ _ _ _).below (Nat.le_succ _) (Nat.le_refl _)⟩
      · have HX2 : Hid (X0 = some (v, T, V)) := by show _ = _; rw [HX.out, hf]; rfl
        clear hf
        have s0 := blk_cell HS4.out 0
        have s1 := blk_cell HS4.out 1
        have s2 := blk_cell HS4.out 2
        have s3 := blk_cell HS4.out 3
        have s4 := blk_cell HS4.out 4
        have s5 := blk_cell HS4.out 5
        have s6 := blk_cell HS4.out 6
        have s7 := blk_cell HS4.out 7
        have s8 := blk_cell HS4.out 8
        go_wp2_with fail
        rw [HX2.out]
        refine bodyPost_ret (results_cell Tryd.results9 rfl rfl (vload30 (v := (v : Nat)) (T := T) (V := V) (set9 HR3.out _ _ _ _ _ _ _ _ _))) rfl ⟨a1, c1, a2, c2, a3, c3, rfl, (touch9 HT3.out (Nat.le_refl _) _ _ _ _ _ _ _ _ _).below (Nat.le_succ _) (Nat.le_refl _), ?_, ?_⟩
        · exact HRd4.out.move (by simp [World.setCell]) (fun b hb _ => ⟨by omega, at9 (by omega) _ _ _ _ _ _ _ _ _⟩)
        · exact HVd4.out.move (by simp [World.setCell]) (fun b hb _ => ⟨by omega, at9 (by omega) _ _ _ _ _ _ _ _ _⟩)
    · have hx : X0 = none := by
        rw [HX0.out]; unfold rdR; rw [← hres]
        cases r with
        | nil => exact absurd rfl hr
        | cons => rfl
      have HX := hid hx
      obtain ⟨d, r', rfl⟩ : ∃ d r', r = d :: r' := by
        cases r with
        | nil => exact absurd rfl hr
        | cons d r' => exact ⟨d, r', rfl⟩
      have HR3 := HR2
      have HT3 := HT2
      clear hx hres HX0 hr
      have r0 := blk_cell HR3.out 0
      have r1 := blk_cell HR3.out 1
      have r2 := blk_cell HR3.out 2
      have r3 := blk_cell HR3.out 3
      have r4 := blk_cell HR3.out 4
      have r5 := blk_cell HR3.out 5
      have r6 := blk_cell HR3.out 6
      have r7 := blk_cell HR3.out 7
      have r8 := blk_cell HR3.out 8
      have rf := blk_frozen HR3.out
      go_wp2_with fail
      rw [HX.out]
      exact bodyPost_ret (results_cell Tryd.results9 rfl rfl (vload30 (v := 0) (T := .mk 0 0 [] []) (V := .mk 0 0 [] []) (set9 HR3.out _ _ _ _ _ _ _ _ _))) rfl ⟨rfl, (touch9 HT3.out (Nat.le_refl _) _ _ _ _ _ _ _ _ _).below (Nat.le_succ _) (Nat.le_refl _)⟩
end Go.Proofs.YtihbbgcpdgnhoaaDoor
namespace Go.Proofs.YtihbbgcpdgnhoaaDoor
open Go.ChangeShapes Go.WideShapes Go.ChangeAt Go.RowKit Go.Deep
attribute [local go_sem ↓] Go.wp_at_zero Go.wp_at_succ
set_option maxRecDepth 100000

/-- What begins tells. -/
def begB (a b : Bs) : Bool := decide (b.length ≤ a.length) && (a.take b.length == b)
set_option maxHeartbeats 1600000 in
theorem begins_ok (w : World) (a b : Bs) : Calls Tryd.prog 12 #[str a, str b] w fun e w' => e = .returned (.bool (begB a b)) ∧ w' = w := by
  have ha := bsize a
  have hb := bsize b
  have e1 := slice_pre a b.length
  unfold begB
  by_cases h : b.length ≤ a.length
  · have hI : (b.length : Int) ≤ a.length := by omega
    rw [decide_eq_true h, Bool.true_and]
    clear h
    generalize a.take b.length = c at *
    go_enter Tryd.func12, Tryd.ntmps12
    go_wp2_with fail
    go_ret
    exact ⟨rfl, rfl⟩
  · have hI : ¬ (b.length : Int) ≤ a.length := by omega
    rw [decide_eq_false h, Bool.false_and]
    clear h
    go_enter Tryd.func12, Tryd.ntmps12
    go_wp2_with fail
    go_ret
    exact ⟨rfl, rfl⟩
set_option maxHeartbeats 6400000 in
theorem much_ok (v : Int) (T : Ty) (V : Vl) (w : World) (kv nv tv : Value) (hV : Vd w (fun _ => True) V kv) (hR : Rd w (fun _ => True) T nv tv) : Calls Tryd.prog 6 #[stV v T V nv tv kv] w fun e w' => ∃ b : Bool, e = .returned (.bool b) ∧ Below w.heap.size w w' ∧ (b = false → V.size ≤ 2500 ∧ T.count ≤ 200 ∧ T.small = true) := by
  have HVd := hid hV
  have HRd := hid hR
  obtain ⟨ka, kc, rfl⟩ := hV.form
  obtain ⟨an, cn, rfl, at_, ct, rfl⟩ := hR.form
  have HX := hid (heap_last w (stC v T V (.slice an T.names.length cn) (.slice at_ T.kids.length ct) (.slice ka V.kids.length kc)))
  have HBV := hid (below_one w (stC v T V (.slice an T.names.length cn) (.slice at_ T.kids.length ct) (.slice ka V.kids.length kc)))
  clear hV hR
  go_enter Tryd.func6, Tryd.ntmps6
  go_upto_region 1 with fail
  generalize w.alloc (stC v T V (.slice an T.names.length cn) (.slice at_ T.kids.length ct) (.slice ka V.kids.length kc)) = V0 at *
  obtain ⟨Z, hZ⟩ : ∃ Z, Z = w.heap.size := ⟨_, rfl⟩
  rw [← hZ] at HX ⊢
  clear hZ
  have zc0 := blk_cell HX.out 0
  have zc1 := blk_cell HX.out 1
  have zc2 := blk_cell HX.out 2
  have zc3 := blk_cell HX.out 3
  have zc4 := blk_cell HX.out 4
  have zc5 := blk_cell HX.out 5
  have zc6 := blk_cell HX.out 6
  have zc7 := blk_cell HX.out 7
  have zc8 := blk_cell HX.out 8
  have HQ : Hid ((V0.alloc (.cells #[i64 200] 57)).heap[V0.heap.size]? = some (.cells #[i64 200] 57)) := heap_last V0 _
  have HBU : Hid (Below w.heap.size w (V0.alloc (.cells #[i64 200] 57))) := HBV.out.trans ((below_one V0 _).mono HBV.out.size)
  have HLG : Hid (Calls Tryd.prog 14 #[.agg #[i64 T.kind, i64 T.num, .slice an T.names.length cn, .slice at_ T.kids.length ct], pq V0.heap.size, i64 1] (V0.alloc (.cells #[i64 200] 57)) (LgOk2 (V0.alloc (.cells #[i64 200] 57)) V0.heap.size 200 T)) :=
    large2_ok T.count T (Nat.le_refl _) _ _ _ _ 200 1 ((HRd.out.mono (S' := fun b => b ≠ V0.heap.size) (fun b _ hb => by have := HBV.out.size; omega)).move HBU.out.size (fun b hb hlt => ⟨hb, HBU.out.block b hlt⟩)) HQ.out (by omega) (by omega) (by omega) (by omega)
  have hZV : Z < V0.heap.size := blk_lt HX.out
  have hVw : w.heap.size ≤ V0.heap.size := HBV.out.size
  go_wp2_with fail
  refine HLG.out.mono ?_
  rintro e w2 ⟨b0, m', rfl, _, ht2, hf2⟩
  have HB2 : Hid (Below w.heap.size w w2) := HBU.out.trans (ht2.below hVw HBU.out.size)
  have HX2 : Hid (w2.heap[Z]? = some (stC v T V (.slice an T.names.length cn) (.slice at_ T.kids.length ct) (.slice ka V.kids.length kc))) := by show _ = _; rw [ht2.block Z (by simp; omega) (by omega)]; exact blk_alloc HX.out _
  have HF2 : Hid (b0 = false → T.count ≤ 200 ∧ T.small = true) := fun h => by obtain ⟨g1, g2, g3⟩ := hf2 h; exact ⟨by omega, g3⟩
  clear ht2 hf2 HLG zc0 zc1 zc2 zc3 zc4 zc5 zc6 zc7 zc8 hZV hVw HBV HBU HQ
  cases b0 with
  | true =>
    go_wp2_with fail
    go_ret
    exact ⟨true, rfl, HB2.out, fun h => by cases h⟩
  | false =>
    have HF5 := hid (HF2.out rfl)
    have HQ3 : Hid ((w2.alloc (.cells #[i64 2500] 57)).heap[w2.heap.size]? = some (.cells #[i64 2500] 57)) := heap_last w2 _
    have HB3 : Hid (Below w.heap.size w (w2.alloc (.cells #[i64 2500] 57))) := HB2.out.trans ((below_one w2 _).mono HB2.out.size)
    have HLV : Hid (Calls Tryd.prog 15 #[vlV V (.slice ka V.kids.length kc), pq w2.heap.size, i64 1] (w2.alloc (.cells #[i64 2500] 57)) (LgVk (w2.alloc (.cells #[i64 2500] 57)) w2.heap.size 2500 V)) :=
      largev_ok V.size V (Nat.le_refl _) _ _ _ 2500 1 ((HVd.out.mono (S' := fun b => b ≠ w2.heap.size) (fun b _ hb => by have := HB2.out.size; omega)).move HB3.out.size (fun b hb hlt => ⟨hb, HB3.out.block b hlt⟩)) HQ3.out (by omega) (by omega) (by omega) (by omega)
    have hZV : Z < w2.heap.size := blk_lt HX2.out
    have hVw : w.heap.size ≤ w2.heap.size := HB2.out.size
    have zc0 := blk_cell HX2.out 0
    have zc1 := blk_cell HX2.out 1
    have zc2 := blk_cell HX2.out 2
    have zc3 := blk_cell HX2.out 3
    have zc4 := blk_cell HX2.out 4
    have zc5 := blk_cell HX2.out 5
    have zc6 := blk_cell HX2.out 6
    have zc7 := blk_cell HX2.out 7
    have zc8 := blk_cell HX2.out 8
    go_wp2_with fail
    refine HLV.out.mono ?_
    rintro e w4 ⟨b1, m2, rfl, _, ht4, hf4⟩
    have HB4 : Hid (Below w.heap.size w w4) := HB3.out.trans (ht4.below hVw HB3.out.size)
    have HF4 : Hid (b1 = false → V.size ≤ 2500) := fun h => by have := hf4 h; omega
    clear ht4 hf4 HLV
    go_wp2_with fail
    go_ret
    exact ⟨b1, rfl, HB4.out, fun h => ⟨HF4.out h, HF5.out⟩⟩
end Go.Proofs.YtihbbgcpdgnhoaaDoor
namespace Go.Proofs.YtihbbgcpdgnhoaaDoor
open Go.ChangeShapes Go.WideShapes Go.ChangeAt Go.RowKit Go.Deep
attribute [local go_sem ↓] Go.wp_at_zero Go.wp_at_succ
set_option maxRecDepth 100000

def T16 : Ty := .mk 1 16 [] []
def V300 : Vl := .mk 1 300 [] []
def B300 : Bs := [105, 109, 1, 0, 3, 105, 49, 54, 1, 1, 44]
theorem stO_300 : stO (1 : Nat) T16 V300 = B300 := by decide +kernel
theorem stE_300 : stE (1 : Nat) T16 V300 = 0 := by decide +kernel
theorem rdR_300 : rdR B300 = some (1, T16, V300) := by
  have h : rdS (stB 1 T16 V300 ++ []) = some ((1, T16, V300), []) := rdS_fwd 1 T16 V300 [] (by omega) (by decide +kernel) (by decide +kernel) (by unfold fitV; decide +kernel)
  have e : stB 1 T16 V300 ++ [] = B300 := by decide +kernel
  rw [e] at h
  unfold rdR
  rw [h]
  exact if_pos (by decide +kernel)
theorem ml_below {w w' : World} (h : Ml w) (hb : Below w.heap.size w w') : Ml w' := h.below hb
set_option maxHeartbeats 6400000 in
theorem word_ok (w : World) (hP : Pw w) (hM : Ml w) : Calls Tryd.prog 7 #[] w fun e w' => e = .returned (.bool true) ∧ Below w.heap.size w w' := by
  have HC8 : Hid (∀ W, Pw W → Calls Tryd.prog 8 #[.agg #[i64 1, i64 1, i64 16, .slice none 0 0, .slice none 0 0, i64 1, i64 300, str [], .slice none 0 0]] W fun e w' => e = .returned (.tuple #[str B300, i64 0]) ∧ Below W.heap.size W w') := fun W hW => by
    have := bytes8_ok 1 T16 V300 W (fun _ => True) (fun _ => True) _ _ _ (Vd.leaf W _ 1 300 [] (by simp) none 0) (Rd.leaf W _ 1 16) hW (by decide +kernel) (by omega)
    rw [stO_300, stE_300] at this
    exact this
  have HC16 : Hid (∀ W, Pw W → Calls Tryd.prog 16 #[.agg #[i64 1, i64 1, i64 16, .slice none 0 0, .slice none 0 0, i64 1, i64 300, str [], .slice none 0 0]] W fun e w' => e = .returned (.tuple #[i64 (11 : Nat), i64 0]) ∧ Below W.heap.size W w') := fun W hW => by
    have := size_ok 1 T16 V300 W (fun _ => True) (fun _ => True) _ _ _ (Vd.leaf W _ 1 300 [] (by simp) none 0) (Rd.leaf W _ 1 16) hW (by decide +kernel) (by omega)
    rw [stO_300, stE_300] at this
    exact this
  have HC9 : Hid (∀ W, Ml W → Calls Tryd.prog 9 #[str B300] W fun e w' => ∃ a1 c1 a2 c2 a3 c3, e = .returned (.tuple #[.agg #[i64 1, i64 1, i64 16, .slice a1 0 c1, .slice a2 0 c2, i64 1, i64 300, str [], .slice a3 0 c3], i64 0]) ∧ Below W.heap.size W w') := fun W hW => by
    have := wread_ok W B300 (by decide) hW
    rw [rdR_300] at this
    refine this.mono ?_
    rintro e w' ⟨a1, c1, a2, c2, a3, c3, rfl, hb, _, _⟩
    exact ⟨a1, c1, a2, c2, a3, c3, rfl, hb⟩
  have HP := hid hP
  have HM := hid hM
  have HX := hid (heap_last w (.cells #[i64 1, i64 1, i64 16, .slice none 0 0, .slice none 0 0, i64 1, i64 300, str [], .slice none 0 0] 30))
  have HB0 := hid (below_one w (.cells #[i64 1, i64 1, i64 16, .slice none 0 0, .slice none 0 0, i64 1, i64 300, str [], .slice none 0 0] 30))
  have HP0 := hid (hP.below HB0.out)
  have HC8' := hid (HC8.out _ HP0.out)
  clear hP hM
  go_enter Tryd.func7, Tryd.ntmps7
  go_wp2_with fail
  refine HC8'.out.mono ?_
  rintro e w1 ⟨rfl, hb1⟩
  have HX1 := hid (blk_below HX.out hb1)
  have HB1 : Hid (Below w.heap.size w w1) := HB0.out.trans (hb1.mono HB0.out.size)
  have HC9' := hid (HC9.out w1 (HM.out.below HB1.out))
  clear hb1 HC8' HC8 HC9 HB0 HX HP0
  have hBs : str B300 = .string ⟨#[105, 109, 1, 0, 3, 105, 49, 54, 1, 1, 44]⟩ := rfl
  go_wp2_with fail
  refine HC9'.out.mono ?_
  rintro e w2 ⟨a1, c1, a2, c2, a3, c3, rfl, hb2⟩
  have HX2 := hid (blk_below HX1.out hb2)
  have HB2 : Hid (Below w.heap.size w w2) := HB1.out.trans (hb2.mono HB1.out.size)
  have HX3 := hid (blk_alloc HX2.out (.cells #[i64 1, i64 1, i64 16, .slice a1 0 c1, .slice a2 0 c2, i64 1, i64 300, str [], .slice a3 0 c3] 30))
  have HY3 := hid (heap_last w2 (.cells #[i64 1, i64 1, i64 16, .slice a1 0 c1, .slice a2 0 c2, i64 1, i64 300, str [], .slice a3 0 c3] 30))
  have HB3 : Hid (Below w.heap.size w (w2.alloc (.cells #[i64 1, i64 1, i64 16, .slice a1 0 c1, .slice a2 0 c2, i64 1, i64 300, str [], .slice a3 0 c3] 30))) := HB2.out.trans ((below_one w2 _).mono HB2.out.size)
  have HC16' := hid (HC16.out _ (HP.out.below HB3.out))
  clear hb2 HC9' HC16 HX1 HX2 HB1 HB2
  go_upto_region 4 with fail
  generalize w2.alloc (.cells #[i64 1, i64 1, i64 16, .slice a1 0 c1, .slice a2 0 c2, i64 1, i64 300, str [], .slice a3 0 c3] 30) = w3 at *
  obtain ⟨TB, hTB⟩ : ∃ TB, TB = w2.heap.size := ⟨_, rfl⟩
  rw [← hTB] at HY3 ⊢
  clear hTB
  have x0 := blk_cell HX3.out 0
  have x1 := blk_cell HX3.out 1
  have x2 := blk_cell HX3.out 2
  have x3 := blk_cell HX3.out 3
  have x4 := blk_cell HX3.out 4
  have x5 := blk_cell HX3.out 5
  have x6 := blk_cell HX3.out 6
  have x7 := blk_cell HX3.out 7
  have x8 := blk_cell HX3.out 8
  go_wp2_with fail
  refine HC16'.out.mono ?_
  rintro e w4 ⟨rfl, hb4⟩
  have HY4 := hid (blk_below HY3.out hb4)
  have HB4 : Hid (Below w.heap.size w w4) := HB3.out.trans (hb4.mono HB3.out.size)
  clear hb4 HC16' x0 x1 x2 x3 x4 x5 x6 x7 x8
  have y0 := blk_cell HY4.out 0
  have y1 := blk_cell HY4.out 1
  have y2 := blk_cell HY4.out 2
  have y3 := blk_cell HY4.out 3
  have y4 := blk_cell HY4.out 4
  have y5 := blk_cell HY4.out 5
  have y6 := blk_cell HY4.out 6
  have y7 := blk_cell HY4.out 7
  have y8 := blk_cell HY4.out 8
  go_wp2_with fail
  go_ret
  exact ⟨rfl, HB4.out⟩
end Go.Proofs.YtihbbgcpdgnhoaaDoor
namespace Go.Proofs.YtihbbgcpdgnhoaaDoor
open Go.ChangeShapes Go.WideShapes Go.ChangeAt Go.RowKit Go.Deep
attribute [local go_sem ↓] Go.wp_at_zero Go.wp_at_succ
set_option maxRecDepth 100000

abbrev stD (v : Int) (T : Ty) (V : Vl) (nv tv kv : Value) : Obj := .cells #[i64 v, i64 T.kind, i64 T.num, nv, tv, i64 V.kind, i64 V.num, str V.s, kv] 46
def sameS (v : Int) (T : Ty) (V : Vl) (v' : Int) (T' : Ty) (V' : Vl) : Bool := decide (v = v') && sameB T T' && sameV V V'
set_option maxHeartbeats 6400000 in
theorem rst_same (v v' : Int) (T T' : Ty) (V V' : Vl) (w : World) (S : Nat → Prop) (nv tv kv nv' tv' kv' : Value) (hR : Rd w S T nv tv) (hV : Vd w S V kv) (hR' : Rd w S T' nv' tv') (hV' : Vd w S V' kv') : Calls Tryd.prog 10 #[stV v T V nv tv kv, stV v' T' V' nv' tv' kv'] w fun e w' => e = .returned (.bool (sameS v T V v' T' V')) ∧ Below w.heap.size w w' := by
  have hR0 := hR
  have hV0 := hV
  have hR1 := hR'
  have hV1 := hV'
  obtain ⟨ka, kc, rfl⟩ := hV.form
  obtain ⟨an, cn, rfl, at_, ct, rfl⟩ := hR.form
  obtain ⟨ka', kc', rfl⟩ := hV'.form
  obtain ⟨an', cn', rfl, at', ct', rfl⟩ := hR'.form
  obtain ⟨HXa, HYa, hb0⟩ := two_boxes w (stD v T V (.slice an T.names.length cn) (.slice at_ T.kids.length ct) (.slice ka V.kids.length kc)) (stD v' T' V' (.slice an' T'.names.length cn') (.slice at' T'.kids.length ct') (.slice ka' V'.kids.length kc'))
  have HX := hid HXa
  have HY := hid HYa
  have HB0 := hid hb0
  have HC22 := hid (rsame_ok T.count T (Nat.le_refl _) T' _ S _ _ _ _ (hR0.under hb0) (hR1.under hb0))
  have HC23 := hid fun W hb => vrsame_ok V.size V (Nat.le_refl _) V' W S _ _ (hV0.under hb) (hV1.under (w' := W) hb)
  unfold sameS
  obtain ⟨bT, hbT⟩ : ∃ b, b = sameB T T' := ⟨_, rfl⟩
  rw [← hbT] at HC22 ⊢
  clear hbT
  clear HXa HYa hb0 hR hV hR' hV' hR0 hV0 hR1 hV1
  by_cases hv : v = v'
  · subst hv
    rw [decide_eq_true rfl, Bool.true_and]
    go_enter Tryd.func10, Tryd.ntmps10
    go_wp2_with fail
    refine HC22.out.mono ?_
    rintro e w1 ⟨rfl, hb1⟩
    have HX1 := hid (blk_below HX.out hb1)
    have HY1 := hid (blk_below HY.out hb1)
    have HB1 : Hid (Below w.heap.size w w1) := HB0.out.trans (hb1.mono HB0.out.size)
    clear hb1 HC22
    cases bT with
    | false =>
      go_wp2_with fail
      go_ret
      exact ⟨rfl, HB1.out⟩
    | true =>
      have HC := hid (HC23.out w1 HB1.out)
      clear HC23
      have x0 := blk_cell HX1.out 0
      have x1 := blk_cell HX1.out 1
      have x2 := blk_cell HX1.out 2
      have x3 := blk_cell HX1.out 3
      have x4 := blk_cell HX1.out 4
      have x5 := blk_cell HX1.out 5
      have x6 := blk_cell HX1.out 6
      have x7 := blk_cell HX1.out 7
      have x8 := blk_cell HX1.out 8
      have y0 := blk_cell HY1.out 0
      have y1 := blk_cell HY1.out 1
      have y2 := blk_cell HY1.out 2
      have y3 := blk_cell HY1.out 3
      have y4 := blk_cell HY1.out 4
      have y5 := blk_cell HY1.out 5
      have y6 := blk_cell HY1.out 6
      have y7 := blk_cell HY1.out 7
      have y8 := blk_cell HY1.out 8
      go_wp2_with fail
      refine HC.out.mono ?_
      rintro e w2 ⟨rfl, hb2⟩
      have HB2 : Hid (Below w.heap.size w w2) := HB1.out.trans (hb2.mono HB1.out.size)
      clear hb2 HC
      go_wp2_with fail
      go_ret
      exact ⟨rfl, HB2.out⟩
  · rw [decide_eq_false hv, Bool.false_and, Bool.false_and]
    have hvb : (v == v') = false := beq_false_of_ne hv
    go_enter Tryd.func10, Tryd.ntmps10
    go_wp2_with fail
    go_ret
    exact ⟨rfl, HB0.out⟩
end Go.Proofs.YtihbbgcpdgnhoaaDoor
namespace Go.Proofs.YtihbbgcpdgnhoaaDoor
open Go.ChangeShapes Go.WideShapes Go.ChangeAt Go.RowKit Go.Deep
attribute [local go_sem ↓] Go.wp_at_zero Go.wp_at_succ
set_option maxRecDepth 100000

theorem zero46 (w : World) : (zeroValue 46).run Tryd.prog w = .ok (.agg #[i64 0, i64 0, i64 0, .slice none 0 0, .slice none 0 0, i64 0, i64 0, str [], .slice none 0 0]) w := by kernel_rfl
abbrev z46 : Obj := .cells #[i64 0, i64 0, i64 0, .slice none 0 0, .slice none 0 0, i64 0, i64 0, str [], .slice none 0 0] 46
theorem vload46 {W : World} {b : Nat} {v : Int} {T : Ty} {V : Vl} {nv tv kv : Value} (h : W.heap[b]? = some (stD v T V nv tv kv)) : (loadVar 46 ⟨b, 0, none⟩).run Tryd.prog W = .ok (stV v T V nv tv kv) W := by
  refine run_loadVar_mid _ _ 0 46 [i64 v, i64 T.kind, i64 T.num, nv, tv, i64 V.kind, i64 V.num, str V.s, kv] _ (fun j u hu => ?_) Tryd.underlying46 rfl (by kernel_rfl)
  rw [Nat.zero_add, cell_of_row _ _ _ _ 46 (0, 0) h]
  simpa using hu
theorem bset9 {R : Nat} {w V : World} (h : Below w.heap.size w V) (hR : w.heap.size ≤ R) (p0 p1 p2 p3 p4 p5 p6 p7 p8 : Value) : Below w.heap.size w (((((((((V.setCell ⟨R, 0, none⟩ p0).setCell ⟨R, 1, none⟩ p1).setCell ⟨R, 2, none⟩ p2).setCell ⟨R, 3, none⟩ p3).setCell ⟨R, 4, none⟩ p4).setCell ⟨R, 5, none⟩ p5).setCell ⟨R, 6, none⟩ p6).setCell ⟨R, 7, none⟩ p7).setCell ⟨R, 8, none⟩ p8) :=
  (Below.setCell (p := ⟨R, 8, none⟩) (Below.setCell (p := ⟨R, 7, none⟩) (Below.setCell (p := ⟨R, 6, none⟩) (Below.setCell (p := ⟨R, 5, none⟩) (Below.setCell (p := ⟨R, 4, none⟩) (Below.setCell (p := ⟨R, 3, none⟩) (Below.setCell (p := ⟨R, 2, none⟩) (Below.setCell (p := ⟨R, 1, none⟩) (Below.setCell (p := ⟨R, 0, none⟩) h hR p0) hR p1) hR p2) hR p3) hR p4) hR p5) hR p6) hR p7) hR p8)
structure Sr (Z R : Nat) (o : Obj) (W : World) : Prop where
  z : W.heap[Z]? = some o
  r : W.heap[R]? = some z46
def RefOk (w : World) (v : Int) (T : Ty) (V : Vl) (e : Ending) (w' : World) : Prop := ∃ a1 c1 a2 c2 a3 c3, e = .returned (stV v T V (.slice a1 T.names.length c1) (.slice a2 T.kids.length c2) (.slice a3 V.kids.length c3)) ∧ Below w.heap.size w w' ∧ Rd w' (fun _ => True) T (.slice a1 T.names.length c1) (.slice a2 T.kids.length c2) ∧ Vd w' (fun _ => True) V (.slice a3 V.kids.length c3)
set_option maxHeartbeats 6400000 in
theorem refs_ok (v : Int) (T : Ty) (V : Vl) (w : World) (kv nv tv : Value) (hV : Vd w (fun _ => True) V kv) (hR : Rd w (fun _ => True) T nv tv) (hc : T.count ≤ 1000) (hs : V.size ≤ 3000) : Calls Tryd.prog 11 #[stV v T V nv tv kv] w (RefOk w v T V) := by
  have hV0 : Vd w (fun b => b < w.heap.size) V kv := hV.mono (fun b _ h => h)
  have hR0 : Rd w (fun b => b < w.heap.size) T nv tv := hR.mono (fun b _ h => h)
  obtain ⟨ka, kc, rfl⟩ := hV.form
  obtain ⟨an, cn, rfl, at_, ct, rfl⟩ := hR.form
  obtain ⟨HXa, HYa, hb0⟩ := two_boxes w (stC v T V (.slice an T.names.length cn) (.slice at_ T.kids.length ct) (.slice ka V.kids.length kc)) z46
  have HZ := hid HXa
  have HY := hid HYa
  have HB0 := hid hb0
  have HR0 := hid (hR0.under hb0)
  have HV0 := hid (hV0.under hb0)
  have HCn := hid hc
  have HSn := hid hs
  have hz := zero46
  clear HXa HYa hb0 hV hR hV0 hR0 hc hs
  go_enter Tryd.func11, Tryd.ntmps11
  go_upto_region 1 with fail
  generalize (w.alloc (stC v T V (.slice an T.names.length cn) (.slice at_ T.kids.length ct) (.slice ka V.kids.length kc))).alloc z46 = X at *
  obtain ⟨Z, hZ⟩ : ∃ Z, Z = w.heap.size := ⟨_, rfl⟩
  obtain ⟨R, hRe⟩ : ∃ R, R = w.heap.size + 1 := ⟨_, rfl⟩
  have HRe := hid hRe
  rw [← hRe] at HY ⊢
  rw [← hZ] at HZ ⊢
  clear hZ hRe
  have HS0 : Hid (Sr Z R (stC v T V (.slice an T.names.length cn) (.slice at_ T.kids.length ct) (.slice ka V.kids.length kc)) X.drew) := ⟨HZ.out, HY.out⟩
  have HBd : Hid (Below w.heap.size w X.drew) := HB0.out.trans ((below_drewN (Below.refl _ X) 1).mono HB0.out.size)
  have HRd0 : Hid (Rd X.drew (fun b => b < w.heap.size) T (.slice an T.names.length cn) (.slice at_ T.kids.length ct)) := HR0.out.under (below_drewN (Below.refl _ X) 1)
  have HVd0 : Hid (Vd X.drew (fun b => b < w.heap.size) V (.slice ka V.kids.length kc)) := HV0.out.under (below_drewN (Below.refl _ X) 1)
  have HCT := hid (ref_ok T.count T (Nat.le_refl _) HCn.out w.heap.size X.drew _ _ HBd.out.size HRd0.out)
  clear HR0 HV0 HB0
  refine wp_region_noPanic ?_
  refine wp_region_last (Sr Z R (stC v T V (.slice an T.names.length cn) (.slice at_ T.kids.length ct) (.slice ka V.kids.length kc))) 9 (by kernel_rfl) ?_
  refine wpL_take 0 3 (.pointer (some ⟨Z, 0, none⟩)) [] rfl rfl (by kernel_rfl) (by decide) (by kernel_rfl) (by kernel_rfl) (by kernel_rfl) (fun _ _ _ h => h) HS0.out (by rfl) (fun W hW => by go_simp) ?_
  simp only [Act.put, List.setIfInBounds_toArray, List.set_cons_zero, List.set_cons_succ]
  refine wpL_take 1 4 (i64 v) [] rfl rfl (by kernel_rfl) (by decide) (by kernel_rfl) (by kernel_rfl) (by kernel_rfl) (fun _ _ _ h => h) HS0.out (by rfl) (fun W hW => by have q0 := blk_cell hW.z 0; go_simp) ?_
  simp only [Act.put, List.setIfInBounds_toArray, List.set_cons_zero, List.set_cons_succ]
  refine wpL_take 2 5 (.pointer (some ⟨Z, 1, none⟩)) [] rfl rfl (by kernel_rfl) (by decide) (by kernel_rfl) (by kernel_rfl) (by kernel_rfl) (fun _ _ _ h => h) HS0.out (by rfl) (fun W hW => by go_simp) ?_
  simp only [Act.put, List.setIfInBounds_toArray, List.set_cons_zero, List.set_cons_succ]
  refine wpL_take 3 6 (.agg #[i64 T.kind, i64 T.num, .slice an T.names.length cn, .slice at_ T.kids.length ct]) [] rfl rfl (by kernel_rfl) (by decide) (by kernel_rfl) (by kernel_rfl) (by kernel_rfl) (fun _ _ _ h => h) HS0.out (by rfl) (fun W hW => by have q1 := blk_cell hW.z 1; have q2 := blk_cell hW.z 2; have q3 := blk_cell hW.z 3; have q4 := blk_cell hW.z 4; go_simp) ?_
  simp only [Act.put, List.setIfInBounds_toArray, List.set_cons_zero, List.set_cons_succ]
  refine wpL_take 5 8 (.pointer (some ⟨Z, 5, none⟩)) [] rfl rfl (by kernel_rfl) (by decide) (by kernel_rfl) (by kernel_rfl) (by kernel_rfl) (fun _ _ _ h => h) HS0.out (by rfl) (fun W hW => by go_simp) ?_
  simp only [Act.put, List.setIfInBounds_toArray, List.set_cons_zero, List.set_cons_succ]
  refine wpL_take 6 9 (.agg #[i64 V.kind, i64 V.num, str V.s, .slice ka V.kids.length kc]) [] rfl rfl (by kernel_rfl) (by decide) (by kernel_rfl) (by kernel_rfl) (by kernel_rfl) (fun _ _ _ h => h) HS0.out (by rfl) (fun W hW => by have q5 := blk_cell hW.z 5; have q6 := blk_cell hW.z 6; have q7 := blk_cell hW.z 7; have q8 := blk_cell hW.z 8; go_simp) ?_
  simp only [Act.put, List.setIfInBounds_toArray, List.set_cons_zero, List.set_cons_succ]
  refine wpL_one 4 rfl (by kernel_rfl) (by rfl) (fun K hK => ?_)
  go_simp
  refine HCT.out.mono ?_
  rintro e w2 ⟨a2, n2, c2, rfl, hb2, hrd2⟩
  obtain ⟨an', cn', ee1, at', ct', ee2⟩ := hrd2.form
  cases ee1
  cases ee2
  have HS2 : Hid (Sr Z R (stC v T V (.slice an T.names.length cn) (.slice at_ T.kids.length ct) (.slice ka V.kids.length kc)) w2) := ⟨blk_below HS0.out.z hb2, blk_below HS0.out.r hb2⟩
  have HB2 : Hid (Below w.heap.size w w2) := HBd.out.trans (hb2.mono HBd.out.size)
  have HLX : Hid (R < X.drew.heap.size) := blk_lt HS0.out.r
  have HX2 : Hid (X.drew.heap.size ≤ w2.heap.size) := hb2.size
  have HRd2 := hid hrd2
  have HCV := hid (val_ok V.size V (Nat.le_refl _) HSn.out w2 _ _ (HVd0.out.under hb2))
  clear hb2 hrd2 HCT
  go_simp
  refine hK.out _ _ (fun _ => HS2.out) ?_
  clear hK K
  refine wpL_one 7 rfl (by kernel_rfl) (by rfl) (fun K hK => ?_)
  go_simp
  refine HCV.out.mono ?_
  rintro e w4 ⟨a3, c3, rfl, hb4, hvd4⟩
  have HS4 : Hid (Sr Z R (stC v T V (.slice an T.names.length cn) (.slice at_ T.kids.length ct) (.slice ka V.kids.length kc)) w4) := ⟨blk_below HS2.out.z hb4, blk_below HS2.out.r hb4⟩
  have HB4 : Hid (Below w.heap.size w w4) := HB2.out.trans (hb4.mono HB2.out.size)
  have HRd4 := hid (HRd2.out.under hb4)
  have HVd4 : Hid (Vd w4 (fun b => b < w.heap.size ∨ X.drew.heap.size ≤ b) V (.slice a3 V.kids.length c3)) := hvd4.mono (fun b hb _ => by have := HX2.out; omega)
  clear hb4 hvd4 HCV
  go_simp
  refine hK.out _ _ (fun _ => HS4.out) ?_
  clear hK K
  refine wpL_take 8 11 (stV v T V (.slice an T.names.length cn) (.slice a2 T.kids.length c2) (.slice a3 V.kids.length c3)) [] rfl rfl (by kernel_rfl) (by decide) (by kernel_rfl) (by kernel_rfl) (by kernel_rfl) (fun _ _ _ h => h) HS4.out (by rfl) (fun W hW => by go_simp) ?_
  simp only [Act.put, List.setIfInBounds_toArray, List.set_cons_zero, List.set_cons_succ]
  have rf := blk_frozen HS4.out.r
  have r0 := blk_cell HS4.out.r 0
  have r1 := blk_cell HS4.out.r 1
  have r2 := blk_cell HS4.out.r 2
  have r3 := blk_cell HS4.out.r 3
  have r4 := blk_cell HS4.out.r 4
  have r5 := blk_cell HS4.out.r 5
  have r6 := blk_cell HS4.out.r 6
  have r7 := blk_cell HS4.out.r 7
  have r8 := blk_cell HS4.out.r 8
  refine wpL_one 9 rfl (by kernel_rfl) (by rfl) (fun K hK => ?_)
  go_simp
  refine hK.out _ _ (fun h => absurd rfl h) ?_
  clear hK K
  refine wpL_done (by kernel_rfl) ?_
  refine NoPanic.normal ?_
  go_wp2_with fail
  refine bodyPost_ret (results_one Tryd.results11 rfl (vload46 (v := v) (T := T) (V := V) (set9 HS4.out.r _ _ _ _ _ _ _ _ _))) rfl ⟨an, cn, a2, c2, a3, c3, rfl, ?_, ?_, ?_⟩
  · exact bset9 HB4.out (by have := HRe.out; omega) _ _ _ _ _ _ _ _ _
  · exact HRd4.out.move (by simp [World.setCell]) (fun b hb _ => ⟨trivial, at9 (by have := HRe.out; have := HLX.out; omega) _ _ _ _ _ _ _ _ _⟩)
  · exact HVd4.out.move (by simp [World.setCell]) (fun b hb _ => ⟨trivial, at9 (by have := HRe.out; have := HLX.out; omega) _ _ _ _ _ _ _ _ _⟩)
end Go.Proofs.YtihbbgcpdgnhoaaDoor
namespace Go.Proofs.YtihbbgcpdgnhoaaDoor

mutual
theorem sameB_true : ∀ a b : Ty, sameB a b = true → a = b
  | .mk k n l ks, .mk k' n' l' ks', h => by
    simp only [sameB, Bool.and_eq_true, decide_eq_true_eq] at h
    obtain ⟨⟨⟨⟨rfl, rfl⟩, rfl⟩, _⟩, h⟩ := h
    rw [sameL_true ks ks' h]
theorem sameL_true : ∀ a b : List Ty, sameL a b = true → a = b
  | [], [], _ => rfl
  | a :: r, b :: s, h => by
    simp only [sameL, Bool.and_eq_true] at h
    rw [sameB_true a b h.1, sameL_true r s h.2]
  | [], _ :: _, h => by simp [sameL] at h
  | _ :: _, [], h => by simp [sameL] at h
end
mutual
theorem sameV_refl : ∀ a : Vl, sameV a a = true
  | .mk k n s l => by simp [sameV, sameW_refl l]
theorem sameW_refl : ∀ l : List Vl, sameW l l = true
  | [] => rfl
  | a :: r => by simp [sameW, sameV_refl a, sameW_refl r]
end
mutual
theorem sameV_true : ∀ a b : Vl, sameV a b = true → a = b
  | .mk k n s l, .mk k' n' s' l', h => by
    simp only [sameV, Bool.and_eq_true, decide_eq_true_eq] at h
    obtain ⟨⟨⟨⟨rfl, rfl⟩, rfl⟩, _⟩, h⟩ := h
    rw [sameW_true l l' h]
theorem sameW_true : ∀ a b : List Vl, sameW a b = true → a = b
  | [], [], _ => rfl
  | a :: r, b :: s, h => by
    simp only [sameW, Bool.and_eq_true] at h
    rw [sameV_true a b h.1, sameW_true r s h.2]
  | [], _ :: _, h => by simp [sameW] at h
  | _ :: _, [], h => by simp [sameW] at h
end
theorem sameS_refl (v : Int) (T : Ty) (V : Vl) : sameS v T V v T V = true := by
  simp [sameS, sameB_refl, sameV_refl]
theorem sameS_true {v v' : Int} {T T' : Ty} {V V' : Vl} (h : sameS v T V v' T' V' = true) : v = v' ∧ T = T' ∧ V = V' := by
  simp only [sameS, Bool.and_eq_true, decide_eq_true_eq] at h
  exact ⟨h.1.1, sameB_true _ _ h.1.2, sameV_true _ _ h.2⟩
theorem begB_self (a : Bs) : begB a a = true := by simp [begB]
theorem begB_true {a b : Bs} (h : begB a b = true) : ∃ x, a = b ++ x := by
  simp only [begB, Bool.and_eq_true, decide_eq_true_eq, beq_iff_eq] at h
  refine ⟨a.drop b.length, ?_⟩
  have e := List.take_append_drop b.length a
  rw [h.2] at e
  exact e.symm
/-- What is written, where it is. -/
theorem stE_zero {v : Int} {T : Ty} {V : Vl} (h : stE v T V = 0) : 0 ≤ v ∧ v ≤ 255 ∧ T.err = 0 ∧ T.txt.length < 65536 ∧ fitV V T ∧ stO v T V = stB v.toNat T V := by
  have ho : stO v T V = stB v.toNat T V := by rw [stO, if_pos h]
  unfold stE at h
  by_cases hv : v < 0 ∨ 255 < v
  · rw [if_pos hv] at h; omega
  · rw [if_neg hv] at h
    cases hf : fitsB V T
    · rw [hf] at h
      simp at h
    · rw [hf] at h
      simp only [if_true] at h
      by_cases hl : 6000 < 5 + T.txt.length + (wrtV V T).length
      · rw [if_pos hl] at h; omega
      · obtain ⟨h1, h2⟩ := (fitsB_iff V T).1 hf
        exact ⟨by omega, by omega, h1, by omega, h2, ho⟩
theorem apart_eq {v v' : Int} {T T' : Ty} {V V' : Vl} (h : stE v T V = 0) (h' : stE v' T' V' = 0) : (begB (stO v T V) (stO v' T' V') || begB (stO v' T' V') (stO v T V)) = sameS v T V v' T' V' := by
  obtain ⟨a1, a2, a3, a4, a5, a6⟩ := stE_zero h
  obtain ⟨b1, b2, b3, b4, b5, b6⟩ := stE_zero h'
  rw [a6, b6]
  cases hs : sameS v T V v' T' V'
  · rw [Bool.or_eq_false_iff]
    have key : ∀ {v v' : Int} {T T' : Ty} {V V' : Vl}, 0 ≤ v → v ≤ 255 → T.err = 0 → T.txt.length < 65536 → fitV V T → 0 ≤ v' → v' ≤ 255 → T'.err = 0 → T'.txt.length < 65536 → fitV V' T' → begB (stB v.toNat T V) (stB v'.toNat T' V') = true → v = v' ∧ T = T' ∧ V = V' := by
      intro v v' T T' V V' a1 a2 a3 a4 a5 b1 b2 b3 b4 b5 hb
      obtain ⟨x, hx⟩ := begB_true hb
      obtain ⟨e1, e2, e3, _⟩ := stB_apart (by omega) a3 a4 a5 (by omega) b3 b4 b5 hx
      exact ⟨by omega, e2, e3⟩
    constructor
    · cases hb : begB (stB v.toNat T V) (stB v'.toNat T' V')
      · rfl
      · obtain ⟨rfl, rfl, rfl⟩ := key a1 a2 a3 a4 a5 b1 b2 b3 b4 b5 hb
        rw [sameS_refl] at hs
        cases hs
    · cases hb : begB (stB v'.toNat T' V') (stB v.toNat T V)
      · rfl
      · obtain ⟨rfl, rfl, rfl⟩ := key b1 b2 b3 b4 b5 a1 a2 a3 a4 a5 hb
        rw [sameS_refl] at hs
        cases hs
  · obtain ⟨rfl, rfl, rfl⟩ := sameS_true hs
    rw [begB_self]
    rfl
/-- What was written is read. -/
theorem back_fwd {v : Int} {T : Ty} {V : Vl} (h : stE v T V = 0) : rdS (stO v T V) = some ((v.toNat, T, V), []) := by
  obtain ⟨a1, a2, a3, a4, a5, a6⟩ := stE_zero h
  have := rdS_fwd v.toNat T V [] (by omega) a3 a4 a5
  rw [List.append_nil] at this
  rw [a6]
  exact this
end Go.Proofs.YtihbbgcpdgnhoaaDoor
namespace Go.Proofs.YtihbbgcpdgnhoaaDoor
open Go.ChangeShapes Go.WideShapes Go.ChangeAt Go.RowKit Go.Deep
attribute [local go_sem ↓] Go.wp_at_zero Go.wp_at_succ

mutual
theorem wrtV_ge : ∀ (V : Vl) (T : Ty), T.formed = true → fitV V T → V.size ≤ (wrtV V T).length
  | .mk k n t l, T, hf, hV => by
    obtain ⟨ha, hL⟩ := (fitV_iff _ T).1 hV
    have hk := alone_kind ha
    have hs : (Vl.mk k n t l).size = 1 + sizeL l := rfl
    rcases node_kind hf with h1 | h2 | h3 | h4
    · have e3 : l = [] := (alone_1 ha h1).2.2.2
      subst e3
      rw [wrtV_1 _ T (by omega), List.length_cons, tb_len]
      simp [sizeL] at hs
      omega
    · have e3 : l = [] := (alone_2 ha h2).2.2
      subst e3
      rw [wrtV_2 _ T (by omega), List.length_cons, List.length_cons]
      simp [sizeL] at hs
      omega
    · have hn := node_3 hf h3
      rw [wrtV_3 _ T (by omega) (by omega), List.length_cons, List.length_cons]
      have := wrtL_ge l 0 T hf hL (fun _ => by omega) (fun h => absurd h3 h)
      show _ ≤ (wrtL l 0 T).length + 1 + 1
      omega
    · have hn := node_4 hf h4
      obtain ⟨_, _, e3⟩ := alone_4 ha h4
      have e3 : l.length = T.kids.length := e3
      rw [wrtV_3 _ T (by omega) (by omega), List.length_cons, List.length_cons]
      have := wrtL_ge l 0 T hf hL (fun h => by omega) (fun _ => by omega)
      show _ ≤ (wrtL l 0 T).length + 1 + 1
      omega
theorem wrtL_ge : ∀ (l : List Vl) (i : Nat) (T : Ty), T.formed = true → fitL l i T → (T.kind = 3 → 0 < T.kids.length) → (T.kind ≠ 3 → i + l.length ≤ T.kids.length) → sizeL l ≤ (wrtL l i T).length
  | [], _, _, _, _, _, _ => by simp [sizeL]
  | v :: r, i, T, hf, hL, h3, h4 => by
    obtain ⟨h1, h2⟩ := (fitL_cons v r i T).1 hL
    have h4' : T.kind ≠ 3 → i < T.kids.length := fun h => by have := h4 h; simp only [List.length_cons] at this; omega
    have a := wrtV_ge v (kidT T i) (kidT_formed hf i h3 h4') h1
    have b := wrtL_ge r (i + 1) T hf h2 h3 (fun h => by have := h4 h; simp only [List.length_cons] at this; omega)
    rw [wrtL, List.length_append]
    have e : sizeL (v :: r) = v.size + sizeL r := rfl
    omega
end
theorem stB_len (v : Nat) (T : Ty) (V : Vl) : (stB v T V).length = 5 + T.txt.length + (wrtV V T).length := by
  simp [stB, tb_len]
  omega
/-- What was written is read. -/
theorem back_read {v : Int} {T : Ty} {V : Vl} (h : stE v T V = 0) : rdR (stO v T V) = some (v.toNat, T, V) ∧ (stO v T V).length ≤ 6000 ∧ ((v.toNat : Nat) : Int) = v := by
  have hb := back_fwd h
  obtain ⟨h0, h1, h2, h3, h4, h5⟩ := stE_zero h
  have hf : fitsB V T = true := (fitsB_iff V T).2 ⟨h2, h4⟩
  refine ⟨by rw [rdR, hb]; simp [hf], ?_, by omega⟩
  rw [h5, stB_len]
  unfold stE at h
  rw [if_neg (by omega), if_pos hf] at h
  by_cases hl : 6000 < 5 + T.txt.length + (wrtV V T).length
  · rw [if_pos hl] at h; omega
  · omega
/-- What is read is written as it was. -/
theorem read_back {b : Bs} {v : Nat} {T : Ty} {V : Vl} (h : rdR b = some (v, T, V)) (hl : b.length ≤ 6000) : stE v T V = 0 ∧ stO v T V = b ∧ v < 256 ∧ V.size ≤ b.length ∧ fitsB V T = true := by
  unfold rdR at h
  split at h
  · rename_i v' T' V' hs
    obtain ⟨hb, hv, hT⟩ := rdS_back hs
    rw [List.append_nil] at hb
    split at h
    · rename_i hf
      simp only [Option.some.injEq, Prod.mk.injEq] at h
      obtain ⟨rfl, rfl, rfl⟩ := h
      have hlen := stB_len v' T' V'
      rw [← hb] at hlen
      have hE : stE v' T' V' = 0 := by
        unfold stE
        rw [if_neg (by omega), if_pos hf, if_neg (by omega)]
      have hfit := ((fitsB_iff V' T').1 hf).2
      have hfm := (right_formed (right_of_err hT)).1
      have := wrtV_ge V' T' hfm hfit
      refine ⟨hE, ?_, hv, by omega, hf⟩
      rw [stO, if_pos hE, Int.toNat_natCast]
      exact hb.symm
    · cases h
  · cases h
/-- Bytes of any state. -/
theorem bytesS_any (v : Int) (T : Ty) (V : Vl) (w : World) (kv nv tv : Value) (hV : Vd w (fun _ => True) V kv) (hR : Rd w (fun _ => True) T nv tv) (hP : Pw w) (hsz : V.size ≤ 3000) : Calls Tryd.prog 8 #[stV v T V nv tv kv] w fun e w' => e = .returned (.tuple #[str (stO v T V), i64 (stE v T V)]) ∧ Below w.heap.size w w' := by
  by_cases hv : v < 0 ∨ 255 < v
  · obtain ⟨ka, kc, rfl⟩ := hV.form
    obtain ⟨an, cn, rfl, at_, ct, rfl⟩ := hR.form
    have e1 : stE v T V = 1 := by rw [stE, if_pos hv]
    have e2 : stO v T V = [] := by rw [stO, if_neg (by rw [e1]; decide)]
    rw [e1, e2]
    exact bytes8_arg v T V w an at_ ka _ cn _ ct _ kc hv
  · obtain ⟨n, hn⟩ : ∃ n : Nat, v = (n : Int) := ⟨v.toNat, by omega⟩
    subst hn
    exact bytes8_ok n T V w _ _ kv nv tv hV hR hP hsz (by omega)
set_option maxRecDepth 100000 in
set_option maxHeartbeats 6400000 in
theorem back_core (v : Int) (T : Ty) (V : Vl) (l : Bs) (w : World) (an at_ ka : Option Addr) (cn ct kc : Nat) (nv tv kv : Value) (h1 : nv = .slice an T.names.length cn) (h2 : tv = .slice at_ T.kids.length ct) (h3 : kv = .slice ka V.kids.length kc) (hV : Vd w (fun _ => True) V kv) (hR : Rd w (fun _ => True) T nv tv) (hP : Pw w) (hM : Ml w) : Calls Tryd.prog 3 #[stV v T V nv tv kv, str l] w fun e w' => e = .returned (.bool true) ∧ Below w.heap.size w w' := by
  have HX0 := hid (heap_last w (stC v T V nv tv kv))
  have HB0 := hid (below_one w (stC v T V nv tv kv))
  have C6 := hid fun W (hb : Below w.heap.size w W) => much_ok v T V W kv nv tv (hV.under hb) (hR.under hb)
  have W7 := hid fun W (hb : Below w.heap.size w W) => word_ok W (hP.below hb) (hM.below hb)
  have C8 := hid fun W (hb : Below w.heap.size w W) (hs : V.size ≤ 3000) => bytesS_any v T V W kv nv tv (hV.under hb) (hR.under hb) (hP.below hb) hs
  have R1 := hid fun W (hb : Below w.heap.size w W) (hs : V.size ≤ 3000) (hc : T.count ≤ 1000) => refs_ok v T V W kv nv tv (hV.under hb) (hR.under hb) hc hs
  have RA := hid fun W (hb : Below w.heap.size w W) (h : stE v T V = 0) => (back_read h).1 ▸ wread_ok W (stO v T V) (back_read h).2.1 (hM.below hb)
  have RV := hid fun (h : stE v T V = 0) => (back_read (v := v) (T := T) (V := V) h).2.2
  have RD := hid fun W (hb : Below w.heap.size w W) (hl : l.length ≤ 6000) => wread_ok W l hl (hM.below hb)
  have HP := hid hP
  obtain ⟨A, hA⟩ : ∃ A, A = stO v T V := ⟨_, rfl⟩
  obtain ⟨E, hE⟩ : ∃ E, E = stE v T V := ⟨_, rfl⟩
  rw [← hA, ← hE] at C8
  rw [← hA, ← hE] at RA
  rw [← hE] at RV
  clear hV hR hP hM hA hE
  subst h1 h2 h3
  go_enter Tryd.func3, Tryd.ntmps3
  go_wp2_with fail
  refine (C6.out _ HB0.out).mono ?_
  rintro e w1 ⟨b1, rfl, hb1, hs1⟩
  have HX1 := hid (blk_below HX0.out hb1)
  have HB1 : Hid (Below w.heap.size w w1) := HB0.out.trans (hb1.mono HB0.out.size)
  clear hb1
  cases b1 with
  | true =>
    clear hs1
    go_wp2_with fail
    refine (W7.out w1 HB1.out).mono ?_
    rintro e wz ⟨rfl, hbz⟩
    have HBz : Hid (Below w.heap.size w wz) := HB1.out.trans (hbz.mono HB1.out.size)
    clear hbz
    go_wp2_with fail
    go_ret
    exact ⟨rfl, HBz.out⟩
  | false =>
    obtain ⟨z1, z2, _⟩ := hs1 rfl
    clear hs1
    by_cases hl : l.length ≤ 2500
    · replace RD := hid fun W hb => RD.out W hb (by omega)
      have x0 := blk_cell HX1.out 0
      have x1 := blk_cell HX1.out 1
      have x2 := blk_cell HX1.out 2
      have x3 := blk_cell HX1.out 3
      have x4 := blk_cell HX1.out 4
      have x5 := blk_cell HX1.out 5
      have x6 := blk_cell HX1.out 6
      have x7 := blk_cell HX1.out 7
      have x8 := blk_cell HX1.out 8
      go_wp2_with fail
      refine (C8.out _ HB1.out (by omega)).mono ?_
      rintro e w2 ⟨rfl, hb2⟩
      have HX2 := hid (blk_below HX1.out hb2)
      have HB2 : Hid (Below w.heap.size w w2) := HB1.out.trans (hb2.mono HB1.out.size)
      clear hb2
      clear x0 x1 x2 x3 x4 x5 x6 x7 x8
      by_cases hE0 : E = 0
      · have q1 : (E == 0) = true := beq_iff_eq.2 hE0
        have rv := RV.out hE0
        replace RA := hid fun W hb => RA.out W hb hE0
        have HRV : Hid (((v.toNat : Nat) : Int) = v) := rv
        clear hE0 RV rv
        go_wp2_with fail
        refine (RA.out w2 HB2.out).mono ?_
        intro e w3 hok
        obtain ⟨a1, c1, a2, c2, a3, c3, he, hb3, hR3, hV3⟩ : RYes w2 v.toNat T V e w3 := hok
        rw [HRV.out] at he
        subst he
        have HB3 : Hid (Below w.heap.size w w3) := HB2.out.trans (hb3.mono HB2.out.size)
        have HB4 : Hid (Below w.heap.size w (w3.alloc (stC v T V (.slice a1 T.names.length c1) (.slice a2 T.kids.length c2) (.slice a3 V.kids.length c3)))) := HB3.out.alloc HB3.out.size _
        have HB4d : Hid (Below w.heap.size w (w3.alloc (stC v T V (.slice a1 T.names.length c1) (.slice a2 T.kids.length c2) (.slice a3 V.kids.length c3))).drew) := HB4.out.drew
        have HV4 := hid fun W (hb : Below w3.heap.size w3 W) => refs_ok v T V W _ _ _ ((hV3.under hb).mono (fun _ _ _ => trivial)) ((hR3.under hb).mono (fun _ _ _ => trivial)) (by omega) (by omega)
        replace R1 := hid fun W hb => R1.out W hb (by omega) (by omega)
        have HB34 := hid (below_one w3 (stC v T V (.slice a1 T.names.length c1) (.slice a2 T.kids.length c2) (.slice a3 V.kids.length c3)))
        have HS : Hid ((fun W : World => W.heap[w.heap.size]? = some (stC v T V (.slice an T.names.length cn) (.slice at_ T.kids.length ct) (.slice ka V.kids.length kc)) ∧ W.heap[w3.heap.size]? = some (stC v T V (.slice a1 T.names.length c1) (.slice a2 T.kids.length c2) (.slice a3 V.kids.length c3))) (w3.alloc (stC v T V (.slice a1 T.names.length c1) (.slice a2 T.kids.length c2) (.slice a3 V.kids.length c3))).drew) := ⟨(blk_alloc (blk_below HX2.out hb3) _), heap_last w3 _⟩
        have HSA := hid (sameS_refl v T V)
        clear hb3 hR3 hV3
        go_upto_region 6 with fail
        refine wp_region_noPanic ?_
        refine wp_region_last (fun W : World => W.heap[w.heap.size]? = some (stC v T V (.slice an T.names.length cn) (.slice at_ T.kids.length ct) (.slice ka V.kids.length kc)) ∧ W.heap[w3.heap.size]? = some (stC v T V (.slice a1 T.names.length c1) (.slice a2 T.kids.length c2) (.slice a3 V.kids.length c3))) 9 (by kernel_rfl) ?_
        refine wpL_take 0 33 (i64 0) [1, 2] rfl rfl (by kernel_rfl) (by decide) (by kernel_rfl) (by kernel_rfl) (by kernel_rfl) (fun _ _ _ h => h) HS.out (by rfl) (fun W hW => by go_simp) ?_
        simp only [Act.put, List.setIfInBounds_toArray, List.set_cons_zero, List.set_cons_succ]
        refine wpL_take 1 34 (.bool false) [2] rfl rfl (by kernel_rfl) (by decide) (by kernel_rfl) (by kernel_rfl) (by kernel_rfl) (fun _ _ _ h => h) HS.out (by rfl) (fun W hW => by go_simp) ?_
        simp only [Act.put, List.setIfInBounds_toArray, List.set_cons_zero, List.set_cons_succ]
        refine wpL_take 2 35 (.bool false) [] rfl rfl (by kernel_rfl) (by decide) (by kernel_rfl) (by kernel_rfl) (by kernel_rfl) (fun _ _ _ h => h) HS.out (by rfl) (fun W hW => by go_simp) ?_
        simp only [Act.put, List.setIfInBounds_toArray, List.set_cons_zero, List.set_cons_succ]
        refine wpL_take 3 36 (stV v T V (.slice an T.names.length cn) (.slice at_ T.kids.length ct) (.slice ka V.kids.length kc)) [4, 7, 8] rfl rfl (by kernel_rfl) (by decide) (by kernel_rfl) (by kernel_rfl) (by kernel_rfl) (fun _ _ _ h => h) HS.out (by rfl) (fun W hW => by exact exec_load 30 (.tmp 2) rfl rfl (vload30 hW.1)) ?_
        simp only [Act.put, List.setIfInBounds_toArray, List.set_cons_zero, List.set_cons_succ]
        refine wpL_take 5 38 (stV v T V (.slice a1 T.names.length c1) (.slice a2 T.kids.length c2) (.slice a3 V.kids.length c3)) [6, 7, 8] rfl rfl (by kernel_rfl) (by decide) (by kernel_rfl) (by kernel_rfl) (by kernel_rfl) (fun _ _ _ h => h) HS.out (by rfl) (fun W hW => by exact exec_load 30 (.tmp 7) rfl rfl (vload30 hW.2)) ?_
        simp only [Act.put, List.setIfInBounds_toArray, List.set_cons_zero, List.set_cons_succ]
        refine wpL_one 4 rfl (by kernel_rfl) (by rfl) (fun K hK => ?_)
        go_simp
        refine (R1.out (w3.alloc (stC v T V (.slice a1 T.names.length c1) (.slice a2 T.kids.length c2) (.slice a3 V.kids.length c3))).drew HB4d.out).mono ?_
        rintro e w5 ⟨p1, q1, p2, q2, p3, q3, rfl, hb5, hR5, hV5⟩
        have HS5 : Hid ((fun W : World => W.heap[w.heap.size]? = some (stC v T V (.slice an T.names.length cn) (.slice at_ T.kids.length ct) (.slice ka V.kids.length kc)) ∧ W.heap[w3.heap.size]? = some (stC v T V (.slice a1 T.names.length c1) (.slice a2 T.kids.length c2) (.slice a3 V.kids.length c3))) w5) := ⟨blk_below HS.out.1 hb5, blk_below HS.out.2 hb5⟩
        have HB5 : Hid (Below w.heap.size w w5) := HB4d.out.trans (hb5.mono HB4d.out.size)
        have HB35 : Hid (Below w3.heap.size w3 w5) := (HB34.out.drew).trans (hb5.mono (by simp))
        have HR5 := hid hR5
        have HV5 := hid hV5
        clear hb5 hR5 hV5
        go_simp
        refine hK.out _ _ (fun _ => HS5.out) ?_
        clear hK K
        refine wpL_one 6 rfl (by kernel_rfl) (by rfl) (fun K hK => ?_)
        go_simp
        refine (HV4.out w5 HB35.out).mono ?_
        rintro e w6 ⟨p4, q4, p5, q5, p6, q6, rfl, hb6, hR6, hV6⟩
        have HS6 : Hid ((fun W : World => W.heap[w.heap.size]? = some (stC v T V (.slice an T.names.length cn) (.slice at_ T.kids.length ct) (.slice ka V.kids.length kc)) ∧ W.heap[w3.heap.size]? = some (stC v T V (.slice a1 T.names.length c1) (.slice a2 T.kids.length c2) (.slice a3 V.kids.length c3))) w6) := ⟨blk_below HS5.out.1 hb6, blk_below HS5.out.2 hb6⟩
        have HB6 : Hid (Below w.heap.size w w6) := HB5.out.trans (hb6.mono HB5.out.size)
        have HSm := hid (rst_same v v T T V V w6 _ _ _ _ _ _ _ (HR5.out.under hb6) (HV5.out.under hb6) hR6 hV6)
        rw [HSA.out] at HSm
        clear hb6 hR6 hV6
        go_simp
        refine hK.out _ _ (fun _ => HS6.out) ?_
        clear hK K
        refine wpL_one 7 rfl (by kernel_rfl) (by rfl) (fun K hK => ?_)
        go_simp
        refine HSm.out.mono ?_
        rintro e w7 ⟨rfl, hb7⟩
        have HS7 : Hid ((fun W : World => W.heap[w.heap.size]? = some (stC v T V (.slice an T.names.length cn) (.slice at_ T.kids.length ct) (.slice ka V.kids.length kc)) ∧ W.heap[w3.heap.size]? = some (stC v T V (.slice a1 T.names.length c1) (.slice a2 T.kids.length c2) (.slice a3 V.kids.length c3))) w7) := ⟨blk_below HS6.out.1 hb7, blk_below HS6.out.2 hb7⟩
        have HB7 : Hid (Below w.heap.size w w7) := HB6.out.trans (hb7.mono HB6.out.size)
        clear hb7 HSm
        go_simp
        refine hK.out _ _ (fun _ => HS7.out) ?_
        clear hK K
        refine wpL_take 8 41 (.bool false) [] rfl rfl (by kernel_rfl) (by decide) (by kernel_rfl) (by kernel_rfl) (by kernel_rfl) (fun _ _ _ h => h) HS7.out (by rfl) (fun W hW => by go_simp) ?_
        simp only [Act.put, List.setIfInBounds_toArray, List.set_cons_zero, List.set_cons_succ]
        refine wpL_one 9 rfl (by kernel_rfl) (by rfl) (fun K hK => ?_)
        go_simp
        refine hK.out _ _ (fun h => absurd rfl h) ?_
        clear hK K
        refine wpL_done (by kernel_rfl) ?_
        refine NoPanic.normal ?_
        clear HS HS5 HS6 HS7 HR5 HV5 HV4 R1 C6 C8 HX2 HX1 HX0 HB4d HB34 HB35
        go_wp2_with fail
        refine (RD.out w7 HB7.out).mono ?_
        cases hr : rdR l with
        | none =>
          intro e wa hok
          obtain ⟨rfl, hba⟩ : RNo 4 w7 e wa := hok
          have HBa : Hid (Below w.heap.size w wa) := HB7.out.trans (hba.mono HB7.out.size)
          have HBa2 : Hid (Below w.heap.size w (wa.alloc (.cells #[i64 0, i64 0, i64 0, .slice none 0 0, .slice none 0 0, i64 0, i64 0, str [], .slice none 0 0] 30))) := HBa.out.alloc HBa.out.size _
          clear hba
          go_wp2_with fail
          refine (W7.out _ HBa2.out).mono ?_
          rintro e wz ⟨rfl, hbz⟩
          have HBz : Hid (Below w.heap.size w wz) := HBa2.out.trans (hbz.mono HBa2.out.size)
          clear hbz
          go_wp2_with fail
          go_ret
          exact ⟨rfl, HBz.out⟩
        | some p =>
          obtain ⟨v', T', V'⟩ := p
          intro e wa hok
          obtain ⟨a1, c1, a2, c2, a3, c3, rfl, hba, hRa, hVa⟩ : RYes w7 v' T' V' e wa := hok
          obtain ⟨r1, r2, r3, r4, _⟩ := read_back hr (by omega)
          have HBa : Hid (Below w.heap.size w wa) := HB7.out.trans (hba.mono HB7.out.size)
          have HBa2 : Hid (Below w.heap.size w (wa.alloc (stC v' T' V' (.slice a1 T'.names.length c1) (.slice a2 T'.kids.length c2) (.slice a3 V'.kids.length c3)))) := HBa.out.alloc HBa.out.size _
          have C10 := hid (bytes8_ok v' T' V' (wa.alloc (stC v' T' V' (.slice a1 T'.names.length c1) (.slice a2 T'.kids.length c2) (.slice a3 V'.kids.length c3))) _ _ _ _ _ (hVa.under (below_one wa _)) (hRa.under (below_one wa _)) (HP.out.below HBa2.out) (by omega) r3)
          rw [r1, r2] at C10
          clear hba hRa hVa r1 r2 r3 r4 hr
          go_wp2_with fail
          refine C10.out.mono ?_
          rintro e wb ⟨rfl, hbb⟩
          have HBb : Hid (Below w.heap.size w wb) := HBa2.out.trans (hbb.mono HBa2.out.size)
          clear hbb C10
          go_wp2_with fail
          refine (W7.out wb HBb.out).mono ?_
          rintro e wz ⟨rfl, hbz⟩
          have HBz : Hid (Below w.heap.size w wz) := HBb.out.trans (hbz.mono HBb.out.size)
          clear hbz
          go_wp2_with fail
          go_ret
          exact ⟨rfl, HBz.out⟩
      · have q1 : (E == 0) = false := beq_false_of_ne hE0
        clear hE0 RV RA
        go_wp2_with fail
        refine (RD.out w2 HB2.out).mono ?_
        cases hr : rdR l with
        | none =>
          intro e wa hok
          obtain ⟨rfl, hba⟩ : RNo 4 w2 e wa := hok
          have HBa : Hid (Below w.heap.size w wa) := HB2.out.trans (hba.mono HB2.out.size)
          have HBa2 : Hid (Below w.heap.size w (wa.alloc (.cells #[i64 0, i64 0, i64 0, .slice none 0 0, .slice none 0 0, i64 0, i64 0, str [], .slice none 0 0] 30))) := HBa.out.alloc HBa.out.size _
          clear hba
          go_wp2_with fail
          refine (W7.out _ HBa2.out).mono ?_
          rintro e wz ⟨rfl, hbz⟩
          have HBz : Hid (Below w.heap.size w wz) := HBa2.out.trans (hbz.mono HBa2.out.size)
          clear hbz
          go_wp2_with fail
          go_ret
          exact ⟨rfl, HBz.out⟩
        | some p =>
          obtain ⟨v', T', V'⟩ := p
          intro e wa hok
          obtain ⟨a1, c1, a2, c2, a3, c3, rfl, hba, hRa, hVa⟩ : RYes w2 v' T' V' e wa := hok
          obtain ⟨r1, r2, r3, r4, _⟩ := read_back hr (by omega)
          have HBa : Hid (Below w.heap.size w wa) := HB2.out.trans (hba.mono HB2.out.size)
          have HBa2 : Hid (Below w.heap.size w (wa.alloc (stC v' T' V' (.slice a1 T'.names.length c1) (.slice a2 T'.kids.length c2) (.slice a3 V'.kids.length c3)))) := HBa.out.alloc HBa.out.size _
          have C10 := hid (bytes8_ok v' T' V' (wa.alloc (stC v' T' V' (.slice a1 T'.names.length c1) (.slice a2 T'.kids.length c2) (.slice a3 V'.kids.length c3))) _ _ _ _ _ (hVa.under (below_one wa _)) (hRa.under (below_one wa _)) (HP.out.below HBa2.out) (by omega) r3)
          rw [r1, r2] at C10
          clear hba hRa hVa r1 r2 r3 r4 hr
          go_wp2_with fail
          refine C10.out.mono ?_
          rintro e wb ⟨rfl, hbb⟩
          have HBb : Hid (Below w.heap.size w wb) := HBa2.out.trans (hbb.mono HBa2.out.size)
          clear hbb C10
          go_wp2_with fail
          refine (W7.out wb HBb.out).mono ?_
          rintro e wz ⟨rfl, hbz⟩
          have HBz : Hid (Below w.heap.size w wz) := HBb.out.trans (hbz.mono HBb.out.size)
          clear hbz
          go_wp2_with fail
          go_ret
          exact ⟨rfl, HBz.out⟩
    · have hl' : 2500 < l.length := by omega
      clear hl
      go_wp2_with fail
      refine (W7.out w1 HB1.out).mono ?_
      rintro e wz ⟨rfl, hbz⟩
      have HBz : Hid (Below w.heap.size w wz) := HB1.out.trans (hbz.mono HB1.out.size)
      clear hbz
      go_wp2_with fail
      go_ret
      exact ⟨rfl, HBz.out⟩
end Go.Proofs.YtihbbgcpdgnhoaaDoor
