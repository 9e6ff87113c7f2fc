/- Read, Bytes and what WireSpoilt calls; no statement is proved in this text. -/
import Derived.Test.YtihbbgcpdgnhoaaDoorR4
import Derived.Test.YtihbbgcpdgnhoaaDoorPar
import Derived.Test.YtihbbgcpdgnhoaaDoorMu
import Derived.Test.YtihbbgcpdgnhoaaDoorRsv
import Derived.Test.YtihbbgcpdgnhoaaDoorRs
import Derived.Test.YtihbbgcpdgnhoaaDoorRf
namespace Go.Proofs.YtihbbgcpdgnhoaaDoor
open Go.ChangeShapes Go.WideShapes Go.ChangeAt Go.RowKit Go.Deep
attribute [local go_sem ↓] Go.wp_at_zero Go.wp_at_succ
set_option maxRecDepth 100000

theorem zero30 (w : World) : (zeroValue 30).run Tryd.prog w = .ok (.agg #[i64 0, i64 0, i64 0, .slice none 0 0, .slice none 0 0, i64 0, i64 0, str [], .slice none 0 0]) w := by kernel_rfl
abbrev z30 : Obj := .cells #[i64 0, i64 0, i64 0, .slice none 0 0, .slice none 0 0, i64 0, i64 0, str [], .slice none 0 0] 30
theorem vload30 {W : World} {b : Nat} {v : Int} {T : Ty} {V : Vl} {nv tv kv : Value} (h : W.heap[b]? = some (stC v T V nv tv kv)) : (loadVar 30 ⟨b, 0, none⟩).run Tryd.prog W = .ok (stV v T V nv tv kv) W := by
  refine run_loadVar_mid _ _ 0 30 [i64 v, i64 T.kind, i64 T.num, nv, tv, i64 V.kind, i64 V.num, str V.s, kv] _ (fun j u hu => ?_) Tryd.underlying30 rfl (by kernel_rfl)
  rw [Nat.zero_add, cell_of_row _ _ _ _ 30 (0, 0) h]
  simpa using hu
theorem set9 {V : World} {b : Nat} {x0 x1 x2 x3 x4 x5 x6 x7 x8 : Value} {t : TypeId} (h : V.heap[b]? = some (.cells #[x0, x1, x2, x3, x4, x5, x6, x7, x8] t)) (p0 p1 p2 p3 p4 p5 p6 p7 p8 : Value) : (((((((((V.setCell ⟨b, 0, none⟩ p0).setCell ⟨b, 1, none⟩ p1).setCell ⟨b, 2, none⟩ p2).setCell ⟨b, 3, none⟩ p3).setCell ⟨b, 4, none⟩ p4).setCell ⟨b, 5, none⟩ p5).setCell ⟨b, 6, none⟩ p6).setCell ⟨b, 7, none⟩ p7).setCell ⟨b, 8, none⟩ p8).heap[b]? = some (.cells #[p0, p1, p2, p3, p4, p5, p6, p7, p8] t) := by
  have h0 : (V.setCell ⟨b, 0, none⟩ p0).heap[b]? = some (.cells #[p0, x1, x2, x3, x4, x5, x6, x7, x8] t) := heap_setCell_same _ b 0 _ t p0 h
  have h1 : ((V.setCell ⟨b, 0, none⟩ p0).setCell ⟨b, 1, none⟩ p1).heap[b]? = some (.cells #[p0, p1, x2, x3, x4, x5, x6, x7, x8] t) := heap_setCell_same _ b 1 _ t p1 h0
  have h2 : (((V.setCell ⟨b, 0, none⟩ p0).setCell ⟨b, 1, none⟩ p1).setCell ⟨b, 2, none⟩ p2).heap[b]? = some (.cells #[p0, p1, p2, x3, x4, x5, x6, x7, x8] t) := heap_setCell_same _ b 2 _ t p2 h1
  have h3 : ((((V.setCell ⟨b, 0, none⟩ p0).setCell ⟨b, 1, none⟩ p1).setCell ⟨b, 2, none⟩ p2).setCell ⟨b, 3, none⟩ p3).heap[b]? = some (.cells #[p0, p1, p2, p3, x4, x5, x6, x7, x8] t) := heap_setCell_same _ b 3 _ t p3 h2
  have h4 : (((((V.setCell ⟨b, 0, none⟩ p0).setCell ⟨b, 1, none⟩ p1).setCell ⟨b, 2, none⟩ p2).setCell ⟨b, 3, none⟩ p3).setCell ⟨b, 4, none⟩ p4).heap[b]? = some (.cells #[p0, p1, p2, p3, p4, x5, x6, x7, x8] t) := heap_setCell_same _ b 4 _ t p4 h3
  have h5 : ((((((V.setCell ⟨b, 0, none⟩ p0).setCell ⟨b, 1, none⟩ p1).setCell ⟨b, 2, none⟩ p2).setCell ⟨b, 3, none⟩ p3).setCell ⟨b, 4, none⟩ p4).setCell ⟨b, 5, none⟩ p5).heap[b]? = some (.cells #[p0, p1, p2, p3, p4, p5, x6, x7, x8] t) := heap_setCell_same _ b 5 _ t p5 h4
  have h6 : (((((((V.setCell ⟨b, 0, none⟩ p0).setCell ⟨b, 1, none⟩ p1).setCell ⟨b, 2, none⟩ p2).setCell ⟨b, 3, none⟩ p3).setCell ⟨b, 4, none⟩ p4).setCell ⟨b, 5, none⟩ p5).setCell ⟨b, 6, none⟩ p6).heap[b]? = some (.cells #[p0, p1, p2, p3, p4, p5, p6, x7, x8] t) := heap_setCell_same _ b 6 _ t p6 h5
  have h7 : ((((((((V.setCell ⟨b, 0, none⟩ p0).setCell ⟨b, 1, none⟩ p1).setCell ⟨b, 2, none⟩ p2).setCell ⟨b, 3, none⟩ p3).setCell ⟨b, 4, none⟩ p4).setCell ⟨b, 5, none⟩ p5).setCell ⟨b, 6, none⟩ p6).setCell ⟨b, 7, none⟩ p7).heap[b]? = some (.cells #[p0, p1, p2, p3, p4, p5, p6, p7, x8] t) := heap_setCell_same _ b 7 _ t p7 h6
  have h8 : (((((((((V.setCell ⟨b, 0, none⟩ p0).setCell ⟨b, 1, none⟩ p1).setCell ⟨b, 2, none⟩ p2).setCell ⟨b, 3, none⟩ p3).setCell ⟨b, 4, none⟩ p4).setCell ⟨b, 5, none⟩ p5).setCell ⟨b, 6, none⟩ p6).setCell ⟨b, 7, none⟩ p7).setCell ⟨b, 8, none⟩ p8).heap[b]? = some (.cells #[p0, p1, p2, p3, p4, p5, p6, p7, p8] t) := heap_setCell_same _ b 8 _ t p8 h7
  exact h8
theorem touch9 {q R : Nat} {w V : World} (h : Touch q w V) (hR : w.heap.size ≤ R) (p0 p1 p2 p3 p4 p5 p6 p7 p8 : Value) : Touch q w (((((((((V.setCell ⟨R, 0, none⟩ p0).setCell ⟨R, 1, none⟩ p1).setCell ⟨R, 2, none⟩ p2).setCell ⟨R, 3, none⟩ p3).setCell ⟨R, 4, none⟩ p4).setCell ⟨R, 5, none⟩ p5).setCell ⟨R, 6, none⟩ p6).setCell ⟨R, 7, none⟩ p7).setCell ⟨R, 8, none⟩ p8) :=
  (Touch.setNew (p := ⟨R, 8, none⟩) (Touch.setNew (p := ⟨R, 7, none⟩) (Touch.setNew (p := ⟨R, 6, none⟩) (Touch.setNew (p := ⟨R, 5, none⟩) (Touch.setNew (p := ⟨R, 4, none⟩) (Touch.setNew (p := ⟨R, 3, none⟩) (Touch.setNew (p := ⟨R, 2, none⟩) (Touch.setNew (p := ⟨R, 1, none⟩) (Touch.setNew (p := ⟨R, 0, none⟩) h hR p0) hR p1) hR p2) hR p3) hR p4) hR p5) hR p6) hR p7) hR p8)
theorem at9 {q R : Nat} {V : World} (hR : q ≠ R) (p0 p1 p2 p3 p4 p5 p6 p7 p8 : Value) : (((((((((V.setCell ⟨R, 0, none⟩ p0).setCell ⟨R, 1, none⟩ p1).setCell ⟨R, 2, none⟩ p2).setCell ⟨R, 3, none⟩ p3).setCell ⟨R, 4, none⟩ p4).setCell ⟨R, 5, none⟩ p5).setCell ⟨R, 6, none⟩ p6).setCell ⟨R, 7, none⟩ p7).setCell ⟨R, 8, none⟩ p8).heap[q]? = V.heap[q]? := by
  rw [Below.heap_setCell _ _ _ _ hR, Below.heap_setCell _ _ _ _ hR, Below.heap_setCell _ _ _ _ hR, Below.heap_setCell _ _ _ _ hR, Below.heap_setCell _ _ _ _ hR, Below.heap_setCell _ _ _ _ hR, Below.heap_setCell _ _ _ _ hR, Below.heap_setCell _ _ _ _ hR, Below.heap_setCell _ _ _ _ hR]
def SNo (q : Nat) (w : World) (e : Ending) (w' : World) : Prop := (∃ v T V a1 n1 c1 a2 n2 c2 a3 n3 c3, e = .returned (.tuple #[stV v T V (.slice a1 n1 c1) (.slice a2 n2 c2) (.slice a3 n3 c3), .bool false])) ∧ Touch q w w'
def SYes (q : Nat) (w : World) (v : Nat) (T : Ty) (V : Vl) (r : Bs) (e : Ending) (w' : World) : Prop := ∃ a1 c1 a2 c2 a3 c3, e = .returned (.tuple #[stV v T V (.slice a1 T.names.length c1) (.slice a2 T.kids.length c2) (.slice a3 V.kids.length c3), .bool true]) ∧ At w' q r ∧ Touch q w w' ∧ Rd w' (fun b => w.heap.size ≤ b) T (.slice a1 T.names.length c1) (.slice a2 T.kids.length c2) ∧ Vd w' (fun b => w.heap.size ≤ b) V (.slice a3 V.kids.length c3)
def SOk (q : Nat) (w : World) : Option ((Nat × Ty × Vl) × Bs) → Ending → World → Prop
  | none => SNo q w
  | some ((v, T, V), r) => SYes q w v T V r
def mapS (v : Nat) (T : Ty) : Option (Vl × Bs) → Option ((Nat × Ty × Vl) × Bs)
  | none => none
  | some (V, r) => some ((v, T, V), r)
theorem ml_touch {w w' : World} {q : Nat} (h : Ml w) (hq : q ≠ 1) (ht : Touch q w w') : Ml w' := by
  obtain ⟨m, h2⟩ := h
  exact ⟨m, by rw [ht.cell (p := ⟨1, 0, none⟩) (World.block_lt_of_cell? w _ h2) (fun e => hq e.symm)]; exact h2⟩
theorem rdC2_len {b t r : Bs} (h : rdC 2 b = some (t, r)) : t.length ≤ 65535 := by
  unfold rdC at h
  split at h
  · cases h
  · rename_i n r1 hn
    split at h
    · simp only [Option.some.injEq, Prod.mk.injEq] at h
      obtain ⟨rfl, rfl⟩ := h
      unfold rdN at hn
      split at hn
      · simp only [Option.some.injEq, Prod.mk.injEq] at hn
        obtain ⟨hn, rfl⟩ := hn
        have hlt := nm_lt (b.take 2)
        have hle : (256 : Nat) ^ (b.take 2).length ≤ 256 ^ 2 := Nat.pow_le_pow_right (by omega) (by rw [List.length_take]; omega)
        have e2 : (256 : Nat) ^ 2 = 65536 := rfl
        rw [List.length_take]
        omega
      · cases hn
    · cases h
set_option maxHeartbeats 6400000 in
theorem state_ok (w : World) (q : Nat) (l : Bs) (h : At w q l) (hq1 : q ≠ 1) (hM : Ml w) : Calls Tryd.prog 20 #[tk q] w (SOk q w (rdS l)) := by
  have hb0 := below_one w z30
  have hq := h.lt
  have hz := zero30
  have hz25 := zero28
  have HR0 := hid (heap_last w z30)
  have HA0 := hid (at_below h hb0)
  have HT0 : Hid (Touch q w (w.alloc z30)) := Touch.of_below hb0
  have HM := hid hM
  have HQ1 := hid hq1
  obtain ⟨X0, hX0⟩ : ∃ x, x = rdS l := ⟨_, rfl⟩
  have HX0 := hid hX0
  rw [← hX0]
  clear h hb0 hM hq1 hX0
  by_cases hl : l.length < 2
  · have HN := hid (take_no _ q 2 l HA0.out hl)
    have hx : X0 = none := by
      rw [HX0.out]
      match l, hl with
      | [], _ => rfl
      | [_], _ => rfl
    have HX := hid hx
    clear hx hl HX0
    go_enter Tryd.func20, Tryd.ntmps20
    go_wp2_with fail
    refine HN.out.mono ?_
    rintro e w1 ⟨rfl, hw⟩
    subst hw
    have r0 := blk_cell HR0.out 0
    have r1 := blk_cell HR0.out 1
    have r2 := blk_cell HR0.out 2
    have r3 := blk_cell HR0.out 3
    have r4 := blk_cell HR0.out 4
    have r5 := blk_cell HR0.out 5
    have r6 := blk_cell HR0.out 6
    have r7 := blk_cell HR0.out 7
    have r8 := blk_cell HR0.out 8
    have rf := blk_frozen HR0.out
    go_wp2_with fail
    rw [HX.out]
    exact bodyPost_ret (results_cell Tryd.results20 rfl rfl (vload30 (v := 0) (T := .mk 0 0 [] []) (V := .mk 0 0 [] []) HR0.out)) rfl ⟨⟨0, .mk 0 0 [] [], .mk 0 0 [] [], _, _, _, _, _, _, _, _, _, rfl⟩, HT0.out⟩
  · obtain ⟨a, c, b1, rfl⟩ : ∃ a c b1, l = a :: c :: b1 := by
      match l, hl with
      | [], h => simp at h
      | [_], h => simp at h
      | a :: c :: b1, _ => exact ⟨a, c, b1, rfl⟩
    have HN := hid (take_yes _ q 2 (a :: c :: b1) HA0.out (by simp))
    have et : (a :: c :: b1).take 2 = [a, c] := by simp
    have ed : (a :: c :: b1).drop 2 = b1 := by simp
    rw [et, ed] at HN
    clear hl et ed
    go_enter Tryd.func20, Tryd.ntmps20
    go_wp2_with fail
    refine HN.out.mono ?_
    rintro e w1 ⟨rfl, hw⟩
    have ht := At.touch (w.alloc z30) q b1
    have ha := HA0.out.set b1
    rw [← hw] at ht ha
    have HR1 : Hid (w1.heap[w.heap.size]? = some z30) := (ht.block _ (blk_lt HR0.out) (by omega)).trans HR0.out
    have HT1 : Hid (Touch q w w1) := HT0.out.trans ht
    have HA1 := hid ha
    clear hw ht ha HN
    by_cases hac : a = 105 ∧ c = 109
    · obtain ⟨rfl, rfl⟩ := hac
      cases hN : rdN 1 b1 with
      | none =>
        have hx : X0 = none := by rw [HX0.out, rdS, if_pos ⟨rfl, rfl⟩, hN]
        have HX := hid hx
        have HN := hid (num_no w1 q 1 b1 HA1.out (rdN_none (by omega) (by omega) hN))
        clear hx hN HX0
        go_wp2_with fail
        refine HN.out.mono ?_
        rintro e w2 ⟨rfl, hw⟩
        replace hw := hw.symm
        subst hw
        have r0 := blk_cell HR1.out 0
        have r1 := blk_cell HR1.out 1
        have r2 := blk_cell HR1.out 2
        have r3 := blk_cell HR1.out 3
        have r4 := blk_cell HR1.out 4
        have r5 := blk_cell HR1.out 5
        have r6 := blk_cell HR1.out 6
        have r7 := blk_cell HR1.out 7
        have r8 := blk_cell HR1.out 8
        have rf := blk_frozen HR1.out
        go_wp2_with fail
        rw [HX.out]
        exact bodyPost_ret (results_cell Tryd.results20 rfl rfl (vload30 (v := 0) (T := .mk 0 0 [] []) (V := .mk 0 0 [] []) (set9 HR1.out _ _ _ _ _ _ _ _ _))) rfl ⟨⟨0, .mk 0 0 [] [], .mk 0 0 [] [], _, _, _, _, _, _, _, _, _, rfl⟩, touch9 HT1.out (Nat.le_refl _) _ _ _ _ _ _ _ _ _⟩
      | some x =>
        obtain ⟨v, b2⟩ := x
        have HN := hid (num_yes w1 q 1 v b1 b2 HA1.out hN)
        go_wp2_with fail
        refine HN.out.mono ?_
        rintro e w2 ⟨rfl, hw⟩
        have ht := At.touch w1 q b2
        have ha := HA1.out.set b2
        rw [← hw] at ht ha
        have HR2 : Hid (w2.heap[w.heap.size]? = some z30) := (ht.block _ (blk_lt HR1.out) (by omega)).trans HR1.out
        have HT2 : Hid (Touch q w w2) := HT1.out.trans ht
        have HA2 := hid ha
        clear hw ht ha HN
        cases hC : rdC 2 b2 with
        | none =>
          have hx : X0 = none := by rw [HX0.out, rdS, if_pos ⟨rfl, rfl⟩, hN]; simp only [hC]
          have HX := hid hx
          have HN := hid (cnt_no w2 q 2 b2 HA2.out (by omega) (by omega) hC)
          clear hx hN hC HX0
          go_wp2_with fail
          refine HN.out.mono ?_
          rintro e w3 ⟨rfl, ht⟩
          have HR3 : Hid (w3.heap[w.heap.size]? = some z30) := (ht.block _ (blk_lt HR2.out) (by omega)).trans HR2.out
          have HT3 : Hid (Touch q w w3) := HT2.out.trans ht
          clear ht
          have r0 := blk_cell HR3.out 0
          have r1 := blk_cell HR3.out 1
          have r2 := blk_cell HR3.out 2
          have r3 := blk_cell HR3.out 3
          have r4 := blk_cell HR3.out 4
          have r5 := blk_cell HR3.out 5
          have r6 := blk_cell HR3.out 6
          have r7 := blk_cell HR3.out 7
          have r8 := blk_cell HR3.out 8
          have rf := blk_frozen HR3.out
          go_wp2_with fail
          rw [HX.out]
          exact bodyPost_ret (results_cell Tryd.results20 rfl rfl (vload30 (v := 0) (T := .mk 0 0 [] []) (V := .mk 0 0 [] []) (set9 HR3.out _ _ _ _ _ _ _ _ _))) rfl ⟨⟨0, .mk 0 0 [] [], .mk 0 0 [] [], _, _, _, _, _, _, _, _, _, rfl⟩, touch9 HT3.out (Nat.le_refl _) _ _ _ _ _ _ _ _ _⟩
        | some x =>
          obtain ⟨t, b3⟩ := x
          have htl := rdC2_len hC
          have HN := hid (cnt_yes w2 q 2 b2 t b3 HA2.out hC)
          go_wp2_with fail
          refine HN.out.mono ?_
          rintro e w3 ⟨rfl, ha, ht⟩
          have HR3 : Hid (w3.heap[w.heap.size]? = some z30) := (ht.block _ (blk_lt HR2.out) (by omega)).trans HR2.out
          have HT3 : Hid (Touch q w w3) := HT2.out.trans ht
          have HA3 := hid ha
          have HP := hid (parse_ok t w3 (by omega) (ml_touch HM.out HQ1.out HT3.out))
          clear ht ha HN
          go_wp2_with fail
          refine HP.out.mono ?_
          rintro e w4 ⟨a1, n1, c1, a2, n2, c2, rfl, hb4, hrd4⟩
          have HR4 := hid (blk_below HR3.out hb4)
          have HT4 : Hid (Touch q w w4) := HT3.out.trans (Touch.of_below hb4)
          have HA4 := hid (at_below HA3.out hb4)
          have HRd4 := hid hrd4
          have HS3 := hid HT3.out.size
          clear hb4 hrd4 HP
          have HR5 := hid (blk_alloc HR4.out (.cells #[i64 (parT t).kind, i64 (parT t).num, .slice a1 n1 c1, .slice a2 n2 c2] 25))
          have HT5 : Hid (Touch q w (w4.alloc (.cells #[i64 (parT t).kind, i64 (parT t).num, .slice a1 n1 c1, .slice a2 n2 c2] 25))) := HT4.out.alloc _
          have HB5 := hid (heap_last w4 (.cells #[i64 (parT t).kind, i64 (parT t).num, .slice a1 n1 c1, .slice a2 n2 c2] 25))
          have HA5 := hid (at_below HA4.out (below_one w4 (.cells #[i64 (parT t).kind, i64 (parT t).num, .slice a1 n1 c1, .slice a2 n2 c2] 25)))
          have HRd5 := hid (HRd4.out.under (below_one w4 (.cells #[i64 (parT t).kind, i64 (parT t).num, .slice a1 n1 c1, .slice a2 n2 c2] 25)))
          have HTB : Hid (w.heap.size < w4.heap.size ∧ q < w4.heap.size) := ⟨blk_lt HR4.out, HA4.out.lt⟩
          have HQ3 : Hid (q < w3.heap.size) := HA3.out.lt
          have HL3 : Hid (w.heap.size < w3.heap.size) := blk_lt HR3.out
          clear HR4 HT4 HA4 HRd4 HR3 HT3 HA3
          go_upto_region 11 with fail
          generalize w4.alloc (.cells #[i64 (parT t).kind, i64 (parT t).num, .slice a1 n1 c1, .slice a2 n2 c2] 25) = w5 at *
          obtain ⟨TB, hTB⟩ : ∃ TB, TB = w4.heap.size := ⟨_, rfl⟩
          rw [← hTB] at HB5 HTB ⊢
          clear hTB
          cases hP : parseF t with
          | none =>
            obtain ⟨e1, e2⟩ := parse_4 hP
            have hx : X0 = none := by rw [HX0.out, rdS, if_pos ⟨rfl, rfl⟩, hN]; simp only [hC]; rw [hP]
            have HX := hid hx
            rw [e2]
            clear hx hN hC hP HX0 e1 e2
            have r0 := blk_cell HR5.out 0
            have r1 := blk_cell HR5.out 1
            have r2 := blk_cell HR5.out 2
            have r3 := blk_cell HR5.out 3
            have r4 := blk_cell HR5.out 4
            have r5 := blk_cell HR5.out 5
            have r6 := blk_cell HR5.out 6
            have r7 := blk_cell HR5.out 7
            have r8 := blk_cell HR5.out 8
            have rf := blk_frozen HR5.out
            go_wp2_with fail
            rw [HX.out]
            exact bodyPost_ret (results_cell Tryd.results20 rfl rfl (vload30 (v := 0) (T := .mk 0 0 [] []) (V := .mk 0 0 [] []) (set9 HR5.out _ _ _ _ _ _ _ _ _))) rfl ⟨⟨0, .mk 0 0 [] [], .mk 0 0 [] [], _, _, _, _, _, _, _, _, _, rfl⟩, touch9 HT5.out (Nat.le_refl _) _ _ _ _ _ _ _ _ _⟩
          | some T =>
            obtain ⟨e1, e2⟩ := parse_0 hP
            rw [e1] at HRd5 HB5
            rw [e1, e2]
            have ⟨hfm, hd⟩ := right_formed (parseF_back hP).1
            have hfo := HRd5.out.form
            obtain ⟨an', cn', ee1, at', ct', ee2⟩ := hfo
            cases ee1
            cases ee2
            have HRq : Hid (Rd w5 (fun b => b ≠ q) T (.slice a1 T.names.length c1) (.slice a2 T.kids.length c2)) := HRd5.out.mono (fun b hb _ => by have := HQ3.out; omega)
            have HC := hid (value_ok 6 T hd hfm w5 q b3 _ _ HA5.out HRq.out)
            have HXe : Hid (X0 = mapS v T (rdV 6 T b3)) := by show _ = _; rw [HX0.out, rdS, if_pos ⟨rfl, rfl⟩, hN]; simp only [hC]; rw [hP]; simp only []; cases rdV 6 T b3 <;> rfl
            obtain ⟨res, hres⟩ : ∃ res, res = rdV 6 T b3 := ⟨_, rfl⟩
            rw [← hres] at HC HXe
            clear hres hN hC hP HX0 e1 e2 hfm hd
            have y0 := blk_cell HB5.out 0
            have y1 := blk_cell HB5.out 1
            have y2 := blk_cell HB5.out 2
            have y3 := blk_cell HB5.out 3
            go_wp2_with fail
            refine HC.out.mono ?_
            clear HC y0 y1 y2 y3
            cases res with
            | none =>
              rintro e w6 ⟨⟨k9, n9, t9, a9, m9, c9, rfl⟩, ht⟩
              have HX : Hid (X0 = none) := HXe.out
              have HR6 : Hid (w6.heap[w.heap.size]? = some z30) := (ht.block _ (blk_lt HR5.out) (by omega)).trans HR5.out
              have HB6 := hid ((ht.block _ (blk_lt HB5.out) (by have := HTB.out; omega)).trans HB5.out)
              have HT6 : Hid (Touch q w w6) := HT5.out.trans ht
              have HR7 := hid (blk_alloc HR6.out (.cells #[i64 k9, i64 n9, str t9, .slice a9 m9 c9] 28))
              have HB7 := hid (blk_alloc HB6.out (.cells #[i64 k9, i64 n9, str t9, .slice a9 m9 c9] 28))
              have HV7 := hid (heap_last w6 (.cells #[i64 k9, i64 n9, str t9, .slice a9 m9 c9] 28))
              have HT7 : Hid (Touch q w (w6.alloc (.cells #[i64 k9, i64 n9, str t9, .slice a9 m9 c9] 28))) := HT6.out.alloc _
              clear ht HRd5 HRq HXe
              clear HR6 HB6 HT6 HR5 HB5 HT5 HA5
              go_upto_region 14 with fail
              generalize w6.alloc (.cells #[i64 k9, i64 n9, str t9, .slice a9 m9 c9] 28) = w7 at *
              obtain ⟨VB, hVB⟩ : ∃ VB, VB = w6.heap.size := ⟨_, rfl⟩
              rw [← hVB] at HV7 ⊢
              clear hVB
              have r0 := blk_cell HR7.out 0
              have r1 := blk_cell HR7.out 1
              have r2 := blk_cell HR7.out 2
              have r3 := blk_cell HR7.out 3
              have r4 := blk_cell HR7.out 4
              have r5 := blk_cell HR7.out 5
              have r6 := blk_cell HR7.out 6
              have r7 := blk_cell HR7.out 7
              have r8 := blk_cell HR7.out 8
              have rf := blk_frozen HR7.out
              have y0 := blk_cell HB7.out 0
              have y1 := blk_cell HB7.out 1
              have y2 := blk_cell HB7.out 2
              have y3 := blk_cell HB7.out 3
              have v0 := blk_cell HV7.out 0
              have v1 := blk_cell HV7.out 1
              have v2 := blk_cell HV7.out 2
              have v3 := blk_cell HV7.out 3
              go_wp2_with fail
              rw [HX.out]
              exact bodyPost_ret (results_cell Tryd.results20 rfl rfl (vload30 (v := (v : Nat)) (T := T) (V := .mk k9 n9 t9 []) (set9 HR7.out _ _ _ _ _ _ _ _ _))) rfl ⟨⟨(v : Nat), T, .mk k9 n9 t9 [], _, _, _, _, _, _, _, _, _, rfl⟩, touch9 HT7.out (Nat.le_refl _) _ _ _ _ _ _ _ _ _⟩
            | some x =>
              obtain ⟨V, r⟩ := x
              rintro e w6 ⟨a9, c9, rfl, ha, ht, hv⟩
              have HX : Hid (X0 = some ((v, T, V), r)) := HXe.out
              have HR6 : Hid (w6.heap[w.heap.size]? = some z30) := (ht.block _ (blk_lt HR5.out) (by omega)).trans HR5.out
              have HB6 := hid ((ht.block _ (blk_lt HB5.out) (by have := HTB.out; omega)).trans HB5.out)
              have HT6 : Hid (Touch q w w6) := HT5.out.trans ht
              have HR7 := hid (blk_alloc HR6.out (vO V (.slice a9 V.kids.length c9)))
              have HB7 := hid (blk_alloc HB6.out (vO V (.slice a9 V.kids.length c9)))
              have HV7 := hid (heap_last w6 (vO V (.slice a9 V.kids.length c9)))
              have HT7 : Hid (Touch q w (w6.alloc (vO V (.slice a9 V.kids.length c9)))) := HT6.out.alloc _
              have HA7 := hid (at_below ha (below_one w6 (vO V (.slice a9 V.kids.length c9))))
              have HVd7 : Hid (Vd (w6.alloc (vO V (.slice a9 V.kids.length c9))) (fun b => w.heap.size < b) V (.slice a9 V.kids.length c9)) := (hv.under (below_one w6 (vO V (.slice a9 V.kids.length c9)))).mono (fun b hb _ => by have := blk_lt HR5.out; omega)
              have HRd7 : Hid (Rd (w6.alloc (vO V (.slice a9 V.kids.length c9))) (fun b => w.heap.size < b) T (.slice a1 T.names.length c1) (.slice a2 T.kids.length c2)) := by
                have h6 : Rd w6 (fun b => w3.heap.size ≤ b) T (.slice a1 T.names.length c1) (.slice a2 T.kids.length c2) := HRd5.out.move ht.size (fun b hb hlt => ⟨hb, ht.block b hlt (by have := HQ3.out; omega)⟩)
                exact (h6.under (below_one w6 (vO V (.slice a9 V.kids.length c9)))).mono (fun b hb _ => by have := HL3.out; omega)
              clear ha ht hv HRd5 HRq HXe
              clear HR6 HB6 HT6 HR5 HB5 HT5 HA5
              go_upto_region 14 with fail
              generalize w6.alloc (vO V (.slice a9 V.kids.length c9)) = w7 at *
              obtain ⟨VB, hVB⟩ : ∃ VB, VB = w6.heap.size := ⟨_, rfl⟩
              rw [← hVB] at HV7 ⊢
              clear hVB
              have r0 := blk_cell HR7.out 0
              have r1 := blk_cell HR7.out 1
              have r2 := blk_cell HR7.out 2
              have r3 := blk_cell HR7.out 3
              have r4 := blk_cell HR7.out 4
              have r5 := blk_cell HR7.out 5
              have r6 := blk_cell HR7.out 6
              have r7 := blk_cell HR7.out 7
              have r8 := blk_cell HR7.out 8
              have rf := blk_frozen HR7.out
              have y0 := blk_cell HB7.out 0
              have y1 := blk_cell HB7.out 1
              have y2 := blk_cell HB7.out 2
              have y3 := blk_cell HB7.out 3
              have v0 := blk_cell HV7.out 0
              have v1 := blk_cell HV7.out 1
              have v2 := blk_cell HV7.out 2
              have v3 := blk_cell HV7.out 3
              go_wp2_with fail
              rw [HX.out]
              refine bodyPost_ret (results_cell Tryd.results20 rfl rfl (vload30 (v := (v : Nat)) (T := T) (V := V) (set9 HR7.out _ _ _ _ _ _ _ _ _))) rfl ⟨a1, c1, a2, c2, a9, c9, rfl, ?_, touch9 HT7.out (Nat.le_refl _) _ _ _ _ _ _ _ _ _, ?_, ?_⟩
              · exact (at9 (by omega) _ _ _ _ _ _ _ _ _).trans HA7.out
              · exact HRd7.out.move (by simp [World.setCell]) (fun b hb _ => ⟨by omega, at9 (by omega) _ _ _ _ _ _ _ _ _⟩)
              · exact HVd7.out.move (by simp [World.setCell]) (fun b hb _ => ⟨by omega, at9 (by omega) _ _ _ _ _ _ _ _ _⟩)
    · have hx : X0 = none := by rw [HX0.out, rdS, if_neg hac]
      have HX := hid hx
      have hne : (!a == 105 || !c == 109) = true := by
        rw [Bool.or_eq_true]
        by_cases h1 : a = 105
        · exact .inr (by simpa using fun h => hac ⟨h1, h⟩)
        · exact .inl (by simpa using h1)
      clear hx hac HX0
      have r0 := blk_cell HR1.out 0
      have r1 := blk_cell HR1.out 1
      have r2 := blk_cell HR1.out 2
      have r3 := blk_cell HR1.out 3
      have r4 := blk_cell HR1.out 4
      have r5 := blk_cell HR1.out 5
      have r6 := blk_cell HR1.out 6
      have r7 := blk_cell HR1.out 7
      have r8 := blk_cell HR1.out 8
      have rf := blk_frozen HR1.out
      go_wp2_with fail
      rw [HX.out]
      exact bodyPost_ret (results_cell Tryd.results20 rfl rfl (vload30 (v := 0) (T := .mk 0 0 [] []) (V := .mk 0 0 [] []) (set9 HR1.out _ _ _ _ _ _ _ _ _))) rfl ⟨⟨0, .mk 0 0 [] [], .mk 0 0 [] [], _, _, _, _, _, _, _, _, _, rfl⟩, touch9 HT1.out (Nat.le_refl _) _ _ _ _ _ _ _ _ _⟩
end Go.Proofs.YtihbbgcpdgnhoaaDoor
namespace Go.Proofs.YtihbbgcpdgnhoaaDoor
open Go.ChangeShapes Go.WideShapes Go.ChangeAt Go.RowKit Go.Deep
attribute [local go_sem ↓] Go.wp_at_zero Go.wp_at_succ
set_option maxRecDepth 100000

theorem rdN_len {k n : Nat} {b r : Bs} (h : rdN k b = some (n, r)) : r.length + 1 ≤ b.length := by
  unfold rdN at h
  split at h
  · simp only [Option.some.injEq, Prod.mk.injEq] at h
    obtain ⟨_, rfl⟩ := h
    rw [List.length_drop]
    omega
  · cases h
theorem rdC_len {k : Nat} {b t r : Bs} (h : rdC k b = some (t, r)) : r.length + 1 ≤ b.length := by
  unfold rdC at h
  split at h
  · cases h
  · rename_i n r1 hn
    have := rdN_len hn
    split at h
    · simp only [Option.some.injEq, Prod.mk.injEq] at h
      obtain ⟨_, rfl⟩ := h
      rw [List.length_drop]
      omega
    · cases h
theorem rdL_size {f : Nat} (ih : ∀ (V : Vl) (T : Ty) (b r : Bs), rdV f T b = some (V, r) → V.size + r.length ≤ b.length) (T : Ty) :
    ∀ (m i : Nat) (b r : Bs) (l : List Vl), rdL (rdV f) T i m b = some (l, r) → sizeL l + r.length ≤ b.length
  | 0, i, b, r, l, h => by
    simp only [rdL, Option.some.injEq, Prod.mk.injEq] at h
    obtain ⟨rfl, rfl⟩ := h
    simp [sizeL]
  | m + 1, i, b, r, l, h => by
    rw [rdL] at h
    split at h
    · cases h
    · rename_i v r1 hv
      split at h
      · cases h
      · rename_i l1 r2 hl
        simp only [Option.some.injEq, Prod.mk.injEq] at h
        obtain ⟨rfl, rfl⟩ := h
        have h1 := ih _ _ _ _ hv
        have h2 := rdL_size ih T m (i + 1) _ _ _ hl
        show v.size + sizeL l1 + r2.length ≤ b.length
        omega
theorem rdV_size : ∀ (f : Nat) (V : Vl) (T : Ty) (b r : Bs), rdV f T b = some (V, r) → V.size + r.length ≤ b.length
  | 0, V, T, b, r, h => by simp [rdV] at h
  | f + 1, V, T, b, r, h => by
    rw [rdV] at h
    split at h
    · cases h
    · rename_i tag r1 h1
      have e1 := rdN_len h1
      split at h
      · cases h
      · split at h
        · split at h
          · cases h
          · rename_i n q h2
            have e2 := rdN_len h2
            simp only [Option.some.injEq, Prod.mk.injEq] at h
            obtain ⟨rfl, rfl⟩ := h
            simp only [Vl.size, sizeL]
            omega
        · split at h
          · split at h
            · cases h
            · rename_i t q h2
              have e2 := rdC_len h2
              simp only [Option.some.injEq, Prod.mk.injEq] at h
              obtain ⟨rfl, rfl⟩ := h
              simp only [Vl.size, sizeL]
              omega
          · split at h
            · cases h
            · rename_i m q h2
              have e2 := rdN_len h2
              split at h
              · cases h
              · split at h
                · cases h
                · rename_i l p h3
                  have e3 := rdL_size (rdV_size f) T _ _ _ _ _ h3
                  simp only [Option.some.injEq, Prod.mk.injEq] at h
                  obtain ⟨rfl, rfl⟩ := h
                  simp only [Vl.size]
                  omega
theorem rdS_size {b r : Bs} {v : Nat} {T : Ty} {V : Vl} (h : rdS b = some ((v, T, V), r)) : V.size ≤ b.length := by
  unfold rdS at h
  split at h
  · split at h
    · split at h
      · cases h
      · rename_i hv
        split at h
        · cases h
        · rename_i ht
          split at h
          · cases h
          · split at h
            · cases h
            · rename_i hV
              simp only [Option.some.injEq, Prod.mk.injEq] at h
              obtain ⟨⟨rfl, rfl, rfl⟩, rfl⟩ := h
              have e1 := rdN_len hv
              have e2 := rdC_len ht
              have e3 := rdV_size 6 _ _ _ _ hV
              simp only [List.length_cons]
              omega
    · cases h
  · cases h
/-- What Read reads. -/
def rdR (b : Bs) : Option (Nat × Ty × Vl) := match rdS b with
  | some ((v, T, V), []) => if fitsB V T = true then some (v, T, V) else none
  | _ => none
abbrev zS : Value := .agg #[i64 0, i64 0, i64 0, .slice none 0 0, .slice none 0 0, i64 0, i64 0, str [], .slice none 0 0]
def RNo (E : Int) (w : World) (e : Ending) (w' : World) : Prop := e = .returned (.tuple #[zS, i64 E]) ∧ Below w.heap.size w w'
def RYes (w : World) (v : Nat) (T : Ty) (V : Vl) (e : Ending) (w' : World) : Prop := ∃ a1 c1 a2 c2 a3 c3, e = .returned (.tuple #[stV v T V (.slice a1 T.names.length c1) (.slice a2 T.kids.length c2) (.slice a3 V.kids.length c3), i64 0]) ∧ Below w.heap.size w w' ∧ Rd w' (fun b => w.heap.size ≤ b) T (.slice a1 T.names.length c1) (.slice a2 T.kids.length c2) ∧ Vd w' (fun b => w.heap.size ≤ b) V (.slice a3 V.kids.length c3)
def ROk (w : World) : Option (Nat × Ty × Vl) → Ending → World → Prop
  | none => RNo 4 w
  | some (v, T, V) => RYes w v T V
set_option maxHeartbeats 800000 in
theorem wread_long (w : World) (l : Bs) (hl : 6000 < l.length) : Calls Tryd.prog 9 #[str l] w (RNo 2 w) := by
  have hz := zero30
  have HR0 := hid (heap_last w z30)
  have HB0 := hid (below_one w z30)
  have hs := bsize l
  have hI : (6000 : Int) < l.length := by omega
  clear hl
  go_enter Tryd.func9, Tryd.ntmps9
  go_wp2_with fail
  exact bodyPost_ret (results_cell Tryd.results9 rfl rfl (vload30 (v := 0) (T := .mk 0 0 [] []) (V := .mk 0 0 [] []) HR0.out)) rfl ⟨rfl, HB0.out⟩
set_option maxHeartbeats 6400000 in
theorem wread_ok (w : World) (l : Bs) (hl : l.length ≤ 6000) (hM : Ml w) : Calls Tryd.prog 9 #[str l] w (ROk w (rdR l)) := by
  have hz := zero30
  have h1lt : 1 < w.heap.size := by obtain ⟨m, hm⟩ := hM; exact World.block_lt_of_cell? w _ hm
  obtain ⟨HRa, HQa, hb0⟩ := two_boxes w z30 (.cells #[str l] 65)
  have HR0 := hid HRa
  have HQ0 := hid HQa
  have HB0 := hid hb0
  have HC := hid (state_ok _ (w.heap.size + 1) l HQ0.out (by omega) (hM.below hb0))
  have hs := bsize l
  have hI : ¬ (6000 : Int) < l.length := by omega
  obtain ⟨X0, hX0⟩ : ∃ x, x = rdR l := ⟨_, rfl⟩
  rw [← hX0]
  have HX0 := hid hX0
  have HL := hid hl
  clear HRa HQa hb0 hM h1lt hX0 hl
  go_enter Tryd.func9, Tryd.ntmps9
  go_wp2_with fail
  refine HC.out.mono ?_
  clear HC
  obtain ⟨res, hres⟩ : ∃ res, res = rdS l := ⟨_, rfl⟩
  rw [← hres]
  cases res with
  | none =>
    rintro e w1 ⟨⟨v, T, V, a1, n1, c1, a2, n2, c2, a3, n3, c3, rfl⟩, ht⟩
    have hx : X0 = none := by rw [HX0.out]; unfold rdR; rw [← hres]
    have HX := hid hx
    have HR1 : Hid (w1.heap[w.heap.size]? = some z30) := (ht.block _ (blk_lt HR0.out) (by omega)).trans HR0.out
    have HT1 : Hid (Touch (w.heap.size + 1) w w1) := (Touch.of_below HB0.out).trans ht
    have HR3 := hid (blk_alloc HR1.out (stC v T V (.slice a1 n1 c1) (.slice a2 n2 c2) (.slice a3 n3 c3)))
    have HT3 : Hid (Touch (w.heap.size + 1) w (w1.alloc (stC v T V (.slice a1 n1 c1) (.slice a2 n2 c2) (.slice a3 n3 c3)))) := HT1.out.alloc _
    clear ht hx hres HX0 HR1 HT1 HR0 HQ0 HB0
    go_upto_region 5 with fail
    generalize w1.alloc (stC v T V (.slice a1 n1 c1) (.slice a2 n2 c2) (.slice a3 n3 c3)) = w3 at *
    have r0 := blk_cell HR3.out 0
    have r1 := blk_cell HR3.out 1
    have r2 := blk_cell HR3.out 2
    have r3 := blk_cell HR3.out 3
    have r4 := blk_cell HR3.out 4
    have r5 := blk_cell HR3.out 5
    have r6 := blk_cell HR3.out 6
    have r7 := blk_cell HR3.out 7
    have r8 := blk_cell HR3.out 8
    have rf := blk_frozen HR3.out
    go_wp2_with fail
    rw [HX.out]
    exact bodyPost_ret (results_cell Tryd.results9 rfl rfl (vload30 (v := 0) (T := .mk 0 0 [] []) (V := .mk 0 0 [] []) (set9 HR3.out _ _ _ _ _ _ _ _ _))) rfl ⟨rfl, (touch9 HT3.out (Nat.le_refl _) _ _ _ _ _ _ _ _ _).below (Nat.le_succ _) (Nat.le_refl _)⟩
  | some x =>
    obtain ⟨⟨v, T, V⟩, r⟩ := x
    rintro e w1 ⟨a1, c1, a2, c2, a3, c3, rfl, ha, ht, hrd, hvd⟩
    have hsz : V.size ≤ 100000 := by have := rdS_size hres.symm; have := HL.out; omega
    have HR1 : Hid (w1.heap[w.heap.size]? = some z30) := (ht.block _ (blk_lt HR0.out) (by omega)).trans HR0.out
    have HT1 : Hid (Touch (w.heap.size + 1) w w1) := (Touch.of_below HB0.out).trans ht
    have hlo : w.heap.size < ((w.alloc z30).alloc (.cells #[str l] 65)).heap.size := blk_lt HR0.out
    have HR2 := hid (blk_alloc HR1.out (stC v T V (.slice a1 T.names.length c1) (.slice a2 T.kids.length c2) (.slice a3 V.kids.length c3)))
    have HT2 : Hid (Touch (w.heap.size + 1) w (w1.alloc (stC v T V (.slice a1 T.names.length c1) (.slice a2 T.kids.length c2) (.slice a3 V.kids.length c3)))) := HT1.out.alloc _
    have HA2 := hid (at_below ha (below_one w1 (stC v T V (.slice a1 T.names.length c1) (.slice a2 T.kids.length c2) (.slice a3 V.kids.length c3))))
    have HS2 := hid (heap_last w1 (stC v T V (.slice a1 T.names.length c1) (.slice a2 T.kids.length c2) (.slice a3 V.kids.length c3)))
    have HRd2 := hid ((hrd.under (below_one w1 (stC v T V (.slice a1 T.names.length c1) (.slice a2 T.kids.length c2) (.slice a3 V.kids.length c3)))).mono (S' := fun b => w.heap.size < b) (fun b hb _ => by omega))
    have HVd2 := hid ((hvd.under (below_one w1 (stC v T V (.slice a1 T.names.length c1) (.slice a2 T.kids.length c2) (.slice a3 V.kids.length c3)))).mono (S' := fun b => w.heap.size < b) (fun b hb _ => by omega))
    clear ha ht hrd hvd HR1 HT1 HR0 HQ0 HB0 hlo
    go_upto_region 5 with fail
    generalize w1.alloc (stC v T V (.slice a1 T.names.length c1) (.slice a2 T.kids.length c2) (.slice a3 V.kids.length c3)) = w2 at *
    obtain ⟨SB, hSB⟩ : ∃ SB, SB = w1.heap.size := ⟨_, rfl⟩
    rw [← hSB] at HS2 ⊢
    clear hSB
    have q0 := blk_cell HA2.out 0
    have s0 := blk_cell HS2.out 0
    have s1 := blk_cell HS2.out 1
    have s2 := blk_cell HS2.out 2
    have s3 := blk_cell HS2.out 3
    have s4 := blk_cell HS2.out 4
    have s5 := blk_cell HS2.out 5
    have s6 := blk_cell HS2.out 6
    have s7 := blk_cell HS2.out 7
    have s8 := blk_cell HS2.out 8
    by_cases hr : r = []
    · subst hr
      have HF := hid (fits_ok V T w2 _ _ _ _ _ HVd2.out HRd2.out hsz)
      have hx : X0 = if fitsB V T = true then some (v, T, V) else none := by rw [HX0.out]; unfold rdR; rw [← hres]
      have HX := hid hx
      clear hx hres HX0 hsz
      go_wp2_with fail
      refine HF.out.mono ?_
      rintro e w4 ⟨rfl, hb4⟩
      have HR3 := hid (blk_below HR2.out hb4)
      have HT3 : Hid (Touch (w.heap.size + 1) w w4) := HT2.out.trans (Touch.of_below hb4)
      have HS4 := hid (blk_below HS2.out hb4)
      have HRd4 := hid (HRd2.out.under hb4)
      have HVd4 := hid (HVd2.out.under hb4)
      clear hb4 HF q0 s0 s1 s2 s3 s4 s5 s6 s7 s8 HR2 HT2 HS2 HRd2 HVd2 HA2
      have r0 := blk_cell HR3.out 0
      have r1 := blk_cell HR3.out 1
      have r2 := blk_cell HR3.out 2
      have r3 := blk_cell HR3.out 3
      have r4 := blk_cell HR3.out 4
      have r5 := blk_cell HR3.out 5
      have r6 := blk_cell HR3.out 6
      have r7 := blk_cell HR3.out 7
      have r8 := blk_cell HR3.out 8
      have rf := blk_frozen HR3.out
      cases hf : fitsB V T
      · have HX2 : Hid (X0 = none) := by show _ = _; rw [HX.out, hf]; rfl
        clear hf
        go_wp2_with fail
        rw [HX2.out]
        exact bodyPost_ret (results_cell Tryd.results9 rfl rfl (vload30 (v := 0) (T := .mk 0 0 [] []) (V := .mk 0 0 [] []) (set9 HR3.out _ _ _ _ _ _ _ _ _))) rfl ⟨rfl, (touch9 HT3.out (Nat.le_refl _) _ _ _ _ _ _ _ _ _).below (Nat.le_succ _) (Nat.le_refl _)⟩
      · have HX2 : Hid (X0 = some (v, T, V)) := by show _ = _; rw [HX.out, hf]; rfl
        clear hf
        have s0 := blk_cell HS4.out 0
        have s1 := blk_cell HS4.out 1
        have s2 := blk_cell HS4.out 2
        have s3 := blk_cell HS4.out 3
        have s4 := blk_cell HS4.out 4
        have s5 := blk_cell HS4.out 5
        have s6 := blk_cell HS4.out 6
        have s7 := blk_cell HS4.out 7
        have s8 := blk_cell HS4.out 8
        go_wp2_with fail
        rw [HX2.out]
        refine bodyPost_ret (results_cell Tryd.results9 rfl rfl (vload30 (v := (v : Nat)) (T := T) (V := V) (set9 HR3.out _ _ _ _ _ _ _ _ _))) rfl ⟨a1, c1, a2, c2, a3, c3, rfl, (touch9 HT3.out (Nat.le_refl _) _ _ _ _ _ _ _ _ _).below (Nat.le_succ _) (Nat.le_refl _), ?_, ?_⟩
        · exact HRd4.out.move (by simp [World.setCell]) (fun b hb _ => ⟨by omega, at9 (by omega) _ _ _ _ _ _ _ _ _⟩)
        · exact HVd4.out.move (by simp [World.setCell]) (fun b hb _ => ⟨by omega, at9 (by omega) _ _ _ _ _ _ _ _ _⟩)
    · have hx : X0 = none := by
        rw [HX0.out]; unfold rdR; rw [← hres]
        cases r with
        | nil => exact absurd rfl hr
        | cons => rfl
      have HX := hid hx
      obtain ⟨d, r', rfl⟩ : ∃ d r', r = d :: r' := by
        cases r with
        | nil => exact absurd rfl hr
        | cons d r' => exact ⟨d, r', rfl⟩
      have HR3 := HR2
      have HT3 := HT2
      clear hx hres HX0 hr
      have r0 := blk_cell HR3.out 0
      have r1 := blk_cell HR3.out 1
      have r2 := blk_cell HR3.out 2
      have r3 := blk_cell HR3.out 3
      have r4 := blk_cell HR3.out 4
      have r5 := blk_cell HR3.out 5
      have r6 := blk_cell HR3.out 6
      have r7 := blk_cell HR3.out 7
      have r8 := blk_cell HR3.out 8
      have rf := blk_frozen HR3.out
      go_wp2_with fail
      rw [HX.out]
      exact bodyPost_ret (results_cell Tryd.results9 rfl rfl (vload30 (v := 0) (T := .mk 0 0 [] []) (V := .mk 0 0 [] []) (set9 HR3.out _ _ _ _ _ _ _ _ _))) rfl ⟨rfl, (touch9 HT3.out (Nat.le_refl _) _ _ _ _ _ _ _ _ _).below (Nat.le_succ _) (Nat.le_refl _)⟩
end Go.Proofs.YtihbbgcpdgnhoaaDoor
namespace Go.Proofs.YtihbbgcpdgnhoaaDoor
open Go.ChangeShapes Go.WideShapes Go.ChangeAt Go.RowKit Go.Deep
attribute [local go_sem ↓] Go.wp_at_zero Go.wp_at_succ
set_option maxRecDepth 100000

/-- What begins tells. -/
def begB (a b : Bs) : Bool := decide (b.length ≤ a.length) && (a.take b.length == b)
set_option maxHeartbeats 1600000 in
theorem begins_ok (w : World) (a b : Bs) : Calls Tryd.prog 12 #[str a, str b] w fun e w' => e = .returned (.bool (begB a b)) ∧ w' = w := by
  have ha := bsize a
  have hb := bsize b
  have e1 := slice_pre a b.length
  unfold begB
  by_cases h : b.length ≤ a.length
  · have hI : (b.length : Int) ≤ a.length := by omega
    rw [decide_eq_true h, Bool.true_and]
    clear h
    generalize a.take b.length = c at *
    go_enter Tryd.func12, Tryd.ntmps12
    go_wp2_with fail
    go_ret
    exact ⟨rfl, rfl⟩
  · have hI : ¬ (b.length : Int) ≤ a.length := by omega
    rw [decide_eq_false h, Bool.false_and]
    clear h
    go_enter Tryd.func12, Tryd.ntmps12
    go_wp2_with fail
    go_ret
    exact ⟨rfl, rfl⟩
set_option maxHeartbeats 6400000 in
theorem much_ok (v : Int) (T : Ty) (V : Vl) (w : World) (kv nv tv : Value) (hV : Vd w (fun _ => True) V kv) (hR : Rd w (fun _ => True) T nv tv) : Calls Tryd.prog 6 #[stV v T V nv tv kv] w fun e w' => ∃ b : Bool, e = .returned (.bool b) ∧ Below w.heap.size w w' ∧ (b = false → V.size ≤ 2500 ∧ T.count ≤ 200 ∧ T.small = true) := by
  have HVd := hid hV
  have HRd := hid hR
  obtain ⟨ka, kc, rfl⟩ := hV.form
  obtain ⟨an, cn, rfl, at_, ct, rfl⟩ := hR.form
  have HX := hid (heap_last w (stC v T V (.slice an T.names.length cn) (.slice at_ T.kids.length ct) (.slice ka V.kids.length kc)))
  have HBV := hid (below_one w (stC v T V (.slice an T.names.length cn) (.slice at_ T.kids.length ct) (.slice ka V.kids.length kc)))
  clear hV hR
  go_enter Tryd.func6, Tryd.ntmps6
  go_upto_region 1 with fail
  generalize w.alloc (stC v T V (.slice an T.names.length cn) (.slice at_ T.kids.length ct) (.slice ka V.kids.length kc)) = V0 at *
  obtain ⟨Z, hZ⟩ : ∃ Z, Z = w.heap.size := ⟨_, rfl⟩
  rw [← hZ] at HX ⊢
  clear hZ
  have zc0 := blk_cell HX.out 0
  have zc1 := blk_cell HX.out 1
  have zc2 := blk_cell HX.out 2
  have zc3 := blk_cell HX.out 3
  have zc4 := blk_cell HX.out 4
  have zc5 := blk_cell HX.out 5
  have zc6 := blk_cell HX.out 6
  have zc7 := blk_cell HX.out 7
  have zc8 := blk_cell HX.out 8
  have HQ : Hid ((V0.alloc (.cells #[i64 200] 57)).heap[V0.heap.size]? = some (.cells #[i64 200] 57)) := heap_last V0 _
  have HBU : Hid (Below w.heap.size w (V0.alloc (.cells #[i64 200] 57))) := HBV.out.trans ((below_one V0 _).mono HBV.out.size)
  have HLG : Hid (Calls Tryd.prog 14 #[.agg #[i64 T.kind, i64 T.num, .slice an T.names.length cn, .slice at_ T.kids.length ct], pq V0.heap.size, i64 1] (V0.alloc (.cells #[i64 200] 57)) (LgOk2 (V0.alloc (.cells #[i64 200] 57)) V0.heap.size 200 T)) :=
    large2_ok T.count T (Nat.le_refl _) _ _ _ _ 200 1 ((HRd.out.mono (S' := fun b => b ≠ V0.heap.size) (fun b _ hb => by have := HBV.out.size; omega)).move HBU.out.size (fun b hb hlt => ⟨hb, HBU.out.block b hlt⟩)) HQ.out (by omega) (by omega) (by omega) (by omega)
  have hZV : Z < V0.heap.size := blk_lt HX.out
  have hVw : w.heap.size ≤ V0.heap.size := HBV.out.size
  go_wp2_with fail
  refine HLG.out.mono ?_
  rintro e w2 ⟨b0, m', rfl, _, ht2, hf2⟩
  have HB2 : Hid (Below w.heap.size w w2) := HBU.out.trans (ht2.below hVw HBU.out.size)
  have HX2 : Hid (w2.heap[Z]? = some (stC v T V (.slice an T.names.length cn) (.slice at_ T.kids.length ct) (.slice ka V.kids.length kc))) := by show _ = _; rw [ht2.block Z (by simp; omega) (by omega)]; exact blk_alloc HX.out _
  have HF2 : Hid (b0 = false → T.count ≤ 200 ∧ T.small = true) := fun h => by obtain ⟨g1, g2, g3⟩ := hf2 h; exact ⟨by omega, g3⟩
  clear ht2 hf2 HLG zc0 zc1 zc2 zc3 zc4 zc5 zc6 zc7 zc8 hZV hVw HBV HBU HQ
  cases b0 with
  | true =>
    go_wp2_with fail
    go_ret
    exact ⟨true, rfl, HB2.out, fun h => by cases h⟩
  | false =>
    have HF5 := hid (HF2.out rfl)
    have HQ3 : Hid ((w2.alloc (.cells #[i64 2500] 57)).heap[w2.heap.size]? = some (.cells #[i64 2500] 57)) := heap_last w2 _
    have HB3 : Hid (Below w.heap.size w (w2.alloc (.cells #[i64 2500] 57))) := HB2.out.trans ((below_one w2 _).mono HB2.out.size)
    have HLV : Hid (Calls Tryd.prog 15 #[vlV V (.slice ka V.kids.length kc), pq w2.heap.size, i64 1] (w2.alloc (.cells #[i64 2500] 57)) (LgVk (w2.alloc (.cells #[i64 2500] 57)) w2.heap.size 2500 V)) :=
      largev_ok V.size V (Nat.le_refl _) _ _ _ 2500 1 ((HVd.out.mono (S' := fun b => b ≠ w2.heap.size) (fun b _ hb => by have := HB2.out.size; omega)).move HB3.out.size (fun b hb hlt => ⟨hb, HB3.out.block b hlt⟩)) HQ3.out (by omega) (by omega) (by omega) (by omega)
    have hZV : Z < w2.heap.size := blk_lt HX2.out
    have hVw : w.heap.size ≤ w2.heap.size := HB2.out.size
    have zc0 := blk_cell HX2.out 0
    have zc1 := blk_cell HX2.out 1
    have zc2 := blk_cell HX2.out 2
    have zc3 := blk_cell HX2.out 3
    have zc4 := blk_cell HX2.out 4
    have zc5 := blk_cell HX2.out 5
    have zc6 := blk_cell HX2.out 6
    have zc7 := blk_cell HX2.out 7
    have zc8 := blk_cell HX2.out 8
    go_wp2_with fail
    refine HLV.out.mono ?_
    rintro e w4 ⟨b1, m2, rfl, _, ht4, hf4⟩
    have HB4 : Hid (Below w.heap.size w w4) := HB3.out.trans (ht4.below hVw HB3.out.size)
    have HF4 : Hid (b1 = false → V.size ≤ 2500) := fun h => by have := hf4 h; omega
    clear ht4 hf4 HLV
    go_wp2_with fail
    go_ret
    exact ⟨b1, rfl, HB4.out, fun h => ⟨HF4.out h, HF5.out⟩⟩
end Go.Proofs.YtihbbgcpdgnhoaaDoor
namespace Go.Proofs.YtihbbgcpdgnhoaaDoor
open Go.ChangeShapes Go.WideShapes Go.ChangeAt Go.RowKit Go.Deep
attribute [local go_sem ↓] Go.wp_at_zero Go.wp_at_succ
set_option maxRecDepth 100000

def T16 : Ty := .mk 1 16 [] []
def V300 : Vl := .mk 1 300 [] []
def B300 : Bs := [105, 109, 1, 0, 3, 105, 49, 54, 1, 1, 44]
theorem stO_300 : stO (1 : Nat) T16 V300 = B300 := by decide +kernel
theorem stE_300 : stE (1 : Nat) T16 V300 = 0 := by decide +kernel
theorem rdR_300 : rdR B300 = some (1, T16, V300) := by
  have h : rdS (stB 1 T16 V300 ++ []) = some ((1, T16, V300), []) := rdS_fwd 1 T16 V300 [] (by omega) (by decide +kernel) (by decide +kernel) (by unfold fitV; decide +kernel)
  have e : stB 1 T16 V300 ++ [] = B300 := by decide +kernel
  rw [e] at h
  unfold rdR
  rw [h]
  exact if_pos (by decide +kernel)
theorem ml_below {w w' : World} (h : Ml w) (hb : Below w.heap.size w w') : Ml w' := h.below hb
set_option maxHeartbeats 6400000 in
theorem word_ok (w : World) (hP : Pw w) (hM : Ml w) : Calls Tryd.prog 7 #[] w fun e w' => e = .returned (.bool true) ∧ Below w.heap.size w w' := by
  have HC8 : Hid (∀ W, Pw W → Calls Tryd.prog 8 #[.agg #[i64 1, i64 1, i64 16, .slice none 0 0, .slice none 0 0, i64 1, i64 300, str [], .slice none 0 0]] W fun e w' => e = .returned (.tuple #[str B300, i64 0]) ∧ Below W.heap.size W w') := fun W hW => by
    have := bytes8_ok 1 T16 V300 W (fun _ => True) (fun _ => True) _ _ _ (Vd.leaf W _ 1 300 [] (by simp) none 0) (Rd.leaf W _ 1 16) hW (by decide +kernel) (by omega)
    rw [stO_300, stE_300] at this
    exact this
  have HC16 : Hid (∀ W, Pw W → Calls Tryd.prog 16 #[.agg #[i64 1, i64 1, i64 16, .slice none 0 0, .slice none 0 0, i64 1, i64 300, str [], .slice none 0 0]] W fun e w' => e = .returned (.tuple #[i64 (11 : Nat), i64 0]) ∧ Below W.heap.size W w') := fun W hW => by
    have := size_ok 1 T16 V300 W (fun _ => True) (fun _ => True) _ _ _ (Vd.leaf W _ 1 300 [] (by simp) none 0) (Rd.leaf W _ 1 16) hW (by decide +kernel) (by omega)
    rw [stO_300, stE_300] at this
    exact this
  have HC9 : Hid (∀ W, Ml W → Calls Tryd.prog 9 #[str B300] W fun e w' => ∃ a1 c1 a2 c2 a3 c3, e = .returned (.tuple #[.agg #[i64 1, i64 1, i64 16, .slice a1 0 c1, .slice a2 0 c2, i64 1, i64 300, str [], .slice a3 0 c3], i64 0]) ∧ Below W.heap.size W w') := fun W hW => by
    have := wread_ok W B300 (by decide) hW
    rw [rdR_300] at this
    refine this.mono ?_
    rintro e w' ⟨a1, c1, a2, c2, a3, c3, rfl, hb, _, _⟩
    exact ⟨a1, c1, a2, c2, a3, c3, rfl, hb⟩
  have HP := hid hP
  have HM := hid hM
  have HX := hid (heap_last w (.cells #[i64 1, i64 1, i64 16, .slice none 0 0, .slice none 0 0, i64 1, i64 300, str [], .slice none 0 0] 30))
  have HB0 := hid (below_one w (.cells #[i64 1, i64 1, i64 16, .slice none 0 0, .slice none 0 0, i64 1, i64 300, str [], .slice none 0 0] 30))
  have HP0 := hid (hP.below HB0.out)
  have HC8' := hid (HC8.out _ HP0.out)
  clear hP hM
  go_enter Tryd.func7, Tryd.ntmps7
  go_wp2_with fail
  refine HC8'.out.mono ?_
  rintro e w1 ⟨rfl, hb1⟩
  have HX1 := hid (blk_below HX.out hb1)
  have HB1 : Hid (Below w.heap.size w w1) := HB0.out.trans (hb1.mono HB0.out.size)
  have HC9' := hid (HC9.out w1 (HM.out.below HB1.out))
  clear hb1 HC8' HC8 HC9 HB0 HX HP0
  have hBs : str B300 = .string ⟨#[105, 109, 1, 0, 3, 105, 49, 54, 1, 1, 44]⟩ := rfl
  go_wp2_with fail
  refine HC9'.out.mono ?_
  rintro e w2 ⟨a1, c1, a2, c2, a3, c3, rfl, hb2⟩
  have HX2 := hid (blk_below HX1.out hb2)
  have HB2 : Hid (Below w.heap.size w w2) := HB1.out.trans (hb2.mono HB1.out.size)
  have HX3 := hid (blk_alloc HX2.out (.cells #[i64 1, i64 1, i64 16, .slice a1 0 c1, .slice a2 0 c2, i64 1, i64 300, str [], .slice a3 0 c3] 30))
  have HY3 := hid (heap_last w2 (.cells #[i64 1, i64 1, i64 16, .slice a1 0 c1, .slice a2 0 c2, i64 1, i64 300, str [], .slice a3 0 c3] 30))
  have HB3 : Hid (Below w.heap.size w (w2.alloc (.cells #[i64 1, i64 1, i64 16, .slice a1 0 c1, .slice a2 0 c2, i64 1, i64 300, str [], .slice a3 0 c3] 30))) := HB2.out.trans ((below_one w2 _).mono HB2.out.size)
  have HC16' := hid (HC16.out _ (HP.out.below HB3.out))
  clear hb2 HC9' HC16 HX1 HX2 HB1 HB2
  go_upto_region 4 with fail
  generalize w2.alloc (.cells #[i64 1, i64 1, i64 16, .slice a1 0 c1, .slice a2 0 c2, i64 1, i64 300, str [], .slice a3 0 c3] 30) = w3 at *
  obtain ⟨TB, hTB⟩ : ∃ TB, TB = w2.heap.size := ⟨_, rfl⟩
  rw [← hTB] at HY3 ⊢
  clear hTB
  have x0 := blk_cell HX3.out 0
  have x1 := blk_cell HX3.out 1
  have x2 := blk_cell HX3.out 2
  have x3 := blk_cell HX3.out 3
  have x4 := blk_cell HX3.out 4
  have x5 := blk_cell HX3.out 5
  have x6 := blk_cell HX3.out 6
  have x7 := blk_cell HX3.out 7
  have x8 := blk_cell HX3.out 8
  go_wp2_with fail
  refine HC16'.out.mono ?_
  rintro e w4 ⟨rfl, hb4⟩
  have HY4 := hid (blk_below HY3.out hb4)
  have HB4 : Hid (Below w.heap.size w w4) := HB3.out.trans (hb4.mono HB3.out.size)
  clear hb4 HC16' x0 x1 x2 x3 x4 x5 x6 x7 x8
  have y0 := blk_cell HY4.out 0
  have y1 := blk_cell HY4.out 1
  have y2 := blk_cell HY4.out 2
  have y3 := blk_cell HY4.out 3
  have y4 := blk_cell HY4.out 4
  have y5 := blk_cell HY4.out 5
  have y6 := blk_cell HY4.out 6
  have y7 := blk_cell HY4.out 7
  have y8 := blk_cell HY4.out 8
  go_wp2_with fail
  go_ret
  exact ⟨rfl, HB4.out⟩
end Go.Proofs.YtihbbgcpdgnhoaaDoor
namespace Go.Proofs.YtihbbgcpdgnhoaaDoor
open Go.ChangeShapes Go.WideShapes Go.ChangeAt Go.RowKit Go.Deep
attribute [local go_sem ↓] Go.wp_at_zero Go.wp_at_succ
set_option maxRecDepth 100000

abbrev stD (v : Int) (T : Ty) (V : Vl) (nv tv kv : Value) : Obj := .cells #[i64 v, i64 T.kind, i64 T.num, nv, tv, i64 V.kind, i64 V.num, str V.s, kv] 46
def sameS (v : Int) (T : Ty) (V : Vl) (v' : Int) (T' : Ty) (V' : Vl) : Bool := decide (v = v') && sameB T T' && sameV V V'
set_option maxHeartbeats 6400000 in
theorem rst_same (v v' : Int) (T T' : Ty) (V V' : Vl) (w : World) (S : Nat → Prop) (nv tv kv nv' tv' kv' : Value) (hR : Rd w S T nv tv) (hV : Vd w S V kv) (hR' : Rd w S T' nv' tv') (hV' : Vd w S V' kv') : Calls Tryd.prog 10 #[stV v T V nv tv kv, stV v' T' V' nv' tv' kv'] w fun e w' => e = .returned (.bool (sameS v T V v' T' V')) ∧ Below w.heap.size w w' := by
  have hR0 := hR
  have hV0 := hV
  have hR1 := hR'
  have hV1 := hV'
  obtain ⟨ka, kc, rfl⟩ := hV.form
  obtain ⟨an, cn, rfl, at_, ct, rfl⟩ := hR.form
  obtain ⟨ka', kc', rfl⟩ := hV'.form
  obtain ⟨an', cn', rfl, at', ct', rfl⟩ := hR'.form
  obtain ⟨HXa, HYa, hb0⟩ := two_boxes w (stD v T V (.slice an T.names.length cn) (.slice at_ T.kids.length ct) (.slice ka V.kids.length kc)) (stD v' T' V' (.slice an' T'.names.length cn') (.slice at' T'.kids.length ct') (.slice ka' V'.kids.length kc'))
  have HX := hid HXa
  have HY := hid HYa
  have HB0 := hid hb0
  have HC22 := hid (rsame_ok T.count T (Nat.le_refl _) T' _ S _ _ _ _ (hR0.under hb0) (hR1.under hb0))
  have HC23 := hid fun W hb => vrsame_ok V.size V (Nat.le_refl _) V' W S _ _ (hV0.under hb) (hV1.under (w' := W) hb)
  unfold sameS
  obtain ⟨bT, hbT⟩ : ∃ b, b = sameB T T' := ⟨_, rfl⟩
  rw [← hbT] at HC22 ⊢
  clear hbT
  clear HXa HYa hb0 hR hV hR' hV' hR0 hV0 hR1 hV1
  by_cases hv : v = v'
  · subst hv
    rw [decide_eq_true rfl, Bool.true_and]
    go_enter Tryd.func10, Tryd.ntmps10
    go_wp2_with fail
    refine HC22.out.mono ?_
    rintro e w1 ⟨rfl, hb1⟩
    have HX1 := hid (blk_below HX.out hb1)
    have HY1 := hid (blk_below HY.out hb1)
    have HB1 : Hid (Below w.heap.size w w1) := HB0.out.trans (hb1.mono HB0.out.size)
    clear hb1 HC22
    cases bT with
    | false =>
      go_wp2_with fail
      go_ret
      exact ⟨rfl, HB1.out⟩
    | true =>
      have HC := hid (HC23.out w1 HB1.out)
      clear HC23
      have x0 := blk_cell HX1.out 0
      have x1 := blk_cell HX1.out 1
      have x2 := blk_cell HX1.out 2
      have x3 := blk_cell HX1.out 3
      have x4 := blk_cell HX1.out 4
      have x5 := blk_cell HX1.out 5
      have x6 := blk_cell HX1.out 6
      have x7 := blk_cell HX1.out 7
      have x8 := blk_cell HX1.out 8
      have y0 := blk_cell HY1.out 0
      have y1 := blk_cell HY1.out 1
      have y2 := blk_cell HY1.out 2
      have y3 := blk_cell HY1.out 3
      have y4 := blk_cell HY1.out 4
      have y5 := blk_cell HY1.out 5
      have y6 := blk_cell HY1.out 6
      have y7 := blk_cell HY1.out 7
      have y8 := blk_cell HY1.out 8
      go_wp2_with fail
      refine HC.out.mono ?_
      rintro e w2 ⟨rfl, hb2⟩
      have HB2 : Hid (Below w.heap.size w w2) := HB1.out.trans (hb2.mono HB1.out.size)
      clear hb2 HC
      go_wp2_with fail
      go_ret
      exact ⟨rfl, HB2.out⟩
  · rw [decide_eq_false hv, Bool.false_and, Bool.false_and]
    have hvb : (v == v') = false := beq_false_of_ne hv
    go_enter Tryd.func10, Tryd.ntmps10
    go_wp2_with fail
    go_ret
    exact ⟨rfl, HB0.out⟩
end Go.Proofs.YtihbbgcpdgnhoaaDoor
namespace Go.Proofs.YtihbbgcpdgnhoaaDoor
open Go.ChangeShapes Go.WideShapes Go.ChangeAt Go.RowKit Go.Deep
attribute [local go_sem ↓] Go.wp_at_zero Go.wp_at_succ
set_option maxRecDepth 100000

theorem zero46 (w : World) : (zeroValue 46).run Tryd.prog w = .ok (.agg #[i64 0, i64 0, i64 0, .slice none 0 0, .slice none 0 0, i64 0, i64 0, str [], .slice none 0 0]) w := by kernel_rfl
abbrev z46 : Obj := .cells #[i64 0, i64 0, i64 0, .slice none 0 0, .slice none 0 0, i64 0, i64 0, str [], .slice none 0 0] 46
theorem vload46 {W : World} {b : Nat} {v : Int} {T : Ty} {V : Vl} {nv tv kv : Value} (h : W.heap[b]? = some (stD v T V nv tv kv)) : (loadVar 46 ⟨b, 0, none⟩).run Tryd.prog W = .ok (stV v T V nv tv kv) W := by
  refine run_loadVar_mid _ _ 0 46 [i64 v, i64 T.kind, i64 T.num, nv, tv, i64 V.kind, i64 V.num, str V.s, kv] _ (fun j u hu => ?_) Tryd.underlying46 rfl (by kernel_rfl)
  rw [Nat.zero_add, cell_of_row _ _ _ _ 46 (0, 0) h]
  simpa using hu
theorem bset9 {R : Nat} {w V : World} (h : Below w.heap.size w V) (hR : w.heap.size ≤ R) (p0 p1 p2 p3 p4 p5 p6 p7 p8 : Value) : Below w.heap.size w (((((((((V.setCell ⟨R, 0, none⟩ p0).setCell ⟨R, 1, none⟩ p1).setCell ⟨R, 2, none⟩ p2).setCell ⟨R, 3, none⟩ p3).setCell ⟨R, 4, none⟩ p4).setCell ⟨R, 5, none⟩ p5).setCell ⟨R, 6, none⟩ p6).setCell ⟨R, 7, none⟩ p7).setCell ⟨R, 8, none⟩ p8) :=
  (Below.setCell (p := ⟨R, 8, none⟩) (Below.setCell (p := ⟨R, 7, none⟩) (Below.setCell (p := ⟨R, 6, none⟩) (Below.setCell (p := ⟨R, 5, none⟩) (Below.setCell (p := ⟨R, 4, none⟩) (Below.setCell (p := ⟨R, 3, none⟩) (Below.setCell (p := ⟨R, 2, none⟩) (Below.setCell (p := ⟨R, 1, none⟩) (Below.setCell (p := ⟨R, 0, none⟩) h hR p0) hR p1) hR p2) hR p3) hR p4) hR p5) hR p6) hR p7) hR p8)
structure Sr (Z R : Nat) (o : Obj) (W : World) : Prop where
  z : W.heap[Z]? = some o
  r : W.heap[R]? = some z46
def RefOk (w : World) (v : Int) (T : Ty) (V : Vl) (e : Ending) (w' : World) : Prop := ∃ a1 c1 a2 c2 a3 c3, e = .returned (stV v T V (.slice a1 T.names.length c1) (.slice a2 T.kids.length c2) (.slice a3 V.kids.length c3)) ∧ Below w.heap.size w w' ∧ Rd w' (fun _ => True) T (.slice a1 T.names.length c1) (.slice a2 T.kids.length c2) ∧ Vd w' (fun _ => True) V (.slice a3 V.kids.length c3)
set_option maxHeartbeats 6400000 in
theorem refs_ok (v : Int) (T : Ty) (V : Vl) (w : World) (kv nv tv : Value) (hV : Vd w (fun _ => True) V kv) (hR : Rd w (fun _ => True) T nv tv) (hc : T.count ≤ 1000) (hs : V.size ≤ 3000) : Calls Tryd.prog 11 #[stV v T V nv tv kv] w (RefOk w v T V) := by
  have hV0 : Vd w (fun b => b < w.heap.size) V kv := hV.mono (fun b _ h => h)
  have hR0 : Rd w (fun b => b < w.heap.size) T nv tv := hR.mono (fun b _ h => h)
  obtain ⟨ka, kc, rfl⟩ := hV.form
  obtain ⟨an, cn, rfl, at_, ct, rfl⟩ := hR.form
  obtain ⟨HXa, HYa, hb0⟩ := two_boxes w (stC v T V (.slice an T.names.length cn) (.slice at_ T.kids.length ct) (.slice ka V.kids.length kc)) z46
  have HZ := hid HXa
  have HY := hid HYa
  have HB0 := hid hb0
  have HR0 := hid (hR0.under hb0)
  have HV0 := hid (hV0.under hb0)
  have HCn := hid hc
  have HSn := hid hs
  have hz := zero46
  clear HXa HYa hb0 hV hR hV0 hR0 hc hs
  go_enter Tryd.func11, Tryd.ntmps11
  go_upto_region 1 with fail
  generalize (w.alloc (stC v T V (.slice an T.names.length cn) (.slice at_ T.kids.length ct) (.slice ka V.kids.length kc))).alloc z46 = X at *
  obtain ⟨Z, hZ⟩ : ∃ Z, Z = w.heap.size := ⟨_, rfl⟩
  obtain ⟨R, hRe⟩ : ∃ R, R = w.heap.size + 1 := ⟨_, rfl⟩
  have HRe := hid hRe
  rw [← hRe] at HY ⊢
  rw [← hZ] at HZ ⊢
  clear hZ hRe
  have HS0 : Hid (Sr Z R (stC v T V (.slice an T.names.length cn) (.slice at_ T.kids.length ct) (.slice ka V.kids.length kc)) X.drew) := ⟨HZ.out, HY.out⟩
  have HBd : Hid (Below w.heap.size w X.drew) := HB0.out.trans ((below_drewN (Below.refl _ X) 1).mono HB0.out.size)
  have HRd0 : Hid (Rd X.drew (fun b => b < w.heap.size) T (.slice an T.names.length cn) (.slice at_ T.kids.length ct)) := HR0.out.under (below_drewN (Below.refl _ X) 1)
  have HVd0 : Hid (Vd X.drew (fun b => b < w.heap.size) V (.slice ka V.kids.length kc)) := HV0.out.under (below_drewN (Below.refl _ X) 1)
  have HCT := hid (ref_ok T.count T (Nat.le_refl _) HCn.out w.heap.size X.drew _ _ HBd.out.size HRd0.out)
  clear HR0 HV0 HB0
  refine wp_region_noPanic ?_
  refine wp_region_last (Sr Z R (stC v T V (.slice an T.names.length cn) (.slice at_ T.kids.length ct) (.slice ka V.kids.length kc))) 9 (by kernel_rfl) ?_
  refine wpL_take 0 3 (.pointer (some ⟨Z, 0, none⟩)) [] rfl rfl (by kernel_rfl) (by decide) (by kernel_rfl) (by kernel_rfl) (by kernel_rfl) (fun _ _ _ h => h) HS0.out (by rfl) (fun W hW => by go_simp) ?_
  simp only [Act.put, List.setIfInBounds_toArray, List.set_cons_zero, List.set_cons_succ]
  refine wpL_take 1 4 (i64 v) [] rfl rfl (by kernel_rfl) (by decide) (by kernel_rfl) (by kernel_rfl) (by kernel_rfl) (fun _ _ _ h => h) HS0.out (by rfl) (fun W hW => by have q0 := blk_cell hW.z 0; go_simp) ?_
  simp only [Act.put, List.setIfInBounds_toArray, List.set_cons_zero, List.set_cons_succ]
  refine wpL_take 2 5 (.pointer (some ⟨Z, 1, none⟩)) [] rfl rfl (by kernel_rfl) (by decide) (by kernel_rfl) (by kernel_rfl) (by kernel_rfl) (fun _ _ _ h => h) HS0.out (by rfl) (fun W hW => by go_simp) ?_
  simp only [Act.put, List.setIfInBounds_toArray, List.set_cons_zero, List.set_cons_succ]
  refine wpL_take 3 6 (.agg #[i64 T.kind, i64 T.num, .slice an T.names.length cn, .slice at_ T.kids.length ct]) [] rfl rfl (by kernel_rfl) (by decide) (by kernel_rfl) (by kernel_rfl) (by kernel_rfl) (fun _ _ _ h => h) HS0.out (by rfl) (fun W hW => by have q1 := blk_cell hW.z 1; have q2 := blk_cell hW.z 2; have q3 := blk_cell hW.z 3; have q4 := blk_cell hW.z 4; go_simp) ?_
  simp only [Act.put, List.setIfInBounds_toArray, List.set_cons_zero, List.set_cons_succ]
  refine wpL_take 5 8 (.pointer (some ⟨Z, 5, none⟩)) [] rfl rfl (by kernel_rfl) (by decide) (by kernel_rfl) (by kernel_rfl) (by kernel_rfl) (fun _ _ _ h => h) HS0.out (by rfl) (fun W hW => by go_simp) ?_
  simp only [Act.put, List.setIfInBounds_toArray, List.set_cons_zero, List.set_cons_succ]
  refine wpL_take 6 9 (.agg #[i64 V.kind, i64 V.num, str V.s, .slice ka V.kids.length kc]) [] rfl rfl (by kernel_rfl) (by decide) (by kernel_rfl) (by kernel_rfl) (by kernel_rfl) (fun _ _ _ h => h) HS0.out (by rfl) (fun W hW => by have q5 := blk_cell hW.z 5; have q6 := blk_cell hW.z 6; have q7 := blk_cell hW.z 7; have q8 := blk_cell hW.z 8; go_simp) ?_
  simp only [Act.put, List.setIfInBounds_toArray, List.set_cons_zero, List.set_cons_succ]
  refine wpL_one 4 rfl (by kernel_rfl) (by rfl) (fun K hK => ?_)
  go_simp
  refine HCT.out.mono ?_
  rintro e w2 ⟨a2, n2, c2, rfl, hb2, hrd2⟩
  obtain ⟨an', cn', ee1, at', ct', ee2⟩ := hrd2.form
  cases ee1
  cases ee2
  have HS2 : Hid (Sr Z R (stC v T V (.slice an T.names.length cn) (.slice at_ T.kids.length ct) (.slice ka V.kids.length kc)) w2) := ⟨blk_below HS0.out.z hb2, blk_below HS0.out.r hb2⟩
  have HB2 : Hid (Below w.heap.size w w2) := HBd.out.trans (hb2.mono HBd.out.size)
  have HLX : Hid (R < X.drew.heap.size) := blk_lt HS0.out.r
  have HX2 : Hid (X.drew.heap.size ≤ w2.heap.size) := hb2.size
  have HRd2 := hid hrd2
  have HCV := hid (val_ok V.size V (Nat.le_refl _) HSn.out w2 _ _ (HVd0.out.under hb2))
  clear hb2 hrd2 HCT
  go_simp
  refine hK.out _ _ (fun _ => HS2.out) ?_
  clear hK K
  refine wpL_one 7 rfl (by kernel_rfl) (by rfl) (fun K hK => ?_)
  go_simp
  refine HCV.out.mono ?_
  rintro e w4 ⟨a3, c3, rfl, hb4, hvd4⟩
  have HS4 : Hid (Sr Z R (stC v T V (.slice an T.names.length cn) (.slice at_ T.kids.length ct) (.slice ka V.kids.length kc)) w4) := ⟨blk_below HS2.out.z hb4, blk_below HS2.out.r hb4⟩
  have HB4 : Hid (Below w.heap.size w w4) := HB2.out.trans (hb4.mono HB2.out.size)
  have HRd4 := hid (HRd2.out.under hb4)
  have HVd4 : Hid (Vd w4 (fun b => b < w.heap.size ∨ X.drew.heap.size ≤ b) V (.slice a3 V.kids.length c3)) := hvd4.mono (fun b hb _ => by have := HX2.out; omega)
  clear hb4 hvd4 HCV
  go_simp
  refine hK.out _ _ (fun _ => HS4.out) ?_
  clear hK K
  refine wpL_take 8 11 (stV v T V (.slice an T.names.length cn) (.slice a2 T.kids.length c2) (.slice a3 V.kids.length c3)) [] rfl rfl (by kernel_rfl) (by decide) (by kernel_rfl) (by kernel_rfl) (by kernel_rfl) (fun _ _ _ h => h) HS4.out (by rfl) (fun W hW => by go_simp) ?_
  simp only [Act.put, List.setIfInBounds_toArray, List.set_cons_zero, List.set_cons_succ]
  have rf := blk_frozen HS4.out.r
  have r0 := blk_cell HS4.out.r 0
  have r1 := blk_cell HS4.out.r 1
  have r2 := blk_cell HS4.out.r 2
  have r3 := blk_cell HS4.out.r 3
  have r4 := blk_cell HS4.out.r 4
  have r5 := blk_cell HS4.out.r 5
  have r6 := blk_cell HS4.out.r 6
  have r7 := blk_cell HS4.out.r 7
  have r8 := blk_cell HS4.out.r 8
  refine wpL_one 9 rfl (by kernel_rfl) (by rfl) (fun K hK => ?_)
  go_simp
  refine hK.out _ _ (fun h => absurd rfl h) ?_
  clear hK K
  refine wpL_done (by kernel_rfl) ?_
  refine NoPanic.normal ?_
  go_wp2_with fail
  refine bodyPost_ret (results_one Tryd.results11 rfl (vload46 (v := v) (T := T) (V := V) (set9 HS4.out.r _ _ _ _ _ _ _ _ _))) rfl ⟨an, cn, a2, c2, a3, c3, rfl, ?_, ?_, ?_⟩
  · exact bset9 HB4.out (by have := HRe.out; omega) _ _ _ _ _ _ _ _ _
  · exact HRd4.out.move (by simp [World.setCell]) (fun b hb _ => ⟨trivial, at9 (by have := HRe.out; have := HLX.out; omega) _ _ _ _ _ _ _ _ _⟩)
  · exact HVd4.out.move (by simp [World.setCell]) (fun b hb _ => ⟨trivial, at9 (by have := HRe.out; have := HLX.out; omega) _ _ _ _ _ _ _ _ _⟩)
end Go.Proofs.YtihbbgcpdgnhoaaDoor
namespace Go.Proofs.YtihbbgcpdgnhoaaDoor

mutual
theorem sameB_true : ∀ a b : Ty, sameB a b = true → a = b
  | .mk k n l ks, .mk k' n' l' ks', h => by
    simp only [sameB, Bool.and_eq_true, decide_eq_true_eq] at h
    obtain ⟨⟨⟨⟨rfl, rfl⟩, rfl⟩, _⟩, h⟩ := h
    rw [sameL_true ks ks' h]
theorem sameL_true : ∀ a b : List Ty, sameL a b = true → a = b
  | [], [], _ => rfl
  | a :: r, b :: s, h => by
    simp only [sameL, Bool.and_eq_true] at h
    rw [sameB_true a b h.1, sameL_true r s h.2]
  | [], _ :: _, h => by simp [sameL] at h
  | _ :: _, [], h => by simp [sameL] at h
end
mutual
theorem sameV_refl : ∀ a : Vl, sameV a a = true
  | .mk k n s l => by simp [sameV, sameW_refl l]
theorem sameW_refl : ∀ l : List Vl, sameW l l = true
  | [] => rfl
  | a :: r => by simp [sameW, sameV_refl a, sameW_refl r]
end
mutual
theorem sameV_true : ∀ a b : Vl, sameV a b = true → a = b
  | .mk k n s l, .mk k' n' s' l', h => by
    simp only [sameV, Bool.and_eq_true, decide_eq_true_eq] at h
    obtain ⟨⟨⟨⟨rfl, rfl⟩, rfl⟩, _⟩, h⟩ := h
    rw [sameW_true l l' h]
theorem sameW_true : ∀ a b : List Vl, sameW a b = true → a = b
  | [], [], _ => rfl
  | a :: r, b :: s, h => by
    simp only [sameW, Bool.and_eq_true] at h
    rw [sameV_true a b h.1, sameW_true r s h.2]
  | [], _ :: _, h => by simp [sameW] at h
  | _ :: _, [], h => by simp [sameW] at h
end
theorem sameS_refl (v : Int) (T : Ty) (V : Vl) : sameS v T V v T V = true := by
  simp [sameS, sameB_refl, sameV_refl]
theorem sameS_true {v v' : Int} {T T' : Ty} {V V' : Vl} (h : sameS v T V v' T' V' = true) : v = v' ∧ T = T' ∧ V = V' := by
  simp only [sameS, Bool.and_eq_true, decide_eq_true_eq] at h
  exact ⟨h.1.1, sameB_true _ _ h.1.2, sameV_true _ _ h.2⟩
theorem begB_self (a : Bs) : begB a a = true := by simp [begB]
theorem begB_true {a b : Bs} (h : begB a b = true) : ∃ x, a = b ++ x := by
  simp only [begB, Bool.and_eq_true, decide_eq_true_eq, beq_iff_eq] at h
  refine ⟨a.drop b.length, ?_⟩
  have e := List.take_append_drop b.length a
  rw [h.2] at e
  exact e.symm
/-- What is written, where it is. -/
theorem stE_zero {v : Int} {T : Ty} {V : Vl} (h : stE v T V = 0) : 0 ≤ v ∧ v ≤ 255 ∧ T.err = 0 ∧ T.txt.length < 65536 ∧ fitV V T ∧ stO v T V = stB v.toNat T V := by
  have ho : stO v T V = stB v.toNat T V := by rw [stO, if_pos h]
  unfold stE at h
  by_cases hv : v < 0 ∨ 255 < v
  · rw [if_pos hv] at h; omega
  · rw [if_neg hv] at h
    cases hf : fitsB V T
    · rw [hf] at h
      simp at h
    · rw [hf] at h
      simp only [if_true] at h
      by_cases hl : 6000 < 5 + T.txt.length + (wrtV V T).length
      · rw [if_pos hl] at h; omega
      · obtain ⟨h1, h2⟩ := (fitsB_iff V T).1 hf
        exact ⟨by omega, by omega, h1, by omega, h2, ho⟩
theorem apart_eq {v v' : Int} {T T' : Ty} {V V' : Vl} (h : stE v T V = 0) (h' : stE v' T' V' = 0) : (begB (stO v T V) (stO v' T' V') || begB (stO v' T' V') (stO v T V)) = sameS v T V v' T' V' := by
  obtain ⟨a1, a2, a3, a4, a5, a6⟩ := stE_zero h
  obtain ⟨b1, b2, b3, b4, b5, b6⟩ := stE_zero h'
  rw [a6, b6]
  cases hs : sameS v T V v' T' V'
  · rw [Bool.or_eq_false_iff]
    have key : ∀ {v v' : Int} {T T' : Ty} {V V' : Vl}, 0 ≤ v → v ≤ 255 → T.err = 0 → T.txt.length < 65536 → fitV V T → 0 ≤ v' → v' ≤ 255 → T'.err = 0 → T'.txt.length < 65536 → fitV V' T' → begB (stB v.toNat T V) (stB v'.toNat T' V') = true → v = v' ∧ T = T' ∧ V = V' := by
      intro v v' T T' V V' a1 a2 a3 a4 a5 b1 b2 b3 b4 b5 hb
      obtain ⟨x, hx⟩ := begB_true hb
      obtain ⟨e1, e2, e3, _⟩ := stB_apart (by omega) a3 a4 a5 (by omega) b3 b4 b5 hx
      exact ⟨by omega, e2, e3⟩
    constructor
    · cases hb : begB (stB v.toNat T V) (stB v'.toNat T' V')
      · rfl
      · obtain ⟨rfl, rfl, rfl⟩ := key a1 a2 a3 a4 a5 b1 b2 b3 b4 b5 hb
        rw [sameS_refl] at hs
        cases hs
    · cases hb : begB (stB v'.toNat T' V') (stB v.toNat T V)
      · rfl
      · obtain ⟨rfl, rfl, rfl⟩ := key b1 b2 b3 b4 b5 a1 a2 a3 a4 a5 hb
        rw [sameS_refl] at hs
        cases hs
  · obtain ⟨rfl, rfl, rfl⟩ := sameS_true hs
    rw [begB_self]
    rfl
/-- What was written is read. -/
theorem back_fwd {v : Int} {T : Ty} {V : Vl} (h : stE v T V = 0) : rdS (stO v T V) = some ((v.toNat, T, V), []) := by
  obtain ⟨a1, a2, a3, a4, a5, a6⟩ := stE_zero h
  have := rdS_fwd v.toNat T V [] (by omega) a3 a4 a5
  rw [List.append_nil] at this
  rw [a6]
  exact this
end Go.Proofs.YtihbbgcpdgnhoaaDoor
namespace Go.Proofs.YtihbbgcpdgnhoaaDoor
open Go.ChangeShapes Go.WideShapes Go.ChangeAt Go.RowKit Go.Deep
attribute [local go_sem ↓] Go.wp_at_zero Go.wp_at_succ

mutual
theorem wrtV_ge : ∀ (V : Vl) (T : Ty), T.formed = true → fitV V T → V.size ≤ (wrtV V T).length
  | .mk k n t l, T, hf, hV => by
    obtain ⟨ha, hL⟩ := (fitV_iff _ T).1 hV
    have hk := alone_kind ha
    have hs : (Vl.mk k n t l).size = 1 + sizeL l := rfl
    rcases node_kind hf with h1 | h2 | h3 | h4
    · have e3 : l = [] := (alone_1 ha h1).2.2.2
      subst e3
      rw [wrtV_1 _ T (by omega), List.length_cons, tb_len]
      simp [sizeL] at hs
      omega
    · have e3 : l = [] := (alone_2 ha h2).2.2
      subst e3
      rw [wrtV_2 _ T (by omega), List.length_cons, List.length_cons]
      simp [sizeL] at hs
      omega
    · have hn := node_3 hf h3
      rw [wrtV_3 _ T (by omega) (by omega), List.length_cons, List.length_cons]
      have := wrtL_ge l 0 T hf hL (fun _ => by omega) (fun h => absurd h3 h)
      show _ ≤ (wrtL l 0 T).length + 1 + 1
      omega
    · have hn := node_4 hf h4
      obtain ⟨_, _, e3⟩ := alone_4 ha h4
      have e3 : l.length = T.kids.length := e3
      rw [wrtV_3 _ T (by omega) (by omega), List.length_cons, List.length_cons]
      have := wrtL_ge l 0 T hf hL (fun h => by omega) (fun _ => by omega)
      show _ ≤ (wrtL l 0 T).length + 1 + 1
      omega
theorem wrtL_ge : ∀ (l : List Vl) (i : Nat) (T : Ty), T.formed = true → fitL l i T → (T.kind = 3 → 0 < T.kids.length) → (T.kind ≠ 3 → i + l.length ≤ T.kids.length) → sizeL l ≤ (wrtL l i T).length
  | [], _, _, _, _, _, _ => by simp [sizeL]
  | v :: r, i, T, hf, hL, h3, h4 => by
    obtain ⟨h1, h2⟩ := (fitL_cons v r i T).1 hL
    have h4' : T.kind ≠ 3 → i < T.kids.length := fun h => by have := h4 h; simp only [List.length_cons] at this; omega
    have a := wrtV_ge v (kidT T i) (kidT_formed hf i h3 h4') h1
    have b := wrtL_ge r (i + 1) T hf h2 h3 (fun h => by have := h4 h; simp only [List.length_cons] at this; omega)
    rw [wrtL, List.length_append]
    have e : sizeL (v :: r) = v.size + sizeL r := rfl
    omega
end
theorem stB_len (v : Nat) (T : Ty) (V : Vl) : (stB v T V).length = 5 + T.txt.length + (wrtV V T).length := by
  simp [stB, tb_len]
  omega
/-- What was written is read. -/
theorem back_read {v : Int} {T : Ty} {V : Vl} (h : stE v T V = 0) : rdR (stO v T V) = some (v.toNat, T, V) ∧ (stO v T V).length ≤ 6000 ∧ ((v.toNat : Nat) : Int) = v := by
  have hb := back_fwd h
  obtain ⟨h0, h1, h2, h3, h4, h5⟩ := stE_zero h
  have hf : fitsB V T = true := (fitsB_iff V T).2 ⟨h2, h4⟩
  refine ⟨by rw [rdR, hb]; simp [hf], ?_, by omega⟩
  rw [h5, stB_len]
  unfold stE at h
  rw [if_neg (by omega), if_pos hf] at h
  by_cases hl : 6000 < 5 + T.txt.length + (wrtV V T).length
  · rw [if_pos hl] at h; omega
  · omega
/-- What is read is written as it was. -/
theorem read_back {b : Bs} {v : Nat} {T : Ty} {V : Vl} (h : rdR b = some (v, T, V)) (hl : b.length ≤ 6000) : stE v T V = 0 ∧ stO v T V = b ∧ v < 256 ∧ V.size ≤ b.length ∧ fitsB V T = true := by
  unfold rdR at h
  split at h
  · rename_i v' T' V' hs
    obtain ⟨hb, hv, hT⟩ := rdS_back hs
    rw [List.append_nil] at hb
    split at h
    · rename_i hf
      simp only [Option.some.injEq, Prod.mk.injEq] at h
      obtain ⟨rfl, rfl, rfl⟩ := h
      have hlen := stB_len v' T' V'
      rw [← hb] at hlen
      have hE : stE v' T' V' = 0 := by
        unfold stE
        rw [if_neg (by omega), if_pos hf, if_neg (by omega)]
      have hfit := ((fitsB_iff V' T').1 hf).2
      have hfm := (right_formed (right_of_err hT)).1
      have := wrtV_ge V' T' hfm hfit
      refine ⟨hE, ?_, hv, by omega, hf⟩
      rw [stO, if_pos hE, Int.toNat_natCast]
      exact hb.symm
    · cases h
  · cases h
/-- Bytes of any state. -/
theorem bytesS_any (v : Int) (T : Ty) (V : Vl) (w : World) (kv nv tv : Value) (hV : Vd w (fun _ => True) V kv) (hR : Rd w (fun _ => True) T nv tv) (hP : Pw w) (hsz : V.size ≤ 3000) : Calls Tryd.prog 8 #[stV v T V nv tv kv] w fun e w' => e = .returned (.tuple #[str (stO v T V), i64 (stE v T V)]) ∧ Below w.heap.size w w' := by
  by_cases hv : v < 0 ∨ 255 < v
  · obtain ⟨ka, kc, rfl⟩ := hV.form
    obtain ⟨an, cn, rfl, at_, ct, rfl⟩ := hR.form
    have e1 : stE v T V = 1 := by rw [stE, if_pos hv]
    have e2 : stO v T V = [] := by rw [stO, if_neg (by rw [e1]; decide)]
    rw [e1, e2]
    exact bytes8_arg v T V w an at_ ka _ cn _ ct _ kc hv
  · obtain ⟨n, hn⟩ : ∃ n : Nat, v = (n : Int) := ⟨v.toNat, by omega⟩
    subst hn
    exact bytes8_ok n T V w _ _ kv nv tv hV hR hP hsz (by omega)
set_option maxRecDepth 100000 in
set_option maxHeartbeats 6400000 in
theorem back_core (v : Int) (T : Ty) (V : Vl) (l : Bs) (w : World) (an at_ ka : Option Addr) (cn ct kc : Nat) (nv tv kv : Value) (h1 : nv = .slice an T.names.length cn) (h2 : tv = .slice at_ T.kids.length ct) (h3 : kv = .slice ka V.kids.length kc) (hV : Vd w (fun _ => True) V kv) (hR : Rd w (fun _ => True) T nv tv) (hP : Pw w) (hM : Ml w) : Calls Tryd.prog 3 #[stV v T V nv tv kv, str l] w fun e w' => e = .returned (.bool true) ∧ Below w.heap.size w w' := by
  have HX0 := hid (heap_last w (stC v T V nv tv kv))
  have HB0 := hid (below_one w (stC v T V nv tv kv))
  have C6 := hid fun W (hb : Below w.heap.size w W) => much_ok v T V W kv nv tv (hV.under hb) (hR.under hb)
  have W7 := hid fun W (hb : Below w.heap.size w W) => word_ok W (hP.below hb) (hM.below hb)
  have C8 := hid fun W (hb : Below w.heap.size w W) (hs : V.size ≤ 3000) => bytesS_any v T V W kv nv tv (hV.under hb) (hR.under hb) (hP.below hb) hs
  have R1 := hid fun W (hb : Below w.heap.size w W) (hs : V.size ≤ 3000) (hc : T.count ≤ 1000) => refs_ok v T V W kv nv tv (hV.under hb) (hR.under hb) hc hs
  have RA := hid fun W (hb : Below w.heap.size w W) (h : stE v T V = 0) => (back_read h).1 ▸ wread_ok W (stO v T V) (back_read h).2.1 (hM.below hb)
  have RV := hid fun (h : stE v T V = 0) => (back_read (v := v) (T := T) (V := V) h).2.2
  have RD := hid fun W (hb : Below w.heap.size w W) (hl : l.length ≤ 6000) => wread_ok W l hl (hM.below hb)
  have HP := hid hP
  obtain ⟨A, hA⟩ : ∃ A, A = stO v T V := ⟨_, rfl⟩
  obtain ⟨E, hE⟩ : ∃ E, E = stE v T V := ⟨_, rfl⟩
  rw [← hA, ← hE] at C8
  rw [← hA, ← hE] at RA
  rw [← hE] at RV
  clear hV hR hP hM hA hE
  subst h1 h2 h3
  go_enter Tryd.func3, Tryd.ntmps3
  go_wp2_with fail
  refine (C6.out _ HB0.out).mono ?_
  rintro e w1 ⟨b1, rfl, hb1, hs1⟩
  have HX1 := hid (blk_below HX0.out hb1)
  have HB1 : Hid (Below w.heap.size w w1) := HB0.out.trans (hb1.mono HB0.out.size)
  clear hb1
  cases b1 with
  | true =>
    clear hs1
    go_wp2_with fail
    refine (W7.out w1 HB1.out).mono ?_
    rintro e wz ⟨rfl, hbz⟩
    have HBz : Hid (Below w.heap.size w wz) := HB1.out.trans (hbz.mono HB1.out.size)
    clear hbz
    go_wp2_with fail
    go_ret
    exact ⟨rfl, HBz.out⟩
  | false =>
    obtain ⟨z1, z2, _⟩ := hs1 rfl
    clear hs1
    by_cases hl : l.length ≤ 2500
    · replace RD := hid fun W hb => RD.out W hb (by omega)
      have x0 := blk_cell HX1.out 0
      have x1 := blk_cell HX1.out 1
      have x2 := blk_cell HX1.out 2
      have x3 := blk_cell HX1.out 3
      have x4 := blk_cell HX1.out 4
      have x5 := blk_cell HX1.out 5
      have x6 := blk_cell HX1.out 6
      have x7 := blk_cell HX1.out 7
      have x8 := blk_cell HX1.out 8
      go_wp2_with fail
      refine (C8.out _ HB1.out (by omega)).mono ?_
      rintro e w2 ⟨rfl, hb2⟩
      have HX2 := hid (blk_below HX1.out hb2)
      have HB2 : Hid (Below w.heap.size w w2) := HB1.out.trans (hb2.mono HB1.out.size)
      clear hb2
      clear x0 x1 x2 x3 x4 x5 x6 x7 x8
      by_cases hE0 : E = 0
      · have q1 : (E == 0) = true := beq_iff_eq.2 hE0
        have rv := RV.out hE0
        replace RA := hid fun W hb => RA.out W hb hE0
        have HRV : Hid (((v.toNat : Nat) : Int) = v) := rv
        clear hE0 RV rv
        go_wp2_with fail
        refine (RA.out w2 HB2.out).mono ?_
        intro e w3 hok
        obtain ⟨a1, c1, a2, c2, a3, c3, he, hb3, hR3, hV3⟩ : RYes w2 v.toNat T V e w3 := hok
        rw [HRV.out] at he
        subst he
        have HB3 : Hid (Below w.heap.size w w3) := HB2.out.trans (hb3.mono HB2.out.size)
        have HB4 : Hid (Below w.heap.size w (w3.alloc (stC v T V (.slice a1 T.names.length c1) (.slice a2 T.kids.length c2) (.slice a3 V.kids.length c3)))) := HB3.out.alloc HB3.out.size _
        have HB4d : Hid (Below w.heap.size w (w3.alloc (stC v T V (.slice a1 T.names.length c1) (.slice a2 T.kids.length c2) (.slice a3 V.kids.length c3))).drew) := HB4.out.drew
        have HV4 := hid fun W (hb : Below w3.heap.size w3 W) => refs_ok v T V W _ _ _ ((hV3.under hb).mono (fun _ _ _ => trivial)) ((hR3.under hb).mono (fun _ _ _ => trivial)) (by omega) (by omega)
        replace R1 := hid fun W hb => R1.out W hb (by omega) (by omega)
        have HB34 := hid (below_one w3 (stC v T V (.slice a1 T.names.length c1) (.slice a2 T.kids.length c2) (.slice a3 V.kids.length c3)))
        have HS : Hid ((fun W : World => W.heap[w.heap.size]? = some (stC v T V (.slice an T.names.length cn) (.slice at_ T.kids.length ct) (.slice ka V.kids.length kc)) ∧ W.heap[w3.heap.size]? = some (stC v T V (.slice a1 T.names.length c1) (.slice a2 T.kids.length c2) (.slice a3 V.kids.length c3))) (w3.alloc (stC v T V (.slice a1 T.names.length c1) (.slice a2 T.kids.length c2) (.slice a3 V.kids.length c3))).drew) := ⟨(blk_alloc (blk_below HX2.out hb3) _), heap_last w3 _⟩
        have HSA := hid (sameS_refl v T V)
        clear hb3 hR3 hV3
        go_upto_region 6 with fail
        refine wp_region_noPanic ?_
        refine wp_region_last (fun W : World => W.heap[w.heap.size]? = some (stC v T V (.slice an T.names.length cn) (.slice at_ T.kids.length ct) (.slice ka V.kids.length kc)) ∧ W.heap[w3.heap.size]? = some (stC v T V (.slice a1 T.names.length c1) (.slice a2 T.kids.length c2) (.slice a3 V.kids.length c3))) 9 (by kernel_rfl) ?_
        refine wpL_take 0 33 (i64 0) [1, 2] rfl rfl (by kernel_rfl) (by decide) (by kernel_rfl) (by kernel_rfl) (by kernel_rfl) (fun _ _ _ h => h) HS.out (by rfl) (fun W hW => by go_simp) ?_
        simp only [Act.put, List.setIfInBounds_toArray, List.set_cons_zero, List.set_cons_succ]
        refine wpL_take 1 34 (.bool false) [2] rfl rfl (by kernel_rfl) (by decide) (by kernel_rfl) (by kernel_rfl) (by kernel_rfl) (fun _ _ _ h => h) HS.out (by rfl) (fun W hW => by go_simp) ?_
        simp only [Act.put, List.setIfInBounds_toArray, List.set_cons_zero, List.set_cons_succ]
        refine wpL_take 2 35 (.bool false) [] rfl rfl (by kernel_rfl) (by decide) (by kernel_rfl) (by kernel_rfl) (by kernel_rfl) (fun _ _ _ h => h) HS.out (by rfl) (fun W hW => by go_simp) ?_
        simp only [Act.put, List.setIfInBounds_toArray, List.set_cons_zero, List.set_cons_succ]
        refine wpL_take 3 36 (stV v T V (.slice an T.names.length cn) (.slice at_ T.kids.length ct) (.slice ka V.kids.length kc)) [4, 7, 8] rfl rfl (by kernel_rfl) (by decide) (by kernel_rfl) (by kernel_rfl) (by kernel_rfl) (fun _ _ _ h => h) HS.out (by rfl) (fun W hW => by exact exec_load 30 (.tmp 2) rfl rfl (vload30 hW.1)) ?_
        simp only [Act.put, List.setIfInBounds_toArray, List.set_cons_zero, List.set_cons_succ]
        refine wpL_take 5 38 (stV v T V (.slice a1 T.names.length c1) (.slice a2 T.kids.length c2) (.slice a3 V.kids.length c3)) [6, 7, 8] rfl rfl (by kernel_rfl) (by decide) (by kernel_rfl) (by kernel_rfl) (by kernel_rfl) (fun _ _ _ h => h) HS.out (by rfl) (fun W hW => by exact exec_load 30 (.tmp 7) rfl rfl (vload30 hW.2)) ?_
        simp only [Act.put, List.setIfInBounds_toArray, List.set_cons_zero, List.set_cons_succ]
        refine wpL_one 4 rfl (by kernel_rfl) (by rfl) (fun K hK => ?_)
        go_simp
        refine (R1.out (w3.alloc (stC v T V (.slice a1 T.names.length c1) (.slice a2 T.kids.length c2) (.slice a3 V.kids.length c3))).drew HB4d.out).mono ?_
        rintro e w5 ⟨p1, q1, p2, q2, p3, q3, rfl, hb5, hR5, hV5⟩
        have HS5 : Hid ((fun W : World => W.heap[w.heap.size]? = some (stC v T V (.slice an T.names.length cn) (.slice at_ T.kids.length ct) (.slice ka V.kids.length kc)) ∧ W.heap[w3.heap.size]? = some (stC v T V (.slice a1 T.names.length c1) (.slice a2 T.kids.length c2) (.slice a3 V.kids.length c3))) w5) := ⟨blk_below HS.out.1 hb5, blk_below HS.out.2 hb5⟩
        have HB5 : Hid (Below w.heap.size w w5) := HB4d.out.trans (hb5.mono HB4d.out.size)
        have HB35 : Hid (Below w3.heap.size w3 w5) := (HB34.out.drew).trans (hb5.mono (by simp))
        have HR5 := hid hR5
        have HV5 := hid hV5
        clear hb5 hR5 hV5
        go_simp
        refine hK.out _ _ (fun _ => HS5.out) ?_
        clear hK K
        refine wpL_one 6 rfl (by kernel_rfl) (by rfl) (fun K hK => ?_)
        go_simp
        refine (HV4.out w5 HB35.out).mono ?_
        rintro e w6 ⟨p4, q4, p5, q5, p6, q6, rfl, hb6, hR6, hV6⟩
        have HS6 : Hid ((fun W : World => W.heap[w.heap.size]? = some (stC v T V (.slice an T.names.length cn) (.slice at_ T.kids.length ct) (.slice ka V.kids.length kc)) ∧ W.heap[w3.heap.size]? = some (stC v T V (.slice a1 T.names.length c1) (.slice a2 T.kids.length c2) (.slice a3 V.kids.length c3))) w6) := ⟨blk_below HS5.out.1 hb6, blk_below HS5.out.2 hb6⟩
        have HB6 : Hid (Below w.heap.size w w6) := HB5.out.trans (hb6.mono HB5.out.size)
        have HSm := hid (rst_same v v T T V V w6 _ _ _ _ _ _ _ (HR5.out.under hb6) (HV5.out.under hb6) hR6 hV6)
        rw [HSA.out] at HSm
        clear hb6 hR6 hV6
        go_simp
        refine hK.out _ _ (fun _ => HS6.out) ?_
        clear hK K
        refine wpL_one 7 rfl (by kernel_rfl) (by rfl) (fun K hK => ?_)
        go_simp
        refine HSm.out.mono ?_
        rintro e w7 ⟨rfl, hb7⟩
        have HS7 : Hid ((fun W : World => W.heap[w.heap.size]? = some (stC v T V (.slice an T.names.length cn) (.slice at_ T.kids.length ct) (.slice ka V.kids.length kc)) ∧ W.heap[w3.heap.size]? = some (stC v T V (.slice a1 T.names.length c1) (.slice a2 T.kids.length c2) (.slice a3 V.kids.length c3))) w7) := ⟨blk_below HS6.out.1 hb7, blk_below HS6.out.2 hb7⟩
        have HB7 : Hid (Below w.heap.size w w7) := HB6.out.trans (hb7.mono HB6.out.size)
        clear hb7 HSm
        go_simp
        refine hK.out _ _ (fun _ => HS7.out) ?_
        clear hK K
        refine wpL_take 8 41 (.bool false) [] rfl rfl (by kernel_rfl) (by decide) (by kernel_rfl) (by kernel_rfl) (by kernel_rfl) (fun _ _ _ h => h) HS7.out (by rfl) (fun W hW => by go_simp) ?_
        simp only [Act.put, List.setIfInBounds_toArray, List.set_cons_zero, List.set_cons_succ]
        refine wpL_one 9 rfl (by kernel_rfl) (by rfl) (fun K hK => ?_)
        go_simp
        refine hK.out _ _ (fun h => absurd rfl h) ?_
        clear hK K
        refine wpL_done (by kernel_rfl) ?_
        refine NoPanic.normal ?_
        clear HS HS5 HS6 HS7 HR5 HV5 HV4 R1 C6 C8 HX2 HX1 HX0 HB4d HB34 HB35
        go_wp2_with fail
        refine (RD.out w7 HB7.out).mono ?_
        cases hr : rdR l with
        | none =>
          intro e wa hok
          obtain ⟨rfl, hba⟩ : RNo 4 w7 e wa := hok
          have HBa : Hid (Below w.heap.size w wa) := HB7.out.trans (hba.mono HB7.out.size)
          have HBa2 : Hid (Below w.heap.size w (wa.alloc (.cells #[i64 0, i64 0, i64 0, .slice none 0 0, .slice none 0 0, i64 0, i64 0, str [], .slice none 0 0] 30))) := HBa.out.alloc HBa.out.size _
          clear hba
          go_wp2_with fail
          refine (W7.out _ HBa2.out).mono ?_
          rintro e wz ⟨rfl, hbz⟩
          have HBz : Hid (Below w.heap.size w wz) := HBa2.out.trans (hbz.mono HBa2.out.size)
          clear hbz
          go_wp2_with fail
          go_ret
          exact ⟨rfl, HBz.out⟩
        | some p =>
          obtain ⟨v', T', V'⟩ := p
          intro e wa hok
          obtain ⟨a1, c1, a2, c2, a3, c3, rfl, hba, hRa, hVa⟩ : RYes w7 v' T' V' e wa := hok
          obtain ⟨r1, r2, r3, r4, _⟩ := read_back hr (by omega)
          have HBa : Hid (Below w.heap.size w wa) := HB7.out.trans (hba.mono HB7.out.size)
          have HBa2 : Hid (Below w.heap.size w (wa.alloc (stC v' T' V' (.slice a1 T'.names.length c1) (.slice a2 T'.kids.length c2) (.slice a3 V'.kids.length c3)))) := HBa.out.alloc HBa.out.size _
          have C10 := hid (bytes8_ok v' T' V' (wa.alloc (stC v' T' V' (.slice a1 T'.names.length c1) (.slice a2 T'.kids.length c2) (.slice a3 V'.kids.length c3))) _ _ _ _ _ (hVa.under (below_one wa _)) (hRa.under (below_one wa _)) (HP.out.below HBa2.out) (by omega) r3)
          rw [r1, r2] at C10
          clear hba hRa hVa r1 r2 r3 r4 hr
          go_wp2_with fail
          refine C10.out.mono ?_
          rintro e wb ⟨rfl, hbb⟩
          have HBb : Hid (Below w.heap.size w wb) := HBa2.out.trans (hbb.mono HBa2.out.size)
          clear hbb C10
          go_wp2_with fail
          refine (W7.out wb HBb.out).mono ?_
          rintro e wz ⟨rfl, hbz⟩
          have HBz : Hid (Below w.heap.size w wz) := HBb.out.trans (hbz.mono HBb.out.size)
          clear hbz
          go_wp2_with fail
          go_ret
          exact ⟨rfl, HBz.out⟩
      · have q1 : (E == 0) = false := beq_false_of_ne hE0
        clear hE0 RV RA
        go_wp2_with fail
        refine (RD.out w2 HB2.out).mono ?_
        cases hr : rdR l with
        | none =>
          intro e wa hok
          obtain ⟨rfl, hba⟩ : RNo 4 w2 e wa := hok
          have HBa : Hid (Below w.heap.size w wa) := HB2.out.trans (hba.mono HB2.out.size)
          have HBa2 : Hid (Below w.heap.size w (wa.alloc (.cells #[i64 0, i64 0, i64 0, .slice none 0 0, .slice none 0 0, i64 0, i64 0, str [], .slice none 0 0] 30))) := HBa.out.alloc HBa.out.size _
          clear hba
          go_wp2_with fail
          refine (W7.out _ HBa2.out).mono ?_
          rintro e wz ⟨rfl, hbz⟩
          have HBz : Hid (Below w.heap.size w wz) := HBa2.out.trans (hbz.mono HBa2.out.size)
          clear hbz
          go_wp2_with fail
          go_ret
          exact ⟨rfl, HBz.out⟩
        | some p =>
          obtain ⟨v', T', V'⟩ := p
          intro e wa hok
          obtain ⟨a1, c1, a2, c2, a3, c3, rfl, hba, hRa, hVa⟩ : RYes w2 v' T' V' e wa := hok
          obtain ⟨r1, r2, r3, r4, _⟩ := read_back hr (by omega)
          have HBa : Hid (Below w.heap.size w wa) := HB2.out.trans (hba.mono HB2.out.size)
          have HBa2 : Hid (Below w.heap.size w (wa.alloc (stC v' T' V' (.slice a1 T'.names.length c1) (.slice a2 T'.kids.length c2) (.slice a3 V'.kids.length c3)))) := HBa.out.alloc HBa.out.size _
          have C10 := hid (bytes8_ok v' T' V' (wa.alloc (stC v' T' V' (.slice a1 T'.names.length c1) (.slice a2 T'.kids.length c2) (.slice a3 V'.kids.length c3))) _ _ _ _ _ (hVa.under (below_one wa _)) (hRa.under (below_one wa _)) (HP.out.below HBa2.out) (by omega) r3)
          rw [r1, r2] at C10
          clear hba hRa hVa r1 r2 r3 r4 hr
          go_wp2_with fail
          refine C10.out.mono ?_
          rintro e wb ⟨rfl, hbb⟩
          have HBb : Hid (Below w.heap.size w wb) := HBa2.out.trans (hbb.mono HBa2.out.size)
          clear hbb C10
          go_wp2_with fail
          refine (W7.out wb HBb.out).mono ?_
          rintro e wz ⟨rfl, hbz⟩
          have HBz : Hid (Below w.heap.size w wz) := HBb.out.trans (hbz.mono HBb.out.size)
          clear hbz
          go_wp2_with fail
          go_ret
          exact ⟨rfl, HBz.out⟩
    · have hl' : 2500 < l.length := by omega
      clear hl
      go_wp2_with fail
      refine (W7.out w1 HB1.out).mono ?_
      rintro e wz ⟨rfl, hbz⟩
      have HBz : Hid (Below w.heap.size w wz) := HB1.out.trans (hbz.mono HB1.out.size)
      clear hbz
      go_wp2_with fail
      go_ret
      exact ⟨rfl, HBz.out⟩
end Go.Proofs.YtihbbgcpdgnhoaaDoor
namespace Go.Proofs.YtihbbgcpdgnhoaaDoor
open Go.ChangeShapes Go.WideShapes Go.ChangeAt Go.RowKit Go.Deep
attribute [local go_sem ↓] Go.wp_at_zero Go.wp_at_succ

theorem exec_slice {P : Program} {op : Oper} {a : Act} {w : World} {u v : Value} (ty : TypeId) (x : Operand) (lo hi : Option Operand) (vl vh : Option Value) (ho : op.op = .slice ty x lo hi none) (hx : a.eval x = v) (hl : lo.map a.eval = vl) (hh : hi.map a.eval = vh)
    (h : (Instr.sliceAt ty v vl vh none).run P w = .ok u w) : (execOp a.eval op).run P w = .ok (.value u) w := by
  unfold execOp
  simp only [ho, hx, hl, hh, Option.map_none, Sem.run_bind, Sem.run_pure, Result.andThen_ok, h]
theorem wp_conv_run {P : Program} {w : World} {o : Oper} {a : Act} {K : Act → World → Prop} {Q : Exit → Act → World → Prop} (t1 t2 : TypeId) (x : Operand)
    (ho : o.op = .convert t1 t2 x) (v : Value) (hx : a.eval x = v) (u : Value) (hr : (convert t1 t2 v).run P w = .ok u w) (h : K (a.put o.dst u) w) : Oper.wp P o a w K Q := by
  unfold Oper.wp execOp
  simp only [ho, hx, Sem.run_bind, Sem.run_pure, Result.andThen_ok, hr]
  exact h
theorem pre_run (W : World) (l : Bs) (K : Nat) (h : K ≤ l.length) : (Instr.sliceAt 9 (str l) none (some (i64 K)) none).run Tryd.prog W = .ok (str (l.take K)) W := by
  have hs := bsize l
  have e1 := slice_pre l K
  simp [Instr.sliceAt, Instr.slice, run_underlying Tryd.underlying9, Instr.sliceBounds, Instr.sliceBound, asIntOf, hs, e1, h]
theorem suf_run (W : World) (l : Bs) (K : Nat) (h : K ≤ l.length) : (Instr.sliceAt 9 (str l) (some (i64 K)) none none).run Tryd.prog W = .ok (str (l.drop K)) W := by
  have hs := bsize l
  have e1 := slice_suf l K
  simp [Instr.sliceAt, Instr.slice, run_underlying Tryd.underlying9, Instr.sliceBounds, Instr.sliceBound, asIntOf, hs, e1, h]
theorem conv_one (W : World) (X : Nat) (c : UInt8) (h : W.heap[X]? = some (.cells #[.int .u8 (c.toNat : Int)] 5)) : (convert 51 9 (.slice (some ⟨X, 0, none⟩) 1 1)).run Tryd.prog W = .ok (str [c]) W :=
  run_convert_bytes_back (P := Tryd.prog) W 51 9 5 ⟨X, 0, none⟩ 1 [c] (by kernel_rfl) (by kernel_rfl) (by kernel_rfl) (fun j hj => by
    have hj' : j = 0 := by simp at hj; omega
    subst hj'
    rw [Addr.add_mid, Nat.zero_add, blk_cell h]
    rfl)
theorem vload28q {W : World} {b : Nat} {v : Int} {T : Ty} {V : Vl} {nv tv kv : Value} (h : W.heap[b]? = some (stC v T V nv tv kv)) : (loadVar 28 ⟨b, 5, none⟩).run Tryd.prog W = .ok (vlV V kv) W := by
  refine run_loadVar_mid _ _ 5 28 [i64 V.kind, i64 V.num, str V.s, kv] _ (fun j u hu => ?_) Tryd.underlying28 rfl (by kernel_rfl)
  rw [cell_of_row _ _ _ _ 30 (0, 0) h]
  rcases j with _ | _ | _ | _ | j <;> simp_all
theorem vload25q {W : World} {b : Nat} {v : Int} {T : Ty} {V : Vl} {nv tv kv : Value} (h : W.heap[b]? = some (stC v T V nv tv kv)) : (loadVar 25 ⟨b, 1, none⟩).run Tryd.prog W = .ok (tyV T.kind T.num nv tv) W := by
  refine run_loadVar_mid _ _ 1 25 [i64 T.kind, i64 T.num, nv, tv] _ (fun j u hu => ?_) Tryd.underlying25 rfl (by kernel_rfl)
  rw [cell_of_row _ _ _ _ 30 (0, 0) h]
  rcases j with _ | _ | _ | _ | j <;> simp_all
theorem set9s {V : World} {b : Nat} (h : V.heap[b]? = some (.cells #[i64 0, i64 0, i64 0, .slice none 0 0, .slice none 0 0, i64 0, i64 0, str [], .slice none 0 0] 30)) (p0 p1 p2 p3 p4 p5 p6 p7 p8 : Value) : (V.setCells b 0 [p0, p1, p2, p3, p4, p5, p6, p7, p8]).heap[b]? = some (.cells #[p0, p1, p2, p3, p4, p5, p6, p7, p8] 30) := set9 h p0 p1 p2 p3 p4 p5 p6 p7 p8
theorem there9 {V : World} {b : Nat} (h : V.heap[b]? = some (.cells #[i64 0, i64 0, i64 0, .slice none 0 0, .slice none 0 0, i64 0, i64 0, str [], .slice none 0 0] 30)) : V.there b 0 9 := fun j hj => by
  refine ⟨?_, by rw [Nat.zero_add]; exact blk_frozen h j⟩
  rw [Nat.zero_add, blk_cell h]
  have : j = 0 ∨ j = 1 ∨ j = 2 ∨ j = 3 ∨ j = 4 ∨ j = 5 ∨ j = 6 ∨ j = 7 ∨ j = 8 := by omega
  rcases this with rfl | rfl | rfl | rfl | rfl | rfl | rfl | rfl | rfl <;> rfl
theorem u8_beq (a b : UInt8) : ((a.toNat : Int) == (b.toNat : Int)) = decide (a = b) := by
  rw [Bool.eq_iff_iff, beq_iff_eq, decide_eq_true_eq]
  constructor
  · intro h; exact UInt8.toNat_inj.1 (by omega)
  · intro h; rw [h]
mutual
theorem wrtV_ge2 : ∀ (V : Vl) (T : Ty), T.formed = true → fitV V T → 2 * V.size ≤ (wrtV V T).length
  | .mk k n t l, T, hf, hV => by
    obtain ⟨ha, hL⟩ := (fitV_iff _ T).1 hV
    have hk := alone_kind ha
    have hs : (Vl.mk k n t l).size = 1 + sizeL l := rfl
    rcases node_kind hf with h1 | h2 | h3 | h4
    · have e3 : l = [] := (alone_1 ha h1).2.2.2
      subst e3
      have hnb := num_bytes hf h1
      rw [wrtV_1 _ T (by omega), List.length_cons, tb_len]
      simp [sizeL] at hs
      omega
    · have e3 : l = [] := (alone_2 ha h2).2.2
      subst e3
      rw [wrtV_2 _ T (by omega), List.length_cons, List.length_cons]
      simp [sizeL] at hs
      omega
    · have hn := node_3 hf h3
      rw [wrtV_3 _ T (by omega) (by omega), List.length_cons, List.length_cons]
      have := wrtL_ge2 l 0 T hf hL (fun _ => by omega) (fun h => absurd h3 h)
      show _ ≤ (wrtL l 0 T).length + 1 + 1
      omega
    · have hn := node_4 hf h4
      obtain ⟨_, _, e3⟩ := alone_4 ha h4
      have e3 : l.length = T.kids.length := e3
      rw [wrtV_3 _ T (by omega) (by omega), List.length_cons, List.length_cons]
      have := wrtL_ge2 l 0 T hf hL (fun h => by omega) (fun _ => by omega)
      show _ ≤ (wrtL l 0 T).length + 1 + 1
      omega
theorem wrtL_ge2 : ∀ (l : List Vl) (i : Nat) (T : Ty), T.formed = true → fitL l i T → (T.kind = 3 → 0 < T.kids.length) → (T.kind ≠ 3 → i + l.length ≤ T.kids.length) → 2 * sizeL l ≤ (wrtL l i T).length
  | [], _, _, _, _, _, _ => by simp [sizeL]
  | v :: r, i, T, hf, hL, h3, h4 => by
    obtain ⟨h1, h2⟩ := (fitL_cons v r i T).1 hL
    have h4' : T.kind ≠ 3 → i < T.kids.length := fun h => by have := h4 h; simp only [List.length_cons] at this; omega
    have a := wrtV_ge2 v (kidT T i) (kidT_formed hf i h3 h4') h1
    have b := wrtL_ge2 r (i + 1) T hf h2 h3 (fun h => by have := h4 h; simp only [List.length_cons] at this; omega)
    rw [wrtL, List.length_append]
    have e : sizeL (v :: r) = v.size + sizeL r := rfl
    omega
end
/-- A byte that is put. -/
def spo (A : Bs) (K : Nat) (c : UInt8) : Bs := (A.take K ++ [c]) ++ A.drop (K + 1)
theorem spo_len (A : Bs) (K : Nat) (c : UInt8) (h : K < A.length) : (spo A K c).length = A.length := by simp [spo]; omega
theorem spo_same (A : Bs) (K : Nat) (c : UInt8) (h : K < A.length) : decide (A[K] = c) = decide (spo A K c = A) := by
  have e : A = (A.take K ++ [A[K]]) ++ A.drop (K + 1) := by rw [List.append_assoc, List.singleton_append, List.getElem_cons_drop, List.take_append_drop]
  by_cases hc : A[K] = c
  · rw [decide_eq_true hc, eq_comm, decide_eq_true_iff]
    rw [← hc]
    exact e.symm
  · rw [decide_eq_false hc, eq_comm, decide_eq_false_iff_not]
    intro h2
    apply hc
    have h3 : (spo A K c)[K]? = A[K]? := by rw [h2]
    rw [List.getElem?_eq_getElem h, spo, List.append_assoc, List.getElem?_append_right (by simp; omega)] at h3
    simp at h3
    rw [show K - min K A.length = 0 by omega] at h3
    simpa using h3.symm
theorem spo_read {v : Int} {T : Ty} {V : Vl} {v' : Nat} {T' : Ty} {V' : Vl} {K : Nat} {c : UInt8} (h : stE v T V = 0) (hK : K < (stO v T V).length) (hr : rdR (spo (stO v T V) K c) = some (v', T', V')) : decide ((stO v T V)[K] = c) = sameS v T V v' T' V' ∧ fitsB V' T' = true ∧ V'.size ≤ 3000 := by
  obtain ⟨b1, b2, b3⟩ := back_read h
  have hl := spo_len (stO v T V) K c hK
  obtain ⟨r1, r2, r3, r4, r5⟩ := read_back hr (by omega)
  have hlen : (stO (v' : Int) T' V').length = 5 + T'.txt.length + (wrtV V' T').length := by rw [(stE_zero r1).2.2.2.2.2, stB_len]
  have hfm := (fitsB_iff V' T').1 r5
  have hw := wrtV_ge2 V' T' (right_formed (right_of_err hfm.1)).1 hfm.2
  rw [r2, hl] at hlen
  refine ⟨?_, r5, by omega⟩
  rw [spo_same _ K c hK]
  by_cases e : spo (stO v T V) K c = stO v T V
  · rw [decide_eq_true e]
    rw [e, b1] at hr
    simp only [Option.some.injEq, Prod.mk.injEq] at hr
    obtain ⟨rfl, rfl, rfl⟩ := hr
    rw [b3, sameS_refl]
  · rw [decide_eq_false e]
    cases hs : sameS v T V v' T' V'
    · rfl
    · exfalso
      obtain ⟨rfl, rfl, rfl⟩ := sameS_true hs
      exact e r2.symm
theorem kids_le {T : Ty} (hf : T.formed = true) : T.kids.length ≤ 1000 := by
  have hn := (formed_node hf).1
  rcases node_kind hf with h | h | h | h
  · unfold nodeB at hn; rw [if_pos h] at hn; simp only [Bool.and_eq_true, decide_eq_true_eq] at hn; omega
  · unfold nodeB at hn; rw [if_neg (by omega), if_pos h] at hn; simp only [Bool.and_eq_true, decide_eq_true_eq] at hn; omega
  · have := node_3 hf h; omega
  · have := node_4 hf h; omega
theorem ref_okR : ∀ (M : Nat) (T : Ty), T.count ≤ M → T.formed = true → ∀ (lo : Nat) (w : World) (nv kv : Value), lo ≤ w.heap.size → Rd w (fun b => b < lo) T nv kv → Calls Tryd.prog 24 #[tyV T.kind T.num nv kv] w fun e w' => ∃ a n c, e = .returned (tyV T.kind T.num nv (.slice a n c)) ∧ Below w.heap.size w w' ∧ Rd w' (fun b => b < lo ∨ w.heap.size ≤ b) T nv (.slice a n c)
  | 0, T, hM, _, _, _, _, _, _, _ => by have := count_pos T; omega
  | M + 1, .mk k n names kids, hM, hC, lo, w, nv, kv, hlo, hR => by
    have hk := kids_le hC
    have hl := (formed_node hC).2
    simp only [Ty.count] at hM
    exact ref_in k n names kids w lo nv kv hlo hR hk (fun T hT w nv kv hlo hR => ref_okR M T (by have := countL_mem hT; omega) (formedL_mem hl hT) lo w nv kv hlo hR)
set_option maxHeartbeats 6400000 in
theorem refs_okR (v : Int) (T : Ty) (V : Vl) (w : World) (kv nv tv : Value) (hV : Vd w (fun _ => True) V kv) (hR : Rd w (fun _ => True) T nv tv) (hc : T.formed = true) (hs : V.size ≤ 3000) : Calls Tryd.prog 11 #[stV v T V nv tv kv] w (RefOk w v T V) := by
  have hV0 : Vd w (fun b => b < w.heap.size) V kv := hV.mono (fun b _ h => h)
  have hR0 : Rd w (fun b => b < w.heap.size) T nv tv := hR.mono (fun b _ h => h)
  obtain ⟨ka, kc, rfl⟩ := hV.form
  obtain ⟨an, cn, rfl, at_, ct, rfl⟩ := hR.form
  obtain ⟨HXa, HYa, hb0⟩ := two_boxes w (stC v T V (.slice an T.names.length cn) (.slice at_ T.kids.length ct) (.slice ka V.kids.length kc)) z46
  have HZ := hid HXa
  have HY := hid HYa
  have HB0 := hid hb0
  have HR0 := hid (hR0.under hb0)
  have HV0 := hid (hV0.under hb0)
  have HCn := hid hc
  have HSn := hid hs
  have hz := zero46
  clear HXa HYa hb0 hV hR hV0 hR0 hc hs
  go_enter Tryd.func11, Tryd.ntmps11
  go_upto_region 1 with fail
  generalize (w.alloc (stC v T V (.slice an T.names.length cn) (.slice at_ T.kids.length ct) (.slice ka V.kids.length kc))).alloc z46 = X at *
  obtain ⟨Z, hZ⟩ : ∃ Z, Z = w.heap.size := ⟨_, rfl⟩
  obtain ⟨R, hRe⟩ : ∃ R, R = w.heap.size + 1 := ⟨_, rfl⟩
  have HRe := hid hRe
  rw [← hRe] at HY ⊢
  rw [← hZ] at HZ ⊢
  clear hZ hRe
  have HS0 : Hid (Sr Z R (stC v T V (.slice an T.names.length cn) (.slice at_ T.kids.length ct) (.slice ka V.kids.length kc)) X.drew) := ⟨HZ.out, HY.out⟩
  have HBd : Hid (Below w.heap.size w X.drew) := HB0.out.trans ((below_drewN (Below.refl _ X) 1).mono HB0.out.size)
  have HRd0 : Hid (Rd X.drew (fun b => b < w.heap.size) T (.slice an T.names.length cn) (.slice at_ T.kids.length ct)) := HR0.out.under (below_drewN (Below.refl _ X) 1)
  have HVd0 : Hid (Vd X.drew (fun b => b < w.heap.size) V (.slice ka V.kids.length kc)) := HV0.out.under (below_drewN (Below.refl _ X) 1)
  have HCT := hid (ref_okR T.count T (Nat.le_refl _) HCn.out w.heap.size X.drew _ _ HBd.out.size HRd0.out)
  clear HR0 HV0 HB0
  refine wp_region_noPanic ?_
  refine wp_region_last (Sr Z R (stC v T V (.slice an T.names.length cn) (.slice at_ T.kids.length ct) (.slice ka V.kids.length kc))) 9 (by kernel_rfl) ?_
  refine wpL_take 0 3 (.pointer (some ⟨Z, 0, none⟩)) [] rfl rfl (by kernel_rfl) (by decide) (by kernel_rfl) (by kernel_rfl) (by kernel_rfl) (fun _ _ _ h => h) HS0.out (by rfl) (fun W hW => by go_simp) ?_
  simp only [Act.put, List.setIfInBounds_toArray, List.set_cons_zero, List.set_cons_succ]
  refine wpL_take 1 4 (i64 v) [] rfl rfl (by kernel_rfl) (by decide) (by kernel_rfl) (by kernel_rfl) (by kernel_rfl) (fun _ _ _ h => h) HS0.out (by rfl) (fun W hW => by have q0 := blk_cell hW.z 0; go_simp) ?_
  simp only [Act.put, List.setIfInBounds_toArray, List.set_cons_zero, List.set_cons_succ]
  refine wpL_take 2 5 (.pointer (some ⟨Z, 1, none⟩)) [] rfl rfl (by kernel_rfl) (by decide) (by kernel_rfl) (by kernel_rfl) (by kernel_rfl) (fun _ _ _ h => h) HS0.out (by rfl) (fun W hW => by go_simp) ?_
  simp only [Act.put, List.setIfInBounds_toArray, List.set_cons_zero, List.set_cons_succ]
  refine wpL_take 3 6 (.agg #[i64 T.kind, i64 T.num, .slice an T.names.length cn, .slice at_ T.kids.length ct]) [] rfl rfl (by kernel_rfl) (by decide) (by kernel_rfl) (by kernel_rfl) (by kernel_rfl) (fun _ _ _ h => h) HS0.out (by rfl) (fun W hW => by have q1 := blk_cell hW.z 1; have q2 := blk_cell hW.z 2; have q3 := blk_cell hW.z 3; have q4 := blk_cell hW.z 4; go_simp) ?_
  simp only [Act.put, List.setIfInBounds_toArray, List.set_cons_zero, List.set_cons_succ]
  refine wpL_take 5 8 (.pointer (some ⟨Z, 5, none⟩)) [] rfl rfl (by kernel_rfl) (by decide) (by kernel_rfl) (by kernel_rfl) (by kernel_rfl) (fun _ _ _ h => h) HS0.out (by rfl) (fun W hW => by go_simp) ?_
  simp only [Act.put, List.setIfInBounds_toArray, List.set_cons_zero, List.set_cons_succ]
  refine wpL_take 6 9 (.agg #[i64 V.kind, i64 V.num, str V.s, .slice ka V.kids.length kc]) [] rfl rfl (by kernel_rfl) (by decide) (by kernel_rfl) (by kernel_rfl) (by kernel_rfl) (fun _ _ _ h => h) HS0.out (by rfl) (fun W hW => by have q5 := blk_cell hW.z 5; have q6 := blk_cell hW.z 6; have q7 := blk_cell hW.z 7; have q8 := blk_cell hW.z 8; go_simp) ?_
  simp only [Act.put, List.setIfInBounds_toArray, List.set_cons_zero, List.set_cons_succ]
  refine wpL_one 4 rfl (by kernel_rfl) (by rfl) (fun K hK => ?_)
  go_simp
  refine HCT.out.mono ?_
  rintro e w2 ⟨a2, n2, c2, rfl, hb2, hrd2⟩
  obtain ⟨an', cn', ee1, at', ct', ee2⟩ := hrd2.form
  cases ee1
  cases ee2
  have HS2 : Hid (Sr Z R (stC v T V (.slice an T.names.length cn) (.slice at_ T.kids.length ct) (.slice ka V.kids.length kc)) w2) := ⟨blk_below HS0.out.z hb2, blk_below HS0.out.r hb2⟩
  have HB2 : Hid (Below w.heap.size w w2) := HBd.out.trans (hb2.mono HBd.out.size)
  have HLX : Hid (R < X.drew.heap.size) := blk_lt HS0.out.r
  have HX2 : Hid (X.drew.heap.size ≤ w2.heap.size) := hb2.size
  have HRd2 := hid hrd2
  have HCV := hid (val_ok V.size V (Nat.le_refl _) HSn.out w2 _ _ (HVd0.out.under hb2))
  clear hb2 hrd2 HCT
  go_simp
  refine hK.out _ _ (fun _ => HS2.out) ?_
  clear hK K
  refine wpL_one 7 rfl (by kernel_rfl) (by rfl) (fun K hK => ?_)
  go_simp
  refine HCV.out.mono ?_
  rintro e w4 ⟨a3, c3, rfl, hb4, hvd4⟩
  have HS4 : Hid (Sr Z R (stC v T V (.slice an T.names.length cn) (.slice at_ T.kids.length ct) (.slice ka V.kids.length kc)) w4) := ⟨blk_below HS2.out.z hb4, blk_below HS2.out.r hb4⟩
  have HB4 : Hid (Below w.heap.size w w4) := HB2.out.trans (hb4.mono HB2.out.size)
  have HRd4 := hid (HRd2.out.under hb4)
  have HVd4 : Hid (Vd w4 (fun b => b < w.heap.size ∨ X.drew.heap.size ≤ b) V (.slice a3 V.kids.length c3)) := hvd4.mono (fun b hb _ => by have := HX2.out; omega)
  clear hb4 hvd4 HCV
  go_simp
  refine hK.out _ _ (fun _ => HS4.out) ?_
  clear hK K
  refine wpL_take 8 11 (stV v T V (.slice an T.names.length cn) (.slice a2 T.kids.length c2) (.slice a3 V.kids.length c3)) [] rfl rfl (by kernel_rfl) (by decide) (by kernel_rfl) (by kernel_rfl) (by kernel_rfl) (fun _ _ _ h => h) HS4.out (by rfl) (fun W hW => by go_simp) ?_
  simp only [Act.put, List.setIfInBounds_toArray, List.set_cons_zero, List.set_cons_succ]
  have rf := blk_frozen HS4.out.r
  have r0 := blk_cell HS4.out.r 0
  have r1 := blk_cell HS4.out.r 1
  have r2 := blk_cell HS4.out.r 2
  have r3 := blk_cell HS4.out.r 3
  have r4 := blk_cell HS4.out.r 4
  have r5 := blk_cell HS4.out.r 5
  have r6 := blk_cell HS4.out.r 6
  have r7 := blk_cell HS4.out.r 7
  have r8 := blk_cell HS4.out.r 8
  refine wpL_one 9 rfl (by kernel_rfl) (by rfl) (fun K hK => ?_)
  go_simp
  refine hK.out _ _ (fun h => absurd rfl h) ?_
  clear hK K
  refine wpL_done (by kernel_rfl) ?_
  refine NoPanic.normal ?_
  go_wp2_with fail
  refine bodyPost_ret (results_one Tryd.results11 rfl (vload46 (v := v) (T := T) (V := V) (set9 HS4.out.r _ _ _ _ _ _ _ _ _))) rfl ⟨an, cn, a2, c2, a3, c3, rfl, ?_, ?_, ?_⟩
  · exact bset9 HB4.out (by have := HRe.out; omega) _ _ _ _ _ _ _ _ _
  · exact HRd4.out.move (by simp [World.setCell]) (fun b hb _ => ⟨trivial, at9 (by have := HRe.out; have := HLX.out; omega) _ _ _ _ _ _ _ _ _⟩)
  · exact HVd4.out.move (by simp [World.setCell]) (fun b hb _ => ⟨trivial, at9 (by have := HRe.out; have := HLX.out; omega) _ _ _ _ _ _ _ _ _⟩)
set_option maxRecDepth 100000 in
set_option maxHeartbeats 6400000 in
theorem spoilt_core (v : Int) (T : Ty) (V : Vl) (at0 n : Int) (c : UInt8) (w : World) (an at_ ka : Option Addr) (cn ct kc : Nat) (nv tv kv : Value) (h1 : nv = .slice an T.names.length cn) (h2 : tv = .slice at_ T.kids.length ct) (h3 : kv = .slice ka V.kids.length kc) (hn : n = (c.toNat : Int)) (hV : Vd w (fun _ => True) V kv) (hR : Rd w (fun _ => True) T nv tv) (hP : Pw w) (hM : Ml w) : Calls Tryd.prog 5 #[stV v T V nv tv kv, i64 at0, .int .u8 n] w fun e w' => e = .returned (.bool true) ∧ Below w.heap.size w w' := by
  have HX0 := hid (heap_last w (stC v T V nv tv kv))
  have HB0 := hid (below_one w (stC v T V nv tv kv))
  have C6 := hid fun W (hb : Below w.heap.size w W) => much_ok v T V W kv nv tv (hV.under hb) (hR.under hb)
  have W7 := hid fun W (hb : Below w.heap.size w W) => word_ok W (hP.below hb) (hM.below hb)
  have C8 := hid fun W (hb : Below w.heap.size w W) (hs : V.size ≤ 3000) => bytesS_any v T V W kv nv tv (hV.under hb) (hR.under hb) (hP.below hb) hs
  have R1 := hid fun W (hb : Below w.heap.size w W) (hs : V.size ≤ 3000) (hc : T.count ≤ 1000) => refs_ok v T V W kv nv tv (hV.under hb) (hR.under hb) hc hs
  have RD := hid fun W (hb : Below w.heap.size w W) (l : Bs) (hl : l.length ≤ 6000) => wread_ok W l hl (hM.below hb)
  have BR := hid fun (h : stE v T V = 0) => (back_read (v := v) (T := T) (V := V) h).2.1
  have SR : Hid (∀ A, A = stO v T V → stE v T V = 0 → ∀ (K : Nat) (hK : K < A.length) v' T' V', rdR (spo A K c) = some (v', T', V') → decide (A[K] = c) = sameS v T V v' T' V' ∧ fitsB V' T' = true ∧ V'.size ≤ 3000) := fun A hA h K hK v' T' V' hr => by subst hA; exact spo_read h hK hr
  have HNc := hid hn
  obtain ⟨A, hA⟩ : ∃ A, A = stO v T V := ⟨_, rfl⟩
  obtain ⟨E, hE⟩ : ∃ E, E = stE v T V := ⟨_, rfl⟩
  rw [← hA, ← hE] at C8
  rw [← hA, ← hE] at BR
  replace SR := hid (SR.out A hA)
  rw [← hE] at SR
  clear hV hR hP hM hA hE hn
  subst h1 h2 h3
  go_enter Tryd.func5, Tryd.ntmps5
  go_wp2_with fail
  refine (C6.out _ HB0.out).mono ?_
  rintro e w1 ⟨b1, rfl, hb1, hs1⟩
  have HX1 := hid (blk_below HX0.out hb1)
  have HB1 : Hid (Below w.heap.size w w1) := HB0.out.trans (hb1.mono HB0.out.size)
  clear hb1
  cases b1 with
  | true =>
    clear hs1
    go_wp2_with fail
    refine (W7.out w1 HB1.out).mono ?_
    rintro e wz ⟨rfl, hbz⟩
    have HBz : Hid (Below w.heap.size w wz) := HB1.out.trans (hbz.mono HB1.out.size)
    clear hbz
    go_wp2_with fail
    go_ret
    exact ⟨rfl, HBz.out⟩
  | false =>
    obtain ⟨z1, z2, _⟩ := hs1 rfl
    clear hs1
    have x0 := blk_cell HX1.out 0
    have x1 := blk_cell HX1.out 1
    have x2 := blk_cell HX1.out 2
    have x3 := blk_cell HX1.out 3
    have x4 := blk_cell HX1.out 4
    have x5 := blk_cell HX1.out 5
    have x6 := blk_cell HX1.out 6
    have x7 := blk_cell HX1.out 7
    have x8 := blk_cell HX1.out 8
    go_wp2_with fail
    refine (C8.out _ HB1.out (by omega)).mono ?_
    rintro e w2 ⟨rfl, hb2⟩
    have HX2 := hid (blk_below HX1.out hb2)
    have HB2 : Hid (Below w.heap.size w w2) := HB1.out.trans (hb2.mono HB1.out.size)
    have hsz := bsize A
    clear hb2 x0 x1 x2 x3 x4 x5 x6 x7 x8
    by_cases hE0 : E = 0
    · have q1 : (E != 0) = false := by rw [bne, beq_iff_eq.2 hE0]; rfl
      have hAl := BR.out hE0
      by_cases hneg : at0 < 0
      · clear hE0
        go_wp2_with fail
        refine (W7.out w2 HB2.out).mono ?_
        rintro e wz ⟨rfl, hbz⟩
        have HBz : Hid (Below w.heap.size w wz) := HB2.out.trans (hbz.mono HB2.out.size)
        clear hbz
        go_wp2_with fail
        go_ret
        exact ⟨rfl, HBz.out⟩
      · by_cases hge : (A.length : Int) ≤ at0
        · clear hE0
          go_wp2_with fail
          refine (W7.out w2 HB2.out).mono ?_
          rintro e wz ⟨rfl, hbz⟩
          have HBz : Hid (Below w.heap.size w wz) := HB2.out.trans (hbz.mono HB2.out.size)
          clear hbz
          go_wp2_with fail
          go_ret
          exact ⟨rfl, HBz.out⟩
        · obtain ⟨K, rfl⟩ : ∃ K : Nat, at0 = (K : Int) := ⟨at0.toNat, by omega⟩
          have hK : K < A.length := by omega
          have hKI : ¬ (A.length : Int) ≤ K := by omega
          have SR2 := hid (SR.out hE0 K hK)
          have RD2 := hid fun W hb => RD.out W hb (spo A K c) (by rw [spo_len A K c hK]; exact hAl)
          have HPR := hid fun W => pre_run W A K (by omega)
          have HSU := hid fun W => suf_run W A (K + 1) (by omega)
          have hz30 := zero30
          have hwK : IntKind.i64.wrap ((K : Int) + 1) = (K : Int) + 1 := by simp [IntKind.wrap, IntKind.bits, IntKind.signed]; omega
          replace R1 := hid fun W hb => R1.out W hb (by omega) (by omega)
          have HIx : Hid ((A[K].toNat : Int) = (A[K].toNat : Int)) := rfl
          clear hE0 SR RD BR C6 C8 hge hneg
          cases hr : rdR (spo A K c) with
          | none =>
            rw [hr] at RD2
            clear SR2 hr
            have HTr : Hid ((fun _ : World => True) w2.drew) := trivial
            have HB2d : Hid (Below w.heap.size w w2.drew) := HB2.out.drew
            have HX2d : Hid (w2.drew.heap[w.heap.size]? = some (stC v T V (.slice an T.names.length cn) (.slice at_ T.kids.length ct) (.slice ka V.kids.length kc))) := HX2.out
            go_upto_region 6 with fail
            refine wp_region_noPanic ?_
            refine wp_region_last (fun _ : World => True) 18 (by kernel_rfl) ?_
            generalize w2.drew = w3 at *
            refine wpL_take 0 33 (str A) [] rfl rfl (by kernel_rfl) (by decide) (by kernel_rfl) (by kernel_rfl) (by kernel_rfl) (fun _ _ _ h => h) HTr.out (by rfl) (fun W hW => by go_simp) ?_
            simp only [Act.put, List.setIfInBounds_toArray, List.set_cons_zero, List.set_cons_succ]
            refine wpL_take 1 34 (i64 K) [] rfl rfl (by kernel_rfl) (by decide) (by kernel_rfl) (by kernel_rfl) (by kernel_rfl) (fun _ _ _ h => h) HTr.out (by rfl) (fun W hW => by go_simp) ?_
            simp only [Act.put, List.setIfInBounds_toArray, List.set_cons_zero, List.set_cons_succ]
            refine wpL_take 2 35 (str (A.take K)) [] rfl rfl (by kernel_rfl) (by decide) (by kernel_rfl) (by kernel_rfl) (by kernel_rfl) (fun _ _ _ h => h) HTr.out (by rfl) (fun W hW => by exact exec_slice 9 (.tmp 33) none (some (.tmp 34)) none (some (i64 K)) rfl rfl rfl rfl (HPR.out W)) ?_
            simp only [Act.put, List.setIfInBounds_toArray, List.set_cons_zero, List.set_cons_succ]
            refine wpL_take 3 36 (.int .u8 n) [] rfl rfl (by kernel_rfl) (by decide) (by kernel_rfl) (by kernel_rfl) (by kernel_rfl) (fun _ _ _ h => h) HTr.out (by rfl) (fun W hW => by go_simp) ?_
            simp only [Act.put, List.setIfInBounds_toArray, List.set_cons_zero, List.set_cons_succ]
            refine wpL_take 7 40 (str A) [] rfl rfl (by kernel_rfl) (by decide) (by kernel_rfl) (by kernel_rfl) (by kernel_rfl) (fun _ _ _ h => h) HTr.out (by rfl) (fun W hW => by go_simp) ?_
            simp only [Act.put, List.setIfInBounds_toArray, List.set_cons_zero, List.set_cons_succ]
            refine wpL_take 8 41 (i64 K) [] rfl rfl (by kernel_rfl) (by decide) (by kernel_rfl) (by kernel_rfl) (by kernel_rfl) (fun _ _ _ h => h) HTr.out (by rfl) (fun W hW => by go_simp) ?_
            simp only [Act.put, List.setIfInBounds_toArray, List.set_cons_zero, List.set_cons_succ]
            refine wpL_take 9 42 (i64 ((K : Int) + 1)) [] rfl rfl (by kernel_rfl) (by decide) (by kernel_rfl) (by kernel_rfl) (by kernel_rfl) (fun _ _ _ h => h) HTr.out (by rfl) (fun W hW => by go_simp) ?_
            simp only [Act.put, List.setIfInBounds_toArray, List.set_cons_zero, List.set_cons_succ]
            refine wpL_take 10 43 (str (A.drop (K + 1))) [] rfl rfl (by kernel_rfl) (by decide) (by kernel_rfl) (by kernel_rfl) (by kernel_rfl) (fun _ _ _ h => h) HTr.out (by rfl) (fun W hW => by exact exec_slice 9 (.tmp 40) (some (.tmp 42)) none (some (i64 ((K : Int) + 1))) none rfl rfl rfl rfl (HSU.out W)) ?_
            simp only [Act.put, List.setIfInBounds_toArray, List.set_cons_zero, List.set_cons_succ]
            refine wpL_two 4 16 rfl rfl (by kernel_rfl) (by rfl) (by rfl) (fun K hK => ?_) (fun K hK => ?_)
            · go_simp
              refine hK.out _ _ (fun _ => trivial) ?_
              clear hK K
              have HB1 : Hid (Below w.heap.size w (w3.alloc (.cells #[.int .u8 n] 5))) := HB2d.out.alloc HB2d.out.size _
              have HX1 := hid (blk_alloc HX2d.out (.cells #[.int .u8 n] 5))
              have HC1 := hid (heap_last w3 (.cells #[.int .u8 n] 5))
              generalize w3.alloc (.cells #[.int .u8 n] 5) = V1 at *
              refine wpL_two 5 16 rfl rfl (by kernel_rfl) (by rfl) (by rfl) (fun K hK => ?_) (fun K hK => ?_)
              · refine wp_conv_run 51 9 (.tmp 37) rfl (.slice (some ⟨w3.heap.size, 0, none⟩) 1 1) rfl (str [c]) (conv_one V1 (w3.heap.size) c (by rw [HC1.out, HNc.out])) ?_
                refine hK.out _ _ (fun _ => trivial) ?_
                clear hK K
                refine wpL_take 6 39 (str (A.take K ++ [c])) [] rfl rfl (by kernel_rfl) (by decide) (by kernel_rfl) (by kernel_rfl) (by kernel_rfl) (fun _ _ _ h => h) HTr.out (by rfl) (fun W hW => by have e := ba_append (A.take K) [c]; have s1 := bsize (A.take K); have s2 := bsize [c]; have s3 : (A.take K).length ≤ 6000 := (by have := List.length_take_le K A; omega); have s4 : ([c] : Bs).length = 1 := rfl; go_simp; omega) ?_
                simp only [Act.put, List.setIfInBounds_toArray]
                refine wpL_take 11 44 (str (spo A K c)) [] rfl rfl (by kernel_rfl) (by decide) (by kernel_rfl) (by kernel_rfl) (by kernel_rfl) (fun _ _ _ h => h) HTr.out (by rfl) (fun W hW => by have e := ba_append (A.take K ++ [c]) (A.drop (K + 1)); have s1 := bsize (A.take K ++ [c]); have s2 := bsize (A.drop (K + 1)); have s3 : (A.take K ++ [c]).length ≤ 6001 := (by have h1 := List.length_take_le K A; have h2 : (A.take K ++ [c]).length = (A.take K).length + 1 := List.length_append; omega); have s4 : (A.drop (K + 1)).length ≤ 6000 := (by have h1 := List.length_drop (i := K + 1) (l := A); omega); unfold spo; go_simp; omega) ?_
                simp only [Act.put]
                refine wpL_two 12 16 rfl rfl (by kernel_rfl) (by rfl) (by rfl) (fun K hK => ?_) (fun K hK => ?_)
                · go_simp
                  refine (RD2.out V1 HB1.out).mono ?_
                  intro e wr hok
                  obtain ⟨rfl, hbr⟩ : RNo 4 V1 e wr := hok
                  have HB3 : Hid (Below w.heap.size w wr) := HB1.out.trans (hbr.mono HB1.out.size)
                  have HX3 := hid (blk_below HX1.out hbr)
                  clear hbr
                  go_simp
                  refine hK.out _ _ (fun _ => trivial) ?_
                  clear hK K
                  refine wpL_take 13 32 (.tuple #[.agg #[i64 0, i64 0, i64 0, .slice none 0 0, .slice none 0 0, i64 0, i64 0, str [], .slice none 0 0], i64 4]) [] rfl rfl (by kernel_rfl) (by decide) (by kernel_rfl) (by kernel_rfl) (by kernel_rfl) (fun _ _ _ h => h) HTr.out (by rfl) (fun W hW => by go_simp) ?_
                  simp only [Act.put, List.setIfInBounds_toArray, List.set_cons_zero, List.set_cons_succ]
                  refine wpL_take 14 46 (.agg #[i64 0, i64 0, i64 0, .slice none 0 0, .slice none 0 0, i64 0, i64 0, str [], .slice none 0 0]) [] rfl rfl (by kernel_rfl) (by decide) (by kernel_rfl) (by kernel_rfl) (by kernel_rfl) (fun _ _ _ h => h) HTr.out (by rfl) (fun W hW => by go_simp) ?_
                  simp only [Act.put, List.setIfInBounds_toArray, List.set_cons_zero, List.set_cons_succ]
                  refine wpL_take 15 47 (i64 4) [] rfl rfl (by kernel_rfl) (by decide) (by kernel_rfl) (by kernel_rfl) (by kernel_rfl) (fun _ _ _ h => h) HTr.out (by rfl) (fun W hW => by go_simp) ?_
                  simp only [Act.put, List.setIfInBounds_toArray, List.set_cons_zero, List.set_cons_succ]
                  refine wpL_one 16 rfl (by kernel_rfl) (by rfl) (fun K hK => ?_)
                  go_simp
                  refine hK.out _ _ (fun _ => trivial) ?_
                  clear hK K
                  have HB4 : Hid (Below w.heap.size w (wr.alloc (.cells #[i64 0, i64 0, i64 0, .slice none 0 0, .slice none 0 0, i64 0, i64 0, str [], .slice none 0 0] 30))) := HB3.out.alloc HB3.out.size _
                  have HX4 := hid (blk_alloc HX3.out (.cells #[i64 0, i64 0, i64 0, .slice none 0 0, .slice none 0 0, i64 0, i64 0, str [], .slice none 0 0] 30))
                  have HQ4 := hid (heap_last wr (.cells #[i64 0, i64 0, i64 0, .slice none 0 0, .slice none 0 0, i64 0, i64 0, str [], .slice none 0 0] 30))
                  have hqx4 := blk_lt HX3.out
                  have HC4 := hid (blk_alloc HC1.out (.cells #[i64 0, i64 0, i64 0, .slice none 0 0, .slice none 0 0, i64 0, i64 0, str [], .slice none 0 0] 30))
                  generalize wr.alloc (.cells #[i64 0, i64 0, i64 0, .slice none 0 0, .slice none 0 0, i64 0, i64 0, str [], .slice none 0 0] 30) = V4 at *
                  refine wpL_one 17 rfl (by kernel_rfl) (by rfl) (fun K hK => ?_)
                  refine wp_store_mid 30 (.tmp 9) (.tmp 46) rfl (wr.heap.size) 0 #[i64 0, i64 0, i64 0, .slice none 0 0, .slice none 0 0, i64 0, i64 0, str [], .slice none 0 0] rfl rfl (there9 HQ4.out) (by kernel_rfl) (all_oneCell_toArray (fun u hu => by simp only [List.mem_cons, List.not_mem_nil, or_false] at hu; rcases hu with rfl | rfl | rfl | rfl | rfl | rfl | rfl | rfl | rfl <;> rfl)) ?_
                  refine hK.out _ _ (fun _ => trivial) ?_
                  clear hK K
                  have HQ5 : Hid ((V4.setCells (wr.heap.size) 0 [i64 0, i64 0, i64 0, .slice none 0 0, .slice none 0 0, i64 0, i64 0, str [], .slice none 0 0]).heap[wr.heap.size]? = some (.cells #[i64 0, i64 0, i64 0, .slice none 0 0, .slice none 0 0, i64 0, i64 0, str [], .slice none 0 0] 30)) := set9s HQ4.out _ _ _ _ _ _ _ _ _
                  have HO5 : Hid (Touch (wr.heap.size) V4 (V4.setCells (wr.heap.size) 0 [i64 0, i64 0, i64 0, .slice none 0 0, .slice none 0 0, i64 0, i64 0, str [], .slice none 0 0])) := Touch.setCells _ _ _ (Touch.refl _ _)
                  have HX5 : Hid ((V4.setCells (wr.heap.size) 0 [i64 0, i64 0, i64 0, .slice none 0 0, .slice none 0 0, i64 0, i64 0, str [], .slice none 0 0]).heap[w.heap.size]? = some (stC v T V (.slice an T.names.length cn) (.slice at_ T.kids.length ct) (.slice ka V.kids.length kc))) := (HO5.out.block _ (blk_lt HX4.out) (by have := hqx4; omega)).trans HX4.out
                  have HB5 : Hid (Below w.heap.size w (V4.setCells (wr.heap.size) 0 [i64 0, i64 0, i64 0, .slice none 0 0, .slice none 0 0, i64 0, i64 0, str [], .slice none 0 0])) := HB4.out.trans (HO5.out.below (by have := hqx4; omega) HB4.out.size)
                  generalize V4.setCells (wr.heap.size) 0 [i64 0, i64 0, i64 0, .slice none 0 0, .slice none 0 0, i64 0, i64 0, str [], .slice none 0 0] = V5 at *
                  refine wpL_one 18 rfl (by kernel_rfl) (by rfl) (fun K hK => ?_)
                  go_simp
                  refine hK.out _ _ (fun h => absurd rfl h) ?_
                  clear hK K
                  refine wpL_done (by kernel_rfl) ?_
                  refine NoPanic.normal ?_
                  have y0 := blk_cell HQ5.out 0
                  have y1 := blk_cell HQ5.out 1
                  have y2 := blk_cell HQ5.out 2
                  have y3 := blk_cell HQ5.out 3
                  have y4 := blk_cell HQ5.out 4
                  have y5 := blk_cell HQ5.out 5
                  have y6 := blk_cell HQ5.out 6
                  have y7 := blk_cell HQ5.out 7
                  have y8 := blk_cell HQ5.out 8
                  have hz46 := zero46
                  have D1 := hid (refs_ok 0 (.mk 0 0 [] []) (.mk 0 0 [] []) V5 (.slice none 0 0) (.slice none 0 0) (.slice none 0 0) (Vd.leaf _ _ _ _ _ (by simp [maxLen]) _ _) (Rd.leaf _ _ _ _) (by decide) (by decide))
                  go_wp2_with fail
                  refine D1.out.mono ?_
                  rintro e w5 ⟨p1, q1, p2, q2, p3, q3, rfl, hb5, hR5, hV5⟩
                  have HB5 : Hid (Below w.heap.size w w5) := HB5.out.trans (hb5.mono HB5.out.size)
                  have D2 := hid (rst_same 0 0 (.mk 0 0 [] []) (.mk 0 0 [] []) (.mk 0 0 [] []) (.mk 0 0 [] []) w5 _ _ _ _ (.slice none 0 0) (.slice none 0 0) (.slice none 0 0) hR5 hV5 (Rd.leaf _ _ _ _) (Vd.leaf _ _ _ _ _ (by simp [maxLen]) _ _))
                  rw [sameS_refl] at D2
                  clear hb5 hR5 hV5 D1
                  go_wp2_with fail
                  refine D2.out.mono ?_
                  rintro e w6 ⟨rfl, hb6⟩
                  have HB6 : Hid (Below w.heap.size w w6) := HB5.out.trans (hb6.mono HB5.out.size)
                  clear hb6 D2
                  go_wp2_with fail
                  refine (W7.out w6 HB6.out).mono ?_
                  rintro e wz ⟨rfl, hbz⟩
                  have HBz : Hid (Below w.heap.size w wz) := HB6.out.trans (hbz.mono HB6.out.size)
                  clear hbz
                  go_wp2_with fail
                  go_ret
                  exact ⟨rfl, HBz.out⟩
                · go_simp
                  refine hK.out _ _ (fun _ => trivial) ?_
                  clear hK K
                  have HB6 : Hid (Below w.heap.size w (V1.alloc (.cells #[i64 0, i64 0, i64 0, .slice none 0 0, .slice none 0 0, i64 0, i64 0, str [], .slice none 0 0] 30))) := HB1.out.alloc HB1.out.size _
                  have HX6 := hid (blk_alloc HX1.out (.cells #[i64 0, i64 0, i64 0, .slice none 0 0, .slice none 0 0, i64 0, i64 0, str [], .slice none 0 0] 30))
                  have HQ6 := hid (heap_last V1 (.cells #[i64 0, i64 0, i64 0, .slice none 0 0, .slice none 0 0, i64 0, i64 0, str [], .slice none 0 0] 30))
                  have hqx6 := blk_lt HX1.out
                  have HC6 := hid (blk_alloc HC1.out (.cells #[i64 0, i64 0, i64 0, .slice none 0 0, .slice none 0 0, i64 0, i64 0, str [], .slice none 0 0] 30))
                  generalize V1.alloc (.cells #[i64 0, i64 0, i64 0, .slice none 0 0, .slice none 0 0, i64 0, i64 0, str [], .slice none 0 0] 30) = V6 at *
                  refine wpL_one 12 rfl (by kernel_rfl) (by rfl) (fun K hK => ?_)
                  go_simp
                  refine (RD2.out V6 HB6.out).mono ?_
                  intro e wr hok
                  obtain ⟨rfl, hbr⟩ : RNo 4 V6 e wr := hok
                  have HB7 : Hid (Below w.heap.size w wr) := HB6.out.trans (hbr.mono HB6.out.size)
                  have HX7 := hid (blk_below HX6.out hbr)
                  have hqb7 := blk_lt HQ6.out
                  have HQ7 := hid (blk_below HQ6.out hbr)
                  clear hbr
                  go_simp
                  refine hK.out _ _ (fun _ => trivial) ?_
                  clear hK K
                  refine wpL_take 13 32 (.tuple #[.agg #[i64 0, i64 0, i64 0, .slice none 0 0, .slice none 0 0, i64 0, i64 0, str [], .slice none 0 0], i64 4]) [] rfl rfl (by kernel_rfl) (by decide) (by kernel_rfl) (by kernel_rfl) (by kernel_rfl) (fun _ _ _ h => h) HTr.out (by rfl) (fun W hW => by go_simp) ?_
                  simp only [Act.put, List.setIfInBounds_toArray, List.set_cons_zero, List.set_cons_succ]
                  refine wpL_take 14 46 (.agg #[i64 0, i64 0, i64 0, .slice none 0 0, .slice none 0 0, i64 0, i64 0, str [], .slice none 0 0]) [] rfl rfl (by kernel_rfl) (by decide) (by kernel_rfl) (by kernel_rfl) (by kernel_rfl) (fun _ _ _ h => h) HTr.out (by rfl) (fun W hW => by go_simp) ?_
                  simp only [Act.put, List.setIfInBounds_toArray, List.set_cons_zero, List.set_cons_succ]
                  refine wpL_take 15 47 (i64 4) [] rfl rfl (by kernel_rfl) (by decide) (by kernel_rfl) (by kernel_rfl) (by kernel_rfl) (fun _ _ _ h => h) HTr.out (by rfl) (fun W hW => by go_simp) ?_
                  simp only [Act.put, List.setIfInBounds_toArray, List.set_cons_zero, List.set_cons_succ]
                  refine wpL_one 17 rfl (by kernel_rfl) (by rfl) (fun K hK => ?_)
                  refine wp_store_mid 30 (.tmp 9) (.tmp 46) rfl (V1.heap.size) 0 #[i64 0, i64 0, i64 0, .slice none 0 0, .slice none 0 0, i64 0, i64 0, str [], .slice none 0 0] rfl rfl (there9 HQ7.out) (by kernel_rfl) (all_oneCell_toArray (fun u hu => by simp only [List.mem_cons, List.not_mem_nil, or_false] at hu; rcases hu with rfl | rfl | rfl | rfl | rfl | rfl | rfl | rfl | rfl <;> rfl)) ?_
                  refine hK.out _ _ (fun _ => trivial) ?_
                  clear hK K
                  have HQ8 : Hid ((wr.setCells (V1.heap.size) 0 [i64 0, i64 0, i64 0, .slice none 0 0, .slice none 0 0, i64 0, i64 0, str [], .slice none 0 0]).heap[V1.heap.size]? = some (.cells #[i64 0, i64 0, i64 0, .slice none 0 0, .slice none 0 0, i64 0, i64 0, str [], .slice none 0 0] 30)) := set9s HQ7.out _ _ _ _ _ _ _ _ _
                  have HO8 : Hid (Touch (V1.heap.size) wr (wr.setCells (V1.heap.size) 0 [i64 0, i64 0, i64 0, .slice none 0 0, .slice none 0 0, i64 0, i64 0, str [], .slice none 0 0])) := Touch.setCells _ _ _ (Touch.refl _ _)
                  have HX8 : Hid ((wr.setCells (V1.heap.size) 0 [i64 0, i64 0, i64 0, .slice none 0 0, .slice none 0 0, i64 0, i64 0, str [], .slice none 0 0]).heap[w.heap.size]? = some (stC v T V (.slice an T.names.length cn) (.slice at_ T.kids.length ct) (.slice ka V.kids.length kc))) := (HO8.out.block _ (blk_lt HX7.out) (by have := hqx6; omega)).trans HX7.out
                  have HB8 : Hid (Below w.heap.size w (wr.setCells (V1.heap.size) 0 [i64 0, i64 0, i64 0, .slice none 0 0, .slice none 0 0, i64 0, i64 0, str [], .slice none 0 0])) := HB7.out.trans (HO8.out.below (by have := hqx6; omega) HB7.out.size)
                  generalize wr.setCells (V1.heap.size) 0 [i64 0, i64 0, i64 0, .slice none 0 0, .slice none 0 0, i64 0, i64 0, str [], .slice none 0 0] = V8 at *
                  refine wpL_one 18 rfl (by kernel_rfl) (by rfl) (fun K hK => ?_)
                  go_simp
                  refine hK.out _ _ (fun h => absurd rfl h) ?_
                  clear hK K
                  refine wpL_done (by kernel_rfl) ?_
                  refine NoPanic.normal ?_
                  have y0 := blk_cell HQ8.out 0
                  have y1 := blk_cell HQ8.out 1
                  have y2 := blk_cell HQ8.out 2
                  have y3 := blk_cell HQ8.out 3
                  have y4 := blk_cell HQ8.out 4
                  have y5 := blk_cell HQ8.out 5
                  have y6 := blk_cell HQ8.out 6
                  have y7 := blk_cell HQ8.out 7
                  have y8 := blk_cell HQ8.out 8
                  have hz46 := zero46
                  have D1 := hid (refs_ok 0 (.mk 0 0 [] []) (.mk 0 0 [] []) V8 (.slice none 0 0) (.slice none 0 0) (.slice none 0 0) (Vd.leaf _ _ _ _ _ (by simp [maxLen]) _ _) (Rd.leaf _ _ _ _) (by decide) (by decide))
                  go_wp2_with fail
                  refine D1.out.mono ?_
                  rintro e w5 ⟨p1, q1, p2, q2, p3, q3, rfl, hb5, hR5, hV5⟩
                  have HB5 : Hid (Below w.heap.size w w5) := HB8.out.trans (hb5.mono HB8.out.size)
                  have D2 := hid (rst_same 0 0 (.mk 0 0 [] []) (.mk 0 0 [] []) (.mk 0 0 [] []) (.mk 0 0 [] []) w5 _ _ _ _ (.slice none 0 0) (.slice none 0 0) (.slice none 0 0) hR5 hV5 (Rd.leaf _ _ _ _) (Vd.leaf _ _ _ _ _ (by simp [maxLen]) _ _))
                  rw [sameS_refl] at D2
                  clear hb5 hR5 hV5 D1
                  go_wp2_with fail
                  refine D2.out.mono ?_
                  rintro e w6 ⟨rfl, hb6⟩
                  have HB6 : Hid (Below w.heap.size w w6) := HB5.out.trans (hb6.mono HB5.out.size)
                  clear hb6 D2
                  go_wp2_with fail
                  refine (W7.out w6 HB6.out).mono ?_
                  rintro e wz ⟨rfl, hbz⟩
                  have HBz : Hid (Below w.heap.size w wz) := HB6.out.trans (hbz.mono HB6.out.size)
                  clear hbz
                  go_wp2_with fail
                  go_ret
                  exact ⟨rfl, HBz.out⟩
              · go_simp
                refine hK.out _ _ (fun _ => trivial) ?_
                clear hK K
                have HB9 : Hid (Below w.heap.size w (V1.alloc (.cells #[i64 0, i64 0, i64 0, .slice none 0 0, .slice none 0 0, i64 0, i64 0, str [], .slice none 0 0] 30))) := HB1.out.alloc HB1.out.size _
                have HX9 := hid (blk_alloc HX1.out (.cells #[i64 0, i64 0, i64 0, .slice none 0 0, .slice none 0 0, i64 0, i64 0, str [], .slice none 0 0] 30))
                have HQ9 := hid (heap_last V1 (.cells #[i64 0, i64 0, i64 0, .slice none 0 0, .slice none 0 0, i64 0, i64 0, str [], .slice none 0 0] 30))
                have hqx9 := blk_lt HX1.out
                have HC9 := hid (blk_alloc HC1.out (.cells #[i64 0, i64 0, i64 0, .slice none 0 0, .slice none 0 0, i64 0, i64 0, str [], .slice none 0 0] 30))
                generalize V1.alloc (.cells #[i64 0, i64 0, i64 0, .slice none 0 0, .slice none 0 0, i64 0, i64 0, str [], .slice none 0 0] 30) = V9 at *
                refine wpL_one 5 rfl (by kernel_rfl) (by rfl) (fun K hK => ?_)
                refine wp_conv_run 51 9 (.tmp 37) rfl (.slice (some ⟨w3.heap.size, 0, none⟩) 1 1) rfl (str [c]) (conv_one V9 (w3.heap.size) c (by rw [HC9.out, HNc.out])) ?_
                refine hK.out _ _ (fun _ => trivial) ?_
                clear hK K
                refine wpL_take 6 39 (str (A.take K ++ [c])) [] rfl rfl (by kernel_rfl) (by decide) (by kernel_rfl) (by kernel_rfl) (by kernel_rfl) (fun _ _ _ h => h) HTr.out (by rfl) (fun W hW => by have e := ba_append (A.take K) [c]; have s1 := bsize (A.take K); have s2 := bsize [c]; have s3 : (A.take K).length ≤ 6000 := (by have := List.length_take_le K A; omega); have s4 : ([c] : Bs).length = 1 := rfl; go_simp; omega) ?_
                simp only [Act.put, List.setIfInBounds_toArray]
                refine wpL_take 11 44 (str (spo A K c)) [] rfl rfl (by kernel_rfl) (by decide) (by kernel_rfl) (by kernel_rfl) (by kernel_rfl) (fun _ _ _ h => h) HTr.out (by rfl) (fun W hW => by have e := ba_append (A.take K ++ [c]) (A.drop (K + 1)); have s1 := bsize (A.take K ++ [c]); have s2 := bsize (A.drop (K + 1)); have s3 : (A.take K ++ [c]).length ≤ 6001 := (by have h1 := List.length_take_le K A; have h2 : (A.take K ++ [c]).length = (A.take K).length + 1 := List.length_append; omega); have s4 : (A.drop (K + 1)).length ≤ 6000 := (by have h1 := List.length_drop (i := K + 1) (l := A); omega); unfold spo; go_simp; omega) ?_
                simp only [Act.put]
                refine wpL_one 12 rfl (by kernel_rfl) (by rfl) (fun K hK => ?_)
                go_simp
                refine (RD2.out V9 HB9.out).mono ?_
                intro e wr hok
                obtain ⟨rfl, hbr⟩ : RNo 4 V9 e wr := hok
                have HB11 : Hid (Below w.heap.size w wr) := HB9.out.trans (hbr.mono HB9.out.size)
                have HX11 := hid (blk_below HX9.out hbr)
                have hqb11 := blk_lt HQ9.out
                have HQ11 := hid (blk_below HQ9.out hbr)
                clear hbr
                go_simp
                refine hK.out _ _ (fun _ => trivial) ?_
                clear hK K
                refine wpL_take 13 32 (.tuple #[.agg #[i64 0, i64 0, i64 0, .slice none 0 0, .slice none 0 0, i64 0, i64 0, str [], .slice none 0 0], i64 4]) [] rfl rfl (by kernel_rfl) (by decide) (by kernel_rfl) (by kernel_rfl) (by kernel_rfl) (fun _ _ _ h => h) HTr.out (by rfl) (fun W hW => by go_simp) ?_
                simp only [Act.put, List.setIfInBounds_toArray, List.set_cons_zero, List.set_cons_succ]
                refine wpL_take 14 46 (.agg #[i64 0, i64 0, i64 0, .slice none 0 0, .slice none 0 0, i64 0, i64 0, str [], .slice none 0 0]) [] rfl rfl (by kernel_rfl) (by decide) (by kernel_rfl) (by kernel_rfl) (by kernel_rfl) (fun _ _ _ h => h) HTr.out (by rfl) (fun W hW => by go_simp) ?_
                simp only [Act.put, List.setIfInBounds_toArray, List.set_cons_zero, List.set_cons_succ]
                refine wpL_take 15 47 (i64 4) [] rfl rfl (by kernel_rfl) (by decide) (by kernel_rfl) (by kernel_rfl) (by kernel_rfl) (fun _ _ _ h => h) HTr.out (by rfl) (fun W hW => by go_simp) ?_
                simp only [Act.put, List.setIfInBounds_toArray, List.set_cons_zero, List.set_cons_succ]
                refine wpL_one 17 rfl (by kernel_rfl) (by rfl) (fun K hK => ?_)
                refine wp_store_mid 30 (.tmp 9) (.tmp 46) rfl (V1.heap.size) 0 #[i64 0, i64 0, i64 0, .slice none 0 0, .slice none 0 0, i64 0, i64 0, str [], .slice none 0 0] rfl rfl (there9 HQ11.out) (by kernel_rfl) (all_oneCell_toArray (fun u hu => by simp only [List.mem_cons, List.not_mem_nil, or_false] at hu; rcases hu with rfl | rfl | rfl | rfl | rfl | rfl | rfl | rfl | rfl <;> rfl)) ?_
                refine hK.out _ _ (fun _ => trivial) ?_
                clear hK K
                have HQ12 : Hid ((wr.setCells (V1.heap.size) 0 [i64 0, i64 0, i64 0, .slice none 0 0, .slice none 0 0, i64 0, i64 0, str [], .slice none 0 0]).heap[V1.heap.size]? = some (.cells #[i64 0, i64 0, i64 0, .slice none 0 0, .slice none 0 0, i64 0, i64 0, str [], .slice none 0 0] 30)) := set9s HQ11.out _ _ _ _ _ _ _ _ _
                have HO12 : Hid (Touch (V1.heap.size) wr (wr.setCells (V1.heap.size) 0 [i64 0, i64 0, i64 0, .slice none 0 0, .slice none 0 0, i64 0, i64 0, str [], .slice none 0 0])) := Touch.setCells _ _ _ (Touch.refl _ _)
                have HX12 : Hid ((wr.setCells (V1.heap.size) 0 [i64 0, i64 0, i64 0, .slice none 0 0, .slice none 0 0, i64 0, i64 0, str [], .slice none 0 0]).heap[w.heap.size]? = some (stC v T V (.slice an T.names.length cn) (.slice at_ T.kids.length ct) (.slice ka V.kids.length kc))) := (HO12.out.block _ (blk_lt HX11.out) (by have := hqx9; omega)).trans HX11.out
                have HB12 : Hid (Below w.heap.size w (wr.setCells (V1.heap.size) 0 [i64 0, i64 0, i64 0, .slice none 0 0, .slice none 0 0, i64 0, i64 0, str [], .slice none 0 0])) := HB11.out.trans (HO12.out.below (by have := hqx9; omega) HB11.out.size)
                generalize wr.setCells (V1.heap.size) 0 [i64 0, i64 0, i64 0, .slice none 0 0, .slice none 0 0, i64 0, i64 0, str [], .slice none 0 0] = V12 at *
                refine wpL_one 18 rfl (by kernel_rfl) (by rfl) (fun K hK => ?_)
                go_simp
                refine hK.out _ _ (fun h => absurd rfl h) ?_
                clear hK K
                refine wpL_done (by kernel_rfl) ?_
                refine NoPanic.normal ?_
                have y0 := blk_cell HQ12.out 0
                have y1 := blk_cell HQ12.out 1
                have y2 := blk_cell HQ12.out 2
                have y3 := blk_cell HQ12.out 3
                have y4 := blk_cell HQ12.out 4
                have y5 := blk_cell HQ12.out 5
                have y6 := blk_cell HQ12.out 6
                have y7 := blk_cell HQ12.out 7
                have y8 := blk_cell HQ12.out 8
                have hz46 := zero46
                have D1 := hid (refs_ok 0 (.mk 0 0 [] []) (.mk 0 0 [] []) V12 (.slice none 0 0) (.slice none 0 0) (.slice none 0 0) (Vd.leaf _ _ _ _ _ (by simp [maxLen]) _ _) (Rd.leaf _ _ _ _) (by decide) (by decide))
                go_wp2_with fail
                refine D1.out.mono ?_
                rintro e w5 ⟨p1, q1, p2, q2, p3, q3, rfl, hb5, hR5, hV5⟩
                have HB5 : Hid (Below w.heap.size w w5) := HB12.out.trans (hb5.mono HB12.out.size)
                have D2 := hid (rst_same 0 0 (.mk 0 0 [] []) (.mk 0 0 [] []) (.mk 0 0 [] []) (.mk 0 0 [] []) w5 _ _ _ _ (.slice none 0 0) (.slice none 0 0) (.slice none 0 0) hR5 hV5 (Rd.leaf _ _ _ _) (Vd.leaf _ _ _ _ _ (by simp [maxLen]) _ _))
                rw [sameS_refl] at D2
                clear hb5 hR5 hV5 D1
                go_wp2_with fail
                refine D2.out.mono ?_
                rintro e w6 ⟨rfl, hb6⟩
                have HB6 : Hid (Below w.heap.size w w6) := HB5.out.trans (hb6.mono HB5.out.size)
                clear hb6 D2
                go_wp2_with fail
                refine (W7.out w6 HB6.out).mono ?_
                rintro e wz ⟨rfl, hbz⟩
                have HBz : Hid (Below w.heap.size w wz) := HB6.out.trans (hbz.mono HB6.out.size)
                clear hbz
                go_wp2_with fail
                go_ret
                exact ⟨rfl, HBz.out⟩
            · go_simp
              refine hK.out _ _ (fun _ => trivial) ?_
              clear hK K
              have HB13 : Hid (Below w.heap.size w (w3.alloc (.cells #[i64 0, i64 0, i64 0, .slice none 0 0, .slice none 0 0, i64 0, i64 0, str [], .slice none 0 0] 30))) := HB2d.out.alloc HB2d.out.size _
              have HX13 := hid (blk_alloc HX2d.out (.cells #[i64 0, i64 0, i64 0, .slice none 0 0, .slice none 0 0, i64 0, i64 0, str [], .slice none 0 0] 30))
              have HQ13 := hid (heap_last w3 (.cells #[i64 0, i64 0, i64 0, .slice none 0 0, .slice none 0 0, i64 0, i64 0, str [], .slice none 0 0] 30))
              have hqx13 := blk_lt HX2d.out
              generalize w3.alloc (.cells #[i64 0, i64 0, i64 0, .slice none 0 0, .slice none 0 0, i64 0, i64 0, str [], .slice none 0 0] 30) = V13 at *
              refine wpL_one 4 rfl (by kernel_rfl) (by rfl) (fun K hK => ?_)
              go_simp
              refine hK.out _ _ (fun _ => trivial) ?_
              clear hK K
              have HB14 : Hid (Below w.heap.size w (V13.alloc (.cells #[.int .u8 n] 5))) := HB13.out.alloc HB13.out.size _
              have HX14 := hid (blk_alloc HX13.out (.cells #[.int .u8 n] 5))
              have HC14 := hid (heap_last V13 (.cells #[.int .u8 n] 5))
              have HQ14 := hid (blk_alloc HQ13.out (.cells #[.int .u8 n] 5))
              generalize V13.alloc (.cells #[.int .u8 n] 5) = V14 at *
              refine wpL_one 5 rfl (by kernel_rfl) (by rfl) (fun K hK => ?_)
              refine wp_conv_run 51 9 (.tmp 37) rfl (.slice (some ⟨V13.heap.size, 0, none⟩) 1 1) rfl (str [c]) (conv_one V14 (V13.heap.size) c (by rw [HC14.out, HNc.out])) ?_
              refine hK.out _ _ (fun _ => trivial) ?_
              clear hK K
              refine wpL_take 6 39 (str (A.take K ++ [c])) [] rfl rfl (by kernel_rfl) (by decide) (by kernel_rfl) (by kernel_rfl) (by kernel_rfl) (fun _ _ _ h => h) HTr.out (by rfl) (fun W hW => by have e := ba_append (A.take K) [c]; have s1 := bsize (A.take K); have s2 := bsize [c]; have s3 : (A.take K).length ≤ 6000 := (by have := List.length_take_le K A; omega); have s4 : ([c] : Bs).length = 1 := rfl; go_simp; omega) ?_
              simp only [Act.put, List.setIfInBounds_toArray]
              refine wpL_take 11 44 (str (spo A K c)) [] rfl rfl (by kernel_rfl) (by decide) (by kernel_rfl) (by kernel_rfl) (by kernel_rfl) (fun _ _ _ h => h) HTr.out (by rfl) (fun W hW => by have e := ba_append (A.take K ++ [c]) (A.drop (K + 1)); have s1 := bsize (A.take K ++ [c]); have s2 := bsize (A.drop (K + 1)); have s3 : (A.take K ++ [c]).length ≤ 6001 := (by have h1 := List.length_take_le K A; have h2 : (A.take K ++ [c]).length = (A.take K).length + 1 := List.length_append; omega); have s4 : (A.drop (K + 1)).length ≤ 6000 := (by have h1 := List.length_drop (i := K + 1) (l := A); omega); unfold spo; go_simp; omega) ?_
              simp only [Act.put]
              refine wpL_one 12 rfl (by kernel_rfl) (by rfl) (fun K hK => ?_)
              go_simp
              refine (RD2.out V14 HB14.out).mono ?_
              intro e wr hok
              obtain ⟨rfl, hbr⟩ : RNo 4 V14 e wr := hok
              have HB16 : Hid (Below w.heap.size w wr) := HB14.out.trans (hbr.mono HB14.out.size)
              have HX16 := hid (blk_below HX14.out hbr)
              have hqb16 := blk_lt HQ14.out
              have HQ16 := hid (blk_below HQ14.out hbr)
              clear hbr
              go_simp
              refine hK.out _ _ (fun _ => trivial) ?_
              clear hK K
              refine wpL_take 13 32 (.tuple #[.agg #[i64 0, i64 0, i64 0, .slice none 0 0, .slice none 0 0, i64 0, i64 0, str [], .slice none 0 0], i64 4]) [] rfl rfl (by kernel_rfl) (by decide) (by kernel_rfl) (by kernel_rfl) (by kernel_rfl) (fun _ _ _ h => h) HTr.out (by rfl) (fun W hW => by go_simp) ?_
              simp only [Act.put, List.setIfInBounds_toArray, List.set_cons_zero, List.set_cons_succ]
              refine wpL_take 14 46 (.agg #[i64 0, i64 0, i64 0, .slice none 0 0, .slice none 0 0, i64 0, i64 0, str [], .slice none 0 0]) [] rfl rfl (by kernel_rfl) (by decide) (by kernel_rfl) (by kernel_rfl) (by kernel_rfl) (fun _ _ _ h => h) HTr.out (by rfl) (fun W hW => by go_simp) ?_
              simp only [Act.put, List.setIfInBounds_toArray, List.set_cons_zero, List.set_cons_succ]
              refine wpL_take 15 47 (i64 4) [] rfl rfl (by kernel_rfl) (by decide) (by kernel_rfl) (by kernel_rfl) (by kernel_rfl) (fun _ _ _ h => h) HTr.out (by rfl) (fun W hW => by go_simp) ?_
              simp only [Act.put, List.setIfInBounds_toArray, List.set_cons_zero, List.set_cons_succ]
              refine wpL_one 17 rfl (by kernel_rfl) (by rfl) (fun K hK => ?_)
              refine wp_store_mid 30 (.tmp 9) (.tmp 46) rfl (w3.heap.size) 0 #[i64 0, i64 0, i64 0, .slice none 0 0, .slice none 0 0, i64 0, i64 0, str [], .slice none 0 0] rfl rfl (there9 HQ16.out) (by kernel_rfl) (all_oneCell_toArray (fun u hu => by simp only [List.mem_cons, List.not_mem_nil, or_false] at hu; rcases hu with rfl | rfl | rfl | rfl | rfl | rfl | rfl | rfl | rfl <;> rfl)) ?_
              refine hK.out _ _ (fun _ => trivial) ?_
              clear hK K
              have HQ17 : Hid ((wr.setCells (w3.heap.size) 0 [i64 0, i64 0, i64 0, .slice none 0 0, .slice none 0 0, i64 0, i64 0, str [], .slice none 0 0]).heap[w3.heap.size]? = some (.cells #[i64 0, i64 0, i64 0, .slice none 0 0, .slice none 0 0, i64 0, i64 0, str [], .slice none 0 0] 30)) := set9s HQ16.out _ _ _ _ _ _ _ _ _
              have HO17 : Hid (Touch (w3.heap.size) wr (wr.setCells (w3.heap.size) 0 [i64 0, i64 0, i64 0, .slice none 0 0, .slice none 0 0, i64 0, i64 0, str [], .slice none 0 0])) := Touch.setCells _ _ _ (Touch.refl _ _)
              have HX17 : Hid ((wr.setCells (w3.heap.size) 0 [i64 0, i64 0, i64 0, .slice none 0 0, .slice none 0 0, i64 0, i64 0, str [], .slice none 0 0]).heap[w.heap.size]? = some (stC v T V (.slice an T.names.length cn) (.slice at_ T.kids.length ct) (.slice ka V.kids.length kc))) := (HO17.out.block _ (blk_lt HX16.out) (by have := hqx13; omega)).trans HX16.out
              have HB17 : Hid (Below w.heap.size w (wr.setCells (w3.heap.size) 0 [i64 0, i64 0, i64 0, .slice none 0 0, .slice none 0 0, i64 0, i64 0, str [], .slice none 0 0])) := HB16.out.trans (HO17.out.below (by have := hqx13; omega) HB16.out.size)
              generalize wr.setCells (w3.heap.size) 0 [i64 0, i64 0, i64 0, .slice none 0 0, .slice none 0 0, i64 0, i64 0, str [], .slice none 0 0] = V17 at *
              refine wpL_one 18 rfl (by kernel_rfl) (by rfl) (fun K hK => ?_)
              go_simp
              refine hK.out _ _ (fun h => absurd rfl h) ?_
              clear hK K
              refine wpL_done (by kernel_rfl) ?_
              refine NoPanic.normal ?_
              have y0 := blk_cell HQ17.out 0
              have y1 := blk_cell HQ17.out 1
              have y2 := blk_cell HQ17.out 2
              have y3 := blk_cell HQ17.out 3
              have y4 := blk_cell HQ17.out 4
              have y5 := blk_cell HQ17.out 5
              have y6 := blk_cell HQ17.out 6
              have y7 := blk_cell HQ17.out 7
              have y8 := blk_cell HQ17.out 8
              have hz46 := zero46
              have D1 := hid (refs_ok 0 (.mk 0 0 [] []) (.mk 0 0 [] []) V17 (.slice none 0 0) (.slice none 0 0) (.slice none 0 0) (Vd.leaf _ _ _ _ _ (by simp [maxLen]) _ _) (Rd.leaf _ _ _ _) (by decide) (by decide))
              go_wp2_with fail
              refine D1.out.mono ?_
              rintro e w5 ⟨p1, q1, p2, q2, p3, q3, rfl, hb5, hR5, hV5⟩
              have HB5 : Hid (Below w.heap.size w w5) := HB17.out.trans (hb5.mono HB17.out.size)
              have D2 := hid (rst_same 0 0 (.mk 0 0 [] []) (.mk 0 0 [] []) (.mk 0 0 [] []) (.mk 0 0 [] []) w5 _ _ _ _ (.slice none 0 0) (.slice none 0 0) (.slice none 0 0) hR5 hV5 (Rd.leaf _ _ _ _) (Vd.leaf _ _ _ _ _ (by simp [maxLen]) _ _))
              rw [sameS_refl] at D2
              clear hb5 hR5 hV5 D1
              go_wp2_with fail
              refine D2.out.mono ?_
              rintro e w6 ⟨rfl, hb6⟩
              have HB6 : Hid (Below w.heap.size w w6) := HB5.out.trans (hb6.mono HB5.out.size)
              clear hb6 D2
              go_wp2_with fail
              refine (W7.out w6 HB6.out).mono ?_
              rintro e wz ⟨rfl, hbz⟩
              have HBz : Hid (Below w.heap.size w wz) := HB6.out.trans (hbz.mono HB6.out.size)
              clear hbz
              go_wp2_with fail
              go_ret
              exact ⟨rfl, HBz.out⟩
          | some p =>
            obtain ⟨v', T', V'⟩ := p
            rw [hr] at RD2
            obtain ⟨hsame, hfit, hvs⟩ := SR2.out v' T' V' hr
            have HSame := hid hsame
            have HFit := hid hfit
            clear SR2 hr hsame hfit
            have HTr : Hid ((fun _ : World => True) w2.drew) := trivial
            have HB2d : Hid (Below w.heap.size w w2.drew) := HB2.out.drew
            have HX2d : Hid (w2.drew.heap[w.heap.size]? = some (stC v T V (.slice an T.names.length cn) (.slice at_ T.kids.length ct) (.slice ka V.kids.length kc))) := HX2.out
            go_upto_region 6 with fail
            refine wp_region_noPanic ?_
            refine wp_region_last (fun _ : World => True) 18 (by kernel_rfl) ?_
            generalize w2.drew = w3 at *
            refine wpL_take 0 33 (str A) [] rfl rfl (by kernel_rfl) (by decide) (by kernel_rfl) (by kernel_rfl) (by kernel_rfl) (fun _ _ _ h => h) HTr.out (by rfl) (fun W hW => by go_simp) ?_
            simp only [Act.put, List.setIfInBounds_toArray, List.set_cons_zero, List.set_cons_succ]
            refine wpL_take 1 34 (i64 K) [] rfl rfl (by kernel_rfl) (by decide) (by kernel_rfl) (by kernel_rfl) (by kernel_rfl) (fun _ _ _ h => h) HTr.out (by rfl) (fun W hW => by go_simp) ?_
            simp only [Act.put, List.setIfInBounds_toArray, List.set_cons_zero, List.set_cons_succ]
            refine wpL_take 2 35 (str (A.take K)) [] rfl rfl (by kernel_rfl) (by decide) (by kernel_rfl) (by kernel_rfl) (by kernel_rfl) (fun _ _ _ h => h) HTr.out (by rfl) (fun W hW => by exact exec_slice 9 (.tmp 33) none (some (.tmp 34)) none (some (i64 K)) rfl rfl rfl rfl (HPR.out W)) ?_
            simp only [Act.put, List.setIfInBounds_toArray, List.set_cons_zero, List.set_cons_succ]
            refine wpL_take 3 36 (.int .u8 n) [] rfl rfl (by kernel_rfl) (by decide) (by kernel_rfl) (by kernel_rfl) (by kernel_rfl) (fun _ _ _ h => h) HTr.out (by rfl) (fun W hW => by go_simp) ?_
            simp only [Act.put, List.setIfInBounds_toArray, List.set_cons_zero, List.set_cons_succ]
            refine wpL_take 7 40 (str A) [] rfl rfl (by kernel_rfl) (by decide) (by kernel_rfl) (by kernel_rfl) (by kernel_rfl) (fun _ _ _ h => h) HTr.out (by rfl) (fun W hW => by go_simp) ?_
            simp only [Act.put, List.setIfInBounds_toArray, List.set_cons_zero, List.set_cons_succ]
            refine wpL_take 8 41 (i64 K) [] rfl rfl (by kernel_rfl) (by decide) (by kernel_rfl) (by kernel_rfl) (by kernel_rfl) (fun _ _ _ h => h) HTr.out (by rfl) (fun W hW => by go_simp) ?_
            simp only [Act.put, List.setIfInBounds_toArray, List.set_cons_zero, List.set_cons_succ]
            refine wpL_take 9 42 (i64 ((K : Int) + 1)) [] rfl rfl (by kernel_rfl) (by decide) (by kernel_rfl) (by kernel_rfl) (by kernel_rfl) (fun _ _ _ h => h) HTr.out (by rfl) (fun W hW => by go_simp) ?_
            simp only [Act.put, List.setIfInBounds_toArray, List.set_cons_zero, List.set_cons_succ]
            refine wpL_take 10 43 (str (A.drop (K + 1))) [] rfl rfl (by kernel_rfl) (by decide) (by kernel_rfl) (by kernel_rfl) (by kernel_rfl) (fun _ _ _ h => h) HTr.out (by rfl) (fun W hW => by exact exec_slice 9 (.tmp 40) (some (.tmp 42)) none (some (i64 ((K : Int) + 1))) none rfl rfl rfl rfl (HSU.out W)) ?_
            simp only [Act.put, List.setIfInBounds_toArray, List.set_cons_zero, List.set_cons_succ]
            refine wpL_two 4 16 rfl rfl (by kernel_rfl) (by rfl) (by rfl) (fun K hK => ?_) (fun K hK => ?_)
            · go_simp
              refine hK.out _ _ (fun _ => trivial) ?_
              clear hK K
              have HB18 : Hid (Below w.heap.size w (w3.alloc (.cells #[.int .u8 n] 5))) := HB2d.out.alloc HB2d.out.size _
              have HX18 := hid (blk_alloc HX2d.out (.cells #[.int .u8 n] 5))
              have HC18 := hid (heap_last w3 (.cells #[.int .u8 n] 5))
              generalize w3.alloc (.cells #[.int .u8 n] 5) = V18 at *
              refine wpL_two 5 16 rfl rfl (by kernel_rfl) (by rfl) (by rfl) (fun K hK => ?_) (fun K hK => ?_)
              · refine wp_conv_run 51 9 (.tmp 37) rfl (.slice (some ⟨w3.heap.size, 0, none⟩) 1 1) rfl (str [c]) (conv_one V18 (w3.heap.size) c (by rw [HC18.out, HNc.out])) ?_
                refine hK.out _ _ (fun _ => trivial) ?_
                clear hK K
                refine wpL_take 6 39 (str (A.take K ++ [c])) [] rfl rfl (by kernel_rfl) (by decide) (by kernel_rfl) (by kernel_rfl) (by kernel_rfl) (fun _ _ _ h => h) HTr.out (by rfl) (fun W hW => by have e := ba_append (A.take K) [c]; have s1 := bsize (A.take K); have s2 := bsize [c]; have s3 : (A.take K).length ≤ 6000 := (by have := List.length_take_le K A; omega); have s4 : ([c] : Bs).length = 1 := rfl; go_simp; omega) ?_
                simp only [Act.put, List.setIfInBounds_toArray]
                refine wpL_take 11 44 (str (spo A K c)) [] rfl rfl (by kernel_rfl) (by decide) (by kernel_rfl) (by kernel_rfl) (by kernel_rfl) (fun _ _ _ h => h) HTr.out (by rfl) (fun W hW => by have e := ba_append (A.take K ++ [c]) (A.drop (K + 1)); have s1 := bsize (A.take K ++ [c]); have s2 := bsize (A.drop (K + 1)); have s3 : (A.take K ++ [c]).length ≤ 6001 := (by have h1 := List.length_take_le K A; have h2 : (A.take K ++ [c]).length = (A.take K).length + 1 := List.length_append; omega); have s4 : (A.drop (K + 1)).length ≤ 6000 := (by have h1 := List.length_drop (i := K + 1) (l := A); omega); unfold spo; go_simp; omega) ?_
                simp only [Act.put]
                refine wpL_two 12 16 rfl rfl (by kernel_rfl) (by rfl) (by rfl) (fun K hK => ?_) (fun K hK => ?_)
                · go_simp
                  refine (RD2.out V18 HB18.out).mono ?_
                  intro e wr hok
                  obtain ⟨a1, c1, a2, c2, a3, c3, rfl, hbr, hRr, hVr⟩ : RYes V18 v' T' V' e wr := hok
                  have HRr := hid hRr
                  have HVr := hid hVr
                  have HB20 : Hid (Below w.heap.size w wr) := HB18.out.trans (hbr.mono HB18.out.size)
                  have HX20 := hid (blk_below HX18.out hbr)
                  clear hbr hRr hVr
                  go_simp
                  refine hK.out _ _ (fun _ => trivial) ?_
                  clear hK K
                  have HUn := hid (Below.refl wr.heap.size wr)
                  refine wpL_take 13 32 (.tuple #[stV v' T' V' (.slice a1 T'.names.length c1) (.slice a2 T'.kids.length c2) (.slice a3 V'.kids.length c3), i64 0]) [] rfl rfl (by kernel_rfl) (by decide) (by kernel_rfl) (by kernel_rfl) (by kernel_rfl) (fun _ _ _ h => h) HTr.out (by rfl) (fun W hW => by go_simp) ?_
                  simp only [Act.put, List.setIfInBounds_toArray, List.set_cons_zero, List.set_cons_succ]
                  refine wpL_take 14 46 (stV v' T' V' (.slice a1 T'.names.length c1) (.slice a2 T'.kids.length c2) (.slice a3 V'.kids.length c3)) [] rfl rfl (by kernel_rfl) (by decide) (by kernel_rfl) (by kernel_rfl) (by kernel_rfl) (fun _ _ _ h => h) HTr.out (by rfl) (fun W hW => by go_simp) ?_
                  simp only [Act.put, List.setIfInBounds_toArray, List.set_cons_zero, List.set_cons_succ]
                  refine wpL_take 15 47 (i64 0) [] rfl rfl (by kernel_rfl) (by decide) (by kernel_rfl) (by kernel_rfl) (by kernel_rfl) (fun _ _ _ h => h) HTr.out (by rfl) (fun W hW => by go_simp) ?_
                  simp only [Act.put, List.setIfInBounds_toArray, List.set_cons_zero, List.set_cons_succ]
                  refine wpL_one 16 rfl (by kernel_rfl) (by rfl) (fun K hK => ?_)
                  go_simp
                  refine hK.out _ _ (fun _ => trivial) ?_
                  clear hK K
                  have HB21 : Hid (Below w.heap.size w (wr.alloc (.cells #[i64 0, i64 0, i64 0, .slice none 0 0, .slice none 0 0, i64 0, i64 0, str [], .slice none 0 0] 30))) := HB20.out.alloc HB20.out.size _
                  have HX21 := hid (blk_alloc HX20.out (.cells #[i64 0, i64 0, i64 0, .slice none 0 0, .slice none 0 0, i64 0, i64 0, str [], .slice none 0 0] 30))
                  have HQ21 := hid (heap_last wr (.cells #[i64 0, i64 0, i64 0, .slice none 0 0, .slice none 0 0, i64 0, i64 0, str [], .slice none 0 0] 30))
                  have hqx21 := blk_lt HX20.out
                  have HC21 := hid (blk_alloc HC18.out (.cells #[i64 0, i64 0, i64 0, .slice none 0 0, .slice none 0 0, i64 0, i64 0, str [], .slice none 0 0] 30))
                  have HU21 : Hid (Below wr.heap.size wr (wr.alloc (.cells #[i64 0, i64 0, i64 0, .slice none 0 0, .slice none 0 0, i64 0, i64 0, str [], .slice none 0 0] 30))) := HUn.out.alloc HUn.out.size _
                  generalize wr.alloc (.cells #[i64 0, i64 0, i64 0, .slice none 0 0, .slice none 0 0, i64 0, i64 0, str [], .slice none 0 0] 30) = V21 at *
                  refine wpL_one 17 rfl (by kernel_rfl) (by rfl) (fun K hK => ?_)
                  refine wp_store_mid 30 (.tmp 9) (.tmp 46) rfl (wr.heap.size) 0 #[i64 v', i64 T'.kind, i64 T'.num, .slice a1 T'.names.length c1, .slice a2 T'.kids.length c2, i64 V'.kind, i64 V'.num, str V'.s, .slice a3 V'.kids.length c3] rfl rfl (there9 HQ21.out) (by kernel_rfl) (all_oneCell_toArray (fun u hu => by simp only [List.mem_cons, List.not_mem_nil, or_false] at hu; rcases hu with rfl | rfl | rfl | rfl | rfl | rfl | rfl | rfl | rfl <;> rfl)) ?_
                  refine hK.out _ _ (fun _ => trivial) ?_
                  clear hK K
                  have HQ22 : Hid ((V21.setCells (wr.heap.size) 0 [i64 v', i64 T'.kind, i64 T'.num, .slice a1 T'.names.length c1, .slice a2 T'.kids.length c2, i64 V'.kind, i64 V'.num, str V'.s, .slice a3 V'.kids.length c3]).heap[wr.heap.size]? = some (stC v' T' V' (.slice a1 T'.names.length c1) (.slice a2 T'.kids.length c2) (.slice a3 V'.kids.length c3))) := set9s HQ21.out _ _ _ _ _ _ _ _ _
                  have HO22 : Hid (Touch (wr.heap.size) V21 (V21.setCells (wr.heap.size) 0 [i64 v', i64 T'.kind, i64 T'.num, .slice a1 T'.names.length c1, .slice a2 T'.kids.length c2, i64 V'.kind, i64 V'.num, str V'.s, .slice a3 V'.kids.length c3])) := Touch.setCells _ _ _ (Touch.refl _ _)
                  have HX22 : Hid ((V21.setCells (wr.heap.size) 0 [i64 v', i64 T'.kind, i64 T'.num, .slice a1 T'.names.length c1, .slice a2 T'.kids.length c2, i64 V'.kind, i64 V'.num, str V'.s, .slice a3 V'.kids.length c3]).heap[w.heap.size]? = some (stC v T V (.slice an T.names.length cn) (.slice at_ T.kids.length ct) (.slice ka V.kids.length kc))) := (HO22.out.block _ (blk_lt HX21.out) (by have := hqx21; omega)).trans HX21.out
                  have HB22 : Hid (Below w.heap.size w (V21.setCells (wr.heap.size) 0 [i64 v', i64 T'.kind, i64 T'.num, .slice a1 T'.names.length c1, .slice a2 T'.kids.length c2, i64 V'.kind, i64 V'.num, str V'.s, .slice a3 V'.kids.length c3])) := HB21.out.trans (HO22.out.below (by have := hqx21; omega) HB21.out.size)
                  generalize V21.setCells (wr.heap.size) 0 [i64 v', i64 T'.kind, i64 T'.num, .slice a1 T'.names.length c1, .slice a2 T'.kids.length c2, i64 V'.kind, i64 V'.num, str V'.s, .slice a3 V'.kids.length c3] = V22 at *
                  refine wpL_one 18 rfl (by kernel_rfl) (by rfl) (fun K hK => ?_)
                  go_simp
                  refine hK.out _ _ (fun h => absurd rfl h) ?_
                  clear hK K
                  refine wpL_done (by kernel_rfl) ?_
                  refine NoPanic.normal ?_
                  have hkeep : ∀ b, V18.heap.size ≤ b → b < wr.heap.size → V22.heap[b]? = wr.heap[b]? := fun b hb1 hb2 => ((HO22.out.block b (Nat.lt_of_lt_of_le hb2 HU21.out.size) (by omega)).trans (HU21.out.block b hb2))
                  have hsz2 : wr.heap.size ≤ V22.heap.size := Nat.le_trans HU21.out.size HO22.out.size
                  have HVd : Hid (Vd V22.drew (fun _ => True) V' (.slice a3 V'.kids.length c3)) := HVr.out.move hsz2 (fun b h1 h2 => ⟨trivial, hkeep b h1 h2⟩)
                  have HRd : Hid (Rd V22.drew (fun _ => True) T' (.slice a1 T'.names.length c1) (.slice a2 T'.kids.length c2)) := HRr.out.move hsz2 (fun b h1 h2 => ⟨trivial, hkeep b h1 h2⟩)
                  have HS : Hid ((fun W : World => W.heap[w.heap.size]? = some (stC v T V (.slice an T.names.length cn) (.slice at_ T.kids.length ct) (.slice ka V.kids.length kc)) ∧ W.heap[wr.heap.size]? = some (stC v' T' V' (.slice a1 T'.names.length c1) (.slice a2 T'.kids.length c2) (.slice a3 V'.kids.length c3))) V22.drew) := ⟨HX22.out, HQ22.out⟩
                  have HBd : Hid (Below w.heap.size w V22.drew) := HB22.out.drew
                  have D1 := hid (fits_ok V' T' V22.drew _ _ _ _ _ HVd.out HRd.out (by omega))
                  rw [HFit.out] at D1
                  have DR := hid fun W0 (hb : Below V22.drew.heap.size V22.drew W0) => refs_okR v' T' V' W0 _ _ _ (HVd.out.under hb) (HRd.out.under hb) (right_formed (right_of_err ((fitsB_iff V' T').1 HFit.out).1)).1 (by omega)
                  have hTc : True := trivial
                  clear hkeep hsz2
                  go_upto_region 9 with fail
                  refine wp_region_noPanic ?_
                  refine wp_region_last (fun W : World => W.heap[w.heap.size]? = some (stC v T V (.slice an T.names.length cn) (.slice at_ T.kids.length ct) (.slice ka V.kids.length kc)) ∧ W.heap[wr.heap.size]? = some (stC v' T' V' (.slice a1 T'.names.length c1) (.slice a2 T'.kids.length c2) (.slice a3 V'.kids.length c3))) 21 (by kernel_rfl) ?_
                  generalize V22.drew = w9 at *
                  refine wpL_take 0 57 (.pointer (some ⟨wr.heap.size, 5, none⟩)) [] rfl rfl (by kernel_rfl) (by decide) (by kernel_rfl) (by kernel_rfl) (by kernel_rfl) (fun _ _ _ h => h) HS.out (by rfl) (fun W hW => by go_simp) ?_
                  simp only [Act.put, List.setIfInBounds_toArray, List.set_cons_zero, List.set_cons_succ]
                  refine wpL_take 1 58 (vlV V' (.slice a3 V'.kids.length c3)) [] rfl rfl (by kernel_rfl) (by decide) (by kernel_rfl) (by kernel_rfl) (by kernel_rfl) (fun _ _ _ h => h) HS.out (by rfl) (fun W hW => by exact exec_load 28 (.tmp 57) rfl rfl (vload28q hW.2)) ?_
                  simp only [Act.put, List.setIfInBounds_toArray, List.set_cons_zero, List.set_cons_succ]
                  refine wpL_take 2 59 (.pointer (some ⟨wr.heap.size, 1, none⟩)) [] rfl rfl (by kernel_rfl) (by decide) (by kernel_rfl) (by kernel_rfl) (by kernel_rfl) (fun _ _ _ h => h) HS.out (by rfl) (fun W hW => by go_simp) ?_
                  simp only [Act.put, List.setIfInBounds_toArray, List.set_cons_zero, List.set_cons_succ]
                  refine wpL_take 3 60 (tyV T'.kind T'.num (.slice a1 T'.names.length c1) (.slice a2 T'.kids.length c2)) [] rfl rfl (by kernel_rfl) (by decide) (by kernel_rfl) (by kernel_rfl) (by kernel_rfl) (fun _ _ _ h => h) HS.out (by rfl) (fun W hW => by exact exec_load 25 (.tmp 59) rfl rfl (vload25q hW.2)) ?_
                  simp only [Act.put, List.setIfInBounds_toArray, List.set_cons_zero, List.set_cons_succ]
                  refine wpL_one 4 rfl (by kernel_rfl) (by rfl) (fun K hK => ?_)
                  go_simp
                  refine D1.out.mono ?_
                  rintro e v1 ⟨rfl, hb1⟩
                  have HSa : Hid ((fun W : World => W.heap[w.heap.size]? = some (stC v T V (.slice an T.names.length cn) (.slice at_ T.kids.length ct) (.slice ka V.kids.length kc)) ∧ W.heap[wr.heap.size]? = some (stC v' T' V' (.slice a1 T'.names.length c1) (.slice a2 T'.kids.length c2) (.slice a3 V'.kids.length c3))) v1) := ⟨blk_below HS.out.1 hb1, blk_below HS.out.2 hb1⟩
                  have HBa : Hid (Below w.heap.size w v1) := HBd.out.trans (hb1.mono HBd.out.size)
                  have HUa := hid hb1
                  clear hb1 D1
                  go_simp
                  refine hK.out _ _ (fun _ => HSa.out) ?_
                  clear hK K
                  refine wpL_take 5 62 (.bool true) [] rfl rfl (by kernel_rfl) (by decide) (by kernel_rfl) (by kernel_rfl) (by kernel_rfl) (fun _ _ _ h => h) HSa.out (by rfl) (fun W hW => by go_simp) ?_
                  simp only [Act.put, List.setIfInBounds_toArray, List.set_cons_zero, List.set_cons_succ]
                  refine wpL_take 6 63 (str A) [] rfl rfl (by kernel_rfl) (by decide) (by kernel_rfl) (by kernel_rfl) (by kernel_rfl) (fun _ _ _ h => h) HSa.out (by rfl) (fun W hW => by go_simp) ?_
                  simp only [Act.put, List.setIfInBounds_toArray, List.set_cons_zero, List.set_cons_succ]
                  refine wpL_take 7 64 (i64 K) [] rfl rfl (by kernel_rfl) (by decide) (by kernel_rfl) (by kernel_rfl) (by kernel_rfl) (fun _ _ _ h => h) HSa.out (by rfl) (fun W hW => by go_simp) ?_
                  simp only [Act.put, List.setIfInBounds_toArray, List.set_cons_zero, List.set_cons_succ]
                  refine wpL_take 8 65 (.int .u8 (A[K].toNat : Int)) [] rfl rfl (by kernel_rfl) (by decide) (by kernel_rfl) (by kernel_rfl) (by kernel_rfl) (fun _ _ _ h => h) HSa.out (by rfl) (fun W hW => by have hkk : 0 ≤ (K : Int) := (by omega); go_simp; rfl) ?_
                  simp only [Act.put, List.setIfInBounds_toArray, List.set_cons_zero, List.set_cons_succ]
                  refine wpL_take 9 66 (.int .u8 n) [] rfl rfl (by kernel_rfl) (by decide) (by kernel_rfl) (by kernel_rfl) (by kernel_rfl) (fun _ _ _ h => h) HSa.out (by rfl) (fun W hW => by go_simp) ?_
                  simp only [Act.put, List.setIfInBounds_toArray, List.set_cons_zero, List.set_cons_succ]
                  refine wpL_take 10 67 (.bool (decide (A[K] = c))) [] rfl rfl (by kernel_rfl) (by decide) (by kernel_rfl) (by kernel_rfl) (by kernel_rfl) (fun _ _ _ h => h) HSa.out (by rfl) (fun W hW => by have e1 := HNc.out; go_simp; exact u8_beq _ _) ?_
                  simp only [Act.put, List.setIfInBounds_toArray, List.set_cons_zero, List.set_cons_succ]
                  refine wpL_take 11 68 (stV v T V (.slice an T.names.length cn) (.slice at_ T.kids.length ct) (.slice ka V.kids.length kc)) [] rfl rfl (by kernel_rfl) (by decide) (by kernel_rfl) (by kernel_rfl) (by kernel_rfl) (fun _ _ _ h => h) HSa.out (by rfl) (fun W hW => by exact exec_load 30 (.tmp 3) rfl rfl (vload30 hW.1)) ?_
                  simp only [Act.put, List.setIfInBounds_toArray, List.set_cons_zero, List.set_cons_succ]
                  refine wpL_take 13 70 (stV v' T' V' (.slice a1 T'.names.length c1) (.slice a2 T'.kids.length c2) (.slice a3 V'.kids.length c3)) [] rfl rfl (by kernel_rfl) (by decide) (by kernel_rfl) (by kernel_rfl) (by kernel_rfl) (fun _ _ _ h => h) HSa.out (by rfl) (fun W hW => by exact exec_load 30 (.tmp 9) rfl rfl (vload30 hW.2)) ?_
                  simp only [Act.put, List.setIfInBounds_toArray, List.set_cons_zero, List.set_cons_succ]
                  refine wpL_one 12 rfl (by kernel_rfl) (by rfl) (fun K hK => ?_)
                  go_simp
                  refine (R1.out v1 HBa.out).mono ?_
                  rintro e v2 ⟨p1, q1, p2, q2, p3, q3, rfl, hb2, hR2, hV2⟩
                  have HSb : Hid ((fun W : World => W.heap[w.heap.size]? = some (stC v T V (.slice an T.names.length cn) (.slice at_ T.kids.length ct) (.slice ka V.kids.length kc)) ∧ W.heap[wr.heap.size]? = some (stC v' T' V' (.slice a1 T'.names.length c1) (.slice a2 T'.kids.length c2) (.slice a3 V'.kids.length c3))) v2) := ⟨blk_below HSa.out.1 hb2, blk_below HSa.out.2 hb2⟩
                  have HBb : Hid (Below w.heap.size w v2) := HBa.out.trans (hb2.mono HBa.out.size)
                  have HUb : Hid (Below w9.heap.size w9 v2) := HUa.out.trans (hb2.mono HUa.out.size)
                  have HR2 := hid hR2
                  have HV2 := hid hV2
                  clear hb2 hR2 hV2
                  go_simp
                  refine hK.out _ _ (fun _ => HSb.out) ?_
                  clear hK K
                  refine wpL_one 14 rfl (by kernel_rfl) (by rfl) (fun K hK => ?_)
                  go_simp
                  refine (DR.out v2 HUb.out).mono ?_
                  rintro e v3 ⟨p4, q4, p5, q5, p6, q6, rfl, hb3, hR3, hV3⟩
                  have HSc : Hid ((fun W : World => W.heap[w.heap.size]? = some (stC v T V (.slice an T.names.length cn) (.slice at_ T.kids.length ct) (.slice ka V.kids.length kc)) ∧ W.heap[wr.heap.size]? = some (stC v' T' V' (.slice a1 T'.names.length c1) (.slice a2 T'.kids.length c2) (.slice a3 V'.kids.length c3))) v3) := ⟨blk_below HSb.out.1 hb3, blk_below HSb.out.2 hb3⟩
                  have HBc : Hid (Below w.heap.size w v3) := HBb.out.trans (hb3.mono HBb.out.size)
                  have HSm := hid (rst_same v v' T T' V V' v3 _ _ _ _ _ _ _ (HR2.out.under hb3) (HV2.out.under hb3) hR3 hV3)
                  rw [← HSame.out] at HSm
                  clear hb3 hR3 hV3
                  go_simp
                  refine hK.out _ _ (fun _ => HSc.out) ?_
                  clear hK K
                  refine wpL_one 15 rfl (by kernel_rfl) (by rfl) (fun K hK => ?_)
                  go_simp
                  refine HSm.out.mono ?_
                  rintro e v4 ⟨rfl, hb4⟩
                  have HSd : Hid ((fun W : World => W.heap[w.heap.size]? = some (stC v T V (.slice an T.names.length cn) (.slice at_ T.kids.length ct) (.slice ka V.kids.length kc)) ∧ W.heap[wr.heap.size]? = some (stC v' T' V' (.slice a1 T'.names.length c1) (.slice a2 T'.kids.length c2) (.slice a3 V'.kids.length c3))) v4) := ⟨blk_below HSc.out.1 hb4, blk_below HSc.out.2 hb4⟩
                  have HBe : Hid (Below w.heap.size w v4) := HBc.out.trans (hb4.mono HBc.out.size)
                  clear hb4 HSm
                  go_simp
                  refine hK.out _ _ (fun _ => HSd.out) ?_
                  clear hK K
                  refine wpL_take 16 73 (.bool true) [] rfl rfl (by kernel_rfl) (by decide) (by kernel_rfl) (by kernel_rfl) (by kernel_rfl) (fun _ _ _ h => h) HSd.out (by rfl) (fun W hW => by go_simp) ?_
                  simp only [Act.put, List.setIfInBounds_toArray, List.set_cons_zero, List.set_cons_succ]
                  refine wpL_take 17 74 (.bool true) [] rfl rfl (by kernel_rfl) (by decide) (by kernel_rfl) (by kernel_rfl) (by kernel_rfl) (fun _ _ _ h => h) HSd.out (by rfl) (fun W hW => by go_simp) ?_
                  simp only [Act.put, List.setIfInBounds_toArray, List.set_cons_zero, List.set_cons_succ]
                  refine wpL_take 18 75 (.bool true) [] rfl rfl (by kernel_rfl) (by decide) (by kernel_rfl) (by kernel_rfl) (by kernel_rfl) (fun _ _ _ h => h) HSd.out (by rfl) (fun W hW => by go_simp) ?_
                  simp only [Act.put, List.setIfInBounds_toArray, List.set_cons_zero, List.set_cons_succ]
                  refine wpL_one 19 rfl (by kernel_rfl) (by rfl) (fun K hK => ?_)
                  go_simp
                  refine (W7.out v4 HBe.out).mono ?_
                  rintro e v5 ⟨rfl, hb5⟩
                  have HSe : Hid ((fun W : World => W.heap[w.heap.size]? = some (stC v T V (.slice an T.names.length cn) (.slice at_ T.kids.length ct) (.slice ka V.kids.length kc)) ∧ W.heap[wr.heap.size]? = some (stC v' T' V' (.slice a1 T'.names.length c1) (.slice a2 T'.kids.length c2) (.slice a3 V'.kids.length c3))) v5) := ⟨blk_below HSd.out.1 hb5, blk_below HSd.out.2 hb5⟩
                  have HBf : Hid (Below w.heap.size w v5) := HBe.out.trans (hb5.mono HBe.out.size)
                  clear hb5
                  go_simp
                  refine hK.out _ _ (fun _ => HSe.out) ?_
                  clear hK K
                  refine wpL_take 20 77 (.bool true) [] rfl rfl (by kernel_rfl) (by decide) (by kernel_rfl) (by kernel_rfl) (by kernel_rfl) (fun _ _ _ h => h) HSe.out (by rfl) (fun W hW => by go_simp) ?_
                  simp only [Act.put, List.setIfInBounds_toArray, List.set_cons_zero, List.set_cons_succ]
                  refine wpL_one 21 rfl (by kernel_rfl) (by rfl) (fun K hK => ?_)
                  go_simp
                  refine hK.out _ _ (fun h => absurd rfl h) ?_
                  clear hK K
                  refine wpL_done (by kernel_rfl) ?_
                  refine NoPanic.normal ?_
                  go_wp2_with fail
                  go_ret
                  exact ⟨rfl, HBf.out⟩
                · go_simp
                  refine hK.out _ _ (fun _ => trivial) ?_
                  clear hK K
                  have HB23 : Hid (Below w.heap.size w (V18.alloc (.cells #[i64 0, i64 0, i64 0, .slice none 0 0, .slice none 0 0, i64 0, i64 0, str [], .slice none 0 0] 30))) := HB18.out.alloc HB18.out.size _
                  have HX23 := hid (blk_alloc HX18.out (.cells #[i64 0, i64 0, i64 0, .slice none 0 0, .slice none 0 0, i64 0, i64 0, str [], .slice none 0 0] 30))
                  have HQ23 := hid (heap_last V18 (.cells #[i64 0, i64 0, i64 0, .slice none 0 0, .slice none 0 0, i64 0, i64 0, str [], .slice none 0 0] 30))
                  have hqx23 := blk_lt HX18.out
                  have HC23 := hid (blk_alloc HC18.out (.cells #[i64 0, i64 0, i64 0, .slice none 0 0, .slice none 0 0, i64 0, i64 0, str [], .slice none 0 0] 30))
                  generalize V18.alloc (.cells #[i64 0, i64 0, i64 0, .slice none 0 0, .slice none 0 0, i64 0, i64 0, str [], .slice none 0 0] 30) = V23 at *
                  refine wpL_one 12 rfl (by kernel_rfl) (by rfl) (fun K hK => ?_)
                  go_simp
                  refine (RD2.out V23 HB23.out).mono ?_
                  intro e wr hok
                  obtain ⟨a1, c1, a2, c2, a3, c3, rfl, hbr, hRr, hVr⟩ : RYes V23 v' T' V' e wr := hok
                  have HRr := hid hRr
                  have HVr := hid hVr
                  have HB24 : Hid (Below w.heap.size w wr) := HB23.out.trans (hbr.mono HB23.out.size)
                  have HX24 := hid (blk_below HX23.out hbr)
                  have hqb24 := blk_lt HQ23.out
                  have HQ24 := hid (blk_below HQ23.out hbr)
                  clear hbr hRr hVr
                  go_simp
                  refine hK.out _ _ (fun _ => trivial) ?_
                  clear hK K
                  have HUn := hid (Below.refl wr.heap.size wr)
                  refine wpL_take 13 32 (.tuple #[stV v' T' V' (.slice a1 T'.names.length c1) (.slice a2 T'.kids.length c2) (.slice a3 V'.kids.length c3), i64 0]) [] rfl rfl (by kernel_rfl) (by decide) (by kernel_rfl) (by kernel_rfl) (by kernel_rfl) (fun _ _ _ h => h) HTr.out (by rfl) (fun W hW => by go_simp) ?_
                  simp only [Act.put, List.setIfInBounds_toArray, List.set_cons_zero, List.set_cons_succ]
                  refine wpL_take 14 46 (stV v' T' V' (.slice a1 T'.names.length c1) (.slice a2 T'.kids.length c2) (.slice a3 V'.kids.length c3)) [] rfl rfl (by kernel_rfl) (by decide) (by kernel_rfl) (by kernel_rfl) (by kernel_rfl) (fun _ _ _ h => h) HTr.out (by rfl) (fun W hW => by go_simp) ?_
                  simp only [Act.put, List.setIfInBounds_toArray, List.set_cons_zero, List.set_cons_succ]
                  refine wpL_take 15 47 (i64 0) [] rfl rfl (by kernel_rfl) (by decide) (by kernel_rfl) (by kernel_rfl) (by kernel_rfl) (fun _ _ _ h => h) HTr.out (by rfl) (fun W hW => by go_simp) ?_
                  simp only [Act.put, List.setIfInBounds_toArray, List.set_cons_zero, List.set_cons_succ]
                  refine wpL_one 17 rfl (by kernel_rfl) (by rfl) (fun K hK => ?_)
                  refine wp_store_mid 30 (.tmp 9) (.tmp 46) rfl (V18.heap.size) 0 #[i64 v', i64 T'.kind, i64 T'.num, .slice a1 T'.names.length c1, .slice a2 T'.kids.length c2, i64 V'.kind, i64 V'.num, str V'.s, .slice a3 V'.kids.length c3] rfl rfl (there9 HQ24.out) (by kernel_rfl) (all_oneCell_toArray (fun u hu => by simp only [List.mem_cons, List.not_mem_nil, or_false] at hu; rcases hu with rfl | rfl | rfl | rfl | rfl | rfl | rfl | rfl | rfl <;> rfl)) ?_
                  refine hK.out _ _ (fun _ => trivial) ?_
                  clear hK K
                  have HQ25 : Hid ((wr.setCells (V18.heap.size) 0 [i64 v', i64 T'.kind, i64 T'.num, .slice a1 T'.names.length c1, .slice a2 T'.kids.length c2, i64 V'.kind, i64 V'.num, str V'.s, .slice a3 V'.kids.length c3]).heap[V18.heap.size]? = some (stC v' T' V' (.slice a1 T'.names.length c1) (.slice a2 T'.kids.length c2) (.slice a3 V'.kids.length c3))) := set9s HQ24.out _ _ _ _ _ _ _ _ _
                  have HO25 : Hid (Touch (V18.heap.size) wr (wr.setCells (V18.heap.size) 0 [i64 v', i64 T'.kind, i64 T'.num, .slice a1 T'.names.length c1, .slice a2 T'.kids.length c2, i64 V'.kind, i64 V'.num, str V'.s, .slice a3 V'.kids.length c3])) := Touch.setCells _ _ _ (Touch.refl _ _)
                  have HX25 : Hid ((wr.setCells (V18.heap.size) 0 [i64 v', i64 T'.kind, i64 T'.num, .slice a1 T'.names.length c1, .slice a2 T'.kids.length c2, i64 V'.kind, i64 V'.num, str V'.s, .slice a3 V'.kids.length c3]).heap[w.heap.size]? = some (stC v T V (.slice an T.names.length cn) (.slice at_ T.kids.length ct) (.slice ka V.kids.length kc))) := (HO25.out.block _ (blk_lt HX24.out) (by have := hqx23; omega)).trans HX24.out
                  have HB25 : Hid (Below w.heap.size w (wr.setCells (V18.heap.size) 0 [i64 v', i64 T'.kind, i64 T'.num, .slice a1 T'.names.length c1, .slice a2 T'.kids.length c2, i64 V'.kind, i64 V'.num, str V'.s, .slice a3 V'.kids.length c3])) := HB24.out.trans (HO25.out.below (by have := hqx23; omega) HB24.out.size)
                  generalize wr.setCells (V18.heap.size) 0 [i64 v', i64 T'.kind, i64 T'.num, .slice a1 T'.names.length c1, .slice a2 T'.kids.length c2, i64 V'.kind, i64 V'.num, str V'.s, .slice a3 V'.kids.length c3] = V25 at *
                  refine wpL_one 18 rfl (by kernel_rfl) (by rfl) (fun K hK => ?_)
                  go_simp
                  refine hK.out _ _ (fun h => absurd rfl h) ?_
                  clear hK K
                  refine wpL_done (by kernel_rfl) ?_
                  refine NoPanic.normal ?_
                  have hkeep : ∀ b, V23.heap.size ≤ b → b < wr.heap.size → V25.heap[b]? = wr.heap[b]? := fun b hb1 hb2 => ((HO25.out.block b (Nat.lt_of_lt_of_le hb2 HUn.out.size) (by have := hqb24; omega)).trans (HUn.out.block b hb2))
                  have hsz2 : wr.heap.size ≤ V25.heap.size := Nat.le_trans HUn.out.size HO25.out.size
                  have HVd : Hid (Vd V25.drew (fun _ => True) V' (.slice a3 V'.kids.length c3)) := HVr.out.move hsz2 (fun b h1 h2 => ⟨trivial, hkeep b h1 h2⟩)
                  have HRd : Hid (Rd V25.drew (fun _ => True) T' (.slice a1 T'.names.length c1) (.slice a2 T'.kids.length c2)) := HRr.out.move hsz2 (fun b h1 h2 => ⟨trivial, hkeep b h1 h2⟩)
                  have HS : Hid ((fun W : World => W.heap[w.heap.size]? = some (stC v T V (.slice an T.names.length cn) (.slice at_ T.kids.length ct) (.slice ka V.kids.length kc)) ∧ W.heap[V18.heap.size]? = some (stC v' T' V' (.slice a1 T'.names.length c1) (.slice a2 T'.kids.length c2) (.slice a3 V'.kids.length c3))) V25.drew) := ⟨HX25.out, HQ25.out⟩
                  have HBd : Hid (Below w.heap.size w V25.drew) := HB25.out.drew
                  have D1 := hid (fits_ok V' T' V25.drew _ _ _ _ _ HVd.out HRd.out (by omega))
                  rw [HFit.out] at D1
                  have DR := hid fun W0 (hb : Below V25.drew.heap.size V25.drew W0) => refs_okR v' T' V' W0 _ _ _ (HVd.out.under hb) (HRd.out.under hb) (right_formed (right_of_err ((fitsB_iff V' T').1 HFit.out).1)).1 (by omega)
                  have hTc : True := trivial
                  clear hkeep hsz2
                  go_upto_region 9 with fail
                  refine wp_region_noPanic ?_
                  refine wp_region_last (fun W : World => W.heap[w.heap.size]? = some (stC v T V (.slice an T.names.length cn) (.slice at_ T.kids.length ct) (.slice ka V.kids.length kc)) ∧ W.heap[V18.heap.size]? = some (stC v' T' V' (.slice a1 T'.names.length c1) (.slice a2 T'.kids.length c2) (.slice a3 V'.kids.length c3))) 21 (by kernel_rfl) ?_
                  generalize V25.drew = w9 at *
                  refine wpL_take 0 57 (.pointer (some ⟨V18.heap.size, 5, none⟩)) [] rfl rfl (by kernel_rfl) (by decide) (by kernel_rfl) (by kernel_rfl) (by kernel_rfl) (fun _ _ _ h => h) HS.out (by rfl) (fun W hW => by go_simp) ?_
                  simp only [Act.put, List.setIfInBounds_toArray, List.set_cons_zero, List.set_cons_succ]
                  refine wpL_take 1 58 (vlV V' (.slice a3 V'.kids.length c3)) [] rfl rfl (by kernel_rfl) (by decide) (by kernel_rfl) (by kernel_rfl) (by kernel_rfl) (fun _ _ _ h => h) HS.out (by rfl) (fun W hW => by exact exec_load 28 (.tmp 57) rfl rfl (vload28q hW.2)) ?_
                  simp only [Act.put, List.setIfInBounds_toArray, List.set_cons_zero, List.set_cons_succ]
                  refine wpL_take 2 59 (.pointer (some ⟨V18.heap.size, 1, none⟩)) [] rfl rfl (by kernel_rfl) (by decide) (by kernel_rfl) (by kernel_rfl) (by kernel_rfl) (fun _ _ _ h => h) HS.out (by rfl) (fun W hW => by go_simp) ?_
                  simp only [Act.put, List.setIfInBounds_toArray, List.set_cons_zero, List.set_cons_succ]
                  refine wpL_take 3 60 (tyV T'.kind T'.num (.slice a1 T'.names.length c1) (.slice a2 T'.kids.length c2)) [] rfl rfl (by kernel_rfl) (by decide) (by kernel_rfl) (by kernel_rfl) (by kernel_rfl) (fun _ _ _ h => h) HS.out (by rfl) (fun W hW => by exact exec_load 25 (.tmp 59) rfl rfl (vload25q hW.2)) ?_
                  simp only [Act.put, List.setIfInBounds_toArray, List.set_cons_zero, List.set_cons_succ]
                  refine wpL_one 4 rfl (by kernel_rfl) (by rfl) (fun K hK => ?_)
                  go_simp
                  refine D1.out.mono ?_
                  rintro e v1 ⟨rfl, hb1⟩
                  have HSa : Hid ((fun W : World => W.heap[w.heap.size]? = some (stC v T V (.slice an T.names.length cn) (.slice at_ T.kids.length ct) (.slice ka V.kids.length kc)) ∧ W.heap[V18.heap.size]? = some (stC v' T' V' (.slice a1 T'.names.length c1) (.slice a2 T'.kids.length c2) (.slice a3 V'.kids.length c3))) v1) := ⟨blk_below HS.out.1 hb1, blk_below HS.out.2 hb1⟩
                  have HBa : Hid (Below w.heap.size w v1) := HBd.out.trans (hb1.mono HBd.out.size)
                  have HUa := hid hb1
                  clear hb1 D1
                  go_simp
                  refine hK.out _ _ (fun _ => HSa.out) ?_
                  clear hK K
                  refine wpL_take 5 62 (.bool true) [] rfl rfl (by kernel_rfl) (by decide) (by kernel_rfl) (by kernel_rfl) (by kernel_rfl) (fun _ _ _ h => h) HSa.out (by rfl) (fun W hW => by go_simp) ?_
                  simp only [Act.put, List.setIfInBounds_toArray, List.set_cons_zero, List.set_cons_succ]
                  refine wpL_take 6 63 (str A) [] rfl rfl (by kernel_rfl) (by decide) (by kernel_rfl) (by kernel_rfl) (by kernel_rfl) (fun _ _ _ h => h) HSa.out (by rfl) (fun W hW => by go_simp) ?_
                  simp only [Act.put, List.setIfInBounds_toArray, List.set_cons_zero, List.set_cons_succ]
                  refine wpL_take 7 64 (i64 K) [] rfl rfl (by kernel_rfl) (by decide) (by kernel_rfl) (by kernel_rfl) (by kernel_rfl) (fun _ _ _ h => h) HSa.out (by rfl) (fun W hW => by go_simp) ?_
                  simp only [Act.put, List.setIfInBounds_toArray, List.set_cons_zero, List.set_cons_succ]
                  refine wpL_take 8 65 (.int .u8 (A[K].toNat : Int)) [] rfl rfl (by kernel_rfl) (by decide) (by kernel_rfl) (by kernel_rfl) (by kernel_rfl) (fun _ _ _ h => h) HSa.out (by rfl) (fun W hW => by have hkk : 0 ≤ (K : Int) := (by omega); go_simp; rfl) ?_
                  simp only [Act.put, List.setIfInBounds_toArray, List.set_cons_zero, List.set_cons_succ]
                  refine wpL_take 9 66 (.int .u8 n) [] rfl rfl (by kernel_rfl) (by decide) (by kernel_rfl) (by kernel_rfl) (by kernel_rfl) (fun _ _ _ h => h) HSa.out (by rfl) (fun W hW => by go_simp) ?_
                  simp only [Act.put, List.setIfInBounds_toArray, List.set_cons_zero, List.set_cons_succ]
                  refine wpL_take 10 67 (.bool (decide (A[K] = c))) [] rfl rfl (by kernel_rfl) (by decide) (by kernel_rfl) (by kernel_rfl) (by kernel_rfl) (fun _ _ _ h => h) HSa.out (by rfl) (fun W hW => by have e1 := HNc.out; go_simp; exact u8_beq _ _) ?_
                  simp only [Act.put, List.setIfInBounds_toArray, List.set_cons_zero, List.set_cons_succ]
                  refine wpL_take 11 68 (stV v T V (.slice an T.names.length cn) (.slice at_ T.kids.length ct) (.slice ka V.kids.length kc)) [] rfl rfl (by kernel_rfl) (by decide) (by kernel_rfl) (by kernel_rfl) (by kernel_rfl) (fun _ _ _ h => h) HSa.out (by rfl) (fun W hW => by exact exec_load 30 (.tmp 3) rfl rfl (vload30 hW.1)) ?_
                  simp only [Act.put, List.setIfInBounds_toArray, List.set_cons_zero, List.set_cons_succ]
                  refine wpL_take 13 70 (stV v' T' V' (.slice a1 T'.names.length c1) (.slice a2 T'.kids.length c2) (.slice a3 V'.kids.length c3)) [] rfl rfl (by kernel_rfl) (by decide) (by kernel_rfl) (by kernel_rfl) (by kernel_rfl) (fun _ _ _ h => h) HSa.out (by rfl) (fun W hW => by exact exec_load 30 (.tmp 9) rfl rfl (vload30 hW.2)) ?_
                  simp only [Act.put, List.setIfInBounds_toArray, List.set_cons_zero, List.set_cons_succ]
                  refine wpL_one 12 rfl (by kernel_rfl) (by rfl) (fun K hK => ?_)
                  go_simp
                  refine (R1.out v1 HBa.out).mono ?_
                  rintro e v2 ⟨p1, q1, p2, q2, p3, q3, rfl, hb2, hR2, hV2⟩
                  have HSb : Hid ((fun W : World => W.heap[w.heap.size]? = some (stC v T V (.slice an T.names.length cn) (.slice at_ T.kids.length ct) (.slice ka V.kids.length kc)) ∧ W.heap[V18.heap.size]? = some (stC v' T' V' (.slice a1 T'.names.length c1) (.slice a2 T'.kids.length c2) (.slice a3 V'.kids.length c3))) v2) := ⟨blk_below HSa.out.1 hb2, blk_below HSa.out.2 hb2⟩
                  have HBb : Hid (Below w.heap.size w v2) := HBa.out.trans (hb2.mono HBa.out.size)
                  have HUb : Hid (Below w9.heap.size w9 v2) := HUa.out.trans (hb2.mono HUa.out.size)
                  have HR2 := hid hR2
                  have HV2 := hid hV2
                  clear hb2 hR2 hV2
                  go_simp
                  refine hK.out _ _ (fun _ => HSb.out) ?_
                  clear hK K
                  refine wpL_one 14 rfl (by kernel_rfl) (by rfl) (fun K hK => ?_)
                  go_simp
                  refine (DR.out v2 HUb.out).mono ?_
                  rintro e v3 ⟨p4, q4, p5, q5, p6, q6, rfl, hb3, hR3, hV3⟩
                  have HSc : Hid ((fun W : World => W.heap[w.heap.size]? = some (stC v T V (.slice an T.names.length cn) (.slice at_ T.kids.length ct) (.slice ka V.kids.length kc)) ∧ W.heap[V18.heap.size]? = some (stC v' T' V' (.slice a1 T'.names.length c1) (.slice a2 T'.kids.length c2) (.slice a3 V'.kids.length c3))) v3) := ⟨blk_below HSb.out.1 hb3, blk_below HSb.out.2 hb3⟩
                  have HBc : Hid (Below w.heap.size w v3) := HBb.out.trans (hb3.mono HBb.out.size)
                  have HSm := hid (rst_same v v' T T' V V' v3 _ _ _ _ _ _ _ (HR2.out.under hb3) (HV2.out.under hb3) hR3 hV3)
                  rw [← HSame.out] at HSm
                  clear hb3 hR3 hV3
                  go_simp
                  refine hK.out _ _ (fun _ => HSc.out) ?_
                  clear hK K
                  refine wpL_one 15 rfl (by kernel_rfl) (by rfl) (fun K hK => ?_)
                  go_simp
                  refine HSm.out.mono ?_
                  rintro e v4 ⟨rfl, hb4⟩
                  have HSd : Hid ((fun W : World => W.heap[w.heap.size]? = some (stC v T V (.slice an T.names.length cn) (.slice at_ T.kids.length ct) (.slice ka V.kids.length kc)) ∧ W.heap[V18.heap.size]? = some (stC v' T' V' (.slice a1 T'.names.length c1) (.slice a2 T'.kids.length c2) (.slice a3 V'.kids.length c3))) v4) := ⟨blk_below HSc.out.1 hb4, blk_below HSc.out.2 hb4⟩
                  have HBe : Hid (Below w.heap.size w v4) := HBc.out.trans (hb4.mono HBc.out.size)
                  clear hb4 HSm
                  go_simp
                  refine hK.out _ _ (fun _ => HSd.out) ?_
                  clear hK K
                  refine wpL_take 16 73 (.bool true) [] rfl rfl (by kernel_rfl) (by decide) (by kernel_rfl) (by kernel_rfl) (by kernel_rfl) (fun _ _ _ h => h) HSd.out (by rfl) (fun W hW => by go_simp) ?_
                  simp only [Act.put, List.setIfInBounds_toArray, List.set_cons_zero, List.set_cons_succ]
                  refine wpL_take 17 74 (.bool true) [] rfl rfl (by kernel_rfl) (by decide) (by kernel_rfl) (by kernel_rfl) (by kernel_rfl) (fun _ _ _ h => h) HSd.out (by rfl) (fun W hW => by go_simp) ?_
                  simp only [Act.put, List.setIfInBounds_toArray, List.set_cons_zero, List.set_cons_succ]
                  refine wpL_take 18 75 (.bool true) [] rfl rfl (by kernel_rfl) (by decide) (by kernel_rfl) (by kernel_rfl) (by kernel_rfl) (fun _ _ _ h => h) HSd.out (by rfl) (fun W hW => by go_simp) ?_
                  simp only [Act.put, List.setIfInBounds_toArray, List.set_cons_zero, List.set_cons_succ]
                  refine wpL_one 19 rfl (by kernel_rfl) (by rfl) (fun K hK => ?_)
                  go_simp
                  refine (W7.out v4 HBe.out).mono ?_
                  rintro e v5 ⟨rfl, hb5⟩
                  have HSe : Hid ((fun W : World => W.heap[w.heap.size]? = some (stC v T V (.slice an T.names.length cn) (.slice at_ T.kids.length ct) (.slice ka V.kids.length kc)) ∧ W.heap[V18.heap.size]? = some (stC v' T' V' (.slice a1 T'.names.length c1) (.slice a2 T'.kids.length c2) (.slice a3 V'.kids.length c3))) v5) := ⟨blk_below HSd.out.1 hb5, blk_below HSd.out.2 hb5⟩
                  have HBf : Hid (Below w.heap.size w v5) := HBe.out.trans (hb5.mono HBe.out.size)
                  clear hb5
                  go_simp
                  refine hK.out _ _ (fun _ => HSe.out) ?_
                  clear hK K
                  refine wpL_take 20 77 (.bool true) [] rfl rfl (by kernel_rfl) (by decide) (by kernel_rfl) (by kernel_rfl) (by kernel_rfl) (fun _ _ _ h => h) HSe.out (by rfl) (fun W hW => by go_simp) ?_
                  simp only [Act.put, List.setIfInBounds_toArray, List.set_cons_zero, List.set_cons_succ]
                  refine wpL_one 21 rfl (by kernel_rfl) (by rfl) (fun K hK => ?_)
                  go_simp
                  refine hK.out _ _ (fun h => absurd rfl h) ?_
                  clear hK K
                  refine wpL_done (by kernel_rfl) ?_
                  refine NoPanic.normal ?_
                  go_wp2_with fail
                  go_ret
                  exact ⟨rfl, HBf.out⟩
              · go_simp
                refine hK.out _ _ (fun _ => trivial) ?_
                clear hK K
                have HB26 : Hid (Below w.heap.size w (V18.alloc (.cells #[i64 0, i64 0, i64 0, .slice none 0 0, .slice none 0 0, i64 0, i64 0, str [], .slice none 0 0] 30))) := HB18.out.alloc HB18.out.size _
                have HX26 := hid (blk_alloc HX18.out (.cells #[i64 0, i64 0, i64 0, .slice none 0 0, .slice none 0 0, i64 0, i64 0, str [], .slice none 0 0] 30))
                have HQ26 := hid (heap_last V18 (.cells #[i64 0, i64 0, i64 0, .slice none 0 0, .slice none 0 0, i64 0, i64 0, str [], .slice none 0 0] 30))
                have hqx26 := blk_lt HX18.out
                have HC26 := hid (blk_alloc HC18.out (.cells #[i64 0, i64 0, i64 0, .slice none 0 0, .slice none 0 0, i64 0, i64 0, str [], .slice none 0 0] 30))
                generalize V18.alloc (.cells #[i64 0, i64 0, i64 0, .slice none 0 0, .slice none 0 0, i64 0, i64 0, str [], .slice none 0 0] 30) = V26 at *
                refine wpL_one 5 rfl (by kernel_rfl) (by rfl) (fun K hK => ?_)
                refine wp_conv_run 51 9 (.tmp 37) rfl (.slice (some ⟨w3.heap.size, 0, none⟩) 1 1) rfl (str [c]) (conv_one V26 (w3.heap.size) c (by rw [HC26.out, HNc.out])) ?_
                refine hK.out _ _ (fun _ => trivial) ?_
                clear hK K
                refine wpL_take 6 39 (str (A.take K ++ [c])) [] rfl rfl (by kernel_rfl) (by decide) (by kernel_rfl) (by kernel_rfl) (by kernel_rfl) (fun _ _ _ h => h) HTr.out (by rfl) (fun W hW => by have e := ba_append (A.take K) [c]; have s1 := bsize (A.take K); have s2 := bsize [c]; have s3 : (A.take K).length ≤ 6000 := (by have := List.length_take_le K A; omega); have s4 : ([c] : Bs).length = 1 := rfl; go_simp; omega) ?_
                simp only [Act.put, List.setIfInBounds_toArray]
                refine wpL_take 11 44 (str (spo A K c)) [] rfl rfl (by kernel_rfl) (by decide) (by kernel_rfl) (by kernel_rfl) (by kernel_rfl) (fun _ _ _ h => h) HTr.out (by rfl) (fun W hW => by have e := ba_append (A.take K ++ [c]) (A.drop (K + 1)); have s1 := bsize (A.take K ++ [c]); have s2 := bsize (A.drop (K + 1)); have s3 : (A.take K ++ [c]).length ≤ 6001 := (by have h1 := List.length_take_le K A; have h2 : (A.take K ++ [c]).length = (A.take K).length + 1 := List.length_append; omega); have s4 : (A.drop (K + 1)).length ≤ 6000 := (by have h1 := List.length_drop (i := K + 1) (l := A); omega); unfold spo; go_simp; omega) ?_
                simp only [Act.put]
                refine wpL_one 12 rfl (by kernel_rfl) (by rfl) (fun K hK => ?_)
                go_simp
                refine (RD2.out V26 HB26.out).mono ?_
                intro e wr hok
                obtain ⟨a1, c1, a2, c2, a3, c3, rfl, hbr, hRr, hVr⟩ : RYes V26 v' T' V' e wr := hok
                have HRr := hid hRr
                have HVr := hid hVr
                have HB28 : Hid (Below w.heap.size w wr) := HB26.out.trans (hbr.mono HB26.out.size)
                have HX28 := hid (blk_below HX26.out hbr)
                have hqb28 := blk_lt HQ26.out
                have HQ28 := hid (blk_below HQ26.out hbr)
                clear hbr hRr hVr
                go_simp
                refine hK.out _ _ (fun _ => trivial) ?_
                clear hK K
                have HUn := hid (Below.refl wr.heap.size wr)
                refine wpL_take 13 32 (.tuple #[stV v' T' V' (.slice a1 T'.names.length c1) (.slice a2 T'.kids.length c2) (.slice a3 V'.kids.length c3), i64 0]) [] rfl rfl (by kernel_rfl) (by decide) (by kernel_rfl) (by kernel_rfl) (by kernel_rfl) (fun _ _ _ h => h) HTr.out (by rfl) (fun W hW => by go_simp) ?_
                simp only [Act.put, List.setIfInBounds_toArray, List.set_cons_zero, List.set_cons_succ]
                refine wpL_take 14 46 (stV v' T' V' (.slice a1 T'.names.length c1) (.slice a2 T'.kids.length c2) (.slice a3 V'.kids.length c3)) [] rfl rfl (by kernel_rfl) (by decide) (by kernel_rfl) (by kernel_rfl) (by kernel_rfl) (fun _ _ _ h => h) HTr.out (by rfl) (fun W hW => by go_simp) ?_
                simp only [Act.put, List.setIfInBounds_toArray, List.set_cons_zero, List.set_cons_succ]
                refine wpL_take 15 47 (i64 0) [] rfl rfl (by kernel_rfl) (by decide) (by kernel_rfl) (by kernel_rfl) (by kernel_rfl) (fun _ _ _ h => h) HTr.out (by rfl) (fun W hW => by go_simp) ?_
                simp only [Act.put, List.setIfInBounds_toArray, List.set_cons_zero, List.set_cons_succ]
                refine wpL_one 17 rfl (by kernel_rfl) (by rfl) (fun K hK => ?_)
                refine wp_store_mid 30 (.tmp 9) (.tmp 46) rfl (V18.heap.size) 0 #[i64 v', i64 T'.kind, i64 T'.num, .slice a1 T'.names.length c1, .slice a2 T'.kids.length c2, i64 V'.kind, i64 V'.num, str V'.s, .slice a3 V'.kids.length c3] rfl rfl (there9 HQ28.out) (by kernel_rfl) (all_oneCell_toArray (fun u hu => by simp only [List.mem_cons, List.not_mem_nil, or_false] at hu; rcases hu with rfl | rfl | rfl | rfl | rfl | rfl | rfl | rfl | rfl <;> rfl)) ?_
                refine hK.out _ _ (fun _ => trivial) ?_
                clear hK K
                have HQ29 : Hid ((wr.setCells (V18.heap.size) 0 [i64 v', i64 T'.kind, i64 T'.num, .slice a1 T'.names.length c1, .slice a2 T'.kids.length c2, i64 V'.kind, i64 V'.num, str V'.s, .slice a3 V'.kids.length c3]).heap[V18.heap.size]? = some (stC v' T' V' (.slice a1 T'.names.length c1) (.slice a2 T'.kids.length c2) (.slice a3 V'.kids.length c3))) := set9s HQ28.out _ _ _ _ _ _ _ _ _
                have HO29 : Hid (Touch (V18.heap.size) wr (wr.setCells (V18.heap.size) 0 [i64 v', i64 T'.kind, i64 T'.num, .slice a1 T'.names.length c1, .slice a2 T'.kids.length c2, i64 V'.kind, i64 V'.num, str V'.s, .slice a3 V'.kids.length c3])) := Touch.setCells _ _ _ (Touch.refl _ _)
                have HX29 : Hid ((wr.setCells (V18.heap.size) 0 [i64 v', i64 T'.kind, i64 T'.num, .slice a1 T'.names.length c1, .slice a2 T'.kids.length c2, i64 V'.kind, i64 V'.num, str V'.s, .slice a3 V'.kids.length c3]).heap[w.heap.size]? = some (stC v T V (.slice an T.names.length cn) (.slice at_ T.kids.length ct) (.slice ka V.kids.length kc))) := (HO29.out.block _ (blk_lt HX28.out) (by have := hqx26; omega)).trans HX28.out
                have HB29 : Hid (Below w.heap.size w (wr.setCells (V18.heap.size) 0 [i64 v', i64 T'.kind, i64 T'.num, .slice a1 T'.names.length c1, .slice a2 T'.kids.length c2, i64 V'.kind, i64 V'.num, str V'.s, .slice a3 V'.kids.length c3])) := HB28.out.trans (HO29.out.below (by have := hqx26; omega) HB28.out.size)
                generalize wr.setCells (V18.heap.size) 0 [i64 v', i64 T'.kind, i64 T'.num, .slice a1 T'.names.length c1, .slice a2 T'.kids.length c2, i64 V'.kind, i64 V'.num, str V'.s, .slice a3 V'.kids.length c3] = V29 at *
                refine wpL_one 18 rfl (by kernel_rfl) (by rfl) (fun K hK => ?_)
                go_simp
                refine hK.out _ _ (fun h => absurd rfl h) ?_
                clear hK K
                refine wpL_done (by kernel_rfl) ?_
                refine NoPanic.normal ?_
                have hkeep : ∀ b, V26.heap.size ≤ b → b < wr.heap.size → V29.heap[b]? = wr.heap[b]? := fun b hb1 hb2 => ((HO29.out.block b (Nat.lt_of_lt_of_le hb2 HUn.out.size) (by have := hqb28; omega)).trans (HUn.out.block b hb2))
                have hsz2 : wr.heap.size ≤ V29.heap.size := Nat.le_trans HUn.out.size HO29.out.size
                have HVd : Hid (Vd V29.drew (fun _ => True) V' (.slice a3 V'.kids.length c3)) := HVr.out.move hsz2 (fun b h1 h2 => ⟨trivial, hkeep b h1 h2⟩)
                have HRd : Hid (Rd V29.drew (fun _ => True) T' (.slice a1 T'.names.length c1) (.slice a2 T'.kids.length c2)) := HRr.out.move hsz2 (fun b h1 h2 => ⟨trivial, hkeep b h1 h2⟩)
                have HS : Hid ((fun W : World => W.heap[w.heap.size]? = some (stC v T V (.slice an T.names.length cn) (.slice at_ T.kids.length ct) (.slice ka V.kids.length kc)) ∧ W.heap[V18.heap.size]? = some (stC v' T' V' (.slice a1 T'.names.length c1) (.slice a2 T'.kids.length c2) (.slice a3 V'.kids.length c3))) V29.drew) := ⟨HX29.out, HQ29.out⟩
                have HBd : Hid (Below w.heap.size w V29.drew) := HB29.out.drew
                have D1 := hid (fits_ok V' T' V29.drew _ _ _ _ _ HVd.out HRd.out (by omega))
                rw [HFit.out] at D1
                have DR := hid fun W0 (hb : Below V29.drew.heap.size V29.drew W0) => refs_okR v' T' V' W0 _ _ _ (HVd.out.under hb) (HRd.out.under hb) (right_formed (right_of_err ((fitsB_iff V' T').1 HFit.out).1)).1 (by omega)
                have hTc : True := trivial
                clear hkeep hsz2
                go_upto_region 9 with fail
                refine wp_region_noPanic ?_
                refine wp_region_last (fun W : World => W.heap[w.heap.size]? = some (stC v T V (.slice an T.names.length cn) (.slice at_ T.kids.length ct) (.slice ka V.kids.length kc)) ∧ W.heap[V18.heap.size]? = some (stC v' T' V' (.slice a1 T'.names.length c1) (.slice a2 T'.kids.length c2) (.slice a3 V'.kids.length c3))) 21 (by kernel_rfl) ?_
                generalize V29.drew = w9 at *
                refine wpL_take 0 57 (.pointer (some ⟨V18.heap.size, 5, none⟩)) [] rfl rfl (by kernel_rfl) (by decide) (by kernel_rfl) (by kernel_rfl) (by kernel_rfl) (fun _ _ _ h => h) HS.out (by rfl) (fun W hW => by go_simp) ?_
                simp only [Act.put, List.setIfInBounds_toArray, List.set_cons_zero, List.set_cons_succ]
                refine wpL_take 1 58 (vlV V' (.slice a3 V'.kids.length c3)) [] rfl rfl (by kernel_rfl) (by decide) (by kernel_rfl) (by kernel_rfl) (by kernel_rfl) (fun _ _ _ h => h) HS.out (by rfl) (fun W hW => by exact exec_load 28 (.tmp 57) rfl rfl (vload28q hW.2)) ?_
                simp only [Act.put, List.setIfInBounds_toArray, List.set_cons_zero, List.set_cons_succ]
                refine wpL_take 2 59 (.pointer (some ⟨V18.heap.size, 1, none⟩)) [] rfl rfl (by kernel_rfl) (by decide) (by kernel_rfl) (by kernel_rfl) (by kernel_rfl) (fun _ _ _ h => h) HS.out (by rfl) (fun W hW => by go_simp) ?_
                simp only [Act.put, List.setIfInBounds_toArray, List.set_cons_zero, List.set_cons_succ]
                refine wpL_take 3 60 (tyV T'.kind T'.num (.slice a1 T'.names.length c1) (.slice a2 T'.kids.length c2)) [] rfl rfl (by kernel_rfl) (by decide) (by kernel_rfl) (by kernel_rfl) (by kernel_rfl) (fun _ _ _ h => h) HS.out (by rfl) (fun W hW => by exact exec_load 25 (.tmp 59) rfl rfl (vload25q hW.2)) ?_
                simp only [Act.put, List.setIfInBounds_toArray, List.set_cons_zero, List.set_cons_succ]
                refine wpL_one 4 rfl (by kernel_rfl) (by rfl) (fun K hK => ?_)
                go_simp
                refine D1.out.mono ?_
                rintro e v1 ⟨rfl, hb1⟩
                have HSa : Hid ((fun W : World => W.heap[w.heap.size]? = some (stC v T V (.slice an T.names.length cn) (.slice at_ T.kids.length ct) (.slice ka V.kids.length kc)) ∧ W.heap[V18.heap.size]? = some (stC v' T' V' (.slice a1 T'.names.length c1) (.slice a2 T'.kids.length c2) (.slice a3 V'.kids.length c3))) v1) := ⟨blk_below HS.out.1 hb1, blk_below HS.out.2 hb1⟩
                have HBa : Hid (Below w.heap.size w v1) := HBd.out.trans (hb1.mono HBd.out.size)
                have HUa := hid hb1
                clear hb1 D1
                go_simp
                refine hK.out _ _ (fun _ => HSa.out) ?_
                clear hK K
                refine wpL_take 5 62 (.bool true) [] rfl rfl (by kernel_rfl) (by decide) (by kernel_rfl) (by kernel_rfl) (by kernel_rfl) (fun _ _ _ h => h) HSa.out (by rfl) (fun W hW => by go_simp) ?_
                simp only [Act.put, List.setIfInBounds_toArray, List.set_cons_zero, List.set_cons_succ]
                refine wpL_take 6 63 (str A) [] rfl rfl (by kernel_rfl) (by decide) (by kernel_rfl) (by kernel_rfl) (by kernel_rfl) (fun _ _ _ h => h) HSa.out (by rfl) (fun W hW => by go_simp) ?_
                simp only [Act.put, List.setIfInBounds_toArray, List.set_cons_zero, List.set_cons_succ]
                refine wpL_take 7 64 (i64 K) [] rfl rfl (by kernel_rfl) (by decide) (by kernel_rfl) (by kernel_rfl) (by kernel_rfl) (fun _ _ _ h => h) HSa.out (by rfl) (fun W hW => by go_simp) ?_
                simp only [Act.put, List.setIfInBounds_toArray, List.set_cons_zero, List.set_cons_succ]
                refine wpL_take 8 65 (.int .u8 (A[K].toNat : Int)) [] rfl rfl (by kernel_rfl) (by decide) (by kernel_rfl) (by kernel_rfl) (by kernel_rfl) (fun _ _ _ h => h) HSa.out (by rfl) (fun W hW => by have hkk : 0 ≤ (K : Int) := (by omega); go_simp; rfl) ?_
                simp only [Act.put, List.setIfInBounds_toArray, List.set_cons_zero, List.set_cons_succ]
                refine wpL_take 9 66 (.int .u8 n) [] rfl rfl (by kernel_rfl) (by decide) (by kernel_rfl) (by kernel_rfl) (by kernel_rfl) (fun _ _ _ h => h) HSa.out (by rfl) (fun W hW => by go_simp) ?_
                simp only [Act.put, List.setIfInBounds_toArray, List.set_cons_zero, List.set_cons_succ]
                refine wpL_take 10 67 (.bool (decide (A[K] = c))) [] rfl rfl (by kernel_rfl) (by decide) (by kernel_rfl) (by kernel_rfl) (by kernel_rfl) (fun _ _ _ h => h) HSa.out (by rfl) (fun W hW => by have e1 := HNc.out; go_simp; exact u8_beq _ _) ?_
                simp only [Act.put, List.setIfInBounds_toArray, List.set_cons_zero, List.set_cons_succ]
                refine wpL_take 11 68 (stV v T V (.slice an T.names.length cn) (.slice at_ T.kids.length ct) (.slice ka V.kids.length kc)) [] rfl rfl (by kernel_rfl) (by decide) (by kernel_rfl) (by kernel_rfl) (by kernel_rfl) (fun _ _ _ h => h) HSa.out (by rfl) (fun W hW => by exact exec_load 30 (.tmp 3) rfl rfl (vload30 hW.1)) ?_
                simp only [Act.put, List.setIfInBounds_toArray, List.set_cons_zero, List.set_cons_succ]
                refine wpL_take 13 70 (stV v' T' V' (.slice a1 T'.names.length c1) (.slice a2 T'.kids.length c2) (.slice a3 V'.kids.length c3)) [] rfl rfl (by kernel_rfl) (by decide) (by kernel_rfl) (by kernel_rfl) (by kernel_rfl) (fun _ _ _ h => h) HSa.out (by rfl) (fun W hW => by exact exec_load 30 (.tmp 9) rfl rfl (vload30 hW.2)) ?_
                simp only [Act.put, List.setIfInBounds_toArray, List.set_cons_zero, List.set_cons_succ]
                refine wpL_one 12 rfl (by kernel_rfl) (by rfl) (fun K hK => ?_)
                go_simp
                refine (R1.out v1 HBa.out).mono ?_
                rintro e v2 ⟨p1, q1, p2, q2, p3, q3, rfl, hb2, hR2, hV2⟩
                have HSb : Hid ((fun W : World => W.heap[w.heap.size]? = some (stC v T V (.slice an T.names.length cn) (.slice at_ T.kids.length ct) (.slice ka V.kids.length kc)) ∧ W.heap[V18.heap.size]? = some (stC v' T' V' (.slice a1 T'.names.length c1) (.slice a2 T'.kids.length c2) (.slice a3 V'.kids.length c3))) v2) := ⟨blk_below HSa.out.1 hb2, blk_below HSa.out.2 hb2⟩
                have HBb : Hid (Below w.heap.size w v2) := HBa.out.trans (hb2.mono HBa.out.size)
                have HUb : Hid (Below w9.heap.size w9 v2) := HUa.out.trans (hb2.mono HUa.out.size)
                have HR2 := hid hR2
                have HV2 := hid hV2
                clear hb2 hR2 hV2
                go_simp
                refine hK.out _ _ (fun _ => HSb.out) ?_
                clear hK K
                refine wpL_one 14 rfl (by kernel_rfl) (by rfl) (fun K hK => ?_)
                go_simp
                refine (DR.out v2 HUb.out).mono ?_
                rintro e v3 ⟨p4, q4, p5, q5, p6, q6, rfl, hb3, hR3, hV3⟩
                have HSc : Hid ((fun W : World => W.heap[w.heap.size]? = some (stC v T V (.slice an T.names.length cn) (.slice at_ T.kids.length ct) (.slice ka V.kids.length kc)) ∧ W.heap[V18.heap.size]? = some (stC v' T' V' (.slice a1 T'.names.length c1) (.slice a2 T'.kids.length c2) (.slice a3 V'.kids.length c3))) v3) := ⟨blk_below HSb.out.1 hb3, blk_below HSb.out.2 hb3⟩
                have HBc : Hid (Below w.heap.size w v3) := HBb.out.trans (hb3.mono HBb.out.size)
                have HSm := hid (rst_same v v' T T' V V' v3 _ _ _ _ _ _ _ (HR2.out.under hb3) (HV2.out.under hb3) hR3 hV3)
                rw [← HSame.out] at HSm
                clear hb3 hR3 hV3
                go_simp
                refine hK.out _ _ (fun _ => HSc.out) ?_
                clear hK K
                refine wpL_one 15 rfl (by kernel_rfl) (by rfl) (fun K hK => ?_)
                go_simp
                refine HSm.out.mono ?_
                rintro e v4 ⟨rfl, hb4⟩
                have HSd : Hid ((fun W : World => W.heap[w.heap.size]? = some (stC v T V (.slice an T.names.length cn) (.slice at_ T.kids.length ct) (.slice ka V.kids.length kc)) ∧ W.heap[V18.heap.size]? = some (stC v' T' V' (.slice a1 T'.names.length c1) (.slice a2 T'.kids.length c2) (.slice a3 V'.kids.length c3))) v4) := ⟨blk_below HSc.out.1 hb4, blk_below HSc.out.2 hb4⟩
                have HBe : Hid (Below w.heap.size w v4) := HBc.out.trans (hb4.mono HBc.out.size)
                clear hb4 HSm
                go_simp
                refine hK.out _ _ (fun _ => HSd.out) ?_
                clear hK K
                refine wpL_take 16 73 (.bool true) [] rfl rfl (by kernel_rfl) (by decide) (by kernel_rfl) (by kernel_rfl) (by kernel_rfl) (fun _ _ _ h => h) HSd.out (by rfl) (fun W hW => by go_simp) ?_
                simp only [Act.put, List.setIfInBounds_toArray, List.set_cons_zero, List.set_cons_succ]
                refine wpL_take 17 74 (.bool true) [] rfl rfl (by kernel_rfl) (by decide) (by kernel_rfl) (by kernel_rfl) (by kernel_rfl) (fun _ _ _ h => h) HSd.out (by rfl) (fun W hW => by go_simp) ?_
                simp only [Act.put, List.setIfInBounds_toArray, List.set_cons_zero, List.set_cons_succ]
                refine wpL_take 18 75 (.bool true) [] rfl rfl (by kernel_rfl) (by decide) (by kernel_rfl) (by kernel_rfl) (by kernel_rfl) (fun _ _ _ h => h) HSd.out (by rfl) (fun W hW => by go_simp) ?_
                simp only [Act.put, List.setIfInBounds_toArray, List.set_cons_zero, List.set_cons_succ]
                refine wpL_one 19 rfl (by kernel_rfl) (by rfl) (fun K hK => ?_)
                go_simp
                refine (W7.out v4 HBe.out).mono ?_
                rintro e v5 ⟨rfl, hb5⟩
                have HSe : Hid ((fun W : World => W.heap[w.heap.size]? = some (stC v T V (.slice an T.names.length cn) (.slice at_ T.kids.length ct) (.slice ka V.kids.length kc)) ∧ W.heap[V18.heap.size]? = some (stC v' T' V' (.slice a1 T'.names.length c1) (.slice a2 T'.kids.length c2) (.slice a3 V'.kids.length c3))) v5) := ⟨blk_below HSd.out.1 hb5, blk_below HSd.out.2 hb5⟩
                have HBf : Hid (Below w.heap.size w v5) := HBe.out.trans (hb5.mono HBe.out.size)
                clear hb5
                go_simp
                refine hK.out _ _ (fun _ => HSe.out) ?_
                clear hK K
                refine wpL_take 20 77 (.bool true) [] rfl rfl (by kernel_rfl) (by decide) (by kernel_rfl) (by kernel_rfl) (by kernel_rfl) (fun _ _ _ h => h) HSe.out (by rfl) (fun W hW => by go_simp) ?_
                simp only [Act.put, List.setIfInBounds_toArray, List.set_cons_zero, List.set_cons_succ]
                refine wpL_one 21 rfl (by kernel_rfl) (by rfl) (fun K hK => ?_)
                go_simp
                refine hK.out _ _ (fun h => absurd rfl h) ?_
                clear hK K
                refine wpL_done (by kernel_rfl) ?_
                refine NoPanic.normal ?_
                go_wp2_with fail
                go_ret
                exact ⟨rfl, HBf.out⟩
            · go_simp
              refine hK.out _ _ (fun _ => trivial) ?_
              clear hK K
              have HB30 : Hid (Below w.heap.size w (w3.alloc (.cells #[i64 0, i64 0, i64 0, .slice none 0 0, .slice none 0 0, i64 0, i64 0, str [], .slice none 0 0] 30))) := HB2d.out.alloc HB2d.out.size _
              have HX30 := hid (blk_alloc HX2d.out (.cells #[i64 0, i64 0, i64 0, .slice none 0 0, .slice none 0 0, i64 0, i64 0, str [], .slice none 0 0] 30))
              have HQ30 := hid (heap_last w3 (.cells #[i64 0, i64 0, i64 0, .slice none 0 0, .slice none 0 0, i64 0, i64 0, str [], .slice none 0 0] 30))
              have hqx30 := blk_lt HX2d.out
              generalize w3.alloc (.cells #[i64 0, i64 0, i64 0, .slice none 0 0, .slice none 0 0, i64 0, i64 0, str [], .slice none 0 0] 30) = V30 at *
              refine wpL_one 4 rfl (by kernel_rfl) (by rfl) (fun K hK => ?_)
              go_simp
              refine hK.out _ _ (fun _ => trivial) ?_
              clear hK K
              have HB31 : Hid (Below w.heap.size w (V30.alloc (.cells #[.int .u8 n] 5))) := HB30.out.alloc HB30.out.size _
              have HX31 := hid (blk_alloc HX30.out (.cells #[.int .u8 n] 5))
              have HC31 := hid (heap_last V30 (.cells #[.int .u8 n] 5))
              have HQ31 := hid (blk_alloc HQ30.out (.cells #[.int .u8 n] 5))
              generalize V30.alloc (.cells #[.int .u8 n] 5) = V31 at *
              refine wpL_one 5 rfl (by kernel_rfl) (by rfl) (fun K hK => ?_)
              refine wp_conv_run 51 9 (.tmp 37) rfl (.slice (some ⟨V30.heap.size, 0, none⟩) 1 1) rfl (str [c]) (conv_one V31 (V30.heap.size) c (by rw [HC31.out, HNc.out])) ?_
              refine hK.out _ _ (fun _ => trivial) ?_
              clear hK K
              refine wpL_take 6 39 (str (A.take K ++ [c])) [] rfl rfl (by kernel_rfl) (by decide) (by kernel_rfl) (by kernel_rfl) (by kernel_rfl) (fun _ _ _ h => h) HTr.out (by rfl) (fun W hW => by have e := ba_append (A.take K) [c]; have s1 := bsize (A.take K); have s2 := bsize [c]; have s3 : (A.take K).length ≤ 6000 := (by have := List.length_take_le K A; omega); have s4 : ([c] : Bs).length = 1 := rfl; go_simp; omega) ?_
              simp only [Act.put, List.setIfInBounds_toArray]
              refine wpL_take 11 44 (str (spo A K c)) [] rfl rfl (by kernel_rfl) (by decide) (by kernel_rfl) (by kernel_rfl) (by kernel_rfl) (fun _ _ _ h => h) HTr.out (by rfl) (fun W hW => by have e := ba_append (A.take K ++ [c]) (A.drop (K + 1)); have s1 := bsize (A.take K ++ [c]); have s2 := bsize (A.drop (K + 1)); have s3 : (A.take K ++ [c]).length ≤ 6001 := (by have h1 := List.length_take_le K A; have h2 : (A.take K ++ [c]).length = (A.take K).length + 1 := List.length_append; omega); have s4 : (A.drop (K + 1)).length ≤ 6000 := (by have h1 := List.length_drop (i := K + 1) (l := A); omega); unfold spo; go_simp; omega) ?_
              simp only [Act.put]
              refine wpL_one 12 rfl (by kernel_rfl) (by rfl) (fun K hK => ?_)
              go_simp
              refine (RD2.out V31 HB31.out).mono ?_
              intro e wr hok
              obtain ⟨a1, c1, a2, c2, a3, c3, rfl, hbr, hRr, hVr⟩ : RYes V31 v' T' V' e wr := hok
              have HRr := hid hRr
              have HVr := hid hVr
              have HB33 : Hid (Below w.heap.size w wr) := HB31.out.trans (hbr.mono HB31.out.size)
              have HX33 := hid (blk_below HX31.out hbr)
              have hqb33 := blk_lt HQ31.out
              have HQ33 := hid (blk_below HQ31.out hbr)
              clear hbr hRr hVr
              go_simp
              refine hK.out _ _ (fun _ => trivial) ?_
              clear hK K
              have HUn := hid (Below.refl wr.heap.size wr)
              refine wpL_take 13 32 (.tuple #[stV v' T' V' (.slice a1 T'.names.length c1) (.slice a2 T'.kids.length c2) (.slice a3 V'.kids.length c3), i64 0]) [] rfl rfl (by kernel_rfl) (by decide) (by kernel_rfl) (by kernel_rfl) (by kernel_rfl) (fun _ _ _ h => h) HTr.out (by rfl) (fun W hW => by go_simp) ?_
              simp only [Act.put, List.setIfInBounds_toArray, List.set_cons_zero, List.set_cons_succ]
              refine wpL_take 14 46 (stV v' T' V' (.slice a1 T'.names.length c1) (.slice a2 T'.kids.length c2) (.slice a3 V'.kids.length c3)) [] rfl rfl (by kernel_rfl) (by decide) (by kernel_rfl) (by kernel_rfl) (by kernel_rfl) (fun _ _ _ h => h) HTr.out (by rfl) (fun W hW => by go_simp) ?_
              simp only [Act.put, List.setIfInBounds_toArray, List.set_cons_zero, List.set_cons_succ]
              refine wpL_take 15 47 (i64 0) [] rfl rfl (by kernel_rfl) (by decide) (by kernel_rfl) (by kernel_rfl) (by kernel_rfl) (fun _ _ _ h => h) HTr.out (by rfl) (fun W hW => by go_simp) ?_
              simp only [Act.put, List.setIfInBounds_toArray, List.set_cons_zero, List.set_cons_succ]
              refine wpL_one 17 rfl (by kernel_rfl) (by rfl) (fun K hK => ?_)
              refine wp_store_mid 30 (.tmp 9) (.tmp 46) rfl (w3.heap.size) 0 #[i64 v', i64 T'.kind, i64 T'.num, .slice a1 T'.names.length c1, .slice a2 T'.kids.length c2, i64 V'.kind, i64 V'.num, str V'.s, .slice a3 V'.kids.length c3] rfl rfl (there9 HQ33.out) (by kernel_rfl) (all_oneCell_toArray (fun u hu => by simp only [List.mem_cons, List.not_mem_nil, or_false] at hu; rcases hu with rfl | rfl | rfl | rfl | rfl | rfl | rfl | rfl | rfl <;> rfl)) ?_
              refine hK.out _ _ (fun _ => trivial) ?_
              clear hK K
              have HQ34 : Hid ((wr.setCells (w3.heap.size) 0 [i64 v', i64 T'.kind, i64 T'.num, .slice a1 T'.names.length c1, .slice a2 T'.kids.length c2, i64 V'.kind, i64 V'.num, str V'.s, .slice a3 V'.kids.length c3]).heap[w3.heap.size]? = some (stC v' T' V' (.slice a1 T'.names.length c1) (.slice a2 T'.kids.length c2) (.slice a3 V'.kids.length c3))) := set9s HQ33.out _ _ _ _ _ _ _ _ _
              have HO34 : Hid (Touch (w3.heap.size) wr (wr.setCells (w3.heap.size) 0 [i64 v', i64 T'.kind, i64 T'.num, .slice a1 T'.names.length c1, .slice a2 T'.kids.length c2, i64 V'.kind, i64 V'.num, str V'.s, .slice a3 V'.kids.length c3])) := Touch.setCells _ _ _ (Touch.refl _ _)
              have HX34 : Hid ((wr.setCells (w3.heap.size) 0 [i64 v', i64 T'.kind, i64 T'.num, .slice a1 T'.names.length c1, .slice a2 T'.kids.length c2, i64 V'.kind, i64 V'.num, str V'.s, .slice a3 V'.kids.length c3]).heap[w.heap.size]? = some (stC v T V (.slice an T.names.length cn) (.slice at_ T.kids.length ct) (.slice ka V.kids.length kc))) := (HO34.out.block _ (blk_lt HX33.out) (by have := hqx30; omega)).trans HX33.out
              have HB34 : Hid (Below w.heap.size w (wr.setCells (w3.heap.size) 0 [i64 v', i64 T'.kind, i64 T'.num, .slice a1 T'.names.length c1, .slice a2 T'.kids.length c2, i64 V'.kind, i64 V'.num, str V'.s, .slice a3 V'.kids.length c3])) := HB33.out.trans (HO34.out.below (by have := hqx30; omega) HB33.out.size)
              generalize wr.setCells (w3.heap.size) 0 [i64 v', i64 T'.kind, i64 T'.num, .slice a1 T'.names.length c1, .slice a2 T'.kids.length c2, i64 V'.kind, i64 V'.num, str V'.s, .slice a3 V'.kids.length c3] = V34 at *
              refine wpL_one 18 rfl (by kernel_rfl) (by rfl) (fun K hK => ?_)
              go_simp
              refine hK.out _ _ (fun h => absurd rfl h) ?_
              clear hK K
              refine wpL_done (by kernel_rfl) ?_
              refine NoPanic.normal ?_
              have hkeep : ∀ b, V31.heap.size ≤ b → b < wr.heap.size → V34.heap[b]? = wr.heap[b]? := fun b hb1 hb2 => ((HO34.out.block b (Nat.lt_of_lt_of_le hb2 HUn.out.size) (by have := hqb33; omega)).trans (HUn.out.block b hb2))
              have hsz2 : wr.heap.size ≤ V34.heap.size := Nat.le_trans HUn.out.size HO34.out.size
              have HVd : Hid (Vd V34.drew (fun _ => True) V' (.slice a3 V'.kids.length c3)) := HVr.out.move hsz2 (fun b h1 h2 => ⟨trivial, hkeep b h1 h2⟩)
              have HRd : Hid (Rd V34.drew (fun _ => True) T' (.slice a1 T'.names.length c1) (.slice a2 T'.kids.length c2)) := HRr.out.move hsz2 (fun b h1 h2 => ⟨trivial, hkeep b h1 h2⟩)
              have HS : Hid ((fun W : World => W.heap[w.heap.size]? = some (stC v T V (.slice an T.names.length cn) (.slice at_ T.kids.length ct) (.slice ka V.kids.length kc)) ∧ W.heap[w3.heap.size]? = some (stC v' T' V' (.slice a1 T'.names.length c1) (.slice a2 T'.kids.length c2) (.slice a3 V'.kids.length c3))) V34.drew) := ⟨HX34.out, HQ34.out⟩
              have HBd : Hid (Below w.heap.size w V34.drew) := HB34.out.drew
              have D1 := hid (fits_ok V' T' V34.drew _ _ _ _ _ HVd.out HRd.out (by omega))
              rw [HFit.out] at D1
              have DR := hid fun W0 (hb : Below V34.drew.heap.size V34.drew W0) => refs_okR v' T' V' W0 _ _ _ (HVd.out.under hb) (HRd.out.under hb) (right_formed (right_of_err ((fitsB_iff V' T').1 HFit.out).1)).1 (by omega)
              have hTc : True := trivial
              clear hkeep hsz2
              go_upto_region 9 with fail
              refine wp_region_noPanic ?_
              refine wp_region_last (fun W : World => W.heap[w.heap.size]? = some (stC v T V (.slice an T.names.length cn) (.slice at_ T.kids.length ct) (.slice ka V.kids.length kc)) ∧ W.heap[w3.heap.size]? = some (stC v' T' V' (.slice a1 T'.names.length c1) (.slice a2 T'.kids.length c2) (.slice a3 V'.kids.length c3))) 21 (by kernel_rfl) ?_
              generalize V34.drew = w9 at *
              refine wpL_take 0 57 (.pointer (some ⟨w3.heap.size, 5, none⟩)) [] rfl rfl (by kernel_rfl) (by decide) (by kernel_rfl) (by kernel_rfl) (by kernel_rfl) (fun _ _ _ h => h) HS.out (by rfl) (fun W hW => by go_simp) ?_
              simp only [Act.put, List.setIfInBounds_toArray, List.set_cons_zero, List.set_cons_succ]
              refine wpL_take 1 58 (vlV V' (.slice a3 V'.kids.length c3)) [] rfl rfl (by kernel_rfl) (by decide) (by kernel_rfl) (by kernel_rfl) (by kernel_rfl) (fun _ _ _ h => h) HS.out (by rfl) (fun W hW => by exact exec_load 28 (.tmp 57) rfl rfl (vload28q hW.2)) ?_
              simp only [Act.put, List.setIfInBounds_toArray, List.set_cons_zero, List.set_cons_succ]
              refine wpL_take 2 59 (.pointer (some ⟨w3.heap.size, 1, none⟩)) [] rfl rfl (by kernel_rfl) (by decide) (by kernel_rfl) (by kernel_rfl) (by kernel_rfl) (fun _ _ _ h => h) HS.out (by rfl) (fun W hW => by go_simp) ?_
              simp only [Act.put, List.setIfInBounds_toArray, List.set_cons_zero, List.set_cons_succ]
              refine wpL_take 3 60 (tyV T'.kind T'.num (.slice a1 T'.names.length c1) (.slice a2 T'.kids.length c2)) [] rfl rfl (by kernel_rfl) (by decide) (by kernel_rfl) (by kernel_rfl) (by kernel_rfl) (fun _ _ _ h => h) HS.out (by rfl) (fun W hW => by exact exec_load 25 (.tmp 59) rfl rfl (vload25q hW.2)) ?_
              simp only [Act.put, List.setIfInBounds_toArray, List.set_cons_zero, List.set_cons_succ]
              refine wpL_one 4 rfl (by kernel_rfl) (by rfl) (fun K hK => ?_)
              go_simp
              refine D1.out.mono ?_
              rintro e v1 ⟨rfl, hb1⟩
              have HSa : Hid ((fun W : World => W.heap[w.heap.size]? = some (stC v T V (.slice an T.names.length cn) (.slice at_ T.kids.length ct) (.slice ka V.kids.length kc)) ∧ W.heap[w3.heap.size]? = some (stC v' T' V' (.slice a1 T'.names.length c1) (.slice a2 T'.kids.length c2) (.slice a3 V'.kids.length c3))) v1) := ⟨blk_below HS.out.1 hb1, blk_below HS.out.2 hb1⟩
              have HBa : Hid (Below w.heap.size w v1) := HBd.out.trans (hb1.mono HBd.out.size)
              have HUa := hid hb1
              clear hb1 D1
              go_simp
              refine hK.out _ _ (fun _ => HSa.out) ?_
              clear hK K
              refine wpL_take 5 62 (.bool true) [] rfl rfl (by kernel_rfl) (by decide) (by kernel_rfl) (by kernel_rfl) (by kernel_rfl) (fun _ _ _ h => h) HSa.out (by rfl) (fun W hW => by go_simp) ?_
              simp only [Act.put, List.setIfInBounds_toArray, List.set_cons_zero, List.set_cons_succ]
              refine wpL_take 6 63 (str A) [] rfl rfl (by kernel_rfl) (by decide) (by kernel_rfl) (by kernel_rfl) (by kernel_rfl) (fun _ _ _ h => h) HSa.out (by rfl) (fun W hW => by go_simp) ?_
              simp only [Act.put, List.setIfInBounds_toArray, List.set_cons_zero, List.set_cons_succ]
              refine wpL_take 7 64 (i64 K) [] rfl rfl (by kernel_rfl) (by decide) (by kernel_rfl) (by kernel_rfl) (by kernel_rfl) (fun _ _ _ h => h) HSa.out (by rfl) (fun W hW => by go_simp) ?_
              simp only [Act.put, List.setIfInBounds_toArray, List.set_cons_zero, List.set_cons_succ]
              refine wpL_take 8 65 (.int .u8 (A[K].toNat : Int)) [] rfl rfl (by kernel_rfl) (by decide) (by kernel_rfl) (by kernel_rfl) (by kernel_rfl) (fun _ _ _ h => h) HSa.out (by rfl) (fun W hW => by have hkk : 0 ≤ (K : Int) := (by omega); go_simp; rfl) ?_
              simp only [Act.put, List.setIfInBounds_toArray, List.set_cons_zero, List.set_cons_succ]
              refine wpL_take 9 66 (.int .u8 n) [] rfl rfl (by kernel_rfl) (by decide) (by kernel_rfl) (by kernel_rfl) (by kernel_rfl) (fun _ _ _ h => h) HSa.out (by rfl) (fun W hW => by go_simp) ?_
              simp only [Act.put, List.setIfInBounds_toArray, List.set_cons_zero, List.set_cons_succ]
              refine wpL_take 10 67 (.bool (decide (A[K] = c))) [] rfl rfl (by kernel_rfl) (by decide) (by kernel_rfl) (by kernel_rfl) (by kernel_rfl) (fun _ _ _ h => h) HSa.out (by rfl) (fun W hW => by have e1 := HNc.out; go_simp; exact u8_beq _ _) ?_
              simp only [Act.put, List.setIfInBounds_toArray, List.set_cons_zero, List.set_cons_succ]
              refine wpL_take 11 68 (stV v T V (.slice an T.names.length cn) (.slice at_ T.kids.length ct) (.slice ka V.kids.length kc)) [] rfl rfl (by kernel_rfl) (by decide) (by kernel_rfl) (by kernel_rfl) (by kernel_rfl) (fun _ _ _ h => h) HSa.out (by rfl) (fun W hW => by exact exec_load 30 (.tmp 3) rfl rfl (vload30 hW.1)) ?_
              simp only [Act.put, List.setIfInBounds_toArray, List.set_cons_zero, List.set_cons_succ]
              refine wpL_take 13 70 (stV v' T' V' (.slice a1 T'.names.length c1) (.slice a2 T'.kids.length c2) (.slice a3 V'.kids.length c3)) [] rfl rfl (by kernel_rfl) (by decide) (by kernel_rfl) (by kernel_rfl) (by kernel_rfl) (fun _ _ _ h => h) HSa.out (by rfl) (fun W hW => by exact exec_load 30 (.tmp 9) rfl rfl (vload30 hW.2)) ?_
              simp only [Act.put, List.setIfInBounds_toArray, List.set_cons_zero, List.set_cons_succ]
              refine wpL_one 12 rfl (by kernel_rfl) (by rfl) (fun K hK => ?_)
              go_simp
              refine (R1.out v1 HBa.out).mono ?_
              rintro e v2 ⟨p1, q1, p2, q2, p3, q3, rfl, hb2, hR2, hV2⟩
              have HSb : Hid ((fun W : World => W.heap[w.heap.size]? = some (stC v T V (.slice an T.names.length cn) (.slice at_ T.kids.length ct) (.slice ka V.kids.length kc)) ∧ W.heap[w3.heap.size]? = some (stC v' T' V' (.slice a1 T'.names.length c1) (.slice a2 T'.kids.length c2) (.slice a3 V'.kids.length c3))) v2) := ⟨blk_below HSa.out.1 hb2, blk_below HSa.out.2 hb2⟩
              have HBb : Hid (Below w.heap.size w v2) := HBa.out.trans (hb2.mono HBa.out.size)
              have HUb : Hid (Below w9.heap.size w9 v2) := HUa.out.trans (hb2.mono HUa.out.size)
              have HR2 := hid hR2
              have HV2 := hid hV2
              clear hb2 hR2 hV2
              go_simp
              refine hK.out _ _ (fun _ => HSb.out) ?_
              clear hK K
              refine wpL_one 14 rfl (by kernel_rfl) (by rfl) (fun K hK => ?_)
              go_simp
              refine (DR.out v2 HUb.out).mono ?_
              rintro e v3 ⟨p4, q4, p5, q5, p6, q6, rfl, hb3, hR3, hV3⟩
              have HSc : Hid ((fun W : World => W.heap[w.heap.size]? = some (stC v T V (.slice an T.names.length cn) (.slice at_ T.kids.length ct) (.slice ka V.kids.length kc)) ∧ W.heap[w3.heap.size]? = some (stC v' T' V' (.slice a1 T'.names.length c1) (.slice a2 T'.kids.length c2) (.slice a3 V'.kids.length c3))) v3) := ⟨blk_below HSb.out.1 hb3, blk_below HSb.out.2 hb3⟩
              have HBc : Hid (Below w.heap.size w v3) := HBb.out.trans (hb3.mono HBb.out.size)
              have HSm := hid (rst_same v v' T T' V V' v3 _ _ _ _ _ _ _ (HR2.out.under hb3) (HV2.out.under hb3) hR3 hV3)
              rw [← HSame.out] at HSm
              clear hb3 hR3 hV3
              go_simp
              refine hK.out _ _ (fun _ => HSc.out) ?_
              clear hK K
              refine wpL_one 15 rfl (by kernel_rfl) (by rfl) (fun K hK => ?_)
              go_simp
              refine HSm.out.mono ?_
              rintro e v4 ⟨rfl, hb4⟩
              have HSd : Hid ((fun W : World => W.heap[w.heap.size]? = some (stC v T V (.slice an T.names.length cn) (.slice at_ T.kids.length ct) (.slice ka V.kids.length kc)) ∧ W.heap[w3.heap.size]? = some (stC v' T' V' (.slice a1 T'.names.length c1) (.slice a2 T'.kids.length c2) (.slice a3 V'.kids.length c3))) v4) := ⟨blk_below HSc.out.1 hb4, blk_below HSc.out.2 hb4⟩
              have HBe : Hid (Below w.heap.size w v4) := HBc.out.trans (hb4.mono HBc.out.size)
              clear hb4 HSm
              go_simp
              refine hK.out _ _ (fun _ => HSd.out) ?_
              clear hK K
              refine wpL_take 16 73 (.bool true) [] rfl rfl (by kernel_rfl) (by decide) (by kernel_rfl) (by kernel_rfl) (by kernel_rfl) (fun _ _ _ h => h) HSd.out (by rfl) (fun W hW => by go_simp) ?_
              simp only [Act.put, List.setIfInBounds_toArray, List.set_cons_zero, List.set_cons_succ]
              refine wpL_take 17 74 (.bool true) [] rfl rfl (by kernel_rfl) (by decide) (by kernel_rfl) (by kernel_rfl) (by kernel_rfl) (fun _ _ _ h => h) HSd.out (by rfl) (fun W hW => by go_simp) ?_
              simp only [Act.put, List.setIfInBounds_toArray, List.set_cons_zero, List.set_cons_succ]
              refine wpL_take 18 75 (.bool true) [] rfl rfl (by kernel_rfl) (by decide) (by kernel_rfl) (by kernel_rfl) (by kernel_rfl) (fun _ _ _ h => h) HSd.out (by rfl) (fun W hW => by go_simp) ?_
              simp only [Act.put, List.setIfInBounds_toArray, List.set_cons_zero, List.set_cons_succ]
              refine wpL_one 19 rfl (by kernel_rfl) (by rfl) (fun K hK => ?_)
              go_simp
              refine (W7.out v4 HBe.out).mono ?_
              rintro e v5 ⟨rfl, hb5⟩
              have HSe : Hid ((fun W : World => W.heap[w.heap.size]? = some (stC v T V (.slice an T.names.length cn) (.slice at_ T.kids.length ct) (.slice ka V.kids.length kc)) ∧ W.heap[w3.heap.size]? = some (stC v' T' V' (.slice a1 T'.names.length c1) (.slice a2 T'.kids.length c2) (.slice a3 V'.kids.length c3))) v5) := ⟨blk_below HSd.out.1 hb5, blk_below HSd.out.2 hb5⟩
              have HBf : Hid (Below w.heap.size w v5) := HBe.out.trans (hb5.mono HBe.out.size)
              clear hb5
              go_simp
              refine hK.out _ _ (fun _ => HSe.out) ?_
              clear hK K
              refine wpL_take 20 77 (.bool true) [] rfl rfl (by kernel_rfl) (by decide) (by kernel_rfl) (by kernel_rfl) (by kernel_rfl) (fun _ _ _ h => h) HSe.out (by rfl) (fun W hW => by go_simp) ?_
              simp only [Act.put, List.setIfInBounds_toArray, List.set_cons_zero, List.set_cons_succ]
              refine wpL_one 21 rfl (by kernel_rfl) (by rfl) (fun K hK => ?_)
              go_simp
              refine hK.out _ _ (fun h => absurd rfl h) ?_
              clear hK K
              refine wpL_done (by kernel_rfl) ?_
              refine NoPanic.normal ?_
              go_wp2_with fail
              go_ret
              exact ⟨rfl, HBf.out⟩
    · have q1 : (E != 0) = true := by rw [bne, beq_false_of_ne hE0]; rfl
      clear hE0
      go_wp2_with fail
      refine (W7.out w2 HB2.out).mono ?_
      rintro e wz ⟨rfl, hbz⟩
      have HBz : Hid (Below w.heap.size w wz) := HB2.out.trans (hbz.mono HB2.out.size)
      clear hbz
      go_wp2_with fail
      go_ret
      exact ⟨rfl, HBz.out⟩
end Go.Proofs.YtihbbgcpdgnhoaaDoor
