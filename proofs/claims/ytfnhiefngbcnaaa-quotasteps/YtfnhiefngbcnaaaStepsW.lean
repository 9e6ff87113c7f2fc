/- QuotaSteps' walk; no statement is proved in this text. -/
import Derived.Test.YtfnhiefngbcnaaaApartW
namespace Go.Proofs.Ytfnhiefngbcnaaa
open Go.ChangeShapes Go.WideShapes Go.ChangeAt Go.RowKit Go.Deep
attribute [local go_sem ↓] Go.wp_at_zero Go.wp_at_succ

set_option maxRecDepth 100000 in
set_option maxHeartbeats 1000000 in
theorem steps_out (w : World) (t : T) (ao : Option Addr) (len cap : Nat) (hlen : len ≤ maxLen) (h : outB 0 64 t.l = true ∨ 100 < len) :
    Calls Try.prog 3 #[t.v, .slice ao len cap] w fun e w' => e = .returned (.bool true) ∧ Below w.heap.size w w' := by
  unfold maxLen at hlen
  obtain ⟨V, hV⟩ : ∃ V, V = w.alloc (triO t) := ⟨_, rfl⟩
  have HV : Hid (w.alloc (Obj.cells #[i64 t.a, i64 t.b, i64 t.c] 22) = V) := hV.symm
  have HQ0 : Hid (V.heap[w.heap.size]? = some (triO t)) := by rw [hV]; exact heap_last w _
  have HB0 : Hid (Below w.heap.size w V) := by rw [hV]; exact (Below.refl _ _).alloc (Nat.le_refl _) _
  clear hV
  by_cases ho : outB 0 64 t.l = true
  · have HO : Hid (outB 0 64 t.l = true) := ho
    clear h ho
    go_enter Try.func3, Try.ntmps3
    go_wp2_with fail
    rw [HV.out]
    refine (new_no V t HO.out).mono ?_
    rintro e w1 ⟨rfl, hb1⟩
    have HB1 : Hid (Below w.heap.size w w1) := HB0.out.trans (hb1.mono HB0.out.size)
    have hq1 := blk_below HQ0.out hb1
    have c0 : w1.cell? ⟨w.heap.size, 0, none⟩ = some (i64 t.a) := blk_cell hq1 0
    have c1 : w1.cell? ⟨w.heap.size, 1, none⟩ = some (i64 t.b) := blk_cell hq1 1
    have c2 : w1.cell? ⟨w.heap.size, 2, none⟩ = some (i64 t.c) := blk_cell hq1 2
    clear hb1 hq1
    go_wp2_with fail
    refine (right_no w1 t HO.out).mono ?_
    rintro e w2 ⟨rfl, hb2⟩
    have HB2 : Hid (Below w.heap.size w w2) := HB1.out.trans (hb2.mono HB1.out.size)
    clear hb2
    go_wp2_with fail
    refine (five_ok _).mono ?_
    rintro e w6 ⟨rfl, hb6⟩
    have HB6 : Hid (Below w.heap.size w w6) := HB2.out.trans (hb6.mono HB2.out.size)
    clear hb6
    go_wp2_with fail
    go_ret
    exact ⟨rfl, HB6.out⟩
  · have HO : Hid (outB 0 64 t.l = false) := (by simpa using ho : outB 0 64 t.l = false)
    have hl : (100 : Int) < len := by rcases h with h | h; exact absurd h ho; omega
    clear h ho
    go_enter Try.func3, Try.ntmps3
    go_wp2_with fail
    rw [HV.out]
    refine (new_ok V t HO.out).mono ?_
    rintro e w1 ⟨rfl, hb1, _, _⟩
    have HB1 : Hid (Below w.heap.size w w1) := HB0.out.trans (hb1.mono HB0.out.size)
    have hq1 := blk_below HQ0.out hb1
    have c0 : w1.cell? ⟨w.heap.size, 0, none⟩ = some (i64 t.a) := blk_cell hq1 0
    have c1 : w1.cell? ⟨w.heap.size, 1, none⟩ = some (i64 t.b) := blk_cell hq1 1
    have c2 : w1.cell? ⟨w.heap.size, 2, none⟩ = some (i64 t.c) := blk_cell hq1 2
    clear hb1 hq1
    go_wp2_with fail
    refine (right_yes w1 t HO.out).mono ?_
    rintro e w2 ⟨rfl, hb2⟩
    have HB2 : Hid (Below w.heap.size w w2) := HB1.out.trans (hb2.mono HB1.out.size)
    clear hb2
    go_wp2_with fail
    refine (five_ok _).mono ?_
    rintro e w6 ⟨rfl, hb6⟩
    have HB6 : Hid (Below w.heap.size w w6) := HB2.out.trans (hb6.mono HB2.out.size)
    clear hb6
    go_wp2_with fail
    go_ret
    exact ⟨rfl, HB6.out⟩

set_option maxRecDepth 100000 in
set_option maxHeartbeats 4000000 in
theorem steps_in (w : World) (t : T) (ao : Option Addr) (len cap : Nat) (f : Nat → Sp) (ho : outB 0 64 t.l = false) (hl : len ≤ 100) (hst : SSl w ao len f) (hrg : ∀ i, i < len → (f i).rng) :
    Calls Try.prog 3 #[t.v, .slice ao len cap] w fun e w' => e = .returned (.bool true) ∧ Below w.heap.size w w' := by
  obtain ⟨V, hV⟩ : ∃ V, V = w.alloc (triO t) := ⟨_, rfl⟩
  have HV : Hid (w.alloc (Obj.cells #[i64 t.a, i64 t.b, i64 t.c] 22) = V) := hV.symm
  have HQ0 : Hid (V.heap[w.heap.size]? = some (triO t)) := by rw [hV]; exact heap_last w _
  have HB0 : Hid (Below w.heap.size w V) := by rw [hV]; exact (Below.refl _ _).alloc (Nat.le_refl _) _
  have HO : Hid (outB 0 64 t.l = false) := ho
  have HST : Hid (SSl w ao len f) := hst
  have HRG : Hid (∀ i, i < len → (f i).rng) := hrg
  have hlI : (len : Int) ≤ 100 := by omega
  clear hV ho hst hrg
  go_enter Try.func3, Try.ntmps3
  go_wp2_with fail
  rw [HV.out]
  refine (new_ok V t HO.out).mono ?_
  rintro e w1 ⟨rfl, hb1, hk1, hz1⟩
  have HK1 : Hid (Bk w1 V.heap.size (V.heap.size + 1) t (fun _ => none)) := hk1
  have HB1 : Hid (Below w.heap.size w w1) := HB0.out.trans (hb1.mono HB0.out.size)
  have HQ1 : Hid (w1.heap[w.heap.size]? = some (triO t)) := blk_below HQ0.out hb1
  have c0 : w1.cell? ⟨w.heap.size, 0, none⟩ = some (i64 t.a) := blk_cell HQ1.out 0
  have c1 : w1.cell? ⟨w.heap.size, 1, none⟩ = some (i64 t.b) := blk_cell HQ1.out 1
  have c2 : w1.cell? ⟨w.heap.size, 2, none⟩ = some (i64 t.c) := blk_cell HQ1.out 2
  have hs1 := hb1.size
  clear hb1 hk1
  go_wp2_with fail
  refine (right_yes w1 t HO.out).mono ?_
  rintro e w2 ⟨rfl, hb2⟩
  have HB2 : Hid (Below w.heap.size w w2) := HB1.out.trans (hb2.mono HB1.out.size)
  have HQ2 : Hid (w2.heap[w.heap.size]? = some (triO t)) := blk_below HQ1.out hb2
  have d0 : w2.cell? ⟨w.heap.size, 0, none⟩ = some (i64 t.a) := blk_cell HQ2.out 0
  have d1 : w2.cell? ⟨w.heap.size, 1, none⟩ = some (i64 t.b) := blk_cell HQ2.out 1
  have d2 : w2.cell? ⟨w.heap.size, 2, none⟩ = some (i64 t.c) := blk_cell HQ2.out 2
  have hs2 := hb2.size
  have HK2 : Hid (Bk w2 V.heap.size (V.heap.size + 1) t (fun _ => none)) := HK1.out.below hb2
  obtain ⟨base, hbase⟩ : ∃ b, b = V.heap.size := ⟨_, rfl⟩
  have HT3 : Hid (Two (w2.alloc (.cells #[i64 t.a, i64 t.b, i64 t.c, .slice none 0 0] 33)) base (V.heap.size + 1) w2.heap.size t (fun _ => none) []) := by
    rw [hbase]
    exact ⟨HK2.out.below ((Below.refl _ _).alloc (Nat.le_refl _) _), rb_new w2 _ t (by omega), rel_nil⟩
  have HB3 : Hid (Below w.heap.size w (w2.alloc (.cells #[i64 t.a, i64 t.b, i64 t.c, .slice none 0 0] 33))) := HB2.out.alloc HB2.out.size _
  have hbs : w.heap.size ≤ base := by rw [hbase]; exact HB0.out.size
  clear hb2 hbase
  go_wp2_with fail
  go_loopw [57] (fun i wr => ∃ (k : Nat) (s : St) (L : List Pr), k ≤ len ∧ i = i64 k ∧ Two wr base (V.heap.size + 1) w2.heap.size t s L ∧ Below w.heap.size w wr) (fun i _ => len - (intOf i).toNat)
  case atStart => exact ⟨0, _, _, by omega, rfl, HT3.out, HB3.out⟩
  case round =>
    obtain ⟨k, s, L, hk, rfl, htw, hbw⟩ := hrel
    have HB : Hid (Below w.heap.size w wr) := hbw
    by_cases hlt : k < len
    · obtain ⟨B, off, rfl, hBl, e0, e1, e2, e3, e4, e5, e6⟩ := (HST.out.below hbw).at hlt
      have HX : Hid (f k).rng := HRG.out k hlt
      generalize f k = x at *
      have HTA : Hid (Two (wr.alloc (spO x)) base (V.heap.size + 1) w2.heap.size t s L) := htw.below ((Below.refl _ _).alloc (Nat.le_refl _) _)
      clear htw hbw
      go_wp2_with fail
      refine (does_ok HTA.out x HX.out).mono ?_
      rintro e w4 ⟨rfl, s4, L4, htw4, _, hf4⟩
      have HT4 : Hid (Two w4 base (V.heap.size + 1) w2.heap.size t s4 L4) := htw4
      have HB4 : Hid (Below w.heap.size w w4) := (HB.out.alloc HB.out.size _).trans (hf4.below.mono hbs)
      have HX4 : Hid (w4.heap[wr.heap.size]? = some (spO x)) := hf4.kept _ _ (heap_last wr _) (by rfl)
      have hn1 : ∀ W, (binOp .neq 22 (freeT t s4).v (freeT t s4).v).run Try.prog W = .ok (.bool false) W := fun W => by rw [neq22, decide_eq_true rfl]; rfl
      have HFR : Hid (∀ U, Rb U base w2.heap.size t L4 → Calls Try.prog 13 #[.pointer (some ⟨w2.heap.size, 0, none⟩)] U fun e w' => e = .returned (freeT t s4).v ∧ Below U.heap.size U w') := fun U hU => rfree_rel hU htw4.e htw4.k.wf
      have HFP : Hid (∀ U, Bk U base (V.heap.size + 1) t s4 → Calls Try.prog 12 #[.pointer (some ⟨V.heap.size + 1, 0, none⟩)] U fun e w' => e = .returned (freeT t s4).v ∧ Below U.heap.size U w') := fun U hU => free_ok hU
      generalize freeT t s4 = FT at *
      clear htw4 hf4
      go_wp2_with fail
      refine (HFP.out _ HT4.out.k).mono ?_
      rintro e w5 ⟨rfl, hb5⟩
      have HB5 : Hid (Below w.heap.size w w5) := HB4.out.trans (hb5.mono HB4.out.size)
      have HT5 : Hid (Two w5 base (V.heap.size + 1) w2.heap.size t s4 L4) := HT4.out.below hb5
      have HX5 : Hid (w5.heap[wr.heap.size]? = some (spO x)) := blk_below HX4.out hb5
      clear hb5
      go_wp2_with fail
      refine (HFR.out _ HT5.out.r).mono ?_
      rintro e w6 ⟨rfl, hb6⟩
      have HB6 : Hid (Below w.heap.size w w6) := HB5.out.trans (hb6.mono HB5.out.size)
      have HT6 : Hid (Two w6 base (V.heap.size + 1) w2.heap.size t s4 L4) := HT5.out.below hb6
      have HX6 : Hid (w6.heap[wr.heap.size]? = some (spO x)) := blk_below HX5.out hb6
      have p6 : w6.cell? ⟨wr.heap.size, 1, none⟩ = some (i64 x.env) := blk_cell HX6.out 1
      clear hb6
      obtain ⟨A, hA⟩ : ∃ A, A = at_ s4 x.env := ⟨_, rfl⟩
      have HA : Hid (at_ s4 x.env = A) := hA.symm
      clear hA
      go_wp2_with fail
      refine (has_ok HT6.out.k x.env).mono ?_
      rintro e w7 ⟨rfl, hb7⟩
      rw [HA.out]
      have HB7 : Hid (Below w.heap.size w w7) := HB6.out.trans (hb7.mono HB6.out.size)
      have HT7 : Hid (∀ o, Two (w7.alloc o) base (V.heap.size + 1) w2.heap.size t s4 L4) := fun o => (HT6.out.below hb7).below ((Below.refl _ _).alloc (Nat.le_refl _) _)
      have HX7 : Hid (w7.heap[wr.heap.size]? = some (spO x)) := blk_below HX6.out hb7
      have p7 : w7.cell? ⟨wr.heap.size, 1, none⟩ = some (i64 x.env) := blk_cell HX7.out 1
      have z7 := blk_lt HX7.out
      clear hb7
      go_wp2_with fail
      refine (left_ok (HT7.out _).k x.env).mono ?_
      rintro e w8 ⟨rfl, hb8⟩
      rw [HA.out]
      have HB8 : Hid (Below w.heap.size w w8) := (HB7.out.alloc HB7.out.size _).trans (hb8.mono (by have := HB7.out.size; simp; omega))
      have HT8 : Hid (∀ o, Two (w8.alloc o) base (V.heap.size + 1) w2.heap.size t s4 L4) := fun o => ((HT7.out _).below hb8).below ((Below.refl _ _).alloc (Nat.le_refl _) _)
      have HX8 : Hid (w8.heap[wr.heap.size]? = some (spO x)) := blk_below (blk_alloc HX7.out _) hb8
      have HH8 : Hid (w8.heap[w7.heap.size]? = some (triO (hT A))) := blk_below (heap_last w7 _) hb8
      have p8 : w8.cell? ⟨wr.heap.size, 1, none⟩ = some (i64 x.env) := blk_cell HX8.out 1
      have z8 := blk_lt HX8.out
      have z8h := blk_lt HH8.out
      clear hb8
      go_wp2_with fail
      refine (rat_ok (HT8.out _).r (HT8.out (triO zT)).e.le3 x.env).mono ?_
      rintro e w9 ⟨rfl, hb9⟩
      have HB9 : Hid (Below w.heap.size w w9) := (HB8.out.alloc HB8.out.size _).trans (hb9.mono (by have := HB8.out.size; simp; omega))
      have HT9 : Hid (Two w9 base (V.heap.size + 1) w2.heap.size t s4 L4) := (HT8.out _).below hb9
      have hh9 : w9.heap[w7.heap.size]? = some (triO (hT A)) := blk_below (blk_alloc HH8.out _) hb9
      have hl9 : w9.heap[w8.heap.size]? = some (triO (lfT A)) := blk_below (heap_last w8 _) hb9
      have HH9 : Hid (w9.heap[w7.heap.size]? = some (triO (hT A))) := hh9
      have HL9 : Hid (w9.heap[w8.heap.size]? = some (triO (lfT A))) := hl9
      have zh9 := blk_lt hh9
      have zl9 := blk_lt hl9
      have m0 : w9.cell? ⟨w7.heap.size, 0, none⟩ = some (i64 (hT A).a) := blk_cell hh9 0
      have m1 : w9.cell? ⟨w7.heap.size, 1, none⟩ = some (i64 (hT A).b) := blk_cell hh9 1
      have m2 : w9.cell? ⟨w7.heap.size, 2, none⟩ = some (i64 (hT A).c) := blk_cell hh9 2
      have l0 : w9.cell? ⟨w8.heap.size, 0, none⟩ = some (i64 (lfT A).a) := blk_cell hl9 0
      have l1 : w9.cell? ⟨w8.heap.size, 1, none⟩ = some (i64 (lfT A).b) := blk_cell hl9 1
      have l2 : w9.cell? ⟨w8.heap.size, 2, none⟩ = some (i64 (lfT A).c) := blk_cell hl9 2
      clear hb9 hh9 hl9
      cases A with
      | none =>
        have HI : Hid (idx L4 x.env = -1) := HT9.out.e.not HA.out
        rw [HI.out]
        have hn2 : ∀ W, (binOp .neq 22 zT.v (T.v ⟨0, 0, 0⟩)).run Try.prog W = .ok (.bool false) W := fun W => by rw [neq22]; rfl
        rw [show hT none = zT from rfl] at m0 m1 m2
        rw [show lfT none = zT from rfl] at l0 l1 l2
        rw [show hT none = zT from rfl, show lfT none = zT from rfl]
        unfold pE
        go_wp2_with fail
        exact ⟨⟨k + 1, s4, L4, by omega, by go_num, HT9.out, HB9.out⟩, by simp [intOf]; omega⟩
      | some y =>
        obtain ⟨i, hi, hidx⟩ := HT9.out.e.has HA.out
        have hys := (at_some HA.out).2.2
        have HRL : Hid (∀ U, Rb U base w2.heap.size t L4 → Calls Try.prog 17 #[.pointer (some ⟨w2.heap.size, 0, none⟩), i64 i] U fun e w' => e = .returned (sub y.q y.h).v ∧ Below U.heap.size U w') := fun U hU => rleft_ok hU HT9.out.e.le3 i _ hi (HT9.out.k.wf.le_at hys) (HT9.out.k.wf.le64 hys)
        obtain ⟨ro, rcap, hbk, _, hrow⟩ := HT9.out.r.row
        obtain ⟨g, rfl, hbg, hgl, hgr, _, hc⟩ := hrow i _ hi
        have hr9 := HT9.out.r.lt
        have hiL : (i : Int) < L4.length := by have := (List.getElem?_eq_some_iff.1 hi).1; omega
        have hL3 : (L4.length : Int) ≤ 3 := by have := HT9.out.e.le3; omega
        have n0 : w9.cell? ⟨w2.heap.size, 3, none⟩ = some (.slice (some ⟨g, 0, none⟩) L4.length rcap) := blk_cell hbk 3
        have n4 : w9.cell? ⟨g, i * 7 + 4, none⟩ = some (i64 y.h.a) := hc 4 (by omega)
        have n5 : w9.cell? ⟨g, i * 7 + 5, none⟩ = some (i64 y.h.b) := hc 5 (by omega)
        have n6 : w9.cell? ⟨g, i * 7 + 6, none⟩ = some (i64 y.h.c) := hc 6 (by omega)
        rw [hidx]
        rw [show hT (some y) = y.h from rfl] at m0 m1 m2
        rw [show lfT (some y) = sub y.q y.h from rfl] at l0 l1 l2
        rw [show hT (some y) = y.h from rfl, show lfT (some y) = sub y.q y.h from rfl]
        unfold pE
        have hn2 : ∀ W, (binOp .neq 22 y.h.v y.h.v).run Try.prog W = .ok (.bool false) W := fun W => by rw [neq22, decide_eq_true rfl]; rfl
        have hn3 : ∀ W, (binOp .neq 22 (sub y.q y.h).v (sub y.q y.h).v).run Try.prog W = .ok (.bool false) W := fun W => by rw [neq22, decide_eq_true rfl]; rfl
        clear hi hidx hys hbk hrow hc
        generalize sub y.q y.h = F1 at *
        generalize y.h = H1 at *
        generalize L4.length = N4 at *
        generalize w7.heap.size = Q7 at *
        generalize w8.heap.size = Q8 at *
        have HUP : Hid (∀ U : World, Below w9.heap.size w9 U → (U.cell? ⟨Q7, 0, none⟩ = some (i64 H1.a) ∧ U.cell? ⟨Q7, 1, none⟩ = some (i64 H1.b) ∧ U.cell? ⟨Q7, 2, none⟩ = some (i64 H1.c) ∧ U.cell? ⟨Q8, 0, none⟩ = some (i64 F1.a) ∧ U.cell? ⟨Q8, 1, none⟩ = some (i64 F1.b) ∧ U.cell? ⟨Q8, 2, none⟩ = some (i64 F1.c) ∧ U.cell? ⟨w2.heap.size, 3, none⟩ = some (.slice (some ⟨g, 0, none⟩) N4 rcap) ∧ U.cell? ⟨g, i * 7 + 4, none⟩ = some (i64 H1.a) ∧ U.cell? ⟨g, i * 7 + 4 + 1, none⟩ = some (i64 H1.b) ∧ U.cell? ⟨g, i * 7 + 4 + 2, none⟩ = some (i64 H1.c) ∧ U.cell? ⟨g, i * 7 + 5, none⟩ = some (i64 H1.b) ∧ U.cell? ⟨g, i * 7 + 6, none⟩ = some (i64 H1.c))) := fun U hU => by
          have hcell : ∀ (b o : Nat), b < w9.heap.size → U.cell? ⟨b, o, none⟩ = w9.cell? ⟨b, o, none⟩ := fun b o hb => hU.cell (by exact hb)
          exact ⟨(hcell _ _ zh9).trans m0, (hcell _ _ zh9).trans m1, (hcell _ _ zh9).trans m2, (hcell _ _ zl9).trans l0, (hcell _ _ zl9).trans l1, (hcell _ _ zl9).trans l2, (hcell _ _ hr9).trans n0, (hcell _ _ hgl).trans n4, (hcell _ _ hgl).trans n5, (hcell _ _ hgl).trans n6, (hcell _ _ hgl).trans n5, (hcell _ _ hgl).trans n6⟩
        have HV1 : Hid (Below w9.heap.size w9 w9.drew) := ⟨rfl, rfl, rfl, Nat.le_refl _, fun _ _ => rfl⟩
        go_wp2_with fail
        go_region_held3 (fun U => U.cell? ⟨Q7, 0, none⟩ = some (i64 H1.a) ∧ U.cell? ⟨Q7, 1, none⟩ = some (i64 H1.b) ∧ U.cell? ⟨Q7, 2, none⟩ = some (i64 H1.c) ∧ U.cell? ⟨Q8, 0, none⟩ = some (i64 F1.a) ∧ U.cell? ⟨Q8, 1, none⟩ = some (i64 F1.b) ∧ U.cell? ⟨Q8, 2, none⟩ = some (i64 F1.c) ∧ U.cell? ⟨w2.heap.size, 3, none⟩ = some (.slice (some ⟨g, 0, none⟩) N4 rcap) ∧ U.cell? ⟨g, i * 7 + 4, none⟩ = some (i64 H1.a) ∧ U.cell? ⟨g, i * 7 + 4 + 1, none⟩ = some (i64 H1.b) ∧ U.cell? ⟨g, i * 7 + 4 + 2, none⟩ = some (i64 H1.c) ∧ U.cell? ⟨g, i * 7 + 5, none⟩ = some (i64 H1.b) ∧ U.cell? ⟨g, i * 7 + 6, none⟩ = some (i64 H1.c)) (first | exact HUP.out _ HV1.out | exact HUP.out _ HV2.out)
          ((go_at_call 17; refine (HRL.out w9.drew (HT9.out.r.same (fun _ _ h _ => h))).mono ?_; rintro e w10 ⟨rfl, hb10⟩; have HV2 : Hid (Below w9.heap.size w9 w10) := HV1.out.trans (hb10.mono (Nat.le_refl _)); clear hb10))
        all_goals go_wp2_with fail
        exact ⟨⟨k + 1, s4, L4, by omega, by go_num, HT9.out.below HV2.out, HB9.out.trans (HV2.out.mono HB9.out.size)⟩, by simp [intOf]; omega⟩
    · clear htw hbw
      go_wp2_with fail
      refine (five_ok _).mono ?_
      rintro e w6 ⟨rfl, hb6⟩
      have HB6 : Hid (Below w.heap.size w w6) := HB.out.trans (hb6.mono HB.out.size)
      clear hb6
      go_wp2_with fail
      go_ret
      exact ⟨rfl, HB6.out⟩
end Go.Proofs.Ytfnhiefngbcnaaa
