/- QuotaApart's walk; no statement is proved in this text. -/
import Derived.Test.YtfnhiefngbcnaaaDoes
namespace Go.Proofs.Ytfnhiefngbcnaaa
open Go.ChangeShapes Go.WideShapes Go.ChangeAt Go.RowKit Go.Deep

set_option maxRecDepth 100000 in
set_option maxHeartbeats 1000000 in
theorem right_yes (w : World) (t : T) (h : outB 0 64 t.l = false) : Calls Try.prog 9 #[t.v] w fun e w' => e = .returned (.bool true) ∧ Below w.heap.size w w' := by
  have HB : Hid (∀ o, Below w.heap.size w (w.alloc o)) := fun o => (Below.refl _ _).alloc (Nat.le_refl _) o
  unfold outB T.l at h
  simp at h
  obtain ⟨⟨a0, a1⟩, ⟨b0, b1⟩, c0, c1⟩ := h
  have a2 : t.a < 65 := by omega
  have b2 : t.b < 65 := by omega
  have c2 : t.c < 65 := by omega
  go_enter Try.func9, Try.ntmps9
  go_wp2_with fail
  go_ret
  refine ⟨?_, HB.out _⟩
  first | rfl | (simp; omega)
set_option maxRecDepth 100000 in
set_option maxHeartbeats 1000000 in
theorem right_no (w : World) (t : T) (h : outB 0 64 t.l = true) : Calls Try.prog 9 #[t.v] w fun e w' => e = .returned (.bool false) ∧ Below w.heap.size w w' := by
  have HB : Hid (∀ o, Below w.heap.size w (w.alloc o)) := fun o => (Below.refl _ _).alloc (Nat.le_refl _) o
  unfold outB T.l at h
  simp at h
  have HH : Hid (((t.a < 0 ∨ 64 < t.a) ∨ (t.b < 0 ∨ 64 < t.b) ∨ t.c < 0 ∨ 64 < t.c)) := h
  clear h
  go_enter Try.func9, Try.ntmps9
  go_wp2_with fail
  all_goals go_ret
  all_goals
    refine ⟨?_, HB.out _⟩
    first | rfl | (have := HH.out; simp; omega) | (exfalso; have := HH.out; omega)
theorem rb_new (w : World) (base : Nat) (t : T) (h : base ≤ w.heap.size) : Rb (w.alloc (.cells #[i64 t.a, i64 t.b, i64 t.c, .slice none 0 0] 33)) base w.heap.size t [] :=
  ⟨h, _, heap_last w _, World.ownsRow_nil _ _ _ _⟩

set_option maxRecDepth 100000 in
set_option maxHeartbeats 1000000 in
theorem apart_out (w : World) (t : T) (ao : Option Addr) (len cap : Nat) (env : Int) (hlen : len ≤ maxLen) (h : outB 0 64 t.l = true ∨ 100 < len) :
    Calls Try.prog 5 #[t.v, .slice ao len cap, i64 env] w fun e w' => e = .returned (.bool true) ∧ Below w.heap.size w w' := by
  unfold maxLen at hlen
  obtain ⟨V, hV⟩ : ∃ V, V = w.alloc (triO t) := ⟨_, rfl⟩
  have HV : Hid (w.alloc (Obj.cells #[i64 t.a, i64 t.b, i64 t.c] 22) = V) := hV.symm
  have HQ0 : Hid (V.heap[w.heap.size]? = some (triO t)) := by rw [hV]; exact heap_last w _
  have HB0 : Hid (Below w.heap.size w V) := by rw [hV]; exact (Below.refl _ _).alloc (Nat.le_refl _) _
  clear hV
  by_cases ho : outB 0 64 t.l = true
  · have HO : Hid (outB 0 64 t.l = true) := ho
    clear h ho
    go_enter Try.func5, Try.ntmps5
    go_wp2_with fail
    rw [HV.out]
    refine (new_no V t HO.out).mono ?_
    rintro e w1 ⟨rfl, hb1⟩
    have HB1 : Hid (Below w.heap.size w w1) := HB0.out.trans (hb1.mono HB0.out.size)
    have hq1 := blk_below HQ0.out hb1
    have c0 : w1.cell? ⟨w.heap.size, 0, none⟩ = some (i64 t.a) := blk_cell hq1 0
    have c1 : w1.cell? ⟨w.heap.size, 1, none⟩ = some (i64 t.b) := blk_cell hq1 1
    have c2 : w1.cell? ⟨w.heap.size, 2, none⟩ = some (i64 t.c) := blk_cell hq1 2
    clear hb1 hq1
    go_wp2_with fail
    refine (right_no w1 t HO.out).mono ?_
    rintro e w2 ⟨rfl, hb2⟩
    have HB2 : Hid (Below w.heap.size w w2) := HB1.out.trans (hb2.mono HB1.out.size)
    clear hb2
    go_wp2_with fail
    refine (five_ok _).mono ?_
    rintro e w6 ⟨rfl, hb6⟩
    have HB6 : Hid (Below w.heap.size w w6) := HB2.out.trans (hb6.mono HB2.out.size)
    clear hb6
    go_wp2_with fail
    go_ret
    exact ⟨rfl, HB6.out⟩
  · have HO : Hid (outB 0 64 t.l = false) := (by simpa using ho : outB 0 64 t.l = false)
    have hl : (100 : Int) < len := by rcases h with h | h; exact absurd h ho; omega
    clear h ho
    go_enter Try.func5, Try.ntmps5
    go_wp2_with fail
    rw [HV.out]
    refine (new_ok V t HO.out).mono ?_
    rintro e w1 ⟨rfl, hb1, _, _⟩
    have HB1 : Hid (Below w.heap.size w w1) := HB0.out.trans (hb1.mono HB0.out.size)
    have hq1 := blk_below HQ0.out hb1
    have c0 : w1.cell? ⟨w.heap.size, 0, none⟩ = some (i64 t.a) := blk_cell hq1 0
    have c1 : w1.cell? ⟨w.heap.size, 1, none⟩ = some (i64 t.b) := blk_cell hq1 1
    have c2 : w1.cell? ⟨w.heap.size, 2, none⟩ = some (i64 t.c) := blk_cell hq1 2
    clear hb1 hq1
    go_wp2_with fail
    refine (right_yes w1 t HO.out).mono ?_
    rintro e w2 ⟨rfl, hb2⟩
    have HB2 : Hid (Below w.heap.size w w2) := HB1.out.trans (hb2.mono HB1.out.size)
    clear hb2
    go_wp2_with fail
    refine (five_ok _).mono ?_
    rintro e w6 ⟨rfl, hb6⟩
    have HB6 : Hid (Below w.heap.size w w6) := HB2.out.trans (hb6.mono HB2.out.size)
    clear hb6
    go_wp2_with fail
    go_ret
    exact ⟨rfl, HB6.out⟩

set_option maxRecDepth 100000 in
set_option maxHeartbeats 4000000 in
theorem apart_in (w : World) (t : T) (ao : Option Addr) (len cap : Nat) (env : Int) (f : Nat → Sp) (ho : outB 0 64 t.l = false) (hl : len ≤ 100) (hst : SSl w ao len f) (hrg : ∀ i, i < len → (f i).rng) :
    Calls Try.prog 5 #[t.v, .slice ao len cap, i64 env] w fun e w' => e = .returned (.bool true) ∧ Below w.heap.size w w' := by
  obtain ⟨V, hV⟩ : ∃ V, V = w.alloc (triO t) := ⟨_, rfl⟩
  have HV : Hid (w.alloc (Obj.cells #[i64 t.a, i64 t.b, i64 t.c] 22) = V) := hV.symm
  have HQ0 : Hid (V.heap[w.heap.size]? = some (triO t)) := by rw [hV]; exact heap_last w _
  have HB0 : Hid (Below w.heap.size w V) := by rw [hV]; exact (Below.refl _ _).alloc (Nat.le_refl _) _
  have HO : Hid (outB 0 64 t.l = false) := ho
  have HST : Hid (SSl w ao len f) := hst
  have HRG : Hid (∀ i, i < len → (f i).rng) := hrg
  have hlI : (len : Int) ≤ 100 := by omega
  clear hV ho hst hrg
  go_enter Try.func5, Try.ntmps5
  go_wp2_with fail
  rw [HV.out]
  refine (new_ok V t HO.out).mono ?_
  rintro e w1 ⟨rfl, hb1, hk1, hz1⟩
  have HK1 : Hid (Bk w1 V.heap.size (V.heap.size + 1) t (fun _ => none)) := hk1
  have HB1 : Hid (Below w.heap.size w w1) := HB0.out.trans (hb1.mono HB0.out.size)
  have HQ1 : Hid (w1.heap[w.heap.size]? = some (triO t)) := blk_below HQ0.out hb1
  have c0 : w1.cell? ⟨w.heap.size, 0, none⟩ = some (i64 t.a) := blk_cell HQ1.out 0
  have c1 : w1.cell? ⟨w.heap.size, 1, none⟩ = some (i64 t.b) := blk_cell HQ1.out 1
  have c2 : w1.cell? ⟨w.heap.size, 2, none⟩ = some (i64 t.c) := blk_cell HQ1.out 2
  have hs1 := hb1.size
  clear hb1 hk1
  go_wp2_with fail
  refine (right_yes w1 t HO.out).mono ?_
  rintro e w2 ⟨rfl, hb2⟩
  have HB2 : Hid (Below w.heap.size w w2) := HB1.out.trans (hb2.mono HB1.out.size)
  have HQ2 : Hid (w2.heap[w.heap.size]? = some (triO t)) := blk_below HQ1.out hb2
  have d0 : w2.cell? ⟨w.heap.size, 0, none⟩ = some (i64 t.a) := blk_cell HQ2.out 0
  have d1 : w2.cell? ⟨w.heap.size, 1, none⟩ = some (i64 t.b) := blk_cell HQ2.out 1
  have d2 : w2.cell? ⟨w.heap.size, 2, none⟩ = some (i64 t.c) := blk_cell HQ2.out 2
  have hs2 := hb2.size
  have HK2 : Hid (Bk w2 V.heap.size (V.heap.size + 1) t (fun _ => none)) := HK1.out.below hb2
  obtain ⟨base, hbase⟩ : ∃ b, b = V.heap.size := ⟨_, rfl⟩
  have HT3 : Hid (Two (w2.alloc (.cells #[i64 t.a, i64 t.b, i64 t.c, .slice none 0 0] 33)) base (V.heap.size + 1) w2.heap.size t (fun _ => none) []) := by
    rw [hbase]
    exact ⟨HK2.out.below ((Below.refl _ _).alloc (Nat.le_refl _) _), rb_new w2 _ t (by omega), rel_nil⟩
  have HB3 : Hid (Below w.heap.size w (w2.alloc (.cells #[i64 t.a, i64 t.b, i64 t.c, .slice none 0 0] 33))) := HB2.out.alloc HB2.out.size _
  have hbs : w.heap.size ≤ base := by rw [hbase]; exact HB0.out.size
  clear hb2 hbase
  go_wp2_with fail
  go_loopw [45] (fun i wr => ∃ (k : Nat) (s : St) (L : List Pr), k ≤ len ∧ i = i64 k ∧ Two wr base (V.heap.size + 1) w2.heap.size t s L ∧ Below w.heap.size w wr) (fun i _ => len - (intOf i).toNat)
  case atStart => exact ⟨0, _, _, by omega, rfl, HT3.out, HB3.out⟩
  case round =>
    obtain ⟨k, s, L, hk, rfl, htw, hbw⟩ := hrel
    have HT : Hid (Two wr base (V.heap.size + 1) w2.heap.size t s L) := htw
    have HB : Hid (Below w.heap.size w wr) := hbw
    by_cases hlt : k < len
    · obtain ⟨B, off, rfl, hBl, e0, e1, e2, e3, e4, e5, e6⟩ := (HST.out.below hbw).at hlt
      have HX : Hid (f k).rng := HRG.out k hlt
      generalize f k = x at *
      have HTA : Hid (Two (wr.alloc (spO x)) base (V.heap.size + 1) w2.heap.size t s L) := htw.below ((Below.refl _ _).alloc (Nat.le_refl _) _)
      obtain ⟨A, hA⟩ : ∃ A, A = at_ s env := ⟨_, rfl⟩
      have HA : Hid (at_ s env = A) := hA.symm
      clear htw hbw hA
      go_wp2_with fail
      refine (has_ok HTA.out.k env).mono ?_
      rintro e w4 ⟨rfl, hb4⟩
      rw [HA.out]
      have hx4 : w4.heap[wr.heap.size]? = some (spO x) := blk_below (heap_last wr _) hb4
      have HX4 : Hid (w4.heap[wr.heap.size]? = some (spO x)) := hx4
      have HB4 : Hid (Below w.heap.size w w4) := (HB.out.alloc HB.out.size _).trans (hb4.mono (by have := HB.out.size; simp; omega))
      have HT4 : Hid (∀ o, Two (w4.alloc o) base (V.heap.size + 1) w2.heap.size t s L) := fun o => (HTA.out.below hb4).below ((Below.refl _ _).alloc (Nat.le_refl _) _)
      have hz4 := blk_lt hx4
      clear hb4 hx4
      go_wp2_with fail
      refine (left_ok (HT4.out _).k env).mono ?_
      rintro e w5 ⟨rfl, hb5⟩
      rw [HA.out]
      have hz5 : w4.heap.size < w5.heap.size := by have := hb5.size; simp at this; omega
      have HX5 : Hid (w5.heap[wr.heap.size]? = some (spO x)) := blk_below (blk_alloc HX4.out _) hb5
      have HW5 : Hid (w5.heap[w4.heap.size]? = some (triO (hT A))) := blk_below (heap_last w4 _) hb5
      have HB5 : Hid (Below w.heap.size w w5) := (HB4.out.alloc HB4.out.size _).trans (hb5.mono (by have := HB4.out.size; simp; omega))
      have HT5 : Hid (∀ o, Two (w5.alloc o) base (V.heap.size + 1) w2.heap.size t s L) := fun o => ((HT4.out _).below hb5).below ((Below.refl _ _).alloc (Nat.le_refl _) _)
      have hr5 : wr.heap.size < w5.heap.size := by omega
      obtain ⟨p0, p1, p2, p3, p4, p5, p6⟩ := sp_cells HX5.out
      clear hb5
      go_wp2_with fail
      refine (does_ok (HT5.out _) x HX.out).mono ?_
      rintro e w6 ⟨rfl, s6, L6, htw6, hoth, hf6⟩
      have HX6 : Hid (w6.heap[wr.heap.size]? = some (spO x)) := hf6.kept _ _ (blk_alloc HX5.out _) (by rfl)
      have HW6 : Hid (w6.heap[w4.heap.size]? = some (triO (hT A))) := hf6.kept _ _ (blk_alloc HW5.out _) (by rfl)
      have HL6 : Hid (w6.heap[w5.heap.size]? = some (triO (lfT A))) := hf6.kept _ _ (heap_last w5 _) (by rfl)
      have HT6 : Hid (Two w6 base (V.heap.size + 1) w2.heap.size t s6 L6) := htw6
      have HB6 : Hid (Below w.heap.size w w6) := (HB5.out.alloc HB5.out.size _).trans (hf6.below.mono hbs)
      have q1 : w6.cell? ⟨wr.heap.size, 1, none⟩ = some (i64 x.env) := blk_cell HX6.out 1
      have hs6 := blk_lt HL6.out
      by_cases he : x.env = env
      · have hq : (x.env == env) = true := by simpa using he
        clear htw6 hoth hf6 he
        go_wp2_with fail
        exact ⟨⟨k + 1, s6, L6, by omega, by go_num, HT6.out, HB6.out⟩, by simp [intOf]; omega⟩
      · have hq : (x.env == env) = false := by simpa using he
        have HA6 : Hid (at_ s6 env = A) := (hoth env (fun e => he e.symm)).trans HA.out
        have hn1 : ∀ W, (binOp .neq 22 (hT A).v (hT A).v).run Try.prog W = .ok (.bool false) W := fun W => by rw [neq22, decide_eq_true rfl]; rfl
        have hn2 : ∀ W, (binOp .neq 22 (lfT A).v (lfT A).v).run Try.prog W = .ok (.bool false) W := fun W => by rw [neq22, decide_eq_true rfl]; rfl
        clear htw6 hoth hf6 he
        go_wp2_with fail
        refine (has_ok HT6.out.k env).mono ?_
        rintro e w7 ⟨rfl, hb7⟩
        rw [HA6.out]
        have HW7 : Hid (w7.heap[w4.heap.size]? = some (triO (hT A))) := blk_below HW6.out hb7
        have HL7 : Hid (w7.heap[w5.heap.size]? = some (triO (lfT A))) := blk_below HL6.out hb7
        have HB7 : Hid (Below w.heap.size w w7) := HB6.out.trans (hb7.mono HB6.out.size)
        have HT7 : Hid (∀ o, Two (w7.alloc o) base (V.heap.size + 1) w2.heap.size t s6 L6) := fun o => (HT6.out.below hb7).below ((Below.refl _ _).alloc (Nat.le_refl _) _)
        have hs7 := blk_lt HL7.out
        clear hb7
        go_wp2_with fail
        refine (left_ok (HT7.out _).k env).mono ?_
        rintro e w8 ⟨rfl, hb8⟩
        rw [HA6.out]
        have hW8 := blk_below (blk_alloc HW7.out _) hb8
        have hL8 := blk_below (blk_alloc HL7.out _) hb8
        have hN8 := blk_below (heap_last w7 _) hb8
        have HB8 : Hid (Below w.heap.size w w8) := (HB7.out.alloc HB7.out.size _).trans (hb8.mono (by have := HB7.out.size; simp; omega))
        have HT8 : Hid (∀ o, Two (w8.alloc o) base (V.heap.size + 1) w2.heap.size t s6 L6) := fun o => ((HT7.out _).below hb8).below ((Below.refl _ _).alloc (Nat.le_refl _) _)
        have g0 : w8.cell? ⟨w4.heap.size, 0, none⟩ = some (i64 (hT A).a) := blk_cell hW8 0
        have g1 : w8.cell? ⟨w4.heap.size, 1, none⟩ = some (i64 (hT A).b) := blk_cell hW8 1
        have g2 : w8.cell? ⟨w4.heap.size, 2, none⟩ = some (i64 (hT A).c) := blk_cell hW8 2
        have l0 : w8.cell? ⟨w5.heap.size, 0, none⟩ = some (i64 (lfT A).a) := blk_cell hL8 0
        have l1 : w8.cell? ⟨w5.heap.size, 1, none⟩ = some (i64 (lfT A).b) := blk_cell hL8 1
        have l2 : w8.cell? ⟨w5.heap.size, 2, none⟩ = some (i64 (lfT A).c) := blk_cell hL8 2
        have m0 : w8.cell? ⟨w7.heap.size, 0, none⟩ = some (i64 (hT A).a) := blk_cell hN8 0
        have m1 : w8.cell? ⟨w7.heap.size, 1, none⟩ = some (i64 (hT A).b) := blk_cell hN8 1
        have m2 : w8.cell? ⟨w7.heap.size, 2, none⟩ = some (i64 (hT A).c) := blk_cell hN8 2
        have z1 := blk_lt hW8
        have z2 := blk_lt hL8
        have z3 := blk_lt hN8
        clear hb8 hW8 hL8 hN8
        generalize hT A = H1 at *
        generalize lfT A = F1 at *
        generalize pE A = P1 at *
        go_wp2_with fail
        exact ⟨⟨k + 1, s6, L6, by omega, by go_num, HT8.out _, HB8.out.alloc HB8.out.size _⟩, by simp [intOf]; omega⟩
    · clear htw hbw
      go_wp2_with fail
      refine (five_ok _).mono ?_
      rintro e w6 ⟨rfl, hb6⟩
      have HB6 : Hid (Below w.heap.size w w6) := HB.out.trans (hb6.mono HB.out.size)
      clear hb6
      go_wp2_with fail
      go_ret
      exact ⟨rfl, HB6.out⟩
end Go.Proofs.Ytfnhiefngbcnaaa
