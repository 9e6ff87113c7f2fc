/- imagoref10.Book's Open, where it opens: its contract; no statement is proved in this text. -/
import Derived.Test.YtfnhiefngbcnaaaROpen
namespace Go.Proofs.Ytfnhiefngbcnaaa
open Go.ChangeShapes Go.WideShapes Go.ChangeAt Go.RowKit Go.Deep
attribute [local go_sem ↓] Go.wp_at_zero Go.wp_at_succ

set_option maxRecDepth 100000 in
set_option maxHeartbeats 4000000 in
theorem ropen_in {w : World} {base r : Nat} {t : T} {L : List Pr} (h : Rb w base r t L) (hl : L.length ≤ 3) (ht : In64 t) (hq : ∀ u ∈ L.map Pr.q, In64 u) (env : Int) (q : T) (h1 : ¬ env < 1) (h2 : ¬ 3 < env) (h3 : ¬ q.a < 0) (h4 : ¬ q.b < 0) (h5 : ¬ q.c < 0) (hqa : q.a ≤ 9223372036854775807) (hqb : q.b ≤ 9223372036854775807) (hqc : q.c ≤ 9223372036854775807) (hi : idx L env = -1) (hno : (sum (L.map Pr.q)).a + q.a ≤ t.a ∧ (sum (L.map Pr.q)).b + q.b ≤ t.b ∧ (sum (L.map Pr.q)).c + q.c ≤ t.c) :
    Calls Try.prog 23 #[.pointer (some ⟨r, 0, none⟩), i64 env, q.v] w fun e w' => e = .returned (i64 0) ∧ Rb w' base r t (L ++ [(⟨env, q, zT⟩ : Pr)]) ∧ Fr base [33, 42] w w' := by
  obtain ⟨n1, n2, n3⟩ := hno
  have HB0 : Hid (∀ o, Below w.heap.size w (w.alloc o)) := fun o => (Below.refl _ _).alloc (Nat.le_refl _) o
  have HR : Hid (Rb w base r t L) := h
  have HI : Hid (idx L env = -1) := hi
  have HLL : Hid (L.length ≤ 3) := hl
  have HQ : Hid (∀ k, k ≤ (L.map Pr.q).length → 0 ≤ (sum ((L.map Pr.q).take k)).a ∧ (sum ((L.map Pr.q).take k)).a ≤ 64 * k ∧ 0 ≤ (sum ((L.map Pr.q).take k)).b ∧ (sum ((L.map Pr.q).take k)).b ≤ 64 * k ∧ 0 ≤ (sum ((L.map Pr.q).take k)).c ∧ (sum ((L.map Pr.q).take k)).c ≤ 64 * k) := sum_bd hq
  have HU : Hid (∀ u ∈ L.map Pr.q, In64 u) := hq
  have hrl := h.lt
  unfold In64 at ht
  obtain ⟨ta0, ta1, tb0, tb1, tc0, tc1⟩ := ht
  clear h hi hl hq
  go_enter Try.func23, Try.ntmps23
  go_wp2_with fail
  refine (rat_ok (HR.out.below (HB0.out _)) HLL.out env).mono ?_
  rintro e w1 ⟨rfl, hb1⟩
  rw [HI.out]
  have hB1 : Below w.heap.size w w1 := (HB0.out _).trans (hb1.mono (by simp))
  have hx1 : w1.heap[w.heap.size]? = some (triO q) := blk_below (heap_last w _) hb1
  have HX1 : Hid (w1.heap[w.heap.size]? = some (triO q)) := hx1
  have HB1 : Hid (Below w.heap.size w w1) := hB1
  have HR1 : Hid (Rb w1 base r t L) := HR.out.below hB1
  obtain ⟨ao, cap, hbk, _, _⟩ := HR1.out.row
  have HK1 : Hid (w1.heap[r]? = some (.cells #[i64 t.a, i64 t.b, i64 t.c, .slice ao L.length cap] 33)) := hbk
  obtain ⟨N, hN⟩ : ∃ N, N = L.length := ⟨_, rfl⟩
  have HN : Hid (N = L.length) := hN
  have hN3 : (N : Int) ≤ 3 := by have := HLL.out; omega
  have hx1l := blk_lt hx1
  clear hb1 hB1 hx1 hbk hN
  go_wp2_with fail
  go_loopw [7] (fun i wr => ∃ j : Nat, j ≤ 3 ∧ i = i64 j ∧ Below w1.heap.size w1 wr ∧ Hid ((0 < j → (sum (L.map Pr.q)).a + q.a ≤ t.a) ∧ (1 < j → (sum (L.map Pr.q)).b + q.b ≤ t.b) ∧ (2 < j → (sum (L.map Pr.q)).c + q.c ≤ t.c))) (fun i _ => 3 - (intOf i).toNat)
  case atStart => exact ⟨0, by omega, rfl, Below.refl _ _, by constructor; omega; constructor <;> omega⟩
  case round =>
    obtain ⟨j, hj, rfl, hbw, HJ⟩ := hrel
    have HBW : Hid (Below w1.heap.size w1 wr) := hbw
    have hbk := blk_below HK1.out hbw
    have d3 : wr.cell? ⟨r, 3, none⟩ = some (.slice ao N cap) := by rw [HN.out]; exact blk_cell hbk 3
    clear hbw hbk
    obtain rfl | rfl | rfl | rfl : j = 0 ∨ j = 1 ∨ j = 2 ∨ j = 3 := by omega
    · go_wp2_with fail
      go_loopw [8, 45] (fun s i wq => ∃ m : Nat, m ≤ N ∧ i = i64 m ∧ s = i64 (sum ((L.map Pr.q).take m)).a ∧ Below w1.heap.size w1 wq) (fun _ i _ => N - (intOf i).toNat)
      case atStart => exact ⟨0, by omega, rfl, rfl, HBW.out⟩
      case round =>
        obtain ⟨m, hm, rfl, rfl, hbq⟩ := hrel
        obtain ⟨s1, s2, s3, s4, s5, s6⟩ := HQ.out m (by rw [List.length_map]; have := HN.out; omega)
        have HBQ : Hid (Below w1.heap.size w1 wr) := hbq
        by_cases hlt : m < N
        · have hlt2 : m < L.length := by rw [← HN.out]; exact hlt
          have hlt3 : m < (L.map Pr.q).length := by rw [List.length_map]; exact hlt2
          obtain ⟨p, hp⟩ : ∃ p, L[m]? = some p := ⟨_, List.getElem?_eq_getElem hlt2⟩
          have hpu : (L.map Pr.q)[m] = p.q := by
            rw [List.getElem?_eq_getElem hlt2] at hp
            cases hp
            simp
          obtain ⟨ao', cap', hbk', _, hrow⟩ := (HR1.out.below hbq).row
          have hs := (blk_below HK1.out hbq).symm.trans hbk'
          simp only [Option.some.injEq, Obj.cells.injEq, Array.mk.injEq, List.cons.injEq, Value.slice.injEq, true_and, and_true] at hs
          obtain ⟨rfl, rfl⟩ := hs
          obtain ⟨g, rfl, hbg, hgl, _, _, hc⟩ := hrow m p hp
          have c0 : wr.cell? ⟨g, m * 7, none⟩ = some (i64 p.env) := hc 0 (by omega)
          have c1 : wr.cell? ⟨g, m * 7 + 1, none⟩ = some (i64 p.q.a) := hc 1 (by omega)
          have c2 : wr.cell? ⟨g, m * 7 + 2, none⟩ = some (i64 p.q.b) := hc 2 (by omega)
          have c3 : wr.cell? ⟨g, m * 7 + 3, none⟩ = some (i64 p.q.c) := hc 3 (by omega)
          have c4 : wr.cell? ⟨g, m * 7 + 4, none⟩ = some (i64 p.h.a) := hc 4 (by omega)
          have c5 : wr.cell? ⟨g, m * 7 + 5, none⟩ = some (i64 p.h.b) := hc 5 (by omega)
          have c6 : wr.cell? ⟨g, m * 7 + 6, none⟩ = some (i64 p.h.c) := hc 6 (by omega)
          have HX := HU.out _ (List.getElem_mem hlt3)
          rw [hpu] at HX
          unfold In64 at HX
          obtain ⟨x1, x2, x3, x4, x5, x6⟩ := HX
          have HF : Hid ((sum ((L.map Pr.q).take (m + 1))).a = (sum ((L.map Pr.q).take m)).a + p.q.a) := by
            have := sum_next (L.map Pr.q) m hlt3
            rw [hpu] at this
            rw [this]
            rfl
          generalize (sum ((L.map Pr.q).take m)).a = S at *
          have hm3 : (m : Int) ≤ 3 := by omega
          clear hrow hc hp hpu hbk' hbq
          go_wp2_with fail
          exact ⟨⟨m + 1, by omega, by go_num, by rw [HF.out], HBQ.out.alloc HBQ.out.size _⟩, by simp [intOf]; omega⟩
        · have hE : (L.map Pr.q).take m = L.map Pr.q := List.take_of_length_le (by rw [List.length_map]; have := HN.out; omega)
          rw [hE] at s1 s2 s3 s4 s5 s6 ⊢
          have hbk := blk_below HK1.out hbq
          have hbx := blk_below HX1.out hbq
          have d0 : wr.cell? ⟨r, 0, none⟩ = some (i64 t.a) := blk_cell hbk 0
          have x0 : wr.cell? ⟨w.heap.size, 0, none⟩ = some (i64 q.a) := blk_cell hbx 0
          have hm3 : (m : Int) ≤ 3 := by omega
          obtain ⟨j1, j2, j3⟩ := HJ.out
          generalize hS : (sum (L.map Pr.q)).a = S at *
          have HS : Hid ((sum (L.map Pr.q)).a = S) := hS
          clear hbk hbx hbq hE
          by_cases hg : t.a - S < q.a
          · omega
          · have HJ2 : Hid ((0 < 1 → (sum (L.map Pr.q)).a + q.a ≤ t.a) ∧ (1 < 1 → (sum (L.map Pr.q)).b + q.b ≤ t.b) ∧ (2 < 1 → (sum (L.map Pr.q)).c + q.c ≤ t.c)) := ⟨by omega, by omega, by omega⟩
            clear j1 j2 j3 hS n1 n2 n3
            go_wp2_with fail
            go_quiet (fail)
            go_wp2_with fail
            exact ⟨⟨1, by omega, by go_num, below_drewN HBQ.out _, HJ2⟩, by simp [intOf]⟩
    · go_wp2_with fail
      go_loopw [8, 45] (fun s i wq => ∃ m : Nat, m ≤ N ∧ i = i64 m ∧ s = i64 (sum ((L.map Pr.q).take m)).b ∧ Below w1.heap.size w1 wq) (fun _ i _ => N - (intOf i).toNat)
      case atStart => exact ⟨0, by omega, rfl, rfl, HBW.out⟩
      case round =>
        obtain ⟨m, hm, rfl, rfl, hbq⟩ := hrel
        obtain ⟨s1, s2, s3, s4, s5, s6⟩ := HQ.out m (by rw [List.length_map]; have := HN.out; omega)
        have HBQ : Hid (Below w1.heap.size w1 wr) := hbq
        by_cases hlt : m < N
        · have hlt2 : m < L.length := by rw [← HN.out]; exact hlt
          have hlt3 : m < (L.map Pr.q).length := by rw [List.length_map]; exact hlt2
          obtain ⟨p, hp⟩ : ∃ p, L[m]? = some p := ⟨_, List.getElem?_eq_getElem hlt2⟩
          have hpu : (L.map Pr.q)[m] = p.q := by
            rw [List.getElem?_eq_getElem hlt2] at hp
            cases hp
            simp
          obtain ⟨ao', cap', hbk', _, hrow⟩ := (HR1.out.below hbq).row
          have hs := (blk_below HK1.out hbq).symm.trans hbk'
          simp only [Option.some.injEq, Obj.cells.injEq, Array.mk.injEq, List.cons.injEq, Value.slice.injEq, true_and, and_true] at hs
          obtain ⟨rfl, rfl⟩ := hs
          obtain ⟨g, rfl, hbg, hgl, _, _, hc⟩ := hrow m p hp
          have c0 : wr.cell? ⟨g, m * 7, none⟩ = some (i64 p.env) := hc 0 (by omega)
          have c1 : wr.cell? ⟨g, m * 7 + 1, none⟩ = some (i64 p.q.a) := hc 1 (by omega)
          have c2 : wr.cell? ⟨g, m * 7 + 2, none⟩ = some (i64 p.q.b) := hc 2 (by omega)
          have c3 : wr.cell? ⟨g, m * 7 + 3, none⟩ = some (i64 p.q.c) := hc 3 (by omega)
          have c4 : wr.cell? ⟨g, m * 7 + 4, none⟩ = some (i64 p.h.a) := hc 4 (by omega)
          have c5 : wr.cell? ⟨g, m * 7 + 5, none⟩ = some (i64 p.h.b) := hc 5 (by omega)
          have c6 : wr.cell? ⟨g, m * 7 + 6, none⟩ = some (i64 p.h.c) := hc 6 (by omega)
          have HX := HU.out _ (List.getElem_mem hlt3)
          rw [hpu] at HX
          unfold In64 at HX
          obtain ⟨x1, x2, x3, x4, x5, x6⟩ := HX
          have HF : Hid ((sum ((L.map Pr.q).take (m + 1))).b = (sum ((L.map Pr.q).take m)).b + p.q.b) := by
            have := sum_next (L.map Pr.q) m hlt3
            rw [hpu] at this
            rw [this]
            rfl
          generalize (sum ((L.map Pr.q).take m)).b = S at *
          have hm3 : (m : Int) ≤ 3 := by omega
          clear hrow hc hp hpu hbk' hbq
          go_wp2_with fail
          exact ⟨⟨m + 1, by omega, by go_num, by rw [HF.out], HBQ.out.alloc HBQ.out.size _⟩, by simp [intOf]; omega⟩
        · have hE : (L.map Pr.q).take m = L.map Pr.q := List.take_of_length_le (by rw [List.length_map]; have := HN.out; omega)
          rw [hE] at s1 s2 s3 s4 s5 s6 ⊢
          have hbk := blk_below HK1.out hbq
          have hbx := blk_below HX1.out hbq
          have d0 : wr.cell? ⟨r, 1, none⟩ = some (i64 t.b) := blk_cell hbk 1
          have x0 : wr.cell? ⟨w.heap.size, 1, none⟩ = some (i64 q.b) := blk_cell hbx 1
          have hm3 : (m : Int) ≤ 3 := by omega
          obtain ⟨j1, j2, j3⟩ := HJ.out
          generalize hS : (sum (L.map Pr.q)).b = S at *
          have HS : Hid ((sum (L.map Pr.q)).b = S) := hS
          clear hbk hbx hbq hE
          by_cases hg : t.b - S < q.b
          · omega
          · have HJ2 : Hid ((0 < 2 → (sum (L.map Pr.q)).a + q.a ≤ t.a) ∧ (1 < 2 → (sum (L.map Pr.q)).b + q.b ≤ t.b) ∧ (2 < 2 → (sum (L.map Pr.q)).c + q.c ≤ t.c)) := ⟨by omega, by omega, by omega⟩
            clear j1 j2 j3 hS n1 n2 n3
            go_wp2_with fail
            go_quiet (fail)
            go_wp2_with fail
            exact ⟨⟨2, by omega, by go_num, below_drewN HBQ.out _, HJ2⟩, by simp [intOf]⟩
    · go_wp2_with fail
      go_loopw [8, 45] (fun s i wq => ∃ m : Nat, m ≤ N ∧ i = i64 m ∧ s = i64 (sum ((L.map Pr.q).take m)).c ∧ Below w1.heap.size w1 wq) (fun _ i _ => N - (intOf i).toNat)
      case atStart => exact ⟨0, by omega, rfl, rfl, HBW.out⟩
      case round =>
        obtain ⟨m, hm, rfl, rfl, hbq⟩ := hrel
        obtain ⟨s1, s2, s3, s4, s5, s6⟩ := HQ.out m (by rw [List.length_map]; have := HN.out; omega)
        have HBQ : Hid (Below w1.heap.size w1 wr) := hbq
        by_cases hlt : m < N
        · have hlt2 : m < L.length := by rw [← HN.out]; exact hlt
          have hlt3 : m < (L.map Pr.q).length := by rw [List.length_map]; exact hlt2
          obtain ⟨p, hp⟩ : ∃ p, L[m]? = some p := ⟨_, List.getElem?_eq_getElem hlt2⟩
          have hpu : (L.map Pr.q)[m] = p.q := by
            rw [List.getElem?_eq_getElem hlt2] at hp
            cases hp
            simp
          obtain ⟨ao', cap', hbk', _, hrow⟩ := (HR1.out.below hbq).row
          have hs := (blk_below HK1.out hbq).symm.trans hbk'
          simp only [Option.some.injEq, Obj.cells.injEq, Array.mk.injEq, List.cons.injEq, Value.slice.injEq, true_and, and_true] at hs
          obtain ⟨rfl, rfl⟩ := hs
          obtain ⟨g, rfl, hbg, hgl, _, _, hc⟩ := hrow m p hp
          have c0 : wr.cell? ⟨g, m * 7, none⟩ = some (i64 p.env) := hc 0 (by omega)
          have c1 : wr.cell? ⟨g, m * 7 + 1, none⟩ = some (i64 p.q.a) := hc 1 (by omega)
          have c2 : wr.cell? ⟨g, m * 7 + 2, none⟩ = some (i64 p.q.b) := hc 2 (by omega)
          have c3 : wr.cell? ⟨g, m * 7 + 3, none⟩ = some (i64 p.q.c) := hc 3 (by omega)
          have c4 : wr.cell? ⟨g, m * 7 + 4, none⟩ = some (i64 p.h.a) := hc 4 (by omega)
          have c5 : wr.cell? ⟨g, m * 7 + 5, none⟩ = some (i64 p.h.b) := hc 5 (by omega)
          have c6 : wr.cell? ⟨g, m * 7 + 6, none⟩ = some (i64 p.h.c) := hc 6 (by omega)
          have HX := HU.out _ (List.getElem_mem hlt3)
          rw [hpu] at HX
          unfold In64 at HX
          obtain ⟨x1, x2, x3, x4, x5, x6⟩ := HX
          have HF : Hid ((sum ((L.map Pr.q).take (m + 1))).c = (sum ((L.map Pr.q).take m)).c + p.q.c) := by
            have := sum_next (L.map Pr.q) m hlt3
            rw [hpu] at this
            rw [this]
            rfl
          generalize (sum ((L.map Pr.q).take m)).c = S at *
          have hm3 : (m : Int) ≤ 3 := by omega
          clear hrow hc hp hpu hbk' hbq
          go_wp2_with fail
          exact ⟨⟨m + 1, by omega, by go_num, by rw [HF.out], HBQ.out.alloc HBQ.out.size _⟩, by simp [intOf]; omega⟩
        · have hE : (L.map Pr.q).take m = L.map Pr.q := List.take_of_length_le (by rw [List.length_map]; have := HN.out; omega)
          rw [hE] at s1 s2 s3 s4 s5 s6 ⊢
          have hbk := blk_below HK1.out hbq
          have hbx := blk_below HX1.out hbq
          have d0 : wr.cell? ⟨r, 2, none⟩ = some (i64 t.c) := blk_cell hbk 2
          have x0 : wr.cell? ⟨w.heap.size, 2, none⟩ = some (i64 q.c) := blk_cell hbx 2
          have hm3 : (m : Int) ≤ 3 := by omega
          obtain ⟨j1, j2, j3⟩ := HJ.out
          generalize hS : (sum (L.map Pr.q)).c = S at *
          have HS : Hid ((sum (L.map Pr.q)).c = S) := hS
          clear hbk hbx hbq hE
          by_cases hg : t.c - S < q.c
          · omega
          · have HJ2 : Hid ((0 < 3 → (sum (L.map Pr.q)).a + q.a ≤ t.a) ∧ (1 < 3 → (sum (L.map Pr.q)).b + q.b ≤ t.b) ∧ (2 < 3 → (sum (L.map Pr.q)).c + q.c ≤ t.c)) := ⟨by omega, by omega, by omega⟩
            clear j1 j2 j3 hS n1 n2 n3
            go_wp2_with fail
            go_quiet (fail)
            go_wp2_with fail
            exact ⟨⟨3, by omega, by go_num, below_drewN HBQ.out _, HJ2⟩, by simp [intOf]⟩
    · obtain ⟨ao', cap', hbk, hown, _⟩ := (HR1.out.below HBW.out).row
      have hs := (blk_below HK1.out HBW.out).symm.trans hbk
      simp only [Option.some.injEq, Obj.cells.injEq, Array.mk.injEq, List.cons.injEq, Value.slice.injEq, true_and, and_true] at hs
      obtain ⟨rfl, rfl⟩ := hs
      have hsw := HBW.out.size
      have hs1 := HB1.out.size
      have hlo := HR.out.lo
      obtain ⟨v4, w4, hrun, hown4, hfr4, _⟩ := rapp (V := (wr.alloc (prO ⟨env, q, zT⟩)).drew) (show (wr.alloc (prO ⟨env, q, zT⟩)).drew.ownsRow base 42 7 (.slice ao L.length cap) L.length (pcells L) from hown.alloc _) [⟨env, q, zT⟩] ⟨wr.heap.size, 0, none⟩ 1 (fun j u hu => by rw [World.cell?_drew]; exact World.news_of_block (heap_last wr (prO ⟨env, q, zT⟩)) j u hu) (by have := HLL.out; simp; omega) (by simp; omega)
      obtain ⟨ao4, cap4, rfl, _⟩ := own_slice hown4
      obtain ⟨M, hM⟩ : ∃ M, (L ++ [(⟨env, q, zT⟩ : Pr)]).length = M := ⟨_, rfl⟩
      have hown5 : w4.ownsRow base 42 7 (.slice ao4 M cap4) (L ++ [(⟨env, q, zT⟩ : Pr)]).length (pcells (L ++ [(⟨env, q, zT⟩ : Pr)])) := by rw [← hM]; exact hown4
      rw [hM] at hrun
      rw [← HN.out] at hrun
      have hbx := blk_below HX1.out HBW.out
      have hbk4 : w4.heap[r]? = some (.cells #[i64 t.a, i64 t.b, i64 t.c, .slice ao L.length cap] 33) := hfr4.kept _ _ (blk_alloc hbk _) (by rfl)
      have hbx4 : w4.heap[w.heap.size]? = some (triO q) := hfr4.kept _ _ (blk_alloc hbx _) (by rfl)
      have HRUN : Hid ((Builtin.append_ #[31, 31] 31 #[.slice ao N cap, .slice (some ⟨wr.heap.size, 0, none⟩) 1 1]).run Try.prog (wr.alloc (prO ⟨env, q, zT⟩)).drew = .ok (.slice ao4 M cap4) w4) := hrun
      have HO4 : Hid (w4.ownsRow base 42 7 (.slice ao4 M cap4) (L ++ [(⟨env, q, zT⟩ : Pr)]).length (pcells (L ++ [(⟨env, q, zT⟩ : Pr)]))) := hown5
      have HBK4 : Hid (w4.heap[r]? = some (.cells #[i64 t.a, i64 t.b, i64 t.c, .slice ao L.length cap] 33)) := hbk4
      have HF4 : Hid (Fr base [33, 42] w w4) := (Fr.of_below [33, 42] (HB1.out.trans (HBW.out.mono hs1)) (by omega)).trans ((Fr.of_below [33, 42] (Below.drew ((Below.refl _ _).alloc (Nat.le_refl _) (prO ⟨env, q, zT⟩))) (by omega)).trans (hfr4.mono (fun o ho => by
        cases o with
        | cells C t fr => simp [keeps] at ho ⊢; exact ho.2
        | _ => rfl)))
      have hrw : r < wr.heap.size := blk_lt hbk
      have hxw : w.heap.size < wr.heap.size := blk_lt hbx
      have x0 : wr.cell? ⟨w.heap.size, 0, none⟩ = some (i64 q.a) := blk_cell hbx 0
      have x1 : wr.cell? ⟨w.heap.size, 1, none⟩ = some (i64 q.b) := blk_cell hbx 1
      have x2 : wr.cell? ⟨w.heap.size, 2, none⟩ = some (i64 q.c) := blk_cell hbx 2
      have y0 : w4.cell? ⟨w.heap.size, 0, none⟩ = some (i64 q.a) := blk_cell hbx4 0
      have y1 : w4.cell? ⟨w.heap.size, 1, none⟩ = some (i64 q.b) := blk_cell hbx4 1
      have y2 : w4.cell? ⟨w.heap.size, 2, none⟩ = some (i64 q.c) := blk_cell hbx4 2
      have y3 : w4.cell? ⟨r, 3, none⟩ = some (.slice ao N cap) := by rw [HN.out]; exact blk_cell hbk4 3
      have yf : w4.frozen? ⟨r, 3, none⟩ = false := blk_frozen hbk4 3
      clear hbk hown hrun hown4 hfr4 hM hown5 hbx hbk4 hbx4 n1 n2 n3
      go_wp2_with fail
      go_region_law
        ((refine step_app_run ?_ (.tmp 72) (.tmp 76) 31 ?_ _ _ ?_ ?_ 31 ?_ _ _ HRUN.out ?_; rfl; rfl; rfl; rfl; rfl))
      all_goals go_wp2_with fail
      all_goals go_ret
      all_goals exact ⟨rfl, ⟨HR.out.lo, _, heap_setCell_same w4 r 3 _ 33 _ HBK4.out, own_keep HO4.out (fun k' C hC => by rw [heap_setCell_other _ _ _ _ (fun e => by have hC' := hC; rw [show k' = r from e, HBK4.out] at hC'; simp at hC')]; exact hC)⟩, HF4.out.trans (Fr.of_touch ((Touch.refl r w4).setCell rfl _) HBK4.out (by rfl) HR.out.lo)⟩
end Go.Proofs.Ytfnhiefngbcnaaa
