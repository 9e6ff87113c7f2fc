/- No statement here. -/
import Derived.Test.YtnknhencobhjdaaMQtRClose
import Derived.Test.YtnknhencobhjdaaMQtNilWalk
set_option maxRecDepth 100000
namespace Go.Proofs.Ytnknhencobhjdaa.Qt
open Go.ChangeShapes Go.WideShapes Go.ChangeAt Go.RowKit Go.Deep
set_option maxHeartbeats 1000000 in
theorem ropen_bad (w : World) (rv : Value) (env : Int) (q : T) (h : env < 1 ∨ 3 < env ∨ q.a < 0 ∨ q.b < 0 ∨ q.c < 0) :
    Calls Try.prog 32 #[rv, i64 env, q.v] w fun e w' => e = .returned (i64 1) ∧ Below w.heap.size w w' := by
  have HB : Hid (∀ o, Below w.heap.size w (w.alloc o)) := fun o => (Below.refl _ _).alloc (Nat.le_refl _) o
  have hcs : (env < 1) ∨ (¬ env < 1 ∧ 3 < env) ∨ (¬ env < 1 ∧ ¬ 3 < env ∧ q.a < 0) ∨ (¬ env < 1 ∧ ¬ 3 < env ∧ ¬ q.a < 0 ∧ q.b < 0) ∨ (¬ env < 1 ∧ ¬ 3 < env ∧ ¬ q.a < 0 ∧ ¬ q.b < 0 ∧ q.c < 0) := by omega
  clear h
  rcases hcs with h1 | ⟨h1, h2⟩ | ⟨h1, h2, h3⟩ | ⟨h1, h2, h3, h4⟩ | ⟨h1, h2, h3, h4, h5⟩
  all_goals
    go_enter Try.func32, Try.ntmps32
    go_wp2_with fail
    go_ret
    exact ⟨rfl, HB.out _⟩
set_option maxHeartbeats 1000000 in
theorem ropen_same {w : World} {base r : Nat} {t : T} {L : List Pr} (h : Rb w base r t L) (hl : L.length ≤ 3) (env : Int) (q : T) (h1 : ¬ env < 1) (h2 : ¬ 3 < env) (h3 : ¬ q.a < 0) (h4 : ¬ q.b < 0) (h5 : ¬ q.c < 0) (k : Nat) (hi : idx L env = k) :
    Calls Try.prog 32 #[.pointer (some ⟨r, 0, none⟩), i64 env, q.v] w fun e w' => e = .returned (i64 8) ∧ Below w.heap.size w w' := by
  have HB : Hid (∀ o, Below w.heap.size w (w.alloc o)) := fun o => (Below.refl _ _).alloc (Nat.le_refl _) o
  have HR : Hid (Rb w base r t L) := h
  have HI : Hid (idx L env = k) := hi
  have HLL : Hid (L.length ≤ 3) := hl
  clear h hi hl
  go_enter Try.func32, Try.ntmps32
  go_wp2_with fail
  refine (rat_ok (HR.out.below (HB.out _)) HLL.out env).mono ?_
  rintro e w1 ⟨rfl, hb1⟩
  rw [HI.out]
  have HB1 : Hid (Below w.heap.size w w1) := (HB.out _).trans (hb1.mono (by simp))
  clear hb1
  go_wp2_with fail
  go_ret
  exact ⟨rfl, HB1.out⟩
theorem sum_next (xs : List T) (k : Nat) (h : k < xs.length) : sum (xs.take (k + 1)) = add (sum (xs.take k)) xs[k] := by
  rw [List.take_succ_eq_append_getElem h, sum_app]
  simp [sum, add, zT]
def In64 (t : T) : Prop := 0 ≤ t.a ∧ t.a ≤ 64 ∧ 0 ≤ t.b ∧ t.b ≤ 64 ∧ 0 ≤ t.c ∧ t.c ≤ 64
theorem sum_bd {xs : List T} (h : ∀ u ∈ xs, In64 u) : ∀ k, k ≤ xs.length → 0 ≤ (sum (xs.take k)).a ∧ (sum (xs.take k)).a ≤ 64 * k ∧ 0 ≤ (sum (xs.take k)).b ∧ (sum (xs.take k)).b ≤ 64 * k ∧ 0 ≤ (sum (xs.take k)).c ∧ (sum (xs.take k)).c ≤ 64 * k
  | 0, _ => by simp [sum, zT]
  | k + 1, hk => by
    have ih := sum_bd h k (by omega)
    have hu := h xs[k] (List.getElem_mem (by omega))
    rw [sum_next xs k (by omega)]
    unfold In64 at hu
    simp only [add]
    omega
set_option maxHeartbeats 4000000 in
theorem ropen_full {w : World} {base r : Nat} {t : T} {L : List Pr} (h : Rb w base r t L) (hl : L.length ≤ 3) (ht : In64 t) (hq : ∀ u ∈ L.map Pr.q, In64 u) (env : Int) (q : T) (h1 : ¬ env < 1) (h2 : ¬ 3 < env) (h3 : ¬ q.a < 0) (h4 : ¬ q.b < 0) (h5 : ¬ q.c < 0) (hqa : q.a ≤ 9223372036854775807) (hqb : q.b ≤ 9223372036854775807) (hqc : q.c ≤ 9223372036854775807) (hi : idx L env = -1) (hno : ¬ ((sum (L.map Pr.q)).a + q.a ≤ t.a ∧ (sum (L.map Pr.q)).b + q.b ≤ t.b ∧ (sum (L.map Pr.q)).c + q.c ≤ t.c)) :
    Calls Try.prog 32 #[.pointer (some ⟨r, 0, none⟩), i64 env, q.v] w fun e w' => e = .returned (i64 5) ∧ Below w.heap.size w w' := by
  have HNO : Hid (¬ ((sum (L.map Pr.q)).a + q.a ≤ t.a ∧ (sum (L.map Pr.q)).b + q.b ≤ t.b ∧ (sum (L.map Pr.q)).c + q.c ≤ t.c)) := hno
  clear hno
  have HB0 : Hid (∀ o, Below w.heap.size w (w.alloc o)) := fun o => (Below.refl _ _).alloc (Nat.le_refl _) o
  have HR : Hid (Rb w base r t L) := h
  have HI : Hid (idx L env = -1) := hi
  have HLL : Hid (L.length ≤ 3) := hl
  have HQ : Hid (∀ k, k ≤ (L.map Pr.q).length → 0 ≤ (sum ((L.map Pr.q).take k)).a ∧ (sum ((L.map Pr.q).take k)).a ≤ 64 * k ∧ 0 ≤ (sum ((L.map Pr.q).take k)).b ∧ (sum ((L.map Pr.q).take k)).b ≤ 64 * k ∧ 0 ≤ (sum ((L.map Pr.q).take k)).c ∧ (sum ((L.map Pr.q).take k)).c ≤ 64 * k) := sum_bd hq
  have HU : Hid (∀ u ∈ L.map Pr.q, In64 u) := hq
  have hrl := h.lt
  unfold In64 at ht
  obtain ⟨ta0, ta1, tb0, tb1, tc0, tc1⟩ := ht
  clear h hi hl hq
  go_enter Try.func32, Try.ntmps32
  go_wp2_with fail
  refine (rat_ok (HR.out.below (HB0.out _)) HLL.out env).mono ?_
  rintro e w1 ⟨rfl, hb1⟩
  rw [HI.out]
  have hB1 : Below w.heap.size w w1 := (HB0.out _).trans (hb1.mono (by simp))
  have hx1 : w1.heap[w.heap.size]? = some (triO q) := bkb (hlx w _) hb1
  have HX1 : Hid (w1.heap[w.heap.size]? = some (triO q)) := hx1
  have HB1 : Hid (Below w.heap.size w w1) := hB1
  have HR1 : Hid (Rb w1 base r t L) := HR.out.below hB1
  obtain ⟨ao, cap, hbk, _, _⟩ := HR1.out.row
  have HK1 : Hid (w1.heap[r]? = some (.cells #[i64 t.a, i64 t.b, i64 t.c, .slice ao L.length cap] 126)) := hbk
  obtain ⟨N, hN⟩ : ∃ N, N = L.length := ⟨_, rfl⟩
  have HN : Hid (N = L.length) := hN
  have hN3 : (N : Int) ≤ 3 := by have := HLL.out; omega
  have hx1l := blk_lt hx1
  clear hb1 hB1 hx1 hbk hN
  go_wp2_with fail
  go_loopw [7] (fun i wr => ∃ j : Nat, j ≤ 3 ∧ i = i64 j ∧ Below w1.heap.size w1 wr ∧ Hid ((0 < j → (sum (L.map Pr.q)).a + q.a ≤ t.a) ∧ (1 < j → (sum (L.map Pr.q)).b + q.b ≤ t.b) ∧ (2 < j → (sum (L.map Pr.q)).c + q.c ≤ t.c))) (fun i _ => 3 - (intOf i).toNat)
  case atStart => exact ⟨0, by omega, rfl, Below.refl _ _, by constructor; omega; constructor <;> omega⟩
  case round =>
    obtain ⟨j, hj, rfl, hbw, HJ⟩ := hrel
    have HBW : Hid (Below w1.heap.size w1 wr) := hbw
    have hbk := bkb HK1.out hbw
    have d3 : wr.cell? ⟨r, 3, none⟩ = some (.slice ao N cap) := by rw [HN.out]; exact bkc hbk 3
    clear hbw hbk
    obtain rfl | rfl | rfl | rfl : j = 0 ∨ j = 1 ∨ j = 2 ∨ j = 3 := by omega
    · go_wp2_with fail
      go_loopw [8, 45] (fun s i wq => ∃ m : Nat, m ≤ N ∧ i = i64 m ∧ s = i64 (sum ((L.map Pr.q).take m)).a ∧ Below w1.heap.size w1 wq) (fun _ i _ => N - (intOf i).toNat)
      case atStart => exact ⟨0, by omega, rfl, rfl, HBW.out⟩
      case round =>
        obtain ⟨m, hm, rfl, rfl, hbq⟩ := hrel
        obtain ⟨s1, s2, s3, s4, s5, s6⟩ := HQ.out m (by rw [List.length_map]; have := HN.out; omega)
        have HBQ : Hid (Below w1.heap.size w1 wr) := hbq
        by_cases hlt : m < N
        · have hlt2 : m < L.length := by rw [← HN.out]; exact hlt
          have hlt3 : m < (L.map Pr.q).length := by rw [List.length_map]; exact hlt2
          obtain ⟨p, hp⟩ : ∃ p, L[m]? = some p := ⟨_, List.getElem?_eq_getElem hlt2⟩
          have hpu : (L.map Pr.q)[m] = p.q := by
            rw [List.getElem?_eq_getElem hlt2] at hp
            cases hp
            simp
          obtain ⟨ao', cap', hbk', _, hrow⟩ := (HR1.out.below hbq).row
          have hs := (bkb HK1.out hbq).symm.trans hbk'
          simp only [Option.some.injEq, Obj.cells.injEq, Array.mk.injEq, List.cons.injEq, Value.slice.injEq, true_and, and_true] at hs
          obtain ⟨rfl, rfl⟩ := hs
          obtain ⟨g, rfl, hbg, hgl, _, _, hc⟩ := hrow m p hp
          have c0 : wr.cell? ⟨g, m * 7, none⟩ = some (i64 p.env) := hc 0 (by omega)
          have c1 : wr.cell? ⟨g, m * 7 + 1, none⟩ = some (i64 p.q.a) := hc 1 (by omega)
          have c2 : wr.cell? ⟨g, m * 7 + 2, none⟩ = some (i64 p.q.b) := hc 2 (by omega)
          have c3 : wr.cell? ⟨g, m * 7 + 3, none⟩ = some (i64 p.q.c) := hc 3 (by omega)
          have c4 : wr.cell? ⟨g, m * 7 + 4, none⟩ = some (i64 p.h.a) := hc 4 (by omega)
          have c5 : wr.cell? ⟨g, m * 7 + 5, none⟩ = some (i64 p.h.b) := hc 5 (by omega)
          have c6 : wr.cell? ⟨g, m * 7 + 6, none⟩ = some (i64 p.h.c) := hc 6 (by omega)
          have HX := HU.out _ (List.getElem_mem hlt3)
          rw [hpu] at HX
          unfold In64 at HX
          obtain ⟨x1, x2, x3, x4, x5, x6⟩ := HX
          have HF : Hid ((sum ((L.map Pr.q).take (m + 1))).a = (sum ((L.map Pr.q).take m)).a + p.q.a) := by
            have := sum_next (L.map Pr.q) m hlt3
            rw [hpu] at this
            rw [this]
            rfl
          generalize (sum ((L.map Pr.q).take m)).a = S at *
          have hm3 : (m : Int) ≤ 3 := by omega
          clear hrow hc hp hpu hbk' hbq
          go_wp2_with fail
          exact ⟨⟨m + 1, by omega, by go_num, by rw [HF.out], HBQ.out.alloc HBQ.out.size _⟩, by simp [intOf]; omega⟩
        · have hE : (L.map Pr.q).take m = L.map Pr.q := List.take_of_length_le (by rw [List.length_map]; have := HN.out; omega)
          rw [hE] at s1 s2 s3 s4 s5 s6 ⊢
          have hbk := bkb HK1.out hbq
          have hbx := bkb HX1.out hbq
          have d0 : wr.cell? ⟨r, 0, none⟩ = some (i64 t.a) := bkc hbk 0
          have x0 : wr.cell? ⟨w.heap.size, 0, none⟩ = some (i64 q.a) := bkc hbx 0
          have hm3 : (m : Int) ≤ 3 := by omega
          obtain ⟨j1, j2, j3⟩ := HJ.out
          generalize hS : (sum (L.map Pr.q)).a = S at *
          have HS : Hid ((sum (L.map Pr.q)).a = S) := hS
          clear hbk hbx hbq hE
          by_cases hg : t.a - S < q.a
          · clear j1 j2 j3 hS
            go_wp2_with fail
            go_quiet (fail)
            go_wp2_with fail
            go_ret
            exact ⟨rfl, HB1.out.trans (below_drewN (HBQ.out.mono HB1.out.size) _)⟩
          · have HJ2 : Hid ((0 < 1 → (sum (L.map Pr.q)).a + q.a ≤ t.a) ∧ (1 < 1 → (sum (L.map Pr.q)).b + q.b ≤ t.b) ∧ (2 < 1 → (sum (L.map Pr.q)).c + q.c ≤ t.c)) := ⟨by omega, by omega, by omega⟩
            clear j1 j2 j3 hS
            go_wp2_with fail
            go_quiet (fail)
            go_wp2_with fail
            exact ⟨⟨1, by omega, by go_num, below_drewN HBQ.out _, HJ2⟩, by simp [intOf]⟩
    · go_wp2_with fail
      go_loopw [8, 45] (fun s i wq => ∃ m : Nat, m ≤ N ∧ i = i64 m ∧ s = i64 (sum ((L.map Pr.q).take m)).b ∧ Below w1.heap.size w1 wq) (fun _ i _ => N - (intOf i).toNat)
      case atStart => exact ⟨0, by omega, rfl, rfl, HBW.out⟩
      case round =>
        obtain ⟨m, hm, rfl, rfl, hbq⟩ := hrel
        obtain ⟨s1, s2, s3, s4, s5, s6⟩ := HQ.out m (by rw [List.length_map]; have := HN.out; omega)
        have HBQ : Hid (Below w1.heap.size w1 wr) := hbq
        by_cases hlt : m < N
        · have hlt2 : m < L.length := by rw [← HN.out]; exact hlt
          have hlt3 : m < (L.map Pr.q).length := by rw [List.length_map]; exact hlt2
          obtain ⟨p, hp⟩ : ∃ p, L[m]? = some p := ⟨_, List.getElem?_eq_getElem hlt2⟩
          have hpu : (L.map Pr.q)[m] = p.q := by
            rw [List.getElem?_eq_getElem hlt2] at hp
            cases hp
            simp
          obtain ⟨ao', cap', hbk', _, hrow⟩ := (HR1.out.below hbq).row
          have hs := (bkb HK1.out hbq).symm.trans hbk'
          simp only [Option.some.injEq, Obj.cells.injEq, Array.mk.injEq, List.cons.injEq, Value.slice.injEq, true_and, and_true] at hs
          obtain ⟨rfl, rfl⟩ := hs
          obtain ⟨g, rfl, hbg, hgl, _, _, hc⟩ := hrow m p hp
          have c0 : wr.cell? ⟨g, m * 7, none⟩ = some (i64 p.env) := hc 0 (by omega)
          have c1 : wr.cell? ⟨g, m * 7 + 1, none⟩ = some (i64 p.q.a) := hc 1 (by omega)
          have c2 : wr.cell? ⟨g, m * 7 + 2, none⟩ = some (i64 p.q.b) := hc 2 (by omega)
          have c3 : wr.cell? ⟨g, m * 7 + 3, none⟩ = some (i64 p.q.c) := hc 3 (by omega)
          have c4 : wr.cell? ⟨g, m * 7 + 4, none⟩ = some (i64 p.h.a) := hc 4 (by omega)
          have c5 : wr.cell? ⟨g, m * 7 + 5, none⟩ = some (i64 p.h.b) := hc 5 (by omega)
          have c6 : wr.cell? ⟨g, m * 7 + 6, none⟩ = some (i64 p.h.c) := hc 6 (by omega)
          have HX := HU.out _ (List.getElem_mem hlt3)
          rw [hpu] at HX
          unfold In64 at HX
          obtain ⟨x1, x2, x3, x4, x5, x6⟩ := HX
          have HF : Hid ((sum ((L.map Pr.q).take (m + 1))).b = (sum ((L.map Pr.q).take m)).b + p.q.b) := by
            have := sum_next (L.map Pr.q) m hlt3
            rw [hpu] at this
            rw [this]
            rfl
          generalize (sum ((L.map Pr.q).take m)).b = S at *
          have hm3 : (m : Int) ≤ 3 := by omega
          clear hrow hc hp hpu hbk' hbq
          go_wp2_with fail
          exact ⟨⟨m + 1, by omega, by go_num, by rw [HF.out], HBQ.out.alloc HBQ.out.size _⟩, by simp [intOf]; omega⟩
        · have hE : (L.map Pr.q).take m = L.map Pr.q := List.take_of_length_le (by rw [List.length_map]; have := HN.out; omega)
          rw [hE] at s1 s2 s3 s4 s5 s6 ⊢
          have hbk := bkb HK1.out hbq
          have hbx := bkb HX1.out hbq
          have d0 : wr.cell? ⟨r, 1, none⟩ = some (i64 t.b) := bkc hbk 1
          have x0 : wr.cell? ⟨w.heap.size, 1, none⟩ = some (i64 q.b) := bkc hbx 1
          have hm3 : (m : Int) ≤ 3 := by omega
          obtain ⟨j1, j2, j3⟩ := HJ.out
          generalize hS : (sum (L.map Pr.q)).b = S at *
          have HS : Hid ((sum (L.map Pr.q)).b = S) := hS
          clear hbk hbx hbq hE
          by_cases hg : t.b - S < q.b
          · clear j1 j2 j3 hS
            go_wp2_with fail
            go_quiet (fail)
            go_wp2_with fail
            go_ret
            exact ⟨rfl, HB1.out.trans (below_drewN (HBQ.out.mono HB1.out.size) _)⟩
          · have HJ2 : Hid ((0 < 2 → (sum (L.map Pr.q)).a + q.a ≤ t.a) ∧ (1 < 2 → (sum (L.map Pr.q)).b + q.b ≤ t.b) ∧ (2 < 2 → (sum (L.map Pr.q)).c + q.c ≤ t.c)) := ⟨by omega, by omega, by omega⟩
            clear j1 j2 j3 hS
            go_wp2_with fail
            go_quiet (fail)
            go_wp2_with fail
            exact ⟨⟨2, by omega, by go_num, below_drewN HBQ.out _, HJ2⟩, by simp [intOf]⟩
    · go_wp2_with fail
      go_loopw [8, 45] (fun s i wq => ∃ m : Nat, m ≤ N ∧ i = i64 m ∧ s = i64 (sum ((L.map Pr.q).take m)).c ∧ Below w1.heap.size w1 wq) (fun _ i _ => N - (intOf i).toNat)
      case atStart => exact ⟨0, by omega, rfl, rfl, HBW.out⟩
      case round =>
        obtain ⟨m, hm, rfl, rfl, hbq⟩ := hrel
        obtain ⟨s1, s2, s3, s4, s5, s6⟩ := HQ.out m (by rw [List.length_map]; have := HN.out; omega)
        have HBQ : Hid (Below w1.heap.size w1 wr) := hbq
        by_cases hlt : m < N
        · have hlt2 : m < L.length := by rw [← HN.out]; exact hlt
          have hlt3 : m < (L.map Pr.q).length := by rw [List.length_map]; exact hlt2
          obtain ⟨p, hp⟩ : ∃ p, L[m]? = some p := ⟨_, List.getElem?_eq_getElem hlt2⟩
          have hpu : (L.map Pr.q)[m] = p.q := by
            rw [List.getElem?_eq_getElem hlt2] at hp
            cases hp
            simp
          obtain ⟨ao', cap', hbk', _, hrow⟩ := (HR1.out.below hbq).row
          have hs := (bkb HK1.out hbq).symm.trans hbk'
          simp only [Option.some.injEq, Obj.cells.injEq, Array.mk.injEq, List.cons.injEq, Value.slice.injEq, true_and, and_true] at hs
          obtain ⟨rfl, rfl⟩ := hs
          obtain ⟨g, rfl, hbg, hgl, _, _, hc⟩ := hrow m p hp
          have c0 : wr.cell? ⟨g, m * 7, none⟩ = some (i64 p.env) := hc 0 (by omega)
          have c1 : wr.cell? ⟨g, m * 7 + 1, none⟩ = some (i64 p.q.a) := hc 1 (by omega)
          have c2 : wr.cell? ⟨g, m * 7 + 2, none⟩ = some (i64 p.q.b) := hc 2 (by omega)
          have c3 : wr.cell? ⟨g, m * 7 + 3, none⟩ = some (i64 p.q.c) := hc 3 (by omega)
          have c4 : wr.cell? ⟨g, m * 7 + 4, none⟩ = some (i64 p.h.a) := hc 4 (by omega)
          have c5 : wr.cell? ⟨g, m * 7 + 5, none⟩ = some (i64 p.h.b) := hc 5 (by omega)
          have c6 : wr.cell? ⟨g, m * 7 + 6, none⟩ = some (i64 p.h.c) := hc 6 (by omega)
          have HX := HU.out _ (List.getElem_mem hlt3)
          rw [hpu] at HX
          unfold In64 at HX
          obtain ⟨x1, x2, x3, x4, x5, x6⟩ := HX
          have HF : Hid ((sum ((L.map Pr.q).take (m + 1))).c = (sum ((L.map Pr.q).take m)).c + p.q.c) := by
            have := sum_next (L.map Pr.q) m hlt3
            rw [hpu] at this
            rw [this]
            rfl
          generalize (sum ((L.map Pr.q).take m)).c = S at *
          have hm3 : (m : Int) ≤ 3 := by omega
          clear hrow hc hp hpu hbk' hbq
          go_wp2_with fail
          exact ⟨⟨m + 1, by omega, by go_num, by rw [HF.out], HBQ.out.alloc HBQ.out.size _⟩, by simp [intOf]; omega⟩
        · have hE : (L.map Pr.q).take m = L.map Pr.q := List.take_of_length_le (by rw [List.length_map]; have := HN.out; omega)
          rw [hE] at s1 s2 s3 s4 s5 s6 ⊢
          have hbk := bkb HK1.out hbq
          have hbx := bkb HX1.out hbq
          have d0 : wr.cell? ⟨r, 2, none⟩ = some (i64 t.c) := bkc hbk 2
          have x0 : wr.cell? ⟨w.heap.size, 2, none⟩ = some (i64 q.c) := bkc hbx 2
          have hm3 : (m : Int) ≤ 3 := by omega
          obtain ⟨j1, j2, j3⟩ := HJ.out
          generalize hS : (sum (L.map Pr.q)).c = S at *
          have HS : Hid ((sum (L.map Pr.q)).c = S) := hS
          clear hbk hbx hbq hE
          by_cases hg : t.c - S < q.c
          · clear j1 j2 j3 hS
            go_wp2_with fail
            go_quiet (fail)
            go_wp2_with fail
            go_ret
            exact ⟨rfl, HB1.out.trans (below_drewN (HBQ.out.mono HB1.out.size) _)⟩
          · have HJ2 : Hid ((0 < 3 → (sum (L.map Pr.q)).a + q.a ≤ t.a) ∧ (1 < 3 → (sum (L.map Pr.q)).b + q.b ≤ t.b) ∧ (2 < 3 → (sum (L.map Pr.q)).c + q.c ≤ t.c)) := ⟨by omega, by omega, by omega⟩
            clear j1 j2 j3 hS
            go_wp2_with fail
            go_quiet (fail)
            go_wp2_with fail
            exact ⟨⟨3, by omega, by go_num, below_drewN HBQ.out _, HJ2⟩, by simp [intOf]⟩
    · exfalso
      obtain ⟨j1, j2, j3⟩ := HJ.out
      exact HNO.out ⟨j1 (by omega), j2 (by omega), j3 (by omega)⟩
end Go.Proofs.Ytnknhencobhjdaa.Qt
namespace Go.Proofs.Ytnknhencobhjdaa.Qt
open Go.ChangeShapes Go.WideShapes Go.ChangeAt Go.RowKit Go.Deep
attribute [local go_sem ↓] Go.wp_at_zero Go.wp_at_succ
set_option maxHeartbeats 4000000 in
theorem ropen_in {w : World} {base r : Nat} {t : T} {L : List Pr} (h : Rb w base r t L) (hl : L.length ≤ 3) (ht : In64 t) (hq : ∀ u ∈ L.map Pr.q, In64 u) (env : Int) (q : T) (h1 : ¬ env < 1) (h2 : ¬ 3 < env) (h3 : ¬ q.a < 0) (h4 : ¬ q.b < 0) (h5 : ¬ q.c < 0) (hqa : q.a ≤ 9223372036854775807) (hqb : q.b ≤ 9223372036854775807) (hqc : q.c ≤ 9223372036854775807) (hi : idx L env = -1) (hno : (sum (L.map Pr.q)).a + q.a ≤ t.a ∧ (sum (L.map Pr.q)).b + q.b ≤ t.b ∧ (sum (L.map Pr.q)).c + q.c ≤ t.c) :
    Calls Try.prog 32 #[.pointer (some ⟨r, 0, none⟩), i64 env, q.v] w fun e w' => e = .returned (i64 0) ∧ Rb w' base r t (L ++ [(⟨env, q, zT⟩ : Pr)]) ∧ Fr base [126, 128] w w' := by
  obtain ⟨n1, n2, n3⟩ := hno
  have HB0 : Hid (∀ o, Below w.heap.size w (w.alloc o)) := fun o => (Below.refl _ _).alloc (Nat.le_refl _) o
  have HR : Hid (Rb w base r t L) := h
  have HI : Hid (idx L env = -1) := hi
  have HLL : Hid (L.length ≤ 3) := hl
  have HQ : Hid (∀ k, k ≤ (L.map Pr.q).length → 0 ≤ (sum ((L.map Pr.q).take k)).a ∧ (sum ((L.map Pr.q).take k)).a ≤ 64 * k ∧ 0 ≤ (sum ((L.map Pr.q).take k)).b ∧ (sum ((L.map Pr.q).take k)).b ≤ 64 * k ∧ 0 ≤ (sum ((L.map Pr.q).take k)).c ∧ (sum ((L.map Pr.q).take k)).c ≤ 64 * k) := sum_bd hq
  have HU : Hid (∀ u ∈ L.map Pr.q, In64 u) := hq
  have hrl := h.lt
  unfold In64 at ht
  obtain ⟨ta0, ta1, tb0, tb1, tc0, tc1⟩ := ht
  clear h hi hl hq
  go_enter Try.func32, Try.ntmps32
  go_wp2_with fail
  refine (rat_ok (HR.out.below (HB0.out _)) HLL.out env).mono ?_
  rintro e w1 ⟨rfl, hb1⟩
  rw [HI.out]
  have hB1 : Below w.heap.size w w1 := (HB0.out _).trans (hb1.mono (by simp))
  have hx1 : w1.heap[w.heap.size]? = some (triO q) := bkb (hlx w _) hb1
  have HX1 : Hid (w1.heap[w.heap.size]? = some (triO q)) := hx1
  have HB1 : Hid (Below w.heap.size w w1) := hB1
  have HR1 : Hid (Rb w1 base r t L) := HR.out.below hB1
  obtain ⟨ao, cap, hbk, _, _⟩ := HR1.out.row
  have HK1 : Hid (w1.heap[r]? = some (.cells #[i64 t.a, i64 t.b, i64 t.c, .slice ao L.length cap] 126)) := hbk
  obtain ⟨N, hN⟩ : ∃ N, N = L.length := ⟨_, rfl⟩
  have HN : Hid (N = L.length) := hN
  have hN3 : (N : Int) ≤ 3 := by have := HLL.out; omega
  have hx1l := blk_lt hx1
  clear hb1 hB1 hx1 hbk hN
  go_wp2_with fail
  go_loopw [7] (fun i wr => ∃ j : Nat, j ≤ 3 ∧ i = i64 j ∧ Below w1.heap.size w1 wr ∧ Hid ((0 < j → (sum (L.map Pr.q)).a + q.a ≤ t.a) ∧ (1 < j → (sum (L.map Pr.q)).b + q.b ≤ t.b) ∧ (2 < j → (sum (L.map Pr.q)).c + q.c ≤ t.c))) (fun i _ => 3 - (intOf i).toNat)
  case atStart => exact ⟨0, by omega, rfl, Below.refl _ _, by constructor; omega; constructor <;> omega⟩
  case round =>
    obtain ⟨j, hj, rfl, hbw, HJ⟩ := hrel
    have HBW : Hid (Below w1.heap.size w1 wr) := hbw
    have hbk := bkb HK1.out hbw
    have d3 : wr.cell? ⟨r, 3, none⟩ = some (.slice ao N cap) := by rw [HN.out]; exact bkc hbk 3
    clear hbw hbk
    obtain rfl | rfl | rfl | rfl : j = 0 ∨ j = 1 ∨ j = 2 ∨ j = 3 := by omega
    · go_wp2_with fail
      go_loopw [8, 45] (fun s i wq => ∃ m : Nat, m ≤ N ∧ i = i64 m ∧ s = i64 (sum ((L.map Pr.q).take m)).a ∧ Below w1.heap.size w1 wq) (fun _ i _ => N - (intOf i).toNat)
      case atStart => exact ⟨0, by omega, rfl, rfl, HBW.out⟩
      case round =>
        obtain ⟨m, hm, rfl, rfl, hbq⟩ := hrel
        obtain ⟨s1, s2, s3, s4, s5, s6⟩ := HQ.out m (by rw [List.length_map]; have := HN.out; omega)
        have HBQ : Hid (Below w1.heap.size w1 wr) := hbq
        by_cases hlt : m < N
        · have hlt2 : m < L.length := by rw [← HN.out]; exact hlt
          have hlt3 : m < (L.map Pr.q).length := by rw [List.length_map]; exact hlt2
          obtain ⟨p, hp⟩ : ∃ p, L[m]? = some p := ⟨_, List.getElem?_eq_getElem hlt2⟩
          have hpu : (L.map Pr.q)[m] = p.q := by
            rw [List.getElem?_eq_getElem hlt2] at hp
            cases hp
            simp
          obtain ⟨ao', cap', hbk', _, hrow⟩ := (HR1.out.below hbq).row
          have hs := (bkb HK1.out hbq).symm.trans hbk'
          simp only [Option.some.injEq, Obj.cells.injEq, Array.mk.injEq, List.cons.injEq, Value.slice.injEq, true_and, and_true] at hs
          obtain ⟨rfl, rfl⟩ := hs
          obtain ⟨g, rfl, hbg, hgl, _, _, hc⟩ := hrow m p hp
          have c0 : wr.cell? ⟨g, m * 7, none⟩ = some (i64 p.env) := hc 0 (by omega)
          have c1 : wr.cell? ⟨g, m * 7 + 1, none⟩ = some (i64 p.q.a) := hc 1 (by omega)
          have c2 : wr.cell? ⟨g, m * 7 + 2, none⟩ = some (i64 p.q.b) := hc 2 (by omega)
          have c3 : wr.cell? ⟨g, m * 7 + 3, none⟩ = some (i64 p.q.c) := hc 3 (by omega)
          have c4 : wr.cell? ⟨g, m * 7 + 4, none⟩ = some (i64 p.h.a) := hc 4 (by omega)
          have c5 : wr.cell? ⟨g, m * 7 + 5, none⟩ = some (i64 p.h.b) := hc 5 (by omega)
          have c6 : wr.cell? ⟨g, m * 7 + 6, none⟩ = some (i64 p.h.c) := hc 6 (by omega)
          have HX := HU.out _ (List.getElem_mem hlt3)
          rw [hpu] at HX
          unfold In64 at HX
          obtain ⟨x1, x2, x3, x4, x5, x6⟩ := HX
          have HF : Hid ((sum ((L.map Pr.q).take (m + 1))).a = (sum ((L.map Pr.q).take m)).a + p.q.a) := by
            have := sum_next (L.map Pr.q) m hlt3
            rw [hpu] at this
            rw [this]
            rfl
          generalize (sum ((L.map Pr.q).take m)).a = S at *
          have hm3 : (m : Int) ≤ 3 := by omega
          clear hrow hc hp hpu hbk' hbq
          go_wp2_with fail
          exact ⟨⟨m + 1, by omega, by go_num, by rw [HF.out], HBQ.out.alloc HBQ.out.size _⟩, by simp [intOf]; omega⟩
        · have hE : (L.map Pr.q).take m = L.map Pr.q := List.take_of_length_le (by rw [List.length_map]; have := HN.out; omega)
          rw [hE] at s1 s2 s3 s4 s5 s6 ⊢
          have hbk := bkb HK1.out hbq
          have hbx := bkb HX1.out hbq
          have d0 : wr.cell? ⟨r, 0, none⟩ = some (i64 t.a) := bkc hbk 0
          have x0 : wr.cell? ⟨w.heap.size, 0, none⟩ = some (i64 q.a) := bkc hbx 0
          have hm3 : (m : Int) ≤ 3 := by omega
          obtain ⟨j1, j2, j3⟩ := HJ.out
          generalize hS : (sum (L.map Pr.q)).a = S at *
          have HS : Hid ((sum (L.map Pr.q)).a = S) := hS
          clear hbk hbx hbq hE
          by_cases hg : t.a - S < q.a
          · omega
          · have HJ2 : Hid ((0 < 1 → (sum (L.map Pr.q)).a + q.a ≤ t.a) ∧ (1 < 1 → (sum (L.map Pr.q)).b + q.b ≤ t.b) ∧ (2 < 1 → (sum (L.map Pr.q)).c + q.c ≤ t.c)) := ⟨by omega, by omega, by omega⟩
            clear j1 j2 j3 hS n1 n2 n3
            go_wp2_with fail
            go_quiet (fail)
            go_wp2_with fail
            exact ⟨⟨1, by omega, by go_num, below_drewN HBQ.out _, HJ2⟩, by simp [intOf]⟩
    · go_wp2_with fail
      go_loopw [8, 45] (fun s i wq => ∃ m : Nat, m ≤ N ∧ i = i64 m ∧ s = i64 (sum ((L.map Pr.q).take m)).b ∧ Below w1.heap.size w1 wq) (fun _ i _ => N - (intOf i).toNat)
      case atStart => exact ⟨0, by omega, rfl, rfl, HBW.out⟩
      case round =>
        obtain ⟨m, hm, rfl, rfl, hbq⟩ := hrel
        obtain ⟨s1, s2, s3, s4, s5, s6⟩ := HQ.out m (by rw [List.length_map]; have := HN.out; omega)
        have HBQ : Hid (Below w1.heap.size w1 wr) := hbq
        by_cases hlt : m < N
        · have hlt2 : m < L.length := by rw [← HN.out]; exact hlt
          have hlt3 : m < (L.map Pr.q).length := by rw [List.length_map]; exact hlt2
          obtain ⟨p, hp⟩ : ∃ p, L[m]? = some p := ⟨_, List.getElem?_eq_getElem hlt2⟩
          have hpu : (L.map Pr.q)[m] = p.q := by
            rw [List.getElem?_eq_getElem hlt2] at hp
            cases hp
            simp
          obtain ⟨ao', cap', hbk', _, hrow⟩ := (HR1.out.below hbq).row
          have hs := (bkb HK1.out hbq).symm.trans hbk'
          simp only [Option.some.injEq, Obj.cells.injEq, Array.mk.injEq, List.cons.injEq, Value.slice.injEq, true_and, and_true] at hs
          obtain ⟨rfl, rfl⟩ := hs
          obtain ⟨g, rfl, hbg, hgl, _, _, hc⟩ := hrow m p hp
          have c0 : wr.cell? ⟨g, m * 7, none⟩ = some (i64 p.env) := hc 0 (by omega)
          have c1 : wr.cell? ⟨g, m * 7 + 1, none⟩ = some (i64 p.q.a) := hc 1 (by omega)
          have c2 : wr.cell? ⟨g, m * 7 + 2, none⟩ = some (i64 p.q.b) := hc 2 (by omega)
          have c3 : wr.cell? ⟨g, m * 7 + 3, none⟩ = some (i64 p.q.c) := hc 3 (by omega)
          have c4 : wr.cell? ⟨g, m * 7 + 4, none⟩ = some (i64 p.h.a) := hc 4 (by omega)
          have c5 : wr.cell? ⟨g, m * 7 + 5, none⟩ = some (i64 p.h.b) := hc 5 (by omega)
          have c6 : wr.cell? ⟨g, m * 7 + 6, none⟩ = some (i64 p.h.c) := hc 6 (by omega)
          have HX := HU.out _ (List.getElem_mem hlt3)
          rw [hpu] at HX
          unfold In64 at HX
          obtain ⟨x1, x2, x3, x4, x5, x6⟩ := HX
          have HF : Hid ((sum ((L.map Pr.q).take (m + 1))).b = (sum ((L.map Pr.q).take m)).b + p.q.b) := by
            have := sum_next (L.map Pr.q) m hlt3
            rw [hpu] at this
            rw [this]
            rfl
          generalize (sum ((L.map Pr.q).take m)).b = S at *
          have hm3 : (m : Int) ≤ 3 := by omega
          clear hrow hc hp hpu hbk' hbq
          go_wp2_with fail
          exact ⟨⟨m + 1, by omega, by go_num, by rw [HF.out], HBQ.out.alloc HBQ.out.size _⟩, by simp [intOf]; omega⟩
        · have hE : (L.map Pr.q).take m = L.map Pr.q := List.take_of_length_le (by rw [List.length_map]; have := HN.out; omega)
          rw [hE] at s1 s2 s3 s4 s5 s6 ⊢
          have hbk := bkb HK1.out hbq
          have hbx := bkb HX1.out hbq
          have d0 : wr.cell? ⟨r, 1, none⟩ = some (i64 t.b) := bkc hbk 1
          have x0 : wr.cell? ⟨w.heap.size, 1, none⟩ = some (i64 q.b) := bkc hbx 1
          have hm3 : (m : Int) ≤ 3 := by omega
          obtain ⟨j1, j2, j3⟩ := HJ.out
          generalize hS : (sum (L.map Pr.q)).b = S at *
          have HS : Hid ((sum (L.map Pr.q)).b = S) := hS
          clear hbk hbx hbq hE
          by_cases hg : t.b - S < q.b
          · omega
          · have HJ2 : Hid ((0 < 2 → (sum (L.map Pr.q)).a + q.a ≤ t.a) ∧ (1 < 2 → (sum (L.map Pr.q)).b + q.b ≤ t.b) ∧ (2 < 2 → (sum (L.map Pr.q)).c + q.c ≤ t.c)) := ⟨by omega, by omega, by omega⟩
            clear j1 j2 j3 hS n1 n2 n3
            go_wp2_with fail
            go_quiet (fail)
            go_wp2_with fail
            exact ⟨⟨2, by omega, by go_num, below_drewN HBQ.out _, HJ2⟩, by simp [intOf]⟩
    · go_wp2_with fail
      go_loopw [8, 45] (fun s i wq => ∃ m : Nat, m ≤ N ∧ i = i64 m ∧ s = i64 (sum ((L.map Pr.q).take m)).c ∧ Below w1.heap.size w1 wq) (fun _ i _ => N - (intOf i).toNat)
      case atStart => exact ⟨0, by omega, rfl, rfl, HBW.out⟩
      case round =>
        obtain ⟨m, hm, rfl, rfl, hbq⟩ := hrel
        obtain ⟨s1, s2, s3, s4, s5, s6⟩ := HQ.out m (by rw [List.length_map]; have := HN.out; omega)
        have HBQ : Hid (Below w1.heap.size w1 wr) := hbq
        by_cases hlt : m < N
        · have hlt2 : m < L.length := by rw [← HN.out]; exact hlt
          have hlt3 : m < (L.map Pr.q).length := by rw [List.length_map]; exact hlt2
          obtain ⟨p, hp⟩ : ∃ p, L[m]? = some p := ⟨_, List.getElem?_eq_getElem hlt2⟩
          have hpu : (L.map Pr.q)[m] = p.q := by
            rw [List.getElem?_eq_getElem hlt2] at hp
            cases hp
            simp
          obtain ⟨ao', cap', hbk', _, hrow⟩ := (HR1.out.below hbq).row
          have hs := (bkb HK1.out hbq).symm.trans hbk'
          simp only [Option.some.injEq, Obj.cells.injEq, Array.mk.injEq, List.cons.injEq, Value.slice.injEq, true_and, and_true] at hs
          obtain ⟨rfl, rfl⟩ := hs
          obtain ⟨g, rfl, hbg, hgl, _, _, hc⟩ := hrow m p hp
          have c0 : wr.cell? ⟨g, m * 7, none⟩ = some (i64 p.env) := hc 0 (by omega)
          have c1 : wr.cell? ⟨g, m * 7 + 1, none⟩ = some (i64 p.q.a) := hc 1 (by omega)
          have c2 : wr.cell? ⟨g, m * 7 + 2, none⟩ = some (i64 p.q.b) := hc 2 (by omega)
          have c3 : wr.cell? ⟨g, m * 7 + 3, none⟩ = some (i64 p.q.c) := hc 3 (by omega)
          have c4 : wr.cell? ⟨g, m * 7 + 4, none⟩ = some (i64 p.h.a) := hc 4 (by omega)
          have c5 : wr.cell? ⟨g, m * 7 + 5, none⟩ = some (i64 p.h.b) := hc 5 (by omega)
          have c6 : wr.cell? ⟨g, m * 7 + 6, none⟩ = some (i64 p.h.c) := hc 6 (by omega)
          have HX := HU.out _ (List.getElem_mem hlt3)
          rw [hpu] at HX
          unfold In64 at HX
          obtain ⟨x1, x2, x3, x4, x5, x6⟩ := HX
          have HF : Hid ((sum ((L.map Pr.q).take (m + 1))).c = (sum ((L.map Pr.q).take m)).c + p.q.c) := by
            have := sum_next (L.map Pr.q) m hlt3
            rw [hpu] at this
            rw [this]
            rfl
          generalize (sum ((L.map Pr.q).take m)).c = S at *
          have hm3 : (m : Int) ≤ 3 := by omega
          clear hrow hc hp hpu hbk' hbq
          go_wp2_with fail
          exact ⟨⟨m + 1, by omega, by go_num, by rw [HF.out], HBQ.out.alloc HBQ.out.size _⟩, by simp [intOf]; omega⟩
        · have hE : (L.map Pr.q).take m = L.map Pr.q := List.take_of_length_le (by rw [List.length_map]; have := HN.out; omega)
          rw [hE] at s1 s2 s3 s4 s5 s6 ⊢
          have hbk := bkb HK1.out hbq
          have hbx := bkb HX1.out hbq
          have d0 : wr.cell? ⟨r, 2, none⟩ = some (i64 t.c) := bkc hbk 2
          have x0 : wr.cell? ⟨w.heap.size, 2, none⟩ = some (i64 q.c) := bkc hbx 2
          have hm3 : (m : Int) ≤ 3 := by omega
          obtain ⟨j1, j2, j3⟩ := HJ.out
          generalize hS : (sum (L.map Pr.q)).c = S at *
          have HS : Hid ((sum (L.map Pr.q)).c = S) := hS
          clear hbk hbx hbq hE
          by_cases hg : t.c - S < q.c
          · omega
          · have HJ2 : Hid ((0 < 3 → (sum (L.map Pr.q)).a + q.a ≤ t.a) ∧ (1 < 3 → (sum (L.map Pr.q)).b + q.b ≤ t.b) ∧ (2 < 3 → (sum (L.map Pr.q)).c + q.c ≤ t.c)) := ⟨by omega, by omega, by omega⟩
            clear j1 j2 j3 hS n1 n2 n3
            go_wp2_with fail
            go_quiet (fail)
            go_wp2_with fail
            exact ⟨⟨3, by omega, by go_num, below_drewN HBQ.out _, HJ2⟩, by simp [intOf]⟩
    · obtain ⟨ao', cap', hbk, hown, _⟩ := (HR1.out.below HBW.out).row
      have hs := (bkb HK1.out HBW.out).symm.trans hbk
      simp only [Option.some.injEq, Obj.cells.injEq, Array.mk.injEq, List.cons.injEq, Value.slice.injEq, true_and, and_true] at hs
      obtain ⟨rfl, rfl⟩ := hs
      have hsw := HBW.out.size
      have hs1 := HB1.out.size
      have hlo := HR.out.lo
      obtain ⟨v4, w4, hrun, hown4, hfr4, _⟩ := rapp (V := (wr.alloc (prO ⟨env, q, zT⟩)).drew) (show (wr.alloc (prO ⟨env, q, zT⟩)).drew.ownsRow base 128 7 (.slice ao L.length cap) L.length (pcells L) from hown.alloc _) [⟨env, q, zT⟩] ⟨wr.heap.size, 0, none⟩ 1 (fun j u hu => by rw [World.cell?_drew]; exact World.news_of_block (hlx wr (prO ⟨env, q, zT⟩)) j u hu) (by have := HLL.out; simp; omega) (by simp; omega)
      obtain ⟨ao4, cap4, rfl, _⟩ := own_slice hown4
      obtain ⟨M, hM⟩ : ∃ M, (L ++ [(⟨env, q, zT⟩ : Pr)]).length = M := ⟨_, rfl⟩
      have hown5 : w4.ownsRow base 128 7 (.slice ao4 M cap4) (L ++ [(⟨env, q, zT⟩ : Pr)]).length (pcells (L ++ [(⟨env, q, zT⟩ : Pr)])) := by rw [← hM]; exact hown4
      rw [hM] at hrun
      rw [← HN.out] at hrun
      have hbx := bkb HX1.out HBW.out
      have hbk4 : w4.heap[r]? = some (.cells #[i64 t.a, i64 t.b, i64 t.c, .slice ao L.length cap] 126) := hfr4.kept _ _ (bka hbk _) (by rfl)
      have hbx4 : w4.heap[w.heap.size]? = some (triO q) := hfr4.kept _ _ (bka hbx _) (by rfl)
      have HRUN : Hid ((Builtin.append_ #[124, 124] 124 #[.slice ao N cap, .slice (some ⟨wr.heap.size, 0, none⟩) 1 1]).run Try.prog (wr.alloc (prO ⟨env, q, zT⟩)).drew = .ok (.slice ao4 M cap4) w4) := hrun
      have HO4 : Hid (w4.ownsRow base 128 7 (.slice ao4 M cap4) (L ++ [(⟨env, q, zT⟩ : Pr)]).length (pcells (L ++ [(⟨env, q, zT⟩ : Pr)]))) := hown5
      have HBK4 : Hid (w4.heap[r]? = some (.cells #[i64 t.a, i64 t.b, i64 t.c, .slice ao L.length cap] 126)) := hbk4
      have HF4 : Hid (Fr base [126, 128] w w4) := (Fr.of_below [126, 128] (HB1.out.trans (HBW.out.mono hs1)) (by omega)).trans ((Fr.of_below [126, 128] (Below.drew ((Below.refl _ _).alloc (Nat.le_refl _) (prO ⟨env, q, zT⟩))) (by omega)).trans (hfr4.mono (fun o ho => by
        cases o with
        | cells C t fr => simp [keeps] at ho ⊢; exact ho.2
        | _ => rfl)))
      have hrw : r < wr.heap.size := blk_lt hbk
      have hxw : w.heap.size < wr.heap.size := blk_lt hbx
      have x0 : wr.cell? ⟨w.heap.size, 0, none⟩ = some (i64 q.a) := bkc hbx 0
      have x1 : wr.cell? ⟨w.heap.size, 1, none⟩ = some (i64 q.b) := bkc hbx 1
      have x2 : wr.cell? ⟨w.heap.size, 2, none⟩ = some (i64 q.c) := bkc hbx 2
      have y0 : w4.cell? ⟨w.heap.size, 0, none⟩ = some (i64 q.a) := bkc hbx4 0
      have y1 : w4.cell? ⟨w.heap.size, 1, none⟩ = some (i64 q.b) := bkc hbx4 1
      have y2 : w4.cell? ⟨w.heap.size, 2, none⟩ = some (i64 q.c) := bkc hbx4 2
      have y3 : w4.cell? ⟨r, 3, none⟩ = some (.slice ao N cap) := by rw [HN.out]; exact bkc hbk4 3
      have yf : w4.frozen? ⟨r, 3, none⟩ = false := bkf hbk4 3
      clear hbk hown hrun hown4 hfr4 hM hown5 hbx hbk4 hbx4 n1 n2 n3
      go_wp2_with fail
      go_region_law
        ((refine step_app_run ?_ (.tmp 72) (.tmp 76) 124 ?_ _ _ ?_ ?_ 124 ?_ _ _ HRUN.out ?_; rfl; rfl; rfl; rfl; rfl))
      all_goals go_wp2_with fail
      all_goals go_ret
      all_goals exact ⟨rfl, ⟨HR.out.lo, _, heap_setCell_same w4 r 3 _ 126 _ HBK4.out, own_keep HO4.out (fun k' C hC => by rw [heap_setCell_other _ _ _ _ (fun e => by have hC' := hC; rw [show k' = r from e, HBK4.out] at hC'; simp at hC')]; exact hC)⟩, HF4.out.trans (Fr.of_touch ((Touch.refl r w4).setCell rfl _) HBK4.out (by rfl) HR.out.lo)⟩
end Go.Proofs.Ytnknhencobhjdaa.Qt
namespace Go.Proofs.Ytnknhencobhjdaa.Qt
structure Rel (s : St) (L : List Pr) : Prop where
  nd : (L.map Pr.env).Pairwise (· ≠ ·)
  a : ∀ p ∈ L, ∃ x, at_ s p.env = some x ∧ x.q = p.q ∧ x.h = p.h
  b : ∀ env x, at_ s env = some x → ∃ p ∈ L, p.env = env
  len : L.length = (told s (·.q) 3).length
  sh : sum (L.map Pr.h) = sum (told s (·.h) 3)
  sq : sum (L.map Pr.q) = sum (told s (·.q) 3)
theorem Rel.le3 {s : St} {L : List Pr} (h : Rel s L) : L.length ≤ 3 := by rw [h.len]; exact told_le s _ 3
theorem rel_nil : Rel (fun _ => none) [] :=
  ⟨List.Pairwise.nil, fun p hp => (by cases hp), fun env x hx => (by unfold at_ at hx; split at hx <;> cases hx), rfl, rfl, rfl⟩
theorem idx_get {L : List Pr} {env : Int} (h : ∃ p ∈ L, p.env = env) : ∃ (k : Nat) (p : Pr), L[k]? = some p ∧ p.env = env ∧ idx L env = k := by
  cases hf : L.findIdx? (fun p => p.env == env) with
  | none =>
    rw [List.findIdx?_eq_none_iff] at hf
    obtain ⟨p, hp, he⟩ := h
    have := hf p hp
    simp [he] at this
  | some k =>
    obtain ⟨hk, he, _⟩ := List.findIdx?_eq_some_iff_getElem.1 hf
    exact ⟨k, L[k], List.getElem?_eq_getElem hk, by simpa using he, by unfold idx; rw [hf]⟩
theorem Rel.not {s : St} {L : List Pr} (h : Rel s L) {env : Int} (hx : at_ s env = none) : idx L env = -1 :=
  idx_none fun i p hp e => by
    obtain ⟨x, h1, _⟩ := h.a p (List.mem_of_getElem? hp)
    rw [e, hx] at h1
    cases h1
theorem Rel.has {s : St} {L : List Pr} (h : Rel s L) {env : Int} {x : Pge} (hx : at_ s env = some x) : ∃ (k : Nat), L[k]? = some ⟨env, x.q, x.h⟩ ∧ idx L env = k := by
  obtain ⟨k, p, hp, he, hi⟩ := idx_get (h.b env x hx)
  obtain ⟨y, h1, h2, h3⟩ := h.a p (List.mem_of_getElem? hp)
  rw [he, hx] at h1
  cases h1
  refine ⟨k, ?_, hi⟩
  rw [hp, h2, h3, ← he]
theorem cut {α : Type} {L : List α} {k : Nat} {p : α} (h : L[k]? = some p) : L = L.take k ++ p :: L.drop (k + 1) := by
  have hk : k < L.length := (List.getElem?_eq_some_iff.1 h).1
  have hp : L[k] = p := by rw [List.getElem?_eq_getElem hk] at h; cases h; rfl
  conv => lhs; rw [← List.take_append_drop k L, List.drop_eq_getElem_cons hk, hp]
theorem cut_set {α : Type} {L : List α} {k : Nat} {p p' : α} (h : L[k]? = some p) : L.set k p' = L.take k ++ p' :: L.drop (k + 1) := by
  have hk : k < L.length := (List.getElem?_eq_some_iff.1 h).1
  rw [List.set_eq_take_append_cons_drop, if_pos hk]
theorem at_upd {s : St} {env : Int} (h1 : 1 ≤ env) (h2 : env ≤ 3) (y : Option Pge) (e : Int) : at_ (upd s (env - 1).toNat y) e = if e = env then y else at_ s e := by
  unfold at_ upd
  by_cases he : e = env
  · rw [if_pos he, if_pos ⟨by omega, by omega⟩, if_pos (by rw [he])]
  · rw [if_neg he]
    by_cases hc : 1 ≤ e ∧ e ≤ 3
    · rw [if_pos hc, if_pos hc, if_neg (by omega)]
    · rw [if_neg hc, if_neg hc]
def pick (f : Pge → T) : Option Pge → T
  | none => zT
  | some x => f x
theorem sum_pick (s : St) (f : Pge → T) : sum (told s f 3) = add (add (pick f (s 0)) (pick f (s 1))) (pick f (s 2)) := by
  rw [sum_told]
  cases s 0 <;> cases s 1 <;> cases s 2 <;> rfl
theorem sum_upd (s : St) (f : Pge → T) (e : Nat) (he : e < 3) (y : Option Pge) : add (sum (told (upd s e y) f 3)) (pick f (s e)) = add (sum (told s f 3)) (pick f y) := by
  rw [sum_pick, sum_pick]
  obtain rfl | rfl | rfl : e = 0 ∨ e = 1 ∨ e = 2 := by omega
  all_goals
    simp [upd, add]
    omega
theorem len_upd (s : St) (f : Pge → T) (e : Nat) (he : e < 3) (y : Option Pge) : (told (upd s e y) f 3).length + (s e).toList.length = (told s f 3).length + y.toList.length := by
  have hl : ∀ s : St, (told s f 3).length = (s 0).toList.length + (s 1).toList.length + (s 2).toList.length := fun s => by
    unfold told told told told
    cases s 0 <;> cases s 1 <;> cases s 2 <;> rfl
  rw [hl, hl]
  obtain rfl | rfl | rfl : e = 0 ∨ e = 1 ∨ e = 2 := by omega
  all_goals
    simp [upd]
    omega
theorem add_cancel {a b c : T} (h : add a b = add c b) : a = c := by
  rcases a with ⟨a1, a2, a3⟩
  rcases b with ⟨b1, b2, b3⟩
  rcases c with ⟨c1, c2, c3⟩
  simp only [add, T.mk.injEq] at h ⊢
  omega
theorem sum_cut (A B : List T) (x : T) : sum (A ++ x :: B) = add (sum (A ++ B)) x := by
  rw [sum_app, sum_app]
  simp only [sum, add, T.mk.injEq]
  omega
theorem Rel.enter {s : St} {L : List Pr} (h : Rel s L) {env : Int} (h1 : 1 ≤ env) (h2 : env ≤ 3) (hx : at_ s env = none) (q : T) (p : Nat) : Rel (upd s (env - 1).toNat (some ⟨p, q, zT⟩)) (L ++ [⟨env, q, zT⟩]) := by
  have hs : s (env - 1).toNat = none := by unfold at_ at hx; rw [if_pos ⟨h1, h2⟩] at hx; exact hx
  have hn : ∀ x ∈ L, x.env ≠ env := fun x hxL e => by
    obtain ⟨y, hy, _⟩ := h.a x hxL
    rw [e, hx] at hy
    cases hy
  refine ⟨?_, fun x hxL => ?_, fun e y hy => ?_, ?_, ?_, ?_⟩
  · rw [List.map_append, List.pairwise_append]
    refine ⟨h.nd, by simp, fun a ha b hb => ?_⟩
    obtain ⟨x, hxL, rfl⟩ := List.mem_map.1 ha
    simp at hb
    rw [hb]
    exact hn x hxL
  · rw [at_upd h1 h2]
    rw [List.mem_append] at hxL
    rcases hxL with hxL | hxL
    · rw [if_neg (hn x hxL)]
      exact h.a x hxL
    · simp at hxL
      subst hxL
      rw [if_pos rfl]
      exact ⟨_, rfl, rfl, rfl⟩
  · rw [at_upd h1 h2] at hy
    by_cases he : e = env
    · exact ⟨⟨env, q, zT⟩, by simp, he.symm⟩
    · rw [if_neg he] at hy
      obtain ⟨x, hxL, hxe⟩ := h.b e y hy
      exact ⟨x, by simp [hxL], hxe⟩
  · have := len_upd s (·.q) (env - 1).toNat (by omega) (some ⟨p, q, zT⟩)
    rw [hs] at this
    rw [List.length_append, h.len]
    simpa using this.symm
  · have := sum_upd s (·.h) (env - 1).toNat (by omega) (some ⟨p, q, zT⟩)
    rw [hs] at this
    rw [List.map_append, sum_app, h.sh]
    have h0 : ∀ t : T, add t (pick (·.h) none) = t := fun t => by simp [add, pick, zT]
    rw [h0] at this
    rw [this]
    simp [sum, pick, add, zT]
  · have := sum_upd s (·.q) (env - 1).toNat (by omega) (some ⟨p, q, zT⟩)
    rw [hs] at this
    rw [List.map_append, sum_app, h.sq]
    have h0 : ∀ t : T, add t (pick (·.q) none) = t := fun t => by simp [add, pick, zT]
    rw [h0] at this
    rw [this]
    simp [sum, pick, add, zT]
theorem Rel.apart {s : St} {L : List Pr} (h : Rel s L) {k : Nat} {p : Pr} (hp : L[k]? = some p) : ∀ x ∈ L.take k ++ L.drop (k + 1), x ∈ L ∧ x.env ≠ p.env := fun x hx => by
  have hL := cut hp
  have hnd := h.nd
  rw [hL, List.map_append, List.map_cons, List.pairwise_append] at hnd
  obtain ⟨_, h2, h3⟩ := hnd
  rw [List.pairwise_cons] at h2
  rw [List.mem_append] at hx
  rcases hx with hx | hx
  · exact ⟨List.mem_of_mem_take hx, h3 x.env (List.mem_map.2 ⟨x, hx, rfl⟩) p.env (by simp)⟩
  · exact ⟨List.mem_of_mem_drop hx, fun e => h2.1 x.env (List.mem_map.2 ⟨x, hx, rfl⟩) e.symm⟩
theorem Rel.set {s : St} {L : List Pr} (h : Rel s L) {env : Int} {x : Pge} (hx : at_ s env = some x) {k : Nat} (hp : L[k]? = some ⟨env, x.q, x.h⟩) (h' : T) : Rel (upd s (env - 1).toNat (some ⟨x.p, x.q, h'⟩)) (L.set k ⟨env, x.q, h'⟩) := by
  obtain ⟨h1, h2, hs⟩ := at_some hx
  have hL := cut hp
  have hS := cut_set (p' := (⟨env, x.q, h'⟩ : Pr)) hp
  have hap := h.apart hp
  refine ⟨?_, fun y hy => ?_, fun e y hy => ?_, ?_, ?_, ?_⟩
  · have : (L.set k ⟨env, x.q, h'⟩).map Pr.env = L.map Pr.env := by
      rw [hS]
      conv => rhs; rw [hL]
      simp
    rw [this]
    exact h.nd
  · rw [at_upd h1 h2]
    rw [hS, List.mem_append, List.mem_cons] at hy
    have hcase : y = ⟨env, x.q, h'⟩ ∨ y ∈ L.take k ++ L.drop (k + 1) := by
      rw [List.mem_append]
      rcases hy with hy | hy | hy
      · exact Or.inr (Or.inl hy)
      · exact Or.inl hy
      · exact Or.inr (Or.inr hy)
    rcases hcase with rfl | hy'
    · rw [if_pos rfl]; exact ⟨_, rfl, rfl, rfl⟩
    · obtain ⟨hyL, hne⟩ := hap y hy'
      rw [if_neg hne]
      exact h.a y hyL
  · rw [at_upd h1 h2] at hy
    by_cases he : e = env
    · exact ⟨⟨env, x.q, h'⟩, by rw [hS]; simp, he.symm⟩
    · rw [if_neg he] at hy
      obtain ⟨z, hz, hze⟩ := h.b e y hy
      refine ⟨z, ?_, hze⟩
      rw [hL, List.mem_append, List.mem_cons] at hz
      rw [hS, List.mem_append, List.mem_cons]
      rcases hz with hz | rfl | hz
      · exact Or.inl hz
      · exact absurd hze.symm he
      · exact Or.inr (Or.inr hz)
  · have := len_upd s (·.q) (env - 1).toNat (by omega) (some ⟨x.p, x.q, h'⟩)
    rw [hs] at this
    rw [List.length_set, h.len]
    simpa using this.symm
  · have h3 := sum_upd s (·.h) (env - 1).toNat (by omega) (some ⟨x.p, x.q, h'⟩)
    rw [hs] at h3
    have h4 := h.sh
    rw [hL, List.map_append, List.map_cons, sum_cut] at h4
    rw [hS, List.map_append, List.map_cons, sum_cut]
    rw [← h4] at h3
    generalize sum (told (upd s (env - 1).toNat (some ⟨x.p, x.q, h'⟩)) (·.h) 3) = S at *
    generalize sum (List.map Pr.h (List.take k L) ++ List.map Pr.h (List.drop (k + 1) L)) = R at *
    simp only [add, pick, T.mk.injEq] at h3 ⊢
    rcases S with ⟨S1, S2, S3⟩
    simp only [T.mk.injEq] at h3 ⊢
    omega
  · have h3 := sum_upd s (·.q) (env - 1).toNat (by omega) (some ⟨x.p, x.q, h'⟩)
    rw [hs] at h3
    have h4 := h.sq
    rw [hL, List.map_append, List.map_cons, sum_cut] at h4
    rw [hS, List.map_append, List.map_cons, sum_cut]
    rw [← h4] at h3
    exact (add_cancel h3).symm
theorem Rel.drop {s : St} {L : List Pr} (h : Rel s L) {env : Int} {x : Pge} (hx : at_ s env = some x) {k : Nat} (hp : L[k]? = some ⟨env, x.q, x.h⟩) : Rel (upd s (env - 1).toNat none) (L.take k ++ L.drop (k + 1)) := by
  obtain ⟨h1, h2, hs⟩ := at_some hx
  have hL := cut hp
  have hap := h.apart hp
  refine ⟨?_, fun y hy => ?_, fun e y hy => ?_, ?_, ?_, ?_⟩
  · have hsub : (L.take k ++ L.drop (k + 1)).Sublist L := by
      conv => rhs; rw [hL]
      exact List.Sublist.append (List.Sublist.refl _) (List.sublist_cons_self _ _)
    exact h.nd.sublist (hsub.map _)
  · obtain ⟨hyL, hne⟩ := hap y hy
    rw [at_upd h1 h2, if_neg hne]
    exact h.a y hyL
  · rw [at_upd h1 h2] at hy
    by_cases he : e = env
    · rw [if_pos he] at hy; cases hy
    · rw [if_neg he] at hy
      obtain ⟨z, hz, hze⟩ := h.b e y hy
      refine ⟨z, ?_, hze⟩
      rw [hL, List.mem_append, List.mem_cons] at hz
      rw [List.mem_append]
      rcases hz with hz | rfl | hz
      · exact Or.inl hz
      · exact absurd hze.symm he
      · exact Or.inr hz
  · have := len_upd s (·.q) (env - 1).toNat (by omega) none
    rw [hs] at this
    have hl := h.len
    rw [hL, List.length_append, List.length_cons] at hl
    rw [List.length_append]
    generalize (told (upd s (env - 1).toNat none) (·.q) 3).length = X at *
    simp at this
    omega
  · have h3 := sum_upd s (·.h) (env - 1).toNat (by omega) none
    rw [hs] at h3
    have h4 := h.sh
    rw [hL, List.map_append, List.map_cons, sum_cut] at h4
    rw [List.map_append]
    rw [← h4] at h3
    have h0 : ∀ t : T, add t (pick (·.h) none) = t := fun t => by simp [add, pick, zT]
    rw [h0] at h3
    exact (add_cancel h3).symm
  · have h3 := sum_upd s (·.q) (env - 1).toNat (by omega) none
    rw [hs] at h3
    have h4 := h.sq
    rw [hL, List.map_append, List.map_cons, sum_cut] at h4
    rw [List.map_append]
    rw [← h4] at h3
    have h0 : ∀ t : T, add t (pick (·.q) none) = t := fun t => by simp [add, pick, zT]
    rw [h0] at h3
    exact (add_cancel h3).symm
end Go.Proofs.Ytnknhencobhjdaa.Qt
namespace Go.Proofs.Ytnknhencobhjdaa.Qt
open Go.ChangeShapes Go.WideShapes Go.ChangeAt Go.RowKit Go.Deep
def RngI (x : Int) : Prop := -9223372036854775808 ≤ x ∧ x ≤ 9223372036854775807
def T.rng (t : T) : Prop := RngI t.a ∧ RngI t.b ∧ RngI t.c
theorem Le.in64 {t : T} (h : Le t ⟨64, 64, 64⟩) : In64 t := ⟨h.a0, h.a1, h.b0, h.b1, h.c0, h.c1⟩
theorem Rel.q64 {t : T} {s : St} {L : List Pr} (h : Rel s L) (hw : Wf t s) : ∀ u ∈ L.map Pr.q, In64 u := fun u hu => by
  obtain ⟨p, hp, rfl⟩ := List.mem_map.1 hu
  obtain ⟨x, hx, hq, _⟩ := h.a p hp
  rw [← hq]
  have := hw.le64 (at_some hx).2.2
  have h2 := (hw.le_at (at_some hx).2.2).pos.2
  exact ⟨h2.1, this.a1, h2.2.1, this.b1, h2.2.2, this.c1⟩
theorem Rel.h64 {t : T} {s : St} {L : List Pr} (h : Rel s L) (hw : Wf t s) : ∀ u ∈ L.map Pr.h, Small 64 u := fun u hu => by
  obtain ⟨p, hp, rfl⟩ := List.mem_map.1 hu
  obtain ⟨x, hx, _, hh⟩ := h.a p hp
  rw [← hh]
  exact (hw.le_at (at_some hx).2.2).small (hw.le64 (at_some hx).2.2)
theorem rtake_rel {w : World} {base r : Nat} {t : T} {s : St} {L : List Pr} (h : Rb w base r t L) (hr : Rel s L) (hw : Wf t s) (env kind n : Int) :
    Calls Try.prog 69 #[.pointer (some ⟨r, 0, none⟩), i64 env, .agg #[i64 kind, i64 n], .bool false] w fun e w' => e = .returned (i64 (tkE (at_ s env) kind n)) ∧ ∃ L', Rel (tkS s env kind n) L' ∧ Rb w' base r t L' ∧ Fr base [126, 128] w w' := by
  have hlo : base ≤ w.heap.size := by have := h.lt; have := h.lo; omega
  unfold tkE tkS
  cases hx : at_ s env with
  | none => exact (rtake_none h hr.le3 env kind n false (hr.not hx)).mono fun e w' ⟨he, hb⟩ => ⟨he, L, hr, h.below hb, Fr.of_below _ hb hlo⟩
  | some x =>
    obtain ⟨k, hk, hi⟩ := hr.has hx
    have hle := hw.le_at (at_some hx).2.2
    have h64 := hw.le64 (at_some hx).2.2
    simp only
    by_cases hwr : wrongB kind n = true
    · rw [if_pos hwr, if_pos (Or.inl hwr)]
      exact (rtake_wrong h hr.le3 env kind n false k hi hwr).mono fun e w' ⟨he, hb⟩ => ⟨he, L, hr, h.below hb, Fr.of_below _ hb hlo⟩
    · rw [if_neg hwr]
      obtain ⟨hkd, h0⟩ := wrongB_kind (by simpa using hwr)
      by_cases hn : x.q.g kind - x.h.g kind < n
      · rw [if_pos hn, if_pos (Or.inr hn)]
        exact (rtake_more h hr.le3 env kind n k _ hk hi hle h64 hkd h0 hn).mono fun e w' ⟨he, hb⟩ => ⟨he, L, hr, h.below hb, Fr.of_below _ hb hlo⟩
      · rw [if_neg hn, if_neg (by intro h'; rcases h' with h' | h' <;> contradiction)]
        exact (rtake_in h hr.le3 env kind n k _ hk hi hle h64 hkd h0 (by simpa using hn)).mono fun e w' ⟨he, hb, hf⟩ => ⟨he, _, hr.set hx hk _, hb, hf⟩
theorem rgive_rel {w : World} {base r : Nat} {t : T} {s : St} {L : List Pr} (h : Rb w base r t L) (hr : Rel s L) (hw : Wf t s) (env kind n : Int) :
    Calls Try.prog 69 #[.pointer (some ⟨r, 0, none⟩), i64 env, .agg #[i64 kind, i64 n], .bool true] w fun e w' => e = .returned (i64 (gvE (at_ s env) kind n)) ∧ ∃ L', Rel (gvS s env kind n) L' ∧ Rb w' base r t L' ∧ Fr base [126, 128] w w' := by
  have hlo : base ≤ w.heap.size := by have := h.lt; have := h.lo; omega
  unfold gvE gvS
  cases hx : at_ s env with
  | none => exact (rtake_none h hr.le3 env kind n true (hr.not hx)).mono fun e w' ⟨he, hb⟩ => ⟨he, L, hr, h.below hb, Fr.of_below _ hb hlo⟩
  | some x =>
    obtain ⟨k, hk, hi⟩ := hr.has hx
    have hle := hw.le_at (at_some hx).2.2
    have h64 := hw.le64 (at_some hx).2.2
    simp only
    by_cases hwr : wrongB kind n = true
    · rw [if_pos hwr, if_pos (Or.inl hwr)]
      exact (rtake_wrong h hr.le3 env kind n true k hi hwr).mono fun e w' ⟨he, hb⟩ => ⟨he, L, hr, h.below hb, Fr.of_below _ hb hlo⟩
    · rw [if_neg hwr]
      obtain ⟨hkd, h0⟩ := wrongB_kind (by simpa using hwr)
      by_cases hn : x.h.g kind < n
      · rw [if_pos hn, if_pos (Or.inr hn)]
        exact (rgive_more h hr.le3 env kind n k _ hk hi hle h64 hkd h0 hn).mono fun e w' ⟨he, hb⟩ => ⟨he, L, hr, h.below hb, Fr.of_below _ hb hlo⟩
      · rw [if_neg hn, if_neg (by intro h'; rcases h' with h' | h' <;> contradiction)]
        exact (rgive_in h hr.le3 env kind n k _ hk hi hle h64 hkd h0 (by simpa using hn)).mono fun e w' ⟨he, hb, hf⟩ => ⟨he, _, hr.set hx hk _, hb, hf⟩
theorem rclose_rel {w : World} {base r : Nat} {t : T} {s : St} {L : List Pr} (h : Rb w base r t L) (hr : Rel s L) (env : Int) :
    Calls Try.prog 67 #[.pointer (some ⟨r, 0, none⟩), i64 env] w fun e w' => e = .returned (i64 (clE (at_ s env))) ∧ ∃ L', Rel (clS s env) L' ∧ Rb w' base r t L' ∧ Fr base [126, 128] w w' := by
  have hlo : base ≤ w.heap.size := by have := h.lt; have := h.lo; omega
  unfold clE clS
  cases hx : at_ s env with
  | none => exact (rclose_none h hr.le3 env (hr.not hx)).mono fun e w' ⟨he, hb⟩ => ⟨he, L, hr, h.below hb, Fr.of_below _ hb hlo⟩
  | some x =>
    obtain ⟨k, hk, hi⟩ := hr.has hx
    exact (rclose_in h hr.le3 env k _ hk hi).mono fun e w' ⟨he, hb, hf⟩ => ⟨he, _, hr.drop hx hk, hb, hf⟩
theorem roomB_rel {t : T} {s : St} {L : List Pr} (hr : Rel s L) (q : T) : roomB t s q = true ↔ ((sum (L.map Pr.q)).a + q.a ≤ t.a ∧ (sum (L.map Pr.q)).b + q.b ≤ t.b ∧ (sum (L.map Pr.q)).c + q.c ≤ t.c) := by
  rw [hr.sq, sum_q]
  simp [roomB, add]
theorem ropen_rel {w : World} {base r : Nat} {t : T} {s : St} {L : List Pr} (h : Rb w base r t L) (hr : Rel s L) (hw : Wf t s) (env : Int) (q : T) (hq : q.rng) :
    Calls Try.prog 32 #[.pointer (some ⟨r, 0, none⟩), i64 env, q.v] w fun e w' => e = .returned (i64 (opE t s env q)) ∧ ∃ L', (∀ s', OpS t s s' env q → Rel s' L') ∧ Rb w' base r t L' ∧ Fr base [126, 128] w w' := by
  have hlo : base ≤ w.heap.size := by have := h.lt; have := h.lo; omega
  have fin : ∀ (c : Int), opE t s env q = c → c ≠ 0 → Calls Try.prog 32 #[.pointer (some ⟨r, 0, none⟩), i64 env, q.v] w (fun e w' => e = .returned (i64 c) ∧ Below w.heap.size w w') → Calls Try.prog 32 #[.pointer (some ⟨r, 0, none⟩), i64 env, q.v] w (fun e w' => e = .returned (i64 (opE t s env q)) ∧ ∃ L', (∀ s', OpS t s s' env q → Rel s' L') ∧ Rb w' base r t L' ∧ Fr base [126, 128] w w') := fun c hc h0 hcall =>
    hcall.mono fun e w' ⟨he, hb⟩ => ⟨by rw [he, hc], L, fun s' hs' => by unfold OpS at hs'; rw [hc, if_neg h0] at hs'; rw [hs']; exact hr, h.below hb, Fr.of_below _ hb hlo⟩
  obtain ⟨⟨_, qa⟩, ⟨_, qb⟩, ⟨_, qc⟩⟩ := hq
  have hbe := badB_eq env q qa qb qc
  by_cases hbad : badB env q = true
  · exact fin 1 (by unfold opE; rw [if_pos hbad]) (by decide) (ropen_bad w _ env q (by rw [hbe] at hbad; simpa using hbad))
  · have hb' : ¬ (env < 1 ∨ 3 < env ∨ q.a < 0 ∨ q.b < 0 ∨ q.c < 0) := by rw [hbe] at hbad; simpa using hbad
    cases hx : at_ s env with
    | some x =>
      obtain ⟨k, hk, hi⟩ := hr.has hx
      exact fin 8 (by unfold opE; rw [if_neg hbad, hx]) (by decide) (ropen_same h hr.le3 env q (by omega) (by omega) (by omega) (by omega) (by omega) k hi)
    | none =>
      have hi := hr.not hx
      by_cases hro : roomB t s q = true
      · have h0 : opE t s env q = 0 := by unfold opE; rw [if_neg hbad, hx]; simp only; rw [if_pos hro]
        refine (ropen_in h hr.le3 hw.tot.in64 (hr.q64 hw) env q (by omega) (by omega) (by omega) (by omega) (by omega) qa qb qc hi ((roomB_rel hr q).1 hro)).mono fun e w' ⟨he, hb, hf⟩ => ⟨by rw [he, h0], _, fun s' hs' => ?_, hb, hf⟩
        unfold OpS at hs'
        rw [if_pos h0] at hs'
        obtain ⟨p, rfl⟩ := hs'
        exact hr.enter (by omega) (by omega) hx q p
      · exact fin 5 (by unfold opE; rw [if_neg hbad, hx]; simp only; rw [if_neg hro]) (by decide) (ropen_full h hr.le3 hw.tot.in64 (hr.q64 hw) env q (by omega) (by omega) (by omega) (by omega) (by omega) qa qb qc hi (fun h' => hro ((roomB_rel hr q).2 h')))
end Go.Proofs.Ytnknhencobhjdaa.Qt
