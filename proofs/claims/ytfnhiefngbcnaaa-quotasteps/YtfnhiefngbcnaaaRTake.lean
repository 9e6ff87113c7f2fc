/- imagoref10.Book's Take: its contract; no statement is proved in this text. -/
import Derived.Test.YtfnhiefngbcnaaaRef
namespace Go.Proofs.Ytfnhiefngbcnaaa
open Go.ChangeShapes Go.WideShapes Go.ChangeAt Go.RowKit Go.Deep

/-- A number of the row is put anew. -/
theorem Rb.set {w w1 : World} {base r : Nat} {t : T} {L : List Pr} (h : Rb w base r t L) (hb : Below w.heap.size w w1) {k : Nat} {p : Pr} (hp : L[k]? = some p) {ao : Option Addr} {cap g : Nat} (hbk : w1.heap[r]? = some (.cells #[i64 t.a, i64 t.b, i64 t.c, .slice ao L.length cap] 33)) (hg : ao = some ⟨g, 0, none⟩) (j : Nat) (hj : j < 7) (v : Int) (p' : Pr) (hp' : p.c.set j (i64 v) = p'.c) :
    Rb (w1.setCell ⟨g, k * 7 + j, none⟩ (i64 v)) base r t (L.set k p') ∧ Fr base [33, 42] w (w1.setCell ⟨g, k * 7 + j, none⟩ (i64 v)) := by
  subst hg
  obtain ⟨ao', cap', hbk', hown, _⟩ := (h.below hb).row
  have hs := hbk.symm.trans hbk'
  simp only [Option.some.injEq, Obj.cells.injEq, Array.mk.injEq, List.cons.injEq, Value.slice.injEq, true_and, and_true] at hs
  obtain ⟨rfl, rfl⟩ := hs
  have hlo : base ≤ w.heap.size := by have := h.lt; have := h.lo; omega
  obtain ⟨hst, hgr⟩ := hown.stored (k * 7 + j) (i64 v)
  rw [pcells_set L k j p p' (i64 v) hp hj hp'] at hst
  have hgl := hown.lt g rfl
  have hgg : ∃ C, w1.heap[g]? = some (.cells C 42) := by
    rcases hown.2 with ⟨h', _⟩ | ⟨g', cap', cur, h', _, hg, _⟩
    · simp at h'
    · simp only [Value.slice.injEq, Option.some.injEq, Addr.mk.injEq, and_true, true_and] at h'
      obtain ⟨rfl, rfl⟩ := h'
      exact ⟨cur, hg⟩
  obtain ⟨C, hC⟩ := hgg
  have hne : r ≠ g := fun e => by rw [e, hC] at hbk; simp at hbk
  refine ⟨⟨h.lo, _, ?_, by rw [List.length_set]; exact hst⟩, (Fr.of_below _ hb hlo).trans (Fr.of_touch ((Touch.refl g w1).setCell rfl _) hC (by rfl) hgl.1)⟩
  rw [heap_setCell_other _ _ _ _ hne]
  exact hbk
set_option maxRecDepth 100000 in
set_option maxHeartbeats 1000000 in
theorem rtake_in {w : World} {base r : Nat} {t : T} {L : List Pr} (h : Rb w base r t L) (hl : L.length ≤ 3) (env kind n : Int) (k : Nat) (p : Pr) (hp : L[k]? = some p) (hi : idx L env = k) (hle : Le p.h p.q) (h64 : Le p.q ⟨64, 64, 64⟩) (hk : kind = 1 ∨ kind = 2 ∨ kind = 3) (h0 : 0 ≤ n) (h1 : n ≤ p.q.g kind - p.h.g kind) :
    Calls Try.prog 25 #[.pointer (some ⟨r, 0, none⟩), i64 env, .agg #[i64 kind, i64 n], .bool false] w fun e w' => e = .returned (i64 0) ∧ Rb w' base r t (L.set k ⟨p.env, p.q, p.h.put kind (p.h.g kind + n)⟩) ∧ Fr base [33, 42] w w' := by
  have a0 := hle.a0; have a1 := hle.a1; have b0 := hle.b0; have b1 := hle.b1; have c0 := hle.c0; have c1 := hle.c1
  have a2 := h64.a1; have b2 := h64.b1; have c2 := h64.c1
  simp only at a2 b2 c2
  have HR : Hid (Rb w base r t L) := h
  have HP : Hid (L[k]? = some p) := hp
  have HI : Hid (idx L env = k) := hi
  have HB0 : Hid (∀ o, Below w.heap.size w (w.alloc o)) := fun o => (Below.refl _ _).alloc (Nat.le_refl _) o
  have hkl : (k : Int) < 3 := by have := (List.getElem?_eq_some_iff.1 hp).1; omega
  have HLL : Hid (L.length ≤ 3) := hl
  have hkN : (k : Int) < L.length := by have := (List.getElem?_eq_some_iff.1 hp).1; omega
  clear h hp hi hle h64 hl
  rcases hk with rfl | rfl | rfl
  · have h1' : n ≤ p.q.a - p.h.a := by simpa [T.g] using h1
    clear h1
    go_enter Try.func25, Try.ntmps25
    go_wp2_with fail
    refine (rat_ok (HR.out.below (HB0.out _)) HLL.out env).mono ?_
    rintro e w1 ⟨rfl, hb1⟩
    rw [HI.out]
    have hx1 := blk_below (heap_last w _) hb1
    have x0 : w1.cell? ⟨w.heap.size, 0, none⟩ = some (i64 1) := blk_cell hx1 0
    have x1 : w1.cell? ⟨w.heap.size, 1, none⟩ = some (i64 n) := blk_cell hx1 1
    have hb1' : Below w.heap.size w w1 := (HB0.out _).trans (hb1.mono (by simp))
    obtain ⟨ao, cap, hbk, _, hrow⟩ := (HR.out.below hb1').row
    obtain ⟨g, hao, hbg, hgl, hgr, hfz, hc⟩ := hrow k p HP.out
    have HAO : Hid (ao = some ⟨g, 0, none⟩) := hao
    have HBK : Hid (w1.heap[r]? = some (.cells #[i64 t.a, i64 t.b, i64 t.c, .slice ao L.length cap] 33)) := hbk
    have d3 : w1.cell? ⟨r, 3, none⟩ = some (.slice (some ⟨g, 0, none⟩) L.length cap) := by rw [← hao]; exact blk_cell hbk 3
    have q0 : w1.cell? ⟨g, k * 7 + 1, none⟩ = some (i64 p.q.a) := hc 1 (by omega)
    have q1 : w1.cell? ⟨g, k * 7 + 4, none⟩ = some (i64 p.h.a) := hc 4 (by omega)
    have q2 : w1.cell? ⟨g, k * 7 + 4 + 0, none⟩ = some (i64 p.h.a) := hc 4 (by omega)
    have q3 : w1.cell? ⟨g, k * 7 + 1 + 0, none⟩ = some (i64 p.q.a) := hc 1 (by omega)
    have HB1 : Hid (Below w.heap.size w w1) := hb1'
    clear hb1 hb1' hx1 hrow hc hbk hao
    go_wp2_with fail
    go_ret
    exact ⟨rfl, HR.out.set HB1.out HP.out HBK.out HAO.out 4 (by omega) (p.h.a + n) ⟨p.env, p.q, p.h.put 1 (p.h.g 1 + n)⟩ rfl⟩
  · have h1' : n ≤ p.q.b - p.h.b := by simpa [T.g] using h1
    clear h1
    go_enter Try.func25, Try.ntmps25
    go_wp2_with fail
    refine (rat_ok (HR.out.below (HB0.out _)) HLL.out env).mono ?_
    rintro e w1 ⟨rfl, hb1⟩
    rw [HI.out]
    have hx1 := blk_below (heap_last w _) hb1
    have x0 : w1.cell? ⟨w.heap.size, 0, none⟩ = some (i64 2) := blk_cell hx1 0
    have x1 : w1.cell? ⟨w.heap.size, 1, none⟩ = some (i64 n) := blk_cell hx1 1
    have hb1' : Below w.heap.size w w1 := (HB0.out _).trans (hb1.mono (by simp))
    obtain ⟨ao, cap, hbk, _, hrow⟩ := (HR.out.below hb1').row
    obtain ⟨g, hao, hbg, hgl, hgr, hfz, hc⟩ := hrow k p HP.out
    have HAO : Hid (ao = some ⟨g, 0, none⟩) := hao
    have HBK : Hid (w1.heap[r]? = some (.cells #[i64 t.a, i64 t.b, i64 t.c, .slice ao L.length cap] 33)) := hbk
    have d3 : w1.cell? ⟨r, 3, none⟩ = some (.slice (some ⟨g, 0, none⟩) L.length cap) := by rw [← hao]; exact blk_cell hbk 3
    have q0 : w1.cell? ⟨g, k * 7 + 2, none⟩ = some (i64 p.q.b) := hc 2 (by omega)
    have q1 : w1.cell? ⟨g, k * 7 + 5, none⟩ = some (i64 p.h.b) := hc 5 (by omega)
    have q2 : w1.cell? ⟨g, k * 7 + 4 + 1, none⟩ = some (i64 p.h.b) := hc 5 (by omega)
    have q3 : w1.cell? ⟨g, k * 7 + 1 + 1, none⟩ = some (i64 p.q.b) := hc 2 (by omega)
    have HB1 : Hid (Below w.heap.size w w1) := hb1'
    clear hb1 hb1' hx1 hrow hc hbk hao
    go_wp2_with fail
    go_ret
    exact ⟨rfl, HR.out.set HB1.out HP.out HBK.out HAO.out 5 (by omega) (p.h.b + n) ⟨p.env, p.q, p.h.put 2 (p.h.g 2 + n)⟩ rfl⟩
  · have h1' : n ≤ p.q.c - p.h.c := by simpa [T.g] using h1
    clear h1
    go_enter Try.func25, Try.ntmps25
    go_wp2_with fail
    refine (rat_ok (HR.out.below (HB0.out _)) HLL.out env).mono ?_
    rintro e w1 ⟨rfl, hb1⟩
    rw [HI.out]
    have hx1 := blk_below (heap_last w _) hb1
    have x0 : w1.cell? ⟨w.heap.size, 0, none⟩ = some (i64 3) := blk_cell hx1 0
    have x1 : w1.cell? ⟨w.heap.size, 1, none⟩ = some (i64 n) := blk_cell hx1 1
    have hb1' : Below w.heap.size w w1 := (HB0.out _).trans (hb1.mono (by simp))
    obtain ⟨ao, cap, hbk, _, hrow⟩ := (HR.out.below hb1').row
    obtain ⟨g, hao, hbg, hgl, hgr, hfz, hc⟩ := hrow k p HP.out
    have HAO : Hid (ao = some ⟨g, 0, none⟩) := hao
    have HBK : Hid (w1.heap[r]? = some (.cells #[i64 t.a, i64 t.b, i64 t.c, .slice ao L.length cap] 33)) := hbk
    have d3 : w1.cell? ⟨r, 3, none⟩ = some (.slice (some ⟨g, 0, none⟩) L.length cap) := by rw [← hao]; exact blk_cell hbk 3
    have q0 : w1.cell? ⟨g, k * 7 + 3, none⟩ = some (i64 p.q.c) := hc 3 (by omega)
    have q1 : w1.cell? ⟨g, k * 7 + 6, none⟩ = some (i64 p.h.c) := hc 6 (by omega)
    have q2 : w1.cell? ⟨g, k * 7 + 4 + 2, none⟩ = some (i64 p.h.c) := hc 6 (by omega)
    have q3 : w1.cell? ⟨g, k * 7 + 1 + 2, none⟩ = some (i64 p.q.c) := hc 3 (by omega)
    have HB1 : Hid (Below w.heap.size w w1) := hb1'
    clear hb1 hb1' hx1 hrow hc hbk hao
    go_wp2_with fail
    go_ret
    exact ⟨rfl, HR.out.set HB1.out HP.out HBK.out HAO.out 6 (by omega) (p.h.c + n) ⟨p.env, p.q, p.h.put 3 (p.h.g 3 + n)⟩ rfl⟩
set_option maxRecDepth 100000 in
set_option maxHeartbeats 1000000 in
theorem rtake_more {w : World} {base r : Nat} {t : T} {L : List Pr} (h : Rb w base r t L) (hl : L.length ≤ 3) (env kind n : Int) (k : Nat) (p : Pr) (hp : L[k]? = some p) (hi : idx L env = k) (hle : Le p.h p.q) (h64 : Le p.q ⟨64, 64, 64⟩) (hk : kind = 1 ∨ kind = 2 ∨ kind = 3) (h0 : 0 ≤ n) (h1 : p.q.g kind - p.h.g kind < n) :
    Calls Try.prog 25 #[.pointer (some ⟨r, 0, none⟩), i64 env, .agg #[i64 kind, i64 n], .bool false] w fun e w' => e = .returned (i64 100) ∧ Below w.heap.size w w' := by
  have a0 := hle.a0; have a1 := hle.a1; have b0 := hle.b0; have b1 := hle.b1; have c0 := hle.c0; have c1 := hle.c1
  have a2 := h64.a1; have b2 := h64.b1; have c2 := h64.c1
  simp only at a2 b2 c2
  have HR : Hid (Rb w base r t L) := h
  have HP : Hid (L[k]? = some p) := hp
  have HI : Hid (idx L env = k) := hi
  have HB0 : Hid (∀ o, Below w.heap.size w (w.alloc o)) := fun o => (Below.refl _ _).alloc (Nat.le_refl _) o
  have hkl : (k : Int) < 3 := by have := (List.getElem?_eq_some_iff.1 hp).1; omega
  have HLL : Hid (L.length ≤ 3) := hl
  have hkN : (k : Int) < L.length := by have := (List.getElem?_eq_some_iff.1 hp).1; omega
  clear h hp hi hle h64 hl
  rcases hk with rfl | rfl | rfl
  · have h1' : p.q.a - p.h.a < n := by simpa [T.g] using h1
    clear h1
    go_enter Try.func25, Try.ntmps25
    go_wp2_with fail
    refine (rat_ok (HR.out.below (HB0.out _)) HLL.out env).mono ?_
    rintro e w1 ⟨rfl, hb1⟩
    rw [HI.out]
    have hx1 := blk_below (heap_last w _) hb1
    have x0 : w1.cell? ⟨w.heap.size, 0, none⟩ = some (i64 1) := blk_cell hx1 0
    have x1 : w1.cell? ⟨w.heap.size, 1, none⟩ = some (i64 n) := blk_cell hx1 1
    have hb1' : Below w.heap.size w w1 := (HB0.out _).trans (hb1.mono (by simp))
    obtain ⟨ao, cap, hbk, _, hrow⟩ := (HR.out.below hb1').row
    obtain ⟨g, hao, hbg, hgl, hgr, hfz, hc⟩ := hrow k p HP.out
    have HAO : Hid (ao = some ⟨g, 0, none⟩) := hao
    have HBK : Hid (w1.heap[r]? = some (.cells #[i64 t.a, i64 t.b, i64 t.c, .slice ao L.length cap] 33)) := hbk
    have d3 : w1.cell? ⟨r, 3, none⟩ = some (.slice (some ⟨g, 0, none⟩) L.length cap) := by rw [← hao]; exact blk_cell hbk 3
    have q0 : w1.cell? ⟨g, k * 7 + 1, none⟩ = some (i64 p.q.a) := hc 1 (by omega)
    have q1 : w1.cell? ⟨g, k * 7 + 4, none⟩ = some (i64 p.h.a) := hc 4 (by omega)
    have q2 : w1.cell? ⟨g, k * 7 + 4 + 0, none⟩ = some (i64 p.h.a) := hc 4 (by omega)
    have q3 : w1.cell? ⟨g, k * 7 + 1 + 0, none⟩ = some (i64 p.q.a) := hc 1 (by omega)
    have HB1 : Hid (Below w.heap.size w w1) := hb1'
    clear hb1 hb1' hx1 hrow hc hbk hao
    go_wp2_with fail
    go_ret
    exact ⟨rfl, HB1.out⟩
  · have h1' : p.q.b - p.h.b < n := by simpa [T.g] using h1
    clear h1
    go_enter Try.func25, Try.ntmps25
    go_wp2_with fail
    refine (rat_ok (HR.out.below (HB0.out _)) HLL.out env).mono ?_
    rintro e w1 ⟨rfl, hb1⟩
    rw [HI.out]
    have hx1 := blk_below (heap_last w _) hb1
    have x0 : w1.cell? ⟨w.heap.size, 0, none⟩ = some (i64 2) := blk_cell hx1 0
    have x1 : w1.cell? ⟨w.heap.size, 1, none⟩ = some (i64 n) := blk_cell hx1 1
    have hb1' : Below w.heap.size w w1 := (HB0.out _).trans (hb1.mono (by simp))
    obtain ⟨ao, cap, hbk, _, hrow⟩ := (HR.out.below hb1').row
    obtain ⟨g, hao, hbg, hgl, hgr, hfz, hc⟩ := hrow k p HP.out
    have HAO : Hid (ao = some ⟨g, 0, none⟩) := hao
    have HBK : Hid (w1.heap[r]? = some (.cells #[i64 t.a, i64 t.b, i64 t.c, .slice ao L.length cap] 33)) := hbk
    have d3 : w1.cell? ⟨r, 3, none⟩ = some (.slice (some ⟨g, 0, none⟩) L.length cap) := by rw [← hao]; exact blk_cell hbk 3
    have q0 : w1.cell? ⟨g, k * 7 + 2, none⟩ = some (i64 p.q.b) := hc 2 (by omega)
    have q1 : w1.cell? ⟨g, k * 7 + 5, none⟩ = some (i64 p.h.b) := hc 5 (by omega)
    have q2 : w1.cell? ⟨g, k * 7 + 4 + 1, none⟩ = some (i64 p.h.b) := hc 5 (by omega)
    have q3 : w1.cell? ⟨g, k * 7 + 1 + 1, none⟩ = some (i64 p.q.b) := hc 2 (by omega)
    have HB1 : Hid (Below w.heap.size w w1) := hb1'
    clear hb1 hb1' hx1 hrow hc hbk hao
    go_wp2_with fail
    go_ret
    exact ⟨rfl, HB1.out⟩
  · have h1' : p.q.c - p.h.c < n := by simpa [T.g] using h1
    clear h1
    go_enter Try.func25, Try.ntmps25
    go_wp2_with fail
    refine (rat_ok (HR.out.below (HB0.out _)) HLL.out env).mono ?_
    rintro e w1 ⟨rfl, hb1⟩
    rw [HI.out]
    have hx1 := blk_below (heap_last w _) hb1
    have x0 : w1.cell? ⟨w.heap.size, 0, none⟩ = some (i64 3) := blk_cell hx1 0
    have x1 : w1.cell? ⟨w.heap.size, 1, none⟩ = some (i64 n) := blk_cell hx1 1
    have hb1' : Below w.heap.size w w1 := (HB0.out _).trans (hb1.mono (by simp))
    obtain ⟨ao, cap, hbk, _, hrow⟩ := (HR.out.below hb1').row
    obtain ⟨g, hao, hbg, hgl, hgr, hfz, hc⟩ := hrow k p HP.out
    have HAO : Hid (ao = some ⟨g, 0, none⟩) := hao
    have HBK : Hid (w1.heap[r]? = some (.cells #[i64 t.a, i64 t.b, i64 t.c, .slice ao L.length cap] 33)) := hbk
    have d3 : w1.cell? ⟨r, 3, none⟩ = some (.slice (some ⟨g, 0, none⟩) L.length cap) := by rw [← hao]; exact blk_cell hbk 3
    have q0 : w1.cell? ⟨g, k * 7 + 3, none⟩ = some (i64 p.q.c) := hc 3 (by omega)
    have q1 : w1.cell? ⟨g, k * 7 + 6, none⟩ = some (i64 p.h.c) := hc 6 (by omega)
    have q2 : w1.cell? ⟨g, k * 7 + 4 + 2, none⟩ = some (i64 p.h.c) := hc 6 (by omega)
    have q3 : w1.cell? ⟨g, k * 7 + 1 + 2, none⟩ = some (i64 p.q.c) := hc 3 (by omega)
    have HB1 : Hid (Below w.heap.size w w1) := hb1'
    clear hb1 hb1' hx1 hrow hc hbk hao
    go_wp2_with fail
    go_ret
    exact ⟨rfl, HB1.out⟩
set_option maxRecDepth 100000 in
set_option maxHeartbeats 1000000 in
theorem rgive_in {w : World} {base r : Nat} {t : T} {L : List Pr} (h : Rb w base r t L) (hl : L.length ≤ 3) (env kind n : Int) (k : Nat) (p : Pr) (hp : L[k]? = some p) (hi : idx L env = k) (hle : Le p.h p.q) (h64 : Le p.q ⟨64, 64, 64⟩) (hk : kind = 1 ∨ kind = 2 ∨ kind = 3) (h0 : 0 ≤ n) (h1 : n ≤ p.h.g kind) :
    Calls Try.prog 25 #[.pointer (some ⟨r, 0, none⟩), i64 env, .agg #[i64 kind, i64 n], .bool true] w fun e w' => e = .returned (i64 0) ∧ Rb w' base r t (L.set k ⟨p.env, p.q, p.h.put kind (p.h.g kind - n)⟩) ∧ Fr base [33, 42] w w' := by
  have a0 := hle.a0; have a1 := hle.a1; have b0 := hle.b0; have b1 := hle.b1; have c0 := hle.c0; have c1 := hle.c1
  have a2 := h64.a1; have b2 := h64.b1; have c2 := h64.c1
  simp only at a2 b2 c2
  have HR : Hid (Rb w base r t L) := h
  have HP : Hid (L[k]? = some p) := hp
  have HI : Hid (idx L env = k) := hi
  have HB0 : Hid (∀ o, Below w.heap.size w (w.alloc o)) := fun o => (Below.refl _ _).alloc (Nat.le_refl _) o
  have hkl : (k : Int) < 3 := by have := (List.getElem?_eq_some_iff.1 hp).1; omega
  have HLL : Hid (L.length ≤ 3) := hl
  have hkN : (k : Int) < L.length := by have := (List.getElem?_eq_some_iff.1 hp).1; omega
  clear h hp hi hle h64 hl
  rcases hk with rfl | rfl | rfl
  · have h1' : n ≤ p.h.a := by simpa [T.g] using h1
    clear h1
    go_enter Try.func25, Try.ntmps25
    go_wp2_with fail
    refine (rat_ok (HR.out.below (HB0.out _)) HLL.out env).mono ?_
    rintro e w1 ⟨rfl, hb1⟩
    rw [HI.out]
    have hx1 := blk_below (heap_last w _) hb1
    have x0 : w1.cell? ⟨w.heap.size, 0, none⟩ = some (i64 1) := blk_cell hx1 0
    have x1 : w1.cell? ⟨w.heap.size, 1, none⟩ = some (i64 n) := blk_cell hx1 1
    have hb1' : Below w.heap.size w w1 := (HB0.out _).trans (hb1.mono (by simp))
    obtain ⟨ao, cap, hbk, _, hrow⟩ := (HR.out.below hb1').row
    obtain ⟨g, hao, hbg, hgl, hgr, hfz, hc⟩ := hrow k p HP.out
    have HAO : Hid (ao = some ⟨g, 0, none⟩) := hao
    have HBK : Hid (w1.heap[r]? = some (.cells #[i64 t.a, i64 t.b, i64 t.c, .slice ao L.length cap] 33)) := hbk
    have d3 : w1.cell? ⟨r, 3, none⟩ = some (.slice (some ⟨g, 0, none⟩) L.length cap) := by rw [← hao]; exact blk_cell hbk 3
    have q0 : w1.cell? ⟨g, k * 7 + 1, none⟩ = some (i64 p.q.a) := hc 1 (by omega)
    have q1 : w1.cell? ⟨g, k * 7 + 4, none⟩ = some (i64 p.h.a) := hc 4 (by omega)
    have q2 : w1.cell? ⟨g, k * 7 + 4 + 0, none⟩ = some (i64 p.h.a) := hc 4 (by omega)
    have q3 : w1.cell? ⟨g, k * 7 + 1 + 0, none⟩ = some (i64 p.q.a) := hc 1 (by omega)
    have HB1 : Hid (Below w.heap.size w w1) := hb1'
    clear hb1 hb1' hx1 hrow hc hbk hao
    go_wp2_with fail
    go_ret
    exact ⟨rfl, HR.out.set HB1.out HP.out HBK.out HAO.out 4 (by omega) (p.h.a - n) ⟨p.env, p.q, p.h.put 1 (p.h.g 1 - n)⟩ rfl⟩
  · have h1' : n ≤ p.h.b := by simpa [T.g] using h1
    clear h1
    go_enter Try.func25, Try.ntmps25
    go_wp2_with fail
    refine (rat_ok (HR.out.below (HB0.out _)) HLL.out env).mono ?_
    rintro e w1 ⟨rfl, hb1⟩
    rw [HI.out]
    have hx1 := blk_below (heap_last w _) hb1
    have x0 : w1.cell? ⟨w.heap.size, 0, none⟩ = some (i64 2) := blk_cell hx1 0
    have x1 : w1.cell? ⟨w.heap.size, 1, none⟩ = some (i64 n) := blk_cell hx1 1
    have hb1' : Below w.heap.size w w1 := (HB0.out _).trans (hb1.mono (by simp))
    obtain ⟨ao, cap, hbk, _, hrow⟩ := (HR.out.below hb1').row
    obtain ⟨g, hao, hbg, hgl, hgr, hfz, hc⟩ := hrow k p HP.out
    have HAO : Hid (ao = some ⟨g, 0, none⟩) := hao
    have HBK : Hid (w1.heap[r]? = some (.cells #[i64 t.a, i64 t.b, i64 t.c, .slice ao L.length cap] 33)) := hbk
    have d3 : w1.cell? ⟨r, 3, none⟩ = some (.slice (some ⟨g, 0, none⟩) L.length cap) := by rw [← hao]; exact blk_cell hbk 3
    have q0 : w1.cell? ⟨g, k * 7 + 2, none⟩ = some (i64 p.q.b) := hc 2 (by omega)
    have q1 : w1.cell? ⟨g, k * 7 + 5, none⟩ = some (i64 p.h.b) := hc 5 (by omega)
    have q2 : w1.cell? ⟨g, k * 7 + 4 + 1, none⟩ = some (i64 p.h.b) := hc 5 (by omega)
    have q3 : w1.cell? ⟨g, k * 7 + 1 + 1, none⟩ = some (i64 p.q.b) := hc 2 (by omega)
    have HB1 : Hid (Below w.heap.size w w1) := hb1'
    clear hb1 hb1' hx1 hrow hc hbk hao
    go_wp2_with fail
    go_ret
    exact ⟨rfl, HR.out.set HB1.out HP.out HBK.out HAO.out 5 (by omega) (p.h.b - n) ⟨p.env, p.q, p.h.put 2 (p.h.g 2 - n)⟩ rfl⟩
  · have h1' : n ≤ p.h.c := by simpa [T.g] using h1
    clear h1
    go_enter Try.func25, Try.ntmps25
    go_wp2_with fail
    refine (rat_ok (HR.out.below (HB0.out _)) HLL.out env).mono ?_
    rintro e w1 ⟨rfl, hb1⟩
    rw [HI.out]
    have hx1 := blk_below (heap_last w _) hb1
    have x0 : w1.cell? ⟨w.heap.size, 0, none⟩ = some (i64 3) := blk_cell hx1 0
    have x1 : w1.cell? ⟨w.heap.size, 1, none⟩ = some (i64 n) := blk_cell hx1 1
    have hb1' : Below w.heap.size w w1 := (HB0.out _).trans (hb1.mono (by simp))
    obtain ⟨ao, cap, hbk, _, hrow⟩ := (HR.out.below hb1').row
    obtain ⟨g, hao, hbg, hgl, hgr, hfz, hc⟩ := hrow k p HP.out
    have HAO : Hid (ao = some ⟨g, 0, none⟩) := hao
    have HBK : Hid (w1.heap[r]? = some (.cells #[i64 t.a, i64 t.b, i64 t.c, .slice ao L.length cap] 33)) := hbk
    have d3 : w1.cell? ⟨r, 3, none⟩ = some (.slice (some ⟨g, 0, none⟩) L.length cap) := by rw [← hao]; exact blk_cell hbk 3
    have q0 : w1.cell? ⟨g, k * 7 + 3, none⟩ = some (i64 p.q.c) := hc 3 (by omega)
    have q1 : w1.cell? ⟨g, k * 7 + 6, none⟩ = some (i64 p.h.c) := hc 6 (by omega)
    have q2 : w1.cell? ⟨g, k * 7 + 4 + 2, none⟩ = some (i64 p.h.c) := hc 6 (by omega)
    have q3 : w1.cell? ⟨g, k * 7 + 1 + 2, none⟩ = some (i64 p.q.c) := hc 3 (by omega)
    have HB1 : Hid (Below w.heap.size w w1) := hb1'
    clear hb1 hb1' hx1 hrow hc hbk hao
    go_wp2_with fail
    go_ret
    exact ⟨rfl, HR.out.set HB1.out HP.out HBK.out HAO.out 6 (by omega) (p.h.c - n) ⟨p.env, p.q, p.h.put 3 (p.h.g 3 - n)⟩ rfl⟩
set_option maxRecDepth 100000 in
set_option maxHeartbeats 1000000 in
theorem rgive_more {w : World} {base r : Nat} {t : T} {L : List Pr} (h : Rb w base r t L) (hl : L.length ≤ 3) (env kind n : Int) (k : Nat) (p : Pr) (hp : L[k]? = some p) (hi : idx L env = k) (hle : Le p.h p.q) (h64 : Le p.q ⟨64, 64, 64⟩) (hk : kind = 1 ∨ kind = 2 ∨ kind = 3) (h0 : 0 ≤ n) (h1 : p.h.g kind < n) :
    Calls Try.prog 25 #[.pointer (some ⟨r, 0, none⟩), i64 env, .agg #[i64 kind, i64 n], .bool true] w fun e w' => e = .returned (i64 1) ∧ Below w.heap.size w w' := by
  have a0 := hle.a0; have a1 := hle.a1; have b0 := hle.b0; have b1 := hle.b1; have c0 := hle.c0; have c1 := hle.c1
  have a2 := h64.a1; have b2 := h64.b1; have c2 := h64.c1
  simp only at a2 b2 c2
  have HR : Hid (Rb w base r t L) := h
  have HP : Hid (L[k]? = some p) := hp
  have HI : Hid (idx L env = k) := hi
  have HB0 : Hid (∀ o, Below w.heap.size w (w.alloc o)) := fun o => (Below.refl _ _).alloc (Nat.le_refl _) o
  have hkl : (k : Int) < 3 := by have := (List.getElem?_eq_some_iff.1 hp).1; omega
  have HLL : Hid (L.length ≤ 3) := hl
  have hkN : (k : Int) < L.length := by have := (List.getElem?_eq_some_iff.1 hp).1; omega
  clear h hp hi hle h64 hl
  rcases hk with rfl | rfl | rfl
  · have h1' : p.h.a < n := by simpa [T.g] using h1
    clear h1
    go_enter Try.func25, Try.ntmps25
    go_wp2_with fail
    refine (rat_ok (HR.out.below (HB0.out _)) HLL.out env).mono ?_
    rintro e w1 ⟨rfl, hb1⟩
    rw [HI.out]
    have hx1 := blk_below (heap_last w _) hb1
    have x0 : w1.cell? ⟨w.heap.size, 0, none⟩ = some (i64 1) := blk_cell hx1 0
    have x1 : w1.cell? ⟨w.heap.size, 1, none⟩ = some (i64 n) := blk_cell hx1 1
    have hb1' : Below w.heap.size w w1 := (HB0.out _).trans (hb1.mono (by simp))
    obtain ⟨ao, cap, hbk, _, hrow⟩ := (HR.out.below hb1').row
    obtain ⟨g, hao, hbg, hgl, hgr, hfz, hc⟩ := hrow k p HP.out
    have HAO : Hid (ao = some ⟨g, 0, none⟩) := hao
    have HBK : Hid (w1.heap[r]? = some (.cells #[i64 t.a, i64 t.b, i64 t.c, .slice ao L.length cap] 33)) := hbk
    have d3 : w1.cell? ⟨r, 3, none⟩ = some (.slice (some ⟨g, 0, none⟩) L.length cap) := by rw [← hao]; exact blk_cell hbk 3
    have q0 : w1.cell? ⟨g, k * 7 + 1, none⟩ = some (i64 p.q.a) := hc 1 (by omega)
    have q1 : w1.cell? ⟨g, k * 7 + 4, none⟩ = some (i64 p.h.a) := hc 4 (by omega)
    have q2 : w1.cell? ⟨g, k * 7 + 4 + 0, none⟩ = some (i64 p.h.a) := hc 4 (by omega)
    have q3 : w1.cell? ⟨g, k * 7 + 1 + 0, none⟩ = some (i64 p.q.a) := hc 1 (by omega)
    have HB1 : Hid (Below w.heap.size w w1) := hb1'
    clear hb1 hb1' hx1 hrow hc hbk hao
    go_wp2_with fail
    go_ret
    exact ⟨rfl, HB1.out⟩
  · have h1' : p.h.b < n := by simpa [T.g] using h1
    clear h1
    go_enter Try.func25, Try.ntmps25
    go_wp2_with fail
    refine (rat_ok (HR.out.below (HB0.out _)) HLL.out env).mono ?_
    rintro e w1 ⟨rfl, hb1⟩
    rw [HI.out]
    have hx1 := blk_below (heap_last w _) hb1
    have x0 : w1.cell? ⟨w.heap.size, 0, none⟩ = some (i64 2) := blk_cell hx1 0
    have x1 : w1.cell? ⟨w.heap.size, 1, none⟩ = some (i64 n) := blk_cell hx1 1
    have hb1' : Below w.heap.size w w1 := (HB0.out _).trans (hb1.mono (by simp))
    obtain ⟨ao, cap, hbk, _, hrow⟩ := (HR.out.below hb1').row
    obtain ⟨g, hao, hbg, hgl, hgr, hfz, hc⟩ := hrow k p HP.out
    have HAO : Hid (ao = some ⟨g, 0, none⟩) := hao
    have HBK : Hid (w1.heap[r]? = some (.cells #[i64 t.a, i64 t.b, i64 t.c, .slice ao L.length cap] 33)) := hbk
    have d3 : w1.cell? ⟨r, 3, none⟩ = some (.slice (some ⟨g, 0, none⟩) L.length cap) := by rw [← hao]; exact blk_cell hbk 3
    have q0 : w1.cell? ⟨g, k * 7 + 2, none⟩ = some (i64 p.q.b) := hc 2 (by omega)
    have q1 : w1.cell? ⟨g, k * 7 + 5, none⟩ = some (i64 p.h.b) := hc 5 (by omega)
    have q2 : w1.cell? ⟨g, k * 7 + 4 + 1, none⟩ = some (i64 p.h.b) := hc 5 (by omega)
    have q3 : w1.cell? ⟨g, k * 7 + 1 + 1, none⟩ = some (i64 p.q.b) := hc 2 (by omega)
    have HB1 : Hid (Below w.heap.size w w1) := hb1'
    clear hb1 hb1' hx1 hrow hc hbk hao
    go_wp2_with fail
    go_ret
    exact ⟨rfl, HB1.out⟩
  · have h1' : p.h.c < n := by simpa [T.g] using h1
    clear h1
    go_enter Try.func25, Try.ntmps25
    go_wp2_with fail
    refine (rat_ok (HR.out.below (HB0.out _)) HLL.out env).mono ?_
    rintro e w1 ⟨rfl, hb1⟩
    rw [HI.out]
    have hx1 := blk_below (heap_last w _) hb1
    have x0 : w1.cell? ⟨w.heap.size, 0, none⟩ = some (i64 3) := blk_cell hx1 0
    have x1 : w1.cell? ⟨w.heap.size, 1, none⟩ = some (i64 n) := blk_cell hx1 1
    have hb1' : Below w.heap.size w w1 := (HB0.out _).trans (hb1.mono (by simp))
    obtain ⟨ao, cap, hbk, _, hrow⟩ := (HR.out.below hb1').row
    obtain ⟨g, hao, hbg, hgl, hgr, hfz, hc⟩ := hrow k p HP.out
    have HAO : Hid (ao = some ⟨g, 0, none⟩) := hao
    have HBK : Hid (w1.heap[r]? = some (.cells #[i64 t.a, i64 t.b, i64 t.c, .slice ao L.length cap] 33)) := hbk
    have d3 : w1.cell? ⟨r, 3, none⟩ = some (.slice (some ⟨g, 0, none⟩) L.length cap) := by rw [← hao]; exact blk_cell hbk 3
    have q0 : w1.cell? ⟨g, k * 7 + 3, none⟩ = some (i64 p.q.c) := hc 3 (by omega)
    have q1 : w1.cell? ⟨g, k * 7 + 6, none⟩ = some (i64 p.h.c) := hc 6 (by omega)
    have q2 : w1.cell? ⟨g, k * 7 + 4 + 2, none⟩ = some (i64 p.h.c) := hc 6 (by omega)
    have q3 : w1.cell? ⟨g, k * 7 + 1 + 2, none⟩ = some (i64 p.q.c) := hc 3 (by omega)
    have HB1 : Hid (Below w.heap.size w w1) := hb1'
    clear hb1 hb1' hx1 hrow hc hbk hao
    go_wp2_with fail
    go_ret
    exact ⟨rfl, HB1.out⟩
set_option maxRecDepth 100000 in
theorem rtake_none {w : World} {base r : Nat} {t : T} {L : List Pr} (h : Rb w base r t L) (hl : L.length ≤ 3) (env kind n : Int) (b : Bool) (hi : idx L env = -1) :
    Calls Try.prog 25 #[.pointer (some ⟨r, 0, none⟩), i64 env, .agg #[i64 kind, i64 n], .bool b] w fun e w' => e = .returned (i64 6) ∧ Below w.heap.size w w' := by
  have HR : Hid (Rb w base r t L) := h
  have HI : Hid (idx L env = -1) := hi
  have HB0 : Hid (∀ o, Below w.heap.size w (w.alloc o)) := fun o => (Below.refl _ _).alloc (Nat.le_refl _) o
  have HLL : Hid (L.length ≤ 3) := hl
  clear h hi hl
  go_enter Try.func25, Try.ntmps25
  go_wp2_with fail
  refine (rat_ok (HR.out.below (HB0.out _)) HLL.out env).mono ?_
  rintro e w1 ⟨rfl, hb1⟩
  rw [HI.out]
  have HB1 : Hid (Below w.heap.size w w1) := (HB0.out _).trans (hb1.mono (by simp))
  clear hb1
  go_wp2_with fail
  go_ret
  exact ⟨rfl, HB1.out⟩
set_option maxRecDepth 100000 in
theorem rtake_wrong {w : World} {base r : Nat} {t : T} {L : List Pr} (h : Rb w base r t L) (hl : L.length ≤ 3) (env kind n : Int) (b : Bool) (k : Nat) (hi : idx L env = k) (hw : wrongB kind n = true) :
    Calls Try.prog 25 #[.pointer (some ⟨r, 0, none⟩), i64 env, .agg #[i64 kind, i64 n], .bool b] w fun e w' => e = .returned (i64 1) ∧ Below w.heap.size w w' := by
  have HR : Hid (Rb w base r t L) := h
  have HI : Hid (idx L env = k) := hi
  have HB0 : Hid (∀ o, Below w.heap.size w (w.alloc o)) := fun o => (Below.refl _ _).alloc (Nat.le_refl _) o
  have HLL : Hid (L.length ≤ 3) := hl
  have hw' : kind < 1 ∨ (¬ kind < 1 ∧ 3 < kind) ∨ (¬ kind < 1 ∧ ¬ 3 < kind ∧ n < 0) := by unfold wrongB at hw; simp at hw; omega
  clear h hi hl hw
  rcases hw' with h1 | ⟨h1, h2⟩ | ⟨h1, h2, h3⟩
  all_goals
    go_enter Try.func25, Try.ntmps25
    go_wp2_with fail
    refine (rat_ok (HR.out.below (HB0.out _)) HLL.out env).mono ?_
    rintro e w1 ⟨rfl, hb1⟩
    rw [HI.out]
    have hx1 := blk_below (heap_last w _) hb1
    have x0 : w1.cell? ⟨w.heap.size, 0, none⟩ = some (i64 kind) := blk_cell hx1 0
    have x1 : w1.cell? ⟨w.heap.size, 1, none⟩ = some (i64 n) := blk_cell hx1 1
    have HB1 : Hid (Below w.heap.size w w1) := (HB0.out _).trans (hb1.mono (by simp))
    clear hb1 hx1
    go_wp2_with fail
    go_ret
    exact ⟨rfl, HB1.out⟩
end Go.Proofs.Ytfnhiefngbcnaaa
