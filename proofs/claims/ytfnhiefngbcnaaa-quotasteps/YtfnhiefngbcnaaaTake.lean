/- quota.Book's Has, Close, Take, Give: their contracts; no statement is proved in this text. -/
import Derived.Test.YtfnhiefngbcnaaaBook
namespace Go.Proofs.Ytfnhiefngbcnaaa
open Go.ChangeShapes Go.WideShapes Go.ChangeAt Go.RowKit Go.Deep

set_option maxRecDepth 100000 in
theorem has_nil (w : World) (env : Int) :
    Calls Try.prog 14 #[.pointer none, i64 env] w fun e w' => e = .returned (.tuple #[zT.v, i64 6]) ∧ Below w.heap.size w w' := by
  have HB : Hid (∀ o, Below w.heap.size w (w.alloc o)) := fun o => (Below.refl _ _).alloc (Nat.le_refl _) o
  go_enter Try.func14, Try.ntmps14
  go_wp2_with (go_at_call 29; refine (pageOf_nil _ _).mono ?_; rintro e w1 ⟨rfl, rfl⟩)
  refine bodyPost_ret (v := .tuple #[zT.v, i64 6]) (by simp [results, Try.results14, go_sem, zT]) rfl ⟨rfl, ?_⟩
  exact HB.out _
set_option maxRecDepth 100000 in
theorem has_ok {w : World} {base b : Nat} {t : T} {s : St} (h : Bk w base b t s) (env : Int) :
    Calls Try.prog 14 #[.pointer (some ⟨b, 0, none⟩), i64 env] w fun e w' => e = .returned (.tuple #[(hT (at_ s env)).v, i64 (pE (at_ s env))]) ∧ Below w.heap.size w w' := by
  have HB : Hid (∀ o, Below w.heap.size w (w.alloc o)) := fun o => (Below.refl _ _).alloc (Nat.le_refl _) o
  have HK : Hid (∀ o, Bk (w.alloc o) base b t s) := fun o => h.below ((Below.refl _ _).alloc (Nat.le_refl _) o)
  cases hx : at_ s env with
  | none =>
    have HX : Hid (at_ s env = none) := hx
    clear h hx
    go_enter Try.func14, Try.ntmps14
    go_wp2_with fail
    refine (pageOf_ok (HK.out _) env).mono ?_
    rintro e w1 ⟨rfl, hb1⟩
    rw [HX.out]
    have hz : w.heap.size < w1.heap.size := by have := hb1.size; simp at this; omega
    have hc : ∀ j, w1.cell? ⟨w.heap.size, j, none⟩ = (#[i64 0, i64 0, i64 0] : Array Value)[j]? := fun j => by
      rw [hb1.cell (by show w.heap.size < _; simp)]; exact blk_cell (heap_last w _) j
    have hf : ∀ j, w1.frozen? ⟨w.heap.size, j, none⟩ = false := fun j => by
      rw [hb1.frozen (by show w.heap.size < _; simp)]; exact blk_frozen (heap_last w _) j
    have c0 : w1.cell? ⟨w.heap.size, 0, none⟩ = some (i64 0) := hc 0
    have c1 : w1.cell? ⟨w.heap.size, 1, none⟩ = some (i64 0) := hc 1
    have c2 : w1.cell? ⟨w.heap.size, 2, none⟩ = some (i64 0) := hc 2
    have HB1 : Hid (Below w.heap.size w w1) := (HB.out _).trans (hb1.mono (by simp))
    clear hb1 hc
    unfold ptr
    go_wp2_with fail
    refine bodyPost_ret (v := .tuple #[zT.v, i64 6]) (by simp [results, Try.results14, go_sem, zT, c0, c1, c2]) rfl ⟨rfl, ?_⟩
    exact ((((HB1.out).setCell (by simp) _).setCell (by simp) _).setCell (by simp) _)
  | some x =>
    have HX : Hid (at_ s env = some x) := hx
    have hp := (h.page _ x (at_some hx).2.2).1
    have hpl := blk_lt hp
    clear h hx
    go_enter Try.func14, Try.ntmps14
    go_wp2_with fail
    refine (pageOf_ok (HK.out _) env).mono ?_
    rintro e w1 ⟨rfl, hb1⟩
    rw [HX.out]
    have hz : w.heap.size < w1.heap.size := by have := hb1.size; simp at this; omega
    have hc : ∀ j, w1.cell? ⟨w.heap.size, j, none⟩ = (#[i64 0, i64 0, i64 0] : Array Value)[j]? := fun j => by
      rw [hb1.cell (by show w.heap.size < _; simp)]; exact blk_cell (heap_last w _) j
    have hf : ∀ j, w1.frozen? ⟨w.heap.size, j, none⟩ = false := fun j => by
      rw [hb1.frozen (by show w.heap.size < _; simp)]; exact blk_frozen (heap_last w _) j
    have hp1 := blk_below (blk_alloc hp _) hb1
    have c0 : w1.cell? ⟨w.heap.size, 0, none⟩ = some (i64 0) := hc 0
    have c1 : w1.cell? ⟨w.heap.size, 1, none⟩ = some (i64 0) := hc 1
    have c2 : w1.cell? ⟨w.heap.size, 2, none⟩ = some (i64 0) := hc 2
    have d0 : w1.cell? ⟨x.p, 3, none⟩ = some (i64 x.h.a) := blk_cell hp1 3
    have d1 : w1.cell? ⟨x.p, 4, none⟩ = some (i64 x.h.b) := blk_cell hp1 4
    have d2 : w1.cell? ⟨x.p, 5, none⟩ = some (i64 x.h.c) := blk_cell hp1 5
    have HB1 : Hid (Below w.heap.size w w1) := (HB.out _).trans (hb1.mono (by simp))
    clear hb1 hc hp1 hp
    unfold ptr
    go_wp2_with fail
    refine bodyPost_ret (v := .tuple #[x.h.v, i64 0]) (by simp [results, Try.results14, go_sem, c0, c1, c2]) rfl ⟨rfl, ?_⟩
    exact ((((HB1.out).setCell (by simp) _).setCell (by simp) _).setCell (by simp) _)
end Go.Proofs.Ytfnhiefngbcnaaa
