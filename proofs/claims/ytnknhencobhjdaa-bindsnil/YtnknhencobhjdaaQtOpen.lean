/- quota.Book's Open: its contract; no statement is proved in this text. -/
import Derived.Test.YtnknhencobhjdaaQtSums
namespace Go.Proofs.Ytnknhencobhjdaa.Qt
open Go.ChangeShapes Go.WideShapes Go.ChangeAt Go.RowKit Go.Deep

def badB (env : Int) (q : T) : Bool := outB 1 3 [env] || outB 0 9223372036854775807 q.l
set_option maxRecDepth 100000 in
theorem open_bad (w : World) (bv : Value) (env : Int) (q : T) (hbad : badB env q = true) :
    Calls Try.prog 53 #[bv, i64 env, q.v] w fun e w' => e = .returned (i64 1) ∧ Below w.heap.size w w' := by
  have HB : Hid (∀ o o', Below w.heap.size w ((w.alloc o).alloc o')) := fun o o' => ((Below.refl _ _).alloc (Nat.le_refl _) o).alloc (by simp) o'
  unfold badB at hbad
  by_cases h1 : outB 1 3 [env] = true
  · have H1 : Hid (outB 1 3 [env] = true) := h1
    clear hbad h1
    go_enter Try.func53, Try.ntmps53
    go_wp2_with fail
    refine (outside_one _ 1 3 env _ (heap_last2 w _ _)).mono ?_
    rintro e w1 ⟨rfl, rfl⟩
    rw [H1.out]
    go_wp2_with fail
    go_ret
    exact ⟨rfl, HB.out _ _⟩
  · have h1' : outB 1 3 [env] = false := by simpa using h1
    have h2 : outB 0 9223372036854775807 q.l = true := by simpa [h1'] using hbad
    have H1 : Hid (outB 1 3 [env] = false) := h1'
    have H2 : Hid (outB 0 9223372036854775807 q.l = true) := h2
    clear hbad h1 h1' h2
    go_enter Try.func53, Try.ntmps53
    go_wp2_with fail
    refine (outside_one _ 1 3 env _ (heap_last2 w _ _)).mono ?_
    rintro e w1 ⟨rfl, rfl⟩
    rw [H1.out]
    go_wp2_with fail
    refine (outside_tri _ 0 9223372036854775807 q _ (blk_alloc (heap_last w _) _)).mono ?_
    rintro e w1 ⟨rfl, rfl⟩
    rw [H2.out]
    go_wp2_with fail
    go_ret
    exact ⟨rfl, HB.out _ _⟩
set_option maxRecDepth 100000 in
theorem open_nil (w : World) (env : Int) (q : T) (hbad : badB env q = false) :
    Calls Try.prog 53 #[.pointer none, i64 env, q.v] w fun e w' => e = .returned (i64 7) ∧ Below w.heap.size w w' := by
  have HB : Hid (∀ o o', Below w.heap.size w ((w.alloc o).alloc o')) := fun o o' => ((Below.refl _ _).alloc (Nat.le_refl _) o).alloc (by simp) o'
  unfold badB at hbad
  rw [Bool.or_eq_false_iff] at hbad
  have H1 : Hid (outB 1 3 [env] = false) := hbad.1
  have H2 : Hid (outB 0 9223372036854775807 q.l = false) := hbad.2
  clear hbad
  go_enter Try.func53, Try.ntmps53
  go_wp2_with fail
  refine (outside_one _ 1 3 env _ (heap_last2 w _ _)).mono ?_
  rintro e w1 ⟨rfl, rfl⟩
  rw [H1.out]
  go_wp2_with fail
  refine (outside_tri _ 0 9223372036854775807 q _ (blk_alloc (heap_last w _) _)).mono ?_
  rintro e w1 ⟨rfl, rfl⟩
  rw [H2.out]
  go_wp2_with fail
  go_ret
  exact ⟨rfl, HB.out _ _⟩
set_option maxRecDepth 100000 in
theorem open_same {w : World} {base b : Nat} {t : T} {s : St} (h : Bk w base b t s) (env : Int) (q : T) (hbad : badB env q = false) (x : Pge) (hx : at_ s env = some x) :
    Calls Try.prog 53 #[.pointer (some ⟨b, 0, none⟩), i64 env, q.v] w fun e w' => e = .returned (i64 8) ∧ Below w.heap.size w w' := by
  have HB : Hid (∀ o o', Below w.heap.size w ((w.alloc o).alloc o')) := fun o o' => ((Below.refl _ _).alloc (Nat.le_refl _) o).alloc (by simp) o'
  have HK : Hid (Bk w base b t s) := h
  have HX : Hid (at_ s env = some x) := hx
  unfold badB at hbad
  rw [Bool.or_eq_false_iff] at hbad
  have H1 : Hid (outB 1 3 [env] = false) := hbad.1
  have H2 : Hid (outB 0 9223372036854775807 q.l = false) := hbad.2
  clear hbad h hx
  go_enter Try.func53, Try.ntmps53
  go_wp2_with fail
  refine (outside_one _ 1 3 env _ (heap_last2 w _ _)).mono ?_
  rintro e w1 ⟨rfl, rfl⟩
  rw [H1.out]
  go_wp2_with fail
  refine (outside_tri _ 0 9223372036854775807 q _ (blk_alloc (heap_last w _) _)).mono ?_
  rintro e w1 ⟨rfl, rfl⟩
  rw [H2.out]
  go_wp2_with fail
  refine (pageOf_ok (HK.out.below (HB.out _ _)) env).mono ?_
  rintro e w2 ⟨rfl, hb2⟩
  rw [HX.out]
  have HB2 : Hid (Below w.heap.size w w2) := (HB.out _ _).trans (hb2.mono (by simp; omega))
  clear hb2
  unfold ptr
  go_wp2_with fail
  go_ret
  exact ⟨rfl, HB2.out⟩

/-- A page is put into the book. -/
theorem Bk.enter {w w' : World} {base b : Nat} {t : T} {s : St} (h : Bk w base b t s) {e : Nat} (q : T) (p : Nat) (hp : w.heap[p]? = some (pgO q zT)) (hlo : base ≤ p) (hn : ∀ i y, s i = some y → y.p ≠ p) (hw : Wf t (upd s e (some ⟨p, q, zT⟩))) (ht : Touch b w w') (hb : w'.heap[b]? = some (bkO t (upd s e (some ⟨p, q, zT⟩)))) :
    Bk w' base b t (upd s e (some ⟨p, q, zT⟩)) ∧ Fr base [118, 141] w w' := by
  have hne : ∀ i y, s i = some y → y.p ≠ b := fun i y hy e => by have h1 := h.book; rw [← e, (h.page i y hy).1] at h1; simp at h1
  have hpb : p ≠ b := fun e => by have h1 := h.book; rw [← e, hp] at h1; simp at h1
  refine ⟨⟨hb, h.lo, fun i y hy => ?_, fun i j y z hy hz hij => ?_, hw⟩, Fr.of_touch ht h.book (by rfl) h.lo⟩
  · unfold upd at hy
    by_cases hi : i = e
    · rw [if_pos hi] at hy
      cases hy
      exact ⟨by rw [ht.block p (blk_lt hp) hpb]; exact hp, hlo⟩
    · rw [if_neg hi] at hy
      have := h.page i y hy
      exact ⟨by rw [ht.block y.p (blk_lt this.1) (hne i y hy)]; exact this.1, this.2⟩
  · unfold upd at hy hz
    by_cases hi : i = e <;> by_cases hj : j = e
    · omega
    · rw [if_pos hi] at hy
      rw [if_neg hj] at hz
      cases hy
      exact fun e => hn j z hz e.symm
    · rw [if_neg hi] at hy
      rw [if_pos hj] at hz
      cases hz
      exact hn i y hy
    · rw [if_neg hi] at hy
      rw [if_neg hj] at hz
      exact h.apart i j y z hy hz hij
end Go.Proofs.Ytnknhencobhjdaa.Qt
