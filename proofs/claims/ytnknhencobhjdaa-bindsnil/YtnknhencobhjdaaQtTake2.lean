/- quota.Book's Close, Take, Give: their contracts; no statement is proved in this text. -/
import Derived.Test.YtnknhencobhjdaaQtTake
namespace Go.Proofs.Ytnknhencobhjdaa.Qt
open Go.ChangeShapes Go.WideShapes Go.ChangeAt Go.RowKit Go.Deep

def T.g (t : T) (k : Int) : Int := if k = 1 then t.a else if k = 2 then t.b else t.c
def T.put (t : T) (k : Int) (v : Int) : T := if k = 1 then ⟨v, t.b, t.c⟩ else if k = 2 then ⟨t.a, v, t.c⟩ else ⟨t.a, t.b, v⟩
def tkE (o : Option Pge) (kind n : Int) : Int :=
  match o with
  | none => 6
  | some x => if wrongB kind n = true then 1 else if x.q.g kind - x.h.g kind < n then 100 else 0
def tkS (s : St) (env kind n : Int) : St :=
  match at_ s env with
  | none => s
  | some x => if wrongB kind n = true ∨ x.q.g kind - x.h.g kind < n then s else upd s (env - 1).toNat (some ⟨x.p, x.q, x.h.put kind (x.h.g kind + n)⟩)
def gvE (o : Option Pge) (kind n : Int) : Int :=
  match o with
  | none => 6
  | some x => if wrongB kind n = true then 1 else if x.h.g kind < n then 1 else 0
def gvS (s : St) (env kind n : Int) : St :=
  match at_ s env with
  | none => s
  | some x => if wrongB kind n = true ∨ x.h.g kind < n then s else upd s (env - 1).toNat (some ⟨x.p, x.q, x.h.put kind (x.h.g kind - n)⟩)

/-- A page's has is put anew. -/
theorem Bk.set {w w' : World} {base b : Nat} {t : T} {s : St} (h : Bk w base b t s) {e : Nat} {x : Pge} (hx : s e = some x) (h' : T) (ht : Touch x.p w w') (hp : w'.heap[x.p]? = some (pgO x.q h')) (hl : Le h' x.q) :
    Bk w' base b t (upd s e (some ⟨x.p, x.q, h'⟩)) ∧ Fr base [118, 141] w w' := by
  have hpx := h.page e x hx
  have hne : b ≠ x.p := fun e => by have h1 := h.book; rw [e, hpx.1] at h1; simp at h1
  have hq : ∀ i, qT (upd s e (some ⟨x.p, x.q, h'⟩) i) = qT (s i) := fun i => by
    unfold upd
    by_cases hi : i = e
    · rw [if_pos hi, hi, hx]; rfl
    · rw [if_neg hi]
  have hpt : ∀ i, ptr (upd s e (some ⟨x.p, x.q, h'⟩) i) = ptr (s i) := fun i => by
    unfold upd
    by_cases hi : i = e
    · rw [if_pos hi, hi, hx]; rfl
    · rw [if_neg hi]
  refine ⟨⟨?_, h.lo, ?_, ?_, ⟨?_, h.wf.tot, ?_, ?_, ?_, ?_⟩⟩, Fr.of_touch ht hpx.1 (by rfl) hpx.2⟩
  · rw [ht.block b (blk_lt h.book) hne]
    unfold bkO
    rw [hpt, hpt, hpt]
    exact h.book
  · intro i y hy
    unfold upd at hy
    by_cases hi : i = e
    · rw [if_pos hi] at hy
      cases hy
      exact ⟨hp, hpx.2⟩
    · rw [if_neg hi] at hy
      have := h.page i y hy
      exact ⟨by rw [ht.block y.p (blk_lt this.1) (h.apart i e y x hy hx hi)]; exact this.1, this.2⟩
  · intro i j y z hy hz hij
    unfold upd at hy hz
    by_cases hi : i = e <;> by_cases hj : j = e
    · omega
    · rw [if_pos hi] at hy
      rw [if_neg hj] at hz
      cases hy
      exact h.apart e j x z hx hz (by omega)
    · rw [if_neg hi] at hy
      rw [if_pos hj] at hz
      cases hz
      exact h.apart i e y x hy hx hi
    · rw [if_neg hi] at hy
      rw [if_neg hj] at hz
      exact h.apart i j y z hy hz hij
  · intro i hi
    unfold upd
    by_cases hi' : i = e
    · have := h.wf.out i hi; rw [hi', hx] at this; cases this
    · rw [if_neg hi']; exact h.wf.out i hi
  · intro i
    rw [hq]
    unfold upd
    by_cases hi : i = e
    · rw [if_pos hi, hi, hx]; exact hl
    · rw [if_neg hi]; exact h.wf.le i
  · rw [hq, hq, hq]; exact h.wf.sa
  · rw [hq, hq, hq]; exact h.wf.sb
  · rw [hq, hq, hq]; exact h.wf.sc

/-- Take of a page: what becomes of the world. -/
theorem touch_set {w w1 : World} {p : Nat} {q h : T} (hp : w.heap[p]? = some (pgO q h)) (hb : Below w.heap.size w w1) (n : Nat) (j : Nat) (v : Int) :
    Touch p w ((w1.drewN n).setCell ⟨p, j, none⟩ (i64 v)) ∧ ((w1.drewN n).setCell ⟨p, j, none⟩ (i64 v)).heap[p]? = some (.cells (#[i64 q.a, i64 q.b, i64 q.c, i64 h.a, i64 h.b, i64 h.c].setIfInBounds j (i64 v)) 141) := by
  have h1 := blk_below hp hb
  have ht : Touch p w w1 := ⟨hb.os, hb.tape, hb.output, hb.size, fun k hk _ => hb.block k hk⟩
  exact ⟨(ht.drewN n).setCell rfl _, heap_setCell_same (w1.drewN n) p j _ 141 _ h1⟩

theorem Le.put {h q : T} (hl : Le h q) (k v : Int) (h0 : 0 ≤ v) (h1 : v ≤ q.g k) : Le (h.put k v) q := by
  obtain ⟨a0, a1, b0, b1, c0, c1⟩ := hl
  unfold T.g at h1
  unfold T.put
  by_cases k1 : k = 1
  · rw [if_pos k1] at h1 ⊢; exact ⟨h0, h1, b0, b1, c0, c1⟩
  · rw [if_neg k1] at h1 ⊢
    by_cases k2 : k = 2
    · rw [if_pos k2] at h1 ⊢; exact ⟨a0, a1, h0, h1, c0, c1⟩
    · rw [if_neg k2] at h1 ⊢; exact ⟨a0, a1, b0, b1, h0, h1⟩
set_option maxRecDepth 100000 in
set_option maxHeartbeats 1000000 in
theorem take_in {w : World} {base b : Nat} {t : T} {s : St} (h : Bk w base b t s) (env kind n : Int) (x : Pge) (hx : at_ s env = some x) (hk : kind = 1 ∨ kind = 2 ∨ kind = 3) (h0 : 0 ≤ n) (hm : n ≤ 9223372036854775807) (h1 : n ≤ x.q.g kind - x.h.g kind) :
    Calls Try.prog 57 #[.pointer (some ⟨b, 0, none⟩), i64 env, i64 kind, i64 n] w fun e w' => e = .returned (i64 0) ∧ Bk w' base b t (upd s (env - 1).toNat (some ⟨x.p, x.q, x.h.put kind (x.h.g kind + n)⟩)) ∧ Fr base [118, 141] w w' := by
  have HK : Hid (Bk w base b t s) := h
  have hs := (at_some hx).2.2
  have HS : Hid (s (env - 1).toNat = some x) := hs
  have HX : Hid (at_ s env = some x) := hx
  have hp := (h.page _ x hs).1
  have HP : Hid (w.heap[x.p]? = some (pgO x.q x.h)) := hp
  have hle := h.wf.le_at hs
  have h64 := h.wf.le64 hs
  have HL : Hid (Le x.h x.q) := hle
  have a0 := hle.a0; have a1 := hle.a1; have b0 := hle.b0; have b1 := hle.b1; have c0 := hle.c0; have c1 := hle.c1
  have a2 := h64.a1; have b2 := h64.b1; have c2 := h64.c1
  simp only at a2 b2 c2
  have hw : wrongB kind n = false := by unfold wrongB; simp; omega
  have HW : Hid (wrongB kind n = false) := hw
  clear hw h hs hx hp hle h64
  rcases hk with rfl | rfl | rfl
  · have h1' : n ≤ x.q.a - x.h.a := by simpa [T.g] using h1
    clear h1
    go_enter Try.func57, Try.ntmps57
    go_wp2_with fail
    refine (pageOf_ok HK.out env).mono ?_
    rintro e w1 ⟨rfl, hb1⟩
    rw [HX.out]
    have HB1 : Hid (Below w.heap.size w w1) := hb1
    clear hb1
    unfold ptr
    go_wp2_with fail
    refine (wrong_ok w1 _ n (by omega)).mono ?_
    rintro e w2 ⟨rfl, hb2⟩
    rw [HW.out]
    have hb2' := HB1.out.trans (hb2.mono HB1.out.size)
    have hp2 := blk_below HP.out hb2'
    have d0 : w2.cell? ⟨x.p, 0, none⟩ = some (i64 x.q.a) := blk_cell hp2 0
    have d3 : w2.cell? ⟨x.p, 3, none⟩ = some (i64 x.h.a) := blk_cell hp2 3
    have f3 : w2.frozen? ⟨x.p, 3, none⟩ = false := blk_frozen hp2 3
    have HB2 : Hid (Below w.heap.size w w2) := hb2'
    clear hb2 hb2' hp2
    go_wp2_with fail
    go_quiet (fail)
    go_wp2_with fail
    go_region
    all_goals go_wp2_with fail
    go_ret
    have ht := touch_set HP.out HB2.out (nq + 1) 3 (x.h.a + n)
    exact ⟨rfl, HK.out.set HS.out (x.h.put 1 (x.h.g 1 + n)) ht.1 (ht.2.trans (by rfl)) (HL.out.put 1 _ (by simp [T.g]; omega) (by simp [T.g]; omega))⟩
  · have h1' : n ≤ x.q.b - x.h.b := by simpa [T.g] using h1
    clear h1
    go_enter Try.func57, Try.ntmps57
    go_wp2_with fail
    refine (pageOf_ok HK.out env).mono ?_
    rintro e w1 ⟨rfl, hb1⟩
    rw [HX.out]
    have HB1 : Hid (Below w.heap.size w w1) := hb1
    clear hb1
    unfold ptr
    go_wp2_with fail
    refine (wrong_ok w1 _ n (by omega)).mono ?_
    rintro e w2 ⟨rfl, hb2⟩
    rw [HW.out]
    have hb2' := HB1.out.trans (hb2.mono HB1.out.size)
    have hp2 := blk_below HP.out hb2'
    have d0 : w2.cell? ⟨x.p, 1, none⟩ = some (i64 x.q.b) := blk_cell hp2 1
    have d3 : w2.cell? ⟨x.p, 4, none⟩ = some (i64 x.h.b) := blk_cell hp2 4
    have f3 : w2.frozen? ⟨x.p, 4, none⟩ = false := blk_frozen hp2 4
    have HB2 : Hid (Below w.heap.size w w2) := hb2'
    clear hb2 hb2' hp2
    go_wp2_with fail
    go_quiet (fail)
    go_wp2_with fail
    go_region
    all_goals go_wp2_with fail
    go_ret
    have ht := touch_set HP.out HB2.out (nq + 1) 4 (x.h.b + n)
    exact ⟨rfl, HK.out.set HS.out (x.h.put 2 (x.h.g 2 + n)) ht.1 (ht.2.trans (by rfl)) (HL.out.put 2 _ (by simp [T.g]; omega) (by simp [T.g]; omega))⟩
  · have h1' : n ≤ x.q.c - x.h.c := by simpa [T.g] using h1
    clear h1
    go_enter Try.func57, Try.ntmps57
    go_wp2_with fail
    refine (pageOf_ok HK.out env).mono ?_
    rintro e w1 ⟨rfl, hb1⟩
    rw [HX.out]
    have HB1 : Hid (Below w.heap.size w w1) := hb1
    clear hb1
    unfold ptr
    go_wp2_with fail
    refine (wrong_ok w1 _ n (by omega)).mono ?_
    rintro e w2 ⟨rfl, hb2⟩
    rw [HW.out]
    have hb2' := HB1.out.trans (hb2.mono HB1.out.size)
    have hp2 := blk_below HP.out hb2'
    have d0 : w2.cell? ⟨x.p, 2, none⟩ = some (i64 x.q.c) := blk_cell hp2 2
    have d3 : w2.cell? ⟨x.p, 5, none⟩ = some (i64 x.h.c) := blk_cell hp2 5
    have f3 : w2.frozen? ⟨x.p, 5, none⟩ = false := blk_frozen hp2 5
    have HB2 : Hid (Below w.heap.size w w2) := hb2'
    clear hb2 hb2' hp2
    go_wp2_with fail
    go_quiet (fail)
    go_wp2_with fail
    go_region
    all_goals go_wp2_with fail
    go_ret
    have ht := touch_set HP.out HB2.out (nq + 1) 5 (x.h.c + n)
    exact ⟨rfl, HK.out.set HS.out (x.h.put 3 (x.h.g 3 + n)) ht.1 (ht.2.trans (by rfl)) (HL.out.put 3 _ (by simp [T.g]; omega) (by simp [T.g]; omega))⟩
set_option maxRecDepth 100000 in
set_option maxHeartbeats 1000000 in
theorem take_more {w : World} {base b : Nat} {t : T} {s : St} (h : Bk w base b t s) (env kind n : Int) (x : Pge) (hx : at_ s env = some x) (hk : kind = 1 ∨ kind = 2 ∨ kind = 3) (h0 : 0 ≤ n) (hm : n ≤ 9223372036854775807) (h1 : x.q.g kind - x.h.g kind < n) :
    Calls Try.prog 57 #[.pointer (some ⟨b, 0, none⟩), i64 env, i64 kind, i64 n] w fun e w' => e = .returned (i64 100) ∧ Below w.heap.size w w' := by
  have HK : Hid (Bk w base b t s) := h
  have hs := (at_some hx).2.2
  have HS : Hid (s (env - 1).toNat = some x) := hs
  have HX : Hid (at_ s env = some x) := hx
  have hp := (h.page _ x hs).1
  have HP : Hid (w.heap[x.p]? = some (pgO x.q x.h)) := hp
  have hle := h.wf.le_at hs
  have h64 := h.wf.le64 hs
  have HL : Hid (Le x.h x.q) := hle
  have a0 := hle.a0; have a1 := hle.a1; have b0 := hle.b0; have b1 := hle.b1; have c0 := hle.c0; have c1 := hle.c1
  have a2 := h64.a1; have b2 := h64.b1; have c2 := h64.c1
  simp only at a2 b2 c2
  have hw : wrongB kind n = false := by unfold wrongB; simp; omega
  have HW : Hid (wrongB kind n = false) := hw
  clear hw h hs hx hp hle h64
  rcases hk with rfl | rfl | rfl
  · have h1' : x.q.a - x.h.a < n := by simpa [T.g] using h1
    clear h1
    go_enter Try.func57, Try.ntmps57
    go_wp2_with fail
    refine (pageOf_ok HK.out env).mono ?_
    rintro e w1 ⟨rfl, hb1⟩
    rw [HX.out]
    have HB1 : Hid (Below w.heap.size w w1) := hb1
    clear hb1
    unfold ptr
    go_wp2_with fail
    refine (wrong_ok w1 _ n (by omega)).mono ?_
    rintro e w2 ⟨rfl, hb2⟩
    rw [HW.out]
    have hb2' := HB1.out.trans (hb2.mono HB1.out.size)
    have hp2 := blk_below HP.out hb2'
    have d0 : w2.cell? ⟨x.p, 0, none⟩ = some (i64 x.q.a) := blk_cell hp2 0
    have d3 : w2.cell? ⟨x.p, 3, none⟩ = some (i64 x.h.a) := blk_cell hp2 3
    have f3 : w2.frozen? ⟨x.p, 3, none⟩ = false := blk_frozen hp2 3
    have HB2 : Hid (Below w.heap.size w w2) := hb2'
    clear hb2 hb2' hp2
    go_wp2_with fail
    go_quiet (fail)
    go_wp2_with fail
    go_ret
    exact ⟨rfl, below_drewN HB2.out _⟩
  · have h1' : x.q.b - x.h.b < n := by simpa [T.g] using h1
    clear h1
    go_enter Try.func57, Try.ntmps57
    go_wp2_with fail
    refine (pageOf_ok HK.out env).mono ?_
    rintro e w1 ⟨rfl, hb1⟩
    rw [HX.out]
    have HB1 : Hid (Below w.heap.size w w1) := hb1
    clear hb1
    unfold ptr
    go_wp2_with fail
    refine (wrong_ok w1 _ n (by omega)).mono ?_
    rintro e w2 ⟨rfl, hb2⟩
    rw [HW.out]
    have hb2' := HB1.out.trans (hb2.mono HB1.out.size)
    have hp2 := blk_below HP.out hb2'
    have d0 : w2.cell? ⟨x.p, 1, none⟩ = some (i64 x.q.b) := blk_cell hp2 1
    have d3 : w2.cell? ⟨x.p, 4, none⟩ = some (i64 x.h.b) := blk_cell hp2 4
    have f3 : w2.frozen? ⟨x.p, 4, none⟩ = false := blk_frozen hp2 4
    have HB2 : Hid (Below w.heap.size w w2) := hb2'
    clear hb2 hb2' hp2
    go_wp2_with fail
    go_quiet (fail)
    go_wp2_with fail
    go_ret
    exact ⟨rfl, below_drewN HB2.out _⟩
  · have h1' : x.q.c - x.h.c < n := by simpa [T.g] using h1
    clear h1
    go_enter Try.func57, Try.ntmps57
    go_wp2_with fail
    refine (pageOf_ok HK.out env).mono ?_
    rintro e w1 ⟨rfl, hb1⟩
    rw [HX.out]
    have HB1 : Hid (Below w.heap.size w w1) := hb1
    clear hb1
    unfold ptr
    go_wp2_with fail
    refine (wrong_ok w1 _ n (by omega)).mono ?_
    rintro e w2 ⟨rfl, hb2⟩
    rw [HW.out]
    have hb2' := HB1.out.trans (hb2.mono HB1.out.size)
    have hp2 := blk_below HP.out hb2'
    have d0 : w2.cell? ⟨x.p, 2, none⟩ = some (i64 x.q.c) := blk_cell hp2 2
    have d3 : w2.cell? ⟨x.p, 5, none⟩ = some (i64 x.h.c) := blk_cell hp2 5
    have f3 : w2.frozen? ⟨x.p, 5, none⟩ = false := blk_frozen hp2 5
    have HB2 : Hid (Below w.heap.size w w2) := hb2'
    clear hb2 hb2' hp2
    go_wp2_with fail
    go_quiet (fail)
    go_wp2_with fail
    go_ret
    exact ⟨rfl, below_drewN HB2.out _⟩
set_option maxRecDepth 100000 in
set_option maxHeartbeats 1000000 in
theorem give_in {w : World} {base b : Nat} {t : T} {s : St} (h : Bk w base b t s) (env kind n : Int) (x : Pge) (hx : at_ s env = some x) (hk : kind = 1 ∨ kind = 2 ∨ kind = 3) (h0 : 0 ≤ n) (hm : n ≤ 9223372036854775807) (h1 : n ≤ x.h.g kind) :
    Calls Try.prog 55 #[.pointer (some ⟨b, 0, none⟩), i64 env, i64 kind, i64 n] w fun e w' => e = .returned (i64 0) ∧ Bk w' base b t (upd s (env - 1).toNat (some ⟨x.p, x.q, x.h.put kind (x.h.g kind - n)⟩)) ∧ Fr base [118, 141] w w' := by
  have HK : Hid (Bk w base b t s) := h
  have hs := (at_some hx).2.2
  have HS : Hid (s (env - 1).toNat = some x) := hs
  have HX : Hid (at_ s env = some x) := hx
  have hp := (h.page _ x hs).1
  have HP : Hid (w.heap[x.p]? = some (pgO x.q x.h)) := hp
  have hle := h.wf.le_at hs
  have h64 := h.wf.le64 hs
  have HL : Hid (Le x.h x.q) := hle
  have a0 := hle.a0; have a1 := hle.a1; have b0 := hle.b0; have b1 := hle.b1; have c0 := hle.c0; have c1 := hle.c1
  have a2 := h64.a1; have b2 := h64.b1; have c2 := h64.c1
  simp only at a2 b2 c2
  have hw : wrongB kind n = false := by unfold wrongB; simp; omega
  have HW : Hid (wrongB kind n = false) := hw
  clear hw h hs hx hp hle h64
  rcases hk with rfl | rfl | rfl
  · have h1' : n ≤ x.h.a := by simpa [T.g] using h1
    clear h1
    go_enter Try.func55, Try.ntmps55
    go_wp2_with fail
    refine (pageOf_ok HK.out env).mono ?_
    rintro e w1 ⟨rfl, hb1⟩
    rw [HX.out]
    have HB1 : Hid (Below w.heap.size w w1) := hb1
    clear hb1
    unfold ptr
    go_wp2_with fail
    refine (wrong_ok w1 _ n (by omega)).mono ?_
    rintro e w2 ⟨rfl, hb2⟩
    rw [HW.out]
    have hb2' := HB1.out.trans (hb2.mono HB1.out.size)
    have hp2 := blk_below HP.out hb2'
    have d0 : w2.cell? ⟨x.p, 0, none⟩ = some (i64 x.q.a) := blk_cell hp2 0
    have d3 : w2.cell? ⟨x.p, 3, none⟩ = some (i64 x.h.a) := blk_cell hp2 3
    have f3 : w2.frozen? ⟨x.p, 3, none⟩ = false := blk_frozen hp2 3
    have HB2 : Hid (Below w.heap.size w w2) := hb2'
    clear hb2 hb2' hp2
    go_wp2_with fail
    go_region
    all_goals go_wp2_with fail
    go_ret
    have ht := touch_set HP.out HB2.out 1 3 (x.h.a - n)
    exact ⟨rfl, HK.out.set HS.out (x.h.put 1 (x.h.g 1 - n)) ht.1 (ht.2.trans (by rfl)) (HL.out.put 1 _ (by simp [T.g]; omega) (by simp [T.g]; omega))⟩
  · have h1' : n ≤ x.h.b := by simpa [T.g] using h1
    clear h1
    go_enter Try.func55, Try.ntmps55
    go_wp2_with fail
    refine (pageOf_ok HK.out env).mono ?_
    rintro e w1 ⟨rfl, hb1⟩
    rw [HX.out]
    have HB1 : Hid (Below w.heap.size w w1) := hb1
    clear hb1
    unfold ptr
    go_wp2_with fail
    refine (wrong_ok w1 _ n (by omega)).mono ?_
    rintro e w2 ⟨rfl, hb2⟩
    rw [HW.out]
    have hb2' := HB1.out.trans (hb2.mono HB1.out.size)
    have hp2 := blk_below HP.out hb2'
    have d0 : w2.cell? ⟨x.p, 1, none⟩ = some (i64 x.q.b) := blk_cell hp2 1
    have d3 : w2.cell? ⟨x.p, 4, none⟩ = some (i64 x.h.b) := blk_cell hp2 4
    have f3 : w2.frozen? ⟨x.p, 4, none⟩ = false := blk_frozen hp2 4
    have HB2 : Hid (Below w.heap.size w w2) := hb2'
    clear hb2 hb2' hp2
    go_wp2_with fail
    go_region
    all_goals go_wp2_with fail
    go_ret
    have ht := touch_set HP.out HB2.out 1 4 (x.h.b - n)
    exact ⟨rfl, HK.out.set HS.out (x.h.put 2 (x.h.g 2 - n)) ht.1 (ht.2.trans (by rfl)) (HL.out.put 2 _ (by simp [T.g]; omega) (by simp [T.g]; omega))⟩
  · have h1' : n ≤ x.h.c := by simpa [T.g] using h1
    clear h1
    go_enter Try.func55, Try.ntmps55
    go_wp2_with fail
    refine (pageOf_ok HK.out env).mono ?_
    rintro e w1 ⟨rfl, hb1⟩
    rw [HX.out]
    have HB1 : Hid (Below w.heap.size w w1) := hb1
    clear hb1
    unfold ptr
    go_wp2_with fail
    refine (wrong_ok w1 _ n (by omega)).mono ?_
    rintro e w2 ⟨rfl, hb2⟩
    rw [HW.out]
    have hb2' := HB1.out.trans (hb2.mono HB1.out.size)
    have hp2 := blk_below HP.out hb2'
    have d0 : w2.cell? ⟨x.p, 2, none⟩ = some (i64 x.q.c) := blk_cell hp2 2
    have d3 : w2.cell? ⟨x.p, 5, none⟩ = some (i64 x.h.c) := blk_cell hp2 5
    have f3 : w2.frozen? ⟨x.p, 5, none⟩ = false := blk_frozen hp2 5
    have HB2 : Hid (Below w.heap.size w w2) := hb2'
    clear hb2 hb2' hp2
    go_wp2_with fail
    go_region
    all_goals go_wp2_with fail
    go_ret
    have ht := touch_set HP.out HB2.out 1 5 (x.h.c - n)
    exact ⟨rfl, HK.out.set HS.out (x.h.put 3 (x.h.g 3 - n)) ht.1 (ht.2.trans (by rfl)) (HL.out.put 3 _ (by simp [T.g]; omega) (by simp [T.g]; omega))⟩
set_option maxRecDepth 100000 in
set_option maxHeartbeats 1000000 in
theorem give_more {w : World} {base b : Nat} {t : T} {s : St} (h : Bk w base b t s) (env kind n : Int) (x : Pge) (hx : at_ s env = some x) (hk : kind = 1 ∨ kind = 2 ∨ kind = 3) (h0 : 0 ≤ n) (hm : n ≤ 9223372036854775807) (h1 : x.h.g kind < n) :
    Calls Try.prog 55 #[.pointer (some ⟨b, 0, none⟩), i64 env, i64 kind, i64 n] w fun e w' => e = .returned (i64 1) ∧ Below w.heap.size w w' := by
  have HK : Hid (Bk w base b t s) := h
  have hs := (at_some hx).2.2
  have HS : Hid (s (env - 1).toNat = some x) := hs
  have HX : Hid (at_ s env = some x) := hx
  have hp := (h.page _ x hs).1
  have HP : Hid (w.heap[x.p]? = some (pgO x.q x.h)) := hp
  have hle := h.wf.le_at hs
  have h64 := h.wf.le64 hs
  have HL : Hid (Le x.h x.q) := hle
  have a0 := hle.a0; have a1 := hle.a1; have b0 := hle.b0; have b1 := hle.b1; have c0 := hle.c0; have c1 := hle.c1
  have a2 := h64.a1; have b2 := h64.b1; have c2 := h64.c1
  simp only at a2 b2 c2
  have hw : wrongB kind n = false := by unfold wrongB; simp; omega
  have HW : Hid (wrongB kind n = false) := hw
  clear hw h hs hx hp hle h64
  rcases hk with rfl | rfl | rfl
  · have h1' : x.h.a < n := by simpa [T.g] using h1
    clear h1
    go_enter Try.func55, Try.ntmps55
    go_wp2_with fail
    refine (pageOf_ok HK.out env).mono ?_
    rintro e w1 ⟨rfl, hb1⟩
    rw [HX.out]
    have HB1 : Hid (Below w.heap.size w w1) := hb1
    clear hb1
    unfold ptr
    go_wp2_with fail
    refine (wrong_ok w1 _ n (by omega)).mono ?_
    rintro e w2 ⟨rfl, hb2⟩
    rw [HW.out]
    have hb2' := HB1.out.trans (hb2.mono HB1.out.size)
    have hp2 := blk_below HP.out hb2'
    have d0 : w2.cell? ⟨x.p, 0, none⟩ = some (i64 x.q.a) := blk_cell hp2 0
    have d3 : w2.cell? ⟨x.p, 3, none⟩ = some (i64 x.h.a) := blk_cell hp2 3
    have f3 : w2.frozen? ⟨x.p, 3, none⟩ = false := blk_frozen hp2 3
    have HB2 : Hid (Below w.heap.size w w2) := hb2'
    clear hb2 hb2' hp2
    go_wp2_with fail
    go_ret
    exact ⟨rfl, HB2.out⟩
  · have h1' : x.h.b < n := by simpa [T.g] using h1
    clear h1
    go_enter Try.func55, Try.ntmps55
    go_wp2_with fail
    refine (pageOf_ok HK.out env).mono ?_
    rintro e w1 ⟨rfl, hb1⟩
    rw [HX.out]
    have HB1 : Hid (Below w.heap.size w w1) := hb1
    clear hb1
    unfold ptr
    go_wp2_with fail
    refine (wrong_ok w1 _ n (by omega)).mono ?_
    rintro e w2 ⟨rfl, hb2⟩
    rw [HW.out]
    have hb2' := HB1.out.trans (hb2.mono HB1.out.size)
    have hp2 := blk_below HP.out hb2'
    have d0 : w2.cell? ⟨x.p, 1, none⟩ = some (i64 x.q.b) := blk_cell hp2 1
    have d3 : w2.cell? ⟨x.p, 4, none⟩ = some (i64 x.h.b) := blk_cell hp2 4
    have f3 : w2.frozen? ⟨x.p, 4, none⟩ = false := blk_frozen hp2 4
    have HB2 : Hid (Below w.heap.size w w2) := hb2'
    clear hb2 hb2' hp2
    go_wp2_with fail
    go_ret
    exact ⟨rfl, HB2.out⟩
  · have h1' : x.h.c < n := by simpa [T.g] using h1
    clear h1
    go_enter Try.func55, Try.ntmps55
    go_wp2_with fail
    refine (pageOf_ok HK.out env).mono ?_
    rintro e w1 ⟨rfl, hb1⟩
    rw [HX.out]
    have HB1 : Hid (Below w.heap.size w w1) := hb1
    clear hb1
    unfold ptr
    go_wp2_with fail
    refine (wrong_ok w1 _ n (by omega)).mono ?_
    rintro e w2 ⟨rfl, hb2⟩
    rw [HW.out]
    have hb2' := HB1.out.trans (hb2.mono HB1.out.size)
    have hp2 := blk_below HP.out hb2'
    have d0 : w2.cell? ⟨x.p, 2, none⟩ = some (i64 x.q.c) := blk_cell hp2 2
    have d3 : w2.cell? ⟨x.p, 5, none⟩ = some (i64 x.h.c) := blk_cell hp2 5
    have f3 : w2.frozen? ⟨x.p, 5, none⟩ = false := blk_frozen hp2 5
    have HB2 : Hid (Below w.heap.size w w2) := hb2'
    clear hb2 hb2' hp2
    go_wp2_with fail
    go_ret
    exact ⟨rfl, HB2.out⟩
set_option maxRecDepth 100000 in
theorem take_none {w : World} {base b : Nat} {t : T} {s : St} (h : Bk w base b t s) (env kind n : Int) (hx : at_ s env = none) :
    Calls Try.prog 57 #[.pointer (some ⟨b, 0, none⟩), i64 env, i64 kind, i64 n] w fun e w' => e = .returned (i64 6) ∧ Below w.heap.size w w' := by
  have HK : Hid (Bk w base b t s) := h
  have HX : Hid (at_ s env = none) := hx
  clear h hx
  go_enter Try.func57, Try.ntmps57
  go_wp2_with fail
  refine (pageOf_ok HK.out env).mono ?_
  rintro e w1 ⟨rfl, hb1⟩
  rw [HX.out]
  have HB1 : Hid (Below w.heap.size w w1) := hb1
  clear hb1
  unfold ptr
  go_wp2_with fail
  go_ret
  exact ⟨rfl, HB1.out⟩
set_option maxRecDepth 100000 in
theorem give_none {w : World} {base b : Nat} {t : T} {s : St} (h : Bk w base b t s) (env kind n : Int) (hx : at_ s env = none) :
    Calls Try.prog 55 #[.pointer (some ⟨b, 0, none⟩), i64 env, i64 kind, i64 n] w fun e w' => e = .returned (i64 6) ∧ Below w.heap.size w w' := by
  have HK : Hid (Bk w base b t s) := h
  have HX : Hid (at_ s env = none) := hx
  clear h hx
  go_enter Try.func55, Try.ntmps55
  go_wp2_with fail
  refine (pageOf_ok HK.out env).mono ?_
  rintro e w1 ⟨rfl, hb1⟩
  rw [HX.out]
  have HB1 : Hid (Below w.heap.size w w1) := hb1
  clear hb1
  unfold ptr
  go_wp2_with fail
  go_ret
  exact ⟨rfl, HB1.out⟩
set_option maxRecDepth 100000 in
theorem take_wrong {w : World} {base b : Nat} {t : T} {s : St} (h : Bk w base b t s) (env kind n : Int) (hm : n ≤ 9223372036854775807) (x : Pge) (hx : at_ s env = some x) (hw : wrongB kind n = true) :
    Calls Try.prog 57 #[.pointer (some ⟨b, 0, none⟩), i64 env, i64 kind, i64 n] w fun e w' => e = .returned (i64 1) ∧ Below w.heap.size w w' := by
  have HK : Hid (Bk w base b t s) := h
  have HX : Hid (at_ s env = some x) := hx
  have HW : Hid (wrongB kind n = true) := hw
  clear h hx hw
  go_enter Try.func57, Try.ntmps57
  go_wp2_with fail
  refine (pageOf_ok HK.out env).mono ?_
  rintro e w1 ⟨rfl, hb1⟩
  rw [HX.out]
  have HB1 : Hid (Below w.heap.size w w1) := hb1
  clear hb1
  unfold ptr
  go_wp2_with fail
  refine (wrong_ok w1 _ n hm).mono ?_
  rintro e w2 ⟨rfl, hb2⟩
  rw [HW.out]
  have HB2 : Hid (Below w.heap.size w w2) := HB1.out.trans (hb2.mono HB1.out.size)
  clear hb2
  go_wp2_with fail
  go_ret
  exact ⟨rfl, HB2.out⟩
set_option maxRecDepth 100000 in
theorem give_wrong {w : World} {base b : Nat} {t : T} {s : St} (h : Bk w base b t s) (env kind n : Int) (hm : n ≤ 9223372036854775807) (x : Pge) (hx : at_ s env = some x) (hw : wrongB kind n = true) :
    Calls Try.prog 55 #[.pointer (some ⟨b, 0, none⟩), i64 env, i64 kind, i64 n] w fun e w' => e = .returned (i64 1) ∧ Below w.heap.size w w' := by
  have HK : Hid (Bk w base b t s) := h
  have HX : Hid (at_ s env = some x) := hx
  have HW : Hid (wrongB kind n = true) := hw
  clear h hx hw
  go_enter Try.func55, Try.ntmps55
  go_wp2_with fail
  refine (pageOf_ok HK.out env).mono ?_
  rintro e w1 ⟨rfl, hb1⟩
  rw [HX.out]
  have HB1 : Hid (Below w.heap.size w w1) := hb1
  clear hb1
  unfold ptr
  go_wp2_with fail
  refine (wrong_ok w1 _ n hm).mono ?_
  rintro e w2 ⟨rfl, hb2⟩
  rw [HW.out]
  have HB2 : Hid (Below w.heap.size w w2) := HB1.out.trans (hb2.mono HB1.out.size)
  clear hb2
  go_wp2_with fail
  go_ret
  exact ⟨rfl, HB2.out⟩

theorem wrongB_kind {kind n : Int} (h : wrongB kind n = false) : (kind = 1 ∨ kind = 2 ∨ kind = 3) ∧ 0 ≤ n := by
  unfold wrongB at h; simp at h; omega
theorem take_ok {w : World} {base b : Nat} {t : T} {s : St} (h : Bk w base b t s) (env kind n : Int) (hm : n ≤ 9223372036854775807) :
    Calls Try.prog 57 #[.pointer (some ⟨b, 0, none⟩), i64 env, i64 kind, i64 n] w fun e w' => e = .returned (i64 (tkE (at_ s env) kind n)) ∧ Bk w' base b t (tkS s env kind n) ∧ Fr base [118, 141] w w' := by
  have hlo : base ≤ w.heap.size := by have := blk_lt h.book; have := h.lo; omega
  have fin : ∀ (c d : Int), c = d → Calls Try.prog 57 #[.pointer (some ⟨b, 0, none⟩), i64 env, i64 kind, i64 n] w (fun e w' => e = .returned (i64 c) ∧ Below w.heap.size w w') → Calls Try.prog 57 #[.pointer (some ⟨b, 0, none⟩), i64 env, i64 kind, i64 n] w (fun e w' => e = .returned (i64 d) ∧ Bk w' base b t s ∧ Fr base [118, 141] w w') := fun c d hcd hc =>
    hc.mono fun e w' ⟨he, hb⟩ => ⟨by rw [he, hcd], h.below hb, Fr.of_below _ hb hlo⟩
  unfold tkE tkS
  cases hx : at_ s env with
  | none => exact fin 6 6 rfl (take_none h env kind n hx)
  | some x =>
    simp only
    by_cases hw : wrongB kind n = true
    · rw [if_pos hw, if_pos (Or.inl hw)]
      exact fin 1 1 rfl (take_wrong h env kind n hm x hx hw)
    · rw [if_neg hw]
      obtain ⟨hk, h0⟩ := wrongB_kind (by simpa using hw)
      by_cases hn : x.q.g kind - x.h.g kind < n
      · rw [if_pos hn, if_pos (Or.inr hn)]
        exact fin 100 100 rfl (take_more h env kind n x hx hk h0 hm hn)
      · rw [if_neg hn, if_neg (by intro h'; rcases h' with h' | h' <;> contradiction)]
        exact take_in h env kind n x hx hk h0 hm (by omega)
theorem give_ok {w : World} {base b : Nat} {t : T} {s : St} (h : Bk w base b t s) (env kind n : Int) (hm : n ≤ 9223372036854775807) :
    Calls Try.prog 55 #[.pointer (some ⟨b, 0, none⟩), i64 env, i64 kind, i64 n] w fun e w' => e = .returned (i64 (gvE (at_ s env) kind n)) ∧ Bk w' base b t (gvS s env kind n) ∧ Fr base [118, 141] w w' := by
  have hlo : base ≤ w.heap.size := by have := blk_lt h.book; have := h.lo; omega
  have fin : ∀ (c d : Int), c = d → Calls Try.prog 55 #[.pointer (some ⟨b, 0, none⟩), i64 env, i64 kind, i64 n] w (fun e w' => e = .returned (i64 c) ∧ Below w.heap.size w w') → Calls Try.prog 55 #[.pointer (some ⟨b, 0, none⟩), i64 env, i64 kind, i64 n] w (fun e w' => e = .returned (i64 d) ∧ Bk w' base b t s ∧ Fr base [118, 141] w w') := fun c d hcd hc =>
    hc.mono fun e w' ⟨he, hb⟩ => ⟨by rw [he, hcd], h.below hb, Fr.of_below _ hb hlo⟩
  unfold gvE gvS
  cases hx : at_ s env with
  | none => exact fin 6 6 rfl (give_none h env kind n hx)
  | some x =>
    simp only
    by_cases hw : wrongB kind n = true
    · rw [if_pos hw, if_pos (Or.inl hw)]
      exact fin 1 1 rfl (give_wrong h env kind n hm x hx hw)
    · rw [if_neg hw]
      obtain ⟨hk, h0⟩ := wrongB_kind (by simpa using hw)
      by_cases hn : x.h.g kind < n
      · rw [if_pos hn, if_pos (Or.inr hn)]
        exact fin 1 1 rfl (give_more h env kind n x hx hk h0 hm hn)
      · rw [if_neg hn, if_neg (by intro h'; rcases h' with h' | h' <;> contradiction)]
        exact give_in h env kind n x hx hk h0 hm (by omega)
end Go.Proofs.Ytnknhencobhjdaa.Qt
