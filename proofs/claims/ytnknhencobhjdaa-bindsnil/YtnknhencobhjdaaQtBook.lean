/- quota.Book as it lies in memory; New, pageOf, Has, Close: their contracts; no statement is proved in this text. -/
import Derived.Test.YtnknhencobhjdaaQtOut
namespace Go.Proofs.Ytnknhencobhjdaa.Qt
open Go.ChangeShapes Go.WideShapes Go.ChangeAt Go.RowKit Go.Deep

structure Pge where
  p : Nat
  q : T
  h : T
abbrev St := Nat → Option Pge
def ptr : Option Pge → Value
  | none => .pointer none
  | some x => .pointer (some ⟨x.p, 0, none⟩)
abbrev pgO (q h : T) : Obj := .cells #[i64 q.a, i64 q.b, i64 q.c, i64 h.a, i64 h.b, i64 h.c] 141
abbrev bkO (t : T) (s : St) : Obj := .cells #[i64 t.a, i64 t.b, i64 t.c, ptr (s 0), ptr (s 1), ptr (s 2)] 118
def zT : T := ⟨0, 0, 0⟩
def qT : Option Pge → T
  | none => zT
  | some x => x.q
def hT : Option Pge → T
  | none => zT
  | some x => x.h
def pE : Option Pge → Int
  | none => 6
  | some _ => 0
def upd (s : St) (e : Nat) (x : Option Pge) : St := fun i => if i = e then x else s i
structure Le (h q : T) : Prop where
  a0 : 0 ≤ h.a
  a1 : h.a ≤ q.a
  b0 : 0 ≤ h.b
  b1 : h.b ≤ q.b
  c0 : 0 ≤ h.c
  c1 : h.c ≤ q.c
/-- What holds of a book's numbers. -/
structure Wf (t : T) (s : St) : Prop where
  out : ∀ e, 3 ≤ e → s e = none
  tot : Le t ⟨64, 64, 64⟩
  le : ∀ e, Le (hT (s e)) (qT (s e))
  sa : (qT (s 0)).a + (qT (s 1)).a + (qT (s 2)).a ≤ t.a
  sb : (qT (s 0)).b + (qT (s 1)).b + (qT (s 2)).b ≤ t.b
  sc : (qT (s 0)).c + (qT (s 1)).c + (qT (s 2)).c ≤ t.c
structure Bk (w : World) (base b : Nat) (t : T) (s : St) : Prop where
  book : w.heap[b]? = some (bkO t s)
  lo : base ≤ b
  page : ∀ e x, s e = some x → w.heap[x.p]? = some (pgO x.q x.h) ∧ base ≤ x.p
  apart : ∀ e e' x x', s e = some x → s e' = some x' → e ≠ e' → x.p ≠ x'.p
  wf : Wf t s
theorem Bk.same {w w' : World} {base b : Nat} {t : T} {s : St} (h : Bk w base b t s) (hk : ∀ (k : Nat) (o : Obj), w.heap[k]? = some o → (∃ C, o = .cells C 118 ∨ o = .cells C 141) → w'.heap[k]? = some o) : Bk w' base b t s :=
  ⟨hk _ _ h.book ⟨_, Or.inl rfl⟩, h.lo, fun e x hx => ⟨hk _ _ (h.page e x hx).1 ⟨_, Or.inr rfl⟩, (h.page e x hx).2⟩, h.apart, h.wf⟩
theorem Bk.below {w w' : World} {base b : Nat} {t : T} {s : St} (h : Bk w base b t s) (hb : Below w.heap.size w w') : Bk w' base b t s :=
  h.same (fun _ _ hk _ => blk_below hk hb)
theorem Bk.fr {w w' : World} {base b : Nat} {t : T} {s : St} {bs : Nat} {ts : List TypeId} (h : Bk w base b t s) (hb : Fr bs ts w w') (h1 : ts.contains 118 = false) (h2 : ts.contains 141 = false) : Bk w' base b t s :=
  h.same (fun k o hk ho => hb.kept k o hk (by
    obtain ⟨C, rfl | rfl⟩ := ho
    · simp only [keeps, h1]; rfl
    · simp only [keeps, h2]; rfl))
def at_ (s : St) (env : Int) : Option Pge := if 1 ≤ env ∧ env ≤ 3 then s (env - 1).toNat else none
theorem at_some {s : St} {env : Int} {x : Pge} (h : at_ s env = some x) : 1 ≤ env ∧ env ≤ 3 ∧ s (env - 1).toNat = some x := by
  unfold at_ at h
  by_cases hc : 1 ≤ env ∧ env ≤ 3
  · rw [if_pos hc] at h; exact ⟨hc.1, hc.2, h⟩
  · rw [if_neg hc] at h; cases h
theorem Wf.le_at {t : T} {s : St} (h : Wf t s) {e : Nat} {x : Pge} (hx : s e = some x) : Le x.h x.q := by
  have := h.le e
  rw [hx] at this
  exact this
theorem Wf.le64 {t : T} {s : St} (h : Wf t s) {e : Nat} {x : Pge} (hx : s e = some x) : Le x.q ⟨64, 64, 64⟩ := by
  have h0 := h.le 0
  have h1 := h.le 1
  have h2 := h.le 2
  have ht := h.tot
  have := h.sa
  have := h.sb
  have := h.sc
  have hq : x.q = qT (s e) := by rw [hx]; rfl
  have hh := h.le_at hx
  have he : e < 3 := by
    rcases Nat.lt_or_ge e 3 with h' | h'
    · exact h'
    · rw [h.out e h'] at hx; cases hx
  rw [hq] at hh ⊢
  have a0 := h0.a0; have a1 := h0.a1; have b0 := h0.b0; have b1 := h0.b1; have c0 := h0.c0; have c1 := h0.c1
  have a0 := h1.a0; have a1 := h1.a1; have b0 := h1.b0; have b1 := h1.b1; have c0 := h1.c0; have c1 := h1.c1
  have a0 := h2.a0; have a1 := h2.a1; have b0 := h2.b0; have b1 := h2.b1; have c0 := h2.c0; have c1 := h2.c1
  have a1 := ht.a1; have b1 := ht.b1; have c1 := ht.c1
  have a0 := hh.a0; have a1 := hh.a1; have b0 := hh.b0; have b1 := hh.b1; have c0 := hh.c0; have c1 := hh.c1
  simp only at *
  obtain rfl | rfl | rfl : e = 0 ∨ e = 1 ∨ e = 2 := by omega
  all_goals exact ⟨by omega, (by omega : _ ≤ (64 : Int)), by omega, (by omega : _ ≤ (64 : Int)), by omega, (by omega : _ ≤ (64 : Int))⟩

set_option maxRecDepth 100000 in
theorem new_no (w : World) (t : T) (h : outB 0 64 t.l = true) :
    Calls Try.prog 28 #[t.v] w fun e w' => e = .returned (.tuple #[.pointer none, i64 1]) ∧ Below w.heap.size w w' := by
  have hb0 : ∀ o, Below w.heap.size w (w.alloc o) := fun o => (Below.refl _ _).alloc (Nat.le_refl _) o
  have HB : Hid (∀ o, Below w.heap.size w (w.alloc o)) := hb0
  clear hb0
  go_enter Try.func28, Try.ntmps28
  go_wp2_with fail
  refine (outside_tri _ 0 64 t _ (heap_last w _)).mono ?_
  rintro e w1 ⟨rfl, rfl⟩
  go_wp2_with fail
  go_ret2
  exact ⟨rfl, HB.out _⟩
theorem wf_new {t : T} (h : outB 0 64 t.l = false) : Wf t (fun _ => none) := by
  unfold outB T.l at h
  simp at h
  have hz : Le zT zT := ⟨Int.le_refl _, Int.le_refl _, Int.le_refl _, Int.le_refl _, Int.le_refl _, Int.le_refl _⟩
  have : zT = ⟨0, 0, 0⟩ := rfl
  refine ⟨fun _ _ => rfl, ⟨by omega, (by omega : _ ≤ (64 : Int)), by omega, (by omega : _ ≤ (64 : Int)), by omega, (by omega : _ ≤ (64 : Int))⟩, fun _ => hz, ?_, ?_, ?_⟩ <;> (simp [qT, zT]; try omega)
set_option maxRecDepth 100000 in
theorem new_ok (w : World) (t : T) (h : outB 0 64 t.l = false) :
    Calls Try.prog 28 #[t.v] w fun e w' => e = .returned (.tuple #[.pointer (some ⟨w.heap.size + 1, 0, none⟩), i64 0]) ∧ Below w.heap.size w w' ∧ Bk w' w.heap.size (w.heap.size + 1) t (fun _ => none) ∧ w.heap.size + 1 < w'.heap.size := by
  have hb0 : ∀ o o', Below w.heap.size w ((w.alloc o).alloc o') := fun o o' => ((Below.refl _ _).alloc (Nat.le_refl _) o).alloc (by simp) o'
  have HB : Hid (∀ o o', Below w.heap.size w ((w.alloc o).alloc o')) := hb0
  have HW : Hid (Wf t (fun _ => none)) := wf_new h
  clear hb0
  go_enter Try.func28, Try.ntmps28
  go_wp2_with fail
  refine (outside_tri _ 0 64 t _ (heap_last w _)).mono ?_
  rintro e w1 ⟨rfl, rfl⟩
  go_wp2_with fail
  go_ret2
  exact ⟨rfl, HB.out _ _, ⟨heap_last2 w _ _, by omega, fun e x hx => (by cases hx), fun e e' x x' hx => (by cases hx), HW.out⟩, by simp⟩

set_option maxRecDepth 100000 in
theorem pageOf_nil (w : World) (env : Int) :
    Calls Try.prog 77 #[.pointer none, i64 env] w fun e w' => e = .returned (.pointer none) ∧ w' = w := by
  go_enter Try.func77, Try.ntmps77
  go_wp2_with fail
  go_ret
  exact ⟨rfl, rfl⟩
set_option maxRecDepth 100000 in
theorem pageOf_out (w : World) (b : Nat) (env : Int) (h : env < 1 ∨ 3 < env) :
    Calls Try.prog 77 #[.pointer (some ⟨b, 0, none⟩), i64 env] w fun e w' => e = .returned (.pointer none) ∧ Below w.heap.size w w' := by
  have hb0 : ∀ o, Below w.heap.size w (w.alloc o) := fun o => (Below.refl _ _).alloc (Nat.le_refl _) o
  have HB : Hid (∀ o, Below w.heap.size w (w.alloc o)) := hb0
  have ho : outB 1 3 [env] = true := by unfold outB; simpa using h
  clear hb0
  go_enter Try.func77, Try.ntmps77
  go_wp2_with fail
  refine (outside_one _ 1 3 env _ (heap_last w _)).mono ?_
  rintro e w1 ⟨rfl, rfl⟩
  go_wp2_with fail
  go_ret
  exact ⟨rfl, HB.out _⟩
set_option maxRecDepth 100000 in
theorem pageOf_in (w : World) (b k : Nat) (v : Value) (hk : k < 3) (hb : b < w.heap.size) (hc : w.cell? ⟨b, 3 + k, none⟩ = some v) :
    Calls Try.prog 77 #[.pointer (some ⟨b, 0, none⟩), i64 (k + 1)] w fun e w' => e = .returned v ∧ Below w.heap.size w w' := by
  have hb0 : ∀ o, Below w.heap.size w (w.alloc o) := fun o => (Below.refl _ _).alloc (Nat.le_refl _) o
  have HB : Hid (∀ o, Below w.heap.size w (w.alloc o)) := hb0
  have ho : outB 1 3 [(k : Int) + 1] = false := by unfold outB; simp; omega
  clear hb0
  rcases k with _ | _ | _ | k
  · go_enter Try.func77, Try.ntmps77
    go_wp2_with fail
    refine (outside_one _ 1 3 _ _ (heap_last w _)).mono ?_
    rintro e w1 ⟨rfl, rfl⟩
    go_wp2_with fail
    go_ret
    exact ⟨rfl, HB.out _⟩
  · go_enter Try.func77, Try.ntmps77
    go_wp2_with fail
    refine (outside_one _ 1 3 _ _ (heap_last w _)).mono ?_
    rintro e w1 ⟨rfl, rfl⟩
    go_wp2_with fail
    go_ret
    exact ⟨rfl, HB.out _⟩
  · go_enter Try.func77, Try.ntmps77
    go_wp2_with fail
    refine (outside_one _ 1 3 _ _ (heap_last w _)).mono ?_
    rintro e w1 ⟨rfl, rfl⟩
    go_wp2_with fail
    go_ret
    exact ⟨rfl, HB.out _⟩
  · omega
theorem pageOf_ok {w : World} {base b : Nat} {t : T} {s : St} (h : Bk w base b t s) (env : Int) :
    Calls Try.prog 77 #[.pointer (some ⟨b, 0, none⟩), i64 env] w fun e w' => e = .returned (ptr (at_ s env)) ∧ Below w.heap.size w w' := by
  unfold at_
  by_cases hc : 1 ≤ env ∧ env ≤ 3
  · rw [if_pos hc]
    obtain ⟨k, rfl⟩ : ∃ k : Nat, env = (k : Int) + 1 := ⟨(env - 1).toNat, by omega⟩
    have hk : ((k : Int) + 1 - 1).toNat = k := by omega
    rw [hk]
    refine pageOf_in w b k _ (by omega) (blk_lt h.book) ?_
    rw [blk_cell h.book]
    have : k < 3 := by omega
    rcases k with _ | _ | _ | k
    · rfl
    · rfl
    · rfl
    · omega
  · rw [if_neg hc]
    exact pageOf_out w b env (by omega)
end Go.Proofs.Ytnknhencobhjdaa.Qt
