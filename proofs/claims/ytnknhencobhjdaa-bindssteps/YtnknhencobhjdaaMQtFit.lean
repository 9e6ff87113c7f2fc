/- No statement here. -/
import Derived.Test.YtnknhencobhjdaaMBase
set_option maxRecDepth 100000
namespace Go.Proofs.Ytnknhencobhjdaa.Qt
open Go.ChangeShapes Go.WideShapes Go.ChangeAt Go.RowKit Go.Deep
structure T where
  a : Int
  b : Int
  c : Int
deriving DecidableEq
abbrev T.v (t : T) : Value := .agg #[i64 t.a, i64 t.b, i64 t.c]
def T.l (t : T) : List Int := [t.a, t.b, t.c]
def outB (lo hi : Int) (xs : List Int) : Bool := xs.any fun x => decide (x < lo) || decide (hi < x)
theorem outB_true {lo hi : Int} {xs : List Int} {k : Nat} (hk : k < xs.length) (h : xs[k] < lo ∨ hi < xs[k]) : outB lo hi xs = true := by
  unfold outB
  rw [List.any_eq_true]
  exact ⟨xs[k], List.getElem_mem hk, by simpa using h⟩
theorem outB_next {lo hi : Int} {xs : List Int} {k : Nat} (hk : k < xs.length) (h0 : outB lo hi (xs.take k) = false) (h1 : ¬ xs[k] < lo) (h2 : ¬ hi < xs[k]) : outB lo hi (xs.take (k + 1)) = false := by
  unfold outB at h0 ⊢
  rw [List.take_succ_eq_append_getElem hk, List.any_append, h0]
  simp only [List.any_cons, List.any_nil, Bool.or_false, Bool.false_or, Bool.or_eq_false_iff, decide_eq_false_iff_not]
  exact ⟨h1, h2⟩
set_option maxHeartbeats 800000 in
theorem outside_ok (w : World) (lo hi : Int) (ao : Option Addr) (cap : Nat) (xs : List Int) (hI : ISl w ao xs) (hl : xs.length ≤ maxLen) :
    Calls Try.prog 64 #[i64 lo, i64 hi, .slice ao xs.length cap] w fun e w' => e = .returned (.bool (outB lo hi xs)) ∧ w' = w := by
  unfold maxLen at hl
  have HI : Hid (ISl w ao xs) := hI
  clear hI
  obtain ⟨N, hN⟩ : ∃ N, N = xs.length := ⟨_, rfl⟩
  have HN : Hid (N = xs.length) := hN
  rw [← hN] at hl ⊢
  clear hN
  go_enter Try.func64, Try.ntmps64
  go_wp2_with fail
  go_loop [11] (fun i => ∃ k : Nat, k ≤ N ∧ i = i64 k ∧ Hid (outB lo hi (xs.take k) = false)) (fun i => N - (intOf i).toNat)
  case atStart => exact ⟨0, by omega, rfl, rfl⟩
  case round =>
    obtain ⟨k, hk, rfl, HO⟩ := hrel
    by_cases hlt : k < N
    · have hlt2 : k < xs.length := by rw [← HN.out]; exact hlt
      obtain ⟨b, off, rfl, hb, hc⟩ := HI.out.at hlt2
      obtain ⟨x, hx⟩ : ∃ x, x = xs[k] := ⟨_, rfl⟩
      have HX : Hid (x = xs[k]) := hx
      rw [← hx] at hc
      clear hx
      by_cases h1 : x < lo
      · have HT : Hid (outB lo hi xs = true) := outB_true hlt2 (Or.inl (by rw [← HX.out]; exact h1))
        go_wp2_with fail
        go_ret
        exact ⟨by rw [HT.out]; rfl, rfl⟩
      · by_cases h2 : hi < x
        · have HT : Hid (outB lo hi xs = true) := outB_true hlt2 (Or.inr (by rw [← HX.out]; exact h2))
          go_wp2_with fail
          go_ret
          exact ⟨by rw [HT.out]; rfl, rfl⟩
        · have HT : Hid (outB lo hi (xs.take (k + 1)) = false) := outB_next hlt2 HO.out (by rw [← HX.out]; exact h1) (by rw [← HX.out]; exact h2)
          go_wp2_with fail
          go_round
          case rel => exact ⟨k + 1, by omega, by go_num, HT⟩
          case measure => simp [intOf]; omega
    · have HT : Hid (outB lo hi xs = false) := by
        have := HO.out
        rw [List.take_of_length_le (by have := HN.out; omega)] at this
        exact this
      go_wp2_with fail
      go_ret
      exact ⟨by rw [HT.out]; rfl, rfl⟩
theorem heap_last2 (w : World) (o p : Obj) : ((w.alloc o).alloc p).heap[w.heap.size + 1]? = some p := by
  have := hlx (w.alloc o) p
  simpa using this
theorem isl_row {w : World} {b : Nat} {C : Array Value} {t : TypeId} (h : w.heap[b]? = some (.cells C t)) (xs : List Int) (hx : ∀ (i : Nat) (x : Int), xs[i]? = some x → C[i]? = some (i64 x)) : ISl w (some ⟨b, 0, none⟩) xs :=
  Or.inr ⟨b, 0, rfl, blk_lt h, fun i x hi => by rw [Nat.zero_add, bkc h]; exact hx i x hi⟩
theorem outside_one (w : World) (lo hi x : Int) (b : Nat) (h : w.heap[b]? = some (.cells #[i64 x] 3)) :
    Calls Try.prog 64 #[i64 lo, i64 hi, .slice (some ⟨b, 0, none⟩) 1 1] w fun e w' => e = .returned (.bool (outB lo hi [x])) ∧ w' = w :=
  outside_ok w lo hi _ 1 [x] (isl_row h [x] (fun i y hi => by
    rcases i with _ | i
    · simp at hi; subst hi; rfl
    · simp at hi)) (by simp [maxLen])
theorem outside_tri (w : World) (lo hi : Int) (t : T) (b : Nat) {ty : TypeId} (h : w.heap[b]? = some (.cells #[i64 t.a, i64 t.b, i64 t.c] ty)) :
    Calls Try.prog 64 #[i64 lo, i64 hi, .slice (some ⟨b, 0, none⟩) 3 3] w fun e w' => e = .returned (.bool (outB lo hi t.l)) ∧ w' = w :=
  outside_ok w lo hi _ 3 t.l (isl_row h t.l (fun i y hi => by
    rcases i with _ | _ | _ | i
    · simp [T.l] at hi; subst hi; rfl
    · simp [T.l] at hi; subst hi; rfl
    · simp [T.l] at hi; subst hi; rfl
    · simp [T.l] at hi)) (by simp [maxLen, T.l])
def wrongB (kind n : Int) : Bool := decide (kind < 1 ∨ 3 < kind ∨ n < 0)
theorem wrong_ok (w : World) (kind n : Int) (hn : n ≤ 9223372036854775807) :
    Calls Try.prog 82 #[i64 kind, i64 n] w fun e w' => e = .returned (.bool (wrongB kind n)) ∧ Below w.heap.size w w' := by
  have hb0 : ∀ o, Below w.heap.size w (w.alloc o) := fun o => (Below.refl _ _).alloc (Nat.le_refl _) o
  by_cases h : kind < 1 ∨ 3 < kind
  · have ho : outB 1 3 [kind] = true := by unfold outB; simpa using h
    have hw : wrongB kind n = true := by unfold wrongB; simp; omega
    rw [hw]
    have HB : Hid (∀ o, Below w.heap.size w (w.alloc o)) := hb0
    clear hb0 hw
    go_enter Try.func82, Try.ntmps82
    go_wp2_with fail
    refine (outside_one _ 1 3 kind _ (hlx w _)).mono ?_
    rintro e w1 ⟨rfl, rfl⟩
    go_wp2_with fail
    go_ret
    exact ⟨rfl, HB.out _⟩
  · have ho : outB 1 3 [kind] = false := by unfold outB; simp; omega
    have hw : wrongB kind n = outB 0 9223372036854775807 [n] := by
      unfold wrongB outB
      rw [Bool.eq_iff_iff]
      simp
      omega
    rw [hw]
    have HB : Hid (∀ o, Below w.heap.size w (w.alloc o)) := hb0
    clear hb0 hw
    generalize hG : outB 0 9223372036854775807 [n] = G
    have HG : Hid (outB 0 9223372036854775807 [n] = G) := hG
    clear hG
    go_enter Try.func82, Try.ntmps82
    go_wp2_with fail
    refine (outside_one _ 1 3 kind _ (hlx w _)).mono ?_
    rintro e w1 ⟨rfl, rfl⟩
    go_wp2_with fail
    refine (outside_one _ 0 9223372036854775807 n _ (heap_last2 w _ _)).mono ?_
    rintro e w1 ⟨rfl, rfl⟩
    rw [HG.out]
    go_wp2_with fail
    go_ret
    exact ⟨rfl, (HB.out _).alloc (by simp) _⟩
end Go.Proofs.Ytnknhencobhjdaa.Qt
namespace Go.Proofs.Ytnknhencobhjdaa.Qt
open Go.ChangeShapes Go.WideShapes Go.ChangeAt Go.RowKit Go.Deep
structure Pge where
  p : Nat
  q : T
  h : T
abbrev St := Nat → Option Pge
def ptr : Option Pge → Value
  | none => .pointer none
  | some x => .pointer (some ⟨x.p, 0, none⟩)
abbrev pgO (q h : T) : Obj := .cells #[i64 q.a, i64 q.b, i64 q.c, i64 h.a, i64 h.b, i64 h.c] 141
abbrev bkO (t : T) (s : St) : Obj := .cells #[i64 t.a, i64 t.b, i64 t.c, ptr (s 0), ptr (s 1), ptr (s 2)] 118
def zT : T := ⟨0, 0, 0⟩
def qT : Option Pge → T
  | none => zT
  | some x => x.q
def hT : Option Pge → T
  | none => zT
  | some x => x.h
def pE : Option Pge → Int
  | none => 6
  | some _ => 0
def upd (s : St) (e : Nat) (x : Option Pge) : St := fun i => if i = e then x else s i
structure Le (h q : T) : Prop where
  a0 : 0 ≤ h.a
  a1 : h.a ≤ q.a
  b0 : 0 ≤ h.b
  b1 : h.b ≤ q.b
  c0 : 0 ≤ h.c
  c1 : h.c ≤ q.c
structure Wf (t : T) (s : St) : Prop where
  out : ∀ e, 3 ≤ e → s e = none
  tot : Le t ⟨64, 64, 64⟩
  le : ∀ e, Le (hT (s e)) (qT (s e))
  sa : (qT (s 0)).a + (qT (s 1)).a + (qT (s 2)).a ≤ t.a
  sb : (qT (s 0)).b + (qT (s 1)).b + (qT (s 2)).b ≤ t.b
  sc : (qT (s 0)).c + (qT (s 1)).c + (qT (s 2)).c ≤ t.c
structure Bk (w : World) (base b : Nat) (t : T) (s : St) : Prop where
  book : w.heap[b]? = some (bkO t s)
  lo : base ≤ b
  page : ∀ e x, s e = some x → w.heap[x.p]? = some (pgO x.q x.h) ∧ base ≤ x.p
  apart : ∀ e e' x x', s e = some x → s e' = some x' → e ≠ e' → x.p ≠ x'.p
  wf : Wf t s
theorem Bk.same {w w' : World} {base b : Nat} {t : T} {s : St} (h : Bk w base b t s) (hk : ∀ (k : Nat) (o : Obj), w.heap[k]? = some o → (∃ C, o = .cells C 118 ∨ o = .cells C 141) → w'.heap[k]? = some o) : Bk w' base b t s :=
  ⟨hk _ _ h.book ⟨_, Or.inl rfl⟩, h.lo, fun e x hx => ⟨hk _ _ (h.page e x hx).1 ⟨_, Or.inr rfl⟩, (h.page e x hx).2⟩, h.apart, h.wf⟩
theorem Bk.below {w w' : World} {base b : Nat} {t : T} {s : St} (h : Bk w base b t s) (hb : Below w.heap.size w w') : Bk w' base b t s :=
  h.same (fun _ _ hk _ => bkb hk hb)
theorem Bk.fr {w w' : World} {base b : Nat} {t : T} {s : St} {bs : Nat} {ts : List TypeId} (h : Bk w base b t s) (hb : Fr bs ts w w') (h1 : ts.contains 118 = false) (h2 : ts.contains 141 = false) : Bk w' base b t s :=
  h.same (fun k o hk ho => hb.kept k o hk (by
    obtain ⟨C, rfl | rfl⟩ := ho
    · simp only [keeps, h1]; rfl
    · simp only [keeps, h2]; rfl))
def at_ (s : St) (env : Int) : Option Pge := if 1 ≤ env ∧ env ≤ 3 then s (env - 1).toNat else none
theorem at_some {s : St} {env : Int} {x : Pge} (h : at_ s env = some x) : 1 ≤ env ∧ env ≤ 3 ∧ s (env - 1).toNat = some x := by
  unfold at_ at h
  by_cases hc : 1 ≤ env ∧ env ≤ 3
  · rw [if_pos hc] at h; exact ⟨hc.1, hc.2, h⟩
  · rw [if_neg hc] at h; cases h
theorem Wf.le_at {t : T} {s : St} (h : Wf t s) {e : Nat} {x : Pge} (hx : s e = some x) : Le x.h x.q := by
  have := h.le e
  rw [hx] at this
  exact this
theorem Wf.le64 {t : T} {s : St} (h : Wf t s) {e : Nat} {x : Pge} (hx : s e = some x) : Le x.q ⟨64, 64, 64⟩ := by
  have h0 := h.le 0
  have h1 := h.le 1
  have h2 := h.le 2
  have ht := h.tot
  have := h.sa
  have := h.sb
  have := h.sc
  have hq : x.q = qT (s e) := by rw [hx]; rfl
  have hh := h.le_at hx
  have he : e < 3 := by
    rcases Nat.lt_or_ge e 3 with h' | h'
    · exact h'
    · rw [h.out e h'] at hx; cases hx
  rw [hq] at hh ⊢
  have a0 := h0.a0; have a1 := h0.a1; have b0 := h0.b0; have b1 := h0.b1; have c0 := h0.c0; have c1 := h0.c1
  have a0 := h1.a0; have a1 := h1.a1; have b0 := h1.b0; have b1 := h1.b1; have c0 := h1.c0; have c1 := h1.c1
  have a0 := h2.a0; have a1 := h2.a1; have b0 := h2.b0; have b1 := h2.b1; have c0 := h2.c0; have c1 := h2.c1
  have a1 := ht.a1; have b1 := ht.b1; have c1 := ht.c1
  have a0 := hh.a0; have a1 := hh.a1; have b0 := hh.b0; have b1 := hh.b1; have c0 := hh.c0; have c1 := hh.c1
  simp only at *
  obtain rfl | rfl | rfl : e = 0 ∨ e = 1 ∨ e = 2 := by omega
  all_goals exact ⟨by omega, (by omega : _ ≤ (64 : Int)), by omega, (by omega : _ ≤ (64 : Int)), by omega, (by omega : _ ≤ (64 : Int))⟩
theorem wf_new {t : T} (h : outB 0 64 t.l = false) : Wf t (fun _ => none) := by
  unfold outB T.l at h
  simp at h
  have hz : Le zT zT := ⟨Int.le_refl _, Int.le_refl _, Int.le_refl _, Int.le_refl _, Int.le_refl _, Int.le_refl _⟩
  have : zT = ⟨0, 0, 0⟩ := rfl
  refine ⟨fun _ _ => rfl, ⟨by omega, (by omega : _ ≤ (64 : Int)), by omega, (by omega : _ ≤ (64 : Int)), by omega, (by omega : _ ≤ (64 : Int))⟩, fun _ => hz, ?_, ?_, ?_⟩ <;> (simp [qT, zT]; try omega)
theorem new_ok (w : World) (t : T) (h : outB 0 64 t.l = false) :
    Calls Try.prog 28 #[t.v] w fun e w' => e = .returned (.tuple #[.pointer (some ⟨w.heap.size + 1, 0, none⟩), i64 0]) ∧ Below w.heap.size w w' ∧ Bk w' w.heap.size (w.heap.size + 1) t (fun _ => none) ∧ w.heap.size + 1 < w'.heap.size := by
  have hb0 : ∀ o o', Below w.heap.size w ((w.alloc o).alloc o') := fun o o' => ((Below.refl _ _).alloc (Nat.le_refl _) o).alloc (by simp) o'
  have HB : Hid (∀ o o', Below w.heap.size w ((w.alloc o).alloc o')) := hb0
  have HW : Hid (Wf t (fun _ => none)) := wf_new h
  clear hb0
  go_enter Try.func28, Try.ntmps28
  go_wp2_with fail
  refine (outside_tri _ 0 64 t _ (hlx w _)).mono ?_
  rintro e w1 ⟨rfl, rfl⟩
  go_wp2_with fail
  go_ret2
  exact ⟨rfl, HB.out _ _, ⟨heap_last2 w _ _, by omega, fun e x hx => (by cases hx), fun e e' x x' hx => (by cases hx), HW.out⟩, by simp⟩
theorem pageOf_out (w : World) (b : Nat) (env : Int) (h : env < 1 ∨ 3 < env) :
    Calls Try.prog 77 #[.pointer (some ⟨b, 0, none⟩), i64 env] w fun e w' => e = .returned (.pointer none) ∧ Below w.heap.size w w' := by
  have hb0 : ∀ o, Below w.heap.size w (w.alloc o) := fun o => (Below.refl _ _).alloc (Nat.le_refl _) o
  have HB : Hid (∀ o, Below w.heap.size w (w.alloc o)) := hb0
  have ho : outB 1 3 [env] = true := by unfold outB; simpa using h
  clear hb0
  go_enter Try.func77, Try.ntmps77
  go_wp2_with fail
  refine (outside_one _ 1 3 env _ (hlx w _)).mono ?_
  rintro e w1 ⟨rfl, rfl⟩
  go_wp2_with fail
  go_ret
  exact ⟨rfl, HB.out _⟩
theorem pageOf_in (w : World) (b k : Nat) (v : Value) (hk : k < 3) (hb : b < w.heap.size) (hc : w.cell? ⟨b, 3 + k, none⟩ = some v) :
    Calls Try.prog 77 #[.pointer (some ⟨b, 0, none⟩), i64 (k + 1)] w fun e w' => e = .returned v ∧ Below w.heap.size w w' := by
  have hb0 : ∀ o, Below w.heap.size w (w.alloc o) := fun o => (Below.refl _ _).alloc (Nat.le_refl _) o
  have HB : Hid (∀ o, Below w.heap.size w (w.alloc o)) := hb0
  have ho : outB 1 3 [(k : Int) + 1] = false := by unfold outB; simp; omega
  clear hb0
  rcases k with _ | _ | _ | k
  · go_enter Try.func77, Try.ntmps77
    go_wp2_with fail
    refine (outside_one _ 1 3 _ _ (hlx w _)).mono ?_
    rintro e w1 ⟨rfl, rfl⟩
    go_wp2_with fail
    go_ret
    exact ⟨rfl, HB.out _⟩
  · go_enter Try.func77, Try.ntmps77
    go_wp2_with fail
    refine (outside_one _ 1 3 _ _ (hlx w _)).mono ?_
    rintro e w1 ⟨rfl, rfl⟩
    go_wp2_with fail
    go_ret
    exact ⟨rfl, HB.out _⟩
  · go_enter Try.func77, Try.ntmps77
    go_wp2_with fail
    refine (outside_one _ 1 3 _ _ (hlx w _)).mono ?_
    rintro e w1 ⟨rfl, rfl⟩
    go_wp2_with fail
    go_ret
    exact ⟨rfl, HB.out _⟩
  · omega
theorem pageOf_ok {w : World} {base b : Nat} {t : T} {s : St} (h : Bk w base b t s) (env : Int) :
    Calls Try.prog 77 #[.pointer (some ⟨b, 0, none⟩), i64 env] w fun e w' => e = .returned (ptr (at_ s env)) ∧ Below w.heap.size w w' := by
  unfold at_
  by_cases hc : 1 ≤ env ∧ env ≤ 3
  · rw [if_pos hc]
    obtain ⟨k, rfl⟩ : ∃ k : Nat, env = (k : Int) + 1 := ⟨(env - 1).toNat, by omega⟩
    have hk : ((k : Int) + 1 - 1).toNat = k := by omega
    rw [hk]
    refine pageOf_in w b k _ (by omega) (blk_lt h.book) ?_
    rw [bkc h.book]
    have : k < 3 := by omega
    rcases k with _ | _ | _ | k
    · rfl
    · rfl
    · rfl
    · omega
  · rw [if_neg hc]
    exact pageOf_out w b env (by omega)
end Go.Proofs.Ytnknhencobhjdaa.Qt
namespace Go.Proofs.Ytnknhencobhjdaa.Qt
open Go.ChangeShapes Go.WideShapes Go.ChangeAt Go.RowKit Go.Deep
end Go.Proofs.Ytnknhencobhjdaa.Qt
namespace Go.Proofs.Ytnknhencobhjdaa.Qt
open Go.ChangeShapes Go.WideShapes Go.ChangeAt Go.RowKit Go.Deep
def T.g (t : T) (k : Int) : Int := if k = 1 then t.a else if k = 2 then t.b else t.c
def T.put (t : T) (k : Int) (v : Int) : T := if k = 1 then ⟨v, t.b, t.c⟩ else if k = 2 then ⟨t.a, v, t.c⟩ else ⟨t.a, t.b, v⟩
def tkE (o : Option Pge) (kind n : Int) : Int :=
  match o with
  | none => 6
  | some x => if wrongB kind n = true then 1 else if x.q.g kind - x.h.g kind < n then 100 else 0
def tkS (s : St) (env kind n : Int) : St :=
  match at_ s env with
  | none => s
  | some x => if wrongB kind n = true ∨ x.q.g kind - x.h.g kind < n then s else upd s (env - 1).toNat (some ⟨x.p, x.q, x.h.put kind (x.h.g kind + n)⟩)
def gvE (o : Option Pge) (kind n : Int) : Int :=
  match o with
  | none => 6
  | some x => if wrongB kind n = true then 1 else if x.h.g kind < n then 1 else 0
def gvS (s : St) (env kind n : Int) : St :=
  match at_ s env with
  | none => s
  | some x => if wrongB kind n = true ∨ x.h.g kind < n then s else upd s (env - 1).toNat (some ⟨x.p, x.q, x.h.put kind (x.h.g kind - n)⟩)
theorem Bk.set {w w' : World} {base b : Nat} {t : T} {s : St} (h : Bk w base b t s) {e : Nat} {x : Pge} (hx : s e = some x) (h' : T) (ht : Touch x.p w w') (hp : w'.heap[x.p]? = some (pgO x.q h')) (hl : Le h' x.q) :
    Bk w' base b t (upd s e (some ⟨x.p, x.q, h'⟩)) ∧ Fr base [118, 141] w w' := by
  have hpx := h.page e x hx
  have hne : b ≠ x.p := fun e => by have h1 := h.book; rw [e, hpx.1] at h1; simp at h1
  have hq : ∀ i, qT (upd s e (some ⟨x.p, x.q, h'⟩) i) = qT (s i) := fun i => by
    unfold upd
    by_cases hi : i = e
    · rw [if_pos hi, hi, hx]; rfl
    · rw [if_neg hi]
  have hpt : ∀ i, ptr (upd s e (some ⟨x.p, x.q, h'⟩) i) = ptr (s i) := fun i => by
    unfold upd
    by_cases hi : i = e
    · rw [if_pos hi, hi, hx]; rfl
    · rw [if_neg hi]
  refine ⟨⟨?_, h.lo, ?_, ?_, ⟨?_, h.wf.tot, ?_, ?_, ?_, ?_⟩⟩, Fr.of_touch ht hpx.1 (by rfl) hpx.2⟩
  · rw [ht.block b (blk_lt h.book) hne]
    unfold bkO
    rw [hpt, hpt, hpt]
    exact h.book
  · intro i y hy
    unfold upd at hy
    by_cases hi : i = e
    · rw [if_pos hi] at hy
      cases hy
      exact ⟨hp, hpx.2⟩
    · rw [if_neg hi] at hy
      have := h.page i y hy
      exact ⟨by rw [ht.block y.p (blk_lt this.1) (h.apart i e y x hy hx hi)]; exact this.1, this.2⟩
  · intro i j y z hy hz hij
    unfold upd at hy hz
    by_cases hi : i = e <;> by_cases hj : j = e
    · omega
    · rw [if_pos hi] at hy
      rw [if_neg hj] at hz
      cases hy
      exact h.apart e j x z hx hz (by omega)
    · rw [if_neg hi] at hy
      rw [if_pos hj] at hz
      cases hz
      exact h.apart i e y x hy hx hi
    · rw [if_neg hi] at hy
      rw [if_neg hj] at hz
      exact h.apart i j y z hy hz hij
  · intro i hi
    unfold upd
    by_cases hi' : i = e
    · have := h.wf.out i hi; rw [hi', hx] at this; cases this
    · rw [if_neg hi']; exact h.wf.out i hi
  · intro i
    rw [hq]
    unfold upd
    by_cases hi : i = e
    · rw [if_pos hi, hi, hx]; exact hl
    · rw [if_neg hi]; exact h.wf.le i
  · rw [hq, hq, hq]; exact h.wf.sa
  · rw [hq, hq, hq]; exact h.wf.sb
  · rw [hq, hq, hq]; exact h.wf.sc
theorem touch_set {w w1 : World} {p : Nat} {q h : T} (hp : w.heap[p]? = some (pgO q h)) (hb : Below w.heap.size w w1) (n : Nat) (j : Nat) (v : Int) :
    Touch p w ((w1.drewN n).setCell ⟨p, j, none⟩ (i64 v)) ∧ ((w1.drewN n).setCell ⟨p, j, none⟩ (i64 v)).heap[p]? = some (.cells (#[i64 q.a, i64 q.b, i64 q.c, i64 h.a, i64 h.b, i64 h.c].setIfInBounds j (i64 v)) 141) := by
  have h1 := bkb hp hb
  have ht : Touch p w w1 := ⟨hb.os, hb.tape, hb.output, hb.size, fun k hk _ => hb.block k hk⟩
  exact ⟨(ht.drewN n).setCell rfl _, heap_setCell_same (w1.drewN n) p j _ 141 _ h1⟩
theorem Le.put {h q : T} (hl : Le h q) (k v : Int) (h0 : 0 ≤ v) (h1 : v ≤ q.g k) : Le (h.put k v) q := by
  obtain ⟨a0, a1, b0, b1, c0, c1⟩ := hl
  unfold T.g at h1
  unfold T.put
  by_cases k1 : k = 1
  · rw [if_pos k1] at h1 ⊢; exact ⟨h0, h1, b0, b1, c0, c1⟩
  · rw [if_neg k1] at h1 ⊢
    by_cases k2 : k = 2
    · rw [if_pos k2] at h1 ⊢; exact ⟨a0, a1, h0, h1, c0, c1⟩
    · rw [if_neg k2] at h1 ⊢; exact ⟨a0, a1, b0, b1, h0, h1⟩
set_option maxHeartbeats 1000000 in
theorem take_in {w : World} {base b : Nat} {t : T} {s : St} (h : Bk w base b t s) (env kind n : Int) (x : Pge) (hx : at_ s env = some x) (hk : kind = 1 ∨ kind = 2 ∨ kind = 3) (h0 : 0 ≤ n) (hm : n ≤ 9223372036854775807) (h1 : n ≤ x.q.g kind - x.h.g kind) :
    Calls Try.prog 57 #[.pointer (some ⟨b, 0, none⟩), i64 env, i64 kind, i64 n] w fun e w' => e = .returned (i64 0) ∧ Bk w' base b t (upd s (env - 1).toNat (some ⟨x.p, x.q, x.h.put kind (x.h.g kind + n)⟩)) ∧ Fr base [118, 141] w w' := by
  have HK : Hid (Bk w base b t s) := h
  have hs := (at_some hx).2.2
  have HS : Hid (s (env - 1).toNat = some x) := hs
  have HX : Hid (at_ s env = some x) := hx
  have hp := (h.page _ x hs).1
  have HP : Hid (w.heap[x.p]? = some (pgO x.q x.h)) := hp
  have hle := h.wf.le_at hs
  have h64 := h.wf.le64 hs
  have HL : Hid (Le x.h x.q) := hle
  have a0 := hle.a0; have a1 := hle.a1; have b0 := hle.b0; have b1 := hle.b1; have c0 := hle.c0; have c1 := hle.c1
  have a2 := h64.a1; have b2 := h64.b1; have c2 := h64.c1
  simp only at a2 b2 c2
  have hw : wrongB kind n = false := by unfold wrongB; simp; omega
  have HW : Hid (wrongB kind n = false) := hw
  clear hw h hs hx hp hle h64
  rcases hk with rfl | rfl | rfl
  · have h1' : n ≤ x.q.a - x.h.a := by simpa [T.g] using h1
    clear h1
    go_enter Try.func57, Try.ntmps57
    go_wp2_with fail
    refine (pageOf_ok HK.out env).mono ?_
    rintro e w1 ⟨rfl, hb1⟩
    rw [HX.out]
    have HB1 : Hid (Below w.heap.size w w1) := hb1
    clear hb1
    unfold ptr
    go_wp2_with fail
    refine (wrong_ok w1 _ n (by omega)).mono ?_
    rintro e w2 ⟨rfl, hb2⟩
    rw [HW.out]
    have hb2' := HB1.out.trans (hb2.mono HB1.out.size)
    have hp2 := bkb HP.out hb2'
    have d0 : w2.cell? ⟨x.p, 0, none⟩ = some (i64 x.q.a) := bkc hp2 0
    have d3 : w2.cell? ⟨x.p, 3, none⟩ = some (i64 x.h.a) := bkc hp2 3
    have f3 : w2.frozen? ⟨x.p, 3, none⟩ = false := bkf hp2 3
    have HB2 : Hid (Below w.heap.size w w2) := hb2'
    clear hb2 hb2' hp2
    go_wp2_with fail
    go_quiet (fail)
    go_wp2_with fail
    go_region
    all_goals go_wp2_with fail
    go_ret
    have ht := touch_set HP.out HB2.out (nq + 1) 3 (x.h.a + n)
    exact ⟨rfl, HK.out.set HS.out (x.h.put 1 (x.h.g 1 + n)) ht.1 (ht.2.trans (by rfl)) (HL.out.put 1 _ (by simp [T.g]; omega) (by simp [T.g]; omega))⟩
  · have h1' : n ≤ x.q.b - x.h.b := by simpa [T.g] using h1
    clear h1
    go_enter Try.func57, Try.ntmps57
    go_wp2_with fail
    refine (pageOf_ok HK.out env).mono ?_
    rintro e w1 ⟨rfl, hb1⟩
    rw [HX.out]
    have HB1 : Hid (Below w.heap.size w w1) := hb1
    clear hb1
    unfold ptr
    go_wp2_with fail
    refine (wrong_ok w1 _ n (by omega)).mono ?_
    rintro e w2 ⟨rfl, hb2⟩
    rw [HW.out]
    have hb2' := HB1.out.trans (hb2.mono HB1.out.size)
    have hp2 := bkb HP.out hb2'
    have d0 : w2.cell? ⟨x.p, 1, none⟩ = some (i64 x.q.b) := bkc hp2 1
    have d3 : w2.cell? ⟨x.p, 4, none⟩ = some (i64 x.h.b) := bkc hp2 4
    have f3 : w2.frozen? ⟨x.p, 4, none⟩ = false := bkf hp2 4
    have HB2 : Hid (Below w.heap.size w w2) := hb2'
    clear hb2 hb2' hp2
    go_wp2_with fail
    go_quiet (fail)
    go_wp2_with fail
    go_region
    all_goals go_wp2_with fail
    go_ret
    have ht := touch_set HP.out HB2.out (nq + 1) 4 (x.h.b + n)
    exact ⟨rfl, HK.out.set HS.out (x.h.put 2 (x.h.g 2 + n)) ht.1 (ht.2.trans (by rfl)) (HL.out.put 2 _ (by simp [T.g]; omega) (by simp [T.g]; omega))⟩
  · have h1' : n ≤ x.q.c - x.h.c := by simpa [T.g] using h1
    clear h1
    go_enter Try.func57, Try.ntmps57
    go_wp2_with fail
    refine (pageOf_ok HK.out env).mono ?_
    rintro e w1 ⟨rfl, hb1⟩
    rw [HX.out]
    have HB1 : Hid (Below w.heap.size w w1) := hb1
    clear hb1
    unfold ptr
    go_wp2_with fail
    refine (wrong_ok w1 _ n (by omega)).mono ?_
    rintro e w2 ⟨rfl, hb2⟩
    rw [HW.out]
    have hb2' := HB1.out.trans (hb2.mono HB1.out.size)
    have hp2 := bkb HP.out hb2'
    have d0 : w2.cell? ⟨x.p, 2, none⟩ = some (i64 x.q.c) := bkc hp2 2
    have d3 : w2.cell? ⟨x.p, 5, none⟩ = some (i64 x.h.c) := bkc hp2 5
    have f3 : w2.frozen? ⟨x.p, 5, none⟩ = false := bkf hp2 5
    have HB2 : Hid (Below w.heap.size w w2) := hb2'
    clear hb2 hb2' hp2
    go_wp2_with fail
    go_quiet (fail)
    go_wp2_with fail
    go_region
    all_goals go_wp2_with fail
    go_ret
    have ht := touch_set HP.out HB2.out (nq + 1) 5 (x.h.c + n)
    exact ⟨rfl, HK.out.set HS.out (x.h.put 3 (x.h.g 3 + n)) ht.1 (ht.2.trans (by rfl)) (HL.out.put 3 _ (by simp [T.g]; omega) (by simp [T.g]; omega))⟩
set_option maxHeartbeats 1000000 in
theorem take_more {w : World} {base b : Nat} {t : T} {s : St} (h : Bk w base b t s) (env kind n : Int) (x : Pge) (hx : at_ s env = some x) (hk : kind = 1 ∨ kind = 2 ∨ kind = 3) (h0 : 0 ≤ n) (hm : n ≤ 9223372036854775807) (h1 : x.q.g kind - x.h.g kind < n) :
    Calls Try.prog 57 #[.pointer (some ⟨b, 0, none⟩), i64 env, i64 kind, i64 n] w fun e w' => e = .returned (i64 100) ∧ Below w.heap.size w w' := by
  have HK : Hid (Bk w base b t s) := h
  have hs := (at_some hx).2.2
  have HS : Hid (s (env - 1).toNat = some x) := hs
  have HX : Hid (at_ s env = some x) := hx
  have hp := (h.page _ x hs).1
  have HP : Hid (w.heap[x.p]? = some (pgO x.q x.h)) := hp
  have hle := h.wf.le_at hs
  have h64 := h.wf.le64 hs
  have HL : Hid (Le x.h x.q) := hle
  have a0 := hle.a0; have a1 := hle.a1; have b0 := hle.b0; have b1 := hle.b1; have c0 := hle.c0; have c1 := hle.c1
  have a2 := h64.a1; have b2 := h64.b1; have c2 := h64.c1
  simp only at a2 b2 c2
  have hw : wrongB kind n = false := by unfold wrongB; simp; omega
  have HW : Hid (wrongB kind n = false) := hw
  clear hw h hs hx hp hle h64
  rcases hk with rfl | rfl | rfl
  · have h1' : x.q.a - x.h.a < n := by simpa [T.g] using h1
    clear h1
    go_enter Try.func57, Try.ntmps57
    go_wp2_with fail
    refine (pageOf_ok HK.out env).mono ?_
    rintro e w1 ⟨rfl, hb1⟩
    rw [HX.out]
    have HB1 : Hid (Below w.heap.size w w1) := hb1
    clear hb1
    unfold ptr
    go_wp2_with fail
    refine (wrong_ok w1 _ n (by omega)).mono ?_
    rintro e w2 ⟨rfl, hb2⟩
    rw [HW.out]
    have hb2' := HB1.out.trans (hb2.mono HB1.out.size)
    have hp2 := bkb HP.out hb2'
    have d0 : w2.cell? ⟨x.p, 0, none⟩ = some (i64 x.q.a) := bkc hp2 0
    have d3 : w2.cell? ⟨x.p, 3, none⟩ = some (i64 x.h.a) := bkc hp2 3
    have f3 : w2.frozen? ⟨x.p, 3, none⟩ = false := bkf hp2 3
    have HB2 : Hid (Below w.heap.size w w2) := hb2'
    clear hb2 hb2' hp2
    go_wp2_with fail
    go_quiet (fail)
    go_wp2_with fail
    go_ret
    exact ⟨rfl, below_drewN HB2.out _⟩
  · have h1' : x.q.b - x.h.b < n := by simpa [T.g] using h1
    clear h1
    go_enter Try.func57, Try.ntmps57
    go_wp2_with fail
    refine (pageOf_ok HK.out env).mono ?_
    rintro e w1 ⟨rfl, hb1⟩
    rw [HX.out]
    have HB1 : Hid (Below w.heap.size w w1) := hb1
    clear hb1
    unfold ptr
    go_wp2_with fail
    refine (wrong_ok w1 _ n (by omega)).mono ?_
    rintro e w2 ⟨rfl, hb2⟩
    rw [HW.out]
    have hb2' := HB1.out.trans (hb2.mono HB1.out.size)
    have hp2 := bkb HP.out hb2'
    have d0 : w2.cell? ⟨x.p, 1, none⟩ = some (i64 x.q.b) := bkc hp2 1
    have d3 : w2.cell? ⟨x.p, 4, none⟩ = some (i64 x.h.b) := bkc hp2 4
    have f3 : w2.frozen? ⟨x.p, 4, none⟩ = false := bkf hp2 4
    have HB2 : Hid (Below w.heap.size w w2) := hb2'
    clear hb2 hb2' hp2
    go_wp2_with fail
    go_quiet (fail)
    go_wp2_with fail
    go_ret
    exact ⟨rfl, below_drewN HB2.out _⟩
  · have h1' : x.q.c - x.h.c < n := by simpa [T.g] using h1
    clear h1
    go_enter Try.func57, Try.ntmps57
    go_wp2_with fail
    refine (pageOf_ok HK.out env).mono ?_
    rintro e w1 ⟨rfl, hb1⟩
    rw [HX.out]
    have HB1 : Hid (Below w.heap.size w w1) := hb1
    clear hb1
    unfold ptr
    go_wp2_with fail
    refine (wrong_ok w1 _ n (by omega)).mono ?_
    rintro e w2 ⟨rfl, hb2⟩
    rw [HW.out]
    have hb2' := HB1.out.trans (hb2.mono HB1.out.size)
    have hp2 := bkb HP.out hb2'
    have d0 : w2.cell? ⟨x.p, 2, none⟩ = some (i64 x.q.c) := bkc hp2 2
    have d3 : w2.cell? ⟨x.p, 5, none⟩ = some (i64 x.h.c) := bkc hp2 5
    have f3 : w2.frozen? ⟨x.p, 5, none⟩ = false := bkf hp2 5
    have HB2 : Hid (Below w.heap.size w w2) := hb2'
    clear hb2 hb2' hp2
    go_wp2_with fail
    go_quiet (fail)
    go_wp2_with fail
    go_ret
    exact ⟨rfl, below_drewN HB2.out _⟩
set_option maxHeartbeats 1000000 in
theorem give_in {w : World} {base b : Nat} {t : T} {s : St} (h : Bk w base b t s) (env kind n : Int) (x : Pge) (hx : at_ s env = some x) (hk : kind = 1 ∨ kind = 2 ∨ kind = 3) (h0 : 0 ≤ n) (hm : n ≤ 9223372036854775807) (h1 : n ≤ x.h.g kind) :
    Calls Try.prog 55 #[.pointer (some ⟨b, 0, none⟩), i64 env, i64 kind, i64 n] w fun e w' => e = .returned (i64 0) ∧ Bk w' base b t (upd s (env - 1).toNat (some ⟨x.p, x.q, x.h.put kind (x.h.g kind - n)⟩)) ∧ Fr base [118, 141] w w' := by
  have HK : Hid (Bk w base b t s) := h
  have hs := (at_some hx).2.2
  have HS : Hid (s (env - 1).toNat = some x) := hs
  have HX : Hid (at_ s env = some x) := hx
  have hp := (h.page _ x hs).1
  have HP : Hid (w.heap[x.p]? = some (pgO x.q x.h)) := hp
  have hle := h.wf.le_at hs
  have h64 := h.wf.le64 hs
  have HL : Hid (Le x.h x.q) := hle
  have a0 := hle.a0; have a1 := hle.a1; have b0 := hle.b0; have b1 := hle.b1; have c0 := hle.c0; have c1 := hle.c1
  have a2 := h64.a1; have b2 := h64.b1; have c2 := h64.c1
  simp only at a2 b2 c2
  have hw : wrongB kind n = false := by unfold wrongB; simp; omega
  have HW : Hid (wrongB kind n = false) := hw
  clear hw h hs hx hp hle h64
  rcases hk with rfl | rfl | rfl
  · have h1' : n ≤ x.h.a := by simpa [T.g] using h1
    clear h1
    go_enter Try.func55, Try.ntmps55
    go_wp2_with fail
    refine (pageOf_ok HK.out env).mono ?_
    rintro e w1 ⟨rfl, hb1⟩
    rw [HX.out]
    have HB1 : Hid (Below w.heap.size w w1) := hb1
    clear hb1
    unfold ptr
    go_wp2_with fail
    refine (wrong_ok w1 _ n (by omega)).mono ?_
    rintro e w2 ⟨rfl, hb2⟩
    rw [HW.out]
    have hb2' := HB1.out.trans (hb2.mono HB1.out.size)
    have hp2 := bkb HP.out hb2'
    have d0 : w2.cell? ⟨x.p, 0, none⟩ = some (i64 x.q.a) := bkc hp2 0
    have d3 : w2.cell? ⟨x.p, 3, none⟩ = some (i64 x.h.a) := bkc hp2 3
    have f3 : w2.frozen? ⟨x.p, 3, none⟩ = false := bkf hp2 3
    have HB2 : Hid (Below w.heap.size w w2) := hb2'
    clear hb2 hb2' hp2
    go_wp2_with fail
    go_region
    all_goals go_wp2_with fail
    go_ret
    have ht := touch_set HP.out HB2.out 1 3 (x.h.a - n)
    exact ⟨rfl, HK.out.set HS.out (x.h.put 1 (x.h.g 1 - n)) ht.1 (ht.2.trans (by rfl)) (HL.out.put 1 _ (by simp [T.g]; omega) (by simp [T.g]; omega))⟩
  · have h1' : n ≤ x.h.b := by simpa [T.g] using h1
    clear h1
    go_enter Try.func55, Try.ntmps55
    go_wp2_with fail
    refine (pageOf_ok HK.out env).mono ?_
    rintro e w1 ⟨rfl, hb1⟩
    rw [HX.out]
    have HB1 : Hid (Below w.heap.size w w1) := hb1
    clear hb1
    unfold ptr
    go_wp2_with fail
    refine (wrong_ok w1 _ n (by omega)).mono ?_
    rintro e w2 ⟨rfl, hb2⟩
    rw [HW.out]
    have hb2' := HB1.out.trans (hb2.mono HB1.out.size)
    have hp2 := bkb HP.out hb2'
    have d0 : w2.cell? ⟨x.p, 1, none⟩ = some (i64 x.q.b) := bkc hp2 1
    have d3 : w2.cell? ⟨x.p, 4, none⟩ = some (i64 x.h.b) := bkc hp2 4
    have f3 : w2.frozen? ⟨x.p, 4, none⟩ = false := bkf hp2 4
    have HB2 : Hid (Below w.heap.size w w2) := hb2'
    clear hb2 hb2' hp2
    go_wp2_with fail
    go_region
    all_goals go_wp2_with fail
    go_ret
    have ht := touch_set HP.out HB2.out 1 4 (x.h.b - n)
    exact ⟨rfl, HK.out.set HS.out (x.h.put 2 (x.h.g 2 - n)) ht.1 (ht.2.trans (by rfl)) (HL.out.put 2 _ (by simp [T.g]; omega) (by simp [T.g]; omega))⟩
  · have h1' : n ≤ x.h.c := by simpa [T.g] using h1
    clear h1
    go_enter Try.func55, Try.ntmps55
    go_wp2_with fail
    refine (pageOf_ok HK.out env).mono ?_
    rintro e w1 ⟨rfl, hb1⟩
    rw [HX.out]
    have HB1 : Hid (Below w.heap.size w w1) := hb1
    clear hb1
    unfold ptr
    go_wp2_with fail
    refine (wrong_ok w1 _ n (by omega)).mono ?_
    rintro e w2 ⟨rfl, hb2⟩
    rw [HW.out]
    have hb2' := HB1.out.trans (hb2.mono HB1.out.size)
    have hp2 := bkb HP.out hb2'
    have d0 : w2.cell? ⟨x.p, 2, none⟩ = some (i64 x.q.c) := bkc hp2 2
    have d3 : w2.cell? ⟨x.p, 5, none⟩ = some (i64 x.h.c) := bkc hp2 5
    have f3 : w2.frozen? ⟨x.p, 5, none⟩ = false := bkf hp2 5
    have HB2 : Hid (Below w.heap.size w w2) := hb2'
    clear hb2 hb2' hp2
    go_wp2_with fail
    go_region
    all_goals go_wp2_with fail
    go_ret
    have ht := touch_set HP.out HB2.out 1 5 (x.h.c - n)
    exact ⟨rfl, HK.out.set HS.out (x.h.put 3 (x.h.g 3 - n)) ht.1 (ht.2.trans (by rfl)) (HL.out.put 3 _ (by simp [T.g]; omega) (by simp [T.g]; omega))⟩
set_option maxHeartbeats 1000000 in
theorem give_more {w : World} {base b : Nat} {t : T} {s : St} (h : Bk w base b t s) (env kind n : Int) (x : Pge) (hx : at_ s env = some x) (hk : kind = 1 ∨ kind = 2 ∨ kind = 3) (h0 : 0 ≤ n) (hm : n ≤ 9223372036854775807) (h1 : x.h.g kind < n) :
    Calls Try.prog 55 #[.pointer (some ⟨b, 0, none⟩), i64 env, i64 kind, i64 n] w fun e w' => e = .returned (i64 1) ∧ Below w.heap.size w w' := by
  have HK : Hid (Bk w base b t s) := h
  have hs := (at_some hx).2.2
  have HS : Hid (s (env - 1).toNat = some x) := hs
  have HX : Hid (at_ s env = some x) := hx
  have hp := (h.page _ x hs).1
  have HP : Hid (w.heap[x.p]? = some (pgO x.q x.h)) := hp
  have hle := h.wf.le_at hs
  have h64 := h.wf.le64 hs
  have HL : Hid (Le x.h x.q) := hle
  have a0 := hle.a0; have a1 := hle.a1; have b0 := hle.b0; have b1 := hle.b1; have c0 := hle.c0; have c1 := hle.c1
  have a2 := h64.a1; have b2 := h64.b1; have c2 := h64.c1
  simp only at a2 b2 c2
  have hw : wrongB kind n = false := by unfold wrongB; simp; omega
  have HW : Hid (wrongB kind n = false) := hw
  clear hw h hs hx hp hle h64
  rcases hk with rfl | rfl | rfl
  · have h1' : x.h.a < n := by simpa [T.g] using h1
    clear h1
    go_enter Try.func55, Try.ntmps55
    go_wp2_with fail
    refine (pageOf_ok HK.out env).mono ?_
    rintro e w1 ⟨rfl, hb1⟩
    rw [HX.out]
    have HB1 : Hid (Below w.heap.size w w1) := hb1
    clear hb1
    unfold ptr
    go_wp2_with fail
    refine (wrong_ok w1 _ n (by omega)).mono ?_
    rintro e w2 ⟨rfl, hb2⟩
    rw [HW.out]
    have hb2' := HB1.out.trans (hb2.mono HB1.out.size)
    have hp2 := bkb HP.out hb2'
    have d0 : w2.cell? ⟨x.p, 0, none⟩ = some (i64 x.q.a) := bkc hp2 0
    have d3 : w2.cell? ⟨x.p, 3, none⟩ = some (i64 x.h.a) := bkc hp2 3
    have f3 : w2.frozen? ⟨x.p, 3, none⟩ = false := bkf hp2 3
    have HB2 : Hid (Below w.heap.size w w2) := hb2'
    clear hb2 hb2' hp2
    go_wp2_with fail
    go_ret
    exact ⟨rfl, HB2.out⟩
  · have h1' : x.h.b < n := by simpa [T.g] using h1
    clear h1
    go_enter Try.func55, Try.ntmps55
    go_wp2_with fail
    refine (pageOf_ok HK.out env).mono ?_
    rintro e w1 ⟨rfl, hb1⟩
    rw [HX.out]
    have HB1 : Hid (Below w.heap.size w w1) := hb1
    clear hb1
    unfold ptr
    go_wp2_with fail
    refine (wrong_ok w1 _ n (by omega)).mono ?_
    rintro e w2 ⟨rfl, hb2⟩
    rw [HW.out]
    have hb2' := HB1.out.trans (hb2.mono HB1.out.size)
    have hp2 := bkb HP.out hb2'
    have d0 : w2.cell? ⟨x.p, 1, none⟩ = some (i64 x.q.b) := bkc hp2 1
    have d3 : w2.cell? ⟨x.p, 4, none⟩ = some (i64 x.h.b) := bkc hp2 4
    have f3 : w2.frozen? ⟨x.p, 4, none⟩ = false := bkf hp2 4
    have HB2 : Hid (Below w.heap.size w w2) := hb2'
    clear hb2 hb2' hp2
    go_wp2_with fail
    go_ret
    exact ⟨rfl, HB2.out⟩
  · have h1' : x.h.c < n := by simpa [T.g] using h1
    clear h1
    go_enter Try.func55, Try.ntmps55
    go_wp2_with fail
    refine (pageOf_ok HK.out env).mono ?_
    rintro e w1 ⟨rfl, hb1⟩
    rw [HX.out]
    have HB1 : Hid (Below w.heap.size w w1) := hb1
    clear hb1
    unfold ptr
    go_wp2_with fail
    refine (wrong_ok w1 _ n (by omega)).mono ?_
    rintro e w2 ⟨rfl, hb2⟩
    rw [HW.out]
    have hb2' := HB1.out.trans (hb2.mono HB1.out.size)
    have hp2 := bkb HP.out hb2'
    have d0 : w2.cell? ⟨x.p, 2, none⟩ = some (i64 x.q.c) := bkc hp2 2
    have d3 : w2.cell? ⟨x.p, 5, none⟩ = some (i64 x.h.c) := bkc hp2 5
    have f3 : w2.frozen? ⟨x.p, 5, none⟩ = false := bkf hp2 5
    have HB2 : Hid (Below w.heap.size w w2) := hb2'
    clear hb2 hb2' hp2
    go_wp2_with fail
    go_ret
    exact ⟨rfl, HB2.out⟩
theorem take_none {w : World} {base b : Nat} {t : T} {s : St} (h : Bk w base b t s) (env kind n : Int) (hx : at_ s env = none) :
    Calls Try.prog 57 #[.pointer (some ⟨b, 0, none⟩), i64 env, i64 kind, i64 n] w fun e w' => e = .returned (i64 6) ∧ Below w.heap.size w w' := by
  have HK : Hid (Bk w base b t s) := h
  have HX : Hid (at_ s env = none) := hx
  clear h hx
  go_enter Try.func57, Try.ntmps57
  go_wp2_with fail
  refine (pageOf_ok HK.out env).mono ?_
  rintro e w1 ⟨rfl, hb1⟩
  rw [HX.out]
  have HB1 : Hid (Below w.heap.size w w1) := hb1
  clear hb1
  unfold ptr
  go_wp2_with fail
  go_ret
  exact ⟨rfl, HB1.out⟩
theorem give_none {w : World} {base b : Nat} {t : T} {s : St} (h : Bk w base b t s) (env kind n : Int) (hx : at_ s env = none) :
    Calls Try.prog 55 #[.pointer (some ⟨b, 0, none⟩), i64 env, i64 kind, i64 n] w fun e w' => e = .returned (i64 6) ∧ Below w.heap.size w w' := by
  have HK : Hid (Bk w base b t s) := h
  have HX : Hid (at_ s env = none) := hx
  clear h hx
  go_enter Try.func55, Try.ntmps55
  go_wp2_with fail
  refine (pageOf_ok HK.out env).mono ?_
  rintro e w1 ⟨rfl, hb1⟩
  rw [HX.out]
  have HB1 : Hid (Below w.heap.size w w1) := hb1
  clear hb1
  unfold ptr
  go_wp2_with fail
  go_ret
  exact ⟨rfl, HB1.out⟩
theorem take_wrong {w : World} {base b : Nat} {t : T} {s : St} (h : Bk w base b t s) (env kind n : Int) (hm : n ≤ 9223372036854775807) (x : Pge) (hx : at_ s env = some x) (hw : wrongB kind n = true) :
    Calls Try.prog 57 #[.pointer (some ⟨b, 0, none⟩), i64 env, i64 kind, i64 n] w fun e w' => e = .returned (i64 1) ∧ Below w.heap.size w w' := by
  have HK : Hid (Bk w base b t s) := h
  have HX : Hid (at_ s env = some x) := hx
  have HW : Hid (wrongB kind n = true) := hw
  clear h hx hw
  go_enter Try.func57, Try.ntmps57
  go_wp2_with fail
  refine (pageOf_ok HK.out env).mono ?_
  rintro e w1 ⟨rfl, hb1⟩
  rw [HX.out]
  have HB1 : Hid (Below w.heap.size w w1) := hb1
  clear hb1
  unfold ptr
  go_wp2_with fail
  refine (wrong_ok w1 _ n hm).mono ?_
  rintro e w2 ⟨rfl, hb2⟩
  rw [HW.out]
  have HB2 : Hid (Below w.heap.size w w2) := HB1.out.trans (hb2.mono HB1.out.size)
  clear hb2
  go_wp2_with fail
  go_ret
  exact ⟨rfl, HB2.out⟩
theorem give_wrong {w : World} {base b : Nat} {t : T} {s : St} (h : Bk w base b t s) (env kind n : Int) (hm : n ≤ 9223372036854775807) (x : Pge) (hx : at_ s env = some x) (hw : wrongB kind n = true) :
    Calls Try.prog 55 #[.pointer (some ⟨b, 0, none⟩), i64 env, i64 kind, i64 n] w fun e w' => e = .returned (i64 1) ∧ Below w.heap.size w w' := by
  have HK : Hid (Bk w base b t s) := h
  have HX : Hid (at_ s env = some x) := hx
  have HW : Hid (wrongB kind n = true) := hw
  clear h hx hw
  go_enter Try.func55, Try.ntmps55
  go_wp2_with fail
  refine (pageOf_ok HK.out env).mono ?_
  rintro e w1 ⟨rfl, hb1⟩
  rw [HX.out]
  have HB1 : Hid (Below w.heap.size w w1) := hb1
  clear hb1
  unfold ptr
  go_wp2_with fail
  refine (wrong_ok w1 _ n hm).mono ?_
  rintro e w2 ⟨rfl, hb2⟩
  rw [HW.out]
  have HB2 : Hid (Below w.heap.size w w2) := HB1.out.trans (hb2.mono HB1.out.size)
  clear hb2
  go_wp2_with fail
  go_ret
  exact ⟨rfl, HB2.out⟩
theorem wrongB_kind {kind n : Int} (h : wrongB kind n = false) : (kind = 1 ∨ kind = 2 ∨ kind = 3) ∧ 0 ≤ n := by
  unfold wrongB at h; simp at h; omega
theorem take_ok {w : World} {base b : Nat} {t : T} {s : St} (h : Bk w base b t s) (env kind n : Int) (hm : n ≤ 9223372036854775807) :
    Calls Try.prog 57 #[.pointer (some ⟨b, 0, none⟩), i64 env, i64 kind, i64 n] w fun e w' => e = .returned (i64 (tkE (at_ s env) kind n)) ∧ Bk w' base b t (tkS s env kind n) ∧ Fr base [118, 141] w w' := by
  have hlo : base ≤ w.heap.size := by have := blk_lt h.book; have := h.lo; omega
  have fin : ∀ (c d : Int), c = d → Calls Try.prog 57 #[.pointer (some ⟨b, 0, none⟩), i64 env, i64 kind, i64 n] w (fun e w' => e = .returned (i64 c) ∧ Below w.heap.size w w') → Calls Try.prog 57 #[.pointer (some ⟨b, 0, none⟩), i64 env, i64 kind, i64 n] w (fun e w' => e = .returned (i64 d) ∧ Bk w' base b t s ∧ Fr base [118, 141] w w') := fun c d hcd hc =>
    hc.mono fun e w' ⟨he, hb⟩ => ⟨by rw [he, hcd], h.below hb, Fr.of_below _ hb hlo⟩
  unfold tkE tkS
  cases hx : at_ s env with
  | none => exact fin 6 6 rfl (take_none h env kind n hx)
  | some x =>
    simp only
    by_cases hw : wrongB kind n = true
    · rw [if_pos hw, if_pos (Or.inl hw)]
      exact fin 1 1 rfl (take_wrong h env kind n hm x hx hw)
    · rw [if_neg hw]
      obtain ⟨hk, h0⟩ := wrongB_kind (by simpa using hw)
      by_cases hn : x.q.g kind - x.h.g kind < n
      · rw [if_pos hn, if_pos (Or.inr hn)]
        exact fin 100 100 rfl (take_more h env kind n x hx hk h0 hm hn)
      · rw [if_neg hn, if_neg (by intro h'; rcases h' with h' | h' <;> contradiction)]
        exact take_in h env kind n x hx hk h0 hm (by omega)
theorem give_ok {w : World} {base b : Nat} {t : T} {s : St} (h : Bk w base b t s) (env kind n : Int) (hm : n ≤ 9223372036854775807) :
    Calls Try.prog 55 #[.pointer (some ⟨b, 0, none⟩), i64 env, i64 kind, i64 n] w fun e w' => e = .returned (i64 (gvE (at_ s env) kind n)) ∧ Bk w' base b t (gvS s env kind n) ∧ Fr base [118, 141] w w' := by
  have hlo : base ≤ w.heap.size := by have := blk_lt h.book; have := h.lo; omega
  have fin : ∀ (c d : Int), c = d → Calls Try.prog 55 #[.pointer (some ⟨b, 0, none⟩), i64 env, i64 kind, i64 n] w (fun e w' => e = .returned (i64 c) ∧ Below w.heap.size w w') → Calls Try.prog 55 #[.pointer (some ⟨b, 0, none⟩), i64 env, i64 kind, i64 n] w (fun e w' => e = .returned (i64 d) ∧ Bk w' base b t s ∧ Fr base [118, 141] w w') := fun c d hcd hc =>
    hc.mono fun e w' ⟨he, hb⟩ => ⟨by rw [he, hcd], h.below hb, Fr.of_below _ hb hlo⟩
  unfold gvE gvS
  cases hx : at_ s env with
  | none => exact fin 6 6 rfl (give_none h env kind n hx)
  | some x =>
    simp only
    by_cases hw : wrongB kind n = true
    · rw [if_pos hw, if_pos (Or.inl hw)]
      exact fin 1 1 rfl (give_wrong h env kind n hm x hx hw)
    · rw [if_neg hw]
      obtain ⟨hk, h0⟩ := wrongB_kind (by simpa using hw)
      by_cases hn : x.h.g kind < n
      · rw [if_pos hn, if_pos (Or.inr hn)]
        exact fin 1 1 rfl (give_more h env kind n x hx hk h0 hm hn)
      · rw [if_neg hn, if_neg (by intro h'; rcases h' with h' | h' <;> contradiction)]
        exact give_in h env kind n x hx hk h0 hm (by omega)
end Go.Proofs.Ytnknhencobhjdaa.Qt
namespace Go.Proofs.Ytnknhencobhjdaa.Qt
open Go.ChangeShapes Go.WideShapes Go.ChangeAt Go.RowKit Go.Deep
abbrev triO (t : T) : Obj := .cells #[i64 t.a, i64 t.b, i64 t.c] 22
def TSl (w : World) (ao : Option Addr) (ts : List T) : Prop :=
  ts = [] ∨ ∃ b, ao = some ⟨b, 0, none⟩ ∧ b < w.heap.size ∧ ∀ i x, ts[i]? = some x → w.cell? ⟨b, i * 3, none⟩ = some (i64 x.a) ∧ w.cell? ⟨b, i * 3 + 1, none⟩ = some (i64 x.b) ∧ w.cell? ⟨b, i * 3 + 2, none⟩ = some (i64 x.c)
theorem TSl.below {w w' : World} {ao : Option Addr} {xs : List T} (h : TSl w ao xs) (hb : Below w.heap.size w w') : TSl w' ao xs := by
  rcases h with h | ⟨b, rfl, hlt, hc⟩
  · exact Or.inl h
  · exact Or.inr ⟨b, rfl, Nat.lt_of_lt_of_le hlt hb.size, fun i x hx => by rw [hb.cell (by exact hlt), hb.cell (by exact hlt), hb.cell (by exact hlt)]; exact hc i x hx⟩
theorem TSl.at {w : World} {ao : Option Addr} {xs : List T} (h : TSl w ao xs) {k : Nat} (hk : k < xs.length) : ∃ b, ao = some ⟨b, 0, none⟩ ∧ b < w.heap.size ∧ w.cell? ⟨b, k * 3, none⟩ = some (i64 xs[k].a) ∧ w.cell? ⟨b, k * 3 + 1, none⟩ = some (i64 xs[k].b) ∧ w.cell? ⟨b, k * 3 + 2, none⟩ = some (i64 xs[k].c) := by
  rcases h with rfl | ⟨b, rfl, hlt, hc⟩
  · simp at hk
  · exact ⟨b, rfl, hlt, hc k _ (List.getElem?_eq_getElem hk)⟩
def sub (t u : T) : T := ⟨t.a - u.a, t.b - u.b, t.c - u.c⟩
def lessT (t : T) : List T → T
  | [] => t
  | u :: r => lessT (sub t u) r
theorem lessT_snoc (t : T) (xs : List T) (x : T) : lessT t (xs ++ [x]) = sub (lessT t xs) x := by
  induction xs generalizing t with
  | nil => rfl
  | cons u r ih => exact ih (sub t u)
theorem lessT_next (t : T) (xs : List T) (k : Nat) (h : k < xs.length) : lessT t (xs.take (k + 1)) = sub (lessT t (xs.take k)) xs[k] := by
  rw [List.take_succ_eq_append_getElem h, lessT_snoc]
def mix (k : Nat) (t u : T) : T := ⟨if 0 < k then t.a - u.a else t.a, if 1 < k then t.b - u.b else t.b, if 2 < k then t.c - u.c else t.c⟩
def Small (B : Int) (t : T) : Prop := -B ≤ t.a ∧ t.a ≤ B ∧ -B ≤ t.b ∧ t.b ≤ B ∧ -B ≤ t.c ∧ t.c ≤ B
theorem Small.sub {B C : Int} {t u : T} (h : Small B t) (k : Small C u) : Small (B + C) (sub t u) := by
  unfold Small Ytnknhencobhjdaa.Qt.sub at *
  simp only
  omega
theorem small_take {t : T} {ts : List T} (ht : Small 64 t) (hs : ∀ u ∈ ts, Small 64 u) : ∀ k, k ≤ ts.length → Small (64 + 64 * k) (lessT t (ts.take k))
  | 0, _ => by simpa [lessT] using ht
  | k + 1, hk => by
    rw [lessT_next t ts k (by omega)]
    have h1 := (small_take ht hs k (by omega)).sub (hs ts[k] (List.getElem_mem (by omega)))
    have : (64 + 64 * (k : Int) + 64) = 64 + 64 * ((k + 1 : Nat) : Int) := by push_cast; omega
    rw [this] at h1
    exact h1
theorem idx0 (x y z : Int) (w : World) : (Instr.index 22 (.agg #[i64 x, i64 y, i64 z]) (.int .i64 0)).run Try.prog w = .ok (i64 x) w := by kernel_rfl
theorem idx1 (x y z : Int) (w : World) : (Instr.index 22 (.agg #[i64 x, i64 y, i64 z]) (.int .i64 1)).run Try.prog w = .ok (i64 y) w := by kernel_rfl
theorem idx2 (x y z : Int) (w : World) : (Instr.index 22 (.agg #[i64 x, i64 y, i64 z]) (.int .i64 2)).run Try.prog w = .ok (i64 z) w := by kernel_rfl
structure Ls (w wr : World) (t : T) : Prop where
  bel : Below w.heap.size w wr
  num : wr.heap[w.heap.size]? = some (triO t)
  res : wr.heap[w.heap.size + 1]? = some (triO zT)
  sz : w.heap.size + 1 < wr.heap.size
theorem Ls.set {w wr : World} {t t' : T} (h : Ls w wr t) (j : Nat) (v : Int) (he : (#[i64 t.a, i64 t.b, i64 t.c] : Array Value).setIfInBounds j (i64 v) = #[i64 t'.a, i64 t'.b, i64 t'.c]) : Ls w (wr.setCell ⟨w.heap.size, j, none⟩ (i64 v)) t' :=
  ⟨h.bel.setCell (Nat.le_refl _) _, by rw [heap_setCell_same wr _ j _ 22 _ h.num, he], by rw [heap_setCell_other wr _ _ _ (by simp)]; exact h.res, by simpa using h.sz⟩
theorem Ls.alloc {w wr : World} {t : T} (h : Ls w wr t) (o : Obj) : Ls w (wr.alloc o) t :=
  ⟨h.bel.alloc h.bel.size o, bka h.num o, bka h.res o, by have := h.sz; simp; omega⟩
set_option maxHeartbeats 2000000 in
theorem less_ok (w : World) (t : T) (ao : Option Addr) (cap : Nat) (ts : List T) (hI : TSl w ao ts) (hl : ts.length ≤ 3) (ht : Small 64 t) (hs : ∀ u ∈ ts, Small 64 u) :
    Calls Try.prog 74 #[t.v, .slice ao ts.length cap] w fun e w' => e = .returned (lessT t ts).v ∧ Below w.heap.size w w' := by
  have HI : Hid (TSl w ao ts) := hI
  have HT : Hid (∀ k, k ≤ ts.length → Small (64 + 64 * k) (lessT t (ts.take k))) := small_take ht hs
  have HU : Hid (∀ u ∈ ts, Small 64 u) := hs
  clear hI ht hs
  obtain ⟨N, hN⟩ : ∃ N, N = ts.length := ⟨_, rfl⟩
  have HN : Hid (N = ts.length) := hN
  rw [← hN] at hl ⊢
  clear hN
  have HL0 : Hid (Ls w ((w.alloc (triO t)).alloc (triO zT)) t) := ⟨((Below.refl _ _).alloc (Nat.le_refl _) _).alloc (by simp) _, bka (hlx w _) _, heap_last2 w _ _, by simp⟩
  go_enter Try.func74, Try.ntmps74
  go_wp2_with fail
  go_loopw [11] (fun i wr => ∃ k : Nat, k ≤ N ∧ i = i64 k ∧ Ls w wr (lessT t (ts.take k))) (fun i _ => N - (intOf i).toNat)
  case atStart => exact ⟨0, by omega, rfl, HL0.out⟩
  case round =>
    obtain ⟨k, hk, rfl, hls⟩ := hrel
    by_cases hlt : k < N
    · have hlt2 : k < ts.length := by rw [← HN.out]; exact hlt
      obtain ⟨b, rfl, hbl, c0, c1, c2⟩ := (HI.out.below hls.bel).at hlt2
      have HX := HU.out _ (List.getElem_mem hlt2)
      have HY := HT.out k (by omega)
      have HF : Hid (lessT t (ts.take (k + 1)) = sub (lessT t (ts.take k)) ts[k]) := lessT_next t ts k hlt2
      generalize ts[k] = u at *
      generalize lessT t (ts.take k) = v at *
      unfold Small at HX HY
      obtain ⟨x1, x2, x3, x4, x5, x6⟩ := HX
      obtain ⟨y1, y2, y3, y4, y5, y6⟩ := HY
      have hk3 : (k : Int) ≤ 3 := by omega
      have HLS : Hid (Ls w wr v) := hls
      clear hls
      go_wp2_with fail
      go_loopw [16] (fun i wq => ∃ j : Nat, j ≤ 3 ∧ i = i64 j ∧ Ls w wq (mix j v u)) (fun i _ => 3 - (intOf i).toNat)
      case atStart => exact ⟨0, by omega, rfl, HLS.out.alloc _⟩
      case round =>
        obtain ⟨j, hj, rfl, hm⟩ := hrel
        have HM : Hid (Ls w wr (mix j v u)) := hm
        have hnum := hm.num
        have hfz : ∀ o, wr.frozen? ⟨w.heap.size, o, none⟩ = false := bkf hnum
        have hcl : ∀ o, wr.cell? ⟨w.heap.size, o, none⟩ = (#[i64 (mix j v u).a, i64 (mix j v u).b, i64 (mix j v u).c] : Array Value)[o]? := bkc hnum
        clear hm hnum
        obtain rfl | rfl | rfl | rfl : j = 0 ∨ j = 1 ∨ j = 2 ∨ j = 3 := by omega
        · have ix := idx0 u.a u.b u.c
          have d0 : wr.cell? ⟨w.heap.size, 0, none⟩ = some (i64 v.a) := hcl 0
          clear hcl
          go_wp2_with fail
          go_roundw
          case rel => exact ⟨1, by omega, by go_num, HM.out.set 0 (v.a - u.a) rfl⟩
          case measure => simp [intOf]
        · have ix := idx1 u.a u.b u.c
          have d0 : wr.cell? ⟨w.heap.size, 1, none⟩ = some (i64 v.b) := hcl 1
          clear hcl
          go_wp2_with fail
          go_roundw
          case rel => exact ⟨2, by omega, by go_num, HM.out.set 1 (v.b - u.b) rfl⟩
          case measure => simp [intOf]
        · have ix := idx2 u.a u.b u.c
          have d0 : wr.cell? ⟨w.heap.size, 2, none⟩ = some (i64 v.c) := hcl 2
          clear hcl
          go_wp2_with fail
          go_roundw
          case rel => exact ⟨3, by omega, by go_num, HM.out.set 2 (v.c - u.c) rfl⟩
          case measure => simp [intOf]
        · have HS : Hid (Ls w wr (sub v u)) := HM.out
          clear hcl
          go_wp2_with fail
          exact ⟨⟨k + 1, by omega, by go_num, by rw [HF.out]; exact HS.out⟩, by simp [intOf]; omega⟩
    · have HE : Hid (Ls w wr (lessT t ts)) := by
        have := hls
        rw [List.take_of_length_le (by have := HN.out; omega)] at this
        exact this
      clear hls
      generalize hv : lessT t ts = v at *
      have HV : Hid (lessT t ts = v) := hv
      clear hv
      have hnum := HE.out.num
      have hres := HE.out.res
      have d0 : wr.cell? ⟨w.heap.size, 0, none⟩ = some (i64 v.a) := bkc hnum 0
      have d1 : wr.cell? ⟨w.heap.size, 1, none⟩ = some (i64 v.b) := bkc hnum 1
      have d2 : wr.cell? ⟨w.heap.size, 2, none⟩ = some (i64 v.c) := bkc hnum 2
      have e0 : wr.cell? ⟨w.heap.size + 1, 0, none⟩ = some (i64 0) := bkc hres 0
      have e1 : wr.cell? ⟨w.heap.size + 1, 1, none⟩ = some (i64 0) := bkc hres 1
      have e2 : wr.cell? ⟨w.heap.size + 1, 2, none⟩ = some (i64 0) := bkc hres 2
      have hfz : ∀ o, wr.frozen? ⟨w.heap.size + 1, o, none⟩ = false := bkf hres
      clear hnum hres
      go_wp2_with fail
      refine bodyPost_ret (v := v.v) (by simp [results, Try.results74, go_sem, e0, e1, e2]) rfl ⟨by rw [HV.out], ?_⟩
      exact ((((HE.out.bel).setCell (by simp) _).setCell (by simp) _).setCell (by simp) _)
end Go.Proofs.Ytnknhencobhjdaa.Qt
namespace Go.Proofs.Ytnknhencobhjdaa.Qt
open Go.ChangeShapes Go.WideShapes Go.ChangeAt Go.RowKit Go.Deep
def fits (t : T) : List T → Bool
  | [] => true
  | u :: r => if t.a < u.a ∨ t.b < u.b ∨ t.c < u.c then false else fits (sub t u) r
theorem fits_no {t u : T} {r : List T} (h : t.a < u.a ∨ t.b < u.b ∨ t.c < u.c) : fits t (u :: r) = false := by unfold fits; rw [if_pos h]
theorem fits_go {t u : T} {r : List T} (ha : u.a ≤ t.a) (hb : u.b ≤ t.b) (hc : u.c ≤ t.c) : fits t (u :: r) = fits (sub t u) r := by rw [fits, if_neg (by omega)]
structure Ft (w wr : World) (t : T) : Prop where
  bel : Below w.heap.size w wr
  num : wr.heap[w.heap.size + 1]? = some (triO t)
  sz : w.heap.size + 1 < wr.heap.size
theorem Ft.set {w wr : World} {t t' : T} (h : Ft w wr t) (j : Nat) (v : Int) (he : (#[i64 t.a, i64 t.b, i64 t.c] : Array Value).setIfInBounds j (i64 v) = #[i64 t'.a, i64 t'.b, i64 t'.c]) : Ft w (wr.setCell ⟨w.heap.size + 1, j, none⟩ (i64 v)) t' :=
  ⟨h.bel.setCell (by simp) _, by rw [heap_setCell_same wr _ j _ 22 _ h.num, he], by simpa using h.sz⟩
theorem Ft.alloc {w wr : World} {t : T} (h : Ft w wr t) (o : Obj) : Ft w (wr.alloc o) t :=
  ⟨h.bel.alloc h.bel.size o, bka h.num o, by have := h.sz; simp; omega⟩
set_option maxHeartbeats 2000000 in
theorem fit_ok (w : World) (t : T) (ao : Option Addr) (cap : Nat) (ts : List T) (hI : TSl w ao ts) (hl : ts.length ≤ 4) (ht : Le t ⟨64, 64, 64⟩) (hs : ∀ u ∈ ts, 0 ≤ u.a ∧ 0 ≤ u.b ∧ 0 ≤ u.c) :
    Calls Try.prog 79 #[t.v, .slice ao ts.length cap] w fun e w' => e = .returned (.bool (fits t ts)) ∧ Below w.heap.size w w' := by
  have HI : Hid (TSl w ao ts) := hI
  have HT : Hid (Le t ⟨64, 64, 64⟩) := ht
  have HU : Hid (∀ u ∈ ts, 0 ≤ u.a ∧ 0 ≤ u.b ∧ 0 ≤ u.c) := hs
  clear hI ht hs
  obtain ⟨N, hN⟩ : ∃ N, N = ts.length := ⟨_, rfl⟩
  have HN : Hid (N = ts.length) := hN
  rw [← hN] at hl ⊢
  clear hN
  have HL0 : Hid (Ft w ((w.alloc (triO t)).alloc (triO t)) t) := ⟨((Below.refl _ _).alloc (Nat.le_refl _) _).alloc (by simp) _, heap_last2 w _ _, by simp⟩
  go_enter Try.func79, Try.ntmps79
  go_wp2_with fail
  go_loopw [13] (fun i wr => ∃ (k : Nat) (v : T), k ≤ N ∧ i = i64 k ∧ Ft w wr v ∧ Le v ⟨64, 64, 64⟩ ∧ Hid (fits t ts = fits v (ts.drop k))) (fun i _ => N - (intOf i).toNat)
  case atStart => exact ⟨0, t, by omega, rfl, HL0.out, HT.out, rfl⟩
  case round =>
    obtain ⟨k, v, hk, rfl, hls, hv, HF⟩ := hrel
    by_cases hlt : k < N
    · have hlt2 : k < ts.length := by rw [← HN.out]; exact hlt
      obtain ⟨b, rfl, hbl, c0, c1, c2⟩ := (HI.out.below hls.bel).at hlt2
      obtain ⟨x1, x2, x3⟩ := HU.out _ (List.getElem_mem hlt2)
      have HD : Hid (ts.drop k = ts[k] :: ts.drop (k + 1)) := List.drop_eq_getElem_cons hlt2
      generalize ts[k] = u at *
      obtain ⟨y1, y2, y3, y4, y5, y6⟩ := hv
      simp only at y2 y4 y6
      have hk3 : (k : Int) ≤ 4 := by omega
      have HLS : Hid (Ft w wr v) := hls
      clear hls
      go_wp2_with fail
      go_loopw [18] (fun i wq => ∃ j : Nat, j ≤ 3 ∧ i = i64 j ∧ Ft w wq (mix j v u) ∧ Hid ((0 < j → u.a ≤ v.a) ∧ (1 < j → u.b ≤ v.b) ∧ (2 < j → u.c ≤ v.c))) (fun i _ => 3 - (intOf i).toNat)
      case atStart => exact ⟨0, by omega, rfl, HLS.out.alloc _, by constructor; omega; constructor <;> omega⟩
      case round =>
        obtain ⟨j, hj, rfl, hm, HJ⟩ := hrel
        have HM : Hid (Ft w wr (mix j v u)) := hm
        have hnum := hm.num
        have hfz : ∀ o, wr.frozen? ⟨w.heap.size + 1, o, none⟩ = false := bkf hnum
        have hcl : ∀ o, wr.cell? ⟨w.heap.size + 1, o, none⟩ = (#[i64 (mix j v u).a, i64 (mix j v u).b, i64 (mix j v u).c] : Array Value)[o]? := bkc hnum
        clear hm hnum
        obtain rfl | rfl | rfl | rfl : j = 0 ∨ j = 1 ∨ j = 2 ∨ j = 3 := by omega
        · have ix := idx0 u.a u.b u.c
          have d0 : wr.cell? ⟨w.heap.size + 1, 0, none⟩ = some (i64 v.a) := hcl 0
          clear hcl
          by_cases hg : v.a < u.a
          · have HE : Hid (fits t ts = false) := by
              show _ = _
              rw [HF.out, HD.out]
              exact fits_no (by omega)
            have HB : Hid (Below w.heap.size w wr) := HM.out.bel
            go_wp2_with fail
            go_ret
            exact ⟨by rw [HE.out]; rfl, HB.out⟩
          · obtain ⟨j1, j2, j3⟩ := HJ.out
            have HJ2 : Hid ((0 < 1 → u.a ≤ v.a) ∧ (1 < 1 → u.b ≤ v.b) ∧ (2 < 1 → u.c ≤ v.c)) := ⟨by omega, by omega, by omega⟩
            clear j1 j2 j3
            go_wp2_with fail
            go_roundw
            case rel => exact ⟨1, by omega, by go_num, HM.out.set 0 (v.a - u.a) rfl, HJ2⟩
            case measure => simp [intOf]
        · have ix := idx1 u.a u.b u.c
          have d0 : wr.cell? ⟨w.heap.size + 1, 1, none⟩ = some (i64 v.b) := hcl 1
          clear hcl
          by_cases hg : v.b < u.b
          · have HE : Hid (fits t ts = false) := by
              show _ = _
              rw [HF.out, HD.out]
              exact fits_no (by omega)
            have HB : Hid (Below w.heap.size w wr) := HM.out.bel
            go_wp2_with fail
            go_ret
            exact ⟨by rw [HE.out]; rfl, HB.out⟩
          · obtain ⟨j1, j2, j3⟩ := HJ.out
            have HJ2 : Hid ((0 < 2 → u.a ≤ v.a) ∧ (1 < 2 → u.b ≤ v.b) ∧ (2 < 2 → u.c ≤ v.c)) := ⟨by omega, by omega, by omega⟩
            clear j1 j2 j3
            go_wp2_with fail
            go_roundw
            case rel => exact ⟨2, by omega, by go_num, HM.out.set 1 (v.b - u.b) rfl, HJ2⟩
            case measure => simp [intOf]
        · have ix := idx2 u.a u.b u.c
          have d0 : wr.cell? ⟨w.heap.size + 1, 2, none⟩ = some (i64 v.c) := hcl 2
          clear hcl
          by_cases hg : v.c < u.c
          · have HE : Hid (fits t ts = false) := by
              show _ = _
              rw [HF.out, HD.out]
              exact fits_no (by omega)
            have HB : Hid (Below w.heap.size w wr) := HM.out.bel
            go_wp2_with fail
            go_ret
            exact ⟨by rw [HE.out]; rfl, HB.out⟩
          · obtain ⟨j1, j2, j3⟩ := HJ.out
            have HJ2 : Hid ((0 < 3 → u.a ≤ v.a) ∧ (1 < 3 → u.b ≤ v.b) ∧ (2 < 3 → u.c ≤ v.c)) := ⟨by omega, by omega, by omega⟩
            clear j1 j2 j3
            go_wp2_with fail
            go_roundw
            case rel => exact ⟨3, by omega, by go_num, HM.out.set 2 (v.c - u.c) rfl, HJ2⟩
            case measure => simp [intOf]
        · obtain ⟨j1, j2, j3⟩ := HJ.out
          have g1 := j1 (by omega)
          have g2 := j2 (by omega)
          have g3 := j3 (by omega)
          have HS : Hid (Ft w wr (sub v u)) := HM.out
          have HG : Hid (fits t ts = fits (sub v u) (ts.drop (k + 1))) := by
            show _ = _
            rw [HF.out, HD.out, fits_go g1 g2 g3]
          have HV : Hid (Le (sub v u) ⟨64, 64, 64⟩) := ⟨by simp only [sub]; omega, by simp only [sub]; omega, by simp only [sub]; omega, by simp only [sub]; omega, by simp only [sub]; omega, by simp only [sub]; omega⟩
          clear hcl j1 j2 j3
          go_wp2_with fail
          exact ⟨⟨k + 1, sub v u, by omega, by go_num, HS.out, HV.out, HG⟩, by simp [intOf]; omega⟩
    · have HE : Hid (fits t ts = true) := by
        have := HF.out
        rw [List.drop_eq_nil_of_le (by have := HN.out; omega)] at this
        exact this
      have HB : Hid (Below w.heap.size w wr) := hls.bel
      clear hls hv
      go_wp2_with fail
      go_ret
      exact ⟨by rw [HE.out]; rfl, HB.out⟩
end Go.Proofs.Ytnknhencobhjdaa.Qt
