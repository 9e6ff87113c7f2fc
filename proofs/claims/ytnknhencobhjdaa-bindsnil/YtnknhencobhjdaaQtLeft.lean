/- quota.Book's Left, Free and Close: their contracts; no statement is proved in this text. -/
import Derived.Test.YtnknhencobhjdaaQtAll
namespace Go.Proofs.Ytnknhencobhjdaa.Qt
open Go.ChangeShapes Go.WideShapes Go.ChangeAt Go.RowKit Go.Deep

theorem Le.small {t q : T} (h : Le t q) (k : Le q ⟨64, 64, 64⟩) : Small 64 t := by
  obtain ⟨a0, a1, b0, b1, c0, c1⟩ := h
  obtain ⟨d0, d1, e0, e1, f0, f1⟩ := k
  simp only at d1 e1 f1
  unfold Small
  omega
theorem tsl_one {w : World} {b : Nat} {u : T} (h : w.heap[b]? = some (triO u)) : TSl w (some ⟨b, 0, none⟩) [u] :=
  Or.inr ⟨b, rfl, blk_lt h, fun i x hx => by
    rcases i with _ | i
    · simp at hx; subst hx; exact ⟨blk_cell h 0, blk_cell h 1, blk_cell h 2⟩
    · simp at hx⟩
def lfT : Option Pge → T
  | none => zT
  | some x => sub x.q x.h
set_option maxRecDepth 100000 in
theorem left_nil (w : World) (env : Int) :
    Calls Try.prog 61 #[.pointer none, i64 env] w fun e w' => e = .returned (.tuple #[zT.v, i64 6]) ∧ Below w.heap.size w w' := by
  have HB : Hid (∀ o, Below w.heap.size w (w.alloc o)) := fun o => (Below.refl _ _).alloc (Nat.le_refl _) o
  go_enter Try.func61, Try.ntmps61
  go_wp2_with (go_at_call 77; refine (pageOf_nil _ _).mono ?_; rintro e w1 ⟨rfl, rfl⟩)
  refine bodyPost_ret (v := .tuple #[zT.v, i64 6]) (by simp [results, Try.results61, go_sem, zT]) rfl ⟨rfl, ?_⟩
  exact HB.out _
set_option maxRecDepth 100000 in
set_option maxHeartbeats 1000000 in
theorem left_ok {w : World} {base b : Nat} {t : T} {s : St} (h : Bk w base b t s) (env : Int) :
    Calls Try.prog 61 #[.pointer (some ⟨b, 0, none⟩), i64 env] w fun e w' => e = .returned (.tuple #[(lfT (at_ s env)).v, i64 (pE (at_ s env))]) ∧ Below w.heap.size w w' := by
  have HB : Hid (∀ o, Below w.heap.size w (w.alloc o)) := fun o => (Below.refl _ _).alloc (Nat.le_refl _) o
  have HK : Hid (∀ o, Bk (w.alloc o) base b t s) := fun o => h.below ((Below.refl _ _).alloc (Nat.le_refl _) o)
  cases hx : at_ s env with
  | none =>
    have HX : Hid (at_ s env = none) := hx
    clear h hx
    go_enter Try.func61, Try.ntmps61
    go_wp2_with fail
    refine (pageOf_ok (HK.out _) env).mono ?_
    rintro e w1 ⟨rfl, hb1⟩
    rw [HX.out]
    have hz : w.heap.size < w1.heap.size := by have := hb1.size; simp at this; omega
    have hc : ∀ j, w1.cell? ⟨w.heap.size, j, none⟩ = (#[i64 0, i64 0, i64 0] : Array Value)[j]? := fun j => by
      rw [hb1.cell (by show w.heap.size < _; simp)]; exact blk_cell (heap_last w _) j
    have hf : ∀ j, w1.frozen? ⟨w.heap.size, j, none⟩ = false := fun j => by
      rw [hb1.frozen (by show w.heap.size < _; simp)]; exact blk_frozen (heap_last w _) j
    have c0 : w1.cell? ⟨w.heap.size, 0, none⟩ = some (i64 0) := hc 0
    have c1 : w1.cell? ⟨w.heap.size, 1, none⟩ = some (i64 0) := hc 1
    have c2 : w1.cell? ⟨w.heap.size, 2, none⟩ = some (i64 0) := hc 2
    have HB1 : Hid (Below w.heap.size w w1) := (HB.out _).trans (hb1.mono (by simp))
    clear hb1 hc
    unfold ptr
    go_wp2_with fail
    refine bodyPost_ret (v := .tuple #[zT.v, i64 6]) (by simp [results, Try.results61, go_sem, zT, c0, c1, c2]) rfl ⟨rfl, ?_⟩
    exact ((((HB1.out).setCell (by simp) _).setCell (by simp) _).setCell (by simp) _)
  | some x =>
    have HX : Hid (at_ s env = some x) := hx
    have hs := (at_some hx).2.2
    have hp := (h.page _ x hs).1
    have HQ : Hid (Small 64 x.q) := (h.wf.le64 hs).small ⟨by decide, by decide, by decide, by decide, by decide, by decide⟩
    have HH : Hid (Small 64 x.h) := (h.wf.le_at hs).small (h.wf.le64 hs)
    have hpl := blk_lt hp
    have hne : x.p ≠ w.heap.size := by omega
    clear h hx hs
    go_enter Try.func61, Try.ntmps61
    go_wp2_with fail
    refine (pageOf_ok (HK.out _) env).mono ?_
    rintro e w1 ⟨rfl, hb1⟩
    rw [HX.out]
    have hz : w.heap.size < w1.heap.size := by have := hb1.size; simp at this; omega
    have hr1 : w1.heap[w.heap.size]? = some (triO zT) := by rw [hb1.block _ (by simp)]; exact heap_last w _
    have hp1 := blk_below (blk_alloc hp _) hb1
    have HR1 : Hid (w1.heap[w.heap.size]? = some (triO zT)) := hr1
    have HP1 : Hid (w1.heap[x.p]? = some (pgO x.q x.h)) := hp1
    have q0 : w1.cell? ⟨x.p, 0, none⟩ = some (i64 x.q.a) := blk_cell hp1 0
    have q1 : w1.cell? ⟨x.p, 1, none⟩ = some (i64 x.q.b) := blk_cell hp1 1
    have q2 : w1.cell? ⟨x.p, 2, none⟩ = some (i64 x.q.c) := blk_cell hp1 2
    have d0 : w1.cell? ⟨x.p, 3, none⟩ = some (i64 x.h.a) := blk_cell hp1 3
    have d1 : w1.cell? ⟨x.p, 4, none⟩ = some (i64 x.h.b) := blk_cell hp1 4
    have d2 : w1.cell? ⟨x.p, 5, none⟩ = some (i64 x.h.c) := blk_cell hp1 5
    have HB1 : Hid (Below w.heap.size w w1) := (HB.out _).trans (hb1.mono (by simp))
    have HUP : Hid (∀ U : World, U.heap[x.p]? = some (pgO x.q x.h) → (U.cell? ⟨x.p, 0, none⟩ = some (i64 x.q.a) ∧ U.cell? ⟨x.p, 1, none⟩ = some (i64 x.q.b) ∧ U.cell? ⟨x.p, 2, none⟩ = some (i64 x.q.c) ∧ U.cell? ⟨x.p, 3, none⟩ = some (i64 x.h.a) ∧ U.cell? ⟨x.p, 4, none⟩ = some (i64 x.h.b) ∧ U.cell? ⟨x.p, 5, none⟩ = some (i64 x.h.c))) := fun U hU => ⟨blk_cell hU 0, blk_cell hU 1, blk_cell hU 2, blk_cell hU 3, blk_cell hU 4, blk_cell hU 5⟩
    have HLT : Hid (lessT x.q [x.h] = sub x.q x.h) := rfl
    clear hb1 hp1 hp hr1
    unfold ptr
    go_wp2_with fail
    go_region_held3 (fun U => U.cell? ⟨x.p, 0, none⟩ = some (i64 x.q.a) ∧ U.cell? ⟨x.p, 1, none⟩ = some (i64 x.q.b) ∧ U.cell? ⟨x.p, 2, none⟩ = some (i64 x.q.c) ∧ U.cell? ⟨x.p, 3, none⟩ = some (i64 x.h.a) ∧ U.cell? ⟨x.p, 4, none⟩ = some (i64 x.h.b) ∧ U.cell? ⟨x.p, 5, none⟩ = some (i64 x.h.c)) (first | exact HUP.out _ HP1.out | exact HUP.out _ (blk_alloc HP1.out _) | exact HUP.out _ (blk_alloc (w := w1.drew) HP1.out _) | exact HUP.out _ HP5.out | exact HUP.out _ (by rw [heap_setCell_other _ _ _ _ hne, heap_setCell_other _ _ _ _ hne, heap_setCell_other _ _ _ _ hne]; exact HP5.out))
      ((go_at_call 74; refine (less_ok (w1.alloc (triO x.h)).drew x.q (some ⟨w1.heap.size, 0, none⟩) 1 [x.h] (tsl_one (w := (w1.alloc (triO x.h)).drew) (heap_last w1 _)) (by simp) HQ.out (by simpa using HH.out)).mono ?_; rintro e w5 ⟨rfl, hb5⟩; have HP5 : Hid (w5.heap[x.p]? = some (pgO x.q x.h)) := blk_below (w := (w1.alloc (triO x.h)).drew) (blk_alloc HP1.out _) hb5; have hr5 : w5.heap[w.heap.size]? = some (triO zT) := blk_below (w := (w1.alloc (triO x.h)).drew) (blk_alloc HR1.out _) hb5; have hz5 : w.heap.size < w5.heap.size := blk_lt hr5; have r0 : w5.cell? ⟨w.heap.size, 0, none⟩ = some (i64 0) := blk_cell hr5 0; have r1 : w5.cell? ⟨w.heap.size, 1, none⟩ = some (i64 0) := blk_cell hr5 1; have r2 : w5.cell? ⟨w.heap.size, 2, none⟩ = some (i64 0) := blk_cell hr5 2; have rf : ∀ j, w5.frozen? ⟨w.heap.size, j, none⟩ = false := blk_frozen hr5; have HB5 : Hid (Below w.heap.size w w5) := (Below.drew (HB1.out.alloc HB1.out.size (triO x.h))).trans (hb5.mono (by have := HB1.out.size; simp; omega)); clear hb5 hr5; rw [HLT.out]))
    all_goals go_wp2_with fail
    refine bodyPost_ret (v := .tuple #[(sub x.q x.h).v, i64 0]) (by simp [results, Try.results61, go_sem, r0, r1, r2]) rfl ⟨rfl, ?_⟩
    exact ((((HB5.out).setCell (by simp) _).setCell (by simp) _).setCell (by simp) _)

theorem told_mem {s : St} {f : Pge → T} {u : T} : ∀ {k : Nat}, u ∈ told s f k → ∃ e x, s e = some x ∧ u = f x
  | 0, h => by cases h
  | k + 1, h => by
    unfold told at h
    rw [List.mem_append] at h
    rcases h with h | h
    · exact told_mem h
    · cases hx : s k with
      | none => rw [hx] at h; cases h
      | some x => rw [hx] at h; simp at h; exact ⟨k, x, hx, h⟩
set_option maxRecDepth 100000 in
theorem free_nil (w : World) :
    Calls Try.prog 52 #[.pointer none] w fun e w' => e = .returned zT.v ∧ Below w.heap.size w w' := by
  have HB : Hid (∀ o, Below w.heap.size w (w.alloc o)) := fun o => (Below.refl _ _).alloc (Nat.le_refl _) o
  go_enter Try.func52, Try.ntmps52
  go_wp2_with fail
  refine bodyPost_ret (v := zT.v) (by simp [results, Try.results52, go_sem, zT]) rfl ⟨rfl, ?_⟩
  exact HB.out _
def freeT (t : T) (s : St) : T := lessT t (told s (·.h) 3)
set_option maxRecDepth 100000 in
set_option maxHeartbeats 1000000 in
theorem free_ok {w : World} {base b : Nat} {t : T} {s : St} (h : Bk w base b t s) :
    Calls Try.prog 52 #[.pointer (some ⟨b, 0, none⟩)] w fun e w' => e = .returned (freeT t s).v ∧ Below w.heap.size w w' := by
  have HB : Hid (∀ o, Below w.heap.size w (w.alloc o)) := fun o => (Below.refl _ _).alloc (Nat.le_refl _) o
  have HK : Hid (Bk w base b t s) := h
  have hbk := h.book
  have hbl := blk_lt hbk
  have hne : b ≠ w.heap.size := by omega
  have HT : Hid (Small 64 t) := h.wf.tot.small ⟨by decide, by decide, by decide, by decide, by decide, by decide⟩
  have HS : Hid (∀ u ∈ told s (·.h) 3, Small 64 u) := fun u hu => by
    obtain ⟨e, x, hx, rfl⟩ := told_mem hu
    exact (h.wf.le_at hx).small (h.wf.le64 hx)
  have HL : Hid ((told s (·.h) 3).length ≤ 3) := told_le s _ 3
  have HUP : Hid (∀ U : World, U.heap[b]? = some (bkO t s) → (U.cell? ⟨b, 0, none⟩ = some (i64 t.a) ∧ U.cell? ⟨b, 1, none⟩ = some (i64 t.b) ∧ U.cell? ⟨b, 2, none⟩ = some (i64 t.c))) := fun U hU => ⟨blk_cell hU 0, blk_cell hU 1, blk_cell hU 2⟩
  have HF : Hid (freeT t s = lessT t (told s (·.h) 3)) := rfl
  obtain ⟨V, hV⟩ : ∃ V, V = w.alloc (triO zT) := ⟨_, rfl⟩
  have HKV : Hid (Bk V base b t s) := by rw [hV]; exact h.below (HB.out _)
  have HRV : Hid (V.heap[w.heap.size]? = some (triO zT)) := by rw [hV]; exact heap_last w _
  have HBV : Hid (Below w.heap.size w V) := by rw [hV]; exact HB.out _
  have hzV : w.heap.size < V.heap.size := by rw [hV]; simp
  have HV : Hid (V = w.alloc (triO zT)) := hV
  obtain ⟨v0, v1, v2⟩ := HUP.out V HKV.out.book
  clear h hbk hV
  go_enter Try.func52, Try.ntmps52
  go_wp2_with fail
  rw [show w.alloc (Obj.cells #[Value.int IntKind.i64 0, Value.int IntKind.i64 0, Value.int IntKind.i64 0] 22) = V from HV.out.symm]
  go_region_held3 (fun U => U.cell? ⟨b, 0, none⟩ = some (i64 t.a) ∧ U.cell? ⟨b, 1, none⟩ = some (i64 t.b) ∧ U.cell? ⟨b, 2, none⟩ = some (i64 t.c)) (first | exact HUP.out _ HKV.out.book | exact HUP.out _ HP3.out | exact HUP.out _ HP5.out | exact HUP.out _ (by rw [heap_setCell_other _ _ _ _ hne, heap_setCell_other _ _ _ _ hne, heap_setCell_other _ _ _ _ hne]; exact HP5.out))
    ((first
      | (go_at_call 75; refine (all28_ok (w := V.drew) (HKV.out.same (fun _ _ h _ => h))).mono ?_; rintro e w3 ⟨v, rfl, ho3, hb3⟩; obtain ⟨ao, cap, rfl, hts⟩ := own_tsl ho3; have HTS : Hid (TSl w3 ao (told s (·.h) 3)) := hts; have HP3 : Hid (w3.heap[b]? = some (bkO t s)) := blk_below (w := V.drew) HKV.out.book hb3; have HR3 : Hid (w3.heap[w.heap.size]? = some (triO zT)) := blk_below (w := V.drew) HRV.out hb3; have HB3 : Hid (Below w.heap.size w w3) := (Below.drew HBV.out).trans (hb3.mono HBV.out.size); clear ho3 hb3 hts)
      | (go_at_call 74; refine (less_ok w3 t ao cap (told s (·.h) 3) HTS.out HL.out HT.out HS.out).mono ?_; rintro e w5 ⟨rfl, hb5⟩; have HP5 : Hid (w5.heap[b]? = some (bkO t s)) := blk_below HP3.out hb5; have hr5 : w5.heap[w.heap.size]? = some (triO zT) := blk_below HR3.out hb5; have hz5 : w.heap.size < w5.heap.size := blk_lt hr5; have r0 : w5.cell? ⟨w.heap.size, 0, none⟩ = some (i64 0) := blk_cell hr5 0; have r1 : w5.cell? ⟨w.heap.size, 1, none⟩ = some (i64 0) := blk_cell hr5 1; have r2 : w5.cell? ⟨w.heap.size, 2, none⟩ = some (i64 0) := blk_cell hr5 2; have rf : ∀ j, w5.frozen? ⟨w.heap.size, j, none⟩ = false := blk_frozen hr5; have HB5 : Hid (Below w.heap.size w w5) := HB3.out.trans (hb5.mono HB3.out.size); clear hb5 hr5)))
  all_goals go_wp2_with fail
  refine bodyPost_ret (v := (freeT t s).v) (by rw [HF.out]; simp [results, Try.results52, go_sem, r0, r1, r2]) rfl ⟨rfl, ?_⟩
  exact ((((HB5.out).setCell (by simp) _).setCell (by simp) _).setCell (by simp) _)

def clE (o : Option Pge) : Int := pE o
def clS (s : St) (env : Int) : St :=
  match at_ s env with
  | none => s
  | some _ => upd s (env - 1).toNat none
set_option maxRecDepth 100000 in
theorem close_nil (w : World) (env : Int) :
    Calls Try.prog 59 #[.pointer none, i64 env] w fun e w' => e = .returned (i64 6) ∧ w' = w := by
  go_enter Try.func59, Try.ntmps59
  go_wp2_with (go_at_call 77; refine (pageOf_nil _ _).mono ?_; rintro e w1 ⟨rfl, rfl⟩)
  go_ret
  exact ⟨rfl, rfl⟩
theorem Bk.drop {w w' : World} {base b : Nat} {t : T} {s : St} (h : Bk w base b t s) {e : Nat} (ht : Touch b w w') (hb : w'.heap[b]? = some (bkO t (upd s e none))) :
    Bk w' base b t (upd s e none) ∧ Fr base [118, 141] w w' := by
  have hne : ∀ i y, s i = some y → y.p ≠ b := fun i y hy e => by have h1 := h.book; rw [← e, (h.page i y hy).1] at h1; simp at h1
  have hu : ∀ i y, upd s e none i = some y → s i = some y := fun i y hy => by
    unfold upd at hy
    by_cases hi : i = e
    · rw [if_pos hi] at hy; cases hy
    · rw [if_neg hi] at hy; exact hy
  have hle : ∀ i, (qT (upd s e none i)).a ≤ (qT (s i)).a ∧ (qT (upd s e none i)).b ≤ (qT (s i)).b ∧ (qT (upd s e none i)).c ≤ (qT (s i)).c := fun i => by
    unfold upd
    by_cases hi : i = e
    · rw [if_pos hi]
      have := h.wf.le i
      exact ⟨Int.le_trans this.a0 this.a1, Int.le_trans this.b0 this.b1, Int.le_trans this.c0 this.c1⟩
    · rw [if_neg hi]; exact ⟨Int.le_refl _, Int.le_refl _, Int.le_refl _⟩
  have h0 := hle 0
  have h1 := hle 1
  have h2 := hle 2
  refine ⟨⟨hb, h.lo, fun i y hy => ?_, fun i j y z hy hz => h.apart i j y z (hu i y hy) (hu j z hz), ⟨fun i hi => ?_, h.wf.tot, fun i => ?_, ?_, ?_, ?_⟩⟩, Fr.of_touch ht h.book (by rfl) h.lo⟩
  · have := h.page i y (hu i y hy)
    exact ⟨by rw [ht.block y.p (blk_lt this.1) (hne i y (hu i y hy))]; exact this.1, this.2⟩
  · unfold upd
    by_cases hi' : i = e
    · rw [if_pos hi']
    · rw [if_neg hi']; exact h.wf.out i hi
  · unfold upd
    by_cases hi : i = e
    · rw [if_pos hi]; exact ⟨Int.le_refl _, Int.le_refl _, Int.le_refl _, Int.le_refl _, Int.le_refl _, Int.le_refl _⟩
    · rw [if_neg hi]; exact h.wf.le i
  · have := h.wf.sa; omega
  · have := h.wf.sb; omega
  · have := h.wf.sc; omega
theorem touch_book {w w1 : World} {b : Nat} {t : T} {s : St} (hp : w.heap[b]? = some (bkO t s)) (hb : Below w.heap.size w w1) (j : Nat) (v : Value) :
    Touch b w (w1.setCell ⟨b, j, none⟩ v) ∧ (w1.setCell ⟨b, j, none⟩ v).heap[b]? = some (.cells (#[i64 t.a, i64 t.b, i64 t.c, ptr (s 0), ptr (s 1), ptr (s 2)].setIfInBounds j v) 118) := by
  have h1 := blk_below hp hb
  have ht : Touch b w w1 := ⟨hb.os, hb.tape, hb.output, hb.size, fun k hk _ => hb.block k hk⟩
  exact ⟨ht.setCell rfl _, heap_setCell_same w1 b j _ 118 _ h1⟩
set_option maxRecDepth 100000 in
theorem close_ok {w : World} {base b : Nat} {t : T} {s : St} (h : Bk w base b t s) (env : Int) :
    Calls Try.prog 59 #[.pointer (some ⟨b, 0, none⟩), i64 env] w fun e w' => e = .returned (i64 (clE (at_ s env))) ∧ Bk w' base b t (clS s env) ∧ Fr base [118, 141] w w' := by
  have hlo : base ≤ w.heap.size := by have := blk_lt h.book; have := h.lo; omega
  have HK : Hid (Bk w base b t s) := h
  unfold clE clS
  cases hx : at_ s env with
  | none =>
    have HX : Hid (at_ s env = none) := hx
    clear h hx
    go_enter Try.func59, Try.ntmps59
    go_wp2_with fail
    refine (pageOf_ok HK.out env).mono ?_
    rintro e w1 ⟨rfl, hb1⟩
    rw [HX.out]
    have HB1 : Hid (Below w.heap.size w w1) := hb1
    clear hb1
    unfold ptr
    go_wp2_with fail
    go_ret
    exact ⟨rfl, HK.out.below HB1.out, Fr.of_below _ HB1.out hlo⟩
  | some x =>
    have HX : Hid (at_ s env = some x) := hx
    obtain ⟨e1, e2, hs⟩ := at_some hx
    clear h hx hs
    obtain rfl | rfl | rfl : env = 1 ∨ env = 2 ∨ env = 3 := by omega
    · go_enter Try.func59, Try.ntmps59
      go_wp2_with fail
      refine (pageOf_ok HK.out 1).mono ?_
      rintro e w1 ⟨rfl, hb1⟩
      rw [HX.out]
      have hbk := blk_below HK.out.book hb1
      have d0 : w1.cell? ⟨b, 3, none⟩ = some (ptr (s 0)) := blk_cell hbk 3
      have f0 : w1.frozen? ⟨b, 3, none⟩ = false := blk_frozen hbk 3
      have HB1 : Hid (Below w.heap.size w w1) := hb1
      clear hb1 hbk
      generalize ptr (s 0) = P at *
      unfold ptr
      go_wp2_with fail
      go_ret
      have ht := touch_book HK.out.book HB1.out 3 (.pointer none)
      exact ⟨rfl, HK.out.drop ht.1 (ht.2.trans (by rfl))⟩
    · go_enter Try.func59, Try.ntmps59
      go_wp2_with fail
      refine (pageOf_ok HK.out 2).mono ?_
      rintro e w1 ⟨rfl, hb1⟩
      rw [HX.out]
      have hbk := blk_below HK.out.book hb1
      have d0 : w1.cell? ⟨b, 4, none⟩ = some (ptr (s 1)) := blk_cell hbk 4
      have f0 : w1.frozen? ⟨b, 4, none⟩ = false := blk_frozen hbk 4
      have HB1 : Hid (Below w.heap.size w w1) := hb1
      clear hb1 hbk
      generalize ptr (s 1) = P at *
      unfold ptr
      go_wp2_with fail
      go_ret
      have ht := touch_book HK.out.book HB1.out 4 (.pointer none)
      exact ⟨rfl, HK.out.drop ht.1 (ht.2.trans (by rfl))⟩
    · go_enter Try.func59, Try.ntmps59
      go_wp2_with fail
      refine (pageOf_ok HK.out 3).mono ?_
      rintro e w1 ⟨rfl, hb1⟩
      rw [HX.out]
      have hbk := blk_below HK.out.book hb1
      have d0 : w1.cell? ⟨b, 5, none⟩ = some (ptr (s 2)) := blk_cell hbk 5
      have f0 : w1.frozen? ⟨b, 5, none⟩ = false := blk_frozen hbk 5
      have HB1 : Hid (Below w.heap.size w w1) := hb1
      clear hb1 hbk
      generalize ptr (s 2) = P at *
      unfold ptr
      go_wp2_with fail
      go_ret
      have ht := touch_book HK.out.book HB1.out 5 (.pointer none)
      exact ⟨rfl, HK.out.drop ht.1 (ht.2.trans (by rfl))⟩
end Go.Proofs.Ytnknhencobhjdaa.Qt
