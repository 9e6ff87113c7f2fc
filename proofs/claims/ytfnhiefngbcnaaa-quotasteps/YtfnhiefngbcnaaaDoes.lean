/- imagolaw10.does: its contract; no statement is proved in this text. -/
import Derived.Test.YtfnhiefngbcnaaaPair
namespace Go.Proofs.Ytfnhiefngbcnaaa
open Go.ChangeShapes Go.WideShapes Go.ChangeAt Go.RowKit Go.Deep
attribute [local go_sem ↓] Go.wp_at_zero Go.wp_at_succ

/-- The program's book and the document's. -/
structure Two (w : World) (base b r : Nat) (t : T) (s : St) (L : List Pr) : Prop where
  k : Bk w base b t s
  r : Rb w base r t L
  e : Rel s L
theorem Two.below {w w' : World} {base b r : Nat} {t : T} {s : St} {L : List Pr} (h : Two w base b r t s L) (hb : Below w.heap.size w w') : Two w' base b r t s L := ⟨h.k.below hb, h.r.below hb, h.e⟩
abbrev FD (base : Nat) (w w' : World) : Prop := Fr base [56, 64, 33, 42] w w'
theorem keeps_sub {ts ts' : List TypeId} (h : ∀ x, x ∈ ts → x ∈ ts') (o : Obj) (ho : keeps ts' o = true) : keeps ts o = true := by
  cases o with
  | cells C t fr =>
    simp only [keeps, List.contains_eq_mem, Bool.not_eq_true', decide_eq_false_iff_not] at ho ⊢
    exact fun e => ho (h t e)
  | _ => rfl
theorem Fr.of_drew {base : Nat} {ts : List TypeId} {w w' : World} (h : Fr base ts w.drew w') : Fr base ts w w' := ⟨⟨h.below.os, h.below.tape, h.below.output, h.below.size, h.below.block⟩, h.kept⟩
theorem fd_p {base : Nat} {w w' : World} (h : Fr base [56, 64] w w') : FD base w w' := h.mono (keeps_sub (by simp))
theorem fd_r {base : Nat} {w w' : World} (h : Fr base [33, 42] w w') : FD base w w' := h.mono (keeps_sub (by simp))
def DoesTo (w : World) (base b r : Nat) (t : T) (s : St) (x : Sp) : Prop :=
  Calls Try.prog 11 #[.pointer (some ⟨b, 0, none⟩), .pointer (some ⟨r, 0, none⟩), x.v] w fun e w' => e = .returned (.bool true) ∧ ∃ s' L', Two w' base b r t s' L' ∧ (∀ env, env ≠ x.env → at_ s' env = at_ s env) ∧ FD base w w'
theorem op_other {t : T} {s s' : St} {env : Int} {q : T} (h : OpS t s s' env q) : ∀ e, e ≠ env → at_ s' e = at_ s e := fun e he => by
  unfold OpS at h
  split at h
  · rename_i h0
    obtain ⟨p, rfl⟩ := h
    have hb : badB env q = false := by
      unfold opE at h0
      by_cases hb : badB env q = true
      · rw [if_pos hb] at h0; cases h0
      · simpa using hb
    obtain ⟨_, h1, h2⟩ := badB_pos hb
    rw [at_upd h1 h2, if_neg he]
  · rw [h]
theorem cl_other {s : St} {env : Int} : ∀ e, e ≠ env → at_ (clS s env) e = at_ s e := fun e he => by
  unfold clS
  cases hx : at_ s env with
  | none => rfl
  | some x =>
    obtain ⟨h1, h2, _⟩ := at_some hx
    simp only
    rw [at_upd h1 h2, if_neg he]
theorem tk_other {s : St} {env kind n : Int} : ∀ e, e ≠ env → at_ (tkS s env kind n) e = at_ s e := fun e he => by
  unfold tkS
  cases hx : at_ s env with
  | none => rfl
  | some x =>
    obtain ⟨h1, h2, _⟩ := at_some hx
    simp only
    split
    · rfl
    · rw [at_upd h1 h2, if_neg he]
theorem gv_other {s : St} {env kind n : Int} : ∀ e, e ≠ env → at_ (gvS s env kind n) e = at_ s e := fun e he => by
  unfold gvS
  cases hx : at_ s env with
  | none => rfl
  | some x =>
    obtain ⟨h1, h2, _⟩ := at_some hx
    simp only
    split
    · rfl
    · rw [at_upd h1 h2, if_neg he]
set_option maxRecDepth 100000 in
set_option maxHeartbeats 4000000 in
theorem does_open0 {w : World} {base b r : Nat} {t : T} {s : St} {L : List Pr} (h : Two w base b r t s L) (x : Sp) (hx : x.rng) (hw : x.what = 0) : DoesTo w base b r t s x := by
  unfold DoesTo
  obtain ⟨X, hX⟩ : ∃ X, opE t s x.env x.q = X := ⟨_, rfl⟩
  have HX : Hid (opE t s x.env x.q = X) := hX
  have HRG : Hid x.rng := hx
  obtain ⟨V, hV⟩ : ∃ V, V = w.alloc (spO x) := ⟨_, rfl⟩
  have HV : Hid (V = w.alloc (spO x)) := hV
  have hb0 : Below w.heap.size w V := by rw [hV]; exact (Below.refl _ _).alloc (Nat.le_refl _) _
  have HB0 : Hid (Below w.heap.size w V) := hb0
  have HS0 : Hid (V.heap[w.heap.size]? = some (spO x)) := by rw [hV]; exact heap_last w _
  have HT0 : Hid (Two V base b r t s L) := h.below hb0
  have hlo : base ≤ w.heap.size := by have := h.r.lt; have := h.r.lo; omega
  have HF0 : Hid (FD base w V) := Fr.of_below _ hb0 hlo
  have HUP : Hid (∀ U : World, U.heap[w.heap.size]? = some (spO x) → (U.cell? ⟨w.heap.size, 1, none⟩ = some (i64 x.env) ∧ U.cell? ⟨w.heap.size, 2, none⟩ = some (i64 x.kind) ∧ U.cell? ⟨w.heap.size, 3, none⟩ = some (i64 x.n) ∧ U.cell? ⟨w.heap.size, 4, none⟩ = some (i64 x.q.a) ∧ U.cell? ⟨w.heap.size, 5, none⟩ = some (i64 x.q.b) ∧ U.cell? ⟨w.heap.size, 6, none⟩ = some (i64 x.q.c))) := fun U hU => ⟨blk_cell hU 1, blk_cell hU 2, blk_cell hU 3, blk_cell hU 4, blk_cell hU 5, blk_cell hU 6⟩
  have k0 : V.cell? ⟨w.heap.size, 0, none⟩ = some (i64 0) := by rw [← hw]; exact blk_cell HS0.out 0
  obtain ⟨k1, k2, k3, k4, k5, k6⟩ := HUP.out V HS0.out
  have HVW : Hid (w.alloc (Obj.cells #[i64 0, i64 x.env, i64 x.kind, i64 x.n, i64 x.q.a, i64 x.q.b, i64 x.q.c] 35) = V) := by rw [hV, ← hw]; rfl
  rw [show x.v = .agg #[i64 0, i64 x.env, i64 x.kind, i64 x.n, i64 x.q.a, i64 x.q.b, i64 x.q.c] by rw [← hw]]
  clear h hx hV hX hb0
  go_enter Try.func11, Try.ntmps11
  go_wp2_with fail
  first | rw [HVW.out] | skip
  go_region_held3 (fun U => U.cell? ⟨w.heap.size, 1, none⟩ = some (i64 x.env) ∧ U.cell? ⟨w.heap.size, 2, none⟩ = some (i64 x.kind) ∧ U.cell? ⟨w.heap.size, 3, none⟩ = some (i64 x.n) ∧ U.cell? ⟨w.heap.size, 4, none⟩ = some (i64 x.q.a) ∧ U.cell? ⟨w.heap.size, 5, none⟩ = some (i64 x.q.b) ∧ U.cell? ⟨w.heap.size, 6, none⟩ = some (i64 x.q.c)) (first | exact HUP.out _ HS0.out | exact HUP.out _ HS3.out | exact HUP.out _ HS4.out)
    ((first
      | (go_at_call 18; refine (open_ok (HT0.out.k.same (fun _ _ h _ => h) : Bk V.drew base b t s) x.env x.q).mono ?_; rintro e w3 ⟨he, s3, hs3, hk3, hf3⟩; rw [HX.out] at he; subst he; have HS3 : Hid (w3.heap[w.heap.size]? = some (spO x)) := hf3.kept _ _ HS0.out (by rfl); have HS3S : Hid (OpS t s s3 x.env x.q) := hs3; have HK3 : Hid (Bk w3 base b t s3) := hk3; have HR3 : Hid (Rb w3 base r t L) := HT0.out.r.fr (w' := w3) (Fr.of_drew hf3) (by rfl) (by rfl); have HF3 : Hid (FD base w w3) := HF0.out.trans (fd_p (Fr.of_drew hf3)); clear hk3 hf3 hs3)
      | (go_at_call 23; refine (ropen_rel HR3.out HT0.out.e HT0.out.k.wf x.env x.q HRG.out.2.2.2.2).mono ?_; rintro e w4 ⟨he, L4, hr4, hb4, hf4⟩; rw [HX.out] at he; subst he; have HS4 : Hid (w4.heap[w.heap.size]? = some (spO x)) := hf4.kept _ _ HS3.out (by rfl); have HF4 : Hid (FD base w w4) := HF3.out.trans (fd_r hf4); have HT4 : Hid (Two w4 base b r t s3 L4) := ⟨HK3.out.fr hf4 (by rfl) (by rfl), hb4, hr4 s3 HS3S.out⟩; clear hr4 hb4 hf4)))
  all_goals go_wp2_with fail
  go_ret
  exact ⟨by simp, _, _, HT4.out, op_other HS3S.out, HF4.out⟩
set_option maxRecDepth 100000 in
set_option maxHeartbeats 4000000 in
theorem does_open1 {w : World} {base b r : Nat} {t : T} {s : St} {L : List Pr} (h : Two w base b r t s L) (x : Sp) (hx : x.rng) (hw : x.what = 1) : DoesTo w base b r t s x := by
  unfold DoesTo
  obtain ⟨X, hX⟩ : ∃ X, opE t s x.env x.q = X := ⟨_, rfl⟩
  have HX : Hid (opE t s x.env x.q = X) := hX
  have HRG : Hid x.rng := hx
  obtain ⟨V, hV⟩ : ∃ V, V = w.alloc (spO x) := ⟨_, rfl⟩
  have HV : Hid (V = w.alloc (spO x)) := hV
  have hb0 : Below w.heap.size w V := by rw [hV]; exact (Below.refl _ _).alloc (Nat.le_refl _) _
  have HB0 : Hid (Below w.heap.size w V) := hb0
  have HS0 : Hid (V.heap[w.heap.size]? = some (spO x)) := by rw [hV]; exact heap_last w _
  have HT0 : Hid (Two V base b r t s L) := h.below hb0
  have hlo : base ≤ w.heap.size := by have := h.r.lt; have := h.r.lo; omega
  have HF0 : Hid (FD base w V) := Fr.of_below _ hb0 hlo
  have HUP : Hid (∀ U : World, U.heap[w.heap.size]? = some (spO x) → (U.cell? ⟨w.heap.size, 1, none⟩ = some (i64 x.env) ∧ U.cell? ⟨w.heap.size, 2, none⟩ = some (i64 x.kind) ∧ U.cell? ⟨w.heap.size, 3, none⟩ = some (i64 x.n) ∧ U.cell? ⟨w.heap.size, 4, none⟩ = some (i64 x.q.a) ∧ U.cell? ⟨w.heap.size, 5, none⟩ = some (i64 x.q.b) ∧ U.cell? ⟨w.heap.size, 6, none⟩ = some (i64 x.q.c))) := fun U hU => ⟨blk_cell hU 1, blk_cell hU 2, blk_cell hU 3, blk_cell hU 4, blk_cell hU 5, blk_cell hU 6⟩
  have k0 : V.cell? ⟨w.heap.size, 0, none⟩ = some (i64 1) := by rw [← hw]; exact blk_cell HS0.out 0
  obtain ⟨k1, k2, k3, k4, k5, k6⟩ := HUP.out V HS0.out
  have HVW : Hid (w.alloc (Obj.cells #[i64 1, i64 x.env, i64 x.kind, i64 x.n, i64 x.q.a, i64 x.q.b, i64 x.q.c] 35) = V) := by rw [hV, ← hw]; rfl
  rw [show x.v = .agg #[i64 1, i64 x.env, i64 x.kind, i64 x.n, i64 x.q.a, i64 x.q.b, i64 x.q.c] by rw [← hw]]
  clear h hx hV hX hb0
  go_enter Try.func11, Try.ntmps11
  go_wp2_with fail
  first | rw [HVW.out] | skip
  go_region_held3 (fun U => U.cell? ⟨w.heap.size, 1, none⟩ = some (i64 x.env) ∧ U.cell? ⟨w.heap.size, 2, none⟩ = some (i64 x.kind) ∧ U.cell? ⟨w.heap.size, 3, none⟩ = some (i64 x.n) ∧ U.cell? ⟨w.heap.size, 4, none⟩ = some (i64 x.q.a) ∧ U.cell? ⟨w.heap.size, 5, none⟩ = some (i64 x.q.b) ∧ U.cell? ⟨w.heap.size, 6, none⟩ = some (i64 x.q.c)) (first | exact HUP.out _ HS0.out | exact HUP.out _ HS3.out | exact HUP.out _ HS4.out)
    ((first
      | (go_at_call 18; refine (open_ok (HT0.out.k.same (fun _ _ h _ => h) : Bk V.drew base b t s) x.env x.q).mono ?_; rintro e w3 ⟨he, s3, hs3, hk3, hf3⟩; rw [HX.out] at he; subst he; have HS3 : Hid (w3.heap[w.heap.size]? = some (spO x)) := hf3.kept _ _ HS0.out (by rfl); have HS3S : Hid (OpS t s s3 x.env x.q) := hs3; have HK3 : Hid (Bk w3 base b t s3) := hk3; have HR3 : Hid (Rb w3 base r t L) := HT0.out.r.fr (w' := w3) (Fr.of_drew hf3) (by rfl) (by rfl); have HF3 : Hid (FD base w w3) := HF0.out.trans (fd_p (Fr.of_drew hf3)); clear hk3 hf3 hs3)
      | (go_at_call 23; refine (ropen_rel HR3.out HT0.out.e HT0.out.k.wf x.env x.q HRG.out.2.2.2.2).mono ?_; rintro e w4 ⟨he, L4, hr4, hb4, hf4⟩; rw [HX.out] at he; subst he; have HS4 : Hid (w4.heap[w.heap.size]? = some (spO x)) := hf4.kept _ _ HS3.out (by rfl); have HF4 : Hid (FD base w w4) := HF3.out.trans (fd_r hf4); have HT4 : Hid (Two w4 base b r t s3 L4) := ⟨HK3.out.fr hf4 (by rfl) (by rfl), hb4, hr4 s3 HS3S.out⟩; clear hr4 hb4 hf4)))
  all_goals go_wp2_with fail
  go_ret
  exact ⟨by simp, _, _, HT4.out, op_other HS3S.out, HF4.out⟩
set_option maxRecDepth 100000 in
set_option maxHeartbeats 4000000 in
theorem does_close {w : World} {base b r : Nat} {t : T} {s : St} {L : List Pr} (h : Two w base b r t s L) (x : Sp) (hx : x.rng) (hw : x.what = 2) : DoesTo w base b r t s x := by
  unfold DoesTo
  obtain ⟨X, hX⟩ : ∃ X, clE (at_ s x.env) = X := ⟨_, rfl⟩
  have HX : Hid (clE (at_ s x.env) = X) := hX
  have HRG : Hid x.rng := hx
  obtain ⟨V, hV⟩ : ∃ V, V = w.alloc (spO x) := ⟨_, rfl⟩
  have HV : Hid (V = w.alloc (spO x)) := hV
  have hb0 : Below w.heap.size w V := by rw [hV]; exact (Below.refl _ _).alloc (Nat.le_refl _) _
  have HB0 : Hid (Below w.heap.size w V) := hb0
  have HS0 : Hid (V.heap[w.heap.size]? = some (spO x)) := by rw [hV]; exact heap_last w _
  have HT0 : Hid (Two V base b r t s L) := h.below hb0
  have hlo : base ≤ w.heap.size := by have := h.r.lt; have := h.r.lo; omega
  have HF0 : Hid (FD base w V) := Fr.of_below _ hb0 hlo
  have HUP : Hid (∀ U : World, U.heap[w.heap.size]? = some (spO x) → (U.cell? ⟨w.heap.size, 1, none⟩ = some (i64 x.env) ∧ U.cell? ⟨w.heap.size, 2, none⟩ = some (i64 x.kind) ∧ U.cell? ⟨w.heap.size, 3, none⟩ = some (i64 x.n) ∧ U.cell? ⟨w.heap.size, 4, none⟩ = some (i64 x.q.a) ∧ U.cell? ⟨w.heap.size, 5, none⟩ = some (i64 x.q.b) ∧ U.cell? ⟨w.heap.size, 6, none⟩ = some (i64 x.q.c))) := fun U hU => ⟨blk_cell hU 1, blk_cell hU 2, blk_cell hU 3, blk_cell hU 4, blk_cell hU 5, blk_cell hU 6⟩
  have k0 : V.cell? ⟨w.heap.size, 0, none⟩ = some (i64 2) := by rw [← hw]; exact blk_cell HS0.out 0
  obtain ⟨k1, k2, k3, k4, k5, k6⟩ := HUP.out V HS0.out
  have HVW : Hid (w.alloc (Obj.cells #[i64 2, i64 x.env, i64 x.kind, i64 x.n, i64 x.q.a, i64 x.q.b, i64 x.q.c] 35) = V) := by rw [hV, ← hw]; rfl
  rw [show x.v = .agg #[i64 2, i64 x.env, i64 x.kind, i64 x.n, i64 x.q.a, i64 x.q.b, i64 x.q.c] by rw [← hw]]
  clear h hx hV hX hb0
  go_enter Try.func11, Try.ntmps11
  go_wp2_with fail
  first | rw [HVW.out] | skip
  go_region_held3 (fun U => U.cell? ⟨w.heap.size, 1, none⟩ = some (i64 x.env) ∧ U.cell? ⟨w.heap.size, 2, none⟩ = some (i64 x.kind) ∧ U.cell? ⟨w.heap.size, 3, none⟩ = some (i64 x.n) ∧ U.cell? ⟨w.heap.size, 4, none⟩ = some (i64 x.q.a) ∧ U.cell? ⟨w.heap.size, 5, none⟩ = some (i64 x.q.b) ∧ U.cell? ⟨w.heap.size, 6, none⟩ = some (i64 x.q.c)) (first | exact HUP.out _ HS0.out | exact HUP.out _ HS3.out | exact HUP.out _ HS4.out)
    ((first
      | (go_at_call 21; refine (close_ok (HT0.out.k.same (fun _ _ h _ => h) : Bk V.drew base b t s) x.env).mono ?_; rintro e w3 ⟨he, hk3, hf3⟩; rw [HX.out] at he; subst he; have HS3 : Hid (w3.heap[w.heap.size]? = some (spO x)) := hf3.kept _ _ HS0.out (by rfl); have HK3 : Hid (Bk w3 base b t (clS s x.env)) := hk3; have HR3 : Hid (Rb w3 base r t L) := HT0.out.r.fr (w' := w3) (Fr.of_drew hf3) (by rfl) (by rfl); have HF3 : Hid (FD base w w3) := HF0.out.trans (fd_p (Fr.of_drew hf3)); clear hk3 hf3)
      | (go_at_call 24; refine (rclose_rel HR3.out HT0.out.e x.env).mono ?_; rintro e w4 ⟨he, L4, hr4, hb4, hf4⟩; rw [HX.out] at he; subst he; have HS4 : Hid (w4.heap[w.heap.size]? = some (spO x)) := hf4.kept _ _ HS3.out (by rfl); have HF4 : Hid (FD base w w4) := HF3.out.trans (fd_r hf4); have HT4 : Hid (Two w4 base b r t (clS s x.env) L4) := ⟨HK3.out.fr hf4 (by rfl) (by rfl), hb4, hr4⟩; clear hr4 hb4 hf4)))
  all_goals go_wp2_with fail
  go_ret
  exact ⟨by simp, _, _, HT4.out, cl_other, HF4.out⟩
set_option maxRecDepth 100000 in
set_option maxHeartbeats 4000000 in
theorem does_take3 {w : World} {base b r : Nat} {t : T} {s : St} {L : List Pr} (h : Two w base b r t s L) (x : Sp) (hx : x.rng) (hw : x.what = 3) : DoesTo w base b r t s x := by
  unfold DoesTo
  obtain ⟨X, hX⟩ : ∃ X, tkE (at_ s x.env) x.kind x.n = X := ⟨_, rfl⟩
  have HX : Hid (tkE (at_ s x.env) x.kind x.n = X) := hX
  have HRG : Hid x.rng := hx
  obtain ⟨V, hV⟩ : ∃ V, V = w.alloc (spO x) := ⟨_, rfl⟩
  have HV : Hid (V = w.alloc (spO x)) := hV
  have hb0 : Below w.heap.size w V := by rw [hV]; exact (Below.refl _ _).alloc (Nat.le_refl _) _
  have HB0 : Hid (Below w.heap.size w V) := hb0
  have HS0 : Hid (V.heap[w.heap.size]? = some (spO x)) := by rw [hV]; exact heap_last w _
  have HT0 : Hid (Two V base b r t s L) := h.below hb0
  have hlo : base ≤ w.heap.size := by have := h.r.lt; have := h.r.lo; omega
  have HF0 : Hid (FD base w V) := Fr.of_below _ hb0 hlo
  have HUP : Hid (∀ U : World, U.heap[w.heap.size]? = some (spO x) → (U.cell? ⟨w.heap.size, 1, none⟩ = some (i64 x.env) ∧ U.cell? ⟨w.heap.size, 2, none⟩ = some (i64 x.kind) ∧ U.cell? ⟨w.heap.size, 3, none⟩ = some (i64 x.n) ∧ U.cell? ⟨w.heap.size, 4, none⟩ = some (i64 x.q.a) ∧ U.cell? ⟨w.heap.size, 5, none⟩ = some (i64 x.q.b) ∧ U.cell? ⟨w.heap.size, 6, none⟩ = some (i64 x.q.c))) := fun U hU => ⟨blk_cell hU 1, blk_cell hU 2, blk_cell hU 3, blk_cell hU 4, blk_cell hU 5, blk_cell hU 6⟩
  have k0 : V.cell? ⟨w.heap.size, 0, none⟩ = some (i64 3) := by rw [← hw]; exact blk_cell HS0.out 0
  obtain ⟨k1, k2, k3, k4, k5, k6⟩ := HUP.out V HS0.out
  have HVW : Hid (w.alloc (Obj.cells #[i64 3, i64 x.env, i64 x.kind, i64 x.n, i64 x.q.a, i64 x.q.b, i64 x.q.c] 35) = V) := by rw [hV, ← hw]; rfl
  rw [show x.v = .agg #[i64 3, i64 x.env, i64 x.kind, i64 x.n, i64 x.q.a, i64 x.q.b, i64 x.q.c] by rw [← hw]]
  clear h hx hV hX hb0
  go_enter Try.func11, Try.ntmps11
  go_wp2_with fail
  first | rw [HVW.out] | skip
  go_region_held3 (fun U => U.cell? ⟨w.heap.size, 1, none⟩ = some (i64 x.env) ∧ U.cell? ⟨w.heap.size, 2, none⟩ = some (i64 x.kind) ∧ U.cell? ⟨w.heap.size, 3, none⟩ = some (i64 x.n) ∧ U.cell? ⟨w.heap.size, 4, none⟩ = some (i64 x.q.a) ∧ U.cell? ⟨w.heap.size, 5, none⟩ = some (i64 x.q.b) ∧ U.cell? ⟨w.heap.size, 6, none⟩ = some (i64 x.q.c)) (first | exact HUP.out _ HS0.out | exact HUP.out _ HS3.out | exact HUP.out _ HS4.out)
    ((first
      | (go_at_call 19; refine (take_ok (HT0.out.k.same (fun _ _ h _ => h) : Bk V.drew base b t s) x.env x.kind x.n HRG.out.2.2.2.1.2).mono ?_; rintro e w3 ⟨he, hk3, hf3⟩; rw [HX.out] at he; subst he; have HS3 : Hid (w3.heap[w.heap.size]? = some (spO x)) := hf3.kept _ _ HS0.out (by rfl); have HK3 : Hid (Bk w3 base b t (tkS s x.env x.kind x.n)) := hk3; have HR3 : Hid (Rb w3 base r t L) := HT0.out.r.fr (w' := w3) (Fr.of_drew hf3) (by rfl) (by rfl); have HF3 : Hid (FD base w w3) := HF0.out.trans (fd_p (Fr.of_drew hf3)); clear hk3 hf3)
      | (go_at_call 25; refine (rtake_rel HR3.out HT0.out.e HT0.out.k.wf x.env x.kind x.n).mono ?_; rintro e w4 ⟨he, L4, hr4, hb4, hf4⟩; rw [HX.out] at he; subst he; have HS4 : Hid (w4.heap[w.heap.size]? = some (spO x)) := hf4.kept _ _ HS3.out (by rfl); have HF4 : Hid (FD base w w4) := HF3.out.trans (fd_r hf4); have HT4 : Hid (Two w4 base b r t (tkS s x.env x.kind x.n) L4) := ⟨HK3.out.fr hf4 (by rfl) (by rfl), hb4, hr4⟩; clear hr4 hb4 hf4)))
  all_goals go_wp2_with fail
  go_ret
  exact ⟨by simp, _, _, HT4.out, tk_other, HF4.out⟩
set_option maxRecDepth 100000 in
set_option maxHeartbeats 4000000 in
theorem does_take4 {w : World} {base b r : Nat} {t : T} {s : St} {L : List Pr} (h : Two w base b r t s L) (x : Sp) (hx : x.rng) (hw : x.what = 4) : DoesTo w base b r t s x := by
  unfold DoesTo
  obtain ⟨X, hX⟩ : ∃ X, tkE (at_ s x.env) x.kind x.n = X := ⟨_, rfl⟩
  have HX : Hid (tkE (at_ s x.env) x.kind x.n = X) := hX
  have HRG : Hid x.rng := hx
  obtain ⟨V, hV⟩ : ∃ V, V = w.alloc (spO x) := ⟨_, rfl⟩
  have HV : Hid (V = w.alloc (spO x)) := hV
  have hb0 : Below w.heap.size w V := by rw [hV]; exact (Below.refl _ _).alloc (Nat.le_refl _) _
  have HB0 : Hid (Below w.heap.size w V) := hb0
  have HS0 : Hid (V.heap[w.heap.size]? = some (spO x)) := by rw [hV]; exact heap_last w _
  have HT0 : Hid (Two V base b r t s L) := h.below hb0
  have hlo : base ≤ w.heap.size := by have := h.r.lt; have := h.r.lo; omega
  have HF0 : Hid (FD base w V) := Fr.of_below _ hb0 hlo
  have HUP : Hid (∀ U : World, U.heap[w.heap.size]? = some (spO x) → (U.cell? ⟨w.heap.size, 1, none⟩ = some (i64 x.env) ∧ U.cell? ⟨w.heap.size, 2, none⟩ = some (i64 x.kind) ∧ U.cell? ⟨w.heap.size, 3, none⟩ = some (i64 x.n) ∧ U.cell? ⟨w.heap.size, 4, none⟩ = some (i64 x.q.a) ∧ U.cell? ⟨w.heap.size, 5, none⟩ = some (i64 x.q.b) ∧ U.cell? ⟨w.heap.size, 6, none⟩ = some (i64 x.q.c))) := fun U hU => ⟨blk_cell hU 1, blk_cell hU 2, blk_cell hU 3, blk_cell hU 4, blk_cell hU 5, blk_cell hU 6⟩
  have k0 : V.cell? ⟨w.heap.size, 0, none⟩ = some (i64 4) := by rw [← hw]; exact blk_cell HS0.out 0
  obtain ⟨k1, k2, k3, k4, k5, k6⟩ := HUP.out V HS0.out
  have HVW : Hid (w.alloc (Obj.cells #[i64 4, i64 x.env, i64 x.kind, i64 x.n, i64 x.q.a, i64 x.q.b, i64 x.q.c] 35) = V) := by rw [hV, ← hw]; rfl
  rw [show x.v = .agg #[i64 4, i64 x.env, i64 x.kind, i64 x.n, i64 x.q.a, i64 x.q.b, i64 x.q.c] by rw [← hw]]
  clear h hx hV hX hb0
  go_enter Try.func11, Try.ntmps11
  go_wp2_with fail
  first | rw [HVW.out] | skip
  go_region_held3 (fun U => U.cell? ⟨w.heap.size, 1, none⟩ = some (i64 x.env) ∧ U.cell? ⟨w.heap.size, 2, none⟩ = some (i64 x.kind) ∧ U.cell? ⟨w.heap.size, 3, none⟩ = some (i64 x.n) ∧ U.cell? ⟨w.heap.size, 4, none⟩ = some (i64 x.q.a) ∧ U.cell? ⟨w.heap.size, 5, none⟩ = some (i64 x.q.b) ∧ U.cell? ⟨w.heap.size, 6, none⟩ = some (i64 x.q.c)) (first | exact HUP.out _ HS0.out | exact HUP.out _ HS3.out | exact HUP.out _ HS4.out)
    ((first
      | (go_at_call 19; refine (take_ok (HT0.out.k.same (fun _ _ h _ => h) : Bk V.drew base b t s) x.env x.kind x.n HRG.out.2.2.2.1.2).mono ?_; rintro e w3 ⟨he, hk3, hf3⟩; rw [HX.out] at he; subst he; have HS3 : Hid (w3.heap[w.heap.size]? = some (spO x)) := hf3.kept _ _ HS0.out (by rfl); have HK3 : Hid (Bk w3 base b t (tkS s x.env x.kind x.n)) := hk3; have HR3 : Hid (Rb w3 base r t L) := HT0.out.r.fr (w' := w3) (Fr.of_drew hf3) (by rfl) (by rfl); have HF3 : Hid (FD base w w3) := HF0.out.trans (fd_p (Fr.of_drew hf3)); clear hk3 hf3)
      | (go_at_call 25; refine (rtake_rel HR3.out HT0.out.e HT0.out.k.wf x.env x.kind x.n).mono ?_; rintro e w4 ⟨he, L4, hr4, hb4, hf4⟩; rw [HX.out] at he; subst he; have HS4 : Hid (w4.heap[w.heap.size]? = some (spO x)) := hf4.kept _ _ HS3.out (by rfl); have HF4 : Hid (FD base w w4) := HF3.out.trans (fd_r hf4); have HT4 : Hid (Two w4 base b r t (tkS s x.env x.kind x.n) L4) := ⟨HK3.out.fr hf4 (by rfl) (by rfl), hb4, hr4⟩; clear hr4 hb4 hf4)))
  all_goals go_wp2_with fail
  go_ret
  exact ⟨by simp, _, _, HT4.out, tk_other, HF4.out⟩
set_option maxRecDepth 100000 in
set_option maxHeartbeats 4000000 in
theorem does_take5 {w : World} {base b r : Nat} {t : T} {s : St} {L : List Pr} (h : Two w base b r t s L) (x : Sp) (hx : x.rng) (hw : x.what = 5) : DoesTo w base b r t s x := by
  unfold DoesTo
  obtain ⟨X, hX⟩ : ∃ X, tkE (at_ s x.env) x.kind x.n = X := ⟨_, rfl⟩
  have HX : Hid (tkE (at_ s x.env) x.kind x.n = X) := hX
  have HRG : Hid x.rng := hx
  obtain ⟨V, hV⟩ : ∃ V, V = w.alloc (spO x) := ⟨_, rfl⟩
  have HV : Hid (V = w.alloc (spO x)) := hV
  have hb0 : Below w.heap.size w V := by rw [hV]; exact (Below.refl _ _).alloc (Nat.le_refl _) _
  have HB0 : Hid (Below w.heap.size w V) := hb0
  have HS0 : Hid (V.heap[w.heap.size]? = some (spO x)) := by rw [hV]; exact heap_last w _
  have HT0 : Hid (Two V base b r t s L) := h.below hb0
  have hlo : base ≤ w.heap.size := by have := h.r.lt; have := h.r.lo; omega
  have HF0 : Hid (FD base w V) := Fr.of_below _ hb0 hlo
  have HUP : Hid (∀ U : World, U.heap[w.heap.size]? = some (spO x) → (U.cell? ⟨w.heap.size, 1, none⟩ = some (i64 x.env) ∧ U.cell? ⟨w.heap.size, 2, none⟩ = some (i64 x.kind) ∧ U.cell? ⟨w.heap.size, 3, none⟩ = some (i64 x.n) ∧ U.cell? ⟨w.heap.size, 4, none⟩ = some (i64 x.q.a) ∧ U.cell? ⟨w.heap.size, 5, none⟩ = some (i64 x.q.b) ∧ U.cell? ⟨w.heap.size, 6, none⟩ = some (i64 x.q.c))) := fun U hU => ⟨blk_cell hU 1, blk_cell hU 2, blk_cell hU 3, blk_cell hU 4, blk_cell hU 5, blk_cell hU 6⟩
  have k0 : V.cell? ⟨w.heap.size, 0, none⟩ = some (i64 5) := by rw [← hw]; exact blk_cell HS0.out 0
  obtain ⟨k1, k2, k3, k4, k5, k6⟩ := HUP.out V HS0.out
  have HVW : Hid (w.alloc (Obj.cells #[i64 5, i64 x.env, i64 x.kind, i64 x.n, i64 x.q.a, i64 x.q.b, i64 x.q.c] 35) = V) := by rw [hV, ← hw]; rfl
  rw [show x.v = .agg #[i64 5, i64 x.env, i64 x.kind, i64 x.n, i64 x.q.a, i64 x.q.b, i64 x.q.c] by rw [← hw]]
  clear h hx hV hX hb0
  go_enter Try.func11, Try.ntmps11
  go_wp2_with fail
  first | rw [HVW.out] | skip
  go_region_held3 (fun U => U.cell? ⟨w.heap.size, 1, none⟩ = some (i64 x.env) ∧ U.cell? ⟨w.heap.size, 2, none⟩ = some (i64 x.kind) ∧ U.cell? ⟨w.heap.size, 3, none⟩ = some (i64 x.n) ∧ U.cell? ⟨w.heap.size, 4, none⟩ = some (i64 x.q.a) ∧ U.cell? ⟨w.heap.size, 5, none⟩ = some (i64 x.q.b) ∧ U.cell? ⟨w.heap.size, 6, none⟩ = some (i64 x.q.c)) (first | exact HUP.out _ HS0.out | exact HUP.out _ HS3.out | exact HUP.out _ HS4.out)
    ((first
      | (go_at_call 19; refine (take_ok (HT0.out.k.same (fun _ _ h _ => h) : Bk V.drew base b t s) x.env x.kind x.n HRG.out.2.2.2.1.2).mono ?_; rintro e w3 ⟨he, hk3, hf3⟩; rw [HX.out] at he; subst he; have HS3 : Hid (w3.heap[w.heap.size]? = some (spO x)) := hf3.kept _ _ HS0.out (by rfl); have HK3 : Hid (Bk w3 base b t (tkS s x.env x.kind x.n)) := hk3; have HR3 : Hid (Rb w3 base r t L) := HT0.out.r.fr (w' := w3) (Fr.of_drew hf3) (by rfl) (by rfl); have HF3 : Hid (FD base w w3) := HF0.out.trans (fd_p (Fr.of_drew hf3)); clear hk3 hf3)
      | (go_at_call 25; refine (rtake_rel HR3.out HT0.out.e HT0.out.k.wf x.env x.kind x.n).mono ?_; rintro e w4 ⟨he, L4, hr4, hb4, hf4⟩; rw [HX.out] at he; subst he; have HS4 : Hid (w4.heap[w.heap.size]? = some (spO x)) := hf4.kept _ _ HS3.out (by rfl); have HF4 : Hid (FD base w w4) := HF3.out.trans (fd_r hf4); have HT4 : Hid (Two w4 base b r t (tkS s x.env x.kind x.n) L4) := ⟨HK3.out.fr hf4 (by rfl) (by rfl), hb4, hr4⟩; clear hr4 hb4 hf4)))
  all_goals go_wp2_with fail
  go_ret
  exact ⟨by simp, _, _, HT4.out, tk_other, HF4.out⟩
set_option maxRecDepth 100000 in
set_option maxHeartbeats 4000000 in
theorem does_give6 {w : World} {base b r : Nat} {t : T} {s : St} {L : List Pr} (h : Two w base b r t s L) (x : Sp) (hx : x.rng) (hw : x.what = 6) : DoesTo w base b r t s x := by
  unfold DoesTo
  obtain ⟨X, hX⟩ : ∃ X, gvE (at_ s x.env) x.kind x.n = X := ⟨_, rfl⟩
  have HX : Hid (gvE (at_ s x.env) x.kind x.n = X) := hX
  have HRG : Hid x.rng := hx
  obtain ⟨V, hV⟩ : ∃ V, V = w.alloc (spO x) := ⟨_, rfl⟩
  have HV : Hid (V = w.alloc (spO x)) := hV
  have hb0 : Below w.heap.size w V := by rw [hV]; exact (Below.refl _ _).alloc (Nat.le_refl _) _
  have HB0 : Hid (Below w.heap.size w V) := hb0
  have HS0 : Hid (V.heap[w.heap.size]? = some (spO x)) := by rw [hV]; exact heap_last w _
  have HT0 : Hid (Two V base b r t s L) := h.below hb0
  have hlo : base ≤ w.heap.size := by have := h.r.lt; have := h.r.lo; omega
  have HF0 : Hid (FD base w V) := Fr.of_below _ hb0 hlo
  have HUP : Hid (∀ U : World, U.heap[w.heap.size]? = some (spO x) → (U.cell? ⟨w.heap.size, 1, none⟩ = some (i64 x.env) ∧ U.cell? ⟨w.heap.size, 2, none⟩ = some (i64 x.kind) ∧ U.cell? ⟨w.heap.size, 3, none⟩ = some (i64 x.n) ∧ U.cell? ⟨w.heap.size, 4, none⟩ = some (i64 x.q.a) ∧ U.cell? ⟨w.heap.size, 5, none⟩ = some (i64 x.q.b) ∧ U.cell? ⟨w.heap.size, 6, none⟩ = some (i64 x.q.c))) := fun U hU => ⟨blk_cell hU 1, blk_cell hU 2, blk_cell hU 3, blk_cell hU 4, blk_cell hU 5, blk_cell hU 6⟩
  have k0 : V.cell? ⟨w.heap.size, 0, none⟩ = some (i64 6) := by rw [← hw]; exact blk_cell HS0.out 0
  obtain ⟨k1, k2, k3, k4, k5, k6⟩ := HUP.out V HS0.out
  have HVW : Hid (w.alloc (Obj.cells #[i64 6, i64 x.env, i64 x.kind, i64 x.n, i64 x.q.a, i64 x.q.b, i64 x.q.c] 35) = V) := by rw [hV, ← hw]; rfl
  rw [show x.v = .agg #[i64 6, i64 x.env, i64 x.kind, i64 x.n, i64 x.q.a, i64 x.q.b, i64 x.q.c] by rw [← hw]]
  clear h hx hV hX hb0
  go_enter Try.func11, Try.ntmps11
  go_wp2_with fail
  first | rw [HVW.out] | skip
  go_region_held3 (fun U => U.cell? ⟨w.heap.size, 1, none⟩ = some (i64 x.env) ∧ U.cell? ⟨w.heap.size, 2, none⟩ = some (i64 x.kind) ∧ U.cell? ⟨w.heap.size, 3, none⟩ = some (i64 x.n) ∧ U.cell? ⟨w.heap.size, 4, none⟩ = some (i64 x.q.a) ∧ U.cell? ⟨w.heap.size, 5, none⟩ = some (i64 x.q.b) ∧ U.cell? ⟨w.heap.size, 6, none⟩ = some (i64 x.q.c)) (first | exact HUP.out _ HS0.out | exact HUP.out _ HS3.out | exact HUP.out _ HS4.out)
    ((first
      | (go_at_call 20; refine (give_ok (HT0.out.k.same (fun _ _ h _ => h) : Bk V.drew base b t s) x.env x.kind x.n HRG.out.2.2.2.1.2).mono ?_; rintro e w3 ⟨he, hk3, hf3⟩; rw [HX.out] at he; subst he; have HS3 : Hid (w3.heap[w.heap.size]? = some (spO x)) := hf3.kept _ _ HS0.out (by rfl); have HK3 : Hid (Bk w3 base b t (gvS s x.env x.kind x.n)) := hk3; have HR3 : Hid (Rb w3 base r t L) := HT0.out.r.fr (w' := w3) (Fr.of_drew hf3) (by rfl) (by rfl); have HF3 : Hid (FD base w w3) := HF0.out.trans (fd_p (Fr.of_drew hf3)); clear hk3 hf3)
      | (go_at_call 25; refine (rgive_rel HR3.out HT0.out.e HT0.out.k.wf x.env x.kind x.n).mono ?_; rintro e w4 ⟨he, L4, hr4, hb4, hf4⟩; rw [HX.out] at he; subst he; have HS4 : Hid (w4.heap[w.heap.size]? = some (spO x)) := hf4.kept _ _ HS3.out (by rfl); have HF4 : Hid (FD base w w4) := HF3.out.trans (fd_r hf4); have HT4 : Hid (Two w4 base b r t (gvS s x.env x.kind x.n) L4) := ⟨HK3.out.fr hf4 (by rfl) (by rfl), hb4, hr4⟩; clear hr4 hb4 hf4)))
  all_goals go_wp2_with fail
  go_ret
  exact ⟨by simp, _, _, HT4.out, gv_other, HF4.out⟩
set_option maxRecDepth 100000 in
set_option maxHeartbeats 4000000 in
theorem does_give7 {w : World} {base b r : Nat} {t : T} {s : St} {L : List Pr} (h : Two w base b r t s L) (x : Sp) (hx : x.rng) (hw : x.what = 7) : DoesTo w base b r t s x := by
  unfold DoesTo
  obtain ⟨X, hX⟩ : ∃ X, gvE (at_ s x.env) x.kind x.n = X := ⟨_, rfl⟩
  have HX : Hid (gvE (at_ s x.env) x.kind x.n = X) := hX
  have HRG : Hid x.rng := hx
  obtain ⟨V, hV⟩ : ∃ V, V = w.alloc (spO x) := ⟨_, rfl⟩
  have HV : Hid (V = w.alloc (spO x)) := hV
  have hb0 : Below w.heap.size w V := by rw [hV]; exact (Below.refl _ _).alloc (Nat.le_refl _) _
  have HB0 : Hid (Below w.heap.size w V) := hb0
  have HS0 : Hid (V.heap[w.heap.size]? = some (spO x)) := by rw [hV]; exact heap_last w _
  have HT0 : Hid (Two V base b r t s L) := h.below hb0
  have hlo : base ≤ w.heap.size := by have := h.r.lt; have := h.r.lo; omega
  have HF0 : Hid (FD base w V) := Fr.of_below _ hb0 hlo
  have HUP : Hid (∀ U : World, U.heap[w.heap.size]? = some (spO x) → (U.cell? ⟨w.heap.size, 1, none⟩ = some (i64 x.env) ∧ U.cell? ⟨w.heap.size, 2, none⟩ = some (i64 x.kind) ∧ U.cell? ⟨w.heap.size, 3, none⟩ = some (i64 x.n) ∧ U.cell? ⟨w.heap.size, 4, none⟩ = some (i64 x.q.a) ∧ U.cell? ⟨w.heap.size, 5, none⟩ = some (i64 x.q.b) ∧ U.cell? ⟨w.heap.size, 6, none⟩ = some (i64 x.q.c))) := fun U hU => ⟨blk_cell hU 1, blk_cell hU 2, blk_cell hU 3, blk_cell hU 4, blk_cell hU 5, blk_cell hU 6⟩
  have k0 : V.cell? ⟨w.heap.size, 0, none⟩ = some (i64 7) := by rw [← hw]; exact blk_cell HS0.out 0
  obtain ⟨k1, k2, k3, k4, k5, k6⟩ := HUP.out V HS0.out
  have HVW : Hid (w.alloc (Obj.cells #[i64 7, i64 x.env, i64 x.kind, i64 x.n, i64 x.q.a, i64 x.q.b, i64 x.q.c] 35) = V) := by rw [hV, ← hw]; rfl
  rw [show x.v = .agg #[i64 7, i64 x.env, i64 x.kind, i64 x.n, i64 x.q.a, i64 x.q.b, i64 x.q.c] by rw [← hw]]
  clear h hx hV hX hb0
  go_enter Try.func11, Try.ntmps11
  go_wp2_with fail
  first | rw [HVW.out] | skip
  go_region_held3 (fun U => U.cell? ⟨w.heap.size, 1, none⟩ = some (i64 x.env) ∧ U.cell? ⟨w.heap.size, 2, none⟩ = some (i64 x.kind) ∧ U.cell? ⟨w.heap.size, 3, none⟩ = some (i64 x.n) ∧ U.cell? ⟨w.heap.size, 4, none⟩ = some (i64 x.q.a) ∧ U.cell? ⟨w.heap.size, 5, none⟩ = some (i64 x.q.b) ∧ U.cell? ⟨w.heap.size, 6, none⟩ = some (i64 x.q.c)) (first | exact HUP.out _ HS0.out | exact HUP.out _ HS3.out | exact HUP.out _ HS4.out)
    ((first
      | (go_at_call 20; refine (give_ok (HT0.out.k.same (fun _ _ h _ => h) : Bk V.drew base b t s) x.env x.kind x.n HRG.out.2.2.2.1.2).mono ?_; rintro e w3 ⟨he, hk3, hf3⟩; rw [HX.out] at he; subst he; have HS3 : Hid (w3.heap[w.heap.size]? = some (spO x)) := hf3.kept _ _ HS0.out (by rfl); have HK3 : Hid (Bk w3 base b t (gvS s x.env x.kind x.n)) := hk3; have HR3 : Hid (Rb w3 base r t L) := HT0.out.r.fr (w' := w3) (Fr.of_drew hf3) (by rfl) (by rfl); have HF3 : Hid (FD base w w3) := HF0.out.trans (fd_p (Fr.of_drew hf3)); clear hk3 hf3)
      | (go_at_call 25; refine (rgive_rel HR3.out HT0.out.e HT0.out.k.wf x.env x.kind x.n).mono ?_; rintro e w4 ⟨he, L4, hr4, hb4, hf4⟩; rw [HX.out] at he; subst he; have HS4 : Hid (w4.heap[w.heap.size]? = some (spO x)) := hf4.kept _ _ HS3.out (by rfl); have HF4 : Hid (FD base w w4) := HF3.out.trans (fd_r hf4); have HT4 : Hid (Two w4 base b r t (gvS s x.env x.kind x.n) L4) := ⟨HK3.out.fr hf4 (by rfl) (by rfl), hb4, hr4⟩; clear hr4 hb4 hf4)))
  all_goals go_wp2_with fail
  go_ret
  exact ⟨by simp, _, _, HT4.out, gv_other, HF4.out⟩
set_option maxRecDepth 100000 in
set_option maxHeartbeats 2000000 in
theorem does_no {w : World} {base b r : Nat} {t : T} {s : St} {L : List Pr} (h : Two w base b r t s L) (x : Sp) (hw : x.what < 0 ∨ 7 < x.what) : DoesTo w base b r t s x := by
  unfold DoesTo
  have hlo : base ≤ w.heap.size := by have := h.r.lt; have := h.r.lo; omega
  have HB0 : Hid (Below w.heap.size w (w.alloc (spO x))) := (Below.refl _ _).alloc (Nat.le_refl _) _
  have HT0 : Hid (Two w base b r t s L) := h
  have e0 : (x.what == 0) = false := beq_eq_false_iff_ne.2 (by omega)
  have e1 : (x.what == 1) = false := beq_eq_false_iff_ne.2 (by omega)
  have e2 : (x.what == 2) = false := beq_eq_false_iff_ne.2 (by omega)
  have e3 : (x.what == 3) = false := beq_eq_false_iff_ne.2 (by omega)
  have e4 : (x.what == 4) = false := beq_eq_false_iff_ne.2 (by omega)
  have e5 : (x.what == 5) = false := beq_eq_false_iff_ne.2 (by omega)
  have e6 : (x.what == 6) = false := beq_eq_false_iff_ne.2 (by omega)
  have e7 : (x.what == 7) = false := beq_eq_false_iff_ne.2 (by omega)
  clear h hw
  go_enter Try.func11, Try.ntmps11
  go_wp2_with fail
  go_ret
  exact ⟨rfl, _, _, HT0.out.below HB0.out, fun _ _ => rfl, Fr.of_below _ HB0.out hlo⟩
theorem does_ok {w : World} {base b r : Nat} {t : T} {s : St} {L : List Pr} (h : Two w base b r t s L) (x : Sp) (hx : x.rng) : DoesTo w base b r t s x := by
  by_cases hn : x.what < 0 ∨ 7 < x.what
  · exact does_no h x hn
  · obtain h0 | h0 | h0 | h0 | h0 | h0 | h0 | h0 : x.what = 0 ∨ x.what = 1 ∨ x.what = 2 ∨ x.what = 3 ∨ x.what = 4 ∨ x.what = 5 ∨ x.what = 6 ∨ x.what = 7 := by omega
    · exact does_open0 h x hx h0
    · exact does_open1 h x hx h0
    · exact does_close h x hx h0
    · exact does_take3 h x hx h0
    · exact does_take4 h x hx h0
    · exact does_take5 h x hx h0
    · exact does_give6 h x hx h0
    · exact does_give7 h x hx h0
end Go.Proofs.Ytfnhiefngbcnaaa
