/- The document's calls, over a book that is held against the program's; no statement is proved in this text. -/
import Derived.Test.YtfnhiefngbcnaaaRel
namespace Go.Proofs.Ytfnhiefngbcnaaa
open Go.ChangeShapes Go.WideShapes Go.ChangeAt Go.RowKit Go.Deep

theorem Le.in64 {t : T} (h : Le t ⟨64, 64, 64⟩) : In64 t := ⟨h.a0, h.a1, h.b0, h.b1, h.c0, h.c1⟩
theorem Rel.q64 {t : T} {s : St} {L : List Pr} (h : Rel s L) (hw : Wf t s) : ∀ u ∈ L.map Pr.q, In64 u := fun u hu => by
  obtain ⟨p, hp, rfl⟩ := List.mem_map.1 hu
  obtain ⟨x, hx, hq, _⟩ := h.a p hp
  rw [← hq]
  have := hw.le64 (at_some hx).2.2
  have h2 := (hw.le_at (at_some hx).2.2).pos.2
  exact ⟨h2.1, this.a1, h2.2.1, this.b1, h2.2.2, this.c1⟩
theorem Rel.h64 {t : T} {s : St} {L : List Pr} (h : Rel s L) (hw : Wf t s) : ∀ u ∈ L.map Pr.h, Small 64 u := fun u hu => by
  obtain ⟨p, hp, rfl⟩ := List.mem_map.1 hu
  obtain ⟨x, hx, _, hh⟩ := h.a p hp
  rw [← hh]
  exact (hw.le_at (at_some hx).2.2).small (hw.le64 (at_some hx).2.2)
theorem rfree_rel {w : World} {base r : Nat} {t : T} {s : St} {L : List Pr} (h : Rb w base r t L) (hr : Rel s L) (hw : Wf t s) :
    Calls Try.prog 13 #[.pointer (some ⟨r, 0, none⟩)] w fun e w' => e = .returned (freeT t s).v ∧ Below w.heap.size w w' := by
  have := rfree_ok h hr.le3 (hw.tot.small ⟨by decide, by decide, by decide, by decide, by decide, by decide⟩) (hr.h64 hw)
  rw [lessT_sum, hr.sh, ← lessT_sum] at this
  exact this
theorem rtake_rel {w : World} {base r : Nat} {t : T} {s : St} {L : List Pr} (h : Rb w base r t L) (hr : Rel s L) (hw : Wf t s) (env kind n : Int) :
    Calls Try.prog 25 #[.pointer (some ⟨r, 0, none⟩), i64 env, .agg #[i64 kind, i64 n], .bool false] w fun e w' => e = .returned (i64 (tkE (at_ s env) kind n)) ∧ ∃ L', Rel (tkS s env kind n) L' ∧ Rb w' base r t L' ∧ Fr base [33, 42] w w' := by
  have hlo : base ≤ w.heap.size := by have := h.lt; have := h.lo; omega
  unfold tkE tkS
  cases hx : at_ s env with
  | none => exact (rtake_none h hr.le3 env kind n false (hr.not hx)).mono fun e w' ⟨he, hb⟩ => ⟨he, L, hr, h.below hb, Fr.of_below _ hb hlo⟩
  | some x =>
    obtain ⟨k, hk, hi⟩ := hr.has hx
    have hle := hw.le_at (at_some hx).2.2
    have h64 := hw.le64 (at_some hx).2.2
    simp only
    by_cases hwr : wrongB kind n = true
    · rw [if_pos hwr, if_pos (Or.inl hwr)]
      exact (rtake_wrong h hr.le3 env kind n false k hi hwr).mono fun e w' ⟨he, hb⟩ => ⟨he, L, hr, h.below hb, Fr.of_below _ hb hlo⟩
    · rw [if_neg hwr]
      obtain ⟨hkd, h0⟩ := wrongB_kind (by simpa using hwr)
      by_cases hn : x.q.g kind - x.h.g kind < n
      · rw [if_pos hn, if_pos (Or.inr hn)]
        exact (rtake_more h hr.le3 env kind n k _ hk hi hle h64 hkd h0 hn).mono fun e w' ⟨he, hb⟩ => ⟨he, L, hr, h.below hb, Fr.of_below _ hb hlo⟩
      · rw [if_neg hn, if_neg (by intro h'; rcases h' with h' | h' <;> contradiction)]
        exact (rtake_in h hr.le3 env kind n k _ hk hi hle h64 hkd h0 (by simpa using hn)).mono fun e w' ⟨he, hb, hf⟩ => ⟨he, _, hr.set hx hk _, hb, hf⟩
theorem rgive_rel {w : World} {base r : Nat} {t : T} {s : St} {L : List Pr} (h : Rb w base r t L) (hr : Rel s L) (hw : Wf t s) (env kind n : Int) :
    Calls Try.prog 25 #[.pointer (some ⟨r, 0, none⟩), i64 env, .agg #[i64 kind, i64 n], .bool true] w fun e w' => e = .returned (i64 (gvE (at_ s env) kind n)) ∧ ∃ L', Rel (gvS s env kind n) L' ∧ Rb w' base r t L' ∧ Fr base [33, 42] w w' := by
  have hlo : base ≤ w.heap.size := by have := h.lt; have := h.lo; omega
  unfold gvE gvS
  cases hx : at_ s env with
  | none => exact (rtake_none h hr.le3 env kind n true (hr.not hx)).mono fun e w' ⟨he, hb⟩ => ⟨he, L, hr, h.below hb, Fr.of_below _ hb hlo⟩
  | some x =>
    obtain ⟨k, hk, hi⟩ := hr.has hx
    have hle := hw.le_at (at_some hx).2.2
    have h64 := hw.le64 (at_some hx).2.2
    simp only
    by_cases hwr : wrongB kind n = true
    · rw [if_pos hwr, if_pos (Or.inl hwr)]
      exact (rtake_wrong h hr.le3 env kind n true k hi hwr).mono fun e w' ⟨he, hb⟩ => ⟨he, L, hr, h.below hb, Fr.of_below _ hb hlo⟩
    · rw [if_neg hwr]
      obtain ⟨hkd, h0⟩ := wrongB_kind (by simpa using hwr)
      by_cases hn : x.h.g kind < n
      · rw [if_pos hn, if_pos (Or.inr hn)]
        exact (rgive_more h hr.le3 env kind n k _ hk hi hle h64 hkd h0 hn).mono fun e w' ⟨he, hb⟩ => ⟨he, L, hr, h.below hb, Fr.of_below _ hb hlo⟩
      · rw [if_neg hn, if_neg (by intro h'; rcases h' with h' | h' <;> contradiction)]
        exact (rgive_in h hr.le3 env kind n k _ hk hi hle h64 hkd h0 (by simpa using hn)).mono fun e w' ⟨he, hb, hf⟩ => ⟨he, _, hr.set hx hk _, hb, hf⟩
theorem rclose_rel {w : World} {base r : Nat} {t : T} {s : St} {L : List Pr} (h : Rb w base r t L) (hr : Rel s L) (env : Int) :
    Calls Try.prog 24 #[.pointer (some ⟨r, 0, none⟩), i64 env] w fun e w' => e = .returned (i64 (clE (at_ s env))) ∧ ∃ L', Rel (clS s env) L' ∧ Rb w' base r t L' ∧ Fr base [33, 42] w w' := by
  have hlo : base ≤ w.heap.size := by have := h.lt; have := h.lo; omega
  unfold clE clS
  cases hx : at_ s env with
  | none => exact (rclose_none h hr.le3 env (hr.not hx)).mono fun e w' ⟨he, hb⟩ => ⟨he, L, hr, h.below hb, Fr.of_below _ hb hlo⟩
  | some x =>
    obtain ⟨k, hk, hi⟩ := hr.has hx
    exact (rclose_in h hr.le3 env k _ hk hi).mono fun e w' ⟨he, hb, hf⟩ => ⟨he, _, hr.drop hx hk, hb, hf⟩
theorem roomB_rel {t : T} {s : St} {L : List Pr} (hr : Rel s L) (q : T) : roomB t s q = true ↔ ((sum (L.map Pr.q)).a + q.a ≤ t.a ∧ (sum (L.map Pr.q)).b + q.b ≤ t.b ∧ (sum (L.map Pr.q)).c + q.c ≤ t.c) := by
  rw [hr.sq, sum_q]
  simp [roomB, add]
theorem ropen_rel {w : World} {base r : Nat} {t : T} {s : St} {L : List Pr} (h : Rb w base r t L) (hr : Rel s L) (hw : Wf t s) (env : Int) (q : T) (hq : q.rng) :
    Calls Try.prog 23 #[.pointer (some ⟨r, 0, none⟩), i64 env, q.v] w fun e w' => e = .returned (i64 (opE t s env q)) ∧ ∃ L', (∀ s', OpS t s s' env q → Rel s' L') ∧ Rb w' base r t L' ∧ Fr base [33, 42] w w' := by
  have hlo : base ≤ w.heap.size := by have := h.lt; have := h.lo; omega
  have fin : ∀ (c : Int), opE t s env q = c → c ≠ 0 → Calls Try.prog 23 #[.pointer (some ⟨r, 0, none⟩), i64 env, q.v] w (fun e w' => e = .returned (i64 c) ∧ Below w.heap.size w w') → Calls Try.prog 23 #[.pointer (some ⟨r, 0, none⟩), i64 env, q.v] w (fun e w' => e = .returned (i64 (opE t s env q)) ∧ ∃ L', (∀ s', OpS t s s' env q → Rel s' L') ∧ Rb w' base r t L' ∧ Fr base [33, 42] w w') := fun c hc h0 hcall =>
    hcall.mono fun e w' ⟨he, hb⟩ => ⟨by rw [he, hc], L, fun s' hs' => by unfold OpS at hs'; rw [hc, if_neg h0] at hs'; rw [hs']; exact hr, h.below hb, Fr.of_below _ hb hlo⟩
  obtain ⟨⟨_, qa⟩, ⟨_, qb⟩, ⟨_, qc⟩⟩ := hq
  have hbe := badB_eq env q qa qb qc
  by_cases hbad : badB env q = true
  · exact fin 1 (by unfold opE; rw [if_pos hbad]) (by decide) (ropen_bad w _ env q (by rw [hbe] at hbad; simpa using hbad))
  · have hb' : ¬ (env < 1 ∨ 3 < env ∨ q.a < 0 ∨ q.b < 0 ∨ q.c < 0) := by rw [hbe] at hbad; simpa using hbad
    cases hx : at_ s env with
    | some x =>
      obtain ⟨k, hk, hi⟩ := hr.has hx
      exact fin 8 (by unfold opE; rw [if_neg hbad, hx]) (by decide) (ropen_same h hr.le3 env q (by omega) (by omega) (by omega) (by omega) (by omega) k hi)
    | none =>
      have hi := hr.not hx
      by_cases hro : roomB t s q = true
      · have h0 : opE t s env q = 0 := by unfold opE; rw [if_neg hbad, hx]; simp only; rw [if_pos hro]
        refine (ropen_in h hr.le3 hw.tot.in64 (hr.q64 hw) env q (by omega) (by omega) (by omega) (by omega) (by omega) qa qb qc hi ((roomB_rel hr q).1 hro)).mono fun e w' ⟨he, hb, hf⟩ => ⟨by rw [he, h0], _, fun s' hs' => ?_, hb, hf⟩
        unfold OpS at hs'
        rw [if_pos h0] at hs'
        obtain ⟨p, rfl⟩ := hs'
        exact hr.enter (by omega) (by omega) hx q p
      · exact fin 5 (by unfold opE; rw [if_neg hbad, hx]; simp only; rw [if_neg hro]) (by decide) (ropen_full h hr.le3 hw.tot.in64 (hr.q64 hw) env q (by omega) (by omega) (by omega) (by omega) (by omega) qa qb qc hi (fun h' => hro ((roomB_rel hr q).2 h')))
end Go.Proofs.Ytfnhiefngbcnaaa
