/- The document's calls by the table's answers; no statement is proved in this text. -/
import Derived.Test.YtopbgeoledocaaaRel
namespace Go.Proofs.Ytopbgeoledocaaa
open Go.ChangeShapes Go.WideShapes Go.ChangeAt Go.RowKit Go.Deep

abbrev FR (base : Nat) (w w' : World) : Prop := Fr base [29, 41, 60] w w'
theorem fr3 {base : Nat} {w w' : World} (h : Fr base [29, 41] w w') : FR base w w' := h.mono (fun o ho => by
  cases o with
  | cells C t fr => simp [keeps] at ho ⊢; exact ⟨ho.1, ho.2.1⟩
  | _ => rfl)
theorem Rb.los {w : World} {base r : Nat} {L : List Rn} (h : Rb w base r L) : base ≤ w.heap.size := by have := h.lt; have := h.lo; omega
theorem opB_f {n v : Int} (h : opB n v = false) : n < 1 ∨ 3 < n ∨ v < 1 ∨ 2 < v := by
  unfold opB envB verB at h
  simp at h
  omega
theorem opB_t {n v : Int} (h : opB n v = true) : (1 ≤ n ∧ n ≤ 3) ∧ (1 ≤ v ∧ v ≤ 2) := by
  unfold opB envB verB at h
  simpa using h
theorem ropen_rel {w : World} {base r c : Nat} {E : Nat → Option En} {L : List Rn} (h : Rb w base r L) (hr : Rl c E L) (n v : Int) : Calls Try.prog 22 #[pq r, i64 n, i64 v] w fun e w' => e = .returned (i64 (opN n v (stE E n))) ∧ ∃ L', Rb w' base r L' ∧ Rl c (opE E n v) L' ∧ FR base w w' := by
  unfold opN opE
  cases hB : opB n v with
  | false => exact (ropen_arg n v (opB_f hB)).mono fun _ _ ⟨h1, h2⟩ => by subst h2; exact ⟨h1, L, h, hr, Fr.refl _ _ _⟩
  | true =>
    obtain ⟨g1, g2⟩ := opB_t hB
    rcases hr.at' n with ⟨h1, h2, h3⟩ | ⟨k, p, e, h1, h2, h3, h4, h5⟩
    · rw [h2]
      exact (ropen_in h hr.len n v h1 g1 g2).mono fun _ _ ⟨q1, q2, q3⟩ => ⟨q1, _, q2, hr.opn (opB_1 hB).1 h2 h3, fr3 q3⟩
    · rw [h4]
      exact (ropen_same h hr.len n v k h1 g1 g2).mono fun _ _ ⟨q1, q2⟩ => ⟨q1, L, h.below q2, hr, Fr.of_below _ q2 h.los⟩
theorem rclose_rel {w : World} {base r c : Nat} {E : Nat → Option En} {L : List Rn} (h : Rb w base r L) (hr : Rl c E L) (n : Int) : Calls Try.prog 23 #[pq r, i64 n] w fun e w' => e = .returned (i64 (clN (stE E n))) ∧ ∃ L', Rb w' base r L' ∧ Rl c (clE E n) L' ∧ FR base w w' := by
  unfold clN clE
  rcases hr.at' n with ⟨h1, h2, h3⟩ | ⟨k, p, e, h1, h2, h3, h4, h5⟩
  · rw [h2]
    exact (rclose_none h hr.len n h1).mono fun _ _ ⟨q1, q2⟩ => ⟨q1, L, h.below q2, hr, Fr.of_below _ q2 h.los⟩
  · rw [h4]
    exact (rclose_in h hr.len n k p h2 h1).mono fun _ _ ⟨q1, q2, q3⟩ => ⟨q1, _, q2, hr.cls h2 h3 h4, fr3 q3⟩
theorem verB_f {v : Int} (h : verB v = false) : v < 1 ∨ 2 < v := by
  unfold verB at h
  simp at h
  omega
theorem verB_t {v : Int} (h : verB v = true) : 1 ≤ v ∧ v ≤ 2 := by
  unfold verB at h
  simpa using h
theorem rchange_rel {w : World} {base r c : Nat} {E : Nat → Option En} {L : List Rn} (h : Rb w base r L) (hr : Rl c E L) (n v : Int) : Calls Try.prog 24 #[pq r, i64 n, i64 v] w fun e w' => e = .returned (i64 (chN v (stE E n))) ∧ ∃ L', Rb w' base r L' ∧ Rl c (chE E n v) L' ∧ FR base w w' := by
  unfold chN chE
  rcases hr.at' n with ⟨h1, h2, h3⟩ | ⟨k, p, e, h1, h2, h3, h4, h5⟩
  · rw [h2]
    exact (rchange_none h hr.len n v h1).mono fun _ _ ⟨q1, q2⟩ => ⟨q1, L, h.below q2, hr, Fr.of_below _ q2 h.los⟩
  · rw [h4]
    cases hv : verB v with
    | false => exact (rchange_arg h hr.len n v k h1 (verB_f hv)).mono fun _ _ ⟨q1, q2⟩ => ⟨q1, L, h.below q2, hr, Fr.of_below _ q2 h.los⟩
    | true => exact (rchange_in h hr.len n v k p h2 h1 (verB_t hv)).mono fun _ _ ⟨q1, q2, q3⟩ => ⟨q1, _, q2, hr.upd h2 h3 h3 h4 (h5.setVer v) (Nat.le_refl _), fr3 q3⟩
theorem kdB_f {v : Int} (h : kdB v = false) : v < 1 ∨ 3 < v := by
  unfold kdB at h
  simp at h
  omega
theorem kdB_t {v : Int} (h : kdB v = true) : 1 ≤ v ∧ v ≤ 3 := by
  unfold kdB at h
  simpa using h
theorem rpost_rel {w : World} {base r c : Nat} {E : Nat → Option En} {L : List Rn} (h : Rb w base r L) (hr : Rl c E L) (hc : c ≤ 1000) (n k x : Int) : Calls Try.prog 25 #[pq r, i64 n, upV k x] w fun e w' => e = .returned (i64 (poN k (stE E n))) ∧ ∃ L', Rb w' base r L' ∧ Rl (c + 1) (poT E n k x) L' ∧ FR base w w' := by
  unfold poN poT
  rcases hr.at' n with ⟨h1, h2, h3⟩ | ⟨j, p, e, h1, h2, h3, h4, h5⟩
  · rw [h2]
    exact (rpost_none h hr.len n k x h1).mono fun _ _ ⟨q1, q2⟩ => ⟨q1, L, h.below q2, hr.mono (by omega), Fr.of_below _ q2 h.los⟩
  · rw [h4]
    cases hv : kdB k with
    | false => exact (rpost_arg h hr.len n k x j h1 (kdB_f hv)).mono fun _ _ ⟨q1, q2⟩ => ⟨q1, L, h.below q2, hr.mono (by omega), Fr.of_below _ q2 h.los⟩
    | true =>
      obtain ⟨b1, b2, _, _, _, _, b3⟩ := h5.bnd hc
      by_cases hup : 4 < (p.all.length : Int) + 1 - p.fr
      · exact (rpost_up h hr.len n k x j p h2 h1 (kdB_t hv) b3 ⟨b1, b2⟩ hup).mono fun _ _ ⟨q1, ⟨v2, q2⟩, q3⟩ => ⟨q1, _, q2, hr.upd h2 h3 h3 h4 (h5.postUp k x v2 hup) (by omega), q3⟩
      · exact (rpost_in h hr.len n k x j p h2 h1 (kdB_t hv) b3 ⟨b1, b2⟩ hup).mono fun _ _ ⟨q1, ⟨v2, q2⟩, q3⟩ => ⟨q1, _, q2, hr.upd h2 h3 h3 h4 (h5.post k x v2 hup) (by omega), q3⟩
theorem rtake_rel {w : World} {base r c : Nat} {E : Nat → Option En} {L : List Rn} (h : Rb w base r L) (hr : Rl c E L) (hc : c ≤ 1000) (n : Int) : Calls Try.prog 26 #[pq r, i64 n] w fun e w' => e = .returned (tkV (stE E n)) ∧ ∃ L', Rb w' base r L' ∧ Rl c (tkT E n) L' ∧ FR base w w' := by
  unfold tkV tkT
  rcases hr.at' n with ⟨h1, h2, h3⟩ | ⟨j, p, e, h1, h2, h3, h4, h5⟩
  · rw [h2]
    exact (rtake_none h hr.len n h1).mono fun _ _ ⟨q1, q2⟩ => ⟨q1, L, h.below q2, hr, Fr.of_below _ q2 h.los⟩
  · rw [h4]
    obtain ⟨F, f1, f2, f3, f4, f5⟩ := h5.F
    by_cases h0 : e.ws = 0
    · simp only [h0, if_true]
      exact (rtake_empty h hr.len n j p h2 h1 (by omega)).mono fun _ _ ⟨q1, q2⟩ => ⟨q1, L, h.below q2, hr, Fr.of_below _ q2 h.los⟩
    · simp only [h0, if_false]
      obtain ⟨_, _, b1, b2, _, _, b3⟩ := h5.bnd hc
      obtain ⟨t1, t2⟩ := h5.take f1 h0
      exact (rtake_in h hr.len n j p h2 h1 F f1 e.k0 e.n0 t1 b3 ⟨b1, b2⟩).mono fun _ _ ⟨q1, q2, q3⟩ => ⟨q1, _, q2, hr.upd h2 h3 h3 h4 t2 (Nat.le_refl _), q3⟩
theorem rlost_rel {w : World} {base r c : Nat} {E : Nat → Option En} {L : List Rn} (h : Rb w base r L) (hr : Rl c E L) (hc : c ≤ 1000) (n : Int) : Calls Try.prog 12 #[pq r, i64 n] w fun e w' => e = .returned (i64 (((stE E n).map En.lost).getD 0)) ∧ Below w.heap.size w w' := by
  rcases hr.at' n with ⟨h1, h2, h3⟩ | ⟨j, p, e, h1, h2, h3, h4, h5⟩
  · rw [h2]
    exact rlost_none h hr.len n h1
  · rw [h4]
    obtain ⟨b1, b2, b3, b4, _⟩ := h5.bnd hc
    show Calls Try.prog 12 #[pq r, i64 n] w fun e' w' => e' = .returned (i64 e.lost) ∧ _
    rw [h5.lost]
    exact rlost_in h hr.len n j p h2 h1 ⟨b1, b2⟩ ⟨b3, b4⟩
/-- Both tables in memory. -/
structure Tw (w : World) (base T R c : Nat) (E : Nat → Option En) (L : List Rn) : Prop where
  t : Tb w base T E
  r : Rb w base R L
  e : Rl c E L
theorem Tw.below {w w' : World} {base T R c : Nat} {E : Nat → Option En} {L : List Rn} (h : Tw w base T R c E L) (hb : Below w.heap.size w w') : Tw w' base T R c E L := ⟨h.t.below hb, h.r.below hb, h.e⟩
theorem Rl.lost {c : Nat} {E : Nat → Option En} {L : List Rn} (h : Rl c E L) (hc : c ≤ 1000) (n : Int) : ∀ e, stE E n = some e → 0 ≤ e.lost ∧ e.lost ≤ 1000000 := fun e he => by
  rcases h.at' n with ⟨_, h2, _⟩ | ⟨_, p, e', _, _, _, h4, h5⟩
  · rw [h2] at he; cases he
  · rw [h4] at he
    cases he
    obtain ⟨_, _, _, _, b1, b2, _⟩ := h5.bnd hc
    omega
end Go.Proofs.Ytopbgeoledocaaa
