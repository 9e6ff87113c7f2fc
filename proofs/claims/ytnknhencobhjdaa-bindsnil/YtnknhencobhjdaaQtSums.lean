/- Sums of quotas; no statement is proved in this text. -/
import Derived.Test.YtnknhencobhjdaaQtLeft
namespace Go.Proofs.Ytnknhencobhjdaa.Qt

def add (t u : T) : T := ⟨t.a + u.a, t.b + u.b, t.c + u.c⟩
def sum : List T → T
  | [] => zT
  | u :: r => add u (sum r)
theorem sum_app : ∀ (a b : List T), sum (a ++ b) = add (sum a) (sum b)
  | [], b => by simp [sum, add, zT]
  | u :: r, b => by
    show add u (sum (r ++ b)) = add (add u (sum r)) (sum b)
    rw [sum_app r b]
    simp only [add, T.mk.injEq]
    omega
def Pos (t : T) : Prop := 0 ≤ t.a ∧ 0 ≤ t.b ∧ 0 ≤ t.c
theorem sum_pos : ∀ {ts : List T}, (∀ u ∈ ts, Pos u) → Pos (sum ts)
  | [], _ => ⟨Int.le_refl _, Int.le_refl _, Int.le_refl _⟩
  | u :: r, h => by
    have h1 := h u (by simp)
    have h2 := sum_pos (ts := r) (fun v hv => h v (by simp [hv]))
    unfold Pos at *
    simp only [sum, add]
    omega
theorem fits_iff : ∀ (ts : List T) (t : T), Pos t → (∀ u ∈ ts, Pos u) → (fits t ts = true ↔ (sum ts).a ≤ t.a ∧ (sum ts).b ≤ t.b ∧ (sum ts).c ≤ t.c)
  | [], t, ht, _ => by
    unfold Pos at ht
    simp [fits, sum, zT]
    omega
  | u :: r, t, ht, h => by
    have h1 := h u (by simp)
    have h2 := sum_pos (ts := r) (fun v hv => h v (by simp [hv]))
    by_cases hc : t.a < u.a ∨ t.b < u.b ∨ t.c < u.c
    · rw [fits_no hc]
      unfold Pos at *
      simp only [sum, add]
      simp
      omega
    · have hp : Pos (sub t u) := by unfold Pos sub at *; simp only; omega
      rw [fits_go (by omega) (by omega) (by omega), fits_iff r (sub t u) hp (fun v hv => h v (by simp [hv]))]
      simp only [sum, add, sub]
      omega
theorem lessT_sum : ∀ (ts : List T) (t : T), lessT t ts = sub t (sum ts)
  | [], t => by simp [lessT, sum, sub, zT]
  | u :: r, t => by
    show lessT (sub t u) r = _
    rw [lessT_sum r]
    simp only [sum, add, sub, T.mk.injEq]
    omega
theorem sum_told (s : St) (f : Pge → T) : sum (told s f 3) = add (add (match s 0 with | none => zT | some x => f x) (match s 1 with | none => zT | some x => f x)) (match s 2 with | none => zT | some x => f x) := by
  unfold told told told told
  rw [sum_app, sum_app, sum_app]
  cases s 0 <;> cases s 1 <;> cases s 2 <;> simp [sum, add, zT]
theorem sum_q (s : St) : sum (told s (·.q) 3) = add (add (qT (s 0)) (qT (s 1))) (qT (s 2)) := by
  rw [sum_told]
  cases s 0 <;> cases s 1 <;> cases s 2 <;> rfl
theorem sum_h (s : St) : sum (told s (·.h) 3) = add (add (hT (s 0)) (hT (s 1))) (hT (s 2)) := by
  rw [sum_told]
  cases s 0 <;> cases s 1 <;> cases s 2 <;> rfl
def roomB (t : T) (s : St) (q : T) : Bool := decide ((qT (s 0)).a + (qT (s 1)).a + (qT (s 2)).a + q.a ≤ t.a ∧ (qT (s 0)).b + (qT (s 1)).b + (qT (s 2)).b + q.b ≤ t.b ∧ (qT (s 0)).c + (qT (s 1)).c + (qT (s 2)).c + q.c ≤ t.c)
theorem Le.pos {h q : T} (k : Le h q) : Pos h ∧ Pos q := by
  obtain ⟨a0, a1, b0, b1, c0, c1⟩ := k
  unfold Pos
  omega
theorem told_pos {t : T} {s : St} (h : Wf t s) : ∀ u ∈ told s (·.q) 3, Pos u := fun u hu => by
  obtain ⟨e, x, hx, rfl⟩ := told_mem hu
  exact (h.le_at hx).pos.2
theorem fits_room {t : T} {s : St} (h : Wf t s) {q : T} (hq : Pos q) : fits t (told s (·.q) 3 ++ [q]) = roomB t s q := by
  have := fits_iff (told s (·.q) 3 ++ [q]) t h.tot.pos.1 (fun u hu => by
    rw [List.mem_append] at hu
    rcases hu with hu | hu
    · exact told_pos h u hu
    · simp at hu; subst hu; exact hq)
  rw [Bool.eq_iff_iff, this, sum_app, sum_q]
  simp [roomB, sum, add, zT]
theorem Wf.enter {t : T} {s : St} (h : Wf t s) {e : Nat} (he : e < 3) (hs : s e = none) {q : T} (hq : Pos q) (hr : roomB t s q = true) (p : Nat) : Wf t (upd s e (some ⟨p, q, zT⟩)) := by
  unfold roomB at hr
  simp at hr
  unfold Pos at hq
  have hz : qT (s e) = zT := by rw [hs]; rfl
  have hza : (qT (s e)).a = 0 ∧ (qT (s e)).b = 0 ∧ (qT (s e)).c = 0 := by rw [hz]; exact ⟨rfl, rfl, rfl⟩
  have hu : ∀ i, qT (upd s e (some ⟨p, q, zT⟩) i) = if i = e then q else qT (s i) := fun i => by
    unfold upd
    by_cases hi : i = e
    · rw [if_pos hi, if_pos hi]; rfl
    · rw [if_neg hi, if_neg hi]
  refine ⟨fun i hi => ?_, h.tot, fun i => ?_, ?_, ?_, ?_⟩
  · unfold upd
    rw [if_neg (by omega)]
    exact h.out i hi
  · unfold upd
    by_cases hi : i = e
    · rw [if_pos hi]; exact ⟨Int.le_refl _, hq.1, Int.le_refl _, hq.2.1, Int.le_refl _, hq.2.2⟩
    · rw [if_neg hi]; exact h.le i
  all_goals
    rw [hu, hu, hu]
    obtain rfl | rfl | rfl : e = 0 ∨ e = 1 ∨ e = 2 := by omega
    all_goals
      simp
      omega
end Go.Proofs.Ytnknhencobhjdaa.Qt
