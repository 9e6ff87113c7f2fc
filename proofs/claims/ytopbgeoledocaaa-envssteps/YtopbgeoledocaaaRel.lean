/- The table and the document's, side by side; no statement is proved in this text. -/
import Derived.Test.YtopbgeoledocaaaRTake
namespace Go.Proofs.Ytopbgeoledocaaa
open Go.ChangeShapes Go.WideShapes Go.ChangeAt Go.RowKit Go.Deep

def atE (e : En) : Nat → Int × Int
  | 0 => (e.k0, e.n0)
  | 1 => (e.k1, e.n1)
  | 2 => (e.k2, e.n2)
  | 3 => (e.k3, e.n3)
  | _ => (0, 0)
theorem atE_po {e : En} {D : Nat} (hw : e.ws = D) (hD : D < 4) (k x : Int) : (poE e k x).ws = ((D + 1 : Nat) : Int) ∧ (poE e k x).lost = e.lost ∧ (poE e k x).ver = e.ver ∧ atE (poE e k x) D = (k, x) ∧ ∀ i, i < D → atE (poE e k x) i = atE e i := by
  rcases (show D = 0 ∨ D = 1 ∨ D = 2 ∨ D = 3 by omega) with rfl | rfl | rfl | rfl
  · exact ⟨by simp [poE, hw], by simp [poE, hw], by simp [poE, hw], by simp [poE, hw, atE], fun i hi => by omega⟩
  · refine ⟨by simp [poE, hw], by simp [poE, hw], by simp [poE, hw], by simp [poE, hw, atE], fun i hi => ?_⟩
    obtain rfl : i = 0 := by omega
    simp [poE, hw, atE]
  · refine ⟨by simp [poE, hw], by simp [poE, hw], by simp [poE, hw], by simp [poE, hw, atE], fun i hi => ?_⟩
    rcases (show i = 0 ∨ i = 1 by omega) with rfl | rfl <;> simp [poE, hw, atE]
  · refine ⟨by simp [poE, hw], by simp [poE, hw], by simp [poE, hw], by simp [poE, hw, atE], fun i hi => ?_⟩
    rcases (show i = 0 ∨ i = 1 ∨ i = 2 by omega) with rfl | rfl | rfl <;> simp [poE, hw, atE]
theorem atE_full {e : En} (hw : e.ws = 4) (k x : Int) : (poE e k x).ws = 4 ∧ (poE e k x).lost = e.lost + 1 ∧ (poE e k x).ver = e.ver ∧ atE (poE e k x) 3 = (k, x) ∧ ∀ i, i < 3 → atE (poE e k x) i = atE e (i + 1) := by
  refine ⟨by simp [poE, hw], by simp [poE, hw], by simp [poE, hw], by simp [poE, hw, atE], fun i hi => ?_⟩
  rcases (show i = 0 ∨ i = 1 ∨ i = 2 by omega) with rfl | rfl | rfl <;> simp [poE, hw, atE]
theorem atE_sh (e : En) (i : Nat) (hi : i < 3) : atE (shE e) i = atE e (i + 1) := by
  rcases (show i = 0 ∨ i = 1 ∨ i = 2 by omega) with rfl | rfl | rfl <;> rfl
/-- One environment, as both have it. -/
structure Mt (c : Nat) (e : En) (p : Rn) : Prop where
  ver : e.ver = p.ver
  F : ∃ F : Nat, p.fr = F ∧ F ≤ p.all.length ∧ e.ws = ((p.all.length - F : Nat) : Int) ∧ p.all.length - F ≤ 4 ∧ ∀ i, i < p.all.length - F → p.all[F + i]? = some (atE e i)
  tk : 0 ≤ p.tk ∧ p.tk ≤ p.fr
  lost : e.lost = p.fr - p.tk
  le : p.all.length ≤ c
theorem Mt.mono {c d : Nat} {e : En} {p : Rn} (h : Mt c e p) (hd : c ≤ d) : Mt d e p := ⟨h.ver, h.F, h.tk, h.lost, Nat.le_trans h.le hd⟩
theorem Mt.new (c : Nat) (n v : Int) : Mt c (nwE v) (nwR n v) := ⟨rfl, ⟨0, rfl, Nat.le_refl _, rfl, by simp [nwR], fun i hi => by simp [nwR] at hi⟩, ⟨Int.le_refl _, Int.le_refl _⟩, rfl, Nat.zero_le _⟩
theorem Mt.setVer {c : Nat} {e : En} {p : Rn} (h : Mt c e p) (v : Int) : Mt c { e with ver := v } { p with ver := v } := by
  obtain ⟨F, h1, h2, h3, h4, h5⟩ := h.F
  refine ⟨rfl, ⟨F, h1, h2, h3, h4, fun i hi => ?_⟩, h.tk, h.lost, h.le⟩
  have hi' : i < p.all.length - F := hi
  rw [show (p.all[F + i]? = _) from h5 i hi']
  have hi4 : i < 4 := by omega
  rcases (show i = 0 ∨ i = 1 ∨ i = 2 ∨ i = 3 by omega) with rfl | rfl | rfl | rfl <;> rfl
theorem Mt.bnd {c : Nat} {e : En} {p : Rn} (h : Mt c e p) (hc : c ≤ 1000) : 0 ≤ p.fr ∧ p.fr ≤ 1000 ∧ 0 ≤ p.tk ∧ p.tk ≤ 1000 ∧ 0 ≤ e.lost ∧ e.lost ≤ 1000 ∧ p.all.length ≤ 1000 := by
  obtain ⟨F, h1, h2, _⟩ := h.F
  have := h.tk
  have := h.lost
  have := h.le
  omega
theorem Mt.post {c : Nat} {e : En} {p : Rn} (h : Mt c e p) (k x : Int) (v2 : Value) (hno : ¬ 4 < (p.all.length : Int) + 1 - p.fr) : Mt (c + 1) (poE e k x) { p with v := v2, all := p.all ++ [(k, x)], fr := p.fr } := by
  obtain ⟨F, h1, h2, h3, h4, h5⟩ := h.F
  have hle := h.le
  obtain ⟨g1, g2, g3, g4, g5⟩ := atE_po h3 (by omega) k x
  refine ⟨by rw [g3]; exact h.ver, ⟨F, h1, by simp; omega, ?_, by simp; omega, fun i hi => ?_⟩, h.tk, by rw [g2]; exact h.lost, by simp; omega⟩
  · rw [g1]
    congr 1
    simp
    omega
  · simp at hi
    by_cases hiD : i < p.all.length - F
    · rw [g5 i hiD]
      show (p.all ++ [(k, x)])[F + i]? = _
      rw [List.getElem?_append_left (by omega)]
      exact h5 i hiD
    · obtain rfl : i = p.all.length - F := by omega
      rw [g4]
      show (p.all ++ [(k, x)])[F + (p.all.length - F)]? = _
      rw [show F + (p.all.length - F) = p.all.length by omega]
      simp
theorem Mt.postUp {c : Nat} {e : En} {p : Rn} (h : Mt c e p) (k x : Int) (v2 : Value) (hup : 4 < (p.all.length : Int) + 1 - p.fr) : Mt (c + 1) (poE e k x) { p with v := v2, all := p.all ++ [(k, x)], fr := p.fr + 1 } := by
  obtain ⟨F, h1, h2, h3, h4, h5⟩ := h.F
  have hle := h.le
  have h44 : p.all.length - F = 4 := by omega
  obtain ⟨g1, g2, g3, g4, g5⟩ := atE_full (e := e) (by rw [h3, h44]; rfl) k x
  have htk := h.tk
  have hlo := h.lost
  refine ⟨by rw [g3]; exact h.ver, ⟨F + 1, by show p.fr + 1 = _; rw [h1]; omega, by simp; omega, ?_, by simp; omega, fun i hi => ?_⟩, ⟨htk.1, by show p.tk ≤ p.fr + 1; omega⟩, by rw [g2]; show e.lost + 1 = p.fr + 1 - p.tk; omega, by simp; omega⟩
  · rw [g1]
    simp
    omega
  · simp at hi
    by_cases hi3 : i < 3
    · rw [g5 i hi3]
      show (p.all ++ [(k, x)])[F + 1 + i]? = _
      rw [List.getElem?_append_left (by omega), show F + 1 + i = F + (i + 1) by omega]
      exact h5 (i + 1) (by omega)
    · obtain rfl : i = 3 := by omega
      rw [g4]
      show (p.all ++ [(k, x)])[F + 1 + 3]? = _
      rw [show F + 1 + 3 = p.all.length by omega]
      simp
theorem Mt.take {c : Nat} {e : En} {p : Rn} {F : Nat} (h : Mt c e p) (hF : p.fr = F) (hne : e.ws ≠ 0) : p.all[F]? = some (e.k0, e.n0) ∧ Mt c (shE e) { p with fr := (F : Int) + 1, tk := p.tk + 1 } := by
  obtain ⟨F', h1, h2, h3, h4, h5⟩ := h.F
  obtain rfl : F' = F := by omega
  have h0 := h5 0 (by omega)
  have htk := h.tk
  have hlo := h.lost
  refine ⟨h0, h.ver, ⟨F' + 1, by show (F' : Int) + 1 = _; omega, by show F' + 1 ≤ p.all.length; omega, by show e.ws - 1 = ((p.all.length - (F' + 1) : Nat) : Int); omega, by show p.all.length - (F' + 1) ≤ 4; omega, fun i hi => ?_⟩, ⟨by show 0 ≤ p.tk + 1; omega, by show p.tk + 1 ≤ (F' : Int) + 1; omega⟩, by show e.lost = (F' : Int) + 1 - (p.tk + 1); omega, h.le⟩
  have hi' : i < p.all.length - (F' + 1) := hi
  rw [atE_sh e i (by omega)]
  show p.all[F' + 1 + i]? = _
  rw [show F' + 1 + i = F' + (i + 1) by omega]
  exact h5 (i + 1) (by omega)
def b1 (x : Option En) : Nat := if x.isSome then 1 else 0
def c3 (E : Nat → Option En) : Nat := b1 (E 0) + b1 (E 1) + b1 (E 2)
theorem c3_le (E : Nat → Option En) : c3 E ≤ 3 := by
  unfold c3 b1
  split <;> split <;> split <;> omega
theorem c3_up {E : Nat → Option En} {n : Int} (hn : envB n = true) (x : Option En) : c3 (upE E n x) + b1 (stE E n) = c3 E + b1 x := by
  rcases envB_true hn with rfl | rfl | rfl
  · show b1 x + b1 (E 1) + b1 (E 2) + b1 (E 0) = _
    unfold c3; omega
  · show b1 (E 0) + b1 x + b1 (E 2) + b1 (E 1) = _
    unfold c3; omega
  · show b1 (E 0) + b1 (E 1) + b1 x + b1 (E 2) = _
    unfold c3; omega
/-- Both tables. -/
structure Rl (c : Nat) (E : Nat → Option En) (L : List Rn) : Prop where
  cnt : L.length = c3 E
  ok : ∀ (i : Nat) (p : Rn), L[i]? = some p → ∃ e, stE E p.n = some e ∧ Mt c e p
  no : ∀ n, (∀ (i : Nat) (p : Rn), L[i]? = some p → p.n ≠ n) → stE E n = none
  uniq : ∀ (i j : Nat) (p q : Rn), L[i]? = some p → L[j]? = some q → p.n = q.n → i = j
theorem Rl.len {c : Nat} {E : Nat → Option En} {L : List Rn} (h : Rl c E L) : L.length ≤ 3 := by rw [h.cnt]; exact c3_le E
theorem Rl.mono {c d : Nat} {E : Nat → Option En} {L : List Rn} (h : Rl c E L) (hd : c ≤ d) : Rl d E L := ⟨h.cnt, fun i p hp => by obtain ⟨e, h1, h2⟩ := h.ok i p hp; exact ⟨e, h1, h2.mono hd⟩, h.no, h.uniq⟩
theorem st_env {E : Nat → Option En} {n : Int} {e : En} (h : stE E n = some e) : envB n = true := by
  cases hn : envB n with
  | true => rfl
  | false => rw [stE_out hn] at h; cases h
theorem rl_zero : Rl 0 zE [] := ⟨rfl, fun i p hp => by simp at hp, fun n _ => by unfold stE zE; split <;> (try split) <;> (try split) <;> rfl, fun i j p q hp => by simp at hp⟩
/-- What the document's At tells. -/
theorem Rl.at' {c : Nat} {E : Nat → Option En} {L : List Rn} (h : Rl c E L) (n : Int) : (atI L n = -1 ∧ stE E n = none ∧ ∀ (i : Nat) (p : Rn), L[i]? = some p → p.n ≠ n) ∨ ∃ (k : Nat) (p : Rn) (e : En), atI L n = k ∧ L[k]? = some p ∧ p.n = n ∧ stE E n = some e ∧ Mt c e p := by
  rcases atI_cases L n with ⟨h1, h2⟩ | ⟨k, p, h1, h2, h3⟩
  · exact .inl ⟨h1, h.no n h2, h2⟩
  · obtain ⟨e, h4, h5⟩ := h.ok k p h2
    rw [h3] at h4
    exact .inr ⟨k, p, e, h1, h2, h3, h4, h5⟩
theorem Rl.upd {c d : Nat} {E : Nat → Option En} {L : List Rn} {k : Nat} {p p' : Rn} {e e' : En} {n : Int} (h : Rl c E L) (hp : L[k]? = some p) (hn : p.n = n) (hn' : p'.n = n) (he : stE E n = some e) (hm : Mt d e' p') (hd : c ≤ d) : Rl d (upE E n (some e')) (L.set k p') := by
  have henv := st_env he
  have hk : k < L.length := (List.getElem?_eq_some_iff.1 hp).1
  have hget : ∀ (i : Nat) q, (L.set k p')[i]? = some q → (i = k ∧ q = p') ∨ (i ≠ k ∧ L[i]? = some q ∧ q.n ≠ n) := fun i q hq => by
    by_cases hik : k = i
    · subst hik
      rw [List.getElem?_set_self hk] at hq
      cases hq
      exact .inl ⟨rfl, rfl⟩
    · rw [List.getElem?_set_ne hik] at hq
      exact .inr ⟨Ne.symm hik, hq, fun hq2 => hik (h.uniq k i p q hp hq (by rw [hn, hq2]))⟩
  refine ⟨?_, fun i q hq => ?_, fun m hm2 => ?_, fun i j q q' hq hq' hqq => ?_⟩
  · rw [List.length_set, h.cnt]
    have := c3_up (E := E) henv (some e')
    rw [he] at this
    simp only [b1, Option.isSome_some, if_true] at this
    omega
  · rcases hget i q hq with ⟨rfl, rfl⟩ | ⟨_, hq0, hqn⟩
    · rw [hn', stE_up henv]
      exact ⟨e', rfl, hm⟩
    · rw [stE_ne hqn]
      obtain ⟨x, hx1, hx2⟩ := h.ok i q hq0
      exact ⟨x, hx1, hx2.mono hd⟩
  · have hmn : m ≠ n := fun hmn => hm2 k p' (List.getElem?_set_self hk) (by rw [hn', hmn])
    rw [stE_ne hmn]
    refine h.no m (fun i q hq hqm => ?_)
    by_cases hik : k = i
    · subst hik
      rw [hp] at hq
      cases hq
      exact hmn (by rw [← hqm, hn])
    · exact hm2 i q (by rw [List.getElem?_set_ne hik]; exact hq) hqm
  · rcases hget i q hq with ⟨rfl, rfl⟩ | ⟨_, hq0, hqn⟩
    · rcases hget j q' hq' with ⟨rfl, rfl⟩ | ⟨_, hq0', hqn'⟩
      · rfl
      · exact absurd (by rw [← hqq, hn']) hqn'
    · rcases hget j q' hq' with ⟨rfl, rfl⟩ | ⟨_, hq0', hqn'⟩
      · exact absurd (by rw [hqq, hn']) hqn
      · exact h.uniq i j q q' hq0 hq0' hqq
theorem Rl.opn {c : Nat} {E : Nat → Option En} {L : List Rn} {n v : Int} (h : Rl c E L) (henv : envB n = true) (hno : stE E n = none) (hall : ∀ (i : Nat) (p : Rn), L[i]? = some p → p.n ≠ n) : Rl c (upE E n (some (nwE v))) (L ++ [nwR n v]) := by
  have hget : ∀ (i : Nat) q, (L ++ [nwR n v])[i]? = some q → (i = L.length ∧ q = nwR n v) ∨ (i < L.length ∧ L[i]? = some q ∧ q.n ≠ n) := fun i q hq => by
    rw [List.getElem?_append] at hq
    split at hq
    · rename_i hi
      exact .inr ⟨hi, hq, hall i q hq⟩
    · rename_i hi
      cases hj : i - L.length with
      | zero => rw [hj] at hq; simp at hq; exact .inl ⟨by omega, hq.symm⟩
      | succ m => rw [hj] at hq; simp at hq
  refine ⟨?_, fun i q hq => ?_, fun m hm2 => ?_, fun i j q q' hq hq' hqq => ?_⟩
  · rw [List.length_append, h.cnt]
    have := c3_up (E := E) henv (some (nwE v))
    rw [hno] at this
    simp [b1] at this
    simp [this]
  · rcases hget i q hq with ⟨_, rfl⟩ | ⟨_, hq0, hqn⟩
    · show ∃ e, stE _ n = some e ∧ _
      rw [stE_up henv]
      exact ⟨_, rfl, Mt.new c n v⟩
    · rw [stE_ne hqn]
      exact h.ok i q hq0
  · have hmn : m ≠ n := fun hmn => hm2 L.length (nwR n v) (by simp) (by show n = m; rw [hmn])
    rw [stE_ne hmn]
    exact h.no m (fun i q hq => hm2 i q (by rw [List.getElem?_append_left (List.getElem?_eq_some_iff.1 hq).1]; exact hq))
  · rcases hget i q hq with ⟨hi, rfl⟩ | ⟨_, hq0, hqn⟩
    · rcases hget j q' hq' with ⟨hj, rfl⟩ | ⟨_, hq0', hqn'⟩
      · omega
      · exact absurd hqq.symm hqn'
    · rcases hget j q' hq' with ⟨hj, rfl⟩ | ⟨_, hq0', hqn'⟩
      · exact absurd hqq hqn
      · exact h.uniq i j q q' hq0 hq0' hqq
theorem Rl.cls {c : Nat} {E : Nat → Option En} {L : List Rn} {k : Nat} {p : Rn} {e : En} {n : Int} (h : Rl c E L) (hp : L[k]? = some p) (hn : p.n = n) (he : stE E n = some e) : Rl c (upE E n none) (L.take k ++ L.drop (k + 1)) := by
  have henv := st_env he
  have hk : k < L.length := (List.getElem?_eq_some_iff.1 hp).1
  have hget : ∀ (i : Nat) q, (L.take k ++ L.drop (k + 1))[i]? = some q → L[if i < k then i else i + 1]? = some q ∧ q.n ≠ n := fun i q hq => by
    have h1 := cut_get hk i q hq
    exact ⟨h1, fun hq2 => by have := h.uniq k _ p q hp h1 (by rw [hn, hq2]); split at this <;> omega⟩
  refine ⟨?_, fun i q hq => ?_, fun m hm2 => ?_, fun i j q q' hq hq' hqq => ?_⟩
  · have := c3_up (E := E) henv none
    rw [he] at this
    simp [b1] at this
    have hc := h.cnt
    simp
    omega
  · obtain ⟨h1, h2⟩ := hget i q hq
    rw [stE_ne h2]
    exact h.ok _ q h1
  · by_cases hmn : m = n
    · rw [hmn, stE_up henv]
    · rw [stE_ne hmn]
      refine h.no m (fun i q hq hqm => ?_)
      have hiL := (List.getElem?_eq_some_iff.1 hq).1
      by_cases hik : i < k
      · refine hm2 i q ?_ hqm
        rw [List.getElem?_append_left (by simp; omega), List.getElem?_take]
        simpa [hik] using hq
      · by_cases hik2 : i = k
        · subst hik2
          rw [hp] at hq
          cases hq
          exact hmn (by rw [← hqm, hn])
        · refine hm2 (i - 1) q ?_ hqm
          rw [List.getElem?_append_right (by simp; omega), List.getElem?_drop]
          rw [show k + 1 + (i - 1 - (L.take k).length) = i by simp; omega]
          exact hq
  · obtain ⟨h1, _⟩ := hget i q hq
    obtain ⟨h2, _⟩ := hget j q' hq'
    have := h.uniq _ _ q q' h1 h2 hqq
    split at this <;> split at this <;> omega
end Go.Proofs.Ytopbgeoledocaaa
