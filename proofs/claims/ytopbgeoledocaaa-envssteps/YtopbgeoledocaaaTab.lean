/- A table of environments in memory; envs.New, isEnv, isVersion, of: contracts; no statement is proved in this text. -/
import Derived.Test.YtopbgeoledocaaaApp
namespace Go.Proofs.Ytopbgeoledocaaa
open Go.ChangeShapes Go.WideShapes Go.ChangeAt Go.RowKit Go.Deep
attribute [local go_sem ↓] Go.wp_at_zero Go.wp_at_succ

def envB (n : Int) : Bool := decide (1 ≤ n ∧ n ≤ 3)
def verB (n : Int) : Bool := decide (1 ≤ n ∧ n ≤ 2)
theorem envB_false {n : Int} (h : envB n = false) : n < 1 ∨ 3 < n := by
  unfold envB at h
  simp at h
  omega
theorem envB_true {n : Int} (h : envB n = true) : n = 1 ∨ n = 2 ∨ n = 3 := by
  unfold envB at h
  simp at h
  omega
theorem isEnv_ok (w : World) (n : Int) : Calls Try.prog 28 #[i64 n] w fun e w' => e = .returned (.bool (envB n)) ∧ w' = w := by
  unfold envB
  by_cases h1 : 1 ≤ n
  · by_cases h2 : n ≤ 3
    · rw [decide_eq_true ⟨h1, h2⟩]
      go_enter Try.func28, Try.ntmps28
      go_wp2_with fail
      go_ret
      simp
    · rw [decide_eq_false (fun h => h2 h.2)]
      go_enter Try.func28, Try.ntmps28
      go_wp2_with fail
      go_ret
      simp
  · rw [decide_eq_false (fun h => h1 h.1)]
    go_enter Try.func28, Try.ntmps28
    go_wp2_with fail
    go_ret
    exact ⟨rfl, rfl⟩
theorem isVer_ok (w : World) (n : Int) : Calls Try.prog 29 #[i64 n] w fun e w' => e = .returned (.bool (verB n)) ∧ w' = w := by
  unfold verB
  by_cases h1 : n = 1
  · subst h1
    go_enter Try.func29, Try.ntmps29
    go_wp2_with fail
    go_ret
    exact ⟨rfl, rfl⟩
  · have e1 : (n == 1) = false := by simp [h1]
    by_cases h2 : n = 2
    · subst h2
      go_enter Try.func29, Try.ntmps29
      go_wp2_with fail
      go_ret
      exact ⟨rfl, rfl⟩
    · have e2 : (n == 2) = false := by simp [h2]
      rw [decide_eq_false (fun h => by omega)]
      clear h1 h2
      go_enter Try.func29, Try.ntmps29
      go_wp2_with fail
      go_ret
      exact ⟨rfl, rfl⟩

/-- An environment, as it lies in memory. -/
structure En where
  (ver k0 n0 k1 n1 k2 n2 k3 n3 ws lost : Int)
abbrev enO (e : En) : Obj := .cells #[i64 e.ver, i64 e.k0, i64 e.n0, i64 e.k1, i64 e.n1, i64 e.k2, i64 e.n2, i64 e.k3, i64 e.n3, i64 e.ws, i64 e.lost] 66
def enP (w : World) (base : Nat) (p : Value) : Option En → Prop
  | none => p = .pointer none
  | some e => ∃ b, p = pq b ∧ base ≤ b ∧ w.heap[b]? = some (enO e)
/-- A table in memory. -/
structure Tb (w : World) (base T : Nat) (E : Nat → Option En) : Prop where
  lo : base ≤ T
  ok : ∀ i e, E i = some e → 0 ≤ e.ws ∧ e.ws ≤ 4
  blk : ∃ p0 p1 p2, w.heap[T]? = some (.cells #[p0, p1, p2] 57) ∧ enP w base p0 (E 0) ∧ enP w base p1 (E 1) ∧ enP w base p2 (E 2) ∧ (∀ k, p0 = pq k → p1 ≠ pq k) ∧ (∀ k, p0 = pq k → p2 ≠ pq k) ∧ (∀ k, p1 = pq k → p2 ≠ pq k)
theorem enP.keep {w w' : World} {base : Nat} {p : Value} {x : Option En} (h : enP w base p x) (hk : ∀ k, p = pq k → w'.heap[k]? = w.heap[k]?) : enP w' base p x := by
  cases x with
  | none => exact h
  | some e =>
    obtain ⟨b, rfl, hb, hh⟩ := h
    exact ⟨b, rfl, hb, (hk b rfl).trans hh⟩
theorem enP.lt {w : World} {base : Nat} {k : Nat} {x : Option En} (h : enP w base (pq k) x) : ∃ e, x = some e ∧ base ≤ k ∧ w.heap[k]? = some (enO e) := by
  cases x with
  | none => cases h
  | some e =>
    obtain ⟨b, hp, hb, hh⟩ := h
    cases hp
    exact ⟨e, rfl, hb, hh⟩
theorem Tb.keep {w w' : World} {base T : Nat} {E : Nat → Option En} (h : Tb w base T E) (hk : ∀ (k : Nat) (C : Array Value) (t : TypeId), w.heap[k]? = some (.cells C t) → (t = 57 ∨ t = 66) → w'.heap[k]? = some (.cells C t)) : Tb w' base T E := by
  obtain ⟨p0, p1, p2, hT, h0, h1, h2, d01, d02, d12⟩ := h.blk
  have hk' : ∀ (p : Value) x, enP w base p x → enP w' base p x := fun p x hp => hp.keep (fun k hpk => by
    subst hpk
    obtain ⟨e, _, _, hh⟩ := hp.lt
    rw [hh]
    exact hk k _ 66 hh (.inr rfl))
  exact ⟨h.lo, h.ok, p0, p1, p2, hk T _ 57 hT (.inl rfl), hk' _ _ h0, hk' _ _ h1, hk' _ _ h2, d01, d02, d12⟩
theorem Tb.below {w w' : World} {base T : Nat} {E : Nat → Option En} (h : Tb w base T E) (hb : Below w.heap.size w w') : Tb w' base T E :=
  h.keep (fun _ _ _ hk _ => blk_below hk hb)
theorem Tb.fr {w w' : World} {base b2 T : Nat} {ts : List TypeId} {E : Nat → Option En} (h : Tb w base T E) (hf : Fr b2 ts w w') (h57 : ts.contains 57 = false) (h66 : ts.contains 66 = false) : Tb w' base T E :=
  h.keep (fun k C t hk ht => hf.kept k _ hk (by rcases ht with rfl | rfl <;> simp only [keeps, h57, h66, Bool.not_false]))
theorem Tb.lt {w : World} {base T : Nat} {E : Nat → Option En} (h : Tb w base T E) : T < w.heap.size := by
  obtain ⟨p0, p1, p2, hT, _⟩ := h.blk
  exact blk_lt hT
def stE (E : Nat → Option En) (n : Int) : Option En := if n = 1 then E 0 else if n = 2 then E 1 else if n = 3 then E 2 else none
def upE (E : Nat → Option En) (n : Int) (x : Option En) : Nat → Option En := fun j => if (j : Int) + 1 = n then x else E j
theorem stE_up {E : Nat → Option En} {n : Int} (hn : envB n = true) (x : Option En) : stE (upE E n x) n = x := by
  rcases envB_true hn with rfl | rfl | rfl <;> simp [stE, upE]
theorem stE_ne {E : Nat → Option En} {n m : Int} (h : m ≠ n) (x : Option En) : stE (upE E n x) m = stE E m := by
  unfold stE upE
  by_cases h1 : m = 1
  · subst h1; simp; intro h'; omega
  by_cases h2 : m = 2
  · subst h2; simp; intro h'; omega
  by_cases h3 : m = 3
  · subst h3; simp; intro h'; omega
  simp [h1, h2, h3]
theorem stE_out {E : Nat → Option En} {n : Int} (h : envB n = false) : stE E n = none := by
  have := envB_false h
  unfold stE
  rw [if_neg (by omega), if_neg (by omega), if_neg (by omega)]
theorem upE_ok {E : Nat → Option En} {n : Int} {e : En} (h : ∀ i e, E i = some e → 0 ≤ e.ws ∧ e.ws ≤ 4) (he : 0 ≤ e.ws ∧ e.ws ≤ 4) : ∀ i x, upE E n (some e) i = some x → 0 ≤ x.ws ∧ x.ws ≤ 4 := by
  intro i x hx
  unfold upE at hx
  split at hx
  · cases hx; exact he
  · exact h i x hx
/-- What of found. -/
def AtE (w : World) (base T : Nat) (E : Nat → Option En) (n : Int) (p : Value) : Option En → Prop
  | none => p = .pointer none
  | some e => ∃ b, p = pq b ∧ base ≤ b ∧ w.heap[b]? = some (enO e) ∧ ∀ w' e', 0 ≤ e'.ws ∧ e'.ws ≤ 4 → Touch b w w' → w'.heap[b]? = some (enO e') → Tb w' base T (upE E n (some e'))
set_option maxHeartbeats 1600000 in
theorem at_of0 {w : World} {base T : Nat} {E : Nat → Option En} (h : Tb w base T E) : ∃ p, w.cell? ⟨T, 0, none⟩ = some p ∧ AtE w base T E 1 p (E 0) := by
  obtain ⟨p0, p1, p2, hT, h0, h1, h2, d01, d02, d12⟩ := h.blk
  refine ⟨p0, blk_cell hT 0, ?_⟩
  cases hx : E 0 with
  | none => rw [hx] at h0; exact h0
  | some e =>
    rw [hx] at h0
    obtain ⟨b, rfl, hb, hh⟩ := h0
    refine ⟨b, rfl, hb, hh, fun w' e' hws ht hh' => ⟨h.lo, upE_ok h.ok hws, pq b, p1, p2, ?_, ?_, ?_, ?_, d01, d02, d12⟩⟩
    · rw [ht.block T (blk_lt hT) (fun e2 => by subst e2; rw [hT] at hh; cases hh)]; exact hT
    · exact ⟨b, rfl, hb, hh'⟩
    · exact h1.keep (fun k hk => ht.block k (by subst hk; obtain ⟨_, _, _, q⟩ := h1.lt; exact blk_lt q) (fun e2 => d01 b rfl (by rw [← e2]; exact hk)))
    · exact h2.keep (fun k hk => ht.block k (by subst hk; obtain ⟨_, _, _, q⟩ := h2.lt; exact blk_lt q) (fun e2 => d02 b rfl (by rw [← e2]; exact hk)))
set_option maxHeartbeats 1600000 in
theorem at_of1 {w : World} {base T : Nat} {E : Nat → Option En} (h : Tb w base T E) : ∃ p, w.cell? ⟨T, 1, none⟩ = some p ∧ AtE w base T E 2 p (E 1) := by
  obtain ⟨p0, p1, p2, hT, h0, h1, h2, d01, d02, d12⟩ := h.blk
  refine ⟨p1, blk_cell hT 1, ?_⟩
  cases hx : E 1 with
  | none => rw [hx] at h1; exact h1
  | some e =>
    rw [hx] at h1
    obtain ⟨b, rfl, hb, hh⟩ := h1
    refine ⟨b, rfl, hb, hh, fun w' e' hws ht hh' => ⟨h.lo, upE_ok h.ok hws, p0, pq b, p2, ?_, ?_, ?_, ?_, d01, d02, d12⟩⟩
    · rw [ht.block T (blk_lt hT) (fun e2 => by subst e2; rw [hT] at hh; cases hh)]; exact hT
    · exact h0.keep (fun k hk => ht.block k (by subst hk; obtain ⟨_, _, _, q⟩ := h0.lt; exact blk_lt q) (fun e2 => d01 k hk (by rw [e2])))
    · exact ⟨b, rfl, hb, hh'⟩
    · exact h2.keep (fun k hk => ht.block k (by subst hk; obtain ⟨_, _, _, q⟩ := h2.lt; exact blk_lt q) (fun e2 => d12 b rfl (by rw [← e2]; exact hk)))
set_option maxHeartbeats 1600000 in
theorem at_of2 {w : World} {base T : Nat} {E : Nat → Option En} (h : Tb w base T E) : ∃ p, w.cell? ⟨T, 2, none⟩ = some p ∧ AtE w base T E 3 p (E 2) := by
  obtain ⟨p0, p1, p2, hT, h0, h1, h2, d01, d02, d12⟩ := h.blk
  refine ⟨p2, blk_cell hT 2, ?_⟩
  cases hx : E 2 with
  | none => rw [hx] at h2; exact h2
  | some e =>
    rw [hx] at h2
    obtain ⟨b, rfl, hb, hh⟩ := h2
    refine ⟨b, rfl, hb, hh, fun w' e' hws ht hh' => ⟨h.lo, upE_ok h.ok hws, p0, p1, pq b, ?_, ?_, ?_, ?_, d01, d02, d12⟩⟩
    · rw [ht.block T (blk_lt hT) (fun e2 => by subst e2; rw [hT] at hh; cases hh)]; exact hT
    · exact h0.keep (fun k hk => ht.block k (by subst hk; obtain ⟨_, _, _, q⟩ := h0.lt; exact blk_lt q) (fun e2 => d02 k hk (by rw [e2])))
    · exact h1.keep (fun k hk => ht.block k (by subst hk; obtain ⟨_, _, _, q⟩ := h1.lt; exact blk_lt q) (fun e2 => d12 k hk (by rw [e2])))
    · exact ⟨b, rfl, hb, hh'⟩
theorem of_nil (w : World) (n : Int) : Calls Try.prog 27 #[.pointer none, i64 n] w fun e w' => e = .returned (.pointer none) ∧ w' = w := by
  go_enter Try.func27, Try.ntmps27
  go_wp2_with fail
  go_ret
  exact ⟨rfl, rfl⟩
theorem of_out (w : World) (T : Nat) (n : Int) (h : envB n = false) : Calls Try.prog 27 #[pq T, i64 n] w fun e w' => e = .returned (.pointer none) ∧ w' = w := by
  have HE := isEnv_ok w n
  rw [h] at HE
  have HE := hid HE
  clear h
  go_enter Try.func27, Try.ntmps27
  go_wp2_with (go_at_call 28; refine HE.out.mono ?_; rintro e v1 ⟨rfl, hv⟩; replace hv := hv.symm; subst hv)
  go_ret
  exact ⟨rfl, rfl⟩
theorem of0 (w : World) (T : Nat) (p : Value) (hp : w.cell? ⟨T, 0, none⟩ = some p) : Calls Try.prog 27 #[pq T, i64 1] w fun e w' => e = .returned p ∧ w' = w := by
  have HE := hid (isEnv_ok w 1)
  have he : envB 1 = true := by decide
  rw [he] at HE
  clear he
  go_enter Try.func27, Try.ntmps27
  go_wp2_with (go_at_call 28; refine HE.out.mono ?_; rintro e v1 ⟨rfl, hv⟩; replace hv := hv.symm; subst hv)
  go_ret
  exact ⟨rfl, rfl⟩
theorem of1 (w : World) (T : Nat) (p : Value) (hp : w.cell? ⟨T, 1, none⟩ = some p) : Calls Try.prog 27 #[pq T, i64 2] w fun e w' => e = .returned p ∧ w' = w := by
  have HE := hid (isEnv_ok w 2)
  have he : envB 2 = true := by decide
  rw [he] at HE
  clear he
  go_enter Try.func27, Try.ntmps27
  go_wp2_with (go_at_call 28; refine HE.out.mono ?_; rintro e v1 ⟨rfl, hv⟩; replace hv := hv.symm; subst hv)
  go_ret
  exact ⟨rfl, rfl⟩
theorem of2 (w : World) (T : Nat) (p : Value) (hp : w.cell? ⟨T, 2, none⟩ = some p) : Calls Try.prog 27 #[pq T, i64 3] w fun e w' => e = .returned p ∧ w' = w := by
  have HE := hid (isEnv_ok w 3)
  have he : envB 3 = true := by decide
  rw [he] at HE
  clear he
  go_enter Try.func27, Try.ntmps27
  go_wp2_with (go_at_call 28; refine HE.out.mono ?_; rintro e v1 ⟨rfl, hv⟩; replace hv := hv.symm; subst hv)
  go_ret
  exact ⟨rfl, rfl⟩
theorem of_ok {w : World} {base T : Nat} {E : Nat → Option En} (h : Tb w base T E) (n : Int) : ∃ p, AtE w base T E n p (stE E n) ∧ Calls Try.prog 27 #[pq T, i64 n] w fun e w' => e = .returned p ∧ w' = w := by
  cases hn : envB n with
  | false =>
    rw [stE_out hn]
    exact ⟨_, rfl, of_out w T n hn⟩
  | true =>
    rcases envB_true hn with rfl | rfl | rfl
    · obtain ⟨p, hp, ha⟩ := at_of0 h
      exact ⟨p, ha, of0 w T p hp⟩
    · obtain ⟨p, hp, ha⟩ := at_of1 h
      exact ⟨p, ha, of1 w T p hp⟩
    · obtain ⟨p, hp, ha⟩ := at_of2 h
      exact ⟨p, ha, of2 w T p hp⟩
def zE : Nat → Option En := fun _ => none
theorem new_ok (w : World) : Calls Try.prog 8 #[] w fun e w' => e = .returned (pq w.heap.size) ∧ Tb w' w.heap.size w.heap.size zE ∧ Below w.heap.size w w' := by
  have HP : Hid (Tb (w.alloc (.cells #[.pointer none, .pointer none, .pointer none] 57)) w.heap.size w.heap.size zE) :=
    ⟨Nat.le_refl _, fun i e h => by simp [zE] at h, _, _, _, heap_last w _, rfl, rfl, rfl, fun k h => by simp at h, fun k h => by simp at h, fun k h => by simp at h⟩
  go_enter Try.func8, Try.ntmps8
  go_wp2_with fail
  go_ret
  exact ⟨rfl, HP.out, below_one w _⟩
end Go.Proofs.Ytopbgeoledocaaa
