/- Both sides Drop and Fork alike; no statement is proved in this text. -/
import Derived.Test.YtaapiffglfppnaaTw
namespace Go.Proofs.Ytaapiffglfppnaa
open Go.ChangeShapes Go.WideShapes Go.ChangeAt Go.RowKit Go.Deep

theorem slL_congr {A A' : Tab} {V : Nat → Op4} (h : ∀ r g, r < 6 → g < 6 → A r g = A' r g) : slL A V = slL A' V := by
  rw [slL_eq, slL_eq]
  refine slX_congr fun y hy => ?_
  have hm := mem_places.1 hy
  unfold slX
  rw [h y.1 y.2 hm.1 hm.2]
theorem drK_sub (A : Tab) (p : Int) (k : Nat) : SubT (drK A p k) A := fun r g a hr hg ha => by
  unfold drK at ha
  split at ha
  · cases ha
  · exact ⟨r, g, hr, hg, ha⟩
theorem drN_len (A : Tab) (V : Nat → Op4) (p : Int) : ∀ k, k ≤ 6 → (slL (drK A p k) V).length + drN A p k = (slL A V).length
  | 0, _ => by
    rw [slL_congr (A := drK A p 0) (A' := A) fun r g _ _ => by unfold drK; rw [if_neg (by omega)]]
    rfl
  | k + 1, hk => by
    have ih := drN_len A V p k (by omega)
    by_cases hp : 1 ≤ p ∧ p ≤ 6
    · obtain ⟨u, rfl⟩ : ∃ u : Nat, p = (u : Int) + 1 := ⟨(p - 1).toNat, by omega⟩
      have hu : u < 6 := by omega
      have hk6 : k < 6 := by omega
      have he : drK A ((u : Int) + 1) (k + 1) = upd (drK A ((u : Int) + 1) k) u k none := by
        funext r g
        unfold upd drK
        by_cases h1 : r = u ∧ g = k
        · rw [if_pos h1, if_pos (by omega)]
        · rw [if_neg h1]
          by_cases h2 : (r : Int) + 1 = (u : Int) + 1 ∧ g < k
          · rw [if_pos h2, if_pos (by omega)]
          · rw [if_neg h2, if_neg (by omega)]
      rw [he, sl_cut hu hk6]
      rw [slL_split _ V u k hu hk6] at ih
      unfold drN
      rw [atA_in A u k hu hk6]
      have h1 : drK A ((u : Int) + 1) k u k = A u k := by
        unfold drK
        rw [if_neg (by omega)]
      unfold slX at ih
      rw [h1] at ih
      rw [List.length_append, List.length_append] at ih
      rw [List.length_append]
      cases ha : A u k with
      | none =>
        rw [ha] at ih
        simp only [Option.map_none, Option.toList_none, List.length_nil, Option.isSome_none, if_false, Bool.false_eq_true] at ih ⊢
        omega
      | some a =>
        rw [ha] at ih
        simp only [Option.map_some, Option.toList_some, List.length_cons, List.length_nil, Option.isSome_some, if_true] at ih ⊢
        omega
    · have h1 : slL (drK A p (k + 1)) V = slL (drK A p k) V := slL_congr fun r g hr _ => by
        unfold drK
        rw [if_neg (by omega), if_neg (by omega)]
      rw [h1]
      unfold drN
      rw [atA_out A p k (fun h => hp h.1)]
      exact ih
theorem drN_zero {A : Tab} {q : Nat} (hq : q < 6) : ∀ k, k ≤ 6 → (drN A ((q : Int) + 1) k = 0 ↔ ∀ g, g < k → A q g = none)
  | 0, _ => ⟨fun _ g hg => by omega, fun _ => rfl⟩
  | k + 1, hk => by
    have ih := drN_zero (A := A) hq k (by omega)
    unfold drN
    rw [atA_in A q k hq (by omega)]
    constructor
    · intro h g hg
      cases ha : A q k with
      | some a => rw [ha] at h; simp at h
      | none =>
        by_cases hgk : g = k
        · rw [hgk]; exact ha
        · exact ih.1 (by omega) g (by omega)
    · intro h
      rw [h k (by omega), ih.2 fun g hg => h g (by omega)]
      rfl
theorem drop_two (t b r : Nat) (A : Tab) (V : Nat → Op4) (hJ : Jn A V) (p : Int) : ∃ y, Two3 t b r A V 22 35 [i64 p] (i64 y) := by
  have hl := sl_len A V
  have hO := op_len A V
  have hd := drN_len A V p 6 (Nat.le_refl _)
  refine ⟨drN A p 6, fun W h => (drop_ok W t A V p h).mono fun e w' ⟨he, hT, ho⟩ => ⟨he, _, _, got_touch (hJ.sub (drK_sub A p 6)) h hT ho, fun W2 h2 => ?_⟩⟩
  have h3 := rt_touch h2 (rdrop_ok p h2 (by omega) (by omega))
  rw [lf_drop, sw_op hJ (drK_sub A p 6)] at h3
  rw [show ((slL A V).length : Int) - ((slL (drK A p 6) V).length : Int) = (drN A p 6 : Int) by omega] at h3
  exact h3
/-- A table whose child has the slots of the places before n. -/
def frkP (A : Tab) (r q n : Nat) : Tab := fun r' g => if r' = q ∧ r * 6 + g < n then A r g else A r' g
theorem places_at : ∀ n, n < 36 → places[n]? = some (n / 6, n % 6) := by decide +kernel
theorem frk_fold {A : Tab} {V : Nat → Op4} {r q : Nat} (hr : r < 6) (hq : q < 6) (hrq : r ≠ q) (hc : ∀ g, g < 6 → A q g = none) : ∀ n, n ≤ 36 → ((places.take n).filterMap (slX A V)).foldl (fun T s => if s.1 == (r : Int) + 1 then insS T ((q : Int) + 1, s.2.1, s.2.2) else T) (slL A V) = slL (frkP A r q n) V
  | 0, _ => slL_congr fun r' g _ _ => by unfold frkP; rw [if_neg (by omega)]
  | n + 1, hn => by
    have ih := frk_fold (V := V) hr hq hrq hc n (by omega)
    have hp := places_at n (by omega)
    rw [takeL hp, List.filterMap_append, List.foldl_append, ih]
    have hm : n % 6 < 6 := by omega
    cases hs : slX A V (n / 6, n % 6) with
    | none =>
      have hn0 : A (n / 6) (n % 6) = none := by
        unfold slX at hs
        cases ha : A (n / 6) (n % 6) with
        | none => rfl
        | some a => rw [ha] at hs; cases hs
      rw [List.filterMap_cons, hs]
      refine slL_congr fun r' g hr' hg => ?_
      unfold frkP
      by_cases h1 : r' = q ∧ r * 6 + g < n
      · rw [if_pos h1, if_pos ⟨h1.1, by omega⟩]
      · rw [if_neg h1]
        by_cases h2 : r' = q ∧ r * 6 + g < n + 1
        · rw [if_pos h2, h2.1, hc g hg]
          have e1 : n / 6 = r := by omega
          have e2 : n % 6 = g := by omega
          rw [e1, e2] at hn0
          exact hn0.symm
        · rw [if_neg h2]
    | some s =>
      obtain ⟨a, ha, rfl⟩ := slX_some hs
      rw [List.filterMap_cons, hs]
      show (if (((n / 6 : Nat) : Int) + 1 == (r : Int) + 1) = true then insS _ _ else _) = _
      by_cases hnr : n / 6 = r
      · rw [if_pos (by rw [hnr]; exact beq_self_eq_true _)]
        have hB : frkP A r q n q (n % 6) = none := by
          unfold frkP
          rw [if_neg (by omega)]
          exact hc _ hm
        rw [insS_spl (spl_free hq hm hB _), ← sl_put (A := frkP A r q n) (V := V) (V' := V) (a := a) hq hm fun _ _ _ _ _ _ => rfl]
        refine slL_congr fun r' g hr' hg => ?_
        unfold upd frkP
        simp only [] at ha
        by_cases h1 : r' = q ∧ g = n % 6
        · rw [if_pos h1, if_pos ⟨h1.1, by omega⟩, h1.2, ← hnr]
          exact ha.symm
        · rw [if_neg h1]
          by_cases h2 : r' = q ∧ r * 6 + g < n
          · rw [if_pos h2, if_pos ⟨h2.1, by omega⟩]
          · rw [if_neg h2, if_neg (by omega)]
      · rw [if_neg (by
          intro h
          have := beq_iff_eq.1 h
          omega)]
        refine slL_congr fun r' g hr' hg => ?_
        unfold frkP
        by_cases h2 : r' = q ∧ r * 6 + g < n
        · rw [if_pos h2, if_pos ⟨h2.1, by omega⟩]
        · rw [if_neg h2, if_neg (by omega)]
theorem fm_take {α β : Type} {f : α → Option β} : ∀ {L : List α} {k : Nat} {s : β}, (L.filterMap f)[k]? = some s → ∃ n x, L[n]? = some x ∧ f x = some s ∧ (L.filterMap f).take k = (L.take n).filterMap f
  | [], k, s, h => by simp at h
  | y :: L, k, s, h => by
    rw [List.filterMap_cons] at h ⊢
    cases hy : f y with
    | none =>
      rw [hy] at h
      obtain ⟨n, x, h1, h2, h3⟩ := fm_take h
      refine ⟨n + 1, x, by simpa using h1, h2, ?_⟩
      rw [List.take_succ_cons, List.filterMap_cons, hy]
      exact h3
    | some z =>
      rw [hy] at h
      cases k with
      | zero =>
        simp at h
        subst h
        exact ⟨0, y, rfl, hy, by simp⟩
      | succ k =>
        obtain ⟨n, x, h1, h2, h3⟩ := fm_take (L := L) (k := k) (s := s) (by simpa using h)
        refine ⟨n + 1, x, by simpa using h1, h2, ?_⟩
        rw [List.take_succ_cons, List.take_succ_cons, List.filterMap_cons, hy]
        show z :: _ = z :: _
        rw [h3]
theorem fork_spl {A : Tab} {V : Nat → Op4} {r q : Nat} (hr : r < 6) (hq : q < 6) (hrq : r ≠ q) (hc : ∀ g, g < 6 → A q g = none) : ForkSpl ((r : Int) + 1) ((q : Int) + 1) (slL A V) := fun k s hk hs => by
  have hk2 := hk
  rw [slL_eq] at hk2
  obtain ⟨n, x, h1, h2, h3⟩ := fm_take hk2
  obtain ⟨a, ha, rfl⟩ := slX_some h2
  have hn : n < 36 := by
    have := (List.getElem?_eq_some_iff.1 h1).1
    have h8 : places.length = 36 := by decide
    omega
  rw [places_at n hn] at h1
  cases h1
  simp only [] at hs ha
  have hnr : n / 6 = r := by omega
  have hm : n % 6 < 6 := by omega
  have hf : fkT ((r : Int) + 1) ((q : Int) + 1) (slL A V) k = slL (frkP A r q n) V := by
    unfold fkT
    rw [← frk_fold (V := V) hr hq hrq hc n (by omega), ← h3, ← slL_eq]
  rw [hf]
  have hB : frkP A r q n q (n % 6) = none := by
    unfold frkP
    rw [if_neg (by omega)]
    exact hc _ hm
  exact ⟨_, _, spl_free hq hm hB _⟩
theorem fork_end {A : Tab} {V : Nat → Op4} {r q : Nat} (hr : r < 6) (hq : q < 6) (hrq : r ≠ q) (hc : ∀ g, g < 6 → A q g = none) : fkT ((r : Int) + 1) ((q : Int) + 1) (slL A V) (slL A V).length = slL (forkT A r q) V := by
  have h := frk_fold (V := V) hr hq hrq hc 36 (Nat.le_refl _)
  have h8 : places.length = 36 := by decide
  rw [List.take_of_length_le (by omega), ← slL_eq] at h
  unfold fkT
  rw [List.take_of_length_le (Nat.le_refl _), h]
  refine slL_congr fun r' g hr' hg => ?_
  unfold frkP forkT
  by_cases e : r' = q
  · rw [if_pos ⟨e, by omega⟩, if_pos e]
  · rw [if_neg fun h => e h.1, if_neg e]
theorem fork_two (t b r : Nat) (A : Tab) (V : Nat → Op4) (hJ : Jn A V) (p c : Int) : ∃ y, Two3 t b r A V 26 34 [i64 p, i64 c] (i64 y) := by
  have hl := sl_len A V
  by_cases hk : 1 ≤ p ∧ p ≤ 6 ∧ 1 ≤ c ∧ c ≤ 6 ∧ p ≠ c
  · have hk' := hk
    obtain ⟨h1, h2, h3, h4, h5⟩ := hk'
    obtain ⟨u, rfl⟩ : ∃ u : Nat, p = (u : Int) + 1 := ⟨(p - 1).toNat, by omega⟩
    obtain ⟨q, rfl⟩ : ∃ q : Nat, c = (q : Int) + 1 := ⟨(c - 1).toNat, by omega⟩
    have hu : u < 6 := by omega
    have hq : q < 6 := by omega
    have huq : u ≠ q := by omega
    have hd := drN_len A V ((q : Int) + 1) 6 (Nat.le_refl _)
    by_cases hc : ∀ g, g < 6 → A q g = none
    · have hz := (drN_zero hq 6 (Nat.le_refl _)).2 hc
      have hs1 : SubT (forkT A u q) A := fun r1 g1 a hr1 hg1 ha => by
        unfold forkT at ha
        split at ha
        · exact ⟨u, g1, hu, hg1, ha⟩
        · exact ⟨r1, g1, hr1, hg1, ha⟩
      have hs2 : SubT A (forkT A u q) := fun r1 g1 a hr1 hg1 ha => by
        refine ⟨r1, g1, hr1, hg1, ?_⟩
        unfold forkT
        rw [if_neg fun e => by rw [e, hc g1 hg1] at ha; cases ha]
        exact ha
      refine ⟨0, fun W h => (fork_yes W t u q A V h hu hq huq hc).mono fun e w' ⟨he, hT, ho⟩ => ⟨he, _, _, got_touch (hJ.sub hs1) h hT ho, fun W2 h2 => ?_⟩⟩
      have h3 := rt_touch h2 (rfork_yes ((u : Int) + 1) ((q : Int) + 1) h2 (by omega) hk (by rw [lf_drop]; omega) (fork_spl hu hq huq hc))
      rw [fork_end hu hq huq hc] at h3
      rw [op_sub hJ hs1 hs2]
      exact h3
    · have hz : drN A ((q : Int) + 1) 6 ≠ 0 := fun e => hc ((drN_zero hq 6 (Nat.le_refl _)).1 e)
      exact ⟨7, fun W h => (fork_st W t u q A V h hu hq huq hc).mono fun e w' ⟨he, hw⟩ => ⟨he, _, _, got_same hJ h (hw ▸ Below.refl _ _), fun W2 h2 => rt_same h2 (rfork_state _ _ h2 (by omega) hk (by rw [lf_drop]; omega))⟩⟩
  · exact ⟨1, fun W h => (fork_arg W (pq t) p c hk).mono fun e w' ⟨he, hw⟩ => ⟨he, _, _, got_same hJ h (hw ▸ Below.refl _ _), fun W2 h2 => rt_same h2 ((rfork_arg W2 r p c hk).mono fun e w' ⟨he, hw⟩ => ⟨he, hw ▸ Below.refl _ _⟩)⟩⟩
end Go.Proofs.Ytaapiffglfppnaa
