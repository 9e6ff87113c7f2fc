/- The document's pipes in memory: At, wrong; its lists, plain; no statement is proved in this text. -/
import Derived.Test.YtojhmiggocommaaLo
namespace Go.Proofs.Ytojhmiggocommaa
open Go.ChangeShapes Go.WideShapes Go.ChangeAt Go.RowKit Go.Deep
attribute [local go_sem ↓] Go.wp_at_zero Go.wp_at_succ

/-- The document's pipes. -/
structure Rb (w : World) (base r : Nat) (L : List In) : Prop where
  lo : base ≤ r
  own : ∃ v, w.heap[r]? = some (.cells #[v] 30) ∧ w.ownsRow base 47 2 v L.length (icn L)
theorem Rb.same {w w' : World} {base r : Nat} {L : List In} (h : Rb w base r L) (hk : ∀ (k : Nat) (C : Array Value) (t : TypeId), w.heap[k]? = some (.cells C t) → (t = 30 ∨ t = 47) → w'.heap[k]? = some (.cells C t)) : Rb w' base r L := by
  obtain ⟨v, h1, h2⟩ := h.own
  exact ⟨h.lo, v, hk _ _ 30 h1 (.inl rfl), own_keep h2 (fun k C hC => hk k _ 47 hC (.inr rfl))⟩
theorem Rb.below {w w' : World} {base r : Nat} {L : List In} (h : Rb w base r L) (hb : Below w.heap.size w w') : Rb w' base r L :=
  h.same (fun _ _ _ hk _ => blk_below hk hb)
theorem Rb.fr {w w' : World} {base r : Nat} {L : List In} {b : Nat} {ts : List TypeId} (h : Rb w base r L) (hb : Fr b ts w w') (h1 : ts.contains 30 = false) (h2 : ts.contains 47 = false) : Rb w' base r L :=
  h.same (fun k C t hk ht => hb.kept k _ hk (by rcases ht with rfl | rfl <;> simp only [keeps, h1, h2, Bool.not_false]))
theorem Rb.lt {w : World} {base r : Nat} {L : List In} (h : Rb w base r L) : r < w.heap.size := by
  obtain ⟨v, h1, _⟩ := h.own
  exact blk_lt h1
theorem Rb.los {w : World} {base r : Nat} {L : List In} (h : Rb w base r L) : base ≤ w.heap.size := by have := h.lt; have := h.lo; omega
/-- The value, and the cells of its row. -/
theorem Rb.row {w : World} {base r : Nat} {L : List In} (h : Rb w base r L) : ∃ ao cap, w.heap[r]? = some (.cells #[.slice ao L.length cap] 30) ∧ w.ownsRow base 47 2 (.slice ao L.length cap) L.length (icn L) ∧ L.length ≤ cap ∧ ∀ i p, L[i]? = some p → ∃ g, ao = some ⟨g, 0, none⟩ ∧ base ≤ g ∧ g < w.heap.size ∧ g ≠ r ∧ w.cell? ⟨g, i * 2, none⟩ = some (i64 p.1) ∧ w.cell? ⟨g, i * 2 + 1, none⟩ = some (str p.2) ∧ ∀ j, w.frozen? ⟨g, j, none⟩ = false := by
  obtain ⟨v, h1, h2⟩ := h.own
  obtain ⟨ao, cap, rfl, _⟩ := own_slice h2
  refine ⟨ao, cap, h1, h2, ?_, fun i p hp => ?_⟩
  · rcases h2.2 with ⟨_, h0⟩ | ⟨g, cap', cur, he, hbg, hgg, hc, _⟩
    · omega
    · simp only [Value.slice.injEq] at he
      obtain ⟨_, _, rfl⟩ := he
      exact hc
  have hi : i < L.length := (List.getElem?_eq_some_iff.1 hp).1
  rcases h2.2 with ⟨_, h0⟩ | ⟨g, cap', cur, he, hbg, hgg, _⟩
  · omega
  · simp only [Value.slice.injEq] at he
    obtain ⟨rfl, _, rfl⟩ := he
    refine ⟨g, rfl, hbg, blk_lt hgg, fun e => ?_, ?_, ?_, fun j => blk_frozen hgg j⟩
    · rw [e, h1] at hgg; simp at hgg
    · rw [h2.cellAt _ (by omega), (icn_get L i p hp).1]
    · rw [h2.cellAt _ (by omega), (icn_get L i p hp).2]
theorem under28 : Try.prog.underlying 28 = some (.slice 47) := by kernel_rfl
theorem info47x : (Try.prog.info? 47).map (fun i => (i.zero, i.size, i.bytes)) = some (some (.agg #[i64 0, .string ⟨#[]⟩]), 2, 24) := by kernel_rfl
abbrev inO (p : In) : Obj := .cells #[i64 p.1, str p.2] 47
/-- Where a number stands. -/
def posF : List In → Int → Nat → Int
  | [], _, _ => -1
  | p :: r, id, k => if p.1 = id then k else posF r id (k + 1)
theorem posF_lt (L : List In) (id : Int) (k : Nat) : posF L id k < k + L.length ∧ -1 ≤ posF L id k := by
  induction L generalizing k with
  | nil => simp [posF]; omega
  | cons p r ih =>
    have := ih (k + 1)
    unfold posF
    split
    · simp; omega
    · simp; omega
set_option maxRecDepth 100000 in
set_option maxHeartbeats 3200000 in
theorem rat_ok {w : World} {base r : Nat} {L : List In} (h : Rb w base r L) (hl : L.length ≤ 12) (n : Int) : Calls Try.prog 31 #[pq r, i64 n] w fun e w' => e = .returned (i64 (posF L n 0)) ∧ Below w.heap.size w w' := by
  obtain ⟨ao, cap, hbk, hown, hcap, _⟩ := h.row
  have HR : Hid (Rb w base r L) := h
  have b0 : w.cell? ⟨r, 0, none⟩ = some (.slice ao L.length cap) := blk_cell hbk 0
  have HK : Hid (w.heap[r]? = some (.cells #[.slice ao L.length cap] 30)) := hbk
  obtain ⟨N, hN⟩ : ∃ N, N = L.length := ⟨_, rfl⟩
  have HN : Hid (N = L.length) := hN
  rw [← hN] at b0 hl hcap
  have hcI : (N : Int) ≤ cap := by omega
  have hNI : (N : Int) ≤ 12 := by omega
  obtain ⟨A, hA⟩ : ∃ A, A = posF L n 0 := ⟨_, rfl⟩
  have HA := hid hA
  rw [← hA]
  clear h hbk hown hN hA
  go_enter Try.func31, Try.ntmps31
  go_wp2_with fail
  go_loopw [5, 12] (fun _ i wr => ∃ k : Nat, k ≤ N ∧ i = i64 k ∧ Hid (A = posF (L.drop k) n k) ∧ Hid (Below w.heap.size w wr)) (fun _ i _ => N - (intOf i).toNat)
  case atStart => exact ⟨0, by omega, rfl, HA, Below.refl _ _⟩
  case round =>
    obtain ⟨k, hk, rfl, HP, HB⟩ := hrel
    by_cases hlt : k < N
    · have hlt2 : k < L.length := by rw [← HN.out]; exact hlt
      obtain ⟨p, hp⟩ : ∃ p, L[k]? = some p := ⟨_, List.getElem?_eq_getElem hlt2⟩
      have hdrop : L.drop k = p :: L.drop (k + 1) := by
        rw [List.drop_eq_getElem_cons hlt2]
        rw [List.getElem?_eq_getElem hlt2] at hp
        cases hp
        rfl
      have hP := HP.out
      rw [hdrop, posF] at hP
      obtain ⟨ao', cap', hbk', hown', hcap', hrow⟩ := (HR.out.below HB.out).row
      have hs := (blk_below HK.out HB.out).symm.trans hbk'
      simp only [Option.some.injEq, Obj.cells.injEq, Array.mk.injEq, List.cons.injEq, Value.slice.injEq, true_and, and_true] at hs
      obtain ⟨rfl, rfl⟩ := hs
      obtain ⟨g, rfl, hbg, hgl, _, c0, c1, _⟩ := hrow k p hp
      have HBV : Hid (Below w.heap.size w (wr.alloc (inO p))) := HB.out.alloc HB.out.size _
      clear hrow hp hbk' hown' hdrop
      by_cases he : p.1 = n
      · have hq : (p.1 == n) = true := by simpa using he
        rw [if_pos he] at hP
        have HE := hid hP
        clear he hP
        go_wp2_with fail
        go_ret
        exact ⟨by rw [HE.out]; rfl, HBV.out⟩
      · have hq : (p.1 == n) = false := by simpa using he
        rw [if_neg he] at hP
        have HE : Hid (A = posF (L.drop (k + 1)) n (k + 1)) := hP
        clear he hP
        go_wp2_with fail
        exact ⟨⟨k + 1, by omega, by go_num, HE, HBV⟩, by simp [intOf]; omega⟩
    · have HE : Hid (A = -1) := by
        rw [HP.out, List.drop_of_length_le (by rw [← HN.out]; omega)]
        rfl
      go_wp2_with fail
      go_ret
      exact ⟨by rw [HE.out]; rfl, HB.out⟩
/-! ### The list of a state, plain -/
theorem lst_eq (S : St) : lst S = (match S 0 with | none => [] | some D => [((0 : Int), D)]) ++ (match S 1 with | none => [] | some D => [((1 : Int), D)]) ++ (match S 2 with | none => [] | some D => [((2 : Int), D)]) := by
  simp only [lst, lstK]
  rfl
theorem lst_len (S : St) : (lst S).length ≤ 3 := lstK_le S 3
theorem three_cases {i : Nat} (h : i < 3) : i = 0 ∨ i = 1 ∨ i = 2 := by omega
theorem pos_none (S : St) (i : Nat) (hi : i < 3) (h : S i = none) : posF (lst S) i 0 = -1 := by
  rw [lst_eq]
  obtain rfl | rfl | rfl := three_cases hi
  all_goals (cases h0 : S 0 <;> cases h1 : S 1 <;> cases h2 : S 2 <;> simp_all [posF])
theorem pos_some (S : St) (i : Nat) (D : List UInt8) (hi : i < 3) (h : S i = some D) : ∃ k : Nat, posF (lst S) i 0 = k ∧ (lst S)[k]? = some ((i : Int), D) ∧ ∀ E, lst (upd S i (some E)) = (lst S).set k ((i : Int), E) := by
  rw [lst_eq]
  obtain rfl | rfl | rfl := three_cases hi
  · refine ⟨0, ?_, ?_, fun E => ?_⟩
    · rw [h]; simp [posF]
    · rw [h]; rfl
    · rw [lst_eq, upd_same, upd_other _ _ _ _ (by decide), upd_other _ _ _ _ (by decide), h]; rfl
  · cases h0 : S 0 with
    | none =>
      refine ⟨0, ?_, ?_, fun E => ?_⟩
      · rw [h]; simp [posF]
      · rw [h]; rfl
      · rw [lst_eq, upd_same, upd_other _ _ _ _ (by decide), upd_other _ _ _ _ (by decide), h, h0]; rfl
    | some F =>
      refine ⟨1, ?_, ?_, fun E => ?_⟩
      · rw [h]; simp [posF]
      · rw [h]; rfl
      · rw [lst_eq, upd_same, upd_other _ _ _ _ (by decide), upd_other _ _ _ _ (by decide), h, h0]; rfl
  · cases h0 : S 0 <;> cases h1 : S 1
    · refine ⟨0, ?_, ?_, fun E => ?_⟩
      · rw [h]; simp [posF]
      · rw [h]; rfl
      · rw [lst_eq, upd_same, upd_other _ _ _ _ (by decide), upd_other _ _ _ _ (by decide), h, h0, h1]; rfl
    · refine ⟨1, ?_, ?_, fun E => ?_⟩
      · rw [h]; simp [posF]
      · rw [h]; rfl
      · rw [lst_eq, upd_same, upd_other _ _ _ _ (by decide), upd_other _ _ _ _ (by decide), h, h0, h1]; rfl
    · refine ⟨1, ?_, ?_, fun E => ?_⟩
      · rw [h]; simp [posF]
      · rw [h]; rfl
      · rw [lst_eq, upd_same, upd_other _ _ _ _ (by decide), upd_other _ _ _ _ (by decide), h, h0, h1]; rfl
    · refine ⟨2, ?_, ?_, fun E => ?_⟩
      · rw [h]; simp [posF]
      · rw [h]; rfl
      · rw [lst_eq, upd_same, upd_other _ _ _ _ (by decide), upd_other _ _ _ _ (by decide), h, h0, h1]; rfl
theorem pos_three (S : St) : posF (lst S) 3 0 = -1 := by
  rw [lst_eq]
  cases h0 : S 0 <;> cases h1 : S 1 <;> cases h2 : S 2 <;> simp [posF]
theorem lst_close (S : St) (i : Nat) (hi : i < 3) : (lst S).filter (fun p => p.1 != (i : Int)) = lst (upd S i none) := by
  rw [lst_eq, lst_eq]
  obtain rfl | rfl | rfl := three_cases hi
  all_goals
    rw [upd_same, upd_other _ _ _ _ (by decide), upd_other _ _ _ _ (by decide)]
    cases h0 : S 0 <;> cases h1 : S 1 <;> cases h2 : S 2 <;> simp
theorem lst_open (S : St) (i : Nat) (hi : i < 3) (h : S i = none) : (lst S).filter (fun p => decide (p.1 < (i : Int))) ++ [((i : Int), [])] ++ (lst S).filter (fun p => decide ((i : Int) < p.1)) = lst (upd S i (some [])) := by
  rw [lst_eq, lst_eq]
  obtain rfl | rfl | rfl := three_cases hi
  all_goals
    rw [upd_same, upd_other _ _ _ _ (by decide), upd_other _ _ _ _ (by decide)]
    cases h0 : S 0 <;> cases h1 : S 1 <;> cases h2 : S 2 <;> simp_all
end Go.Proofs.Ytojhmiggocommaa
