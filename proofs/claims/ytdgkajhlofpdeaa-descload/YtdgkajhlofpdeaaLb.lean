/- Right states; what Fork leaves; places; no statement is proved in this text. -/
import Derived.Test.YtdgkajhlofpdeaaSm
namespace Go.Proofs.Ytdgkajhlofpdeaa
open Go.ChangeShapes Go.WideShapes Go.ChangeAt Go.RowKit Go.Deep
attribute [local go_sem ↓] Go.wp_at_zero Go.wp_at_succ


theorem zero29 (w : World) : (zeroValue 29).run Try.prog w = .ok (.agg #[.slice none 0 0]) w := by kernel_rfl
theorem lst_no : lst noSt = [] := by
  have : ∀ p, ofK noSt p 6 = [] := fun p => by simp [ofK, noSt, opt]
  simp [lst, allK, this]
theorem rb_new (w : World) (b : Nat) (hb : b ≤ w.heap.size) : Rb (w.alloc (.cells #[.slice none 0 0] 29)) b w.heap.size (lst noSt) := by
  rw [lst_no]
  exact ⟨hb, none, 0, heap_last w _, World.ownsRow_nil _ _ 42 5⟩
/-- Every descriptor is right. -/
def Rgt (S : St) : Prop := ∀ k t, S k = some t → RightP k.1 k.2 t.1 t.2.1 t.2.2
theorem rgt_no : Rgt noSt := fun _ _ h => by cases h
theorem right_mv {p s a b c p' s' : Int} (h : RightP p s a b c) (hp : 1 ≤ p' ∧ p' ≤ 6) (hs : 0 ≤ s' ∧ s' ≤ 5) : RightP p' s' a b c := by
  unfold RightP at *
  omega
theorem Rgt.upd {S : St} (h : Rgt S) (k : K) (t : Tr) (hk : RightP k.1 k.2 t.1 t.2.1 t.2.2) : Rgt (upd S k (some t)) := fun j u hj => by
  rcases upd_some hj with ⟨rfl, rfl⟩ | ⟨_, hj⟩
  · exact hk
  · exact h _ _ hj
theorem right_rng {p s a b c : Int} (h : RightP p s a b c) : 1 ≤ p ∧ p ≤ 6 ∧ 0 ≤ s ∧ s ≤ 5 := by unfold RightP at h; omega
theorem Rgt.ins {S : St} (h : Rgt S) : Ins S := fun k t hk => right_rng (h k t hk)
theorem Rgt.st {S : St} (h : Rgt S) {p s : Int} {t : Tr} (ht : RightP p s t.1 t.2.1 t.2.2) : Rgt (stS S p t) := by
  unfold stS
  have := right_rng ht
  split
  · exact h.upd _ _ (right_mv ht ⟨this.1, this.2.1⟩ ⟨by omega, by omega⟩)
  · exact h
theorem Rgt.stp {S : St} (h : Rgt S) (x : Sp) : Rgt (stp S x) := by
  unfold Ytdgkajhlofpdeaa.stp
  split
  · unfold addS
    split
    · rename_i hr
      exact h.st (of_decide_eq_true hr)
    · exact h
  split
  · unfold seekS
    rcases hS : S (x.pid, x.slot) with _ | t
    · exact h
    · simp only []
      split
      · rename_i hr
        exact h.upd _ _ (of_decide_eq_true hr)
      · exact h
  split
  · unfold dupS
    rcases hS : S (x.pid, x.slot) with _ | t
    · exact h
    · exact h.st (h _ _ hS)
  split
  · unfold clsS
    split
    · exact fun k t hk => h k t (upd_none hk).2
    · exact h
  split
  · have hI := h.ins
    unfold forkS
    split
    · rename_i hE
      have hc : 1 ≤ x.n ∧ x.n ≤ 6 := by
        unfold forkE at hE
        split at hE
        · rename_i h1
          exact of_decide_eq_true h1.2.1
        · cases hE
      have : ∀ (l : List En) (S : St), Rgt S → (∀ e ∈ l, RightP e.1.1 e.1.2 e.2.1 e.2.2.1 e.2.2.2) → Rgt (forkL x.n l S) := by
        intro l
        induction l with
        | nil => exact fun S h _ => h
        | cons y l ih =>
          intro S h hl
          have e1 : forkL x.n (y :: l) S = forkL x.n l (Ytdgkajhlofpdeaa.upd S (x.n, y.1.2) (some y.2)) := rfl
          rw [e1]
          have hy := hl y (by simp)
          have := right_rng hy
          exact ih _ (h.upd _ _ (right_mv hy hc ⟨this.2.2.1, this.2.2.2⟩)) fun e he => hl e (List.mem_cons_of_mem _ he)
      exact this _ S h fun e he => h _ _ ((mem_ofL hI x.pid e).1 he).2
    · exact h
  split
  · exact fun k t hk => h k t ((drpS_some h.ins x.pid k t).1 hk).1
  · exact h
/-! ### What Fork leaves -/
theorem forkL_val (c : Int) (l : List En) (S : St) (s : Int) (t : Tr) (h : forkL c l S (c, s) = some t) : S (c, s) = some t ∨ ∃ e ∈ l, e.1.2 = s ∧ e.2 = t := by
  induction l generalizing S with
  | nil => exact .inl h
  | cons x l ih =>
    have e1 : forkL c (x :: l) S = forkL c l (upd S (c, x.1.2) (some x.2)) := rfl
    rw [e1] at h
    rcases ih _ h with h | ⟨e, he, h1, h2⟩
    · rcases upd_some h with ⟨h1, h2⟩ | ⟨_, h1⟩
      · exact .inr ⟨x, by simp, (congrArg Prod.snd h1).symm, h2.symm⟩
      · exact .inl h1
    · exact .inr ⟨e, List.mem_cons_of_mem _ he, h1, h2⟩
theorem forkL_stay (c : Int) (l : List En) (S : St) (k : K) (h : S k ≠ none) : forkL c l S k ≠ none := by
  induction l generalizing S with
  | nil => exact h
  | cons x l ih =>
    have e1 : forkL c (x :: l) S = forkL c l (upd S (c, x.1.2) (some x.2)) := rfl
    rw [e1]
    refine ih _ ?_
    by_cases hk : k = (c, x.1.2)
    · rw [hk, upd_same]; simp
    · rw [upd_other _ _ _ _ hk]; exact h
theorem forkL_has (c : Int) (l : List En) (S : St) (e : En) (he : e ∈ l) : forkL c l S (c, e.1.2) ≠ none := by
  induction l generalizing S with
  | nil => cases he
  | cons x l ih =>
    have e1 : forkL c (x :: l) S = forkL c l (upd S (c, x.1.2) (some x.2)) := rfl
    rw [e1]
    rcases List.mem_cons.1 he with rfl | he
    · exact forkL_stay c l _ _ (by rw [upd_same]; simp)
    · exact ih _ he
theorem forkL_far (c : Int) (l : List En) (S : St) (k : K) (h : k.1 ≠ c) : forkL c l S k = S k := by
  induction l generalizing S with
  | nil => rfl
  | cons x l ih =>
    have e1 : forkL c (x :: l) S = forkL c l (upd S (c, x.1.2) (some x.2)) := rfl
    rw [e1, ih, upd_other _ _ _ _ (fun e => h (by rw [e]))]
theorem forkE_zero {S : St} {p c : Int} (h : forkE S p c = 0) : p ≠ c ∧ (ofL S c).length = 0 := by
  unfold forkE at h
  split at h
  · rename_i h1
    split at h
    · rename_i h2
      exact ⟨h1.2.2, h2⟩
    · cases h
  · cases h
theorem fork_get {S : St} (hI : Ins S) {p c : Int} (h : forkE S p c = 0) (s : Int) : forkS S p c (p, s) = S (p, s) ∧ forkS S p c (c, s) = S (p, s) := by
  obtain ⟨hpc, h0⟩ := forkE_zero h
  unfold forkS
  rw [if_pos h]
  refine ⟨forkL_far c _ S (p, s) hpc, ?_⟩
  have back : ∀ t, forkL c (ofL S p) S (c, s) = some t → S (p, s) = some t := fun t ht => by
    rcases forkL_val c _ S s t ht with h1 | ⟨e, he, h1, h2⟩
    · exact absurd h1 (none_of hI c h0 s t)
    · obtain ⟨h3, h4⟩ := (mem_ofL hI p e).1 he
      rw [← h2, ← h4]
      congr 1
      exact (Prod.ext h3 h1).symm
  cases hx : forkL c (ofL S p) S (c, s) with
  | some t => exact (back t hx).symm
  | none =>
    cases hy : S (p, s) with
    | none => rfl
    | some t => exact absurd hx (forkL_has c _ S ((p, s), t) ((mem_ofL hI p _).2 ⟨rfl, hy⟩))
/-! ### Places -/
theorem free_none {S : St} {p : Int} (h : free S p < 6) : S (p, (free S p : Int)) = none := by
  by_cases h0 : S (p, 0) = none
  · have : free S p = 0 := by unfold free; rw [if_pos h0]
    rw [this]; exact h0
  by_cases h1 : S (p, 1) = none
  · have : free S p = 1 := by unfold free; rw [if_neg h0, if_pos h1]
    rw [this]; exact h1
  by_cases h2 : S (p, 2) = none
  · have : free S p = 2 := by unfold free; rw [if_neg h0, if_neg h1, if_pos h2]
    rw [this]; exact h2
  by_cases h3 : S (p, 3) = none
  · have : free S p = 3 := by unfold free; rw [if_neg h0, if_neg h1, if_neg h2, if_pos h3]
    rw [this]; exact h3
  by_cases h4 : S (p, 4) = none
  · have : free S p = 4 := by unfold free; rw [if_neg h0, if_neg h1, if_neg h2, if_neg h3, if_pos h4]
    rw [this]; exact h4
  by_cases h5 : S (p, 5) = none
  · have : free S p = 5 := by unfold free; rw [if_neg h0, if_neg h1, if_neg h2, if_neg h3, if_neg h4, if_pos h5]
    rw [this]; exact h5
  exfalso
  have : free S p = 6 := by unfold free; rw [if_neg h0, if_neg h1, if_neg h2, if_neg h3, if_neg h4, if_neg h5]
  omega
theorem st_stay (S : St) (p : Int) (t u : Tr) (k : K) (h : S k = some u) : stS S p t k = some u := by
  unfold stS
  split
  · rename_i hf
    rw [upd_other _ _ _ _ (fun e => by rw [e, free_none hf] at h; cases h)]
    exact h
  · exact h
theorem stp_places {S : St} (hI : Ins S) (x : Sp) (k : K) (u : Tr) (h : S k = some u) : stp S x k = some u ∨ (x.what = 3 ∧ x.pid = k.1 ∧ x.slot = k.2 ∧ (stp S x k).isSome) ∨ (stp S x k = none ∧ x.what = 5 ∧ x.pid = k.1 ∧ x.slot = k.2) ∨ (stp S x k = none ∧ x.what = 7 ∧ x.pid = k.1) := by
  unfold stp
  split
  · left
    unfold addS
    split
    · exact st_stay _ _ _ _ _ h
    · exact h
  split
  · rename_i h3
    unfold seekS
    rcases hS : S (x.pid, x.slot) with _ | t
    · exact .inl h
    · simp only []
      split
      · by_cases hk : k = (x.pid, x.slot)
        · right; left
          subst hk
          exact ⟨h3, rfl, rfl, by rw [upd_same]; rfl⟩
        · left
          rw [upd_other _ _ _ _ hk]
          exact h
      · exact .inl h
  split
  · left
    unfold dupS
    rcases hS : S (x.pid, x.slot) with _ | t
    · exact h
    · exact st_stay _ _ _ _ _ h
  split
  · rename_i h5
    unfold clsS
    split
    · by_cases hk : k = (x.pid, x.slot)
      · right; right; left
        subst hk
        exact ⟨upd_same _ _ _, h5, rfl, rfl⟩
      · left
        rw [upd_other _ _ _ _ hk]
        exact h
    · exact .inl h
  split
  · left
    unfold forkS
    split
    · rename_i hE
      obtain ⟨_, h0⟩ := forkE_zero hE
      rw [forkL_far x.n _ S k (fun e => none_of hI x.n h0 k.2 u (by rw [← e]; exact h))]
      exact h
    · exact h
  split
  · rename_i h7
    by_cases hp : x.pid = k.1
    · right; right; right
      refine ⟨?_, h7, hp⟩
      cases hd : drpS S x.pid k with
      | none => rfl
      | some t =>
        have := ((drpS_some hI x.pid k t).1 hd).2
        have := of_decide_eq_true this
        rcases this with h1 | h1
        · exact absurd hp.symm h1
        · omega
    · left
      exact (drpS_some hI x.pid k u).2 ⟨h, decide_eq_true (.inl (fun e => hp e.symm))⟩
  · exact .inl h
/-! ### What is loaded again -/
theorem ldF_spec (L : List En) (S0 : St) (hs : Srt L) (hr : ∀ e ∈ L, RightP e.1.1 e.1.2 e.2.1 e.2.2.1 e.2.2.2) (h0 : ∀ e ∈ L, S0 e.1 = none) : ∃ S1, ldF S0 L = some S1 ∧ ∀ k t, S1 k = some t ↔ (S0 k = some t ∨ (k, t) ∈ L) := by
  induction L generalizing S0 with
  | nil => exact ⟨S0, rfl, fun k t => by simp⟩
  | cons x L ih =>
    rw [Srt, List.pairwise_cons] at hs
    obtain ⟨S1, h1, h2⟩ := ih (upd S0 x.1 (some x.2)) hs.2 (fun e he => hr e (List.mem_cons_of_mem _ he)) fun e he => by
      rw [upd_other _ _ _ _ (Ne.symm (lt2_ne (hs.1 e he)))]
      exact h0 e (List.mem_cons_of_mem _ he)
    refine ⟨S1, ?_, fun k t => ?_⟩
    · rw [ldF, h0 x (by simp), if_neg (by simp), if_pos (show rightF _ _ _ _ _ = true from decide_eq_true (hr x (by simp)))]
      exact h1
    · rw [h2, List.mem_cons]
      constructor
      · rintro (h | h)
        · rcases upd_some h with ⟨rfl, rfl⟩ | ⟨_, h⟩
          · exact .inr (.inl rfl)
          · exact .inl h
        · exact .inr (.inr h)
      · rintro (h | h | h)
        · left
          rw [upd_other _ _ _ _ (fun e => by rw [e, h0 x (by simp)] at h; cases h)]
          exact h
        · left
          rw [← h]
          exact upd_same _ _ _
        · exact .inr h
theorem ldF_lst {S : St} (h : Rgt S) : ldF noSt (lst S) = some S := by
  obtain ⟨S1, h1, h2⟩ := ldF_spec (lst S) noSt (srt_allK S 6) (fun e he => h _ _ ((mem_lst h.ins e).1 he)) fun _ _ => rfl
  rw [h1]
  congr 1
  funext k
  apply Option.ext
  intro t
  rw [h2, mem_lst h.ins]
  constructor
  · rintro (h | h)
    · cases h
    · exact h
  · exact .inr
end Go.Proofs.Ytdgkajhlofpdeaa
