/- Lists of descriptors, plainly; no statement is proved in this text. -/
import Derived.Test.YtdgkajhlofpdeaaMp
namespace Go.Proofs.Ytdgkajhlofpdeaa
open Go.ChangeShapes Go.WideShapes Go.ChangeAt Go.RowKit Go.Deep


def lt2 (a b : K) : Prop := a.1 < b.1 ∨ (a.1 = b.1 ∧ a.2 < b.2)
theorem lt2_irr (a : K) : ¬ lt2 a a := by unfold lt2; omega
theorem lt2_asym {a b : K} (h : lt2 a b) : ¬ lt2 b a := by unfold lt2 at *; omega
theorem lt2_trans {a b c : K} (h : lt2 a b) (k : lt2 b c) : lt2 a c := by unfold lt2 at *; omega
theorem lt2_ne {a b : K} (h : lt2 a b) : a ≠ b := fun e => lt2_irr b (e ▸ h)
theorem lt2_three (a b : K) : lt2 a b ∨ a = b ∨ lt2 b a := by
  rcases a with ⟨a1, a2⟩
  rcases b with ⟨b1, b2⟩
  simp only [lt2, Prod.mk.injEq]
  omega
abbrev Srt (L : List En) : Prop := L.Pairwise fun a b => lt2 a.1 b.1
theorem sorted_ext : ∀ (L M : List En), Srt L → Srt M → (∀ e, e ∈ L ↔ e ∈ M) → L = M
  | [], M, _, _, h => by
    cases M with
    | nil => rfl
    | cons y M => exact absurd ((h y).2 (by simp)) (by simp)
  | x :: L, M, hL, hM, h => by
    cases M with
    | nil => exact absurd ((h x).1 (by simp)) (by simp)
    | cons y M =>
      rw [Srt, List.pairwise_cons] at hL hM
      have hxy : x = y := by
        rcases List.mem_cons.1 ((h x).1 (by simp)) with e | h1
        · exact e
        · rcases List.mem_cons.1 ((h y).2 (by simp)) with e | h2
          · exact e.symm
          · exact absurd (hL.1 y h2) (lt2_asym (hM.1 x h1))
      subst hxy
      rw [sorted_ext L M hL.2 hM.2 fun e => ?_]
      constructor
      · intro he
        rcases List.mem_cons.1 ((h e).1 (List.mem_cons_of_mem _ he)) with e' | h1
        · subst e'; exact absurd (hL.1 e he) (lt2_irr _)
        · exact h1
      · intro he
        rcases List.mem_cons.1 ((h e).2 (List.mem_cons_of_mem _ he)) with e' | h1
        · subst e'; exact absurd (hM.1 e he) (lt2_irr _)
        · exact h1
def opt (k : K) : Option Tr → List En
  | none => []
  | some t => [(k, t)]
/-- What a process has, by its slots, below a slot. -/
def ofK (S : St) (p : Int) : Nat → List En
  | 0 => []
  | k + 1 => ofK S p k ++ opt (p, (k : Int)) (S (p, (k : Int)))
theorem ofK_none (S : St) (p : Int) (k : Nat) (h : S (p, (k : Int)) = none) : ofK S p (k + 1) = ofK S p k := by simp [ofK, h, opt]
theorem ofK_some (S : St) (p : Int) (k : Nat) (t : Tr) (h : S (p, (k : Int)) = some t) : ofK S p (k + 1) = ofK S p k ++ [((p, (k : Int)), t)] := by simp [ofK, h, opt]
theorem ofK_len (S : St) (p : Int) (k : Nat) : (ofK S p k).length ≤ k := by
  induction k with
  | zero => simp [ofK]
  | succ k ih =>
    cases h : S (p, (k : Int)) with
    | none => rw [ofK_none S p k h]; omega
    | some t => rw [ofK_some S p k t h, List.length_append]; simp; omega
theorem mem_opt (k : K) (x : Option Tr) (e : En) : e ∈ opt k x ↔ e.1 = k ∧ x = some e.2 := by
  cases x with
  | none => simp [opt]
  | some t =>
    obtain ⟨e1, e2⟩ := e
    simp [opt]
    intro _
    exact eq_comm
theorem mem_ofK (S : St) (p : Int) (k : Nat) (e : En) : e ∈ ofK S p k ↔ ∃ j : Nat, j < k ∧ e.1 = (p, (j : Int)) ∧ S e.1 = some e.2 := by
  induction k with
  | zero => simp [ofK]
  | succ k ih =>
    rw [ofK, List.mem_append, ih, mem_opt]
    constructor
    · rintro (⟨j, hj, h1, h2⟩ | ⟨h1, h2⟩)
      · exact ⟨j, by omega, h1, h2⟩
      · exact ⟨k, by omega, h1, by rw [h1]; exact h2⟩
    · rintro ⟨j, hj, h1, h2⟩
      by_cases hk : j = k
      · subst hk
        exact .inr ⟨h1, by rw [← h1]; exact h2⟩
      · exact .inl ⟨j, by omega, h1, h2⟩
theorem srt_ofK (S : St) (p : Int) (k : Nat) : Srt (ofK S p k) := by
  induction k with
  | zero => simp [ofK, Srt]
  | succ k ih =>
    rw [ofK, Srt, List.pairwise_append]
    refine ⟨ih, ?_, fun a ha b hb => ?_⟩
    · cases S (p, (k : Int)) <;> simp [opt]
    · obtain ⟨j, hj, h1, _⟩ := (mem_ofK S p k a).1 ha
      obtain ⟨h2, _⟩ := (mem_opt _ _ b).1 hb
      rw [h1, h2]
      exact .inr ⟨rfl, by show (j : Int) < k; omega⟩
def allK (S : St) : Nat → List En
  | 0 => []
  | q + 1 => allK S q ++ ofK S ((q : Int) + 1) 6
theorem allK_len (S : St) (q : Nat) : (allK S q).length ≤ 6 * q := by
  induction q with
  | zero => simp [allK]
  | succ q ih =>
    have := ofK_len S ((q : Int) + 1) 6
    rw [allK, List.length_append]
    omega
theorem mem_allK (S : St) (q : Nat) (e : En) : e ∈ allK S q ↔ (1 ≤ e.1.1 ∧ e.1.1 ≤ q ∧ 0 ≤ e.1.2 ∧ e.1.2 ≤ 5) ∧ S e.1 = some e.2 := by
  induction q with
  | zero => simp [allK]; intros; omega
  | succ q ih =>
    rw [allK, List.mem_append, ih, mem_ofK]
    constructor
    · rintro (⟨h1, h2⟩ | ⟨j, hj, h1, h2⟩)
      · exact ⟨by push_cast; omega, h2⟩
      · refine ⟨?_, h2⟩
        rw [h1]
        simp only []
        push_cast
        omega
    · rintro ⟨h1, h2⟩
      by_cases hq : e.1.1 = (q : Int) + 1
      · refine .inr ⟨e.1.2.toNat, by omega, ?_, h2⟩
        obtain ⟨⟨e1, e3⟩, e2⟩ := e
        simp only [Prod.mk.injEq] at *
        push_cast at *
        omega
      · exact .inl ⟨by push_cast at h1; omega, h2⟩
theorem srt_allK (S : St) (q : Nat) : Srt (allK S q) := by
  induction q with
  | zero => simp [allK, Srt]
  | succ q ih =>
    rw [allK, Srt, List.pairwise_append]
    refine ⟨ih, srt_ofK _ _ _, fun a ha b hb => ?_⟩
    obtain ⟨h1, _⟩ := (mem_allK S q a).1 ha
    obtain ⟨j, hj, h2, _⟩ := (mem_ofK S _ 6 b).1 hb
    rw [h2]
    exact .inl (by show a.1.1 < (q : Int) + 1; omega)
abbrev lst (S : St) : List En := allK S 6
abbrev ofL (S : St) (p : Int) : List En := ofK S p 6
theorem lst_len (S : St) : (lst S).length ≤ 36 := allK_len S 6
/-- Places are of processes 1 to 6, slots 0 to 5. -/
def Ins (S : St) : Prop := ∀ k t, S k = some t → 1 ≤ k.1 ∧ k.1 ≤ 6 ∧ 0 ≤ k.2 ∧ k.2 ≤ 5
theorem mem_lst {S : St} (h : Ins S) (e : En) : e ∈ lst S ↔ S e.1 = some e.2 := by
  rw [mem_allK]
  constructor
  · exact fun h => h.2
  · intro he
    have := h _ _ he
    exact ⟨by push_cast; omega, he⟩
theorem lst_of {S : St} (h : Ins S) {L : List En} (hs : Srt L) (hm : ∀ e, e ∈ L ↔ S e.1 = some e.2) : L = lst S :=
  sorted_ext L _ hs (srt_allK S 6) fun e => (hm e).trans (mem_lst h e).symm
theorem mem_ofL {S : St} (h : Ins S) (p : Int) (e : En) : e ∈ ofL S p ↔ e.1.1 = p ∧ S e.1 = some e.2 := by
  rw [mem_ofK]
  constructor
  · rintro ⟨j, _, h1, h2⟩
    exact ⟨by rw [h1], h2⟩
  · rintro ⟨h1, h2⟩
    have := h _ _ h2
    refine ⟨e.1.2.toNat, by omega, ?_, h2⟩
    obtain ⟨⟨e1, e3⟩, e2⟩ := e
    simp only [Prod.mk.injEq] at *
    omega
theorem ofL_filter {S : St} (h : Ins S) (p : Int) : ofL S p = (lst S).filter fun e => decide (e.1.1 = p) := by
  refine sorted_ext _ _ (srt_ofK S p 6) ((srt_allK S 6).sublist List.filter_sublist) fun e => ?_
  rw [mem_ofL h, List.mem_filter, mem_lst h]
  simp [and_comm]
/-- A place in the middle. -/
theorem split_at {L : List En} (hs : Srt L) (x : K) (hx : ∀ e ∈ L, e.1 ≠ x) : ∃ A B, L = A ++ B ∧ (∀ e ∈ A, lt2 e.1 x) ∧ (∀ e ∈ B, lt2 x e.1) := by
  induction L with
  | nil => exact ⟨[], [], rfl, by simp, by simp⟩
  | cons y L ih =>
    rw [Srt, List.pairwise_cons] at hs
    rcases lt2_three y.1 x with h | h | h
    · obtain ⟨A, B, rfl, hA, hB⟩ := ih hs.2 fun e he => hx e (List.mem_cons_of_mem _ he)
      refine ⟨y :: A, B, rfl, fun e he => ?_, hB⟩
      rcases List.mem_cons.1 he with rfl | he
      · exact h
      · exact hA e he
    · exact absurd h (hx y (by simp))
    · refine ⟨[], y :: L, rfl, by simp, fun e he => ?_⟩
      rcases List.mem_cons.1 he with rfl | he
      · exact h
      · exact lt2_trans h (hs.1 e he)
theorem srt_mid {A B : List En} (hs : Srt (A ++ B)) (x : En) (hA : ∀ e ∈ A, lt2 e.1 x.1) (hB : ∀ e ∈ B, lt2 x.1 e.1) : Srt (A ++ x :: B) := by
  rw [Srt, List.pairwise_append] at hs ⊢
  refine ⟨hs.1, List.pairwise_cons.2 ⟨hB, hs.2.1⟩, fun a ha b hb => ?_⟩
  rcases List.mem_cons.1 hb with rfl | hb
  · exact hA a ha
  · exact hs.2.2 a ha b hb
theorem Ins.upd {S : St} (h : Ins S) (k : K) (t : Tr) (hk : 1 ≤ k.1 ∧ k.1 ≤ 6 ∧ 0 ≤ k.2 ∧ k.2 ≤ 5) : Ins (upd S k (some t)) := fun j u hj => by
  rcases upd_some hj with ⟨rfl, _⟩ | ⟨_, hj⟩
  · exact hk
  · exact h _ _ hj
theorem Ins.del {S : St} (h : Ins S) (k : K) : Ins (Ytdgkajhlofpdeaa.upd S k none) := fun _ _ hj => h _ _ (upd_none hj).2
theorem ins_no : Ins noSt := fun _ _ h => by cases h
/-- One more, in its place. -/
theorem lst_put {S : St} (h : Ins S) (k : K) (t : Tr) (hk : 1 ≤ k.1 ∧ k.1 ≤ 6 ∧ 0 ≤ k.2 ∧ k.2 ≤ 5) (hn : S k = none) : ∃ A B, lst S = A ++ B ∧ lst (upd S k (some t)) = A ++ (k, t) :: B ∧ (∀ e ∈ A, lt2 e.1 k) ∧ (∀ e ∈ B, lt2 k e.1) := by
  obtain ⟨A, B, hL, hA, hB⟩ := split_at (srt_allK S 6) k (fun e he hk' => by
    have := (mem_lst h e).1 he
    rw [hk', hn] at this
    cases this)
  have hs : Srt (A ++ B) := hL ▸ srt_allK S 6
  refine ⟨A, B, hL, ?_, hA, hB⟩
  refine (lst_of (h.upd k t hk) (srt_mid hs (k, t) hA hB) fun e => ?_).symm
  have hm : e ∈ A ++ B ↔ S e.1 = some e.2 := by rw [← hL]; exact mem_lst h e
  rw [List.mem_append] at hm
  rw [List.mem_append, List.mem_cons]
  constructor
  · rintro (he | rfl | he)
    · have := hm.1 (.inl he)
      rw [upd_other _ _ _ _ (lt2_ne (hA e he))]
      exact this
    · exact upd_same _ _ _
    · have := hm.1 (.inr he)
      rw [upd_other _ _ _ _ (Ne.symm (lt2_ne (hB e he)))]
      exact this
  · intro he
    rcases upd_some he with ⟨h1, h2⟩ | ⟨_, h2⟩
    · exact .inr (.inl (Prod.ext h1 h2))
    · rcases hm.2 h2 with h3 | h3
      · exact .inl h3
      · exact .inr (.inr h3)
/-- Those that are left. -/
theorem lst_left {S S' : St} (h : Ins S) (f : En → Bool) (hS : ∀ k t, S' k = some t ↔ (S k = some t ∧ f (k, t) = true)) : lst S' = (lst S).filter f := by
  have h' : Ins S' := fun k t hk => h k t ((hS k t).1 hk).1
  refine (lst_of h' ((srt_allK S 6).sublist List.filter_sublist) fun e => ?_).symm
  rw [List.mem_filter, mem_lst h]
  exact (hS e.1 e.2).symm
/-- Where one stands. -/
theorem lst_at {S : St} (h : Ins S) (k : K) (t : Tr) (hk : S k = some t) : ∃ i : Nat, ∃ hi : i < (lst S).length, (lst S)[i] = (k, t) ∧ ∀ (j : Nat) (hj : j < i), (lst S)[j].1 ≠ k := by
  obtain ⟨i, hi, he⟩ := List.getElem_of_mem ((mem_lst h (k, t)).2 hk)
  refine ⟨i, hi, he, fun j hj hjk => ?_⟩
  have := List.pairwise_iff_getElem.1 (srt_allK S 6) j i (Nat.lt_trans hj hi) hi hj
  rw [he] at this
  exact lt2_ne this hjk
theorem lst_set {S : St} (h : Ins S) (k : K) (t u : Tr) (i : Nat) (hi : i < (lst S).length) (he : (lst S)[i] = (k, t)) (hk : S k = some t) : lst (upd S k (some u)) = (lst S).set i (k, u) := by
  have hs := srt_allK S 6
  refine (lst_of (h.upd k u (h k t hk)) ?_ fun e => ?_).symm
  · rw [Srt, List.pairwise_iff_getElem]
    intro a c ha hc hac
    have ha' : a < (lst S).length := by simpa using ha
    have hc' : c < (lst S).length := by simpa using hc
    have := List.pairwise_iff_getElem.1 hs a c ha' hc' hac
    rw [List.getElem_set, List.getElem_set]
    split
    · rename_i hia
      subst hia
      rw [if_neg (by omega)]
      rw [he] at this
      exact this
    · split
      · rename_i hic
        subst hic
        rw [he] at this
        exact this
      · exact this
  · constructor
    · intro hm
      obtain ⟨j, hj, hje⟩ := List.getElem_of_mem hm
      have hj' : j < (lst S).length := by simpa using hj
      rw [List.getElem_set] at hje
      split at hje
      · subst hje
        exact upd_same _ _ _
      · rename_i hne
        have hme : S e.1 = some e.2 := (mem_lst h e).1 (hje ▸ List.getElem_mem hj')
        rw [upd_other _ _ _ _ (fun hek => ?_)]
        · exact hme
        · rcases Nat.lt_or_gt_of_ne hne with hlt | hlt
          · have := List.pairwise_iff_getElem.1 hs i j hi hj' hlt
            rw [he, hje] at this
            exact lt2_ne this hek.symm
          · have := List.pairwise_iff_getElem.1 hs j i hj' hi hlt
            rw [he, hje] at this
            exact lt2_ne this hek
    · intro hu
      rcases upd_some hu with ⟨h1, h2⟩ | ⟨hne, h2⟩
      · have : e = (k, u) := Prod.ext h1 h2
        rw [this, List.mem_iff_getElem]
        exact ⟨i, by simpa using hi, by simp⟩
      · obtain ⟨j, hj, hje⟩ := List.getElem_of_mem ((mem_lst h e).2 h2)
        rw [List.mem_iff_getElem]
        have hij : i ≠ j := fun hij => by
          subst hij
          rw [he] at hje
          exact hne (by rw [← hje])
        exact ⟨j, by simpa using hj, by rw [List.getElem_set_ne hij]; exact hje⟩
end Go.Proofs.Ytdgkajhlofpdeaa
