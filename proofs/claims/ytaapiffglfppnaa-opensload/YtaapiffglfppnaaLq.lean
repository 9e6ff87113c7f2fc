/- What a table is that was loaded; no statement is proved in this text. -/
import Derived.Test.YtaapiffglfppnaaNa
import Derived.Test.YtaapiffglfppnaaRg
import Derived.Test.YtaapiffglfppnaaPb
namespace Go.Proofs.Ytaapiffglfppnaa
open Go.ChangeShapes Go.WideShapes Go.ChangeAt Go.RowKit Go.Deep

theorem pw_take {α : Type} {R : α → α → Prop} : ∀ {L : List α} {k : Nat} {x : α}, L.Pairwise R → L[k]? = some x → ∀ y ∈ L.take k, R y x
  | [], _, _, _, h, _, _ => by simp at h
  | z :: L, 0, _, _, _, y, hy => by simp at hy
  | z :: L, k + 1, x, hp, h, y, hy => by
    rw [List.pairwise_cons] at hp
    rw [List.take_succ_cons] at hy
    rcases List.mem_cons.1 hy with rfl | hy
    · exact hp.1 x (List.mem_of_getElem? (by simpa using h))
    · exact pw_take hp.2 (by simpa using h) y hy
theorem pw_all {α : Type} {R : α → α → Prop} : ∀ {L : List α}, (∀ k x, L[k]? = some x → ∀ y ∈ L.take k, R y x) → L.Pairwise R
  | [], _ => .nil
  | z :: L, h => by
    refine .cons (fun x hx => ?_) (pw_all fun k x hk y hy => h (k + 1) x (by simpa using hk) y (by rw [List.take_succ_cons]; exact List.mem_cons_of_mem _ hy))
    obtain ⟨k, hk⟩ := List.getElem?_of_mem hx
    exact h (k + 1) x (by simpa using hk) z (by rw [List.take_succ_cons]; exact List.mem_cons_self)
theorem srt_ext {α : Type} {R : α → α → Prop} (hi : ∀ a b, R a b → R b a → False) : ∀ {L M : List α}, L.Pairwise R → M.Pairwise R → (∀ e, e ∈ L ↔ e ∈ M) → L = M
  | [], [], _, _, _ => rfl
  | [], y :: _, _, _, h => absurd ((h y).2 List.mem_cons_self) (by simp)
  | x :: _, [], _, _, h => absurd ((h x).1 List.mem_cons_self) (by simp)
  | x :: L, y :: M, hL, hM, h => by
    obtain ⟨hL1, hL2⟩ := List.pairwise_cons.1 hL
    obtain ⟨hM1, hM2⟩ := List.pairwise_cons.1 hM
    have hxy : x = y := by
      rcases List.mem_cons.1 ((h x).1 List.mem_cons_self) with e | hx
      · exact e
      · rcases List.mem_cons.1 ((h y).2 List.mem_cons_self) with e | hy
        · exact e.symm
        · exact (hi _ _ (hM1 x hx) (hL1 y hy)).elim
    subst hxy
    rw [srt_ext hi hL2 hM2 fun e => ⟨fun he => ?_, fun he => ?_⟩]
    · rcases List.mem_cons.1 ((h e).1 (List.mem_cons_of_mem _ he)) with rfl | h2
      · exact (hi _ _ (hL1 e he) (hL1 e he)).elim
      · exact h2
    · rcases List.mem_cons.1 ((h e).2 (List.mem_cons_of_mem _ he)) with rfl | h2
      · exact (hi _ _ (hM1 e he) (hM1 e he)).elim
      · exact h2
theorem sub_perm {α : Type} [BEq α] [LawfulBEq α] : ∀ {L M : List α}, L.Nodup → (∀ x ∈ L, x ∈ M) → M.length ≤ L.length → M.Perm L
  | [], M, _, _, h => by
    have : M = [] := List.length_eq_zero_iff.1 (by simpa using h)
    rw [this]
  | x :: L, M, hn, hs, h => by
    obtain ⟨h1, h2⟩ := List.nodup_cons.1 hn
    have hx := hs x List.mem_cons_self
    have hp := List.perm_cons_erase hx
    have hl := List.length_erase_of_mem hx
    refine hp.trans ((sub_perm h2 (fun y hy => ?_) ?_).cons x)
    · exact (List.mem_erase_of_ne fun e => h1 (by rw [← e]; exact hy)).2 (hs y (List.mem_cons_of_mem _ hy))
    · rw [hl]
      simp only [List.length_cons] at h
      omega
theorem sub_len {α : Type} [BEq α] [LawfulBEq α] {L M : List α} (hn : L.Nodup) (hs : ∀ x ∈ L, x ∈ M) : L.length ≤ M.length := by
  by_cases h : M.length ≤ L.length
  · exact Nat.le_of_eq (sub_perm hn hs h).length_eq.symm
  · omega
/-- Slots of unlike places. -/
def unP (a b : Sl3) : Prop := ¬ (a.1 = b.1 ∧ a.2.1 = b.2.1)
theorem unP_symm {a b : Sl3} (h : unP a b) : unP b a := fun e => h ⟨e.1.symm, e.2.symm⟩
theorem unP_eq {U : List Sl3} (h : U.Pairwise unP) {s t : Sl3} (hs : s ∈ U) (ht : t ∈ U) (h1 : s.1 = t.1) (h2 : s.2.1 = t.2.1) : s = t := by
  induction U with
  | nil => cases hs
  | cons u U ih =>
    obtain ⟨a, b⟩ := List.pairwise_cons.1 h
    rcases List.mem_cons.1 hs with e | hs
    · rcases List.mem_cons.1 ht with e' | ht
      · rw [e, e']
      · rw [e] at h1 h2
        exact absurd ⟨h1, h2⟩ (a t ht)
    · rcases List.mem_cons.1 ht with e | ht
      · rw [e] at h1 h2
        exact absurd ⟨h1.symm, h2.symm⟩ (a s hs)
      · exact ih b hs ht
def unI (a b : Op4) : Prop := a.1 ≠ b.1
theorem unI_symm {a b : Op4} (h : unI a b) : unI b a := fun e => h e.symm
theorem unI_eq {X : List Op4} (h : X.Pairwise unI) {s t : Op4} (hs : s ∈ X) (ht : t ∈ X) (h1 : s.1 = t.1) : s = t := by
  induction X with
  | nil => cases hs
  | cons u U ih =>
    obtain ⟨a, b⟩ := List.pairwise_cons.1 h
    rcases List.mem_cons.1 hs with e | hs
    · rcases List.mem_cons.1 ht with e' | ht
      · rw [e, e']
      · rw [e] at h1
        exact absurd h1 (a t ht)
    · rcases List.mem_cons.1 ht with e | ht
      · rw [e] at h1
        exact absurd h1.symm (a s hs)
      · exact ih b hs ht
theorem apSs_pw {acc : List Sl3} {x : Sl3} (h : acc.Pairwise unP) : (apSs acc x).Pairwise unP := by
  unfold apSs
  split
  · exact h
  · next hn =>
    rw [List.pairwise_append]
    refine ⟨h, List.pairwise_singleton _ _, fun a ha b hb => ?_⟩
    rw [List.mem_singleton.1 hb]
    rintro ⟨e1, e2⟩
    exact hn (List.any_eq_true.2 ⟨a, ha, by simp [e1, e2]⟩)
theorem aps_pw : ∀ (X acc : List Sl3), acc.Pairwise unP → (X.foldl apSs acc).Pairwise unP
  | [], _, h => h
  | x :: X, acc, h => aps_pw X (apSs acc x) (apSs_pw h)
theorem apSs_has {acc : List Sl3} {x : Sl3} : (∃ y ∈ apSs acc x, y.1 = x.1 ∧ y.2.1 = x.2.1) ∧ ∀ z ∈ acc, z ∈ apSs acc x := by
  unfold apSs
  split
  · next hn =>
    obtain ⟨y, hy, he⟩ := List.any_eq_true.1 hn
    exact ⟨⟨y, hy, by simpa using he⟩, fun z hz => hz⟩
  · exact ⟨⟨x, List.mem_append_right _ (List.mem_singleton.2 rfl), rfl, rfl⟩, fun z hz => List.mem_append_left _ hz⟩
theorem aps_has : ∀ (X acc : List Sl3), (∀ z ∈ acc, z ∈ X.foldl apSs acc) ∧ ∀ x ∈ X, ∃ y ∈ X.foldl apSs acc, y.1 = x.1 ∧ y.2.1 = x.2.1
  | [], _ => ⟨fun _ h => h, fun _ h => absurd h (by simp)⟩
  | x :: X, acc => by
    obtain ⟨h1, h2⟩ := aps_has X (apSs acc x)
    obtain ⟨⟨y, hy, he⟩, h3⟩ := apSs_has (acc := acc) (x := x)
    refine ⟨fun z hz => h1 z (h3 z hz), fun z hz => ?_⟩
    rcases List.mem_cons.1 hz with rfl | hz
    · exact ⟨y, h1 y hy, he⟩
    · exact h2 z hz
theorem apSs_sub {acc : List Sl3} {x y : Sl3} (h : y ∈ apSs acc x) : y ∈ acc ∨ y = x := by
  unfold apSs at h
  split at h
  · exact .inl h
  · rcases List.mem_append.1 h with h | h
    · exact .inl h
    · exact .inr (by simpa using h)
theorem aps_sub (X : List Sl3) : ∀ (acc : List Sl3) (y : Sl3), y ∈ X.foldl apSs acc → y ∈ acc ∨ y ∈ X := by
  induction X with
  | nil => intro acc y h; exact .inl h
  | cons x X ih =>
    intro acc y h
    rcases ih (apSs acc x) y h with h | h
    · rcases apSs_sub h with h | h
      · exact .inl h
      · exact .inr (by rw [h]; simp)
    · exact .inr (List.mem_cons_of_mem _ h)
theorem apLs_sub {X : List Sl3} {y : Sl3} (h : y ∈ apLs X) : y ∈ X := by
  rcases aps_sub X [] y h with h | h
  · cases h
  · exact h
theorem nmT_some {i : Int} {a b r g : Nat} : ∀ {U : List Sl3} {A : Tab}, nmT A U i a r g = some b → A r g = some b ∨ (b = a ∧ ∃ s ∈ U, s.2.2 = i ∧ (s.1 - 1).toNat = r ∧ s.2.1.toNat = g)
  | [], _, h => .inl h
  | s :: U, A, h => by
    rcases nmT_some (U := U) (A := nmS i a A s) h with h | ⟨h1, s', h2, h3⟩
    · unfold nmS at h
      split at h
      · next hi =>
        rcases upd_some h with ⟨e1, e2, e3⟩ | h
        · cases e3
          exact .inr ⟨rfl, s, List.mem_cons_self, by simpa using hi, e1.symm, e2.symm⟩
        · exact .inl h
      · exact .inl h
    · exact .inr ⟨h1, s', List.mem_cons_of_mem _ h2, h3⟩
theorem nmT_stay {i : Int} {a r g : Nat} : ∀ {U : List Sl3} {A : Tab}, A r g = some a → nmT A U i a r g = some a
  | [], _, h => h
  | s :: U, A, h => by
    refine nmT_stay (U := U) (A := nmS i a A s) ?_
    unfold nmS
    split
    · unfold upd
      split
      · rfl
      · exact h
    · exact h
theorem nmT_has {i : Int} {a : Nat} {s : Sl3} : ∀ {U : List Sl3} {A : Tab}, s ∈ U → s.2.2 = i → nmT A U i a (s.1 - 1).toNat s.2.1.toNat = some a
  | [], _, h, _ => by cases h
  | t :: U, A, h, hi => by
    rcases List.mem_cons.1 h with rfl | h
    · refine nmT_stay (U := U) (A := nmS i a A s) ?_
      unfold nmS
      rw [if_pos (beq_iff_eq.2 hi)]
      exact upd_same _ _ _ _
    · exact nmT_has (U := U) (A := nmS i a A t) h hi
theorem nmT_keep {i : Int} {a r g : Nat} : ∀ {U : List Sl3} {A : Tab}, (∀ s ∈ U, s.2.2 = i → ¬((s.1 - 1).toNat = r ∧ s.2.1.toNat = g)) → nmT A U i a r g = A r g
  | [], _, _ => rfl
  | s :: U, A, h => by
    have h1 := nmT_keep (i := i) (a := a) (U := U) (A := nmS i a A s) fun t ht => h t (List.mem_cons_of_mem _ ht)
    refine Eq.trans h1 ?_
    unfold nmS
    split
    · next hi => exact upd_other fun e => h s List.mem_cons_self (by simpa using hi) ⟨e.1.symm, e.2.symm⟩
    · rfl
/-- A table into which objects were loaded, each for the slots that name it. -/
structure Ldd (A : Tab) (V : Nat → Op4) (X : List Op4) (U : List Sl3) : Prop where
  mem : ∀ r g a, r < 6 → g < 6 → A r g = some a → V a ∈ X ∧ ((r : Int) + 1, (g : Int), (V a).1) ∈ U
  inj : ∀ r g r' g' a a', r < 6 → g < 6 → r' < 6 → g' < 6 → A r g = some a → A r' g' = some a' → (V a).1 = (V a').1 → a = a'
  has : ∀ s ∈ U, ∀ x ∈ X, x.1 = s.2.2 → ∃ a, A (s.1 - 1).toNat s.2.1.toNat = some a ∧ V a = x
theorem ldd0 (V : Nat → Op4) (U : List Sl3) : Ldd A0 V [] U := ⟨fun _ _ _ _ _ h => (by cases h), fun _ _ _ _ _ _ _ _ _ _ h => (by cases h), fun _ _ _ h => (by cases h)⟩
theorem Ldd.step {A : Tab} {V : Nat → Op4} {X : List Op4} {U : List Sl3} {j a0 : Nat} {x : Op4} (h : Ldd A V (X.take j) U) (hx : X[j]? = some x) (hX : X.Pairwise unI) (hU : U.Pairwise unP) (hB : ∀ s ∈ U, slotB s = true) (hf : Fresh A a0) : Ldd (nmT A U x.1 a0) (newV V a0 x) (X.take (j + 1)) U := by
  have hT : X.take (j + 1) = X.take j ++ [x] := takeL hx
  have hne : ∀ y ∈ X.take j, y.1 ≠ x.1 := fun y hy => pw_take hX hx y hy
  have hin : ∀ y ∈ X.take j, y ∈ X.take (j + 1) := fun y hy => by rw [hT]; exact List.mem_append_left _ hy
  have hlast : x ∈ X.take (j + 1) := by rw [hT]; exact List.mem_append_right _ (List.mem_singleton.2 rfl)
  refine ⟨fun r g b hr hg hb => ?_, fun r g r' g' b b' hr hg hr' hg' hb hb' he => ?_, fun s hs y hy he => ?_⟩
  · rcases nmT_some hb with hb | ⟨rfl, s, hs, h1, h2, h3⟩
    · rw [newV_ne (hf r g b hr hg hb)]
      obtain ⟨h1, h2⟩ := h.mem r g b hr hg hb
      exact ⟨hin _ h1, h2⟩
    · rw [newV_eq]
      have hb := slotB_iff.1 (hB s hs)
      refine ⟨hlast, ?_⟩
      have e : ((r : Int) + 1, (g : Int), x.1) = s := by
        obtain ⟨p, q, i⟩ := s
        simp only at h1 h2 h3 hb ⊢
        rw [h1, show (r : Int) + 1 = p by omega, show (g : Int) = q by omega]
      rw [e]
      exact hs
  · rcases nmT_some hb with hb1 | ⟨rfl, _⟩
    · rw [newV_ne (hf r g b hr hg hb1)] at he
      rcases nmT_some hb' with hb' | ⟨rfl, _⟩
      · rw [newV_ne (hf r' g' b' hr' hg' hb')] at he
        exact h.inj r g r' g' b b' hr hg hr' hg' hb1 hb' he
      · rw [newV_eq] at he
        exact absurd he (hne _ (h.mem r g b hr hg hb1).1)
    · rw [newV_eq] at he
      rcases nmT_some hb' with hb' | ⟨rfl, _⟩
      · rw [newV_ne (hf r' g' b' hr' hg' hb')] at he
        exact absurd he.symm (hne _ (h.mem r' g' b' hr' hg' hb').1)
      · rfl
  · rw [hT] at hy
    rcases List.mem_append.1 hy with hy | hy
    · obtain ⟨b, h1, h2⟩ := h.has s hs y hy he
      have hb := slotB_iff.1 (hB s hs)
      refine ⟨b, ?_, ?_⟩
      · rw [nmT_keep fun t ht hi hc => ?_]
        · exact h1
        · have hb2 := slotB_iff.1 (hB t ht)
          have : t = s := unP_eq hU ht hs (by omega) (by omega)
          rw [this] at hi
          exact hne y hy (he.trans hi)
      · rw [newV_ne (hf _ _ b (by omega) (by omega) h1)]
        exact h2
    · rw [List.mem_singleton.1 hy] at he ⊢
      exact ⟨a0, nmT_has hs he.symm, newV_eq⟩
theorem Ldd.jn {A : Tab} {V : Nat → Op4} {X : List Op4} {U : List Sl3} (h : Ldd A V X U) (hX : ∀ x ∈ X, openB x = true) : Jn A V := by
  have h1 : ∀ r g a, r < 6 → g < 6 → A r g = some a → (0 ≤ (V a).1 ∧ (V a).1 < 36) ∧ rightF 1 0 (V a).2.1 (V a).2.2.1 (V a).2.2.2 = true := fun r g a hr hg ha => by
    have := hX _ (h.mem r g a hr hg ha).1
    unfold openB at this
    rw [Bool.and_eq_true, decide_eq_true_eq] at this
    exact this
  exact ⟨fun r g a hr hg ha => (h1 r g a hr hg ha).1, h.inj, fun r g a hr hg ha => (h1 r g a hr hg ha).2⟩
theorem op_nodup (A : Tab) (V : Nat → Op4) : (opL A V).Nodup := (srt_op A V).imp fun {a b} h e => by rw [e] at h; omega
theorem op_unI (A : Tab) (V : Nat → Op4) : (opL A V).Pairwise unI := (srt_op A V).imp fun {a b} h e => by have e' : a.1 = b.1 := e; omega
theorem places_pw : places.Pairwise lexN := by unfold lexN; decide +kernel
theorem sl_pw (A : Tab) (V : Nat → Op4) : (slL A V).Pairwise fun a b => lt2 (pk a) (pk b) := by
  rw [slL_eq, List.pairwise_filterMap]
  refine places_pw.imp fun {a b} hab s hs t ht => ?_
  obtain ⟨_, _, rfl⟩ := slX_some (by simpa using hs)
  obtain ⟨_, _, rfl⟩ := slX_some (by simpa using ht)
  unfold lexN at hab
  unfold lt2 pk
  simp only
  omega
theorem lt2_no (a b : Int × Int) : lt2 a b → lt2 b a → False := by
  unfold lt2
  omega
theorem sl_nodup (A : Tab) (V : Nat → Op4) : (slL A V).Nodup := (sl_pw A V).imp fun {a b} h e => by rw [e] at h; exact lt2_no _ _ h h
theorem sl_unP (A : Tab) (V : Nat → Op4) : (slL A V).Pairwise unP := (sl_pw A V).imp fun {a b} h e => by unfold lt2 pk at h; simp only at h; omega
/-- Lists that have the members of a table's are such as the document asks. -/
theorem right_perm {A : Tab} {V : Nat → Op4} {O : List Op4} {S : List Sl3} (h : Jn A V) (hO : O.Perm (opL A V)) (hS : S.Perm (slL A V)) : RightD O S := by
  have hpO : O.Pairwise unI := hO.symm.pairwise (op_unI A V) unI_symm
  have hpS : S.Pairwise unP := hS.symm.pairwise (sl_unP A V) unP_symm
  refine ⟨fun k x hx => ?_, fun k s hs => ?_, ?_⟩
  · have hm := List.mem_of_getElem? hx
    obtain ⟨r, g, a, hr, hg, ha, rfl⟩ := mem_nm.1 ((mem_op h).1 (hO.mem_iff.1 hm))
    have h1 := h.sml r g a hr hg ha
    exact ⟨by omega, List.find?_eq_none.2 fun y hy hk => pw_take hpO hx y hy (ko_iff.1 hk), h.ok r g a hr hg ha⟩
  · have hm := List.mem_of_getElem? hs
    obtain ⟨r, g, a, hr, hg, ha, rfl⟩ := mem_sl.1 (hS.mem_iff.1 hm)
    refine ⟨by simp only; omega, by simp only; omega, List.find?_eq_none.2 fun y hy hk => pw_take hpS hs y hy (kp_iff.1 hk), fun e => ?_⟩
    have h2 := List.find?_eq_none.1 e (V a) (hO.mem_iff.2 ((mem_op h).2 (mem_nm.2 ⟨r, g, a, hr, hg, ha, rfl⟩)))
    exact h2 (ko_iff.2 rfl)
  · refine List.length_filter_eq_length_iff.2 fun x hx => ?_
    obtain ⟨r, g, a, hr, hg, ha, rfl⟩ := mem_nm.1 ((mem_op h).1 (hO.mem_iff.1 hx))
    exact List.any_eq_true.2 ⟨_, hS.mem_iff.2 (mem_sl.2 ⟨r, g, a, hr, hg, ha, rfl⟩), by simp⟩
theorem right_op {A : Tab} {V : Nat → Op4} (h : Jn A V) : RightD (opL A V) (slL A V) := right_perm h (List.Perm.refl _) (List.Perm.refl _)
theorem RightD.unI {O : List Op4} {S : List Sl3} (h : RightD O S) : O.Pairwise unI := pw_all fun k x hx y hy e => List.find?_eq_none.1 (h.1 k x hx).2.1 y hy (ko_iff.2 e)
theorem RightD.unP {O : List Op4} {S : List Sl3} (h : RightD O S) : S.Pairwise unP := pw_all fun k x hx y hy e => List.find?_eq_none.1 (h.2.1 k x hx).2.2.1 y hy (kp_iff.2 e)
/-- What is loaded of right lists has their members. -/
theorem load_right {A : Tab} {V : Nat → Op4} {O X : List Op4} {S : List Sl3} (h : Ldd A V X (apLs S)) (hJ : Jn A V) (hX : X.Perm (apL O)) (hB : ∀ s ∈ S, slotB s = true) (hR : RightD O S) : (∀ x, x ∈ opL A V ↔ x ∈ O) ∧ ∀ s, s ∈ slL A V ↔ s ∈ S := by
  have hXO : ∀ x, x ∈ X ↔ x ∈ O := fun x => ⟨fun hx => apL_sub (hX.mem_iff.1 hx), fun hx => by
    obtain ⟨y, hy, he⟩ := (ap_has O []).2 x hx
    have : y = x := unI_eq hR.unI (apL_sub hy) hx he
    rw [← this]
    exact hX.mem_iff.2 hy⟩
  have hUS : ∀ s, s ∈ apLs S ↔ s ∈ S := fun s => ⟨apLs_sub, fun hs => by
    obtain ⟨y, hy, he, he2⟩ := (aps_has S []).2 s hs
    have : y = s := unP_eq hR.unP (apLs_sub hy) hs he he2
    rw [← this]
    exact hy⟩
  have hat : ∀ s x, s ∈ S → x ∈ O → x.1 = s.2.2 → ∃ r g a, r < 6 ∧ g < 6 ∧ A r g = some a ∧ V a = x ∧ s = ((r : Int) + 1, (g : Int), (V a).1) := fun s x hs hx he => by
    obtain ⟨a, h1, h2⟩ := h.has s ((hUS s).2 hs) x ((hXO x).2 hx) he
    have hb := slotB_iff.1 (hB s hs)
    refine ⟨_, _, a, by omega, by omega, h1, h2, ?_⟩
    obtain ⟨p, q, i⟩ := s
    simp only at hb he ⊢
    rw [h2, he, show (((p - 1).toNat : Nat) : Int) + 1 = p by omega, show ((q.toNat : Nat) : Int) = q by omega]
  refine ⟨fun x => ⟨fun hx => ?_, fun hx => ?_⟩, fun s => ⟨fun hs => ?_, fun hs => ?_⟩⟩
  · obtain ⟨r, g, a, hr, hg, ha, rfl⟩ := mem_nm.1 ((mem_op hJ).1 hx)
    exact (hXO _).1 (h.mem r g a hr hg ha).1
  · have hsw := List.length_filter_eq_length_iff.1 hR.2.2 x hx
    obtain ⟨s, hs, he⟩ := List.any_eq_true.1 hsw
    obtain ⟨r, g, a, hr, hg, ha, h1, _⟩ := hat s x hs hx (beq_iff_eq.1 he).symm
    exact (mem_op hJ).2 (mem_nm.2 ⟨r, g, a, hr, hg, ha, h1.symm⟩)
  · obtain ⟨r, g, a, hr, hg, ha, rfl⟩ := mem_sl.1 hs
    exact (hUS _).1 (h.mem r g a hr hg ha).2
  · obtain ⟨k, hk⟩ := List.getElem?_of_mem hs
    cases hf : O.find? (ko s.2.2) with
    | none => exact absurd hf (hR.2.1 k s hk).2.2.2
    | some x =>
      obtain ⟨r, g, a, hr, hg, ha, _, h1⟩ := hat s x hs (List.mem_of_find?_eq_some hf) (ko_iff.1 (List.find?_some hf))
      exact mem_sl.2 ⟨r, g, a, hr, hg, ha, h1⟩
theorem load_len {A : Tab} {V : Nat → Op4} {O X : List Op4} {S : List Sl3} (h : Ldd A V X (apLs S)) (hJ : Jn A V) (hX : X.Perm (apL O)) (hB : ∀ s ∈ S, slotB s = true) (hR : RightD O S) : (opL A V).length = O.length ∧ (slL A V).length = S.length := by
  obtain ⟨h1, h2⟩ := load_right h hJ hX hB hR
  have n1 : O.Nodup := hR.unI.imp fun {a b} hab e => hab (by rw [e])
  have n2 : S.Nodup := hR.unP.imp fun {a b} hab e => hab ⟨by rw [e], by rw [e]⟩
  exact ⟨Nat.le_antisymm (sub_len (op_nodup A V) fun x hx => (h1 x).1 hx) (sub_len n1 fun x hx => (h1 x).2 hx), Nat.le_antisymm (sub_len (sl_nodup A V) fun x hx => (h2 x).1 hx) (sub_len n2 fun x hx => (h2 x).2 hx)⟩
/-- Of lists that are not right less is loaded. -/
theorem load_less {A : Tab} {V : Nat → Op4} {O X : List Op4} {S : List Sl3} (h : Ldd A V X (apLs S)) (hJ : Jn A V) (hX : X.Perm (apL O)) (hR : ¬ RightD O S) : (opL A V).length < O.length ∨ (slL A V).length < S.length := by
  refine Classical.byContradiction fun hc => hR ?_
  have h1 : O.length ≤ (opL A V).length := by omega
  have h2 : S.length ≤ (slL A V).length := by omega
  refine right_perm hJ (sub_perm (op_nodup A V) (fun x hx => ?_) h1) (sub_perm (sl_nodup A V) (fun s hs => ?_) h2)
  · obtain ⟨r, g, a, hr, hg, ha, rfl⟩ := mem_nm.1 ((mem_op hJ).1 hx)
    exact apL_sub (hX.mem_iff.1 (h.mem r g a hr hg ha).1)
  · obtain ⟨r, g, a, hr, hg, ha, rfl⟩ := mem_sl.1 hs
    exact apLs_sub (h.mem r g a hr hg ha).2
/-- A list with an object or a slot that is out of bounds is not right. -/
theorem not_open {O : List Op4} {S : List Sl3} {x : Op4} (hx : x ∈ O) (h : openB x = false) : ¬ RightD O S := fun hR => by
  obtain ⟨k, hk⟩ := List.getElem?_of_mem hx
  have h1 := hR.1 k x hk
  unfold openB at h
  rw [h1.2.2, decide_eq_true (show 0 ≤ x.1 ∧ x.1 < 36 by have := h1.1; omega)] at h
  cases h
theorem not_slot {O : List Op4} {S : List Sl3} {s : Sl3} (hs : s ∈ S) (h : slotB s = false) : ¬ RightD O S := fun hR => by
  obtain ⟨k, hk⟩ := List.getElem?_of_mem hs
  have h1 := hR.2.1 k s hk
  rw [slotB_iff.2 ⟨h1.1, by have := h1.2.1; omega⟩] at h
  cases h
theorem op_same {A A' : Tab} {V V' : Nat → Op4} (h : ∀ x, x ∈ opL A' V' ↔ x ∈ opL A V) : opL A' V' = opL A V := srtO_ext (srt_op A' V') (srt_op A V) h
theorem sl_same {A A' : Tab} {V V' : Nat → Op4} (h : ∀ x, x ∈ slL A' V' ↔ x ∈ slL A V) : slL A' V' = slL A V := srt_ext (fun a b => lt2_no (pk a) (pk b)) (sl_pw A' V') (sl_pw A V) h
end Go.Proofs.Ytaapiffglfppnaa
