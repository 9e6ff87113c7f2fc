/- Plain lists of spans: what a page is in, the spans of a process in their order; no statement is proved in this text. -/
import Derived.Test.YtlkcpjefgelcoaaPu
namespace Go.Proofs.Ytlkcpjefgelcoaa

abbrev Sp := Int × Int × Int × Int
def ar (s : Sp) : Ar := (s.1, s.2.1, s.2.2.1)
structure GS (L : List Sp) : Prop where
  good : Good (L.map ar)
  prot : ∀ s ∈ L, s.2.2.2 = 1 ∨ s.2.2.2 = 3
def cov (p g : Int) (s : Sp) : Bool := withF p g (ar s)
def beg (p g : Int) (s : Sp) : Bool := fromF p g (ar s)
theorem cov_iff {p g : Int} {s : Sp} : cov p g s = true ↔ s.1 = p ∧ s.2.1 ≤ g ∧ g < s.2.1 + s.2.2.1 := withF_iff
theorem beg_iff {p g : Int} {s : Sp} : beg p g s = true ↔ s.1 = p ∧ s.2.1 = g := by simp [beg, fromF, ar]
def cel (L : List Sp) (p g : Int) : Int × Int := match L.find? (cov p g) with | some s => (s.2.1, s.2.2.2) | none => (0, 0)
theorem GS.nil : GS [] := ⟨.nil, fun _ h => by cases h⟩
theorem meet_comm (a b : Ar) : meetF a b = meetF b a := by
  rw [Bool.eq_iff_iff, meetF_iff, meetF_iff]; constructor <;> rintro ⟨h1, h2, h3⟩ <;> exact ⟨h1.symm, h3, h2⟩
theorem Good.pw {M : List Ar} (h : Good M) : M.Pairwise fun a b => meetF b a = false := by
  induction h with
  | nil => exact .nil
  | snoc _ _ h3 ih =>
    rw [List.pairwise_append]
    exact ⟨ih, List.pairwise_singleton _ _, fun a ha b hb => by rw [List.mem_singleton.1 hb]; exact (layB_iff.1 h3).2 a ha⟩
theorem pw_two : ∀ {L : List Sp}, (L.map ar).Pairwise (fun a b => meetF b a = false) → ∀ s ∈ L, ∀ s' ∈ L, s = s' ∨ meetF (ar s) (ar s') = false
  | [], _, _, h, _, _ => by cases h
  | x :: L, h, s, hs, s', hs' => by
    rw [List.map_cons, List.pairwise_cons] at h
    rcases List.mem_cons.1 hs with e | m
    · rcases List.mem_cons.1 hs' with e' | m'
      · exact .inl (e.trans e'.symm)
      · exact .inr (by rw [e, meet_comm]; exact h.1 _ (List.mem_map_of_mem m'))
    · rcases List.mem_cons.1 hs' with e' | m'
      · exact .inr (by rw [e']; exact h.1 _ (List.mem_map_of_mem m))
      · exact pw_two h.2 s m s' m'
theorem GS.isA {L : List Sp} (h : GS L) {s : Sp} (hs : s ∈ L) : 1 ≤ s.1 ∧ s.1 ≤ 6 ∧ 0 ≤ s.2.1 ∧ 1 ≤ s.2.2.1 ∧ s.2.1 + s.2.2.1 ≤ 16 := isA_of (h.good.isA _ (List.mem_map_of_mem hs))
/-- Two that have a page in common are one. -/
theorem GS.one {L : List Sp} (h : GS L) {s s' : Sp} (hs : s ∈ L) (hs' : s' ∈ L) {p g : Int} (h1 : cov p g s = true) (h2 : cov p g s' = true) : s = s' := by
  rcases pw_two h.good.pw s hs s' hs' with e | e
  · exact e
  · exfalso
    rw [cov_iff] at h1 h2
    have : meetF (ar s) (ar s') = true := meetF_iff.2 ⟨by show s'.1 = s.1; omega, by show s'.2.1 < s.2.1 + s.2.2.1; omega, by show s.2.1 < s'.2.1 + s'.2.2.1; omega⟩
    rw [e] at this; cases this
theorem GS.begs {L : List Sp} (h : GS L) {s : Sp} (hs : s ∈ L) {p g : Int} (hb : beg p g s = true) : cov p g s = true := by
  have := h.isA hs
  rw [beg_iff] at hb
  rw [cov_iff]; omega
theorem GS.find {L : List Sp} (h : GS L) {s : Sp} (hs : s ∈ L) {p g : Int} (hc : cov p g s = true) : L.find? (cov p g) = some s := by
  cases hf : L.find? (cov p g) with
  | none => exact absurd hc (by simpa using List.find?_eq_none.1 hf s hs)
  | some s' => rw [h.one hs (List.mem_of_find?_eq_some hf) hc (List.find?_some hf)]
theorem GS.findb {L : List Sp} (h : GS L) {s : Sp} (hs : s ∈ L) {p g : Int} (hc : beg p g s = true) : L.find? (beg p g) = some s := by
  cases hf : L.find? (beg p g) with
  | none => exact absurd hc (by simpa using List.find?_eq_none.1 hf s hs)
  | some s' => rw [h.one hs (List.mem_of_find?_eq_some hf) (h.begs hs hc) (h.begs (List.mem_of_find?_eq_some hf) (List.find?_some hf))]
theorem GS.cel {L : List Sp} (h : GS L) {s : Sp} (hs : s ∈ L) {p g : Int} (hc : cov p g s = true) : cel L p g = (s.2.1, s.2.2.2) := by
  rw [Ytlkcpjefgelcoaa.cel, h.find hs hc]
theorem cel_none {L : List Sp} {p g : Int} (h : ∀ s ∈ L, cov p g s = false) : cel L p g = (0, 0) := by
  rw [cel, List.find?_eq_none.2 fun s hs => by rw [h s hs]; simp]
theorem cel_some {L : List Sp} {p g : Int} (h : cel L p g ≠ (0, 0)) : ∃ s ∈ L, cov p g s = true := by
  cases hf : L.find? (cov p g) with
  | none => rw [cel, hf] at h; exact absurd rfl h
  | some s => exact ⟨s, List.mem_of_find?_eq_some hf, List.find?_some hf⟩
theorem GS.celz {L : List Sp} (h : GS L) {p g : Int} : Ytlkcpjefgelcoaa.cel L p g = (0, 0) ↔ ∀ s ∈ L, cov p g s = false := by
  refine ⟨fun h0 s hs => ?_, cel_none⟩
  cases hc : cov p g s
  · rfl
  · rw [h.cel hs hc] at h0
    have := h.prot s hs
    simp only [Prod.mk.injEq] at h0
    omega
theorem GS.len {L : List Sp} (h : GS L) : L.length ≤ 24 := by have := h.good.len; simpa using this
/-- The spans of a process, by their first pages, up to a page. -/
def upL (L : List Sp) (p : Int) (k : Nat) : List Sp := (List.range k).filterMap fun g : Nat => L.find? (beg p (g : Int))
def ofL (L : List Sp) (p : Int) : List Sp := upL L p 16
def allL (L : List Sp) : List Sp := (List.range 6).flatMap fun r : Nat => ofL L ((r : Int) + 1)
theorem upL_succ (L : List Sp) (p : Int) (k : Nat) : upL L p (k + 1) = upL L p k ++ (L.find? (beg p k)).toList := by
  unfold upL
  rw [List.range_succ, List.filterMap_append]
  congr 1
/-- What the walk over a row makes, cell by cell. -/
def inc (s : Sp) : Sp := (s.1, s.2.1, s.2.2.1 + 1, s.2.2.2)
def incL : List Sp → List Sp
  | [] => []
  | [s] => [inc s]
  | s :: l => s :: incL l
theorem incL_snoc (l : List Sp) (s : Sp) : incL (l ++ [s]) = l ++ [inc s] := by
  induction l with
  | nil => rfl
  | cons x l ih =>
    cases l with
    | nil => rfl
    | cons y l => rw [List.cons_append, List.cons_append, incL]; · rw [← List.cons_append, ih]; rfl
                  · intro h; simp at h
def rowO (p : Int) (F : Nat → Int × Int) : Nat → List Sp
  | 0 => []
  | k + 1 => if F k = (0, 0) then rowO p F k else if (F k).1 = k then rowO p F k ++ [(p, (k : Int), 1, (F k).2)] else incL (rowO p F k)
/-- Cut at a page. -/
def cutS (k : Nat) (s : Sp) : Sp := (s.1, s.2.1, min s.2.2.1 (k - s.2.1), s.2.2.2)
theorem upL_mem {L : List Sp} {p : Int} {k : Nat} {s : Sp} (h : s ∈ upL L p k) : s ∈ L ∧ s.1 = p ∧ s.2.1 < k := by
  obtain ⟨g, hg, hf⟩ := List.mem_filterMap.1 h
  have h1 := List.mem_of_find?_eq_some hf
  have h2 := beg_iff.1 (List.find?_some hf)
  have h3 := List.mem_range.1 hg
  exact ⟨h1, h2.1, by omega⟩
theorem GS.mem_upL {L : List Sp} (h : GS L) {s : Sp} (hs : s ∈ L) {k : Nat} (hk : s.2.1 < k) : s ∈ upL L s.1 k := by
  have hi := h.isA hs
  refine List.mem_filterMap.2 ⟨s.2.1.toNat, List.mem_range.2 (by omega), ?_⟩
  exact h.findb hs (beg_iff.2 ⟨rfl, by omega⟩)
theorem cut_stay {L : List Sp} {p : Int} {k : Nat} (h : ∀ s ∈ upL L p k, s.2.1 + s.2.2.1 ≤ k) : (upL L p k).map (cutS (k + 1)) = (upL L p k).map (cutS k) := by
  refine List.map_congr_left fun s hs => ?_
  have := h s hs
  unfold cutS
  congr 3
  omega
theorem GS.rowO {L : List Sp} (h : GS L) (p : Int) : ∀ k : Nat, k ≤ 16 → Ytlkcpjefgelcoaa.rowO p (fun g => Ytlkcpjefgelcoaa.cel L p g) k = (upL L p k).map (cutS k)
  | 0, _ => rfl
  | k + 1, hk => by
    have ih := h.rowO p k (by omega)
    rw [Ytlkcpjefgelcoaa.rowO, ih, upL_succ, List.map_append]
    by_cases h0 : Ytlkcpjefgelcoaa.cel L p k = (0, 0)
    · have hn := h.celz.1 h0
      have hb : L.find? (beg p k) = none := List.find?_eq_none.2 fun s hs hb => by
        have := h.begs hs hb
        rw [hn s hs] at this; cases this
      rw [if_pos h0, hb, cut_stay]
      · simp
      · intro s hs
        obtain ⟨m1, m2, m3⟩ := upL_mem hs
        have := hn s m1
        rw [Bool.eq_false_iff, ne_eq, cov_iff] at this
        omega
    · obtain ⟨s, hs, hc⟩ := cel_some h0
      rw [if_neg h0, h.cel hs hc]
      have hc' := cov_iff.1 hc
      by_cases he : s.2.1 = k
      · have hb : L.find? (beg p k) = some s := h.findb hs (beg_iff.2 ⟨hc'.1, he⟩)
        rw [if_pos (by simpa using he), hb, cut_stay]
        · congr 1
          simp only [Option.toList, List.map_cons, List.map_nil, cutS]
          have := h.isA hs
          rw [hc'.1, he]
          congr 4
          omega
        · intro x hx
          obtain ⟨m1, m2, m3⟩ := upL_mem hx
          have := h.isA m1
          refine Int.le_of_not_gt fun hlt => ?_
          have := h.one m1 hs (cov_iff.2 ⟨m2, by omega, hlt⟩) hc
          subst this
          omega
      · have hb : L.find? (beg p k) = none := List.find?_eq_none.2 fun x hx hb => by
          have := h.one hs hx hc (h.begs hx hb)
          subst this
          exact he (beg_iff.1 hb).2
        rw [if_neg (by simpa using he), hb]
        obtain ⟨X, hX, hlo⟩ : ∃ X, upL L p k = X ++ [s] ∧ ∀ x ∈ X, x.2.1 < s.2.1 := by
          have key : ∀ j : Nat, j ≤ k → s.2.1 < j → ∃ X, upL L p j = X ++ [s] ∧ ∀ x ∈ X, x.2.1 < s.2.1 := by
            intro j
            induction j with
            | zero => intro _ h1; have := h.isA hs; omega
            | succ j ihj =>
              intro hj hsj
              rw [upL_succ]
              by_cases hej : s.2.1 = j
              · exact ⟨_, by rw [h.findb hs (beg_iff.2 ⟨hc'.1, hej⟩)]; rfl, fun x hx => by have := (upL_mem hx).2.2; omega⟩
              · have hn : L.find? (beg p j) = none := List.find?_eq_none.2 fun x hx hb => by
                  have := h.one hs hx (cov_iff.2 ⟨hc'.1, by omega, by omega⟩) (h.begs hx hb)
                  subst this
                  exact hej (beg_iff.1 hb).2
                obtain ⟨X, hX, hlo⟩ := ihj (by omega) (by omega)
                exact ⟨X, by rw [hn, hX]; simp, hlo⟩
          exact key k (Nat.le_refl _) (by omega)
        have hstay : X.map (cutS (k + 1)) = X.map (cutS k) := by
          refine List.map_congr_left fun x hx => ?_
          obtain ⟨m1, m2, m3⟩ := upL_mem (show x ∈ upL L p k by rw [hX]; exact List.mem_append_left _ hx)
          have hne : x.2.1 + x.2.2.1 ≤ k := by
            refine Int.le_of_not_gt fun hlt => ?_
            have e := h.one m1 hs (cov_iff.2 ⟨m2, by omega, hlt⟩) hc
            subst e
            have := hlo _ hx
            omega
          unfold cutS
          congr 3
          omega
        rw [hX, List.map_append, List.map_cons, List.map_nil, incL_snoc, List.map_append, hstay]
        simp only [List.map_cons, List.map_nil, Option.toList, List.append_nil]
        congr 2
        unfold inc cutS
        have := h.isA hs
        simp only
        congr 3
        omega
theorem GS.ofL {L : List Sp} (h : GS L) (p : Int) : Ytlkcpjefgelcoaa.rowO p (fun g => Ytlkcpjefgelcoaa.cel L p g) 16 = Ytlkcpjefgelcoaa.ofL L p := by
  rw [h.rowO p 16 (Nat.le_refl _)]
  unfold Ytlkcpjefgelcoaa.ofL
  have : ∀ s ∈ upL L p 16, cutS 16 s = s := fun s hs => by
    have := h.isA (upL_mem hs).1
    unfold cutS
    rw [show min s.2.2.1 ((16 : Nat) - s.2.1) = s.2.2.1 by omega]
  rw [List.map_congr_left this, List.map_id']
/-- Where the walk counts on, there is one. -/
theorem GS.some {L : List Sp} (h : GS L) (p : Int) (k : Nat) (hk : k < 16) (h0 : Ytlkcpjefgelcoaa.cel L p k ≠ (0, 0)) (h1 : (Ytlkcpjefgelcoaa.cel L p k).1 ≠ k) : Ytlkcpjefgelcoaa.rowO p (fun g => Ytlkcpjefgelcoaa.cel L p g) k ≠ [] := by
  rw [h.rowO p k (by omega)]
  obtain ⟨s, hs, hc⟩ := cel_some h0
  rw [h.cel hs hc] at h1
  have hc' := cov_iff.1 hc
  have := h.mem_upL hs (k := k) (by simp at h1; omega)
  rw [hc'.1] at this
  intro he
  rw [List.map_eq_nil_iff.1 he] at this
  cases this
end Go.Proofs.Ytlkcpjefgelcoaa
