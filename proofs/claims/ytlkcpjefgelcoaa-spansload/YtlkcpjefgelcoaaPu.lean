/- Plain lists of areas: which are good, what meets, what a Fork gives; no statement is proved in this text. -/
import Derived.Test.YtlkcpjefgelcoaaApp
namespace Go.Proofs.Ytlkcpjefgelcoaa

abbrev Ar := Int × Int × Int
def isA (a : Ar) : Bool := decide (1 ≤ a.1 ∧ a.1 ≤ 6 ∧ 0 ≤ a.2.1 ∧ 1 ≤ a.2.2 ∧ a.2.1 + a.2.2 ≤ 16)
theorem isA_of {a : Ar} (h : isA a = true) : 1 ≤ a.1 ∧ a.1 ≤ 6 ∧ 0 ≤ a.2.1 ∧ 1 ≤ a.2.2 ∧ a.2.1 + a.2.2 ≤ 16 := by simpa [isA] using h
theorem isA_mk {a : Ar} (h : 1 ≤ a.1 ∧ a.1 ≤ 6 ∧ 0 ≤ a.2.1 ∧ 1 ≤ a.2.2 ∧ a.2.1 + a.2.2 ≤ 16) : isA a = true := by simpa [isA] using h
def ofF (p : Int) (a : Ar) : Bool := a.1 == p
def fromF (p g : Int) (a : Ar) : Bool := a.1 == p && a.2.1 == g
def withF (p g : Int) (a : Ar) : Bool := a.1 == p && (decide (a.2.1 ≤ g) && decide (g < a.2.1 + a.2.2))
def meetF (x a : Ar) : Bool := a.1 == x.1 && (decide (a.2.1 < x.2.1 + x.2.2) && decide (x.2.1 < a.2.1 + a.2.2))
def cntL (L : List Ar) (p : Int) : Nat := (L.filter (ofF p)).length
def layB (L : List Ar) (a : Ar) : Bool := decide (cntL L a.1 < 4) && !(L.any (meetF a))
def hasL (L : List Ar) (p g : Int) : Bool := L.any (withF p g)
theorem ofF_iff {p : Int} {a : Ar} : ofF p a = true ↔ a.1 = p := by simp [ofF]
theorem withF_iff {p g : Int} {a : Ar} : withF p g a = true ↔ a.1 = p ∧ a.2.1 ≤ g ∧ g < a.2.1 + a.2.2 := by simp [withF]
theorem meetF_iff {x a : Ar} : meetF x a = true ↔ a.1 = x.1 ∧ a.2.1 < x.2.1 + x.2.2 ∧ x.2.1 < a.2.1 + a.2.2 := by simp [meetF]
theorem layB_iff {L : List Ar} {a : Ar} : layB L a = true ↔ cntL L a.1 < 4 ∧ ∀ b ∈ L, meetF a b = false := by simp [layB]
theorem cntL_app (L M : List Ar) (p : Int) : cntL (L ++ M) p = cntL L p + cntL M p := by simp [cntL]
theorem cntL_one (a : Ar) (p : Int) : cntL [a] p = if a.1 = p then 1 else 0 := by
  by_cases h : a.1 = p <;> simp [cntL, ofF, h]
theorem filter_len (L : List Ar) (f : Ar → Bool) : (L.filter f).length ≤ L.length := List.length_filter_le _ _
theorem any_len (L : List Ar) (f : Ar → Bool) : decide (0 < (L.filter f).length) = L.any f := by
  induction L with
  | nil => rfl
  | cons a l ih =>
    cases h : f a
    · rw [List.filter_cons_of_neg (by simp [h]), List.any_cons, h, Bool.false_or]; exact ih
    · rw [List.filter_cons_of_pos h, List.any_cons, h]; simp
inductive Good : List Ar → Prop
  | nil : Good []
  | snoc {L : List Ar} {a : Ar} : Good L → isA a = true → layB L a = true → Good (L ++ [a])
theorem Good.inv {M : List Ar} (h : Good M) : ∀ L a, M = L ++ [a] → Good L ∧ isA a = true ∧ layB L a = true := by
  cases h with
  | nil => intro L a h; exact absurd h (by simp)
  | snoc h1 h2 h3 =>
    intro L a h
    obtain ⟨e1, e2⟩ := List.append_inj' h rfl
    subst e1
    simp only [List.cons.injEq, and_true] at e2
    subst e2
    exact ⟨h1, h2, h3⟩
theorem Good.isA {L : List Ar} (h : Good L) : ∀ a ∈ L, isA a = true := by
  induction h with
  | nil => intro a h; cases h
  | snoc _ h2 _ ih =>
    intro b hb
    rcases List.mem_append.1 hb with hb | hb
    · exact ih b hb
    · rw [List.mem_singleton.1 hb]; exact h2
theorem Good.cnt {L : List Ar} (h : Good L) (p : Int) : cntL L p ≤ 4 := by
  induction h with
  | nil => simp [cntL]
  | snoc _ _ h3 ih =>
    rw [cntL_app, cntL_one]
    split
    · rename_i hp
      have := (layB_iff.1 h3).1
      rw [hp] at this
      omega
    · omega
theorem len_sum (L : List Ar) (h : ∀ a ∈ L, Ytlkcpjefgelcoaa.isA a = true) : L.length = cntL L 1 + cntL L 2 + cntL L 3 + cntL L 4 + cntL L 5 + cntL L 6 := by
  induction L with
  | nil => rfl
  | cons a l ih =>
    have hl := ih fun b hb => h b (List.mem_cons_of_mem _ hb)
    have ha := isA_of (h a (by simp))
    have e : ∀ p, cntL (a :: l) p = (if a.1 = p then 1 else 0) + cntL l p := fun p => by rw [← cntL_one, ← cntL_app]; rfl
    rw [e, e, e, e, e, e, List.length_cons, hl]
    have h6 : a.1 = 1 ∨ a.1 = 2 ∨ a.1 = 3 ∨ a.1 = 4 ∨ a.1 = 5 ∨ a.1 = 6 := by omega
    rcases h6 with h | h | h | h | h | h <;> simp [h] <;> omega
theorem Good.len {L : List Ar} (h : Good L) : L.length ≤ 24 := by
  rw [len_sum L h.isA]
  have h1 := h.cnt 1
  have h2 := h.cnt 2
  have h3 := h.cnt 3
  have h4 := h.cnt 4
  have h5 := h.cnt 5
  have h6 := h.cnt 6
  omega
theorem cnt_filter (L : List Ar) (f : Ar → Bool) (p : Int) : cntL (L.filter f) p ≤ cntL L p := by
  unfold cntL
  rw [List.filter_filter]
  have : (L.filter fun a => ofF p a && f a) = (L.filter (ofF p)).filter f := by rw [List.filter_filter]; congr 1; funext a; exact Bool.and_comm _ _
  rw [this]
  exact List.length_filter_le _ _
theorem Good.filter {L : List Ar} (h : Good L) (f : Ar → Bool) : Good (L.filter f) := by
  induction h with
  | nil => exact .nil
  | @snoc L a h1 h2 h3 ih =>
    rw [List.filter_append]
    cases hf : f a
    · simpa [hf] using ih
    · have : [a].filter f = [a] := by simp [hf]
      rw [this]
      refine .snoc ih h2 (layB_iff.2 ⟨?_, fun b hb => (layB_iff.1 h3).2 b (List.mem_filter.1 hb).1⟩)
      have := (layB_iff.1 h3).1
      have := cnt_filter L f a.1
      omega
theorem Good.take {L : List Ar} (h : Good L) (k : Nat) : Good (L.take k) := by
  induction h with
  | nil => rw [List.take_nil]; exact .nil
  | @snoc L a h1 h2 h3 ih =>
    by_cases hk : k ≤ L.length
    · rw [List.take_append_of_le_length hk]; exact ih
    · rw [List.take_of_length_le (by simp; omega)]; exact .snoc h1 h2 h3
theorem take_last {L : List Ar} {k : Nat} {a : Ar} (h : L[k]? = some a) : L.take (k + 1) = L.take k ++ [a] := by
  obtain ⟨hk, rfl⟩ := List.getElem?_eq_some_iff.1 h
  exact (List.take_append_getElem hk).symm
theorem Good.at {L : List Ar} (h : Good L) {k : Nat} {a : Ar} (hk : L[k]? = some a) : Ytlkcpjefgelcoaa.isA a = true ∧ layB (L.take k) a = true := by
  have := (h.take (k + 1)).inv _ _ (take_last hk)
  exact ⟨this.2.1, this.2.2⟩
theorem not_good {L : List Ar} {k : Nat} {a : Ar} (hk : L[k]? = some a) (h : ¬(Ytlkcpjefgelcoaa.isA a = true ∧ layB (L.take k) a = true)) : ¬ Good L := fun hg => h (hg.at hk)
/-- What has a page of an area meets it. -/
theorem meet_page {L : List Ar} {a : Ar} {g : Int} (h1 : a.2.1 ≤ g) (h2 : g < a.2.1 + a.2.2) (h : hasL L a.1 g = true) : L.any (meetF a) = true := by
  rw [hasL, List.any_eq_true] at h
  obtain ⟨b, hb, hw⟩ := h
  obtain ⟨e1, e2, e3⟩ := withF_iff.1 hw
  exact List.any_eq_true.2 ⟨b, hb, meetF_iff.2 ⟨e1, by omega, by omega⟩⟩
theorem page_meet {L : List Ar} {a : Ar} (hL : ∀ b ∈ L, Ytlkcpjefgelcoaa.isA b = true) (ha : 1 ≤ a.2.2) (h : ∀ g, a.2.1 ≤ g → g < a.2.1 + a.2.2 → hasL L a.1 g = false) : L.any (meetF a) = false := by
  rw [List.any_eq_false]
  intro b hb hm
  obtain ⟨e1, e2, e3⟩ := meetF_iff.1 hm
  have hi := isA_of (hL b hb)
  have key : ∀ g, a.2.1 ≤ g → g < a.2.1 + a.2.2 → ¬(b.2.1 ≤ g ∧ g < b.2.1 + b.2.2) := fun g g1 g2 hg => by
    have := h g g1 g2
    rw [hasL, List.any_eq_false] at this
    exact this b hb (withF_iff.2 ⟨e1, hg⟩)
  by_cases hc : a.2.1 ≤ b.2.1
  · exact key b.2.1 hc e2 ⟨by omega, by omega⟩
  · exact key a.2.1 (by omega) (by omega) ⟨by omega, e3⟩
def fitB (L : List Ar) (a : Ar) : Bool := isA a && !(L.any (meetF a))
/-- Where Map maps. -/
def MapAt (L : List Ar) (p n : Int) (k : Nat) : Prop := (k : Int) + n ≤ 16 ∧ layB L (p, (k : Int), n) = true ∧ ∀ j : Nat, j < k → layB L (p, (j : Int), n) = false
def MapNo (L : List Ar) (p n : Int) : Prop := ∀ j : Nat, (j : Int) + n ≤ 16 → layB L (p, (j : Int), n) = false
theorem map_up (L : List Ar) (p n : Int) (m : Nat) : (∃ k, MapAt L p n k) ∨ ∀ j : Nat, j < m → (j : Int) + n ≤ 16 → layB L (p, (j : Int), n) = false := by
  induction m with
  | zero => exact .inr fun j hj => by omega
  | succ m ih =>
    rcases ih with h | h
    · exact .inl h
    · by_cases hm : (m : Int) + n ≤ 16
      · cases hb : layB L (p, (m : Int), n)
        · refine .inr fun j hj hn => ?_
          by_cases e : j = m
          · subst e; exact hb
          · exact h j (by omega) hn
        · exact .inl ⟨m, hm, hb, fun j hj => h j hj (by omega)⟩
      · refine .inr fun j hj hn => h j ?_ hn
        have : j ≠ m := fun e => by subst e; exact hm hn
        omega
theorem map_dec (L : List Ar) (p n : Int) (hn : 1 ≤ n) : (∃ k, MapAt L p n k) ∨ MapNo L p n := by
  rcases map_up L p n 17 with h | h
  · exact .inl h
  · exact .inr fun j hj => h j (by omega) hj
theorem Good.map {L : List Ar} (h : Good L) {p n : Int} {k : Nat} (hp : 1 ≤ p) (hp2 : p ≤ 6) (hn : 1 ≤ n) (hk : MapAt L p n k) : Good (L ++ [(p, (k : Int), n)]) :=
  .snoc h (isA_mk ⟨hp, hp2, by simp, hn, hk.1⟩) hk.2.1
/-- What a child gets. -/
def mv (c : Int) (a : Ar) : Ar := (c, a.2)
def forkL (L : List Ar) (p c : Int) : List Ar := L ++ (L.filter (ofF p)).map (mv c)
theorem cnt_all {L : List Ar} {p : Int} (h : ∀ a ∈ L, a.1 = p) : cntL L p = L.length := by
  rw [cntL, List.filter_eq_self.2 fun a ha => ofF_iff.2 (h a ha)]
theorem cnt_zero {L : List Ar} {p : Int} (h : cntL L p = 0) : ∀ a ∈ L, a.1 ≠ p := fun a ha e => by
  have := List.eq_nil_of_length_eq_zero h
  have h2 : a ∈ L.filter (ofF p) := List.mem_filter.2 ⟨ha, ofF_iff.2 e⟩
  rw [this] at h2
  cases h2
theorem fork_lay {L : List Ar} (hg : Good L) {p c : Int} (hc : cntL L c = 0) {k : Nat} {a : Ar} (ha : (L.filter (ofF p))[k]? = some a) : layB (L ++ ((L.filter (ofF p)).take k).map (mv c)) (mv c a) = true := by
  have hX := hg.filter (ofF p)
  obtain ⟨_, hl⟩ := hX.at ha
  obtain ⟨hl1, hl2⟩ := layB_iff.1 hl
  have hmem : ∀ x ∈ (L.filter (ofF p)).take k, x.1 = p := fun x hx => ofF_iff.1 (List.mem_filter.1 (List.mem_of_mem_take hx)).2
  have hap : a.1 = p := ofF_iff.1 (List.mem_filter.1 (List.mem_of_getElem? ha)).2
  rw [hap, cnt_all hmem] at hl1
  refine layB_iff.2 ⟨?_, fun b hb => ?_⟩
  · show cntL _ c < 4
    rw [cntL_app, hc, cnt_all (fun x hx => by obtain ⟨y, _, rfl⟩ := List.mem_map.1 hx; rfl), List.length_map]
    omega
  · rcases List.mem_append.1 hb with hb | hb
    · have := cnt_zero hc b hb
      have e : (b.1 == c) = false := beq_false_of_ne this
      simp [meetF, mv, e]
    · obtain ⟨y, hy, rfl⟩ := List.mem_map.1 hb
      cases hm : meetF (mv c a) (mv c y)
      · rfl
      · exfalso
        obtain ⟨_, e2, e3⟩ := meetF_iff.1 hm
        have := meetF_iff.2 (show y.1 = a.1 ∧ y.2.1 < a.2.1 + a.2.2 ∧ a.2.1 < y.2.1 + y.2.2 from ⟨by rw [hap, hmem y hy], e2, e3⟩)
        rw [hl2 y hy] at this
        cases this
theorem fork_step (L : List Ar) (p c : Int) {k : Nat} {a : Ar} (ha : (L.filter (ofF p))[k]? = some a) : L ++ ((L.filter (ofF p)).take (k + 1)).map (mv c) = (L ++ ((L.filter (ofF p)).take k).map (mv c)) ++ [mv c a] := by
  rw [take_last ha, List.map_append, List.append_assoc]
  rfl
theorem fork_good {L : List Ar} (hg : Good L) {p c : Int} (h1 : 1 ≤ c) (h6 : c ≤ 6) (hc : cntL L c = 0) : ∀ k, Good (L ++ ((L.filter (ofF p)).take k).map (mv c))
  | 0 => by simpa using hg
  | k + 1 => by
    rcases h : (L.filter (ofF p))[k]? with _ | a
    · have hl : (L.filter (ofF p)).length ≤ k := List.getElem?_eq_none_iff.1 h
      rw [List.take_of_length_le (by omega)]
      have := fork_good hg h1 h6 (p := p) hc k
      rw [List.take_of_length_le hl] at this
      exact this
    · rw [fork_step L p c h]
      have hi := isA_of ((hg.filter (ofF p)).at h).1
      exact .snoc (fork_good hg h1 h6 hc k) (isA_mk ⟨h1, h6, hi.2.2.1, hi.2.2.2.1, hi.2.2.2.2⟩) (fork_lay hg hc h)
theorem Good.fork {L : List Ar} (hg : Good L) {p c : Int} (h1 : 1 ≤ c) (h6 : c ≤ 6) (hc : cntL L c = 0) : Good (forkL L p c) := by
  have := fork_good hg h1 h6 (p := p) hc (L.filter (ofF p)).length
  rw [List.take_of_length_le (Nat.le_refl _)] at this
  exact this
/-- One area at most begins at a page. -/
theorem Good.one {L : List Ar} (h : Good L) (p g : Int) : L.filter (fromF p g) = [] ∨ ∃ a, L.filter (fromF p g) = [a] ∧ Ytlkcpjefgelcoaa.isA a = true := by
  induction h with
  | nil => exact .inl rfl
  | @snoc L a h1 h2 h3 ih =>
    rw [List.filter_append]
    cases hf : fromF p g a
    · simpa [hf] using ih
    · have e : [a].filter (fromF p g) = [a] := by simp [hf]
      rcases ih with ih | ⟨b, hb, hi⟩
      · exact .inr ⟨a, by rw [ih, e]; rfl, h2⟩
      · exfalso
        have hm : b ∈ L.filter (fromF p g) := by rw [hb]; simp
        obtain ⟨hbL, hbf⟩ := List.mem_filter.1 hm
        have hn := (layB_iff.1 h3).2 b hbL
        have f1 : a.1 = p ∧ a.2.1 = g := by simpa [fromF] using hf
        have f2 : b.1 = p ∧ b.2.1 = g := by simpa [fromF] using hbf
        have ia := isA_of h2
        have ib := isA_of hi
        have := (meetF_iff (x := a) (a := b)).2 ⟨by omega, by omega, by omega⟩
        rw [hn] at this
        cases this
end Go.Proofs.Ytlkcpjefgelcoaa
